/-
  Ing Irp.
-/
import Derived.Test.YtheeogbmljjbdaaGreatDoorM12
import Derived.Test.YtheeogbmljjbdaaGreatDoorM27
namespace Go.Proofs.YtheeogbmljjbdaaGreatDoor
set_option linter.unusedVariables false
open Go.ChangeShapes Go.WideShapes Go.ChangeAt Go.RowKit Go.Deep
theorem below2 (w : World) (a b : Obj) : Below w.heap.size w ((w.alloc a).alloc b) := ((Below.refl _ _).alloc (Nat.le_refl _) _).alloc (by simp) _
set_option maxHeartbeats 1000000 in
theorem behind_c (s t : ByteArray) (x y : BitVec 64) (w : World) :
    Calls Tryz.prog 65 #[.agg #[.string s, .int .u64 (n64 x)], .agg #[.string t, .int .u64 (n64 y)]] w fun e w' => e = .returned (.bool (ahead s x t y)) ∧ Below w.heap.size w w' := by
  obtain ⟨R, hR⟩ : ∃ R, R = ahead s x t y := ⟨_, rfl⟩
  rw [← hR]
  have HR : Hid (R = ahead s x t y) := hR
  clear hR
  by_cases h1 : x.toNat < y.toNat
  · have g1 : n64 x < n64 y := by unfold n64; omega
    have HP : Hid (R = true) := by unfold Hid; rw [HR.out]; unfold ahead; simp [h1]
    clear h1
    go_enter Tryz.func65, Tryz.ntmps65
    go_wp2
    go_ret
    exact ⟨by rw [HP.out]; rfl, below2 _ _ _⟩
  · have g1 : n64 y ≤ n64 x := by unfold n64; omega
    have g1d : decide (n64 x < n64 y) = false := decide_eq_false (by omega)
    by_cases h2 : x.toNat = y.toNat
    · have e2 : (n64 y == n64 x) = true := by unfold n64; rw [h2]; simp
      have tri := less_tri s.toList t.toList
      have HPr : Hid (R = Op.bytesLess s.toList t.toList) := by unfold Hid; rw [HR.out]; unfold ahead; simp [h2]; rfl
      clear h1 h2
      cases k1 : Op.bytesLess t.toList s.toList with
      | true =>
        rw [k1] at tri
        have HP : Hid (R = false) := by unfold Hid; rw [HPr.out, tri]; rfl
        clear tri
        go_enter Tryz.func65, Tryz.ntmps65
        go_wp2
        go_ret
        exact ⟨by rw [HP.out]; rfl, below2 _ _ _⟩
      | false =>
        cases k2 : (t.toList == s.toList) with
        | true =>
          rw [k1, k2] at tri
          have HP : Hid (R = false) := by unfold Hid; rw [HPr.out, tri]; rfl
          clear tri
          go_enter Tryz.func65, Tryz.ntmps65
          go_wp2
          go_ret
          exact ⟨by rw [HP.out]; rfl, below2 _ _ _⟩
        | false =>
          rw [k1, k2] at tri
          have HP : Hid (R = true) := by unfold Hid; rw [HPr.out, tri]; rfl
          clear tri
          go_enter Tryz.func65, Tryz.ntmps65
          go_wp2
          go_ret
          exact ⟨by rw [HP.out]; rfl, below2 _ _ _⟩
    · have e2 : (n64 y == n64 x) = false := by unfold n64; simp; omega
      have HP : Hid (R = false) := by unfold Hid; rw [HR.out]; unfold ahead; simp [h1, h2]
      clear h1 h2
      go_enter Tryz.func65, Tryz.ntmps65
      go_wp2
      go_ret
      exact ⟨by rw [HP.out]; rfl, below2 _ _ _⟩
end Go.Proofs.YtheeogbmljjbdaaGreatDoor
namespace Go.Proofs.YtheeogbmljjbdaaGreatDoor
set_option linter.unusedVariables false
open Go.ChangeShapes Go.WideShapes Go.ChangeAt Go.RowKit Go.Deep
/-- A part meets one of a list. -/
def anyM (L : List Sg) (x y : BitVec 64) : Nat → Bool
  | 0 => false
  | k + 1 => anyM L x y k || meetB x y (sg L k).a (sg L k).s
theorem anyM_true {L : List Sg} {x y : BitVec 64} {k m : Nat} (hk : k < m) (h : meetB x y (sg L k).a (sg L k).s = true) : anyM L x y m = true := by
  induction m with
  | zero => omega
  | succ m ih =>
    by_cases e : k = m
    · subst e; rw [anyM, h, Bool.or_true]
    · rw [anyM, ih (by omega), Bool.true_or]
theorem below_drewM {B : Nat} {w w' : World} (h : Below B w w') (n : Nat) : Below B w (w'.drewN n) := ⟨h.os, h.tape, h.output, h.size, h.block⟩
set_option maxRecDepth 100000 in
set_option maxHeartbeats 4000000 in
theorem rmeets_c (va : Value) (L : List Sg) (hL : L.length ≤ 16) (x y : BitVec 64) (f : Int) (m : Option Addr) (n c : Nat) (w : World) (ha : Sgs w va L) :
    Calls Tryz.prog 60 #[va, .agg #[.int .u64 (n64 x), .int .u64 (n64 y), .int .i64 f, .slice m n c]] w fun e w' => e = .returned (.bool (anyM L x y L.length)) ∧ Below w.heap.size w w' := by
  have HA : Hid (Sgs w va L) := ha
  obtain ⟨aa, ac, rfl, _, _⟩ := ha
  have HBL : Hid (Below w.heap.size w (w.alloc (.cells #[.int .u64 (n64 x), .int .u64 (n64 y), .int .i64 f, .slice m n c] 61))) := (Below.refl _ _).alloc (Nat.le_refl _) _
  have HC : Hid (∀ w', Below (w.alloc (.cells #[.int .u64 (n64 x), .int .u64 (n64 y), .int .i64 f, .slice m n c] 61)).heap.size (w.alloc (.cells #[.int .u64 (n64 x), .int .u64 (n64 y), .int .i64 f, .slice m n c] 61)) w' → w'.cell? ⟨w.heap.size, 0, none⟩ = some (.int .u64 (n64 x))) := fun w' hb => by rw [hb.cell (by simp)]; simp
  have hLI : (L.length : Int) ≤ 16 := by omega
  obtain ⟨bs, hbs⟩ : ∃ bs, bs = decide ((x + (y - 1#64)).toNat < x.toNat) := ⟨_, rfl⟩
  have cS : Hid (∀ wx : World, Calls Tryz.prog 59 #[.int .u64 (n64 x), .int .u64 (n64 y)] wx fun e w' => e = .returned (.tuple #[.int .u64 (n64 (x + (y - 1#64))), .bool (!bs)]) ∧ wx = w') := fun wx => rlast_c x y wx bs hbs
  clear hbs
  go_enter Tryz.func60, Tryz.ntmps60
  go_upto_region 3 with (go_at_call 59; refine (cS.out _).mono ?_; rintro e w' ⟨rfl, rfl⟩)
  generalize w.alloc (.cells #[.int .u64 (n64 x), .int .u64 (n64 y), .int .i64 f, .slice m n c] 61) = w1 at *
  obtain ⟨z, hz⟩ : ∃ z, z = n64 (x + (y - 1#64)) := ⟨_, rfl⟩
  have HZ : Hid (z = n64 (x + (y - 1#64))) := hz
  rw [← hz]
  clear hz
  obtain ⟨X, hX⟩ : ∃ X, X = n64 x := ⟨_, rfl⟩
  have HXX : Hid (X = n64 x) := hX
  rw [← hX] at HC ⊢
  clear hX
  go_wp2
  go_loopw [7, 8, 9] (fun i _ _ wr => ∃ k : Nat, k ≤ L.length ∧ i = .int .i64 k ∧ Hid (anyM L x y k = false) ∧ Hid (Below w1.heap.size w1 wr)) (fun i _ _ _ => L.length - (intOf i).toNat)
  case atStart => exact ⟨0, Nat.zero_le _, rfl, rfl, Below.refl _ _⟩
  case round =>
    obtain ⟨k, hk, rfl, HF, hw⟩ := hrel
    have HBW : Hid (Below w.heap.size w wr) := HBL.out.trans (hw.out.mono HBL.out.size)
    have c0 := HC.out wr hw.out
    by_cases hlt : k < L.length
    · have hltI : (k : Int) < (L.length : Int) := by omega
      obtain ⟨_, _, he, _, hcc⟩ := HA.out.later HBW.out rfl
      cases he
      obtain ⟨g, off, rfl, hg, hcells⟩ := hcc (by intro e; rw [e] at hlt; exact absurd hlt (Nat.not_lt_zero _))
      obtain ⟨d0, d1, _, _⟩ := hcells k hlt
      clear hcells hcc hg
      have HM : Hid (meetB x y (sg L k).a (sg L k).s = (decide (X ≤ n64 ((sg L k).a + ((sg L k).s - 1#64))) && decide (n64 (sg L k).a ≤ z))) := by unfold Hid meetB; rw [HXX.out, HZ.out]
      have cL := fun (wx : World) => rlast_c (sg L k).a (sg L k).s wx _ rfl
      have HT : Hid (meetB x y (sg L k).a (sg L k).s = true → anyM L x y L.length = true) := fun h => anyM_true hlt h
      have HN : Hid (meetB x y (sg L k).a (sg L k).s = false → anyM L x y (k + 1) = false) := fun h => by rw [anyM, HF.out, h]; rfl
      generalize decide (((sg L k).a + ((sg L k).s - 1#64)).toNat < (sg L k).a.toNat) = bo at cL
      generalize n64 ((sg L k).a + ((sg L k).s - 1#64)) = V at *
      generalize n64 (sg L k).a = A at *
      generalize n64 (sg L k).s = S at *
      generalize meetB x y (sg L k).a (sg L k).s = mb at *
      have HCL : Hid (∀ wx : World, Calls Tryz.prog 59 #[.int .u64 A, .int .u64 S] wx fun e w' => e = .returned (.tuple #[.int .u64 V, .bool (!bo)]) ∧ w' = wx) := fun wx => (cL wx).mono fun _ _ h => ⟨h.1, h.2.symm⟩
      clear cL
      go_upto_region 5 with fail
      go_quiet ((first | (go_at_call 59; exact Calls.quiet_of_same (HCL.out _)) | fail))
      by_cases h1 : X ≤ V
      · by_cases h2 : A ≤ z
        · have HE : Hid (anyM L x y L.length = true) := HT.out (by rw [HM.out, decide_eq_true h1, decide_eq_true h2]; rfl)
          go_wp2
          --@CUT1
          go_ret
          exact ⟨by rw [HE.out]; first | rfl | simp, below_drewM HBW.out _⟩
        · have HE : Hid (anyM L x y (k + 1) = false) := HN.out (by rw [HM.out, decide_eq_false h2, Bool.and_false])
          have h2d : decide (A ≤ z) = false := decide_eq_false h2
          go_wp2
          go_roundw
          case rel => exact ⟨k + 1, by omega, by go_num, HE, below_drewM hw.out _⟩
          case measure => simp only [intOf]; omega
      · have HE : Hid (anyM L x y (k + 1) = false) := HN.out (by rw [HM.out, decide_eq_false h1]; rfl)
        have h1d : decide (X ≤ V) = false := decide_eq_false h1
        go_wp2
        go_roundw
        case rel => exact ⟨k + 1, by omega, by go_num, HE, below_drewM hw.out _⟩
        case measure => simp only [intOf]; omega
    · obtain rfl : k = L.length := by omega
      have hltI : ¬ ((L.length : Int) < L.length) := by omega
      go_wp2
      go_ret
      exact ⟨by rw [HF.out]; first | rfl | simp, HBW.out⟩
end Go.Proofs.YtheeogbmljjbdaaGreatDoor
