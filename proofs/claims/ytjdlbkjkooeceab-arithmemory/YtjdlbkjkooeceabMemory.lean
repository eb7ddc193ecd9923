/- ArithMemory -/
import Derived.Test.YtjdlbkjkooeceabMg
import Derived.Deep.RegionWith
import Derived.SizedLaws
import Derived.ShutString
import Derived.ChangeOld
namespace Go.Proofs.Ytjdlbkjkooeceab.arithMemory
set_option linter.unusedVariables false
open Go.ChangeShapes Go.WideShapes Go.ChangeAt Go.RowKit
theorem unary_com (x : BitVec 64) : Op.unary .xor (.int .u64 (n64 x)) = pure (.int .u64 (n64 (~~~x))) := by
  have h : bits .xor .u64 (n64 (~~~0#64)) (n64 x) = n64 (~~~x) := by
    rw [n64_xor]; congr 1
  show pure (Value.int IntKind.u64 (bits .xor .u64 (n64 (~~~0#64)) (n64 x))) = _
  rw [h]
theorem com8 (z : Int) : ∃ y, (0 ≤ y ∧ y ≤ 255) ∧ Op.unary .xor (.int .u8 z) = pure (.int .u8 y) := by
  refine ⟨bits .xor .u8 255 z, ?_, rfl⟩
  unfold bits
  simp only [IntKind.wrap, IntKind.signed, IntKind.bits]
  simp
  omega
theorem set_all {l : List Int} (h : AllB l) (k : Nat) (y : Int) (hy : 0 ≤ y ∧ y ≤ 255) : AllB (l.set k y) := by
  intro x hx
  rcases List.mem_or_eq_of_mem_set hx with h' | rfl
  · exact h x h'
  · exact hy

theorem lent_at {l : List Int} (hl : l.length + 64 ≤ 140737488355328) (v : Value) (w : World) (hv : Byt w v l) :
    Calls Try.prog 4 #[v] w fun e w' => ∃ g cap, e = .returned (.slice (some ⟨g, 0, none⟩) (l.length + 64) cap) ∧ l.length + 64 ≤ cap ∧ Hid (w'.ownsRow w.heap.size 5 1 (.slice (some ⟨g, 0, none⟩) (l.length + 64) cap) (l.length + 64) (bv (l ++ mks 64))) ∧ Hid (Below w.heap.size w w') := by
  refine (lent_any hl v w hv).mono ?_
  rintro e w1 ⟨u, rfl, hown, hbel⟩
  obtain ⟨g, cap, rfl⟩ := Go.Joins.ownsRow_form hown (by omega)
  refine ⟨g, cap, rfl, ?_, hown, hbel⟩
  rcases hown.2 with ⟨h', _⟩ | ⟨g', cap', cur, h', _, _, hn, _⟩
  · simp at h'
  · simp only [Value.slice.injEq] at h'; obtain ⟨_, _, rfl⟩ := h'; exact hn

theorem Byt.of_own {w : World} {B n : Nat} {v : Value} {l : List Int} (h : w.ownsRow B 5 1 v n (bv l)) : Byt w v l := by
  have hlen := h.1
  rw [bv_length, Nat.mul_one] at hlen
  rcases Go.Joins.ownsRow_forms h with ⟨rfl, h0⟩ | ⟨g, cap, rfl⟩
  · have hl0 : l = [] := List.eq_nil_of_length_eq_zero (by omega)
    subst hl0
    exact ⟨none, 0, rfl, Nat.le_refl _, fun _ => rfl, fun hn => absurd rfl hn⟩
  · have h' := h
    rw [← List.append_nil l] at h'
    have := Byt.first h'
    rw [hlen] at this
    exact this
structure PutAt (x : BitVec 64) (n g : Nat) (w w' : World) : Prop where
  g_eq : g = w.heap.size
  own : w'.ownsRow g 5 1 (.slice (some ⟨g, 0, none⟩) n n) n (bv (ptL x.toNat n))
  below : Below w.heap.size w w'
theorem PutAt.lt {x : BitVec 64} {n g : Nat} {w w' : World} (h : PutAt x n g w w') : g < w'.heap.size := (h.own.lt g rfl).2
theorem put_at (x : BitVec 64) (z : Int) (n : Nat) (hn : Hid (n = cl z)) (w : World) :
    Calls Try.prog 8 #[.int .u64 (n64 x), .int .i64 z] w fun e w' => ∃ g, e = .returned (.slice (some ⟨g, 0, none⟩) n n) ∧ Hid (PutAt x n g w w') := by
  have := hn.out
  subst this
  refine (put_any x z w).mono ?_
  rintro e w' ⟨rfl, h1, h2⟩
  exact ⟨_, rfl, rfl, h1, h2⟩
structure RputAt (x : BitVec 64) (n : Nat) (v : Value) (w w' : World) : Prop where
  own : w'.ownsRow w.heap.size 5 1 v n (bv (ptL x.toNat n))
  below : Below w.heap.size w w'
theorem rput_at (x : BitVec 64) (z : Int) (n : Nat) (hn : Hid (n = cl z)) (w : World) :
    Calls Try.prog 9 #[.int .u64 (n64 x), .int .i64 z] w fun e w' => ∃ v, e = .returned v ∧ Hid (RputAt x n v w w') := by
  have := hn.out
  subst this
  refine (rput_any x z w).mono ?_
  rintro e w' ⟨v, rfl, h1, h2⟩
  exact ⟨_, rfl, h1, h2⟩
def four (a b c d : Nat) (i : Nat) : Nat := if i = 0 then a else if i = 1 then b else if i = 2 then c else d
theorem four_cases {a b c d k : Nat} (h : Four (four a b c d) k) : k = a ∨ k = b ∨ k = c ∨ k = d := by
  obtain ⟨i, hi, rfl⟩ := h
  unfold four
  split
  · simp
  · split
    · simp
    · split <;> simp
theorem alone_at {a b c d n : Nat} {w : World} (hn : n ≤ 8) (h1 : a < b) (h2 : b < c) (h3 : c < d) (h4 : d < w.heap.size) (ra : Row w a n 0 0) (rb : Row w b n 0 0) (rc : Row w c n 0 0) (rd : Row w d n 0 0) :
    Calls Try.prog 11 #[.slice (some ⟨w.heap.size, 0, none⟩) 4 4]
      (w.alloc (.cells #[.slice (some ⟨a, 0, none⟩) n n, .slice (some ⟨b, 0, none⟩) n n, .slice (some ⟨c, 0, none⟩) n n, .slice (some ⟨d, 0, none⟩) n n] 22))
      fun e w' => e = .returned (.bool true) ∧ Hid (Exc (Four (four a b c d)) (w.alloc (.cells #[.slice (some ⟨a, 0, none⟩) n n, .slice (some ⟨b, 0, none⟩) n n, .slice (some ⟨c, 0, none⟩) n n, .slice (some ⟨d, 0, none⟩) n n] 22)) w') := by
  have hb := (Below.refl w.heap.size w).alloc (Nat.le_refl _) (.cells #[.slice (some ⟨a, 0, none⟩) n n, .slice (some ⟨b, 0, none⟩) n n, .slice (some ⟨c, 0, none⟩) n n, .slice (some ⟨d, 0, none⟩) n n] 22)
  refine alone_true (four a b c d) w.heap.size n hn _ ?_ (by simp) ?_ ?_ ?_
  · intro i j hi hj e
    match i, hi, j, hj with
    | 0, _, 0, _ => rfl
    | 1, _, 1, _ => rfl
    | 2, _, 2, _ => rfl
    | 3, _, 3, _ => rfl
    | 0, _, 1, _ => simp [four] at e; omega
    | 0, _, 2, _ => simp [four] at e; omega
    | 0, _, 3, _ => simp [four] at e; omega
    | 1, _, 0, _ => simp [four] at e; omega
    | 1, _, 2, _ => simp [four] at e; omega
    | 1, _, 3, _ => simp [four] at e; omega
    | 2, _, 0, _ => simp [four] at e; omega
    | 2, _, 1, _ => simp [four] at e; omega
    | 2, _, 3, _ => simp [four] at e; omega
    | 3, _, 0, _ => simp [four] at e; omega
    | 3, _, 1, _ => simp [four] at e; omega
    | 3, _, 2, _ => simp [four] at e; omega
  · intro i hi
    match i, hi with
    | 0, _ => simp [four]; omega
    | 1, _ => simp [four]; omega
    | 2, _ => simp [four]; omega
    | 3, _ => simp [four]; omega
  · intro i hi
    rw [World.cell?_alloc_at _ _ _ _ rfl]
    match i, hi with
    | 0, _ => rfl
    | 1, _ => rfl
    | 2, _ => rfl
    | 3, _ => rfl
  · intro i hi
    match i, hi with
    | 0, _ => exact ra.keep (Exc.of_below (S := fun _ => False) hb rfl) id
    | 1, _ => exact rb.keep (Exc.of_below (S := fun _ => False) hb rfl) id
    | 2, _ => exact rc.keep (Exc.of_below (S := fun _ => False) hb rfl) id
    | 3, _ => exact rd.keep (Exc.of_below (S := fun _ => False) hb rfl) id
theorem own_exc {S : Nat → Prop} {w w' : World} {B e size n : Nat} {v : Value} {xs : List Value} (h : w.ownsRow B e size v n xs) (he : Exc S w w') (hS : ∀ k, S k → k < B) : w'.ownsRow B e size v n xs := by
  have hl := h.lt
  refine ⟨h.1, ?_⟩
  rcases h.2 with h' | ⟨g, cap, cur, rfl, h1, h2, h3⟩
  · exact .inl h'
  · exact .inr ⟨g, cap, cur, rfl, h1, by rw [he.block g (hl g rfl).2 (fun e => by have := hS g e; omega)]; exact h2, h3⟩

theorem same_at {w : World} {va vb : Value} {l : List Int} (ha : Byt w va l) (hb : Byt w vb l) : Calls Try.prog 10 #[va, vb] w fun e w' => e = .returned (.bool true) ∧ w = w' :=
  (same_true ha hb).mono fun _ _ ⟨h1, h2⟩ => ⟨h1, h2.symm⟩
theorem take_at {l : List Int} (h : AllB l) (hl : l.length ≤ 140737488355328) {v : Value} {w : World} (hv : Byt w v l) : Calls Try.prog 5 #[v] w fun e w' => e = .returned (.int .u64 ((tk l : Nat) : Int)) ∧ w = w' :=
  (take_any h hl v w hv).mono fun _ _ ⟨h1, h2⟩ => ⟨h1, h2.symm⟩

theorem take_w {l : List Int} (h : AllB l) (hl : l.length ≤ 140737488355328) {v : Value} {w : World} (hv : Byt w v l) (y : BitVec 64) (hy : Hid (y.toNat = tk l)) : Calls Try.prog 5 #[v] w fun e w' => e = .returned (.int .u64 (n64 y)) ∧ w = w' := by
  have e : ((tk l : Nat) : Int) = n64 y := by unfold n64; rw [hy.out]
  rw [← e]; exact take_at h hl hv

set_option maxHeartbeats 4000000 in
theorem walk (l : List Int) (hl : l.length + 64 ≤ 140737488355328) (hb : AllB l) (x : BitVec 64) (z : Int) (vb : Value) (W : World) (hv : Byt W vb l) :
    Calls Try.prog 3 #[vb, .int .u64 (n64 x), .int .i64 z] W fun e w' => e = .returned (.bool true) ∧ Below W.heap.size W w' := by
  have HV : Hid (Byt W vb l) := hv
  have HA : Hid (AllB l) := hb
  obtain ⟨ab, capb, rfl, hb1, _, _⟩ := hv
  clear hb
  obtain ⟨B, hB⟩ : ∃ B, B = W.heap.size := ⟨_, rfl⟩
  have HB0 : Hid (B = W.heap.size) := hB
  clear hB
  go_enter Try.func3, Try.ntmps3
  go_wp2_with (go_at_call 4; refine (lent_at hl _ _ HV.out).mono ?_; rintro e w1 ⟨g, cap, rfl, hcap, hown, hbel⟩)
  have HO : Hid (w1.ownsRow B 5 1 (.slice (some ⟨g, 0, none⟩) (l.length + 64) cap) (l.length + 64) (bv (l ++ mks 64))) := by rw [HB0.out]; exact hown
  have HBl : Hid (Below B W w1) := by rw [HB0.out]; exact hbel
  have HF : Hid (Byt w1 (.slice (some ⟨g, 0, none⟩) l.length cap) l) := Byt.first HO.out
  have HV1 : Hid (Byt w1 (.slice ab l.length capb) l) := HV.out.later HBl.out HB0.out
  clear hown hbel
  have hl0 : l.length ≤ 140737488355328 := by omega
  go_wp2_with (first | (go_at_call 5; refine (take_any HA.out hl0 _ _ HF.out).mono ?_; rintro e w' ⟨rfl, rfl⟩) | (go_at_call 6; refine (rtake_any HA.out hl0 _ _ HV1.out).mono ?_; rintro e w' ⟨rfl, rfl⟩) | (go_at_call 7; refine (kept_true hl HO.out HV1.out).mono ?_; rintro e w' ⟨rfl, rfl⟩))
  generalize w' = w1 at *
  go_loopw [9] (fun i wr => ∃ k : Nat, k ≤ l.length ∧ i = .int .i64 k ∧ ∃ m : List Int, Hid (m.length = l.length) ∧ Hid (AllB m) ∧ Hid (wr.ownsRow B 5 1 (.slice (some ⟨g, 0, none⟩) (l.length + 64) cap) (l.length + 64) (bv (m ++ mks 64))) ∧ Hid (Below B W wr)) (fun i _ => l.length - (intOf i).toNat)
  case atStart => exact ⟨0, Nat.zero_le _, rfl, l, rfl, HA, HO, HBl⟩
  case round =>
    obtain ⟨k, hk, rfl, m, hm, hma, hown, hbel⟩ := hrel
    clear HO HBl HF HV1
    by_cases hlt : k < l.length
    · have hlt2 : (k : Int) < (l.length : Int) := by omega
      have hlt3 : (k : Int) < (l.length : Int) + 64 := by omega
      have hkm : k < (m ++ mks 64).length := by rw [List.length_append, hm.out]; omega
      have hce : wr.cell? ⟨g, k, none⟩ = some (.int .u8 ((m ++ mks 64).getD k 0)) := by
        rw [hown.out.cellAt k (by omega), bv_get _ _ hkm]
      obtain ⟨y, hy, hu⟩ := com8 ((m ++ mks 64).getD k 0)
      obtain ⟨q, hq⟩ : ∃ q, q = (m ++ mks 64).getD k 0 := ⟨_, rfl⟩
      rw [← hq] at hce hu
      clear hq
      have hfr := hown.out.frozenAt k
      have hst : Hid ((wr.setCell ⟨g, k, none⟩ (.int .u8 y)).ownsRow B 5 1 (.slice (some ⟨g, 0, none⟩) (l.length + 64) cap) (l.length + 64) (bv (m.set k y ++ mks 64))) := by
        have h1 := (hown.out.stored k (.int .u8 y)).1
        rw [bv_set, List.set_append_left _ _ (by rw [hm.out]; exact hlt)] at h1
        exact h1
      have hbs : Hid (Below B W (wr.setCell ⟨g, k, none⟩ (.int .u8 y))) := Below.setCell hbel.out (hown.out.lt g rfl).1 _
      have hms : Hid ((m.set k y).length = l.length) := by unfold Hid; rw [List.length_set]; exact hm.out
      have hmb : Hid (AllB (m.set k y)) := set_all hma.out k y hy
      clear hkm hy
      go_wp2
      go_roundw
      case rel => exact ⟨k + 1, by omega, by go_num, _, hms, hmb, hst, hbs⟩
      case measure => simp [intOf]; omega
    · have hkl : (l.length : Int) ≤ (k : Int) := by omega
      have HF : Hid (Byt wr (.slice (some ⟨g, 0, none⟩) m.length cap) m) := Byt.first hown.out
      rw [hm.out] at HF
      have HV1 : Hid (Byt wr (.slice ab l.length capb) l) := HV.out.later hbel.out HB0.out
      have hlm : m.length ≤ 140737488355328 := by rw [hm.out]; exact hl0
      have HLM : Hid (m.length ≤ 140737488355328) := hlm
      clear hlm
      generalize wr = w2 at *
      have hne := later_nonempty w2
      obtain ⟨T, hT⟩ : ∃ T : Int, T = ((tk m : Nat) : Int) := ⟨_, rfl⟩
      obtain ⟨R, hR⟩ : ∃ R : Int, R = ((tk l : Nat) : Int) := ⟨_, rfl⟩
      have HT : Hid (T = ((tk m : Nat) : Int)) := hT
      have HR : Hid (R = ((tk l : Nat) : Int)) := hR
      rw [← hR]
      clear hT hR
      have tA : Hid (∀ y : Later w2, Calls Try.prog 5 #[.slice (some ⟨g, 0, none⟩) l.length cap] y.1 fun e w' => e = .returned (.int .u64 T) ∧ ∃ y' : Later w2, w' = y'.1) := fun y => HT.out ▸ calls_later_same (take_any hma.out HLM.out _ _ (HF.out.later y.2 rfl))
      have tB : Hid (∀ y : Later w2, Calls Try.prog 6 #[.slice (some ⟨g, 0, none⟩) l.length cap] y.1 fun e w' => e = .returned (.int .u64 T) ∧ ∃ y' : Later w2, w' = y'.1) := fun y => HT.out ▸ calls_later_same (rtake_any hma.out HLM.out _ _ (HF.out.later y.2 rfl))
      have tC : Hid (∀ y : Later w2, Calls Try.prog 5 #[.slice ab l.length capb] y.1 fun e w' => e = .returned (.int .u64 R) ∧ ∃ y' : Later w2, w' = y'.1) := fun y => HR.out ▸ calls_later_same (take_any HA.out hl0 _ _ (HV1.out.later y.2 rfl))
      clear hma hm HF
      go_wp2_with fail
      refine wp_region_later (x0 := Later.start w2) (by kernel_rfl) (by kernel_rfl) ?_
      iterate 12 (go_big_quiet_step ((first | (go_at_call 5; exact tA.out _) | (go_at_call 6; exact tB.out _))))
      repeat (go_big_quiet_step ((go_at_call 5; exact tC.out _)))
      refine wpQuiet_nil ?_
      rintro _ ⟨yq, rfl⟩
      have HB3 : Hid (Below B W yq.1) := hbel.out.trans (yq.2.mono (by rw [HB0.out]; exact hbel.out.size))
      clear tA tB tC hown hbel HV1 hne
      generalize yq.1 = w3 at *
      obtain ⟨n, hn⟩ : ∃ n, n = cl z := ⟨_, rfl⟩
      have HN : Hid (n = cl z) := hn
      have HN8 : Hid (n ≤ 8) := hn ▸ cl_le z
      have huc := unary_com x
      clear hn
      go_wp2_with fail
      refine (put_at x z n HN _).mono ?_
      rintro e w4 ⟨gp, rfl, hp⟩
      go_wp2_with fail
      refine (put_at x z n HN _).mono ?_
      rintro e w5 ⟨gq, rfl, hq⟩
      go_wp2_with fail
      refine (put_at (~~~x) z n HN _).mono ?_
      rintro e w6 ⟨go, rfl, ho⟩
      go_wp2_with fail
      refine (put_at x z n HN _).mono ?_
      rintro e w7 ⟨gr, rfl, hr⟩
      go_wp2_with fail
      refine (rput_at x z n HN _).mono ?_
      rintro e w8 ⟨vw, rfl, hw⟩
      have bw : Byt w8 vw (ptL x.toNat n) := Byt.of_own hw.out.own
      have op := own_later (own_later (own_later (own_later hp.out.own hq.out.below rfl) ho.out.below rfl) hr.out.below rfl) hw.out.below rfl
      have oq := own_later (own_later (own_later hq.out.own ho.out.below rfl) hr.out.below rfl) hw.out.below rfl
      have oo := own_later (own_later ho.out.own hr.out.below rfl) hw.out.below rfl
      have or := own_later hr.out.own hw.out.below rfl
      have l1 : gp < gq := by have := hp.out.lt; have := hq.out.g_eq; omega
      have l2 : gq < go := by have := hq.out.lt; have := ho.out.g_eq; omega
      have l3 : go < gr := by have := ho.out.lt; have := hr.out.g_eq; omega
      have l4 : gr < w7.heap.size := hr.out.lt
      have l0 : B ≤ gp := by rw [hp.out.g_eq, HB0.out]; exact HB3.out.size
      have HB8 : Hid (Below B W w8) := by
        have m3 : B ≤ w3.heap.size := by rw [HB0.out]; exact HB3.out.size
        have m4 : B ≤ w4.heap.size := Nat.le_trans m3 hp.out.below.size
        have m5 : B ≤ w5.heap.size := Nat.le_trans m4 hq.out.below.size
        have m6 : B ≤ w6.heap.size := Nat.le_trans m5 ho.out.below.size
        have m7 : B ≤ w7.heap.size := Nat.le_trans m6 hr.out.below.size
        exact ((((HB3.out.trans (hp.out.below.mono m3)).trans (hq.out.below.mono m4)).trans (ho.out.below.mono m5)).trans (hr.out.below.mono m6)).trans (hw.out.below.mono m7)
      have HW8 : Hid (w8.ownsRow w7.heap.size 5 1 vw n (bv (ptL x.toNat n))) := hw.out.own
      have HBW : Hid (Byt w8 vw (ptL x.toNat n)) := bw
      have HOP : Hid (w8.ownsRow gp 5 1 (.slice (some ⟨gp, 0, none⟩) n n) n (bv (ptL x.toNat n))) := op
      have HOQ : Hid (w8.ownsRow gq 5 1 (.slice (some ⟨gq, 0, none⟩) n n) n (bv (ptL x.toNat n))) := oq
      have HOO : Hid (w8.ownsRow go 5 1 (.slice (some ⟨go, 0, none⟩) n n) n (bv (ptL (~~~x).toNat n))) := oo
      have HOR : Hid (w8.ownsRow gr 5 1 (.slice (some ⟨gr, 0, none⟩) n n) n (bv (ptL x.toNat n))) := or
      have HL : Hid (gp < gq ∧ gq < go ∧ go < gr ∧ gr < w7.heap.size ∧ B ≤ gp ∧ w7.heap.size ≤ w8.heap.size) := ⟨l1, l2, l3, l4, l0, hw.out.below.size⟩
      clear bw op oq oo or l1 l2 l3 l4 l0 hp hq ho hr hw
      go_wp2_with fail
      refine (same_at (Byt.of_own HOP.out) HBW.out).mono ?_
      rintro e w' ⟨rfl, rfl⟩
      go_wp2_with fail
      refine (same_at (Byt.of_own HOQ.out) HBW.out).mono ?_
      rintro e w' ⟨rfl, rfl⟩
      go_wp2_with fail
      refine (same_at (Byt.of_own HOR.out) HBW.out).mono ?_
      rintro e w' ⟨rfl, rfl⟩
      go_wp2_with fail
      refine (rput_at (~~~x) z n HN _).mono ?_
      rintro e w9 ⟨vo, rfl, hw9⟩
      go_wp2_with fail
      refine (same_at (Byt.of_own (own_later HOO.out hw9.out.below rfl)) (Byt.of_own hw9.out.own)).mono ?_
      rintro e w' ⟨rfl, rfl⟩
      go_wp2_with fail
      refine (alone_at HN8.out HL.out.1 HL.out.2.1 HL.out.2.2.1 (Nat.lt_of_lt_of_le (Nat.lt_of_lt_of_le HL.out.2.2.2.1 HL.out.2.2.2.2.2) hw9.out.below.size) (Row.of_own (own_later HOP.out hw9.out.below rfl)) (Row.of_own (own_later HOQ.out hw9.out.below rfl)) (Row.of_own (own_later HOO.out hw9.out.below rfl)) (Row.of_own (own_later HOR.out hw9.out.below rfl))).mono ?_
      rintro e w11 ⟨rfl, he⟩
      have HW11 : Hid (w11.ownsRow w7.heap.size 5 1 vw n (bv (ptL x.toNat n))) := by
        refine own_exc ((own_later HW8.out hw9.out.below rfl).alloc _) he.out ?_
        intro k hk
        obtain ⟨a1, a2, a3, a4, a5, a6⟩ := HL.out
        rcases four_cases hk with e | e | e | e <;> omega
      have HB11 : Hid (Below B W w11) := by
        obtain ⟨a1, a2, a3, a4, a5, a6⟩ := HL.out
        have hs8 : B ≤ w8.heap.size := by omega
        have hs9 : B ≤ w9.heap.size := Nat.le_trans hs8 hw9.out.below.size
        refine ((HB8.out.trans (hw9.out.below.mono hs8)).alloc hs9 _).trans (he.out.below (by simp; omega) ?_)
        intro k hk
        rcases four_cases hk with e | e | e | e <;> omega
      clear he hw9 HOP HOQ HOO HOR HBW HW8 HB8 HL HB3
      go_wp2_with fail
      refine (put_at x z n HN _).mono ?_
      rintro e w12 ⟨g2, rfl, h12⟩
      go_wp2_with fail
      refine (same_at (Byt.of_own h12.out.own) (Byt.of_own (own_later HW11.out h12.out.below rfl))).mono ?_
      rintro e w' ⟨rfl, rfl⟩
      have HB12 : Hid (Below B W w12) := HB11.out.trans (h12.out.below.mono (by rw [HB0.out]; exact HB11.out.size))
      have HV12 : Hid (Byt w12 (.slice ab l.length capb) l) := HV.out.later HB12.out HB0.out
      clear h12 HW11 HB11
      by_cases hl8 : l.length ≤ 8
      · have hl8' : (l.length : Int) ≤ 8 := by omega
        have HC : Hid (l.length = cl (l.length : Int)) := by unfold Hid cl; omega
        obtain ⟨y, hy⟩ : ∃ y : BitVec 64, y = BitVec.ofNat 64 (tk l) := ⟨_, rfl⟩
        have HY : Hid (y.toNat = tk l) := by unfold Hid; rw [hy, BitVec.toNat_ofNat]; exact Nat.mod_eq_of_lt (tk_lt HA.out)
        clear hy
        go_wp2_with fail
        refine (take_w HA.out hl0 HV12.out y HY).mono ?_
        rintro e w' ⟨rfl, rfl⟩
        go_wp2_with fail
        refine (put_at y (l.length : Int) l.length HC _).mono ?_
        rintro e w13 ⟨g3, rfl, h13⟩
        have HV13 : Hid (Byt w13 (.slice ab l.length capb) l) := HV12.out.later h13.out.below rfl
        have HP13 : Hid (Byt w13 (.slice (some ⟨g3, 0, none⟩) l.length l.length) l) := by
          have h := h13.out.own
          rw [HY.out, pt_tk HA.out hl8] at h
          exact Byt.of_own h
        have HB13 : Hid (Below B W w13) := HB12.out.trans (h13.out.below.mono (by rw [HB0.out]; exact HB12.out.size))
        clear h13 HB12 HV12
        go_wp2_with fail
        refine (same_at HP13.out HV13.out).mono ?_
        rintro e w' ⟨rfl, rfl⟩
        go_wp2_with fail
        refine (put_at x 8 8 (by unfold Hid cl; decide) _).mono ?_
        rintro e w14 ⟨g4, rfl, h14⟩
        go_wp2_with fail
        refine (take_w (ptL_all x.toNat 8) (by rw [ptL_length]; decide) (Byt.of_own h14.out.own) x (by unfold Hid; rw [tk_pt8 _ _ rfl x.isLt])).mono ?_
        rintro e w' ⟨rfl, rfl⟩
        go_wp2
        go_ret
        have hB := HB0.out
        subst hB
        exact ⟨rfl, HB13.out.trans (h14.out.below.mono HB13.out.size)⟩
      · have hl8' : (8 : Int) < (l.length : Int) := by omega
        go_wp2_with fail
        refine (put_at x 9 8 (by unfold Hid cl; decide) _).mono ?_
        rintro e w14 ⟨g4, rfl, h14⟩
        go_wp2_with fail
        refine (take_w (ptL_all x.toNat 8) (by rw [ptL_length]; decide) (Byt.of_own h14.out.own) x (by unfold Hid; rw [tk_pt8 _ _ rfl x.isLt])).mono ?_
        rintro e w' ⟨rfl, rfl⟩
        go_wp2
        go_ret
        have hB := HB0.out
        subst hB
        exact ⟨rfl, HB12.out.trans (h14.out.below.mono HB12.out.size)⟩

theorem own : ownKnob Try.prog.godebug = none := by kernel_rfl
theorem laidOut : laidOutB Try.prog = true := by kernel_rfl
theorem bytes8 : Try.prog.bytesOf 5 = 1 := by kernel_rfl

set_option maxRecDepth 100000 in
theorem lifted (os : Os) (started : os.Started) (H : Type) (enc : TypeId × Value → H) :
    ReturnsInHanded {} Try.checked os 3 .any (Rows.arithMemorySpec.pre6 enc Try.prog Try.f3 Rows.arithMemoryRow.domain false) (Rows.arithMemorySpec.post enc Try.prog Try.f3 false true false false) := by
  refine returnsInHanded_of_change_sized (C := Try.checked) own started (by kernel_rfl) Try.func3
    (ChangeSpec.witness6 (enc := enc) (C := Try.checked) false ⟨#[], #[.slice none 0 0, .int .u64 0, .int .i64 0], []⟩ 8 (by kernel_rfl) (by kernel_rfl) (by kernel_rfl) (by kernel_rfl)) ?_
  intro W base args ds gs before hval0 hW hcnd hz0 _
  have hval : ∀ (j : Nat) t v, Try.f3.params[j]? = some t → args[j]? = some v → Value.okWide Try.prog W .any base t v := hval0
  have hW' := hW
  obtain ⟨p, q, hA0, hV, rfl, hfz, hnd⟩ := hW
  have hA : DataW.TrodAll enc Try.prog W 0 (fun _ => true) true Try.f3.params.toList args.toList ds p := hA0
  rw [Try.params3] at hA hval
  have hz1 : (DataW.weightsEach Try.prog (Try.f3.params.toList ++ Rows.arithMemorySpec.plain.varTypes Try.prog) (ds ++ gs)).all (· ≤ reachBytes) = true := hz0
  rw [Try.params3] at hz1
  obtain ⟨v0, vs0, d0, ds0, p0, q0, hargs, rfl, rfl, h0, r0⟩ := trodAll_cons hA
  obtain ⟨v1, vs1, d1, ds1, p1, q1, rfl, rfl, rfl, h1, r1⟩ := trodAll_cons r0
  obtain ⟨v2, vs2, d2, ds2, p2, q2, rfl, rfl, rfl, h2, r2⟩ := trodAll_cons r1
  obtain ⟨rfl, rfl, rfl⟩ := trodAll_nil r2
  obtain rfl : args = #[v0, v1, v2] := by cases args; simp_all
  obtain ⟨rfl, rfl⟩ := trodVars_none hV
  obtain ⟨a0, len0, cap0, rfl⟩ := okWide_slice Try.underlying22 (hval 0 22 v0 rfl rfl)
  have k0 := h0
  have lt0 : ∀ x ∈ p0, x.block < W.heap.size := by obtain ⟨m, hm⟩ := k0; exact DataW.trod_lt m _ _ _ hm
  obtain ⟨l, hl, hb, hv, hlen⟩ : ∃ l : List Int, l.length + 64 ≤ 140737488355328 ∧ AllB l ∧ Byt W (.slice a0 len0 cap0) l ∧ l.length = len0 := by
    obtain ⟨fuel, hf⟩ := h0
    rcases open_ints Try.underlying22 Try.underlying5 (by kernel_rfl) hf with ⟨hcs, _⟩ | ⟨x, l, c, zs, hcs, _, hl, hm, hz, hd, hcell, hwz⟩
    · simp [Value.cells] at hcs
      obtain ⟨rfl, rfl, rfl⟩ := hcs
      exact ⟨[], by simp, fun x hx => by simp at hx, ⟨none, 0, rfl, Nat.le_refl _, fun _ => rfl, fun hn => absurd rfl hn⟩, rfl⟩
    · simp [Value.cells] at hcs
      obtain ⟨rfl, rfl, rfl⟩ := hcs
      simp only [if_true] at hz
      have hdd : d0 = .slice (lits .u8 (zs.take len0)) (lits .u8 (zs.drop len0)) := congrArg Prod.fst hd
      have hsz := sized_slice hz1 (j := 0) (t := 22) (e := 5) (elems := lits .u8 (zs.take len0)) (spare := lits .u8 (zs.drop len0)) rfl (by rw [hdd]; rfl) Try.underlying22
      rw [bytes8] at hsz
      simp [lits, reachBytes] at hsz
      refine ⟨zs.take len0, by simp; omega, ?_, ?_, by simp; omega⟩
      · intro z hzm
        have := hwz z (List.mem_of_mem_take hzm)
        have hb8 := bounds_u8 this
        omega
      · refine ⟨some x, cap0, by simp; omega, by simp; omega, (fun e => by cases e), fun hne => ?_⟩
        have hpos : 0 < len0 := by
          rcases Nat.eq_zero_or_pos len0 with e | e
          · subst e; simp at hne
          · exact e
        obtain ⟨b, off, spot⟩ := x
        have hc := hcell 0 (by omega)
        have hspot : spot = none := by simpa [Addr.add] using World.cell?_spot hc
        subst hspot
        refine ⟨b, off, rfl, World.block_lt_of_cell? W _ hc, fun j hj => ?_⟩
        have hj' : j < len0 := by simp at hj; omega
        have hcj := hcell j (by omega)
        rw [Addr.add_lit] at hcj
        rw [hcj]
        simp [List.getD, hj']
  obtain ⟨a1, rfl, rfl, rfl, w1⟩ := open_int Try.underlying23 (hval 1 23 v1 rfl rfl) h1
  obtain ⟨a2, rfl, rfl, rfl, w2⟩ := open_int Try.underlying3 (hval 2 3 v2 rfl rfl) h2
  obtain ⟨x, rfl⟩ := n64_of w1
  clear hA0 hval0
  refine (walk l hl hb x a2 (.slice a0 len0 cap0) W hv).mono fun e W' ⟨he, bel⟩ => ?_
  subst he
  exact ⟨_, rfl, _, _, _, [], _, [], hW', trodAll_mk1 (shut_bool Try.underlying4 _), (trodAll_cons_mk (Below.trod laidOut (by kernel_rfl) (of_decide_eq_true (by kernel_rfl)) k0 bel lt0) (trodAll_cons_mk (shut_int Try.underlying23 w1) (trodAll_cons_mk (shut_int Try.underlying3 w2) trodAll_mk0))), rfl, bel.frame _, fun h => by cases h⟩

theorem over : Rows.arithMemoryRow.holds Try.pinned (OpenSpec.ofChange Rows.arithMemorySpec) :=
  OpenClaim.holds_of_wide 3 Try.f3 rfl rfl rfl rfl rfl rfl rfl ⟨rfl, rfl, rfl, rfl, rfl⟩ rfl rfl rfl rfl rfl (by kernel_rfl) Try.func3 (by kernel_rfl)
    (of_decide_eq_true (by kernel_rfl)) (by unfold Func.isWrapper; first | (rw [if_pos (by decide +kernel)]; kernel_rfl) | (rw [if_neg (by decide +kernel)]; exact ⟨rfl, rfl⟩))
    (fun os started H enc _ => lifted os started H enc)
end Go.Proofs.Ytjdlbkjkooeceab.arithMemory
namespace Go.Proofs.Ytjdlbkjkooeceab
theorem arithMemory_holds : Rows.ArithMemorySaid := arithMemory.over
end Go.Proofs.Ytjdlbkjkooeceab
#print axioms Go.Proofs.Ytjdlbkjkooeceab.arithMemory_holds
