/-
  Gc.
-/
import Derived.Test.YtfenllkkbgkdnaaDoorGb
namespace Go.Proofs.YtfenllkkbgkdnaaDoor
set_option linter.unusedVariables false
set_option maxRecDepth 100000
open Go.ChangeShapes Go.WideShapes Go.ChangeAt Go.RowKit Go.Deep
theorem Owb.drew {B : Nat} {w : World} {v : Value} {l : List Int} (h : Owb B w v l) : Owb B w.drew v l := h
theorem Fr.drew {B : Nat} {w w' : World} (h : Fr B w w') : Fr B w w'.drew := ⟨Below.drew h.b, h.k⟩
/-- Bytes appended in a region that draws. -/
theorem step_appY {ops : Array Oper} {o : Oper} {a : Act} {w : World} {K : Act → World → Prop} {Q : Exit → Act → World → Prop} {E : Prop} (hgd : o.guard = none) (s x : Operand) (ho : o.op = .call { callee := .builtin .append, args := #[s, x], argTypes := #[22, 22] })
    (B : Nat) (v : Value) (m l : List Int) (hs : a.eval s = v) (hown : Owb B w v m) (g n : Nat) (hn : n = l.length) (hx : a.eval x = .slice (some ⟨g, 0, none⟩) n n) (hu : ∀ j, j < l.length → w.cell? ⟨g, j, none⟩ = some (.int .u8 (l.getD j 0))) (hl : m.length + l.length ≤ 140737488355328) (hB : B ≤ w.heap.size)
    (h : ∀ v' w', Owb B w' v' (m ++ l) → Fr B w w' → K (a.put o.dst v') w') :
    if Region.wanted o (yielded ops a.tmps) = true then Oper.wp Tryd.prog o a w K Q else E := by
  subst hn
  obtain ⟨i0, hi, hz0, hz1, hz2⟩ := info_parts info5
  have hw : Region.wanted o (yielded ops a.tmps) = true := by simp [Region.wanted, hgd]
  rw [if_pos hw]
  obtain ⟨v', w', hr, h2, h3, _, h5⟩ := run_append_own_at (P := Tryd.prog) w B 22 o.type 5 i0 (.int .u8 0) 1 1 Tryd.underlying22 hi hz0 hz1 hz2 rfl (by decide) v m.length (bv m) hown ⟨g, 0, none⟩ l.length l.length (bv l) (by simp [bv]) (fun j u hj => by
    have hjl : j < l.length := by have := (List.getElem?_eq_some_iff.1 hj).1; simpa [bv] using this
    rw [bv_get _ _ hjl] at hj
    cases hj
    rw [addAt, Nat.zero_add]
    exact hu j hjl) (by intro u hu; simp [bv] at hu; obtain ⟨q, _, rfl⟩ := hu; rfl) (by unfold maxLen; omega) (by omega) hB
  have h2' : Owb B w' v' (m ++ l) := by
    unfold Owb
    rw [bv_append, List.length_append]
    simpa [bv] using h2
  unfold Oper.wp
  simp [execOp, ho, resolve, invoke, builtin, hs, hx, hr, Result.andThen]
  exact h v' w' h2' (Fr.grown hown hB h3)
theorem wrap8 (z : Int) (h : 0 ≤ z ∧ z < 256) : IntKind.u8.wrap z = z := by
  have : IntKind.u8.wrap z = z % 256 := by first | rfl | (unfold IntKind.wrap; simp [IntKind.signed, IntKind.bits])
  rw [this]
  omega
theorem hIdx : ∀ (n : Nat) (h : n < 16) (w : World), (Instr.index 9 (.string ⟨#[48, 49, 50, 51, 52, 53, 54, 55, 56, 57, 97, 98, 99, 100, 101, 102]⟩) (.int .u8 (n : Int))).run Tryd.prog w = .ok (.int .u8 (hd1 n)) w
  | 0, _, w => by kernel_rfl
  | 1, _, w => by kernel_rfl
  | 2, _, w => by kernel_rfl
  | 3, _, w => by kernel_rfl
  | 4, _, w => by kernel_rfl
  | 5, _, w => by kernel_rfl
  | 6, _, w => by kernel_rfl
  | 7, _, w => by kernel_rfl
  | 8, _, w => by kernel_rfl
  | 9, _, w => by kernel_rfl
  | 10, _, w => by kernel_rfl
  | 11, _, w => by kernel_rfl
  | 12, _, w => by kernel_rfl
  | 13, _, w => by kernel_rfl
  | 14, _, w => by kernel_rfl
  | 15, _, w => by kernel_rfl
  | n + 16, h, w => absurd h (by omega)
set_option maxHeartbeats 4000000 in
theorem digits_c (l : List Int) (v : Value) (w : World) (hv : Byt w v l) (hall : AllB l) (hl : l.length ≤ 1000000) :
    Calls Tryd.prog 10 #[v] w fun e w' => e = .returned (.string (strOfNums (hexL l))) ∧ Fr w.heap.size w w' := by
  obtain ⟨a, cap, rfl, hc, _, hr⟩ := hv
  have HR : Hid (l ≠ [] → ∃ g off, a = some ⟨g, off, none⟩ ∧ g < w.heap.size ∧ ∀ j, j < l.length → w.cell? ⟨g, off + j, none⟩ = some (.int .u8 (l.getD j 0))) := hr
  obtain ⟨B, hB⟩ : ∃ B, B = w.heap.size := ⟨_, rfl⟩
  have HBE := Hid.mk' hB
  have HAL := Hid.mk' hall
  rw [← hB]
  clear hr hB hall
  go_enter Tryd.func10, Tryd.ntmps10
  go_wp2
  go_loopw [3, 8] (fun x i wr => ∃ k : Nat, k ≤ l.length ∧ i = .int .i64 k ∧ Hid (Owb B wr x (hexL (l.take k))) ∧ Hid (Fr B w wr)) (fun _ i _ => l.length - (intOf i).toNat)
  case atStart => exact ⟨0, Nat.zero_le _, rfl, owb_nil _ _, Fr.refl _ _⟩
  case round =>
    obtain ⟨k, hk, rfl, hown, hfr⟩ := hrel
    by_cases hlt : k < l.length
    · obtain ⟨gl, off, rfl, hgl, hcell⟩ := HR.out (by intro e; rw [e] at hlt; simp at hlt)
      have hlt2 : (k : Int) < (l.length : Int) := by omega
      have hce : wr.cell? ⟨gl, off + k, none⟩ = some (.int .u8 (l.getD k 0)) := (hfr.out.b.cell (by rw [HBE.out]; exact hgl)).trans (hcell k hlt)
      have HT : Hid (hexL (l.take (k + 1)) = hexL (l.take k) ++ hex1 (l.getD k 0)) := hexL_take hlt
      have HLN : Hid ((hexL (l.take k)).length ≤ 2000000) := by have := hexL_len (l.take k); rw [List.length_take] at this; unfold Hid; omega
      obtain ⟨hb0, hb1⟩ : 0 ≤ l.getD k 0 ∧ l.getD k 0 ≤ 255 := HAL.out _ (by rw [List.getD_eq_getElem?_getD, List.getElem?_eq_getElem hlt]; simp)
      obtain ⟨c, hcc⟩ : ∃ c, c = l.getD k 0 := ⟨_, rfl⟩
      rw [← hcc] at hce HT hb0 hb1
      obtain ⟨L, hL⟩ : ∃ L, L = hexL (l.take k) := ⟨_, rfl⟩
      rw [← hL] at HT HLN hown
      have HBS : Hid (B ≤ wr.heap.size) := (by unfold Hid; rw [HBE.out]; exact hfr.out.b.size)
      obtain ⟨q, hq0⟩ : ∃ q : Nat, q = (c / 16).toNat := ⟨_, rfl⟩
      obtain ⟨r, hr0⟩ : ∃ r : Nat, r = (c % 16).toNat := ⟨_, rfl⟩
      have hq1 : c / 16 = (q : Int) := by omega
      have hq2 : Int.tdiv c 16 = (q : Int) := by rw [Int.tdiv_eq_ediv_of_nonneg (by omega)]; omega
      have hr1 : c % 16 = (r : Int) := by omega
      have hr2 : Int.tmod c 16 = (r : Int) := by rw [Int.tmod_eq_emod_of_nonneg (by omega)]; omega
      have HX1 : Hid (hex1 c = [hd1 (q : Int), hd1 (r : Int)]) := (by unfold Hid hex1; rw [hq1, hr1])
      have w1 : IntKind.u8.wrap (q : Int) = q := wrap8 _ (by omega)
      have i1 := hIdx q (by omega)
      have i2 := hIdx r (by omega)
      have hqI : (q : Int) < 16 := by omega
      have hrI : (r : Int) < 16 := by omega
      generalize hd1 (q : Int) = x1 at *
      generalize hd1 (r : Int) = x2 at *
      have HBA : Hid (∀ o, B ≤ (wr.alloc o).heap.size) := fun o => Nat.le_trans HBS.out (below_al wr o).size
      have HCL : Hid (∀ j, j < [x1, x2].length → (wr.alloc (.cells #[.int .u8 x1, .int .u8 x2] 5)).cell? ⟨wr.heap.size, j, none⟩ = some (.int .u8 ([x1, x2].getD j 0))) := fun j hj => by
        rw [(Row.new wr _ _).cell]
        match j, hj with
        | 0, _ => rfl
        | 1, _ => rfl
      clear hcell hcc hL HR hq0 hr0
      go_upto_region 5 with fail
      go_region_law (refine step_appY rfl (.tmp 12) (.tmp 19) rfl B u3 L [x1, x2] (by simp [Act.eval]) (by first | exact World.ownsRow.alloc hown.out _ | exact Owb.drew (World.ownsRow.alloc hown.out _)) wr.heap.size 2 rfl (by simp [Act.eval]) (by first | exact HCL.out) (by have := HLN.out; simp; omega) (by exact HBA.out _) ?_; intro v' w1 ho1 hf1)
      all_goals go_wp2
      all_goals go_roundw
      all_goals first | exact ⟨k + 1, by omega, by go_num, by unfold Hid; rw [HT.out, HX1.out]; first | exact ho1 | exact Owb.drew ho1, by unfold Hid; first | exact hfr.out.trans ((Fr.of (below_al wr _) HBS.out).trans hf1) | exact (hfr.out.trans ((Fr.of (below_al wr _) HBS.out).trans hf1)).drew | exact hfr.out.trans ((Fr.of (below_al wr _) HBS.out).drew.trans hf1)⟩ | (simp [intOf]; omega)
    · have hkn : k = l.length := by omega
      have hz : ¬ (k : Int) < (l.length : Int) := by omega
      have HO : Hid (Owb B wr u3 (hexL l)) := (by have q := hown.out; rw [hkn, List.take_length] at q; exact q)
      have hcv := (Byt.of_own HO.out).conv
      clear hkn hlt hown
      go_wp2
      go_ret
      exact ⟨rfl, hfr.out⟩
end Go.Proofs.YtfenllkkbgkdnaaDoor
