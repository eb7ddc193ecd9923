/-
  Peek and Poke of the program's bus.
-/
import Derived.Test.YtghiabdkgfhdbaaBtl
namespace Go.Proofs.Ytghiabdkgfhdbaa
set_option linter.unusedVariables false
open Go.ChangeShapes Go.WideShapes Go.ChangeAt Go.RowKit Go.Deep
theorem hld_nat {n : Nat} {a z : Int} (h : hld n a z = true) (hz : 0 < z) : ∃ k s : Nat, a = 2147483648 + (k : Int) ∧ z = s ∧ k + s ≤ n ∧ 0 < s := by
  simp only [hld, Bool.and_eq_true, decide_eq_true_eq] at h
  refine ⟨(a - 2147483648).toNat, z.toNat, ?_, ?_, ?_, ?_⟩ <;> omega
theorem peek_neg {B : Nat} {L : Lay} {S : St} (w : World) (h : PB B L S w) (a z : Int) (hz : z < 0) :
    Calls Try.prog 12 #[.pointer (some ⟨L.b, 0, none⟩), .int .u64 a, .int .i64 z] w fun e w' => e = .returned (.tuple #[.slice none 0 0, .int .i64 1]) ∧ Below w.heap.size w w' := by
  clear h
  go_enter Try.func12, Try.ntmps12
  go_wp2
  go_ret2
  exact ⟨rfl, Below.refl _ _⟩
theorem peek_zero {B : Nat} {L : Lay} {S : St} (w : World) (h : PB B L S w) (a : Int) :
    Calls Try.prog 12 #[.pointer (some ⟨L.b, 0, none⟩), .int .u64 a, .int .i64 0] w fun e w' => e = .returned (.tuple #[.slice none 0 0, .int .i64 0]) ∧ Below w.heap.size w w' := by
  clear h
  go_enter Try.func12, Try.ntmps12
  go_wp2
  go_ret2
  exact ⟨rfl, Below.refl _ _⟩
theorem peek_out {B : Nat} {L : Lay} {S : St} (w : World) (h : PB B L S w) (hn : S.ram.length ≤ 65536) (a z : Int) (ha : 0 ≤ a ∧ a ≤ 18446744073709551615) (hz : 0 < z ∧ z ≤ 9223372036854775807) (hf : hld S.ram.length a z = false) :
    Calls Try.prog 12 #[.pointer (some ⟨L.b, 0, none⟩), .int .u64 a, .int .i64 z] w fun e w' => e = .returned (.tuple #[.slice none 0 0, .int .i64 30]) ∧ Below w.heap.size w w' := by
  have b0 := h.cl.b0
  obtain ⟨ar, cr, er, _⟩ := Byt.of_own h.wr
  have HH := holds_c L.m S.ram.length cr ar a z w (by rw [← er]; exact h.cl.m0) hn ha (by omega)
  rw [hf] at HH
  have e0 : (z == 0) = false := by simp; omega
  have hz0 : 0 ≤ z := by omega
  clear h er hf
  go_enter Try.func12, Try.ntmps12
  go_wp2_with (go_at_call 29; refine HH.mono ?_; rintro e w1 ⟨rfl, hb1⟩)
  go_ret2
  exact ⟨rfl, hb1⟩
set_option maxRecDepth 100000 in
theorem peek_in {B : Nat} {L : Lay} {S : St} (w : World) (h : PB B L S w) (hn : S.ram.length ≤ 65536) (k s : Nat) (hk : k + s ≤ S.ram.length) (hs : 0 < s) :
    Calls Try.prog 12 #[.pointer (some ⟨L.b, 0, none⟩), .int .u64 (2147483648 + (k : Int)), .int .i64 s] w fun e w' => ∃ u, e = .returned (.tuple #[u, .int .i64 0]) ∧ w'.ownsRow w.heap.size 5 1 u s (bv ((S.ram.drop k).take s)) ∧ Below w.heap.size w w' := by
  obtain ⟨g, cap, er⟩ := h.ram (by omega)
  have b0 := h.cl.b0
  have HH := holds_c L.m S.ram.length cap (some ⟨g, 0, none⟩) (2147483648 + (k : Int)) s w (by rw [← er]; exact h.cl.m0) hn (by omega) (by omega)
  rw [show hld S.ram.length (2147483648 + (k : Int)) s = true by simp [hld]; omega] at HH
  have HP : Hid (∀ w1, Below w.heap.size w w1 → PB B L S w1) := fun w1 hb => h.later hb
  have HC0 : Hid (∀ w1, Below w.heap.size w w1 → w1.cell? ⟨L.b, 0, none⟩ = some (.pointer (some ⟨L.m, 0, none⟩))) := fun w1 hb => (h.later hb).cl.b0
  have HR : Hid (∀ w1, Below w.heap.size w w1 → Calls Try.prog 30 #[.pointer (some ⟨L.m, 0, none⟩), .int .u64 (2147483648 + (k : Int)), .int .i64 s] w1 fun e w' => e = .returned (.slice (some ⟨g, k, none⟩) s (cap - k)) ∧ w' = w1) := fun w1 hb => by
    have h1 := h.later hb
    exact run_c L.m g S.ram.length cap k s w1 (by rw [← er]; exact h1.cl.m0) hn (own_cap (by rw [← er]; exact h1.wr)) hk hs
  have HCL : Hid (∀ w1, Below w.heap.size w w1 → Calls Try.prog 28 #[.slice (some ⟨g, k, none⟩) s (cap - k)] w1 fun e w' => ∃ u, e = .returned u ∧ w'.ownsRow w1.heap.size 5 1 u s (bv ((S.ram.drop k).take s)) ∧ Below w1.heap.size w1 w') := fun w1 hb => by
    have h1 := h.later hb
    have hl : ((S.ram.drop k).take s).length = s := by simp; omega
    have := clone_c (l := (S.ram.drop k).take s) (by rw [hl]; omega) _ w1 (byt_sub (by rw [← er]; exact h1.wr) k s hk)
    rw [hl] at this
    exact this
  have e0 : ((s : Int) == 0) = false := by simp; omega
  have hz0 : 0 ≤ (s : Int) := by omega
  generalize bv ((S.ram.drop k).take s) = fin at HCL ⊢
  clear h er
  go_enter Try.func12, Try.ntmps12
  go_wp2_with (first | (go_at_call 29; refine HH.mono ?_; rintro e w1 ⟨rfl, hb1⟩; have b01 := HC0.out w1 hb1) | (go_at_call 30; refine (HR.out _ hb1).mono ?_; rintro e w2 ⟨rfl, hw⟩; have hw2 := hw.symm; subst hw2) | (go_at_call 28; refine (HCL.out _ hb1).mono ?_; rintro e w3 ⟨u, rfl, hown, hb3⟩; have HO : Hid _ := hown; have HB3 : Hid _ := hb3; obtain ⟨q1, q2, q3, rfl⟩ := own_one hown; clear hown hb3))
  go_ret2
  exact ⟨_, rfl, own_le HO.out hb1.size, hb1.trans (HB3.out.mono hb1.size)⟩
theorem poke_none {B : Nat} {L : Lay} {S : St} (w : World) (h : PB B L S w) (a : Int) (v : Value) (hv : Byt w v []) :
    Calls Try.prog 20 #[.pointer (some ⟨L.b, 0, none⟩), .int .u64 a, v] w fun e w' => e = .returned (.int .i64 0) ∧ Below w.heap.size w w' := by
  obtain ⟨x, c, rfl, _⟩ := hv
  clear h
  go_enter Try.func20, Try.ntmps20
  go_wp2
  go_ret
  exact ⟨rfl, Below.refl _ _⟩
theorem poke_out {B : Nat} {L : Lay} {S : St} (w : World) (h : PB B L S w) (hn : S.ram.length ≤ 65536) (a : Int) (v : Value) (l : List Int) (hv : Byt w v l) (h0 : 0 < l.length) (hl : l.length ≤ 140737488355328) (ha : 0 ≤ a ∧ a ≤ 18446744073709551615) (hf : hld S.ram.length a l.length = false) :
    Calls Try.prog 20 #[.pointer (some ⟨L.b, 0, none⟩), .int .u64 a, v] w fun e w' => e = .returned (.int .i64 30) ∧ Below w.heap.size w w' := by
  obtain ⟨x, c, rfl, _⟩ := hv
  have b0 := h.cl.b0
  obtain ⟨ar, cr, er, _⟩ := Byt.of_own h.wr
  have HH := holds_c L.m S.ram.length cr ar a l.length w (by rw [← er]; exact h.cl.m0) hn ha (by omega)
  rw [hf] at HH
  have e0 : ((l.length : Int) == 0) = false := by simp; intro e; rw [e] at h0; simp at h0
  have e1 : ¬ (l.length = 0) := by omega
  generalize l.length = q at *
  clear h er hf
  go_enter Try.func20, Try.ntmps20
  go_wp2_with (go_at_call 29; refine HH.mono ?_; rintro e w1 ⟨rfl, hb1⟩)
  go_ret
  exact ⟨rfl, hb1⟩
set_option maxRecDepth 100000 in
set_option maxHeartbeats 1000000 in
theorem poke_in {B : Nat} {L : Lay} {S : St} (w : World) (h : PB B L S w) (hn : S.ram.length ≤ 65536) (k : Nat) (v : Value) (l : List Int) (hv : Byt w v l) (h0 : 0 < l.length) (hk : k + l.length ≤ S.ram.length) :
    Calls Try.prog 20 #[.pointer (some ⟨L.b, 0, none⟩), .int .u64 (2147483648 + (k : Int)), v] w fun e w' => e = .returned (.int .i64 0) ∧ PB B L { S with ram := splice S.ram k l } w' ∧ Exc L.own w w' := by
  obtain ⟨x, c, rfl, _, _, hsrc⟩ := hv
  obtain ⟨g2, o2, rfl, hg2, hcell⟩ := hsrc (by intro e; rw [e] at h0; simp at h0)
  obtain ⟨g, cap, er⟩ := h.ram (by omega)
  have b0 := h.cl.b0
  have HH := holds_c L.m S.ram.length cap (some ⟨g, 0, none⟩) (2147483648 + (k : Int)) l.length w (by rw [← er]; exact h.cl.m0) hn (by omega) (by omega)
  rw [show hld S.ram.length (2147483648 + (k : Int)) l.length = true by simp [hld]; omega] at HH
  have HC0 : Hid (∀ w1, Below w.heap.size w w1 → w1.cell? ⟨L.b, 0, none⟩ = some (.pointer (some ⟨L.m, 0, none⟩))) := fun w1 hb => (h.later hb).cl.b0
  have HR : Hid (∀ w1, Below w.heap.size w w1 → Calls Try.prog 30 #[.pointer (some ⟨L.m, 0, none⟩), .int .u64 (2147483648 + (k : Int)), .int .i64 l.length] w1 fun e w' => e = .returned (.slice (some ⟨g, k, none⟩) l.length (cap - k)) ∧ w' = w1) := fun w1 hb => by
    have h1 := h.later hb
    exact run_c L.m g S.ram.length cap k l.length w1 (by rw [← er]; exact h1.cl.m0) hn (own_cap (by rw [← er]; exact h1.wr)) hk h0
  have hg : L.vr.ownBlock = some g := by rw [er]; rfl
  have HS : Hid (∀ w1, Below w.heap.size w w1 → ∃ cur : Array Value, w1.heap[g]? = some (.cells cur 5 (0, 0)) ∧ S.ram.length ≤ cur.size ∧ PB B L { S with ram := splice S.ram k l } (w1.setRow g (cur.toList.take k ++ (bv l ++ cur.toList.drop (k + (bv l).length))).toArray) ∧ Exc L.own w (w1.setRow g (cur.toList.take k ++ (bv l ++ cur.toList.drop (k + (bv l).length))).toArray)) := fun w1 hb => by
    have h1 := h.later hb
    obtain ⟨cur, q1, q2, q3⟩ := own_splice (show w1.ownsRow B 5 1 (.slice (some ⟨g, 0, none⟩) S.ram.length cap) S.ram.length (bv S.ram) by rw [← er]; exact h1.wr)
    have hx : Exc (· = g) w1 (w1.setRow g (cur.toList.take k ++ (bv l ++ cur.toList.drop (k + (bv l).length))).toArray) := ⟨rfl, rfl, rfl, by simp [World.setRow], fun k hk hs => setRow_other w1 _ _ k hs⟩
    exact ⟨cur, q1, q2, h1.store hg _ (length_splice _ _ _ hk) (by rw [er]; exact q3 k l hk) hx, (Exc.of_below hb rfl).trans (hx.mono (fun q hq => by rw [hq]; unfold Lay.own; simp [hg]))⟩
  have HSRC : Hid (∀ w1, Below w.heap.size w w1 → ∀ j u, (bv l)[j]? = some u → w1.cell? ((⟨g2, o2, none⟩ : Addr).add j) = some u) := fun w1 hb j u hj => by
    have hjl : j < l.length := by have := (List.getElem?_eq_some_iff.1 hj).1; simpa [bv] using this
    rw [bv_get _ _ hjl] at hj
    cases hj
    rw [addAt, hb.cell hg2]
    exact hcell j hjl
  have hone : ∀ v ∈ bv l, v.oneCell' = true := by intro v hv; simp [bv] at hv; obtain ⟨q, _, rfl⟩ := hv; rfl
  have hcl : (bv l).length = l.length := bv_length l
  have e0 : ((l.length : Int) == 0) = false := by simp; intro e; rw [e] at h0; simp at h0
  have e1 : ¬ (l.length = 0) := by omega
  have u8size : (Try.prog.info? 5).map (·.size) = some 1 := by kernel_rfl
  generalize ({ S with ram := splice S.ram k l } : St) = T at HS ⊢
  generalize bv l = cs at HS HSRC hone hcl
  have hl64 : (l.length : Int) ≤ 65536 := by omega
  clear hsrc hcell
  generalize l.length = m at *
  have HL : Hid (cs.length = m) := hcl
  have HN1 : Hid (∀ v ∈ cs, v.oneCell' = true) := hone
  have HK : Hid (k + m ≤ S.ram.length) := hk
  clear h er hcl hone
  go_enter Try.func20, Try.ntmps20
  go_wp2_with (first | (go_at_call 29; refine HH.mono ?_; rintro e w1 ⟨rfl, hb1⟩; have b01 := HC0.out w1 hb1; obtain ⟨cur, hc1, hc2, hc3, hc4⟩ := HS.out w1 hb1; have HC1 : Hid _ := hc1; have HC2 : Hid _ := hc2; have HC3 : Hid _ := hc3; have HC4 : Hid _ := hc4; clear hc1 hc2 hc3 hc4) | (go_at_call 30; refine (HR.out _ hb1).mono ?_; rintro e w2 ⟨rfl, hw⟩; have hw2 := hw.symm; subst hw2) | (refine wpList_copy_own (by rfl) _ _ _ _ (by rfl) 5 Try.underlying22 u8size g k m (cap - k) ⟨g2, o2, none⟩ m c (by rfl) (by rfl) cur 5 HC1.out cs (by rw [HL.out]; exact (Nat.min_self m).symm) (HSRC.out _ hb1) (by rw [HL.out]; exact Nat.le_trans HK.out HC2.out) HN1.out ?_))
  go_ret
  exact ⟨rfl, HC3.out, HC4.out⟩
end Go.Proofs.Ytghiabdkgfhdbaa
