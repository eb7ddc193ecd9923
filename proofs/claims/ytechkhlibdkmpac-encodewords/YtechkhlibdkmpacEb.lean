/-
  The reference's forms: atomics, one, Forms, form.
-/
import Derived.Test.YtechkhlibdkmpacEa
namespace Go.Proofs.Ytechkhlibdkmpac
set_option linter.unusedVariables false
open Go.ChangeShapes Go.WideShapes Go.ChangeAt Go.RowKit Go.Deep
theorem own_later {w w' : World} {B e size n : Nat} {v : Value} {xs : List Value} (h : w.ownsRow B e size v n xs) {B' : Nat} (hb : Below B' w w') (hB : B' = w.heap.size) : w'.ownsRow B e size v n xs := by
  have hl := h.lt
  refine ⟨h.1, ?_⟩
  rcases h.2 with h' | ⟨g, cap, cur, rfl, h1, h2, h3⟩
  · exact .inl h'
  · exact .inr ⟨g, cap, cur, rfl, h1, by rw [hb.block g (by rw [hB]; exact (hl g rfl).2)]; exact h2, h3⟩
theorem own_full {M : Nat} (w : World) (l : List Fm) (hM : M ≤ w.heap.size) (hl : l.length ≤ 1000) : (w.alloc (.cells (fmL l).toArray 40)).ownsRow M 40 5 (.slice (some ⟨w.heap.size, 0, none⟩) l.length l.length) l.length (fmL l) :=
  ⟨fmL_len l, .inr ⟨w.heap.size, l.length, _, rfl, hM, heap_alloc_new w _, Nat.le_refl _, by unfold maxLen; omega, by simp [fmL_len], by simp [← fmL_len]⟩⟩
structure AtS (M gt : Nat) (l : List Fm) (w : World) (v : Value) (wr : World) : Prop where
  o : wr.ownsRow M 40 5 v l.length (fmL l)
  r : wr.heap[gt]? = some (.cells (iv tops) 3 (0, 0))
  b : Below M w wr
  m : M ≤ wr.heap.size
theorem AtS.later {M gt : Nat} {l : List Fm} {w wr wr' : World} {v : Value} (h : AtS M gt l w v wr) (hb : Below wr.heap.size wr wr') : AtS M gt l w v wr' :=
  ⟨own_later h.o hb rfl, (hb.block _ (Array.getElem?_eq_some_iff.1 h.r).1).trans h.r, h.b.trans (hb.mono h.m), Nat.le_trans h.m hb.size⟩
theorem AtS.next {M gt : Nat} {l l' : List Fm} {w wr w8 : World} {v v8 : Value} (h : AtS M gt l w v wr) (ho : w8.ownsRow M 40 5 v8 l'.length (fmL l')) (hg : wr.grownBy w8 v.ownBlock) : AtS M gt l' w v8 w8 := by
  obtain ⟨h1, h2, h3⟩ := fam_step h.o h.r h.b h.m hg
  exact ⟨ho, h1, h2, h3⟩
set_option maxRecDepth 100000 in
set_option maxHeartbeats 4000000 in
theorem atomics_c (M : Nat) (l : List Fm) (v : Value) (op f3 : Int) (w : World) (hown : w.ownsRow M 40 5 v l.length (fmL l)) (hop : 0 ≤ op ∧ op ≤ 1000) (hM : M ≤ w.heap.size) (hl : l.length ≤ 400) :
    Calls Try.prog 32 #[v, .int .i64 op, .int .i64 f3] w fun e w' => ∃ v', e = .returned v' ∧ w'.ownsRow M 40 5 v' (l ++ atom op f3).length (fmL (l ++ atom op f3)) ∧ Below M w w' := by
  have H0 : Hid (AtS M w.heap.size (l ++ atN op f3 0) w v (w.alloc (.cells (iv tops) 3))) := ⟨by have h := own_later hown (below_al w (.cells (iv tops) 3)) rfl; simpa [atN] using h, heap_alloc_new w _, (below_al w _).mono hM, Nat.le_trans hM (below_al w _).size⟩
  obtain ⟨W, hW⟩ : ∃ W, w.alloc (.cells (iv tops) 3) = W := ⟨_, rfl⟩
  rw [hW] at H0
  have hW2 : w.alloc (.cells #[.int .i64 2, .int .i64 3, .int .i64 1, .int .i64 0, .int .i64 4, .int .i64 12, .int .i64 8, .int .i64 16, .int .i64 20, .int .i64 24, .int .i64 28] 3) = W := hW
  clear hown hM hW
  go_enter Try.func32, Try.ntmps32
  go_upto_region 2 with fail
  clear hW2
  obtain ⟨gt, hgt⟩ : ∃ gt, gt = w.heap.size := ⟨_, rfl⟩
  rw [← hgt] at H0 ⊢
  clear hgt
  go_wp2
  go_loopw [0, 8] (fun u i wr => ∃ k : Nat, k ≤ 11 ∧ i = .int .i64 k ∧ Hid (AtS M gt (l ++ atN op f3 k) w u wr)) (fun _ i _ => 11 - (intOf i).toNat)
  case atStart => exact ⟨0, Nat.zero_le _, rfl, H0⟩
  case round =>
    obtain ⟨k, hk, rfl, hst⟩ := hrel
    clear H0
    by_cases hlt : k < 11
    · have hlt2 : (k : Int) < 11 := by omega
      have hce : wr.cell? ⟨gt, k, none⟩ = some (.int .i64 (tops.getD k 0)) := by rw [cell_of_row wr gt k _ _ _ hst.out.r]; exact iv_get hlt
      have hln : (l ++ atN op f3 k).length + 1 ≤ 1000 := by rw [List.length_append, atN_len]; omega
      obtain ⟨z, hz⟩ : ∃ z, z = tops.getD k 0 := ⟨_, rfl⟩
      rw [← hz] at hce
      have HZ : Hid (z = tops.getD k 0) := hz
      clear hz
      by_cases h0 : k = 0
      · have hk0 : ((k : Int) == 0) = true := by simp [h0]
        have HC : Hid ((if k = 0 then 76 else 65 : Int) = 76) := by unfold Hid; rw [if_pos h0]
        clear h0
        have HL : Hid (AtS M gt (l ++ atN op f3 k) w u0 (wr.alloc (.cells #[.int .i64 (op + (k : Int)), .int .i64 47, .int .i64 f3, .int .i64 z, .int .u8 76] 40))) := hst.out.later (below_al wr _)
        go_upto_region 8 with fail
        obtain ⟨W1, hW1⟩ : ∃ W1, wr.alloc (.cells #[.int .i64 (op + (k : Int)), .int .i64 47, .int .i64 f3, .int .i64 z, .int .u8 76] 40) = W1 := ⟨_, rfl⟩
        rw [hW1] at HL ⊢
        have hr : W1.heap[wr.heap.size]? = some (.cells #[.int .i64 (op + (k : Int)), .int .i64 47, .int .i64 f3, .int .i64 z, .int .u8 76] 40 (0, 0)) := by rw [← hW1]; exact heap_alloc_new wr _
        have c0 : W1.cell? ⟨wr.heap.size, 0, none⟩ = some (.int .i64 (op + (k : Int))) := cell_of_row W1 _ 0 _ _ _ hr
        have c1 : W1.cell? ⟨wr.heap.size, 1, none⟩ = some (.int .i64 47) := cell_of_row W1 _ 1 _ _ _ hr
        have c2 : W1.cell? ⟨wr.heap.size, 2, none⟩ = some (.int .i64 f3) := cell_of_row W1 _ 2 _ _ _ hr
        have c3 : W1.cell? ⟨wr.heap.size, 3, none⟩ = some (.int .i64 z) := cell_of_row W1 _ 3 _ _ _ hr
        have c4 : W1.cell? ⟨wr.heap.size, 4, none⟩ = some (.int .u8 76) := cell_of_row W1 _ 4 _ _ _ hr
        clear hW1 hr
        go_upto_region 4 with (at_builtin; refine appF (w := W1) (by rfl) _ _ (by rfl) M _ (l ++ atN op f3 k) [⟨op + (k : Int), 47, f3, z, 76⟩] (by rfl) HL.out.o (by rfl) hln HL.out.m ?_; intro v8 w8 ho8 hg8; have HN : Hid (AtS M gt (l ++ atN op f3 (k + 1)) w v8 w8) := (by rw [atN_succ, ← HZ.out, HC.out, ← List.append_assoc]; exact HL.out.next ho8 hg8); clear ho8 hg8)
        go_wp2
        go_roundw
        all_goals first | exact ⟨k + 1, by omega, by go_num, HN⟩ | (simp [intOf] <;> omega)
      · have hk0 : ((k : Int) == 0) = false := by rw [beq_eq_false_iff_ne]; omega
        have HC : Hid ((if k = 0 then 76 else 65 : Int) = 65) := by unfold Hid; rw [if_neg h0]
        clear h0
        have HL : Hid (AtS M gt (l ++ atN op f3 k) w u0 (wr.alloc (.cells #[.int .i64 (op + (k : Int)), .int .i64 47, .int .i64 f3, .int .i64 z, .int .u8 65] 40))) := hst.out.later (below_al wr _)
        go_upto_region 8 with fail
        obtain ⟨W1, hW1⟩ : ∃ W1, wr.alloc (.cells #[.int .i64 (op + (k : Int)), .int .i64 47, .int .i64 f3, .int .i64 z, .int .u8 65] 40) = W1 := ⟨_, rfl⟩
        rw [hW1] at HL ⊢
        have hr : W1.heap[wr.heap.size]? = some (.cells #[.int .i64 (op + (k : Int)), .int .i64 47, .int .i64 f3, .int .i64 z, .int .u8 65] 40 (0, 0)) := by rw [← hW1]; exact heap_alloc_new wr _
        have c0 : W1.cell? ⟨wr.heap.size, 0, none⟩ = some (.int .i64 (op + (k : Int))) := cell_of_row W1 _ 0 _ _ _ hr
        have c1 : W1.cell? ⟨wr.heap.size, 1, none⟩ = some (.int .i64 47) := cell_of_row W1 _ 1 _ _ _ hr
        have c2 : W1.cell? ⟨wr.heap.size, 2, none⟩ = some (.int .i64 f3) := cell_of_row W1 _ 2 _ _ _ hr
        have c3 : W1.cell? ⟨wr.heap.size, 3, none⟩ = some (.int .i64 z) := cell_of_row W1 _ 3 _ _ _ hr
        have c4 : W1.cell? ⟨wr.heap.size, 4, none⟩ = some (.int .u8 65) := cell_of_row W1 _ 4 _ _ _ hr
        clear hW1 hr
        go_upto_region 4 with (at_builtin; refine appF (w := W1) (by rfl) _ _ (by rfl) M _ (l ++ atN op f3 k) [⟨op + (k : Int), 47, f3, z, 65⟩] (by rfl) HL.out.o (by rfl) hln HL.out.m ?_; intro v8 w8 ho8 hg8; have HN : Hid (AtS M gt (l ++ atN op f3 (k + 1)) w v8 w8) := (by rw [atN_succ, ← HZ.out, HC.out, ← List.append_assoc]; exact HL.out.next ho8 hg8); clear ho8 hg8)
        go_wp2
        go_roundw
        all_goals first | exact ⟨k + 1, by omega, by go_num, HN⟩ | (simp [intOf] <;> omega)
    · obtain rfl : k = 11 := by omega
      rw [show ((11 : Nat) : Int) = (11 : Int) from rfl]
      go_wp2
      go_ret
      exact ⟨u0, rfl, hst.out.o, hst.out.b⟩
theorem fam_in (M : Nat) (l : List Fm) (v : Value) (W : World) (op code top kind : Int) (f3s : List Int) (ho : W.ownsRow M 40 5 v l.length (fmL l)) (hM : M ≤ W.heap.size) (hop : 0 ≤ op ∧ op ≤ 1000) (hl : l.length + f3s.length ≤ 500) :
    Calls Try.prog 31 #[v, .int .i64 op, .int .i64 code, .slice (some ⟨W.heap.size, 0, none⟩) f3s.length f3s.length, .int .i64 top, .int .u8 kind] (W.alloc (.cells (iv f3s) 3)) fun e w' => ∃ v', e = .returned v' ∧ w'.ownsRow M 40 5 v' (l ++ fam op code f3s top kind).length (fmL (l ++ fam op code f3s top kind)) ∧ Below M W w' ∧ M ≤ w'.heap.size := by
  have hb := (below_al W (.cells (iv f3s) 3))
  refine (family_c M W.heap.size l v op code top kind f3s _ (own_later ho hb rfl) (heap_alloc_new W _) hop (Nat.le_trans hM hb.size) hl).mono ?_
  rintro e w' ⟨v', rfl, h1, h2⟩
  exact ⟨v', rfl, h1, (hb.mono hM).trans h2, Nat.le_trans hM (Nat.le_trans hb.size h2.size)⟩
theorem ato_in (M : Nat) (l : List Fm) (v : Value) (W : World) (op f3 : Int) (ho : W.ownsRow M 40 5 v l.length (fmL l)) (hM : M ≤ W.heap.size) (hop : 0 ≤ op ∧ op ≤ 1000) (hl : l.length ≤ 400) :
    Calls Try.prog 32 #[v, .int .i64 op, .int .i64 f3] W fun e w' => ∃ v', e = .returned v' ∧ w'.ownsRow M 40 5 v' (l ++ atom op f3).length (fmL (l ++ atom op f3)) ∧ Below M W w' ∧ M ≤ w'.heap.size := by
  refine (atomics_c M l v op f3 W ho hop hM hl).mono ?_
  rintro e w' ⟨v', rfl, h1, h2⟩
  exact ⟨v', rfl, h1, h2, Nat.le_trans hM h2.size⟩
def La1 : List Fm := [⟨1, 55, 0, 0, 85⟩, ⟨2, 23, 0, 0, 85⟩, ⟨3, 111, 0, 0, 74⟩, ⟨4, 103, 0, 0, 73⟩]
def La2 : List Fm := La1 ++ fam 5 99 [0, 1, 4, 5, 6, 7] 0 66
def La3 : List Fm := La2 ++ fam 11 3 [0, 1, 2, 3, 4, 5, 6] 0 73
def La4 : List Fm := La3 ++ fam 18 35 [0, 1, 2, 3] 0 83
def La5 : List Fm := La4 ++ fam 22 19 [0, 2, 3, 4, 6, 7] 0 73
def La6 : List Fm := La5 ++ [⟨28, 19, 1, 0, 72⟩, ⟨29, 19, 5, 0, 72⟩, ⟨30, 19, 5, 16, 72⟩]
def La7 : List Fm := La6 ++ [⟨31, 27, 0, 0, 73⟩, ⟨32, 27, 1, 0, 87⟩, ⟨33, 27, 5, 0, 87⟩, ⟨34, 27, 5, 32, 87⟩]
def La8 : List Fm := La7 ++ [⟨35, 51, 0, 0, 82⟩, ⟨36, 51, 0, 32, 82⟩, ⟨37, 51, 1, 0, 82⟩, ⟨38, 51, 2, 0, 82⟩, ⟨39, 51, 3, 0, 82⟩]
def La9 : List Fm := La8 ++ [⟨40, 51, 4, 0, 82⟩, ⟨41, 51, 5, 0, 82⟩, ⟨42, 51, 5, 32, 82⟩, ⟨43, 51, 6, 0, 82⟩, ⟨44, 51, 7, 0, 82⟩]
def La10 : List Fm := La9 ++ [⟨45, 59, 0, 0, 82⟩, ⟨46, 59, 0, 32, 82⟩, ⟨47, 59, 1, 0, 82⟩, ⟨48, 59, 5, 0, 82⟩, ⟨49, 59, 5, 32, 82⟩]
def La11 : List Fm := La10 ++ [⟨50, 15, 0, 0, 78⟩, ⟨51, 15, 1, 0, 78⟩]
def La12 : List Fm := La11 ++ [⟨52, 0, 0, 115, 90⟩, ⟨53, 0, 0, 1048691, 90⟩, ⟨54, 0, 0, 807403635, 90⟩, ⟨55, 0, 0, 273678451, 90⟩]
def La13 : List Fm := La12 ++ fam 56 115 [1, 2, 3, 5, 6, 7] 0 78
def La14 : List Fm := La13 ++ fam 62 51 [0, 1, 2, 3, 4, 5, 6, 7] 1 82
def La15 : List Fm := La14 ++ fam 70 59 [0, 4, 5, 6, 7] 1 82
def La16 : List Fm := La15 ++ atom 75 2
def La17 : List Fm := La16 ++ atom 86 3
/-- All of them, in their order. -/
def FL : List Fm := La17
set_option maxRecDepth 100000 in
set_option maxHeartbeats 8000000 in
theorem forms_c (w : World) : Calls Try.prog 20 #[] w fun e w' => ∃ v, e = .returned v ∧ w'.ownsRow w.heap.size 40 5 v FL.length (fmL FL) ∧ Below w.heap.size w w' := by
  obtain ⟨M, hM⟩ : ∃ M, M = w.heap.size := ⟨_, rfl⟩
  rw [← hM]
  obtain ⟨W1, hW1⟩ : ∃ W1, w.alloc (.cells (fmL La1).toArray 40) = W1 := ⟨_, rfl⟩
  have H1 : Hid (W1.ownsRow M 40 5 (.slice (some ⟨w.heap.size, 0, none⟩) 4 4) La1.length (fmL La1) ∧ Below M w W1 ∧ M ≤ W1.heap.size) := by rw [← hW1]; exact ⟨own_full w La1 (by omega) (by decide), (below_al w _).mono (by omega), by rw [hM]; exact (below_al w _).size⟩
  have hW2 : w.alloc (.cells #[.int .i64 1, .int .i64 55, .int .i64 0, .int .i64 0, .int .u8 85, .int .i64 2, .int .i64 23, .int .i64 0, .int .i64 0, .int .u8 85, .int .i64 3, .int .i64 111, .int .i64 0, .int .i64 0, .int .u8 74, .int .i64 4, .int .i64 103, .int .i64 0, .int .i64 0, .int .u8 73] 40) = W1 := hW1
  clear hW1 hM
  go_enter Try.func20, Try.ntmps20
  go_upto_region 2 with fail
  clear hW2
  go_upto_region 3 with (go_at_call 31; refine (fam_in M La1 _ W1 5 99 0 66 [0, 1, 4, 5, 6, 7] H1.out.1 H1.out.2.2 (by decide) (by decide)).mono ?_; rintro e W2 ⟨v2, rfl, ho, hb, hm⟩; have H2 : Hid (W2.ownsRow M 40 5 v2 La2.length (fmL La2) ∧ Below M w W2 ∧ M ≤ W2.heap.size) := ⟨ho, H1.out.2.1.trans hb, hm⟩; clear ho hb hm)
  clear H1
  go_upto_region 4 with (go_at_call 31; refine (fam_in M La2 _ W2 11 3 0 73 [0, 1, 2, 3, 4, 5, 6] H2.out.1 H2.out.2.2 (by decide) (by decide)).mono ?_; rintro e W3 ⟨v3, rfl, ho, hb, hm⟩; have H3 : Hid (W3.ownsRow M 40 5 v3 La3.length (fmL La3) ∧ Below M w W3 ∧ M ≤ W3.heap.size) := ⟨ho, H2.out.2.1.trans hb, hm⟩; clear ho hb hm)
  clear H2
  go_upto_region 5 with (go_at_call 31; refine (fam_in M La3 _ W3 18 35 0 83 [0, 1, 2, 3] H3.out.1 H3.out.2.2 (by decide) (by decide)).mono ?_; rintro e W4 ⟨v4, rfl, ho, hb, hm⟩; have H4 : Hid (W4.ownsRow M 40 5 v4 La4.length (fmL La4) ∧ Below M w W4 ∧ M ≤ W4.heap.size) := ⟨ho, H3.out.2.1.trans hb, hm⟩; clear ho hb hm)
  clear H3
  go_upto_region 6 with (go_at_call 31; refine (fam_in M La4 _ W4 22 19 0 73 [0, 2, 3, 4, 6, 7] H4.out.1 H4.out.2.2 (by decide) (by decide)).mono ?_; rintro e W5 ⟨v5, rfl, ho, hb, hm⟩; have H5 : Hid (W5.ownsRow M 40 5 v5 La5.length (fmL La5) ∧ Below M w W5 ∧ M ≤ W5.heap.size) := ⟨ho, H4.out.2.1.trans hb, hm⟩; clear ho hb hm)
  clear H4
  go_upto_region 7 with (at_builtin; refine appF (w := W5) (by rfl) _ _ (by rfl) M _ La5 [⟨28, 19, 1, 0, 72⟩, ⟨29, 19, 5, 0, 72⟩, ⟨30, 19, 5, 16, 72⟩] (by rfl) H5.out.1 (by rfl) (by decide) H5.out.2.2 ?_; intro v6 W6 ho hg; have H6 : Hid (W6.ownsRow M 40 5 v6 La6.length (fmL La6) ∧ Below M w W6 ∧ M ≤ W6.heap.size) := ⟨ho, H5.out.2.1.grown hg H5.out.2.2 (fun k hk => (H5.out.1.lt k hk).1), Nat.le_trans H5.out.2.2 hg.size⟩; clear ho hg)
  clear H5
  go_upto_region 8 with (at_builtin; refine appF (w := W6) (by rfl) _ _ (by rfl) M _ La6 [⟨31, 27, 0, 0, 73⟩, ⟨32, 27, 1, 0, 87⟩, ⟨33, 27, 5, 0, 87⟩, ⟨34, 27, 5, 32, 87⟩] (by rfl) H6.out.1 (by rfl) (by decide) H6.out.2.2 ?_; intro v7 W7 ho hg; have H7 : Hid (W7.ownsRow M 40 5 v7 La7.length (fmL La7) ∧ Below M w W7 ∧ M ≤ W7.heap.size) := ⟨ho, H6.out.2.1.grown hg H6.out.2.2 (fun k hk => (H6.out.1.lt k hk).1), Nat.le_trans H6.out.2.2 hg.size⟩; clear ho hg)
  clear H6
  go_upto_region 9 with (at_builtin; refine appF (w := W7) (by rfl) _ _ (by rfl) M _ La7 [⟨35, 51, 0, 0, 82⟩, ⟨36, 51, 0, 32, 82⟩, ⟨37, 51, 1, 0, 82⟩, ⟨38, 51, 2, 0, 82⟩, ⟨39, 51, 3, 0, 82⟩] (by rfl) H7.out.1 (by rfl) (by decide) H7.out.2.2 ?_; intro v8 W8 ho hg; have H8 : Hid (W8.ownsRow M 40 5 v8 La8.length (fmL La8) ∧ Below M w W8 ∧ M ≤ W8.heap.size) := ⟨ho, H7.out.2.1.grown hg H7.out.2.2 (fun k hk => (H7.out.1.lt k hk).1), Nat.le_trans H7.out.2.2 hg.size⟩; clear ho hg)
  clear H7
  go_upto_region 10 with (at_builtin; refine appF (w := W8) (by rfl) _ _ (by rfl) M _ La8 [⟨40, 51, 4, 0, 82⟩, ⟨41, 51, 5, 0, 82⟩, ⟨42, 51, 5, 32, 82⟩, ⟨43, 51, 6, 0, 82⟩, ⟨44, 51, 7, 0, 82⟩] (by rfl) H8.out.1 (by rfl) (by decide) H8.out.2.2 ?_; intro v9 W9 ho hg; have H9 : Hid (W9.ownsRow M 40 5 v9 La9.length (fmL La9) ∧ Below M w W9 ∧ M ≤ W9.heap.size) := ⟨ho, H8.out.2.1.grown hg H8.out.2.2 (fun k hk => (H8.out.1.lt k hk).1), Nat.le_trans H8.out.2.2 hg.size⟩; clear ho hg)
  clear H8
  go_upto_region 11 with (at_builtin; refine appF (w := W9) (by rfl) _ _ (by rfl) M _ La9 [⟨45, 59, 0, 0, 82⟩, ⟨46, 59, 0, 32, 82⟩, ⟨47, 59, 1, 0, 82⟩, ⟨48, 59, 5, 0, 82⟩, ⟨49, 59, 5, 32, 82⟩] (by rfl) H9.out.1 (by rfl) (by decide) H9.out.2.2 ?_; intro v10 W10 ho hg; have H10 : Hid (W10.ownsRow M 40 5 v10 La10.length (fmL La10) ∧ Below M w W10 ∧ M ≤ W10.heap.size) := ⟨ho, H9.out.2.1.grown hg H9.out.2.2 (fun k hk => (H9.out.1.lt k hk).1), Nat.le_trans H9.out.2.2 hg.size⟩; clear ho hg)
  clear H9
  go_upto_region 12 with (at_builtin; refine appF (w := W10) (by rfl) _ _ (by rfl) M _ La10 [⟨50, 15, 0, 0, 78⟩, ⟨51, 15, 1, 0, 78⟩] (by rfl) H10.out.1 (by rfl) (by decide) H10.out.2.2 ?_; intro v11 W11 ho hg; have H11 : Hid (W11.ownsRow M 40 5 v11 La11.length (fmL La11) ∧ Below M w W11 ∧ M ≤ W11.heap.size) := ⟨ho, H10.out.2.1.grown hg H10.out.2.2 (fun k hk => (H10.out.1.lt k hk).1), Nat.le_trans H10.out.2.2 hg.size⟩; clear ho hg)
  clear H10
  go_upto_region 13 with (at_builtin; refine appF (w := W11) (by rfl) _ _ (by rfl) M _ La11 [⟨52, 0, 0, 115, 90⟩, ⟨53, 0, 0, 1048691, 90⟩, ⟨54, 0, 0, 807403635, 90⟩, ⟨55, 0, 0, 273678451, 90⟩] (by rfl) H11.out.1 (by rfl) (by decide) H11.out.2.2 ?_; intro v12 W12 ho hg; have H12 : Hid (W12.ownsRow M 40 5 v12 La12.length (fmL La12) ∧ Below M w W12 ∧ M ≤ W12.heap.size) := ⟨ho, H11.out.2.1.grown hg H11.out.2.2 (fun k hk => (H11.out.1.lt k hk).1), Nat.le_trans H11.out.2.2 hg.size⟩; clear ho hg)
  clear H11
  go_upto_region 14 with (go_at_call 31; refine (fam_in M La12 _ W12 56 115 0 78 [1, 2, 3, 5, 6, 7] H12.out.1 H12.out.2.2 (by decide) (by decide)).mono ?_; rintro e W13 ⟨v13, rfl, ho, hb, hm⟩; have H13 : Hid (W13.ownsRow M 40 5 v13 La13.length (fmL La13) ∧ Below M w W13 ∧ M ≤ W13.heap.size) := ⟨ho, H12.out.2.1.trans hb, hm⟩; clear ho hb hm)
  clear H12
  go_upto_region 15 with (go_at_call 31; refine (fam_in M La13 _ W13 62 51 1 82 [0, 1, 2, 3, 4, 5, 6, 7] H13.out.1 H13.out.2.2 (by decide) (by decide)).mono ?_; rintro e W14 ⟨v14, rfl, ho, hb, hm⟩; have H14 : Hid (W14.ownsRow M 40 5 v14 La14.length (fmL La14) ∧ Below M w W14 ∧ M ≤ W14.heap.size) := ⟨ho, H13.out.2.1.trans hb, hm⟩; clear ho hb hm)
  clear H13
  go_upto_region 16 with (go_at_call 31; refine (fam_in M La14 _ W14 70 59 1 82 [0, 4, 5, 6, 7] H14.out.1 H14.out.2.2 (by decide) (by decide)).mono ?_; rintro e W15 ⟨v15, rfl, ho, hb, hm⟩; have H15 : Hid (W15.ownsRow M 40 5 v15 La15.length (fmL La15) ∧ Below M w W15 ∧ M ≤ W15.heap.size) := ⟨ho, H14.out.2.1.trans hb, hm⟩; clear ho hb hm)
  clear H14
  go_upto_region 17 with (go_at_call 32; refine (ato_in M La15 _ W15 75 2 H15.out.1 H15.out.2.2 (by decide) (by decide)).mono ?_; rintro e W16 ⟨v16, rfl, ho, hb, hm⟩; have H16 : Hid (W16.ownsRow M 40 5 v16 La16.length (fmL La16) ∧ Below M w W16 ∧ M ≤ W16.heap.size) := ⟨ho, H15.out.2.1.trans hb, hm⟩; clear ho hb hm)
  clear H15
  go_wp2_with (go_at_call 32; refine (ato_in M La16 _ W16 86 3 H16.out.1 H16.out.2.2 (by decide) (by decide)).mono ?_; rintro e W17 ⟨v17, rfl, ho, hb, hm⟩; have H17 : Hid (W17.ownsRow M 40 5 v17 La17.length (fmL La17) ∧ Below M w W17 ∧ M ≤ W17.heap.size) := ⟨ho, H16.out.2.1.trans hb, hm⟩; clear ho hb hm)
  go_ret
  exact ⟨v17, rfl, H17.out.1, H17.out.2.1⟩
/-- The first row of an operation; none: the empty one. -/
def fmOf (op : Int) : Fm := (FL.find? (fun x => x.op == op)).getD fm0
end Go.Proofs.Ytechkhlibdkmpac
