/-
  Ixf.
-/
import Derived.Test.YtheeogbmljjbdaaGreatDoorM32
import Derived.Test.YtheeogbmljjbdaaGreatDoorM33
import Derived.Test.YtheeogbmljjbdaaGreatDoorM35
namespace Go.Proofs.YtheeogbmljjbdaaGreatDoor
set_option linter.unusedVariables false
set_option maxRecDepth 100000
open Go.ChangeShapes Go.WideShapes Go.ChangeAt Go.RowKit Go.Deep
theorem sy_get {L : List Sy} {j : Nat} (h : j < L.length) : sy L j = L[j] := by unfold sy; simp [h]
theorem syl_set : ∀ (M : List Sy) (k : Nat) (y : Sy), syl (M.set k y) = ((syl M).set (k * 2) (.string y.s)).set (k * 2 + 1) (.int .u64 (n64 y.v))
  | [], k, y => by simp [syl]
  | m :: M, 0, y => by simp [syl, syv]
  | m :: M, k + 1, y => by
    have ih := syl_set M k y
    have e : (k + 1) * 2 = k * 2 + 1 + 1 := by omega
    have e1 : ∀ (m : Sy) (R : List Sy), syl (m :: R) = .string m.s :: .int .u64 (n64 m.v) :: syl R := fun m R => by simp [syl, syv]
    rw [List.set_cons_succ, e1, e1, e]
    simp only [List.set_cons_succ]
    rw [ih]
/-- One cell of a row of the call's own is written. -/
theorem own_set1 {w : World} {B e size g n cap : Nat} {xs : List Value} (h : w.ownsRow B e size (.slice (some ⟨g, 0, none⟩) n cap) n xs) (j : Nat) (hj : j < n * size) (u : Value) : (w.setCell ⟨g, j, none⟩ u).ownsRow B e size (.slice (some ⟨g, 0, none⟩) n cap) n (xs.set j u) := by
  refine ⟨by rw [List.length_set]; exact h.1, ?_⟩
  rcases h.2 with ⟨h', _⟩ | ⟨g', cap', cur, h', h1, h2, h3, h4, h5, h6⟩
  · cases h'
  · cases h'
    refine .inr ⟨g, cap, cur.setIfInBounds j u, rfl, h1, heap_setCell_same w g j cur e u h2, h3, h4, by rw [Array.size_setIfInBounds]; exact h5, ?_⟩
    rw [Array.toList_setIfInBounds, ← h6, List.take_set]
theorem own_setS {w : World} {B g n cap : Nat} {M : List Sy} (h : w.ownsRow B 87 2 (.slice (some ⟨g, 0, none⟩) n cap) n (syl M)) (k : Nat) (hk : k < n) (y : Sy) : ((w.setCell ⟨g, k * 2, none⟩ (.string y.s)).setCell ⟨g, k * 2 + 1, none⟩ (.int .u64 (n64 y.v))).ownsRow B 87 2 (.slice (some ⟨g, 0, none⟩) n cap) n (syl (M.set k y)) := by
  rw [syl_set]
  exact own_set1 (own_set1 h (k * 2) (by omega) _) (k * 2 + 1) (by omega) _
theorem own_cellsS {w : World} {B g n cap : Nat} {M : List Sy} (h : w.ownsRow B 87 2 (.slice (some ⟨g, 0, none⟩) n cap) n (syl M)) (hn : M.length = n) (j : Nat) (hj : j < n) : w.cell? ⟨g, j * 2, none⟩ = some (.string (sy M j).s) ∧ w.cell? ⟨g, j * 2 + 1, none⟩ = some (.int .u64 (n64 (sy M j).v)) := by
  have k : ∀ c, c < 2 → w.cell? ⟨g, j * 2 + c, none⟩ = (syv (sy M j))[c]? := fun c hc => by
    rw [h.cellAt (j * 2 + c) (by omega)]; exact syl_get M j c (by omega) hc
  exact ⟨k 0 (by omega), k 1 (by omega)⟩
theorem own_frozenS {w : World} {B e size g n cap : Nat} {xs : List Value} (h : w.ownsRow B e size (.slice (some ⟨g, 0, none⟩) n cap) n xs) (j : Nat) : w.frozen? ⟨g, j, none⟩ = false := by
  rcases h.2 with ⟨h', _⟩ | ⟨g', cap', cur, h', h1, h2, _⟩
  · cases h'
  · cases h'; exact frozen_of_row w g j _ _ h2
theorem own_lenS {w : World} {B n : Nat} {v : Value} {M : List Sy} (h : w.ownsRow B 87 2 v n (syl M)) : M.length = n := by
  have q := h.1
  rw [syl_length] at q
  omega
theorem ins_at {S : List Sy} {k : Nat} {z x : Sy} (hk : k ≤ S.length) : (S.take k ++ z :: S.drop k).set k x = S.take k ++ x :: S.drop k := by
  have e : (S.take k).length = k := by rw [List.length_take]; omega
  rw [List.set_append_right _ _ (by omega), e, Nat.sub_self]
  rfl
theorem ins_sy {S : List Sy} {k q : Nat} {z : Sy} (hk : k ≤ S.length) (hq : q < k) : sy (S.take k ++ z :: S.drop k) q = sy S q := by
  have e : (S.take k).length = k := by rw [List.length_take]; omega
  unfold sy
  rw [List.getD_eq_getElem?_getD, List.getD_eq_getElem?_getD, List.getElem?_append_left (by omega), List.getElem?_take_of_lt hq]
theorem ins_shift {S : List Sy} {k q : Nat} {z : Sy} (hk : k ≤ S.length) (hq : k = q + 1) : (S.take k ++ z :: S.drop k).set k (sy S q) = S.take q ++ sy S q :: S.drop q := by
  rw [ins_at hk]
  subst hq
  have h1 : q < S.length := by omega
  have h2 : S.drop q = S[q] :: S.drop (q + 1) := List.drop_eq_getElem_cons h1
  rw [List.take_succ_eq_append_getElem h1, sy_get h1, h2, List.append_assoc]
  rfl
theorem ins_len {S : List Sy} {k : Nat} {z : Sy} (hk : k ≤ S.length) : (S.take k ++ z :: S.drop k).length = S.length + 1 := by
  rw [List.length_append, List.length_take, List.length_cons, List.length_drop]; omega
theorem ahS_asym {x y : Sy} (h : ahS x y = true) : ahS y x = false := by
  rcases ahS_total y x with q | q
  · exact q
  · rw [h] at q; cases q
theorem sy_memS {S : List Sy} {j : Nat} (h : j < S.length) : sy S j ∈ S := by rw [sy_get h]; exact List.getElem_mem h
/-- A name put in at its place. -/
theorem ins_sorted {S : List Sy} {k : Nat} {x : Sy} (hs : S.Pairwise (fun x y => ahS y x = false)) (hk : k ≤ S.length) (hlo : k = 0 ∨ ahS x (sy S (k - 1)) = false) (hhi : ∀ j, k ≤ j → j < S.length → ahS x (sy S j) = true) : (S.take k ++ x :: S.drop k).Pairwise (fun x y => ahS y x = false) := by
  have hs2 := List.pairwise_iff_getElem.1 hs
  refine List.pairwise_append.2 ⟨hs.sublist (List.take_sublist _ _), List.pairwise_cons.2 ⟨fun y hy => ?_, hs.sublist (List.drop_sublist _ _)⟩, fun a ha y hy => ?_⟩
  · obtain ⟨j, hj, rfl⟩ := List.getElem_of_mem hy
    rw [List.length_drop] at hj
    rw [List.getElem_drop]
    have := hhi (k + j) (by omega) (by omega)
    rw [sy_get (by omega)] at this
    exact ahS_asym this
  · obtain ⟨i, hi, rfl⟩ := List.getElem_of_mem ha
    rw [List.length_take] at hi
    rw [List.getElem_take]
    have hx : ahS x S[i] = false := by
      rcases hlo with h | h
      · omega
      · rw [sy_get (by omega)] at h
        by_cases e : i = k - 1
        · subst e; exact h
        · exact ahS_trans (hs2 i (k - 1) (by omega) (by omega) (by omega)) h
    rcases List.mem_cons.1 hy with rfl | hy
    · exact hx
    · obtain ⟨j, hj, rfl⟩ := List.getElem_of_mem hy
      rw [List.length_drop] at hj
      rw [List.getElem_drop]
      exact hs2 i (k + j) (by omega) (by omega) (by omega)
theorem ins_perm {S N : List Sy} {k i : Nat} (hp : S.Perm (N.take i)) (hi : i < N.length) : (S.take k ++ sy N i :: S.drop k).Perm (N.take (i + 1)) := by
  rw [List.take_succ_eq_append_getElem hi, sy_get hi]
  refine (List.perm_middle).trans ?_
  rw [List.take_append_drop]
  exact (List.Perm.cons _ hp).trans (List.perm_append_comm (l₁ := [N[i]]) (l₂ := N.take i))
set_option maxHeartbeats 8000000 in
theorem rsorted_c (va : Value) (N : List Sy) (hN : N.length ≤ 400) (w : World) (ha : Sys w va N) :
    Calls Tryz.prog 37 #[va] w fun e w' => ∃ um un uc, e = .returned (.slice um un uc) ∧ w'.ownsRow w.heap.size 87 2 (.slice um un uc) (nSrt N).length (syl (nSrt N)) ∧ Below w.heap.size w w' := by
  have ha2 := ha
  obtain ⟨la, lc, rfl, hlc, _⟩ := ha
  have HS : Hid (∀ w', Below w.heap.size w w' → N ≠ [] → ∃ g off, la = some ⟨g, off, none⟩ ∧ ∀ j, j < N.length → w'.cell? ⟨g, off + j * 2, none⟩ = some (.string (sy N j).s) ∧ w'.cell? ⟨g, off + j * 2 + 1, none⟩ = some (.int .u64 (n64 (sy N j).v))) := fun w' hb hne => by
    obtain ⟨ad, cp, e, _, h2⟩ := ha2.later hb rfl
    cases e
    obtain ⟨g, off, h3, _, h4⟩ := h2 hne
    exact ⟨g, off, h3, h4⟩
  clear ha2
  have hNI : (N.length : Int) ≤ 400 := by omega
  obtain ⟨LL, hLL⟩ : ∃ LL, LL = N.length := ⟨_, rfl⟩
  rw [← hLL] at hNI hlc HS ⊢
  have HLL := Hid.mkI hLL
  clear hLL
  go_enter Tryz.func37, Tryz.ntmps37
  go_wp2
  go_loopw [4, 3] (fun x y wr => ∃ (i : Nat) (ym : Option Addr) (yc : Nat), i ≤ LL ∧ x = .int .i64 i ∧ y = .slice ym i yc ∧ Hid (wr.ownsRow w.heap.size 87 2 (.slice ym i yc) (nSrt (N.take i)).length (syl (nSrt (N.take i)))) ∧ Hid (Below w.heap.size w wr)) (fun x _ _ => LL - (intOf x).toNat)
  case atStart => exact ⟨0, none, 0, Nat.zero_le _, rfl, rfl, by rw [List.take_zero, nSrt_nil]; exact own_nilN _ _, Below.refl _ _⟩
  case round =>
    obtain ⟨i, ym, yc, hi, rfl, rfl, HO, HW⟩ := hrel
    by_cases hlt : i < LL
    · have hltI : (i : Int) < LL := by omega
      have HLT := Hid.mkI hlt
      have HLN : Hid (i < N.length) := by unfold Hid; rw [← HLL.out]; exact hlt
      have hSl : Hid ((nSrt (N.take i)).length = i) := by
        unfold Hid
        have hpp : (nSrt (N.take i)).Perm (N.take i) := List.mergeSort_perm _ _
        rw [hpp.length_eq, List.length_take]; have := HLN.out; omega
      have HSP := Hid.mkI (nSrt_pair (N.take i))
      have HPM : Hid ((nSrt (N.take i)).Perm (N.take i)) := List.mergeSort_perm _ _
      generalize nSrt (N.take i) = S at HO hSl HSP HPM
      obtain ⟨x, hx⟩ : ∃ x, x = sy N i := ⟨_, rfl⟩
      have HXE := Hid.mkI hx
      obtain ⟨gl, ol, rfl, hcl⟩ := HS.out wr HW.out (by intro e; have := HLN.out; rw [e] at this; simp at this)
      obtain ⟨c0, c1⟩ := hcl i hlt
      rw [← hx] at c0 c1
      have HCL : Hid (∀ wx, Below w.heap.size w wx → wx.cell? ⟨gl, ol + i * 2, none⟩ = some (.string x.s) ∧ wx.cell? ⟨gl, ol + i * 2 + 1, none⟩ = some (.int .u64 (n64 x.v))) := fun wx hb => by
        obtain ⟨g2, o2, e2, h2⟩ := HS.out wx hb (by intro e; have := HLN.out; rw [e] at this; simp at this)
        cases e2
        rw [hx]; exact h2 i HLT.out
      obtain ⟨xs, hxs⟩ : ∃ xs, xs = x.s := ⟨_, rfl⟩
      obtain ⟨xv, hxv⟩ : ∃ xv, xv = n64 x.v := ⟨_, rfl⟩
      have HXS := Hid.mkI hxs
      have HXV := Hid.mkI hxv
      rw [← hxs] at c0 HCL
      rw [← hxv] at c1 HCL
      clear hcl hx hxs hxv hlt
      go_upto_region 7 with (at_builtin; have A1 : (wr.alloc (.cells #[.string xs, .int .u64 xv] 87)).ownsRow w.heap.size 87 2 (.slice ym i yc) S.length (syl S) := own_below HO.out (below_al _); have A2 : (wr.alloc (.cells #[.string xs, .int .u64 xv] 87)).heap[wr.heap.size]? = some (.cells #[.string x.s, .int .u64 (n64 x.v)] 87 (0, 0)) := (by rw [← HXS.out, ← HXV.out]; exact heap_alloc_new wr _); have A3 : w.heap.size ≤ (wr.alloc (.cells #[.string xs, .int .u64 xv] 87)).heap.size := (by have := HW.out.size; simp; omega); refine appS (by rfl) _ _ (by rfl) w.heap.size (.slice ym i yc) S x (by rfl) A1 wr.heap.size (by rfl) A2 (by have := hSl.out; have := HLT.out; omega) A3 ?_; clear A1 A2 A3; intro v5 w5 ho5 hb5; have HO5 : Hid (w5.ownsRow w.heap.size 87 2 v5 (S ++ [x]).length (syl (S ++ [x]))) := ho5; have H5 : Hid (Below w.heap.size w w5) := (HW.out.alloc HW.out.size _).trans hb5; clear ho5 hb5)
      --@M1
      clear c0 c1
      obtain ⟨go, oc, hv5⟩ := Go.Joins.ownsRow_form HO5.out (by simp)
      have hl1 : (S ++ [x]).length = i + 1 := by rw [List.length_append, hSl.out]; rfl
      rw [hl1] at HO5 hv5
      subst hv5
      have HO6 : Hid (w5.ownsRow w.heap.size 87 2 (.slice (some ⟨go, 0, none⟩) (i + 1) oc) (i + 1) (syl (S.take i ++ x :: S.drop i))) := by
        unfold Hid
        have e1 : S.take i = S := by rw [← hSl.out]; exact List.take_length
        have e2 : S.drop i = [] := by rw [← hSl.out]; exact List.drop_length
        rw [e1, e2]; exact HO5.out
      have hgo : Hid (w.heap.size ≤ go) := by
        unfold Hid
        rcases HO5.out.2 with ⟨h', _⟩ | ⟨g', cap', cur, h', h1, _⟩
        · cases h'
        · cases h'; exact h1
      clear hl1 HO5
      go_wp2
      go_loopw [5] (fun z wx => ∃ (k : Nat) (y : Sy), Hid (k ≤ i) ∧ z = .int .i64 k ∧ Hid (wx.ownsRow w.heap.size 87 2 (.slice (some ⟨go, 0, none⟩) (i + 1) oc) (i + 1) (syl (S.take k ++ y :: S.drop k))) ∧ Hid (Below w.heap.size w wx) ∧ Hid (∀ j, k ≤ j → j < S.length → ahS x (sy S j) = true)) (fun z _ => (intOf z).toNat)
      case atStart => exact ⟨i, x, Nat.le_refl i, rfl, HO6, H5, fun j h1 h2 => by rw [hSl.out] at h2; omega⟩
      case round =>
        obtain ⟨k, y, hk, rfl, HK, HX, HH⟩ := hrel
        have hkI : (k : Int) < i + 1 := by have := hk.out; omega
        have hkS : Hid (k ≤ S.length) := by unfold Hid; rw [hSl.out]; exact hk.out
        have hml : Hid ((S.take k ++ y :: S.drop k).length = i + 1) := by unfold Hid; rw [ins_len hkS.out, hSl.out]
        obtain ⟨d0, d1⟩ := HCL.out wr HX.out
        rcases Nat.eq_zero_or_pos k with hk0 | hk0
        · have hkb : decide ((0 : Int) < k) = false := by simp; omega
          have hkn : decide (0 < k) = false := by simp; omega
          have HLO : Hid (k = 0 ∨ ahS x (sy S (k - 1)) = false) := .inl hk0
          clear hk0
          go_upto_region 7 with fail
          go_quiet (fail)
          go_upto_region 10 with fail
          refine on_w (motive := fun W => Code.wp _ _ _ _ W) (Q := fun W => Below w.heap.size w W ∧ W.ownsRow w.heap.size 87 2 (.slice (some ⟨go, 0, none⟩) (i + 1) oc) (i + 1) (syl (S.take k ++ y :: S.drop k))) ⟨below_drewX HX.out _, own_below HK.out (below_drewX (Below.refl _ _) _)⟩ ?_
          clear d0 d1
          rintro W9 ⟨s1, s2⟩
          have HX9 := Hid.mkI s1
          have HK9 := Hid.mkI s2
          clear s1 s2
          obtain ⟨d0, d1⟩ := HCL.out W9 HX9.out
          obtain ⟨v0, v1⟩ := own_cellsS HK9.out hml.out k (by have := hk.out; omega)
          have v2 := own_frozenS HK9.out (k * 2)
          have v3 := own_frozenS HK9.out (k * 2 + 1)
          go_upto_region 4 with fail
          have HK10 : Hid (((W9.setCell ⟨go, k * 2, none⟩ (.string xs)).setCell ⟨go, k * 2 + 1, none⟩ (.int .u64 xv)).ownsRow w.heap.size 87 2 (.slice (some ⟨go, 0, none⟩) (i + 1) oc) (nSrt (N.take (i + 1))).length (syl (nSrt (N.take (i + 1))))) := by
            unfold Hid
            have r := own_setS HK9.out k (by have := hk.out; omega) x
            rw [← HXS.out, ← HXV.out, ins_at hkS.out] at r
            have e := nSrt_unique (l := N.take (i + 1)) (l' := S.take k ++ x :: S.drop k) (by rw [HXE.out]; exact ins_perm HPM.out HLN.out) (ins_sorted HSP.out hkS.out HLO.out HH.out)
            rw [e] at r
            have e2 := own_lenS r
            rw [e2]; exact r
          have HX10 : Hid (Below w.heap.size w ((W9.setCell ⟨go, k * 2, none⟩ (.string xs)).setCell ⟨go, k * 2 + 1, none⟩ (.int .u64 xv))) := (HX9.out.setCell (p := ⟨go, k * 2, none⟩) hgo.out _).setCell (p := ⟨go, k * 2 + 1, none⟩) hgo.out _
          clear d0 d1 v0 v1 v2 v3
          go_wp2
          go_roundw
          case rel => exact ⟨i + 1, some ⟨go, 0, none⟩, oc, HLT.out, by go_num, rfl, HK10, HX10⟩
          case measure => simp [intOf]; have := HLT.out; omega
        · have hkb : decide ((0 : Int) < k) = true := by simp; omega
          have hkn : decide (0 < k) = true := by simp; omega
          obtain ⟨q, hq⟩ : ∃ q, k = q + 1 := ⟨k - 1, by omega⟩
          have hqI : (k : Int) - 1 = q := by omega
          have hqi : (q : Int) < i + 1 := by have := hk.out; omega
          obtain ⟨e0, e1⟩ := own_cellsS HK.out hml.out q (by have := hk.out; omega)
          rw [ins_sy hkS.out (by omega)] at e0 e1
          have cBH : Hid (∀ wx, Calls Tryz.prog 65 #[.agg #[.string xs, .int .u64 xv], .agg #[.string (sy S q).s, .int .u64 (n64 (sy S q).v)]] wx fun e w' => e = .returned (.bool (ahS x (sy S q))) ∧ Below wx.heap.size wx w') := fun wx => by rw [HXS.out, HXV.out]; exact behind_c x.s (sy S q).s x.v (sy S q).v wx
          have HQ := Hid.mkI hq
          have HSH : Hid (∀ W : World, W.ownsRow w.heap.size 87 2 (.slice (some ⟨go, 0, none⟩) (i + 1) oc) (i + 1) (syl (S.take k ++ y :: S.drop k)) → ((W.setCell ⟨go, k * 2, none⟩ (.string (sy S q).s)).setCell ⟨go, k * 2 + 1, none⟩ (.int .u64 (n64 (sy S q).v))).ownsRow w.heap.size 87 2 (.slice (some ⟨go, 0, none⟩) (i + 1) oc) (i + 1) (syl (S.take q ++ sy S q :: S.drop q))) := fun W h => by
            have r := own_setS h k (by have := hk.out; omega) (sy S q)
            rwa [ins_shift hkS.out HQ.out] at r
          obtain ⟨b, hb⟩ : ∃ b, b = ahS x (sy S q) := ⟨_, rfl⟩
          rw [← hb] at cBH
          have HBB := Hid.mkI hb
          obtain ⟨Q0, hQ0⟩ : ∃ Q0, Q0 = sy S q := ⟨_, rfl⟩
          obtain ⟨ys, hys⟩ : ∃ ys, ys = (sy S q).s := ⟨_, rfl⟩
          obtain ⟨yv, hyv⟩ : ∃ yv, yv = n64 (sy S q).v := ⟨_, rfl⟩
          rw [← hys] at e0 cBH HSH
          rw [← hyv] at e1 cBH HSH
          rw [← hQ0] at HSH
          have HQ0 := Hid.mkI hQ0
          clear hb hq hk0 hys hyv hQ0
          have := later_nonempty wr
          have hd0 : ∀ x' : Later wr, x'.1.cell? ⟨gl, ol + i * 2, none⟩ = some (.string xs) := fun x' => (HCL.out x'.1 (HX.out.trans (x'.below.mono HX.out.size))).1
          have hd1 : ∀ x' : Later wr, x'.1.cell? ⟨gl, ol + i * 2 + 1, none⟩ = some (.int .u64 xv) := fun x' => (HCL.out x'.1 (HX.out.trans (x'.below.mono HX.out.size))).2
          have hgw : go < wr.heap.size := (HK.out.lt go rfl).2
          have he0 : ∀ x' : Later wr, x'.1.cell? ⟨go, q * 2, none⟩ = some (.string ys) := fun x' => (x'.below.cell (p := ⟨go, q * 2, none⟩) hgw).trans e0
          have he1 : ∀ x' : Later wr, x'.1.cell? ⟨go, q * 2 + 1, none⟩ = some (.int .u64 yv) := fun x' => (x'.below.cell (p := ⟨go, q * 2 + 1, none⟩) hgw).trans e1
          clear d0 d1 e0 e1
          cases b with
          | true =>
            have HH2 : Hid (∀ j, q ≤ j → j < S.length → ahS x (sy S j) = true) := fun j h1 h2 => by
              by_cases e : j = q
              · rw [e]; exact HBB.out.symm
              · exact HH.out j (by have := HQ.out; omega) h2
            go_upto_region 7 with fail
            refine wp_region_later (x0 := Later.start wr) (by kernel_rfl) (by kernel_rfl) ?_
            repeat (go_big_quiet_step (first | (go_at_call 65; exact calls_later (cBH.out _))))
            refine wpQuiet_nil ?_
            rintro w' ⟨x9, rfl⟩
            --@M2
            have HX9 : Hid (Below w.heap.size w x9.1) := HX.out.trans (x9.below.mono HX.out.size)
            have HK9 : Hid (x9.1.ownsRow w.heap.size 87 2 (.slice (some ⟨go, 0, none⟩) (i + 1) oc) (i + 1) (syl (S.take k ++ y :: S.drop k))) := own_below HK.out x9.below
            have u0 := he0 x9
            have u1 := he1 x9
            obtain ⟨v0, v1⟩ := own_cellsS HK9.out hml.out k (by have := hk.out; omega)
            have v2 := own_frozenS HK9.out (k * 2)
            have v3 := own_frozenS HK9.out (k * 2 + 1)
            generalize x9.1 = W9 at *
            clear hd0 hd1 he0 he1
            go_upto_region 9 with fail
            --@M3
            have HK10 : Hid (((W9.setCell ⟨go, k * 2, none⟩ (.string ys)).setCell ⟨go, k * 2 + 1, none⟩ (.int .u64 yv)).ownsRow w.heap.size 87 2 (.slice (some ⟨go, 0, none⟩) (i + 1) oc) (i + 1) (syl (S.take q ++ Q0 :: S.drop q))) := HSH.out W9 HK9.out
            have HX10 : Hid (Below w.heap.size w ((W9.setCell ⟨go, k * 2, none⟩ (.string ys)).setCell ⟨go, k * 2 + 1, none⟩ (.int .u64 yv))) := (HX9.out.setCell (p := ⟨go, k * 2, none⟩) hgo.out _).setCell (p := ⟨go, k * 2 + 1, none⟩) hgo.out _
            go_wp2
            go_roundw
            case rel => exact ⟨q, Q0, by unfold Hid; have := hk.out; have := HQ.out; omega, rfl, HK10, HX10, HH2⟩
            case measure => simp [intOf]; have := HQ.out; omega
          | false =>
            have HLO : Hid (k = 0 ∨ ahS x (sy S (k - 1)) = false) := .inr (by rw [show k - 1 = q by have := HQ.out; omega]; exact HBB.out.symm)
            go_upto_region 7 with fail
            refine wp_region_later (x0 := Later.start wr) (by kernel_rfl) (by kernel_rfl) ?_
            repeat (go_big_quiet_step (first | (go_at_call 65; exact calls_later (cBH.out _))))
            refine wpQuiet_nil ?_
            rintro w' ⟨x9, rfl⟩
            have HX9 : Hid (Below w.heap.size w x9.1) := HX.out.trans (x9.below.mono HX.out.size)
            have HK9 : Hid (x9.1.ownsRow w.heap.size 87 2 (.slice (some ⟨go, 0, none⟩) (i + 1) oc) (i + 1) (syl (S.take k ++ y :: S.drop k))) := own_below HK.out x9.below
            generalize x9.1 = W9 at *
            clear hd0 hd1 he0 he1
            obtain ⟨d0, d1⟩ := HCL.out W9 HX9.out
            obtain ⟨v0, v1⟩ := own_cellsS HK9.out hml.out k (by have := hk.out; omega)
            have v2 := own_frozenS HK9.out (k * 2)
            have v3 := own_frozenS HK9.out (k * 2 + 1)
            go_upto_region 4 with fail
            have HK10 : Hid (((W9.setCell ⟨go, k * 2, none⟩ (.string xs)).setCell ⟨go, k * 2 + 1, none⟩ (.int .u64 xv)).ownsRow w.heap.size 87 2 (.slice (some ⟨go, 0, none⟩) (i + 1) oc) (nSrt (N.take (i + 1))).length (syl (nSrt (N.take (i + 1))))) := by
              unfold Hid
              have r := own_setS HK9.out k (by have := hk.out; omega) x
              rw [← HXS.out, ← HXV.out, ins_at hkS.out] at r
              have e := nSrt_unique (l := N.take (i + 1)) (l' := S.take k ++ x :: S.drop k) (by rw [HXE.out]; exact ins_perm HPM.out HLN.out) (ins_sorted HSP.out hkS.out HLO.out HH.out)
              rw [e] at r
              have e2 := own_lenS r
              rw [e2]; exact r
            have HX10 : Hid (Below w.heap.size w ((W9.setCell ⟨go, k * 2, none⟩ (.string xs)).setCell ⟨go, k * 2 + 1, none⟩ (.int .u64 xv))) := (HX9.out.setCell (p := ⟨go, k * 2, none⟩) hgo.out _).setCell (p := ⟨go, k * 2 + 1, none⟩) hgo.out _
            clear d0 d1 v0 v1 v2 v3
            go_wp2
            go_roundw
            case rel => exact ⟨i + 1, some ⟨go, 0, none⟩, oc, HLT.out, by go_num, rfl, HK10, HX10⟩
            case measure => simp [intOf]; have := HLT.out; omega
    · obtain rfl : i = LL := by omega
      go_wp2
      go_ret
      have e : N.take i = N := by rw [HLL.out]; exact List.take_length
      refine ⟨ym, i, yc, rfl, ?_, HW.out⟩
      have q := HO.out
      rw [e] at q
      exact q
end Go.Proofs.YtheeogbmljjbdaaGreatDoor
