/-
  Hb Hc.
-/
import Derived.Test.YtgblpjkpeihpeaaM11
namespace Go.Proofs.Ytgblpjkpeihpeaa
set_option linter.unusedVariables false
set_option maxRecDepth 100000
open Go.ChangeShapes Go.WideShapes Go.ChangeAt Go.RowKit Go.Deep
theorem whc_cell (K : Cp) (S : St) (vr vi vo : Value) (w : World) (j : Nat) (v : Value) (h : (stc S vr vi vo)[j]? = some v) : (w.alloc (.cells (whc K S vr vi vo) 37)).cell? ⟨w.heap.size, 82 + j, none⟩ = some v := by
  rw [cell_of_row _ _ _ _ _ _ (alloc_at w _)]; exact whc_b K S vr vi vo j v h
theorem info_bst (S : St) (vr vi vo : Value) : (Try.prog.info? 35).map (·.size) = some (stc S vr vi vo).size := by kernel_rfl
theorem info_wh (K : Cp) (S : St) (vr vi vo : Value) : (Try.prog.info? 37).map (·.size) = some (whc K S vr vi vo).size := by rw [whc_size]; kernel_rfl
theorem rchk_c (K : Cp) (S : St) (ar ai ao : Option Addr) (cr ci co : Nat) (w : World) :
    Calls Try.prog 9 #[.agg (whc K S (.slice ar S.ram.length cr) (.slice ai S.inp.length ci) (.slice ao S.out.length co))] w fun e w' => e = .returned (.int .i64 (if S.ok then 0 else 162)) ∧ Below w.heap.size w w' := by
  have hC := rcanBe_c S ar ai ao cr ci co
  have HL : Hid _ := whc_cell K S (.slice ar S.ram.length cr) (.slice ai S.inp.length ci) (.slice ao S.out.length co) w
  have HI : Hid _ := info_bst S (.slice ar S.ram.length cr) (.slice ai S.inp.length ci) (.slice ao S.out.length co)
  generalize whc K S (.slice ar S.ram.length cr) (.slice ai S.inp.length ci) (.slice ao S.out.length co) = C at HL ⊢
  generalize stc S (.slice ar S.ram.length cr) (.slice ai S.inp.length ci) (.slice ao S.out.length co) = B at HL HI hC
  cases hok : S.ok with
  | true =>
    rw [hok] at hC
    go_enter Try.func9, Try.ntmps9
    go_wp2_with (first | (refine wpList_load_agg (by rfl) 35 _ (by rfl) w.heap.size 82 (by rfl) B _ HL.out Try.underlying35 (by rfl) HI.out ?_) | (go_at_call 19; refine (hC _).mono ?_; rintro e w1 ⟨rfl, hb1⟩))
    go_ret
    exact ⟨rfl, box_below hb1⟩
  | false =>
    rw [hok] at hC
    go_enter Try.func9, Try.ntmps9
    go_wp2_with (first | (refine wpList_load_agg (by rfl) 35 _ (by rfl) w.heap.size 82 (by rfl) B _ HL.out Try.underlying35 (by rfl) HI.out ?_) | (go_at_call 19; refine (hC _).mono ?_; rintro e w1 ⟨rfl, hb1⟩))
    go_ret
    exact ⟨rfl, box_below hb1⟩
theorem schk_c (K : Cp) (S : St) (ar ai ao : Option Addr) (cr ci co : Nat) (w : World) (hs : Bs S (.slice ar S.ram.length cr) (.slice ai S.inp.length ci) (.slice ao S.out.length co) w)
    (lr : S.ram.length ≤ 140737488355328) (li : S.inp.length ≤ 140737488355328) (lo : S.out.length ≤ 140737488355328) :
    Calls Try.prog 7 #[.agg (whc K S (.slice ar S.ram.length cr) (.slice ai S.inp.length ci) (.slice ao S.out.length co))] w fun e w' => e = .returned (.int .i64 (if S.ok then 0 else 162)) ∧ Below w.heap.size w w' := by
  have HL : Hid _ := whc_cell K S (.slice ar S.ram.length cr) (.slice ai S.inp.length ci) (.slice ao S.out.length co) w
  have HI : Hid _ := info_bst S (.slice ar S.ram.length cr) (.slice ai S.inp.length ci) (.slice ao S.out.length co)
  have hC : ∀ o, Calls Try.prog 18 #[.agg (stc S (.slice ar S.ram.length cr) (.slice ai S.inp.length ci) (.slice ao S.out.length co))] (w.alloc o) fun e w' => (∃ b, e = .returned (.tuple #[b, .int .i64 (if S.ok then 0 else 31)])) ∧ Below (w.alloc o).heap.size (w.alloc o) w' := by
    intro o
    have hs1 := hs.later ((Below.refl w.heap.size w).alloc (Nat.le_refl _) o)
    cases hok : S.ok with
    | true => exact (from_c S ar ai ao cr ci co _ hok hs1.r hs1.i hs1.o lr li lo).mono fun e w1 ⟨L, h1, _, h2⟩ => ⟨⟨_, h1⟩, h2⟩
    | false => exact (from_bad S ar ai ao cr ci co _ hok).mono fun e w1 ⟨h1, h2⟩ => ⟨⟨_, h1⟩, h2⟩
  clear hs
  generalize whc K S (.slice ar S.ram.length cr) (.slice ai S.inp.length ci) (.slice ao S.out.length co) = C at HL ⊢
  generalize stc S (.slice ar S.ram.length cr) (.slice ai S.inp.length ci) (.slice ao S.out.length co) = B at HL HI hC
  cases hok : S.ok with
  | true =>
    rw [hok] at hC
    go_enter Try.func7, Try.ntmps7
    go_wp2_with (first | (refine wpList_load_agg (by rfl) 35 _ (by rfl) w.heap.size 82 (by rfl) B _ HL.out Try.underlying35 (by rfl) HI.out ?_) | (go_at_call 18; refine (hC _).mono ?_; rintro e w1 ⟨⟨b1, rfl⟩, hb1⟩))
    go_ret
    exact ⟨rfl, box_below hb1⟩
  | false =>
    rw [hok] at hC
    go_enter Try.func7, Try.ntmps7
    go_wp2_with (first | (refine wpList_load_agg (by rfl) 35 _ (by rfl) w.heap.size 82 (by rfl) B _ HL.out Try.underlying35 (by rfl) HI.out ?_) | (go_at_call 18; refine (hC _).mono ?_; rintro e w1 ⟨⟨b1, rfl⟩, hb1⟩))
    go_ret
    exact ⟨rfl, box_below hb1⟩
end Go.Proofs.Ytgblpjkpeihpeaa
namespace Go.Proofs.Ytgblpjkpeihpeaa
set_option linter.unusedVariables false
set_option maxRecDepth 100000
open Go.ChangeShapes Go.WideShapes Go.ChangeAt Go.RowKit Go.Deep
theorem Hid.mk' {p : Prop} (h : p) : Hid p := h
theorem on_W {motive Q : World → Prop} {w : World} (h : Q w) (k : ∀ W, Q W → motive W) : motive w := k w h
theorem below_al (w : World) (o : Obj) : Below w.heap.size w (w.alloc o) := (Below.refl _ _).alloc (Nat.le_refl _) o
def zS : St := ⟨[], 0, 0, 0, false, false, 0, 0, 0, 0, false, [], [], 0, 0⟩
def whz : Array Value := whc cz zS (.slice none 0 0) (.slice none 0 0) (.slice none 0 0)
theorem zero_wh (w : World) : (zeroValue 37).run Try.prog w = .ok (.agg whz) w := by kernel_rfl
theorem whz_size (K : Cp) (S : St) (vr vi vo : Value) : whz.size = (whc K S vr vi vo).size := by unfold whz; rw [whc_size, whc_size]
theorem whc_setr (K : Cp) (S : St) (vr vi vo u : Value) : (whc K S vr vi vo).setIfInBounds 82 u = whc K S u vi vo := by
  unfold whc
  rw [List.setIfInBounds_toArray, List.set_append_right _ _ (by rw [Array.length_toList, cpc_size]; omega), Array.length_toList, cpc_size]; rfl
theorem whc_seti (K : Cp) (S : St) (vr vi vo u : Value) : (whc K S vr vi vo).setIfInBounds 93 u = whc K S vr u vo := by
  unfold whc
  rw [List.setIfInBounds_toArray, List.set_append_right _ _ (by rw [Array.length_toList, cpc_size]; omega), Array.length_toList, cpc_size]; rfl
theorem whc_seto (K : Cp) (S : St) (vr vi vo u : Value) : (whc K S vr vi vo).setIfInBounds 94 u = whc K S vr vi u := by
  unfold whc
  rw [List.setIfInBounds_toArray, List.set_append_right _ _ (by rw [Array.length_toList, cpc_size]; omega), Array.length_toList, cpc_size]; rfl
theorem whc_ones (K : Cp) (S : St) (a b c : Option Addr) (n1 n2 n3 c1 c2 c3 : Nat) : (whc K S (.slice a n1 c1) (.slice b n2 c2) (.slice c n3 c3)).all (·.oneCell') = true := by
  unfold whc
  have h1 := cpc_ones K
  have h2 : (stc S (.slice a n1 c1) (.slice b n2 c2) (.slice c n3 c3)).all (·.oneCell') = true := by kernel_rfl
  rw [Array.all_toList.symm] at h1 h2 ⊢
  rw [List.all_append, h1, h2]; rfl
set_option maxHeartbeats 2000000 in
theorem twin_c (K : Cp) (S : St) (ar ai ao : Option Addr) (cr ci co : Nat) (w : World) (hs : Bs S (.slice ar S.ram.length cr) (.slice ai S.inp.length ci) (.slice ao S.out.length co) w)
    (lr : S.ram.length ≤ 140737488355328) (li : S.inp.length ≤ 140737488355328) (lo : S.out.length ≤ 140737488355328) :
    Calls Try.prog 8 #[.agg (whc K S (.slice ar S.ram.length cr) (.slice ai S.inp.length ci) (.slice ao S.out.length co))] w fun e w' => ∃ ur ui uo, e = .returned (.agg (whc K S ur ui uo)) ∧ Sv w.heap.size S ur ui uo w' ∧ Below w.heap.size w w' := by
  have hz := zero_wh
  obtain ⟨W0, hW0, r0, r1, b0, s0⟩ := start2 w (whc K S (.slice ar S.ram.length cr) (.slice ai S.inp.length ci) (.slice ao S.out.length co)) whz 37 37
  go_enter Try.func8, Try.ntmps8
  go_upto_region 1 with fail
  have HR0 := Hid.mk' r0.out
  have HR1 := Hid.mk' r1.out
  have HB0 := Hid.mk' b0.out
  have HS0 := Hid.mk' (hs.later b0.out)
  have HSL : Hid (∀ W', Below w.heap.size w W' → Bs S (.slice ar S.ram.length cr) (.slice ai S.inp.length ci) (.slice ao S.out.length co) W') := fun W' hb => hs.later hb
  have e2 : w.heap.size + 2 ≤ W0.heap.size := by omega
  clear hz hW0 s0 r0 r1 b0 HS0 hs
  -- ram
  have HW : Hid ((W0.alloc (.cells #[] 5)).ownsRow W0.heap.size 5 1 (.slice (some ⟨W0.heap.size, 0, none⟩) 0 0) 0 (bv [])) := World.ownsRow_made W0 #[] 0 (Nat.le_refl _) (Nat.zero_le _) rfl
  have HBa : Hid (Below w.heap.size w (W0.alloc (.cells #[] 5))) := HB0.out.trans ((below_al _ _).mono HB0.out.size)
  have cA : (W0.alloc (.cells #[] 5)).cell? ⟨w.heap.size, 82, none⟩ = some (.slice ar S.ram.length cr) := ((HR0.out.old HR0.out.lt _).cell 82).trans (whc_b K S _ _ _ 0 _ rfl)
  go_upto_region 2 with (at_builtin; go_loud (refine appL (by rfl) _ _ (by rfl) W0.heap.size _ _ [] S.ram (by rfl) HW.out (by rfl) (HSL.out _ HBa.out).r (by simpa using lr) (by simp) ?_; intro v0 x0 hown hg; obtain ⟨xa0, ya0, za0, rfl⟩ := own_one hown; have HX := Hid.mk' (((Below.refl W0.heap.size W0).alloc (Nat.le_refl _) (.cells #[] 5)).grown hg (by simp) (fun k hk => by cases hk; exact Nat.le_refl _)); have HRx := Hid.mk' (HR0.out.later HX.out HR0.out.lt); have cB : x0.cell? ⟨w.heap.size, 82, none⟩ = some (.slice ar S.ram.length cr) := (HRx.out.cell 82).trans (whc_b K S _ _ _ 0 _ rfl); have fB := HRx.out.froz 82; have HO := Hid.mk' hown; clear hown hg))
  refine on_W (motive := fun W => Code.wp _ _ _ _ W) (Q := fun W => Row W w.heap.size (whc K S (.slice xa0 ya0 za0) (.slice ai S.inp.length ci) (.slice ao S.out.length co)) 37 ∧ Row W (w.heap.size + 1) whz 37 ∧ Below w.heap.size w W ∧ w.heap.size + 2 ≤ W.heap.size ∧ W.ownsRow (w.heap.size + 2) 5 1 (.slice xa0 ya0 za0) S.ram.length (bv S.ram))
    ⟨by have r := HRx.out.put (i := 82) (.slice xa0 ya0 za0); rw [whc_setr] at r; exact r, (HR1.out.later HX.out HR1.out.lt).other (by omega) _, below_put (HB0.out.trans (HX.out.mono HB0.out.size)) (Nat.le_refl _) _, by have := HX.out.size; simp; omega, own_set (own_le HO.out (by omega)) (by omega)⟩ ?_
  clear HW HBa cA HX HRx cB fB HO HR0 HR1 HB0 e2
  rintro W1 ⟨r0, r1, b0, e2, u0⟩
  have HR0 := Hid.mk' r0
  have HR1 := Hid.mk' r1
  have HB0 := Hid.mk' b0
  have HU0 := Hid.mk' u0
  clear r0 r1 b0 u0
  -- inp
  have HW : Hid ((W1.alloc (.cells #[] 5)).ownsRow W1.heap.size 5 1 (.slice (some ⟨W1.heap.size, 0, none⟩) 0 0) 0 (bv [])) := World.ownsRow_made W1 #[] 0 (Nat.le_refl _) (Nat.zero_le _) rfl
  have HBa : Hid (Below w.heap.size w (W1.alloc (.cells #[] 5))) := HB0.out.trans ((below_al _ _).mono HB0.out.size)
  have cA : (W1.alloc (.cells #[] 5)).cell? ⟨w.heap.size, 93, none⟩ = some (.slice ai S.inp.length ci) := ((HR0.out.old HR0.out.lt _).cell 93).trans (whc_b K S _ _ _ 11 _ rfl)
  go_upto_region 3 with (at_builtin; go_loud (refine appL (by rfl) _ _ (by rfl) W1.heap.size _ _ [] S.inp (by rfl) HW.out (by rfl) (HSL.out _ HBa.out).i (by simpa using li) (by simp) ?_; intro v1 x1 hown hg; obtain ⟨xa1, ya1, za1, rfl⟩ := own_one hown; have HX := Hid.mk' (((Below.refl W1.heap.size W1).alloc (Nat.le_refl _) (.cells #[] 5)).grown hg (by simp) (fun k hk => by cases hk; exact Nat.le_refl _)); have HRx := Hid.mk' (HR0.out.later HX.out HR0.out.lt); have cB : x1.cell? ⟨w.heap.size, 93, none⟩ = some (.slice ai S.inp.length ci) := (HRx.out.cell 93).trans (whc_b K S _ _ _ 11 _ rfl); have fB := HRx.out.froz 93; have HO := Hid.mk' hown; clear hown hg))
  have HA01 : Hid (∀ g, (Value.slice xa0 ya0 za0).ownBlock = some g → (Value.slice xa1 ya1 za1).ownBlock ≠ some g) := own_apart HU0.out HO.out (Nat.le_refl _)
  refine on_W (motive := fun W => Code.wp _ _ _ _ W) (Q := fun W => Row W w.heap.size (whc K S (.slice xa0 ya0 za0) (.slice xa1 ya1 za1) (.slice ao S.out.length co)) 37 ∧ Row W (w.heap.size + 1) whz 37 ∧ Below w.heap.size w W ∧ w.heap.size + 2 ≤ W.heap.size ∧ W.ownsRow (w.heap.size + 2) 5 1 (.slice xa0 ya0 za0) S.ram.length (bv S.ram) ∧ W.ownsRow (w.heap.size + 2) 5 1 (.slice xa1 ya1 za1) S.inp.length (bv S.inp))
    ⟨by have r := HRx.out.put (i := 93) (.slice xa1 ya1 za1); rw [whc_seti] at r; exact r, (HR1.out.later HX.out HR1.out.lt).other (by omega) _, below_put (HB0.out.trans (HX.out.mono HB0.out.size)) (Nat.le_refl _) _, by have := HX.out.size; simp; omega, own_set (own_later HU0.out HX.out rfl) (by omega), own_set (own_le HO.out (by omega)) (by omega)⟩ ?_
  clear HW HBa cA HX HRx cB fB HO HR0 HR1 HB0 e2 HU0
  rintro W2 ⟨r0, r1, b0, e2, u0, u1⟩
  have HR0 := Hid.mk' r0
  have HR1 := Hid.mk' r1
  have HB0 := Hid.mk' b0
  have HU0 := Hid.mk' u0
  have HU1 := Hid.mk' u1
  clear r0 r1 b0 u0 u1
  -- out
  have HW : Hid ((W2.alloc (.cells #[] 5)).ownsRow W2.heap.size 5 1 (.slice (some ⟨W2.heap.size, 0, none⟩) 0 0) 0 (bv [])) := World.ownsRow_made W2 #[] 0 (Nat.le_refl _) (Nat.zero_le _) rfl
  have HBa : Hid (Below w.heap.size w (W2.alloc (.cells #[] 5))) := HB0.out.trans ((below_al _ _).mono HB0.out.size)
  have cA : (W2.alloc (.cells #[] 5)).cell? ⟨w.heap.size, 94, none⟩ = some (.slice ao S.out.length co) := ((HR0.out.old HR0.out.lt _).cell 94).trans (whc_b K S _ _ _ 12 _ rfl)
  go_upto_region 4 with (at_builtin; go_loud (refine appL (by rfl) _ _ (by rfl) W2.heap.size _ _ [] S.out (by rfl) HW.out (by rfl) (HSL.out _ HBa.out).o (by simpa using lo) (by simp) ?_; intro v2 x2 hown hg; obtain ⟨xa2, ya2, za2, rfl⟩ := own_one hown; have HX := Hid.mk' (((Below.refl W2.heap.size W2).alloc (Nat.le_refl _) (.cells #[] 5)).grown hg (by simp) (fun k hk => by cases hk; exact Nat.le_refl _)); have HRx := Hid.mk' (HR0.out.later HX.out HR0.out.lt); have cB : x2.cell? ⟨w.heap.size, 94, none⟩ = some (.slice ao S.out.length co) := (HRx.out.cell 94).trans (whc_b K S _ _ _ 12 _ rfl); have fB := HRx.out.froz 94; have HO := Hid.mk' hown; clear hown hg))
  have HA02 : Hid (∀ g, (Value.slice xa0 ya0 za0).ownBlock = some g → (Value.slice xa2 ya2 za2).ownBlock ≠ some g) := own_apart HU0.out HO.out (Nat.le_refl _)
  have HA12 : Hid (∀ g, (Value.slice xa1 ya1 za1).ownBlock = some g → (Value.slice xa2 ya2 za2).ownBlock ≠ some g) := own_apart HU1.out HO.out (Nat.le_refl _)
  refine on_W (motive := fun W => Code.wp _ _ _ _ W) (Q := fun W => Row W w.heap.size (whc K S (.slice xa0 ya0 za0) (.slice xa1 ya1 za1) (.slice xa2 ya2 za2)) 37 ∧ Row W (w.heap.size + 1) whz 37 ∧ Below w.heap.size w W ∧ w.heap.size + 2 ≤ W.heap.size ∧ W.ownsRow (w.heap.size + 2) 5 1 (.slice xa0 ya0 za0) S.ram.length (bv S.ram) ∧ W.ownsRow (w.heap.size + 2) 5 1 (.slice xa1 ya1 za1) S.inp.length (bv S.inp) ∧ W.ownsRow (w.heap.size + 2) 5 1 (.slice xa2 ya2 za2) S.out.length (bv S.out))
    ⟨by have r := HRx.out.put (i := 94) (.slice xa2 ya2 za2); rw [whc_seto] at r; exact r, (HR1.out.later HX.out HR1.out.lt).other (by omega) _, below_put (HB0.out.trans (HX.out.mono HB0.out.size)) (Nat.le_refl _) _, by have := HX.out.size; simp; omega, own_set (own_later HU0.out HX.out rfl) (by omega), own_set (own_later HU1.out HX.out rfl) (by omega), own_set (own_le HO.out (by omega)) (by omega)⟩ ?_
  clear HW HBa cA HX HRx cB fB HO HR0 HR1 HB0 e2 HU0 HU1
  rintro W3 ⟨r0, r1, b0, e2, u0, u1, u2⟩
  have HR0 := Hid.mk' r0
  have HR1 := Hid.mk' r1
  have HB0 := Hid.mk' b0
  have HU0 := Hid.mk' u0
  have HU1 := Hid.mk' u1
  have HU2 := Hid.mk' u2
  clear r0 r1 b0 u0 u1 u2
  have HI : Hid ((Try.prog.info? 37).map (·.size) = some (whc K S (.slice xa0 ya0 za0) (.slice xa1 ya1 za1) (.slice xa2 ya2 za2)).size) := info_wh _ _ _ _ _
  have HON : Hid ((whc K S (.slice xa0 ya0 za0) (.slice xa1 ya1 za1) (.slice xa2 ya2 za2)).all (·.oneCell') = true) := whc_ones _ _ _ _ _ _ _ _ _ _ _
  generalize hcs : whc K S (.slice xa0 ya0 za0) (.slice xa1 ya1 za1) (.slice xa2 ya2 za2) = cs at HR0 HI HON
  have HZ2 : Hid (whz.size = cs.size) := by rw [← hcs]; exact whz_size _ _ _ _ _
  go_wp2_with (first | (refine wpList_load_row (by rfl) _ _ (by rfl) _ (by rfl) 37 _ (0, 0) _ HR0.out Try.underlying37 (by rfl) HI.out ?_) | (refine wpList_store_row (by rfl) _ _ _ (by rfl) (by rfl) _ _ _ (by rfl) (by rfl) HR1.out HI.out HZ2.out HON.out ?_))
  refine bodyPost_ret (v := .agg cs) (results_cell_row Try.results8 _ _ (w.heap.size + 1) 37 _ (0, 0) _ (by rfl) (setRow_heap _ _ _ _ _ _ HR1.out) Try.underlying37 (by rfl) HI.out) rfl ?_
  refine ⟨.slice xa0 ya0 za0, .slice xa1 ya1 za1, .slice xa2 ya2 za2, by rw [hcs], ?_, below_row HB0.out (by omega) _⟩
  have ow : ∀ {v : Value} {l : List Int}, W3.ownsRow (w.heap.size + 2) 5 1 v l.length (bv l) → (W3.setRow (w.heap.size + 1) cs).ownsRow w.heap.size 5 1 v l.length (bv l) := fun {v l} h => own_le (own_exc (S := (· = w.heap.size + 1)) h ⟨rfl, rfl, rfl, by simp [World.setRow], fun k hk hn => setRow_other _ _ _ _ hn⟩ (fun k hk e => by have := (h.lt k hk).1; have e2 : k = w.heap.size + 1 := e; omega)) (by omega)
  exact ⟨ow HU0.out, ow HU1.out, ow HU2.out, HA01.out, HA02.out, HA12.out⟩
end Go.Proofs.Ytgblpjkpeihpeaa
