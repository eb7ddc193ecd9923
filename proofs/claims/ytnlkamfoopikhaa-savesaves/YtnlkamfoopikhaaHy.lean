/-
  Layer 16 (save): SaveSaves.
-/
import Derived.Test.YtnlkamfoopikhaaHo
import Derived.Test.YtnlkamfoopikhaaHv
import Derived.Test.YtnlkamfoopikhaaHx
import Derived.Test.YtnlkamfoopikhaaHd
namespace Go.Proofs.Ytnlkamfoopikhaa
set_option linter.unusedVariables false
set_option maxRecDepth 100000
open Go.ChangeShapes Go.WideShapes Go.ChangeAt Go.RowKit Go.Deep
/-- Bytes that lie above B, or nowhere. -/
def Nb (B : Nat) (w : World) (u : Value) (l : List Int) : Prop := Byt w u l ∧ ∀ g, u.ownBlock = some g → B ≤ g
theorem Nb.later {B : Nat} {w w' : World} {u : Value} {l : List Int} (h : Nb B w u l) (hb : Below w.heap.size w w') : Nb B w' u l := ⟨h.1.later hb rfl, h.2⟩
theorem Nb.exc {B g : Nat} {w w' : World} {u : Value} {l : List Int} (h : Nb B w u l) (hx : Exc (· = g) w w') (hg : g < B) : Nb B w' u l := ⟨h.1.exc hx (fun g' off n c e => by have := h.2 g' (by rw [e]; rfl); intro q; have q2 : g' = g := q; omega), h.2⟩
def errC (S : St) : Int := if S.ok then 0 else 162
def snpT (K : Cp) (S : St) : List Int := if S.ok then snapB (PR K) S else []
theorem psave_c (K : Cp) (S : St) (ar ai ao : Option Addr) (cr ci co : Nat) (w : World) (hs : Bs S (.slice ar S.ram.length cr) (.slice ai S.inp.length ci) (.slice ao S.out.length co) w) (hw : StW S)
    (lr : S.ram.length ≤ 140737488355328) (li : S.inp.length ≤ 140737488355328) (lo : S.out.length ≤ 140737488355328) :
    Calls Try.prog 11 #[.agg (whc K S (.slice ar S.ram.length cr) (.slice ai S.inp.length ci) (.slice ao S.out.length co))] w fun e w' => ∃ u, e = .returned (.tuple #[u, .int .i64 (errC S)]) ∧ Nb w.heap.size w' u (snpT K S) ∧ Below w.heap.size w w' := by
  unfold errC snpT
  cases hok : S.ok with
  | true => exact (save_yes K S ar ai ao cr ci co w hs hw hok).mono fun e w' ⟨u, h1, h2, h3⟩ => ⟨u, h1, ⟨h2.byt, fun g hg => by obtain ⟨g', rfl, hB, _⟩ := h2; simp [Value.ownBlock] at hg; omega⟩, h3⟩
  | false => exact (save_no K S ar ai ao cr ci co w hs hok lr li lo).mono fun e w' ⟨h1, h3⟩ => ⟨_, h1, ⟨Byt.nil _, fun g hg => by cases hg⟩, h3⟩
theorem rsave_c (K : Cp) (S : St) (ar ai ao : Option Addr) (cr ci co : Nat) (w : World) (hs : Bs S (.slice ar S.ram.length cr) (.slice ai S.inp.length ci) (.slice ao S.out.length co) w) (hw : StW S) :
    Calls Try.prog 12 #[.agg (whc K S (.slice ar S.ram.length cr) (.slice ai S.inp.length ci) (.slice ao S.out.length co))] w fun e w' => ∃ u, e = .returned (.tuple #[u, .int .i64 (errC S)]) ∧ Nb w.heap.size w' u (snpT K S) ∧ Below w.heap.size w w' := by
  unfold errC snpT
  cases hok : S.ok with
  | true => exact (qsave_yes K S ar ai ao cr ci co w hs hw hok).mono fun e w' ⟨u, h1, h2, h3⟩ => ⟨u, h1, ⟨Byt.of_own h2, fun g hg => (World.ownsRow.lt h2 g hg).1⟩, h3⟩
  | false => exact (qsave_no K S ar ai ao cr ci co w hok).mono fun e w' ⟨h1, h3⟩ => ⟨_, h1, ⟨Byt.nil _, fun g hg => by cases hg⟩, h3⟩
set_option maxHeartbeats 4000000 in
theorem saveSaves_c (K : Cp) (S : St) (ar ai ao : Option Addr) (cr ci co : Nat) (w : World) (hs : Bs S (.slice ar S.ram.length cr) (.slice ai S.inp.length ci) (.slice ao S.out.length co) w) (hw : StW S)
    (lr : S.ram.length ≤ 140737488351232) (li : S.inp.length ≤ 140737488351232) (lo : S.out.length ≤ 140737488351232) :
    Calls Try.prog 4 #[.agg (whc K S (.slice ar S.ram.length cr) (.slice ai S.inp.length ci) (.slice ao S.out.length co))] w fun e w' => e = .returned (.bool true) ∧ Below w.heap.size w w' := by
  have hz := zero_wh
  have HR : Hid (Row (w.alloc (.cells (whc K S (.slice ar S.ram.length cr) (.slice ai S.inp.length ci) (.slice ao S.out.length co)) 37)) w.heap.size (whc K S (.slice ar S.ram.length cr) (.slice ai S.inp.length ci) (.slice ao S.out.length co)) 37) := Row.new _ _ _
  have HB0 : Hid (Below w.heap.size w (w.alloc (.cells (whc K S (.slice ar S.ram.length cr) (.slice ai S.inp.length ci) (.slice ao S.out.length co)) 37))) := below_al _ _
  have HI := Hid.mk' (info_wh K S (.slice ar S.ram.length cr) (.slice ai S.inp.length ci) (.slice ao S.out.length co))
  have HTW : Hid (∀ W, Below w.heap.size w W → Calls Try.prog 8 #[.agg (whc K S (.slice ar S.ram.length cr) (.slice ai S.inp.length ci) (.slice ao S.out.length co))] W fun e w' => ∃ ur ui uo, e = .returned (.agg (whc K S ur ui uo)) ∧ Sv W.heap.size S ur ui uo w' ∧ Below W.heap.size W w') := fun W hb => twin_c K S ar ai ao cr ci co W (hs.later hb) (by omega) (by omega) (by omega)
  have HQS : Hid (∀ W, Below w.heap.size w W → Calls Try.prog 12 #[.agg (whc K S (.slice ar S.ram.length cr) (.slice ai S.inp.length ci) (.slice ao S.out.length co))] W fun e w' => ∃ u, e = .returned (.tuple #[u, .int .i64 (errC S)]) ∧ Nb W.heap.size w' u (snpT K S) ∧ Below W.heap.size W w') := fun W hb => rsave_c K S ar ai ao cr ci co W (hs.later hb) hw
  have HAL : Hid (∀ ur ui uo W, Below w.heap.size w W → Bs S ur ui uo W → Calls Try.prog 15 #[.agg (whc K S ur ui uo), .agg (whc K S (.slice ar S.ram.length cr) (.slice ai S.inp.length ci) (.slice ao S.out.length co))] W fun e w' => e = .returned (.bool true) ∧ Below W.heap.size W w') := fun ur ui uo W hb h => alike_t K S ur ui uo _ _ _ W h (hs.later hb)
  have HSL : Hid (∀ W, Below w.heap.size w W → Bs S (.slice ar S.ram.length cr) (.slice ai S.inp.length ci) (.slice ao S.out.length co) W) := fun W hb => hs.later hb
  have HCR : Hid ((whc K S (.slice ar S.ram.length cr) (.slice ai S.inp.length ci) (.slice ao S.out.length co))[82]? = some (.slice ar S.ram.length cr)) := whc_b K S _ _ _ 0 _ rfl
  obtain ⟨V, hV⟩ : ∃ V, V = whc K S (.slice ar S.ram.length cr) (.slice ai S.inp.length ci) (.slice ao S.out.length co) := ⟨_, rfl⟩
  rw [← hV] at HR HB0 HI HTW HQS HAL HCR ⊢
  clear hV hs
  obtain ⟨c, hc⟩ : ∃ c, c = errC S := ⟨_, rfl⟩
  have HPS : Hid (∀ a1 a2 a3 x y z W, Bs S (.slice a1 S.ram.length x) (.slice a2 S.inp.length y) (.slice a3 S.out.length z) W → Calls Try.prog 11 #[.agg (whc K S (.slice a1 S.ram.length x) (.slice a2 S.inp.length y) (.slice a3 S.out.length z))] W fun e w' => ∃ u, e = .returned (.tuple #[u, .int .i64 (errC S)]) ∧ Nb W.heap.size w' u (snpT K S) ∧ Below W.heap.size W w') := fun a1 a2 a3 x y z W h => psave_c K S a1 a2 a3 x y z W h hw (by omega) (by omega) (by omega)
  rw [← hc] at HPS HQS
  clear hc
  generalize snpT K S = T at *
  obtain ⟨p, hp⟩ : ∃ p, p = w.heap.size := ⟨_, rfl⟩
  have HP := Hid.mk' hp
  go_enter Try.func4, Try.ntmps4
  go_upto_region 2 with (first | (refine wpList_load_row (by rfl) _ _ (by rfl) _ (by rfl) 37 _ (0, 0) _ HR.out Try.underlying37 (by rfl) HI.out ?_) | (go_at_call 8; refine (HTW.out _ HB0.out).mono ?_; rintro e w1 ⟨ur, ui, uo, rfl, hsv, hb1⟩; have HSV := Hid.mk' hsv; have HB1 := Hid.mk' hb1; clear hsv hb1; obtain ⟨a1, a2, a3, x1, x2, x3, rfl, rfl, rfl⟩ := HSV.out.slices; have HIX := Hid.mk' (info_wh K S (.slice a1 S.ram.length x1) (.slice a2 S.inp.length x2) (.slice a3 S.out.length x3)); have HON := Hid.mk' (whc_ones K S a1 a2 a3 S.ram.length S.inp.length S.out.length x1 x2 x3); have HZ2 := Hid.mk' (whz_size K S (.slice a1 S.ram.length x1) (.slice a2 S.inp.length x2) (.slice a3 S.out.length x3))) | (refine wpList_store_new (by rfl) _ _ _ (by rfl) (by rfl) whz (whc K S (.slice a1 S.ram.length x1) (.slice a2 S.inp.length x2) (.slice a3 S.out.length x3)) (by rfl) (by rfl) HIX.out HZ2.out HON.out ?_))
  clear hz
  have b01 : Below w.heap.size w w1 := HB0.out.trans (HB1.out.mono HB0.out.size)
  have hpx : Hid (w.heap.size < w1.heap.size) := Nat.lt_of_lt_of_le (by simp) HB1.out.size
  refine on_W (motive := fun W => Code.wp _ _ _ _ W) (Q := fun W => Row W w.heap.size V 37 ∧ Row W w1.heap.size (whc K S (.slice a1 S.ram.length x1) (.slice a2 S.inp.length x2) (.slice a3 S.out.length x3)) 37 ∧ Bs S (.slice a1 S.ram.length x1) (.slice a2 S.inp.length x2) (.slice a3 S.out.length x3) W ∧ (∀ g, ((Value.slice a2 S.inp.length x2).ownBlock = some g ∨ (Value.slice a3 S.out.length x3).ownBlock = some g) → g < w1.heap.size) ∧ Below w.heap.size w W)
    ⟨(HR.out.later HB1.out HR.out.lt).old (HR.out.later HB1.out HR.out.lt).lt _, Row.new _ _ _, HSV.out.bs.later (below_al _ _), (fun g hg => by
      rcases hg with hg | hg
      · exact (World.ownsRow.lt HSV.out.i g hg).2
      · exact (World.ownsRow.lt HSV.out.o g hg).2), b01.alloc b01.size _⟩ ?_
  rintro W2 ⟨p1, p2, p3, p4, p5⟩
  have HR2 := Hid.mk' p1
  have HX2 := Hid.mk' p2
  have HS2 := Hid.mk' p3
  have HG2 := Hid.mk' p4
  have HB2 := Hid.mk' p5
  clear p1 p2 p3 p4 p5 b01 HR HB0 HSV HB1 HON HZ2 HIX HTW
  obtain ⟨gx, hgx⟩ : ∃ gx, gx = w1.heap.size := ⟨_, rfl⟩
  rw [← hgx] at HX2 HG2 hpx ⊢
  rw [← hp] at HR2 HB2 HQS HAL HSL hpx ⊢
  generalize Value.agg (whc K S (.slice a1 S.ram.length x1) (.slice a2 S.inp.length x2) (.slice a3 S.out.length x3)) = S11
  clear hgx hp
  have cA : W2.cell? ⟨p, 82, none⟩ = some (.slice ar S.ram.length cr) := (HR2.out.cell 82).trans HCR.out
  have HLO := Hid.mk' (loose_c S.ram (.slice ar S.ram.length cr) W2 (HSL.out W2 HB2.out).r lr)
  obtain ⟨n, hn⟩ : ∃ n, n = S.ram.length := ⟨_, rfl⟩
  have HN := Hid.mk' hn
  have HLO2 : Hid (Calls Try.prog 10 #[.slice ar n cr] W2 fun e w' => ∃ gr cp, e = .returned (.slice (some ⟨gr, 0, none⟩) (n + 64) cp) ∧ w'.ownsRow W2.heap.size 5 1 (.slice (some ⟨gr, 0, none⟩) (n + 64) cp) (n + 64) (bv (S.ram ++ mks 64)) ∧ Below W2.heap.size W2 w') := by
    have q := HLO.out
    rw [← hn] at q
    refine q.mono ?_
    rintro e w' ⟨u, rfl, ho, hb⟩
    have hl : (S.ram ++ mks 64).length = n + 64 := by rw [List.length_append, mks_length, hn]
    unfold Owb at ho
    rw [hl] at ho
    obtain ⟨gr, cp, rfl⟩ := Go.Joins.ownsRow_form ho (by omega)
    exact ⟨gr, cp, rfl, ho, hb⟩
  rw [← hn] at cA lr
  clear hn HLO
  go_upto_region 3 with (go_at_call 10; refine HLO2.out.mono ?_; rintro e W3 ⟨gr, cp, rfl, ho3, hb3⟩; have HO3 := Hid.mk' ho3; have HB3 := Hid.mk' hb3; clear ho3 hb3)
  clear cA HLO2
  have hlm : Hid ((S.ram ++ mks 64).length = n + 64) := by unfold Hid; rw [List.length_append, mks_length, ← HN.out]
  have HBY := Hid.mk' (Byt.of_own HO3.out)
  have hgr : Hid (W2.heap.size ≤ gr) := (World.ownsRow.lt HO3.out gr rfl).1
  have hcp : Hid (n + 64 ≤ cp) := by
    obtain ⟨_, _, e, h1, _⟩ := HBY.out
    simp only [Value.slice.injEq] at e
    have := hlm.out
    unfold Hid; omega
  have HR3 := Hid.mk' (HR2.out.later HB3.out HR2.out.lt)
  have HX3 := Hid.mk' (HX2.out.later HB3.out HX2.out.lt)
  have HB13 : Hid (Below p w W3) := HB2.out.trans (HB3.out.mono (by rw [HP.out]; exact HB2.out.size))
  have cB : W3.cell? ⟨p, 82, none⟩ = some (.slice ar n cr) := by rw [HN.out]; exact (HR3.out.cell 82).trans HCR.out
  have cX : W3.cell? ⟨gx, 82, none⟩ = some (.slice a1 n x1) := by rw [HN.out]; exact (HX3.out.cell 82).trans (whc_b K S _ _ _ 0 _ rfl)
  have fX := HX3.out.froz 82
  have hsl := sl_h W3 (some ⟨gr, 0, none⟩) (n + 64) cp n (by have := hcp.out; omega)
  have HCUT : Hid (∀ W, Byt W (.slice (some ⟨gr, 0, none⟩) (n + 64) cp) (S.ram ++ mks 64) → Byt W (.slice (if cp = 0 then some ⟨gr, 0, none⟩ else (some ⟨gr, 0, none⟩ : Option Addr).map (fun x => x.add 0)) n cp) S.ram) := fun W h => by
    have q := h.cut 0 n cp (Nat.zero_le _) (by have := hcp.out; omega) (Nat.le_refl _) (by have := hlm.out; omega)
    rw [List.drop_zero, Nat.sub_zero, Nat.sub_zero, HN.out, List.take_append_of_le_length (Nat.le_refl _), List.take_length, ← HN.out] at q
    exact q
  obtain ⟨ad, had⟩ : ∃ ad, ad = (if cp = 0 then some ⟨gr, 0, none⟩ else (some ⟨gr, 0, none⟩ : Option Addr).map (fun x => x.add 0)) := ⟨_, rfl⟩
  rw [← had] at hsl HCUT
  clear had
  have HPW2 : Hid (p ≤ W2.heap.size) := by unfold Hid; rw [HP.out]; exact HB2.out.size
  rw [← HN.out] at HPS
  go_upto_region 4 with fail
  have hxr : gx ≠ gr := by have := hgr.out; have := HX2.out.lt; omega
  have hpg : p ≠ gx := by have := hpx.out; omega
  have x4 : Exc (· = gx) W3 (W3.setCell ⟨gx, 82, none⟩ (.slice ad n cp)) := (Exc.refl _ _).set gx 82 _ rfl
  refine on_W (motive := fun W => Code.wp _ _ _ _ W) (Q := fun W => Row W p V 37 ∧ Row W gx (whc K S (.slice ad n cp) (.slice a2 S.inp.length x2) (.slice a3 S.out.length x3)) 37 ∧ W.ownsRow W2.heap.size 5 1 (.slice (some ⟨gr, 0, none⟩) (n + 64) cp) (n + 64) (bv (S.ram ++ mks 64)) ∧ Bs S (.slice ad n cp) (.slice a2 S.inp.length x2) (.slice a3 S.out.length x3) W ∧ Below p w W ∧ gr < W.heap.size)
    ⟨HR3.out.other hpg _, by have r := HX3.out.put (i := 82) (.slice ad n cp); rw [whc_setr] at r; exact r, own_exc HO3.out x4 (fun k hk => by simp [Value.ownBlock] at hk; omega), ⟨HCUT.out _ (Byt.of_own (own_exc HO3.out x4 (fun k hk => by simp [Value.ownBlock] at hk; omega))), (HS2.out.i.later HB3.out rfl).exc x4 (fun g off l c e => by have := HG2.out g (.inl (by rw [e]; rfl)); intro q; have q2 : g = gx := q; omega), (HS2.out.o.later HB3.out rfl).exc x4 (fun g off l c e => by have := HG2.out g (.inr (by rw [e]; rfl)); intro q; have q2 : g = gx := q; omega)⟩, below_put HB13.out (by have := hpx.out; omega) _, Nat.lt_of_lt_of_le (World.ownsRow.lt HO3.out gr rfl).2 (by simp)⟩ ?_
  rintro W4 ⟨p1, p2, p3, p4, p5, p6⟩
  have HR4 := Hid.mk' p1
  have HX4 := Hid.mk' p2
  have HO4 := Hid.mk' p3
  have HS4 := Hid.mk' p4
  have HB4 := Hid.mk' p5
  have HG4 := Hid.mk' p6
  clear p1 p2 p3 p4 p5 p6 x4 hxr hpg hsl cB cX fX HCUT HR3 HX3 HB13 HBY HO3 HB3 HR2 HX2 HS2 HG2 HB2
  have HIX := Hid.mk' (info_wh K S (.slice ad n cp) (.slice a2 S.inp.length x2) (.slice a3 S.out.length x3))
  have HPV := Hid.mk' (HPS.out ad a2 a3 cp x2 x3 W4 HS4.out)
  have HALX := Hid.mk' (HAL.out (.slice ad n cp) (.slice a2 S.inp.length x2) (.slice a3 S.out.length x3))
  obtain ⟨XC, hXC⟩ : ∃ XC, XC = whc K S (.slice ad n cp) (.slice a2 S.inp.length x2) (.slice a3 S.out.length x3) := ⟨_, rfl⟩
  rw [← hXC] at HX4 HIX HPV HALX
  clear hXC HPS HAL
  go_upto_region 5 with (first | (refine wpList_load_row (by rfl) _ _ (by rfl) _ (by rfl) 37 _ (0, 0) _ HX4.out Try.underlying37 (by rfl) HIX.out ?_) | (go_at_call 11; refine HPV.out.mono ?_; rintro e W5 ⟨b5, rfl, hn5, hb5⟩; have HN5 := Hid.mk' hn5; have HB5 := Hid.mk' hb5; clear hn5 hb5))
  have HR5 := Hid.mk' (HR4.out.later HB5.out HR4.out.lt)
  have hp4 : p ≤ W4.heap.size := by rw [HP.out]; exact HB4.out.size
  have HB05 : Hid (Below p w W5) := HB4.out.trans (HB5.out.mono hp4)
  have HQV := Hid.mk' (HQS.out W5 HB05.out)
  go_upto_region 6 with (first | (refine wpList_load_row (by rfl) _ _ (by rfl) _ (by rfl) 37 _ (0, 0) _ HR5.out Try.underlying37 (by rfl) HI.out ?_) | (go_at_call 12; refine HQV.out.mono ?_; rintro e W6 ⟨b6, rfl, hn6, hb6⟩; have HN6 := Hid.mk' hn6; have HB6 := Hid.mk' hb6; clear hn6 hb6))
  have hp5 : p ≤ W5.heap.size := Nat.le_trans hp4 HB5.out.size
  have HB46 : Hid (Below W4.heap.size W4 W6) := HB5.out.trans (HB6.out.mono HB5.out.size)
  have HB06 : Hid (Below p w W6) := HB05.out.trans (HB6.out.mono hp5)
  have HR6 := Hid.mk' (HR4.out.later HB46.out HR4.out.lt)
  have HX6 := Hid.mk' (HX4.out.later HB46.out HX4.out.lt)
  have HS6 := Hid.mk' (HS4.out.later HB46.out)
  have HO6 := Hid.mk' (own_later HO4.out HB46.out rfl)
  have HM5 := Hid.mk' (HN5.out.later HB6.out)
  have HSM := Hid.mk' (lsame_t T b5 b6 W6 HM5.out.1 HN6.out.1)
  have HKP := Hid.mk' (kept_t S.ram (.slice (some ⟨gr, 0, none⟩) (n + 64) cp) (.slice ar n cr) W6 (Byt.of_own HO6.out) (by rw [HN.out]; exact (HSL.out W6 HB06.out).r) (by rw [← HN.out]; exact lr))
  have HAV := Hid.mk' (HALX.out W6 HB06.out HS6.out)
  have HNM := Hid.mk' (hnum_c c W6)
  have cR : W6.cell? ⟨p, 82, none⟩ = some (.slice ar n cr) := by rw [HN.out]; exact (HR6.out.cell 82).trans HCR.out
  clear HQS HQV HPV HALX HR5 HB05 HR4 HX4 HS4 HO4 HN5
  have LX : Hid (∀ j v, XC[j]? = some v → W6.cell? ⟨gx, 0 + j, none⟩ = some v) := fun j v hv => by rw [Nat.zero_add, HX6.out.cell]; exact hv
  have LV : Hid (∀ j v, V[j]? = some v → W6.cell? ⟨p, 0 + j, none⟩ = some v) := fun j v hv => by rw [Nat.zero_add, HR6.out.cell]; exact hv
  go_upto_region 8 with (first | (go_at_call 6; refine HNM.out.mono ?_; rintro e w5 ⟨rfl, hw5⟩; have hw6 := hw5.symm; subst hw6) | (go_at_call 13; refine HSM.out.mono ?_; rintro e w5 ⟨rfl, hw5⟩; have hw6 := hw5.symm; subst hw6) | (go_at_call 14; refine HKP.out.mono ?_; rintro e w5 ⟨rfl, hw5⟩; have hw6 := hw5.symm; subst hw6) | (refine wpList_load_aggG (by rfl) 37 _ (by rfl) gx 0 (by rfl) XC _ LX.out Try.underlying37 (by rfl) HIX.out ?_) | (refine wpList_load_aggG (by rfl) 37 _ (by rfl) p 0 (by rfl) V _ LV.out Try.underlying37 (by rfl) HI.out ?_) | (go_at_call 15; refine HAV.out.mono ?_; rintro e W7 ⟨rfl, hb7⟩; have HB7 := Hid.mk' hb7; clear hb7))
  have HO7 := Hid.mk' (own_later HO6.out HB7.out rfl)
  have HM7 := Hid.mk' (HM5.out.later HB7.out)
  have HN7 := Hid.mk' (HN6.out.later HB7.out)
  have HB07 : Hid (Below p w W7) := HB06.out.trans (HB7.out.mono (Nat.le_trans hp5 HB6.out.size))
  have HCU : Hid (∃ cur : Array Value, W7.heap[gr]? = some (.cells cur 5 (0, 0)) ∧ n + 64 ≤ cur.size) := by
    rcases HO7.out.2 with ⟨h', _⟩ | ⟨g', cap', cur, h', h1, h2, h3, h4, h5, h6⟩
    · simp at h'
    · simp only [Value.slice.injEq, Option.some.injEq, Addr.mk.injEq] at h'
      exact ⟨cur, by rw [h'.1.1]; exact h2, by omega⟩
  have hg4 : gr < W4.heap.size := HG4.out
  have hg5 : gr < W5.heap.size := Nat.lt_of_lt_of_le HG4.out HB5.out.size
  have hpr : p ≤ gr := Nat.le_trans HPW2.out hgr.out
  clear HNM HSM HKP HAV cR LX LV HX6 HR6 HS6 HO6 HM5 HN6 HB46 HB06 HB7 HO7 HIX HI HCR HSL hp4 hp5 HB5 HB6 HG4
  go_wp2
  go_loopw [9] (fun i wr => ∃ k : Nat, k ≤ n + 64 ∧ i = .int .i64 k ∧ Hid (∃ cur : Array Value, wr.heap[gr]? = some (.cells cur 5 (0, 0)) ∧ n + 64 ≤ cur.size) ∧ Hid (Exc (· = gr) W7 wr)) (fun i _ => n + 64 - (intOf i).toNat)
  case atStart => exact ⟨0, Nat.zero_le _, rfl, HCU, Exc.refl _ _⟩
  case round =>
    obtain ⟨k, hk, rfl, hcu, hx⟩ := hrel
    clear HCU
    by_cases hlt : k < n + 64
    · have hlt2 : (k : Int) < (n : Int) + 64 := by omega
      obtain ⟨cur, hcur, hsz⟩ := hcu.out
      have hrow : Row wr gr cur 5 := hcur
      obtain ⟨y, hy⟩ : ∃ y, cur[k]? = some y := ⟨_, Array.getElem?_eq_getElem (by omega)⟩
      have hce : wr.cell? ⟨gr, k, none⟩ = some y := (hrow.cell k).trans hy
      have hfr := hrow.froz k
      have HRW := Hid.mk' hrow
      have HSZ := Hid.mk' hsz
      clear hcur hrow hsz hy hcu
      have hkb : (k : Int) < 140737488355328 := by omega
      go_wp2
      go_roundw
      case rel => exact ⟨k + 1, by omega, by go_num, ⟨_, HRW.out.put (i := k) _, by rw [Array.size_setIfInBounds]; exact HSZ.out⟩, hx.out.set gr k _ rfl⟩
      case measure => simp [intOf]; omega
    · have hkn : k = n + 64 := by omega
      have hz : ¬ (k : Int) < (n : Int) + 64 := by omega
      have HSM := Hid.mk' (lsame_t T b5 b6 wr (HM7.out.exc hx.out hg4).1 (HN7.out.exc hx.out hg5).1)
      clear hkn hlt
      go_wp2_with (go_at_call 13; refine HSM.out.mono ?_; rintro e w5 ⟨rfl, hw5⟩; have hw6 := hw5.symm; subst hw6)
      go_ret
      refine ⟨rfl, ?_⟩
      rw [← HP.out]
      exact HB07.out.trans (hx.out.below (by have := HB07.out.size; rw [HP.out]; exact this) (fun k hk => by rw [hk]; exact hpr))
end Go.Proofs.Ytnlkamfoopikhaa
