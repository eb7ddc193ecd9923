/-
  Layer 17 (gdb): a sum's two digits.
-/
import Derived.Test.YtfenllkkbgkdnaaDoorGh
namespace Go.Proofs.YtfenllkkbgkdnaaDoor
set_option linter.unusedVariables false
set_option maxRecDepth 100000
open Go.ChangeShapes Go.WideShapes Go.ChangeAt Go.RowKit Go.Deep
/-- The variable strconv.ErrSyntax holds some error. -/
def Es (w : World) : Prop := ∃ te pe, w.cell? ⟨1, 0, none⟩ = some (.iface te pe)
theorem Es.later {w w' : World} (h : Es w) (hb : Below w.heap.size w w') : Es w' := by
  obtain ⟨te, pe, h⟩ := h
  exact ⟨te, pe, (hb.cell (World.block_lt_of_cell? w _ h)).trans h⟩
theorem valD_bd (x y : Int) : 0 ≤ valD x y ∧ valD x y ≤ 255 := by
  unfold valD
  have := hv_le x
  have := hv_le y
  split
  · rename_i h
    unfold okD at h
    simp at h
    omega
  · omega
def PubP (x y : Int) (w : World) (e : Ending) (w' : World) : Prop := ∃ er, e = .returned (.tuple #[.int .u64 (valD x y), er]) ∧ (okD x y = true → er = .nilIface) ∧ (okD x y = false → ∃ N, er = .iface 60 (.pointer (some ⟨N, 0, none⟩))) ∧ Below w.heap.size w w'
set_option maxHeartbeats 4000000 in
theorem pub_c (x y : Int) (hx : 0 ≤ x ∧ x ≤ 255) (hy : 0 ≤ y ∧ y ≤ 255) (w : World) (hE : Es w) :
    Calls Tryd.prog 23 #[.string (strOfNums [x, y]), .int .i64 16, .int .i64 8] w fun e w' => PubP x y w e w' := by
  have HP := Hid.mk' (parse_c x y hx hy w)
  have HEE : Hid (∀ W, Below w.heap.size w W → Es W) := fun W h => hE.later h
  have hsz : (strOfNums [x, y]).size = 2 := strOfNums_size _
  have HTE : Hid (∀ (fn : ByteArray) W, Below w.heap.size w W → Calls Tryd.prog 25 #[.string fn, .string (strOfNums [x, y]), .int .i64 16, .int .i64 8, .iface 56 (.int .i64 2)] W fun e w' => ∃ N, e = .returned (.iface 60 (.pointer (some ⟨N, 0, none⟩))) ∧ Below W.heap.size W w') := fun fn W h => by
    obtain ⟨te, pe, hc⟩ := HEE.out W h
    exact (Any.strconv_toError_syntax Tryd.laysToErr fn (strOfNums [x, y]) 16 8 (.iface te pe) W (by rw [hsz]; omega) hc (.inr ⟨te, pe, rfl⟩)).mono fun e w' ⟨N, h1, _, _, h2⟩ => ⟨N, h1, h2⟩
  cases hok : okD x y with
  | true =>
    have e1 : errD x y = .nilIface := by unfold errD; rw [hok]; rfl
    rw [e1] at HP
    have HF : Hid (∀ v er w', er = .nilIface → v = valD x y → Below w.heap.size w w' → PubP x y w (.returned (.tuple #[.int .u64 v, er])) w') := fun v er w' h1 h2 h3 => by
      subst h1 h2
      exact ⟨_, rfl, (fun _ => rfl), (fun h => by rw [hok] at h; cases h), h3⟩
    generalize valD x y = V at *
    generalize strOfNums [x, y] = s at *
    clear e1 hok
    go_enter Tryd.func23, Tryd.ntmps23
    go_wp2_with (go_at_call 24; refine HP.out.mono ?_; rintro e W1 ⟨rfl, hb1⟩; have HB1 := Hid.mk' hb1; clear hb1)
    go_ret2
    exact HF.out _ _ _ rfl rfl HB1.out
  | false =>
    have e1 : errD x y = .iface 56 (.int .i64 2) := by unfold errD; rw [hok]; rfl
    rw [e1] at HP
    have HF : Hid (∀ v er w' N, er = .iface 60 (.pointer (some ⟨N, 0, none⟩)) → v = valD x y → Below w.heap.size w w' → PubP x y w (.returned (.tuple #[.int .u64 v, er])) w') := fun v er w' N h1 h2 h3 => by
      subst h1 h2
      exact ⟨_, rfl, (fun h => by rw [hok] at h; cases h), (fun _ => ⟨N, rfl⟩), h3⟩
    generalize valD x y = V at *
    generalize strOfNums [x, y] = s at *
    clear e1 hok
    go_enter Tryd.func23, Tryd.ntmps23
    go_wp2_with (first | (go_at_call 24; refine HP.out.mono ?_; rintro e W1 ⟨rfl, hb1⟩; have HB1 := Hid.mk' hb1; clear hb1) | (go_at_call 25; refine (HTE.out _ W1 HB1.out).mono ?_; rintro e W2 ⟨N, rfl, hb2⟩; have HB2 := Hid.mk' (HB1.out.trans (hb2.mono HB1.out.size)); clear hb2))
    go_ret2
    exact HF.out _ _ _ N rfl rfl HB2.out
set_option maxHeartbeats 4000000 in
theorem bytes_c (x y : Int) (hx : 0 ≤ x ∧ x ≤ 255) (hy : 0 ≤ y ∧ y ≤ 255) (w : World) (hE : Es w) :
    Calls Tryd.prog 22 #[.string (strOfNums [x, y])] w fun e w' => ∃ u, e = .returned (.tuple #[u, .bool (okD x y)]) ∧ (okD x y = true → Byt w' u [valD x y]) ∧ Below w.heap.size w w' := by
  have HP := Hid.mk' (pub_c x y hx hy w hE)
  have hsz : (strOfNums [x, y]).size = 2 := strOfNums_size _
  have hemp : (strOfNums [x, y]).toList.isEmpty = false := by
    rw [← decide_eq_emptyBytes]
    exact decide_eq_false (fun h => by rw [h] at hsz; cases hsz)
  have hx1 : (strOfNums [x, y]).extract 0 2 = strOfNums [x, y] := by
    have := ByteArray.extract_zero_size (b := strOfNums [x, y])
    rw [hsz] at this; exact this
  have hx2 : (strOfNums [x, y]).extract 2 2 = ⟨#[]⟩ := by
    refine ByteArray.ext ?_
    simp
  have hmod : Int.tmod 2 2 = 0 := rfl
  obtain ⟨hb0, hb1⟩ := valD_bd x y
  obtain ⟨B, hB⟩ : ∃ B, B = w.heap.size := ⟨_, rfl⟩
  have HBE := Hid.mk' hB
  unfold PubP at HP
  rw [← hB] at HP ⊢
  clear hB hE hx hy
  generalize valD x y = V at *
  generalize strOfNums [x, y] = s at *
  generalize okD x y = ok at *
  go_enter Tryd.func22, Tryd.ntmps22
  go_wp2
  go_loopw [0, 4] (fun d l wr => (d = .string s ∧ l = .slice none 0 0 ∧ Hid (wr = w)) ∨ (ok = true ∧ d = .string ⟨#[]⟩ ∧ Hid (Byt wr l [V]) ∧ Hid (Below B w wr))) (fun d _ _ => match d with | .string s => s.size | _ => 0)
  case atStart => exact .inl ⟨rfl, rfl, rfl⟩
  case round =>
    rcases hrel with ⟨rfl, rfl, hw⟩ | ⟨hok, rfl, hby, hbl⟩
    · have hwe := hw.out
      subst hwe
      cases hok : ok with
      | true =>
        subst hok
        go_upto_region 9 with (go_at_call 23; refine HP.out.mono ?_; rintro e W1 ⟨er, rfl, h1, h2, h3⟩; have HB1 := Hid.mk' h3; obtain rfl := h1 rfl; clear h1 h2 h3)
        have HB2 : Hid (B ≤ W1.heap.size) := (by unfold Hid; rw [HBE.out]; exact HB1.out.size)
        clear HP hemp
        go_wp2_with (at_builtin; refine appN (by rfl) _ _ (by rfl) B _ [] [V] (by rfl) (owb_nil _ _) _ 1 (by rfl) (by rfl) (by simp) (by simp) HB2.out ?_; intro v' w1 ho1 hf1; have HO := Hid.mk' (Byt.of_own ho1); have HF := Hid.mk' (HB1.out.trans hf1.b); clear ho1 hf1)
        go_roundw
        case rel => exact .inr ⟨trivial, (by first | rfl | rw [hx2]), HO, HF⟩
        case measure => simp [hsz]
      | false =>
        subst hok
        go_wp2_with (go_at_call 23; refine HP.out.mono ?_; rintro e W1 ⟨er, rfl, h1, h2, h3⟩; have HB1 := Hid.mk' h3; obtain ⟨N, rfl⟩ := h2 rfl; clear h1 h2 h3)
        go_ret2
        exact ⟨_, rfl, (fun h => by cases h), HB1.out⟩
    · subst hok
      go_wp2
      go_ret2
      exact ⟨u4, rfl, hby.out, hbl.out⟩
end Go.Proofs.YtfenllkkbgkdnaaDoor
