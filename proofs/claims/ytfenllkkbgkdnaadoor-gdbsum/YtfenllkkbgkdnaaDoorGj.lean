/-
  Layer 17 (gdb): sumOf, IndexByte, cut.
-/
import Derived.Test.YtfenllkkbgkdnaaDoorGi
import Derived.Lib.IndexAny
import Derived.Deep.RegionWith
namespace Go.Proofs.YtfenllkkbgkdnaaDoor
set_option linter.unusedVariables false
set_option maxRecDepth 100000
open Go.ChangeShapes Go.WideShapes Go.ChangeAt Go.RowKit Go.Deep
set_option maxHeartbeats 4000000 in
theorem sumOf_c (x y : Int) (hx : 0 ≤ x ∧ x ≤ 255) (hy : 0 ≤ y ∧ y ≤ 255) (w : World) (hE : Es w) :
    Calls Tryd.prog 18 #[.int .u8 x, .int .u8 y] w fun e w' => e = .returned (.tuple #[.int .u8 (valD x y), .bool (okD x y)]) ∧ Below w.heap.size w w' := by
  have HP := Hid.mk' (bytes_c x y hx hy _ (hE.later (below_al w (.cells #[.int .u8 x, .int .u8 y] 5))))
  have hcv : (convert 22 9 (.slice (some ⟨w.heap.size, 0, none⟩) 2 2)).run Tryd.prog (w.alloc (.cells #[.int .u8 x, .int .u8 y] 5)) = .ok (.string (strOfNums [x, y])) (w.alloc (.cells #[.int .u8 x, .int .u8 y] 5)) := (Byt.of_own (owb_new w [x, y] 2 rfl (by omega))).conv
  have HV0 : Hid (okD x y = false → valD x y = 0) := fun h => by unfold valD; rw [h]; rfl
  have HBA := Hid.mk' (below_al w (.cells #[.int .u8 x, .int .u8 y] 5))
  generalize valD x y = V at *
  generalize strOfNums [x, y] = s at *
  generalize okD x y = ok at *
  cases ok with
  | true =>
    go_enter Tryd.func18, Tryd.ntmps18
    go_upto_region 4 with (go_at_call 22; refine HP.out.mono ?_; rintro e W1 ⟨u, rfl, h1, h2⟩; have HB1 := Hid.mk' h2; have HY := Hid.mk' (h1 rfl); clear h1 h2)
    obtain ⟨a', c', rfl, _, _, hcl⟩ := HY.out
    obtain ⟨g, off, rfl, _, hcell⟩ := hcl (by simp)
    have hce : W1.cell? ⟨g, off, none⟩ = some (.int .u8 V) := hcell 0 (by simp)
    clear hcell hcl
    go_wp2
    go_ret2
    exact ⟨rfl, HBA.out.trans (HB1.out.mono HBA.out.size)⟩
  | false =>
    have hv0 := HV0.out rfl
    subst hv0
    go_enter Tryd.func18, Tryd.ntmps18
    go_wp2_with (go_at_call 22; refine HP.out.mono ?_; rintro e W1 ⟨u, rfl, h1, h2⟩; have HB1 := Hid.mk' h2; clear h1 h2)
    go_ret2
    exact ⟨rfl, HBA.out.trans (HB1.out.mono HBA.out.size)⟩
theorem idx_c (m : List Int) (v : Value) (cv : Int) (w : World) (hv : Byt w v m) (hm : AllB m) (hc : 0 ≤ cv ∧ cv ≤ 255) :
    Calls Tryd.prog 17 #[v, .int .u8 cv] w fun e w' => (∃ i, e = .returned (.int .i64 i) ∧ decide (0 ≤ i) = m.contains cv) ∧ w' = w := by
  obtain ⟨a, cap, rfl, h1, h2, h3⟩ := hv
  have key : decide (0 ≤ Lib.indexByte (Lib.bytesOf m) cv.toNat.toUInt8) = m.contains cv := by
    rw [← Lib.contains_iff_indexByte]
    clear h1 h2 h3
    induction m with
    | nil => rfl
    | cons z r ih =>
      have h0 := hm z (by simp)
      have ih2 := ih (fun x hx => hm x (by simp [hx]))
      unfold Lib.bytesOf at *
      rw [List.map_cons, List.contains_cons, List.contains_cons, ih2]
      congr 1
      have e : (cv.toNat.toUInt8 == UInt8.ofNat z.toNat) = (cv == z) := by
        rw [Bool.eq_iff_iff, beq_iff_eq, beq_iff_eq]
        constructor
        · intro h
          have := congrArg UInt8.toNat h
          simp at this
          omega
        · rintro rfl; rfl
      exact e
  cases a with
  | none =>
    obtain rfl := h2 rfl
    obtain rfl : m = [] := List.eq_nil_of_length_eq_zero (by omega)
    exact (Any.bytes_IndexByte_nil Tryd.laysIdx cv w).mono fun e w' ⟨h, hw⟩ => ⟨⟨_, h, rfl⟩, hw⟩
  | some ad =>
    refine (Any.bytes_IndexByte_at Tryd.laysIdx ad m.length cap m cv w rfl (fun i hi => ?_)).mono fun e w' ⟨h, hw⟩ => ⟨⟨_, h, key⟩, hw⟩
    obtain ⟨g, off, e, _, hcell⟩ := h3 (fun e => by rw [e] at hi; simp at hi)
    cases e
    rw [addAt]
    exact hcell i hi
/-- The body of a packet of so many bytes. -/
def bdy (l : List Int) : List Int := (l.drop 1).take (l.length - 4)
def dgA (l : List Int) : Int := l.getD (l.length - 2) 0
def dgB (l : List Int) : Int := l.getD (l.length - 1) 0
/-- The marks stand where they should. -/
def mkd (l : List Int) : Bool := decide (4 ≤ l.length) && (l.getD 0 0 == 36) && (l.getD (l.length - 3) 0 == 35)
def frm (l : List Int) : Bool := mkd l && !(bdy l).contains 36 && !(bdy l).contains 35
def CutP (l : List Int) (w : World) (e : Ending) (w' : World) : Prop := ∃ u s b, e = .returned (.tuple #[u, .int .u8 s, .bool b]) ∧ b = (frm l && okD (dgA l) (dgB l)) ∧ (b = true → Byt w' u (bdy l) ∧ s = valD (dgA l) (dgB l) ∧ ∀ k, u.ownBlock = some k → k < w.heap.size) ∧ Below w.heap.size w w'
theorem CutP.no {l : List Int} {w w' : World} (h : frm l = false) (hb : Below w.heap.size w w') : CutP l w (.returned (.tuple #[.slice none 0 0, .int .u8 0, .bool false])) w' := ⟨_, _, _, rfl, by rw [h]; rfl, (fun e => by cases e), hb⟩
end Go.Proofs.YtfenllkkbgkdnaaDoor
