/-
  Dx.
-/
import Derived.Test.YthmjimmmkoeeoaaDoorM33
namespace Go.Proofs.YthmjimmmkoeeoaaDoor
set_option linter.unusedVariables false
set_option maxRecDepth 100000
open Go.ChangeShapes Go.WideShapes Go.ChangeAt Go.RowKit Go.Deep Go.Shelf
theorem own_set {w : World} {B e size n g j : Nat} {v x : Value} {xs : List Value} (h : w.ownsRow B e size v n xs) (hg : g < B) : (w.setCell ⟨g, j, none⟩ x).ownsRow B e size v n xs :=
  own_exc (S := fun k => k = g) h ((Exc.refl _ _).set g j x rfl) (fun k hk e => by have := (h.lt k hk).1; omega)
theorem Cpy.set {α : Type} {T : TypeId} {enc : α → Value → List Value} {dat : α → List Int} {z : α} {B g j : Nat} {w : World} {v x : Value} {l : List α} (h : Cpy T enc dat z B w v l) (hg : g < B) : Cpy T enc dat z B (w.setCell ⟨g, j, none⟩ x) v l := by
  obtain ⟨Q, h1, h2, h3⟩ := h
  exact ⟨Q, h1, own_set h2 hg, fun i hi => by obtain ⟨u, e1, e2⟩ := h3 i hi; exact ⟨u, e1, own_set e2 hg⟩⟩
theorem Cpy.row {α : Type} {T : TypeId} {enc : α → Value → List Value} {dat : α → List Int} {z : α} {B g : Nat} {w : World} {v : Value} {l : List α} (h : Cpy T enc dat z B w v l) (hg : g < B) (cs : Array Value) : Cpy T enc dat z B (w.setRow g cs) v l := by
  obtain ⟨Q, h1, h2, h3⟩ := h
  have he : Exc (fun k => k = g) w (w.setRow g cs) := ⟨rfl, rfl, rfl, by simp, fun j _ hj => setRow_other _ _ _ _ hj⟩
  exact ⟨Q, h1, own_exc h2 he (fun k hk e => by have := (h2.lt k hk).1; omega), fun i hi => by obtain ⟨u, e1, e2⟩ := h3 i hi; exact ⟨u, e1, own_exc e2 he (fun k hk e => by have := (e2.lt k hk).1; omega)⟩⟩
theorem dkc_v (r : Int) (K : Cp) (m : BitVec 64) (v u x : Value) : (dkc r K m v u).setIfInBounds 84 x = dkc r K m x u := by
  unfold dkc
  rw [Array.setIfInBounds_append_right (by show 1 ≤ 84; omega), Array.setIfInBounds_append_right (by rw [cpc_size]; show 82 ≤ 84 - 1; omega), cpc_size]
  rfl
theorem dkc_u (r : Int) (K : Cp) (m : BitVec 64) (v u x : Value) : (dkc r K m v u).setIfInBounds 85 x = dkc r K m v x := by
  unfold dkc
  rw [Array.setIfInBounds_append_right (by show 1 ≤ 85; omega), Array.setIfInBounds_append_right (by rw [cpc_size]; show 82 ≤ 85 - 1; omega), cpc_size]
  rfl
theorem ones_dk (r : Int) (K : Cp) (m : BitVec 64) (v u : Value) (hv : v.oneCell' = true) (hu : u.oneCell' = true) : (dkc r K m v u).all (·.oneCell') = true := by
  unfold dkc
  rw [Array.all_append, Array.all_append, cpc_ones]
  have e : (#[Value.int .u64 (n64 m), v, u] : Array Value).all (·.oneCell') = true := by simp only [List.all_toArray, List.all_cons, List.all_nil, hv, hu]; rfl
  rw [e]; simp [Value.oneCell']
def dkZ : Array Value := dkc 0 cz 0#64 (.slice none 0 0) (.slice none 0 0)
theorem zero_dk (w : World) : (zeroValue 35).run Tryd.prog w = .ok (.agg dkZ) w := by kernel_rfl
theorem AllB.getD {l : List Pt} {P : Pt → Prop} (h : ∀ p ∈ l, P p) (j : Nat) (hj : j < l.length) : P (l.getD j pt0) := h _ (by rw [List.getD_eq_getElem?_getD, List.getElem?_eq_getElem hj]; exact List.getElem_mem hj)
theorem take_pt (l : List Pt) (k : Nat) (h : k < l.length) : l.take (k + 1) = l.take k ++ [l.getD k pt0] := by rw [List.take_succ_eq_append_getElem h]; simp [List.getD, h]
theorem take_wd (l : List Wd) (k : Nat) (h : k < l.length) : l.take (k + 1) = l.take k ++ [l.getD k wd0] := by rw [List.take_succ_eq_append_getElem h]; simp [List.getD, h]
end Go.Proofs.YthmjimmmkoeeoaaDoor
