/-
  Write of the reference.
-/
import Derived.Test.YtjjdpfmkbaaapaaDoorIwd
import Derived.Test.YtjjdpfmkbaaapaaDoorIcr
namespace Go.Proofs.YtjjdpfmkbaaapaaDoor
set_option linter.unusedVariables false
open Go.ChangeShapes Go.WideShapes Go.ChangeAt Go.RowKit Go.Deep
theorem own_later {w w' : World} {B e size n : Nat} {v : Value} {xs : List Value} (h : w.ownsRow B e size v n xs) {B' : Nat} (hb : Below B' w w') (hB : B' = w.heap.size) : w'.ownsRow B e size v n xs := by
  have hl := h.lt
  refine ⟨h.1, ?_⟩
  rcases h.2 with h' | ⟨g, cap, cur, rfl, h1, h2, h3⟩
  · exact .inl h'
  · exact .inr ⟨g, cap, cur, rfl, h1, by rw [hb.block g (by rw [hB]; exact (hl g rfl).2)]; exact h2, h3⟩
theorem Pr.later {B : Nat} {w w' : World} {vb vt : Value} {lb lt : List Int} (h : Pr B w vb lb vt lt) (hb : Below w.heap.size w w') : Pr B w' vb lb vt lt := ⟨own_later h.b hb rfl, own_later h.t hb rfl, h.h, h.k⟩
theorem Fr.of_below {B : Nat} {w w' : World} (hb : Below w.heap.size w w') (hB : B ≤ w.heap.size) : Fr B w w' :=
  ⟨hb.mono hB, fun g cur t z _ h => by rw [hb.block g (Array.getElem?_eq_some_iff.1 h).1]; exact h⟩
/-- The bytes of the parts. -/
def Dts (w : World) (L : List Sg) (D : Nat → List Int) : Prop := ∀ j, j < L.length → (D j).length = (sg L j).n ∧ Byt w (.slice (sg L j).m (sg L j).n (sg L j).c) (D j)
theorem Dts.later {w w' : World} {L : List Sg} {D : Nat → List Int} (h : Dts w L D) (hb : Below w.heap.size w w') : Dts w' L D := fun j hj => ⟨(h j hj).1, (h j hj).2.later hb rfl⟩
def idL : List Int := [127, 69, 76, 70, 2, 1, 1, 0, 0, 0, 0, 0, 0, 0, 0, 0]
/-- The head of a file. -/
def headL (E heads n count third : Nat) : List Int :=
  idL ++ (ptL 2 2 ++ (ptL 243 2 ++ (ptL 1 4 ++ (ptL E 8 ++ (ptL 64 8 ++ (ptL heads 8 ++ (ptL 1 4 ++ (ptL 64 2 ++ (ptL 56 2 ++ (ptL n 2 ++ (ptL 64 2 ++ (ptL count 2 ++ ptL third 2))))))))))))
theorem headL_length (E heads n count third : Nat) : (headL E heads n count third).length = 64 := by simp [headL, idL, ptL_length]
/-- A part's rights in the file's order of bits. -/
def fw (f : Int) : Nat := (f / 4 % 2 + f / 2 % 2 * 2 + f % 2 * 4).toNat
def plc (L : List Sg) (k : Nat) : Nat := if 0 < (sg L k).n then al (sk L k) else 0
/-- A part's header. -/
def phL (x : Sg) (p : Nat) : List Int := ptL 1 4 ++ (ptL (fw x.f) 4 ++ (ptL p 8 ++ (ptL x.a.toNat 8 ++ (ptL x.a.toNat 8 ++ (ptL x.n 8 ++ (ptL x.s.toNat 8 ++ ptL 1 8))))))
theorem phL_length (x : Sg) (p : Nat) : (phL x p).length = 56 := by simp [phL, ptL_length]
def hdL (L : List Sg) : Nat → List Int
  | 0 => []
  | k + 1 => hdL L k ++ phL (sg L k) (plc L k)
theorem hdL_length (L : List Sg) (k : Nat) : (hdL L k).length = 56 * k := by
  induction k with
  | zero => rfl
  | succ k ih => simp only [hdL, List.length_append, ih, phL_length]; omega
def daL (L : List Sg) (D : Nat → List Int) : Nat → List Int
  | 0 => []
  | k + 1 => daL L D k ++ if 0 < (sg L k).n then zs (al (sk L k) - sk L k) ++ D k else []
theorem daL_length {L : List Sg} {D : Nat → List Int} (hD : ∀ j, j < L.length → (D j).length = (sg L j).n) (k : Nat) (hk : k ≤ L.length) : 64 + 56 * L.length + (daL L D k).length = sk L k := by
  induction k with
  | zero => rfl
  | succ k ih =>
    have ih := ih (by omega)
    have h1 := al_lo (sk L k)
    have e : sk L (k + 1) = if 0 < (sg L k).n then al (sk L k) + (sg L k).n else sk L k := rfl
    rw [e]
    simp only [daL, List.length_append]
    split
    · simp only [List.length_append, zs_length, hD k (by omega)]; omega
    · simp only [List.length_nil]; omega
theorem sk_mono (L : List Sg) {j k : Nat} (h : j ≤ k) : sk L j ≤ sk L k := by
  induction k with
  | zero => rw [Nat.le_zero.1 h]; exact Nat.le_refl _
  | succ k ih =>
    by_cases e : j = k + 1
    · subst e; exact Nat.le_refl _
    · have := ih (by omega)
      have h1 := al_lo (sk L k)
      have e2 : sk L (k + 1) = if 0 < (sg L k).n then al (sk L k) + (sg L k).n else sk L k := rfl
      rw [e2]
      split <;> omega
end Go.Proofs.YtjjdpfmkbaaapaaDoor
