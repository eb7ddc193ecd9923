/-
  Iwd.
-/
import Derived.Test.YtheeogbmljjbdaaGreatDoorN31
namespace Go.Proofs.YtheeogbmljjbdaaGreatDoor
set_option linter.unusedVariables false
open Go.ChangeShapes Go.WideShapes Go.ChangeAt Go.RowKit Go.Deep
/-- The sections' own texts. -/
def ownT : ByteArray := ⟨#[0, 46, 115, 121, 109, 116, 97, 98, 0, 46, 115, 116, 114, 116, 97, 98, 0, 46, 115, 104, 115, 116, 114, 116, 97, 98, 0]⟩
theorem ownT_size : ownT.size = 27 := rfl
/-- What stands behind the parts, from the place p of the table on. -/
def symL (p : Nat) (N : List Sy) : List Int :=
  ptL 0 24 ++ (tbL N N.length ++ (txL N N.length ++ (sb ownT ++ (zs (al (p + 24 + 24 * N.length + 1 + nk N N.length + 27) - (p + 24 + 24 * N.length + 1 + nk N N.length + 27)) ++
    (secL 0 0 0 0 0 0 0 0 ++ (secL 1 2 p (24 + 24 * N.length) 2 1 8 24 ++ (secL 9 3 (p + 24 + 24 * N.length) (1 + nk N N.length) 0 0 1 0 ++
      secL 17 3 (p + 24 + 24 * N.length + 1 + nk N N.length) 27 0 0 1 0)))))))
theorem sym_fin {w wr : World} {B : Nat} {v vt : Value} {lb l l' lt : List Int} (hp : Pr B wr v l vt lt) (he : l = l') (hb : Fr B w wr) :
    ∃ u t s, Ending.returned v = .returned u ∧ Pr B wr u l' t s ∧ Fr B w wr := by
  subst he
  exact ⟨v, _, _, rfl, hp, hb⟩
end Go.Proofs.YtheeogbmljjbdaaGreatDoor
