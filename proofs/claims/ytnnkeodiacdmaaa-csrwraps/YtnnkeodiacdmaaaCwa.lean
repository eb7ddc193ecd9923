/-
  CsrWraps: its walk.
-/
import Derived.Test.YtnnkeodiacdmaaaCwa1
import Derived.Test.YtnnkeodiacdmaaaCwa2
import Derived.Test.YtnnkeodiacdmaaaCwa3
namespace Go.Proofs.Ytnnkeodiacdmaaa
set_option linter.unusedVariables false
open Go.ChangeShapes Go.WideShapes Go.ChangeAt Go.RowKit Go.Deep
theorem cwraps_walk (hp : CPr) (hc : CCo) (k u : Cp) (r c m : Bool) (w : World) : Calls Try.prog 3 #[.agg (tly k u r c m)] w fun e w' => e = .returned (.bool true) ∧ Below w.heap.size w w' := by
  cases c with
  | true =>
    cases r with
    | false => exact wraps_wt_nr hp hc k u m w
    | true =>
      cases m with
      | true => exact wraps_wt_wn hp hc k u w
      | false =>
        by_cases h4 : (PR u).s 4 &&& 4#64 = 0#64
        · exact wraps_wt_iy hp hc k u h4 w
        · exact wraps_wt_if hp hc k u h4 w
  | false =>
    by_cases h1 : (PR u).s 4 &&& 1#64 = 0#64
    ·
      cases r with
      | false => exact wraps_iy_nr hp hc k u h1 m w
      | true =>
        cases m with
        | true => exact wraps_iy_wn hp hc k u h1 w
        | false =>
          by_cases h4 : (PR u).s 4 &&& 4#64 = 0#64
          · exact wraps_iy_iy hp hc k u h1 h4 w
          · exact wraps_iy_if hp hc k u h1 h4 w
    ·
      cases r with
      | false => exact wraps_if_nr hp hc k u h1 m w
      | true =>
        cases m with
        | true => exact wraps_if_wn hp hc k u h1 w
        | false =>
          by_cases h4 : (PR u).s 4 &&& 4#64 = 0#64
          · exact wraps_if_iy hp hc k u h1 h4 w
          · exact wraps_if_if hp hc k u h1 h4 w
end Go.Proofs.Ytnnkeodiacdmaaa
