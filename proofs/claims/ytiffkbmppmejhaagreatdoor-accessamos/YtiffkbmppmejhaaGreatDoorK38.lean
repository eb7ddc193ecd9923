import Derived.Test.YtiffkbmppmejhaaGreatDoorK36
import Derived.Test.YtiffkbmppmejhaaGreatDoorK37
namespace Go.Proofs.YtiffkbmppmejhaaGreatDoor
set_option linter.unusedVariables false
set_option maxRecDepth 100000
set_option maxHeartbeats 8000000
open Go.ChangeShapes Go.WideShapes Go.ChangeAt Go.RowKit Go.Deep _root_.Go.Proofs.Tryz
theorem JT {B : Nat} {L : Lay} {S : St} (w : World) (h : PB B L S w) (hs : Sok S) (hT : Tb w) (hB : 0 < B) (k : Cp) (a : Acd) :
  Calls prog 13 #[.agg (cpc k), .pointer (some ⟨L.b, 0, none⟩), .agg (acc a)] w fun e w' => e = .returned (.agg (otc (DO S k a).1)) ∧ ∃ L', PSt B L w L' (DO S k a).2 w' := by
 by_cases hq : a.kd = 4 ∨ a.kd = 5 ∨ a.kd = 6
 ·exact JS w h hs hT hB k a hq
 exact JR w h hs hT hB k a (fun e => hq (.inl e)) (fun e => hq (.inr (.inl e))) (fun e => hq (.inr (.inr e)))
end Go.Proofs.YtiffkbmppmejhaaGreatDoor
