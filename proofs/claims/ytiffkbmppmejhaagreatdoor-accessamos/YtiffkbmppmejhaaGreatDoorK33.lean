import Derived.Test.YtiffkbmppmejhaaGreatDoorK12
import Derived.Test.YtiffkbmppmejhaaGreatDoorK31
import Derived.Test.YtiffkbmppmejhaaGreatDoorK32
namespace Go.Proofs.YtiffkbmppmejhaaGreatDoor
set_option linter.unusedVariables false
set_option maxRecDepth 100000
set_option maxHeartbeats 8000000
open Go.MuLone Go.ChangeShapes Go.WideShapes Go.ChangeAt Go.RowKit Go.Deep _root_.Go.Proofs.Tryz
def DoesC : Prop := ∀ {B : Nat} {L : Lay} {S : St} (w : World), PB B L S w → Sok S → Tb w → 0 < B → ∀ (k : Cp) (a : Acd), Calls prog 13 #[.agg (cpc k), .pointer (some ⟨L.b, 0, none⟩), .agg (acc a)] w fun e w' => e = .returned (.agg (otc (DO S k a).1)) ∧ ∃ L', PSt B L w L' (DO S k a).2 w'
def IQ : Prop := ∀ {B c : Nat} {S : St} {vr vi vo : Value} (w : World), RB B c S vr vi vo w → Sok S → ∀ (k : Cp) (a : Acd), Calls prog 14 #[.agg (cpc k), .pointer (some ⟨c, 0, none⟩), .agg (acc a)] w fun e w' => e = .returned (.agg (otc (DO S k a).1)) ∧ ∃ ur ui uo, RSt B c vr vi vo w ur ui uo (DO S k a).2 w'
theorem RJ {S : St} (hs : Sok S) (k : Cp) (a : Acd) : Sok (DO S k a).2 := by
 unfold DO
 have hb : ∀ t e : Bool, Sok (S.beg t e false [n64 a.ad % 256]) := fun t e => hs.beg _ _ _ _ (fun x hx => by
  have q : x = n64 a.ad % 256 := by simpa using hx
  subst q
  have := bB a.ad
  omega)
 repeat' split
 all_goals first | exact IP hs | exact lW hs | exact IN hs | exact RE hs | exact hb _ _ | exact hs
theorem FF (K : Cp) (S : St) (ar ai ao : Option Addr) (cr ci co : Nat) (O : List Acd) (va : Value) (kd : Int) (w : World) (hT : Tb w) (hs : Bs S (.slice ar S.ram.length cr) (.slice ai S.inp.length ci) (.slice ao S.out.length co) w) (hw : StW S) (lr : S.ram.length ≤ 140737488355328) (li : S.inp.length ≤ 140737488355328) (lo : S.out.length ≤ 140737488355328) (ha : pL w va O) (hl : O.length ≤ 140737488355328) (hok : S.ok = false) :
  Calls prog 9 #[.agg (scc K S (.slice ar S.ram.length cr) (.slice ai S.inp.length ci) (.slice ao S.out.length co) va), .int .i64 kd] w fun e w' => e = .returned (.bool true) ∧ Below w.heap.size w w' := by
 obtain ⟨W0, hW0, r0, b0, s0⟩ := cO w (scc K S (.slice ar S.ram.length cr) (.slice ai S.inp.length ci) (.slice ao S.out.length co) va) 38
 have HSB : Hid (∀ W, Below W0.heap.size W0 W → ∀ j v, (stc S (.slice ar S.ram.length cr) (.slice ai S.inp.length ci) (.slice ao S.out.length co))[j]? = some v → W.cell? ⟨w.heap.size, 82 + j, none⟩ = some v) := fun W hb j v h => by rw [(r0.out.later hb r0.out.lt).cell]; exact JB _ _ _ _ _ _ j v h
 have HFR : Hid (∀ w1, Calls prog 10 #[.agg (stc S (.slice ar S.ram.length cr) (.slice ai S.inp.length ci) (.slice ao S.out.length co))] w1 fun e w' => e = .returned (.tuple #[.pointer none, .int .i64 31]) ∧ Below w1.heap.size w1 w') := fun w1 => yY S ar ai ao cr ci co w1 hok
 have HRF : Hid (∀ w1, Calls prog 11 #[.agg (stc S (.slice ar S.ram.length cr) (.slice ai S.inp.length ci) (.slice ao S.out.length co))] w1 fun e w' => e = .returned (.tuple #[.pointer none, .int .i64 31]) ∧ Below w1.heap.size w1 w') := fun w1 => wZ S ar ai ao cr ci co w1 hok
 have HLV : Hid (∀ W, Tb W → Calls prog 12 #[] W fun e w' => e = .returned (.bool true) ∧ Below W.heap.size W w') := fun W h => zG W h
 have HT0 : Hid (Tb W0) := hT.next b0.out
 clear hs hw lr li lo ha hl hok s0 hT
 go_enter func9, ntmps9
 go_upto_region 1 with fail
 clear hW0 r0
 go_wp2_with (first | (refine bA (by rfl) _ _ (by rfl) w.heap.size 82 (by rfl) (stc S (.slice ar S.ram.length cr) (.slice ai S.inp.length ci) (.slice ao S.out.length co)) _ (HSB.out _ (Below.refl _ _)) underlying35 (by rfl) (jO _ _ _ _) ?_) | (refine bA (by rfl) _ _ (by rfl) w.heap.size 82 (by rfl) (stc S (.slice ar S.ram.length cr) (.slice ai S.inp.length ci) (.slice ao S.out.length co)) _ (HSB.out _ HB1.out) underlying35 (by rfl) (jO _ _ _ _) ?_) | (go_at_call 10; refine (HFR.out _).mono ?_; rintro e w1 ⟨rfl, hb1⟩; have HB1 := hid hb1; clear hb1) | (go_at_call 11; refine (HRF.out _).mono ?_; rintro e w2 ⟨rfl, hb2⟩; have HB2 : Hid (Below W0.heap.size W0 w2) := HB1.out.trans (hb2.mono HB1.out.size); clear hb2) | (go_at_call 12; refine (HLV.out _ (HT0.out.next HB2.out)).mono ?_; rintro e w3 ⟨rfl, hb3⟩; have HB3 : Hid (Below W0.heap.size W0 w3) := HB2.out.trans (hb3.mono HB2.out.size); clear hb3))
 go_ret
 exact ⟨rfl, b0.out.trans (HB3.out.mono b0.out.size)⟩
end Go.Proofs.YtiffkbmppmejhaaGreatDoor
