import Derived.Test.YtiffkbmppmejhaaGreatDoorK05
import Derived.Deep.RegionHeld3
namespace Go.Proofs.YtiffkbmppmejhaaGreatDoor
set_option linter.unusedVariables false
set_option maxRecDepth 100000
set_option maxHeartbeats 8000000
open Go.ChangeShapes Go.WideShapes Go.ChangeAt Go.RowKit Go.Deep _root_.Go.Proofs.Tryz
theorem DT : (prog.info? 205).map (·.size) = some 6 := by kernel_rfl
def dvs (L : Lay) : Array Value := #[.iface 60 (pt L.m), .iface 73 (pt L.u), .iface 70 (pt L.ck), .iface 70 (pt L.cm), .iface 67 (pt L.sw), .iface 64 (pt L.pw)]
theorem vX {B : Nat} {L : Lay} {S : St} (w : World) (h : PB B L S w) :
  Calls prog 153 #[.pointer (some ⟨L.b, 0, none⟩)] w fun e w' => e = .returned (.agg (dvs L)) ∧ Below w.heap.size w w' := by
 have PCa : ∀ o, PCb L S L.vr L.vi L.vo (w.alloc o) := fun o => (h.later ((Below.refl _ _).alloc (Nat.le_refl _) o)).cl
 have HB : Hid (∀ o, Below w.heap.size w (w.alloc o)) := fun o => (Below.refl _ _).alloc (Nat.le_refl _) o
 have b0 := fun o => (PCa o).b0
 have b1 := fun o => (PCa o).b1
 have b2 := fun o => (PCa o).b2
 have b3 := fun o => (PCa o).b3
 have b4 := fun o => (PCa o).b4
 have b5 := fun o => (PCa o).b5
 clear PCa h
 unfold dvs pt
 go_enter func153, ntmps153
 go_wp2
 go_region_held3 (fun w' => w'.cell? ⟨L.b, 0, none⟩ = some (.pointer (some ⟨L.m, 0, none⟩)) ∧ w'.cell? ⟨L.b, 1, none⟩ = some (.pointer (some ⟨L.pw, 0, none⟩)) ∧ w'.cell? ⟨L.b, 2, none⟩ = some (.pointer (some ⟨L.sw, 0, none⟩)) ∧ w'.cell? ⟨L.b, 3, none⟩ = some (.pointer (some ⟨L.cm, 0, none⟩)) ∧ w'.cell? ⟨L.b, 4, none⟩ = some (.pointer (some ⟨L.ck, 0, none⟩)) ∧ w'.cell? ⟨L.b, 5, none⟩ = some (.pointer (some ⟨L.u, 0, none⟩))) (first | exact ⟨b0 _, b1 _, b2 _, b3 _, b4 _, b5 _⟩) (fail)
 go_wp2
 exact bodyPost_ret (v := .agg (dvs L)) (results_cell_row results153 _ _ w.heap.size 205 _ (0, 0) _ (by rfl) (cG w _) underlying205 (by rfl) DT) rfl ⟨rfl, (HB.out _).drew⟩
def hld (n : Nat) (a z : Int) : Bool := decide (2147483648 ≤ a) && (decide (a - 2147483648 < n) && (decide (0 ≤ z) && decide (z ≤ n - (a - 2147483648))))
theorem aU {z : Int} (h0 : 0 ≤ z) (h1 : z ≤ 18446744073709551615) : IntKind.u64.wrap z = z := by
 show z % 18446744073709551616 = z
 omega
theorem IA {z : Int} (h0 : z < 0) (h1 : -9223372036854775808 ≤ z) : IntKind.u64.wrap z = z + 18446744073709551616 := by
 show z % 18446744073709551616 = _
 omega
theorem jM (m n c : Nat) (ao : Option Addr) (a z : Int) (w : World) (hm : w.cell? ⟨m, 0, none⟩ = some (.slice ao n c)) (hn : n ≤ 65536) (ha : 0 ≤ a ∧ a ≤ 18446744073709551615) (hz : -9223372036854775808 ≤ z ∧ z ≤ 9223372036854775807) :
  Calls prog 159 #[.pointer (some ⟨m, 0, none⟩), .int .u64 a, .int .i64 z] w fun e w' => e = .returned (.bool (hld n a z)) ∧ Below w.heap.size w w' := by
 have HB0 : Hid (∀ k, Below w.heap.size w (w.drewN k)) := fun k => by
  induction k with
  | zero => exact Below.refl _ _
  | succ k ih => exact ih.drew
 obtain ⟨b, hb⟩ : ∃ b, b = hld n a z := ⟨_, rfl⟩
 rw [← hb]
 have HE : Hid (b = (decide (2147483648 ≤ a) && (decide (a - 2147483648 < n) && (decide (0 ≤ z) && decide (z ≤ n - (a - 2147483648)))))) := hb
 clear hb
 rcases Int.lt_or_le a 2147483648 with h1 | h1
 ·have HX : Hid (b = false) := by unfold Hid; rw [HE.out]; simp; omega
  go_enter func159, ntmps159
  go_wp2
  go_ret
  exact ⟨by cases HX.out; rfl, Below.refl _ _⟩
 ·have e1 : IntKind.u64.wrap (a - 2147483648) = a - 2147483648 := aU (by omega) (by omega)
  have e2 : IntKind.u64.wrap (n : Int) = n := aU (by omega) (by omega)
  go_enter func159, ntmps159
  go_wp2
  go_quiet (fail)
  go_wp2
  ·rename_i h2
   go_ret
   refine ⟨?_, HB0.out _⟩
   have e : decide (IntKind.u64.wrap z ≤ n - (a - 2147483648)) = b := by
    rw [HE.out]
    rcases Int.lt_or_le z 0 with h3 | h3
    ·rw [IA h3 hz.1, show decide (0 ≤ z) = false from decide_eq_false (by omega), show decide (z + 18446744073709551616 ≤ n - (a - 2147483648)) = false from decide_eq_false (by omega)]; simp
    ·rw [aU h3 (by omega)]; simp [h1, h2, h3]
   show Ending.returned (.bool (decide (IntKind.u64.wrap z ≤ n - (a - 2147483648)))) = _
   rw [e]
  ·rename_i h2
   go_ret
   refine ⟨?_, HB0.out _⟩
   have e : b = false := by rw [HE.out, show decide (a - 2147483648 < (n : Int)) = false from decide_eq_false (by omega)]; simp
   rw [e]
   rfl
def dD (n : Nat) (a z : Int) : Bool := (z == 1 || z == 2 || z == 4 || z == 8) && (a % z == 0 && hld n a z)
theorem zJ (m n c : Nat) (ao : Option Addr) (a z : Int) (w : World) (hm : w.cell? ⟨m, 0, none⟩ = some (.slice ao n c)) (hn : n ≤ 65536) (ha : 0 ≤ a ∧ a ≤ 18446744073709551615) (hz : -9223372036854775808 ≤ z ∧ z ≤ 9223372036854775807) :
  Calls prog 183 #[.pointer (some ⟨m, 0, none⟩), .int .u64 a, .int .i64 z] w fun e w' => e = .returned (.bool (dD n a z)) ∧ Below w.heap.size w w' := by
 obtain ⟨b, hb⟩ : ∃ b, b = dD n a z := ⟨_, rfl⟩
 rw [← hb]
 have HE : Hid (b = ((z == 1 || z == 2 || z == 4 || z == 8) && (a % z == 0 && hld n a z))) := hb
 clear hb
 by_cases h1 : z = 1
 ·subst h1
  have ht : a.tmod 1 = a % 1 := Int.tmod_eq_emod_of_nonneg ha.1
  have HH := jM m n c ao a 1 w hm hn ha (by omega)
  have HX : Hid (b = (a % 1 == 0 && hld n a 1)) := by unfold Hid; rw [HE.out]; rfl
  clear HE
  generalize hld n a 1 = q at HH HX
  rcases Bool.eq_false_or_eq_true (a % 1 == 0) with hq | hq
  ·go_enter func183, ntmps183
   go_wp2_with (go_at_call 159; refine HH.mono ?_; rintro e w1 ⟨rfl, hb1⟩)
   go_ret
   exact ⟨by rw [HX.out, hq]; rfl, hb1⟩
  ·exact absurd hq (by simp)
 by_cases h2 : z = 2
 ·subst h2
  have ht : a.tmod 2 = a % 2 := Int.tmod_eq_emod_of_nonneg ha.1
  have HH := jM m n c ao a 2 w hm hn ha (by omega)
  have HX : Hid (b = (a % 2 == 0 && hld n a 2)) := by unfold Hid; rw [HE.out]; rfl
  clear HE
  generalize hld n a 2 = q at HH HX
  rcases Bool.eq_false_or_eq_true (a % 2 == 0) with hq | hq
  ·go_enter func183, ntmps183
   go_wp2_with (go_at_call 159; refine HH.mono ?_; rintro e w1 ⟨rfl, hb1⟩)
   go_ret
   exact ⟨by rw [HX.out, hq]; rfl, hb1⟩
  ·go_enter func183, ntmps183
   go_wp2
   go_ret
   exact ⟨by rw [HX.out, hq]; rfl, Below.refl _ _⟩
 by_cases h4 : z = 4
 ·subst h4
  have ht : a.tmod 4 = a % 4 := Int.tmod_eq_emod_of_nonneg ha.1
  have HH := jM m n c ao a 4 w hm hn ha (by omega)
  have HX : Hid (b = (a % 4 == 0 && hld n a 4)) := by unfold Hid; rw [HE.out]; rfl
  clear HE
  generalize hld n a 4 = q at HH HX
  rcases Bool.eq_false_or_eq_true (a % 4 == 0) with hq | hq
  ·go_enter func183, ntmps183
   go_wp2_with (go_at_call 159; refine HH.mono ?_; rintro e w1 ⟨rfl, hb1⟩)
   go_ret
   exact ⟨by rw [HX.out, hq]; rfl, hb1⟩
  ·go_enter func183, ntmps183
   go_wp2
   go_ret
   exact ⟨by rw [HX.out, hq]; rfl, Below.refl _ _⟩
 by_cases h8 : z = 8
 ·subst h8
  have ht : a.tmod 8 = a % 8 := Int.tmod_eq_emod_of_nonneg ha.1
  have HH := jM m n c ao a 8 w hm hn ha (by omega)
  have HX : Hid (b = (a % 8 == 0 && hld n a 8)) := by unfold Hid; rw [HE.out]; rfl
  clear HE
  generalize hld n a 8 = q at HH HX
  rcases Bool.eq_false_or_eq_true (a % 8 == 0) with hq | hq
  ·go_enter func183, ntmps183
   go_wp2_with (go_at_call 159; refine HH.mono ?_; rintro e w1 ⟨rfl, hb1⟩)
   go_ret
   exact ⟨by rw [HX.out, hq]; rfl, hb1⟩
  ·go_enter func183, ntmps183
   go_wp2
   go_ret
   exact ⟨by rw [HX.out, hq]; rfl, Below.refl _ _⟩
 have e1 : (z == 1) = false := by simpa using h1
 have e2 : (z == 2) = false := by simpa using h2
 have e4 : (z == 4) = false := by simpa using h4
 have e8 : (z == 8) = false := by simpa using h8
 have HX : Hid (b = false) := by unfold Hid; rw [HE.out, e1, e2, e4, e8]; rfl
 clear HE
 go_enter func183, ntmps183
 go_wp2
 go_ret
 exact ⟨by cases HX.out; rfl, Below.refl _ _⟩
end Go.Proofs.YtiffkbmppmejhaaGreatDoor
