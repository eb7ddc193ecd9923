import Derived.Test.YtddlmenfcbjoaaaGreatDoorK32
import Derived.Test.YtddlmenfcbjoaaaGreatDoorK26
namespace Go.Proofs.YtddlmenfcbjoaaaGreatDoor
set_option linter.unusedVariables false
set_option maxRecDepth 100000
set_option maxHeartbeats 8000000
open Go.ChangeShapes Go.WideShapes Go.ChangeAt Go.RowKit Go.Deep _root_.Go.Proofs.Tryz
theorem tW (l : List Int) (v u : Value) (w : World) (ha : Byt w v l) (hb : Byt w u l) :
  Calls prog 34 #[v, u] w fun e w' => e = .returned (.bool true) ∧ w' = w := by
 have k1 := ha.conv
 have k2 := hb.conv
 obtain ⟨x1, y1, e1, _⟩ := ha
 obtain ⟨x2, y2, e2, _⟩ := hb
 generalize strOfNums l = s at k1 k2
 subst e1 e2
 go_enter func34, ntmps34
 go_wp2
 go_ret
 exact ⟨rfl, rfl⟩
theorem oQ (S : St) (vr vi vo ur ui uo : Value) (w : World) (ha : Bs S vr vi vo w) (hb : Bs S ur ui uo w) :
  Calls prog 13 #[.agg (stc S vr vi vo), .agg (stc S ur ui uo)] w fun e w' => e = .returned (.bool true) ∧ Below w.heap.size w w' := by
 have HB : Hid (∀ o o', Below w.heap.size w ((w.alloc o).alloc o')) := fun o o' => ((ZqD _ _).alloc (ZqE _) o).alloc (by simp) o'
 have k1 : Hid (∀ o o', Calls prog 34 #[vr, ur] ((w.alloc o).alloc o') fun e w' => e = .returned (.bool true) ∧ w' = (w.alloc o).alloc o') := fun o o' => tW _ _ _ _ (ha.r.later (HB.out o o') rfl) (hb.r.later (HB.out o o') rfl)
 have k2 : Hid (∀ o o', Calls prog 34 #[vi, ui] ((w.alloc o).alloc o') fun e w' => e = .returned (.bool true) ∧ w' = (w.alloc o).alloc o') := fun o o' => tW _ _ _ _ (ha.i.later (HB.out o o') rfl) (hb.i.later (HB.out o o') rfl)
 have k3 : Hid (∀ o o', Calls prog 34 #[vo, uo] ((w.alloc o).alloc o') fun e w' => e = .returned (.bool true) ∧ w' = (w.alloc o).alloc o') := fun o o' => tW _ _ _ _ (ha.o.later (HB.out o o') rfl) (hb.o.later (HB.out o o') rfl)
 obtain ⟨x1, y1, e1, _⟩ := ha.r
 obtain ⟨x2, y2, e2, _⟩ := ha.i
 obtain ⟨x3, y3, e3, _⟩ := ha.o
 obtain ⟨x4, y4, e4, _⟩ := hb.r
 obtain ⟨x5, y5, e5, _⟩ := hb.i
 obtain ⟨x6, y6, e6, _⟩ := hb.o
 clear ha hb
 subst e1 e2 e3 e4 e5 e6
 unfold stc
 go_enter func13, ntmps13
 go_upto_region 3 with (go_at_call 34; (first | (refine (k1.out _ _).mono ?_; clear k1) | (refine (k2.out _ _).mono ?_; clear k2) | (refine (k3.out _ _).mono ?_; clear k3)); rintro e w1 ⟨rfl, rfl⟩)
 go_wp2
 go_ret
 exact ⟨rfl, HB.out _ _⟩
def vA (V : ZqZ) : ZqZ := fun op x y => if op = 22 then x + y else V op x y
theorem gZ : ∃ V, CV (vA V) := by
 obtain ⟨V, hV⟩ := FV
 refine ⟨V, fun op h x y w => ?_⟩
 unfold vA
 by_cases e : op = 22
 ·subst e; rw [if_pos rfl]; exact FI x y w
 ·rw [if_neg e]; exact hV op h x y w
def cA : Cp := { cM with x := upd cz.x 2 2147483656#64 }
def iA1 : Ins := ⟨22, 1, 0, 0, -2, false, false, 4, 0#32⟩
def iA2 : Ins := ⟨19, 0, 2, 1, 2, false, false, 2, 0#32⟩
def iA3 : Ins := ⟨16, 3, 2, 0, 2, false, false, 4, 0#32⟩
def dA1 : Dd := { dZ with rd := 1, v := 18446744073709551614#64 }
def dA2 : Dd := { dZ with me := 2, ad := 2147483658#64, sz := 2, da := 65534#64 }
def dA3 : Dd := { dZ with rd := 3, v := 65534#64, me := 1, ad := 2147483658#64, sz := 2 }
def cA1 : Cp := { PR cA with pc := 2147483652#64, x := upd (PR cA).x 1 18446744073709551614#64 }
def cA2 : Cp := { cA1 with pc := 2147483654#64 }
def cA3 : Cp := { cA2 with pc := 2147483658#64, x := upd cA2.x 3 65534#64 }
def sA2 : St := (mSt (St.zero 64) (szK (wk0 0 (PR cA1) iA2) 13)).S
theorem qA1 : 0#64 + iB (-2) = 18446744073709551614#64 := by decide
theorem qP1 : (2147483648#64 + iB 4) &&& ~~~1#64 = 2147483652#64 := by decide
theorem qP2 : (2147483652#64 + iB 2) &&& ~~~1#64 = 2147483654#64 := by decide
theorem qP3 : (2147483654#64 + iB 4) &&& ~~~1#64 = 2147483658#64 := by decide
theorem qD2 : loV 18446744073709551614#64 2 = 65534#64 := by decide
theorem qI2 : 2147483656#64 + iB 2 = 2147483658#64 := by decide
theorem gA1_d (V : ZqZ) (b : Nat) : dD (dR (vA V) (St.zero 64) b cA iA1) = { dZ with rd := 1, v := 0#64 + iB (-2) } := by kernel_rfl
theorem gA1_c (V : ZqZ) (b : Nat) : dC (dR (vA V) (St.zero 64) b cA iA1) cA = { PR cA with pc := (2147483648#64 + iB 4) &&& ~~~1#64, x := upd (PR cA).x 1 (0#64 + iB (-2)) } := by kernel_rfl
theorem fA1_d (V : ZqZ) (b : Nat) : dD (dR (vA V) (St.zero 64) b cA iA1) = dA1 := by rw [gA1_d, qA1]; rfl
theorem fA1_c (V : ZqZ) (b : Nat) : cpc (dC (dR (vA V) (St.zero 64) b cA iA1) cA) = cpc cA1 := by rw [gA1_c, qP1, qA1]; rfl
theorem fA1_S (V : ZqZ) (b : Nat) : (dR (vA V) (St.zero 64) b cA iA1).S = St.zero 64 := by kernel_rfl
theorem TJ (V : ZqZ) (b : Nat) : (dR (vA V) (St.zero 64) b cA1 iA2).t = tN := by kernel_rfl
theorem gA2_d (V : ZqZ) (b : Nat) : (dR (vA V) (St.zero 64) b cA1 iA2).k.d = { dZ with me := 2, ad := 2147483656#64 + iB 2, sz := 2, da := loV 18446744073709551614#64 2 } := by kernel_rfl
theorem gA2_c (V : ZqZ) (b : Nat) : cpc (dR (vA V) (St.zero 64) b cA1 iA2).k.k = cpc { cA1 with pc := (2147483652#64 + iB 2) &&& ~~~1#64 } := by kernel_rfl
theorem fA2_d (V : ZqZ) (b : Nat) : dD (dR (vA V) (St.zero 64) b cA1 iA2) = dA2 := by unfold dD; rw [TJ, if_neg (by decide), gA2_d, qI2, qD2]; rfl
theorem fA2_c (V : ZqZ) (b : Nat) : cpc (dC (dR (vA V) (St.zero 64) b cA1 iA2) cA1) = cpc cA2 := by unfold dC; rw [TJ, if_neg (by decide), gA2_c, qP2]; rfl
theorem TH (V : ZqZ) (b : Nat) : (dR (vA V) (St.zero 64) b cA1 iA2).S = sA2 := by kernel_rfl
theorem gA3_t (V : ZqZ) (b : Nat) : (dR (vA V) sA2 b cA2 iA3).t = tN := by kernel_rfl
theorem fA3_d (V : ZqZ) (b : Nat) : dD (dR (vA V) sA2 b cA2 iA3) = dA3 := by kernel_rfl
theorem gA3_c (V : ZqZ) (b : Nat) : cpc (dR (vA V) sA2 b cA2 iA3).k.k = cpc { cA2 with pc := (2147483654#64 + iB 4) &&& ~~~1#64, x := upd cA2.x 3 65534#64 } := by kernel_rfl
theorem fA3_c (V : ZqZ) (b : Nat) : cpc (dC (dR (vA V) sA2 b cA2 iA3) cA2) = cpc cA3 := by unfold dC; rw [gA3_t, if_neg (by decide), gA3_c, qP3]; rfl
end Go.Proofs.YtddlmenfcbjoaaaGreatDoor
