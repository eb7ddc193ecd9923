import Derived.Test.YtddlmenfcbjoaaaGreatDoorK07
import Derived.Test.YtddlmenfcbjoaaaGreatDoorK08
import Derived.Deep.RegionWith
import Derived.Deep.RegionHeld3
import Derived.Test.YtddlmenfcbjoaaaGreatDoorK09
import Derived.Test.YtddlmenfcbjoaaaGreatDoorK10
import Derived.BigRegion
namespace Go.Proofs.YtddlmenfcbjoaaaGreatDoor
set_option linter.unusedVariables false
set_option maxRecDepth 100000
set_option maxHeartbeats 8000000
open Go.ChangeShapes Go.WideShapes Go.ChangeAt Go.RowKit Go.Deep _root_.Go.Proofs.Tryz
theorem PB.own_lo {B : Nat} {L : Lay} {S : St} {w : World} (h : PB B L S w) (k : Nat) (hk : L.own k) : B ≤ k := by
 rcases hk with rfl | rfl | rfl | rfl | rfl | rfl | rfl | rfl | hk | hk | hk
 ·exact h.lb
 ·exact h.lm
 ·exact h.lp
 ·exact h.ls
 ·exact h.lc
 ·exact h.lk
 ·exact h.lu
 ·exact h.lq
 ·exact (h.wr.lt k hk).1
 ·exact (h.wi.lt k hk).1
 ·exact (h.wo.lt k hk).1
theorem PB.own_hi {B : Nat} {L : Lay} {S : St} {w : World} (h : PB B L S w) (k : Nat) (hk : L.own k) : k < w.heap.size := by
 rcases hk with rfl | rfl | rfl | rfl | rfl | rfl | rfl | rfl | hk | hk | hk
 ·exact (Array.getElem?_eq_some_iff.1 h.hb).1
 ·exact (Array.getElem?_eq_some_iff.1 h.hm).1
 ·exact (Array.getElem?_eq_some_iff.1 h.hp).1
 ·exact (Array.getElem?_eq_some_iff.1 h.hs).1
 ·exact (Array.getElem?_eq_some_iff.1 h.hc).1
 ·exact (Array.getElem?_eq_some_iff.1 h.hk).1
 ·exact (Array.getElem?_eq_some_iff.1 h.hu).1
 ·exact (Array.getElem?_eq_some_iff.1 h.hq).1
 ·exact (h.wr.lt k hk).2
 ·exact (h.wi.lt k hk).2
 ·exact (h.wo.lt k hk).2
theorem PB.exo {B : Nat} {L : Lay} {S : St} {w w' : World} {G : Nat → Prop} (h : PB B L S w) (hb : Exc G w w') (hG : ∀ k, L.own k → ¬ G k) : PB B L S w' := by
 have k : ∀ {g : Nat} {o : Obj}, L.own g → w.heap[g]? = some o → w'.heap[g]? = some o := fun {g o} hB hg => by rw [hb.block g (Array.getElem?_eq_some_iff.1 hg).1 (hG g hB)]; exact hg
 exact ⟨k (by unfold Lay.own; simp) h.hb, k (by unfold Lay.own; simp) h.hm, k (by unfold Lay.own; simp) h.hp, k (by unfold Lay.own; simp) h.hs, k (by unfold Lay.own; simp) h.hc, k (by unfold Lay.own; simp) h.hk, k (by unfold Lay.own; simp) h.hu, k (by unfold Lay.own; simp) h.hq,
  eJ h.wr hb (fun g hg => hG g (by unfold Lay.own; simp [hg])), eJ h.wi hb (fun g hg => hG g (by unfold Lay.own; simp [hg])), eJ h.wo hb (fun g hg => hG g (by unfold Lay.own; simp [hg])), h.ri, h.ro, h.io, h.lb, h.lm, h.lp, h.ls, h.lc, h.lk, h.lu, h.lq⟩
section
variable {w0 : World} {L1 L2 : Lay} {B2 M ga gb : Nat} {Ca Cb : Array Value} {S1 S2 : St} {w w' : World}
end
section
variable {w0 : World} {L1 L2 : Lay} {B2 M ga gb : Nat} {Ca Cb : Array Value} {S1 S2 : St} {w : World}
end
end Go.Proofs.YtddlmenfcbjoaaaGreatDoor
namespace Go.Proofs.YtddlmenfcbjoaaaGreatDoor
set_option linter.unusedVariables false
set_option maxRecDepth 100000
set_option maxHeartbeats 8000000
open Go.ChangeShapes Go.WideShapes Go.ChangeAt Go.RowKit Go.Deep Go.MuLone _root_.Go.Proofs.Tryz
def Kp (B N : Nat) (w w' : World) : Prop := ∀ k, (N ≤ k ∨ k < B) → k < w.heap.size → w'.heap[k]? = w.heap[k]?
section
variable {B N c : Nat} {L L' : Lay} {S T S' : St} {vr vi vo ur ui uo : Value} {w w' w2 : World}
theorem mJ {v : Value} {l : List Int} {n M : Nat} (h : w.ownsRow M 5 1 v n (bv l)) : ∀ g off m c, v = .slice (some ⟨g, off, none⟩) m c → M ≤ g ∧ g < w.heap.size := fun g off m c e => h.lt g (qN e)
end
structure Sok (S : St) : Prop where
 ok : S.ok = true
 st : StW S
theorem Sok.n {S : St} (h : Sok S) : S.ram.length ≤ 65536 ∧ 8 ≤ S.ram.length ∧ S.inp.length ≤ 64 ∧ S.out.length ≤ 4096 ∧ S.msip ≤ 1 ∧ S.ier ≤ 15 ∧ S.mcr ≤ 31 := by
 have := h.ok
 simp only [St.ok, gS, Bool.and_eq_true, decide_eq_true_eq] at this
 omega
theorem Sok.mk' {S T : St} (h : Sok S) (hr : T.ram.length = S.ram.length) (ha : fQ T.ram) (hi : T.inp.length ≤ 64 ∧ fQ T.inp) (ho : T.out.length ≤ 4096 ∧ fQ T.out) (h1 : 0 ≤ T.msip ∧ T.msip ≤ 1) (h2 : 0 ≤ T.cmp ∧ T.cmp ≤ 18446744073709551615) (h3 : 0 ≤ T.time ∧ T.time ≤ 18446744073709551615)
  (h4 : 0 ≤ T.ier ∧ T.ier ≤ 15) (h5 : 0 ≤ T.lcr ∧ T.lcr ≤ 255) (h6 : 0 ≤ T.mcr ∧ T.mcr ≤ 31) (h7 : 0 ≤ T.scr ∧ T.scr ≤ 255) (h8 : fM T.off T.code = true) : Sok T := by
 have hk := h.ok
 simp only [St.ok, Bool.and_eq_true, decide_eq_true_eq] at hk
 refine ⟨?_, ⟨ha, hi.2, ho.2, ⟨h1.1, by omega⟩, h2, h3, ⟨h4.1, by omega⟩, h5, ⟨h6.1, by omega⟩, h7, ?_, ?_⟩⟩
 ·simp only [St.ok, Bool.and_eq_true, decide_eq_true_eq, hr]
  exact ⟨⟨⟨⟨⟨⟨hk.1.1.1.1.1.1, h1.2⟩, h4.2⟩, h6.2⟩, by omega⟩, by omega⟩, h8⟩
 ·unfold fM at h8
  split at h8
  ·omega
  ·split at h8
   ·omega
   ·cases h8
 ·unfold fM at h8
  split at h8
  ·have : T.code = 0 := by simpa using h8
   omega
  ·split at h8
   ·simp only [Bool.and_eq_true, decide_eq_true_eq] at h8; omega
   ·cases h8
theorem Sok.pow {S : St} (h : Sok S) : fM S.off S.code = true := by
 have hk := h.ok
 simp only [St.ok, Bool.and_eq_true] at hk
 exact hk.2
theorem Sok.but {S T : St} (h : Sok S) (hr : T.ram = S.ram) (hi : T.inp.length ≤ 64 ∧ fQ T.inp) (ho : T.out.length ≤ 4096 ∧ fQ T.out) (h1 : 0 ≤ T.msip ∧ T.msip ≤ 1) (h2 : 0 ≤ T.cmp ∧ T.cmp ≤ 18446744073709551615) (h3 : 0 ≤ T.time ∧ T.time ≤ 18446744073709551615)
  (h4 : 0 ≤ T.ier ∧ T.ier ≤ 15) (h5 : 0 ≤ T.lcr ∧ T.lcr ≤ 255) (h6 : 0 ≤ T.mcr ∧ T.mcr ≤ 31) (h7 : 0 ≤ T.scr ∧ T.scr ≤ 255) (h8 : fM T.off T.code = true) : Sok T := h.mk' (by rw [hr]) (by rw [hr]; exact h.st.r) hi ho h1 h2 h3 h4 h5 h6 h7 h8
theorem zZ {N base a z v : Int} (hN : 0 ≤ N ∧ N ≤ 18446744073709551615) (hv : 0 ≤ v ∧ v ≤ 18446744073709551615) : 0 ≤ nJ N base a z v ∧ nJ N base a z v ≤ 18446744073709551615 := by
 unfold nJ
 split
 ·exact hv
 ·split <;> omega
section
variable {S : St} (h : Sok S)
include h
theorem Sok.bi : S.inp.length ≤ 64 ∧ fQ S.inp := ⟨h.n.2.2.1, h.st.i⟩
theorem Sok.bo : S.out.length ≤ 4096 ∧ fQ S.out := ⟨h.n.2.2.2.1, h.st.o⟩
theorem Sok.bm : 0 ≤ S.msip ∧ S.msip ≤ 1 := ⟨h.st.msip.1, h.n.2.2.2.2.1⟩
theorem Sok.be : 0 ≤ S.ier ∧ S.ier ≤ 15 := ⟨h.st.ier.1, h.n.2.2.2.2.2.1⟩
theorem Sok.bc : 0 ≤ S.mcr ∧ S.mcr ≤ 31 := ⟨h.st.mcr.1, h.n.2.2.2.2.2.2⟩
theorem Sok.tel (r : Nat) : Sok (S.tel r).2 := by
 have hb := h.bi
 have hd : ∀ q : Nat, 8 ≤ q → S.tel q = (0, S) := fun q hq => by
  match q, hq with
  | q + 8, _ => rfl
 by_cases hr : r < 8
 ·rcases jM hr with rfl | rfl | rfl | rfl | rfl | rfl | rfl | rfl
  ·cases hi : S.inp with
   | nil => have e : S.tel 0 = (0, S) := by simp only [St.tel, hi]
            rw [e]; exact h
   | cons x xs =>
    have e : S.tel 0 = (x, { S with inp := xs }) := by simp only [St.tel, hi]
    rw [e]
    rw [hi] at hb
    exact h.but rfl ⟨by have := hb.1; simp at this; show xs.length ≤ 64; omega, fun y hy => hb.2 y (List.mem_cons_of_mem _ hy)⟩ h.bo h.bm h.st.cmp h.st.time h.be h.st.lcr h.bc h.st.scr h.pow
  ·exact h
  ·exact h
  ·exact h
  ·exact h
  ·exact h.but rfl h.bi h.bo h.bm h.st.cmp h.st.time h.be h.st.lcr h.bc h.st.scr h.pow
  ·exact h
  ·exact h
 ·rw [hd r (by omega)]; exact h
theorem Sok.sen (c : Int) (hc : 0 ≤ c ∧ c ≤ 255) : Sok (S.sen c) := by
 unfold St.sen
 split
 ·refine h.but rfl h.bi ⟨?_, ?_⟩ h.bm h.st.cmp h.st.time h.be h.st.lcr h.bc h.st.scr h.pow
  ·simp only [List.length_append, List.length_cons, List.length_nil]; omega
  ·intro y hy
   rcases List.mem_append.1 hy with q | q
   ·exact h.st.o y q
   ·simp at q; rw [q]; exact hc
 ·exact h
theorem Sok.tak (r : Nat) (v : Int) (hv : 0 ≤ v) : Sok (S.tak r v) := by
 have hd : ∀ q : Nat, 8 ≤ q → S.tak q v = S := fun q hq => by
  match q, hq with
  | q + 8, _ => rfl
 by_cases hr : r < 8
 ·rcases jM hr with rfl | rfl | rfl | rfl | rfl | rfl | rfl | rfl
  ·exact h.sen _ (by omega)
  ·exact h.but rfl h.bi h.bo h.bm h.st.cmp h.st.time (by show 0 ≤ v % 16 ∧ v % 16 ≤ 15; omega) h.st.lcr h.bc h.st.scr h.pow
  ·show Sok (if v / 2 % 2 = 1 then { S with inp := [] } else S)
   split
   ·exact h.but rfl ⟨by simp, fun y hy => by cases hy⟩ h.bo h.bm h.st.cmp h.st.time h.be h.st.lcr h.bc h.st.scr h.pow
   ·exact h
  ·exact h.but rfl h.bi h.bo h.bm h.st.cmp h.st.time h.be (by show 0 ≤ v % 256 ∧ v % 256 ≤ 255; omega) h.bc h.st.scr h.pow
  ·exact h.but rfl h.bi h.bo h.bm h.st.cmp h.st.time h.be h.st.lcr (by show 0 ≤ v % 32 ∧ v % 32 ≤ 31; omega) h.st.scr h.pow
  ·exact h
  ·exact h
  ·exact h.but rfl h.bi h.bo h.bm h.st.cmp h.st.time h.be h.st.lcr h.bc (by show 0 ≤ v % 256 ∧ v % 256 ≤ 255; omega) h.pow
 ·rw [hd r (by omega)]; exact h
theorem Sok.fin (v : Int) : Sok (S.fin v) := by
 unfold St.fin
 split
 ·rename_i h0
  have hp := h.pow
  rw [h0] at hp
  split
  ·refine h.but rfl h.bi h.bo h.bm h.st.cmp h.st.time h.be h.st.lcr h.bc h.st.scr ?_
   show fM 1 S.code = true
   exact hp
  ·split
   ·refine h.but rfl h.bi h.bo h.bm h.st.cmp h.st.time h.be h.st.lcr h.bc h.st.scr ?_
    show fM 2 (v / 65536 % 65536) = true
    unfold fM
    rw [if_neg (by omega), if_pos rfl, decide_eq_true (by omega), decide_eq_true (by omega)]; rfl
   ·exact h
 ·exact h
theorem Sok.ram (k : Nat) (cs : List Int) (hk : k + cs.length ≤ S.ram.length) (hc : fQ cs) : Sok { S with ram := splice S.ram k cs } :=
 h.mk' (qS _ _ _ hk) (nW k h.st.r hc) h.bi h.bo h.bm h.st.cmp h.st.time h.be h.st.lcr h.bc h.st.scr h.pow
theorem Sok.ld (a z : Int) : Sok (S.ld a z).2 := by
 rcases jH S.ram.length a z with hf | hf | hf | hf | hf | hf | hf
 all_goals simp only [St.ld, hf]
 all_goals first | exact h | exact h.tel _
theorem Sok.sto2 (a z v : Int) (hv : 0 ≤ v ∧ v ≤ 18446744073709551615) : Sok (S.sto2 a z v).2 := by
 rcases jH S.ram.length a z with hf | hf | hf | hf | hf | hf | hf
 ·obtain ⟨k, s, rfl, rfl, hks, hs, h8⟩ := pW (pU hf)
  have e : S.sto2 (2147483648 + (k : Int)) s v = (true, S.put k s v.toNat) := by
   unfold St.sto2; rw [hf]; simp only; rw [show (2147483648 + (k : Int) - 2147483648).toNat = k by omega]; rfl
  rw [e]
  exact h.ram k (ptL v.toNat s) (by rw [bW]; exact hks) (pB _ _)
 ·simp only [St.sto2, hf]; exact h.tak _ v hv.1
 ·simp only [St.sto2, hf]; exact h.but rfl h.bi h.bo h.bm h.st.cmp (zZ h.st.time hv) h.be h.st.lcr h.bc h.st.scr h.pow
 ·simp only [St.sto2, hf]; exact h.but rfl h.bi h.bo h.bm (zZ h.st.cmp hv) h.st.time h.be h.st.lcr h.bc h.st.scr h.pow
 ·simp only [St.sto2, hf]; exact h.but rfl h.bi h.bo (by show 0 ≤ v % 2 ∧ v % 2 ≤ 1; omega) h.st.cmp h.st.time h.be h.st.lcr h.bc h.st.scr h.pow
 ·simp only [St.sto2, hf]; exact h.fin v
 ·simp only [St.sto2, hf]; exact h
end
section
variable {B c : Nat} {L L' : Lay} {S T : St} {vr vi vo ur ui uo : Value} {w W w1 w2 w3 : World}
end



section
variable {B : Nat} {w0 : World} {b c gp : Nat} {L : Lay} {S : St} {vr vi vo : Value} {w w1 w' : World}
end
end Go.Proofs.YtddlmenfcbjoaaaGreatDoor
