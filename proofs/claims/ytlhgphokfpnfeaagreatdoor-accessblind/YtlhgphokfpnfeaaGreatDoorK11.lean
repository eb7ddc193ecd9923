import Derived.Test.YtlhgphokfpnfeaaGreatDoorK07
import Derived.Test.YtlhgphokfpnfeaaGreatDoorK09
import Derived.Test.YtlhgphokfpnfeaaGreatDoorK08
import Derived.Test.YtlhgphokfpnfeaaGreatDoorK10
import Derived.BigRegion
namespace Go.Proofs.YtlhgphokfpnfeaaGreatDoor
set_option linter.unusedVariables false
open Go.ChangeShapes Go.WideShapes Go.ChangeAt Go.RowKit Go.Deep
theorem PB.own_lo {B : Nat} {L : Lay} {S : St} {w : World} (h : PB B L S w) (k : Nat) (hk : L.own k) : B ≤ k := by
  rcases hk with rfl | rfl | rfl | rfl | rfl | rfl | rfl | rfl | hk | hk | hk
  · exact h.lb
  · exact h.lm
  · exact h.lp
  · exact h.ls
  · exact h.lc
  · exact h.lk
  · exact h.lu
  · exact h.lq
  · exact (h.wr.lt k hk).1
  · exact (h.wi.lt k hk).1
  · exact (h.wo.lt k hk).1
theorem PB.own_hi {B : Nat} {L : Lay} {S : St} {w : World} (h : PB B L S w) (k : Nat) (hk : L.own k) : k < w.heap.size := by
  rcases hk with rfl | rfl | rfl | rfl | rfl | rfl | rfl | rfl | hk | hk | hk
  · exact (Array.getElem?_eq_some_iff.1 h.hb).1
  · exact (Array.getElem?_eq_some_iff.1 h.hm).1
  · exact (Array.getElem?_eq_some_iff.1 h.hp).1
  · exact (Array.getElem?_eq_some_iff.1 h.hs).1
  · exact (Array.getElem?_eq_some_iff.1 h.hc).1
  · exact (Array.getElem?_eq_some_iff.1 h.hk).1
  · exact (Array.getElem?_eq_some_iff.1 h.hu).1
  · exact (Array.getElem?_eq_some_iff.1 h.hq).1
  · exact (h.wr.lt k hk).2
  · exact (h.wi.lt k hk).2
  · exact (h.wo.lt k hk).2
theorem PB.exo {B : Nat} {L : Lay} {S : St} {w w' : World} {G : Nat → Prop} (h : PB B L S w) (hb : Exc G w w') (hG : ∀ k, L.own k → ¬ G k) : PB B L S w' := by
  have k : ∀ {g : Nat} {o : Obj}, L.own g → w.heap[g]? = some o → w'.heap[g]? = some o := fun {g o} hB hg => by rw [hb.block g (Array.getElem?_eq_some_iff.1 hg).1 (hG g hB)]; exact hg
  exact ⟨k (by unfold Lay.own; simp) h.hb, k (by unfold Lay.own; simp) h.hm, k (by unfold Lay.own; simp) h.hp, k (by unfold Lay.own; simp) h.hs, k (by unfold Lay.own; simp) h.hc, k (by unfold Lay.own; simp) h.hk, k (by unfold Lay.own; simp) h.hu, k (by unfold Lay.own; simp) h.hq,
    own_exc h.wr hb (fun g hg => hG g (by unfold Lay.own; simp [hg])), own_exc h.wi hb (fun g hg => hG g (by unfold Lay.own; simp [hg])), own_exc h.wo hb (fun g hg => hG g (by unfold Lay.own; simp [hg])), h.ri, h.ro, h.io, h.lb, h.lm, h.lp, h.ls, h.lc, h.lk, h.lu, h.lq⟩
section
variable {w0 : World} {L1 L2 : Lay} {B2 M ga gb : Nat} {Ca Cb : Array Value} {S1 S2 : St} {w w' : World}
theorem Lies.exc {g : Nat} {C : Array Value} {T : TypeId} {G : Nat → Prop} (h : Lies g C T w) (hx : Exc G w w') (hg : ¬ G g) : Lies g C T w' := by
  unfold Lies at *; rw [hx.block g (Array.getElem?_eq_some_iff.1 h).1 hg]; exact h
end
section
variable {w0 : World} {L1 L2 : Lay} {B2 M ga gb : Nat} {Ca Cb : Array Value} {S1 S2 : St} {w : World}
end
theorem Lies.far {w : World} {a b : Nat} {D : Array Value} {T : TypeId} (h : Lies b D T w) (hne : a ≠ b) (j : Nat) (v : Value) : Lies b D T (w.setCell ⟨a, j, none⟩ v) := by
  unfold Lies
  rw [Below.heap_setCell w ⟨a, j, none⟩ v b (fun e => hne e.symm)]
  exact h
end Go.Proofs.YtlhgphokfpnfeaaGreatDoor
namespace Go.Proofs.YtlhgphokfpnfeaaGreatDoor
set_option linter.unusedVariables false
open Go.ChangeShapes Go.WideShapes Go.ChangeAt Go.RowKit Go.Deep Go.MuLone
/-- What a world brings. -/
def St.beg (S : St) (t e s : Bool) (l : List Int) : St := if S.off = 0 then { S.joi l with ext := e, soft := s, time := if t = true then (S.time + 1) % 18446744073709551616 else S.time } else S
theorem Begin_off {B : Nat} {L : Lay} {S : St} (w : World) (h : PB B L S w) (t e s : Bool) (v : Value) (l : List Int) (ho : S.off ≠ 0) :
    Calls Tryz.prog 18 #[.pointer (some ⟨L.b, 0, none⟩), .agg #[.bool t, .bool e, .bool s, v]] w fun e' w' => e' = .returned (.tuple #[]) ∧ ∃ L', PSt B L w L' (S.beg t e s l) w' := by
  have HT : Hid (S.beg t e s l = S) := by unfold Hid St.beg; rw [if_neg ho]
  generalize S.beg t e s l = T at HT ⊢
  have HP : Hid (PB B L S w) := h
  obtain ⟨W, hW⟩ : ∃ W, w.alloc (.cells #[.bool t, .bool e, .bool s, v] 61) = W := ⟨_, rfl⟩
  have hb : Below w.heap.size w W := by rw [← hW]; exact (Below.refl _ _).alloc (Nat.le_refl _) _
  have b1 := (h.later hb).cl.b1
  have p0 := (h.later hb).cl.p0
  have HB : Hid (Below w.heap.size w W) := hb
  have ho2 : ¬ (S.off = 0) := ho
  have ho3 : (S.off == 0) = false := by simpa using ho
  clear h hb ho
  go_enter Tryz.func18, Tryz.ntmps18
  go_upto_region 1 with fail
  clear hW
  go_wp2
  first | go_end0 | refine bodyPost_ret (results_none rfl _ _ _) rfl ?_
  refine ⟨rfl, L, ?_⟩
  rw [HT.out]
  exact .quiet HP.out HB.out
set_option maxRecDepth 100000 in
set_option maxHeartbeats 4000000 in
theorem Begin_on {B : Nat} {L : Lay} {S : St} (w : World) (h : PB B L S w) (t e s : Bool) (v : Value) (l : List Int) (ho : S.off = 0) (hv : Byt w v l) (hl : l.length ≤ 140737488351232) (h64 : S.inp.length ≤ 64) (hap : ∀ g off n c, v = .slice (some ⟨g, off, none⟩) n c → ¬ L.own g) :
    Calls Tryz.prog 18 #[.pointer (some ⟨L.b, 0, none⟩), .agg #[.bool t, .bool e, .bool s, v]] w fun e' w' => e' = .returned (.tuple #[]) ∧ ∃ L', PSt B L w L' (S.beg t e s l) w' := by
  have HT : Hid (S.beg t e s l = { S.joi l with ext := e, soft := s, time := if t = true then (S.time + 1) % 18446744073709551616 else S.time }) := by unfold Hid St.beg; rw [if_pos ho]
  generalize S.beg t e s l = T at HT ⊢
  obtain ⟨W, hW⟩ : ∃ W, w.alloc (.cells #[.bool t, .bool e, .bool s, v] 61) = W := ⟨_, rfl⟩
  have hb : Below w.heap.size w W := by rw [← hW]; exact (Below.refl _ _).alloc (Nat.le_refl _) _
  have hbox : W.heap[w.heap.size]? = some (.cells #[.bool t, .bool e, .bool s, v] 61 (0, 0)) := by rw [← hW]; exact heap_alloc_new w _
  have h1 := h.later hb
  have b1 := h1.cl.b1
  have b5 := h1.cl.b5
  have p0 := h1.cl.p0
  have u4 := h1.cl.u4
  rw [ho] at p0
  have v3 : W.cell? ⟨w.heap.size, 3, none⟩ = some v := cell_of_row W _ 3 _ _ _ hbox
  have HB : Hid (Below w.heap.size w W) := hb
  have HJ : Hid (∀ w1, Below W.heap.size W w1 → Calls Tryz.prog 42 #[.pointer (some ⟨L.q, 0, none⟩), v] w1 fun e w' => e = .returned (.tuple #[]) ∧ ∃ L', PSt B L w1 L' (S.joi l) w') := fun w1 hb1 => by
    have hq : Below w.heap.size w w1 := hb.trans (hb1.mono hb.size)
    exact join_c w1 (h.later hq) v l (hv.later hq rfl) hl h64 (fun g off n c e2 => fun e3 => hap g off n c e2 (by rw [e3]; unfold Lay.own; simp))
  have HBX : Hid (∀ w1 w2 L', Below W.heap.size W w1 → PSt B L w1 L' (S.joi l) w2 → w2.heap[w.heap.size]? = some (.cells #[.bool t, .bool e, .bool s, v] 61 (0, 0)) ∧ PSt B L w L' (S.joi l) w2 ∧ w.heap.size < w2.heap.size) := fun w1 w2 L' hb1 hx => by
    have hlt : w.heap.size < W.heap.size := (Array.getElem?_eq_some_iff.1 hbox).1
    refine ⟨?_, hx.pre (hb.trans (hb1.mono hb.size)), Nat.lt_of_lt_of_le hlt (Nat.le_trans hb1.size hx.x.size)⟩
    rw [hx.x.block w.heap.size (Nat.lt_of_lt_of_le hlt hb1.size) (fun hk => by have := h.own_hi _ hk; omega), hb1.block _ hlt]
    exact hbox
  have HP : Hid (PB B L S w) := h
  obtain ⟨av, cv, ev, _⟩ := hv
  subst ev
  clear h hb hbox h1 hap
  go_enter Tryz.func18, Tryz.ntmps18
  go_upto_region 1 with fail
  clear hW
  go_upto_region 2 with fail
  go_region_held3 (fun w' => w'.cell? ⟨L.b, 5, none⟩ = some (.pointer (some ⟨L.u, 0, none⟩)) ∧ w'.cell? ⟨L.u, 4, none⟩ = some (.pointer (some ⟨L.q, 0, none⟩)) ∧ w'.cell? ⟨w.heap.size, 3, none⟩ = some (.slice av l.length cv)) (first | exact ⟨b5, u4, v3⟩ | exact HS2.out)
    (first | (go_at_call 42; refine (HJ.out _ (Below.drew (Below.refl _ _))).mono ?_; rintro e w2 ⟨rfl, L', hx⟩; obtain ⟨hx1, hx2, hx3⟩ := HBX.out _ w2 L' (Below.drew (Below.refl _ _)) hx; have HX : Hid (PSt B L w L' (S.joi l) w2) := hx2; have HBO : Hid (w2.heap[w.heap.size]? = some (.cells #[.bool t, .bool e, .bool s, .slice av l.length cv] 61 (0, 0))) := hx1; have HS2 : Hid (w2.cell? ⟨L.b, 5, none⟩ = some (.pointer (some ⟨L.u, 0, none⟩)) ∧ w2.cell? ⟨L.u, 4, none⟩ = some (.pointer (some ⟨L.q, 0, none⟩)) ∧ w2.cell? ⟨w.heap.size, 3, none⟩ = some (.slice av l.length cv)) := ⟨by rw [← hx2.b.1, ← hx2.b.2.1]; exact hx2.p.cl.b5, by rw [← hx2.b.2.1, ← hx2.b.2.2.1]; exact hx2.p.cl.u4, cell_of_row w2 _ 3 _ _ _ hx1⟩; clear hx hx1 hx2 hx3))
  have hb6 := HX.out.p.cl.b6
  have hb7 := HX.out.p.cl.b7
  have fb6 := frozen_of_row w2 L'.b 6 _ _ HX.out.p.hb
  have fb7 := frozen_of_row w2 L'.b 7 _ _ HX.out.p.hb
  have lb := (Array.getElem?_eq_some_iff.1 HX.out.p.hb).1
  rw [HX.out.b.1] at hb6 hb7 fb6 fb7
  have v0 := cell_of_row w2 _ 0 _ _ _ HBO.out
  have v1 := cell_of_row w2 _ 1 _ _ _ HBO.out
  have v2 := cell_of_row w2 _ 2 _ _ _ HBO.out
  have hne : ¬ L.b = w.heap.size := fun e2 => by
    have := HP.out.lt.b
    omega
  have hne2 : ¬ w.heap.size = L.b := fun e2 => hne e2.symm
  clear b1 b5 p0 u4 v3
  go_upto_region 3 with fail
  go_region
  have hp3 : PB B L' { S.joi l with ext := e, soft := s } ((w2.setCell ⟨L.b, 6, none⟩ (.bool e)).setCell ⟨L.b, 7, none⟩ (.bool s)) := by
    have := (HX.out.p.set_ext e).set_soft s
    rw [HX.out.b.1] at this
    exact this
  have hx3 : Exc L.own w ((w2.setCell ⟨L.b, 6, none⟩ (.bool e)).setCell ⟨L.b, 7, none⟩ (.bool s)) := (HX.out.x.set L.b 6 _ (by unfold Lay.own; simp)).set L.b 7 _ (by unfold Lay.own; simp)
  have hv0 : ((w2.setCell ⟨L.b, 6, none⟩ (.bool e)).setCell ⟨L.b, 7, none⟩ (.bool s)).cell? ⟨w.heap.size, 0, none⟩ = some (.bool t) := by
    rw [cell_of_row _ _ 0 _ _ _ ((Below.heap_setCell _ _ _ _ (fun e2 => hne2 e2)).trans ((Below.heap_setCell _ _ _ _ (fun e2 => hne2 e2)).trans HBO.out))]; rfl
  generalize (w2.setCell ⟨L.b, 6, none⟩ (.bool e)).setCell ⟨L.b, 7, none⟩ (.bool s) = X at hp3 hx3 hv0 ⊢
  have HX3 : Hid (PB B L' { S.joi l with ext := e, soft := s } X ∧ Exc L.own w X ∧ (∀ k, L'.own k → L.own k ∨ w.heap.size ≤ k) ∧ L'.b = L.b ∧ L'.u = L.u ∧ L'.q = L.q ∧ L'.ck = L.ck) := ⟨hp3, hx3, HX.out.o, HX.out.b⟩
  have b4 := hp3.cl.b4
  have k1 := hp3.cl.k1
  have fk := frozen_of_row X L'.ck 1 _ _ hp3.hk
  rw [HX.out.b.1, HX.out.b.2.2.2] at b4
  rw [HX.out.b.2.2.2] at k1 fk
  have ht : (S.joi l).time = S.time := rfl
  simp only [ht] at k1
  clear hb6 hb7 fb6 fb7 lb v0 v1 v2 hne hne2 hp3 hx3 HX HBO HS2 ht
  cases t with
  | true =>
    go_wp2
    first | go_end0 | refine bodyPost_ret (results_none rfl _ _ _) rfl ?_
    obtain ⟨q1, q2, q3, q4⟩ := HX3.out
    refine ⟨rfl, L', ?_⟩
    have hw : IntKind.u64.wrap (S.time + 1) = (S.time + 1) % 18446744073709551616 := by rw [IntKind.wrap_u64]
    rw [HT.out, hw]
    have q5 := q1.drew.set_time ((S.time + 1) % 18446744073709551616)
    rw [q4.2.2.2] at q5
    exact ⟨q5, (q2.trans ((Exc.of_below (Below.drew (Below.refl _ _)) rfl))).set L.ck 1 _ (by unfold Lay.own; simp), q3, q4⟩
  | false =>
    go_wp2
    first | go_end0 | refine bodyPost_ret (results_none rfl _ _ _) rfl ?_
    obtain ⟨q1, q2, q3, q4⟩ := HX3.out
    refine ⟨rfl, L', ?_⟩
    rw [HT.out]
    exact ⟨q1.drew, q2.trans (Exc.of_below (Below.drew (Below.refl _ _)) rfl), q3, q4⟩
end Go.Proofs.YtlhgphokfpnfeaaGreatDoor
namespace Go.Proofs.YtlhgphokfpnfeaaGreatDoor
set_option linter.unusedVariables false
open Go.ChangeShapes Go.WideShapes Go.ChangeAt Go.RowKit Go.Deep Go.MuLone
/-- Blocks from N on, and those below B, are as they were. -/
def Kp (B N : Nat) (w w' : World) : Prop := ∀ k, (N ≤ k ∨ k < B) → k < w.heap.size → w'.heap[k]? = w.heap[k]?
section
variable {B N c : Nat} {L L' : Lay} {S T S' : St} {vr vi vo ur ui uo : Value} {w w' w2 : World}
theorem Kp.trans (h1 : Kp B N w w') (hs : w.heap.size ≤ w'.heap.size) (h2 : Kp B N w' w2) : Kp B N w w2 := fun k hk hlt => (h2 k hk (Nat.lt_of_lt_of_le hlt hs)).trans (h1 k hk hlt)
theorem Kp.of_below (h : Below w.heap.size w w') : Kp B N w w' := fun k _ hlt => h.block k hlt
theorem Kp.row {k : Nat} {C : Array Value} {U : TypeId} (h : Kp B N w w') (hr : w.heap[k]? = some (.cells C U (0, 0))) (hk : N ≤ k ∨ k < B) : w'.heap[k]? = some (.cells C U (0, 0)) := (h k hk (Array.getElem?_eq_some_iff.1 hr).1).trans hr
theorem own_byt_ge {v : Value} {l : List Int} {n M : Nat} (h : w.ownsRow M 5 1 v n (bv l)) : ∀ g off m c, v = .slice (some ⟨g, off, none⟩) m c → M ≤ g ∧ g < w.heap.size := fun g off m c e => h.lt g (ownBlock_slice e)
end
/-- A state that can be, its numbers in their bounds. -/
structure Sok (S : St) : Prop where
  ok : S.ok = true
  st : StW S
theorem Sok.n {S : St} (h : Sok S) : S.ram.length ≤ 65536 ∧ 8 ≤ S.ram.length ∧ S.inp.length ≤ 64 ∧ S.out.length ≤ 4096 ∧ S.msip ≤ 1 ∧ S.ier ≤ 15 ∧ S.mcr ≤ 31 := by
  have := h.ok
  simp only [St.ok, ramOk, Bool.and_eq_true, decide_eq_true_eq] at this
  omega
theorem Sok.mk' {S T : St} (h : Sok S) (hr : T.ram.length = S.ram.length) (ha : AllB T.ram) (hi : T.inp.length ≤ 64 ∧ AllB T.inp) (ho : T.out.length ≤ 4096 ∧ AllB T.out) (h1 : 0 ≤ T.msip ∧ T.msip ≤ 1) (h2 : 0 ≤ T.cmp ∧ T.cmp ≤ 18446744073709551615) (h3 : 0 ≤ T.time ∧ T.time ≤ 18446744073709551615)
    (h4 : 0 ≤ T.ier ∧ T.ier ≤ 15) (h5 : 0 ≤ T.lcr ∧ T.lcr ≤ 255) (h6 : 0 ≤ T.mcr ∧ T.mcr ≤ 31) (h7 : 0 ≤ T.scr ∧ T.scr ≤ 255) (h8 : powOk T.off T.code = true) : Sok T := by
  have hk := h.ok
  simp only [St.ok, Bool.and_eq_true, decide_eq_true_eq] at hk
  refine ⟨?_, ⟨ha, hi.2, ho.2, ⟨h1.1, by omega⟩, h2, h3, ⟨h4.1, by omega⟩, h5, ⟨h6.1, by omega⟩, h7, ?_, ?_⟩⟩
  · simp only [St.ok, Bool.and_eq_true, decide_eq_true_eq, hr]
    exact ⟨⟨⟨⟨⟨⟨hk.1.1.1.1.1.1, h1.2⟩, h4.2⟩, h6.2⟩, by omega⟩, by omega⟩, h8⟩
  · unfold powOk at h8
    split at h8
    · omega
    · split at h8
      · omega
      · cases h8
  · unfold powOk at h8
    split at h8
    · have : T.code = 0 := by simpa using h8
      omega
    · split at h8
      · simp only [Bool.and_eq_true, decide_eq_true_eq] at h8; omega
      · cases h8
theorem Sok.pow {S : St} (h : Sok S) : powOk S.off S.code = true := by
  have hk := h.ok
  simp only [St.ok, Bool.and_eq_true] at hk
  exact hk.2
/-- But for the fields named. -/
theorem Sok.but {S T : St} (h : Sok S) (hr : T.ram = S.ram) (hi : T.inp.length ≤ 64 ∧ AllB T.inp) (ho : T.out.length ≤ 4096 ∧ AllB T.out) (h1 : 0 ≤ T.msip ∧ T.msip ≤ 1) (h2 : 0 ≤ T.cmp ∧ T.cmp ≤ 18446744073709551615) (h3 : 0 ≤ T.time ∧ T.time ≤ 18446744073709551615)
    (h4 : 0 ≤ T.ier ∧ T.ier ≤ 15) (h5 : 0 ≤ T.lcr ∧ T.lcr ≤ 255) (h6 : 0 ≤ T.mcr ∧ T.mcr ≤ 31) (h7 : 0 ≤ T.scr ∧ T.scr ≤ 255) (h8 : powOk T.off T.code = true) : Sok T := h.mk' (by rw [hr]) (by rw [hr]; exact h.st.r) hi ho h1 h2 h3 h4 h5 h6 h7 h8
theorem ctrW_ok {N base a z v : Int} (hN : 0 ≤ N ∧ N ≤ 18446744073709551615) (hv : 0 ≤ v ∧ v ≤ 18446744073709551615) : 0 ≤ ctrW N base a z v ∧ ctrW N base a z v ≤ 18446744073709551615 := by
  unfold ctrW
  split
  · exact hv
  · split <;> omega
section
variable {S : St} (h : Sok S)
include h
theorem Sok.bi : S.inp.length ≤ 64 ∧ AllB S.inp := ⟨h.n.2.2.1, h.st.i⟩
theorem Sok.bo : S.out.length ≤ 4096 ∧ AllB S.out := ⟨h.n.2.2.2.1, h.st.o⟩
theorem Sok.bm : 0 ≤ S.msip ∧ S.msip ≤ 1 := ⟨h.st.msip.1, h.n.2.2.2.2.1⟩
theorem Sok.be : 0 ≤ S.ier ∧ S.ier ≤ 15 := ⟨h.st.ier.1, h.n.2.2.2.2.2.1⟩
theorem Sok.bc : 0 ≤ S.mcr ∧ S.mcr ≤ 31 := ⟨h.st.mcr.1, h.n.2.2.2.2.2.2⟩
theorem Sok.tel (r : Nat) : Sok (S.tel r).2 := by
  have hb := h.bi
  have hd : ∀ q : Nat, 8 ≤ q → S.tel q = (0, S) := fun q hq => by
    match q, hq with
    | q + 8, _ => rfl
  by_cases hr : r < 8
  · rcases reg_cases hr with rfl | rfl | rfl | rfl | rfl | rfl | rfl | rfl
    · cases hi : S.inp with
      | nil => have e : S.tel 0 = (0, S) := by simp only [St.tel, hi]
               rw [e]; exact h
      | cons x xs =>
        have e : S.tel 0 = (x, { S with inp := xs }) := by simp only [St.tel, hi]
        rw [e]
        rw [hi] at hb
        exact h.but rfl ⟨by have := hb.1; simp at this; show xs.length ≤ 64; omega, fun y hy => hb.2 y (List.mem_cons_of_mem _ hy)⟩ h.bo h.bm h.st.cmp h.st.time h.be h.st.lcr h.bc h.st.scr h.pow
    · exact h
    · exact h
    · exact h
    · exact h
    · exact h.but rfl h.bi h.bo h.bm h.st.cmp h.st.time h.be h.st.lcr h.bc h.st.scr h.pow
    · exact h
    · exact h
  · rw [hd r (by omega)]; exact h
theorem Sok.sen (c : Int) (hc : 0 ≤ c ∧ c ≤ 255) : Sok (S.sen c) := by
  unfold St.sen
  split
  · refine h.but rfl h.bi ⟨?_, ?_⟩ h.bm h.st.cmp h.st.time h.be h.st.lcr h.bc h.st.scr h.pow
    · simp only [List.length_append, List.length_cons, List.length_nil]; omega
    · intro y hy
      rcases List.mem_append.1 hy with q | q
      · exact h.st.o y q
      · simp at q; rw [q]; exact hc
  · exact h
theorem Sok.tak (r : Nat) (v : Int) (hv : 0 ≤ v) : Sok (S.tak r v) := by
  have hd : ∀ q : Nat, 8 ≤ q → S.tak q v = S := fun q hq => by
    match q, hq with
    | q + 8, _ => rfl
  by_cases hr : r < 8
  · rcases reg_cases hr with rfl | rfl | rfl | rfl | rfl | rfl | rfl | rfl
    · exact h.sen _ (by omega)
    · exact h.but rfl h.bi h.bo h.bm h.st.cmp h.st.time (by show 0 ≤ v % 16 ∧ v % 16 ≤ 15; omega) h.st.lcr h.bc h.st.scr h.pow
    · show Sok (if v / 2 % 2 = 1 then { S with inp := [] } else S)
      split
      · exact h.but rfl ⟨by simp, fun y hy => by cases hy⟩ h.bo h.bm h.st.cmp h.st.time h.be h.st.lcr h.bc h.st.scr h.pow
      · exact h
    · exact h.but rfl h.bi h.bo h.bm h.st.cmp h.st.time h.be (by show 0 ≤ v % 256 ∧ v % 256 ≤ 255; omega) h.bc h.st.scr h.pow
    · exact h.but rfl h.bi h.bo h.bm h.st.cmp h.st.time h.be h.st.lcr (by show 0 ≤ v % 32 ∧ v % 32 ≤ 31; omega) h.st.scr h.pow
    · exact h
    · exact h
    · exact h.but rfl h.bi h.bo h.bm h.st.cmp h.st.time h.be h.st.lcr h.bc (by show 0 ≤ v % 256 ∧ v % 256 ≤ 255; omega) h.pow
  · rw [hd r (by omega)]; exact h
theorem Sok.fin (v : Int) : Sok (S.fin v) := by
  unfold St.fin
  split
  · rename_i h0
    have hp := h.pow
    rw [h0] at hp
    split
    · refine h.but rfl h.bi h.bo h.bm h.st.cmp h.st.time h.be h.st.lcr h.bc h.st.scr ?_
      show powOk 1 S.code = true
      exact hp
    · split
      · refine h.but rfl h.bi h.bo h.bm h.st.cmp h.st.time h.be h.st.lcr h.bc h.st.scr ?_
        show powOk 2 (v / 65536 % 65536) = true
        unfold powOk
        rw [if_neg (by omega), if_pos rfl, decide_eq_true (by omega), decide_eq_true (by omega)]; rfl
      · exact h
  · exact h
theorem Sok.ram (k : Nat) (cs : List Int) (hk : k + cs.length ≤ S.ram.length) (hc : AllB cs) : Sok { S with ram := splice S.ram k cs } :=
  h.mk' (splice_len _ _ _ hk) (allB_splice k h.st.r hc) h.bi h.bo h.bm h.st.cmp h.st.time h.be h.st.lcr h.bc h.st.scr h.pow
theorem Sok.ld (a z : Int) : Sok (S.ld a z).2 := by
  rcases fnd_cases S.ram.length a z with hf | hf | hf | hf | hf | hf | hf
  all_goals simp only [St.ld, hf]
  all_goals first | exact h | exact h.tel _
theorem Sok.sto2 (a z v : Int) (hv : 0 ≤ v ∧ v ≤ 18446744073709551615) : Sok (S.sto2 a z v).2 := by
  rcases fnd_cases S.ram.length a z with hf | hf | hf | hf | hf | hf | hf
  · obtain ⟨k, s, rfl, rfl, hks, hs, h8⟩ := hasM_nat (fnd_zero hf)
    have e : S.sto2 (2147483648 + (k : Int)) s v = (true, S.put k s v.toNat) := by
      unfold St.sto2; rw [hf]; simp only; rw [show (2147483648 + (k : Int) - 2147483648).toNat = k by omega]; rfl
    rw [e]
    exact h.ram k (ptL v.toNat s) (by rw [ptL_length]; exact hks) (ptL_all _ _)
  · simp only [St.sto2, hf]; exact h.tak _ v hv.1
  · simp only [St.sto2, hf]; exact h.but rfl h.bi h.bo h.bm h.st.cmp (ctrW_ok h.st.time hv) h.be h.st.lcr h.bc h.st.scr h.pow
  · simp only [St.sto2, hf]; exact h.but rfl h.bi h.bo h.bm (ctrW_ok h.st.cmp hv) h.st.time h.be h.st.lcr h.bc h.st.scr h.pow
  · simp only [St.sto2, hf]; exact h.but rfl h.bi h.bo (by show 0 ≤ v % 2 ∧ v % 2 ≤ 1; omega) h.st.cmp h.st.time h.be h.st.lcr h.bc h.st.scr h.pow
  · simp only [St.sto2, hf]; exact h.fin v
  · simp only [St.sto2, hf]; exact h
theorem Sok.joi (l : List Int) (hl : AllB l) : (S.joi l).inp.length ≤ 64 ∧ AllB (S.joi l).inp := by
  have hb := h.bi
  unfold St.joi
  refine ⟨?_, ?_⟩
  · simp only [List.length_append, List.length_take]; omega
  · intro y hy
    rcases List.mem_append.1 hy with q | q
    · exact hb.2 y q
    · exact hl y (List.mem_of_mem_take q)
theorem Sok.beg (t e s : Bool) (l : List Int) (hl : AllB l) : Sok (S.beg t e s l) := by
  unfold St.beg
  split
  · refine h.but rfl (h.joi l hl) h.bo h.bm h.st.cmp ?_ h.be h.st.lcr h.bc h.st.scr h.pow
    show 0 ≤ (if t = true then (S.time + 1) % 18446744073709551616 else S.time) ∧ (if t = true then (S.time + 1) % 18446744073709551616 else S.time) ≤ 18446744073709551615
    have := h.st.time
    split <;> omega
  · exact h
end
end Go.Proofs.YtlhgphokfpnfeaaGreatDoor
namespace Go.Proofs.YtlhgphokfpnfeaaGreatDoor
set_option linter.unusedVariables false
open Go.ChangeShapes Go.WideShapes Go.ChangeAt Go.RowKit Go.Deep Go.MuLone
/-- What a call keeps: every block that neither bus owns. -/
structure Kpd (B : Nat) (L : Lay) (c : Nat) (vr vi vo : Value) (w : World) (L' : Lay) (ur ui uo : Value) (w' : World) : Prop where
  be : Below B w w'
  x : ∀ k, k < w.heap.size → ¬ L.own k → ¬ Rown c vr vi vo k → w'.heap[k]? = w.heap[k]?
  o : ∀ k, k < w.heap.size → (L'.own k ∨ Rown c ur ui uo k) → (L.own k ∨ Rown c vr vi vo k)
section
variable {B c : Nat} {L L' : Lay} {S T : St} {vr vi vo ur ui uo : Value} {w W w1 w2 w3 : World}
theorem Kpd.n (hbW : Below w.heap.size w W) (hbe : Below B w W) : Kpd B L c vr vi vo w L vr vi vo W := ⟨hbe, fun k hk _ _ => hbW.block k hk, fun k _ h => h⟩
theorem Kpd.p (hbW : Below w.heap.size w W) (hq : Below W.heap.size W w1) (hs : PSt B L w1 L' T w2) (hbe : Below B w w2) : Kpd B L c vr vi vo w L' vr vi vo w2 :=
  ⟨hbe, fun k hk h1 _ => ((hs.x.block k (Nat.lt_of_lt_of_le hk (Nat.le_trans hbW.size hq.size)) h1).trans (hq.block k (Nat.lt_of_lt_of_le hk hbW.size))).trans (hbW.block k hk), fun k hk h => by
    rcases h with h | h
    · rcases hs.o k h with q | q
      · exact .inl q
      · have := hbW.size; have := hq.size; omega
    · exact .inr h⟩
end
end Go.Proofs.YtlhgphokfpnfeaaGreatDoor
namespace Go.Proofs.YtlhgphokfpnfeaaGreatDoor
set_option linter.unusedVariables false
open Go.ChangeShapes Go.WideShapes Go.ChangeAt Go.RowKit Go.Deep Go.MuLone
end Go.Proofs.YtlhgphokfpnfeaaGreatDoor
namespace Go.Proofs.YtlhgphokfpnfeaaGreatDoor
set_option linter.unusedVariables false
open Go.ChangeShapes Go.WideShapes Go.ChangeAt Go.RowKit Go.Deep Go.MuLone
theorem Begin_c {B : Nat} {L : Lay} {S : St} (w : World) (h : PB B L S w) (t e s : Bool) (v : Value) (l : List Int) (hv : Byt w v l) (hl : l.length ≤ 140737488351232) (h64 : S.inp.length ≤ 64) (hap : ∀ g off n c, v = .slice (some ⟨g, off, none⟩) n c → ¬ L.own g) :
    Calls Tryz.prog 18 #[.pointer (some ⟨L.b, 0, none⟩), .agg #[.bool t, .bool e, .bool s, v]] w fun e' w' => e' = .returned (.tuple #[]) ∧ ∃ L', PSt B L w L' (S.beg t e s l) w' := by
  by_cases ho : S.off = 0
  · exact Begin_on w h t e s v l ho hv hl h64 hap
  · exact Begin_off w h t e s v l ho
end Go.Proofs.YtlhgphokfpnfeaaGreatDoor
namespace Go.Proofs.YtlhgphokfpnfeaaGreatDoor
set_option linter.unusedVariables false
open Go.ChangeShapes Go.WideShapes Go.ChangeAt Go.RowKit Go.Deep Go.MuLone
end Go.Proofs.YtlhgphokfpnfeaaGreatDoor
namespace Go.Proofs.YtlhgphokfpnfeaaGreatDoor
set_option linter.unusedVariables false
open Go.ChangeShapes Go.WideShapes Go.ChangeAt Go.RowKit Go.Deep Go.MuLone
theorem CalOk.later {w w' : World} {x : Cal} (h : CalOk w x) (hb : Below w.heap.size w w') : CalOk w' x := ⟨h.b.later hb rfl, h.ba, h.bl, h.i.later hb rfl, h.ia, h.il, h.k, h.a, h.n, h.v⟩
section
variable {B : Nat} {w0 : World} {b c gp : Nat} {L : Lay} {S : St} {vr vi vo : Value} {w w1 w' : World}
end
end Go.Proofs.YtlhgphokfpnfeaaGreatDoor
