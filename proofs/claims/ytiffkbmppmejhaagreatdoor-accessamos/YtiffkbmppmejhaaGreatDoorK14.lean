import Derived.Test.YtiffkbmppmejhaaGreatDoorK09
import Derived.Test.YtiffkbmppmejhaaGreatDoorK12
import Derived.Test.YtiffkbmppmejhaaGreatDoorK11
import Derived.Test.YtiffkbmppmejhaaGreatDoorK13
import Derived.BigRegion
namespace Go.Proofs.YtiffkbmppmejhaaGreatDoor
set_option linter.unusedVariables false
set_option maxRecDepth 100000
set_option maxHeartbeats 8000000
open Go.ChangeShapes Go.WideShapes Go.ChangeAt Go.RowKit Go.Deep _root_.Go.Proofs.Tryz
theorem PB.own_lo {B : Nat} {L : Lay} {S : St} {w : World} (h : PB B L S w) (k : Nat) (hk : L.own k) : B ≤ k := by
 rcases hk with rfl | rfl | rfl | rfl | rfl | rfl | rfl | rfl | hk | hk | hk
 ·exact h.lb
 ·exact h.lm
 ·exact h.lp
 ·exact h.ls
 ·exact h.lc
 ·exact h.lk
 ·exact h.lu
 ·exact h.lq
 ·exact (h.wr.lt k hk).1
 ·exact (h.wi.lt k hk).1
 ·exact (h.wo.lt k hk).1
theorem PB.own_hi {B : Nat} {L : Lay} {S : St} {w : World} (h : PB B L S w) (k : Nat) (hk : L.own k) : k < w.heap.size := by
 rcases hk with rfl | rfl | rfl | rfl | rfl | rfl | rfl | rfl | hk | hk | hk
 ·exact (Array.getElem?_eq_some_iff.1 h.hb).1
 ·exact (Array.getElem?_eq_some_iff.1 h.hm).1
 ·exact (Array.getElem?_eq_some_iff.1 h.hp).1
 ·exact (Array.getElem?_eq_some_iff.1 h.hs).1
 ·exact (Array.getElem?_eq_some_iff.1 h.hc).1
 ·exact (Array.getElem?_eq_some_iff.1 h.hk).1
 ·exact (Array.getElem?_eq_some_iff.1 h.hu).1
 ·exact (Array.getElem?_eq_some_iff.1 h.hq).1
 ·exact (h.wr.lt k hk).2
 ·exact (h.wi.lt k hk).2
 ·exact (h.wo.lt k hk).2
theorem PB.exo {B : Nat} {L : Lay} {S : St} {w w' : World} {G : Nat → Prop} (h : PB B L S w) (hb : Exc G w w') (hG : ∀ k, L.own k → ¬ G k) : PB B L S w' := by
 have k : ∀ {g : Nat} {o : Obj}, L.own g → w.heap[g]? = some o → w'.heap[g]? = some o := fun {g o} hB hg => by rw [hb.block g (Array.getElem?_eq_some_iff.1 hg).1 (hG g hB)]; exact hg
 exact ⟨k (by unfold Lay.own; simp) h.hb, k (by unfold Lay.own; simp) h.hm, k (by unfold Lay.own; simp) h.hp, k (by unfold Lay.own; simp) h.hs, k (by unfold Lay.own; simp) h.hc, k (by unfold Lay.own; simp) h.hk, k (by unfold Lay.own; simp) h.hu, k (by unfold Lay.own; simp) h.hq,
  bZ h.wr hb (fun g hg => hG g (by unfold Lay.own; simp [hg])), bZ h.wi hb (fun g hg => hG g (by unfold Lay.own; simp [hg])), bZ h.wo hb (fun g hg => hG g (by unfold Lay.own; simp [hg])), h.ri, h.ro, h.io, h.lb, h.lm, h.lp, h.ls, h.lc, h.lk, h.lu, h.lq⟩
section
variable {w0 : World} {L1 L2 : Lay} {B2 M ga gb : Nat} {Ca Cb : Array Value} {S1 S2 : St} {w w' : World}
end
section
variable {w0 : World} {L1 L2 : Lay} {B2 M ga gb : Nat} {Ca Cb : Array Value} {S1 S2 : St} {w : World}
end
end Go.Proofs.YtiffkbmppmejhaaGreatDoor
namespace Go.Proofs.YtiffkbmppmejhaaGreatDoor
set_option linter.unusedVariables false
set_option maxRecDepth 100000
set_option maxHeartbeats 8000000
open Go.ChangeShapes Go.WideShapes Go.ChangeAt Go.RowKit Go.Deep Go.MuLone _root_.Go.Proofs.Tryz
def St.beg (S : St) (t e s : Bool) (l : List Int) : St := if S.off = 0 then { S.joi l with ext := e, soft := s, time := if t = true then (S.time + 1) % 18446744073709551616 else S.time } else S
theorem vG {B : Nat} {L : Lay} {S : St} (w : World) (h : PB B L S w) (t e s : Bool) (v : Value) (l : List Int) (ho : S.off ≠ 0) :
  Calls prog 29 #[.pointer (some ⟨L.b, 0, none⟩), .agg #[.bool t, .bool e, .bool s, v]] w fun e' w' => e' = .returned (.tuple #[]) ∧ ∃ L', PSt B L w L' (S.beg t e s l) w' := by
 have HT : Hid (S.beg t e s l = S) := by unfold Hid St.beg; rw [if_neg ho]
 generalize S.beg t e s l = T at HT ⊢
 have HP := hid h
 obtain ⟨W, hW⟩ : ∃ W, w.alloc (.cells #[.bool t, .bool e, .bool s, v] 105) = W := ⟨_, rfl⟩
 have hb : Below w.heap.size w W := by rw [← hW]; exact (Below.refl _ _).alloc (Nat.le_refl _) _
 have b1 := (h.later hb).cl.b1
 have p0 := (h.later hb).cl.p0
 have HB := hid hb
 have ho2 : ¬ (S.off = 0) := ho
 have ho3 : (S.off == 0) = false := by simpa using ho
 clear h hb ho
 go_enter func29, ntmps29
 go_upto_region 1 with fail
 clear hW
 go_wp2
 first | go_end0 | refine bodyPost_ret (results_none rfl _ _ _) rfl ?_
 refine ⟨rfl, L, ?_⟩
 rw [HT.out]
 exact .quiet HP.out HB.out
theorem xT {B : Nat} {L : Lay} {S : St} (w : World) (h : PB B L S w) (t e s : Bool) (v : Value) (l : List Int) (ho : S.off = 0) (hv : Byt w v l) (hl : l.length ≤ 140737488351232) (h64 : S.inp.length ≤ 64) (hap : ∀ g off n c, v = .slice (some ⟨g, off, none⟩) n c → ¬ L.own g) :
  Calls prog 29 #[.pointer (some ⟨L.b, 0, none⟩), .agg #[.bool t, .bool e, .bool s, v]] w fun e' w' => e' = .returned (.tuple #[]) ∧ ∃ L', PSt B L w L' (S.beg t e s l) w' := by
 have HT : Hid (S.beg t e s l = { S.joi l with ext := e, soft := s, time := if t = true then (S.time + 1) % 18446744073709551616 else S.time }) := by unfold Hid St.beg; rw [if_pos ho]
 generalize S.beg t e s l = T at HT ⊢
 obtain ⟨W, hW⟩ : ∃ W, w.alloc (.cells #[.bool t, .bool e, .bool s, v] 105) = W := ⟨_, rfl⟩
 have hb : Below w.heap.size w W := by rw [← hW]; exact (Below.refl _ _).alloc (Nat.le_refl _) _
 have hbox : W.heap[w.heap.size]? = some (.cells #[.bool t, .bool e, .bool s, v] 105 (0, 0)) := by rw [← hW]; exact heap_alloc_new w _
 have h1 := h.later hb
 have b1 := h1.cl.b1
 have b5 := h1.cl.b5
 have p0 := h1.cl.p0
 have u4 := h1.cl.u4
 rw [ho] at p0
 have v3 : W.cell? ⟨w.heap.size, 3, none⟩ = some v := cell_of_row W _ 3 _ _ _ hbox
 have HB := hid hb
 have HJ : Hid (∀ w1, Below W.heap.size W w1 → Calls prog 53 #[.pointer (some ⟨L.q, 0, none⟩), v] w1 fun e w' => e = .returned (.tuple #[]) ∧ ∃ L', PSt B L w1 L' (S.joi l) w') := fun w1 hb1 => by
  have hq : Below w.heap.size w w1 := hb.trans (hb1.mono hb.size)
  exact LZ w1 (h.later hq) v l (hv.later hq rfl) hl h64 (fun g off n c e2 => fun e3 => hap g off n c e2 (by rw [e3]; unfold Lay.own; simp))
 have HBX : Hid (∀ w1 w2 L', Below W.heap.size W w1 → PSt B L w1 L' (S.joi l) w2 → w2.heap[w.heap.size]? = some (.cells #[.bool t, .bool e, .bool s, v] 105 (0, 0)) ∧ PSt B L w L' (S.joi l) w2 ∧ w.heap.size < w2.heap.size) := fun w1 w2 L' hb1 hx => by
  have hlt : w.heap.size < W.heap.size := (Array.getElem?_eq_some_iff.1 hbox).1
  refine ⟨?_, hx.pre (hb.trans (hb1.mono hb.size)), Nat.lt_of_lt_of_le hlt (Nat.le_trans hb1.size hx.x.size)⟩
  rw [hx.x.block w.heap.size (Nat.lt_of_lt_of_le hlt hb1.size) (fun hk => by have := h.own_hi _ hk; omega), hb1.block _ hlt]
  exact hbox
 have HP := hid h
 obtain ⟨av, cv, ev, _⟩ := hv
 subst ev
 clear h hb hbox h1 hap
 go_enter func29, ntmps29
 go_upto_region 1 with fail
 clear hW
 go_upto_region 2 with fail
 go_region_held3 (fun w' => w'.cell? ⟨L.b, 5, none⟩ = some (.pointer (some ⟨L.u, 0, none⟩)) ∧ w'.cell? ⟨L.u, 4, none⟩ = some (.pointer (some ⟨L.q, 0, none⟩)) ∧ w'.cell? ⟨w.heap.size, 3, none⟩ = some (.slice av l.length cv)) (first | exact ⟨b5, u4, v3⟩ | exact HS2.out)
  (first | (go_at_call 53; refine (HJ.out _ (Below.drew (Below.refl _ _))).mono ?_; rintro e w2 ⟨rfl, L', hx⟩; obtain ⟨hx1, hx2, hx3⟩ := HBX.out _ w2 L' (Below.drew (Below.refl _ _)) hx; have HX := hid hx2; have HBO := hid hx1; have HS2 : Hid (w2.cell? ⟨L.b, 5, none⟩ = some (.pointer (some ⟨L.u, 0, none⟩)) ∧ w2.cell? ⟨L.u, 4, none⟩ = some (.pointer (some ⟨L.q, 0, none⟩)) ∧ w2.cell? ⟨w.heap.size, 3, none⟩ = some (.slice av l.length cv)) := ⟨by rw [← hx2.b.1, ← hx2.b.2.1]; exact hx2.p.cl.b5, by rw [← hx2.b.2.1, ← hx2.b.2.2.1]; exact hx2.p.cl.u4, cell_of_row w2 _ 3 _ _ _ hx1⟩; clear hx hx1 hx2 hx3))
 have hb6 := HX.out.p.cl.b6
 have hb7 := HX.out.p.cl.b7
 have fb6 := frozen_of_row w2 L'.b 6 _ _ HX.out.p.hb
 have fb7 := frozen_of_row w2 L'.b 7 _ _ HX.out.p.hb
 have lb := (Array.getElem?_eq_some_iff.1 HX.out.p.hb).1
 rw [HX.out.b.1] at hb6 hb7 fb6 fb7
 have v0 := cell_of_row w2 _ 0 _ _ _ HBO.out
 have v1 := cell_of_row w2 _ 1 _ _ _ HBO.out
 have v2 := cell_of_row w2 _ 2 _ _ _ HBO.out
 have hne : ¬ L.b = w.heap.size := fun e2 => by
  have := HP.out.lt.b
  omega
 have hne2 : ¬ w.heap.size = L.b := fun e2 => hne e2.symm
 clear b1 b5 p0 u4 v3
 go_upto_region 3 with fail
 go_region
 have hp3 : PB B L' { S.joi l with ext := e, soft := s } ((w2.setCell ⟨L.b, 6, none⟩ (.bool e)).setCell ⟨L.b, 7, none⟩ (.bool s)) := by
  have := (HX.out.p.set_ext e).set_soft s
  rw [HX.out.b.1] at this
  exact this
 have hx3 : Exc L.own w ((w2.setCell ⟨L.b, 6, none⟩ (.bool e)).setCell ⟨L.b, 7, none⟩ (.bool s)) := (HX.out.x.set L.b 6 _ (by unfold Lay.own; simp)).set L.b 7 _ (by unfold Lay.own; simp)
 have hv0 : ((w2.setCell ⟨L.b, 6, none⟩ (.bool e)).setCell ⟨L.b, 7, none⟩ (.bool s)).cell? ⟨w.heap.size, 0, none⟩ = some (.bool t) := by
  rw [cell_of_row _ _ 0 _ _ _ ((Below.heap_setCell _ _ _ _ (fun e2 => hne2 e2)).trans ((Below.heap_setCell _ _ _ _ (fun e2 => hne2 e2)).trans HBO.out))]; rfl
 generalize (w2.setCell ⟨L.b, 6, none⟩ (.bool e)).setCell ⟨L.b, 7, none⟩ (.bool s) = X at hp3 hx3 hv0 ⊢
 have HX3 : Hid (PB B L' { S.joi l with ext := e, soft := s } X ∧ Exc L.own w X ∧ (∀ k, L'.own k → L.own k ∨ w.heap.size ≤ k) ∧ L'.b = L.b ∧ L'.u = L.u ∧ L'.q = L.q ∧ L'.ck = L.ck) := ⟨hp3, hx3, HX.out.o, HX.out.b⟩
 have b4 := hp3.cl.b4
 have k1 := hp3.cl.k1
 have fk := frozen_of_row X L'.ck 1 _ _ hp3.hk
 rw [HX.out.b.1, HX.out.b.2.2.2] at b4
 rw [HX.out.b.2.2.2] at k1 fk
 have ht : (S.joi l).time = S.time := rfl
 simp only [ht] at k1
 clear hb6 hb7 fb6 fb7 lb v0 v1 v2 hne hne2 hp3 hx3 HX HBO HS2 ht
 cases t with
 | true =>
  go_wp2
  first | go_end0 | refine bodyPost_ret (results_none rfl _ _ _) rfl ?_
  obtain ⟨q1, q2, q3, q4⟩ := HX3.out
  refine ⟨rfl, L', ?_⟩
  have hw : IntKind.u64.wrap (S.time + 1) = (S.time + 1) % 18446744073709551616 := by rw [IntKind.wrap_u64]
  rw [HT.out, hw]
  have q5 := q1.drew.set_time ((S.time + 1) % 18446744073709551616)
  rw [q4.2.2.2] at q5
  exact ⟨q5, (q2.trans ((Exc.of_below (Below.drew (Below.refl _ _)) rfl))).set L.ck 1 _ (by unfold Lay.own; simp), q3, q4⟩
 | false =>
  go_wp2
  first | go_end0 | refine bodyPost_ret (results_none rfl _ _ _) rfl ?_
  obtain ⟨q1, q2, q3, q4⟩ := HX3.out
  refine ⟨rfl, L', ?_⟩
  rw [HT.out]
  exact ⟨q1.drew, q2.trans (Exc.of_below (Below.drew (Below.refl _ _)) rfl), q3, q4⟩

theorem xH {ops : Array Oper} {o : Oper} {a : Act} {w : World} {K : Act → World → Prop} {Q : Exit → Act → World → Prop} {E : Prop} (hgd : o.guard = none) (s x : Operand) (ho : o.op = .call { callee := .builtin .append, args := #[s, x], argTypes := #[32, 32] })
  (B : Nat) (v : Value) (m : List Int) (hs : a.eval s = v) (hown : w.ownsRow B 5 1 v m.length (bv m)) (ad : Addr) (y : Int) (hx : a.eval x = .slice (some ad) 1 1) (hy : w.cell? ad = some (.int .u8 y)) (hl : m.length + 1 ≤ 140737488355328) (hB : B ≤ w.heap.size)
  (h : ∀ v' w', w'.ownsRow B 5 1 v' (m ++ [y]).length (bv (m ++ [y])) → w.grownBy w' v.ownBlock → (v'.ownBlock = v.ownBlock ∨ v'.ownBlock = some w.heap.size) → K (a.put o.dst v') w') :
  if Region.wanted o (yielded ops a.tmps) = true then Oper.wp prog o a w K Q else E := by
 obtain ⟨i0, hi, hz0, hz1, hz2⟩ := info_parts kT
 have hw : Region.wanted o (yielded ops a.tmps) = true := by simp [Region.wanted, hgd]
 rw [if_pos hw]
 obtain ⟨v', w', hr, h2, h3, _, h5⟩ := run_append_own_at (P := prog) w B 32 o.type 5 i0 (.int .u8 0) 1 1 underlying32 hi hz0 hz1 hz2 rfl (by decide) v m.length (bv m) hown ad 1 1 [.int .u8 y] rfl (fun j u hj => by
  match j, hj with
  | 0, hj =>
   simp at hj
   subst hj
   have : ad.add 0 = ad := by unfold Addr.add; split <;> simp_all
   rw [this]; exact hy) (by intro u hu; simp at hu; rw [hu]; rfl) (by unfold maxLen; omega) (by omega) hB
 have h2' : w'.ownsRow B 5 1 v' (m ++ [y]).length (bv (m ++ [y])) := by
  have e : bv (m ++ [y]) = bv m ++ [.int .u8 y] := by simp [bv]
  rw [e, List.length_append]
  exact h2
 unfold Oper.wp
 simp [execOp, ho, resolve, invoke, builtin, hs, hx, hr, Result.andThen]
 exact h v' w' h2' h3 h5
theorem sX {B c : Nat} {S : St} {vr vi vo : Value} (w : World) (h : RB B c S vr vi vo w) (t e s : Bool) (v : Value) (l : List Int) (ho : S.off ≠ 0) :
  Calls prog 37 #[.pointer (some ⟨c, 0, none⟩), .agg #[.bool t, .bool e, .bool s, v]] w fun e' w' => e' = .returned (.tuple #[]) ∧ RSt B c vr vi vo w vr vi vo (S.beg t e s l) w' := by
 have HT : Hid (S.beg t e s l = S) := by unfold Hid St.beg; rw [if_neg ho]
 generalize S.beg t e s l = T at HT ⊢
 have HP := hid h
 obtain ⟨W, hW⟩ : ∃ W, w.alloc (.cells #[.bool t, .bool e, .bool s, v] 105) = W := ⟨_, rfl⟩
 have hb : Below w.heap.size w W := by rw [← hW]; exact (Below.refl _ _).alloc (Nat.le_refl _) _
 have c13 : W.cell? ⟨c, 13, none⟩ = some (.int .i64 S.off) := (h.later hb).cell 13
 have HB := hid hb
 have ho3 : (S.off == 0) = false := by simpa using ho
 clear h hb
 go_enter func37, ntmps37
 go_upto_region 1 with fail
 clear hW
 go_wp2
 first | go_end0 | refine bodyPost_ret (results_none rfl _ _ _) rfl ?_
 refine ⟨rfl, ?_⟩
 rw [HT.out]
 exact .quiet HP.out HB.out
theorem LY (S : St) (l : List Int) (j : Nat) (hj : j < l.length) (h : S.inp.length + j < 64) : S.joi (l.take (j + 1)) = { S.joi (l.take j) with inp := (S.joi (l.take j)).inp ++ [l.getD j 0] } ∧ (S.joi (l.take j)).inp.length = S.inp.length + j := by
 have e1 : (l.take j).length = j := by rw [List.length_take]; omega
 have e2 : (l.take (j + 1)).length = j + 1 := by rw [List.length_take]; omega
 unfold St.joi
 rw [List.take_of_length_le (l := l.take (j + 1)) (by omega), List.take_of_length_le (l := l.take j) (by omega), e1, e2, xM hj, decide_eq_false (show ¬ 64 < S.inp.length + (j + 1) by omega), decide_eq_false (show ¬ 64 < S.inp.length + j by omega)]
 refine ⟨?_, ?_⟩
 ·simp only [List.append_assoc]
 ·simp only [List.length_append, e1]
theorem EE (S : St) (l : List Int) (j : Nat) (hj : j < l.length) (h64 : S.inp.length ≤ 64) (h : ¬ S.inp.length + j < 64) : S.joi (l.take (j + 1)) = { S.joi (l.take j) with ov := true } ∧ (S.joi (l.take j)).inp.length = 64 := by
 have e1 : (l.take j).length = j := by rw [List.length_take]; omega
 have e2 : (l.take (j + 1)).length = j + 1 := by rw [List.length_take]; omega
 have e3 : (l.take (j + 1)).take (64 - S.inp.length) = (l.take j).take (64 - S.inp.length) := by
  rw [List.take_take, List.take_take]; congr 1; omega
 unfold St.joi
 rw [e3, e2, decide_eq_true (show 64 < S.inp.length + (j + 1) by omega), Bool.or_true]
 refine ⟨rfl, ?_⟩
 simp only [List.length_append, List.length_take]
 omega
theorem ED (S : St) (h64 : S.inp.length ≤ 64) : S.joi ([] : List Int) = S := by
 unfold St.joi
 simp only [List.take_nil, List.append_nil, List.length_nil, Nat.add_zero]
 rw [decide_eq_false (by omega), Bool.or_false]
theorem vO {B c : Nat} {T : St} {vr ui vo v' : Value} {wr w1 w2 : World} {y : Int} (h : RB B c T vr ui vo wr) (hb1 : Below wr.heap.size wr w1) (ho : w2.ownsRow B 5 1 v' (T.inp ++ [y]).length (bv (T.inp ++ [y]))) (hg : w1.grownBy w2 ui.ownBlock) (hl : v'.ownBlock = ui.ownBlock ∨ v'.ownBlock = some w1.heap.size) :
  w2.heap[c]? = some (.cells (stc T vr ui vo) 89 (0, 0)) ∧ RSt B c vr ui vo wr vr v' vo { T with inp := T.inp ++ [y] } (w2.setCell ⟨c, 11, none⟩ v') := by
 have hc1 : w1.heap[c]? = some (.cells (stc T vr ui vo) 89 (0, 0)) := (hb1.block c h.lt).trans h.h
 have hc2 : w2.heap[c]? = some (.cells (stc T vr ui vo) 89 (0, 0)) := (hg.block c (Array.getElem?_eq_some_iff.1 hc1).1 (fun e => bS h.s.i h.h (by decide) c e.symm rfl)).trans hc1
 have x1 : Exc (fun k => k = c ∨ ui.ownBlock = some k) wr w1 := Exc.of_below hb1 rfl
 have x2 : Exc (fun k => k = c ∨ ui.ownBlock = some k) w1 w2 := ⟨hg.os, hg.tape, hg.output, hg.size, fun k hk hne => hg.block k hk (fun e => hne (.inr e.symm))⟩
 refine ⟨hc2, h.inp ((x1.trans x2).set c 11 _ (.inl rfl)) v' (T.inp ++ [y]) rfl rfl rfl (heap_setCell_same w2 c 11 _ _ _ hc2) (aJ ho hc2 (by decide)) (fun k hk => ?_)⟩
 rcases hl with e | e
 ·exact .inl (by rw [← e]; exact hk)
 ·right
  have e2 : k = w1.heap.size := by rw [hk] at e; exact Option.some.inj e
  rw [e2]; exact hb1.size
theorem Byt.excN {S : Nat → Prop} {w w' : World} {v : Value} {l : List Int} (h : Byt w v l) (he : Exc S w w') (hS : l ≠ [] → ∀ g off n c, v = .slice (some ⟨g, off, none⟩) n c → ¬ S g) : Byt w' v l := by
 by_cases hl : l = []
 ·obtain ⟨a, cap, e1, e2, e3, _⟩ := h
  exact ⟨a, cap, e1, e2, e3, fun e => absurd hl e⟩
 ·exact h.exc he (hS hl)
theorem wQ {B c : Nat} {S : St} {vr vi vo : Value} (w : World) (h : RB B c S vr vi vo w) (t e s : Bool) (v : Value) (l : List Int) (ho : S.off = 0) (hv : Byt w v l) (hl : l.length ≤ 140737488351232) (h64 : S.inp.length ≤ 64) (hap : l ≠ [] → ∀ g off n c', v = .slice (some ⟨g, off, none⟩) n c' → ¬ eU c vr vi vo g) :
  Calls prog 37 #[.pointer (some ⟨c, 0, none⟩), .agg #[.bool t, .bool e, .bool s, v]] w fun e' w' => e' = .returned (.tuple #[]) ∧ ∃ ui, RSt B c vr vi vo w vr ui vo (S.beg t e s l) w' := by
 have HT : Hid (S.beg t e s l = { S.joi l with ext := e, soft := s, time := if t = true then (S.time + 1) % 18446744073709551616 else S.time }) := by unfold Hid St.beg; rw [if_pos ho]
 generalize S.beg t e s l = T at HT ⊢
 have HN : Hid (S.joi ([] : List Int) = S) := ED S h64
 have HI : Hid (∀ j, j < l.length → S.inp.length + j < 64 → S.joi (l.take (j + 1)) = { S.joi (l.take j) with inp := (S.joi (l.take j)).inp ++ [l.getD j 0] } ∧ (S.joi (l.take j)).inp.length = S.inp.length + j) := fun j hj hh => LY S l j hj hh
 have HO : Hid (∀ j, j < l.length → ¬ S.inp.length + j < 64 → S.joi (l.take (j + 1)) = { S.joi (l.take j) with ov := true } ∧ (S.joi (l.take j)).inp.length = 64) := fun j hj hh => EE S l j hj h64 hh
 obtain ⟨W, hW⟩ : ∃ W, w.alloc (.cells #[.bool t, .bool e, .bool s, v] 105) = W := ⟨_, rfl⟩
 have hb : Below w.heap.size w W := by rw [← hW]; exact (Below.refl _ _).alloc (Nat.le_refl _) _
 have hbox : W.heap[w.heap.size]? = some (.cells #[.bool t, .bool e, .bool s, v] 105 (0, 0)) := by rw [← hW]; exact heap_alloc_new w _
 have hnr : ¬ eU c vr vi vo w.heap.size := fun hr => by
  have := h.lt
  rcases hr with q | q | q | q
  ·omega
  ·have := (h.s.r.lt _ q).2; omega
  ·have := (h.s.i.lt _ q).2; omega
  ·have := (h.s.o.lt _ q).2; omega
 have HBX : Hid (∀ w2, Exc (eU c vr vi vo) W w2 → w2.heap[w.heap.size]? = some (.cells #[.bool t, .bool e, .bool s, v] 105 (0, 0)) ∧ Byt w2 v l) := fun w2 hx => by
  have hlt : w.heap.size < W.heap.size := (Array.getElem?_eq_some_iff.1 hbox).1
  exact ⟨(hx.block _ hlt hnr).trans hbox, (hv.later hb rfl).excN hx hap⟩
 have h1 := h.later hb
 have c13 : W.cell? ⟨c, 13, none⟩ = some (.int .i64 0) := by rw [← ho]; exact h1.cell 13
 have HB := hid hb
 have HP : Hid (RB B c S vr vi vo W) := h1
 obtain ⟨av, cv, ev, _⟩ := hv
 subst ev
 clear h hb hbox h1 hap hnr
 go_enter func37, ntmps37
 go_upto_region 1 with fail
 clear hW
 go_wp2
 go_loopw [5] (fun i wr => ∃ (j : Nat) (ui : Value), j ≤ l.length ∧ i = .int .i64 j ∧ Hid (RSt B c vr vi vo W vr ui vo (S.joi (l.take j)) wr)) (fun i _ => l.length - (intOf i).toNat)
 case atStart => exact ⟨0, vi, Nat.zero_le _, rfl, by unfold Hid; rw [List.take_zero, HN.out]; exact .quiet HP.out (Below.refl _ _)⟩
 case round =>
  clear c13
  obtain ⟨j, ui, hj, rfl, hst⟩ := hrel
  obtain ⟨hbx, hby⟩ := HBX.out wr hst.out.x
  have v3 : wr.cell? ⟨w.heap.size, 3, none⟩ = some (.slice av l.length cv) := cell_of_row wr _ 3 _ _ _ hbx
  obtain ⟨ai, ci, ei, _⟩ := Byt.of_own hst.out.r.s.i
  have c11 : wr.cell? ⟨c, 11, none⟩ = some (.slice ai (S.joi (l.take j)).inp.length ci) := by rw [← ei]; exact hst.out.r.cell 11
  by_cases hlt : j < l.length
  ·have hlt2 : (j : Int) < (l.length : Int) := by omega
   by_cases hroom : S.inp.length + j < 64
   ·obtain ⟨hnext, hlen⟩ := HI.out j hlt hroom
    have hne : l ≠ [] := fun e2 => by rw [e2] at hlt; simp at hlt
    obtain ⟨a2, c2, e3, _, _, h5⟩ := hby
    obtain ⟨g2, off, ea, _, h6⟩ := h5 hne
    have h7 := h6 j hlt
    cases e3
    subst ea
    have HNX := hid hnext
    generalize l.getD j 0 = y at *
    generalize hTT : S.joi (l.take j) = TT at *
    have hn64 : (TT.inp.length : Int) < 64 := by omega
    have HEI : Hid (ui = .slice ai TT.inp.length ci) := ei
    have HLL : Hid (TT.inp.length + 1 ≤ 140737488355328) := by unfold Hid; omega
    have HBW : Hid (B ≤ wr.heap.size) := Nat.le_trans hst.out.r.l (Nat.le_of_lt hst.out.r.lt)
    have HBS : Hid (∀ o, B ≤ (wr.alloc o).heap.size) := fun o => Nat.le_trans HBW.out (aI wr o).size
    generalize hni : TT.inp.length = ni at c11 hn64 HEI
    have c11a : (wr.alloc (.cells #[.int .u8 y] 5)).cell? ⟨c, 11, none⟩ = some (.slice ai ni ci) := ((aI wr _).cell hst.out.r.lt).trans c11
    clear hnext hlen hne h5 h6 ei hni hTT
    go_upto_region 7 with fail
    go_region_law (refine xH rfl (.tmp 31) (.tmp 37) rfl B ui TT.inp (by simp [Act.eval]; exact HEI.out.symm) (by exact hst.out.r.s.i.alloc _) ⟨wr.heap.size, 0, none⟩ y (by simp [Act.eval]) (by simp) HLL.out (HBS.out _) ?_; intro v' w2 ho hg hl2; obtain ⟨a9, c9, e9, _⟩ := Byt.of_own ho; obtain ⟨n9, hn9⟩ : ∃ n, n = (TT.inp ++ [y]).length := ⟨_, rfl⟩; rw [← hn9] at e9; clear hn9; subst e9; obtain ⟨hA1, hA2⟩ := vO hst.out.r (by first | exact Below.drew (aI wr _) | exact aI wr _) ho hg hl2; have d3 : w2.cell? ⟨c, 11, none⟩ = some ui := cell_of_row w2 c 11 _ _ _ hA1; have g3 := frozen_of_row w2 c 11 _ _ hA1; have HA := hid hA2; clear ho hg hl2 hA1 hA2)
    all_goals go_wp2
    all_goals go_roundw
    all_goals first | exact ⟨j + 1, .slice a9 n9 c9, by omega, by go_num, by unfold Hid; rw [HNX.out]; first | exact hst.out.trans HA.out | exact (hst.out.trans HA.out).drew⟩ | (simp [intOf]; omega)
   ·obtain ⟨hnext, hlen⟩ := HO.out j hlt hroom
    have HNX := hid hnext
    have c10 : wr.cell? ⟨c, 10, none⟩ = some (.bool (S.joi (l.take j)).ov) := hst.out.r.cell 10
    have f10 := frozen_of_row wr c 10 _ _ hst.out.r.h
    have HA : Hid (RSt B c vr ui vo wr vr ui vo { S.joi (l.take j) with ov := true } (wr.setCell ⟨c, 10, none⟩ (.bool true))) := hst.out.r.put 10 _ rfl rfl rfl rfl
    rw [hlen] at c11
    generalize (S.joi (l.take j)).ov = ob at *
    clear hnext hlen hby ei hroom
    go_wp2
    go_roundw
    case rel => exact ⟨j + 1, ui, by omega, by go_num, by unfold Hid; rw [HNX.out]; exact hst.out.trans HA.out⟩
    case measure => simp [intOf]; omega
  ·obtain rfl : j = l.length := by omega
   have HS : Hid (RSt B c vr vi vo W vr ui vo (S.joi l) wr) := by
    have := hst.out
    rw [List.take_length] at this
    exact this
   have v0 : wr.cell? ⟨w.heap.size, 0, none⟩ = some (.bool t) := cell_of_row wr _ 0 _ _ _ hbx
   have v1 : wr.cell? ⟨w.heap.size, 1, none⟩ = some (.bool e) := cell_of_row wr _ 1 _ _ _ hbx
   have v2 : wr.cell? ⟨w.heap.size, 2, none⟩ = some (.bool s) := cell_of_row wr _ 2 _ _ _ hbx
   have hne : ¬ c = w.heap.size := fun e2 => by
    have h9 := HS.out.r.h
    rw [e2, hbx] at h9
    simp at h9
   have hne2 : ¬ w.heap.size = c := fun e2 => hne e2.symm
   have k3 : wr.cell? ⟨c, 3, none⟩ = some (.int .u64 S.time) := HS.out.r.cell 3
   have k4 : wr.cell? ⟨c, 4, none⟩ = some (.bool (S.joi l).ext) := HS.out.r.cell 4
   have k5 : wr.cell? ⟨c, 5, none⟩ = some (.bool (S.joi l).soft) := HS.out.r.cell 5
   have f3 := frozen_of_row wr c 3 _ _ HS.out.r.h
   have f4 := frozen_of_row wr c 4 _ _ HS.out.r.h
   have f5 := frozen_of_row wr c 5 _ _ HS.out.r.h
   have HA : Hid (RSt B c vr vi vo W vr ui vo { S.joi l with ext := e, soft := s } ((wr.setCell ⟨c, 4, none⟩ (.bool e)).setCell ⟨c, 5, none⟩ (.bool s))) := HS.out.trans ((HS.out.r.put (T := { S.joi l with ext := e }) 4 (.bool e) rfl rfl rfl rfl).trans ((HS.out.r.put (T := { S.joi l with ext := e }) 4 (.bool e) rfl rfl rfl rfl).r.put 5 (.bool s) rfl rfl rfl rfl))
   clear hlt hst hby ei c11 HBX HI HO HN
   cases t with
   | true =>
    have HA2 : Hid (RSt B c vr vi vo W vr ui vo { S.joi l with ext := e, soft := s, time := (S.time + 1) % 18446744073709551616 } (((wr.setCell ⟨c, 4, none⟩ (.bool e)).setCell ⟨c, 5, none⟩ (.bool s)).setCell ⟨c, 3, none⟩ (.int .u64 ((S.time + 1) % 18446744073709551616)))) := HA.out.trans (HA.out.r.put 3 _ rfl rfl rfl rfl)
    have HW : Hid (IntKind.u64.wrap (S.time + 1) = (S.time + 1) % 18446744073709551616) := by unfold Hid; rw [IntKind.wrap_u64]
    generalize (S.joi l).ext = oe at *
    generalize (S.joi l).soft = os2 at *
    go_wp2
    first | go_end0 | refine bodyPost_ret (results_none rfl _ _ _) rfl ?_
    refine ⟨rfl, ui, ?_⟩
    rw [HT.out, HW.out]
    exact HA2.out.pre HB.out
   | false =>
    generalize (S.joi l).ext = oe at *
    generalize (S.joi l).soft = os2 at *
    go_wp2
    first | go_end0 | refine bodyPost_ret (results_none rfl _ _ _) rfl ?_
    refine ⟨rfl, ui, ?_⟩
    rw [HT.out]
    exact HA.out.pre HB.out
structure Md (B : Nat) (L : Lay) (c : Nat) (S T : St) (vr vi vo : Value) (w : World) : Prop where
 p : PB B L S w
 r : RB B c T vr vi vo w
 ap : ∀ k, L.own k → ¬ eU c vr vi vo k
theorem dT {B c : Nat} {S : St} {vr vi vo : Value} {w : World} (h : RB B c S vr vi vo w) {k : Nat} (hk : eU c vr vi vo k) : B ≤ k ∧ k < w.heap.size := by
 rcases hk with e | e | e | e
 ·rw [e]; exact ⟨h.l, h.lt⟩
 ·exact h.s.r.lt k e
 ·exact h.s.i.lt k e
 ·exact h.s.o.lt k e
theorem RB.exo {B c : Nat} {S : St} {vr vi vo : Value} {w w' : World} {G : Nat → Prop} (h : RB B c S vr vi vo w) (hb : Exc G w w') (hG : ∀ k, eU c vr vi vo k → ¬ G k) : RB B c S vr vi vo w' :=
 ⟨(hb.block c h.lt (hG c (.inl rfl))).trans h.h, ⟨bZ h.s.r hb (fun k hk => hG k (.inr (.inl hk))), bZ h.s.i hb (fun k hk => hG k (.inr (.inr (.inl hk)))), bZ h.s.o hb (fun k hk => hG k (.inr (.inr (.inr hk)))), h.s.ri, h.s.ro, h.s.io⟩, h.l⟩
section
variable {B N c : Nat} {L L' : Lay} {S T S' : St} {vr vi vo ur ui uo : Value} {w w' w2 : World}
theorem Md.later (h : Md B L c S T vr vi vo w) (hb : Below w.heap.size w w') : Md B L c S T vr vi vo w' := ⟨h.p.later hb, h.r.later hb, h.ap⟩
theorem Md.stepP (h : Md B L c S T vr vi vo w) (hs : PSt B L w L' S' w') : Md B L' c S' T vr vi vo w' := by
 refine ⟨hs.p, h.r.exo hs.x (fun k hk ho => h.ap k ho hk), fun k hk hr => ?_⟩
 rcases hs.o k hk with e | e
 ·exact h.ap k e hr
 ·have := (dT h.r hr).2; omega
theorem Md.stepR (h : Md B L c S T vr vi vo w) (hs : RSt B c vr vi vo w ur ui uo S' w') : Md B L c S S' ur ui uo w' := by
 refine ⟨h.p.exo hs.x (fun k hk ho => h.ap k hk ho), hs.r, fun k hk hr => ?_⟩
 rcases hs.o k hr with e | e
 ·exact h.ap k hk e
 ·have := h.p.own_hi k hk; omega
theorem PSt.below (h : Md B L c S T vr vi vo w) (hs : PSt B L w L' S' w') : Below B w w' := hs.x.below (Nat.le_trans h.r.l (Nat.le_of_lt h.r.lt)) (fun k hk => h.p.own_lo k hk)
theorem RSt.below (h : Md B L c S T vr vi vo w) (hs : RSt B c vr vi vo w ur ui uo S' w') : Below B w w' := hs.x.below (Nat.le_trans h.r.l (Nat.le_of_lt h.r.lt)) (fun k hk => (dT h.r hk).1)
end
structure Sok (S : St) : Prop where
 ok : S.ok = true
 st : StW S
theorem Sok.n {S : St} (h : Sok S) : S.ram.length ≤ 65536 ∧ 8 ≤ S.ram.length ∧ S.inp.length ≤ 64 ∧ S.out.length ≤ 4096 ∧ S.msip ≤ 1 ∧ S.ier ≤ 15 ∧ S.mcr ≤ 31 := by
 have := h.ok
 simp only [St.ok, fE, Bool.and_eq_true, decide_eq_true_eq] at this
 omega
theorem Sok.mk' {S T : St} (h : Sok S) (hr : T.ram.length = S.ram.length) (ha : dS T.ram) (hi : T.inp.length ≤ 64 ∧ dS T.inp) (ho : T.out.length ≤ 4096 ∧ dS T.out) (h1 : 0 ≤ T.msip ∧ T.msip ≤ 1) (h2 : 0 ≤ T.cmp ∧ T.cmp ≤ 18446744073709551615) (h3 : 0 ≤ T.time ∧ T.time ≤ 18446744073709551615)
  (h4 : 0 ≤ T.ier ∧ T.ier ≤ 15) (h5 : 0 ≤ T.lcr ∧ T.lcr ≤ 255) (h6 : 0 ≤ T.mcr ∧ T.mcr ≤ 31) (h7 : 0 ≤ T.scr ∧ T.scr ≤ 255) (h8 : eR T.off T.code = true) : Sok T := by
 have hk := h.ok
 simp only [St.ok, Bool.and_eq_true, decide_eq_true_eq] at hk
 refine ⟨?_, ⟨ha, hi.2, ho.2, ⟨h1.1, by omega⟩, h2, h3, ⟨h4.1, by omega⟩, h5, ⟨h6.1, by omega⟩, h7, ?_, ?_⟩⟩
 ·simp only [St.ok, Bool.and_eq_true, decide_eq_true_eq, hr]
  exact ⟨⟨⟨⟨⟨⟨hk.1.1.1.1.1.1, h1.2⟩, h4.2⟩, h6.2⟩, by omega⟩, by omega⟩, h8⟩
 ·unfold eR at h8
  split at h8
  ·omega
  ·split at h8
   ·omega
   ·cases h8
 ·unfold eR at h8
  split at h8
  ·have : T.code = 0 := by simpa using h8
   omega
  ·split at h8
   ·simp only [Bool.and_eq_true, decide_eq_true_eq] at h8; omega
   ·cases h8
theorem Sok.pow {S : St} (h : Sok S) : eR S.off S.code = true := by
 have hk := h.ok
 simp only [St.ok, Bool.and_eq_true] at hk
 exact hk.2
theorem Sok.but {S T : St} (h : Sok S) (hr : T.ram = S.ram) (hi : T.inp.length ≤ 64 ∧ dS T.inp) (ho : T.out.length ≤ 4096 ∧ dS T.out) (h1 : 0 ≤ T.msip ∧ T.msip ≤ 1) (h2 : 0 ≤ T.cmp ∧ T.cmp ≤ 18446744073709551615) (h3 : 0 ≤ T.time ∧ T.time ≤ 18446744073709551615)
  (h4 : 0 ≤ T.ier ∧ T.ier ≤ 15) (h5 : 0 ≤ T.lcr ∧ T.lcr ≤ 255) (h6 : 0 ≤ T.mcr ∧ T.mcr ≤ 31) (h7 : 0 ≤ T.scr ∧ T.scr ≤ 255) (h8 : eR T.off T.code = true) : Sok T := h.mk' (by rw [hr]) (by rw [hr]; exact h.st.r) hi ho h1 h2 h3 h4 h5 h6 h7 h8
theorem uF {N base a z v : Int} (hN : 0 ≤ N ∧ N ≤ 18446744073709551615) (hv : 0 ≤ v ∧ v ≤ 18446744073709551615) : 0 ≤ iR N base a z v ∧ iR N base a z v ≤ 18446744073709551615 := by
 unfold iR
 split
 ·exact hv
 ·split <;> omega
section
variable {S : St} (h : Sok S)
include h
theorem Sok.bi : S.inp.length ≤ 64 ∧ dS S.inp := ⟨h.n.2.2.1, h.st.i⟩
theorem Sok.bo : S.out.length ≤ 4096 ∧ dS S.out := ⟨h.n.2.2.2.1, h.st.o⟩
theorem Sok.bm : 0 ≤ S.msip ∧ S.msip ≤ 1 := ⟨h.st.msip.1, h.n.2.2.2.2.1⟩
theorem Sok.be : 0 ≤ S.ier ∧ S.ier ≤ 15 := ⟨h.st.ier.1, h.n.2.2.2.2.2.1⟩
theorem Sok.bc : 0 ≤ S.mcr ∧ S.mcr ≤ 31 := ⟨h.st.mcr.1, h.n.2.2.2.2.2.2⟩
theorem Sok.tel (r : Nat) : Sok (S.tel r).2 := by
 have hb := h.bi
 have hd : ∀ q : Nat, 8 ≤ q → S.tel q = (0, S) := fun q hq => by
  match q, hq with
  | q + 8, _ => rfl
 by_cases hr : r < 8
 ·rcases dV hr with rfl | rfl | rfl | rfl | rfl | rfl | rfl | rfl
  ·cases hi : S.inp with
   | nil => have e : S.tel 0 = (0, S) := by simp only [St.tel, hi]
            rw [e]; exact h
   | cons x xs =>
    have e : S.tel 0 = (x, { S with inp := xs }) := by simp only [St.tel, hi]
    rw [e]
    rw [hi] at hb
    exact h.but rfl ⟨by have := hb.1; simp at this; show xs.length ≤ 64; omega, fun y hy => hb.2 y (List.mem_cons_of_mem _ hy)⟩ h.bo h.bm h.st.cmp h.st.time h.be h.st.lcr h.bc h.st.scr h.pow
  ·exact h
  ·exact h
  ·exact h
  ·exact h
  ·exact h.but rfl h.bi h.bo h.bm h.st.cmp h.st.time h.be h.st.lcr h.bc h.st.scr h.pow
  ·exact h
  ·exact h
 ·rw [hd r (by omega)]; exact h
theorem Sok.sen (c : Int) (hc : 0 ≤ c ∧ c ≤ 255) : Sok (S.sen c) := by
 unfold St.sen
 split
 ·refine h.but rfl h.bi ⟨?_, ?_⟩ h.bm h.st.cmp h.st.time h.be h.st.lcr h.bc h.st.scr h.pow
  ·simp only [List.length_append, List.length_cons, List.length_nil]; omega
  ·intro y hy
   rcases List.mem_append.1 hy with q | q
   ·exact h.st.o y q
   ·simp at q; rw [q]; exact hc
 ·exact h
theorem Sok.tak (r : Nat) (v : Int) (hv : 0 ≤ v) : Sok (S.tak r v) := by
 have hd : ∀ q : Nat, 8 ≤ q → S.tak q v = S := fun q hq => by
  match q, hq with
  | q + 8, _ => rfl
 by_cases hr : r < 8
 ·rcases dV hr with rfl | rfl | rfl | rfl | rfl | rfl | rfl | rfl
  ·exact h.sen _ (by omega)
  ·exact h.but rfl h.bi h.bo h.bm h.st.cmp h.st.time (by show 0 ≤ v % 16 ∧ v % 16 ≤ 15; omega) h.st.lcr h.bc h.st.scr h.pow
  ·show Sok (if v / 2 % 2 = 1 then { S with inp := [] } else S)
   split
   ·exact h.but rfl ⟨by simp, fun y hy => by cases hy⟩ h.bo h.bm h.st.cmp h.st.time h.be h.st.lcr h.bc h.st.scr h.pow
   ·exact h
  ·exact h.but rfl h.bi h.bo h.bm h.st.cmp h.st.time h.be (by show 0 ≤ v % 256 ∧ v % 256 ≤ 255; omega) h.bc h.st.scr h.pow
  ·exact h.but rfl h.bi h.bo h.bm h.st.cmp h.st.time h.be h.st.lcr (by show 0 ≤ v % 32 ∧ v % 32 ≤ 31; omega) h.st.scr h.pow
  ·exact h
  ·exact h
  ·exact h.but rfl h.bi h.bo h.bm h.st.cmp h.st.time h.be h.st.lcr h.bc (by show 0 ≤ v % 256 ∧ v % 256 ≤ 255; omega) h.pow
 ·rw [hd r (by omega)]; exact h
theorem Sok.fin (v : Int) : Sok (S.fin v) := by
 unfold St.fin
 split
 ·rename_i h0
  have hp := h.pow
  rw [h0] at hp
  split
  ·refine h.but rfl h.bi h.bo h.bm h.st.cmp h.st.time h.be h.st.lcr h.bc h.st.scr ?_
   show eR 1 S.code = true
   exact hp
  ·split
   ·refine h.but rfl h.bi h.bo h.bm h.st.cmp h.st.time h.be h.st.lcr h.bc h.st.scr ?_
    show eR 2 (v / 65536 % 65536) = true
    unfold eR
    rw [if_neg (by omega), if_pos rfl, decide_eq_true (by omega), decide_eq_true (by omega)]; rfl
   ·exact h
 ·exact h
theorem Sok.ram (k : Nat) (cs : List Int) (hk : k + cs.length ≤ S.ram.length) (hc : dS cs) : Sok { S with ram := splice S.ram k cs } :=
 h.mk' (jD _ _ _ hk) (kN k h.st.r hc) h.bi h.bo h.bm h.st.cmp h.st.time h.be h.st.lcr h.bc h.st.scr h.pow
theorem Sok.ld (a z : Int) : Sok (S.ld a z).2 := by
 rcases fI S.ram.length a z with hf | hf | hf | hf | hf | hf | hf
 all_goals simp only [St.ld, hf]
 all_goals first | exact h | exact h.tel _
theorem Sok.sto2 (a z v : Int) (hv : 0 ≤ v ∧ v ≤ 18446744073709551615) : Sok (S.sto2 a z v).2 := by
 rcases fI S.ram.length a z with hf | hf | hf | hf | hf | hf | hf
 ·obtain ⟨k, s, rfl, rfl, hks, hs, h8⟩ := iC (iA hf)
  have e : S.sto2 (2147483648 + (k : Int)) s v = (true, S.put k s v.toNat) := by
   unfold St.sto2; rw [hf]; simp only; rw [show (2147483648 + (k : Int) - 2147483648).toNat = k by omega]; rfl
  rw [e]
  exact h.ram k (ptL v.toNat s) (by rw [bL]; exact hks) (lP _ _)
 ·simp only [St.sto2, hf]; exact h.tak _ v hv.1
 ·simp only [St.sto2, hf]; exact h.but rfl h.bi h.bo h.bm h.st.cmp (uF h.st.time hv) h.be h.st.lcr h.bc h.st.scr h.pow
 ·simp only [St.sto2, hf]; exact h.but rfl h.bi h.bo h.bm (uF h.st.cmp hv) h.st.time h.be h.st.lcr h.bc h.st.scr h.pow
 ·simp only [St.sto2, hf]; exact h.but rfl h.bi h.bo (by show 0 ≤ v % 2 ∧ v % 2 ≤ 1; omega) h.st.cmp h.st.time h.be h.st.lcr h.bc h.st.scr h.pow
 ·simp only [St.sto2, hf]; exact h.fin v
 ·simp only [St.sto2, hf]; exact h
theorem Sok.joi (l : List Int) (hl : dS l) : (S.joi l).inp.length ≤ 64 ∧ dS (S.joi l).inp := by
 have hb := h.bi
 unfold St.joi
 refine ⟨?_, ?_⟩
 ·simp only [List.length_append, List.length_take]; omega
 ·intro y hy
  rcases List.mem_append.1 hy with q | q
  ·exact hb.2 y q
  ·exact hl y (List.mem_of_mem_take q)
theorem Sok.beg (t e s : Bool) (l : List Int) (hl : dS l) : Sok (S.beg t e s l) := by
 unfold St.beg
 split
 ·refine h.but rfl (h.joi l hl) h.bo h.bm h.st.cmp ?_ h.be h.st.lcr h.bc h.st.scr h.pow
  show 0 ≤ (if t = true then (S.time + 1) % 18446744073709551616 else S.time) ∧ (if t = true then (S.time + 1) % 18446744073709551616 else S.time) ≤ 18446744073709551615
  have := h.st.time
  split <;> omega
 ·exact h
end
structure Okb (B : Nat) (L : Lay) (c : Nat) (S : St) (vr vi vo : Value) (w : World) : Prop where
 m : Md B L c S S vr vi vo w
 s : Sok S
section
variable {B c : Nat} {L L' : Lay} {S T : St} {vr vi vo ur ui uo : Value} {w W w1 w2 w3 : World}
end

theorem CY {B : Nat} {L : Lay} {S : St} (w : World) (h : PB B L S w) (t e s : Bool) (v : Value) (l : List Int) (hv : Byt w v l) (hl : l.length ≤ 140737488351232) (h64 : S.inp.length ≤ 64) (hap : ∀ g off n c, v = .slice (some ⟨g, off, none⟩) n c → ¬ L.own g) :
  Calls prog 29 #[.pointer (some ⟨L.b, 0, none⟩), .agg #[.bool t, .bool e, .bool s, v]] w fun e' w' => e' = .returned (.tuple #[]) ∧ ∃ L', PSt B L w L' (S.beg t e s l) w' := by
 by_cases ho : S.off = 0
 ·exact xT w h t e s v l ho hv hl h64 hap
 ·exact vG w h t e s v l ho
theorem AN {B c : Nat} {S : St} {vr vi vo : Value} (w : World) (h : RB B c S vr vi vo w) (t e s : Bool) (v : Value) (l : List Int) (hv : Byt w v l) (hl : l.length ≤ 140737488351232) (h64 : S.inp.length ≤ 64) (hap : l ≠ [] → ∀ g off n c', v = .slice (some ⟨g, off, none⟩) n c' → ¬ eU c vr vi vo g) :
  Calls prog 37 #[.pointer (some ⟨c, 0, none⟩), .agg #[.bool t, .bool e, .bool s, v]] w fun e' w' => e' = .returned (.tuple #[]) ∧ ∃ ur ui uo, RSt B c vr vi vo w ur ui uo (S.beg t e s l) w' := by
 by_cases ho : S.off = 0
 ·exact (wQ w h t e s v l ho hv hl h64 hap).mono fun e' w' ⟨he, ui, hs⟩ => ⟨he, vr, ui, vo, hs⟩
 ·exact (sX w h t e s v l ho).mono fun e' w' ⟨he, hs⟩ => ⟨he, vr, vi, vo, hs⟩
theorem RB.le {B M c : Nat} {S : St} {vr vi vo : Value} {w : World} (h : RB M c S vr vi vo w) (hb : B ≤ M) : RB B c S vr vi vo w := ⟨h.h, ⟨cY h.s.r hb, cY h.s.i hb, cY h.s.o hb, h.s.ri, h.s.ro, h.s.io⟩, Nat.le_trans hb h.l⟩
theorem Two.okb {B M c : Nat} {L : Lay} {S : St} {vr vi vo : Value} {w : World} (h : Two B M L c S vr vi vo w) (hb : B ≤ M) (ho : S.ok = true) (hs : StW S) : Okb B L c S vr vi vo w := ⟨⟨h.tw.p, h.tw.r.le hb, h.tw.ap⟩, ⟨ho, hs⟩⟩
section
variable {B : Nat} {w0 : World} {b c gp : Nat} {L : Lay} {S : St} {vr vi vo : Value} {w w1 w' : World}
end
end Go.Proofs.YtiffkbmppmejhaaGreatDoor
