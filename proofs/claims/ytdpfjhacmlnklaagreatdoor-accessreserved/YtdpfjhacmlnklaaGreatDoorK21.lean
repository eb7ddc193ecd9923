import Derived.Test.YtdpfjhacmlnklaaGreatDoorK20
import Derived.Deep.RegionWith
import Derived.Deep.RegionHeld3
namespace Go.Proofs.YtdpfjhacmlnklaaGreatDoor
set_option linter.unusedVariables false
set_option maxRecDepth 100000
set_option maxHeartbeats 8000000
open Go.ChangeShapes Go.WideShapes Go.ChangeAt Go.RowKit Go.Deep _root_.Go.Proofs.Tryz
def wL (b : Nat) (K : Cp) (ad : BitVec 64) : Wy := ⟨b, K.c, K.a, xE K, ad, 1, false, 4, 5⟩
def wS (b : Nat) (K : Cp) (ad : BitVec 64) : Wy := ⟨b, K.c, K.a, xE K, ad, 2, false, 6, 7⟩
def wF (b : Nat) (K : Cp) (ad : BitVec 64) : Wy := ⟨b, K.c, K.a, K.md, ad, 4, true, 0, 1⟩
theorem Row.agg {w : World} {g : Nat} {cs : Array Value} {t : TypeId} (h : Row w g cs t) : ∀ j v, cs[j]? = some v → w.cell? ⟨g, 0 + j, none⟩ = some v := fun j v hv => by rw [Nat.zero_add, h.cell]; exact hv
def bL (K : Cp) : Cp := { K with rv := false, ra := 0#64, rs := 0 }
theorem kT {B : Nat} {L : Lay} {S : St} (w : World) (h : PB B L S w) (hs : Sok S) (hT : Tb w) (hB : 0 < B) (k : Cp) (ad : BitVec 64) (sz : Int) :
  Calls prog 26 #[.agg (cpc k), .pointer (some ⟨L.b, 0, none⟩), .int .u64 (n64 ad), .int .i64 sz] w fun e w' => e = .returned (.tuple #[.int .u64 (n64 (PL S (wL L.b (PR k) ad) sz none).old), .agg (tpc (PL S (wL L.b (PR k) ad) sz none).t)]) ∧ ∃ L', PSt B L w L' (PL S (wL L.b (PR k) ad) sz none).S w' := by
 obtain ⟨W0, hW0, r0, r1, b0, s0⟩ := bX w (cpc k) (tpc tN) 31 46
 have hzt := bE
 have HP0 : Hid (PSt B L w L S W0) := (PSt.refl h).post b0.out
 have hlo : ∀ g, w.heap.size ≤ g → ¬ L.own g := fun g hg e => by have := h.own_hi _ e; omega
 have HO1 : Hid (Own w L W0 (w.heap.size + 1) (tpc tN) 46) := ⟨r1.out, hlo _ (by omega), by omega⟩
 have HPR : Hid (∀ W, Calls prog 46 #[.agg (cpc k)] W fun e w' => e = .returned (.agg (cpc (PR k))) ∧ Below W.heap.size W w') := fun W => nB k W
 have HLG : Hid (∀ W, Calls prog 51 #[.agg (cpc (PR k)), .pointer (some ⟨L.b, 0, none⟩), .int .u64 (n64 ad)] W fun e w' => e = .returned (.agg (wyc (wL L.b (PR k) ad))) ∧ Below W.heap.size W w') := fun W => by
  have q := kO (PR k) L.b ad W
  rw [kH] at q
  exact q
 have HPL : Hid (∀ W, Below w.heap.size w W → Calls prog 48 #[.agg (wyc (wL L.b (PR k) ad)), .int .i64 sz, .nilFunc] W fun e w' => e = .returned (.tuple #[.int .u64 (n64 (PL S (wL L.b (PR k) ad) sz none).old), .int .u64 (n64 (PL S (wL L.b (PR k) ad) sz none).st), .agg (tpc (PL S (wL L.b (PR k) ad) sz none).t)]) ∧ ∃ L', PSt B L W L' (PL S (wL L.b (PR k) ad) sz none).S w') := fun W hb => lG W (h.later hb) hs (hT.next hb) hB (wL L.b (PR k) ad) rfl sz .nilFunc none .nil
 have HB0 : Hid (Below w.heap.size w W0) := b0
 generalize PL S (wL L.b (PR k) ad) sz none = m at HPL ⊢
 generalize wyc (wL L.b (PR k) ad) = wy at HPL HLG
 clear h hs hT s0 r1 b0
 go_enter func26, ntmps26
 go_upto_region 1 with fail
 clear hW0
 go_upto_region 2 with (first | (refine wpList_load_row (by rfl) _ _ (by rfl) _ (by rfl) 31 _ (0, 0) _ r0.out underlying31 (by rfl) (aE _) ?_) | (go_at_call 46; refine (HPR.out _).mono ?_; rintro e w1 ⟨rfl, hb1⟩; have HB1 := hid hb1; clear hb1) | (go_at_call 51; refine (HLG.out _).mono ?_; rintro e w2 ⟨rfl, hb2⟩; have HB2 : Hid (Below W0.heap.size W0 w2) := HB1.out.trans (hb2.mono HB1.out.size); clear hb2) | (go_at_call 48; refine (HPL.out w2 (HB0.out.trans (HB2.out.mono HB0.out.size))).mono ?_; rintro e w3 ⟨rfl, L1, hp3⟩; have HP3 := hid hp3; clear hp3) | (refine aK (by rfl) 46 _ _ (by rfl) (by rfl) (tpc tN) (tpc m.t) (by rfl) (by rfl) (aB _) (aP _ _) (aG _) ?_))
 refine bK (motive := fun W => Code.wp _ _ _ _ W) (Q := fun W => Own w L1 W (w.heap.size + 1) (tpc tN) 46 ∧ Own w L1 W w3.heap.size (tpc m.t) 46 ∧ PSt B L w L1 m.S W) ⟨((HO1.out.post HB2.out).bus HP3.out).post (aF _ _), Own.new ((HP0.out.post HB2.out).trans HP3.out) _ _, ((HP0.out.post HB2.out).trans HP3.out).al _⟩ ?_
 clear HO1 HP0 HB0 HB1 HB2 HP3 HPR HLG HPL r0
 generalize w3.heap.size = gt
 rintro W4 ⟨o1, o2, p4⟩
 have HO1 := hid o1
 have HP4 := hid p4
 have hlt : Hid (gt < W4.heap.size) := o2.r.lt
 have HL2 : Hid (∀ j v, (tpc m.t)[j]? = some v → W4.cell? ⟨gt, 0 + j, none⟩ = some v) := o2.r.agg
 clear o1 o2 p4
 have := aX W4
 refine aQ (x0 := bR.start W4) 3 (by kernel_rfl) (by kernel_rfl) ?_
 simp only [List.take_succ_cons, List.take_zero, List.drop_succ_cons, List.drop_zero]
 repeat (first | (refine BigFrame.wpQuiet_want (by rfl) fun K hK => ?_; refine aV 46 _ (by rfl) (gt) 0 (by rfl) (tpc m.t) _ hlt.out HL2.out underlying46 (by rfl) (aB _) (hK _ ?_); clear hK K; simp only [Act.put, List.setIfInBounds_toArray, List.set_cons_succ, List.set_cons_zero]) | (go_big_quiet_step (fail)))
 refine wpQuiet_nil ?_
 rintro w' ⟨x9, rfl⟩
 have HO9 : Hid (Own w L1 x9.1 (w.heap.size + 1) (tpc tN) 46) := HO1.out.post x9.below
 go_wp2_with (refine aC (by rfl) _ _ _ (by rfl) (by rfl) _ _ _ (by rfl) (by rfl) HO9.out.r (aB _) (aP _ _) (aG _) ?_)
 refine bodyPost_ret (v := .tuple #[.int .u64 (n64 m.old), .agg (tpc m.t)]) (jQ results26 _ _ (w.heap.size + 1) 46 _ (0, 0) _ _ (by rfl) (by rfl) (setRow_heap _ _ _ _ _ _ HO9.out.r) underlying46 (by rfl) (aB _)) rfl ⟨rfl, L1, (HP4.out.post x9.below).row HO9.out.n HO9.out.ge _⟩
theorem kF {P : Program} {o : Oper} {a : Act} {w : World} {K : Act → World → Prop} {Q : Exit → Act → World → Prop} (t : TypeId) (x y : Operand) (ho : o.op = .store t x y)
  (g : Nat) (c c' : Array Value) (hx : a.eval x = .pointer (some ⟨g, 0, none⟩)) (hy : a.eval y = .agg c') (hg : Row w g c t) (hi : (P.info? t).map (·.size) = some c'.size) (hs : c.size = c'.size) (h1 : c'.all (·.oneCell') = true)
  (h : K (a.put o.dst undef) (w.setRow g c')) : o.wp P a w K Q := by
 unfold Oper.wp execOp
 simp only [ho, hx, hy, Instr.storeAt, Instr.sureAddr, Sem.run_bind, Sem.run_pure, Result.andThen_ok, run_storeVar_row w g t t c c' hg hi hs h1]
 exact h
theorem aL {P : Program} {md : Region.Mode} {ops : Array Oper} {Q : Exit → Act → World → Prop} {S : World → Prop} (i : Nat) (d : Option Tmp) {oi : Oper} {v : Value} {fuel : Nat} {listed : Array Bool} {a : Act} {w : World} (hi : ops[i]? = some oi) (hd : (ops[i]?).map (·.dst) = some d)
  (hs : Region.noSelect ops = true) (hf : Region.free md ops listed i = true) (hr : (Region.ready md ops listed).contains i = true) (hQ : ∀ c a w, Q (.panic c) (a.put oi.dst v) w → Q (.panic c) a w) (hy : YieldsIf P ops S oi v a) (hS : S w)
  (h : wpAnyH P md ops Q S fuel (listed.setIfInBounds i true) (a.put d v) w) : wpAnyH P md ops Q S (fuel + 1) listed a w := by
 rw [hi, Option.map_some] at hd
 injection hd with hd
 subst hd
 exact wpAnyH_take hi hs hf hr hQ hy hS h
theorem aN {P : Program} {md : Region.Mode} {ops : Array Oper} {Q : Exit → Act → World → Prop} {S : World → Prop} {fuel : Nat} {listed : Array Bool} {a : Act} {w : World} (i : Nat) (t : TypeId) (x y : Operand) (hr : Region.ready md ops listed = [i])
  (ho : (ops[i]?).map (fun o => (o.op, o.dst, o.guard)) = some (.store t x y, none, none)) (g : Nat) (c c' : Array Value) (hx : a.eval x = .pointer (some ⟨g, 0, none⟩)) (hy : a.eval y = .agg c') (hg : Row w g c t) (hi : (P.info? t).map (·.size) = some c'.size) (hs : c.size = c'.size) (h1 : c'.all (·.oneCell') = true)
  (hS : S (w.setRow g c')) (h : wpAnyH P md ops Q S fuel (listed.setIfInBounds i true) a (w.setRow g c')) : wpAnyH P md ops Q S (fuel + 1) listed a w := by
 cases e : ops[i]? with
 | none => rw [e] at ho; cases ho
 | some o =>
  rw [e] at ho
  simp only [Option.map_some, Option.some.injEq, Prod.mk.injEq] at ho
  refine wpAnyH_all hr (by simp) (fun j hj => ?_)
  obtain rfl : j = i := by simpa using hj
  refine wpOp_step e (fun K hK => ?_)
  rw [if_pos (by simp [Region.wanted, ho.2.2])]
  refine kF t x y ho.1 g c c' hx hy hg hi hs h1 ?_
  refine hK _ _ ⟨hS, ?_⟩
  rw [ho.2.1]
  exact h
theorem bM {P : Program} (ty : TypeId) (g : Nat) (cs : Array Value) (d : TypeDesc) (w9 : World) (h : Row w9 g cs ty) (hu : P.underlying ty = some d) (hd : (match d with | .struct _ | .array _ _ => true | _ => false) = true) (hi : (P.info? ty).map (·.size) = some cs.size) :
  ((Instr.loadAt ty (.pointer (some ⟨g, 0, none⟩))) >>= fun v => pure (Next.value v)).run P w9 = .ok (.value (.agg cs)) w9 := by
 have hl := eS (P := P) w9 ty g 0 cs d h.agg hu hd hi
 simp only [Instr.loadAt, Instr.sureAddr, Sem.run_bind, Sem.run_pure, Result.andThen_ok, hl]
theorem fA {P : Program} {o : Oper} {a : Act} (t : TypeId) (parts : Array (Nat × Operand)) (ho : o.op = .build t parts) (cells : Array Value) (hc : P.built t (parts.map fun (i, x) => (i, a.eval x)).toList = some cells) (w9 : World) : (execOp a.eval o).run P w9 = .ok (.value (.agg cells)) w9 := by
 unfold execOp
 simp only [ho, Sem.run_bind, run_build w9 t _ cells hc, Result.andThen_ok]
 rfl
end Go.Proofs.YtdpfjhacmlnklaaGreatDoor
