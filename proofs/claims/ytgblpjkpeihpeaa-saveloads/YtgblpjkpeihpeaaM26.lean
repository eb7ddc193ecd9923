/-
  Jj.
-/
import Derived.Test.YtgblpjkpeihpeaaM19
import Derived.Test.YtgblpjkpeihpeaaM25
import Derived.Test.YtgblpjkpeihpeaaM22
import Derived.Deep.RegionWith
import Derived.Deep.RegionHeld3
import Derived.Test.YtgblpjkpeihpeaaM12
namespace Go.Proofs.Ytgblpjkpeihpeaa
set_option linter.unusedVariables false
set_option maxRecDepth 100000
open Go.ChangeShapes Go.WideShapes Go.ChangeAt Go.RowKit Go.Deep
/-- What a snapshot's bytes (without their sum) tell. -/
def rdV (L : List Int) : Option (Cp × St) :=
  if bd (devF L 524 (cpuF L 8 false)) L (devQ L 524) = true then none else
  match ramR L (devQ L 524) with
  | none => none
  | some (r, qf) => if qf = L.length then some (cpuN L 8, { devN L 524 with ram := r }) else none
def ReadP (L : List Int) (w : World) (e : Ending) (w' : World) : Prop :=
  ∃ (K : Cp) (S : St) (a0 a1 a2 : Option Addr) (n0 n1 n2 c0 c1 c2 : Nat) (ok : Bool), e = .returned (.tuple #[.agg (whc K S (.slice a0 n0 c0) (.slice a1 n1 c1) (.slice a2 n2 c2)), .bool ok]) ∧ Bs S (.slice a0 n0 c0) (.slice a1 n1 c1) (.slice a2 n2 c2) w' ∧
    ((∀ k, (Value.slice a0 n0 c0).ownBlock = some k → w.heap.size ≤ k) ∧ (∀ k, (Value.slice a1 n1 c1).ownBlock = some k → w.heap.size ≤ k) ∧ (∀ k, (Value.slice a2 n2 c2).ownBlock = some k → w.heap.size ≤ k)) ∧
    (S.ram.length ≤ 65536 ∧ S.inp.length ≤ 64 ∧ S.out.length ≤ 4096) ∧ (0 ≤ K.md ∧ K.md ≤ 255 ∧ 0 ≤ K.rs ∧ K.rs ≤ 255) ∧ (ok = true → ∃ K', rdV L = some (K', S) ∧ cpc K = cpc K') ∧ (ok = false → rdV L = none) ∧ Below w.heap.size w w'
theorem layC_mid : ∀ (l A B C : List Value), B.length = l.length → layC (A ++ B ++ C).toArray A.length l = (A ++ l ++ C).toArray
  | [], A, B, C, h => by
    have : B = [] := by cases B with | nil => rfl | cons _ _ => simp at h
    subst this; rfl
  | v :: r, A, b :: B, C, h => by
    rw [layC]
    have e : (A ++ b :: B ++ C).toArray.setIfInBounds A.length v = ((A ++ [v]) ++ B ++ C).toArray := by
      simp
    have e2 : A.length + 1 = (A ++ [v]).length := by simp
    rw [e, e2, layC_mid r (A ++ [v]) B C (by simpa using h)]
    simp
theorem layC_cpu (K K' : Cp) (S : St) (vr vi vo : Value) : layC (whc K S vr vi vo) 0 (cpc K').toList = whc K' S vr vi vo := by
  have := layC_mid (cpc K').toList [] (cpc K).toList (stc S vr vi vo).toList (by simp [cpc_size])
  simpa [whc] using this
theorem layC_bus (K : Cp) (S S' : St) (vr vi vo vr' vi' vo' : Value) : layC (whc K S vr vi vo) 82 (stc S' vr' vi' vo').toList = whc K S' vr' vi' vo' := by
  have := layC_mid (stc S' vr' vi' vo').toList (cpc K).toList (stc S vr vi vo).toList [] (by simp [stc])
  simpa [whc, cpc_size] using this
theorem info_cpuJ (K : Cp) : (Try.prog.info? 31).map (·.size) = some (cpc K).size := by rw [cpc_size]; kernel_rfl
theorem info_busJ (S : St) (vr vi vo : Value) : (Try.prog.info? 35).map (·.size) = some (stc S vr vi vo).size := by kernel_rfl
theorem stc_onesJ (S : St) (a b c : Option Addr) (n1 n2 n3 c1 c2 c3 : Nat) : (stc S (.slice a n1 c1) (.slice b n2 c2) (.slice c n3 c3)).all (·.oneCell') = true := by kernel_rfl
theorem Exc.lay {S : Nat → Prop} {g : Nat} (hg : S g) : ∀ (l : List Value) (o : Nat) {a w : World}, Exc S a w → Exc S a (w.setCells g o l)
  | [], o, a, w, h => h
  | v :: r, o, a, w, h => by
    rw [World.setCells]
    exact Exc.lay hg r (o + 1) (h.set g o v hg)
/-- Bytes in a block behind m. -/
def Fbt (m : Nat) (W : World) (u : Value) (l : List Int) : Prop := Byt W u l ∧ ∀ k, u.ownBlock = some k → m < k
theorem Fbt.exc {m : Nat} {S : Nat → Prop} {W W' : World} {u : Value} {l : List Int} (h : Fbt m W u l) (hx : Exc S W W') (hS : ∀ k, S k → k ≤ m) : Fbt m W' u l :=
  ⟨h.1.exc hx (fun g off n c e hg => by have := h.2 g (by rw [e]; rfl); have := hS g hg; omega), h.2⟩
theorem rd_yes {L r : List Int} {qf : Nat} (h1 : bd (devF L 524 (cpuF L 8 false)) L (devQ L 524) = false) (h2 : ramR L (devQ L 524) = some (r, qf)) (h3 : qf = L.length) : rdV L = some (cpuN L 8, { devN L 524 with ram := r }) := by
  unfold rdV; rw [h1, h2]; simp [h3]
theorem rd_no {L : List Int} (h : bd (devF L 524 (cpuF L 8 false)) L (devQ L 524) = true ∨ ramR L (devQ L 524) = none) : rdV L = none := by
  unfold rdV
  rcases h with h | h
  · rw [if_pos h]
  · rw [h]; split <;> rfl
theorem rd_off {L r : List Int} {qf : Nat} (h2 : ramR L (devQ L 524) = some (r, qf)) (h3 : qf ≠ L.length) : rdV L = none := by
  unfold rdV; rw [h2]; simp [h3]
theorem rd_cpu {L : List Int} (h : bd (devF L 524 (cpuF L 8 false)) L (devQ L 524) = false) : bd (cpuF L 8 false) L (8 + 516) = false := by
  refine bd_mono (fun e => ?_) ?_ h
  · unfold devF; rw [e]; simp
  · unfold devQ; omega
theorem wpO_store_rowJ {P : Program} {o : Oper} {a : Act} {w : World} {K : Act → World → Prop} {Q : Exit → Act → World → Prop} (t : TypeId) (x y : Operand) (ho : o.op = .store t x y)
    (g : Nat) (c c' : Array Value) (hx : a.eval x = .pointer (some ⟨g, 0, none⟩)) (hy : a.eval y = .agg c') (hg : Row w g c t) (hi : (P.info? t).map (·.size) = some c'.size) (hs : c.size = c'.size) (h1 : c'.all (·.oneCell') = true)
    (h : K (a.put o.dst undef) (w.setRow g c')) : o.wp P a w K Q := by
  unfold Oper.wp execOp
  simp only [ho, hx, hy, Instr.storeAt, Instr.sureAddr, Sem.run_bind, Sem.run_pure, Result.andThen_ok, run_storeVar_row w g t t c c' hg hi hs h1]
  exact h
theorem wpAnyH_takeJ {P : Program} {md : Region.Mode} {ops : Array Oper} {Q : Exit → Act → World → Prop} {S : World → Prop} (i : Nat) (d : Option Tmp) {oi : Oper} {v : Value} {fuel : Nat} {listed : Array Bool} {a : Act} {w : World} (hi : ops[i]? = some oi) (hd : (ops[i]?).map (·.dst) = some d)
    (hs : Region.noSelect ops = true) (hf : Region.free md ops listed i = true) (hr : (Region.ready md ops listed).contains i = true) (hQ : ∀ c a w, Q (.panic c) (a.put oi.dst v) w → Q (.panic c) a w) (hy : YieldsIf P ops S oi v a) (hS : S w)
    (h : wpAnyH P md ops Q S fuel (listed.setIfInBounds i true) (a.put d v) w) : wpAnyH P md ops Q S (fuel + 1) listed a w := by
  rw [hi, Option.map_some] at hd
  injection hd with hd
  subst hd
  exact wpAnyH_take hi hs hf hr hQ hy hS h
/-- A whole row stored by the one operation that may come up. -/
theorem wpAnyH_store_rowJ {P : Program} {md : Region.Mode} {ops : Array Oper} {Q : Exit → Act → World → Prop} {S : World → Prop} {fuel : Nat} {listed : Array Bool} {a : Act} {w : World} (i : Nat) (t : TypeId) (x y : Operand) (hr : Region.ready md ops listed = [i])
    (ho : (ops[i]?).map (fun o => (o.op, o.dst, o.guard)) = some (.store t x y, none, none)) (g : Nat) (c c' : Array Value) (hx : a.eval x = .pointer (some ⟨g, 0, none⟩)) (hy : a.eval y = .agg c') (hg : Row w g c t) (hi : (P.info? t).map (·.size) = some c'.size) (hs : c.size = c'.size) (h1 : c'.all (·.oneCell') = true)
    (hS : S (w.setRow g c')) (h : wpAnyH P md ops Q S fuel (listed.setIfInBounds i true) a (w.setRow g c')) : wpAnyH P md ops Q S (fuel + 1) listed a w := by
  cases e : ops[i]? with
  | none => rw [e] at ho; cases ho
  | some o =>
    rw [e] at ho
    simp only [Option.map_some, Option.some.injEq, Prod.mk.injEq] at ho
    refine wpAnyH_all hr (by simp) (fun j hj => ?_)
    obtain rfl : j = i := by simpa using hj
    refine wpOp_step e (fun K hK => ?_)
    rw [if_pos (by simp [Region.wanted, ho.2.2])]
    refine wpO_store_rowJ t x y ho.1 g c c' hx hy hg hi hs h1 ?_
    refine hK _ _ ⟨hS, ?_⟩
    rw [ho.2.1]
    exact h
theorem threes (w : World) (c1 c2 c3 : Array Value) (t1 t2 t3 : TypeId) : ∃ W, ((w.alloc (.cells c1 t1)).alloc (.cells c2 t2)).alloc (.cells c3 t3) = W ∧ Hid (Row W w.heap.size c1 t1) ∧ Hid (Row W (w.heap.size + 1) c2 t2) ∧ Hid (Row W (w.heap.size + 2) c3 t3) ∧ Hid (Below w.heap.size w W) ∧ W.heap.size = w.heap.size + 3 := by
  obtain ⟨W, hW, h1, h2, h3, h4⟩ := start2 w c1 c2 t1 t2
  rw [hW]
  refine ⟨_, rfl, h1.out.old (by omega) _, h2.out.old (by omega) _, ?_, h3.out.alloc (by omega) _, by simp [h4]⟩
  have := Row.new W c3 t3
  rw [h4] at this; exact this
set_option maxHeartbeats 8000000 in
theorem read_c {w : World} {a : Option Addr} {n c : Nat} {L : List Int} (hn : n = (L.drop 8).length) (hb : Byt w (.slice a n c) (L.drop 8)) (hL : AllB L) (h8 : 8 ≤ L.length) (hl : n ≤ 72000) (hown : ∀ k, (Value.slice a n c).ownBlock = some k → k < w.heap.size) :
    Calls Try.prog 36 #[.slice a n c] w fun e w' => ReadP L w e w' := by
  have hz := zero_wh
  obtain ⟨W0, hW0, r0, r1, r2, b0, s0⟩ := threes w whz #[.slice a n c, .bool false] whz 37 120 37
  have HP0 : Hid (Prd w.heap.size W0 (w.heap.size + 1) L 8 false) := ⟨by omega, a, n, c, L.drop 8, by rw [show bd false L 8 = false from by unfold bd; simp; omega]; exact r1.out, hn, hb.later b0.out rfl, fun x hx => hL x (List.mem_of_mem_drop hx), hl, hown, fun _ => rfl⟩
  have HL := Hid.mk' hL
  clear hn hb hL h8 hown hl
  go_enter Try.func36, Try.ntmps36
  go_upto_region 3 with fail
  obtain ⟨g0, hg0⟩ : ∃ g0, g0 = w.heap.size := ⟨_, rfl⟩
  obtain ⟨g1, hg1⟩ : ∃ g1, g1 = w.heap.size + 1 := ⟨_, rfl⟩
  obtain ⟨g2, hg2⟩ : ∃ g2, g2 = w.heap.size + 1 + 1 := ⟨_, rfl⟩
  have n01 : g0 ≠ g1 := by omega
  have n02 : g0 ≠ g2 := by omega
  have n12 : g1 ≠ g2 := by omega
  have k0 : w.heap.size ≤ g0 := by omega
  have k1 : w.heap.size ≤ g1 := by omega
  have k2 : w.heap.size ≤ g2 := by omega
  have h1g : g1 < g2 := by omega
  have h0g : g0 < g2 := by omega
  rw [← hg1] at r1 HP0
  rw [show w.heap.size + 2 = g2 from by omega] at r2
  have HZ0 : Hid (Row W0 g0 whz 37) := by rw [hg0]; exact r0.out
  have HR0 := Hid.mk' r2.out
  have HB0 := Hid.mk' b0.out
  rw [← hg2, ← hg1, ← hg0]
  clear hz hW0 r0 r1 r2 b0 s0 hg0 hg1 hg2
  go_upto_region 4 with (first | (go_at_call 57; refine (pcpu_c HP0.out HL.out).mono ?_; rintro e V1 ⟨K, rfl, h1, h2, h3, h4, h5, h6, h7⟩; have HK1 := Hid.mk' h1; have HK2 := Hid.mk' (And.intro h2 (And.intro h3 (And.intro h4 h5))); have HP1 := Hid.mk' h6; have HX1 := Hid.mk' h7; clear h1 h2 h3 h4 h5 h6 h7; have HR1 := Hid.mk' ((HX1.out.block g2 HR0.out.lt (Ne.symm n12)).trans HR0.out); have HZ1 := Hid.mk' ((HX1.out.block g0 HZ0.out.lt n01).trans HZ0.out); have HB1 := Hid.mk' (HB0.out.trans (HX1.out.below HB0.out.size (fun k e => by rw [e]; exact k1))); have HIC := Hid.mk' (info_cpuJ K); have HOC := Hid.mk' (cpc_ones K)) | (refine wpList_store_part (by rfl) 31 _ _ (by rfl) (by rfl) g2 0 (cpc K) (by rfl) (by rfl) (Row.there HR1.out (by rw [cpc_size]; unfold whz; rw [whc_size]; omega)) HIC.out HOC.out ?_))
  refine on_W (motive := fun W => Code.wp _ _ _ _ W) (Q := fun W => Row W g2 (whc K zS (.slice none 0 0) (.slice none 0 0) (.slice none 0 0)) 37 ∧ Row W g0 whz 37 ∧ Prd w.heap.size W g1 L 524 (cpuF L 8 false) ∧ Below w.heap.size w W)
    ⟨by have r := Row.lay (cpc K).toList 0 HR1.out; unfold whz at r; rw [layC_cpu] at r; exact r, Row.lays n02 _ _ HZ1.out, HP1.out.exc (S := (· = g2)) (Exc.lay (S := (· = g2)) rfl _ _ (Exc.refl _ _)) n12 (fun k hk e => by omega), below_lay k2 _ _ HB1.out⟩ ?_
  clear HP1 HX1 HR1 HZ1 HB1 HIC HOC HR0 HZ0 HB0 HP0
  rintro W1 ⟨p1, p2, p3, p4⟩
  have HR0 := Hid.mk' p1
  have HZ0 := Hid.mk' p2
  have HP0 := Hid.mk' p3
  have HB0 := Hid.mk' p4
  clear p1 p2 p3 p4
  go_upto_region 5 with (first | (go_at_call 58; refine (pdev_c HP0.out HL.out).mono ?_; rintro e V1 ⟨S, a1, a2, n1, n2, c1, c2, rfl, h1, h2, h3, h4, h5, h6, h7, h8⟩; have HS1 := Hid.mk' h1; have HI1 := Hid.mk' h2; have HO1 := Hid.mk' h3; have HLE := Hid.mk' (And.intro h4 h5); have HS2 := Hid.mk' h6; have HP1 := Hid.mk' h7; have HX1 := Hid.mk' h8; clear h1 h2 h3 h4 h5 h6 h7 h8; have HR1 := Hid.mk' ((HX1.out.block g2 HR0.out.lt (Ne.symm n12)).trans HR0.out); have HZ1 := Hid.mk' ((HX1.out.block g0 HZ0.out.lt n01).trans HZ0.out); have HB1 := Hid.mk' (HB0.out.trans (HX1.out.below HB0.out.size (fun k e => by rw [e]; exact k1))); have HIC := Hid.mk' (info_busJ S (.slice none 0 0) (.slice a1 n1 c1) (.slice a2 n2 c2)); have HOC := Hid.mk' (stc_onesJ S none a1 a2 0 n1 n2 0 c1 c2)) | (refine wpList_store_part (by rfl) 35 _ _ (by rfl) (by rfl) g2 82 (stc S (.slice none 0 0) (.slice a1 n1 c1) (.slice a2 n2 c2)) (by rfl) (by rfl) (Row.there HR1.out (by rw [whc_size]; exact Nat.le_refl 97)) HIC.out HOC.out ?_))
  have hg2 := HR0.out.lt
  refine on_W (motive := fun W => Code.wp _ _ _ _ W) (Q := fun W => Row W g2 (whc K S (.slice none 0 0) (.slice a1 n1 c1) (.slice a2 n2 c2)) 37 ∧ Row W g0 whz 37 ∧ Prd w.heap.size W g1 L (devQ L 524) (devF L 524 (cpuF L 8 false)) ∧ Below w.heap.size w W ∧ Fbt g2 W (.slice a1 n1 c1) S.inp ∧ Fbt g2 W (.slice a2 n2 c2) S.out)
    ⟨by have r := Row.lay (stc S (.slice none 0 0) (.slice a1 n1 c1) (.slice a2 n2 c2)).toList 82 HR1.out; rw [layC_bus] at r; exact r, Row.lays n02 _ _ HZ1.out, HP1.out.exc (S := (· = g2)) (Exc.lay (S := (· = g2)) rfl _ _ (Exc.refl _ _)) n12 (fun k hk e => by omega), below_lay k2 _ _ HB1.out, Fbt.exc (m := g2) ⟨HI1.out.1, fun k hk => Nat.lt_of_lt_of_le hg2 (HI1.out.2 k hk)⟩ (Exc.lay (S := (· = g2)) rfl _ _ (Exc.refl _ _)) (fun k e => Nat.le_of_eq e), Fbt.exc (m := g2) ⟨HO1.out.1, fun k hk => Nat.lt_of_lt_of_le hg2 (HO1.out.2 k hk)⟩ (Exc.lay (S := (· = g2)) rfl _ _ (Exc.refl _ _)) (fun k e => Nat.le_of_eq e)⟩ ?_
  clear HP1 HX1 HR1 HZ1 HB1 HIC HOC HR0 HZ0 HB0 HP0 hg2 HI1 HO1
  rintro W2 ⟨p1, p2, p3, p4, p5, p6⟩
  have HR0 := Hid.mk' p1
  have HZ0 := Hid.mk' p2
  have HP0 := Hid.mk' p3
  have HB0 := Hid.mk' p4
  have HI0 := Hid.mk' p5
  have HO0 := Hid.mk' p6
  clear p1 p2 p3 p4 p5 p6
  go_upto_region 6 with (go_at_call 59; go_loud (refine (pram_c HP0.out).mono ?_; rintro e V1 ⟨r, a0, n0, c0, qf, bf, rfl, h1, h2, h3, h4, h5, h6, h7⟩; have HM1 := Hid.mk' h1; have HL1 := Hid.mk' h3; have HY1 := Hid.mk' h4; have HN1 := Hid.mk' h5; have HP1 := Hid.mk' h6; have HX1 := Hid.mk' h7; clear h1 h2 h3 h4 h5 h6 h7; have HR1 := Hid.mk' ((HX1.out.block g2 HR0.out.lt (Ne.symm n12)).trans HR0.out); have HZ1 := Hid.mk' ((HX1.out.block g0 HZ0.out.lt n01).trans HZ0.out); have HB1 := Hid.mk' (HB0.out.trans (HX1.out.below HB0.out.size (fun k e => by rw [e]; exact k1))); have cS := (Row.cell HR1.out 82).trans (whc_b K S _ _ _ 0 _ rfl); have fS := Row.froz HR1.out 82))
  have hg2 := HR0.out.lt
  refine on_W (motive := fun W => Code.wp _ _ _ _ W) (Q := fun W => Row W g2 (whc K { S with ram := r } (.slice a0 n0 c0) (.slice a1 n1 c1) (.slice a2 n2 c2)) 37 ∧ Row W g0 whz 37 ∧ Prd w.heap.size W g1 L qf bf ∧ Below w.heap.size w W ∧ Fbt g2 W (.slice a1 n1 c1) S.inp ∧ Fbt g2 W (.slice a2 n2 c2) S.out ∧ Fbt g2 W (.slice a0 n0 c0) r)
    ⟨by have r := Row.put (i := 82) HR1.out (.slice a0 n0 c0); rw [whc_setr] at r; exact r, Row.other HZ1.out n02 _, HP1.out.put n12 k2 _, below_put HB1.out k2 _, (HI0.out.exc HX1.out (fun k e => by omega)).exc ((Exc.refl (· = g2) _).set g2 82 _ rfl) (fun k e => Nat.le_of_eq e), (HO0.out.exc HX1.out (fun k e => by omega)).exc ((Exc.refl (· = g2) _).set g2 82 _ rfl) (fun k e => Nat.le_of_eq e), Fbt.exc (m := g2) ⟨HM1.out.1, fun k hk => Nat.lt_of_lt_of_le hg2 (HM1.out.2 k hk)⟩ ((Exc.refl (· = g2) _).set g2 82 _ rfl) (fun k e => Nat.le_of_eq e)⟩ ?_
  clear HP1 HX1 HR1 HZ1 HB1 HR0 HZ0 HB0 HP0 hg2 HI0 HO0 HM1 cS fS
  rintro W3 ⟨p1, p2, p3, p4, p5, p6, p7⟩
  have HR0 := Hid.mk' p1
  have HZ0 := Hid.mk' p2
  have HP0 := Hid.mk' p3
  have HB0 := Hid.mk' p4
  have HI0 := Hid.mk' p5
  have HO0 := Hid.mk' p6
  have HM0 := Hid.mk' p7
  clear p1 p2 p3 p4 p5 p6 p7
  obtain ⟨_, a', n', c', M, hrr, hn', hby, _, hle, _, hM⟩ := HP0.out
  have HEND : Hid (∀ (ok : Bool) (W : World), Exc (· = g0) W3 W → (ok = true → bd bf L qf = false ∧ n' = 0) → (ok = false → bd bf L qf = true ∨ n' ≠ 0) → ReadP L w (.returned (.tuple #[.agg (whc K { S with ram := r } (.slice a0 n0 c0) (.slice a1 n1 c1) (.slice a2 n2 c2)), .bool ok])) W) := fun ok W hx h1 h2 => by
    have e0 := HM0.out.exc hx (fun k e => by omega)
    have e1 := HI0.out.exc hx (fun k e => by omega)
    have e2 := HO0.out.exc hx (fun k e => by omega)
    refine ⟨K, _, a0, a1, a2, n0, n1, n2, c0, c1, c2, ok, rfl, ⟨e0.1, e1.1, e2.1⟩, ⟨fun k hk => by have := e0.2 k hk; omega, fun k hk => by have := e1.2 k hk; omega, fun k hk => by have := e2.2 k hk; omega⟩, ⟨HL1.out, HLE.out.1, HLE.out.2⟩, HK2.out, fun e => ?_, fun e => ?_, HB0.out.trans (hx.below HB0.out.size (fun k e => by omega))⟩
    · obtain ⟨q1, q2⟩ := h1 e
      obtain ⟨q3, q4⟩ := HY1.out q1
      have q5 := hM q1
      have q6 := bd_len q1
      have q7 : qf = L.length := by rw [q5, List.length_drop] at hn'; omega
      rw [HS2.out q3]
      exact ⟨_, rd_yes q3 q4 q7, HK1.out (rd_cpu q3)⟩
    · cases hc : bd bf L qf with
      | true => exact rd_no (HN1.out hc)
      | false =>
        have q5 := hM hc
        rcases h2 e with q | q
        · rw [hc] at q; cases q
        · exact rd_off (HY1.out hc).2 (fun e => by rw [q5, List.length_drop] at hn'; omega)
  have HI : Hid ((Try.prog.info? 37).map (·.size) = some (whc K { S with ram := r } (.slice a0 n0 c0) (.slice a1 n1 c1) (.slice a2 n2 c2)).size) := info_wh _ _ _ _ _
  have HON : Hid ((whc K { S with ram := r } (.slice a0 n0 c0) (.slice a1 n1 c1) (.slice a2 n2 c2)).all (·.oneCell') = true) := whc_ones _ _ _ _ _ _ _ _ _ _ _
  have HZ2 : Hid (whz.size = (whc K { S with ram := r } (.slice a0 n0 c0) (.slice a1 n1 c1) (.slice a2 n2 c2)).size) := whz_size _ _ _ _ _
  generalize whc K { S with ram := r } (.slice a0 n0 c0) (.slice a1 n1 c1) (.slice a2 n2 c2) = cs at *
  have HRC := Hid.mk' HR0.out
  have HRD := Hid.mk' hrr
  have hn7 : (n' : Int) ≤ 72000 := by omega
  clear hrr hn' hby hle hM HP0 HB0 HI0 HO0 HM0 HY1 HN1 HL1 HLE HS1 HS2 HK1 HK2 HR0 n12 h1g k0 k1 k2 HL
  generalize bd bf L qf = bb at *
--@END
  cases bb with
  | true =>
    have hS0 : (fun w9 : World => Row w9 g1 #[.slice a' n' c', .bool true] 120 ∧ Row w9 g2 cs 37) W3.drew := ⟨HRD.out, HRC.out⟩
    refine wp_region_held (S := fun w9 => Row w9 g1 #[.slice a' n' c', .bool true] 120 ∧ Row w9 g2 cs 37) (by kernel_rfl) ?_
    change wpAnyH _ _ _ _ _ _ _ _ W3.drew
    refine wpAnyH_takeJ 0 (some 15) (v := .agg cs) rfl (by kernel_rfl) (by kernel_rfl) (by kernel_rfl) (by kernel_rfl) (fun _ _ _ h => h) (Or.inl ⟨by rfl, fun w9 hSw => ?_⟩) hS0 ?_
    · exact ld_agg_w 37 cs hSw.2 Try.underlying37 (by rfl) HI.out
    try simp only [Act.put, List.setIfInBounds_toArray, List.set_cons_zero, List.set_cons_succ]
    refine wpAnyH_takeJ 1 (some 16) (v := .pointer (some ⟨g1, 1, none⟩)) rfl (by kernel_rfl) (by kernel_rfl) (by kernel_rfl) (by kernel_rfl) (fun _ _ _ h => h) (Or.inl ⟨by rfl, fun w9 hSw => ?_⟩) hS0 ?_
    · have q0 := hSw.1.cell 0
      have q1 := hSw.1.cell 1
      clear hSw
      go_simp
    try simp only [Act.put, List.setIfInBounds_toArray, List.set_cons_zero, List.set_cons_succ]
    refine wpAnyH_takeJ 2 (some 17) (v := .bool true) rfl (by kernel_rfl) (by kernel_rfl) (by kernel_rfl) (by kernel_rfl) (fun _ _ _ h => h) (Or.inl ⟨by rfl, fun w9 hSw => ?_⟩) hS0 ?_
    · have q0 := hSw.1.cell 0
      have q1 := hSw.1.cell 1
      clear hSw
      go_simp
    try simp only [Act.put, List.setIfInBounds_toArray, List.set_cons_zero, List.set_cons_succ]
    refine wpAnyH_takeJ 3 (some 18) (v := .bool false) rfl (by kernel_rfl) (by kernel_rfl) (by kernel_rfl) (by kernel_rfl) (fun _ _ _ h => h) (Or.inl ⟨by rfl, fun w9 hSw => ?_⟩) hS0 ?_
    · have q0 := hSw.1.cell 0
      have q1 := hSw.1.cell 1
      clear hSw
      go_simp
    try simp only [Act.put, List.setIfInBounds_toArray, List.set_cons_zero, List.set_cons_succ]
    refine wpAnyH_takeJ 4 (some 19) (v := .bool false) rfl (by kernel_rfl) (by kernel_rfl) (by kernel_rfl) (by kernel_rfl) (fun _ _ _ h => h) (Or.inl ⟨by rfl, fun w9 hSw => ?_⟩) hS0 ?_
    · have q0 := hSw.1.cell 0
      have q1 := hSw.1.cell 1
      clear hSw
      go_simp
    try simp only [Act.put, List.setIfInBounds_toArray, List.set_cons_zero, List.set_cons_succ]
    refine wpAnyH_takeJ 5 (some 20) (v := undef) rfl (by kernel_rfl) (by kernel_rfl) (by kernel_rfl) (by kernel_rfl) (fun _ _ _ h => h) (Or.inr ⟨by rfl, rfl⟩) hS0 ?_
    try simp only [Act.put, List.setIfInBounds_toArray, List.set_cons_zero, List.set_cons_succ]
    refine wpAnyH_takeJ 6 (some 21) (v := undef) rfl (by kernel_rfl) (by kernel_rfl) (by kernel_rfl) (by kernel_rfl) (fun _ _ _ h => h) (Or.inr ⟨by rfl, rfl⟩) hS0 ?_
    try simp only [Act.put, List.setIfInBounds_toArray, List.set_cons_zero, List.set_cons_succ]
    refine wpAnyH_takeJ 7 (some 22) (v := undef) rfl (by kernel_rfl) (by kernel_rfl) (by kernel_rfl) (by kernel_rfl) (fun _ _ _ h => h) (Or.inr ⟨by rfl, rfl⟩) hS0 ?_
    try simp only [Act.put, List.setIfInBounds_toArray, List.set_cons_zero, List.set_cons_succ]
    refine wpAnyH_takeJ 8 (some 23) (v := undef) rfl (by kernel_rfl) (by kernel_rfl) (by kernel_rfl) (by kernel_rfl) (fun _ _ _ h => h) (Or.inr ⟨by rfl, rfl⟩) hS0 ?_
    try simp only [Act.put, List.setIfInBounds_toArray, List.set_cons_zero, List.set_cons_succ]
    refine wpAnyH_takeJ 9 (some 24) (v := .bool false) rfl (by kernel_rfl) (by kernel_rfl) (by kernel_rfl) (by kernel_rfl) (fun _ _ _ h => h) (Or.inl ⟨by rfl, fun w9 hSw => ?_⟩) hS0 ?_
    · have q0 := hSw.1.cell 0
      have q1 := hSw.1.cell 1
      clear hSw
      go_simp
    try simp only [Act.put, List.setIfInBounds_toArray, List.set_cons_zero, List.set_cons_succ]
    have HX9 : Hid (∀ cs, Exc (· = g0) W3 (W3.drew.setRow g0 cs)) := fun cs => ⟨rfl, rfl, rfl, (by rw [size_row]; exact Nat.le_refl _), fun k hk hn => setRow_other _ _ _ _ hn⟩
    have HEE := Hid.mk' (HEND.out false _ (HX9.out cs) (fun e => by cases e) (fun _ => .inl rfl))
    have HRR : Hid (Row (W3.drew.setRow g0 cs) g0 cs 37) := setRow_heap _ _ _ _ _ _ HZ0.out
    have hS5 : (fun w9 : World => Row w9 g1 #[.slice a' n' c', .bool true] 120 ∧ Row w9 g2 cs 37) (W3.drew.setRow g0 cs) := ⟨(setRow_other _ _ _ _ (Ne.symm n01)).trans HRD.out, (setRow_other _ _ _ _ (Ne.symm n02)).trans HRC.out⟩
    refine wpAnyH_store_rowJ 10 37 (.tmp 2) (.tmp 15) (by kernel_rfl) (by kernel_rfl) g0 whz cs (by rfl) (by rfl) HZ0.out HI.out HZ2.out HON.out hS5 ?_
    try simp only [Act.put, List.setIfInBounds_toArray, List.set_cons_zero, List.set_cons_succ]
    refine wpAnyH_takeJ 11 (some 3) (v := .bool false) rfl (by kernel_rfl) (by kernel_rfl) (by kernel_rfl) (by kernel_rfl) (fun _ _ _ h => h) (Or.inl ⟨by rfl, fun w9 hSw => by clear hSw; go_simp⟩) hS5 ?_
    try simp only [Act.put, List.setIfInBounds_toArray, List.set_cons_zero, List.set_cons_succ]
    refine wpAnyH_done (by kernel_rfl) ?_ _
    clear hS0 hS5 HX9 HEND
    go_wp2
    refine bodyPost_ret (v := .tuple #[.agg cs, .bool false]) (results_row_slot Try.results36 _ _ g0 37 _ (0, 0) _ _ (by rfl) (by rfl) HRR.out Try.underlying37 (by rfl) HI.out) rfl ?_
    exact HEE.out
  | false =>
    rcases Nat.eq_zero_or_pos n' with hz | hp
    · subst hz
      have hS0 : (fun w9 : World => Row w9 g1 #[.slice a' 0 c', .bool false] 120 ∧ Row w9 g2 cs 37) W3.drew := ⟨HRD.out, HRC.out⟩
      refine wp_region_held (S := fun w9 => Row w9 g1 #[.slice a' 0 c', .bool false] 120 ∧ Row w9 g2 cs 37) (by kernel_rfl) ?_
      change wpAnyH _ _ _ _ _ _ _ _ W3.drew
      refine wpAnyH_takeJ 0 (some 15) (v := .agg cs) rfl (by kernel_rfl) (by kernel_rfl) (by kernel_rfl) (by kernel_rfl) (fun _ _ _ h => h) (Or.inl ⟨by rfl, fun w9 hSw => ?_⟩) hS0 ?_
      · exact ld_agg_w 37 cs hSw.2 Try.underlying37 (by rfl) HI.out
      try simp only [Act.put, List.setIfInBounds_toArray, List.set_cons_zero, List.set_cons_succ]
      refine wpAnyH_takeJ 1 (some 16) (v := .pointer (some ⟨g1, 1, none⟩)) rfl (by kernel_rfl) (by kernel_rfl) (by kernel_rfl) (by kernel_rfl) (fun _ _ _ h => h) (Or.inl ⟨by rfl, fun w9 hSw => ?_⟩) hS0 ?_
      · have q0 := hSw.1.cell 0
        have q1 := hSw.1.cell 1
        clear hSw
        go_simp
      try simp only [Act.put, List.setIfInBounds_toArray, List.set_cons_zero, List.set_cons_succ]
      refine wpAnyH_takeJ 2 (some 17) (v := .bool false) rfl (by kernel_rfl) (by kernel_rfl) (by kernel_rfl) (by kernel_rfl) (fun _ _ _ h => h) (Or.inl ⟨by rfl, fun w9 hSw => ?_⟩) hS0 ?_
      · have q0 := hSw.1.cell 0
        have q1 := hSw.1.cell 1
        clear hSw
        go_simp
      try simp only [Act.put, List.setIfInBounds_toArray, List.set_cons_zero, List.set_cons_succ]
      refine wpAnyH_takeJ 3 (some 18) (v := .bool true) rfl (by kernel_rfl) (by kernel_rfl) (by kernel_rfl) (by kernel_rfl) (fun _ _ _ h => h) (Or.inl ⟨by rfl, fun w9 hSw => ?_⟩) hS0 ?_
      · have q0 := hSw.1.cell 0
        have q1 := hSw.1.cell 1
        clear hSw
        go_simp
      try simp only [Act.put, List.setIfInBounds_toArray, List.set_cons_zero, List.set_cons_succ]
      refine wpAnyH_takeJ 4 (some 19) (v := .bool true) rfl (by kernel_rfl) (by kernel_rfl) (by kernel_rfl) (by kernel_rfl) (fun _ _ _ h => h) (Or.inl ⟨by rfl, fun w9 hSw => ?_⟩) hS0 ?_
      · have q0 := hSw.1.cell 0
        have q1 := hSw.1.cell 1
        clear hSw
        go_simp
      try simp only [Act.put, List.setIfInBounds_toArray, List.set_cons_zero, List.set_cons_succ]
      refine wpAnyH_takeJ 5 (some 20) (v := .pointer (some ⟨g1, 0, none⟩)) rfl (by kernel_rfl) (by kernel_rfl) (by kernel_rfl) (by kernel_rfl) (fun _ _ _ h => h) (Or.inl ⟨by rfl, fun w9 hSw => ?_⟩) hS0 ?_
      · have q0 := hSw.1.cell 0
        have q1 := hSw.1.cell 1
        clear hSw
        go_simp
      try simp only [Act.put, List.setIfInBounds_toArray, List.set_cons_zero, List.set_cons_succ]
      refine wpAnyH_takeJ 6 (some 21) (v := .slice a' 0 c') rfl (by kernel_rfl) (by kernel_rfl) (by kernel_rfl) (by kernel_rfl) (fun _ _ _ h => h) (Or.inl ⟨by rfl, fun w9 hSw => ?_⟩) hS0 ?_
      · have q0 := hSw.1.cell 0
        have q1 := hSw.1.cell 1
        clear hSw
        go_simp
      try simp only [Act.put, List.setIfInBounds_toArray, List.set_cons_zero, List.set_cons_succ]
      refine wpAnyH_takeJ 7 (some 22) (v := .int .i64 ((0 : Nat) : Int)) rfl (by kernel_rfl) (by kernel_rfl) (by kernel_rfl) (by kernel_rfl) (fun _ _ _ h => h) (Or.inl ⟨by rfl, fun w9 hSw => ?_⟩) hS0 ?_
      · have q0 := hSw.1.cell 0
        have q1 := hSw.1.cell 1
        clear hSw
        go_simp
      try simp only [Act.put, List.setIfInBounds_toArray, List.set_cons_zero, List.set_cons_succ]
      refine wpAnyH_takeJ 8 (some 23) (v := .bool true) rfl (by kernel_rfl) (by kernel_rfl) (by kernel_rfl) (by kernel_rfl) (fun _ _ _ h => h) (Or.inl ⟨by rfl, fun w9 hSw => ?_⟩) hS0 ?_
      · have q0 := hSw.1.cell 0
        have q1 := hSw.1.cell 1
        clear hSw
        go_simp
      try simp only [Act.put, List.setIfInBounds_toArray, List.set_cons_zero, List.set_cons_succ]
      refine wpAnyH_takeJ 9 (some 24) (v := .bool true) rfl (by kernel_rfl) (by kernel_rfl) (by kernel_rfl) (by kernel_rfl) (fun _ _ _ h => h) (Or.inl ⟨by rfl, fun w9 hSw => ?_⟩) hS0 ?_
      · have q0 := hSw.1.cell 0
        have q1 := hSw.1.cell 1
        clear hSw
        go_simp
      try simp only [Act.put, List.setIfInBounds_toArray, List.set_cons_zero, List.set_cons_succ]
      have HX9 : Hid (∀ cs, Exc (· = g0) W3 (W3.drew.setRow g0 cs)) := fun cs => ⟨rfl, rfl, rfl, (by rw [size_row]; exact Nat.le_refl _), fun k hk hn => setRow_other _ _ _ _ hn⟩
      have HEE := Hid.mk' (HEND.out true _ (HX9.out cs) (fun _ => ⟨rfl, rfl⟩) (fun e => by cases e))
      have HRR : Hid (Row (W3.drew.setRow g0 cs) g0 cs 37) := setRow_heap _ _ _ _ _ _ HZ0.out
      have hS5 : (fun w9 : World => Row w9 g1 #[.slice a' 0 c', .bool false] 120 ∧ Row w9 g2 cs 37) (W3.drew.setRow g0 cs) := ⟨(setRow_other _ _ _ _ (Ne.symm n01)).trans HRD.out, (setRow_other _ _ _ _ (Ne.symm n02)).trans HRC.out⟩
      refine wpAnyH_store_rowJ 10 37 (.tmp 2) (.tmp 15) (by kernel_rfl) (by kernel_rfl) g0 whz cs (by rfl) (by rfl) HZ0.out HI.out HZ2.out HON.out hS5 ?_
      try simp only [Act.put, List.setIfInBounds_toArray, List.set_cons_zero, List.set_cons_succ]
      refine wpAnyH_takeJ 11 (some 3) (v := .bool true) rfl (by kernel_rfl) (by kernel_rfl) (by kernel_rfl) (by kernel_rfl) (fun _ _ _ h => h) (Or.inl ⟨by rfl, fun w9 hSw => by clear hSw; go_simp⟩) hS5 ?_
      try simp only [Act.put, List.setIfInBounds_toArray, List.set_cons_zero, List.set_cons_succ]
      refine wpAnyH_done (by kernel_rfl) ?_ _
      clear hS0 hS5 HX9 HEND
      go_wp2
      refine bodyPost_ret (v := .tuple #[.agg cs, .bool true]) (results_row_slot Try.results36 _ _ g0 37 _ (0, 0) _ _ (by rfl) (by rfl) HRR.out Try.underlying37 (by rfl) HI.out) rfl ?_
      exact HEE.out
    · have h64 : ((n' : Int) == 0) = false := by simp; omega
      have HNP : Hid (n' ≠ 0) := (by unfold Hid; omega)
      clear hp
      have hS0 : (fun w9 : World => Row w9 g1 #[.slice a' n' c', .bool false] 120 ∧ Row w9 g2 cs 37) W3.drew := ⟨HRD.out, HRC.out⟩
      refine wp_region_held (S := fun w9 => Row w9 g1 #[.slice a' n' c', .bool false] 120 ∧ Row w9 g2 cs 37) (by kernel_rfl) ?_
      change wpAnyH _ _ _ _ _ _ _ _ W3.drew
      refine wpAnyH_takeJ 0 (some 15) (v := .agg cs) rfl (by kernel_rfl) (by kernel_rfl) (by kernel_rfl) (by kernel_rfl) (fun _ _ _ h => h) (Or.inl ⟨by rfl, fun w9 hSw => ?_⟩) hS0 ?_
      · exact ld_agg_w 37 cs hSw.2 Try.underlying37 (by rfl) HI.out
      try simp only [Act.put, List.setIfInBounds_toArray, List.set_cons_zero, List.set_cons_succ]
      refine wpAnyH_takeJ 1 (some 16) (v := .pointer (some ⟨g1, 1, none⟩)) rfl (by kernel_rfl) (by kernel_rfl) (by kernel_rfl) (by kernel_rfl) (fun _ _ _ h => h) (Or.inl ⟨by rfl, fun w9 hSw => ?_⟩) hS0 ?_
      · have q0 := hSw.1.cell 0
        have q1 := hSw.1.cell 1
        clear hSw
        go_simp
      try simp only [Act.put, List.setIfInBounds_toArray, List.set_cons_zero, List.set_cons_succ]
      refine wpAnyH_takeJ 2 (some 17) (v := .bool false) rfl (by kernel_rfl) (by kernel_rfl) (by kernel_rfl) (by kernel_rfl) (fun _ _ _ h => h) (Or.inl ⟨by rfl, fun w9 hSw => ?_⟩) hS0 ?_
      · have q0 := hSw.1.cell 0
        have q1 := hSw.1.cell 1
        clear hSw
        go_simp
      try simp only [Act.put, List.setIfInBounds_toArray, List.set_cons_zero, List.set_cons_succ]
      refine wpAnyH_takeJ 3 (some 18) (v := .bool true) rfl (by kernel_rfl) (by kernel_rfl) (by kernel_rfl) (by kernel_rfl) (fun _ _ _ h => h) (Or.inl ⟨by rfl, fun w9 hSw => ?_⟩) hS0 ?_
      · have q0 := hSw.1.cell 0
        have q1 := hSw.1.cell 1
        clear hSw
        go_simp
      try simp only [Act.put, List.setIfInBounds_toArray, List.set_cons_zero, List.set_cons_succ]
      refine wpAnyH_takeJ 4 (some 19) (v := .bool true) rfl (by kernel_rfl) (by kernel_rfl) (by kernel_rfl) (by kernel_rfl) (fun _ _ _ h => h) (Or.inl ⟨by rfl, fun w9 hSw => ?_⟩) hS0 ?_
      · have q0 := hSw.1.cell 0
        have q1 := hSw.1.cell 1
        clear hSw
        go_simp
      try simp only [Act.put, List.setIfInBounds_toArray, List.set_cons_zero, List.set_cons_succ]
      refine wpAnyH_takeJ 5 (some 20) (v := .pointer (some ⟨g1, 0, none⟩)) rfl (by kernel_rfl) (by kernel_rfl) (by kernel_rfl) (by kernel_rfl) (fun _ _ _ h => h) (Or.inl ⟨by rfl, fun w9 hSw => ?_⟩) hS0 ?_
      · have q0 := hSw.1.cell 0
        have q1 := hSw.1.cell 1
        clear hSw
        go_simp
      try simp only [Act.put, List.setIfInBounds_toArray, List.set_cons_zero, List.set_cons_succ]
      refine wpAnyH_takeJ 6 (some 21) (v := .slice a' n' c') rfl (by kernel_rfl) (by kernel_rfl) (by kernel_rfl) (by kernel_rfl) (fun _ _ _ h => h) (Or.inl ⟨by rfl, fun w9 hSw => ?_⟩) hS0 ?_
      · have q0 := hSw.1.cell 0
        have q1 := hSw.1.cell 1
        clear hSw
        go_simp
      try simp only [Act.put, List.setIfInBounds_toArray, List.set_cons_zero, List.set_cons_succ]
      refine wpAnyH_takeJ 7 (some 22) (v := .int .i64 ((n' : Nat) : Int)) rfl (by kernel_rfl) (by kernel_rfl) (by kernel_rfl) (by kernel_rfl) (fun _ _ _ h => h) (Or.inl ⟨by rfl, fun w9 hSw => ?_⟩) hS0 ?_
      · have q0 := hSw.1.cell 0
        have q1 := hSw.1.cell 1
        clear hSw
        go_simp
      try simp only [Act.put, List.setIfInBounds_toArray, List.set_cons_zero, List.set_cons_succ]
      refine wpAnyH_takeJ 8 (some 23) (v := .bool false) rfl (by kernel_rfl) (by kernel_rfl) (by kernel_rfl) (by kernel_rfl) (fun _ _ _ h => h) (Or.inl ⟨by rfl, fun w9 hSw => ?_⟩) hS0 ?_
      · have q0 := hSw.1.cell 0
        have q1 := hSw.1.cell 1
        clear hSw
        go_simp
      try simp only [Act.put, List.setIfInBounds_toArray, List.set_cons_zero, List.set_cons_succ]
      refine wpAnyH_takeJ 9 (some 24) (v := .bool false) rfl (by kernel_rfl) (by kernel_rfl) (by kernel_rfl) (by kernel_rfl) (fun _ _ _ h => h) (Or.inl ⟨by rfl, fun w9 hSw => ?_⟩) hS0 ?_
      · have q0 := hSw.1.cell 0
        have q1 := hSw.1.cell 1
        clear hSw
        go_simp
      try simp only [Act.put, List.setIfInBounds_toArray, List.set_cons_zero, List.set_cons_succ]
      have HX9 : Hid (∀ cs, Exc (· = g0) W3 (W3.drew.setRow g0 cs)) := fun cs => ⟨rfl, rfl, rfl, (by rw [size_row]; exact Nat.le_refl _), fun k hk hn => setRow_other _ _ _ _ hn⟩
      have HEE := Hid.mk' (HEND.out false _ (HX9.out cs) (fun e => by cases e) (fun _ => .inr HNP.out))
      have HRR : Hid (Row (W3.drew.setRow g0 cs) g0 cs 37) := setRow_heap _ _ _ _ _ _ HZ0.out
      have hS5 : (fun w9 : World => Row w9 g1 #[.slice a' n' c', .bool false] 120 ∧ Row w9 g2 cs 37) (W3.drew.setRow g0 cs) := ⟨(setRow_other _ _ _ _ (Ne.symm n01)).trans HRD.out, (setRow_other _ _ _ _ (Ne.symm n02)).trans HRC.out⟩
      refine wpAnyH_store_rowJ 10 37 (.tmp 2) (.tmp 15) (by kernel_rfl) (by kernel_rfl) g0 whz cs (by rfl) (by rfl) HZ0.out HI.out HZ2.out HON.out hS5 ?_
      try simp only [Act.put, List.setIfInBounds_toArray, List.set_cons_zero, List.set_cons_succ]
      refine wpAnyH_takeJ 11 (some 3) (v := .bool false) rfl (by kernel_rfl) (by kernel_rfl) (by kernel_rfl) (by kernel_rfl) (fun _ _ _ h => h) (Or.inl ⟨by rfl, fun w9 hSw => by clear hSw; go_simp⟩) hS5 ?_
      try simp only [Act.put, List.setIfInBounds_toArray, List.set_cons_zero, List.set_cons_succ]
      refine wpAnyH_done (by kernel_rfl) ?_ _
      clear hS0 hS5 HX9 HEND
      go_wp2
      refine bodyPost_ret (v := .tuple #[.agg cs, .bool false]) (results_row_slot Try.results36 _ _ g0 37 _ (0, 0) _ _ (by rfl) (by rfl) HRR.out Try.underlying37 (by rfl) HI.out) rfl ?_
      exact HEE.out
end Go.Proofs.Ytgblpjkpeihpeaa
