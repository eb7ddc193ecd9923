/-
  begin: both buses of one state.
-/
import Derived.Test.YtghiabdkgfhdbaaBnw
namespace Go.Proofs.Ytghiabdkgfhdbaa
set_option linter.unusedVariables false
open Go.ChangeShapes Go.WideShapes Go.ChangeAt Go.RowKit Go.Deep
theorem Bs.forms {S : St} {vr vi vo : Value} {w : World} (h : Bs S vr vi vo w) : ∃ x1 z1 x2 z2 x3 z3, vr = .slice x1 S.ram.length z1 ∧ vi = .slice x2 S.inp.length z2 ∧ vo = .slice x3 S.out.length z3 := by
  obtain ⟨x1, z1, e1, _⟩ := h.r
  obtain ⟨x2, z2, e2, _⟩ := h.i
  obtain ⟨x3, z3, e3, _⟩ := h.o
  exact ⟨x1, z1, x2, z2, x3, z3, e1, e2, e3⟩
/-- A row that lies in a world, in later ones too. -/
def Lies (g : Nat) (C : Array Value) (T : TypeId) (w : World) : Prop := w.heap[g]? = some (.cells C T (0, 0))
theorem Lies.later {g : Nat} {C : Array Value} {T : TypeId} {w w' : World} (h : Lies g C T w) (hb : Below w.heap.size w w') : Lies g C T w' := by
  unfold Lies at *; rw [hb.block g (Array.getElem?_eq_some_iff.1 h).1]; exact h
theorem Lies.cell {g : Nat} {C : Array Value} {T : TypeId} {w : World} (h : Lies g C T w) (j : Nat) : w.cell? ⟨g, j, none⟩ = C[j]? := cell_of_row w g j _ _ _ h
theorem Lies.new (w : World) (C : Array Value) (T : TypeId) : Lies w.heap.size C T (w.alloc (.cells C T)) := alloc_at w _
theorem below_al (w : World) (o : Obj) : Below w.heap.size w (w.alloc o) := (Below.refl _ _).alloc (Nat.le_refl _) o
theorem Lies.new1 (w : World) (o : Obj) (C : Array Value) (T : TypeId) : Lies (w.heap.size + 1) C T ((w.alloc o).alloc (.cells C T)) := by
  have h := alloc_at (w.alloc o) (.cells C T)
  rw [show (w.alloc o).heap.size = w.heap.size + 1 by simp] at h
  exact h
theorem pairSize : (Try.prog.info? 58).map (·.size) = some 2 := by kernel_rfl
theorem pairOne (a b : Option Addr) : (#[Value.pointer a, Value.pointer b] : Array Value).all (·.oneCell') = true := by simp [Value.oneCell']
theorem res_pair {fn : Func} {p t u : Tmp} {ty : TypeId} (h : fn.results = #[.cell p ty, .tmp t, .tmp u]) (tmps : Array Value) (w : World) (g : Nat) (cs : Array Value) (hp : tmps.getD p undef = .pointer (some ⟨g, 0, none⟩)) (hl : (loadVar ty ⟨g, 0, none⟩).run Try.prog w = .ok (.agg cs) w) :
    (results fn tmps).run Try.prog w = .ok (.tuple #[.agg cs, tmps.getD t undef, tmps.getD u undef]) w := by
  have hp' : tmps[p]?.getD undef = .pointer (some ⟨g, 0, none⟩) := by simpa using hp
  simp [results, h, hp', asAddr, hl]
theorem PB.exg {B : Nat} {L : Lay} {S : St} {w w' : World} {G : Nat → Prop} (h : PB B L S w) (hb : Exc G w w') (hG : ∀ k, G k → k < B) : PB B L S w' := by
  have k : ∀ {g : Nat} {o : Obj}, B ≤ g → w.heap[g]? = some o → w'.heap[g]? = some o := fun {g o} hB hg => by rw [hb.block g (Array.getElem?_eq_some_iff.1 hg).1 (fun e => by have := hG g e; omega)]; exact hg
  have ko : ∀ {v : Value} {n : Nat} {xs : List Value}, w.ownsRow B 5 1 v n xs → w'.ownsRow B 5 1 v n xs := fun {v n xs} ho => own_exc ho hb (fun g hg e => by have := hG g e; have := (ho.lt g hg).1; omega)
  exact ⟨k h.lb h.hb, k h.lm h.hm, k h.lp h.hp, k h.ls h.hs, k h.lc h.hc, k h.lk h.hk, k h.lu h.hu, k h.lq h.hq, ko h.wr, ko h.wi, ko h.wo, h.ri, h.ro, h.io, h.lb, h.lm, h.lp, h.ls, h.lc, h.lk, h.lu, h.lq⟩
theorem RB.exg {B c : Nat} {S : St} {vr vi vo : Value} {w w' : World} {G : Nat → Prop} (h : RB B c S vr vi vo w) (hb : Exc G w w') (hG : ∀ k, G k → k < B) : RB B c S vr vi vo w' := by
  have ko : ∀ {v : Value} {n : Nat} {xs : List Value}, w.ownsRow B 5 1 v n xs → w'.ownsRow B 5 1 v n xs := fun {v n xs} ho => own_exc ho hb (fun g hg e => by have := hG g e; have := (ho.lt g hg).1; omega)
  refine ⟨?_, ⟨ko h.s.r, ko h.s.i, ko h.s.o, h.s.ri, h.s.ro, h.s.io⟩, h.l⟩
  rw [hb.block c (Array.getElem?_eq_some_iff.1 h.h).1 (fun e => by have := hG c e; have := h.l; omega)]; exact h.h
/-- All blocks of a bus lie ahead of M. -/
structure Lay.Lt (L : Lay) (M : Nat) : Prop where
  b : L.b < M
  m : L.m < M
  pw : L.pw < M
  sw : L.sw < M
  cm : L.cm < M
  ck : L.ck < M
  u : L.u < M
  q : L.q < M
  vr : ∀ g, L.vr.ownBlock = some g → g < M
  vi : ∀ g, L.vi.ownBlock = some g → g < M
  vo : ∀ g, L.vo.ownBlock = some g → g < M
theorem PB.lt {B : Nat} {L : Lay} {S : St} {w : World} (h : PB B L S w) : L.Lt w.heap.size :=
  ⟨(Array.getElem?_eq_some_iff.1 h.hb).1, (Array.getElem?_eq_some_iff.1 h.hm).1, (Array.getElem?_eq_some_iff.1 h.hp).1, (Array.getElem?_eq_some_iff.1 h.hs).1, (Array.getElem?_eq_some_iff.1 h.hc).1, (Array.getElem?_eq_some_iff.1 h.hk).1, (Array.getElem?_eq_some_iff.1 h.hu).1, (Array.getElem?_eq_some_iff.1 h.hq).1, fun g hg => (h.wr.lt g hg).2, fun g hg => (h.wi.lt g hg).2, fun g hg => (h.wo.lt g hg).2⟩
/-- Both buses of one state: the program's in blocks from B up to M, the reference's behind. -/
structure Two (B M : Nat) (L : Lay) (c : Nat) (S : St) (vr vi vo : Value) (w : World) : Prop where
  p : PB B L S w
  lt : L.Lt M
  r : RB M c S vr vi vo w
  le : B ≤ M
set_option maxRecDepth 100000 in
set_option maxHeartbeats 4000000 in
theorem begin_c (S : St) (ar ai ao : Option Addr) (cr ci co : Nat) (w : World) (hok : S.ok = true) (hs : Bs S (.slice ar S.ram.length cr) (.slice ai S.inp.length ci) (.slice ao S.out.length co) w)
    (lr : S.ram.length ≤ 140737488355328) (li : S.inp.length ≤ 140737488355328) (lo : S.out.length ≤ 140737488355328) :
    Calls Try.prog 25 #[.agg (stc S (.slice ar S.ram.length cr) (.slice ai S.inp.length ci) (.slice ao S.out.length co))] w fun e w' => ∃ L c ur ui uo M, e = .returned (.tuple #[.agg #[.pointer (some ⟨L.b, 0, none⟩), .pointer (some ⟨c, 0, none⟩)], .bool true, .bool true]) ∧ Two w.heap.size M L c S ur ui uo w' ∧ Below w.heap.size w w' := by
  have HS : Hid (∀ w', Below w.heap.size w w' → Bs S (.slice ar S.ram.length cr) (.slice ai S.inp.length ci) (.slice ao S.out.length co) w') := fun w' h => hs.later h
  have HCP : Hid (∀ w1, Below w.heap.size w w1 → Calls Try.prog 21 #[.agg (stc S (.slice ar S.ram.length cr) (.slice ai S.inp.length ci) (.slice ao S.out.length co))] w1 fun e w' => ∃ ur ui uo, e = .returned (.agg (stc S ur ui uo)) ∧ Sv w1.heap.size S ur ui uo w' ∧ Below w1.heap.size w1 w') :=
    fun w1 h => copied_c S ar ai ao cr ci co w1 (hs.later h).r (hs.later h).i (hs.later h).o lr li lo
  have HFR : Hid (∀ w1 x1 z1 x2 z2 x3 z3, Bs S (.slice x1 S.ram.length z1) (.slice x2 S.inp.length z2) (.slice x3 S.out.length z3) w1 → Calls Try.prog 26 #[.agg (stc S (.slice x1 S.ram.length z1) (.slice x2 S.inp.length z2) (.slice x3 S.out.length z3))] w1 fun e w' => ∃ L, e = .returned (.tuple #[.pointer (some ⟨Lay.b L, 0, none⟩), .int .i64 0]) ∧ PB w1.heap.size L S w' ∧ Below w1.heap.size w1 w') :=
    fun w1 x1 z1 x2 z2 x3 z3 h => from_c S x1 x2 x3 z1 z2 z3 w1 hok h.r h.i h.o lr li lo
  have HRF : Hid (∀ w1, Below w.heap.size w w1 → Calls Try.prog 49 #[.agg (stc S (.slice ar S.ram.length cr) (.slice ai S.inp.length ci) (.slice ao S.out.length co))] w1 fun e w' => ∃ c ur ui uo, e = .returned (.tuple #[.pointer (some ⟨c, 0, none⟩), .int .i64 0]) ∧ RB w1.heap.size c S ur ui uo w' ∧ Below w1.heap.size w1 w') :=
    fun w1 h => rfrom_c S ar ai ao cr ci co w1 hok (hs.later h) lr li lo
  have HSM : Hid (∀ a1 b1 a2 b2 a3 b3 a4 b4 a5 b5 a6 b6 w1, Bs S (.slice a1 S.ram.length b1) (.slice a2 S.inp.length b2) (.slice a3 S.out.length b3) w1 → Bs S (.slice a4 S.ram.length b4) (.slice a5 S.inp.length b5) (.slice a6 S.out.length b6) w1 → Calls Try.prog 14 #[.agg (stc S (.slice a1 S.ram.length b1) (.slice a2 S.inp.length b2) (.slice a3 S.out.length b3)), .agg (stc S (.slice a4 S.ram.length b4) (.slice a5 S.inp.length b5) (.slice a6 S.out.length b6))] w1 fun e w' => e = .returned (.bool true) ∧ Below w1.heap.size w1 w') :=
    fun _ _ _ _ _ _ _ _ _ _ _ _ w1 h1 h2 => same_c S _ _ _ _ _ _ w1 h1 h2
  clear hs lr li lo hok
  unfold stc at HCP HFR HRF HSM ⊢
  go_enter Try.func25, Try.ntmps25
  go_wp2_with (first | (go_at_call 21; refine (HCP.out _ ((below_al w _).trans ((below_al _ _).mono (by simp)))).mono ?_; rintro e w1 ⟨vr, vi, vo, rfl, hsv, hb1⟩; have hb1' := ((below_al w _).trans ((below_al _ _).mono (by simp))).trans (hb1.mono (by simp; omega)); obtain ⟨x1, z1, x2, z2, x3, z3, rfl, rfl, rfl⟩ := hsv.bs.forms; have HSV : Hid _ := hsv; have HB1 : Hid (Below w.heap.size w w1) := hb1'; have HP1 : Hid _ := ((Lies.new w _ _).later (below_al _ _)).later hb1; have HR1 : Hid _ := (Lies.new1 w _ _ _).later hb1; clear hsv hb1 hb1') | (go_at_call 26; refine (HFR.out _ _ _ _ _ _ _ (HSV.out.bs.later (below_al _ _))).mono ?_; rintro e w2 ⟨L, rfl, hpb, hb2⟩; have HPB : Hid _ := hpb; have HSV2 : Hid _ := (HSV.out.bs.later (below_al _ _)).later hb2; have HB2 : Hid (Below w.heap.size w w2) := (HB1.out.trans ((below_al w1 _).mono HB1.out.size)).trans (hb2.mono (by simp; exact Nat.le_succ_of_le HB1.out.size)); have HP2 : Hid _ := (Lies.later HP1.out (below_al _ _)).later hb2; have HR2 : Hid _ := (Lies.later HR1.out (below_al _ _)).later hb2; have HT2 : Hid _ := (Lies.new w1 _ _).later hb2; have p0 : w2.cell? ⟨w.heap.size, 0, none⟩ = some (.slice ar S.ram.length cr) := Lies.cell HP2.out 0; have p1 : w2.cell? ⟨w.heap.size, 1, none⟩ = some (.int .u32 S.msip) := Lies.cell HP2.out 1; have p2 : w2.cell? ⟨w.heap.size, 2, none⟩ = some (.int .u64 S.cmp) := Lies.cell HP2.out 2; have p3 : w2.cell? ⟨w.heap.size, 3, none⟩ = some (.int .u64 S.time) := Lies.cell HP2.out 3; have p4 : w2.cell? ⟨w.heap.size, 4, none⟩ = some (.bool S.ext) := Lies.cell HP2.out 4; have p5 : w2.cell? ⟨w.heap.size, 5, none⟩ = some (.bool S.soft) := Lies.cell HP2.out 5; have p6 : w2.cell? ⟨w.heap.size, 6, none⟩ = some (.int .u8 S.ier) := Lies.cell HP2.out 6; have p7 : w2.cell? ⟨w.heap.size, 7, none⟩ = some (.int .u8 S.lcr) := Lies.cell HP2.out 7; have p8 : w2.cell? ⟨w.heap.size, 8, none⟩ = some (.int .u8 S.mcr) := Lies.cell HP2.out 8; have p9 : w2.cell? ⟨w.heap.size, 9, none⟩ = some (.int .u8 S.scr) := Lies.cell HP2.out 9; have p10 : w2.cell? ⟨w.heap.size, 10, none⟩ = some (.bool S.ov) := Lies.cell HP2.out 10; have p11 : w2.cell? ⟨w.heap.size, 11, none⟩ = some (.slice ai S.inp.length ci) := Lies.cell HP2.out 11; have p12 : w2.cell? ⟨w.heap.size, 12, none⟩ = some (.slice ao S.out.length co) := Lies.cell HP2.out 12; have p13 : w2.cell? ⟨w.heap.size, 13, none⟩ = some (.int .i64 S.off) := Lies.cell HP2.out 13; have p14 : w2.cell? ⟨w.heap.size, 14, none⟩ = some (.int .i64 S.code) := Lies.cell HP2.out 14; clear hpb hb2) | (go_at_call 49; refine (HRF.out _ HB2.out).mono ?_; rintro e w3 ⟨c, ur, ui, uo, rfl, hrb, hb3⟩; have HRB : Hid _ := hrb; have HB23 : Hid _ := hb3; have HSV3 : Hid _ := HSV2.out.later hb3; have HB3 : Hid (Below w.heap.size w w3) := HB2.out.trans (hb3.mono HB2.out.size); have HP3 : Hid _ := Lies.later HP2.out hb3; have HR3 : Hid _ := Lies.later HR2.out hb3; have HT3 : Hid _ := Lies.later HT2.out hb3; have s0 : w3.cell? ⟨w.heap.size, 0, none⟩ = some (.slice ar S.ram.length cr) := Lies.cell HP3.out 0; have s1 : w3.cell? ⟨w.heap.size, 1, none⟩ = some (.int .u32 S.msip) := Lies.cell HP3.out 1; have s2 : w3.cell? ⟨w.heap.size, 2, none⟩ = some (.int .u64 S.cmp) := Lies.cell HP3.out 2; have s3 : w3.cell? ⟨w.heap.size, 3, none⟩ = some (.int .u64 S.time) := Lies.cell HP3.out 3; have s4 : w3.cell? ⟨w.heap.size, 4, none⟩ = some (.bool S.ext) := Lies.cell HP3.out 4; have s5 : w3.cell? ⟨w.heap.size, 5, none⟩ = some (.bool S.soft) := Lies.cell HP3.out 5; have s6 : w3.cell? ⟨w.heap.size, 6, none⟩ = some (.int .u8 S.ier) := Lies.cell HP3.out 6; have s7 : w3.cell? ⟨w.heap.size, 7, none⟩ = some (.int .u8 S.lcr) := Lies.cell HP3.out 7; have s8 : w3.cell? ⟨w.heap.size, 8, none⟩ = some (.int .u8 S.mcr) := Lies.cell HP3.out 8; have s9 : w3.cell? ⟨w.heap.size, 9, none⟩ = some (.int .u8 S.scr) := Lies.cell HP3.out 9; have s10 : w3.cell? ⟨w.heap.size, 10, none⟩ = some (.bool S.ov) := Lies.cell HP3.out 10; have s11 : w3.cell? ⟨w.heap.size, 11, none⟩ = some (.slice ai S.inp.length ci) := Lies.cell HP3.out 11; have s12 : w3.cell? ⟨w.heap.size, 12, none⟩ = some (.slice ao S.out.length co) := Lies.cell HP3.out 12; have s13 : w3.cell? ⟨w.heap.size, 13, none⟩ = some (.int .i64 S.off) := Lies.cell HP3.out 13; have s14 : w3.cell? ⟨w.heap.size, 14, none⟩ = some (.int .i64 S.code) := Lies.cell HP3.out 14; have t0 : w3.cell? ⟨w1.heap.size, 0, none⟩ = some (.slice x1 S.ram.length z1) := Lies.cell HT3.out 0; have t1 : w3.cell? ⟨w1.heap.size, 1, none⟩ = some (.int .u32 S.msip) := Lies.cell HT3.out 1; have t2 : w3.cell? ⟨w1.heap.size, 2, none⟩ = some (.int .u64 S.cmp) := Lies.cell HT3.out 2; have t3 : w3.cell? ⟨w1.heap.size, 3, none⟩ = some (.int .u64 S.time) := Lies.cell HT3.out 3; have t4 : w3.cell? ⟨w1.heap.size, 4, none⟩ = some (.bool S.ext) := Lies.cell HT3.out 4; have t5 : w3.cell? ⟨w1.heap.size, 5, none⟩ = some (.bool S.soft) := Lies.cell HT3.out 5; have t6 : w3.cell? ⟨w1.heap.size, 6, none⟩ = some (.int .u8 S.ier) := Lies.cell HT3.out 6; have t7 : w3.cell? ⟨w1.heap.size, 7, none⟩ = some (.int .u8 S.lcr) := Lies.cell HT3.out 7; have t8 : w3.cell? ⟨w1.heap.size, 8, none⟩ = some (.int .u8 S.mcr) := Lies.cell HT3.out 8; have t9 : w3.cell? ⟨w1.heap.size, 9, none⟩ = some (.int .u8 S.scr) := Lies.cell HT3.out 9; have t10 : w3.cell? ⟨w1.heap.size, 10, none⟩ = some (.bool S.ov) := Lies.cell HT3.out 10; have t11 : w3.cell? ⟨w1.heap.size, 11, none⟩ = some (.slice x2 S.inp.length z2) := Lies.cell HT3.out 11; have t12 : w3.cell? ⟨w1.heap.size, 12, none⟩ = some (.slice x3 S.out.length z3) := Lies.cell HT3.out 12; have t13 : w3.cell? ⟨w1.heap.size, 13, none⟩ = some (.int .i64 S.off) := Lies.cell HT3.out 13; have t14 : w3.cell? ⟨w1.heap.size, 14, none⟩ = some (.int .i64 S.code) := Lies.cell HT3.out 14; clear hrb hb3) | (go_at_call 14; refine (HSM.out _ _ _ _ _ _ _ _ _ _ _ _ _ (HS.out _ HB3.out) HSV3.out).mono ?_; rintro e w4 ⟨rfl, hb4⟩; have HB34 : Hid _ := hb4; have HR4 : Hid _ := Lies.later HR3.out hb4; clear hb4) | (refine wpList_store_row (by rfl) 58 _ _ (by rfl) (w.heap.size + 1) #[.pointer (some ⟨L.b, 0, none⟩), .pointer (some ⟨c, 0, none⟩)] (by rfl) (by rfl) 58 _ HR4.out pairSize (by rfl) (pairOne _ _) ?_))
  have hs1 : w.heap.size + 1 < w2.heap.size := (Array.getElem?_eq_some_iff.1 HR2.out).1
  have e : Exc (· = w.heap.size + 1) w4 (w4.setRow (w.heap.size + 1) #[.pointer (some ⟨L.b, 0, none⟩), .pointer (some ⟨c, 0, none⟩)]) := ⟨rfl, rfl, rfl, by simp [World.setRow], fun k hk hs => setRow_other w4 _ _ k hs⟩
  refine bodyPost_ret (v := .tuple #[.agg #[.pointer (some ⟨L.b, 0, none⟩), .pointer (some ⟨c, 0, none⟩)], .bool true, .bool true]) (res_pair Try.results25 _ _ (w.heap.size + 1) _ (by rfl) (run_loadVar_row _ (w.heap.size + 1) _ _ _ (0, 0) _ (setRow_heap w4 (w.heap.size + 1) _ _ _ _ HR4.out) Try.underlying58 (by rfl) pairSize)) rfl ?_
  have hs2 : w.heap.size + 1 < (w1.alloc (.cells #[] 0)).heap.size := by
    have := (Array.getElem?_eq_some_iff.1 HR1.out).1
    simp; omega
  have hs3 : ∀ o, (w1.alloc o).heap.size = (w1.alloc (.cells #[] 0)).heap.size := fun o => by simp
  have hp4 := (HPB.out.later HB23.out).later HB34.out
  have hr4 := HRB.out.later HB34.out
  have b4 : Below w.heap.size w w4 := HB3.out.trans (HB34.out.mono HB3.out.size)
  exact ⟨L, c, ur, ui, uo, w2.heap.size, rfl, ⟨(hp4.exg e (fun k hk => by rw [hk, hs3]; exact hs2)).le (by rw [hs3]; omega), HPB.out.lt, hr4.exg e (fun k hk => by rw [hk]; exact hs1), HB2.out.size⟩, b4.trans (e.below b4.size (fun k hk => by rw [hk]; omega))⟩
end Go.Proofs.Ytghiabdkgfhdbaa
