import Derived.Test.YtddlmenfcbjoaaaGreatDoorK02
import Derived.Test.YtddlmenfcbjoaaaGreatDoorK11
import Derived.Test.YtddlmenfcbjoaaaGreatDoorK13
import Derived.Test.YtddlmenfcbjoaaaGreatDoorK14
namespace Go.Proofs.YtddlmenfcbjoaaaGreatDoor
set_option linter.unusedVariables false
set_option maxRecDepth 100000
set_option maxHeartbeats 8000000
open Go.ChangeShapes Go.WideShapes Go.ChangeAt Go.RowKit Go.Deep _root_.Go.Proofs.Tryz
structure Tp where
 is : Bool
 ca : Int
 tv : BitVec 64
def tpc (t : Tp) : Array Value := #[.bool t.is, .int .u64 t.ca, .int .u64 (n64 t.tv)]
def tN : Tp := ⟨false, 0, 0#64⟩
def tS (c : Int) (a : BitVec 64) : Tp := ⟨true, c, a⟩
theorem wV (t : Tp) : (tpc t).size = 3 := rfl
theorem bC (t u : Tp) : (tpc t).size = (tpc u).size := rfl
theorem aN (t : Tp) : (tpc t).all (·.oneCell') = true := by kernel_rfl
theorem bU (w : World) : (zeroValue 42).run prog w = .ok (.agg (tpc tN)) w := by kernel_rfl
theorem aD (t : Tp) : (prog.info? 42).map (·.size) = some (tpc t).size := by rw [wV]; kernel_rfl
structure Wy where
 b : Nat
 c : Nat → BitVec 8
 a : Nat → BitVec 64
 m : Int
 ad : BitVec 64
 r : Int
 ra : Bool
 mi : Int
 fa : Int
def iK (k : Wy) (j : Nat) : Value :=
 if j = 0 then .pointer (some ⟨k.b, 0, none⟩) else if j < 33 then eF k.c k.a (j - 1) else if j = 33 then .int .i64 k.m else if j = 34 then .int .u64 (n64 k.ad) else if j = 35 then .int .i64 k.r else if j = 36 then .bool k.ra else if j = 37 then .int .u64 k.mi else .int .u64 k.fa
def wyc (k : Wy) : Array Value := Array.ofFn (n := 39) fun j => iK k j.val
theorem iJ (k : Wy) : (wyc k).size = 39 := by simp [wyc]
theorem iI (k : Wy) (j : Nat) (h : j < 39) : (wyc k)[j]? = some (iK k j) := by simp [wyc, h]
theorem zH (k : Wy) (j : Nat) : (iK k j).oneCell' = true := by
 unfold iK
 repeat' split
 all_goals first | rfl | exact sS _ _ _
theorem rL (k : Wy) : (wyc k).all (·.oneCell') = true := by
 rw [Array.all_eq_true]
 intro i hi
 simp only [wyc, Array.getElem_ofFn]
 exact zH k i
theorem bZ (k : Wy) : (prog.info? 187).map (·.size) = some (wyc k).size := by rw [iJ]; kernel_rfl
def wz : Array Value := Array.ofFn (n := 39) fun j => if j.val = 0 then .pointer none else iK ⟨0, fun _ => 0#8, fun _ => 0#64, 0, 0#64, 0, false, 0, 0⟩ j.val
theorem uL : wz.size = 39 := by simp [wz]
theorem rM (w : World) : (zeroValue 187).run prog w = .ok (.agg wz) w := by kernel_rfl
structure Wcl (w : World) (g : Nat) (k : Wy) : Prop where
 b : w.cell? ⟨g, 0, none⟩ = some (.pointer (some ⟨k.b, 0, none⟩))
 p : ∀ j v, (pc k.c k.a)[j]? = some v → w.cell? ⟨g, 1 + j, none⟩ = some v
 m : w.cell? ⟨g, 33, none⟩ = some (.int .i64 k.m)
 ad : w.cell? ⟨g, 34, none⟩ = some (.int .u64 (n64 k.ad))
 r : w.cell? ⟨g, 35, none⟩ = some (.int .i64 k.r)
 ra : w.cell? ⟨g, 36, none⟩ = some (.bool k.ra)
 mi : w.cell? ⟨g, 37, none⟩ = some (.int .u64 k.mi)
 fa : w.cell? ⟨g, 38, none⟩ = some (.int .u64 k.fa)
theorem Row.wcl {w : World} {g : Nat} {k : Wy} {t : TypeId} (h : Row w g (wyc k) t) : Wcl w g k where
 b := (h.cell 0).trans (iI k 0 (by decide))
 p := fun j v hv => by
  have hj : j < 32 := by
   have := (Array.getElem?_eq_some_iff.1 hv).1
   rwa [bK] at this
  rw [h.cell, iI k (1 + j) (by omega), ← hv, gB _ _ j hj]
  unfold iK
  rw [if_neg (by omega), if_pos (by omega), show 1 + j - 1 = j by omega]
 m := (h.cell 33).trans (iI k 33 (by decide))
 ad := (h.cell 34).trans (iI k 34 (by decide))
 r := (h.cell 35).trans (iI k 35 (by decide))
 ra := (h.cell 36).trans (iI k 36 (by decide))
 mi := (h.cell 37).trans (iI k 37 (by decide))
 fa := (h.cell 38).trans (iI k 38 (by decide))
theorem BU {k k' : Wy} {i : Nat} {v : Value} (hi : i < 39) (h1 : iK k' i = v) (h2 : ∀ j, j < 39 → j ≠ i → iK k' j = iK k j) : (wyc k).setIfInBounds i v = wyc k' := by
 apply Array.ext_getElem?
 intro j
 rw [Array.getElem?_setIfInBounds]
 by_cases e : i = j
 ·subst e
  rw [if_pos rfl, if_pos (by rw [iJ]; exact hi), iI _ _ hi, h1]
 ·rw [if_neg e]
  by_cases hj : j < 39
  ·rw [iI _ _ hj, iI _ _ hj, h2 j hj (fun q => e q.symm)]
  ·rw [Array.getElem?_eq_none (by rw [iJ]; omega), Array.getElem?_eq_none (by rw [iJ]; omega)]
theorem wyc_r (k : Wy) (v : Int) : (wyc k).setIfInBounds 35 (.int .i64 v) = wyc { k with r := v } := BU (by decide) rfl (fun j hj hne => by
 unfold iK; simp only; repeat' split
 all_goals first | rfl | omega)
theorem MQ (k : Wy) (v : Bool) : (wyc k).setIfInBounds 36 (.bool v) = wyc { k with ra := v } := BU (by decide) rfl (fun j hj hne => by
 unfold iK; simp only; repeat' split
 all_goals first | rfl | omega)
theorem PSt.trans {B : Nat} {L L1 L2 : Lay} {S1 S2 : St} {w w1 w2 : World} (h : PSt B L w L1 S1 w1) (k : PSt B L1 w1 L2 S2 w2) : PSt B L w L2 S2 w2 where
 p := k.p
 x := ⟨k.x.os.trans h.x.os, k.x.tape.trans h.x.tape, k.x.output.trans h.x.output, ZqO h.x.size k.x.size, fun i hi hn => (k.x.block i (ZqS hi h.x.size) (fun e => by rcases h.o i e with q | q; exact hn q; omega)).trans (h.x.block i hi hn)⟩
 o := fun i hi => by
  rcases k.o i hi with q | q
  ·exact h.o i q
  ·exact .inr (ZqO h.x.size q)
 b := ⟨k.b.1.trans h.b.1, k.b.2.1.trans h.b.2.1, k.b.2.2.1.trans h.b.2.2.1, k.b.2.2.2.trans h.b.2.2.2⟩
structure Own (w : World) (L : Lay) (W : World) (g : Nat) (cs : Array Value) (t : TypeId) : Prop where
 r : Row W g cs t
 n : ¬ L.own g
 ge : w.heap.size ≤ g
section
variable {w W W' : World} {B : Nat} {L L' L1 : Lay} {S S' S1 : St} {g : Nat} {cs : Array Value} {t : TypeId}
theorem Own.post (h : Own w L W g cs t) (hb : Below W.heap.size W W') : Own w L W' g cs t := ⟨h.r.later hb h.r.lt, h.n, h.ge⟩
theorem Own.bus (h : Own w L W g cs t) (hs : PSt B L W L1 S1 W') : Own w L1 W' g cs t :=
 ⟨(hs.x.block g h.r.lt h.n).trans h.r, fun e => by rcases hs.o g e with q | q; exact h.n q; have := h.r.lt; omega, h.ge⟩
theorem Own.new (hp : PSt B L w L1 S1 W) (cs : Array Value) (t : TypeId) : Own w L1 (W.alloc (.cells cs t)) W.heap.size cs t :=
 ⟨Row.new W cs t, fun e => by have := hp.p.own_hi _ e; omega, hp.x.size⟩
theorem PSt.al (hp : PSt B L w L1 S1 W) (o : Obj) : PSt B L w L1 S1 (W.alloc o) := hp.post (aG W o)
theorem PSt.put (hp : PSt B L w L1 S1 W) (hn : ¬ L1.own g) (hg : w.heap.size ≤ g) (i : Nat) (v : Value) : PSt B L w L1 S1 (W.setCell ⟨g, i, none⟩ v) where
 p := hp.p.exo (G := fun k => k = g) ⟨rfl, rfl, rfl, by simp, fun k hk hne => heap_setCell_other W _ k v hne⟩ (fun k hk e => hn (e ▸ hk))
 x := ⟨hp.x.os, hp.x.tape, hp.x.output, by simpa using hp.x.size, fun k hk hne => (heap_setCell_other W _ k v (by show k ≠ g; omega)).trans (hp.x.block k hk hne)⟩
 o := hp.o
 b := hp.b
theorem PSt.row (hp : PSt B L w L1 S1 W) (hn : ¬ L1.own g) (hg : w.heap.size ≤ g) (cs : Array Value) : PSt B L w L1 S1 (W.setRow g cs) where
 p := hp.p.exo (G := fun k => k = g) ⟨rfl, rfl, rfl, by simp, fun k hk hne => setRow_other _ _ _ _ hne⟩ (fun k hk e => hn (e ▸ hk))
 x := ⟨hp.x.os, hp.x.tape, hp.x.output, by simpa using hp.x.size, fun k hk hne => (setRow_other _ _ _ _ (by omega)).trans (hp.x.block k hk hne)⟩
 o := hp.o
 b := hp.b
theorem PSt.refl {w : World} (h : PB B L S w) : PSt B L w L S w := PSt.quiet h (ZqD _ _)
theorem PSt.tb {w : World} (hp : PSt B L w L1 S1 W) (hT : Tb w) (hB : 0 < B) (h : PB B L S w) : Tb W := fun j hj => by
 have e := hp.x.block 0 hT.lt (fun q => by have := h.own_lo _ q; omega)
 have q := hT j hj
 unfold World.cell? at q ⊢
 simp only at q ⊢
 rw [e]
 exact q
end
section
variable {P : Program} {fn : Func}
theorem yL {p q : Tmp} {ty : TypeId} (h : fn.results = #[.tmp q, .cell p ty]) (tmps : Array Value) (w : World) (g : Nat) (t : TypeId) (cs : Array Value) (fr : Nat × Nat) (d : TypeDesc) (v : Value)
  (hp : tmps.getD p undef = .pointer (some ⟨g, 0, none⟩)) (hq : tmps.getD q undef = v) (hg : w.heap[g]? = some (.cells cs t fr))
  (hu : P.underlying ty = some d) (hd : (match d with | .struct _ | .array _ _ => true | _ => false) = true) (hi : (P.info? ty).map (·.size) = some cs.size) :
  (results fn tmps).run P w = .ok (.tuple #[v, .agg cs]) w := by
 have hp' : tmps[p]?.getD undef = .pointer (some ⟨g, 0, none⟩) := by simpa using hp
 have hq' : tmps[q]?.getD undef = v := by simpa using hq
 simp [results, h, hp', hq', asAddr, run_loadVar_row w g t ty cs fr d hg hu hd hi]
theorem aZ {p q q2 : Tmp} {ty : TypeId} (h : fn.results = #[.tmp q, .tmp q2, .cell p ty]) (tmps : Array Value) (w : World) (g : Nat) (t : TypeId) (cs : Array Value) (fr : Nat × Nat) (d : TypeDesc) (v v2 : Value)
  (hp : tmps.getD p undef = .pointer (some ⟨g, 0, none⟩)) (hq : tmps.getD q undef = v) (hq2 : tmps.getD q2 undef = v2) (hg : w.heap[g]? = some (.cells cs t fr))
  (hu : P.underlying ty = some d) (hd : (match d with | .struct _ | .array _ _ => true | _ => false) = true) (hi : (P.info? ty).map (·.size) = some cs.size) :
  (results fn tmps).run P w = .ok (.tuple #[v, v2, .agg cs]) w := by
 have hp' : tmps[p]?.getD undef = .pointer (some ⟨g, 0, none⟩) := by simpa using hp
 have hq' : tmps[q]?.getD undef = v := by simpa using hq
 have hq2' : tmps[q2]?.getD undef = v2 := by simpa using hq2
 simp [results, h, hp', hq', hq2', asAddr, run_loadVar_row w g t ty cs fr d hg hu hd hi]
variable {p p' : Tmp} {ty ty' : TypeId} (tmps : Array Value) (w : World) (g g' : Nat) (t t' : TypeId) (cs cs' : Array Value) (fr fr' : Nat × Nat) (d d' : TypeDesc)
theorem kE (h : fn.results = #[.cell p ty, .cell p' ty'])
  (hp : tmps.getD p undef = .pointer (some ⟨g, 0, none⟩)) (hp2 : tmps.getD p' undef = .pointer (some ⟨g', 0, none⟩)) (hg : w.heap[g]? = some (.cells cs t fr)) (hg' : w.heap[g']? = some (.cells cs' t' fr'))
  (hu : P.underlying ty = some d) (hd : (match d with | .struct _ | .array _ _ => true | _ => false) = true) (hi : (P.info? ty).map (·.size) = some cs.size)
  (hu' : P.underlying ty' = some d') (hd' : (match d' with | .struct _ | .array _ _ => true | _ => false) = true) (hi' : (P.info? ty').map (·.size) = some cs'.size) :
  (results fn tmps).run P w = .ok (.tuple #[.agg cs, .agg cs']) w := by
 have hp' : tmps[p]?.getD undef = .pointer (some ⟨g, 0, none⟩) := by simpa using hp
 have hp2' : tmps[p']?.getD undef = .pointer (some ⟨g', 0, none⟩) := by simpa using hp2
 simp [results, h, hp', hp2', asAddr, run_loadVar_row w g t ty cs fr d hg hu hd hi, run_loadVar_row w g' t' ty' cs' fr' d' hg' hu' hd' hi']
theorem fN {q : Tmp} (v : Value) (h : fn.results = #[.tmp q, .cell p ty, .cell p' ty']) (hq : tmps.getD q undef = v)
  (hp : tmps.getD p undef = .pointer (some ⟨g, 0, none⟩)) (hp2 : tmps.getD p' undef = .pointer (some ⟨g', 0, none⟩)) (hg : w.heap[g]? = some (.cells cs t fr)) (hg' : w.heap[g']? = some (.cells cs' t' fr'))
  (hu : P.underlying ty = some d) (hd : (match d with | .struct _ | .array _ _ => true | _ => false) = true) (hi : (P.info? ty).map (·.size) = some cs.size)
  (hu' : P.underlying ty' = some d') (hd' : (match d' with | .struct _ | .array _ _ => true | _ => false) = true) (hi' : (P.info? ty').map (·.size) = some cs'.size) :
  (results fn tmps).run P w = .ok (.tuple #[v, .agg cs, .agg cs']) w := by
 have hp' : tmps[p]?.getD undef = .pointer (some ⟨g, 0, none⟩) := by simpa using hp
 have hp2' : tmps[p']?.getD undef = .pointer (some ⟨g', 0, none⟩) := by simpa using hp2
 have hq' : tmps[q]?.getD undef = v := by simpa using hq
 simp [results, h, hp', hp2', hq', asAddr, run_loadVar_row w g t ty cs fr d hg hu hd hi, run_loadVar_row w g' t' ty' cs' fr' d' hg' hu' hd' hi']
theorem kF {q q2 : Tmp} (v v2 : Value) (h : fn.results = #[.tmp q, .tmp q2, .cell p ty, .cell p' ty']) (hq : tmps.getD q undef = v) (hq2 : tmps.getD q2 undef = v2)
  (hp : tmps.getD p undef = .pointer (some ⟨g, 0, none⟩)) (hp2 : tmps.getD p' undef = .pointer (some ⟨g', 0, none⟩)) (hg : w.heap[g]? = some (.cells cs t fr)) (hg' : w.heap[g']? = some (.cells cs' t' fr'))
  (hu : P.underlying ty = some d) (hd : (match d with | .struct _ | .array _ _ => true | _ => false) = true) (hi : (P.info? ty).map (·.size) = some cs.size)
  (hu' : P.underlying ty' = some d') (hd' : (match d' with | .struct _ | .array _ _ => true | _ => false) = true) (hi' : (P.info? ty').map (·.size) = some cs'.size) :
  (results fn tmps).run P w = .ok (.tuple #[v, v2, .agg cs, .agg cs']) w := by
 have hp' : tmps[p]?.getD undef = .pointer (some ⟨g, 0, none⟩) := by simpa using hp
 have hp2' : tmps[p']?.getD undef = .pointer (some ⟨g', 0, none⟩) := by simpa using hp2
 have hq' : tmps[q]?.getD undef = v := by simpa using hq
 have hq2' : tmps[q2]?.getD undef = v2 := by simpa using hq2
 simp [results, h, hp', hp2', hq', hq2', asAddr, run_loadVar_row w g t ty cs fr d hg hu hd hi, run_loadVar_row w g' t' ty' cs' fr' d' hg' hu' hd' hi']
end
theorem jE (w : World) (c1 c2 c3 : Array Value) (t1 t2 t3 : TypeId) : ∃ W, ((w.alloc (.cells c1 t1)).alloc (.cells c2 t2)).alloc (.cells c3 t3) = W ∧ Row W w.heap.size c1 t1 ∧ Row W (w.heap.size + 1) c2 t2 ∧ Row W (w.heap.size + 2) c3 t3 ∧ Below w.heap.size w W ∧ W.heap.size = w.heap.size + 3 :=
 ⟨_, rfl, ((Row.new w _ _).old (by simp) _).old (by simp; omega) _, ((by have q := Row.new (w.alloc (.cells c1 t1)) c2 t2; simpa using q : Row ((w.alloc (.cells c1 t1)).alloc (.cells c2 t2)) (w.heap.size + 1) c2 t2).old (by simp) _), (by have q := Row.new ((w.alloc (.cells c1 t1)).alloc (.cells c2 t2)) c3 t3; simpa using q), (((aG w _).trans ((aG _ _).mono (by simp))).trans ((aG _ _).mono (by simp; omega))), by simp⟩
theorem nQ (k : Wy) (ca : Int) (w : World) : Calls prog 165 #[.agg (wyc k), .int .u64 ca] w fun e w' => e = .returned (.agg (tpc (tS ca k.ad))) ∧ Below w.heap.size w w' := by
 obtain ⟨W0, hW0, r0, r1, b0, s0⟩ := cN w (wyc k) (tpc tN) 187 42
 have hz := bU
 have HS := hid s0
 have c34 := r0.out.wcl.ad
 clear s0
 go_enter func165, ntmps165
 go_upto_region 1 with fail
 clear hW0
 go_wp2_with (first | (refine aC (by rfl) 42 _ (by rfl) (tpc (tS ca k.ad)) (by kernel_rfl) ?_) | (refine aA (by rfl) _ _ _ (by rfl) (by rfl) _ _ _ (by rfl) (by rfl) r1.out (aD _) (bC _ _) (aN _) ?_))
 refine ZqH (v := .agg (tpc (tS ca k.ad))) (ZqM results165 _ _ (w.heap.size + 1) 42 _ (0, 0) _ (by rfl) (ZqW _ _ _ _ _ _ r1.out) underlying42 (by rfl) (aD _)) rfl ⟨rfl, aW b0.out (by omega) _⟩
def thr (S : St) (ra : Bool) (r : Int) (a : BitVec 64) (z : Int) : Bool := if ra = true then decide (1 ≤ z) && hld S.ram.length (n64 a) z else decide (1 ≤ r ∧ r ≤ 3) && decide (fnd S.ram.length (n64 a) z < 6)
theorem RU {B : Nat} {L : Lay} {S : St} (w : World) (h : PB B L S w) (hs : Sok S) (k : Wy) (hk : k.b = L.b) (z : Int) (hz : -9223372036854775808 ≤ z ∧ z ≤ 9223372036854775807) : Calls prog 219 #[.agg (wyc k), .int .i64 z] w fun e w' => e = .returned (.bool (thr S k.ra k.r k.ad z)) ∧ Below w.heap.size w w' := by
 obtain ⟨W0, hW0, r0, b0, s0⟩ := cT w (wyc k) 187
 have c0 := r0.out.wcl.b
 have c34 := r0.out.wcl.ad
 have c35 := r0.out.wcl.r
 have c36 := r0.out.wcl.ra
 have HP : Hid (PB B L S W0) := h.later b0.out
 have H1 : Hid (Calls prog 231 #[.pointer (some ⟨k.b, 0, none⟩), .int .u64 (n64 k.ad), .int .i64 z] W0 fun e w' => e = .returned (.bool (decide (1 ≤ z) && hld S.ram.length (n64 k.ad) z)) ∧ Below W0.heap.size W0 w') := by rw [hk]; exact PI W0 HP.out hs.n.1 _ z ⟨bF _, bM _⟩ hz
 have H2 : Hid (Calls prog 232 #[.pointer (some ⟨k.b, 0, none⟩), .int .u64 (n64 k.ad), .int .i64 z, .int .i64 k.r] W0 fun e w' => e = .returned (.bool (decide (1 ≤ k.r ∧ k.r ≤ 3) && decide (fnd S.ram.length (n64 k.ad) z < 6))) ∧ Below W0.heap.size W0 w') := by rw [hk]; exact can_c W0 HP.out hs.n.1 _ z k.r ⟨bF _, bM _⟩ hz
 have HB : Hid (Below w.heap.size w W0) := b0
 unfold thr
 generalize (decide (1 ≤ z) && hld S.ram.length (n64 k.ad) z) = x1 at H1 ⊢
 generalize (decide (1 ≤ k.r ∧ k.r ≤ 3) && decide (fnd S.ram.length (n64 k.ad) z < 6)) = x2 at H2 ⊢
 clear s0 h hs hk hz HP b0
 obtain ⟨ra, hra⟩ : ∃ ra, ra = k.ra := ⟨_, rfl⟩
 rw [← hra] at c36 ⊢
 clear hra
 go_enter func219, ntmps219
 go_upto_region 1 with fail
 clear hW0
 cases ra with
 | true =>
  go_wp2_with (go_at_call 231; refine H1.out.mono ?_; rintro e w1 ⟨rfl, hb1⟩; have HB1 := hid hb1; clear hb1)
  go_ret
  exact ⟨by simp, HB.out.trans (HB1.out.mono HB.out.size)⟩
 | false =>
  go_wp2_with (go_at_call 232; refine H2.out.mono ?_; rintro e w1 ⟨rfl, hb1⟩; have HB1 := hid hb1; clear hb1)
  go_ret
  exact ⟨by simp, HB.out.trans (HB1.out.mono HB.out.size)⟩
def fbd (S : St) (k : Wy) (z : Nat) : Tp := if n64 k.ad % (z : Int) = 0 then (if ckA (PC k.c) (PA k.a) k.m k.ad z k.r = true ∧ thr S k.ra k.r k.ad z = true then tN else tS k.fa k.ad) else tS k.mi k.ad
theorem eE {B : Nat} {L : Lay} {S : St} (w : World) (h : PB B L S w) (hs : Sok S) (hT : Tb w) (k : Wy) (hk : k.b = L.b) (z : Nat) (hz : 0 < z ∧ z ≤ 8) : Calls prog 177 #[.agg (wyc k), .int .i64 z] w fun e w' => e = .returned (.agg (tpc (fbd S k z))) ∧ Below w.heap.size w w' := by
 obtain ⟨W0, hW0, r0, r1, b0, s0⟩ := cN w (wyc k) (tpc tN) 187 42
 have hzt := bU
 have HS := hid s0
 have L0 : Hid (Wcl W0 w.heap.size k) := r0.out.wcl
 have HP : Hid (PB B L S W0) := h.later b0.out
 have HT : Hid (Tb W0) := hT.next b0.out
 have HTH : Hid (∀ W, Below W0.heap.size W0 W → Calls prog 219 #[.agg (wyc k), .int .i64 z] W fun e w' => e = .returned (.bool (thr S k.ra k.r k.ad z)) ∧ Below W.heap.size W w') := fun W hb => RU W (HP.out.later hb) hs k hk z (by omega)
 have HCK : Hid (Calls prog 218 #[.agg (pc k.c k.a), .int .i64 k.m, .int .u64 (n64 k.ad), .int .i64 z, .int .i64 k.r] W0 fun e w' => e = .returned (.bool (ckA (PC k.c) (PA k.a) k.m k.ad z k.r)) ∧ Below W0.heap.size W0 w') := MX k.c k.a k.m k.ad z k.r W0 HT.out
 have HST : Hid (∀ ca W, Calls prog 165 #[.agg (wyc k), .int .u64 ca] W fun e w' => e = .returned (.agg (tpc (tS ca k.ad))) ∧ Below W.heap.size W w') := fun ca W => nQ k ca W
 have hw1 : IntKind.u64.wrap (z : Int) = (z : Int) := bI (by omega) (by omega)
 have hz0 : ¬ (z : Int) = 0 := by omega
 have htm : (n64 k.ad).tmod (z : Int) = n64 k.ad % (z : Int) := Int.tmod_eq_emod_of_nonneg (bF _)
 obtain ⟨t, ht⟩ : ∃ t, t = fbd S k z := ⟨_, rfl⟩
 have HE : Hid (t = if n64 k.ad % (z : Int) = 0 then (if ckA (PC k.c) (PA k.a) k.m k.ad z k.r = true ∧ thr S k.ra k.r k.ad z = true then tN else tS k.fa k.ad) else tS k.mi k.ad) := ht
 rw [← ht]
 clear ht
 generalize ckA (PC k.c) (PA k.a) k.m k.ad z k.r = q1 at HCK HE
 generalize thr S k.ra k.r k.ad z = q2 at HTH HE
 clear s0 h hs hk hz HP HT hT
 have HL : Hid (∀ W, Below W0.heap.size W0 W → Row W w.heap.size (wyc k) 187 ∧ Row W (w.heap.size + 1) (tpc tN) 42 ∧ Below w.heap.size w W) := fun W hb => ⟨r0.out.later hb (by have := HS.out; omega), r1.out.later hb (by have := HS.out; omega), b0.out.trans (hb.mono b0.out.size)⟩
 have c34 := L0.out.ad
 have c33 := L0.out.m
 have c35 := L0.out.r
 go_enter func177, ntmps177
 go_upto_region 1 with fail
 clear hW0
 by_cases hm : n64 k.ad % (z : Int) = 0
 ·have hm2 : (n64 k.ad % (z : Int) != 0) = false := by rw [hm]; rfl
  rw [if_pos hm] at HE
  cases q1 with
  | false =>
   go_upto_region 5 with (first | (refine aY (by rfl) _ _ (by rfl) w.heap.size 1 (by rfl) (pc k.c k.a) _ L0.out.p underlying27 (by rfl) (dU _ _) ?_) | (go_at_call 218; refine HCK.out.mono ?_; rintro e w1 ⟨rfl, hb1⟩; have HB1 := hid hb1; clear hb1))
   have d38 := (HL.out _ HB1.out).1.wcl.fa
   go_wp2_with (first | (refine wpList_load_row (by rfl) _ _ (by rfl) _ (by rfl) 187 _ (0, 0) _ (HL.out _ HB1.out).1 underlying187 (by rfl) (bZ _) ?_) | (go_at_call 165; refine (HST.out _ _).mono ?_; rintro e w2 ⟨rfl, hb2⟩; have HB2 : Hid (Below W0.heap.size W0 w2) := HB1.out.trans (hb2.mono HB1.out.size); clear hb2) | (refine aA (by rfl) _ _ _ (by rfl) (by rfl) _ _ _ (by rfl) (by rfl) (HL.out _ HB2.out).2.1 (aD _) (bC _ _) (aN _) ?_))
   refine ZqH (v := .agg (tpc (tS k.fa k.ad))) (ZqM results177 _ _ (w.heap.size + 1) 42 _ (0, 0) _ (by rfl) (ZqW _ _ _ _ _ _ (HL.out _ HB2.out).2.1) underlying42 (by rfl) (aD _)) rfl ⟨by rw [HE.out]; simp, aW (HL.out _ HB2.out).2.2 (by omega) _⟩
  | true =>
   go_upto_region 4 with (first | (refine aY (by rfl) _ _ (by rfl) w.heap.size 1 (by rfl) (pc k.c k.a) _ L0.out.p underlying27 (by rfl) (dU _ _) ?_) | (go_at_call 218; refine HCK.out.mono ?_; rintro e w1 ⟨rfl, hb1⟩; have HB1 := hid hb1; clear hb1))
   cases q2 with
   | false =>
    go_upto_region 5 with (first | (refine wpList_load_row (by rfl) _ _ (by rfl) _ (by rfl) 187 _ (0, 0) _ (HL.out _ HB1.out).1 underlying187 (by rfl) (bZ _) ?_) | (go_at_call 219; refine (HTH.out _ HB1.out).mono ?_; rintro e w2 ⟨rfl, hb2⟩; have HB2 : Hid (Below W0.heap.size W0 w2) := HB1.out.trans (hb2.mono HB1.out.size); clear hb2))
    have d38 := (HL.out _ HB2.out).1.wcl.fa
    go_wp2_with (first | (refine wpList_load_row (by rfl) _ _ (by rfl) _ (by rfl) 187 _ (0, 0) _ (HL.out _ HB2.out).1 underlying187 (by rfl) (bZ _) ?_) | (go_at_call 165; refine (HST.out _ _).mono ?_; rintro e w3 ⟨rfl, hb3⟩; have HB3 : Hid (Below W0.heap.size W0 w3) := HB2.out.trans (hb3.mono HB2.out.size); clear hb3) | (refine aA (by rfl) _ _ _ (by rfl) (by rfl) _ _ _ (by rfl) (by rfl) (HL.out _ HB3.out).2.1 (aD _) (bC _ _) (aN _) ?_))
    refine ZqH (v := .agg (tpc (tS k.fa k.ad))) (ZqM results177 _ _ (w.heap.size + 1) 42 _ (0, 0) _ (by rfl) (ZqW _ _ _ _ _ _ (HL.out _ HB3.out).2.1) underlying42 (by rfl) (aD _)) rfl ⟨by rw [HE.out]; simp, aW (HL.out _ HB3.out).2.2 (by omega) _⟩
   | true =>
    go_upto_region 6 with (first | (refine wpList_load_row (by rfl) _ _ (by rfl) _ (by rfl) 187 _ (0, 0) _ (HL.out _ HB1.out).1 underlying187 (by rfl) (bZ _) ?_) | (go_at_call 219; refine (HTH.out _ HB1.out).mono ?_; rintro e w2 ⟨rfl, hb2⟩; have HB2 : Hid (Below W0.heap.size W0 w2) := HB1.out.trans (hb2.mono HB1.out.size); clear hb2))
    go_wp2_with (first | (refine aC (by rfl) 42 _ (by rfl) (tpc tN) (by kernel_rfl) ?_) | (refine aA (by rfl) _ _ _ (by rfl) (by rfl) _ _ _ (by rfl) (by rfl) (HL.out _ HB2.out).2.1 (aD _) (bC _ _) (aN _) ?_))
    refine ZqH (v := .agg (tpc (tN))) (ZqM results177 _ _ (w.heap.size + 1) 42 _ (0, 0) _ (by rfl) (ZqW _ _ _ _ _ _ (HL.out _ HB2.out).2.1) underlying42 (by rfl) (aD _)) rfl ⟨by rw [HE.out]; simp, aW (HL.out _ HB2.out).2.2 (by omega) _⟩
 ·have hm2 : (n64 k.ad % (z : Int) != 0) = true := by simpa using hm
  rw [if_neg hm] at HE
  have c37 := L0.out.mi
  go_wp2_with (first | (refine wpList_load_row (by rfl) _ _ (by rfl) _ (by rfl) 187 _ (0, 0) _ r0.out underlying187 (by rfl) (bZ _) ?_) | (go_at_call 165; refine (HST.out _ _).mono ?_; rintro e w1 ⟨rfl, hb1⟩; have HB1 := hid hb1; clear hb1) | (refine aA (by rfl) _ _ _ (by rfl) (by rfl) _ _ _ (by rfl) (by rfl) (HL.out w1 HB1.out).2.1 (aD _) (bC _ _) (aN _) ?_))
  refine ZqH (v := .agg (tpc (tS k.mi k.ad))) (ZqM results177 _ _ (w.heap.size + 1) 42 _ (0, 0) _ (by rfl) (ZqW _ _ _ _ _ _ (HL.out w1 HB1.out).2.1) underlying42 (by rfl) (aD _)) rfl ⟨by rw [HE.out], aW (HL.out w1 HB1.out).2.2 (by omega) _⟩
theorem TN (w : World) : Calls prog 176 #[.int .u64 255] w fun e w' => e = .returned (.int .i64 8) ∧ w' = w := by
 go_enter func176, ntmps176
 go_wp2
 go_ret
 exact ⟨by kernel_rfl, rfl⟩
theorem IP (w : World) : Calls prog 176 #[.int .u64 65535] w fun e w' => e = .returned (.int .i64 16) ∧ w' = w := by
 go_enter func176, ntmps176
 go_wp2
 go_ret
 exact ⟨by kernel_rfl, rfl⟩
theorem IQ (w : World) : Calls prog 176 #[.int .u64 4294967295] w fun e w' => e = .returned (.int .i64 32) ∧ w' = w := by
 go_enter func176, ntmps176
 go_wp2
 go_ret
 exact ⟨by kernel_rfl, rfl⟩
theorem IR (w : World) : Calls prog 176 #[.int .u64 18446744073709551615] w fun e w' => e = .returned (.int .i64 64) ∧ w' = w := by
 go_enter func176, ntmps176
 go_wp2
 go_ret
 exact ⟨by kernel_rfl, rfl⟩
theorem bT {motive : World → Prop} {w : World} {Q : World → Prop} (hq : Q w) (h : ∀ W, Q W → motive W) : motive w := h w hq
def cW (z : Nat) : Prop := z = 1 ∨ z = 2 ∨ z = 4 ∨ z = 8
def bS (z : Nat) (x : BitVec 64) : BitVec 64 := BitVec.ofNat 64 (x.toNat % 256 ^ z)
theorem jK {z : Nat} (x : BitVec 64) (hz : z ≤ 8) : n64 (bS z x) = n64 x % ((256 ^ z : Nat) : Int) := by
 have h1 : x.toNat % 256 ^ z < 2 ^ 64 := Nat.lt_of_le_of_lt (Nat.mod_le _ _) x.isLt
 unfold n64 bS
 rw [ZqR, ZqV h1, Int.natCast_emod]
theorem tV (x : BitVec 64) : bS 8 x = x := by
 unfold bS
 rw [ZqV (by have := x.isLt; omega)]
 simp
theorem ID {n : Nat} {a z : Int} (h : jC n a z = true) : fnd n a z = 0 := by unfold fnd; rw [if_pos h]
theorem cO {S : St} {k : Wy} {z : Nat} (hz : cW z) (h : (fbd S k z).is = false) : fnd S.ram.length (n64 k.ad) z < 6 ∧ (k.ra = true → fnd S.ram.length (n64 k.ad) z = 0) ∧ fbd S k z = tN ∧ n64 k.ad % (z : Int) = 0 := by
 unfold fbd at h ⊢
 by_cases h1 : n64 k.ad % (z : Int) = 0
 ·rw [if_pos h1] at h ⊢
  by_cases h2 : ckA (PC k.c) (PA k.a) k.m k.ad z k.r = true ∧ thr S k.ra k.r k.ad z = true
  ·have h3 := h2.2
   rw [if_pos h2]
   unfold thr at h3
   by_cases h4 : k.ra = true
   ·rw [if_pos h4, Bool.and_eq_true] at h3
    have e : jC S.ram.length (n64 k.ad) z = true := by
     unfold jC
     rw [h3.2, h1]
     rcases hz with rfl | rfl | rfl | rfl <;> rfl
    have e2 := ID e
    exact ⟨by omega, fun _ => e2, rfl, h1⟩
   ·rw [if_neg h4, Bool.and_eq_true, decide_eq_true_eq, decide_eq_true_eq] at h3
    exact ⟨h3.2, fun e => absurd e h4, rfl, h1⟩
  ·rw [if_neg h2] at h; cases h
 ·rw [if_neg h1] at h; cases h
theorem mX {S : St} (hs : Sok S) (a : Int) (z : Nat) (hz : cW z) (hf : fnd S.ram.length a z < 6) : 0 ≤ (S.ld a z).1.1 ∧ (S.ld a z).1.1 < ((256 ^ z : Nat) : Int) := by
 have n := hs.n
 have st := hs.st
 rcases jH S.ram.length a z with e | e | e | e | e | e | e
 ·have e0 : (S.ld a z).1.1 = ((tk ((S.ram.drop (a - 2147483648).toNat).take (z : Int).toNat) : Nat) : Int) := by simp only [St.ld, e]
  rw [e0]
  have hall : fQ ((S.ram.drop (a - 2147483648).toNat).take (z : Int).toNat) := fun x hx => st.r x (List.mem_of_mem_drop (List.mem_of_mem_take hx))
  have hl : ((S.ram.drop (a - 2147483648).toNat).take (z : Int).toNat).length ≤ z := by simp; omega
  have h1 := uH hall (min ((S.ram.drop (a - 2147483648).toNat).take (z : Int).toNat).length 8)
  have h2 : 256 ^ min ((S.ram.drop (a - 2147483648).toNat).take (z : Int).toNat).length 8 ≤ 256 ^ z := Nat.pow_le_pow_right (by decide) (by omega)
  have h3 : tk ((S.ram.drop (a - 2147483648).toNat).take (z : Int).toNat) < 256 ^ z := ZqS h1 h2
  omega
 ·have hu := GX e
  have z1 : z = 1 := by unfold mU at hu; simp at hu; omega
  subst z1
  have e0 : (S.ld a (1 : Nat)).1.1 = (S.tel (a - 268435456).toNat).1 := by simp only [St.ld, e]
  rw [e0]
  have hi := st.i
  obtain ⟨r, hr, _, er⟩ := pY hu
  rw [er]
  have st5 : 0 ≤ lY S ∧ lY S ≤ 99 := by
   unfold lY
   repeat' split
   all_goals omega
  rcases jM hr with rfl | rfl | rfl | rfl | rfl | rfl | rfl | rfl
  ·cases hq : S.inp with
   | nil => simp [St.tel, hq]
   | cons x xs =>
    have := hi x (by rw [hq]; simp)
    simp only [St.tel, hq]
    omega
  ·have := st.ier; simp only [St.tel]; omega
  ·simp only [St.tel]; split <;> omega
  ·have := st.lcr; simp only [St.tel]; omega
  ·simp only [St.tel]; have := st.mcr; omega
  ·simp only [St.tel]; omega
  ·simp [St.tel]
  ·have := st.scr; simp only [St.tel]; omega
 ·have hc := jY (GY e)
  have e0 : (S.ld a z).1.1 = mS S.time 33603576 a z := by simp only [St.ld, e]
  rw [e0]
  have := st.time
  unfold mS
  rcases hc with ⟨h1, h2⟩ | ⟨h1, h2⟩ | ⟨h1, h2⟩
  ·have h1 : z = 8 := by omega
   subst h1; rw [if_pos (by omega)]; omega
  ·have h1 : z = 4 := by omega
   subst h1; rw [if_neg (by decide), if_pos h2]; omega
  ·have h1 : z = 4 := by omega
   subst h1; rw [if_neg (by decide), if_neg (by omega)]; omega
 ·have hc := jY (GZ e)
  have e0 : (S.ld a z).1.1 = mS S.cmp 33570816 a z := by simp only [St.ld, e]
  rw [e0]
  have := st.cmp
  unfold mS
  rcases hc with ⟨h1, h2⟩ | ⟨h1, h2⟩ | ⟨h1, h2⟩
  ·have h1 : z = 8 := by omega
   subst h1; rw [if_pos (by omega)]; omega
  ·have h1 : z = 4 := by omega
   subst h1; rw [if_neg (by decide), if_pos h2]; omega
  ·have h1 : z = 4 := by omega
   subst h1; rw [if_neg (by decide), if_neg (by omega)]; omega
 ·have e0 : (S.ld a z).1.1 = S.msip := by simp only [St.ld, e]
  rw [e0]
  have := st.msip
  have h4 : 256 ^ 1 ≤ 256 ^ z := Nat.pow_le_pow_right (by decide) (by rcases hz with rfl | rfl | rfl | rfl <;> decide)
  omega
 ·have e0 : (S.ld a z).1.1 = 0 := by simp only [St.ld, e]
  rw [e0]
  have h4 : 256 ^ 1 ≤ 256 ^ z := Nat.pow_le_pow_right (by decide) (by rcases hz with rfl | rfl | rfl | rfl <;> decide)
  omega
 ·omega
def mvB (S : St) (k : Wy) (z : Nat) : BitVec 64 := if k.r = 2 then 0#64 else BitVec.ofNat 64 (S.ld (n64 k.ad) z).1.1.toNat
def mvT (S : St) (k : Wy) (z : Nat) : St := if k.r = 2 then S else (S.ld (n64 k.ad) z).2
theorem oA {S : St} {k : Wy} {z : Nat} (hs : Sok S) (hz : cW z) (hf : fnd S.ram.length (n64 k.ad) z < 6) (hr : ¬ k.r = 2) : n64 (mvB S k z) = (S.ld (n64 k.ad) z).1.1 := by
 have h := mX hs (n64 k.ad) z hz hf
 have h8 : 256 ^ z ≤ 256 ^ 8 := Nat.pow_le_pow_right (by decide) (by rcases hz with rfl | rfl | rfl | rfl <;> decide)
 unfold mvB
 rw [if_neg hr, ← AQ (by omega)]
 omega
structure Mv where
 old : BitVec 64
 st : BitVec 64
 t : Tp
 S : St
def MV (S : St) (k : Wy) (z : Nat) : Option (BitVec 64 → BitVec 64) → Mv
 | none => if (fbd S k z).is = true then ⟨0#64, 0#64, fbd S k z, S⟩ else ⟨mvB S k z, 0#64, tN, mvT S k z⟩
 | some f => if (fbd S k z).is = true then ⟨0#64, 0#64, fbd S k z, S⟩ else ⟨mvB S k z, bS z (f (mvB S k z)), tN, ((mvT S k z).sto2 (n64 k.ad) z (n64 (bS z (f (mvB S k z))))).2⟩
def mvR (m : Mv) : Value := .tuple #[.int .u64 (n64 m.old), .int .u64 (n64 m.st), .agg (tpc m.t)]
theorem JG {S : St} {k : Wy} {z : Nat} (hs : Sok S) : Sok (mvT S k z) := by
 unfold mvT; split
 ·exact hs
 ·exact hs.ld _ _
theorem MV_ok {S : St} {k : Wy} {z : Nat} {f : Option (BitVec 64 → BitVec 64)} (hs : Sok S) : Sok (MV S k z f).S := by
 cases f with
 | none => simp only [MV]; split; exact hs; exact JG hs
 | some f => simp only [MV]; split; exact hs; exact (JG hs).sto2 _ _ _ ⟨bF _, bM _⟩
theorem IY {B : Nat} {L : Lay} {S : St} (w : World) (h : PB B L S w) (hs : Sok S) (hT : Tb w) (hB : 0 < B) (k : Wy) (hk : k.b = L.b)  :
  Calls prog 161 #[.agg (wyc k), .nilFunc] w fun e w' => e = .returned (mvR (MV S k 1 none)) ∧ ∃ L', PSt B L w L' (MV S k 1 none).S w' := by
 obtain ⟨W0, hW0, r0, r1, b0, s0⟩ := cN w (wyc k) (tpc tN) 187 42
 have hzt := bU
 have HS := hid s0
 have HP : Hid (PB B L S W0) := h.later b0.out
 have HP0 : Hid (PSt B L w L S W0) := (PSt.refl h).post b0.out
 have HF : Hid (Calls prog 177 #[.agg (wyc k), .int .i64 (1 : Nat)] W0 fun e w' => e = .returned (.agg (tpc (fbd S k 1))) ∧ Below W0.heap.size W0 w') := eE W0 HP.out hs (hT.next b0.out) k hk 1 (by omega)
 have hlo : ∀ g, w.heap.size ≤ g → ¬ L.own g := fun g hg e => by have := h.own_hi _ e; omega
 have HO0 : Hid (Own w L W0 w.heap.size (wyc k) 187) := ⟨r0.out, hlo _ (ZqE _), ZqE _⟩
 have HO1 : Hid (Own w L W0 (w.heap.size + 1) (tpc tN) 42) := ⟨r1.out, hlo _ (by omega), by omega⟩
 have HTH : Hid ((fbd S k 1).is = false → fnd S.ram.length (n64 k.ad) (1 : Nat) < 6) := fun q => (cO (by simp [cW]) q).1
 have HTN : Hid ((fbd S k 1).is = false → fbd S k 1 = tN) := fun q => (cO (by simp [cW]) q).2.2.1
 have HSS := hid hs
 have HK := hid hk
 clear hT h s0 r0 r1 b0 HP hs hk
 have hnil : ∀ W, (binOp .neq 190 .nilFunc .nilFunc).run prog W = .ok (.bool false) W := fun W => by kernel_rfl
 have hR0 : Hid ((fbd S k 1).is = true → MV S k 1 none = ⟨0#64, 0#64, fbd S k 1, S⟩) := fun q => by simp only [MV, if_pos q]
 have hR1 : Hid ((fbd S k 1).is = false → MV S k 1 none = ⟨mvB S k 1, 0#64, tN, mvT S k 1⟩) := fun q => by simp only [MV, q, Bool.false_eq_true, if_false]
 obtain ⟨t, ht⟩ : ∃ t, t = fbd S k 1 := ⟨_, rfl⟩
 rw [← ht] at HF HTH HTN hR0 hR1
 have HE := hid ht
 clear ht
 go_enter func161, ntmps161
 go_upto_region 1 with fail
 clear hW0
 go_upto_region 2 with (go_at_call 176; refine (TN _).mono ?_; rintro e wl ⟨rfl, hwl⟩; have hwl2 := hwl.symm; subst hwl2)
 go_upto_region 3 with (first | (refine wpList_load_row (by rfl) _ _ (by rfl) _ (by rfl) 187 _ (0, 0) _ HO0.out.r underlying187 (by rfl) (bZ _) ?_) | (go_at_call 177; refine HF.out.mono ?_; rintro e w1 ⟨rfl, hb1⟩; have HB1 := hid hb1; clear hb1) | (refine aK (by rfl) 42 _ _ (by rfl) (by rfl) (tpc tN) (tpc t) (by rfl) (by rfl) (aD _) (bC _ _) (aN _) ?_))
 refine bT (motive := fun W => Code.wp _ _ _ _ W) (Q := fun W => Own w L W w.heap.size (wyc k) 187 ∧ Own w L W (w.heap.size + 1) (tpc tN) 42 ∧ Own w L W w1.heap.size (tpc t) 42 ∧ PSt B L w L S W) ⟨(HO0.out.post HB1.out).post (aG _ _), (HO1.out.post HB1.out).post (aG _ _), Own.new (HP0.out.post HB1.out) _ _, (HP0.out.post HB1.out).al _⟩ ?_
 clear HO0 HO1 HP0 HB1 HF HS
 generalize w1.heap.size = gt
 rintro W2 ⟨o0, o1, o2, p2⟩
 have HO0 := hid o0
 have HO1 := hid o1
 have HO2 := hid o2
 have HP2 := hid p2
 have ct : W2.cell? ⟨gt, 0, none⟩ = some (.bool t.is) := o2.r.cell 0
 clear o0 o1 o2 p2
 obtain ⟨q, hq⟩ : ∃ q, q = t.is := ⟨_, rfl⟩
 rw [← hq] at ct
 have HQ := hid hq
 clear hq
 cases q with
 | true =>
  have HRR : Hid (MV S k 1 none = ⟨0#64, 0#64, t, S⟩) := hR0.out HQ.out.symm
  go_upto_region 4 with fail
  have := aS W2
  have hlt : gt < W2.heap.size := HO2.out.r.lt
  have HLT : Hid (∀ j v, (tpc t)[j]? = some v → W2.cell? ⟨gt, 0 + j, none⟩ = some v) := fun j v hv => by rw [ZqU, HO2.out.r.cell]; exact hv
  refine aQ (x0 := bB.start W2) 3 (by kernel_rfl) (by kernel_rfl) ?_
  simp only [List.take_succ_cons, List.take_zero, List.drop_succ_cons, List.drop_zero]
  repeat (first | (refine ZqN (by rfl) fun K hK => ?_; refine bD 42 _ (by rfl) gt 0 (by rfl) (tpc t) _ hlt HLT.out underlying42 (by rfl) (aD _) (hK _ ?_); clear hK K; simp only [Act.put, ZqA, ZqC, ZqB]) | (go_big_quiet_step (fail)))
  refine wpQuiet_nil ?_
  rintro w' ⟨x9, rfl⟩
  have HO9 : Hid (Own w L x9.1 (w.heap.size + 1) (tpc tN) 42) := HO1.out.post x9.below
  have HP9 : Hid (PSt B L w L S x9.1) := HP2.out.post x9.below
  go_wp2_with (refine aA (by rfl) _ _ _ (by rfl) (by rfl) _ _ _ (by rfl) (by rfl) HO9.out.r (aD _) (bC _ _) (aN _) ?_)
  refine ZqH (v := .tuple #[.int .u64 (0), .int .u64 (0), .agg (tpc (t))]) (aZ results161 _ _ (w.heap.size + 1) 42 _ (0, 0) _ _ _ (by rfl) (by rfl) (by rfl) (ZqW _ _ _ _ _ _ HO9.out.r) underlying42 (by rfl) (aD _)) rfl ⟨by rw [HRR.out]; rfl, L, by rw [HRR.out]; exact HP9.out.row HO9.out.n HO9.out.ge _⟩
 | false =>
  have hRR := hR1.out HQ.out.symm
  have hth := HTH.out HQ.out.symm
  have HRR : Hid (MV S k 1 none = _) := hRR
  clear hRR hR0 hR1 HTH HTN
  have c0 := HO0.out.r.wcl.b
  have c34 := HO0.out.r.wcl.ad
  have c35 := HO0.out.r.wcl.r
  by_cases hr : k.r = 2
  ·have hr2 : (k.r != 2) = false := by rw [hr]; rfl
   have eB : Hid (mvB S k 1 = 0#64) := by unfold Hid mvB; rw [if_pos hr]
   have eT : Hid (mvT S k 1 = S) := by unfold Hid mvT; rw [if_pos hr]
   clear hth
   go_upto_region 12 with fail
   go_wp2_with (first | (refine aC (by rfl) 42 _ (by rfl) (tpc tN) (by kernel_rfl) ?_) | (refine aA (by rfl) _ _ _ (by rfl) (by rfl) _ _ _ (by rfl) (by rfl) HO1.out.r (aD _) (bC _ _) (aN _) ?_))
   refine ZqH (v := .tuple #[.int .u64 (0), .int .u64 (0), .agg (tpc (tN))]) (aZ results161 _ _ (w.heap.size + 1) 42 _ (0, 0) _ _ _ (by rfl) (by rfl) (by rfl) (ZqW _ _ _ _ _ _ HO1.out.r) underlying42 (by rfl) (aD _)) rfl ⟨by rw [HRR.out]; show _ = Ending.returned (.tuple #[.int .u64 (n64 (mvB S k 1)), .int .u64 (n64 (0#64)), .agg (tpc tN)]); rw [eB.out]; try rfl, L, by rw [HRR.out]; show PSt B L w L (mvT S k 1) _; rw [eT.out]; exact HP2.out.row HO1.out.n HO1.out.ge _⟩
  ·have hr2 : (k.r != 2) = true := by simpa using hr
   have eB : Hid (n64 (mvB S k 1) = (S.ld (n64 k.ad) (1 : Nat)).1.1) := oA HSS.out (by simp [cW]) hth hr
   have eT : Hid (mvT S k 1 = (S.ld (n64 k.ad) (1 : Nat)).2) := by unfold Hid mvT; rw [if_neg hr]
   have hrg := mX HSS.out (n64 k.ad) 1 (by simp [cW]) hth
   have hwr : IntKind.u8.wrap (S.ld (n64 k.ad) (1 : Nat)).1.1 = (S.ld (n64 k.ad) (1 : Nat)).1.1 := by
    show _ % _ = _
    exact Int.emod_eq_of_lt hrg.1 hrg.2
   have hwr2 : IntKind.u64.wrap (S.ld (n64 k.ad) (1 : Nat)).1.1 = (S.ld (n64 k.ad) (1 : Nat)).1.1 := bI hrg.1 (by have := hrg.2; have := bM (mvB S k 1); rw [eB.out] at this; exact this)
   have HLD : Hid (Calls prog 178 #[.pointer (some ⟨k.b, 0, none⟩), .int .u64 (n64 k.ad), .int .i64 (1 : Nat)] W2 fun e w' => e = .returned (.tuple #[.int .u64 (S.ld (n64 k.ad) (1 : Nat)).1.1, .bool (S.ld (n64 k.ad) (1 : Nat)).1.2]) ∧ ∃ L', PSt B L W2 L' (S.ld (n64 k.ad) (1 : Nat)).2 w') := by rw [HK.out]; exact kR W2 HP2.out.p HSS.out.n.1 _ _ ⟨bF _, bM _⟩ (by omega) HSS.out.st HSS.out.n.2.2.1
   generalize (S.ld (n64 k.ad) (1 : Nat)).1.1 = vo at hwr hwr2 HLD eB
   generalize (S.ld (n64 k.ad) (1 : Nat)).1.2 = vb at HLD
   have HS1 : Hid (Sok (S.ld (n64 k.ad) (1 : Nat)).2) := HSS.out.ld _ _
   generalize (S.ld (n64 k.ad) (1 : Nat)).2 = S1 at HLD eT HS1
   clear hrg hth
   go_upto_region 9 with (go_at_call 178; refine HLD.out.mono ?_; rintro e w3 ⟨rfl, L1, hp3⟩; have HP3 := hid hp3; clear hp3)
   refine bT (motive := fun W => Code.wp _ _ _ _ W) (Q := fun W => Own w L1 W w.heap.size (wyc k) 187 ∧ Own w L1 W (w.heap.size + 1) (tpc tN) 42 ∧ PSt B L w L1 S1 W) ⟨HO0.out.bus HP3.out, HO1.out.bus HP3.out, HP2.out.trans HP3.out⟩ ?_
   clear HO0 HO1 HO2 HP2 HP3 HLD c0 c34 c35 ct
   rintro W4 ⟨o0, o1, p4⟩
   have HO0 := hid o0
   have HO1 := hid o1
   have HP2 := hid p4
   have c0 := o0.r.wcl.b
   have c34 := o0.r.wcl.ad
   have HKb : Hid (k.b = L1.b) := HK.out.trans p4.b.1.symm
   clear o0 o1 p4
   go_upto_region 12 with fail
   go_wp2_with (first | (refine aC (by rfl) 42 _ (by rfl) (tpc tN) (by kernel_rfl) ?_) | (refine aA (by rfl) _ _ _ (by rfl) (by rfl) _ _ _ (by rfl) (by rfl) HO1.out.r (aD _) (bC _ _) (aN _) ?_))
   refine ZqH (v := .tuple #[.int .u64 (vo), .int .u64 (0), .agg (tpc (tN))]) (aZ results161 _ _ (w.heap.size + 1) 42 _ (0, 0) _ _ _ (by rfl) (by rfl) (by rfl) (ZqW _ _ _ _ _ _ HO1.out.r) underlying42 (by rfl) (aD _)) rfl ⟨by rw [HRR.out]; show _ = Ending.returned (.tuple #[.int .u64 (n64 (mvB S k 1)), .int .u64 (n64 (0#64)), .agg (tpc tN)]); rw [eB.out]; try rfl, L1, by rw [HRR.out]; show PSt B L w L1 (mvT S k 1) _; rw [eT.out]; exact HP2.out.row HO1.out.n HO1.out.ge _⟩
theorem vX {B : Nat} {L : Lay} {S : St} (w : World) (h : PB B L S w) (hs : Sok S) (hT : Tb w) (hB : 0 < B) (k : Wy) (hk : k.b = L.b) (fn : Nat) (ps : Array Value) (f : BitVec 64 → BitVec 64)
  (hcf : ∀ x W, (callFunc fn (#[.int .u64 x] ++ ps)).run prog W = .ok (.enter fn (#[.int .u64 x] ++ ps)) W)
  (hM : ∀ L1 S1 W, PSt B L w L1 S1 W → ∀ x : BitVec 64, Calls prog fn (#[.int .u64 (n64 x)] ++ ps) W fun e w' => e = .returned (.int .u64 (n64 (f x))) ∧ Below W.heap.size W w') :
  Calls prog 161 #[.agg (wyc k), .func (.func fn) #[] ps] w fun e w' => e = .returned (mvR (MV S k 1 (some f))) ∧ ∃ L', PSt B L w L' (MV S k 1 (some f)).S w' := by
 obtain ⟨W0, hW0, r0, r1, b0, s0⟩ := cN w (wyc k) (tpc tN) 187 42
 have hzt := bU
 have HS := hid s0
 have HP : Hid (PB B L S W0) := h.later b0.out
 have HP0 : Hid (PSt B L w L S W0) := (PSt.refl h).post b0.out
 have HF : Hid (Calls prog 177 #[.agg (wyc k), .int .i64 (1 : Nat)] W0 fun e w' => e = .returned (.agg (tpc (fbd S k 1))) ∧ Below W0.heap.size W0 w') := eE W0 HP.out hs (hT.next b0.out) k hk 1 (by omega)
 have hlo : ∀ g, w.heap.size ≤ g → ¬ L.own g := fun g hg e => by have := h.own_hi _ e; omega
 have HO0 : Hid (Own w L W0 w.heap.size (wyc k) 187) := ⟨r0.out, hlo _ (ZqE _), ZqE _⟩
 have HO1 : Hid (Own w L W0 (w.heap.size + 1) (tpc tN) 42) := ⟨r1.out, hlo _ (by omega), by omega⟩
 have HTH : Hid ((fbd S k 1).is = false → fnd S.ram.length (n64 k.ad) (1 : Nat) < 6) := fun q => (cO (by simp [cW]) q).1
 have HTN : Hid ((fbd S k 1).is = false → fbd S k 1 = tN) := fun q => (cO (by simp [cW]) q).2.2.1
 have HSS := hid hs
 have HK := hid hk
 clear hT h s0 r0 r1 b0 HP hs hk
 have hnil : ∀ W, (binOp .neq 190 (.func (.func fn) #[] ps) .nilFunc).run prog W = .ok (.bool true) W := fun W => by kernel_rfl
 have HM := hid hM
 clear hM
 have hR0 : Hid ((fbd S k 1).is = true → MV S k 1 (some f) = ⟨0#64, 0#64, fbd S k 1, S⟩) := fun q => by simp only [MV, if_pos q]
 have hR1 : Hid ((fbd S k 1).is = false → MV S k 1 (some f) = ⟨mvB S k 1, bS 1 (f (mvB S k 1)), tN, ((mvT S k 1).sto2 (n64 k.ad) (1 : Nat) (n64 (bS 1 (f (mvB S k 1))))).2⟩) := fun q => by simp only [MV, q, Bool.false_eq_true, if_false]
 obtain ⟨t, ht⟩ : ∃ t, t = fbd S k 1 := ⟨_, rfl⟩
 rw [← ht] at HF HTH HTN hR0 hR1
 have HE := hid ht
 clear ht
 go_enter func161, ntmps161
 go_upto_region 1 with fail
 clear hW0
 go_upto_region 2 with (go_at_call 176; refine (TN _).mono ?_; rintro e wl ⟨rfl, hwl⟩; have hwl2 := hwl.symm; subst hwl2)
 go_upto_region 3 with (first | (refine wpList_load_row (by rfl) _ _ (by rfl) _ (by rfl) 187 _ (0, 0) _ HO0.out.r underlying187 (by rfl) (bZ _) ?_) | (go_at_call 177; refine HF.out.mono ?_; rintro e w1 ⟨rfl, hb1⟩; have HB1 := hid hb1; clear hb1) | (refine aK (by rfl) 42 _ _ (by rfl) (by rfl) (tpc tN) (tpc t) (by rfl) (by rfl) (aD _) (bC _ _) (aN _) ?_))
 refine bT (motive := fun W => Code.wp _ _ _ _ W) (Q := fun W => Own w L W w.heap.size (wyc k) 187 ∧ Own w L W (w.heap.size + 1) (tpc tN) 42 ∧ Own w L W w1.heap.size (tpc t) 42 ∧ PSt B L w L S W) ⟨(HO0.out.post HB1.out).post (aG _ _), (HO1.out.post HB1.out).post (aG _ _), Own.new (HP0.out.post HB1.out) _ _, (HP0.out.post HB1.out).al _⟩ ?_
 clear HO0 HO1 HP0 HB1 HF HS
 generalize w1.heap.size = gt
 rintro W2 ⟨o0, o1, o2, p2⟩
 have HO0 := hid o0
 have HO1 := hid o1
 have HO2 := hid o2
 have HP2 := hid p2
 have ct : W2.cell? ⟨gt, 0, none⟩ = some (.bool t.is) := o2.r.cell 0
 clear o0 o1 o2 p2
 obtain ⟨q, hq⟩ : ∃ q, q = t.is := ⟨_, rfl⟩
 rw [← hq] at ct
 have HQ := hid hq
 clear hq
 cases q with
 | true =>
  have HRR : Hid (MV S k 1 (some f) = ⟨0#64, 0#64, t, S⟩) := hR0.out HQ.out.symm
  go_upto_region 4 with fail
  have := aS W2
  have hlt : gt < W2.heap.size := HO2.out.r.lt
  have HLT : Hid (∀ j v, (tpc t)[j]? = some v → W2.cell? ⟨gt, 0 + j, none⟩ = some v) := fun j v hv => by rw [ZqU, HO2.out.r.cell]; exact hv
  refine aQ (x0 := bB.start W2) 3 (by kernel_rfl) (by kernel_rfl) ?_
  simp only [List.take_succ_cons, List.take_zero, List.drop_succ_cons, List.drop_zero]
  repeat (first | (refine ZqN (by rfl) fun K hK => ?_; refine bD 42 _ (by rfl) gt 0 (by rfl) (tpc t) _ hlt HLT.out underlying42 (by rfl) (aD _) (hK _ ?_); clear hK K; simp only [Act.put, ZqA, ZqC, ZqB]) | (go_big_quiet_step (fail)))
  refine wpQuiet_nil ?_
  rintro w' ⟨x9, rfl⟩
  have HO9 : Hid (Own w L x9.1 (w.heap.size + 1) (tpc tN) 42) := HO1.out.post x9.below
  have HP9 : Hid (PSt B L w L S x9.1) := HP2.out.post x9.below
  go_wp2_with (refine aA (by rfl) _ _ _ (by rfl) (by rfl) _ _ _ (by rfl) (by rfl) HO9.out.r (aD _) (bC _ _) (aN _) ?_)
  refine ZqH (v := .tuple #[.int .u64 (0), .int .u64 (0), .agg (tpc (t))]) (aZ results161 _ _ (w.heap.size + 1) 42 _ (0, 0) _ _ _ (by rfl) (by rfl) (by rfl) (ZqW _ _ _ _ _ _ HO9.out.r) underlying42 (by rfl) (aD _)) rfl ⟨by rw [HRR.out]; rfl, L, by rw [HRR.out]; exact HP9.out.row HO9.out.n HO9.out.ge _⟩
 | false =>
  have hRR := hR1.out HQ.out.symm
  have hth := HTH.out HQ.out.symm
  have HRR : Hid (MV S k 1 (some f) = _) := hRR
  clear hRR hR0 hR1 HTH HTN
  have c0 := HO0.out.r.wcl.b
  have c34 := HO0.out.r.wcl.ad
  have c35 := HO0.out.r.wcl.r
  by_cases hr : k.r = 2
  ·have hr2 : (k.r != 2) = false := by rw [hr]; rfl
   have eB : Hid (mvB S k 1 = 0#64) := by unfold Hid mvB; rw [if_pos hr]
   have eT : Hid (mvT S k 1 = S) := by unfold Hid mvT; rw [if_pos hr]
   clear hth
   have HFX : Hid (∀ W, Below W2.heap.size W2 W → Calls prog fn (#[.int .u64 (0)] ++ ps) W fun e w' => e = .returned (.int .u64 (n64 (f (mvB S k 1)))) ∧ Below W.heap.size W w') := fun W hb => by
    have q := HM.out L S W (HP2.out.post hb) (mvB S k 1)
    rw [show n64 (mvB S k 1) = 0 by rw [eB.out]; rfl] at q
    exact q
   have hcx := hcf (0)
   obtain ⟨y, hy⟩ : ∃ y, y = f (mvB S k 1) := ⟨_, rfl⟩
   rw [← hy] at HFX
   have HY := hid hy
   clear hy
   have hw1 : IntKind.u8.wrap (n64 y) = n64 (bS 1 y) := by rw [jK y (by decide)]; rfl
   have hw2 : IntKind.u64.wrap (n64 (bS 1 y)) = n64 (bS 1 y) := bI (bF _) (bM _)
   go_upto_region 11 with (refine (HFX.out _ (ZqD _ _)).mono ?_; rintro e w5 ⟨rfl, hb5⟩; have HB5 := hid hb5; clear hb5)
   refine bT (motive := fun W => Code.wp _ _ _ _ W) (Q := fun W => Own w L W w.heap.size (wyc k) 187 ∧ Own w L W (w.heap.size + 1) (tpc tN) 42 ∧ PSt B L w L S W) ⟨HO0.out.post HB5.out, HO1.out.post HB5.out, HP2.out.post HB5.out⟩ ?_
   clear HO0 HO1 HP2 HB5 HFX c0 c34
   rintro W6 ⟨o0, o1, p6⟩
   have HO0 := hid o0
   have HO1 := hid o1
   have HP2 := hid p6
   have c0 := o0.r.wcl.b
   have c34 := o0.r.wcl.ad
   have HSR : Hid (Calls prog 179 #[.pointer (some ⟨k.b, 0, none⟩), .int .u64 (n64 k.ad), .int .i64 (1 : Nat), .int .u64 (n64 (bS 1 y))] W6 fun e w' => e = .returned (.bool ((S).sto2 (n64 k.ad) (1 : Nat) (n64 (bS 1 y))).1) ∧ ∃ L', PSt B L W6 L' ((S).sto2 (n64 k.ad) (1 : Nat) (n64 (bS 1 y))).2 w') := by rw [HK.out]; exact iO W6 p6.p HSS.out.n.1 _ _ ⟨bF _, bM _⟩ (by omega) HSS.out.st _
   clear o0 o1 p6
   generalize hS2 : ((S).sto2 (n64 k.ad) (1 : Nat) (n64 (bS 1 y))).2 = S2 at HSR
   generalize ((S).sto2 (n64 k.ad) (1 : Nat) (n64 (bS 1 y))).1 = b2 at HSR
   have HS2 : Hid (((S).sto2 (n64 k.ad) (1 : Nat) (n64 (bS 1 y))).2 = S2) := hS2
   clear hS2
   go_upto_region 12 with (go_at_call 179; refine HSR.out.mono ?_; rintro e w7 ⟨rfl, L2, hp7⟩; have HP7 := hid hp7; clear hp7)
   have HO9 : Hid (Own w L2 w7 (w.heap.size + 1) (tpc tN) 42) := HO1.out.bus HP7.out
   go_wp2_with (first | (refine aC (by rfl) 42 _ (by rfl) (tpc tN) (by kernel_rfl) ?_) | (refine aA (by rfl) _ _ _ (by rfl) (by rfl) _ _ _ (by rfl) (by rfl) HO9.out.r (aD _) (bC _ _) (aN _) ?_))
   refine ZqH (v := .tuple #[.int .u64 (0), .int .u64 (n64 (bS 1 y)), .agg (tpc (tN))]) (aZ results161 _ _ (w.heap.size + 1) 42 _ (0, 0) _ _ _ (by rfl) (by rfl) (by rfl) (ZqW _ _ _ _ _ _ HO9.out.r) underlying42 (by rfl) (aD _)) rfl ⟨by rw [HRR.out]; show _ = Ending.returned (.tuple #[.int .u64 (n64 (mvB S k 1)), .int .u64 (n64 (bS 1 (f (mvB S k 1)))), .agg (tpc tN)]); rw [← HY.out, eB.out]; try rfl, L2, by rw [HRR.out]; show PSt B L w L2 ((mvT S k 1).sto2 _ _ (n64 (bS 1 (f (mvB S k 1))))).2 _; rw [eT.out, ← HY.out, HS2.out]; exact (HP2.out.trans HP7.out).row HO9.out.n HO9.out.ge _⟩
  ·have hr2 : (k.r != 2) = true := by simpa using hr
   have eB : Hid (n64 (mvB S k 1) = (S.ld (n64 k.ad) (1 : Nat)).1.1) := oA HSS.out (by simp [cW]) hth hr
   have eT : Hid (mvT S k 1 = (S.ld (n64 k.ad) (1 : Nat)).2) := by unfold Hid mvT; rw [if_neg hr]
   have hrg := mX HSS.out (n64 k.ad) 1 (by simp [cW]) hth
   have hwr : IntKind.u8.wrap (S.ld (n64 k.ad) (1 : Nat)).1.1 = (S.ld (n64 k.ad) (1 : Nat)).1.1 := by
    show _ % _ = _
    exact Int.emod_eq_of_lt hrg.1 hrg.2
   have hwr2 : IntKind.u64.wrap (S.ld (n64 k.ad) (1 : Nat)).1.1 = (S.ld (n64 k.ad) (1 : Nat)).1.1 := bI hrg.1 (by have := hrg.2; have := bM (mvB S k 1); rw [eB.out] at this; exact this)
   have HLD : Hid (Calls prog 178 #[.pointer (some ⟨k.b, 0, none⟩), .int .u64 (n64 k.ad), .int .i64 (1 : Nat)] W2 fun e w' => e = .returned (.tuple #[.int .u64 (S.ld (n64 k.ad) (1 : Nat)).1.1, .bool (S.ld (n64 k.ad) (1 : Nat)).1.2]) ∧ ∃ L', PSt B L W2 L' (S.ld (n64 k.ad) (1 : Nat)).2 w') := by rw [HK.out]; exact kR W2 HP2.out.p HSS.out.n.1 _ _ ⟨bF _, bM _⟩ (by omega) HSS.out.st HSS.out.n.2.2.1
   generalize (S.ld (n64 k.ad) (1 : Nat)).1.1 = vo at hwr hwr2 HLD eB
   generalize (S.ld (n64 k.ad) (1 : Nat)).1.2 = vb at HLD
   have HS1 : Hid (Sok (S.ld (n64 k.ad) (1 : Nat)).2) := HSS.out.ld _ _
   generalize (S.ld (n64 k.ad) (1 : Nat)).2 = S1 at HLD eT HS1
   clear hrg hth
   go_upto_region 9 with (go_at_call 178; refine HLD.out.mono ?_; rintro e w3 ⟨rfl, L1, hp3⟩; have HP3 := hid hp3; clear hp3)
   refine bT (motive := fun W => Code.wp _ _ _ _ W) (Q := fun W => Own w L1 W w.heap.size (wyc k) 187 ∧ Own w L1 W (w.heap.size + 1) (tpc tN) 42 ∧ PSt B L w L1 S1 W) ⟨HO0.out.bus HP3.out, HO1.out.bus HP3.out, HP2.out.trans HP3.out⟩ ?_
   clear HO0 HO1 HO2 HP2 HP3 HLD c0 c34 c35 ct
   rintro W4 ⟨o0, o1, p4⟩
   have HO0 := hid o0
   have HO1 := hid o1
   have HP2 := hid p4
   have c0 := o0.r.wcl.b
   have c34 := o0.r.wcl.ad
   have HKb : Hid (k.b = L1.b) := HK.out.trans p4.b.1.symm
   clear o0 o1 p4
   have HFX : Hid (∀ W, Below W4.heap.size W4 W → Calls prog fn (#[.int .u64 (vo)] ++ ps) W fun e w' => e = .returned (.int .u64 (n64 (f (mvB S k 1)))) ∧ Below W.heap.size W w') := fun W hb => by
    have q := HM.out L1 S1 W (HP2.out.post hb) (mvB S k 1)
    rw [eB.out] at q
    exact q
   have hcx := hcf (vo)
   obtain ⟨y, hy⟩ : ∃ y, y = f (mvB S k 1) := ⟨_, rfl⟩
   rw [← hy] at HFX
   have HY := hid hy
   clear hy
   have hw1 : IntKind.u8.wrap (n64 y) = n64 (bS 1 y) := by rw [jK y (by decide)]; rfl
   have hw2 : IntKind.u64.wrap (n64 (bS 1 y)) = n64 (bS 1 y) := bI (bF _) (bM _)
   go_upto_region 11 with (refine (HFX.out _ (ZqD _ _)).mono ?_; rintro e w5 ⟨rfl, hb5⟩; have HB5 := hid hb5; clear hb5)
   refine bT (motive := fun W => Code.wp _ _ _ _ W) (Q := fun W => Own w L1 W w.heap.size (wyc k) 187 ∧ Own w L1 W (w.heap.size + 1) (tpc tN) 42 ∧ PSt B L w L1 S1 W) ⟨HO0.out.post HB5.out, HO1.out.post HB5.out, HP2.out.post HB5.out⟩ ?_
   clear HO0 HO1 HP2 HB5 HFX c0 c34
   rintro W6 ⟨o0, o1, p6⟩
   have HO0 := hid o0
   have HO1 := hid o1
   have HP2 := hid p6
   have c0 := o0.r.wcl.b
   have c34 := o0.r.wcl.ad
   have HSR : Hid (Calls prog 179 #[.pointer (some ⟨k.b, 0, none⟩), .int .u64 (n64 k.ad), .int .i64 (1 : Nat), .int .u64 (n64 (bS 1 y))] W6 fun e w' => e = .returned (.bool ((S1).sto2 (n64 k.ad) (1 : Nat) (n64 (bS 1 y))).1) ∧ ∃ L', PSt B L1 W6 L' ((S1).sto2 (n64 k.ad) (1 : Nat) (n64 (bS 1 y))).2 w') := by rw [HKb.out]; exact iO W6 p6.p HS1.out.n.1 _ _ ⟨bF _, bM _⟩ (by omega) HS1.out.st _
   clear o0 o1 p6
   generalize hS2 : ((S1).sto2 (n64 k.ad) (1 : Nat) (n64 (bS 1 y))).2 = S2 at HSR
   generalize ((S1).sto2 (n64 k.ad) (1 : Nat) (n64 (bS 1 y))).1 = b2 at HSR
   have HS2 : Hid (((S1).sto2 (n64 k.ad) (1 : Nat) (n64 (bS 1 y))).2 = S2) := hS2
   clear hS2
   go_upto_region 12 with (go_at_call 179; refine HSR.out.mono ?_; rintro e w7 ⟨rfl, L2, hp7⟩; have HP7 := hid hp7; clear hp7)
   have HO9 : Hid (Own w L2 w7 (w.heap.size + 1) (tpc tN) 42) := HO1.out.bus HP7.out
   go_wp2_with (first | (refine aC (by rfl) 42 _ (by rfl) (tpc tN) (by kernel_rfl) ?_) | (refine aA (by rfl) _ _ _ (by rfl) (by rfl) _ _ _ (by rfl) (by rfl) HO9.out.r (aD _) (bC _ _) (aN _) ?_))
   refine ZqH (v := .tuple #[.int .u64 (vo), .int .u64 (n64 (bS 1 y)), .agg (tpc (tN))]) (aZ results161 _ _ (w.heap.size + 1) 42 _ (0, 0) _ _ _ (by rfl) (by rfl) (by rfl) (ZqW _ _ _ _ _ _ HO9.out.r) underlying42 (by rfl) (aD _)) rfl ⟨by rw [HRR.out]; show _ = Ending.returned (.tuple #[.int .u64 (n64 (mvB S k 1)), .int .u64 (n64 (bS 1 (f (mvB S k 1)))), .agg (tpc tN)]); rw [← HY.out, eB.out]; try rfl, L2, by rw [HRR.out]; show PSt B L w L2 ((mvT S k 1).sto2 _ _ (n64 (bS 1 (f (mvB S k 1))))).2 _; rw [eT.out, ← HY.out, HS2.out]; exact (HP2.out.trans HP7.out).row HO9.out.n HO9.out.ge _⟩
end Go.Proofs.YtddlmenfcbjoaaaGreatDoor
