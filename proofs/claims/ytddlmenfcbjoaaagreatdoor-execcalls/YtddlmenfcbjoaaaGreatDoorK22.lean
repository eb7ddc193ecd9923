import Derived.Test.YtddlmenfcbjoaaaGreatDoorK21
namespace Go.Proofs.YtddlmenfcbjoaaaGreatDoor
set_option linter.unusedVariables false
set_option maxRecDepth 100000
set_option maxHeartbeats 8000000
open Go.ChangeShapes Go.WideShapes Go.ChangeAt Go.RowKit Go.Deep _root_.Go.Proofs.Tryz
section
variable {P : Program} {ops : Array Oper} {Q : Exit → Act → World → Prop} {need : Nat → List Nat} {val : Nat → Option Value} {items : List Itm} {ci : Nat} {J : Lay → Bool → World → Prop} {a0 : Act} {i : Nat} {o : Oper}
theorem aH (v : Value) (ho : ops[i]? = some o) (hg : o.guard = none) (hd : o.dst ≠ none) (hv : val i = some v) (hc : i ≠ ci)
  (h : ∀ a w L b, (∀ k, eG ops k = true → a.eval (.tmp k) = a0.eval (.tmp k)) → (∀ k ∈ need i, ∀ u, val k = some u → bH ops a k = u) → J L b w → (execOp a.eval o).run P w = .ok (.value v) w) : Opn P ops Q need val items ci J a0 i o :=
 .pure v hv hc hd fun a w L b h1 h2 h3 => eU ho hg (by unfold Oper.wp; rw [h a w L b h1 h2 h3]; exact ⟨rfl, ZqD _ _⟩)
theorem opn_old (v u : Value) (k : Nat) (ho : ops[i]? = some o) (hg : o.guard = none) (hd : o.dst ≠ none) (hv : val i = some v) (hc : i ≠ ci) (hk : eG ops k = true) (hu : a0.eval (.tmp k) = u)
  (h : ∀ (ρ : Operand → Value) w L b, ρ (.tmp k) = u → J L b w → (execOp ρ o).run P w = .ok (.value v) w) : Opn P ops Q need val items ci J a0 i o :=
 aH v ho hg hd hv hc fun a w L b h1 _ h3 => h a.eval w L b ((h1 k hk).trans hu) h3
theorem opn_new (v u : Value) (k j : Nat) (ho : ops[i]? = some o) (hg : o.guard = none) (hd : o.dst ≠ none) (hv : val i = some v) (hc : i ≠ ci) (hj : j ∈ need i) (hu : val j = some u) (hl : ∀ a : Act, bH ops a j = a.eval (.tmp k))
  (h : ∀ (ρ : Operand → Value) w L b, ρ (.tmp k) = u → J L b w → (execOp ρ o).run P w = .ok (.value v) w) : Opn P ops Q need val items ci J a0 i o :=
 aH v ho hg hd hv hc fun a w L b _ h2 h3 => h a.eval w L b ((hl a).symm.trans (h2 j hj u hu)) h3
theorem gH (v : Value) (f : FuncId) (args : Array Value) (ho : ops[i]? = some o) (hg : o.guard = none) (hd : o.dst ≠ none) (hv : val i = some v) (hc : i ≠ ci)
  (h : ∀ a w L b, (∀ k, eG ops k = true → a.eval (.tmp k) = a0.eval (.tmp k)) → (∀ k ∈ need i, ∀ u, val k = some u → bH ops a k = u) → J L b w → (execOp a.eval o).run P w = .ok (.enter f args) w)
  (hk : ∀ w L b, J L b w → Calls P f args w fun e w' => e = .returned v ∧ Below w.heap.size w w') : Opn P ops Q need val items ci J a0 i o :=
 .pure v hv hc hd fun a w L b h1 h2 h3 => eU ho hg (by
  unfold Oper.wp; rw [h a w L b h1 h2 h3]
  refine Calls.mono (hk w L b h3) ?_
  rintro e w' ⟨rfl, h4⟩
  exact ⟨rfl, h4⟩)
theorem iA (v : Value) (f : FuncId) (args : Array Value) (ho : ops[i]? = some o) (hg : o.guard = none) (hd : o.dst ≠ none) (hv : val i = some v) (hc : i = ci)
  (h : ∀ a w L, (∀ k, eG ops k = true → a.eval (.tmp k) = a0.eval (.tmp k)) → (∀ k ∈ need i, ∀ u, val k = some u → bH ops a k = u) → J L false w → (execOp a.eval o).run P w = .ok (.enter f args) w)
  (hk : ∀ w L, J L false w → Calls P f args w fun e w' => e = .returned v ∧ ∃ L', J L' true w' ∧ Fr L w L' w') : Opn P ops Q need val items ci J a0 i o :=
 .call v hv hc hd fun a w L h1 h2 h3 => eU ho hg (by
  unfold Oper.wp; rw [h a w L h1 h2 h3]
  refine Calls.mono (hk w L h3) ?_
  rintro e w' ⟨rfl, h4⟩
  exact ⟨rfl, h4⟩)
theorem eM (q : Itm) (ho : ops[i]? = some o) (hg : o.guard = none) (hd : o.dst ≠ none) (hq : q ∈ items) (hi : i = q.ai) (h : ∀ (a : Act) (w : World), (execOp a.eval o).run P w = .ok (.value (ptr w.heap.size)) (w.alloc (.cells q.z q.T))) : Opn P ops Q need val items ci J a0 i o :=
 .made q hq hi hd fun a w => eU ho hg (by unfold Oper.wp; rw [h a w]; exact ⟨rfl, rfl⟩)
theorem dE (q : Itm) (x y : Operand) (ho : ops[i]? = some o) (hg : o.guard = none) (hd : o.dst = none) (hq : q ∈ items) (hi : i = q.si) (hop : o.op = .store q.T x y) (hn : q.ai ∈ need i ∧ q.xi ∈ need i) (hx : val q.xi = some (.agg q.cs))
  (hxo : ∀ a : Act, bH ops a q.ai = a.eval x) (hyo : ∀ a : Act, bH ops a q.xi = a.eval y) (hi2 : (P.info? q.T).map (·.size) = some q.cs.size) (hs : q.z.size = q.cs.size) (h1 : q.cs.all (·.oneCell') = true) : Opn P ops Q need val items ci J a0 i o :=
 .stored q hq hi hd hn hx fun a w g e1 e2 hr => eU ho hg (lZ q.T x y hop g q.z q.cs ((hxo a).symm.trans e1) ((hyo a).symm.trans e2) hr hi2 hs h1 ⟨by rw [hd]; rfl, rfl⟩)
end
theorem iU {P : Program} (ty : TypeId) (g off : Nat) (cs : Array Value) (d : TypeDesc) (w9 : World) (h : ∀ j v, cs[j]? = some v → w9.cell? ⟨g, off + j, none⟩ = some v) (hu : P.underlying ty = some d) (hd : (match d with | .struct _ | .array _ _ => true | _ => false) = true) (hi : (P.info? ty).map (·.size) = some cs.size) :
  ((Instr.loadAt ty (.pointer (some ⟨g, off, none⟩))) >>= fun v => pure (Next.value v)).run P w9 = .ok (.value (.agg cs)) w9 := by
 have hl := gA (P := P) w9 ty g off cs d h hu hd hi
 simp only [Instr.loadAt, Instr.sureAddr, Sem.run_bind, Sem.run_pure, Result.andThen_ok, hl]
structure Bst (B : Nat) (L : Lay) (w : World) (g : Nat) (L' : Lay) (S' : St) (w' : World) : Prop where
 p : PB B L' S' w'
 x : Exc (fun i => L.own i ∨ i = g) w w'
 o : ∀ k, L'.own k → L.own k ∨ w.heap.size ≤ k
 b : L'.b = L.b ∧ L'.u = L.u ∧ L'.q = L.q ∧ L'.ck = L.ck
structure Pre (B : Nat) (L : Lay) (S : St) (w : World) (g : Nat) (k : Wk) : Prop where
 p : PB B L S w
 r : Row w g (wkc k) 74
 n : ¬ L.own g
 bb : k.b = L.b
 s : Sok S
 t : Tb w
 hB : 0 < B
 hg : B ≤ g
section
variable {B g : Nat} {L L1 L2 : Lay} {S S1 S2 : St} {w w1 w2 : World} {k k1 : Wk}
theorem Bst.of_pst (h : PSt B L w L1 S1 w1) : Bst B L w g L1 S1 w1 := ⟨h.p, h.x.mono fun _ h => .inl h, h.o, h.b⟩
theorem Bst.of_mk (h : PB B L S w) (hn : ¬ L.own g) (m : Exc (· = g) w w1) : Bst B L w g L S w1 := ⟨h.exo m (fun k hk e => hn (e ▸ hk)), m.mono fun _ h => .inr h, fun _ h => .inl h, rfl, rfl, rfl, rfl⟩
theorem Bst.later (h : PB B L S w) (hb : Below w.heap.size w w1) : Bst B L w g L S w1 := .of_pst (PSt.quiet h hb)
theorem Bst.trans (hg : g < w.heap.size) (h : Bst B L w g L1 S1 w1) (h2 : Bst B L1 w1 g L2 S2 w2) : Bst B L w g L2 S2 w2 where
 p := h2.p
 x := ⟨h2.x.os.trans h.x.os, h2.x.tape.trans h.x.tape, h2.x.output.trans h.x.output, ZqO h.x.size h2.x.size, fun i hi hn => (h2.x.block i (ZqS hi h.x.size) (fun e => hn (by
  rcases e with e | e
  ·rcases h.o i e with q | q
   ·exact .inl q
   ·omega
  ·exact .inr e))).trans (h.x.block i hi hn)⟩
 o := fun i hi => by
  rcases h2.o i hi with q | q
  ·exact h.o i q
  ·exact .inr (ZqO h.x.size q)
 b := ⟨h2.b.1.trans h.b.1, h2.b.2.1.trans h.b.2.1, h2.b.2.2.1.trans h.b.2.2.1, h2.b.2.2.2.trans h.b.2.2.2⟩
theorem Bst.tb (h : Bst B L w g L1 S1 w1) (hp : PB B L S w) (ht : Tb w) (hB : 0 < B) (hg : B ≤ g) : Tb w1 := fun j hj => by
 have e := h.x.block 0 ht.lt (fun q => by rcases q with q | q; have := hp.own_lo _ q; omega; omega)
 have q := ht j hj
 unfold World.cell? at q ⊢
 simp only at q ⊢
 rw [e]
 exact q
theorem Pre.next (h : Pre B L S w g k) (hb : Bst B L w g L1 S1 w1) (hr : Row w1 g (wkc k1) 74) (hn : ¬ L1.own g) (he : k1.b = k.b) (hs : Sok S1) : Pre B L1 S1 w1 g k1 :=
 ⟨hb.p, hr, hn, he.trans (h.bb.trans hb.b.1.symm), hs, hb.tb h.p h.t h.hB h.hg, h.hB, h.hg⟩
theorem Pre.mk' (h : Pre B L S w g k) (m : Mk g w w1 k1) (he : k1.b = k.b) : Pre B L S w1 g k1 := h.next (Bst.of_mk h.p h.n m.x) m.r h.n he h.s
theorem Pre.later (h : Pre B L S w g k) (hb : Below w.heap.size w w1) : Pre B L S w1 g k := h.mk' (Mk.later h.r hb) rfl
end
def Ret (B : Nat) (L : Lay) (w : World) (g : Nat) (t : Tp) (S' : St) (k' : Wk) (v : Value) (e : Ending) (w' : World) : Prop :=
 ∃ L', Bst B L w g L' S' w' ∧ ¬ L'.own g ∧ ((t.is = true ∧ e = .panicked [{ v := exv t.ca t.tv, recovered := false }]) ∨ (t.is = false ∧ e = .returned v ∧ Row w' g (wkc k') 74))
theorem Fr.of_pst {B : Nat} {L L1 : Lay} {S1 : St} {w w1 : World} (h : PSt B L w L1 S1 w1) : Fr L w L1 w1 := ⟨h.x.size, h.x.block, h.o⟩
structure Jw (B : Nat) (L0 : Lay) (w0 : World) (S S' : St) (g : Nat) (cs : Array Value) (T : TypeId) (L : Lay) (b : Bool) (w : World) : Prop where
 p : PSt B L0 w0 L (if b then S' else S) w
 r : Row w g cs T
 n : ¬ L.own g
section
variable {B g : Nat} {L0 L : Lay} {w0 w : World} {S S' : St} {cs : Array Value} {T : TypeId} {b : Bool}
theorem Jw.later (h : Jw B L0 w0 S S' g cs T L b w) {w' : World} (hb : Below w.heap.size w w') : Jw B L0 w0 S S' g cs T L b w' := ⟨h.p.post hb, h.r.later hb h.r.lt, h.n⟩
theorem Jw.put (hg : g < w0.heap.size) (h : Jw B L0 w0 S S' g cs T L b w) {q : Nat} (hq : ¬ L.own q) (hb : w0.heap.size ≤ q) (cs' : Array Value) : Jw B L0 w0 S S' g cs T L b (w.setRow q cs') := ⟨h.p.row hq hb cs', (setRow_other _ _ _ _ (by omega)).trans h.r, h.n⟩
theorem Jw.own (h : Jw B L0 w0 S S' g cs T L b w) {q : Nat} (hq : L.own q) : q < w.heap.size := h.p.p.own_hi _ hq
theorem Jw.call (h : Jw B L0 w0 S S' g cs T L false w) {L' : Lay} {w' : World} (hp : PSt B L w L' S' w') : Jw B L0 w0 S S' g cs T L' true w' ∧ Fr L w L' w' :=
 ⟨⟨h.p.trans hp, (hp.x.block g h.r.lt h.n).trans h.r, fun e => by rcases hp.o g e with q | q; exact h.n q; have := h.r.lt; omega⟩, .of_pst hp⟩
end
def fmT : List (Int × Int × Nat × Int) := [(1, 1, 58, 0), (2, 2, 59, 0), (3, 3, 60, 0), (4, 4, 61, 0), (5, 10, 62, 0), (11, 11, 63, 1), (12, 12, 63, 2), (13, 13, 63, 4), (14, 14, 64, 8), (15, 15, 64, 1), (16, 16, 64, 2), (17, 17, 64, 4), (18, 18, 65, 1), (19, 19, 65, 2), (20, 20, 65, 4), (21, 21, 65, 8), (22, 34, 66, 0), (35, 49, 67, 0), (50, 51, 68, 0), (52, 52, 69, 0), (53, 53, 70, 0), (54, 54, 71, 0), (55, 55, 72, 0), (56, 56, 73, 0), (57, 57, 74, 0), (58, 58, 75, 0), (59, 59, 73, 0), (60, 60, 74, 0), (61, 61, 75, 0), (62, 74, 67, 0), (75, 75, 76, 4), (76, 76, 77, 4), (77, 85, 78, 4), (86, 86, 76, 8), (87, 87, 77, 8), (88, 96, 78, 8)]
def fmR (r : Int × Int × Nat × Int) : Array Value := #[.int .i64 r.1, .int .i64 r.2.1, .func (.func r.2.2.1) #[] #[], .int .i64 r.2.2.2]
def fmZ : Array Value := #[.int .i64 0, .int .i64 0, .nilFunc, .int .i64 0]
def fmG (i : Nat) : Int × Int × Nat × Int := fmT.getD i (0, 0, 0, 0)
def fmc (i : Nat) : Array Value := fmR (fmG i)
def fmH (op : Int) (i : Nat) : Prop := (fmG i).1 ≤ op ∧ op ≤ (fmG i).2.1
theorem GW (i : Nat) : (fmc i).size = 4 := rfl
theorem mT (i : Nat) : (fmc i).all (·.oneCell') = true := by kernel_rfl
theorem lU (w : World) : (zeroValue 125).run prog w = .ok (.agg fmZ) w := by kernel_rfl
theorem gF (i : Nat) : (prog.info? 125).map (·.size) = some (fmc i).size := by rw [GW]; kernel_rfl
def fmA : Array Value := #[.int .i64 1, .int .i64 1, .func (.func 58) #[] #[], .int .i64 0, .int .i64 2, .int .i64 2, .func (.func 59) #[] #[], .int .i64 0, .int .i64 3, .int .i64 3, .func (.func 60) #[] #[], .int .i64 0, .int .i64 4, .int .i64 4, .func (.func 61) #[] #[], .int .i64 0, .int .i64 5, .int .i64 10, .func (.func 62) #[] #[], .int .i64 0, .int .i64 11, .int .i64 11, .func (.func 63) #[] #[], .int .i64 1, .int .i64 12, .int .i64 12, .func (.func 63) #[] #[], .int .i64 2, .int .i64 13, .int .i64 13, .func (.func 63) #[] #[], .int .i64 4, .int .i64 14, .int .i64 14, .func (.func 64) #[] #[], .int .i64 8, .int .i64 15, .int .i64 15, .func (.func 64) #[] #[], .int .i64 1, .int .i64 16, .int .i64 16, .func (.func 64) #[] #[], .int .i64 2, .int .i64 17, .int .i64 17, .func (.func 64) #[] #[], .int .i64 4, .int .i64 18, .int .i64 18, .func (.func 65) #[] #[], .int .i64 1, .int .i64 19, .int .i64 19, .func (.func 65) #[] #[], .int .i64 2, .int .i64 20, .int .i64 20, .func (.func 65) #[] #[], .int .i64 4, .int .i64 21, .int .i64 21, .func (.func 65) #[] #[], .int .i64 8, .int .i64 22, .int .i64 34, .func (.func 66) #[] #[], .int .i64 0, .int .i64 35, .int .i64 49, .func (.func 67) #[] #[], .int .i64 0, .int .i64 50, .int .i64 51, .func (.func 68) #[] #[], .int .i64 0, .int .i64 52, .int .i64 52, .func (.func 69) #[] #[], .int .i64 0, .int .i64 53, .int .i64 53, .func (.func 70) #[] #[], .int .i64 0, .int .i64 54, .int .i64 54, .func (.func 71) #[] #[], .int .i64 0, .int .i64 55, .int .i64 55, .func (.func 72) #[] #[], .int .i64 0, .int .i64 56, .int .i64 56, .func (.func 73) #[] #[], .int .i64 0, .int .i64 57, .int .i64 57, .func (.func 74) #[] #[], .int .i64 0, .int .i64 58, .int .i64 58, .func (.func 75) #[] #[], .int .i64 0, .int .i64 59, .int .i64 59, .func (.func 73) #[] #[], .int .i64 0, .int .i64 60, .int .i64 60, .func (.func 74) #[] #[], .int .i64 0, .int .i64 61, .int .i64 61, .func (.func 75) #[] #[], .int .i64 0, .int .i64 62, .int .i64 74, .func (.func 67) #[] #[], .int .i64 0, .int .i64 75, .int .i64 75, .func (.func 76) #[] #[], .int .i64 4, .int .i64 76, .int .i64 76, .func (.func 77) #[] #[], .int .i64 4, .int .i64 77, .int .i64 85, .func (.func 78) #[] #[], .int .i64 4, .int .i64 86, .int .i64 86, .func (.func 76) #[] #[], .int .i64 8, .int .i64 87, .int .i64 87, .func (.func 77) #[] #[], .int .i64 8, .int .i64 88, .int .i64 96, .func (.func 78) #[] #[], .int .i64 8]
theorem GV : ∀ i : Nat, i < 36 → ∀ w : World, (Instr.index 138 (.agg fmA) (.int .i64 (i : Int))).run prog w = .ok (.agg (fmc i)) w
 | 0, _, _ => by kernel_rfl
 | 1, _, _ => by kernel_rfl
 | 2, _, _ => by kernel_rfl
 | 3, _, _ => by kernel_rfl
 | 4, _, _ => by kernel_rfl
 | 5, _, _ => by kernel_rfl
 | 6, _, _ => by kernel_rfl
 | 7, _, _ => by kernel_rfl
 | 8, _, _ => by kernel_rfl
 | 9, _, _ => by kernel_rfl
 | 10, _, _ => by kernel_rfl
 | 11, _, _ => by kernel_rfl
 | 12, _, _ => by kernel_rfl
 | 13, _, _ => by kernel_rfl
 | 14, _, _ => by kernel_rfl
 | 15, _, _ => by kernel_rfl
 | 16, _, _ => by kernel_rfl
 | 17, _, _ => by kernel_rfl
 | 18, _, _ => by kernel_rfl
 | 19, _, _ => by kernel_rfl
 | 20, _, _ => by kernel_rfl
 | 21, _, _ => by kernel_rfl
 | 22, _, _ => by kernel_rfl
 | 23, _, _ => by kernel_rfl
 | 24, _, _ => by kernel_rfl
 | 25, _, _ => by kernel_rfl
 | 26, _, _ => by kernel_rfl
 | 27, _, _ => by kernel_rfl
 | 28, _, _ => by kernel_rfl
 | 29, _, _ => by kernel_rfl
 | 30, _, _ => by kernel_rfl
 | 31, _, _ => by kernel_rfl
 | 32, _, _ => by kernel_rfl
 | 33, _, _ => by kernel_rfl
 | 34, _, _ => by kernel_rfl
 | 35, _, _ => by kernel_rfl
 | n + 36, h, _ => absurd h (by omega)
theorem vM (op : Int) (w : World) : Calls prog 43 #[.int .i64 op] w fun e w' => Below w.heap.size w w' ∧ ((∃ i, i < 36 ∧ fmH op i ∧ e = .returned (.tuple #[.agg (fmc i), .bool true])) ∨ ((∀ i, i < 36 → ¬ fmH op i) ∧ e = .returned (.tuple #[.agg fmZ, .bool false]))) := by
 obtain ⟨W0, hW0, r0, b0, s0⟩ := cT w fmZ 125
 have hz := lU
 go_enter func43, ntmps43
 go_upto_region 1 with fail
 clear hW0
 refine wp_region_lit ?_
 refine aC (by rfl) 125 _ (by rfl) (fmc 0) (by kernel_rfl) ?_
 refine aC (by rfl) 125 _ (by rfl) (fmc 1) (by kernel_rfl) ?_
 refine aC (by rfl) 125 _ (by rfl) (fmc 2) (by kernel_rfl) ?_
 refine aC (by rfl) 125 _ (by rfl) (fmc 3) (by kernel_rfl) ?_
 refine aC (by rfl) 125 _ (by rfl) (fmc 4) (by kernel_rfl) ?_
 refine aC (by rfl) 125 _ (by rfl) (fmc 5) (by kernel_rfl) ?_
 refine aC (by rfl) 125 _ (by rfl) (fmc 6) (by kernel_rfl) ?_
 refine aC (by rfl) 125 _ (by rfl) (fmc 7) (by kernel_rfl) ?_
 refine aC (by rfl) 125 _ (by rfl) (fmc 8) (by kernel_rfl) ?_
 refine aC (by rfl) 125 _ (by rfl) (fmc 9) (by kernel_rfl) ?_
 refine aC (by rfl) 125 _ (by rfl) (fmc 10) (by kernel_rfl) ?_
 refine aC (by rfl) 125 _ (by rfl) (fmc 11) (by kernel_rfl) ?_
 refine aC (by rfl) 125 _ (by rfl) (fmc 12) (by kernel_rfl) ?_
 refine aC (by rfl) 125 _ (by rfl) (fmc 13) (by kernel_rfl) ?_
 refine aC (by rfl) 125 _ (by rfl) (fmc 14) (by kernel_rfl) ?_
 refine aC (by rfl) 125 _ (by rfl) (fmc 15) (by kernel_rfl) ?_
 refine aC (by rfl) 125 _ (by rfl) (fmc 16) (by kernel_rfl) ?_
 refine aC (by rfl) 125 _ (by rfl) (fmc 17) (by kernel_rfl) ?_
 refine aC (by rfl) 125 _ (by rfl) (fmc 18) (by kernel_rfl) ?_
 refine aC (by rfl) 125 _ (by rfl) (fmc 19) (by kernel_rfl) ?_
 refine aC (by rfl) 125 _ (by rfl) (fmc 20) (by kernel_rfl) ?_
 refine aC (by rfl) 125 _ (by rfl) (fmc 21) (by kernel_rfl) ?_
 refine aC (by rfl) 125 _ (by rfl) (fmc 22) (by kernel_rfl) ?_
 refine aC (by rfl) 125 _ (by rfl) (fmc 23) (by kernel_rfl) ?_
 refine aC (by rfl) 125 _ (by rfl) (fmc 24) (by kernel_rfl) ?_
 refine aC (by rfl) 125 _ (by rfl) (fmc 25) (by kernel_rfl) ?_
 refine aC (by rfl) 125 _ (by rfl) (fmc 26) (by kernel_rfl) ?_
 refine aC (by rfl) 125 _ (by rfl) (fmc 27) (by kernel_rfl) ?_
 refine aC (by rfl) 125 _ (by rfl) (fmc 28) (by kernel_rfl) ?_
 refine aC (by rfl) 125 _ (by rfl) (fmc 29) (by kernel_rfl) ?_
 refine aC (by rfl) 125 _ (by rfl) (fmc 30) (by kernel_rfl) ?_
 refine aC (by rfl) 125 _ (by rfl) (fmc 31) (by kernel_rfl) ?_
 refine aC (by rfl) 125 _ (by rfl) (fmc 32) (by kernel_rfl) ?_
 refine aC (by rfl) 125 _ (by rfl) (fmc 33) (by kernel_rfl) ?_
 refine aC (by rfl) 125 _ (by rfl) (fmc 34) (by kernel_rfl) ?_
 refine aC (by rfl) 125 _ (by rfl) (fmc 35) (by kernel_rfl) ?_
 refine aC (by rfl) 138 _ (by rfl) fmA (by kernel_rfl) ?_
 simp only [Act.put, ZqA, ZqB, ZqC]
 go_wp2
 go_loopw [43] (fun x wr => ∃ i : Nat, i ≤ 36 ∧ x = .int .i64 (i : Int) ∧ Hid (∀ j, j < i → ¬ fmH op j) ∧ Hid (Row wr w.heap.size fmZ 125 ∧ Below w.heap.size w wr)) (fun x _ => 36 - (intOf x).toNat)
 case atStart => exact ⟨0, by omega, rfl, fun j hj => absurd hj (by omega), r0.out, b0.out⟩
 case round =>
  obtain ⟨i, hi, rfl, hno, hw⟩ := hrel
  clear r0 b0
  by_cases hlt : i < 36
  ·have hltI : (i : Int) < 36 := by omega
   have ii := GV i hlt
   go_upto_region 4 with (refine aK (by rfl) 125 _ _ (by rfl) (by rfl) fmZ (fmc i) (by rfl) (by rfl) (gF i) (by rfl) (mT i) ?_)
   refine kB (motive := fun W => Code.wp _ _ _ _ W) (Q := fun W => Row W wr.heap.size (fmc i) 125 ∧ Row W w.heap.size fmZ 125 ∧ Below w.heap.size w W) ⟨Row.new wr _ _, hw.out.1.old hw.out.1.lt _, hw.out.2.trans ((aG wr _).mono hw.out.2.size)⟩ ?_
   have hne : wr.heap.size ≠ w.heap.size := by have := hw.out.1.lt; omega
   clear hw ii
   generalize wr.heap.size = gf at hne ⊢
   rintro W2 ⟨rf, rz, bw⟩
   have c0 : W2.cell? ⟨gf, 0, none⟩ = some (.int .i64 (fmG i).1) := rf.cell 0
   have c1 : W2.cell? ⟨gf, 1, none⟩ = some (.int .i64 (fmG i).2.1) := rf.cell 1
   have HF := hid rf
   have HZ := hid rz
   have HB := hid bw
   have hFH : Hid (fmH op i ↔ ((fmG i).1 ≤ op ∧ op ≤ (fmG i).2.1)) := Iff.rfl
   clear rf rz bw
   generalize (fmG i).1 = A at c0 hFH
   generalize (fmG i).2.1 = D at c1 hFH
   by_cases h1 : A ≤ op
   ·by_cases h2 : op ≤ D
    ·go_wp2_with (first | (refine wpList_load_row (by rfl) _ _ (by rfl) _ (by rfl) 125 _ (0, 0) _ HF.out underlying125 (by rfl) (gF i) ?_) | (refine aA (by rfl) _ _ _ (by rfl) (by rfl) _ _ _ (by rfl) (by rfl) HZ.out (gF i) (by rfl) (mT i) ?_))
     exact ZqH (v := .tuple #[.agg (fmc i), .bool true]) (cE results43 _ _ w.heap.size 125 _ (0, 0) _ _ (by rfl) (by rfl) (ZqW _ _ _ _ _ _ HZ.out) underlying125 (by rfl) (gF i)) rfl ⟨aW HB.out (ZqE _) _, .inl ⟨i, hlt, hFH.out.2 ⟨h1, h2⟩, rfl⟩⟩
    ·go_wp2
     go_roundw
     case rel => exact ⟨i + 1, by omega, by go_num, (fun j hj => (Nat.lt_or_ge j i).elim (fun q => hno.out j q) (fun q => by have e : j = i := (by omega); rw [e]; exact fun q' => (fun q => h2 q.2) (hFH.out.1 q'))), HZ.out, HB.out⟩
     case measure => simp only [intOf]; omega
   ·go_wp2
    go_roundw
    case rel => exact ⟨i + 1, by omega, by go_num, (fun j hj => (Nat.lt_or_ge j i).elim (fun q => hno.out j q) (fun q => by have e : j = i := (by omega); rw [e]; exact fun q' => (fun q => h1 q.1) (hFH.out.1 q'))), HZ.out, HB.out⟩
    case measure => simp only [intOf]; omega
  ·have hltI : ¬ (i : Int) < 36 := by omega
   have HZ : Hid (Row wr w.heap.size fmZ 125) := hw.out.1
   have HB : Hid (Below w.heap.size w wr) := hw.out.2
   have hAll : Hid (∀ j, j < 36 → ¬ fmH op j) := fun j hj => hno.out j (by omega)
   have hbz : prog.built 125 [] = some fmZ := by kernel_rfl
   clear hw hno
   go_wp2_with (first | (refine aC (by rfl) 125 _ (by rfl) fmZ (by kernel_rfl) ?_) | (refine aA (by rfl) _ _ _ (by rfl) (by rfl) _ fmZ fmZ (by rfl) (by rfl) HZ.out (by kernel_rfl) (by rfl) (by kernel_rfl) ?_))
   exact ZqH (v := .tuple #[.agg fmZ, .bool false]) (cE results43 _ _ w.heap.size 125 _ (0, 0) _ _ (by rfl) (by rfl) (ZqW _ _ _ _ _ _ HZ.out) underlying125 (by rfl) (by kernel_rfl)) rfl ⟨aW HB.out (ZqE _) _, .inr ⟨hAll.out, rfl⟩⟩
def rgB (n : Int) : Bool := decide (0 ≤ n) && decide (n < 32)
def ftB (i : Ins) : Bool := rgB i.rd && rgB i.r1 && rgB i.r2 && (decide (i.ln = 2) || decide (i.ln = 4))
theorem pV (a b c : Int) : (∀ w : World, (Instr.index 140 (.agg #[.int .i64 a, .int .i64 b, .int .i64 c]) (.int .i64 0)).run prog w = .ok (.int .i64 a) w) ∧ (∀ w : World, (Instr.index 140 (.agg #[.int .i64 a, .int .i64 b, .int .i64 c]) (.int .i64 1)).run prog w = .ok (.int .i64 b) w) ∧ ∀ w : World, (Instr.index 140 (.agg #[.int .i64 a, .int .i64 b, .int .i64 c]) (.int .i64 2)).run prog w = .ok (.int .i64 c) w := ⟨fun _ => by kernel_rfl, fun _ => by kernel_rfl, fun _ => by kernel_rfl⟩
def wF (a b c : Int) (i : Nat) : Int := if i = 0 then a else if i = 1 then b else c
theorem DG (a b c : Int) : ∀ i : Nat, i < 3 → ∀ w : World, (Instr.index 140 (.agg #[.int .i64 a, .int .i64 b, .int .i64 c]) (.int .i64 (i : Int))).run prog w = .ok (.int .i64 (wF a b c i)) w
 | 0, _, w => (pV a b c).1 w
 | 1, _, w => (pV a b c).2.1 w
 | 2, _, w => (pV a b c).2.2 w
 | n + 3, h, _ => absurd h (by omega)
theorem BP {g : Nat} {k : Wk} {w : World} (hr : Row w g (wkc k) 74) : Calls prog 45 #[.pointer (some ⟨g, 0, none⟩)] w fun e w' => e = .returned (.bool (ftB k.i)) ∧ Below w.heap.size w w' := by
 have c1 := hr.kls.rd
 have c2 := hr.kls.r1
 have c3 := hr.kls.r2
 have c4 := hr.kls.ln
 have HE : Hid (ftB k.i = (rgB k.i.rd && rgB k.i.r1 && rgB k.i.r2 && (decide (k.i.ln = 2) || decide (k.i.ln = 4)))) := rfl
 generalize ftB k.i = R at HE ⊢
 generalize k.i.rd = A at c1 HE
 generalize k.i.r1 = D at c2 HE
 generalize k.i.r2 = E at c3 HE
 generalize k.i.ln = N at c4 HE
 clear hr
 have HNO : Hid (∀ i, i < 3 → rgB (wF A D E i) = false → R = false) := fun i hi h => by
  rw [HE.out]
  match i, hi, h with
  | 0, _, h => rw [show rgB A = false from h]; rfl
  | 1, _, h => rw [show rgB D = false from h]; simp
  | 2, _, h => rw [show rgB E = false from h]; simp
 have HYE : Hid ((∀ i, i < 3 → rgB (wF A D E i) = true) → R = (decide (N = 2) || decide (N = 4))) := fun h => by
  rw [HE.out, show rgB A = true from h 0 (by omega), show rgB D = true from h 1 (by omega), show rgB E = true from h 2 (by omega)]; rfl
 have HII := DG A D E
 go_enter func45, ntmps45
 go_wp2
 go_quiet (fail)
 go_wp2
 go_loopw [21] (fun x wr => ∃ i : Nat, i ≤ 3 ∧ x = .int .i64 (i : Int) ∧ Hid (∀ j, j < i → rgB (wF A D E j) = true) ∧ wr = w.drewN nq) (fun x _ => 3 - (intOf x).toNat)
 case atStart => exact ⟨0, by omega, rfl, fun j hj => absurd hj (by omega), rfl⟩
 case round =>
  obtain ⟨i, hi, rfl, hno, hwr⟩ := hrel
  subst hwr
  by_cases hlt : i < 3
  ·have hltI : (i : Int) < 3 := by omega
   have ii := HII i hlt
   have HX := HNO.out i hlt
   have HX2 : Hid (rgB (wF A D E i) = true → ∀ j, j < i + 1 → rgB (wF A D E j) = true) := fun h j hj => (Nat.lt_or_ge j i).elim (fun q => hno.out j q) (fun q => by have e : j = i := (by omega); rw [e]; exact h)
   clear HII hno
   generalize wF A D E i = X at ii HX HX2
   by_cases h1 : X < 0
   ·have HV : Hid (R = false) := HX (by simp [rgB]; omega)
    clear HX HX2
    go_wp2
    go_ret
    exact ⟨by rw [HV.out]; rfl, below_drewN (ZqD _ _) _⟩
   ·by_cases h2 : 32 ≤ X
    ·have HV : Hid (R = false) := HX (by simp [rgB]; omega)
     clear HX HX2
     go_wp2
     go_ret
     exact ⟨by rw [HV.out]; rfl, below_drewN (ZqD _ _) _⟩
    ·have HV : Hid (∀ j, j < i + 1 → rgB (wF A D E j) = true) := HX2.out (by simp [rgB]; omega)
     clear HX HX2
     go_wp2
     go_roundw
     case rel => exact ⟨i + 1, by omega, by go_num, HV, trivial⟩
     case measure => simp only [intOf]; omega
  ·have hltI : ¬ (i : Int) < 3 := by omega
   have HV : Hid (R = (decide (N = 2) || decide (N = 4))) := HYE.out (fun j hj => hno.out j (by omega))
   clear HYE HNO HE HII hno
   by_cases h1 : N = 2
   ·subst h1
    go_wp2
    go_ret
    exact ⟨by rw [HV.out]; rfl, below_drewN (ZqD _ _) _⟩
   ·by_cases h2 : N = 4
    ·subst h2
     go_wp2
     go_ret
     exact ⟨by rw [HV.out]; rfl, below_drewN (ZqD _ _) _⟩
    ·go_wp2
     go_ret
     exact ⟨by rw [HV.out]; simp [h1, h2], below_drewN (ZqD _ _) _⟩
def UF (Pr : Nat → Oper → Prop) : Nat → List Oper → Prop
 | _, [] => True
 | j, o :: r => Pr j o ∧ UF Pr (j + 1) r
theorem IH {Pr : Nat → Oper → Prop} : ∀ (l : List Oper) (j : Nat), UF Pr j l → ∀ i o, l[i]? = some o → Pr (j + i) o
 | [], _, _, i, o, h => by simp at h
 | x :: r, j, hh, 0, o, h => by
  obtain rfl : x = o := by simpa using h
  exact hh.1
 | x :: r, j, hh, i + 1, o, h => by
  have q := IH r (j + 1) hh.2 i o (by simpa using h)
  rwa [show j + 1 + i = j + (i + 1) by omega] at q
theorem hO {Pr : Nat → Oper → Prop} {l : List Oper} (h : UF Pr 0 l) : ∀ i o, l.toArray[i]? = some o → Pr i o := fun i o ho => by
 have q := IH l 0 h i o (by simpa using ho)
 rwa [ZqU] at q
theorem BR {B g n s : Nat} {L : Lay} {S : St} {w : World} {k : Wk} (h : Pre B L S w g k) (h1 : k.i.r1 = (n : Int)) (hn : n < 32) (hsz : k.sz = (s : Int)) (hs1 : 0 < s) (hs8 : s ≤ 8) :
  Calls prog 94 #[.pointer (some ⟨g, 0, none⟩)] w fun e w' => Ret B L w g (PL S (wL L.b (PR k.k) (k.p.x n + iB k.i.im)) s none).t (PL S (wL L.b (PR k.k) (k.p.x n + iB k.i.im)) s none).S { k with d := { k.d with me := 1, ad := k.p.x n + iB k.i.im, sz := (s : Int), da := loV 0#64 s } } (.int .u64 (n64 (PL S (wL L.b (PR k.k) (k.p.x n + iB k.i.im)) s none).old)) e w' := by
 have HI : Hid (∀ W, Row W g (wkc k) 74 → Calls prog 88 #[.pointer (some ⟨g, 0, none⟩)] W fun e w' => e = .returned (.int .u64 (n64 (iB k.i.im))) ∧ w' = W) := fun W h => dO h
 have HF : Hid (Calls prog 90 #[.pointer (some ⟨g, 0, none⟩)] w fun e w' => e = .returned (.int .u64 (n64 (k.p.x n))) ∧ Below w.heap.size w w') := dX h.r h1 hn
 have HL : Hid (∀ W L1, PB B L1 S W → L1.b = L.b → Tb W → Calls prog 127 #[.agg (cpc k.k), .pointer (some ⟨L.b, 0, none⟩), .int .u64 (n64 (k.p.x n + iB k.i.im)), .int .i64 (s : Int)] W fun e w' => e = .returned (.tuple #[.int .u64 (n64 (PL S (wL L.b (PR k.k) (k.p.x n + iB k.i.im)) s none).old), .agg (tpc (PL S (wL L.b (PR k.k) (k.p.x n + iB k.i.im)) s none).t)]) ∧ ∃ L', PSt B L1 W L' (PL S (wL L.b (PR k.k) (k.p.x n + iB k.i.im)) s none).S w') := fun W L1 hp hb ht => by
  have q := NL W hp h.s ht h.hB k.k (k.p.x n + iB k.i.im) s
  rw [hb] at q
  exact q
 have e1 : IntKind.u64.wrap (n64 (k.p.x n) + n64 (iB k.i.im)) = n64 (k.p.x n + iB k.i.im) := dA _ _
 have HP := hid h
 generalize PL S (wL L.b (PR k.k) (k.p.x n + iB k.i.im)) s none = m at HL ⊢
 generalize k.p.x n + iB k.i.im = ad at e1 HL ⊢
 clear h
 go_enter func94, ntmps94
 go_upto_region 2 with (first | (go_at_call 90; refine HF.out.mono ?_; rintro e w1 ⟨rfl, hb⟩; have HB := hid hb; clear hb) | (go_at_call 88; refine (HI.out _ (HP.out.later HB.out).r).mono ?_; rintro e w2 ⟨rfl, hw⟩; have hw2 := hw.symm; subst hw2))
 have HP1 : Hid (Pre B L S w1 g k) := HP.out.later HB.out
 have hbb := HP1.out.bb
 have hlt : g < w1.heap.size := HP1.out.r.lt
 have HC : Hid (∀ w9 L9, Jw B L w1 S m.S g (wkc k) 74 L9 false w9 → Calls prog 127 #[.agg (cpc k.k), .pointer (some ⟨L.b, 0, none⟩), .int .u64 (n64 ad), .int .i64 (s : Int)] w9 fun e w' => e = .returned (.tuple #[.int .u64 (n64 m.old), .agg (tpc m.t)]) ∧ ∃ L', Jw B L w1 S m.S g (wkc k) 74 L' true w' ∧ Fr L9 w9 L' w') := fun w9 L9 hJ => by
  refine (HL.out w9 L9 hJ.p.p hJ.p.b.1 (hJ.p.tb HP1.out.t HP1.out.hB HP1.out.p)).mono ?_
  rintro e w' ⟨rfl, L', hp⟩
  exact ⟨rfl, L', hJ.call hp⟩
 refine dH (by kernel_rfl) (fun i => ([[], [0], [1], [2], [], [4], [5], [6], [], [], [9], [10], [11], [3, 7, 8, 12], [13], [14], [14], [], [15], [17, 16]] : List (List Nat)).getD i []) (fun i => ([some (.pointer (some ⟨g, 0, none⟩)), some (.pointer (some ⟨g, 0, none⟩)), some (.pointer (some ⟨g, 82, none⟩)), some (.agg (cpc k.k)), some (.pointer (some ⟨g, 0, none⟩)), some (.pointer (some ⟨g, 0, none⟩)), some (.pointer (some ⟨g, 164, none⟩)), some (.pointer (some ⟨L.b, 0, none⟩)), some (.int .u64 (n64 ad)), some (.pointer (some ⟨g, 0, none⟩)), some (.pointer (some ⟨g, 0, none⟩)), some (.pointer (some ⟨g, 174, none⟩)), some (.int .i64 (s : Int)), some (.tuple #[.int .u64 (n64 m.old), .agg (tpc m.t)]), some (.tuple #[.int .u64 (n64 m.old), .agg (tpc m.t)]), some (.int .u64 (n64 m.old)), some (.agg (tpc m.t)), none, some (.int .u64 (n64 m.old)), none] : List (Option Value)).getD i none) [⟨17, 19, 16, 42, tpc tN, tpc m.t⟩] 13 w1.heap.size (Jw B L w1 S m.S g (wkc k) 74) _ w1 (by kernel_rfl) (by kernel_rfl) ?_ L (⟨(PSt.refl HP1.out.p).post (ZqD _ _).drew, HP1.out.r.later (ZqD _ _).drew HP1.out.r.lt, HP1.out.n⟩) rfl (by decide) ?_ (fun L b w w' h hb => h.later hb) (fun L b w q cs h hq hb => h.put hlt hq hb cs) (fun L b w q h hq => h.own hq) (hO ⟨?_, ?_, ?_, ?_, ?_, ?_, ?_, ?_, ?_, ?_, ?_, ?_, ?_, ?_, ?_, ?_, ?_, ?_, ?_, ?_, trivial⟩) ?_
 ·intro p hp q hq e; rw [List.mem_singleton.1 hp, List.mem_singleton.1 hq]
 ·intro q hq
  rw [List.mem_singleton.1 hq]
  exact ⟨(by show 17 < _; decide), (by show 19 < _; decide)⟩
 ·exact opn_old _ (.pointer (some ⟨g, 0, none⟩)) 0 rfl rfl (by simp) rfl (by decide) (by kernel_rfl) rfl (fun ρ w9 L9 b9 q hJ => by simp [execOp, q, go_sem])
 ·exact opn_new _ _ 12 0 rfl rfl (by simp) rfl (by decide) (by decide) rfl (fun _ => rfl) (fun ρ w9 L9 b9 q hJ => by simp [execOp, q, go_sem])
 ·exact opn_new _ _ 13 1 rfl rfl (by simp) rfl (by decide) (by decide) rfl (fun _ => rfl) (fun ρ w9 L9 b9 q hJ => by simp [execOp, q, go_sem])
 ·exact opn_new _ _ 14 2 rfl rfl (by simp) rfl (by decide) (by decide) rfl (fun _ => rfl) (fun ρ w9 L9 b9 q hJ => by have hl := iU (P := prog) 31 g 82 (cpc k.k) _ w9 hJ.r.kls.kk underlying31 (by rfl) (aB _); simp only [execOp, q]; exact hl)
 ·exact opn_old _ (.pointer (some ⟨g, 0, none⟩)) 0 rfl rfl (by simp) rfl (by decide) (by kernel_rfl) rfl (fun ρ w9 L9 b9 q hJ => by simp [execOp, q, go_sem])
 ·exact opn_new _ _ 16 4 rfl rfl (by simp) rfl (by decide) (by decide) rfl (fun _ => rfl) (fun ρ w9 L9 b9 q hJ => by simp [execOp, q, go_sem])
 ·exact opn_new _ _ 17 5 rfl rfl (by simp) rfl (by decide) (by decide) rfl (fun _ => rfl) (fun ρ w9 L9 b9 q hJ => by simp [execOp, q, go_sem])
 ·exact opn_new _ _ 18 6 rfl rfl (by simp) rfl (by decide) (by decide) rfl (fun _ => rfl) (fun ρ w9 L9 b9 q hJ => by have hl := hJ.r.kls.b; rw [hbb] at hl; simp [execOp, q, hl, go_sem])
 ·exact opn_old _ (.int .u64 (n64 ad)) 3 rfl rfl (by simp) rfl (by decide) (by kernel_rfl) rfl (fun ρ w9 L9 b9 q hJ => by simp [execOp, q, go_sem])
 ·exact opn_old _ (.pointer (some ⟨g, 0, none⟩)) 0 rfl rfl (by simp) rfl (by decide) (by kernel_rfl) rfl (fun ρ w9 L9 b9 q hJ => by simp [execOp, q, go_sem])
 ·exact opn_new _ _ 21 9 rfl rfl (by simp) rfl (by decide) (by decide) rfl (fun _ => rfl) (fun ρ w9 L9 b9 q hJ => by simp [execOp, q, go_sem])
 ·exact opn_new _ _ 22 10 rfl rfl (by simp) rfl (by decide) (by decide) rfl (fun _ => rfl) (fun ρ w9 L9 b9 q hJ => by simp [execOp, q, go_sem])
 ·exact opn_new _ _ 23 11 rfl rfl (by simp) rfl (by decide) (by decide) rfl (fun _ => rfl) (fun ρ w9 L9 b9 q hJ => by have hl := hJ.r.kls.sz; rw [hsz] at hl; simp [execOp, q, hl, go_sem])
 ·refine iA (.tuple #[.int .u64 (n64 m.old), .agg (tpc m.t)]) 127 #[.agg (cpc k.k), .pointer (some ⟨L.b, 0, none⟩), .int .u64 (n64 ad), .int .i64 (s : Int)] rfl rfl (by simp) rfl rfl (fun a w9 L9 ho hn hJ => ?_) (fun w9 L9 hJ => ?_)
  ·
   have q0 : a.eval (.tmp 15) = .agg (cpc k.k) := hn 3 (by decide) _ rfl
   have q1 : a.eval (.tmp 19) = .pointer (some ⟨L.b, 0, none⟩) := hn 7 (by decide) _ rfl
   have q2 : a.eval (.tmp 20) = .int .u64 (n64 ad) := hn 8 (by decide) _ rfl
   have q3 : a.eval (.tmp 24) = .int .i64 (s : Int) := hn 12 (by decide) _ rfl
   have hf : a.eval (.func 127) = .func (.func 127) #[] #[] := rfl
   clear ho hn
   generalize a.eval = ρ at *
   simp [execOp, q0, q1, q2, q3, hf, go_sem]
  ·
   exact HC.out w9 L9 hJ
 ·exact opn_new _ _ 25 13 rfl rfl (by simp) rfl (by decide) (by decide) rfl (fun _ => rfl) (fun ρ w9 L9 b9 q hJ => by simp [execOp, q, go_sem])
 ·exact opn_new _ _ 11 14 rfl rfl (by simp) rfl (by decide) (by decide) rfl (fun _ => rfl) (fun ρ w9 L9 b9 q hJ => by simp [execOp, q, go_sem])
 ·exact opn_new _ _ 11 14 rfl rfl (by simp) rfl (by decide) (by decide) rfl (fun _ => rfl) (fun ρ w9 L9 b9 q hJ => by simp [execOp, q, go_sem])
 ·refine eM ⟨17, 19, 16, 42, tpc tN, tpc m.t⟩ rfl rfl (by simp) (by simp) rfl (fun a w9 => ?_)
  have hz := bU w9
  generalize a.eval = ρ
  simp [execOp, go_sem, hz, ptr]
 ·exact opn_new _ _ 26 15 rfl rfl (by simp) rfl (by decide) (by decide) rfl (fun _ => rfl) (fun ρ w9 L9 b9 q hJ => by simp [execOp, q, go_sem])
 ·exact dE ⟨17, 19, 16, 42, tpc tN, tpc m.t⟩ (.tmp 5) (.tmp 27) rfl rfl rfl (by simp) rfl rfl ⟨(by show (17 : Nat) ∈ [17, 16]; decide), (by show (16 : Nat) ∈ [17, 16]; decide)⟩ rfl (fun a => rfl) (fun a => rfl) (aD _) (bC _ _) (aN _)
 ·intro W9 L9 pg hJ hrow hdis
  have hr1 := (hrow _ (List.mem_singleton.2 rfl)).1
  simp only [dW, Act.put, List.getD_cons_zero, List.getD_cons_succ, Option.getD_some, Option.getD_none, ZqA, ZqB, ZqC]
  simp only [Nat.reduceAdd, ptr]
  simp only at hr1
  generalize pg 17 = gt at hr1 ⊢
  have HT : Hid (Row W9 gt (tpc m.t) 42) := hr1
  have HJ : Hid (Jw B L w1 S m.S g (wkc k) 74 L9 true W9) := hJ
  clear hrow hdis hJ hr1 HC HL HF HI
  have HB1 : Hid (Bst B L w g L9 m.S W9) := (Bst.later HP.out.p HB.out).trans HP.out.r.lt (Bst.of_pst HJ.out.p)
  cases ht : m.t.is with
  | true =>
   go_wp2_with (first | (refine wpList_load_row (by rfl) _ _ (by rfl) _ (by rfl) 42 _ (0, 0) _ HT.out underlying42 (by rfl) (aD _) ?_) | (go_at_call 96; refine (nD _ m.t ht _).mono ?_))
   rintro e w' hp
   obtain ⟨rfl, hb⟩ := hp
   exact ⟨rfl, L9, HB1.out.trans HP.out.r.lt (Bst.later HB1.out.p hb), HJ.out.n, .inl ⟨ht, rfl⟩⟩
  | false =>
   go_wp2_with (first | (refine wpList_load_row (by rfl) _ _ (by rfl) _ (by rfl) 42 _ (0, 0) _ HT.out underlying42 (by rfl) (aD _) ?_) | (go_at_call 96; refine (nE _ m.t ht _).mono ?_; rintro e w4 ⟨rfl, hb4⟩; have HB4 := hid hb4; have HK4 : Hid (Mk g W9 w4 k) := Mk.later HJ.out.r hb4; clear hb4) | (go_at_call 97; refine (nF HK4.out.r hsz hs1 hs8 1 ad 0#64).mono ?_; rintro e w5 ⟨rfl, hm5⟩; have HM5 := hm5; clear hm5))
   go_ret
   exact ⟨L9, HB1.out.trans HP.out.r.lt (Bst.of_mk HB1.out.p HJ.out.n (HK4.out.x.trans HM5.x)), HJ.out.n, .inr ⟨ht, rfl, HM5.r⟩⟩
end Go.Proofs.YtddlmenfcbjoaaaGreatDoor
