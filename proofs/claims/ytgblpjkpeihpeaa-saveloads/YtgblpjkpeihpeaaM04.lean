/-
  Bfr.
-/
import Derived.Test.YtgblpjkpeihpeaaM03
namespace Go.Proofs.Ytgblpjkpeihpeaa
set_option linter.unusedVariables false
open Go.ChangeShapes Go.WideShapes Go.ChangeAt Go.RowKit Go.Deep
/-- What an operation of a region leaves, by what those ahead of it have left. -/
inductive Kd where
  | con (c : Value)
  | own (l : List Int)
  | agg (f : List Value → Array Value)
  | box (f : List Value → Array Value) (t : TypeId)
  | same
  | mem (f : List Value → World → Prop)
def FK (B : Nat) : Kd → List Value → World → Prop
  | .con c, v :: _, _ => v = c
  | .own l, v :: _, w => w.ownsRow B 5 1 v l.length (bv l)
  | .agg f, v :: vs, _ => v = .agg (f vs)
  | .box f t, v :: vs, w => ∃ g, v = .pointer (some ⟨g, 0, none⟩) ∧ B ≤ g ∧ w.heap[g]? = some (.cells (f vs) t (0, 0))
  | .same, v :: vs, _ => v = vs.getD 0 undef
  | .mem f, _ :: vs, w => f vs w
  | _, [], _ => False
theorem FK.mono {B : Nat} {G : Nat → Prop} {k : Kd} {vs : List Value} {w w' : World} (hG : ∀ k, G k → k < B) (hm : ∀ f, k ≠ .mem f) (h : FK B k vs w) (hx : Exk G w w') : FK B k vs w' := by
  have hb := hx.e
  cases vs with
  | nil => cases k <;> exact h
  | cons v vs =>
    cases k with
    | con c => exact h
    | own l => exact own_exc h hb (fun k hk hg => by have := (World.ownsRow.lt h k hk).1; have := hG k hg; omega)
    | agg f => exact h
    | same => exact h
    | mem f => exact absurd rfl (hm f)
    | box f t =>
      obtain ⟨g, h1, h2, h3⟩ := h
      exact ⟨g, h1, h2, by rw [hb.block g (Array.getElem?_eq_some_iff.1 h3).1 (fun hg => by have := hG g hg; omega)]; exact h3⟩
/-- The state in memory, as the program keeps it. -/
def frNeed : Nat → List Nat
  | 1 => [0] | 2 => [1] | 3 => [2] | 4 => [3, 2]
  | 6 => [5] | 8 => [7] | 9 => [6, 8] | 10 => [9]
  | 12 => [11] | 13 => [12] | 14 => [13]
  | 16 => [15] | 17 => [16] | 18 => [17]
  | 20 => [19] | 21 => [20] | 22 => [21]
  | 24 => [23] | 26 => [25] | 28 => [27] | 30 => [29]
  | 32 => [31] | 33 => [32] | 35 => [34] | 36 => [33, 35] | 37 => [36, 33]
  | 39 => [38] | 40 => [39] | 41 => [37, 40, 24, 26, 28, 30] | 42 => [41, 37, 40]
  | 44 => [43] | 46 => [45] | 47 => [4, 10, 14, 18, 22, 42, 44, 46] | 48 => [47, 4, 10, 14, 18, 22, 42] | 49 => [48]
  | _ => []
def frKd (S : St) (vr vi vo : Value) (p : Nat) : Nat → Kd
  | 0 => .con (.pointer (some ⟨p, 0, none⟩)) | 1 => .con vr | 2 => .own S.ram | 3 => .agg (fun vs => #[vs.getD 0 undef]) | 4 => .box (fun vs => #[vs.getD 1 undef]) 82
  | 5 => .con (.pointer (some ⟨p, 13, none⟩)) | 6 => .con (.int .i64 S.off) | 7 => .con (.pointer (some ⟨p, 14, none⟩)) | 8 => .con (.int .i64 S.code) | 9 => .con (.agg #[.int .i64 S.off, .int .i64 S.code]) | 10 => .box (fun _ => #[.int .i64 S.off, .int .i64 S.code]) 85
  | 11 => .con (.pointer (some ⟨p, 1, none⟩)) | 12 => .con (.int .u32 S.msip) | 13 => .con (.agg #[.int .u32 S.msip]) | 14 => .box (fun _ => #[.int .u32 S.msip]) 88
  | 15 => .con (.pointer (some ⟨p, 2, none⟩)) | 16 => .con (.int .u64 S.cmp) | 17 => .con (.agg #[.int .u64 33570816, .int .u64 S.cmp]) | 18 => .box (fun _ => #[.int .u64 33570816, .int .u64 S.cmp]) 91
  | 19 => .con (.pointer (some ⟨p, 3, none⟩)) | 20 => .con (.int .u64 S.time) | 21 => .con (.agg #[.int .u64 33603576, .int .u64 S.time]) | 22 => .box (fun _ => #[.int .u64 33603576, .int .u64 S.time]) 91
  | 23 => .con (.pointer (some ⟨p, 6, none⟩)) | 24 => .con (.int .u8 S.ier) | 25 => .con (.pointer (some ⟨p, 7, none⟩)) | 26 => .con (.int .u8 S.lcr)
  | 27 => .con (.pointer (some ⟨p, 8, none⟩)) | 28 => .con (.int .u8 S.mcr) | 29 => .con (.pointer (some ⟨p, 9, none⟩)) | 30 => .con (.int .u8 S.scr)
  | 31 => .con (.pointer (some ⟨p, 11, none⟩)) | 32 => .con vi | 33 => .own S.inp | 34 => .con (.pointer (some ⟨p, 10, none⟩)) | 35 => .con (.bool S.ov)
  | 36 => .agg (fun vs => #[.int .i32 0, .int .u32 0, vs.getD 0 undef, .bool S.ov]) | 37 => .box (fun vs => #[.int .i32 0, .int .u32 0, vs.getD 1 undef, .bool S.ov]) 101
  | 38 => .con (.pointer (some ⟨p, 12, none⟩)) | 39 => .con vo | 40 => .own S.out
  | 41 => .agg (fun vs => #[.int .u8 S.ier, .int .u8 S.lcr, .int .u8 S.mcr, .int .u8 S.scr, vs.getD 0 undef, vs.getD 1 undef])
  | 42 => .box (fun vs => #[.int .u8 S.ier, .int .u8 S.lcr, .int .u8 S.mcr, .int .u8 S.scr, vs.getD 1 undef, vs.getD 2 undef]) 103
  | 43 => .con (.pointer (some ⟨p, 4, none⟩)) | 44 => .con (.bool S.ext) | 45 => .con (.pointer (some ⟨p, 5, none⟩)) | 46 => .con (.bool S.soft)
  | 47 => .agg (fun vs => #[vs.getD 0 undef, vs.getD 1 undef, vs.getD 2 undef, vs.getD 3 undef, vs.getD 4 undef, vs.getD 5 undef, .bool S.ext, .bool S.soft])
  | 48 => .box (fun vs => #[vs.getD 1 undef, vs.getD 2 undef, vs.getD 3 undef, vs.getD 4 undef, vs.getD 5 undef, vs.getD 6 undef, .bool S.ext, .bool S.soft]) 105
  | 49 => .same | _ => .con (.int .i64 0)
/-- The operations, as the text has them. -/
def frTab : Array (Option Tmp × Op × Option (Nat × Bool)) := #[
  (some 7, .fieldAddr 35 (.tmp 1) 0, none),
  (some 8, .load 32 (.tmp 7), none),
  (some 9, .call { callee := .value (.func 41), args := #[.tmp 8], argTypes := #[32] }, none),
  (some 10, .build 82 #[(0, .tmp 9)], none),
  (some 11, .box 82 (.tmp 10), none),
  (some 12, .fieldAddr 35 (.tmp 1) 13, none),
  (some 13, .load 3 (.tmp 12), none),
  (some 14, .fieldAddr 35 (.tmp 1) 14, none),
  (some 15, .load 3 (.tmp 14), none),
  (some 16, .build 85 #[(0, .tmp 13), (1, .tmp 15)], none),
  (some 17, .box 85 (.tmp 16), none),
  (some 18, .fieldAddr 35 (.tmp 1) 1, none),
  (some 19, .load 33 (.tmp 18), none),
  (some 20, .build 88 #[(0, .tmp 19)], none),
  (some 21, .box 88 (.tmp 20), none),
  (some 22, .fieldAddr 35 (.tmp 1) 2, none),
  (some 23, .load 22 (.tmp 22), none),
  (some 24, .build 91 #[(0, .const (.int .u64 33570816)), (1, .tmp 23)], none),
  (some 25, .box 91 (.tmp 24), none),
  (some 26, .fieldAddr 35 (.tmp 1) 3, none),
  (some 27, .load 22 (.tmp 26), none),
  (some 28, .build 91 #[(0, .const (.int .u64 33603576)), (1, .tmp 27)], none),
  (some 29, .box 91 (.tmp 28), none),
  (some 30, .fieldAddr 35 (.tmp 1) 6, none),
  (some 31, .load 5 (.tmp 30), none),
  (some 32, .fieldAddr 35 (.tmp 1) 7, none),
  (some 33, .load 5 (.tmp 32), none),
  (some 34, .fieldAddr 35 (.tmp 1) 8, none),
  (some 35, .load 5 (.tmp 34), none),
  (some 36, .fieldAddr 35 (.tmp 1) 9, none),
  (some 37, .load 5 (.tmp 36), none),
  (some 38, .fieldAddr 35 (.tmp 1) 11, none),
  (some 39, .load 32 (.tmp 38), none),
  (some 40, .call { callee := .value (.func 41), args := #[.tmp 39], argTypes := #[32] }, none),
  (some 41, .fieldAddr 35 (.tmp 1) 10, none),
  (some 42, .load 4 (.tmp 41), none),
  (some 43, .build 101 #[(1, .tmp 40), (2, .tmp 42)], none),
  (some 44, .box 101 (.tmp 43), none),
  (some 45, .fieldAddr 35 (.tmp 1) 12, none),
  (some 46, .load 32 (.tmp 45), none),
  (some 47, .call { callee := .value (.func 41), args := #[.tmp 46], argTypes := #[32] }, none),
  (some 48, .build 103 #[(0, .tmp 31), (1, .tmp 33), (2, .tmp 35), (3, .tmp 37), (4, .tmp 44), (5, .tmp 47)], none),
  (some 49, .box 103 (.tmp 48), none),
  (some 50, .fieldAddr 35 (.tmp 1) 4, none),
  (some 51, .load 4 (.tmp 50), none),
  (some 52, .fieldAddr 35 (.tmp 1) 5, none),
  (some 53, .load 4 (.tmp 52), none),
  (some 54, .build 105 #[(0, .tmp 11), (1, .tmp 17), (2, .tmp 21), (3, .tmp 25), (4, .tmp 29), (5, .tmp 49), (6, .tmp 51), (7, .tmp 53)], none),
  (some 55, .box 105 (.tmp 54), none),
  (some 2, .assign (.tmp 55), none),
  (some 3, .assign (.const (.int .i64 0)), none)]
def frSlot : Nat → Nat
  | 0 => 7  | 1 => 8  | 2 => 9  | 3 => 10  | 4 => 11  | 5 => 12  | 6 => 13  | 7 => 14  | 8 => 15  | 9 => 16  | 10 => 17  | 11 => 18  | 12 => 19  | 13 => 20  | 14 => 21  | 15 => 22  | 16 => 23  | 17 => 24  | 18 => 25  | 19 => 26  | 20 => 27  | 21 => 28  | 22 => 29  | 23 => 30  | 24 => 31  | 25 => 32  | 26 => 33  | 27 => 34  | 28 => 35  | 29 => 36  | 30 => 37  | 31 => 38  | 32 => 39  | 33 => 40  | 34 => 41  | 35 => 42  | 36 => 43  | 37 => 44  | 38 => 45  | 39 => 46  | 40 => 47  | 41 => 48  | 42 => 49  | 43 => 50  | 44 => 51  | 45 => 52  | 46 => 53  | 47 => 54  | 48 => 55  | 49 => 2  | 50 => 3 | _ => 0
def shp (o : Oper) : Option Tmp × Op × Option (Nat × Bool) := (o.dst, o.op, o.guard)
theorem wpOp_plain {P : Program} {ops : Array Oper} {Q : Exit → Act → World → Prop} {i : Nat} {o : Oper} (ho : ops[i]? = some o) (hg : o.guard = none) {K : Act → World → Prop} {a : Act} {w : World} (h : o.wp P a w K Q) : wpOp P ops Q i K a w := by
  unfold wpOp
  simp only [ho]
  rw [if_pos (by simp [Region.wanted, hg])]
  exact .inl h
/-- What is asked behind operation i. -/
def frK (ops : Array Oper) (need : Nat → List Nat) (cs : List Nat) (G : Nat → Prop) (B : Nat) (kd : Nat → Kd) (i : Nat) (o : Oper) (a : Act) (w : World) : Act → World → Prop := fun a' w' => ∃ v, a' = a.put o.dst v ∧ Exk G w w' ∧ (∀ v', o.dst = none ∨ v' = v → FK B (kd i) (v' :: (need i).map (leftBy ops a)) w') ∧ (i ∈ cs → o.dst ≠ none ∧ ∀ g, v.ownBlock = some g → w.heap.size ≤ g)
theorem st_val {P : Program} {ops : Array Oper} {Q : Exit → Act → World → Prop} {need : Nat → List Nat} {cs : List Nat} {G : Nat → Prop} {B : Nat} {kd : Nat → Kd} {i : Nat} {o : Oper} (ho : ops[i]? = some o) {d : Tmp} {op : Op} (hd : shp o = (some d, op, none)) {a : Act} {w w' : World} (v : Value) (hr : (execOp a.eval o).run P w = .ok (.value v) w')
    (hb : Below w.heap.size w w') (hf : FK B (kd i) (v :: (need i).map (leftBy ops a)) w') (hn : i ∉ cs) : wpOp P ops Q i (frK ops need cs G B kd i o a w) a w := by
  refine wpOp_plain ho (congrArg (fun x => x.2.2) hd) ?_
  unfold Oper.wp
  rw [hr]
  refine ⟨v, rfl, Exk.of_below hb rfl, fun v' h => ?_, fun h => absurd h hn⟩
  rcases h with h | h
  · rw [show o.dst = some d from congrArg (fun x => x.1) hd] at h; cases h
  · rw [h]; exact hf
theorem st_call {P : Program} {ops : Array Oper} {Q : Exit → Act → World → Prop} {need : Nat → List Nat} {cs : List Nat} {G : Nat → Prop} {B : Nat} {kd : Nat → Kd} {i : Nat} {o : Oper} (ho : ops[i]? = some o) {d : Tmp} {op : Op} (hd : shp o = (some d, op, none)) {a : Act} {w : World} {f : FuncId} {args : Array Value} (hr : (execOp a.eval o).run P w = .ok (.enter f args) w)
    (hc : Calls P f args w fun e w' => ∃ u, e = .returned u ∧ Below w.heap.size w w' ∧ FK B (kd i) (u :: (need i).map (leftBy ops a)) w' ∧ ∀ g, u.ownBlock = some g → w.heap.size ≤ g) : wpOp P ops Q i (frK ops need cs G B kd i o a w) a w := by
  refine wpOp_plain ho (congrArg (fun x => x.2.2) hd) ?_
  unfold Oper.wp
  rw [hr]
  refine Calls.mono hc ?_
  have hdn : o.dst = some d := congrArg (fun x => x.1) hd
  rintro e w' ⟨u, rfl, h1, h2, h3⟩
  refine ⟨u, rfl, Exk.of_below h1 rfl, fun v' h => ?_, fun _ => ⟨by rw [hdn]; simp, h3⟩⟩
  rcases h with h | h
  · rw [hdn] at h; cases h
  · rw [h]; exact h2
/-- What the region finds: the parameter's box. -/
structure FrIn (S : St) (vr vi vo : Value) (p : Nat) (W : World) : Prop where
  lt : p < W.heap.size
  cell : ∀ j, W.cell? ⟨p, j, none⟩ = (stc S vr vi vo)[j]?
  r : Byt W vr S.ram
  i : Byt W vi S.inp
  o : Byt W vo S.out
  lr : S.ram.length ≤ 140737488355328
  li : S.inp.length ≤ 140737488355328
  lo : S.out.length ≤ 140737488355328
theorem alloc_at (w : World) (o : Obj) : (w.alloc o).heap[w.heap.size]? = some o := by
  show (w.heap.push o)[w.heap.size]? = some o
  simp
theorem own_fresh {w : World} {B n : Nat} {v : Value} {xs : List Value} (h : w.ownsRow B 5 1 v n xs) : ∀ g, v.ownBlock = some g → B ≤ g := fun g hg => (h.lt g hg).1
theorem fr_call {S : St} {vr vi vo : Value} {p : Nat} {W w : World} {l : List Int} {v : Value} (hb : Below W.heap.size W w) (hv : Byt W v l) (hl : l.length ≤ 140737488355328) {B : Nat} (hB : B = W.heap.size) {vs : List Value} :
    Calls Try.prog 41 #[v] w fun e w' => ∃ u, e = .returned u ∧ Below w.heap.size w w' ∧ FK B (.own l) (u :: vs) w' ∧ ∀ g, u.ownBlock = some g → w.heap.size ≤ g := by
  refine (clone_c hl v w (hv.later hb rfl)).mono ?_
  rintro e w' ⟨u, rfl, h1, h2⟩
  exact ⟨u, rfl, h2, own_le h1 (by rw [hB]; exact hb.size), own_fresh h1⟩
theorem fr_cell {S : St} {vr vi vo : Value} {p : Nat} {W w : World} (H : FrIn S vr vi vo p W) (hb : Below W.heap.size W w) (j : Nat) : w.cell? ⟨p, j, none⟩ = (stc S vr vi vo)[j]? := by rw [hb.cell H.lt]; exact H.cell j
theorem own_one {w : World} {B n : Nat} {v : Value} {xs : List Value} (h : w.ownsRow B 5 1 v n xs) : ∃ a n' c, v = .slice a n' c := by
  rcases Go.Joins.ownsRow_forms h with ⟨rfl, _⟩ | ⟨g, cap, rfl⟩
  · exact ⟨_, _, _, rfl⟩
  · exact ⟨_, _, _, rfl⟩
/-- What is shown of each operation. -/
def FrG (i : Nat) (sh : Option Tmp × Op × Option (Nat × Bool)) : Prop := ∀ {S : St} {vr vi vo : Value} {p : Nat} {W : World} {ops : Array Oper} {Q : Exit → Act → World → Prop} (_ : FrIn S vr vi vo p W) {o : Oper} (_ : ops[i]? = some o) (_ : shp o = sh) (a : Act) (w : World)
    (_ : a.eval (.tmp 1) = .pointer (some ⟨p, 0, none⟩)) (_ : Exk (fun _ => False) W w) (_ : leftBy ops a = fun k => a.eval (.tmp (frSlot k))) (_ : ∀ k ∈ frNeed i, FK W.heap.size (frKd S vr vi vo p k) ((k :: frNeed k).map (leftBy ops a)) w),
    wpOp Try.prog ops Q i (frK ops frNeed [2, 33, 40] (fun _ => False) W.heap.size (frKd S vr vi vo p) i o a w) a w
theorem fr_s0 : FrG 0 (some 7, .fieldAddr 35 (.tmp 1) 0, none) := by
  intro S vr vi vo p W ops Q H o ho hd a w h1 hx hl hn
  have hop : o.op = .fieldAddr 35 (.tmp 1) 0 := congrArg (fun x => x.2.1) hd
  have hb : Below W.heap.size W w := hx.e.below (Nat.le_refl _) (fun _ h => h.elim)
  refine st_val ho hd (.pointer (some ⟨p, 0, none⟩)) ?_ (Below.refl _ _) rfl (by decide)
  clear hd hn hl ho
  generalize a.eval = ρ at *
  simp [execOp, hop, h1, go_sem]
theorem fr_s1 : FrG 1 (some 8, .load 32 (.tmp 7), none) := by
  intro S vr vi vo p W ops Q H o ho hd a w h1 hx hl hn
  have hop : o.op = .load 32 (.tmp 7) := congrArg (fun x => x.2.1) hd
  have hb : Below W.heap.size W w := hx.e.below (Nat.le_refl _) (fun _ h => h.elim)
  have q0 : a.eval (.tmp 7) = .pointer (some ⟨p, 0, none⟩) := by
    have h := hn 0 (by decide)
    rw [hl] at h
    exact h
  have hc : w.cell? ⟨p, 0, none⟩ = some (vr) := fr_cell H hb 0
  refine st_val ho hd (vr) ?_ (Below.refl _ _) rfl (by decide)
  clear hd hn hl ho h1
  generalize a.eval = ρ at *
  simp [execOp, hop, q0, hc, go_sem]
theorem fr_s2 : FrG 2 (some 9, .call { callee := .value (.func 41), args := #[.tmp 8], argTypes := #[32] }, none) := by
  intro S vr vi vo p W ops Q H o ho hd a w h1 hx hl hn
  have hop : o.op = .call { callee := .value (.func 41), args := #[.tmp 8], argTypes := #[32] } := congrArg (fun x => x.2.1) hd
  have hb : Below W.heap.size W w := hx.e.below (Nat.le_refl _) (fun _ h => h.elim)
  have q1 : a.eval (.tmp 8) = vr := by
    have h := hn 1 (by decide)
    rw [hl] at h
    exact h
  have hf : a.eval (.func 41) = .func (.func 41) #[] #[] := rfl
  refine st_call ho hd (f := 41) (args := #[vr]) ?_ (fr_call (S := S) (vr := vr) (vi := vi) (vo := vo) (p := p) hb H.r H.lr rfl)
  clear hd hn hl ho h1
  generalize a.eval = ρ at *
  simp [execOp, hop, q1, hf, go_sem]
theorem fr_s3 : FrG 3 (some 10, .build 82 #[(0, .tmp 9)], none) := by
  intro S vr vi vo p W ops Q H o ho hd a w h1 hx hl hn
  have hop : o.op = .build 82 #[(0, .tmp 9)] := congrArg (fun x => x.2.1) hd
  have hb : Below W.heap.size W w := hx.e.below (Nat.le_refl _) (fun _ h => h.elim)
  have q2 : w.ownsRow W.heap.size 5 1 (a.eval (.tmp 9)) S.ram.length (bv S.ram) := by
    have h := hn 2 (by decide)
    rw [hl] at h
    exact h
  obtain ⟨x, y, z, hu⟩ := own_one q2
  refine st_val ho hd (.agg #[a.eval (.tmp 9)]) ?_ (Below.refl _ _) ?_ (by decide)
  · clear hd hn hl ho h1 q2
    generalize a.eval = ρ at *
    simp [execOp, hop, hu, go_sem]
  · rw [hl]; rfl
theorem fr_s4 : FrG 4 (some 11, .box 82 (.tmp 10), none) := by
  intro S vr vi vo p W ops Q H o ho hd a w h1 hx hl hn
  have hop : o.op = .box 82 (.tmp 10) := congrArg (fun x => x.2.1) hd
  have hb : Below W.heap.size W w := hx.e.below (Nat.le_refl _) (fun _ h => h.elim)
  have q3 : a.eval (.tmp 10) = .agg #[a.eval (.tmp 9)] := by
    have h := hn 3 (by decide)
    rw [hl] at h
    exact h
  have q2 : w.ownsRow W.heap.size 5 1 (a.eval (.tmp 9)) S.ram.length (bv S.ram) := by
    have h := hn 2 (by decide)
    rw [hl] at h
    exact h
  refine st_val ho hd (w' := w.alloc (.cells #[a.eval (.tmp 9)] 82)) (.pointer (some ⟨w.heap.size, 0, none⟩)) ?_ ((Below.refl _ _).alloc (Nat.le_refl _) _) ?_ (by decide)
  · clear hn hl ho h1
    clear q2 hd
    generalize a.eval = ρ at *
    simp [execOp, hop, q3, go_sem]
  · rw [hl]; exact ⟨w.heap.size, rfl, hb.size, alloc_at _ _⟩
theorem fr_s5 : FrG 5 (some 12, .fieldAddr 35 (.tmp 1) 13, none) := by
  intro S vr vi vo p W ops Q H o ho hd a w h1 hx hl hn
  have hop : o.op = .fieldAddr 35 (.tmp 1) 13 := congrArg (fun x => x.2.1) hd
  have hb : Below W.heap.size W w := hx.e.below (Nat.le_refl _) (fun _ h => h.elim)
  refine st_val ho hd (.pointer (some ⟨p, 13, none⟩)) ?_ (Below.refl _ _) rfl (by decide)
  clear hd hn hl ho
  generalize a.eval = ρ at *
  simp [execOp, hop, h1, go_sem]
theorem fr_s6 : FrG 6 (some 13, .load 3 (.tmp 12), none) := by
  intro S vr vi vo p W ops Q H o ho hd a w h1 hx hl hn
  have hop : o.op = .load 3 (.tmp 12) := congrArg (fun x => x.2.1) hd
  have hb : Below W.heap.size W w := hx.e.below (Nat.le_refl _) (fun _ h => h.elim)
  have q5 : a.eval (.tmp 12) = .pointer (some ⟨p, 13, none⟩) := by
    have h := hn 5 (by decide)
    rw [hl] at h
    exact h
  have hc : w.cell? ⟨p, 13, none⟩ = some (.int .i64 S.off) := fr_cell H hb 13
  refine st_val ho hd (.int .i64 S.off) ?_ (Below.refl _ _) rfl (by decide)
  clear hd hn hl ho h1
  generalize a.eval = ρ at *
  simp [execOp, hop, q5, hc, go_sem]
theorem fr_s7 : FrG 7 (some 14, .fieldAddr 35 (.tmp 1) 14, none) := by
  intro S vr vi vo p W ops Q H o ho hd a w h1 hx hl hn
  have hop : o.op = .fieldAddr 35 (.tmp 1) 14 := congrArg (fun x => x.2.1) hd
  have hb : Below W.heap.size W w := hx.e.below (Nat.le_refl _) (fun _ h => h.elim)
  refine st_val ho hd (.pointer (some ⟨p, 14, none⟩)) ?_ (Below.refl _ _) rfl (by decide)
  clear hd hn hl ho
  generalize a.eval = ρ at *
  simp [execOp, hop, h1, go_sem]
theorem fr_s8 : FrG 8 (some 15, .load 3 (.tmp 14), none) := by
  intro S vr vi vo p W ops Q H o ho hd a w h1 hx hl hn
  have hop : o.op = .load 3 (.tmp 14) := congrArg (fun x => x.2.1) hd
  have hb : Below W.heap.size W w := hx.e.below (Nat.le_refl _) (fun _ h => h.elim)
  have q7 : a.eval (.tmp 14) = .pointer (some ⟨p, 14, none⟩) := by
    have h := hn 7 (by decide)
    rw [hl] at h
    exact h
  have hc : w.cell? ⟨p, 14, none⟩ = some (.int .i64 S.code) := fr_cell H hb 14
  refine st_val ho hd (.int .i64 S.code) ?_ (Below.refl _ _) rfl (by decide)
  clear hd hn hl ho h1
  generalize a.eval = ρ at *
  simp [execOp, hop, q7, hc, go_sem]
theorem fr_s9 : FrG 9 (some 16, .build 85 #[(0, .tmp 13), (1, .tmp 15)], none) := by
  intro S vr vi vo p W ops Q H o ho hd a w h1 hx hl hn
  have hop : o.op = .build 85 #[(0, .tmp 13), (1, .tmp 15)] := congrArg (fun x => x.2.1) hd
  have hb : Below W.heap.size W w := hx.e.below (Nat.le_refl _) (fun _ h => h.elim)
  have q6 : a.eval (.tmp 13) = .int .i64 S.off := by
    have h := hn 6 (by decide)
    rw [hl] at h
    exact h
  have q8 : a.eval (.tmp 15) = .int .i64 S.code := by
    have h := hn 8 (by decide)
    rw [hl] at h
    exact h
  refine st_val ho hd (.agg #[.int .i64 S.off, .int .i64 S.code]) ?_ (Below.refl _ _) rfl (by decide)
  clear hd hn hl ho h1
  generalize a.eval = ρ at *
  simp [execOp, hop, q6, q8, go_sem]
theorem fr_s10 : FrG 10 (some 17, .box 85 (.tmp 16), none) := by
  intro S vr vi vo p W ops Q H o ho hd a w h1 hx hl hn
  have hop : o.op = .box 85 (.tmp 16) := congrArg (fun x => x.2.1) hd
  have hb : Below W.heap.size W w := hx.e.below (Nat.le_refl _) (fun _ h => h.elim)
  have q9 : a.eval (.tmp 16) = .agg #[.int .i64 S.off, .int .i64 S.code] := by
    have h := hn 9 (by decide)
    rw [hl] at h
    exact h
  refine st_val ho hd (w' := w.alloc (.cells #[.int .i64 S.off, .int .i64 S.code] 85)) (.pointer (some ⟨w.heap.size, 0, none⟩)) ?_ ((Below.refl _ _).alloc (Nat.le_refl _) _) ?_ (by decide)
  · clear hn hl ho h1
    clear hd
    generalize a.eval = ρ at *
    simp [execOp, hop, q9, go_sem]
  · rw [hl]; exact ⟨w.heap.size, rfl, hb.size, alloc_at _ _⟩
theorem fr_s11 : FrG 11 (some 18, .fieldAddr 35 (.tmp 1) 1, none) := by
  intro S vr vi vo p W ops Q H o ho hd a w h1 hx hl hn
  have hop : o.op = .fieldAddr 35 (.tmp 1) 1 := congrArg (fun x => x.2.1) hd
  have hb : Below W.heap.size W w := hx.e.below (Nat.le_refl _) (fun _ h => h.elim)
  refine st_val ho hd (.pointer (some ⟨p, 1, none⟩)) ?_ (Below.refl _ _) rfl (by decide)
  clear hd hn hl ho
  generalize a.eval = ρ at *
  simp [execOp, hop, h1, go_sem]
theorem fr_s12 : FrG 12 (some 19, .load 33 (.tmp 18), none) := by
  intro S vr vi vo p W ops Q H o ho hd a w h1 hx hl hn
  have hop : o.op = .load 33 (.tmp 18) := congrArg (fun x => x.2.1) hd
  have hb : Below W.heap.size W w := hx.e.below (Nat.le_refl _) (fun _ h => h.elim)
  have q11 : a.eval (.tmp 18) = .pointer (some ⟨p, 1, none⟩) := by
    have h := hn 11 (by decide)
    rw [hl] at h
    exact h
  have hc : w.cell? ⟨p, 1, none⟩ = some (.int .u32 S.msip) := fr_cell H hb 1
  refine st_val ho hd (.int .u32 S.msip) ?_ (Below.refl _ _) rfl (by decide)
  clear hd hn hl ho h1
  generalize a.eval = ρ at *
  simp [execOp, hop, q11, hc, go_sem]
theorem fr_s13 : FrG 13 (some 20, .build 88 #[(0, .tmp 19)], none) := by
  intro S vr vi vo p W ops Q H o ho hd a w h1 hx hl hn
  have hop : o.op = .build 88 #[(0, .tmp 19)] := congrArg (fun x => x.2.1) hd
  have hb : Below W.heap.size W w := hx.e.below (Nat.le_refl _) (fun _ h => h.elim)
  have q12 : a.eval (.tmp 19) = .int .u32 S.msip := by
    have h := hn 12 (by decide)
    rw [hl] at h
    exact h
  refine st_val ho hd (.agg #[.int .u32 S.msip]) ?_ (Below.refl _ _) rfl (by decide)
  clear hd hn hl ho h1
  generalize a.eval = ρ at *
  simp [execOp, hop, q12, go_sem]
theorem fr_s14 : FrG 14 (some 21, .box 88 (.tmp 20), none) := by
  intro S vr vi vo p W ops Q H o ho hd a w h1 hx hl hn
  have hop : o.op = .box 88 (.tmp 20) := congrArg (fun x => x.2.1) hd
  have hb : Below W.heap.size W w := hx.e.below (Nat.le_refl _) (fun _ h => h.elim)
  have q13 : a.eval (.tmp 20) = .agg #[.int .u32 S.msip] := by
    have h := hn 13 (by decide)
    rw [hl] at h
    exact h
  refine st_val ho hd (w' := w.alloc (.cells #[.int .u32 S.msip] 88)) (.pointer (some ⟨w.heap.size, 0, none⟩)) ?_ ((Below.refl _ _).alloc (Nat.le_refl _) _) ?_ (by decide)
  · clear hn hl ho h1
    clear hd
    generalize a.eval = ρ at *
    simp [execOp, hop, q13, go_sem]
  · rw [hl]; exact ⟨w.heap.size, rfl, hb.size, alloc_at _ _⟩
theorem fr_s15 : FrG 15 (some 22, .fieldAddr 35 (.tmp 1) 2, none) := by
  intro S vr vi vo p W ops Q H o ho hd a w h1 hx hl hn
  have hop : o.op = .fieldAddr 35 (.tmp 1) 2 := congrArg (fun x => x.2.1) hd
  have hb : Below W.heap.size W w := hx.e.below (Nat.le_refl _) (fun _ h => h.elim)
  refine st_val ho hd (.pointer (some ⟨p, 2, none⟩)) ?_ (Below.refl _ _) rfl (by decide)
  clear hd hn hl ho
  generalize a.eval = ρ at *
  simp [execOp, hop, h1, go_sem]
theorem fr_s16 : FrG 16 (some 23, .load 22 (.tmp 22), none) := by
  intro S vr vi vo p W ops Q H o ho hd a w h1 hx hl hn
  have hop : o.op = .load 22 (.tmp 22) := congrArg (fun x => x.2.1) hd
  have hb : Below W.heap.size W w := hx.e.below (Nat.le_refl _) (fun _ h => h.elim)
  have q15 : a.eval (.tmp 22) = .pointer (some ⟨p, 2, none⟩) := by
    have h := hn 15 (by decide)
    rw [hl] at h
    exact h
  have hc : w.cell? ⟨p, 2, none⟩ = some (.int .u64 S.cmp) := fr_cell H hb 2
  refine st_val ho hd (.int .u64 S.cmp) ?_ (Below.refl _ _) rfl (by decide)
  clear hd hn hl ho h1
  generalize a.eval = ρ at *
  simp [execOp, hop, q15, hc, go_sem]
theorem fr_s17 : FrG 17 (some 24, .build 91 #[(0, .const (.int .u64 33570816)), (1, .tmp 23)], none) := by
  intro S vr vi vo p W ops Q H o ho hd a w h1 hx hl hn
  have hop : o.op = .build 91 #[(0, .const (.int .u64 33570816)), (1, .tmp 23)] := congrArg (fun x => x.2.1) hd
  have hb : Below W.heap.size W w := hx.e.below (Nat.le_refl _) (fun _ h => h.elim)
  have q16 : a.eval (.tmp 23) = .int .u64 S.cmp := by
    have h := hn 16 (by decide)
    rw [hl] at h
    exact h
  have hf : a.eval (.const (.int .u64 33570816)) = .int .u64 33570816 := rfl
  refine st_val ho hd (.agg #[.int .u64 33570816, .int .u64 S.cmp]) ?_ (Below.refl _ _) rfl (by decide)
  clear hd hn hl ho h1
  generalize a.eval = ρ at *
  simp [execOp, hop, hf, q16, go_sem]
theorem fr_s18 : FrG 18 (some 25, .box 91 (.tmp 24), none) := by
  intro S vr vi vo p W ops Q H o ho hd a w h1 hx hl hn
  have hop : o.op = .box 91 (.tmp 24) := congrArg (fun x => x.2.1) hd
  have hb : Below W.heap.size W w := hx.e.below (Nat.le_refl _) (fun _ h => h.elim)
  have q17 : a.eval (.tmp 24) = .agg #[.int .u64 33570816, .int .u64 S.cmp] := by
    have h := hn 17 (by decide)
    rw [hl] at h
    exact h
  refine st_val ho hd (w' := w.alloc (.cells #[.int .u64 33570816, .int .u64 S.cmp] 91)) (.pointer (some ⟨w.heap.size, 0, none⟩)) ?_ ((Below.refl _ _).alloc (Nat.le_refl _) _) ?_ (by decide)
  · clear hn hl ho h1
    clear hd
    generalize a.eval = ρ at *
    simp [execOp, hop, q17, go_sem]
  · rw [hl]; exact ⟨w.heap.size, rfl, hb.size, alloc_at _ _⟩
theorem fr_s19 : FrG 19 (some 26, .fieldAddr 35 (.tmp 1) 3, none) := by
  intro S vr vi vo p W ops Q H o ho hd a w h1 hx hl hn
  have hop : o.op = .fieldAddr 35 (.tmp 1) 3 := congrArg (fun x => x.2.1) hd
  have hb : Below W.heap.size W w := hx.e.below (Nat.le_refl _) (fun _ h => h.elim)
  refine st_val ho hd (.pointer (some ⟨p, 3, none⟩)) ?_ (Below.refl _ _) rfl (by decide)
  clear hd hn hl ho
  generalize a.eval = ρ at *
  simp [execOp, hop, h1, go_sem]
theorem fr_s20 : FrG 20 (some 27, .load 22 (.tmp 26), none) := by
  intro S vr vi vo p W ops Q H o ho hd a w h1 hx hl hn
  have hop : o.op = .load 22 (.tmp 26) := congrArg (fun x => x.2.1) hd
  have hb : Below W.heap.size W w := hx.e.below (Nat.le_refl _) (fun _ h => h.elim)
  have q19 : a.eval (.tmp 26) = .pointer (some ⟨p, 3, none⟩) := by
    have h := hn 19 (by decide)
    rw [hl] at h
    exact h
  have hc : w.cell? ⟨p, 3, none⟩ = some (.int .u64 S.time) := fr_cell H hb 3
  refine st_val ho hd (.int .u64 S.time) ?_ (Below.refl _ _) rfl (by decide)
  clear hd hn hl ho h1
  generalize a.eval = ρ at *
  simp [execOp, hop, q19, hc, go_sem]
theorem fr_s21 : FrG 21 (some 28, .build 91 #[(0, .const (.int .u64 33603576)), (1, .tmp 27)], none) := by
  intro S vr vi vo p W ops Q H o ho hd a w h1 hx hl hn
  have hop : o.op = .build 91 #[(0, .const (.int .u64 33603576)), (1, .tmp 27)] := congrArg (fun x => x.2.1) hd
  have hb : Below W.heap.size W w := hx.e.below (Nat.le_refl _) (fun _ h => h.elim)
  have q20 : a.eval (.tmp 27) = .int .u64 S.time := by
    have h := hn 20 (by decide)
    rw [hl] at h
    exact h
  have hf : a.eval (.const (.int .u64 33603576)) = .int .u64 33603576 := rfl
  refine st_val ho hd (.agg #[.int .u64 33603576, .int .u64 S.time]) ?_ (Below.refl _ _) rfl (by decide)
  clear hd hn hl ho h1
  generalize a.eval = ρ at *
  simp [execOp, hop, hf, q20, go_sem]
theorem fr_s22 : FrG 22 (some 29, .box 91 (.tmp 28), none) := by
  intro S vr vi vo p W ops Q H o ho hd a w h1 hx hl hn
  have hop : o.op = .box 91 (.tmp 28) := congrArg (fun x => x.2.1) hd
  have hb : Below W.heap.size W w := hx.e.below (Nat.le_refl _) (fun _ h => h.elim)
  have q21 : a.eval (.tmp 28) = .agg #[.int .u64 33603576, .int .u64 S.time] := by
    have h := hn 21 (by decide)
    rw [hl] at h
    exact h
  refine st_val ho hd (w' := w.alloc (.cells #[.int .u64 33603576, .int .u64 S.time] 91)) (.pointer (some ⟨w.heap.size, 0, none⟩)) ?_ ((Below.refl _ _).alloc (Nat.le_refl _) _) ?_ (by decide)
  · clear hn hl ho h1
    clear hd
    generalize a.eval = ρ at *
    simp [execOp, hop, q21, go_sem]
  · rw [hl]; exact ⟨w.heap.size, rfl, hb.size, alloc_at _ _⟩
theorem fr_s23 : FrG 23 (some 30, .fieldAddr 35 (.tmp 1) 6, none) := by
  intro S vr vi vo p W ops Q H o ho hd a w h1 hx hl hn
  have hop : o.op = .fieldAddr 35 (.tmp 1) 6 := congrArg (fun x => x.2.1) hd
  have hb : Below W.heap.size W w := hx.e.below (Nat.le_refl _) (fun _ h => h.elim)
  refine st_val ho hd (.pointer (some ⟨p, 6, none⟩)) ?_ (Below.refl _ _) rfl (by decide)
  clear hd hn hl ho
  generalize a.eval = ρ at *
  simp [execOp, hop, h1, go_sem]
theorem fr_s24 : FrG 24 (some 31, .load 5 (.tmp 30), none) := by
  intro S vr vi vo p W ops Q H o ho hd a w h1 hx hl hn
  have hop : o.op = .load 5 (.tmp 30) := congrArg (fun x => x.2.1) hd
  have hb : Below W.heap.size W w := hx.e.below (Nat.le_refl _) (fun _ h => h.elim)
  have q23 : a.eval (.tmp 30) = .pointer (some ⟨p, 6, none⟩) := by
    have h := hn 23 (by decide)
    rw [hl] at h
    exact h
  have hc : w.cell? ⟨p, 6, none⟩ = some (.int .u8 S.ier) := fr_cell H hb 6
  refine st_val ho hd (.int .u8 S.ier) ?_ (Below.refl _ _) rfl (by decide)
  clear hd hn hl ho h1
  generalize a.eval = ρ at *
  simp [execOp, hop, q23, hc, go_sem]
theorem fr_s25 : FrG 25 (some 32, .fieldAddr 35 (.tmp 1) 7, none) := by
  intro S vr vi vo p W ops Q H o ho hd a w h1 hx hl hn
  have hop : o.op = .fieldAddr 35 (.tmp 1) 7 := congrArg (fun x => x.2.1) hd
  have hb : Below W.heap.size W w := hx.e.below (Nat.le_refl _) (fun _ h => h.elim)
  refine st_val ho hd (.pointer (some ⟨p, 7, none⟩)) ?_ (Below.refl _ _) rfl (by decide)
  clear hd hn hl ho
  generalize a.eval = ρ at *
  simp [execOp, hop, h1, go_sem]
theorem fr_s26 : FrG 26 (some 33, .load 5 (.tmp 32), none) := by
  intro S vr vi vo p W ops Q H o ho hd a w h1 hx hl hn
  have hop : o.op = .load 5 (.tmp 32) := congrArg (fun x => x.2.1) hd
  have hb : Below W.heap.size W w := hx.e.below (Nat.le_refl _) (fun _ h => h.elim)
  have q25 : a.eval (.tmp 32) = .pointer (some ⟨p, 7, none⟩) := by
    have h := hn 25 (by decide)
    rw [hl] at h
    exact h
  have hc : w.cell? ⟨p, 7, none⟩ = some (.int .u8 S.lcr) := fr_cell H hb 7
  refine st_val ho hd (.int .u8 S.lcr) ?_ (Below.refl _ _) rfl (by decide)
  clear hd hn hl ho h1
  generalize a.eval = ρ at *
  simp [execOp, hop, q25, hc, go_sem]
theorem fr_s27 : FrG 27 (some 34, .fieldAddr 35 (.tmp 1) 8, none) := by
  intro S vr vi vo p W ops Q H o ho hd a w h1 hx hl hn
  have hop : o.op = .fieldAddr 35 (.tmp 1) 8 := congrArg (fun x => x.2.1) hd
  have hb : Below W.heap.size W w := hx.e.below (Nat.le_refl _) (fun _ h => h.elim)
  refine st_val ho hd (.pointer (some ⟨p, 8, none⟩)) ?_ (Below.refl _ _) rfl (by decide)
  clear hd hn hl ho
  generalize a.eval = ρ at *
  simp [execOp, hop, h1, go_sem]
theorem fr_s28 : FrG 28 (some 35, .load 5 (.tmp 34), none) := by
  intro S vr vi vo p W ops Q H o ho hd a w h1 hx hl hn
  have hop : o.op = .load 5 (.tmp 34) := congrArg (fun x => x.2.1) hd
  have hb : Below W.heap.size W w := hx.e.below (Nat.le_refl _) (fun _ h => h.elim)
  have q27 : a.eval (.tmp 34) = .pointer (some ⟨p, 8, none⟩) := by
    have h := hn 27 (by decide)
    rw [hl] at h
    exact h
  have hc : w.cell? ⟨p, 8, none⟩ = some (.int .u8 S.mcr) := fr_cell H hb 8
  refine st_val ho hd (.int .u8 S.mcr) ?_ (Below.refl _ _) rfl (by decide)
  clear hd hn hl ho h1
  generalize a.eval = ρ at *
  simp [execOp, hop, q27, hc, go_sem]
theorem fr_s29 : FrG 29 (some 36, .fieldAddr 35 (.tmp 1) 9, none) := by
  intro S vr vi vo p W ops Q H o ho hd a w h1 hx hl hn
  have hop : o.op = .fieldAddr 35 (.tmp 1) 9 := congrArg (fun x => x.2.1) hd
  have hb : Below W.heap.size W w := hx.e.below (Nat.le_refl _) (fun _ h => h.elim)
  refine st_val ho hd (.pointer (some ⟨p, 9, none⟩)) ?_ (Below.refl _ _) rfl (by decide)
  clear hd hn hl ho
  generalize a.eval = ρ at *
  simp [execOp, hop, h1, go_sem]
theorem fr_s30 : FrG 30 (some 37, .load 5 (.tmp 36), none) := by
  intro S vr vi vo p W ops Q H o ho hd a w h1 hx hl hn
  have hop : o.op = .load 5 (.tmp 36) := congrArg (fun x => x.2.1) hd
  have hb : Below W.heap.size W w := hx.e.below (Nat.le_refl _) (fun _ h => h.elim)
  have q29 : a.eval (.tmp 36) = .pointer (some ⟨p, 9, none⟩) := by
    have h := hn 29 (by decide)
    rw [hl] at h
    exact h
  have hc : w.cell? ⟨p, 9, none⟩ = some (.int .u8 S.scr) := fr_cell H hb 9
  refine st_val ho hd (.int .u8 S.scr) ?_ (Below.refl _ _) rfl (by decide)
  clear hd hn hl ho h1
  generalize a.eval = ρ at *
  simp [execOp, hop, q29, hc, go_sem]
theorem fr_s31 : FrG 31 (some 38, .fieldAddr 35 (.tmp 1) 11, none) := by
  intro S vr vi vo p W ops Q H o ho hd a w h1 hx hl hn
  have hop : o.op = .fieldAddr 35 (.tmp 1) 11 := congrArg (fun x => x.2.1) hd
  have hb : Below W.heap.size W w := hx.e.below (Nat.le_refl _) (fun _ h => h.elim)
  refine st_val ho hd (.pointer (some ⟨p, 11, none⟩)) ?_ (Below.refl _ _) rfl (by decide)
  clear hd hn hl ho
  generalize a.eval = ρ at *
  simp [execOp, hop, h1, go_sem]
theorem fr_s32 : FrG 32 (some 39, .load 32 (.tmp 38), none) := by
  intro S vr vi vo p W ops Q H o ho hd a w h1 hx hl hn
  have hop : o.op = .load 32 (.tmp 38) := congrArg (fun x => x.2.1) hd
  have hb : Below W.heap.size W w := hx.e.below (Nat.le_refl _) (fun _ h => h.elim)
  have q31 : a.eval (.tmp 38) = .pointer (some ⟨p, 11, none⟩) := by
    have h := hn 31 (by decide)
    rw [hl] at h
    exact h
  have hc : w.cell? ⟨p, 11, none⟩ = some (vi) := fr_cell H hb 11
  refine st_val ho hd (vi) ?_ (Below.refl _ _) rfl (by decide)
  clear hd hn hl ho h1
  generalize a.eval = ρ at *
  simp [execOp, hop, q31, hc, go_sem]
theorem fr_s33 : FrG 33 (some 40, .call { callee := .value (.func 41), args := #[.tmp 39], argTypes := #[32] }, none) := by
  intro S vr vi vo p W ops Q H o ho hd a w h1 hx hl hn
  have hop : o.op = .call { callee := .value (.func 41), args := #[.tmp 39], argTypes := #[32] } := congrArg (fun x => x.2.1) hd
  have hb : Below W.heap.size W w := hx.e.below (Nat.le_refl _) (fun _ h => h.elim)
  have q32 : a.eval (.tmp 39) = vi := by
    have h := hn 32 (by decide)
    rw [hl] at h
    exact h
  have hf : a.eval (.func 41) = .func (.func 41) #[] #[] := rfl
  refine st_call ho hd (f := 41) (args := #[vi]) ?_ (fr_call (S := S) (vr := vr) (vi := vi) (vo := vo) (p := p) hb H.i H.li rfl)
  clear hd hn hl ho h1
  generalize a.eval = ρ at *
  simp [execOp, hop, q32, hf, go_sem]
theorem fr_s34 : FrG 34 (some 41, .fieldAddr 35 (.tmp 1) 10, none) := by
  intro S vr vi vo p W ops Q H o ho hd a w h1 hx hl hn
  have hop : o.op = .fieldAddr 35 (.tmp 1) 10 := congrArg (fun x => x.2.1) hd
  have hb : Below W.heap.size W w := hx.e.below (Nat.le_refl _) (fun _ h => h.elim)
  refine st_val ho hd (.pointer (some ⟨p, 10, none⟩)) ?_ (Below.refl _ _) rfl (by decide)
  clear hd hn hl ho
  generalize a.eval = ρ at *
  simp [execOp, hop, h1, go_sem]
theorem fr_s35 : FrG 35 (some 42, .load 4 (.tmp 41), none) := by
  intro S vr vi vo p W ops Q H o ho hd a w h1 hx hl hn
  have hop : o.op = .load 4 (.tmp 41) := congrArg (fun x => x.2.1) hd
  have hb : Below W.heap.size W w := hx.e.below (Nat.le_refl _) (fun _ h => h.elim)
  have q34 : a.eval (.tmp 41) = .pointer (some ⟨p, 10, none⟩) := by
    have h := hn 34 (by decide)
    rw [hl] at h
    exact h
  have hc : w.cell? ⟨p, 10, none⟩ = some (.bool S.ov) := fr_cell H hb 10
  refine st_val ho hd (.bool S.ov) ?_ (Below.refl _ _) rfl (by decide)
  clear hd hn hl ho h1
  generalize a.eval = ρ at *
  simp [execOp, hop, q34, hc, go_sem]
theorem fr_s36 : FrG 36 (some 43, .build 101 #[(1, .tmp 40), (2, .tmp 42)], none) := by
  intro S vr vi vo p W ops Q H o ho hd a w h1 hx hl hn
  have hop : o.op = .build 101 #[(1, .tmp 40), (2, .tmp 42)] := congrArg (fun x => x.2.1) hd
  have hb : Below W.heap.size W w := hx.e.below (Nat.le_refl _) (fun _ h => h.elim)
  have q33 : w.ownsRow W.heap.size 5 1 (a.eval (.tmp 40)) S.inp.length (bv S.inp) := by
    have h := hn 33 (by decide)
    rw [hl] at h
    exact h
  have q35 : a.eval (.tmp 42) = .bool S.ov := by
    have h := hn 35 (by decide)
    rw [hl] at h
    exact h
  obtain ⟨x, y, z, hu⟩ := own_one q33
  refine st_val ho hd (.agg #[.int .i32 0, .int .u32 0, a.eval (.tmp 40), .bool S.ov]) ?_ (Below.refl _ _) ?_ (by decide)
  · clear hd hn hl ho h1 q33
    generalize a.eval = ρ at *
    simp [execOp, hop, hu, q35, go_sem]
  · rw [hl]; rfl
theorem fr_s37 : FrG 37 (some 44, .box 101 (.tmp 43), none) := by
  intro S vr vi vo p W ops Q H o ho hd a w h1 hx hl hn
  have hop : o.op = .box 101 (.tmp 43) := congrArg (fun x => x.2.1) hd
  have hb : Below W.heap.size W w := hx.e.below (Nat.le_refl _) (fun _ h => h.elim)
  have q36 : a.eval (.tmp 43) = .agg #[.int .i32 0, .int .u32 0, a.eval (.tmp 40), .bool S.ov] := by
    have h := hn 36 (by decide)
    rw [hl] at h
    exact h
  have q33 : w.ownsRow W.heap.size 5 1 (a.eval (.tmp 40)) S.inp.length (bv S.inp) := by
    have h := hn 33 (by decide)
    rw [hl] at h
    exact h
  refine st_val ho hd (w' := w.alloc (.cells #[.int .i32 0, .int .u32 0, a.eval (.tmp 40), .bool S.ov] 101)) (.pointer (some ⟨w.heap.size, 0, none⟩)) ?_ ((Below.refl _ _).alloc (Nat.le_refl _) _) ?_ (by decide)
  · clear hn hl ho h1
    clear q33 hd
    generalize a.eval = ρ at *
    simp [execOp, hop, q36, go_sem]
  · rw [hl]; exact ⟨w.heap.size, rfl, hb.size, alloc_at _ _⟩
theorem fr_s38 : FrG 38 (some 45, .fieldAddr 35 (.tmp 1) 12, none) := by
  intro S vr vi vo p W ops Q H o ho hd a w h1 hx hl hn
  have hop : o.op = .fieldAddr 35 (.tmp 1) 12 := congrArg (fun x => x.2.1) hd
  have hb : Below W.heap.size W w := hx.e.below (Nat.le_refl _) (fun _ h => h.elim)
  refine st_val ho hd (.pointer (some ⟨p, 12, none⟩)) ?_ (Below.refl _ _) rfl (by decide)
  clear hd hn hl ho
  generalize a.eval = ρ at *
  simp [execOp, hop, h1, go_sem]
theorem fr_s39 : FrG 39 (some 46, .load 32 (.tmp 45), none) := by
  intro S vr vi vo p W ops Q H o ho hd a w h1 hx hl hn
  have hop : o.op = .load 32 (.tmp 45) := congrArg (fun x => x.2.1) hd
  have hb : Below W.heap.size W w := hx.e.below (Nat.le_refl _) (fun _ h => h.elim)
  have q38 : a.eval (.tmp 45) = .pointer (some ⟨p, 12, none⟩) := by
    have h := hn 38 (by decide)
    rw [hl] at h
    exact h
  have hc : w.cell? ⟨p, 12, none⟩ = some (vo) := fr_cell H hb 12
  refine st_val ho hd (vo) ?_ (Below.refl _ _) rfl (by decide)
  clear hd hn hl ho h1
  generalize a.eval = ρ at *
  simp [execOp, hop, q38, hc, go_sem]
theorem fr_s40 : FrG 40 (some 47, .call { callee := .value (.func 41), args := #[.tmp 46], argTypes := #[32] }, none) := by
  intro S vr vi vo p W ops Q H o ho hd a w h1 hx hl hn
  have hop : o.op = .call { callee := .value (.func 41), args := #[.tmp 46], argTypes := #[32] } := congrArg (fun x => x.2.1) hd
  have hb : Below W.heap.size W w := hx.e.below (Nat.le_refl _) (fun _ h => h.elim)
  have q39 : a.eval (.tmp 46) = vo := by
    have h := hn 39 (by decide)
    rw [hl] at h
    exact h
  have hf : a.eval (.func 41) = .func (.func 41) #[] #[] := rfl
  refine st_call ho hd (f := 41) (args := #[vo]) ?_ (fr_call (S := S) (vr := vr) (vi := vi) (vo := vo) (p := p) hb H.o H.lo rfl)
  clear hd hn hl ho h1
  generalize a.eval = ρ at *
  simp [execOp, hop, q39, hf, go_sem]
theorem fr_s41 : FrG 41 (some 48, .build 103 #[(0, .tmp 31), (1, .tmp 33), (2, .tmp 35), (3, .tmp 37), (4, .tmp 44), (5, .tmp 47)], none) := by
  intro S vr vi vo p W ops Q H o ho hd a w h1 hx hl hn
  have hop : o.op = .build 103 #[(0, .tmp 31), (1, .tmp 33), (2, .tmp 35), (3, .tmp 37), (4, .tmp 44), (5, .tmp 47)] := congrArg (fun x => x.2.1) hd
  have hb : Below W.heap.size W w := hx.e.below (Nat.le_refl _) (fun _ h => h.elim)
  have q37 : ∃ g, a.eval (.tmp 44) = .pointer (some ⟨g, 0, none⟩) ∧ W.heap.size ≤ g ∧ w.heap[g]? = some (.cells #[.int .i32 0, .int .u32 0, a.eval (.tmp 40), .bool S.ov] 101 (0, 0)) := by
    have h := hn 37 (by decide)
    rw [hl] at h
    exact h
  have q40 : w.ownsRow W.heap.size 5 1 (a.eval (.tmp 47)) S.out.length (bv S.out) := by
    have h := hn 40 (by decide)
    rw [hl] at h
    exact h
  have q24 : a.eval (.tmp 31) = .int .u8 S.ier := by
    have h := hn 24 (by decide)
    rw [hl] at h
    exact h
  have q26 : a.eval (.tmp 33) = .int .u8 S.lcr := by
    have h := hn 26 (by decide)
    rw [hl] at h
    exact h
  have q28 : a.eval (.tmp 35) = .int .u8 S.mcr := by
    have h := hn 28 (by decide)
    rw [hl] at h
    exact h
  have q30 : a.eval (.tmp 37) = .int .u8 S.scr := by
    have h := hn 30 (by decide)
    rw [hl] at h
    exact h
  obtain ⟨x, y, z, hu⟩ := own_one q40
  obtain ⟨g, hp, _, _⟩ := q37
  refine st_val ho hd (.agg #[.int .u8 S.ier, .int .u8 S.lcr, .int .u8 S.mcr, .int .u8 S.scr, a.eval (.tmp 44), a.eval (.tmp 47)]) ?_ (Below.refl _ _) ?_ (by decide)
  · clear hd hn hl ho h1 q40
    generalize a.eval = ρ at *
    simp [execOp, hop, hu, hp, q24, q26, q28, q30, go_sem]
  · rw [hl]; rfl
theorem fr_s42 : FrG 42 (some 49, .box 103 (.tmp 48), none) := by
  intro S vr vi vo p W ops Q H o ho hd a w h1 hx hl hn
  have hop : o.op = .box 103 (.tmp 48) := congrArg (fun x => x.2.1) hd
  have hb : Below W.heap.size W w := hx.e.below (Nat.le_refl _) (fun _ h => h.elim)
  have q41 : a.eval (.tmp 48) = .agg #[.int .u8 S.ier, .int .u8 S.lcr, .int .u8 S.mcr, .int .u8 S.scr, a.eval (.tmp 44), a.eval (.tmp 47)] := by
    have h := hn 41 (by decide)
    rw [hl] at h
    exact h
  have q37 : ∃ g, a.eval (.tmp 44) = .pointer (some ⟨g, 0, none⟩) ∧ W.heap.size ≤ g ∧ w.heap[g]? = some (.cells #[.int .i32 0, .int .u32 0, a.eval (.tmp 40), .bool S.ov] 101 (0, 0)) := by
    have h := hn 37 (by decide)
    rw [hl] at h
    exact h
  have q40 : w.ownsRow W.heap.size 5 1 (a.eval (.tmp 47)) S.out.length (bv S.out) := by
    have h := hn 40 (by decide)
    rw [hl] at h
    exact h
  refine st_val ho hd (w' := w.alloc (.cells #[.int .u8 S.ier, .int .u8 S.lcr, .int .u8 S.mcr, .int .u8 S.scr, a.eval (.tmp 44), a.eval (.tmp 47)] 103)) (.pointer (some ⟨w.heap.size, 0, none⟩)) ?_ ((Below.refl _ _).alloc (Nat.le_refl _) _) ?_ (by decide)
  · clear hn hl ho h1
    clear q37 q40 hd
    generalize a.eval = ρ at *
    simp [execOp, hop, q41, go_sem]
  · rw [hl]; exact ⟨w.heap.size, rfl, hb.size, alloc_at _ _⟩
theorem fr_s43 : FrG 43 (some 50, .fieldAddr 35 (.tmp 1) 4, none) := by
  intro S vr vi vo p W ops Q H o ho hd a w h1 hx hl hn
  have hop : o.op = .fieldAddr 35 (.tmp 1) 4 := congrArg (fun x => x.2.1) hd
  have hb : Below W.heap.size W w := hx.e.below (Nat.le_refl _) (fun _ h => h.elim)
  refine st_val ho hd (.pointer (some ⟨p, 4, none⟩)) ?_ (Below.refl _ _) rfl (by decide)
  clear hd hn hl ho
  generalize a.eval = ρ at *
  simp [execOp, hop, h1, go_sem]
theorem fr_s44 : FrG 44 (some 51, .load 4 (.tmp 50), none) := by
  intro S vr vi vo p W ops Q H o ho hd a w h1 hx hl hn
  have hop : o.op = .load 4 (.tmp 50) := congrArg (fun x => x.2.1) hd
  have hb : Below W.heap.size W w := hx.e.below (Nat.le_refl _) (fun _ h => h.elim)
  have q43 : a.eval (.tmp 50) = .pointer (some ⟨p, 4, none⟩) := by
    have h := hn 43 (by decide)
    rw [hl] at h
    exact h
  have hc : w.cell? ⟨p, 4, none⟩ = some (.bool S.ext) := fr_cell H hb 4
  refine st_val ho hd (.bool S.ext) ?_ (Below.refl _ _) rfl (by decide)
  clear hd hn hl ho h1
  generalize a.eval = ρ at *
  simp [execOp, hop, q43, hc, go_sem]
theorem fr_s45 : FrG 45 (some 52, .fieldAddr 35 (.tmp 1) 5, none) := by
  intro S vr vi vo p W ops Q H o ho hd a w h1 hx hl hn
  have hop : o.op = .fieldAddr 35 (.tmp 1) 5 := congrArg (fun x => x.2.1) hd
  have hb : Below W.heap.size W w := hx.e.below (Nat.le_refl _) (fun _ h => h.elim)
  refine st_val ho hd (.pointer (some ⟨p, 5, none⟩)) ?_ (Below.refl _ _) rfl (by decide)
  clear hd hn hl ho
  generalize a.eval = ρ at *
  simp [execOp, hop, h1, go_sem]
theorem fr_s46 : FrG 46 (some 53, .load 4 (.tmp 52), none) := by
  intro S vr vi vo p W ops Q H o ho hd a w h1 hx hl hn
  have hop : o.op = .load 4 (.tmp 52) := congrArg (fun x => x.2.1) hd
  have hb : Below W.heap.size W w := hx.e.below (Nat.le_refl _) (fun _ h => h.elim)
  have q45 : a.eval (.tmp 52) = .pointer (some ⟨p, 5, none⟩) := by
    have h := hn 45 (by decide)
    rw [hl] at h
    exact h
  have hc : w.cell? ⟨p, 5, none⟩ = some (.bool S.soft) := fr_cell H hb 5
  refine st_val ho hd (.bool S.soft) ?_ (Below.refl _ _) rfl (by decide)
  clear hd hn hl ho h1
  generalize a.eval = ρ at *
  simp [execOp, hop, q45, hc, go_sem]
theorem fr_s47 : FrG 47 (some 54, .build 105 #[(0, .tmp 11), (1, .tmp 17), (2, .tmp 21), (3, .tmp 25), (4, .tmp 29), (5, .tmp 49), (6, .tmp 51), (7, .tmp 53)], none) := by
  intro S vr vi vo p W ops Q H o ho hd a w h1 hx hl hn
  have hop : o.op = .build 105 #[(0, .tmp 11), (1, .tmp 17), (2, .tmp 21), (3, .tmp 25), (4, .tmp 29), (5, .tmp 49), (6, .tmp 51), (7, .tmp 53)] := congrArg (fun x => x.2.1) hd
  have hb : Below W.heap.size W w := hx.e.below (Nat.le_refl _) (fun _ h => h.elim)
  have q4 : ∃ g, a.eval (.tmp 11) = .pointer (some ⟨g, 0, none⟩) ∧ W.heap.size ≤ g ∧ w.heap[g]? = some (.cells #[a.eval (.tmp 9)] 82 (0, 0)) := by
    have h := hn 4 (by decide)
    rw [hl] at h
    exact h
  have q10 : ∃ g, a.eval (.tmp 17) = .pointer (some ⟨g, 0, none⟩) ∧ W.heap.size ≤ g ∧ w.heap[g]? = some (.cells #[.int .i64 S.off, .int .i64 S.code] 85 (0, 0)) := by
    have h := hn 10 (by decide)
    rw [hl] at h
    exact h
  have q14 : ∃ g, a.eval (.tmp 21) = .pointer (some ⟨g, 0, none⟩) ∧ W.heap.size ≤ g ∧ w.heap[g]? = some (.cells #[.int .u32 S.msip] 88 (0, 0)) := by
    have h := hn 14 (by decide)
    rw [hl] at h
    exact h
  have q18 : ∃ g, a.eval (.tmp 25) = .pointer (some ⟨g, 0, none⟩) ∧ W.heap.size ≤ g ∧ w.heap[g]? = some (.cells #[.int .u64 33570816, .int .u64 S.cmp] 91 (0, 0)) := by
    have h := hn 18 (by decide)
    rw [hl] at h
    exact h
  have q22 : ∃ g, a.eval (.tmp 29) = .pointer (some ⟨g, 0, none⟩) ∧ W.heap.size ≤ g ∧ w.heap[g]? = some (.cells #[.int .u64 33603576, .int .u64 S.time] 91 (0, 0)) := by
    have h := hn 22 (by decide)
    rw [hl] at h
    exact h
  have q42 : ∃ g, a.eval (.tmp 49) = .pointer (some ⟨g, 0, none⟩) ∧ W.heap.size ≤ g ∧ w.heap[g]? = some (.cells #[.int .u8 S.ier, .int .u8 S.lcr, .int .u8 S.mcr, .int .u8 S.scr, a.eval (.tmp 44), a.eval (.tmp 47)] 103 (0, 0)) := by
    have h := hn 42 (by decide)
    rw [hl] at h
    exact h
  have q44 : a.eval (.tmp 51) = .bool S.ext := by
    have h := hn 44 (by decide)
    rw [hl] at h
    exact h
  have q46 : a.eval (.tmp 53) = .bool S.soft := by
    have h := hn 46 (by decide)
    rw [hl] at h
    exact h
  obtain ⟨g4, p4, _, _⟩ := q4
  obtain ⟨g10, p10, _, _⟩ := q10
  obtain ⟨g14, p14, _, _⟩ := q14
  obtain ⟨g18, p18, _, _⟩ := q18
  obtain ⟨g22, p22, _, _⟩ := q22
  obtain ⟨g42, p42, _, _⟩ := q42
  refine st_val ho hd (.agg #[a.eval (.tmp 11), a.eval (.tmp 17), a.eval (.tmp 21), a.eval (.tmp 25), a.eval (.tmp 29), a.eval (.tmp 49), .bool S.ext, .bool S.soft]) ?_ (Below.refl _ _) ?_ (by decide)
  · clear hd hn hl ho h1
    generalize a.eval = ρ at *
    simp [execOp, hop, p4, p10, p14, p18, p22, p42, q44, q46, go_sem]
  · rw [hl]; rfl
theorem fr_s48 : FrG 48 (some 55, .box 105 (.tmp 54), none) := by
  intro S vr vi vo p W ops Q H o ho hd a w h1 hx hl hn
  have hop : o.op = .box 105 (.tmp 54) := congrArg (fun x => x.2.1) hd
  have hb : Below W.heap.size W w := hx.e.below (Nat.le_refl _) (fun _ h => h.elim)
  have q47 : a.eval (.tmp 54) = .agg #[a.eval (.tmp 11), a.eval (.tmp 17), a.eval (.tmp 21), a.eval (.tmp 25), a.eval (.tmp 29), a.eval (.tmp 49), .bool S.ext, .bool S.soft] := by
    have h := hn 47 (by decide)
    rw [hl] at h
    exact h
  have q4 : ∃ g, a.eval (.tmp 11) = .pointer (some ⟨g, 0, none⟩) ∧ W.heap.size ≤ g ∧ w.heap[g]? = some (.cells #[a.eval (.tmp 9)] 82 (0, 0)) := by
    have h := hn 4 (by decide)
    rw [hl] at h
    exact h
  have q10 : ∃ g, a.eval (.tmp 17) = .pointer (some ⟨g, 0, none⟩) ∧ W.heap.size ≤ g ∧ w.heap[g]? = some (.cells #[.int .i64 S.off, .int .i64 S.code] 85 (0, 0)) := by
    have h := hn 10 (by decide)
    rw [hl] at h
    exact h
  have q14 : ∃ g, a.eval (.tmp 21) = .pointer (some ⟨g, 0, none⟩) ∧ W.heap.size ≤ g ∧ w.heap[g]? = some (.cells #[.int .u32 S.msip] 88 (0, 0)) := by
    have h := hn 14 (by decide)
    rw [hl] at h
    exact h
  have q18 : ∃ g, a.eval (.tmp 25) = .pointer (some ⟨g, 0, none⟩) ∧ W.heap.size ≤ g ∧ w.heap[g]? = some (.cells #[.int .u64 33570816, .int .u64 S.cmp] 91 (0, 0)) := by
    have h := hn 18 (by decide)
    rw [hl] at h
    exact h
  have q22 : ∃ g, a.eval (.tmp 29) = .pointer (some ⟨g, 0, none⟩) ∧ W.heap.size ≤ g ∧ w.heap[g]? = some (.cells #[.int .u64 33603576, .int .u64 S.time] 91 (0, 0)) := by
    have h := hn 22 (by decide)
    rw [hl] at h
    exact h
  have q42 : ∃ g, a.eval (.tmp 49) = .pointer (some ⟨g, 0, none⟩) ∧ W.heap.size ≤ g ∧ w.heap[g]? = some (.cells #[.int .u8 S.ier, .int .u8 S.lcr, .int .u8 S.mcr, .int .u8 S.scr, a.eval (.tmp 44), a.eval (.tmp 47)] 103 (0, 0)) := by
    have h := hn 42 (by decide)
    rw [hl] at h
    exact h
  refine st_val ho hd (w' := w.alloc (.cells #[a.eval (.tmp 11), a.eval (.tmp 17), a.eval (.tmp 21), a.eval (.tmp 25), a.eval (.tmp 29), a.eval (.tmp 49), .bool S.ext, .bool S.soft] 105)) (.pointer (some ⟨w.heap.size, 0, none⟩)) ?_ ((Below.refl _ _).alloc (Nat.le_refl _) _) ?_ (by decide)
  · clear hn hl ho h1
    clear q4 q10 q14 q18 q22 q42 hd
    generalize a.eval = ρ at *
    simp [execOp, hop, q47, go_sem]
  · rw [hl]; exact ⟨w.heap.size, rfl, hb.size, alloc_at _ _⟩
theorem fr_s49 : FrG 49 (some 2, .assign (.tmp 55), none) := by
  intro S vr vi vo p W ops Q H o ho hd a w h1 hx hl hn
  have hop : o.op = .assign (.tmp 55) := congrArg (fun x => x.2.1) hd
  have hb : Below W.heap.size W w := hx.e.below (Nat.le_refl _) (fun _ h => h.elim)
  have q48 : ∃ g, a.eval (.tmp 55) = .pointer (some ⟨g, 0, none⟩) ∧ W.heap.size ≤ g ∧ w.heap[g]? = some (.cells #[a.eval (.tmp 11), a.eval (.tmp 17), a.eval (.tmp 21), a.eval (.tmp 25), a.eval (.tmp 29), a.eval (.tmp 49), .bool S.ext, .bool S.soft] 105 (0, 0)) := by
    have h := hn 48 (by decide)
    rw [hl] at h
    exact h
  obtain ⟨g, hp, hB, hh⟩ := q48
  refine st_val ho hd (.pointer (some ⟨g, 0, none⟩)) ?_ (Below.refl _ _) ?_ (by decide)
  · clear hd hn hl ho h1
    generalize a.eval = ρ at *
    simp [execOp, hop, hp, go_sem]
  · rw [hl]; exact hp.symm
theorem fr_s50 : FrG 50 (some 3, .assign (.const (.int .i64 0)), none) := by
  intro S vr vi vo p W ops Q H o ho hd a w h1 hx hl hn
  have hop : o.op = .assign (.const (.int .i64 0)) := congrArg (fun x => x.2.1) hd
  have hb : Below W.heap.size W w := hx.e.below (Nat.le_refl _) (fun _ h => h.elim)
  have hf : a.eval (.const (.int .i64 0)) = .int .i64 0 := rfl
  refine st_val ho hd (.int .i64 0) ?_ (Below.refl _ _) rfl (by decide)
  clear hd hn hl ho h1
  generalize a.eval = ρ at *
  simp [execOp, hop, hf, go_sem]
end Go.Proofs.Ytgblpjkpeihpeaa
