import Derived.Test.YtdpfjhacmlnklaaGreatDoorK03
import Derived.Test.YtdpfjhacmlnklaaGreatDoorProg
import Derived.Conc.RwLib
import Derived.Conc.MuData
import Derived.KernelRfl
namespace Go.Proofs.YtdpfjhacmlnklaaGreatDoor
set_option linter.unusedVariables false
set_option maxRecDepth 100000
set_option maxHeartbeats 8000000
open Go.ChangeShapes Go.WideShapes Go.ChangeAt Go.RowKit Go.Deep _root_.Go.Proofs.Tryz
inductive Kd where
 | con (c : Value)
 | own (l : List Int)
 | agg (f : List Value → Array Value)
 | box (f : List Value → Array Value) (t : TypeId)
 | same
 | mem (f : List Value → World → Prop)
def FK (B : Nat) : Kd → List Value → World → Prop
 | .con c, v :: _, _ => v = c
 | .own l, v :: _, w => w.ownsRow B 5 1 v l.length (bv l)
 | .agg f, v :: vs, _ => v = .agg (f vs)
 | .box f t, v :: vs, w => ∃ g, v = .pointer (some ⟨g, 0, none⟩) ∧ B ≤ g ∧ w.heap[g]? = some (.cells (f vs) t (0, 0))
 | .same, v :: vs, _ => v = vs.getD 0 undef
 | .mem f, _ :: vs, w => f vs w
 | _, [], _ => False
theorem FK.mono {B : Nat} {G : Nat → Prop} {k : Kd} {vs : List Value} {w w' : World} (hG : ∀ k, G k → k < B) (hm : ∀ f, k ≠ .mem f) (h : FK B k vs w) (hx : Exk G w w') : FK B k vs w' := by
 have hb := hx.e
 cases vs with
 | nil => cases k <;> exact h
 | cons v vs =>
  cases k with
  | con c => exact h
  | own l => exact dF h hb (fun k hk hg => by have := (World.ownsRow.lt h k hk).1; have := hG k hg; omega)
  | agg f => exact h
  | same => exact h
  | mem f => exact absurd rfl (hm f)
  | box f t =>
   obtain ⟨g, h1, h2, h3⟩ := h
   exact ⟨g, h1, h2, by rw [hb.block g (Array.getElem?_eq_some_iff.1 h3).1 (fun hg => by have := hG g hg; omega)]; exact h3⟩
def fD : Nat → List Nat
 | 1 => [0] | 2 => [1] | 3 => [2] | 4 => [3, 2]
 | 6 => [5] | 8 => [7] | 9 => [6, 8] | 10 => [9]
 | 12 => [11] | 13 => [12] | 14 => [13]
 | 16 => [15] | 17 => [16] | 18 => [17]
 | 20 => [19] | 21 => [20] | 22 => [21]
 | 24 => [23] | 26 => [25] | 28 => [27] | 30 => [29]
 | 32 => [31] | 33 => [32] | 35 => [34] | 36 => [33, 35] | 37 => [36, 33]
 | 39 => [38] | 40 => [39] | 41 => [37, 40, 24, 26, 28, 30] | 42 => [41, 37, 40]
 | 44 => [43] | 46 => [45] | 47 => [4, 10, 14, 18, 22, 42, 44, 46] | 48 => [47, 4, 10, 14, 18, 22, 42] | 49 => [48]
 | _ => []
def mE (S : St) (vr vi vo : Value) (p : Nat) : Nat → Kd
 | 0 => .con (.pointer (some ⟨p, 0, none⟩)) | 1 => .con vr | 2 => .own S.ram | 3 => .agg (fun vs => #[vs.getD 0 undef]) | 4 => .box (fun vs => #[vs.getD 1 undef]) 106
 | 5 => .con (.pointer (some ⟨p, 13, none⟩)) | 6 => .con (.int .i64 S.off) | 7 => .con (.pointer (some ⟨p, 14, none⟩)) | 8 => .con (.int .i64 S.code) | 9 => .con (.agg #[.int .i64 S.off, .int .i64 S.code]) | 10 => .box (fun _ => #[.int .i64 S.off, .int .i64 S.code]) 113
 | 11 => .con (.pointer (some ⟨p, 1, none⟩)) | 12 => .con (.int .u32 S.msip) | 13 => .con (.agg #[.int .u32 S.msip]) | 14 => .box (fun _ => #[.int .u32 S.msip]) 108
 | 15 => .con (.pointer (some ⟨p, 2, none⟩)) | 16 => .con (.int .u64 S.cmp) | 17 => .con (.agg #[.int .u64 33570816, .int .u64 S.cmp]) | 18 => .box (fun _ => #[.int .u64 33570816, .int .u64 S.cmp]) 110
 | 19 => .con (.pointer (some ⟨p, 3, none⟩)) | 20 => .con (.int .u64 S.time) | 21 => .con (.agg #[.int .u64 33603576, .int .u64 S.time]) | 22 => .box (fun _ => #[.int .u64 33603576, .int .u64 S.time]) 110
 | 23 => .con (.pointer (some ⟨p, 6, none⟩)) | 24 => .con (.int .u8 S.ier) | 25 => .con (.pointer (some ⟨p, 7, none⟩)) | 26 => .con (.int .u8 S.lcr)
 | 27 => .con (.pointer (some ⟨p, 8, none⟩)) | 28 => .con (.int .u8 S.mcr) | 29 => .con (.pointer (some ⟨p, 9, none⟩)) | 30 => .con (.int .u8 S.scr)
 | 31 => .con (.pointer (some ⟨p, 11, none⟩)) | 32 => .con vi | 33 => .own S.inp | 34 => .con (.pointer (some ⟨p, 10, none⟩)) | 35 => .con (.bool S.ov)
 | 36 => .agg (fun vs => #[.int .i32 0, .int .u32 0, vs.getD 0 undef, .bool S.ov]) | 37 => .box (fun vs => #[.int .i32 0, .int .u32 0, vs.getD 1 undef, .bool S.ov]) 123
 | 38 => .con (.pointer (some ⟨p, 12, none⟩)) | 39 => .con vo | 40 => .own S.out
 | 41 => .agg (fun vs => #[.int .u8 S.ier, .int .u8 S.lcr, .int .u8 S.mcr, .int .u8 S.scr, vs.getD 0 undef, vs.getD 1 undef])
 | 42 => .box (fun vs => #[.int .u8 S.ier, .int .u8 S.lcr, .int .u8 S.mcr, .int .u8 S.scr, vs.getD 1 undef, vs.getD 2 undef]) 95
 | 43 => .con (.pointer (some ⟨p, 4, none⟩)) | 44 => .con (.bool S.ext) | 45 => .con (.pointer (some ⟨p, 5, none⟩)) | 46 => .con (.bool S.soft)
 | 47 => .agg (fun vs => #[vs.getD 0 undef, vs.getD 1 undef, vs.getD 2 undef, vs.getD 3 undef, vs.getD 4 undef, vs.getD 5 undef, .bool S.ext, .bool S.soft])
 | 48 => .box (fun vs => #[vs.getD 1 undef, vs.getD 2 undef, vs.getD 3 undef, vs.getD 4 undef, vs.getD 5 undef, vs.getD 6 undef, .bool S.ext, .bool S.soft]) 102
 | 49 => .same | _ => .con (.int .i64 0)
def gZ : Array (Option Tmp × Op × Option (Nat × Bool)) := #[
 (some 7, .fieldAddr 35 (.tmp 1) 0, none),
 (some 8, .load 32 (.tmp 7), none),
 (some 9, .call { callee := .value (.func 41), args := #[.tmp 8], argTypes := #[32] }, none),
 (some 10, .build 106 #[(0, .tmp 9)], none),
 (some 11, .box 106 (.tmp 10), none),
 (some 12, .fieldAddr 35 (.tmp 1) 13, none),
 (some 13, .load 3 (.tmp 12), none),
 (some 14, .fieldAddr 35 (.tmp 1) 14, none),
 (some 15, .load 3 (.tmp 14), none),
 (some 16, .build 113 #[(0, .tmp 13), (1, .tmp 15)], none),
 (some 17, .box 113 (.tmp 16), none),
 (some 18, .fieldAddr 35 (.tmp 1) 1, none),
 (some 19, .load 33 (.tmp 18), none),
 (some 20, .build 108 #[(0, .tmp 19)], none),
 (some 21, .box 108 (.tmp 20), none),
 (some 22, .fieldAddr 35 (.tmp 1) 2, none),
 (some 23, .load 22 (.tmp 22), none),
 (some 24, .build 110 #[(0, .const (.int .u64 33570816)), (1, .tmp 23)], none),
 (some 25, .box 110 (.tmp 24), none),
 (some 26, .fieldAddr 35 (.tmp 1) 3, none),
 (some 27, .load 22 (.tmp 26), none),
 (some 28, .build 110 #[(0, .const (.int .u64 33603576)), (1, .tmp 27)], none),
 (some 29, .box 110 (.tmp 28), none),
 (some 30, .fieldAddr 35 (.tmp 1) 6, none),
 (some 31, .load 5 (.tmp 30), none),
 (some 32, .fieldAddr 35 (.tmp 1) 7, none),
 (some 33, .load 5 (.tmp 32), none),
 (some 34, .fieldAddr 35 (.tmp 1) 8, none),
 (some 35, .load 5 (.tmp 34), none),
 (some 36, .fieldAddr 35 (.tmp 1) 9, none),
 (some 37, .load 5 (.tmp 36), none),
 (some 38, .fieldAddr 35 (.tmp 1) 11, none),
 (some 39, .load 32 (.tmp 38), none),
 (some 40, .call { callee := .value (.func 41), args := #[.tmp 39], argTypes := #[32] }, none),
 (some 41, .fieldAddr 35 (.tmp 1) 10, none),
 (some 42, .load 4 (.tmp 41), none),
 (some 43, .build 123 #[(1, .tmp 40), (2, .tmp 42)], none),
 (some 44, .box 123 (.tmp 43), none),
 (some 45, .fieldAddr 35 (.tmp 1) 12, none),
 (some 46, .load 32 (.tmp 45), none),
 (some 47, .call { callee := .value (.func 41), args := #[.tmp 46], argTypes := #[32] }, none),
 (some 48, .build 95 #[(0, .tmp 31), (1, .tmp 33), (2, .tmp 35), (3, .tmp 37), (4, .tmp 44), (5, .tmp 47)], none),
 (some 49, .box 95 (.tmp 48), none),
 (some 50, .fieldAddr 35 (.tmp 1) 4, none),
 (some 51, .load 4 (.tmp 50), none),
 (some 52, .fieldAddr 35 (.tmp 1) 5, none),
 (some 53, .load 4 (.tmp 52), none),
 (some 54, .build 102 #[(0, .tmp 11), (1, .tmp 17), (2, .tmp 21), (3, .tmp 25), (4, .tmp 29), (5, .tmp 49), (6, .tmp 51), (7, .tmp 53)], none),
 (some 55, .box 102 (.tmp 54), none),
 (some 2, .assign (.tmp 55), none),
 (some 3, .assign (.const (.int .i64 0)), none)]
def nG : Nat → Nat
 | 0 => 7  | 1 => 8  | 2 => 9  | 3 => 10  | 4 => 11  | 5 => 12  | 6 => 13  | 7 => 14  | 8 => 15  | 9 => 16  | 10 => 17  | 11 => 18  | 12 => 19  | 13 => 20  | 14 => 21  | 15 => 22  | 16 => 23  | 17 => 24  | 18 => 25  | 19 => 26  | 20 => 27  | 21 => 28  | 22 => 29  | 23 => 30  | 24 => 31  | 25 => 32  | 26 => 33  | 27 => 34  | 28 => 35  | 29 => 36  | 30 => 37  | 31 => 38  | 32 => 39  | 33 => 40  | 34 => 41  | 35 => 42  | 36 => 43  | 37 => 44  | 38 => 45  | 39 => 46  | 40 => 47  | 41 => 48  | 42 => 49  | 43 => 50  | 44 => 51  | 45 => 52  | 46 => 53  | 47 => 54  | 48 => 55  | 49 => 2  | 50 => 3 | _ => 0
def shp (o : Oper) : Option Tmp × Op × Option (Nat × Bool) := (o.dst, o.op, o.guard)
theorem jY {P : Program} {ops : Array Oper} {Q : Exit → Act → World → Prop} {i : Nat} {o : Oper} (ho : ops[i]? = some o) (hg : o.guard = none) {K : Act → World → Prop} {a : Act} {w : World} (h : o.wp P a w K Q) : wpOp P ops Q i K a w := by
 unfold wpOp
 simp only [ho]
 rw [if_pos (by simp [Region.wanted, hg])]
 exact .inl h
def frK (ops : Array Oper) (need : Nat → List Nat) (cs : List Nat) (G : Nat → Prop) (B : Nat) (kd : Nat → Kd) (i : Nat) (o : Oper) (a : Act) (w : World) : Act → World → Prop := fun a' w' => ∃ v, a' = a.put o.dst v ∧ Exk G w w' ∧ (∀ v', o.dst = none ∨ v' = v → FK B (kd i) (v' :: (need i).map (bS ops a)) w') ∧ (i ∈ cs → o.dst ≠ none ∧ ∀ g, v.ownBlock = some g → w.heap.size ≤ g)
theorem aW {P : Program} {ops : Array Oper} {Q : Exit → Act → World → Prop} {need : Nat → List Nat} {cs : List Nat} {G : Nat → Prop} {B : Nat} {kd : Nat → Kd} {i : Nat} {o : Oper} (ho : ops[i]? = some o) {d : Tmp} {op : Op} (hd : shp o = (some d, op, none)) {a : Act} {w w' : World} (v : Value) (hr : (execOp a.eval o).run P w = .ok (.value v) w')
  (hb : Below w.heap.size w w') (hf : FK B (kd i) (v :: (need i).map (bS ops a)) w') (hn : i ∉ cs) : wpOp P ops Q i (frK ops need cs G B kd i o a w) a w := by
 refine jY ho (congrArg (fun x => x.2.2) hd) ?_
 unfold Oper.wp
 rw [hr]
 refine ⟨v, rfl, Exk.of_below hb rfl, fun v' h => ?_, fun h => absurd h hn⟩
 rcases h with h | h
 ·rw [show o.dst = some d from congrArg (fun x => x.1) hd] at h; cases h
 ·rw [h]; exact hf
theorem lI {P : Program} {ops : Array Oper} {Q : Exit → Act → World → Prop} {need : Nat → List Nat} {cs : List Nat} {G : Nat → Prop} {B : Nat} {kd : Nat → Kd} {i : Nat} {o : Oper} (ho : ops[i]? = some o) {d : Tmp} {op : Op} (hd : shp o = (some d, op, none)) {a : Act} {w : World} {f : FuncId} {args : Array Value} (hr : (execOp a.eval o).run P w = .ok (.enter f args) w)
  (hc : Calls P f args w fun e w' => ∃ u, e = .returned u ∧ Below w.heap.size w w' ∧ FK B (kd i) (u :: (need i).map (bS ops a)) w' ∧ ∀ g, u.ownBlock = some g → w.heap.size ≤ g) : wpOp P ops Q i (frK ops need cs G B kd i o a w) a w := by
 refine jY ho (congrArg (fun x => x.2.2) hd) ?_
 unfold Oper.wp
 rw [hr]
 refine Calls.mono hc ?_
 have hdn : o.dst = some d := congrArg (fun x => x.1) hd
 rintro e w' ⟨u, rfl, h1, h2, h3⟩
 refine ⟨u, rfl, Exk.of_below h1 rfl, fun v' h => ?_, fun _ => ⟨by rw [hdn]; simp, h3⟩⟩
 rcases h with h | h
 ·rw [hdn] at h; cases h
 ·rw [h]; exact h2
structure vD (S : St) (vr vi vo : Value) (p : Nat) (W : World) : Prop where
 lt : p < W.heap.size
 cell : ∀ j, W.cell? ⟨p, j, none⟩ = (stc S vr vi vo)[j]?
 r : Byt W vr S.ram
 i : Byt W vi S.inp
 o : Byt W vo S.out
 lr : S.ram.length ≤ 140737488355328
 li : S.inp.length ≤ 140737488355328
 lo : S.out.length ≤ 140737488355328
theorem cO (w : World) (o : Obj) : (w.alloc o).heap[w.heap.size]? = some o := by
 show (w.heap.push o)[w.heap.size]? = some o
 simp
theorem qL {w : World} {B n : Nat} {v : Value} {xs : List Value} (h : w.ownsRow B 5 1 v n xs) : ∀ g, v.ownBlock = some g → B ≤ g := fun g hg => (h.lt g hg).1
theorem kW {S : St} {vr vi vo : Value} {p : Nat} {W w : World} {l : List Int} {v : Value} (hb : Below W.heap.size W w) (hv : Byt W v l) (hl : l.length ≤ 140737488355328) {B : Nat} (hB : B = W.heap.size) {vs : List Value} :
  Calls prog 41 #[v] w fun e w' => ∃ u, e = .returned u ∧ Below w.heap.size w w' ∧ FK B (.own l) (u :: vs) w' ∧ ∀ g, u.ownBlock = some g → w.heap.size ≤ g := by
 refine (vN hl v w (hv.later hb rfl)).mono ?_
 rintro e w' ⟨u, rfl, h1, h2⟩
 exact ⟨u, rfl, h2, lE h1 (by rw [hB]; exact hb.size), qL h1⟩
theorem bZ {S : St} {vr vi vo : Value} {p : Nat} {W w : World} (H : vD S vr vi vo p W) (hb : Below W.heap.size W w) (j : Nat) : w.cell? ⟨p, j, none⟩ = (stc S vr vi vo)[j]? := by rw [hb.cell H.lt]; exact H.cell j
theorem lF {w : World} {B n : Nat} {v : Value} {xs : List Value} (h : w.ownsRow B 5 1 v n xs) : ∃ a n' c, v = .slice a n' c := by
 rcases Go.Joins.ownsRow_forms h with ⟨rfl, _⟩ | ⟨g, cap, rfl⟩
 ·exact ⟨_, _, _, rfl⟩
 ·exact ⟨_, _, _, rfl⟩
def FrG (i : Nat) (sh : Option Tmp × Op × Option (Nat × Bool)) : Prop := ∀ {S : St} {vr vi vo : Value} {p : Nat} {W : World} {ops : Array Oper} {Q : Exit → Act → World → Prop} (_ : vD S vr vi vo p W) {o : Oper} (_ : ops[i]? = some o) (_ : shp o = sh) (a : Act) (w : World)
  (_ : a.eval (.tmp 1) = .pointer (some ⟨p, 0, none⟩)) (_ : Exk (fun _ => False) W w) (_ : bS ops a = fun k => a.eval (.tmp (nG k))) (_ : ∀ k ∈ fD i, FK W.heap.size (mE S vr vi vo p k) ((k :: fD k).map (bS ops a)) w),
  wpOp prog ops Q i (frK ops fD [2, 33, 40] (fun _ => False) W.heap.size (mE S vr vi vo p) i o a w) a w
theorem DE : FrG 0 (some 7, .fieldAddr 35 (.tmp 1) 0, none) := by
 intro S vr vi vo p W ops Q H o ho hd a w h1 hx hl hn
 have hop : o.op = .fieldAddr 35 (.tmp 1) 0 := congrArg (fun x => x.2.1) hd
 have hb : Below W.heap.size W w := hx.e.below (Nat.le_refl _) (fun _ h => h.elim)
 refine aW ho hd (.pointer (some ⟨p, 0, none⟩)) ?_ (Below.refl _ _) rfl (by decide)
 clear hd hn hl ho
 generalize a.eval = ρ at *
 simp [execOp, hop, h1, go_sem]
theorem DF : FrG 1 (some 8, .load 32 (.tmp 7), none) := by
 intro S vr vi vo p W ops Q H o ho hd a w h1 hx hl hn
 have hop : o.op = .load 32 (.tmp 7) := congrArg (fun x => x.2.1) hd
 have hb : Below W.heap.size W w := hx.e.below (Nat.le_refl _) (fun _ h => h.elim)
 have q0 : a.eval (.tmp 7) = .pointer (some ⟨p, 0, none⟩) := by
  have h := hn 0 (by decide)
  rw [hl] at h
  exact h
 have hc : w.cell? ⟨p, 0, none⟩ = some (vr) := bZ H hb 0
 refine aW ho hd (vr) ?_ (Below.refl _ _) rfl (by decide)
 clear hd hn hl ho h1
 generalize a.eval = ρ at *
 simp [execOp, hop, q0, hc, go_sem]
theorem DG : FrG 2 (some 9, .call { callee := .value (.func 41), args := #[.tmp 8], argTypes := #[32] }, none) := by
 intro S vr vi vo p W ops Q H o ho hd a w h1 hx hl hn
 have hop : o.op = .call { callee := .value (.func 41), args := #[.tmp 8], argTypes := #[32] } := congrArg (fun x => x.2.1) hd
 have hb : Below W.heap.size W w := hx.e.below (Nat.le_refl _) (fun _ h => h.elim)
 have q1 : a.eval (.tmp 8) = vr := by
  have h := hn 1 (by decide)
  rw [hl] at h
  exact h
 have hf : a.eval (.func 41) = .func (.func 41) #[] #[] := rfl
 refine lI ho hd (f := 41) (args := #[vr]) ?_ (kW (S := S) (vr := vr) (vi := vi) (vo := vo) (p := p) hb H.r H.lr rfl)
 clear hd hn hl ho h1
 generalize a.eval = ρ at *
 simp [execOp, hop, q1, hf, go_sem]
theorem DH : FrG 3 (some 10, .build 106 #[(0, .tmp 9)], none) := by
 intro S vr vi vo p W ops Q H o ho hd a w h1 hx hl hn
 have hop : o.op = .build 106 #[(0, .tmp 9)] := congrArg (fun x => x.2.1) hd
 have hb : Below W.heap.size W w := hx.e.below (Nat.le_refl _) (fun _ h => h.elim)
 have q2 : w.ownsRow W.heap.size 5 1 (a.eval (.tmp 9)) S.ram.length (bv S.ram) := by
  have h := hn 2 (by decide)
  rw [hl] at h
  exact h
 obtain ⟨x, y, z, hu⟩ := lF q2
 refine aW ho hd (.agg #[a.eval (.tmp 9)]) ?_ (Below.refl _ _) ?_ (by decide)
 ·clear hd hn hl ho h1 q2
  generalize a.eval = ρ at *
  simp [execOp, hop, hu, go_sem]
 ·rw [hl]; rfl
theorem DI : FrG 4 (some 11, .box 106 (.tmp 10), none) := by
 intro S vr vi vo p W ops Q H o ho hd a w h1 hx hl hn
 have hop : o.op = .box 106 (.tmp 10) := congrArg (fun x => x.2.1) hd
 have hb : Below W.heap.size W w := hx.e.below (Nat.le_refl _) (fun _ h => h.elim)
 have q3 : a.eval (.tmp 10) = .agg #[a.eval (.tmp 9)] := by
  have h := hn 3 (by decide)
  rw [hl] at h
  exact h
 have q2 : w.ownsRow W.heap.size 5 1 (a.eval (.tmp 9)) S.ram.length (bv S.ram) := by
  have h := hn 2 (by decide)
  rw [hl] at h
  exact h
 refine aW ho hd (w' := w.alloc (.cells #[a.eval (.tmp 9)] 106)) (.pointer (some ⟨w.heap.size, 0, none⟩)) ?_ ((Below.refl _ _).alloc (Nat.le_refl _) _) ?_ (by decide)
 ·clear hn hl ho h1
  clear q2 hd
  generalize a.eval = ρ at *
  simp [execOp, hop, q3, go_sem]
 ·rw [hl]; exact ⟨w.heap.size, rfl, hb.size, cO _ _⟩
theorem DJ : FrG 5 (some 12, .fieldAddr 35 (.tmp 1) 13, none) := by
 intro S vr vi vo p W ops Q H o ho hd a w h1 hx hl hn
 have hop : o.op = .fieldAddr 35 (.tmp 1) 13 := congrArg (fun x => x.2.1) hd
 have hb : Below W.heap.size W w := hx.e.below (Nat.le_refl _) (fun _ h => h.elim)
 refine aW ho hd (.pointer (some ⟨p, 13, none⟩)) ?_ (Below.refl _ _) rfl (by decide)
 clear hd hn hl ho
 generalize a.eval = ρ at *
 simp [execOp, hop, h1, go_sem]
theorem DK : FrG 6 (some 13, .load 3 (.tmp 12), none) := by
 intro S vr vi vo p W ops Q H o ho hd a w h1 hx hl hn
 have hop : o.op = .load 3 (.tmp 12) := congrArg (fun x => x.2.1) hd
 have hb : Below W.heap.size W w := hx.e.below (Nat.le_refl _) (fun _ h => h.elim)
 have q5 : a.eval (.tmp 12) = .pointer (some ⟨p, 13, none⟩) := by
  have h := hn 5 (by decide)
  rw [hl] at h
  exact h
 have hc : w.cell? ⟨p, 13, none⟩ = some (.int .i64 S.off) := bZ H hb 13
 refine aW ho hd (.int .i64 S.off) ?_ (Below.refl _ _) rfl (by decide)
 clear hd hn hl ho h1
 generalize a.eval = ρ at *
 simp [execOp, hop, q5, hc, go_sem]
theorem DL : FrG 7 (some 14, .fieldAddr 35 (.tmp 1) 14, none) := by
 intro S vr vi vo p W ops Q H o ho hd a w h1 hx hl hn
 have hop : o.op = .fieldAddr 35 (.tmp 1) 14 := congrArg (fun x => x.2.1) hd
 have hb : Below W.heap.size W w := hx.e.below (Nat.le_refl _) (fun _ h => h.elim)
 refine aW ho hd (.pointer (some ⟨p, 14, none⟩)) ?_ (Below.refl _ _) rfl (by decide)
 clear hd hn hl ho
 generalize a.eval = ρ at *
 simp [execOp, hop, h1, go_sem]
theorem DM : FrG 8 (some 15, .load 3 (.tmp 14), none) := by
 intro S vr vi vo p W ops Q H o ho hd a w h1 hx hl hn
 have hop : o.op = .load 3 (.tmp 14) := congrArg (fun x => x.2.1) hd
 have hb : Below W.heap.size W w := hx.e.below (Nat.le_refl _) (fun _ h => h.elim)
 have q7 : a.eval (.tmp 14) = .pointer (some ⟨p, 14, none⟩) := by
  have h := hn 7 (by decide)
  rw [hl] at h
  exact h
 have hc : w.cell? ⟨p, 14, none⟩ = some (.int .i64 S.code) := bZ H hb 14
 refine aW ho hd (.int .i64 S.code) ?_ (Below.refl _ _) rfl (by decide)
 clear hd hn hl ho h1
 generalize a.eval = ρ at *
 simp [execOp, hop, q7, hc, go_sem]
theorem DN : FrG 9 (some 16, .build 113 #[(0, .tmp 13), (1, .tmp 15)], none) := by
 intro S vr vi vo p W ops Q H o ho hd a w h1 hx hl hn
 have hop : o.op = .build 113 #[(0, .tmp 13), (1, .tmp 15)] := congrArg (fun x => x.2.1) hd
 have hb : Below W.heap.size W w := hx.e.below (Nat.le_refl _) (fun _ h => h.elim)
 have q6 : a.eval (.tmp 13) = .int .i64 S.off := by
  have h := hn 6 (by decide)
  rw [hl] at h
  exact h
 have q8 : a.eval (.tmp 15) = .int .i64 S.code := by
  have h := hn 8 (by decide)
  rw [hl] at h
  exact h
 refine aW ho hd (.agg #[.int .i64 S.off, .int .i64 S.code]) ?_ (Below.refl _ _) rfl (by decide)
 clear hd hn hl ho h1
 generalize a.eval = ρ at *
 simp [execOp, hop, q6, q8, go_sem]
theorem zO : FrG 10 (some 17, .box 113 (.tmp 16), none) := by
 intro S vr vi vo p W ops Q H o ho hd a w h1 hx hl hn
 have hop : o.op = .box 113 (.tmp 16) := congrArg (fun x => x.2.1) hd
 have hb : Below W.heap.size W w := hx.e.below (Nat.le_refl _) (fun _ h => h.elim)
 have q9 : a.eval (.tmp 16) = .agg #[.int .i64 S.off, .int .i64 S.code] := by
  have h := hn 9 (by decide)
  rw [hl] at h
  exact h
 refine aW ho hd (w' := w.alloc (.cells #[.int .i64 S.off, .int .i64 S.code] 113)) (.pointer (some ⟨w.heap.size, 0, none⟩)) ?_ ((Below.refl _ _).alloc (Nat.le_refl _) _) ?_ (by decide)
 ·clear hn hl ho h1
  clear hd
  generalize a.eval = ρ at *
  simp [execOp, hop, q9, go_sem]
 ·rw [hl]; exact ⟨w.heap.size, rfl, hb.size, cO _ _⟩
theorem zP : FrG 11 (some 18, .fieldAddr 35 (.tmp 1) 1, none) := by
 intro S vr vi vo p W ops Q H o ho hd a w h1 hx hl hn
 have hop : o.op = .fieldAddr 35 (.tmp 1) 1 := congrArg (fun x => x.2.1) hd
 have hb : Below W.heap.size W w := hx.e.below (Nat.le_refl _) (fun _ h => h.elim)
 refine aW ho hd (.pointer (some ⟨p, 1, none⟩)) ?_ (Below.refl _ _) rfl (by decide)
 clear hd hn hl ho
 generalize a.eval = ρ at *
 simp [execOp, hop, h1, go_sem]
theorem zQ : FrG 12 (some 19, .load 33 (.tmp 18), none) := by
 intro S vr vi vo p W ops Q H o ho hd a w h1 hx hl hn
 have hop : o.op = .load 33 (.tmp 18) := congrArg (fun x => x.2.1) hd
 have hb : Below W.heap.size W w := hx.e.below (Nat.le_refl _) (fun _ h => h.elim)
 have q11 : a.eval (.tmp 18) = .pointer (some ⟨p, 1, none⟩) := by
  have h := hn 11 (by decide)
  rw [hl] at h
  exact h
 have hc : w.cell? ⟨p, 1, none⟩ = some (.int .u32 S.msip) := bZ H hb 1
 refine aW ho hd (.int .u32 S.msip) ?_ (Below.refl _ _) rfl (by decide)
 clear hd hn hl ho h1
 generalize a.eval = ρ at *
 simp [execOp, hop, q11, hc, go_sem]
theorem zR : FrG 13 (some 20, .build 108 #[(0, .tmp 19)], none) := by
 intro S vr vi vo p W ops Q H o ho hd a w h1 hx hl hn
 have hop : o.op = .build 108 #[(0, .tmp 19)] := congrArg (fun x => x.2.1) hd
 have hb : Below W.heap.size W w := hx.e.below (Nat.le_refl _) (fun _ h => h.elim)
 have q12 : a.eval (.tmp 19) = .int .u32 S.msip := by
  have h := hn 12 (by decide)
  rw [hl] at h
  exact h
 refine aW ho hd (.agg #[.int .u32 S.msip]) ?_ (Below.refl _ _) rfl (by decide)
 clear hd hn hl ho h1
 generalize a.eval = ρ at *
 simp [execOp, hop, q12, go_sem]
theorem zS : FrG 14 (some 21, .box 108 (.tmp 20), none) := by
 intro S vr vi vo p W ops Q H o ho hd a w h1 hx hl hn
 have hop : o.op = .box 108 (.tmp 20) := congrArg (fun x => x.2.1) hd
 have hb : Below W.heap.size W w := hx.e.below (Nat.le_refl _) (fun _ h => h.elim)
 have q13 : a.eval (.tmp 20) = .agg #[.int .u32 S.msip] := by
  have h := hn 13 (by decide)
  rw [hl] at h
  exact h
 refine aW ho hd (w' := w.alloc (.cells #[.int .u32 S.msip] 108)) (.pointer (some ⟨w.heap.size, 0, none⟩)) ?_ ((Below.refl _ _).alloc (Nat.le_refl _) _) ?_ (by decide)
 ·clear hn hl ho h1
  clear hd
  generalize a.eval = ρ at *
  simp [execOp, hop, q13, go_sem]
 ·rw [hl]; exact ⟨w.heap.size, rfl, hb.size, cO _ _⟩
theorem zT : FrG 15 (some 22, .fieldAddr 35 (.tmp 1) 2, none) := by
 intro S vr vi vo p W ops Q H o ho hd a w h1 hx hl hn
 have hop : o.op = .fieldAddr 35 (.tmp 1) 2 := congrArg (fun x => x.2.1) hd
 have hb : Below W.heap.size W w := hx.e.below (Nat.le_refl _) (fun _ h => h.elim)
 refine aW ho hd (.pointer (some ⟨p, 2, none⟩)) ?_ (Below.refl _ _) rfl (by decide)
 clear hd hn hl ho
 generalize a.eval = ρ at *
 simp [execOp, hop, h1, go_sem]
theorem zU : FrG 16 (some 23, .load 22 (.tmp 22), none) := by
 intro S vr vi vo p W ops Q H o ho hd a w h1 hx hl hn
 have hop : o.op = .load 22 (.tmp 22) := congrArg (fun x => x.2.1) hd
 have hb : Below W.heap.size W w := hx.e.below (Nat.le_refl _) (fun _ h => h.elim)
 have q15 : a.eval (.tmp 22) = .pointer (some ⟨p, 2, none⟩) := by
  have h := hn 15 (by decide)
  rw [hl] at h
  exact h
 have hc : w.cell? ⟨p, 2, none⟩ = some (.int .u64 S.cmp) := bZ H hb 2
 refine aW ho hd (.int .u64 S.cmp) ?_ (Below.refl _ _) rfl (by decide)
 clear hd hn hl ho h1
 generalize a.eval = ρ at *
 simp [execOp, hop, q15, hc, go_sem]
theorem zV : FrG 17 (some 24, .build 110 #[(0, .const (.int .u64 33570816)), (1, .tmp 23)], none) := by
 intro S vr vi vo p W ops Q H o ho hd a w h1 hx hl hn
 have hop : o.op = .build 110 #[(0, .const (.int .u64 33570816)), (1, .tmp 23)] := congrArg (fun x => x.2.1) hd
 have hb : Below W.heap.size W w := hx.e.below (Nat.le_refl _) (fun _ h => h.elim)
 have q16 : a.eval (.tmp 23) = .int .u64 S.cmp := by
  have h := hn 16 (by decide)
  rw [hl] at h
  exact h
 have hf : a.eval (.const (.int .u64 33570816)) = .int .u64 33570816 := rfl
 refine aW ho hd (.agg #[.int .u64 33570816, .int .u64 S.cmp]) ?_ (Below.refl _ _) rfl (by decide)
 clear hd hn hl ho h1
 generalize a.eval = ρ at *
 simp [execOp, hop, hf, q16, go_sem]
theorem zW : FrG 18 (some 25, .box 110 (.tmp 24), none) := by
 intro S vr vi vo p W ops Q H o ho hd a w h1 hx hl hn
 have hop : o.op = .box 110 (.tmp 24) := congrArg (fun x => x.2.1) hd
 have hb : Below W.heap.size W w := hx.e.below (Nat.le_refl _) (fun _ h => h.elim)
 have q17 : a.eval (.tmp 24) = .agg #[.int .u64 33570816, .int .u64 S.cmp] := by
  have h := hn 17 (by decide)
  rw [hl] at h
  exact h
 refine aW ho hd (w' := w.alloc (.cells #[.int .u64 33570816, .int .u64 S.cmp] 110)) (.pointer (some ⟨w.heap.size, 0, none⟩)) ?_ ((Below.refl _ _).alloc (Nat.le_refl _) _) ?_ (by decide)
 ·clear hn hl ho h1
  clear hd
  generalize a.eval = ρ at *
  simp [execOp, hop, q17, go_sem]
 ·rw [hl]; exact ⟨w.heap.size, rfl, hb.size, cO _ _⟩
theorem zX : FrG 19 (some 26, .fieldAddr 35 (.tmp 1) 3, none) := by
 intro S vr vi vo p W ops Q H o ho hd a w h1 hx hl hn
 have hop : o.op = .fieldAddr 35 (.tmp 1) 3 := congrArg (fun x => x.2.1) hd
 have hb : Below W.heap.size W w := hx.e.below (Nat.le_refl _) (fun _ h => h.elim)
 refine aW ho hd (.pointer (some ⟨p, 3, none⟩)) ?_ (Below.refl _ _) rfl (by decide)
 clear hd hn hl ho
 generalize a.eval = ρ at *
 simp [execOp, hop, h1, go_sem]
theorem zY : FrG 20 (some 27, .load 22 (.tmp 26), none) := by
 intro S vr vi vo p W ops Q H o ho hd a w h1 hx hl hn
 have hop : o.op = .load 22 (.tmp 26) := congrArg (fun x => x.2.1) hd
 have hb : Below W.heap.size W w := hx.e.below (Nat.le_refl _) (fun _ h => h.elim)
 have q19 : a.eval (.tmp 26) = .pointer (some ⟨p, 3, none⟩) := by
  have h := hn 19 (by decide)
  rw [hl] at h
  exact h
 have hc : w.cell? ⟨p, 3, none⟩ = some (.int .u64 S.time) := bZ H hb 3
 refine aW ho hd (.int .u64 S.time) ?_ (Below.refl _ _) rfl (by decide)
 clear hd hn hl ho h1
 generalize a.eval = ρ at *
 simp [execOp, hop, q19, hc, go_sem]
theorem zZ : FrG 21 (some 28, .build 110 #[(0, .const (.int .u64 33603576)), (1, .tmp 27)], none) := by
 intro S vr vi vo p W ops Q H o ho hd a w h1 hx hl hn
 have hop : o.op = .build 110 #[(0, .const (.int .u64 33603576)), (1, .tmp 27)] := congrArg (fun x => x.2.1) hd
 have hb : Below W.heap.size W w := hx.e.below (Nat.le_refl _) (fun _ h => h.elim)
 have q20 : a.eval (.tmp 27) = .int .u64 S.time := by
  have h := hn 20 (by decide)
  rw [hl] at h
  exact h
 have hf : a.eval (.const (.int .u64 33603576)) = .int .u64 33603576 := rfl
 refine aW ho hd (.agg #[.int .u64 33603576, .int .u64 S.time]) ?_ (Below.refl _ _) rfl (by decide)
 clear hd hn hl ho h1
 generalize a.eval = ρ at *
 simp [execOp, hop, hf, q20, go_sem]
theorem AA : FrG 22 (some 29, .box 110 (.tmp 28), none) := by
 intro S vr vi vo p W ops Q H o ho hd a w h1 hx hl hn
 have hop : o.op = .box 110 (.tmp 28) := congrArg (fun x => x.2.1) hd
 have hb : Below W.heap.size W w := hx.e.below (Nat.le_refl _) (fun _ h => h.elim)
 have q21 : a.eval (.tmp 28) = .agg #[.int .u64 33603576, .int .u64 S.time] := by
  have h := hn 21 (by decide)
  rw [hl] at h
  exact h
 refine aW ho hd (w' := w.alloc (.cells #[.int .u64 33603576, .int .u64 S.time] 110)) (.pointer (some ⟨w.heap.size, 0, none⟩)) ?_ ((Below.refl _ _).alloc (Nat.le_refl _) _) ?_ (by decide)
 ·clear hn hl ho h1
  clear hd
  generalize a.eval = ρ at *
  simp [execOp, hop, q21, go_sem]
 ·rw [hl]; exact ⟨w.heap.size, rfl, hb.size, cO _ _⟩
theorem AB : FrG 23 (some 30, .fieldAddr 35 (.tmp 1) 6, none) := by
 intro S vr vi vo p W ops Q H o ho hd a w h1 hx hl hn
 have hop : o.op = .fieldAddr 35 (.tmp 1) 6 := congrArg (fun x => x.2.1) hd
 have hb : Below W.heap.size W w := hx.e.below (Nat.le_refl _) (fun _ h => h.elim)
 refine aW ho hd (.pointer (some ⟨p, 6, none⟩)) ?_ (Below.refl _ _) rfl (by decide)
 clear hd hn hl ho
 generalize a.eval = ρ at *
 simp [execOp, hop, h1, go_sem]
theorem AC : FrG 24 (some 31, .load 5 (.tmp 30), none) := by
 intro S vr vi vo p W ops Q H o ho hd a w h1 hx hl hn
 have hop : o.op = .load 5 (.tmp 30) := congrArg (fun x => x.2.1) hd
 have hb : Below W.heap.size W w := hx.e.below (Nat.le_refl _) (fun _ h => h.elim)
 have q23 : a.eval (.tmp 30) = .pointer (some ⟨p, 6, none⟩) := by
  have h := hn 23 (by decide)
  rw [hl] at h
  exact h
 have hc : w.cell? ⟨p, 6, none⟩ = some (.int .u8 S.ier) := bZ H hb 6
 refine aW ho hd (.int .u8 S.ier) ?_ (Below.refl _ _) rfl (by decide)
 clear hd hn hl ho h1
 generalize a.eval = ρ at *
 simp [execOp, hop, q23, hc, go_sem]
theorem AD : FrG 25 (some 32, .fieldAddr 35 (.tmp 1) 7, none) := by
 intro S vr vi vo p W ops Q H o ho hd a w h1 hx hl hn
 have hop : o.op = .fieldAddr 35 (.tmp 1) 7 := congrArg (fun x => x.2.1) hd
 have hb : Below W.heap.size W w := hx.e.below (Nat.le_refl _) (fun _ h => h.elim)
 refine aW ho hd (.pointer (some ⟨p, 7, none⟩)) ?_ (Below.refl _ _) rfl (by decide)
 clear hd hn hl ho
 generalize a.eval = ρ at *
 simp [execOp, hop, h1, go_sem]
theorem AE : FrG 26 (some 33, .load 5 (.tmp 32), none) := by
 intro S vr vi vo p W ops Q H o ho hd a w h1 hx hl hn
 have hop : o.op = .load 5 (.tmp 32) := congrArg (fun x => x.2.1) hd
 have hb : Below W.heap.size W w := hx.e.below (Nat.le_refl _) (fun _ h => h.elim)
 have q25 : a.eval (.tmp 32) = .pointer (some ⟨p, 7, none⟩) := by
  have h := hn 25 (by decide)
  rw [hl] at h
  exact h
 have hc : w.cell? ⟨p, 7, none⟩ = some (.int .u8 S.lcr) := bZ H hb 7
 refine aW ho hd (.int .u8 S.lcr) ?_ (Below.refl _ _) rfl (by decide)
 clear hd hn hl ho h1
 generalize a.eval = ρ at *
 simp [execOp, hop, q25, hc, go_sem]
theorem AF : FrG 27 (some 34, .fieldAddr 35 (.tmp 1) 8, none) := by
 intro S vr vi vo p W ops Q H o ho hd a w h1 hx hl hn
 have hop : o.op = .fieldAddr 35 (.tmp 1) 8 := congrArg (fun x => x.2.1) hd
 have hb : Below W.heap.size W w := hx.e.below (Nat.le_refl _) (fun _ h => h.elim)
 refine aW ho hd (.pointer (some ⟨p, 8, none⟩)) ?_ (Below.refl _ _) rfl (by decide)
 clear hd hn hl ho
 generalize a.eval = ρ at *
 simp [execOp, hop, h1, go_sem]
theorem AG : FrG 28 (some 35, .load 5 (.tmp 34), none) := by
 intro S vr vi vo p W ops Q H o ho hd a w h1 hx hl hn
 have hop : o.op = .load 5 (.tmp 34) := congrArg (fun x => x.2.1) hd
 have hb : Below W.heap.size W w := hx.e.below (Nat.le_refl _) (fun _ h => h.elim)
 have q27 : a.eval (.tmp 34) = .pointer (some ⟨p, 8, none⟩) := by
  have h := hn 27 (by decide)
  rw [hl] at h
  exact h
 have hc : w.cell? ⟨p, 8, none⟩ = some (.int .u8 S.mcr) := bZ H hb 8
 refine aW ho hd (.int .u8 S.mcr) ?_ (Below.refl _ _) rfl (by decide)
 clear hd hn hl ho h1
 generalize a.eval = ρ at *
 simp [execOp, hop, q27, hc, go_sem]
theorem AH : FrG 29 (some 36, .fieldAddr 35 (.tmp 1) 9, none) := by
 intro S vr vi vo p W ops Q H o ho hd a w h1 hx hl hn
 have hop : o.op = .fieldAddr 35 (.tmp 1) 9 := congrArg (fun x => x.2.1) hd
 have hb : Below W.heap.size W w := hx.e.below (Nat.le_refl _) (fun _ h => h.elim)
 refine aW ho hd (.pointer (some ⟨p, 9, none⟩)) ?_ (Below.refl _ _) rfl (by decide)
 clear hd hn hl ho
 generalize a.eval = ρ at *
 simp [execOp, hop, h1, go_sem]
theorem AI : FrG 30 (some 37, .load 5 (.tmp 36), none) := by
 intro S vr vi vo p W ops Q H o ho hd a w h1 hx hl hn
 have hop : o.op = .load 5 (.tmp 36) := congrArg (fun x => x.2.1) hd
 have hb : Below W.heap.size W w := hx.e.below (Nat.le_refl _) (fun _ h => h.elim)
 have q29 : a.eval (.tmp 36) = .pointer (some ⟨p, 9, none⟩) := by
  have h := hn 29 (by decide)
  rw [hl] at h
  exact h
 have hc : w.cell? ⟨p, 9, none⟩ = some (.int .u8 S.scr) := bZ H hb 9
 refine aW ho hd (.int .u8 S.scr) ?_ (Below.refl _ _) rfl (by decide)
 clear hd hn hl ho h1
 generalize a.eval = ρ at *
 simp [execOp, hop, q29, hc, go_sem]
theorem AJ : FrG 31 (some 38, .fieldAddr 35 (.tmp 1) 11, none) := by
 intro S vr vi vo p W ops Q H o ho hd a w h1 hx hl hn
 have hop : o.op = .fieldAddr 35 (.tmp 1) 11 := congrArg (fun x => x.2.1) hd
 have hb : Below W.heap.size W w := hx.e.below (Nat.le_refl _) (fun _ h => h.elim)
 refine aW ho hd (.pointer (some ⟨p, 11, none⟩)) ?_ (Below.refl _ _) rfl (by decide)
 clear hd hn hl ho
 generalize a.eval = ρ at *
 simp [execOp, hop, h1, go_sem]
theorem AK : FrG 32 (some 39, .load 32 (.tmp 38), none) := by
 intro S vr vi vo p W ops Q H o ho hd a w h1 hx hl hn
 have hop : o.op = .load 32 (.tmp 38) := congrArg (fun x => x.2.1) hd
 have hb : Below W.heap.size W w := hx.e.below (Nat.le_refl _) (fun _ h => h.elim)
 have q31 : a.eval (.tmp 38) = .pointer (some ⟨p, 11, none⟩) := by
  have h := hn 31 (by decide)
  rw [hl] at h
  exact h
 have hc : w.cell? ⟨p, 11, none⟩ = some (vi) := bZ H hb 11
 refine aW ho hd (vi) ?_ (Below.refl _ _) rfl (by decide)
 clear hd hn hl ho h1
 generalize a.eval = ρ at *
 simp [execOp, hop, q31, hc, go_sem]
theorem AL : FrG 33 (some 40, .call { callee := .value (.func 41), args := #[.tmp 39], argTypes := #[32] }, none) := by
 intro S vr vi vo p W ops Q H o ho hd a w h1 hx hl hn
 have hop : o.op = .call { callee := .value (.func 41), args := #[.tmp 39], argTypes := #[32] } := congrArg (fun x => x.2.1) hd
 have hb : Below W.heap.size W w := hx.e.below (Nat.le_refl _) (fun _ h => h.elim)
 have q32 : a.eval (.tmp 39) = vi := by
  have h := hn 32 (by decide)
  rw [hl] at h
  exact h
 have hf : a.eval (.func 41) = .func (.func 41) #[] #[] := rfl
 refine lI ho hd (f := 41) (args := #[vi]) ?_ (kW (S := S) (vr := vr) (vi := vi) (vo := vo) (p := p) hb H.i H.li rfl)
 clear hd hn hl ho h1
 generalize a.eval = ρ at *
 simp [execOp, hop, q32, hf, go_sem]
theorem AN : FrG 34 (some 41, .fieldAddr 35 (.tmp 1) 10, none) := by
 intro S vr vi vo p W ops Q H o ho hd a w h1 hx hl hn
 have hop : o.op = .fieldAddr 35 (.tmp 1) 10 := congrArg (fun x => x.2.1) hd
 have hb : Below W.heap.size W w := hx.e.below (Nat.le_refl _) (fun _ h => h.elim)
 refine aW ho hd (.pointer (some ⟨p, 10, none⟩)) ?_ (Below.refl _ _) rfl (by decide)
 clear hd hn hl ho
 generalize a.eval = ρ at *
 simp [execOp, hop, h1, go_sem]
theorem AO : FrG 35 (some 42, .load 4 (.tmp 41), none) := by
 intro S vr vi vo p W ops Q H o ho hd a w h1 hx hl hn
 have hop : o.op = .load 4 (.tmp 41) := congrArg (fun x => x.2.1) hd
 have hb : Below W.heap.size W w := hx.e.below (Nat.le_refl _) (fun _ h => h.elim)
 have q34 : a.eval (.tmp 41) = .pointer (some ⟨p, 10, none⟩) := by
  have h := hn 34 (by decide)
  rw [hl] at h
  exact h
 have hc : w.cell? ⟨p, 10, none⟩ = some (.bool S.ov) := bZ H hb 10
 refine aW ho hd (.bool S.ov) ?_ (Below.refl _ _) rfl (by decide)
 clear hd hn hl ho h1
 generalize a.eval = ρ at *
 simp [execOp, hop, q34, hc, go_sem]
theorem AP : FrG 36 (some 43, .build 123 #[(1, .tmp 40), (2, .tmp 42)], none) := by
 intro S vr vi vo p W ops Q H o ho hd a w h1 hx hl hn
 have hop : o.op = .build 123 #[(1, .tmp 40), (2, .tmp 42)] := congrArg (fun x => x.2.1) hd
 have hb : Below W.heap.size W w := hx.e.below (Nat.le_refl _) (fun _ h => h.elim)
 have q33 : w.ownsRow W.heap.size 5 1 (a.eval (.tmp 40)) S.inp.length (bv S.inp) := by
  have h := hn 33 (by decide)
  rw [hl] at h
  exact h
 have q35 : a.eval (.tmp 42) = .bool S.ov := by
  have h := hn 35 (by decide)
  rw [hl] at h
  exact h
 obtain ⟨x, y, z, hu⟩ := lF q33
 refine aW ho hd (.agg #[.int .i32 0, .int .u32 0, a.eval (.tmp 40), .bool S.ov]) ?_ (Below.refl _ _) ?_ (by decide)
 ·clear hd hn hl ho h1 q33
  generalize a.eval = ρ at *
  simp [execOp, hop, hu, q35, go_sem]
 ·rw [hl]; rfl
theorem AQ : FrG 37 (some 44, .box 123 (.tmp 43), none) := by
 intro S vr vi vo p W ops Q H o ho hd a w h1 hx hl hn
 have hop : o.op = .box 123 (.tmp 43) := congrArg (fun x => x.2.1) hd
 have hb : Below W.heap.size W w := hx.e.below (Nat.le_refl _) (fun _ h => h.elim)
 have q36 : a.eval (.tmp 43) = .agg #[.int .i32 0, .int .u32 0, a.eval (.tmp 40), .bool S.ov] := by
  have h := hn 36 (by decide)
  rw [hl] at h
  exact h
 have q33 : w.ownsRow W.heap.size 5 1 (a.eval (.tmp 40)) S.inp.length (bv S.inp) := by
  have h := hn 33 (by decide)
  rw [hl] at h
  exact h
 refine aW ho hd (w' := w.alloc (.cells #[.int .i32 0, .int .u32 0, a.eval (.tmp 40), .bool S.ov] 123)) (.pointer (some ⟨w.heap.size, 0, none⟩)) ?_ ((Below.refl _ _).alloc (Nat.le_refl _) _) ?_ (by decide)
 ·clear hn hl ho h1
  clear q33 hd
  generalize a.eval = ρ at *
  simp [execOp, hop, q36, go_sem]
 ·rw [hl]; exact ⟨w.heap.size, rfl, hb.size, cO _ _⟩
theorem AR : FrG 38 (some 45, .fieldAddr 35 (.tmp 1) 12, none) := by
 intro S vr vi vo p W ops Q H o ho hd a w h1 hx hl hn
 have hop : o.op = .fieldAddr 35 (.tmp 1) 12 := congrArg (fun x => x.2.1) hd
 have hb : Below W.heap.size W w := hx.e.below (Nat.le_refl _) (fun _ h => h.elim)
 refine aW ho hd (.pointer (some ⟨p, 12, none⟩)) ?_ (Below.refl _ _) rfl (by decide)
 clear hd hn hl ho
 generalize a.eval = ρ at *
 simp [execOp, hop, h1, go_sem]
theorem AS : FrG 39 (some 46, .load 32 (.tmp 45), none) := by
 intro S vr vi vo p W ops Q H o ho hd a w h1 hx hl hn
 have hop : o.op = .load 32 (.tmp 45) := congrArg (fun x => x.2.1) hd
 have hb : Below W.heap.size W w := hx.e.below (Nat.le_refl _) (fun _ h => h.elim)
 have q38 : a.eval (.tmp 45) = .pointer (some ⟨p, 12, none⟩) := by
  have h := hn 38 (by decide)
  rw [hl] at h
  exact h
 have hc : w.cell? ⟨p, 12, none⟩ = some (vo) := bZ H hb 12
 refine aW ho hd (vo) ?_ (Below.refl _ _) rfl (by decide)
 clear hd hn hl ho h1
 generalize a.eval = ρ at *
 simp [execOp, hop, q38, hc, go_sem]
theorem AU : FrG 40 (some 47, .call { callee := .value (.func 41), args := #[.tmp 46], argTypes := #[32] }, none) := by
 intro S vr vi vo p W ops Q H o ho hd a w h1 hx hl hn
 have hop : o.op = .call { callee := .value (.func 41), args := #[.tmp 46], argTypes := #[32] } := congrArg (fun x => x.2.1) hd
 have hb : Below W.heap.size W w := hx.e.below (Nat.le_refl _) (fun _ h => h.elim)
 have q39 : a.eval (.tmp 46) = vo := by
  have h := hn 39 (by decide)
  rw [hl] at h
  exact h
 have hf : a.eval (.func 41) = .func (.func 41) #[] #[] := rfl
 refine lI ho hd (f := 41) (args := #[vo]) ?_ (kW (S := S) (vr := vr) (vi := vi) (vo := vo) (p := p) hb H.o H.lo rfl)
 clear hd hn hl ho h1
 generalize a.eval = ρ at *
 simp [execOp, hop, q39, hf, go_sem]
theorem AV : FrG 41 (some 48, .build 95 #[(0, .tmp 31), (1, .tmp 33), (2, .tmp 35), (3, .tmp 37), (4, .tmp 44), (5, .tmp 47)], none) := by
 intro S vr vi vo p W ops Q H o ho hd a w h1 hx hl hn
 have hop : o.op = .build 95 #[(0, .tmp 31), (1, .tmp 33), (2, .tmp 35), (3, .tmp 37), (4, .tmp 44), (5, .tmp 47)] := congrArg (fun x => x.2.1) hd
 have hb : Below W.heap.size W w := hx.e.below (Nat.le_refl _) (fun _ h => h.elim)
 have q37 : ∃ g, a.eval (.tmp 44) = .pointer (some ⟨g, 0, none⟩) ∧ W.heap.size ≤ g ∧ w.heap[g]? = some (.cells #[.int .i32 0, .int .u32 0, a.eval (.tmp 40), .bool S.ov] 123 (0, 0)) := by
  have h := hn 37 (by decide)
  rw [hl] at h
  exact h
 have q40 : w.ownsRow W.heap.size 5 1 (a.eval (.tmp 47)) S.out.length (bv S.out) := by
  have h := hn 40 (by decide)
  rw [hl] at h
  exact h
 have q24 : a.eval (.tmp 31) = .int .u8 S.ier := by
  have h := hn 24 (by decide)
  rw [hl] at h
  exact h
 have q26 : a.eval (.tmp 33) = .int .u8 S.lcr := by
  have h := hn 26 (by decide)
  rw [hl] at h
  exact h
 have q28 : a.eval (.tmp 35) = .int .u8 S.mcr := by
  have h := hn 28 (by decide)
  rw [hl] at h
  exact h
 have q30 : a.eval (.tmp 37) = .int .u8 S.scr := by
  have h := hn 30 (by decide)
  rw [hl] at h
  exact h
 obtain ⟨x, y, z, hu⟩ := lF q40
 obtain ⟨g, hp, _, _⟩ := q37
 refine aW ho hd (.agg #[.int .u8 S.ier, .int .u8 S.lcr, .int .u8 S.mcr, .int .u8 S.scr, a.eval (.tmp 44), a.eval (.tmp 47)]) ?_ (Below.refl _ _) ?_ (by decide)
 ·clear hd hn hl ho h1 q40
  generalize a.eval = ρ at *
  simp [execOp, hop, hu, hp, q24, q26, q28, q30, go_sem]
 ·rw [hl]; rfl
theorem AW : FrG 42 (some 49, .box 95 (.tmp 48), none) := by
 intro S vr vi vo p W ops Q H o ho hd a w h1 hx hl hn
 have hop : o.op = .box 95 (.tmp 48) := congrArg (fun x => x.2.1) hd
 have hb : Below W.heap.size W w := hx.e.below (Nat.le_refl _) (fun _ h => h.elim)
 have q41 : a.eval (.tmp 48) = .agg #[.int .u8 S.ier, .int .u8 S.lcr, .int .u8 S.mcr, .int .u8 S.scr, a.eval (.tmp 44), a.eval (.tmp 47)] := by
  have h := hn 41 (by decide)
  rw [hl] at h
  exact h
 have q37 : ∃ g, a.eval (.tmp 44) = .pointer (some ⟨g, 0, none⟩) ∧ W.heap.size ≤ g ∧ w.heap[g]? = some (.cells #[.int .i32 0, .int .u32 0, a.eval (.tmp 40), .bool S.ov] 123 (0, 0)) := by
  have h := hn 37 (by decide)
  rw [hl] at h
  exact h
 have q40 : w.ownsRow W.heap.size 5 1 (a.eval (.tmp 47)) S.out.length (bv S.out) := by
  have h := hn 40 (by decide)
  rw [hl] at h
  exact h
 refine aW ho hd (w' := w.alloc (.cells #[.int .u8 S.ier, .int .u8 S.lcr, .int .u8 S.mcr, .int .u8 S.scr, a.eval (.tmp 44), a.eval (.tmp 47)] 95)) (.pointer (some ⟨w.heap.size, 0, none⟩)) ?_ ((Below.refl _ _).alloc (Nat.le_refl _) _) ?_ (by decide)
 ·clear hn hl ho h1
  clear q37 q40 hd
  generalize a.eval = ρ at *
  simp [execOp, hop, q41, go_sem]
 ·rw [hl]; exact ⟨w.heap.size, rfl, hb.size, cO _ _⟩
theorem AX : FrG 43 (some 50, .fieldAddr 35 (.tmp 1) 4, none) := by
 intro S vr vi vo p W ops Q H o ho hd a w h1 hx hl hn
 have hop : o.op = .fieldAddr 35 (.tmp 1) 4 := congrArg (fun x => x.2.1) hd
 have hb : Below W.heap.size W w := hx.e.below (Nat.le_refl _) (fun _ h => h.elim)
 refine aW ho hd (.pointer (some ⟨p, 4, none⟩)) ?_ (Below.refl _ _) rfl (by decide)
 clear hd hn hl ho
 generalize a.eval = ρ at *
 simp [execOp, hop, h1, go_sem]
theorem AY : FrG 44 (some 51, .load 4 (.tmp 50), none) := by
 intro S vr vi vo p W ops Q H o ho hd a w h1 hx hl hn
 have hop : o.op = .load 4 (.tmp 50) := congrArg (fun x => x.2.1) hd
 have hb : Below W.heap.size W w := hx.e.below (Nat.le_refl _) (fun _ h => h.elim)
 have q43 : a.eval (.tmp 50) = .pointer (some ⟨p, 4, none⟩) := by
  have h := hn 43 (by decide)
  rw [hl] at h
  exact h
 have hc : w.cell? ⟨p, 4, none⟩ = some (.bool S.ext) := bZ H hb 4
 refine aW ho hd (.bool S.ext) ?_ (Below.refl _ _) rfl (by decide)
 clear hd hn hl ho h1
 generalize a.eval = ρ at *
 simp [execOp, hop, q43, hc, go_sem]
theorem AZ : FrG 45 (some 52, .fieldAddr 35 (.tmp 1) 5, none) := by
 intro S vr vi vo p W ops Q H o ho hd a w h1 hx hl hn
 have hop : o.op = .fieldAddr 35 (.tmp 1) 5 := congrArg (fun x => x.2.1) hd
 have hb : Below W.heap.size W w := hx.e.below (Nat.le_refl _) (fun _ h => h.elim)
 refine aW ho hd (.pointer (some ⟨p, 5, none⟩)) ?_ (Below.refl _ _) rfl (by decide)
 clear hd hn hl ho
 generalize a.eval = ρ at *
 simp [execOp, hop, h1, go_sem]
theorem BA : FrG 46 (some 53, .load 4 (.tmp 52), none) := by
 intro S vr vi vo p W ops Q H o ho hd a w h1 hx hl hn
 have hop : o.op = .load 4 (.tmp 52) := congrArg (fun x => x.2.1) hd
 have hb : Below W.heap.size W w := hx.e.below (Nat.le_refl _) (fun _ h => h.elim)
 have q45 : a.eval (.tmp 52) = .pointer (some ⟨p, 5, none⟩) := by
  have h := hn 45 (by decide)
  rw [hl] at h
  exact h
 have hc : w.cell? ⟨p, 5, none⟩ = some (.bool S.soft) := bZ H hb 5
 refine aW ho hd (.bool S.soft) ?_ (Below.refl _ _) rfl (by decide)
 clear hd hn hl ho h1
 generalize a.eval = ρ at *
 simp [execOp, hop, q45, hc, go_sem]
theorem BC : FrG 47 (some 54, .build 102 #[(0, .tmp 11), (1, .tmp 17), (2, .tmp 21), (3, .tmp 25), (4, .tmp 29), (5, .tmp 49), (6, .tmp 51), (7, .tmp 53)], none) := by
 intro S vr vi vo p W ops Q H o ho hd a w h1 hx hl hn
 have hop : o.op = .build 102 #[(0, .tmp 11), (1, .tmp 17), (2, .tmp 21), (3, .tmp 25), (4, .tmp 29), (5, .tmp 49), (6, .tmp 51), (7, .tmp 53)] := congrArg (fun x => x.2.1) hd
 have hb : Below W.heap.size W w := hx.e.below (Nat.le_refl _) (fun _ h => h.elim)
 have q4 : ∃ g, a.eval (.tmp 11) = .pointer (some ⟨g, 0, none⟩) ∧ W.heap.size ≤ g ∧ w.heap[g]? = some (.cells #[a.eval (.tmp 9)] 106 (0, 0)) := by
  have h := hn 4 (by decide)
  rw [hl] at h
  exact h
 have q10 : ∃ g, a.eval (.tmp 17) = .pointer (some ⟨g, 0, none⟩) ∧ W.heap.size ≤ g ∧ w.heap[g]? = some (.cells #[.int .i64 S.off, .int .i64 S.code] 113 (0, 0)) := by
  have h := hn 10 (by decide)
  rw [hl] at h
  exact h
 have q14 : ∃ g, a.eval (.tmp 21) = .pointer (some ⟨g, 0, none⟩) ∧ W.heap.size ≤ g ∧ w.heap[g]? = some (.cells #[.int .u32 S.msip] 108 (0, 0)) := by
  have h := hn 14 (by decide)
  rw [hl] at h
  exact h
 have q18 : ∃ g, a.eval (.tmp 25) = .pointer (some ⟨g, 0, none⟩) ∧ W.heap.size ≤ g ∧ w.heap[g]? = some (.cells #[.int .u64 33570816, .int .u64 S.cmp] 110 (0, 0)) := by
  have h := hn 18 (by decide)
  rw [hl] at h
  exact h
 have q22 : ∃ g, a.eval (.tmp 29) = .pointer (some ⟨g, 0, none⟩) ∧ W.heap.size ≤ g ∧ w.heap[g]? = some (.cells #[.int .u64 33603576, .int .u64 S.time] 110 (0, 0)) := by
  have h := hn 22 (by decide)
  rw [hl] at h
  exact h
 have q42 : ∃ g, a.eval (.tmp 49) = .pointer (some ⟨g, 0, none⟩) ∧ W.heap.size ≤ g ∧ w.heap[g]? = some (.cells #[.int .u8 S.ier, .int .u8 S.lcr, .int .u8 S.mcr, .int .u8 S.scr, a.eval (.tmp 44), a.eval (.tmp 47)] 95 (0, 0)) := by
  have h := hn 42 (by decide)
  rw [hl] at h
  exact h
 have q44 : a.eval (.tmp 51) = .bool S.ext := by
  have h := hn 44 (by decide)
  rw [hl] at h
  exact h
 have q46 : a.eval (.tmp 53) = .bool S.soft := by
  have h := hn 46 (by decide)
  rw [hl] at h
  exact h
 obtain ⟨g4, p4, _, _⟩ := q4
 obtain ⟨g10, p10, _, _⟩ := q10
 obtain ⟨g14, p14, _, _⟩ := q14
 obtain ⟨g18, p18, _, _⟩ := q18
 obtain ⟨g22, p22, _, _⟩ := q22
 obtain ⟨g42, p42, _, _⟩ := q42
 refine aW ho hd (.agg #[a.eval (.tmp 11), a.eval (.tmp 17), a.eval (.tmp 21), a.eval (.tmp 25), a.eval (.tmp 29), a.eval (.tmp 49), .bool S.ext, .bool S.soft]) ?_ (Below.refl _ _) ?_ (by decide)
 ·clear hd hn hl ho h1
  generalize a.eval = ρ at *
  simp [execOp, hop, p4, p10, p14, p18, p22, p42, q44, q46, go_sem]
 ·rw [hl]; rfl
theorem BD : FrG 48 (some 55, .box 102 (.tmp 54), none) := by
 intro S vr vi vo p W ops Q H o ho hd a w h1 hx hl hn
 have hop : o.op = .box 102 (.tmp 54) := congrArg (fun x => x.2.1) hd
 have hb : Below W.heap.size W w := hx.e.below (Nat.le_refl _) (fun _ h => h.elim)
 have q47 : a.eval (.tmp 54) = .agg #[a.eval (.tmp 11), a.eval (.tmp 17), a.eval (.tmp 21), a.eval (.tmp 25), a.eval (.tmp 29), a.eval (.tmp 49), .bool S.ext, .bool S.soft] := by
  have h := hn 47 (by decide)
  rw [hl] at h
  exact h
 have q4 : ∃ g, a.eval (.tmp 11) = .pointer (some ⟨g, 0, none⟩) ∧ W.heap.size ≤ g ∧ w.heap[g]? = some (.cells #[a.eval (.tmp 9)] 106 (0, 0)) := by
  have h := hn 4 (by decide)
  rw [hl] at h
  exact h
 have q10 : ∃ g, a.eval (.tmp 17) = .pointer (some ⟨g, 0, none⟩) ∧ W.heap.size ≤ g ∧ w.heap[g]? = some (.cells #[.int .i64 S.off, .int .i64 S.code] 113 (0, 0)) := by
  have h := hn 10 (by decide)
  rw [hl] at h
  exact h
 have q14 : ∃ g, a.eval (.tmp 21) = .pointer (some ⟨g, 0, none⟩) ∧ W.heap.size ≤ g ∧ w.heap[g]? = some (.cells #[.int .u32 S.msip] 108 (0, 0)) := by
  have h := hn 14 (by decide)
  rw [hl] at h
  exact h
 have q18 : ∃ g, a.eval (.tmp 25) = .pointer (some ⟨g, 0, none⟩) ∧ W.heap.size ≤ g ∧ w.heap[g]? = some (.cells #[.int .u64 33570816, .int .u64 S.cmp] 110 (0, 0)) := by
  have h := hn 18 (by decide)
  rw [hl] at h
  exact h
 have q22 : ∃ g, a.eval (.tmp 29) = .pointer (some ⟨g, 0, none⟩) ∧ W.heap.size ≤ g ∧ w.heap[g]? = some (.cells #[.int .u64 33603576, .int .u64 S.time] 110 (0, 0)) := by
  have h := hn 22 (by decide)
  rw [hl] at h
  exact h
 have q42 : ∃ g, a.eval (.tmp 49) = .pointer (some ⟨g, 0, none⟩) ∧ W.heap.size ≤ g ∧ w.heap[g]? = some (.cells #[.int .u8 S.ier, .int .u8 S.lcr, .int .u8 S.mcr, .int .u8 S.scr, a.eval (.tmp 44), a.eval (.tmp 47)] 95 (0, 0)) := by
  have h := hn 42 (by decide)
  rw [hl] at h
  exact h
 refine aW ho hd (w' := w.alloc (.cells #[a.eval (.tmp 11), a.eval (.tmp 17), a.eval (.tmp 21), a.eval (.tmp 25), a.eval (.tmp 29), a.eval (.tmp 49), .bool S.ext, .bool S.soft] 102)) (.pointer (some ⟨w.heap.size, 0, none⟩)) ?_ ((Below.refl _ _).alloc (Nat.le_refl _) _) ?_ (by decide)
 ·clear hn hl ho h1
  clear q4 q10 q14 q18 q22 q42 hd
  generalize a.eval = ρ at *
  simp [execOp, hop, q47, go_sem]
 ·rw [hl]; exact ⟨w.heap.size, rfl, hb.size, cO _ _⟩
theorem BE : FrG 49 (some 2, .assign (.tmp 55), none) := by
 intro S vr vi vo p W ops Q H o ho hd a w h1 hx hl hn
 have hop : o.op = .assign (.tmp 55) := congrArg (fun x => x.2.1) hd
 have hb : Below W.heap.size W w := hx.e.below (Nat.le_refl _) (fun _ h => h.elim)
 have q48 : ∃ g, a.eval (.tmp 55) = .pointer (some ⟨g, 0, none⟩) ∧ W.heap.size ≤ g ∧ w.heap[g]? = some (.cells #[a.eval (.tmp 11), a.eval (.tmp 17), a.eval (.tmp 21), a.eval (.tmp 25), a.eval (.tmp 29), a.eval (.tmp 49), .bool S.ext, .bool S.soft] 102 (0, 0)) := by
  have h := hn 48 (by decide)
  rw [hl] at h
  exact h
 obtain ⟨g, hp, hB, hh⟩ := q48
 refine aW ho hd (.pointer (some ⟨g, 0, none⟩)) ?_ (Below.refl _ _) ?_ (by decide)
 ·clear hd hn hl ho h1
  generalize a.eval = ρ at *
  simp [execOp, hop, hp, go_sem]
 ·rw [hl]; exact hp.symm
theorem BF : FrG 50 (some 3, .assign (.const (.int .i64 0)), none) := by
 intro S vr vi vo p W ops Q H o ho hd a w h1 hx hl hn
 have hop : o.op = .assign (.const (.int .i64 0)) := congrArg (fun x => x.2.1) hd
 have hb : Below W.heap.size W w := hx.e.below (Nat.le_refl _) (fun _ h => h.elim)
 have hf : a.eval (.const (.int .i64 0)) = .int .i64 0 := rfl
 refine aW ho hd (.int .i64 0) ?_ (Below.refl _ _) rfl (by decide)
 clear hd hn hl ho h1
 generalize a.eval = ρ at *
 simp [execOp, hop, hf, go_sem]
theorem nH : ∀ k, ((gZ[k]?).bind (·.1)).getD 0 = nG k
 | 0 => rfl
 | 1 => rfl
 | 2 => rfl
 | 3 => rfl
 | 4 => rfl
 | 5 => rfl
 | 6 => rfl
 | 7 => rfl
 | 8 => rfl
 | 9 => rfl
 | 10 => rfl
 | 11 => rfl
 | 12 => rfl
 | 13 => rfl
 | 14 => rfl
 | 15 => rfl
 | 16 => rfl
 | 17 => rfl
 | 18 => rfl
 | 19 => rfl
 | 20 => rfl
 | 21 => rfl
 | 22 => rfl
 | 23 => rfl
 | 24 => rfl
 | 25 => rfl
 | 26 => rfl
 | 27 => rfl
 | 28 => rfl
 | 29 => rfl
 | 30 => rfl
 | 31 => rfl
 | 32 => rfl
 | 33 => rfl
 | 34 => rfl
 | 35 => rfl
 | 36 => rfl
 | 37 => rfl
 | 38 => rfl
 | 39 => rfl
 | 40 => rfl
 | 41 => rfl
 | 42 => rfl
 | 43 => rfl
 | 44 => rfl
 | 45 => rfl
 | 46 => rfl
 | 47 => rfl
 | 48 => rfl
 | 49 => rfl
 | 50 => rfl
 | _ + 51 => rfl
theorem zM {ops : Array Oper} (hsh : ops.toList.map shp = gZ.toList) {i : Nat} {o : Oper} (ho : ops[i]? = some o) : gZ[i]? = some (shp o) := by rw [← Array.getElem?_toList, ← hsh]; simp [ho]
theorem oQ {ops : Array Oper} (hsh : ops.toList.map shp = gZ.toList) (a : Act) : bS ops a = fun k => a.eval (.tmp (nG k)) := by
 funext k
 unfold bS gU
 rw [← nH k]
 have e : (ops[k]?).bind (·.dst) = (gZ[k]?).bind (·.1) := by
  rw [← Array.getElem?_toList (xs := gZ), ← hsh]
  cases h : ops[k]? with
  | none => simp [h]
  | some o => simp [h, shp]
 rw [e]
theorem vV {S : St} {vr vi vo : Value} {p : Nat} {W : World} {ops : Array Oper} {Q : Exit → Act → World → Prop} (H : vD S vr vi vo p W) (hsh : ops.toList.map shp = gZ.toList) (a0 : Act) (h1 : a0.eval (.tmp 1) = .pointer (some ⟨p, 0, none⟩)) (hap : iR ops 1 = true) :
  ∀ i o, ops[i]? = some o → ∀ a w, (∀ k, iR ops k = true → a.eval (.tmp k) = a0.eval (.tmp k)) → Exk (fun _ => False) W w → (∀ k ∈ fD i, FK W.heap.size (mE S vr vi vo p k) ((k :: fD k).map (bS ops a)) w) →
   wpOp prog ops Q i (frK ops fD [2, 33, 40] (fun _ => False) W.heap.size (mE S vr vi vo p) i o a w) a w := by
 intro i o ho a w hold hb hn
 have hl := oQ hsh a
 have h1' : a.eval (.tmp 1) = .pointer (some ⟨p, 0, none⟩) := (hold 1 hap).trans h1
 have hg := zM hsh ho
 match i, ho, hn, hg with
 | 0, ho, hn, hg => exact DE H ho (Option.some.inj hg).symm a w h1' hb hl hn
 | 1, ho, hn, hg => exact DF H ho (Option.some.inj hg).symm a w h1' hb hl hn
 | 2, ho, hn, hg => exact DG H ho (Option.some.inj hg).symm a w h1' hb hl hn
 | 3, ho, hn, hg => exact DH H ho (Option.some.inj hg).symm a w h1' hb hl hn
 | 4, ho, hn, hg => exact DI H ho (Option.some.inj hg).symm a w h1' hb hl hn
 | 5, ho, hn, hg => exact DJ H ho (Option.some.inj hg).symm a w h1' hb hl hn
 | 6, ho, hn, hg => exact DK H ho (Option.some.inj hg).symm a w h1' hb hl hn
 | 7, ho, hn, hg => exact DL H ho (Option.some.inj hg).symm a w h1' hb hl hn
 | 8, ho, hn, hg => exact DM H ho (Option.some.inj hg).symm a w h1' hb hl hn
 | 9, ho, hn, hg => exact DN H ho (Option.some.inj hg).symm a w h1' hb hl hn
 | 10, ho, hn, hg => exact zO H ho (Option.some.inj hg).symm a w h1' hb hl hn
 | 11, ho, hn, hg => exact zP H ho (Option.some.inj hg).symm a w h1' hb hl hn
 | 12, ho, hn, hg => exact zQ H ho (Option.some.inj hg).symm a w h1' hb hl hn
 | 13, ho, hn, hg => exact zR H ho (Option.some.inj hg).symm a w h1' hb hl hn
 | 14, ho, hn, hg => exact zS H ho (Option.some.inj hg).symm a w h1' hb hl hn
 | 15, ho, hn, hg => exact zT H ho (Option.some.inj hg).symm a w h1' hb hl hn
 | 16, ho, hn, hg => exact zU H ho (Option.some.inj hg).symm a w h1' hb hl hn
 | 17, ho, hn, hg => exact zV H ho (Option.some.inj hg).symm a w h1' hb hl hn
 | 18, ho, hn, hg => exact zW H ho (Option.some.inj hg).symm a w h1' hb hl hn
 | 19, ho, hn, hg => exact zX H ho (Option.some.inj hg).symm a w h1' hb hl hn
 | 20, ho, hn, hg => exact zY H ho (Option.some.inj hg).symm a w h1' hb hl hn
 | 21, ho, hn, hg => exact zZ H ho (Option.some.inj hg).symm a w h1' hb hl hn
 | 22, ho, hn, hg => exact AA H ho (Option.some.inj hg).symm a w h1' hb hl hn
 | 23, ho, hn, hg => exact AB H ho (Option.some.inj hg).symm a w h1' hb hl hn
 | 24, ho, hn, hg => exact AC H ho (Option.some.inj hg).symm a w h1' hb hl hn
 | 25, ho, hn, hg => exact AD H ho (Option.some.inj hg).symm a w h1' hb hl hn
 | 26, ho, hn, hg => exact AE H ho (Option.some.inj hg).symm a w h1' hb hl hn
 | 27, ho, hn, hg => exact AF H ho (Option.some.inj hg).symm a w h1' hb hl hn
 | 28, ho, hn, hg => exact AG H ho (Option.some.inj hg).symm a w h1' hb hl hn
 | 29, ho, hn, hg => exact AH H ho (Option.some.inj hg).symm a w h1' hb hl hn
 | 30, ho, hn, hg => exact AI H ho (Option.some.inj hg).symm a w h1' hb hl hn
 | 31, ho, hn, hg => exact AJ H ho (Option.some.inj hg).symm a w h1' hb hl hn
 | 32, ho, hn, hg => exact AK H ho (Option.some.inj hg).symm a w h1' hb hl hn
 | 33, ho, hn, hg => exact AL H ho (Option.some.inj hg).symm a w h1' hb hl hn
 | 34, ho, hn, hg => exact AN H ho (Option.some.inj hg).symm a w h1' hb hl hn
 | 35, ho, hn, hg => exact AO H ho (Option.some.inj hg).symm a w h1' hb hl hn
 | 36, ho, hn, hg => exact AP H ho (Option.some.inj hg).symm a w h1' hb hl hn
 | 37, ho, hn, hg => exact AQ H ho (Option.some.inj hg).symm a w h1' hb hl hn
 | 38, ho, hn, hg => exact AR H ho (Option.some.inj hg).symm a w h1' hb hl hn
 | 39, ho, hn, hg => exact AS H ho (Option.some.inj hg).symm a w h1' hb hl hn
 | 40, ho, hn, hg => exact AU H ho (Option.some.inj hg).symm a w h1' hb hl hn
 | 41, ho, hn, hg => exact AV H ho (Option.some.inj hg).symm a w h1' hb hl hn
 | 42, ho, hn, hg => exact AW H ho (Option.some.inj hg).symm a w h1' hb hl hn
 | 43, ho, hn, hg => exact AX H ho (Option.some.inj hg).symm a w h1' hb hl hn
 | 44, ho, hn, hg => exact AY H ho (Option.some.inj hg).symm a w h1' hb hl hn
 | 45, ho, hn, hg => exact AZ H ho (Option.some.inj hg).symm a w h1' hb hl hn
 | 46, ho, hn, hg => exact BA H ho (Option.some.inj hg).symm a w h1' hb hl hn
 | 47, ho, hn, hg => exact BC H ho (Option.some.inj hg).symm a w h1' hb hl hn
 | 48, ho, hn, hg => exact BD H ho (Option.some.inj hg).symm a w h1' hb hl hn
 | 49, ho, hn, hg => exact BE H ho (Option.some.inj hg).symm a w h1' hb hl hn
 | 50, ho, hn, hg => exact BF H ho (Option.some.inj hg).symm a w h1' hb hl hn
 | n + 51, ho, hn, hg => exact absurd (Array.getElem?_eq_some_iff.1 hg).1 (by show ¬ n + 51 < 51; omega)
structure Lay where
 b : Nat
 m : Nat
 pw : Nat
 sw : Nat
 cm : Nat
 ck : Nat
 u : Nat
 q : Nat
 vr : Value
 vi : Value
 vo : Value
def pt (g : Nat) : Value := .pointer (some ⟨g, 0, none⟩)
structure PB (B : Nat) (L : Lay) (S : St) (w : World) : Prop where
 hb : w.heap[L.b]? = some (.cells #[pt L.m, pt L.pw, pt L.sw, pt L.cm, pt L.ck, pt L.u, .bool S.ext, .bool S.soft] 102 (0, 0))
 hm : w.heap[L.m]? = some (.cells #[L.vr] 106 (0, 0))
 hp : w.heap[L.pw]? = some (.cells #[.int .i64 S.off, .int .i64 S.code] 113 (0, 0))
 hs : w.heap[L.sw]? = some (.cells #[.int .u32 S.msip] 108 (0, 0))
 hc : w.heap[L.cm]? = some (.cells #[.int .u64 33570816, .int .u64 S.cmp] 110 (0, 0))
 hk : w.heap[L.ck]? = some (.cells #[.int .u64 33603576, .int .u64 S.time] 110 (0, 0))
 hu : w.heap[L.u]? = some (.cells #[.int .u8 S.ier, .int .u8 S.lcr, .int .u8 S.mcr, .int .u8 S.scr, pt L.q, L.vo] 95 (0, 0))
 hq : w.heap[L.q]? = some (.cells #[.int .i32 0, .int .u32 0, L.vi, .bool S.ov] 123 (0, 0))
 wr : w.ownsRow B 5 1 L.vr S.ram.length (bv S.ram)
 wi : w.ownsRow B 5 1 L.vi S.inp.length (bv S.inp)
 wo : w.ownsRow B 5 1 L.vo S.out.length (bv S.out)
 ri : ∀ g, L.vr.ownBlock = some g → L.vi.ownBlock ≠ some g
 ro : ∀ g, L.vr.ownBlock = some g → L.vo.ownBlock ≠ some g
 io : ∀ g, L.vi.ownBlock = some g → L.vo.ownBlock ≠ some g
 lb : B ≤ L.b
 lm : B ≤ L.m
 lp : B ≤ L.pw
 ls : B ≤ L.sw
 lc : B ≤ L.cm
 lk : B ≤ L.ck
 lu : B ≤ L.u
 lq : B ≤ L.q
theorem PB.le {B B' : Nat} {L : Lay} {S : St} {w : World} (h : PB B L S w) (hB : B' ≤ B) : PB B' L S w :=
 ⟨h.hb, h.hm, h.hp, h.hs, h.hc, h.hk, h.hu, h.hq, lE h.wr hB, lE h.wi hB, lE h.wo hB, h.ri, h.ro, h.io, Nat.le_trans hB h.lb, Nat.le_trans hB h.lm, Nat.le_trans hB h.lp, Nat.le_trans hB h.ls, Nat.le_trans hB h.lc, Nat.le_trans hB h.lk, Nat.le_trans hB h.lu, Nat.le_trans hB h.lq⟩
theorem zL {S : St} {vr vi vo : Value} {p : Nat} {W w : World} {ops : Array Oper} (hsh : ops.toList.map shp = gZ.toList) (a : Act) (hf : ∀ j, j < ops.size → FK W.heap.size (mE S vr vi vo p j) ((j :: fD j).map (bS ops a)) w)
  (hd : ∀ j ∈ [2, 33, 40], ∀ k ∈ [2, 33, 40], j ≠ k → j < ops.size → k < ops.size → ∀ g, (bS ops a j).ownBlock = some g → (bS ops a k).ownBlock ≠ some g) :
  ∃ L, a.eval (.tmp 2) = pt L.b ∧ a.eval (.tmp 3) = .int .i64 0 ∧ PB W.heap.size L S w := by
 have hsz : ops.size = 51 := by have := congrArg List.length hsh; rw [List.length_map] at this; exact this
 rw [hsz, oQ hsh a] at hf hd
 have h2 : w.ownsRow W.heap.size 5 1 (a.eval (.tmp 9)) S.ram.length (bv S.ram) := hf 2 (by decide)
 have h33 : w.ownsRow W.heap.size 5 1 (a.eval (.tmp 40)) S.inp.length (bv S.inp) := hf 33 (by decide)
 have h40 : w.ownsRow W.heap.size 5 1 (a.eval (.tmp 47)) S.out.length (bv S.out) := hf 40 (by decide)
 have x4 : ∃ g, a.eval (.tmp 11) = .pointer (some ⟨g, 0, none⟩) ∧ W.heap.size ≤ g ∧ w.heap[g]? = some (.cells #[a.eval (.tmp 9)] 106 (0, 0)) := hf 4 (by decide)
 obtain ⟨m, e4, l4, h4⟩ := x4
 have x10 : ∃ g, a.eval (.tmp 17) = .pointer (some ⟨g, 0, none⟩) ∧ W.heap.size ≤ g ∧ w.heap[g]? = some (.cells #[.int .i64 S.off, .int .i64 S.code] 113 (0, 0)) := hf 10 (by decide)
 obtain ⟨pw, e10, l10, h10⟩ := x10
 have x14 : ∃ g, a.eval (.tmp 21) = .pointer (some ⟨g, 0, none⟩) ∧ W.heap.size ≤ g ∧ w.heap[g]? = some (.cells #[.int .u32 S.msip] 108 (0, 0)) := hf 14 (by decide)
 obtain ⟨sw, e14, l14, h14⟩ := x14
 have x18 : ∃ g, a.eval (.tmp 25) = .pointer (some ⟨g, 0, none⟩) ∧ W.heap.size ≤ g ∧ w.heap[g]? = some (.cells #[.int .u64 33570816, .int .u64 S.cmp] 110 (0, 0)) := hf 18 (by decide)
 obtain ⟨cm, e18, l18, h18⟩ := x18
 have x22 : ∃ g, a.eval (.tmp 29) = .pointer (some ⟨g, 0, none⟩) ∧ W.heap.size ≤ g ∧ w.heap[g]? = some (.cells #[.int .u64 33603576, .int .u64 S.time] 110 (0, 0)) := hf 22 (by decide)
 obtain ⟨ck, e22, l22, h22⟩ := x22
 have x37 : ∃ g, a.eval (.tmp 44) = .pointer (some ⟨g, 0, none⟩) ∧ W.heap.size ≤ g ∧ w.heap[g]? = some (.cells #[.int .i32 0, .int .u32 0, a.eval (.tmp 40), .bool S.ov] 123 (0, 0)) := hf 37 (by decide)
 obtain ⟨q, e37, l37, h37⟩ := x37
 have x42 : ∃ g, a.eval (.tmp 49) = .pointer (some ⟨g, 0, none⟩) ∧ W.heap.size ≤ g ∧ w.heap[g]? = some (.cells #[.int .u8 S.ier, .int .u8 S.lcr, .int .u8 S.mcr, .int .u8 S.scr, a.eval (.tmp 44), a.eval (.tmp 47)] 95 (0, 0)) := hf 42 (by decide)
 obtain ⟨u, e42, l42, h42⟩ := x42
 have x48 : ∃ g, a.eval (.tmp 55) = .pointer (some ⟨g, 0, none⟩) ∧ W.heap.size ≤ g ∧ w.heap[g]? = some (.cells #[a.eval (.tmp 11), a.eval (.tmp 17), a.eval (.tmp 21), a.eval (.tmp 25), a.eval (.tmp 29), a.eval (.tmp 49), .bool S.ext, .bool S.soft] 102 (0, 0)) := hf 48 (by decide)
 obtain ⟨b, e48, l48, h48⟩ := x48
 have h49 : a.eval (.tmp 2) = a.eval (.tmp 55) := hf 49 (by decide)
 have h50 : a.eval (.tmp 3) = .int .i64 0 := hf 50 (by decide)
 rw [e4, e10, e14, e18, e22, e42] at h48
 rw [e37] at h42
 exact ⟨⟨b, m, pw, sw, cm, ck, u, q, a.eval (.tmp 9), a.eval (.tmp 40), a.eval (.tmp 47)⟩, h49.trans e48, h50,
  h48, h4, h10, h14, h18, h22, h42, h37, h2, h33, h40, hd 2 (by decide) 33 (by decide) (by decide) (by decide) (by decide), hd 2 (by decide) 40 (by decide) (by decide) (by decide) (by decide), hd 33 (by decide) 40 (by decide) (by decide) (by decide) (by decide), l48, l4, l10, l14, l18, l22, l42, l37⟩
theorem zN {S : St} {vr vi vo : Value} {p : Nat} (j : Nat) : ∀ f, mE S vr vi vo p j ≠ .mem f := by
 intro f
 unfold mE
 split <;> simp
theorem sK (S : St) (ar ai ao : Option Addr) (cr ci co : Nat) (w : World) (hok : S.ok = true) (hr : Byt w (.slice ar S.ram.length cr) S.ram) (hi : Byt w (.slice ai S.inp.length ci) S.inp) (ho : Byt w (.slice ao S.out.length co) S.out)
  (lr : S.ram.length ≤ 140737488355328) (li : S.inp.length ≤ 140737488355328) (lo : S.out.length ≤ 140737488355328) :
  Calls prog 23 #[.agg (stc S (.slice ar S.ram.length cr) (.slice ai S.inp.length ci) (.slice ao S.out.length co))] w fun e w' => ∃ L, e = .returned (.tuple #[pt L.b, .int .i64 0]) ∧ PB w.heap.size L S w' ∧ Below w.heap.size w w' := by
 have hC := oL S ar ai ao cr ci co
 rw [hok] at hC
 have HIN : Hid (∀ w1, Below (w.alloc (.cells (stc S (.slice ar S.ram.length cr) (.slice ai S.inp.length ci) (.slice ao S.out.length co)) 35)).heap.size (w.alloc (.cells (stc S (.slice ar S.ram.length cr) (.slice ai S.inp.length ci) (.slice ao S.out.length co)) 35)) w1 →
   vD S (.slice ar S.ram.length cr) (.slice ai S.inp.length ci) (.slice ao S.out.length co) w.heap.size w1 ∧ Below w.heap.size w w1) := by
  intro w1 hb
  have hb0 : Below w.heap.size w w1 := ((Below.refl _ _).alloc (Nat.le_refl _) _).trans (hb.mono (by simp))
  refine ⟨⟨?_, fun j => ?_, hr.later hb0 rfl, hi.later hb0 rfl, ho.later hb0 rfl, lr, li, lo⟩, hb0⟩
  ·have := hb.size; simp at this; omega
  ·rw [hb.cell (by simp)]
   rw [cell_of_row _ _ _ _ _ _ (cO w _)]
 clear hr hi ho
 unfold stc at hC HIN ⊢
 go_enter func23, ntmps23
 go_wp2_with (go_at_call 44; refine (hC _).mono ?_; rintro e w1 ⟨rfl, hb1⟩)
 obtain ⟨hin, hbel⟩ := HIN.out w1 hb1
 rename_i hK
 refine kG (by kernel_rfl) fD (fun j => FK w1.heap.size (mE S (.slice ar S.ram.length cr) (.slice ai S.inp.length ci) (.slice ao S.out.length co) w.heap.size j)) [2, 33, 40] (fun _ => False) 51 w1 w1 _ (by kernel_rfl) (fun k _ _ h => absurd h (Nat.lt_irrefl 51)) (fun j vs w w' _ h hb => FK.mono (fun _ h => h.elim) (zN j) h hb) ?_ (Exk.refl _ _) (vV hin (by rfl) _ rfl (by rfl)) ?_
 ·intro j hj v vs w' hf g hg
  simp only [List.mem_cons, List.not_mem_nil, or_false] at hj
  rcases hj with rfl | rfl | rfl
  ·exact (World.ownsRow.lt (show w'.ownsRow w1.heap.size 5 1 v S.ram.length (bv S.ram) from hf) g hg).2
  ·exact (World.ownsRow.lt (show w'.ownsRow w1.heap.size 5 1 v S.inp.length (bv S.inp) from hf) g hg).2
  ·exact (World.ownsRow.lt (show w'.ownsRow w1.heap.size 5 1 v S.out.length (bv S.out) from hf) g hg).2
 ·intro a w2 hts hdf hold hb2 hf hdis
  have hb2 : Below w1.heap.size w1 w2 := hb2.e.below (Nat.le_refl _) (fun _ h => h.elim)
  obtain ⟨L, e2, e3, hPB⟩ := zL (by rfl) a hf hdis
  refine hK a w2 ?_
  refine wp_ret (bodyPost_ret (v := .tuple #[pt L.b, .int .i64 0]) ?_ hdf ?_)
  ·rw [← e2, ← e3]
   have e := results_tmp2 (fn := Tryz.f23) (t := 2) (u := 3) rfl a.tmps prog w2
   rw [e]
   simp [Act.eval]
  ·exact ⟨L, rfl, hPB.le hbel.size, hbel.trans (hb2.mono hbel.size)⟩
end Go.Proofs.YtdpfjhacmlnklaaGreatDoor
namespace Go.Proofs.YtdpfjhacmlnklaaGreatDoor
abbrev BU : Go.Conc.Locks.MuLink := { lock := 64, unlock := 65, ilock := 83, iunlock := 84, lockSlow := 106, unlockSlow := 109, disable := 102, enable := 104, acquire := 105, relMerge := 107, cas32 := 103, add32 := 108, tMutex := 121, tIMutex := 119, tPMutex := 166, tPIMutex := 173, tPI32 := 175, tUP := 177, tNoCopy := 117, tU32 := 33 }
theorem eF : Go.Conc.Locks.MuLib Tryz.prog BU :=
 ⟨Tryz.func64, Tryz.func65, Tryz.func83, Tryz.func84, Tryz.func102, Tryz.func104, Tryz.func105, Tryz.func107, Tryz.func103, Tryz.func108, Tryz.underlying119, Tryz.runUnderlying119, Tryz.sizeOf119, Tryz.isAgg119, Tryz.zeroValue119, Tryz.underlying121, Tryz.runUnderlying121, Tryz.sizeOf121, Tryz.isAgg121, Tryz.zeroValue121, Tryz.underlying166, Tryz.runUnderlying166, Tryz.sizeOf166, Tryz.isAgg166, Tryz.zeroValue166, Tryz.underlying173, Tryz.runUnderlying173, Tryz.sizeOf173, Tryz.isAgg173, Tryz.zeroValue173, Tryz.underlying175, Tryz.runUnderlying175, Tryz.sizeOf175, Tryz.isAgg175, Tryz.zeroValue175, Tryz.underlying177, Tryz.runUnderlying177, Tryz.sizeOf177, Tryz.isAgg177, Tryz.zeroValue177, Tryz.underlying117, Tryz.runUnderlying117, Tryz.sizeOf117, Tryz.isAgg117, Tryz.zeroValue117, Tryz.underlying21, Tryz.runUnderlying21, Tryz.sizeOf21, Tryz.isAgg21, Tryz.zeroValue21, (by kernel_rfl)⟩
end Go.Proofs.YtdpfjhacmlnklaaGreatDoor
