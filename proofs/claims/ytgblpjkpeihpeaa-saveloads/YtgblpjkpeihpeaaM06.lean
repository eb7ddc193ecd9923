/-
  Bsu.
-/
import Derived.Test.YtgblpjkpeihpeaaM05
namespace Go.Proofs.Ytgblpjkpeihpeaa
set_option linter.unusedVariables false
open Go.ChangeShapes Go.WideShapes Go.ChangeAt Go.RowKit Go.Deep Go.MuLone
def suNeed : Nat → List Nat
  | 1 => [0]
  | 2 => [1]
  | 3 => [2]
  | 4 => [3]
  | 5 => [4]
  | 6 => [5]
  | 7 => [6]
  | 9 => [8]
  | 10 => [9]
  | 11 => [10]
  | 12 => [11]
  | 13 => [12]
  | 14 => [13]
  | 16 => [15]
  | 17 => [16]
  | 18 => [17]
  | 19 => [18]
  | 20 => [19]
  | 21 => [20]
  | 23 => [22]
  | 24 => [23]
  | 25 => [24]
  | 26 => [25]
  | 27 => [26]
  | 28 => [27]
  | 30 => [29]
  | 31 => [30]
  | 32 => [31]
  | 34 => [33]
  | 35 => [34]
  | 36 => [35]
  | 38 => [37]
  | 39 => [38]
  | 40 => [39]
  | 41 => [40]
  | 42 => [41]
  | 43 => [42]
  | 45 => [44]
  | 46 => [45]
  | 47 => [46]
  | 48 => [47]
  | 49 => [48]
  | 50 => [49]
  | 52 => [51]
  | 53 => [52]
  | 54 => [53]
  | 55 => [54]
  | 56 => [55]
  | 57 => [56]
  | 59 => [58]
  | 60 => [59]
  | 61 => [60]
  | 62 => [61]
  | 63 => [62]
  | 64 => [63]
  | 68 => [67]
  | 70 => [69]
  | 71 => [70]
  | 72 => [71]
  | 73 => [72]
  | 74 => [73]
  | 75 => [74]
  | 77 => [76]
  | 78 => [77]
  | 79 => [78]
  | 80 => [79]
  | 81 => [80]
  | 82 => [81]
  | 83 => [7, 68, 14, 21, 28, 32, 36, 43, 50, 57, 64, 65, 66, 75, 82]
  | 84 => [83, 0, 1, 2, 3, 4, 5, 6, 7, 8, 9, 10, 11, 12, 13, 14, 15, 16, 17, 18, 19, 20, 21, 22, 23, 24, 25, 26, 27, 28, 29, 30, 31, 32, 33, 34, 35, 36, 37, 38, 39, 40, 41, 42, 43, 44, 45, 46, 47, 48, 49, 50, 51, 52, 53, 54, 55, 56, 57, 58, 59, 60, 61, 62, 63, 64, 65, 66, 67, 68, 69, 70, 71, 72, 73, 74, 75, 76, 77, 78, 79, 80, 81, 82]
  | _ => []
def suKd (L : Lay) (S : St) (vr ui : Value) (g : Nat) : Nat → Kd
  | 0 => .con (.pointer (some ⟨L.b, 0, none⟩))
  | 1 => .con (.pointer (some ⟨L.b, 0, none⟩))
  | 2 => .con (.pointer (some ⟨L.b, 0, none⟩))
  | 3 => .con (.pointer (some ⟨L.m, 0, none⟩))
  | 4 => .con (.pointer (some ⟨L.m, 0, none⟩))
  | 5 => .con (.pointer (some ⟨L.m, 0, none⟩))
  | 6 => .con (vr)
  | 7 => .own S.ram
  | 8 => .con (.pointer (some ⟨L.b, 0, none⟩))
  | 9 => .con (.pointer (some ⟨L.b, 0, none⟩))
  | 10 => .con (.pointer (some ⟨L.b, 2, none⟩))
  | 11 => .con (.pointer (some ⟨L.sw, 0, none⟩))
  | 12 => .con (.pointer (some ⟨L.sw, 0, none⟩))
  | 13 => .con (.pointer (some ⟨L.sw, 0, none⟩))
  | 14 => .con (.int .u32 S.msip)
  | 15 => .con (.pointer (some ⟨L.b, 0, none⟩))
  | 16 => .con (.pointer (some ⟨L.b, 0, none⟩))
  | 17 => .con (.pointer (some ⟨L.b, 3, none⟩))
  | 18 => .con (.pointer (some ⟨L.cm, 0, none⟩))
  | 19 => .con (.pointer (some ⟨L.cm, 0, none⟩))
  | 20 => .con (.pointer (some ⟨L.cm, 1, none⟩))
  | 21 => .con (.int .u64 S.cmp)
  | 22 => .con (.pointer (some ⟨L.b, 0, none⟩))
  | 23 => .con (.pointer (some ⟨L.b, 0, none⟩))
  | 24 => .con (.pointer (some ⟨L.b, 4, none⟩))
  | 25 => .con (.pointer (some ⟨L.ck, 0, none⟩))
  | 26 => .con (.pointer (some ⟨L.ck, 0, none⟩))
  | 27 => .con (.pointer (some ⟨L.ck, 1, none⟩))
  | 28 => .con (.int .u64 S.time)
  | 29 => .con (.pointer (some ⟨L.b, 0, none⟩))
  | 30 => .con (.pointer (some ⟨L.b, 0, none⟩))
  | 31 => .con (.pointer (some ⟨L.b, 6, none⟩))
  | 32 => .con (.bool S.ext)
  | 33 => .con (.pointer (some ⟨L.b, 0, none⟩))
  | 34 => .con (.pointer (some ⟨L.b, 0, none⟩))
  | 35 => .con (.pointer (some ⟨L.b, 7, none⟩))
  | 36 => .con (.bool S.soft)
  | 37 => .con (.pointer (some ⟨L.b, 0, none⟩))
  | 38 => .con (.pointer (some ⟨L.b, 0, none⟩))
  | 39 => .con (.pointer (some ⟨L.b, 5, none⟩))
  | 40 => .con (.pointer (some ⟨L.u, 0, none⟩))
  | 41 => .con (.pointer (some ⟨L.u, 0, none⟩))
  | 42 => .con (.pointer (some ⟨L.u, 0, none⟩))
  | 43 => .con (.int .u8 S.ier)
  | 44 => .con (.pointer (some ⟨L.b, 0, none⟩))
  | 45 => .con (.pointer (some ⟨L.b, 0, none⟩))
  | 46 => .con (.pointer (some ⟨L.b, 5, none⟩))
  | 47 => .con (.pointer (some ⟨L.u, 0, none⟩))
  | 48 => .con (.pointer (some ⟨L.u, 0, none⟩))
  | 49 => .con (.pointer (some ⟨L.u, 1, none⟩))
  | 50 => .con (.int .u8 S.lcr)
  | 51 => .con (.pointer (some ⟨L.b, 0, none⟩))
  | 52 => .con (.pointer (some ⟨L.b, 0, none⟩))
  | 53 => .con (.pointer (some ⟨L.b, 5, none⟩))
  | 54 => .con (.pointer (some ⟨L.u, 0, none⟩))
  | 55 => .con (.pointer (some ⟨L.u, 0, none⟩))
  | 56 => .con (.pointer (some ⟨L.u, 2, none⟩))
  | 57 => .con (.int .u8 S.mcr)
  | 58 => .con (.pointer (some ⟨L.b, 0, none⟩))
  | 59 => .con (.pointer (some ⟨L.b, 0, none⟩))
  | 60 => .con (.pointer (some ⟨L.b, 5, none⟩))
  | 61 => .con (.pointer (some ⟨L.u, 0, none⟩))
  | 62 => .con (.pointer (some ⟨L.u, 0, none⟩))
  | 63 => .con (.pointer (some ⟨L.u, 3, none⟩))
  | 64 => .con (.int .u8 S.scr)
  | 65 => .con (.bool S.ov)
  | 66 => .con (ui)
  | 67 => .con (.pointer (some ⟨L.b, 0, none⟩))
  | 68 => .own S.out
  | 69 => .con (.pointer (some ⟨L.b, 0, none⟩))
  | 70 => .con (.pointer (some ⟨L.b, 0, none⟩))
  | 71 => .con (.pointer (some ⟨L.b, 1, none⟩))
  | 72 => .con (.pointer (some ⟨L.pw, 0, none⟩))
  | 73 => .con (.pointer (some ⟨L.pw, 0, none⟩))
  | 74 => .con (.pointer (some ⟨L.pw, 0, none⟩))
  | 75 => .con (.int .i64 S.off)
  | 76 => .con (.pointer (some ⟨L.b, 0, none⟩))
  | 77 => .con (.pointer (some ⟨L.b, 0, none⟩))
  | 78 => .con (.pointer (some ⟨L.b, 1, none⟩))
  | 79 => .con (.pointer (some ⟨L.pw, 0, none⟩))
  | 80 => .con (.pointer (some ⟨L.pw, 0, none⟩))
  | 81 => .con (.pointer (some ⟨L.pw, 1, none⟩))
  | 82 => .con (.int .i64 S.code)
  | 83 => .agg (fun vs => #[vs.getD 0 undef, .int .u32 S.msip, .int .u64 S.cmp, .int .u64 S.time, .bool S.ext, .bool S.soft, .int .u8 S.ier, .int .u8 S.lcr, .int .u8 S.mcr, .int .u8 S.scr, .bool S.ov, ui, vs.getD 1 undef, .int .i64 S.off, .int .i64 S.code])
  | 84 => .mem (fun vs w => ∃ cs, vs.getD 0 undef = .agg cs ∧ w.heap[g]? = some (.cells cs 35 (0, 0)))
  | _ => .con undef
def suSlot : Nat → Nat
  | 0 => 16  | 1 => 17  | 2 => 18  | 3 => 19  | 4 => 20  | 5 => 21  | 6 => 22  | 7 => 23  | 8 => 24  | 9 => 25  | 10 => 26  | 11 => 27  | 12 => 28  | 13 => 29  | 14 => 30  | 15 => 31  | 16 => 32  | 17 => 33  | 18 => 34  | 19 => 35  | 20 => 36  | 21 => 37  | 22 => 38  | 23 => 39  | 24 => 40  | 25 => 41  | 26 => 42  | 27 => 43  | 28 => 44  | 29 => 45  | 30 => 46  | 31 => 47  | 32 => 48  | 33 => 49  | 34 => 50  | 35 => 51  | 36 => 52  | 37 => 53  | 38 => 54  | 39 => 55  | 40 => 56  | 41 => 57  | 42 => 58  | 43 => 59  | 44 => 60  | 45 => 61  | 46 => 62  | 47 => 63  | 48 => 64  | 49 => 65  | 50 => 66  | 51 => 67  | 52 => 68  | 53 => 69  | 54 => 70  | 55 => 71  | 56 => 72  | 57 => 73  | 58 => 74  | 59 => 75  | 60 => 76  | 61 => 77  | 62 => 78  | 63 => 79  | 64 => 80  | 65 => 81  | 66 => 82  | 67 => 83  | 68 => 84  | 69 => 85  | 70 => 86  | 71 => 87  | 72 => 88  | 73 => 89  | 74 => 90  | 75 => 91  | 76 => 92  | 77 => 93  | 78 => 94  | 79 => 95  | 80 => 96  | 81 => 97  | 82 => 98  | 83 => 99  | 84 => 0 | _ => 0
/-- What the region finds. -/
structure SuIn (B : Nat) (L : Lay) (S : St) (vr ui : Value) (g : Nat) (w0 W : World) : Prop where
  pb : PB B L S w0
  ev : L.vr = vr
  bl : Below w0.heap.size w0 W
  eg : g = w0.heap.size
  gl : g < W.heap.size
  row : ∃ cs : Array Value, W.heap[g]? = some (.cells cs 35 (0, 0)) ∧ cs.size = 15
  sl : ∃ ai ni ci, ui = .slice ai ni ci
  lr : S.ram.length ≤ 140737488355328
  lo : S.out.length ≤ 140737488355328
theorem setRow_other (w : World) (g : Nat) (cs : Array Value) (k : Nat) (h : ¬ k = g) : (w.setRow g cs).heap[k]? = w.heap[k]? := by
  unfold World.setRow
  rw [Array.getElem?_modify, if_neg (fun e => h e.symm)]
theorem SuIn.at_ {B : Nat} {L : Lay} {S : St} {vr ui : Value} {g : Nat} {w0 W w : World} (H : SuIn B L S vr ui g w0 W) (hx : Exk (· = g) W w) : PB B L S w :=
  H.pb.exc ((Exc.of_below H.bl rfl).trans hx.e) (fun k hk e => by have := H.eg; omega)
theorem SuIn.pc {B : Nat} {L : Lay} {S : St} {vr ui : Value} {g : Nat} {w0 W w : World} (H : SuIn B L S vr ui g w0 W) (hx : Exk (· = g) W w) : PCb L S vr L.vi L.vo w := by rw [← H.ev]; exact (H.at_ hx).cl
/-- What is shown of each operation. -/
def SuG (i : Nat) (sh : Option Tmp × Op × Option (Nat × Bool)) : Prop := ∀ {B : Nat} {L : Lay} {S : St} {vr ui : Value} {g : Nat} {w0 W : World} {ops : Array Oper} {Q : Exit → Act → World → Prop} (_ : SuIn B L S vr ui g w0 W) {o : Oper} (_ : ops[i]? = some o) (_ : shp o = sh) (a : Act) (w : World)
    (_ : a.eval (.tmp 0) = .pointer (some ⟨L.b, 0, none⟩)) (_ : a.eval (.tmp 2) = .pointer (some ⟨g, 0, none⟩)) (_ : a.eval (.tmp 3) = ui) (_ : a.eval (.tmp 4) = .bool S.ov) (_ : Exk (· = g) W w) (_ : leftBy ops a = fun k => a.eval (.tmp (suSlot k))) (_ : ∀ k ∈ suNeed i, FK W.heap.size (suKd L S vr ui g k) ((k :: suNeed k).map (leftBy ops a)) w),
    wpOp Try.prog ops Q i (frK ops suNeed [7, 68] (· = g) W.heap.size (suKd L S vr ui g) i o a w) a w
theorem su_s0 : SuG 0 (some 16, .move (.tmp 0), none) := by
  intro B L S vr ui g w0 W ops Q H o ho hd a w h0 h2 h3 h4 hx hl hn
  have hop : o.op = .move (.tmp 0) := congrArg (fun x => x.2.1) hd
  refine st_val ho hd (.pointer (some ⟨L.b, 0, none⟩)) ?_ (Below.refl _ _) rfl (by decide)
  clear hd hn hl ho h2 h3 h4
  generalize a.eval = ρ at *
  simp [execOp, hop, h0, go_sem]
theorem su_s1 : SuG 1 (some 17, .nilCheck (.tmp 16), none) := by
  intro B L S vr ui g w0 W ops Q H o ho hd a w h0 h2 h3 h4 hx hl hn
  have hop : o.op = .nilCheck (.tmp 16) := congrArg (fun x => x.2.1) hd
  have q0 : a.eval (.tmp 16) = .pointer (some ⟨L.b, 0, none⟩) := by
    have h := hn 0 (by decide)
    rw [hl] at h
    exact h
  refine st_val ho hd (.pointer (some ⟨L.b, 0, none⟩)) ?_ (Below.refl _ _) rfl (by decide)
  clear hd hn hl ho h0 h2 h3 h4
  generalize a.eval = ρ at *
  simp [execOp, hop, q0, go_sem]
theorem su_s2 : SuG 2 (some 18, .fieldAddr 105 (.tmp 17) 0, none) := by
  intro B L S vr ui g w0 W ops Q H o ho hd a w h0 h2 h3 h4 hx hl hn
  have hop : o.op = .fieldAddr 105 (.tmp 17) 0 := congrArg (fun x => x.2.1) hd
  have q1 : a.eval (.tmp 17) = .pointer (some ⟨L.b, 0, none⟩) := by
    have h := hn 1 (by decide)
    rw [hl] at h
    exact h
  refine st_val ho hd (.pointer (some ⟨L.b, 0, none⟩)) ?_ (Below.refl _ _) rfl (by decide)
  clear hd hn hl ho h0 h2 h3 h4
  generalize a.eval = ρ at *
  simp [execOp, hop, q1, go_sem]
theorem su_s3 : SuG 3 (some 19, .load 80 (.tmp 18), none) := by
  intro B L S vr ui g w0 W ops Q H o ho hd a w h0 h2 h3 h4 hx hl hn
  have hop : o.op = .load 80 (.tmp 18) := congrArg (fun x => x.2.1) hd
  have q2 : a.eval (.tmp 18) = .pointer (some ⟨L.b, 0, none⟩) := by
    have h := hn 2 (by decide)
    rw [hl] at h
    exact h
  have hc := (H.pc hx).b0
  refine st_val ho hd (.pointer (some ⟨L.m, 0, none⟩)) ?_ (Below.refl _ _) rfl (by decide)
  clear hd hn hl ho h0 h2 h3 h4
  generalize a.eval = ρ at *
  simp [execOp, hop, q2, hc, go_sem]
theorem su_s4 : SuG 4 (some 20, .nilCheck (.tmp 19), none) := by
  intro B L S vr ui g w0 W ops Q H o ho hd a w h0 h2 h3 h4 hx hl hn
  have hop : o.op = .nilCheck (.tmp 19) := congrArg (fun x => x.2.1) hd
  have q3 : a.eval (.tmp 19) = .pointer (some ⟨L.m, 0, none⟩) := by
    have h := hn 3 (by decide)
    rw [hl] at h
    exact h
  refine st_val ho hd (.pointer (some ⟨L.m, 0, none⟩)) ?_ (Below.refl _ _) rfl (by decide)
  clear hd hn hl ho h0 h2 h3 h4
  generalize a.eval = ρ at *
  simp [execOp, hop, q3, go_sem]
theorem su_s5 : SuG 5 (some 21, .fieldAddr 82 (.tmp 20) 0, none) := by
  intro B L S vr ui g w0 W ops Q H o ho hd a w h0 h2 h3 h4 hx hl hn
  have hop : o.op = .fieldAddr 82 (.tmp 20) 0 := congrArg (fun x => x.2.1) hd
  have q4 : a.eval (.tmp 20) = .pointer (some ⟨L.m, 0, none⟩) := by
    have h := hn 4 (by decide)
    rw [hl] at h
    exact h
  refine st_val ho hd (.pointer (some ⟨L.m, 0, none⟩)) ?_ (Below.refl _ _) rfl (by decide)
  clear hd hn hl ho h0 h2 h3 h4
  generalize a.eval = ρ at *
  simp [execOp, hop, q4, go_sem]
theorem su_s6 : SuG 6 (some 22, .load 32 (.tmp 21), none) := by
  intro B L S vr ui g w0 W ops Q H o ho hd a w h0 h2 h3 h4 hx hl hn
  have hop : o.op = .load 32 (.tmp 21) := congrArg (fun x => x.2.1) hd
  have q5 : a.eval (.tmp 21) = .pointer (some ⟨L.m, 0, none⟩) := by
    have h := hn 5 (by decide)
    rw [hl] at h
    exact h
  have hc := (H.pc hx).m0
  refine st_val ho hd (vr) ?_ (Below.refl _ _) rfl (by decide)
  clear hd hn hl ho h0 h2 h3 h4
  generalize a.eval = ρ at *
  simp [execOp, hop, q5, hc, go_sem]
theorem su_s7 : SuG 7 (some 23, .call { callee := .value (.func 41), args := #[.tmp 22], argTypes := #[32] }, none) := by
  intro B L S vr ui g w0 W ops Q H o ho hd a w h0 h2 h3 h4 hx hl hn
  have hop : o.op = .call { callee := .value (.func 41), args := #[.tmp 22], argTypes := #[32] } := congrArg (fun x => x.2.1) hd
  have q6 : a.eval (.tmp 22) = vr := by
    have h := hn 6 (by decide)
    rw [hl] at h
    exact h
  have hf : a.eval (.func 41) = .func (.func 41) #[] #[] := rfl
  refine st_call ho hd (f := 41) (args := #[vr]) ?_ ?_
  · clear hd hn hl ho h0 h2 h3 h4
    generalize a.eval = ρ at *
    simp [execOp, hop, q6, hf, go_sem]
  · refine (clone_c H.lr vr w (by rw [← H.ev]; exact Byt.of_own (H.at_ hx).wr)).mono ?_
    rintro e w' ⟨u, rfl, h1, h2⟩
    exact ⟨u, rfl, h2, own_le h1 hx.e.size, own_fresh h1⟩
theorem su_s8 : SuG 8 (some 24, .move (.tmp 0), none) := by
  intro B L S vr ui g w0 W ops Q H o ho hd a w h0 h2 h3 h4 hx hl hn
  have hop : o.op = .move (.tmp 0) := congrArg (fun x => x.2.1) hd
  refine st_val ho hd (.pointer (some ⟨L.b, 0, none⟩)) ?_ (Below.refl _ _) rfl (by decide)
  clear hd hn hl ho h2 h3 h4
  generalize a.eval = ρ at *
  simp [execOp, hop, h0, go_sem]
theorem su_s9 : SuG 9 (some 25, .nilCheck (.tmp 24), none) := by
  intro B L S vr ui g w0 W ops Q H o ho hd a w h0 h2 h3 h4 hx hl hn
  have hop : o.op = .nilCheck (.tmp 24) := congrArg (fun x => x.2.1) hd
  have q8 : a.eval (.tmp 24) = .pointer (some ⟨L.b, 0, none⟩) := by
    have h := hn 8 (by decide)
    rw [hl] at h
    exact h
  refine st_val ho hd (.pointer (some ⟨L.b, 0, none⟩)) ?_ (Below.refl _ _) rfl (by decide)
  clear hd hn hl ho h0 h2 h3 h4
  generalize a.eval = ρ at *
  simp [execOp, hop, q8, go_sem]
theorem su_s10 : SuG 10 (some 26, .fieldAddr 105 (.tmp 25) 2, none) := by
  intro B L S vr ui g w0 W ops Q H o ho hd a w h0 h2 h3 h4 hx hl hn
  have hop : o.op = .fieldAddr 105 (.tmp 25) 2 := congrArg (fun x => x.2.1) hd
  have q9 : a.eval (.tmp 25) = .pointer (some ⟨L.b, 0, none⟩) := by
    have h := hn 9 (by decide)
    rw [hl] at h
    exact h
  refine st_val ho hd (.pointer (some ⟨L.b, 2, none⟩)) ?_ (Below.refl _ _) rfl (by decide)
  clear hd hn hl ho h0 h2 h3 h4
  generalize a.eval = ρ at *
  simp [execOp, hop, q9, go_sem]
theorem su_s11 : SuG 11 (some 27, .load 86 (.tmp 26), none) := by
  intro B L S vr ui g w0 W ops Q H o ho hd a w h0 h2 h3 h4 hx hl hn
  have hop : o.op = .load 86 (.tmp 26) := congrArg (fun x => x.2.1) hd
  have q10 : a.eval (.tmp 26) = .pointer (some ⟨L.b, 2, none⟩) := by
    have h := hn 10 (by decide)
    rw [hl] at h
    exact h
  have hc := (H.pc hx).b2
  refine st_val ho hd (.pointer (some ⟨L.sw, 0, none⟩)) ?_ (Below.refl _ _) rfl (by decide)
  clear hd hn hl ho h0 h2 h3 h4
  generalize a.eval = ρ at *
  simp [execOp, hop, q10, hc, go_sem]
theorem su_s12 : SuG 12 (some 28, .nilCheck (.tmp 27), none) := by
  intro B L S vr ui g w0 W ops Q H o ho hd a w h0 h2 h3 h4 hx hl hn
  have hop : o.op = .nilCheck (.tmp 27) := congrArg (fun x => x.2.1) hd
  have q11 : a.eval (.tmp 27) = .pointer (some ⟨L.sw, 0, none⟩) := by
    have h := hn 11 (by decide)
    rw [hl] at h
    exact h
  refine st_val ho hd (.pointer (some ⟨L.sw, 0, none⟩)) ?_ (Below.refl _ _) rfl (by decide)
  clear hd hn hl ho h0 h2 h3 h4
  generalize a.eval = ρ at *
  simp [execOp, hop, q11, go_sem]
theorem su_s13 : SuG 13 (some 29, .fieldAddr 88 (.tmp 28) 0, none) := by
  intro B L S vr ui g w0 W ops Q H o ho hd a w h0 h2 h3 h4 hx hl hn
  have hop : o.op = .fieldAddr 88 (.tmp 28) 0 := congrArg (fun x => x.2.1) hd
  have q12 : a.eval (.tmp 28) = .pointer (some ⟨L.sw, 0, none⟩) := by
    have h := hn 12 (by decide)
    rw [hl] at h
    exact h
  refine st_val ho hd (.pointer (some ⟨L.sw, 0, none⟩)) ?_ (Below.refl _ _) rfl (by decide)
  clear hd hn hl ho h0 h2 h3 h4
  generalize a.eval = ρ at *
  simp [execOp, hop, q12, go_sem]
theorem su_s14 : SuG 14 (some 30, .load 33 (.tmp 29), none) := by
  intro B L S vr ui g w0 W ops Q H o ho hd a w h0 h2 h3 h4 hx hl hn
  have hop : o.op = .load 33 (.tmp 29) := congrArg (fun x => x.2.1) hd
  have q13 : a.eval (.tmp 29) = .pointer (some ⟨L.sw, 0, none⟩) := by
    have h := hn 13 (by decide)
    rw [hl] at h
    exact h
  have hc := (H.pc hx).s0
  refine st_val ho hd (.int .u32 S.msip) ?_ (Below.refl _ _) rfl (by decide)
  clear hd hn hl ho h0 h2 h3 h4
  generalize a.eval = ρ at *
  simp [execOp, hop, q13, hc, go_sem]
theorem su_s15 : SuG 15 (some 31, .move (.tmp 0), none) := by
  intro B L S vr ui g w0 W ops Q H o ho hd a w h0 h2 h3 h4 hx hl hn
  have hop : o.op = .move (.tmp 0) := congrArg (fun x => x.2.1) hd
  refine st_val ho hd (.pointer (some ⟨L.b, 0, none⟩)) ?_ (Below.refl _ _) rfl (by decide)
  clear hd hn hl ho h2 h3 h4
  generalize a.eval = ρ at *
  simp [execOp, hop, h0, go_sem]
theorem su_s16 : SuG 16 (some 32, .nilCheck (.tmp 31), none) := by
  intro B L S vr ui g w0 W ops Q H o ho hd a w h0 h2 h3 h4 hx hl hn
  have hop : o.op = .nilCheck (.tmp 31) := congrArg (fun x => x.2.1) hd
  have q15 : a.eval (.tmp 31) = .pointer (some ⟨L.b, 0, none⟩) := by
    have h := hn 15 (by decide)
    rw [hl] at h
    exact h
  refine st_val ho hd (.pointer (some ⟨L.b, 0, none⟩)) ?_ (Below.refl _ _) rfl (by decide)
  clear hd hn hl ho h0 h2 h3 h4
  generalize a.eval = ρ at *
  simp [execOp, hop, q15, go_sem]
theorem su_s17 : SuG 17 (some 33, .fieldAddr 105 (.tmp 32) 3, none) := by
  intro B L S vr ui g w0 W ops Q H o ho hd a w h0 h2 h3 h4 hx hl hn
  have hop : o.op = .fieldAddr 105 (.tmp 32) 3 := congrArg (fun x => x.2.1) hd
  have q16 : a.eval (.tmp 32) = .pointer (some ⟨L.b, 0, none⟩) := by
    have h := hn 16 (by decide)
    rw [hl] at h
    exact h
  refine st_val ho hd (.pointer (some ⟨L.b, 3, none⟩)) ?_ (Below.refl _ _) rfl (by decide)
  clear hd hn hl ho h0 h2 h3 h4
  generalize a.eval = ρ at *
  simp [execOp, hop, q16, go_sem]
theorem su_s18 : SuG 18 (some 34, .load 89 (.tmp 33), none) := by
  intro B L S vr ui g w0 W ops Q H o ho hd a w h0 h2 h3 h4 hx hl hn
  have hop : o.op = .load 89 (.tmp 33) := congrArg (fun x => x.2.1) hd
  have q17 : a.eval (.tmp 33) = .pointer (some ⟨L.b, 3, none⟩) := by
    have h := hn 17 (by decide)
    rw [hl] at h
    exact h
  have hc := (H.pc hx).b3
  refine st_val ho hd (.pointer (some ⟨L.cm, 0, none⟩)) ?_ (Below.refl _ _) rfl (by decide)
  clear hd hn hl ho h0 h2 h3 h4
  generalize a.eval = ρ at *
  simp [execOp, hop, q17, hc, go_sem]
theorem su_s19 : SuG 19 (some 35, .nilCheck (.tmp 34), none) := by
  intro B L S vr ui g w0 W ops Q H o ho hd a w h0 h2 h3 h4 hx hl hn
  have hop : o.op = .nilCheck (.tmp 34) := congrArg (fun x => x.2.1) hd
  have q18 : a.eval (.tmp 34) = .pointer (some ⟨L.cm, 0, none⟩) := by
    have h := hn 18 (by decide)
    rw [hl] at h
    exact h
  refine st_val ho hd (.pointer (some ⟨L.cm, 0, none⟩)) ?_ (Below.refl _ _) rfl (by decide)
  clear hd hn hl ho h0 h2 h3 h4
  generalize a.eval = ρ at *
  simp [execOp, hop, q18, go_sem]
theorem su_s20 : SuG 20 (some 36, .fieldAddr 91 (.tmp 35) 1, none) := by
  intro B L S vr ui g w0 W ops Q H o ho hd a w h0 h2 h3 h4 hx hl hn
  have hop : o.op = .fieldAddr 91 (.tmp 35) 1 := congrArg (fun x => x.2.1) hd
  have q19 : a.eval (.tmp 35) = .pointer (some ⟨L.cm, 0, none⟩) := by
    have h := hn 19 (by decide)
    rw [hl] at h
    exact h
  refine st_val ho hd (.pointer (some ⟨L.cm, 1, none⟩)) ?_ (Below.refl _ _) rfl (by decide)
  clear hd hn hl ho h0 h2 h3 h4
  generalize a.eval = ρ at *
  simp [execOp, hop, q19, go_sem]
theorem su_s21 : SuG 21 (some 37, .load 22 (.tmp 36), none) := by
  intro B L S vr ui g w0 W ops Q H o ho hd a w h0 h2 h3 h4 hx hl hn
  have hop : o.op = .load 22 (.tmp 36) := congrArg (fun x => x.2.1) hd
  have q20 : a.eval (.tmp 36) = .pointer (some ⟨L.cm, 1, none⟩) := by
    have h := hn 20 (by decide)
    rw [hl] at h
    exact h
  have hc := (H.pc hx).c1
  refine st_val ho hd (.int .u64 S.cmp) ?_ (Below.refl _ _) rfl (by decide)
  clear hd hn hl ho h0 h2 h3 h4
  generalize a.eval = ρ at *
  simp [execOp, hop, q20, hc, go_sem]
theorem su_s22 : SuG 22 (some 38, .move (.tmp 0), none) := by
  intro B L S vr ui g w0 W ops Q H o ho hd a w h0 h2 h3 h4 hx hl hn
  have hop : o.op = .move (.tmp 0) := congrArg (fun x => x.2.1) hd
  refine st_val ho hd (.pointer (some ⟨L.b, 0, none⟩)) ?_ (Below.refl _ _) rfl (by decide)
  clear hd hn hl ho h2 h3 h4
  generalize a.eval = ρ at *
  simp [execOp, hop, h0, go_sem]
theorem su_s23 : SuG 23 (some 39, .nilCheck (.tmp 38), none) := by
  intro B L S vr ui g w0 W ops Q H o ho hd a w h0 h2 h3 h4 hx hl hn
  have hop : o.op = .nilCheck (.tmp 38) := congrArg (fun x => x.2.1) hd
  have q22 : a.eval (.tmp 38) = .pointer (some ⟨L.b, 0, none⟩) := by
    have h := hn 22 (by decide)
    rw [hl] at h
    exact h
  refine st_val ho hd (.pointer (some ⟨L.b, 0, none⟩)) ?_ (Below.refl _ _) rfl (by decide)
  clear hd hn hl ho h0 h2 h3 h4
  generalize a.eval = ρ at *
  simp [execOp, hop, q22, go_sem]
theorem su_s24 : SuG 24 (some 40, .fieldAddr 105 (.tmp 39) 4, none) := by
  intro B L S vr ui g w0 W ops Q H o ho hd a w h0 h2 h3 h4 hx hl hn
  have hop : o.op = .fieldAddr 105 (.tmp 39) 4 := congrArg (fun x => x.2.1) hd
  have q23 : a.eval (.tmp 39) = .pointer (some ⟨L.b, 0, none⟩) := by
    have h := hn 23 (by decide)
    rw [hl] at h
    exact h
  refine st_val ho hd (.pointer (some ⟨L.b, 4, none⟩)) ?_ (Below.refl _ _) rfl (by decide)
  clear hd hn hl ho h0 h2 h3 h4
  generalize a.eval = ρ at *
  simp [execOp, hop, q23, go_sem]
theorem su_s25 : SuG 25 (some 41, .load 89 (.tmp 40), none) := by
  intro B L S vr ui g w0 W ops Q H o ho hd a w h0 h2 h3 h4 hx hl hn
  have hop : o.op = .load 89 (.tmp 40) := congrArg (fun x => x.2.1) hd
  have q24 : a.eval (.tmp 40) = .pointer (some ⟨L.b, 4, none⟩) := by
    have h := hn 24 (by decide)
    rw [hl] at h
    exact h
  have hc := (H.pc hx).b4
  refine st_val ho hd (.pointer (some ⟨L.ck, 0, none⟩)) ?_ (Below.refl _ _) rfl (by decide)
  clear hd hn hl ho h0 h2 h3 h4
  generalize a.eval = ρ at *
  simp [execOp, hop, q24, hc, go_sem]
theorem su_s26 : SuG 26 (some 42, .nilCheck (.tmp 41), none) := by
  intro B L S vr ui g w0 W ops Q H o ho hd a w h0 h2 h3 h4 hx hl hn
  have hop : o.op = .nilCheck (.tmp 41) := congrArg (fun x => x.2.1) hd
  have q25 : a.eval (.tmp 41) = .pointer (some ⟨L.ck, 0, none⟩) := by
    have h := hn 25 (by decide)
    rw [hl] at h
    exact h
  refine st_val ho hd (.pointer (some ⟨L.ck, 0, none⟩)) ?_ (Below.refl _ _) rfl (by decide)
  clear hd hn hl ho h0 h2 h3 h4
  generalize a.eval = ρ at *
  simp [execOp, hop, q25, go_sem]
theorem su_s27 : SuG 27 (some 43, .fieldAddr 91 (.tmp 42) 1, none) := by
  intro B L S vr ui g w0 W ops Q H o ho hd a w h0 h2 h3 h4 hx hl hn
  have hop : o.op = .fieldAddr 91 (.tmp 42) 1 := congrArg (fun x => x.2.1) hd
  have q26 : a.eval (.tmp 42) = .pointer (some ⟨L.ck, 0, none⟩) := by
    have h := hn 26 (by decide)
    rw [hl] at h
    exact h
  refine st_val ho hd (.pointer (some ⟨L.ck, 1, none⟩)) ?_ (Below.refl _ _) rfl (by decide)
  clear hd hn hl ho h0 h2 h3 h4
  generalize a.eval = ρ at *
  simp [execOp, hop, q26, go_sem]
theorem su_s28 : SuG 28 (some 44, .load 22 (.tmp 43), none) := by
  intro B L S vr ui g w0 W ops Q H o ho hd a w h0 h2 h3 h4 hx hl hn
  have hop : o.op = .load 22 (.tmp 43) := congrArg (fun x => x.2.1) hd
  have q27 : a.eval (.tmp 43) = .pointer (some ⟨L.ck, 1, none⟩) := by
    have h := hn 27 (by decide)
    rw [hl] at h
    exact h
  have hc := (H.pc hx).k1
  refine st_val ho hd (.int .u64 S.time) ?_ (Below.refl _ _) rfl (by decide)
  clear hd hn hl ho h0 h2 h3 h4
  generalize a.eval = ρ at *
  simp [execOp, hop, q27, hc, go_sem]
theorem su_s29 : SuG 29 (some 45, .move (.tmp 0), none) := by
  intro B L S vr ui g w0 W ops Q H o ho hd a w h0 h2 h3 h4 hx hl hn
  have hop : o.op = .move (.tmp 0) := congrArg (fun x => x.2.1) hd
  refine st_val ho hd (.pointer (some ⟨L.b, 0, none⟩)) ?_ (Below.refl _ _) rfl (by decide)
  clear hd hn hl ho h2 h3 h4
  generalize a.eval = ρ at *
  simp [execOp, hop, h0, go_sem]
theorem su_s30 : SuG 30 (some 46, .nilCheck (.tmp 45), none) := by
  intro B L S vr ui g w0 W ops Q H o ho hd a w h0 h2 h3 h4 hx hl hn
  have hop : o.op = .nilCheck (.tmp 45) := congrArg (fun x => x.2.1) hd
  have q29 : a.eval (.tmp 45) = .pointer (some ⟨L.b, 0, none⟩) := by
    have h := hn 29 (by decide)
    rw [hl] at h
    exact h
  refine st_val ho hd (.pointer (some ⟨L.b, 0, none⟩)) ?_ (Below.refl _ _) rfl (by decide)
  clear hd hn hl ho h0 h2 h3 h4
  generalize a.eval = ρ at *
  simp [execOp, hop, q29, go_sem]
theorem su_s31 : SuG 31 (some 47, .fieldAddr 105 (.tmp 46) 6, none) := by
  intro B L S vr ui g w0 W ops Q H o ho hd a w h0 h2 h3 h4 hx hl hn
  have hop : o.op = .fieldAddr 105 (.tmp 46) 6 := congrArg (fun x => x.2.1) hd
  have q30 : a.eval (.tmp 46) = .pointer (some ⟨L.b, 0, none⟩) := by
    have h := hn 30 (by decide)
    rw [hl] at h
    exact h
  refine st_val ho hd (.pointer (some ⟨L.b, 6, none⟩)) ?_ (Below.refl _ _) rfl (by decide)
  clear hd hn hl ho h0 h2 h3 h4
  generalize a.eval = ρ at *
  simp [execOp, hop, q30, go_sem]
theorem su_s32 : SuG 32 (some 48, .load 4 (.tmp 47), none) := by
  intro B L S vr ui g w0 W ops Q H o ho hd a w h0 h2 h3 h4 hx hl hn
  have hop : o.op = .load 4 (.tmp 47) := congrArg (fun x => x.2.1) hd
  have q31 : a.eval (.tmp 47) = .pointer (some ⟨L.b, 6, none⟩) := by
    have h := hn 31 (by decide)
    rw [hl] at h
    exact h
  have hc := (H.pc hx).b6
  refine st_val ho hd (.bool S.ext) ?_ (Below.refl _ _) rfl (by decide)
  clear hd hn hl ho h0 h2 h3 h4
  generalize a.eval = ρ at *
  simp [execOp, hop, q31, hc, go_sem]
theorem su_s33 : SuG 33 (some 49, .move (.tmp 0), none) := by
  intro B L S vr ui g w0 W ops Q H o ho hd a w h0 h2 h3 h4 hx hl hn
  have hop : o.op = .move (.tmp 0) := congrArg (fun x => x.2.1) hd
  refine st_val ho hd (.pointer (some ⟨L.b, 0, none⟩)) ?_ (Below.refl _ _) rfl (by decide)
  clear hd hn hl ho h2 h3 h4
  generalize a.eval = ρ at *
  simp [execOp, hop, h0, go_sem]
theorem su_s34 : SuG 34 (some 50, .nilCheck (.tmp 49), none) := by
  intro B L S vr ui g w0 W ops Q H o ho hd a w h0 h2 h3 h4 hx hl hn
  have hop : o.op = .nilCheck (.tmp 49) := congrArg (fun x => x.2.1) hd
  have q33 : a.eval (.tmp 49) = .pointer (some ⟨L.b, 0, none⟩) := by
    have h := hn 33 (by decide)
    rw [hl] at h
    exact h
  refine st_val ho hd (.pointer (some ⟨L.b, 0, none⟩)) ?_ (Below.refl _ _) rfl (by decide)
  clear hd hn hl ho h0 h2 h3 h4
  generalize a.eval = ρ at *
  simp [execOp, hop, q33, go_sem]
theorem su_s35 : SuG 35 (some 51, .fieldAddr 105 (.tmp 50) 7, none) := by
  intro B L S vr ui g w0 W ops Q H o ho hd a w h0 h2 h3 h4 hx hl hn
  have hop : o.op = .fieldAddr 105 (.tmp 50) 7 := congrArg (fun x => x.2.1) hd
  have q34 : a.eval (.tmp 50) = .pointer (some ⟨L.b, 0, none⟩) := by
    have h := hn 34 (by decide)
    rw [hl] at h
    exact h
  refine st_val ho hd (.pointer (some ⟨L.b, 7, none⟩)) ?_ (Below.refl _ _) rfl (by decide)
  clear hd hn hl ho h0 h2 h3 h4
  generalize a.eval = ρ at *
  simp [execOp, hop, q34, go_sem]
theorem su_s36 : SuG 36 (some 52, .load 4 (.tmp 51), none) := by
  intro B L S vr ui g w0 W ops Q H o ho hd a w h0 h2 h3 h4 hx hl hn
  have hop : o.op = .load 4 (.tmp 51) := congrArg (fun x => x.2.1) hd
  have q35 : a.eval (.tmp 51) = .pointer (some ⟨L.b, 7, none⟩) := by
    have h := hn 35 (by decide)
    rw [hl] at h
    exact h
  have hc := (H.pc hx).b7
  refine st_val ho hd (.bool S.soft) ?_ (Below.refl _ _) rfl (by decide)
  clear hd hn hl ho h0 h2 h3 h4
  generalize a.eval = ρ at *
  simp [execOp, hop, q35, hc, go_sem]
theorem su_s37 : SuG 37 (some 53, .move (.tmp 0), none) := by
  intro B L S vr ui g w0 W ops Q H o ho hd a w h0 h2 h3 h4 hx hl hn
  have hop : o.op = .move (.tmp 0) := congrArg (fun x => x.2.1) hd
  refine st_val ho hd (.pointer (some ⟨L.b, 0, none⟩)) ?_ (Below.refl _ _) rfl (by decide)
  clear hd hn hl ho h2 h3 h4
  generalize a.eval = ρ at *
  simp [execOp, hop, h0, go_sem]
theorem su_s38 : SuG 38 (some 54, .nilCheck (.tmp 53), none) := by
  intro B L S vr ui g w0 W ops Q H o ho hd a w h0 h2 h3 h4 hx hl hn
  have hop : o.op = .nilCheck (.tmp 53) := congrArg (fun x => x.2.1) hd
  have q37 : a.eval (.tmp 53) = .pointer (some ⟨L.b, 0, none⟩) := by
    have h := hn 37 (by decide)
    rw [hl] at h
    exact h
  refine st_val ho hd (.pointer (some ⟨L.b, 0, none⟩)) ?_ (Below.refl _ _) rfl (by decide)
  clear hd hn hl ho h0 h2 h3 h4
  generalize a.eval = ρ at *
  simp [execOp, hop, q37, go_sem]
theorem su_s39 : SuG 39 (some 55, .fieldAddr 105 (.tmp 54) 5, none) := by
  intro B L S vr ui g w0 W ops Q H o ho hd a w h0 h2 h3 h4 hx hl hn
  have hop : o.op = .fieldAddr 105 (.tmp 54) 5 := congrArg (fun x => x.2.1) hd
  have q38 : a.eval (.tmp 54) = .pointer (some ⟨L.b, 0, none⟩) := by
    have h := hn 38 (by decide)
    rw [hl] at h
    exact h
  refine st_val ho hd (.pointer (some ⟨L.b, 5, none⟩)) ?_ (Below.refl _ _) rfl (by decide)
  clear hd hn hl ho h0 h2 h3 h4
  generalize a.eval = ρ at *
  simp [execOp, hop, q38, go_sem]
theorem su_s40 : SuG 40 (some 56, .load 92 (.tmp 55), none) := by
  intro B L S vr ui g w0 W ops Q H o ho hd a w h0 h2 h3 h4 hx hl hn
  have hop : o.op = .load 92 (.tmp 55) := congrArg (fun x => x.2.1) hd
  have q39 : a.eval (.tmp 55) = .pointer (some ⟨L.b, 5, none⟩) := by
    have h := hn 39 (by decide)
    rw [hl] at h
    exact h
  have hc := (H.pc hx).b5
  refine st_val ho hd (.pointer (some ⟨L.u, 0, none⟩)) ?_ (Below.refl _ _) rfl (by decide)
  clear hd hn hl ho h0 h2 h3 h4
  generalize a.eval = ρ at *
  simp [execOp, hop, q39, hc, go_sem]
theorem su_s41 : SuG 41 (some 57, .nilCheck (.tmp 56), none) := by
  intro B L S vr ui g w0 W ops Q H o ho hd a w h0 h2 h3 h4 hx hl hn
  have hop : o.op = .nilCheck (.tmp 56) := congrArg (fun x => x.2.1) hd
  have q40 : a.eval (.tmp 56) = .pointer (some ⟨L.u, 0, none⟩) := by
    have h := hn 40 (by decide)
    rw [hl] at h
    exact h
  refine st_val ho hd (.pointer (some ⟨L.u, 0, none⟩)) ?_ (Below.refl _ _) rfl (by decide)
  clear hd hn hl ho h0 h2 h3 h4
  generalize a.eval = ρ at *
  simp [execOp, hop, q40, go_sem]
theorem su_s42 : SuG 42 (some 58, .fieldAddr 103 (.tmp 57) 0, none) := by
  intro B L S vr ui g w0 W ops Q H o ho hd a w h0 h2 h3 h4 hx hl hn
  have hop : o.op = .fieldAddr 103 (.tmp 57) 0 := congrArg (fun x => x.2.1) hd
  have q41 : a.eval (.tmp 57) = .pointer (some ⟨L.u, 0, none⟩) := by
    have h := hn 41 (by decide)
    rw [hl] at h
    exact h
  refine st_val ho hd (.pointer (some ⟨L.u, 0, none⟩)) ?_ (Below.refl _ _) rfl (by decide)
  clear hd hn hl ho h0 h2 h3 h4
  generalize a.eval = ρ at *
  simp [execOp, hop, q41, go_sem]
theorem su_s43 : SuG 43 (some 59, .load 5 (.tmp 58), none) := by
  intro B L S vr ui g w0 W ops Q H o ho hd a w h0 h2 h3 h4 hx hl hn
  have hop : o.op = .load 5 (.tmp 58) := congrArg (fun x => x.2.1) hd
  have q42 : a.eval (.tmp 58) = .pointer (some ⟨L.u, 0, none⟩) := by
    have h := hn 42 (by decide)
    rw [hl] at h
    exact h
  have hc := (H.pc hx).u0
  refine st_val ho hd (.int .u8 S.ier) ?_ (Below.refl _ _) rfl (by decide)
  clear hd hn hl ho h0 h2 h3 h4
  generalize a.eval = ρ at *
  simp [execOp, hop, q42, hc, go_sem]
theorem su_s44 : SuG 44 (some 60, .move (.tmp 0), none) := by
  intro B L S vr ui g w0 W ops Q H o ho hd a w h0 h2 h3 h4 hx hl hn
  have hop : o.op = .move (.tmp 0) := congrArg (fun x => x.2.1) hd
  refine st_val ho hd (.pointer (some ⟨L.b, 0, none⟩)) ?_ (Below.refl _ _) rfl (by decide)
  clear hd hn hl ho h2 h3 h4
  generalize a.eval = ρ at *
  simp [execOp, hop, h0, go_sem]
theorem su_s45 : SuG 45 (some 61, .nilCheck (.tmp 60), none) := by
  intro B L S vr ui g w0 W ops Q H o ho hd a w h0 h2 h3 h4 hx hl hn
  have hop : o.op = .nilCheck (.tmp 60) := congrArg (fun x => x.2.1) hd
  have q44 : a.eval (.tmp 60) = .pointer (some ⟨L.b, 0, none⟩) := by
    have h := hn 44 (by decide)
    rw [hl] at h
    exact h
  refine st_val ho hd (.pointer (some ⟨L.b, 0, none⟩)) ?_ (Below.refl _ _) rfl (by decide)
  clear hd hn hl ho h0 h2 h3 h4
  generalize a.eval = ρ at *
  simp [execOp, hop, q44, go_sem]
theorem su_s46 : SuG 46 (some 62, .fieldAddr 105 (.tmp 61) 5, none) := by
  intro B L S vr ui g w0 W ops Q H o ho hd a w h0 h2 h3 h4 hx hl hn
  have hop : o.op = .fieldAddr 105 (.tmp 61) 5 := congrArg (fun x => x.2.1) hd
  have q45 : a.eval (.tmp 61) = .pointer (some ⟨L.b, 0, none⟩) := by
    have h := hn 45 (by decide)
    rw [hl] at h
    exact h
  refine st_val ho hd (.pointer (some ⟨L.b, 5, none⟩)) ?_ (Below.refl _ _) rfl (by decide)
  clear hd hn hl ho h0 h2 h3 h4
  generalize a.eval = ρ at *
  simp [execOp, hop, q45, go_sem]
theorem su_s47 : SuG 47 (some 63, .load 92 (.tmp 62), none) := by
  intro B L S vr ui g w0 W ops Q H o ho hd a w h0 h2 h3 h4 hx hl hn
  have hop : o.op = .load 92 (.tmp 62) := congrArg (fun x => x.2.1) hd
  have q46 : a.eval (.tmp 62) = .pointer (some ⟨L.b, 5, none⟩) := by
    have h := hn 46 (by decide)
    rw [hl] at h
    exact h
  have hc := (H.pc hx).b5
  refine st_val ho hd (.pointer (some ⟨L.u, 0, none⟩)) ?_ (Below.refl _ _) rfl (by decide)
  clear hd hn hl ho h0 h2 h3 h4
  generalize a.eval = ρ at *
  simp [execOp, hop, q46, hc, go_sem]
theorem su_s48 : SuG 48 (some 64, .nilCheck (.tmp 63), none) := by
  intro B L S vr ui g w0 W ops Q H o ho hd a w h0 h2 h3 h4 hx hl hn
  have hop : o.op = .nilCheck (.tmp 63) := congrArg (fun x => x.2.1) hd
  have q47 : a.eval (.tmp 63) = .pointer (some ⟨L.u, 0, none⟩) := by
    have h := hn 47 (by decide)
    rw [hl] at h
    exact h
  refine st_val ho hd (.pointer (some ⟨L.u, 0, none⟩)) ?_ (Below.refl _ _) rfl (by decide)
  clear hd hn hl ho h0 h2 h3 h4
  generalize a.eval = ρ at *
  simp [execOp, hop, q47, go_sem]
theorem su_s49 : SuG 49 (some 65, .fieldAddr 103 (.tmp 64) 1, none) := by
  intro B L S vr ui g w0 W ops Q H o ho hd a w h0 h2 h3 h4 hx hl hn
  have hop : o.op = .fieldAddr 103 (.tmp 64) 1 := congrArg (fun x => x.2.1) hd
  have q48 : a.eval (.tmp 64) = .pointer (some ⟨L.u, 0, none⟩) := by
    have h := hn 48 (by decide)
    rw [hl] at h
    exact h
  refine st_val ho hd (.pointer (some ⟨L.u, 1, none⟩)) ?_ (Below.refl _ _) rfl (by decide)
  clear hd hn hl ho h0 h2 h3 h4
  generalize a.eval = ρ at *
  simp [execOp, hop, q48, go_sem]
theorem su_s50 : SuG 50 (some 66, .load 5 (.tmp 65), none) := by
  intro B L S vr ui g w0 W ops Q H o ho hd a w h0 h2 h3 h4 hx hl hn
  have hop : o.op = .load 5 (.tmp 65) := congrArg (fun x => x.2.1) hd
  have q49 : a.eval (.tmp 65) = .pointer (some ⟨L.u, 1, none⟩) := by
    have h := hn 49 (by decide)
    rw [hl] at h
    exact h
  have hc := (H.pc hx).u1
  refine st_val ho hd (.int .u8 S.lcr) ?_ (Below.refl _ _) rfl (by decide)
  clear hd hn hl ho h0 h2 h3 h4
  generalize a.eval = ρ at *
  simp [execOp, hop, q49, hc, go_sem]
theorem su_s51 : SuG 51 (some 67, .move (.tmp 0), none) := by
  intro B L S vr ui g w0 W ops Q H o ho hd a w h0 h2 h3 h4 hx hl hn
  have hop : o.op = .move (.tmp 0) := congrArg (fun x => x.2.1) hd
  refine st_val ho hd (.pointer (some ⟨L.b, 0, none⟩)) ?_ (Below.refl _ _) rfl (by decide)
  clear hd hn hl ho h2 h3 h4
  generalize a.eval = ρ at *
  simp [execOp, hop, h0, go_sem]
theorem su_s52 : SuG 52 (some 68, .nilCheck (.tmp 67), none) := by
  intro B L S vr ui g w0 W ops Q H o ho hd a w h0 h2 h3 h4 hx hl hn
  have hop : o.op = .nilCheck (.tmp 67) := congrArg (fun x => x.2.1) hd
  have q51 : a.eval (.tmp 67) = .pointer (some ⟨L.b, 0, none⟩) := by
    have h := hn 51 (by decide)
    rw [hl] at h
    exact h
  refine st_val ho hd (.pointer (some ⟨L.b, 0, none⟩)) ?_ (Below.refl _ _) rfl (by decide)
  clear hd hn hl ho h0 h2 h3 h4
  generalize a.eval = ρ at *
  simp [execOp, hop, q51, go_sem]
theorem su_s53 : SuG 53 (some 69, .fieldAddr 105 (.tmp 68) 5, none) := by
  intro B L S vr ui g w0 W ops Q H o ho hd a w h0 h2 h3 h4 hx hl hn
  have hop : o.op = .fieldAddr 105 (.tmp 68) 5 := congrArg (fun x => x.2.1) hd
  have q52 : a.eval (.tmp 68) = .pointer (some ⟨L.b, 0, none⟩) := by
    have h := hn 52 (by decide)
    rw [hl] at h
    exact h
  refine st_val ho hd (.pointer (some ⟨L.b, 5, none⟩)) ?_ (Below.refl _ _) rfl (by decide)
  clear hd hn hl ho h0 h2 h3 h4
  generalize a.eval = ρ at *
  simp [execOp, hop, q52, go_sem]
theorem su_s54 : SuG 54 (some 70, .load 92 (.tmp 69), none) := by
  intro B L S vr ui g w0 W ops Q H o ho hd a w h0 h2 h3 h4 hx hl hn
  have hop : o.op = .load 92 (.tmp 69) := congrArg (fun x => x.2.1) hd
  have q53 : a.eval (.tmp 69) = .pointer (some ⟨L.b, 5, none⟩) := by
    have h := hn 53 (by decide)
    rw [hl] at h
    exact h
  have hc := (H.pc hx).b5
  refine st_val ho hd (.pointer (some ⟨L.u, 0, none⟩)) ?_ (Below.refl _ _) rfl (by decide)
  clear hd hn hl ho h0 h2 h3 h4
  generalize a.eval = ρ at *
  simp [execOp, hop, q53, hc, go_sem]
theorem su_s55 : SuG 55 (some 71, .nilCheck (.tmp 70), none) := by
  intro B L S vr ui g w0 W ops Q H o ho hd a w h0 h2 h3 h4 hx hl hn
  have hop : o.op = .nilCheck (.tmp 70) := congrArg (fun x => x.2.1) hd
  have q54 : a.eval (.tmp 70) = .pointer (some ⟨L.u, 0, none⟩) := by
    have h := hn 54 (by decide)
    rw [hl] at h
    exact h
  refine st_val ho hd (.pointer (some ⟨L.u, 0, none⟩)) ?_ (Below.refl _ _) rfl (by decide)
  clear hd hn hl ho h0 h2 h3 h4
  generalize a.eval = ρ at *
  simp [execOp, hop, q54, go_sem]
theorem su_s56 : SuG 56 (some 72, .fieldAddr 103 (.tmp 71) 2, none) := by
  intro B L S vr ui g w0 W ops Q H o ho hd a w h0 h2 h3 h4 hx hl hn
  have hop : o.op = .fieldAddr 103 (.tmp 71) 2 := congrArg (fun x => x.2.1) hd
  have q55 : a.eval (.tmp 71) = .pointer (some ⟨L.u, 0, none⟩) := by
    have h := hn 55 (by decide)
    rw [hl] at h
    exact h
  refine st_val ho hd (.pointer (some ⟨L.u, 2, none⟩)) ?_ (Below.refl _ _) rfl (by decide)
  clear hd hn hl ho h0 h2 h3 h4
  generalize a.eval = ρ at *
  simp [execOp, hop, q55, go_sem]
theorem su_s57 : SuG 57 (some 73, .load 5 (.tmp 72), none) := by
  intro B L S vr ui g w0 W ops Q H o ho hd a w h0 h2 h3 h4 hx hl hn
  have hop : o.op = .load 5 (.tmp 72) := congrArg (fun x => x.2.1) hd
  have q56 : a.eval (.tmp 72) = .pointer (some ⟨L.u, 2, none⟩) := by
    have h := hn 56 (by decide)
    rw [hl] at h
    exact h
  have hc := (H.pc hx).u2
  refine st_val ho hd (.int .u8 S.mcr) ?_ (Below.refl _ _) rfl (by decide)
  clear hd hn hl ho h0 h2 h3 h4
  generalize a.eval = ρ at *
  simp [execOp, hop, q56, hc, go_sem]
theorem su_s58 : SuG 58 (some 74, .move (.tmp 0), none) := by
  intro B L S vr ui g w0 W ops Q H o ho hd a w h0 h2 h3 h4 hx hl hn
  have hop : o.op = .move (.tmp 0) := congrArg (fun x => x.2.1) hd
  refine st_val ho hd (.pointer (some ⟨L.b, 0, none⟩)) ?_ (Below.refl _ _) rfl (by decide)
  clear hd hn hl ho h2 h3 h4
  generalize a.eval = ρ at *
  simp [execOp, hop, h0, go_sem]
theorem su_s59 : SuG 59 (some 75, .nilCheck (.tmp 74), none) := by
  intro B L S vr ui g w0 W ops Q H o ho hd a w h0 h2 h3 h4 hx hl hn
  have hop : o.op = .nilCheck (.tmp 74) := congrArg (fun x => x.2.1) hd
  have q58 : a.eval (.tmp 74) = .pointer (some ⟨L.b, 0, none⟩) := by
    have h := hn 58 (by decide)
    rw [hl] at h
    exact h
  refine st_val ho hd (.pointer (some ⟨L.b, 0, none⟩)) ?_ (Below.refl _ _) rfl (by decide)
  clear hd hn hl ho h0 h2 h3 h4
  generalize a.eval = ρ at *
  simp [execOp, hop, q58, go_sem]
theorem su_s60 : SuG 60 (some 76, .fieldAddr 105 (.tmp 75) 5, none) := by
  intro B L S vr ui g w0 W ops Q H o ho hd a w h0 h2 h3 h4 hx hl hn
  have hop : o.op = .fieldAddr 105 (.tmp 75) 5 := congrArg (fun x => x.2.1) hd
  have q59 : a.eval (.tmp 75) = .pointer (some ⟨L.b, 0, none⟩) := by
    have h := hn 59 (by decide)
    rw [hl] at h
    exact h
  refine st_val ho hd (.pointer (some ⟨L.b, 5, none⟩)) ?_ (Below.refl _ _) rfl (by decide)
  clear hd hn hl ho h0 h2 h3 h4
  generalize a.eval = ρ at *
  simp [execOp, hop, q59, go_sem]
theorem su_s61 : SuG 61 (some 77, .load 92 (.tmp 76), none) := by
  intro B L S vr ui g w0 W ops Q H o ho hd a w h0 h2 h3 h4 hx hl hn
  have hop : o.op = .load 92 (.tmp 76) := congrArg (fun x => x.2.1) hd
  have q60 : a.eval (.tmp 76) = .pointer (some ⟨L.b, 5, none⟩) := by
    have h := hn 60 (by decide)
    rw [hl] at h
    exact h
  have hc := (H.pc hx).b5
  refine st_val ho hd (.pointer (some ⟨L.u, 0, none⟩)) ?_ (Below.refl _ _) rfl (by decide)
  clear hd hn hl ho h0 h2 h3 h4
  generalize a.eval = ρ at *
  simp [execOp, hop, q60, hc, go_sem]
theorem su_s62 : SuG 62 (some 78, .nilCheck (.tmp 77), none) := by
  intro B L S vr ui g w0 W ops Q H o ho hd a w h0 h2 h3 h4 hx hl hn
  have hop : o.op = .nilCheck (.tmp 77) := congrArg (fun x => x.2.1) hd
  have q61 : a.eval (.tmp 77) = .pointer (some ⟨L.u, 0, none⟩) := by
    have h := hn 61 (by decide)
    rw [hl] at h
    exact h
  refine st_val ho hd (.pointer (some ⟨L.u, 0, none⟩)) ?_ (Below.refl _ _) rfl (by decide)
  clear hd hn hl ho h0 h2 h3 h4
  generalize a.eval = ρ at *
  simp [execOp, hop, q61, go_sem]
theorem su_s63 : SuG 63 (some 79, .fieldAddr 103 (.tmp 78) 3, none) := by
  intro B L S vr ui g w0 W ops Q H o ho hd a w h0 h2 h3 h4 hx hl hn
  have hop : o.op = .fieldAddr 103 (.tmp 78) 3 := congrArg (fun x => x.2.1) hd
  have q62 : a.eval (.tmp 78) = .pointer (some ⟨L.u, 0, none⟩) := by
    have h := hn 62 (by decide)
    rw [hl] at h
    exact h
  refine st_val ho hd (.pointer (some ⟨L.u, 3, none⟩)) ?_ (Below.refl _ _) rfl (by decide)
  clear hd hn hl ho h0 h2 h3 h4
  generalize a.eval = ρ at *
  simp [execOp, hop, q62, go_sem]
theorem su_s64 : SuG 64 (some 80, .load 5 (.tmp 79), none) := by
  intro B L S vr ui g w0 W ops Q H o ho hd a w h0 h2 h3 h4 hx hl hn
  have hop : o.op = .load 5 (.tmp 79) := congrArg (fun x => x.2.1) hd
  have q63 : a.eval (.tmp 79) = .pointer (some ⟨L.u, 3, none⟩) := by
    have h := hn 63 (by decide)
    rw [hl] at h
    exact h
  have hc := (H.pc hx).u3
  refine st_val ho hd (.int .u8 S.scr) ?_ (Below.refl _ _) rfl (by decide)
  clear hd hn hl ho h0 h2 h3 h4
  generalize a.eval = ρ at *
  simp [execOp, hop, q63, hc, go_sem]
theorem su_s65 : SuG 65 (some 81, .move (.tmp 4), none) := by
  intro B L S vr ui g w0 W ops Q H o ho hd a w h0 h2 h3 h4 hx hl hn
  have hop : o.op = .move (.tmp 4) := congrArg (fun x => x.2.1) hd
  refine st_val ho hd (.bool S.ov) ?_ (Below.refl _ _) rfl (by decide)
  clear hd hn hl ho h0 h2 h3
  generalize a.eval = ρ at *
  simp [execOp, hop, h4, go_sem]
theorem su_s66 : SuG 66 (some 82, .move (.tmp 3), none) := by
  intro B L S vr ui g w0 W ops Q H o ho hd a w h0 h2 h3 h4 hx hl hn
  have hop : o.op = .move (.tmp 3) := congrArg (fun x => x.2.1) hd
  refine st_val ho hd (ui) ?_ (Below.refl _ _) rfl (by decide)
  clear hd hn hl ho h0 h2 h4
  generalize a.eval = ρ at *
  simp [execOp, hop, h3, go_sem]
theorem su_s67 : SuG 67 (some 83, .move (.tmp 0), none) := by
  intro B L S vr ui g w0 W ops Q H o ho hd a w h0 h2 h3 h4 hx hl hn
  have hop : o.op = .move (.tmp 0) := congrArg (fun x => x.2.1) hd
  refine st_val ho hd (.pointer (some ⟨L.b, 0, none⟩)) ?_ (Below.refl _ _) rfl (by decide)
  clear hd hn hl ho h2 h3 h4
  generalize a.eval = ρ at *
  simp [execOp, hop, h0, go_sem]
theorem su_s69 : SuG 69 (some 85, .move (.tmp 0), none) := by
  intro B L S vr ui g w0 W ops Q H o ho hd a w h0 h2 h3 h4 hx hl hn
  have hop : o.op = .move (.tmp 0) := congrArg (fun x => x.2.1) hd
  refine st_val ho hd (.pointer (some ⟨L.b, 0, none⟩)) ?_ (Below.refl _ _) rfl (by decide)
  clear hd hn hl ho h2 h3 h4
  generalize a.eval = ρ at *
  simp [execOp, hop, h0, go_sem]
theorem su_s70 : SuG 70 (some 86, .nilCheck (.tmp 85), none) := by
  intro B L S vr ui g w0 W ops Q H o ho hd a w h0 h2 h3 h4 hx hl hn
  have hop : o.op = .nilCheck (.tmp 85) := congrArg (fun x => x.2.1) hd
  have q69 : a.eval (.tmp 85) = .pointer (some ⟨L.b, 0, none⟩) := by
    have h := hn 69 (by decide)
    rw [hl] at h
    exact h
  refine st_val ho hd (.pointer (some ⟨L.b, 0, none⟩)) ?_ (Below.refl _ _) rfl (by decide)
  clear hd hn hl ho h0 h2 h3 h4
  generalize a.eval = ρ at *
  simp [execOp, hop, q69, go_sem]
theorem su_s71 : SuG 71 (some 87, .fieldAddr 105 (.tmp 86) 1, none) := by
  intro B L S vr ui g w0 W ops Q H o ho hd a w h0 h2 h3 h4 hx hl hn
  have hop : o.op = .fieldAddr 105 (.tmp 86) 1 := congrArg (fun x => x.2.1) hd
  have q70 : a.eval (.tmp 86) = .pointer (some ⟨L.b, 0, none⟩) := by
    have h := hn 70 (by decide)
    rw [hl] at h
    exact h
  refine st_val ho hd (.pointer (some ⟨L.b, 1, none⟩)) ?_ (Below.refl _ _) rfl (by decide)
  clear hd hn hl ho h0 h2 h3 h4
  generalize a.eval = ρ at *
  simp [execOp, hop, q70, go_sem]
theorem su_s72 : SuG 72 (some 88, .load 83 (.tmp 87), none) := by
  intro B L S vr ui g w0 W ops Q H o ho hd a w h0 h2 h3 h4 hx hl hn
  have hop : o.op = .load 83 (.tmp 87) := congrArg (fun x => x.2.1) hd
  have q71 : a.eval (.tmp 87) = .pointer (some ⟨L.b, 1, none⟩) := by
    have h := hn 71 (by decide)
    rw [hl] at h
    exact h
  have hc := (H.pc hx).b1
  refine st_val ho hd (.pointer (some ⟨L.pw, 0, none⟩)) ?_ (Below.refl _ _) rfl (by decide)
  clear hd hn hl ho h0 h2 h3 h4
  generalize a.eval = ρ at *
  simp [execOp, hop, q71, hc, go_sem]
theorem su_s73 : SuG 73 (some 89, .nilCheck (.tmp 88), none) := by
  intro B L S vr ui g w0 W ops Q H o ho hd a w h0 h2 h3 h4 hx hl hn
  have hop : o.op = .nilCheck (.tmp 88) := congrArg (fun x => x.2.1) hd
  have q72 : a.eval (.tmp 88) = .pointer (some ⟨L.pw, 0, none⟩) := by
    have h := hn 72 (by decide)
    rw [hl] at h
    exact h
  refine st_val ho hd (.pointer (some ⟨L.pw, 0, none⟩)) ?_ (Below.refl _ _) rfl (by decide)
  clear hd hn hl ho h0 h2 h3 h4
  generalize a.eval = ρ at *
  simp [execOp, hop, q72, go_sem]
theorem su_s74 : SuG 74 (some 90, .fieldAddr 85 (.tmp 89) 0, none) := by
  intro B L S vr ui g w0 W ops Q H o ho hd a w h0 h2 h3 h4 hx hl hn
  have hop : o.op = .fieldAddr 85 (.tmp 89) 0 := congrArg (fun x => x.2.1) hd
  have q73 : a.eval (.tmp 89) = .pointer (some ⟨L.pw, 0, none⟩) := by
    have h := hn 73 (by decide)
    rw [hl] at h
    exact h
  refine st_val ho hd (.pointer (some ⟨L.pw, 0, none⟩)) ?_ (Below.refl _ _) rfl (by decide)
  clear hd hn hl ho h0 h2 h3 h4
  generalize a.eval = ρ at *
  simp [execOp, hop, q73, go_sem]
theorem su_s75 : SuG 75 (some 91, .load 3 (.tmp 90), none) := by
  intro B L S vr ui g w0 W ops Q H o ho hd a w h0 h2 h3 h4 hx hl hn
  have hop : o.op = .load 3 (.tmp 90) := congrArg (fun x => x.2.1) hd
  have q74 : a.eval (.tmp 90) = .pointer (some ⟨L.pw, 0, none⟩) := by
    have h := hn 74 (by decide)
    rw [hl] at h
    exact h
  have hc := (H.pc hx).p0
  refine st_val ho hd (.int .i64 S.off) ?_ (Below.refl _ _) rfl (by decide)
  clear hd hn hl ho h0 h2 h3 h4
  generalize a.eval = ρ at *
  simp [execOp, hop, q74, hc, go_sem]
theorem su_s76 : SuG 76 (some 92, .move (.tmp 0), none) := by
  intro B L S vr ui g w0 W ops Q H o ho hd a w h0 h2 h3 h4 hx hl hn
  have hop : o.op = .move (.tmp 0) := congrArg (fun x => x.2.1) hd
  refine st_val ho hd (.pointer (some ⟨L.b, 0, none⟩)) ?_ (Below.refl _ _) rfl (by decide)
  clear hd hn hl ho h2 h3 h4
  generalize a.eval = ρ at *
  simp [execOp, hop, h0, go_sem]
theorem su_s77 : SuG 77 (some 93, .nilCheck (.tmp 92), none) := by
  intro B L S vr ui g w0 W ops Q H o ho hd a w h0 h2 h3 h4 hx hl hn
  have hop : o.op = .nilCheck (.tmp 92) := congrArg (fun x => x.2.1) hd
  have q76 : a.eval (.tmp 92) = .pointer (some ⟨L.b, 0, none⟩) := by
    have h := hn 76 (by decide)
    rw [hl] at h
    exact h
  refine st_val ho hd (.pointer (some ⟨L.b, 0, none⟩)) ?_ (Below.refl _ _) rfl (by decide)
  clear hd hn hl ho h0 h2 h3 h4
  generalize a.eval = ρ at *
  simp [execOp, hop, q76, go_sem]
theorem su_s78 : SuG 78 (some 94, .fieldAddr 105 (.tmp 93) 1, none) := by
  intro B L S vr ui g w0 W ops Q H o ho hd a w h0 h2 h3 h4 hx hl hn
  have hop : o.op = .fieldAddr 105 (.tmp 93) 1 := congrArg (fun x => x.2.1) hd
  have q77 : a.eval (.tmp 93) = .pointer (some ⟨L.b, 0, none⟩) := by
    have h := hn 77 (by decide)
    rw [hl] at h
    exact h
  refine st_val ho hd (.pointer (some ⟨L.b, 1, none⟩)) ?_ (Below.refl _ _) rfl (by decide)
  clear hd hn hl ho h0 h2 h3 h4
  generalize a.eval = ρ at *
  simp [execOp, hop, q77, go_sem]
theorem su_s79 : SuG 79 (some 95, .load 83 (.tmp 94), none) := by
  intro B L S vr ui g w0 W ops Q H o ho hd a w h0 h2 h3 h4 hx hl hn
  have hop : o.op = .load 83 (.tmp 94) := congrArg (fun x => x.2.1) hd
  have q78 : a.eval (.tmp 94) = .pointer (some ⟨L.b, 1, none⟩) := by
    have h := hn 78 (by decide)
    rw [hl] at h
    exact h
  have hc := (H.pc hx).b1
  refine st_val ho hd (.pointer (some ⟨L.pw, 0, none⟩)) ?_ (Below.refl _ _) rfl (by decide)
  clear hd hn hl ho h0 h2 h3 h4
  generalize a.eval = ρ at *
  simp [execOp, hop, q78, hc, go_sem]
theorem su_s80 : SuG 80 (some 96, .nilCheck (.tmp 95), none) := by
  intro B L S vr ui g w0 W ops Q H o ho hd a w h0 h2 h3 h4 hx hl hn
  have hop : o.op = .nilCheck (.tmp 95) := congrArg (fun x => x.2.1) hd
  have q79 : a.eval (.tmp 95) = .pointer (some ⟨L.pw, 0, none⟩) := by
    have h := hn 79 (by decide)
    rw [hl] at h
    exact h
  refine st_val ho hd (.pointer (some ⟨L.pw, 0, none⟩)) ?_ (Below.refl _ _) rfl (by decide)
  clear hd hn hl ho h0 h2 h3 h4
  generalize a.eval = ρ at *
  simp [execOp, hop, q79, go_sem]
theorem su_s81 : SuG 81 (some 97, .fieldAddr 85 (.tmp 96) 1, none) := by
  intro B L S vr ui g w0 W ops Q H o ho hd a w h0 h2 h3 h4 hx hl hn
  have hop : o.op = .fieldAddr 85 (.tmp 96) 1 := congrArg (fun x => x.2.1) hd
  have q80 : a.eval (.tmp 96) = .pointer (some ⟨L.pw, 0, none⟩) := by
    have h := hn 80 (by decide)
    rw [hl] at h
    exact h
  refine st_val ho hd (.pointer (some ⟨L.pw, 1, none⟩)) ?_ (Below.refl _ _) rfl (by decide)
  clear hd hn hl ho h0 h2 h3 h4
  generalize a.eval = ρ at *
  simp [execOp, hop, q80, go_sem]
theorem su_s82 : SuG 82 (some 98, .load 3 (.tmp 97), none) := by
  intro B L S vr ui g w0 W ops Q H o ho hd a w h0 h2 h3 h4 hx hl hn
  have hop : o.op = .load 3 (.tmp 97) := congrArg (fun x => x.2.1) hd
  have q81 : a.eval (.tmp 97) = .pointer (some ⟨L.pw, 1, none⟩) := by
    have h := hn 81 (by decide)
    rw [hl] at h
    exact h
  have hc := (H.pc hx).p1
  refine st_val ho hd (.int .i64 S.code) ?_ (Below.refl _ _) rfl (by decide)
  clear hd hn hl ho h0 h2 h3 h4
  generalize a.eval = ρ at *
  simp [execOp, hop, q81, hc, go_sem]
theorem su_s83 : SuG 83 (some 99, .build 35 #[(0, .tmp 23), (1, .tmp 30), (2, .tmp 37), (3, .tmp 44), (4, .tmp 48), (5, .tmp 52), (6, .tmp 59), (7, .tmp 66), (8, .tmp 73), (9, .tmp 80), (10, .tmp 81), (11, .tmp 82), (12, .tmp 84), (13, .tmp 91), (14, .tmp 98)], none) := by
  intro B L S vr ui g w0 W ops Q H o ho hd a w h0 h2 h3 h4 hx hl hn
  have hop : o.op = .build 35 #[(0, .tmp 23), (1, .tmp 30), (2, .tmp 37), (3, .tmp 44), (4, .tmp 48), (5, .tmp 52), (6, .tmp 59), (7, .tmp 66), (8, .tmp 73), (9, .tmp 80), (10, .tmp 81), (11, .tmp 82), (12, .tmp 84), (13, .tmp 91), (14, .tmp 98)] := congrArg (fun x => x.2.1) hd
  have q7 : w.ownsRow W.heap.size 5 1 (a.eval (.tmp 23)) S.ram.length (bv S.ram) := by
    have h := hn 7 (by decide)
    rw [hl] at h
    exact h
  have q68 : w.ownsRow W.heap.size 5 1 (a.eval (.tmp 84)) S.out.length (bv S.out) := by
    have h := hn 68 (by decide)
    rw [hl] at h
    exact h
  have q14 : a.eval (.tmp 30) = .int .u32 S.msip := by
    have h := hn 14 (by decide)
    rw [hl] at h
    exact h
  have q21 : a.eval (.tmp 37) = .int .u64 S.cmp := by
    have h := hn 21 (by decide)
    rw [hl] at h
    exact h
  have q28 : a.eval (.tmp 44) = .int .u64 S.time := by
    have h := hn 28 (by decide)
    rw [hl] at h
    exact h
  have q32 : a.eval (.tmp 48) = .bool S.ext := by
    have h := hn 32 (by decide)
    rw [hl] at h
    exact h
  have q36 : a.eval (.tmp 52) = .bool S.soft := by
    have h := hn 36 (by decide)
    rw [hl] at h
    exact h
  have q43 : a.eval (.tmp 59) = .int .u8 S.ier := by
    have h := hn 43 (by decide)
    rw [hl] at h
    exact h
  have q50 : a.eval (.tmp 66) = .int .u8 S.lcr := by
    have h := hn 50 (by decide)
    rw [hl] at h
    exact h
  have q57 : a.eval (.tmp 73) = .int .u8 S.mcr := by
    have h := hn 57 (by decide)
    rw [hl] at h
    exact h
  have q64 : a.eval (.tmp 80) = .int .u8 S.scr := by
    have h := hn 64 (by decide)
    rw [hl] at h
    exact h
  have q65 : a.eval (.tmp 81) = .bool S.ov := by
    have h := hn 65 (by decide)
    rw [hl] at h
    exact h
  have q66 : a.eval (.tmp 82) = ui := by
    have h := hn 66 (by decide)
    rw [hl] at h
    exact h
  have q75 : a.eval (.tmp 91) = .int .i64 S.off := by
    have h := hn 75 (by decide)
    rw [hl] at h
    exact h
  have q82 : a.eval (.tmp 98) = .int .i64 S.code := by
    have h := hn 82 (by decide)
    rw [hl] at h
    exact h
  obtain ⟨x1, y1, z1, hu1⟩ := own_one q7
  obtain ⟨x2, y2, z2, hu2⟩ := own_one q68
  obtain ⟨x3, y3, z3, hu3⟩ := H.sl
  refine st_val ho hd (.agg #[a.eval (.tmp 23), .int .u32 S.msip, .int .u64 S.cmp, .int .u64 S.time, .bool S.ext, .bool S.soft, .int .u8 S.ier, .int .u8 S.lcr, .int .u8 S.mcr, .int .u8 S.scr, .bool S.ov, ui, a.eval (.tmp 84), .int .i64 S.off, .int .i64 S.code]) ?_ (Below.refl _ _) ?_ (by decide)
  · clear hd hn hl ho q7 q68 h0 h2 h3 h4
    subst hu3
    generalize a.eval = ρ at *
    simp [execOp, hop, hu1, hu2, q14, q21, q28, q32, q36, q43, q50, q57, q64, q65, q66, q75, q82, go_sem]
  · rw [hl]; rfl
theorem su_s84 : SuG 84 (none, .store 35 (.tmp 2) (.tmp 99), none) := by
  intro B L S vr ui g w0 W ops Q H o ho hd a w h0 h2 h3 h4 hx hl hn
  have hop : o.op = .store 35 (.tmp 2) (.tmp 99) := congrArg (fun x => x.2.1) hd
  have q83 : a.eval (.tmp 99) = .agg #[a.eval (.tmp 23), .int .u32 S.msip, .int .u64 S.cmp, .int .u64 S.time, .bool S.ext, .bool S.soft, .int .u8 S.ier, .int .u8 S.lcr, .int .u8 S.mcr, .int .u8 S.scr, .bool S.ov, ui, a.eval (.tmp 84), .int .i64 S.off, .int .i64 S.code] := by
    have h := hn 83 (by decide)
    rw [hl] at h
    exact h
  have q7 : w.ownsRow W.heap.size 5 1 (a.eval (.tmp 23)) S.ram.length (bv S.ram) := by
    have h := hn 7 (by decide)
    rw [hl] at h
    exact h
  have q68 : w.ownsRow W.heap.size 5 1 (a.eval (.tmp 84)) S.out.length (bv S.out) := by
    have h := hn 68 (by decide)
    rw [hl] at h
    exact h
  obtain ⟨x1, y1, z1, hu1⟩ := own_one q7
  obtain ⟨x2, y2, z2, hu2⟩ := own_one q68
  obtain ⟨x3, y3, z3, hu3⟩ := H.sl
  obtain ⟨old0, hrow0, hold0⟩ := H.row
  obtain ⟨old, hrow, hold⟩ := hx.k g rfl old0 _ hrow0
  refine wpOp_plain ho (congrArg (fun x => x.2.2) hd) (wp_store_row 35 _ _ hop g #[a.eval (.tmp 23), .int .u32 S.msip, .int .u64 S.cmp, .int .u64 S.time, .bool S.ext, .bool S.soft, .int .u8 S.ier, .int .u8 S.lcr, .int .u8 S.mcr, .int .u8 S.scr, .bool S.ov, ui, a.eval (.tmp 84), .int .i64 S.off, .int .i64 S.code] h2 q83 35 old hrow stSize (hold.trans hold0) ?_ ?_)
  · rw [hu1, hu2, hu3]
    exact stOne S
  · have hdn : o.dst = none := congrArg (fun x => x.1) hd
    have hgl : g < w.heap.size := (Array.getElem?_eq_some_iff.1 hrow).1
    refine ⟨undef, rfl, ⟨⟨rfl, rfl, rfl, by simp [World.setRow], fun k hk hs => setRow_other w g _ k hs⟩, fun b hb cs T hc => ?_⟩, fun v' _ => ?_, fun h => absurd h (by decide)⟩
    · subst hb
      rw [hrow] at hc
      cases hc
      exact ⟨_, setRow_heap w b _ _ _ _ hrow, (hold.trans hold0).symm⟩
    · rw [hl]
      exact ⟨_, q83, setRow_heap w g _ _ _ _ hrow⟩
end Go.Proofs.Ytgblpjkpeihpeaa
