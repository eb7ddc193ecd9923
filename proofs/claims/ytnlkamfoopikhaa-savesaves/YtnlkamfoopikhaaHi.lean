/-
  Layer 16 (save): a snapshot's parts, without memory; blocks that are made.
-/
import Derived.Test.YtnlkamfoopikhaaHh
namespace Go.Proofs.Ytnlkamfoopikhaa
set_option linter.unusedVariables false
set_option maxRecDepth 100000
open Go.ChangeShapes Go.WideShapes Go.ChangeAt Go.RowKit Go.Deep
/-- A number as a word. -/
def wB (z : Int) : BitVec 64 := BitVec.ofInt 64 z
theorem wrap_wB (z : Int) : IntKind.u64.wrap z = n64 (wB z) := wrap_n64 z
theorem wB_of {z : Int} (h0 : 0 ≤ z) (h1 : z ≤ 18446744073709551615) : z = n64 (wB z) := by
  rw [← wrap_wB]; simp [IntKind.wrap, IntKind.signed, IntKind.bits]; omega
theorem wB_nat (z : Int) : (wB z).toNat = (z % 18446744073709551616).toNat := by unfold wB; rw [BitVec.toNat_ofInt]; rfl
theorem u8w (z : Int) : IntKind.u8.wrap z = z % 256 := by simp [IntKind.wrap, IntKind.signed, IntKind.bits]
theorem ptL_one (z : Int) : ptL (wB z).toNat 1 = [z % 256] := by
  rw [show ptL (wB z).toNat 1 = [(((wB z).toNat / 256 ^ 0 % 256 : Nat) : Int)] from rfl, wB_nat]
  simp
  omega
/-- Part 2, the Cpu, section by section. -/
def cpuS (k : Cp) : List (List Int) :=
  [dbl [k.pc], dbl ((List.range 32).map k.x), [k.md % 256, fl k.wt], dbl [k.s 0, k.s 1, k.s 2, k.s 3, k.s 4, k.s 5], dbl [k.s 6, k.s 7, k.s 8, k.s 9, k.s 10, k.s 11],
   (List.range 16).map (fun i => n8 (k.c i)), dbl ((List.range 16).map k.a), [fl k.rv], dbl [k.ra], [k.rs % 256]]
/-- Part 3, the devices. -/
def devS (S : St) : List (List Int) :=
  [ptL (wB S.msip).toNat 4, dbl [wB S.cmp, wB S.time], [fl S.ext, fl S.soft, S.ier, S.lcr, S.mcr, S.scr, fl S.ov, S.off % 256], ptL (wB S.code).toNat 4, ptL (wB S.inp.length).toNat 1, S.inp, ptL (wB S.out.length).toNat 2, S.out]
/-- Part 4, the RAM: the first k pages. -/
def pgO (r : List Int) (i : Nat) : List (List Int) := if blk (pgL r i) then [] else [ptL (wB i).toNat 2, pgL r i]
def pgS (r : List Int) (k : Nat) : List (List Int) := (List.range k).flatMap (pgO r)
def ramS (r : List Int) : List (List Int) := [ptL (wB r.length).toNat 4] ++ pgS r (pgN r.length) ++ [ptL 65535 2]
def headB : List Int := [65, 78, 86, 73, 76, 83, 1, 90]
/-- All ahead of the sum; a snapshot. -/
def toldB (k : Cp) (S : St) : List Int := headB ++ ((cpuS k).flatten ++ ((devS S).flatten ++ (ramS S.ram).flatten))
def snapB (k : Cp) (S : St) : List Int := toldB k S ++ ptL (sumB (toldB k S)).toNat 4
theorem cpuS_length (k : Cp) : (cpuS k).flatten.length = 516 := by
  simp [cpuS, dbl_length]
theorem pgS_succ (r : List Int) (k : Nat) : pgS r (k + 1) = pgS r k ++ pgO r k := by simp [pgS, List.range_succ]
theorem devS_length (S : St) : (devS S).flatten.length = 35 + S.inp.length + S.out.length := by
  simp [devS, dbl_length, ptL_length]; omega
theorem pgO_length (r : List Int) (k : Nat) : (pgO r k).flatten.length ≤ 258 := by
  unfold pgO; split
  · simp
  · simp [ptL_length, pgL_length, pgE]; omega
theorem pgS_len (r : List Int) : ∀ k, (pgS r k).length ≤ 2 * k ∧ (pgS r k).flatten.length ≤ 258 * k
  | 0 => by simp [pgS]
  | k + 1 => by
    have h := pgS_len r k
    have h2 := pgO_length r k
    have h3 : (pgO r k).length ≤ 2 := by unfold pgO; split <;> simp
    rw [pgS_succ]
    simp only [List.length_append, List.flatten_append]
    omega
theorem ramS_len (r : List Int) (h : r.length ≤ 65536) : (ramS r).flatten.length ≤ 66054 ∧ (ramS r).length ≤ 514 := by
  have h1 := pgS_len r (pgN r.length)
  have h2 : pgN r.length ≤ 256 := by unfold pgN; omega
  unfold ramS
  simp only [List.length_append, List.flatten_append, List.length_cons, List.length_nil, List.flatten_cons, List.flatten_nil, List.append_nil, ptL_length]
  omega
theorem toldB_length (k : Cp) (S : St) (h : S.ram.length ≤ 65536) (hi : S.inp.length ≤ 64) (ho : S.out.length ≤ 4096) : (toldB k S).length ≤ 70800 := by
  have h1 := ramS_len S.ram h
  unfold toldB headB
  simp only [List.length_append, cpuS_length, devS_length, List.length_cons, List.length_nil]
  omega
/-- Blocks that are made. -/
theorem byt_new (w : World) (l : List Int) : Byt (w.alloc (.cells (bv l).toArray 5)) (.slice (some ⟨w.heap.size, 0, none⟩) l.length l.length) l :=
  ⟨some ⟨w.heap.size, 0, none⟩, l.length, rfl, Nat.le_refl _, (fun e => by cases e), fun _ => ⟨w.heap.size, 0, rfl, by simp, fun j hj => by rw [Nat.zero_add, (Row.new w _ _).cell, List.getElem?_toArray, bv_get _ _ hj]⟩⟩
theorem dbs_new (w : World) (xs : List (BitVec 64)) : Dbs (w.alloc (.cells (xs.map fun x => .int .u64 (n64 x)).toArray 22)) (.slice (some ⟨w.heap.size, 0, none⟩) xs.length xs.length) xs :=
  ⟨w.heap.size, 0, xs.length, rfl, by simp, fun j hj => by rw [Nat.zero_add, (Row.new w _ _).cell]; simp [hj]⟩
theorem rws_new (w : World) (us : List Value) (ls : List (List Int)) (hl : us.length = ls.length) (h : ∀ j, j < ls.length → Byt w (us.getD j undef) (ls.getD j [])) : Rws (w.alloc (.cells us.toArray 32)) (.slice (some ⟨w.heap.size, 0, none⟩) ls.length ls.length) ls :=
  ⟨w.heap.size, ls.length, rfl, by simp, fun j hj => ⟨us.getD j undef, by rw [(Row.new w _ _).cell]; simp [hl, hj], (h j hj).later (below_al w _) rfl⟩⟩
theorem Byt.sl {w : World} {v : Value} {b : List Int} (h : Byt w v b) : ∃ a n c, v = .slice a n c := by
  obtain ⟨a, cap, e, _⟩ := h
  exact ⟨a, _, cap, e⟩
theorem below_one (w : World) (o : Obj) : Below w.heap.size w (w.alloc o) := below_al w o
end Go.Proofs.Ytnlkamfoopikhaa
