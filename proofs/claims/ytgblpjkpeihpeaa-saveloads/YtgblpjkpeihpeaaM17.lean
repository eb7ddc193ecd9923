/-
  Hh Hi Ja.
-/
import Derived.Test.YtgblpjkpeihpeaaM16
namespace Go.Proofs.Ytgblpjkpeihpeaa
set_option linter.unusedVariables false
set_option maxRecDepth 100000
open Go.ChangeShapes Go.WideShapes Go.ChangeAt Go.RowKit Go.Deep
/-- How many pages; a page; is it blank. -/
def pgN (n : Nat) : Nat := (n + 255) / 256
def pgE (n i : Nat) : Nat := min (256 * i + 256) n
def pgL (r : List Int) (i : Nat) : List Int := (r.drop (256 * i)).take (pgE r.length i - 256 * i)
def blk (l : List Int) : Bool := l.all (· == 0)
theorem pgL_length (r : List Int) (i : Nat) : (pgL r i).length = pgE r.length i - 256 * i := by simp [pgL, pgE]; omega
theorem blk_take (l : List Int) (k : Nat) (h : k < l.length) : blk (l.take (k + 1)) = (blk (l.take k) && (l.getD k 0 == 0)) := by
  unfold blk
  rw [List.take_add_one, List.all_append]; simp [h]
theorem pgN_lt {n i : Nat} (h : i < pgN n) : 256 * i < n := by unfold pgN at h; omega
theorem spages_c (n : Nat) (hn : n ≤ 65536) (w : World) : Calls Try.prog 47 #[.int .i64 (n : Int)] w fun e w' => e = .returned (.int .i64 (pgN n : Nat)) ∧ w' = w := by
  have h1 : (n : Int) ≤ 65536 := by omega
  have h2 : Hid (((n : Int) + 256 - 1) / 256 = ((pgN n : Nat) : Int)) := by
    unfold Hid pgN; omega
  go_enter Try.func47, Try.ntmps47
  go_wp2
  go_ret
  exact ⟨by rw [← h2.out]; rfl, rfl⟩
theorem rpages_c (n : Nat) (hn : n ≤ 65536) (w : World) : Calls Try.prog 54 #[.int .i64 (n : Int)] w fun e w' => e = .returned (.int .i64 (pgN n : Nat)) ∧ w' = w := by
  have h1 : (n : Int) ≤ 65536 := by omega
  have h2 : Hid (((n : Int) + 255) / 256 = ((pgN n : Nat) : Int)) := by
    unfold Hid pgN; omega
  go_enter Try.func54, Try.ntmps54
  go_wp2
  go_ret
  exact ⟨by rw [← h2.out]; rfl, rfl⟩
/-- Where a part of a slice begins. -/
def cad (a : Option Addr) (p m : Nat) : Option Addr := if m = p then a else a.map (fun x => x.add p)
theorem spage_c (a : Option Addr) (n cap i : Nat) (hc : n ≤ cap) (hn : n ≤ 65536) (hi : i < pgN n) (w : World) :
    Calls Try.prog 48 #[.slice a n cap, .int .i64 (i : Int)] w fun e w' => e = .returned (.slice (cad a (256 * i) (pgE n i)) (pgE n i - 256 * i) (pgE n i - 256 * i)) ∧ w' = w := by
  have hlt := pgN_lt hi
  obtain ⟨p, hp⟩ : ∃ p, p = 256 * i := ⟨_, rfl⟩
  have h1 : (i : Int) * 256 = (p : Int) := by omega
  have h0 : (i : Int) ≤ 256 := by omega
  have hE : Hid (min (p + 256) n = pgE n i) := by unfold Hid pgE; rw [hp]
  have h2 : (p : Int) ≤ 65536 := by omega
  rw [← hp] at hlt ⊢
  obtain ⟨q, hq⟩ : ∃ q, q = pgE n i := ⟨_, rfl⟩
  rw [← hq] at hE ⊢
  clear hp hq hi
  have e1 : p ≤ q := by have := hE.out; omega
  have e2 : q ≤ n := by have := hE.out; omega
  have hsl := sl_lhm w a n cap p q q e1 (Nat.le_refl _) (by omega)
  rw [show (if q = p then a else a.map (fun x => x.add p)) = cad a p q from rfl] at hsl
  generalize cad a p q = ad at *
  by_cases hle : p + 256 ≤ n
  · have e3 : Hid (q = p + 256) := by have := hE.out; unfold Hid; omega
    have h4 : ¬ (n : Int) < (p : Int) + 256 := by omega
    have h5 : (p : Int) + 256 = (q : Int) := by have := e3.out; omega
    have h6 : ¬ (n : Int) < (q : Int) := by omega
    clear e1 e2 hle hE
    go_enter Try.func48, Try.ntmps48
    go_wp2
    go_ret
    exact ⟨rfl, rfl⟩
  · have e3 : q = n := by have := hE.out; omega
    subst e3
    have h4 : (q : Int) < (p : Int) + 256 := by omega
    clear e1 e2 hle hE
    go_enter Try.func48, Try.ntmps48
    go_wp2
    go_ret
    exact ⟨rfl, rfl⟩
theorem rpage_c (a : Option Addr) (n cap i : Nat) (hc : n ≤ cap) (hn : n ≤ 65536) (hi : i < pgN n) (w : World) :
    Calls Try.prog 55 #[.slice a n cap, .int .i64 (i : Int)] w fun e w' => e = .returned (.slice (cad a (256 * i) cap) (pgE n i - 256 * i) (cap - 256 * i)) ∧ w' = w := by
  have hlt := pgN_lt hi
  obtain ⟨p, hp⟩ : ∃ p, p = 256 * i := ⟨_, rfl⟩
  have h1 : (256 : Int) * (i : Int) = (p : Int) := by omega
  have h0 : (i : Int) ≤ 256 := by omega
  have hE : Hid (min (p + 256) n = pgE n i) := by unfold Hid pgE; rw [hp]
  have h2 : (p : Int) ≤ 65536 := by omega
  rw [← hp] at hlt ⊢
  obtain ⟨q, hq⟩ : ∃ q, q = pgE n i := ⟨_, rfl⟩
  rw [← hq] at hE ⊢
  clear hp hq hi
  have e1 : p ≤ q := by have := hE.out; omega
  have e2 : q ≤ n := by have := hE.out; omega
  have hsl := sl_lh w a n cap p q e1 (by omega)
  rw [show (if cap = p then a else a.map (fun x => x.add p)) = cad a p cap from rfl] at hsl
  generalize cad a p cap = ad at *
  by_cases hle : p + 256 ≤ n
  · have e3 : Hid (q = p + 256) := by have := hE.out; unfold Hid; omega
    have h4 : ¬ (n : Int) < (p : Int) + 256 := by omega
    have h5 : (p : Int) + 256 = (q : Int) := by have := e3.out; omega
    have h6 : ¬ (n : Int) < (q : Int) := by omega
    clear e1 e2 hle hE
    go_enter Try.func55, Try.ntmps55
    go_wp2
    go_ret
    exact ⟨rfl, rfl⟩
  · have e3 : q = n := by have := hE.out; omega
    subst e3
    have h4 : (q : Int) < (p : Int) + 256 := by omega
    clear e1 e2 hle hE
    go_enter Try.func55, Try.ntmps55
    go_wp2
    go_ret
    exact ⟨rfl, rfl⟩
theorem Byt.page {w : World} {a : Option Addr} {cap : Nat} {r : List Int} (h : Byt w (.slice a r.length cap) r) (i : Nat) (hi : i < pgN r.length) (m : Nat) (hm : pgE r.length i ≤ m) (hm2 : m ≤ cap) : Byt w (.slice (cad a (256 * i) m) (pgE r.length i - 256 * i) (m - 256 * i)) (pgL r i) := by
  have hlt := pgN_lt hi
  exact h.cut (256 * i) (pgE r.length i) m (by unfold pgE; omega) hm hm2 (by unfold pgE; omega)
set_option maxHeartbeats 1000000 in
theorem sblank_c (l : List Int) (v : Value) (w : World) (hv : Byt w v l) (hl : l.length ≤ 140737488355328) :
    Calls Try.prog 49 #[v] w fun e w' => e = .returned (.bool (blk l)) ∧ w' = w := by
  obtain ⟨a, cap, rfl, hc, _, hr⟩ := hv
  have HR : Hid (l ≠ [] → ∃ g off, a = some ⟨g, off, none⟩ ∧ g < w.heap.size ∧ ∀ j, j < l.length → w.cell? ⟨g, off + j, none⟩ = some (.int .u8 (l.getD j 0))) := hr
  clear hr
  go_enter Try.func49, Try.ntmps49
  go_wp2
  go_loopw [7] (fun i wr => ∃ k : Nat, k ≤ l.length ∧ i = .int .i64 k ∧ Hid (blk (l.take k) = true) ∧ wr = w) (fun i _ => l.length - (intOf i).toNat)
  case atStart => exact ⟨0, Nat.zero_le _, rfl, rfl, rfl⟩
  case round =>
    obtain ⟨k, hk, rfl, hbk, hwr⟩ := hrel
    subst hwr
    by_cases hlt : k < l.length
    · obtain ⟨gl, off, rfl, hgl, hcell⟩ := HR.out (by intro e; rw [e] at hlt; simp at hlt)
      have hlt2 : (k : Int) < (l.length : Int) := by omega
      have hce : wr.cell? ⟨gl, off + k, none⟩ = some (.int .u8 (l.getD k 0)) := hcell k hlt
      have HBT : Hid (blk (l.take (k + 1)) = (blk (l.take k) && (l.getD k 0 == 0))) := blk_take l k hlt
      have HNB : Hid (l.getD k 0 ≠ 0 → blk l = false) := fun hne => by
        unfold blk
        rw [List.all_eq_false]
        exact ⟨l.getD k 0, by simp [hlt], by simpa using hne⟩
      obtain ⟨b, hb⟩ : ∃ b, b = l.getD k 0 := ⟨_, rfl⟩
      rw [← hb] at HBT HNB hce
      clear hb hcell
      by_cases h0 : b = 0
      · subst h0
        go_wp2
        go_roundw
        case rel => exact ⟨k + 1, by omega, by go_num, by unfold Hid; rw [HBT.out, hbk.out]; rfl, trivial⟩
        case measure => simp [intOf]; omega
      · have h1 : (b != 0) = true := by simpa using h0
        have HF := Hid.mk' (HNB.out h0)
        clear HNB h0
        go_wp2
        go_ret
        exact ⟨by rw [HF.out]; rfl, rfl⟩
    · have hkn : k = l.length := by omega
      have HF : Hid (blk l = true) := by have := hbk.out; rw [hkn, List.take_length] at this; exact this
      have hz2 : ¬ (k : Int) < (l.length : Int) := by omega
      clear hkn hlt
      go_wp2
      go_ret
      exact ⟨by rw [HF.out]; rfl, rfl⟩
set_option maxHeartbeats 1000000 in
theorem rblank_c (l : List Int) (v : Value) (w : World) (hv : Byt w v l) (hl : l.length ≤ 140737488355328) :
    Calls Try.prog 56 #[v] w fun e w' => e = .returned (.bool (blk l)) ∧ w' = w := by
  obtain ⟨a, cap, rfl, hc, _, hr⟩ := hv
  have HR : Hid (l ≠ [] → ∃ g off, a = some ⟨g, off, none⟩ ∧ g < w.heap.size ∧ ∀ j, j < l.length → w.cell? ⟨g, off + j, none⟩ = some (.int .u8 (l.getD j 0))) := hr
  clear hr
  go_enter Try.func56, Try.ntmps56
  go_wp2
  go_loopw [3] (fun i wr => ∃ k : Nat, k ≤ l.length ∧ i = .int .i64 k ∧ Hid (blk (l.take k) = true) ∧ wr = w) (fun i _ => l.length - (intOf i).toNat)
  case atStart => exact ⟨0, Nat.zero_le _, rfl, rfl, rfl⟩
  case round =>
    obtain ⟨k, hk, rfl, hbk, hwr⟩ := hrel
    subst hwr
    by_cases hlt : k < l.length
    · obtain ⟨gl, off, rfl, hgl, hcell⟩ := HR.out (by intro e; rw [e] at hlt; simp at hlt)
      have hlt2 : (k : Int) < (l.length : Int) := by omega
      have hce : wr.cell? ⟨gl, off + k, none⟩ = some (.int .u8 (l.getD k 0)) := hcell k hlt
      have HBT : Hid (blk (l.take (k + 1)) = (blk (l.take k) && (l.getD k 0 == 0))) := blk_take l k hlt
      have HNB : Hid (l.getD k 0 ≠ 0 → blk l = false) := fun hne => by
        unfold blk
        rw [List.all_eq_false]
        exact ⟨l.getD k 0, by simp [hlt], by simpa using hne⟩
      obtain ⟨b, hb⟩ : ∃ b, b = l.getD k 0 := ⟨_, rfl⟩
      rw [← hb] at HBT HNB hce
      clear hb hcell
      by_cases h0 : b = 0
      · subst h0
        go_wp2
        go_roundw
        case rel => exact ⟨k + 1, by omega, by go_num, by unfold Hid; rw [HBT.out, hbk.out]; rfl, trivial⟩
        case measure => simp [intOf]; omega
      · have h1 : (b != 0) = true := by simpa using h0
        have HF := Hid.mk' (HNB.out h0)
        clear HNB h0
        go_wp2
        go_ret
        exact ⟨by rw [HF.out]; rfl, rfl⟩
    · have hkn : k = l.length := by omega
      have HF : Hid (blk l = true) := by have := hbk.out; rw [hkn, List.take_length] at this; exact this
      have hz2 : ¬ (k : Int) < (l.length : Int) := by omega
      clear hkn hlt
      go_wp2
      go_ret
      exact ⟨by rw [HF.out]; rfl, rfl⟩
end Go.Proofs.Ytgblpjkpeihpeaa
namespace Go.Proofs.Ytgblpjkpeihpeaa
set_option linter.unusedVariables false
set_option maxRecDepth 100000
open Go.ChangeShapes Go.WideShapes Go.ChangeAt Go.RowKit Go.Deep
/-- A number as a word. -/
def wB (z : Int) : BitVec 64 := BitVec.ofInt 64 z
theorem wrap_wB (z : Int) : IntKind.u64.wrap z = n64 (wB z) := wrap_n64 z
theorem wB_of {z : Int} (h0 : 0 ≤ z) (h1 : z ≤ 18446744073709551615) : z = n64 (wB z) := by
  rw [← wrap_wB]; simp [IntKind.wrap, IntKind.signed, IntKind.bits]; omega
theorem wB_nat (z : Int) : (wB z).toNat = (z % 18446744073709551616).toNat := by unfold wB; rw [BitVec.toNat_ofInt]; rfl
theorem u8w (z : Int) : IntKind.u8.wrap z = z % 256 := by simp [IntKind.wrap, IntKind.signed, IntKind.bits]
theorem ptL_one (z : Int) : ptL (wB z).toNat 1 = [z % 256] := by
  rw [show ptL (wB z).toNat 1 = [(((wB z).toNat / 256 ^ 0 % 256 : Nat) : Int)] from rfl, wB_nat]
  simp
  omega
/-- Part 2, the Cpu, section by section. -/
def cpuS (k : Cp) : List (List Int) :=
  [dbl [k.pc], dbl ((List.range 32).map k.x), [k.md % 256, fl k.wt], dbl [k.s 0, k.s 1, k.s 2, k.s 3, k.s 4, k.s 5], dbl [k.s 6, k.s 7, k.s 8, k.s 9, k.s 10, k.s 11],
   (List.range 16).map (fun i => n8 (k.c i)), dbl ((List.range 16).map k.a), [fl k.rv], dbl [k.ra], [k.rs % 256]]
/-- Part 3, the devices. -/
def devS (S : St) : List (List Int) :=
  [ptL (wB S.msip).toNat 4, dbl [wB S.cmp, wB S.time], [fl S.ext, fl S.soft, S.ier, S.lcr, S.mcr, S.scr, fl S.ov, S.off % 256], ptL (wB S.code).toNat 4, ptL (wB S.inp.length).toNat 1, S.inp, ptL (wB S.out.length).toNat 2, S.out]
/-- Part 4, the RAM: the first k pages. -/
def pgO (r : List Int) (i : Nat) : List (List Int) := if blk (pgL r i) then [] else [ptL (wB i).toNat 2, pgL r i]
def pgS (r : List Int) (k : Nat) : List (List Int) := (List.range k).flatMap (pgO r)
def ramS (r : List Int) : List (List Int) := [ptL (wB r.length).toNat 4] ++ pgS r (pgN r.length) ++ [ptL 65535 2]
def headB : List Int := [65, 78, 86, 73, 76, 83, 1, 90]
/-- All ahead of the sum; a snapshot. -/
def toldB (k : Cp) (S : St) : List Int := headB ++ ((cpuS k).flatten ++ ((devS S).flatten ++ (ramS S.ram).flatten))
def snapB (k : Cp) (S : St) : List Int := toldB k S ++ ptL (sumB (toldB k S)).toNat 4
theorem cpuS_length (k : Cp) : (cpuS k).flatten.length = 516 := by
  simp [cpuS, dbl_length]
theorem pgS_succ (r : List Int) (k : Nat) : pgS r (k + 1) = pgS r k ++ pgO r k := by simp [pgS, List.range_succ]
theorem devS_length (S : St) : (devS S).flatten.length = 35 + S.inp.length + S.out.length := by
  simp [devS, dbl_length, ptL_length]; omega
theorem pgO_length (r : List Int) (k : Nat) : (pgO r k).flatten.length ≤ 258 := by
  unfold pgO; split
  · simp
  · simp [ptL_length, pgL_length, pgE]; omega
theorem pgS_len (r : List Int) : ∀ k, (pgS r k).length ≤ 2 * k ∧ (pgS r k).flatten.length ≤ 258 * k
  | 0 => by simp [pgS]
  | k + 1 => by
    have h := pgS_len r k
    have h2 := pgO_length r k
    have h3 : (pgO r k).length ≤ 2 := by unfold pgO; split <;> simp
    rw [pgS_succ]
    simp only [List.length_append, List.flatten_append]
    omega
theorem ramS_len (r : List Int) (h : r.length ≤ 65536) : (ramS r).flatten.length ≤ 66054 ∧ (ramS r).length ≤ 514 := by
  have h1 := pgS_len r (pgN r.length)
  have h2 : pgN r.length ≤ 256 := by unfold pgN; omega
  unfold ramS
  simp only [List.length_append, List.flatten_append, List.length_cons, List.length_nil, List.flatten_cons, List.flatten_nil, List.append_nil, ptL_length]
  omega
theorem toldB_length (k : Cp) (S : St) (h : S.ram.length ≤ 65536) (hi : S.inp.length ≤ 64) (ho : S.out.length ≤ 4096) : (toldB k S).length ≤ 70800 := by
  have h1 := ramS_len S.ram h
  unfold toldB headB
  simp only [List.length_append, cpuS_length, devS_length, List.length_cons, List.length_nil]
  omega
/-- Blocks that are made. -/
theorem byt_new (w : World) (l : List Int) : Byt (w.alloc (.cells (bv l).toArray 5)) (.slice (some ⟨w.heap.size, 0, none⟩) l.length l.length) l :=
  ⟨some ⟨w.heap.size, 0, none⟩, l.length, rfl, Nat.le_refl _, (fun e => by cases e), fun _ => ⟨w.heap.size, 0, rfl, by simp, fun j hj => by rw [Nat.zero_add, (Row.new w _ _).cell, List.getElem?_toArray, bv_get _ _ hj]⟩⟩
theorem dbs_new (w : World) (xs : List (BitVec 64)) : Dbs (w.alloc (.cells (xs.map fun x => .int .u64 (n64 x)).toArray 22)) (.slice (some ⟨w.heap.size, 0, none⟩) xs.length xs.length) xs :=
  ⟨w.heap.size, 0, xs.length, rfl, by simp, fun j hj => by rw [Nat.zero_add, (Row.new w _ _).cell]; simp [hj]⟩
theorem rws_new (w : World) (us : List Value) (ls : List (List Int)) (hl : us.length = ls.length) (h : ∀ j, j < ls.length → Byt w (us.getD j undef) (ls.getD j [])) : Rws (w.alloc (.cells us.toArray 32)) (.slice (some ⟨w.heap.size, 0, none⟩) ls.length ls.length) ls :=
  ⟨w.heap.size, ls.length, rfl, by simp, fun j hj => ⟨us.getD j undef, by rw [(Row.new w _ _).cell]; simp [hl, hj], (h j hj).later (below_al w _) rfl⟩⟩
theorem Byt.sl {w : World} {v : Value} {b : List Int} (h : Byt w v b) : ∃ a n c, v = .slice a n c := by
  obtain ⟨a, cap, e, _⟩ := h
  exact ⟨a, _, cap, e⟩
theorem below_one (w : World) (o : Obj) : Below w.heap.size w (w.alloc o) := below_al w o
end Go.Proofs.Ytgblpjkpeihpeaa
namespace Go.Proofs.Ytgblpjkpeihpeaa
set_option linter.unusedVariables false
set_option maxRecDepth 100000
open Go.ChangeShapes Go.WideShapes Go.ChangeAt Go.RowKit Go.Deep
/-- The number of n bytes at q. -/
def nv (L : List Int) (q n : Nat) : Nat := tkN (L.drop q) n
/-- Something was not of the form (b), or it ends ahead of q. -/
def bd (b : Bool) (L : List Int) (q : Nat) : Bool := b || decide (L.length < q)
theorem bd_mono {b b' : Bool} {L : List Int} {q q' : Nat} (hb : b = true → b' = true) (hq : q ≤ q') (h : bd b' L q' = false) : bd b L q = false := by
  unfold bd at *
  simp only [Bool.or_eq_false_iff, decide_eq_false_iff_not] at *
  refine ⟨?_, by omega⟩
  cases b with
  | false => rfl
  | true => rw [hb rfl] at h; exact absurd h.1 (by simp)
theorem bd_q {b : Bool} {L : List Int} {q q' : Nat} (hq : q ≤ q') (h : bd b L q' = false) : bd b L q = false := bd_mono id hq h
theorem bd_len {b : Bool} {L : List Int} {q : Nat} (h : bd b L q = false) : q ≤ L.length := by
  unfold bd at h
  simp only [Bool.or_eq_false_iff, decide_eq_false_iff_not] at h
  omega
theorem bd_or {b c : Bool} {L : List Int} {q : Nat} (h : bd (b || c) L q = false) : bd b L q = false ∧ c = false := by
  unfold bd at *
  cases b <;> cases c <;> simp_all
theorem bd_of {b : Bool} {L : List Int} {q q' : Nat} (h : bd b L q = true) (hq : q ≤ q') : bd b L q' = true := by
  cases e : bd b L q' with
  | true => rfl
  | false => rw [bd_q hq e] at h; cases h
theorem allB_drop {L : List Int} (h : AllB L) (q : Nat) : AllB (L.drop q) := fun x hx => h x (List.mem_of_mem_drop hx)
theorem allB_take {L : List Int} (h : AllB L) (q : Nat) : AllB (L.take q) := fun x hx => h x (List.mem_of_mem_take hx)
theorem allB_zero (n : Nat) : AllB (List.replicate n 0) := fun x hx => by rw [(List.mem_replicate.1 hx).2]; omega
theorem nv_lt {L : List Int} (h : AllB L) (q n : Nat) : nv L q n < 256 ^ n := tkN_lt (allB_drop h q) n
theorem tkN_take (l : List Int) (n : Nat) : ∀ k, k ≤ n → tkN (l.take n) k = tkN l k
  | 0, _ => rfl
  | k + 1, h => by
    rw [tkN, tkN, tkN_take l n k (by omega)]
    congr 2
    simp only [List.getD_eq_getElem?_getD]
    rw [List.getElem?_take_of_lt (by omega)]
/-- The program's reader: what it has still to read, and whether something was wrong. -/
structure Prd (B : Nat) (w : World) (g : Nat) (L : List Int) (q : Nat) (b : Bool) : Prop where
  bg : B ≤ g
  st : ∃ (a : Option Addr) (n c : Nat) (M : List Int), Row w g #[.slice a n c, .bool (bd b L q)] 120 ∧ n = M.length ∧ Byt w (.slice a n c) M ∧ AllB M ∧ n ≤ 72000 ∧ (∀ k, (Value.slice a n c).ownBlock = some k → k < B) ∧ (bd b L q = false → M = L.drop q)
theorem Prd.exc {B : Nat} {w w' : World} {g : Nat} {L : List Int} {q : Nat} {b : Bool} (h : Prd B w g L q b) {S : Nat → Prop} (hx : Exc S w w') (hg : ¬ S g) (hB : ∀ k, k < B → ¬ S k) : Prd B w' g L q b := by
  obtain ⟨a, n, c, M, h1, h2, h3, h4, h5, h6, h7⟩ := h.st
  exact ⟨h.bg, a, n, c, M, (hx.block g h1.lt hg).trans h1, h2, h3.exc hx (fun k off n' c' e => hB k (h6 k (by rw [e]; rfl))), h4, h5, h6, h7⟩
theorem Prd.later {B : Nat} {w w' : World} {g : Nat} {L : List Int} {q : Nat} {b : Bool} (h : Prd B w g L q b) (hb : Below w.heap.size w w') : Prd B w' g L q b :=
  h.exc (S := fun _ => False) (Exc.of_below hb rfl) id (fun _ _ => id)
/-- Bytes that the reader hands out. -/
def Cut (B : Nat) (w0 w : World) (u : Value) (M : List Int) : Prop := Byt w u M ∧ ∀ k, u.ownBlock = some k → k < B ∨ w0.heap.size ≤ k
theorem add_block (ad : Addr) (j : Nat) : (ad.add j).block = ad.block := by unfold Addr.add; split <;> rfl
theorem own_cut (p : Prop) [Decidable p] (a : Option Addr) (j n c n' c' : Nat) : (Value.slice (if p then a else a.map (fun x => x.add j)) n c).ownBlock = (Value.slice a n' c').ownBlock := by
  cases a with
  | none => simp [Value.ownBlock]
  | some ad =>
    by_cases h : p
    · rw [if_pos h]; rfl
    · rw [if_neg h]; simp [Value.ownBlock, add_block]
/-- What section answers. -/
def SecP (B : Nat) (w : World) (g : Nat) (L : List Int) (q : Nat) (b : Bool) (n : Nat) (e : Ending) (w' : World) : Prop :=
  ∃ u M', e = .returned u ∧ Cut B w w' u M' ∧ M'.length = n ∧ AllB M' ∧ (bd b L (q + n) = false → M' = (L.drop q).take n) ∧ Prd B w' g L (q + n) b ∧ Exc (· = g) w w'
set_option maxHeartbeats 4000000 in
theorem sect_c {B : Nat} {w : World} {g : Nat} {L : List Int} {q : Nat} {b : Bool} (h : Prd B w g L q b) (n : Nat) (hn : n ≤ 70000) :
    Calls Try.prog 74 #[.pointer (some ⟨g, 0, none⟩), .int .i64 (n : Int)] w fun e w' => SecP B w g L q b n e w' := by
  obtain ⟨hbg, a, m, c, M, hr, hm, hby, hall, hm7, hown, hgood⟩ := h
  have c0 := hr.cell 0
  have c1 := hr.cell 1
  have f0 := hr.froz 0
  have f1 := hr.froz 1
  have HR := Hid.mk' hr
  have HBY := Hid.mk' hby
  have HM := Hid.mk' hm
  have HGO := Hid.mk' hgood
  have HOW := Hid.mk' hown
  have hcap : m ≤ c := by obtain ⟨_, _, e, h1, _⟩ := hby; simp only [Value.slice.injEq] at e; omega
  have hcz : Hid (a = none → c = 0) := by obtain ⟨_, _, e, _, h1, _⟩ := hby; simp only [Value.slice.injEq] at e; obtain ⟨rfl, _, rfl⟩ := e; exact h1
  clear hr hby hgood hown
  by_cases hlt : m < n
  · have hlt2 : (m : Int) < (n : Int) := by omega
    have HBT : Hid (bd b L (q + n) = true) := by
      unfold Hid
      cases e : bd b L q with
      | true => exact bd_of e (by omega)
      | false =>
        have hq := bd_len e
        have e2 := HGO.out e
        unfold bd
        have : L.length < q + n := by rw [hm, e2, List.length_drop] at hlt; omega
        simp [this]
    obtain ⟨i0, hi, hz0, hz1, hz2⟩ := info_parts info5
    have HI : Hid (Try.prog.info? 5 = some i0) := hi
    have HZ0 : Hid (i0.zero = some (.int .u8 0)) := hz0
    have HZ1 : Hid (i0.size = 1) := hz1
    have HZ2 : Hid (i0.bytes = 1) := hz2
    clear hi hz0 hz1 hz2 hm
    generalize bd b L q = bb at *
    have HP1 : Hid (∀ wa, wa = (w.setCell ⟨g, 1, none⟩ (.bool true)).setCell ⟨g, 0, none⟩ (.slice none 0 0) → Row wa g #[.slice none 0 0, .bool true] 120 ∧ Exc (· = g) w wa) := fun wa e => by
      subst e
      exact ⟨(HR.out.put (i := 1) (.bool true)).put (i := 0) (.slice none 0 0), ((Exc.refl (· = g) w).set g 1 _ rfl).set g 0 _ rfl⟩
    have d0 : (w.setCell ⟨g, 1, none⟩ (.bool true)).cell? ⟨g, 0, none⟩ = some (.slice a m c) := (HR.out.put (i := 1) (.bool true)).cell 0
    have d1 := (HR.out.put (i := 1) (.bool true)).froz 0
    go_enter Try.func74, Try.ntmps74
    go_upto_region 3 with fail
    refine on_W (motive := fun W => Code.wp _ _ _ _ W) (Q := fun W => Row W g #[.slice none 0 0, .bool true] 120 ∧ Exc (· = g) w W) (HP1.out _ rfl) ?_
    rintro W1 ⟨p1, p2⟩
    have HR1 := Hid.mk' p1
    have HX1 := Hid.mk' p2
    clear p1 p2 HP1 c0 c1 f0 f1 d0 d1 HR
    go_wp2_with (at_make; refine wpList_make_full _ (by rfl) _ _ 32 (by rfl) W1.heap.size 5 i0 (.int .u8 0) 1 Try.underlying32 HI.out HZ0.out HZ1.out _ _ _ _ n (by rfl) (by rfl) (by omega) (by omega) (by rw [HZ2.out]; omega) (by unfold maxLen; omega) (Nat.le_refl _) ?_; intro w1 hown hgrow)
    have HO := hown
    rw [show (Value.int .u8 0).cells = #[Value.int .u8 0] from rfl, made_bv] at HO
    have hbl : Below W1.heap.size W1 w1 := (Below.refl _ _).grown hgrow (Nat.le_refl _) (fun k hk => by cases hk)
    have HO2 := Hid.mk' HO
    have HBL := Hid.mk' hbl
    clear hown hgrow HO hbl
    go_wp2
    go_ret
    refine ⟨_, List.replicate n 0, rfl, ⟨Byt.of_own HO2.out, fun k hk => .inr (Nat.le_trans HX1.out.size (World.ownsRow.lt HO2.out k hk).1)⟩, by simp, allB_zero n, (fun e => by rw [HBT.out] at e; cases e), ⟨hbg, none, 0, 0, [], ?_, rfl, Byt.nil _, (fun x hx => by cases hx), by omega, (fun k hk => by cases hk), (fun e => by rw [HBT.out] at e; cases e)⟩, HX1.out.trans (Exc.of_below HBL.out rfl)⟩
    rw [HBT.out]
    exact HR1.out.later HBL.out HR1.out.lt
  · have hle : n ≤ m := by omega
    have hle2 : ¬ (m : Int) < (n : Int) := by omega
    have HBE : Hid (bd b L (q + n) = bd b L q) := by
      unfold Hid
      cases e : bd b L q with
      | true => exact bd_of e (by omega)
      | false =>
        have hq := bd_len e
        have e2 := HGO.out e
        have e3 : M.length = L.length - q := by rw [e2, List.length_drop]
        unfold bd at e ⊢
        simp only [Bool.or_eq_false_iff, decide_eq_false_iff_not] at e
        rw [e.1]
        have : ¬ L.length < q + n := by omega
        simp [this]
    have hs1 := sl_hm w a m c n n (Nat.le_refl _) (by omega)
    have hs2 := sl_l w a m c n hle
    have HC1 := Hid.mk' (HBY.out.cut 0 n n (Nat.zero_le _) (Nat.le_refl _) (by omega) (by rw [← hm]; exact hle))
    have HC2 : Hid (Byt w (.slice (if c = n then a else a.map (fun x => x.add n)) (m - n) (c - n)) (M.drop n)) := by
      have q := HBY.out.cut n m c hle hcap (Nat.le_refl _) (by rw [← hm]; exact Nat.le_refl _)
      rw [List.take_of_length_le (by rw [List.length_drop]; omega)] at q
      exact q
    have HA1 : Hid (∀ k, (Value.slice (if n = 0 then a else a.map (fun x => x.add 0)) n n).ownBlock = some k → k < B) := fun k hk => HOW.out k ((own_cut _ _ _ _ _ _ _).symm.trans hk)
    have HA2 : Hid (∀ k, (Value.slice (if c = n then a else a.map (fun x => x.add n)) (m - n) (c - n)).ownBlock = some k → k < B) := fun k hk => HOW.out k ((own_cut _ _ _ _ _ _ _).symm.trans hk)
    rw [List.drop_zero, Nat.sub_zero] at HC1
    obtain ⟨a1, ha1⟩ : ∃ a1, a1 = (if n = 0 then a else a.map (fun x => x.add 0)) := ⟨_, rfl⟩
    obtain ⟨a2, ha2⟩ : ∃ a2, a2 = (if c = n then a else a.map (fun x => x.add n)) := ⟨_, rfl⟩
    rw [← ha1] at hs1 HC1 HA1
    rw [← ha2] at hs2 HC2 HA2
    clear ha1 ha2 hm
    obtain ⟨bb, hbb⟩ : ∃ bb, bb = bd b L q := ⟨_, rfl⟩
    have HBB := Hid.mk' hbb
    rw [← hbb] at c1 HR
    clear hbb
    go_enter Try.func74, Try.ntmps74
    go_wp2
    go_ret
    have hx : Exc (· = g) w (w.setCell ⟨g, 0, none⟩ (.slice a2 (m - n) (c - n))) := (Exc.refl (· = g) w).set g 0 _ rfl
    have hbyt : ∀ {v : Value} {l : List Int}, Byt w v l → (∀ k, v.ownBlock = some k → k < B) → Byt (w.setCell ⟨g, 0, none⟩ (.slice a2 (m - n) (c - n))) v l := fun {v l} h ho => h.exc hx (fun k off n' c' e => by have := ho k (by rw [e]; rfl); intro q2; have q3 : k = g := q2; omega)
    refine ⟨_, M.take n, rfl, ⟨hbyt HC1.out HA1.out, fun k hk => .inl (HA1.out k hk)⟩, by have := HM.out; simp; omega, allB_take hall n, (fun e => ?_), ⟨hbg, a2, m - n, c - n, M.drop n, ?_, by have := HM.out; simp; omega, hbyt HC2.out HA2.out, allB_drop hall n, by omega, HA2.out, (fun e => ?_)⟩, hx⟩
    · rw [HBE.out] at e
      rw [HGO.out e]
    · rw [HBE.out, ← HBB.out]
      exact HR.out.put (i := 0) _
    · rw [HBE.out] at e
      rw [HGO.out e, List.drop_drop]
end Go.Proofs.Ytgblpjkpeihpeaa
