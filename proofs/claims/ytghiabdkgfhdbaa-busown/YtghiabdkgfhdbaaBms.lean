/-
  RAM of the program: run, load, store.
-/
import Derived.Test.YtghiabdkgfhdbaaBfd
import Derived.Test.YtghiabdkgfhdbaaBta
import Derived.Laws.CopyOwn
namespace Go.Proofs.Ytghiabdkgfhdbaa
set_option linter.unusedVariables false
open Go.ChangeShapes Go.WideShapes Go.ChangeAt Go.RowKit Go.Deep
theorem bv_append (l m : List Int) : bv (l ++ m) = bv l ++ bv m := by simp [bv]
theorem bv_splice (l : List Int) (k : Nat) (cs : List Int) : bv (splice l k cs) = splice (bv l) k (bv cs) := by simp [bv, splice, List.map_take, List.map_drop]
theorem splice_app {α : Type} (l r cs : List α) (k : Nat) (h : k + cs.length ≤ l.length) : splice (l ++ r) k cs = splice l k cs ++ r := by
  unfold splice
  rw [List.take_append_of_le_length (by omega), List.drop_append_of_le_length (by omega)]
  simp
theorem own_splice {w : World} {B g n cap : Nat} {l : List Int} (h : w.ownsRow B 5 1 (.slice (some ⟨g, 0, none⟩) n cap) n (bv l)) :
    ∃ cur : Array Value, w.heap[g]? = some (.cells cur 5 (0, 0)) ∧ n ≤ cur.size ∧ ∀ (k : Nat) (cs : List Int), k + cs.length ≤ n →
      (w.setRow g (cur.toList.take k ++ (bv cs ++ cur.toList.drop (k + (bv cs).length))).toArray).ownsRow B 5 1 (.slice (some ⟨g, 0, none⟩) n cap) n (bv (splice l k cs)) := by
  have hlen := h.1
  rw [bv_length, Nat.mul_one] at hlen
  rcases h.2 with ⟨h', _⟩ | ⟨g', cap', cur, h', hB, hg, hn, hm, hs, ht⟩
  · simp at h'
  · simp only [Value.slice.injEq, Option.some.injEq, Addr.mk.injEq, and_true, true_and] at h'
    obtain ⟨rfl, rfl⟩ := h'
    refine ⟨cur, hg, by omega, fun k cs hk => ?_⟩
    rw [Nat.mul_one] at ht hs
    have hc : cur.toList = bv l ++ cur.toList.drop n := by rw [← ht, List.take_append_drop]
    have hl2 : (bv l).length = n := by rw [bv_length]; exact hlen
    have e : cur.toList.take k ++ (bv cs ++ cur.toList.drop (k + (bv cs).length)) = bv (splice l k cs) ++ cur.toList.drop n := by
      rw [bv_splice, ← splice_app _ _ _ _ (by rw [bv_length, hl2]; exact hk), ← hc]; rfl
    have hsl : (splice l k cs).length = n := by rw [length_splice _ _ _ (by omega)]; exact hlen
    rw [e]
    refine ⟨by rw [bv_length, hsl, Nat.mul_one], .inr ⟨g, cap, _, rfl, hB, setRow_heap w g _ _ _ _ hg, hn, hm, ?_, ?_⟩⟩
    · have hcs : cur.toList.length = cap := by rw [Array.length_toList]; exact hs
      simp [bv_length, hsl]
      omega
    · rw [Nat.mul_one]
      simp [bv_length, hsl]
theorem byt_sub {w : World} {B g n cap : Nat} {l : List Int} (h : w.ownsRow B 5 1 (.slice (some ⟨g, 0, none⟩) n cap) n (bv l)) (k s : Nat) (hk : k + s ≤ n) : Byt w (.slice (some ⟨g, k, none⟩) s (cap - k)) ((l.drop k).take s) := by
  have hlen := h.1
  rw [bv_length, Nat.mul_one] at hlen
  have hcap : n ≤ cap := by
    rcases h.2 with ⟨h', _⟩ | ⟨g', cap', cur, h', _, _, hn, _⟩
    · simp at h'
    · simp only [Value.slice.injEq] at h'; obtain ⟨_, _, rfl⟩ := h'; exact hn
  have hl2 : ((l.drop k).take s).length = s := by simp; omega
  refine ⟨some ⟨g, k, none⟩, cap - k, by rw [hl2], by omega, (fun e => by cases e), fun _ => ⟨g, k, rfl, (h.lt g rfl).2, fun j hj => ?_⟩⟩
  rw [hl2] at hj
  rw [h.cellAt (k + j) (by omega), bv_get _ _ (by omega)]
  simp [List.getD, hj, List.getElem?_drop]
set_option maxRecDepth 100000 in
set_option maxHeartbeats 2000000 in
theorem run_c (m g n cap k s : Nat) (w : World) (hm : w.cell? ⟨m, 0, none⟩ = some (.slice (some ⟨g, 0, none⟩) n cap)) (hn : n ≤ 65536) (hc : n ≤ cap) (hk : k + s ≤ n) (hs : 0 < s) :
    Calls Try.prog 30 #[.pointer (some ⟨m, 0, none⟩), .int .u64 (2147483648 + (k : Int)), .int .i64 s] w fun e w' => e = .returned (.slice (some ⟨g, k, none⟩) s (cap - k)) ∧ w' = w := by
  have e1 : (2147483648 + (k : Int) - 2147483648) = k := by omega
  have e2 : IntKind.u64.wrap (k : Int) = k := u64_small (by omega) (by omega)
  go_enter Try.func30, Try.ntmps30
  have hne : ¬ cap = k := by omega
  go_wp2
  go_ret
  refine ⟨?_, rfl⟩
  show Ending.returned (.slice (some ⟨g, k, none⟩) (k + s - k) (cap - k)) = _
  rw [Nat.add_sub_cancel_left]
theorem own_cap {w : World} {B g n cap : Nat} {xs : List Value} (h : w.ownsRow B 5 1 (.slice (some ⟨g, 0, none⟩) n cap) n xs) : n ≤ cap := by
  rcases h.2 with ⟨h', _⟩ | ⟨g', cap', cur, h', _, _, hn, _⟩
  · simp at h'
  · simp only [Value.slice.injEq] at h'; obtain ⟨_, _, rfl⟩ := h'; exact hn
theorem memLoad_c {B m g n cap k s : Nat} {l : List Int} (w : World) (hm : w.cell? ⟨m, 0, none⟩ = some (.slice (some ⟨g, 0, none⟩) n cap)) (ho : w.ownsRow B 5 1 (.slice (some ⟨g, 0, none⟩) n cap) n (bv l)) (hb : AllB l) (hn : n ≤ 65536) (hk : k + s ≤ n) (hs : 0 < s) :
    Calls Try.prog 100 #[.pointer (some ⟨m, 0, none⟩), .int .u64 (2147483648 + (k : Int)), .int .i64 s] w fun e w' => e = .returned (.int .u64 ((tk ((l.drop k).take s) : Nat) : Int)) ∧ w' = w := by
  have hR := run_c m g n cap k s w hm hn (own_cap ho) hk hs
  have hB : AllB ((l.drop k).take s) := fun x hx => hb x (List.mem_of_mem_drop (List.mem_of_mem_take hx))
  have hT := take_any hB (by simp; omega) _ w (byt_sub ho k s hk)
  generalize ((tk ((l.drop k).take s) : Nat) : Int) = t at hT ⊢
  clear ho hb hB
  go_enter Try.func100, Try.ntmps100
  go_wp2_with (first | (go_at_call 30; refine hR.mono ?_; rintro e w1 ⟨rfl, hw⟩; have hw2 := hw.symm; subst hw2) | (go_at_call 102; refine hT.mono ?_; rintro e w1 ⟨rfl, hw⟩; have hw2 := hw.symm; subst hw2))
  go_ret
  exact ⟨rfl, rfl⟩
theorem cl_nat {s : Nat} (h : s ≤ 8) : cl s = s := by unfold cl; omega
set_option maxRecDepth 100000 in
set_option maxHeartbeats 1000000 in
theorem memStore_c {B m g n cap k s : Nat} {l : List Int} (x : BitVec 64) (w : World) (hm : w.cell? ⟨m, 0, none⟩ = some (.slice (some ⟨g, 0, none⟩) n cap)) (ho : w.ownsRow B 5 1 (.slice (some ⟨g, 0, none⟩) n cap) n (bv l)) (hn : n ≤ 65536) (hk : k + s ≤ n) (hs : 0 < s) (h8 : s ≤ 8) :
    Calls Try.prog 101 #[.pointer (some ⟨m, 0, none⟩), .int .u64 (2147483648 + (k : Int)), .int .i64 s, .int .u64 (n64 x)] w fun e w' => e = .returned (.tuple #[]) ∧ w'.ownsRow B 5 1 (.slice (some ⟨g, 0, none⟩) n cap) n (bv (splice l k (ptL x.toNat s))) ∧ Exc (· = g) w w' := by
  have hR := run_c m g n cap k s w hm hn (own_cap ho) hk hs
  have hP := put_any x s w
  rw [cl_nat h8] at hP
  have HO : Hid (w.ownsRow B 5 1 (.slice (some ⟨g, 0, none⟩) n cap) n (bv l)) := ho
  have HS : Hid (∀ w1, Below w.heap.size w w1 → ∃ cur : Array Value, w1.heap[g]? = some (.cells cur 5 (0, 0)) ∧ n ≤ cur.size ∧ (w1.setRow g (cur.toList.take k ++ (bv (ptL x.toNat s) ++ cur.toList.drop (k + (bv (ptL x.toNat s)).length))).toArray).ownsRow B 5 1 (.slice (some ⟨g, 0, none⟩) n cap) n (bv (splice l k (ptL x.toNat s)))) := fun w1 hb => by
    obtain ⟨cur, h1, h2, h3⟩ := own_splice (own_later ho hb rfl)
    exact ⟨cur, h1, h2, h3 k _ (by rw [ptL_length]; exact hk)⟩
  clear ho
  obtain ⟨cs, hcs⟩ : ∃ cs, cs = bv (ptL x.toNat s) := ⟨_, rfl⟩
  have hcl : cs.length = s := by rw [hcs, bv_length, ptL_length]
  have hone : ∀ v ∈ cs, v.oneCell' = true := by intro v hv; rw [hcs] at hv; simp [bv] at hv; obtain ⟨q, _, rfl⟩ := hv; rfl
  rw [← hcs] at hP HS
  have HF : Hid (bv (splice l k (ptL x.toNat s)) = bv (splice l k (ptL x.toNat s))) := rfl
  generalize bv (splice l k (ptL x.toNat s)) = fin at HS ⊢
  have HL : Hid (cs.length = s) := hcl
  have HN1 : Hid (∀ v ∈ cs, v.oneCell' = true) := hone
  have HK : Hid (k + s ≤ n) := hk
  have u8size : (Try.prog.info? 5).map (·.size) = some 1 := by kernel_rfl
  clear hcs hcl hone HF
  go_enter Try.func101, Try.ntmps101
  go_wp2_with (first | (go_at_call 30; refine hR.mono ?_; rintro e w1 ⟨rfl, hw⟩; have hw2 := hw.symm; subst hw2) | (go_at_call 103; refine hP.mono ?_; rintro e w1 ⟨rfl, hown, hbel⟩; obtain ⟨cur, hc1, hc2, hc3⟩ := HS.out w1 hbel; have HC1 : Hid _ := hc1; have HC2 : Hid _ := hc2; have HC3 : Hid _ := hc3; have HW1 : Hid _ := hown; have HB1 : Hid _ := hbel; clear hc1 hc2 hc3 hown hbel) | (refine wpList_copy_own (by rfl) _ _ _ _ (by rfl) 5 Try.underlying22 u8size g k s (cap - k) ⟨w.heap.size, 0, none⟩ s s (by rfl) (by rfl) cur 5 HC1.out cs (by rw [HL.out]; exact (Nat.min_self s).symm) (fun j v hj => World.ownsRow.cells (v := .slice (some ⟨w.heap.size, 0, none⟩) s s) HW1.out rfl j v hj) (by rw [HL.out]; exact Nat.le_trans HK.out HC2.out) HN1.out ?_))
  go_end0
  refine ⟨rfl, HC3.out, ?_⟩
  exact (Exc.of_below HB1.out rfl).trans ⟨rfl, rfl, rfl, by simp [World.setRow], fun k hk hs => setRow_other w1 _ _ k hs⟩
end Go.Proofs.Ytghiabdkgfhdbaa
