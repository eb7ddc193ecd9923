/-
  The reference: lists of bits in memory; Split.
-/
import Derived.Test.YthnjppfgdkiaaacLeaf
namespace Go.Proofs.Ythnjppfgdkiaaac
open Go.ChangeShapes Go.WideShapes Go.ChangeAt Go.RowKit

/-- The lowest n bits of a number, the lowest first. -/
def bt (N i : Nat) : Int := ((N / 2 ^ i % 2 : Nat) : Int)
def bl (N n : Nat) : List Int := (List.range n).map (bt N)
theorem bl_length (N n : Nat) : (bl N n).length = n := by simp [bl]
theorem bl_succ (N n : Nat) : bl N (n + 1) = bl N n ++ [bt N n] := by simp [bl, List.range_succ]
theorem bl_get (N n j : Nat) (h : j < n) : (bl N n).getD j 0 = bt N j := by
  simp [bl, h]

/-- A list of ints in memory. -/
def Lst (w : World) (v : Value) (l : List Int) : Prop :=
  ∃ g off cap, v = .slice (some ⟨g, off, none⟩) l.length cap ∧ l.length ≤ cap ∧ g < w.heap.size ∧ ∀ j, j < l.length → w.cell? ⟨g, off + j, none⟩ = some (.int .i64 (l.getD j 0))
theorem Lst.later {w w' : World} {v : Value} {l : List Int} (h : Lst w v l) (hb : Below w.heap.size w w') : Lst w' v l := by
  obtain ⟨g, off, cap, rfl, h1, h2, h3⟩ := h
  exact ⟨g, off, cap, rfl, h1, Nat.lt_of_lt_of_le h2 hb.size, fun j hj => by rw [hb.cell (by exact h2)]; exact h3 j hj⟩
theorem addr_add (g j : Nat) : (⟨g, 0, none⟩ : Addr).add j = ⟨g, 0 + j, none⟩ := by unfold Addr.add; split <;> simp_all
theorem Lst.of_own {w : World} {B : Nat} {e : TypeId} {v : Value} {l : List Int} (h : w.ownsRow B e 1 v l.length (l.map (Value.int .i64))) (hl : 0 < l.length) : Lst w v l := by
  have hlt := h.lt
  have h0 := h
  obtain ⟨_, h | ⟨g, cap, cur, rfl, hg, hh, hn, hm, hs, ht⟩⟩ := h
  · omega
  · refine ⟨g, 0, cap, rfl, hn, (hlt g rfl).2, fun j hj => ?_⟩
    have := h0.cells (g := g) rfl j (.int .i64 (l.getD j 0)) (by simp [hj])
    rw [addr_add] at this; exact this

theorem info3 : (Try.prog.info? 3).map (fun i => (i.zero, i.size, i.bytes)) = some (some (.int .i64 0), 1, 8) := by kernel_rfl

/-- One int appended to a row of the call's own. -/
theorem app1 {ops : Array Oper} {rest : List Oper} {o : Oper} {a : Act} {w : World} {Q : Exit → Act → World → Prop} (hgd : o.guard = none) (s x : Operand) (ho : o.op = .call { callee := .builtin .append, args := #[s, x], argTypes := #[28, 28] })
    (B : Nat) (v : Value) (l : List Int) (b : Int) (hs : a.eval s = v) (hown : w.ownsRow B 3 1 v l.length (l.map (Value.int .i64))) (hx : a.eval x = .slice (some ⟨w.heap.size, 0, none⟩) 1 1) (hl : l.length ≤ 1000) (hB : B ≤ w.heap.size)
    (h : ∀ v' w', w'.ownsRow B 3 1 v' (l ++ [b]).length ((l ++ [b]).map (Value.int .i64)) → Below B w w' → wpList Try.prog ops Q rest (a.put o.dst v') w') :
    wpList Try.prog ops Q (o :: rest) a (w.alloc (.cells #[.int .i64 b] 3)) := by
  obtain ⟨i0, hi, hz0, hz1, hz2⟩ := info_parts info3
  refine wpList_append_own _ hgd s x 28 ho B 3 i0 (.int .i64 0) 1 8 Try.underlying28 hi hz0 hz1 hz2 rfl (by decide) v l.length (l.map (Value.int .i64)) hs (hown.alloc _) ⟨w.heap.size, 0, none⟩ 1 1 [.int .i64 b] hx rfl ?_ ?_ (by unfold maxLen; omega) (by omega) (by simp; omega) ?_
  · intro j u hj
    match j, hj with
    | 0, hj => simp at hj; subst hj; simp [Addr.add]
  · intro u hu; simp at hu; subst hu; rfl
  · intro v' w' h1 h2 _
    refine h v' w' ?_ ?_
    · simpa using h1
    · exact ((Below.refl _ _).alloc hB _).grown h2 (by simp; omega) (fun k hk => (hown.lt k hk).1)

theorem bit_and (x : BitVec 64) (k : Nat) : bits .and .u64 (n64 x / 2 ^ k) 1 = bt x.toNat k := by
  rw [n64_shr]
  have h := n64_and (x >>> k) 1#64
  rw [show n64 1#64 = 1 from rfl] at h
  rw [h]; unfold n64
  rw [BitVec.toNat_and, BitVec.toNat_ushiftRight, Nat.shiftRight_eq_div_pow]
  show ((x.toNat / 2 ^ k &&& 1 : Nat) : Int) = _
  rw [Nat.and_one_is_mod]; rfl
theorem bt_cases (N k : Nat) : bt N k = 0 ∨ bt N k = 1 := by unfold bt; omega

set_option maxHeartbeats 1000000 in
theorem split_any (x : BitVec 64) (n : Nat) (hn0 : 0 < n) (hn : n ≤ 64) (w : World) :
    Calls Try.prog 26 #[.int .u64 (n64 x), .int .i64 (n : Int)] w fun e w' => ∃ v, e = .returned v ∧ Lst w' v (bl x.toNat n) ∧ Below w.heap.size w w' := by
  obtain ⟨B, hB⟩ : ∃ B, B = w.heap.size := ⟨_, rfl⟩
  have hx0 := n64_lo x
  go_enter Try.func26, Try.ntmps26
  go_wp2
  go_loopw [5, 6] (fun v i wr => ∃ k : Nat, k ≤ n ∧ i = .int .i64 k ∧ wr.ownsRow B 3 1 v (bl x.toNat k).length ((bl x.toNat k).map (Value.int .i64)) ∧ Below B w wr ∧ B ≤ wr.heap.size) (fun _ i _ => n - (intOf i).toNat)
  case atStart => exact ⟨0, Nat.zero_le _, rfl, World.ownsRow_nil _ _ _ _, Below.refl _ _, by omega⟩
  case round =>
    obtain ⟨k, hk, rfl, hown, hbel, hsz⟩ := hrel
    have H : Hid (B = w.heap.size) := hB
    have Hb : Hid (Below B w wr) := hbel
    have Ho : Hid (wr.ownsRow B 3 1 u5 (bl x.toNat k).length ((bl x.toNat k).map (Value.int .i64))) := hown
    clear hB hbel hown
    by_cases hlt : k < n
    · have h64 : (k : Int) < 64 := by omega
      have hl2 : (k : Int) < (n : Int) := by omega
      have hlen : (bl x.toNat k).length ≤ 1000 := by rw [bl_length]; omega
      have hb := bit_and x k
      have hs := bl_succ x.toNat k
      rcases bt_cases x.toNat k with h0 | h0
      · rw [h0] at hb hs
        have t0 : (bits .and .u64 (n64 x / 2 ^ k) 1 == 1) = false := by rw [hb]; rfl
        have HS : Hid (bl x.toNat (k + 1) = bl x.toNat k ++ [0]) := hs
        clear hb hs h0
        go_wp2_with (at_builtin; refine app1 (by rfl) _ _ (by rfl) B _ (bl x.toNat k) 0 (by rfl) Ho.out (by rfl) hlen hsz ?_; intro v' w1 hown1 hbel1)
        have R1 := HS.out ▸ hown1
        have R2 := Hb.out.trans hbel1
        clear hown1 hbel1
        have HR1 : Hid (w1.ownsRow B 3 1 v' (bl x.toNat (k + 1)).length ((bl x.toNat (k + 1)).map (Value.int .i64))) := R1
        have HR2 : Hid (Below B w w1) := R2
        clear R1 R2
        go_wp2
        go_roundw
        case rel => exact ⟨k + 1, by omega, by go_num, HR1.out, HR2.out, Nat.le_trans (by rw [H.out]; exact Nat.le_refl _) HR2.out.size⟩
        case measure => simp [intOf]; omega
      · rw [h0] at hb hs
        have t0 : (bits .and .u64 (n64 x / 2 ^ k) 1 == 1) = true := by rw [hb]; rfl
        have HS : Hid (bl x.toNat (k + 1) = bl x.toNat k ++ [1]) := hs
        clear hb hs h0
        go_wp2_with (at_builtin; refine app1 (by rfl) _ _ (by rfl) B _ (bl x.toNat k) 1 (by rfl) Ho.out (by rfl) hlen hsz ?_; intro v' w1 hown1 hbel1)
        have R1 := HS.out ▸ hown1
        have R2 := Hb.out.trans hbel1
        clear hown1 hbel1
        have HR1 : Hid (w1.ownsRow B 3 1 v' (bl x.toNat (k + 1)).length ((bl x.toNat (k + 1)).map (Value.int .i64))) := R1
        have HR2 : Hid (Below B w w1) := R2
        clear R1 R2
        go_wp2
        go_roundw
        case rel => exact ⟨k + 1, by omega, by go_num, HR1.out, HR2.out, Nat.le_trans (by rw [H.out]; exact Nat.le_refl _) HR2.out.size⟩
        case measure => simp [intOf]; omega
    · have hl2 : (n : Int) ≤ (k : Int) := by omega
      have hkn : k = n := by omega
      subst hkn
      go_wp2
      go_ret
      exact ⟨_, rfl, Lst.of_own Ho.out (by rw [bl_length]; omega), H.out ▸ Hb.out⟩
end Go.Proofs.Ythnjppfgdkiaaac
