/-
  The reference: the loops that append a bit a round.
-/
import Derived.Test.YthnjppfgdkiaaacRef4
namespace Go.Proofs.Ythnjppfgdkiaaac
open Go.ChangeShapes Go.WideShapes Go.ChangeAt Go.RowKit

/-- One int appended in a loop's round: what the relation says next. -/
theorem mk_next {w wr w1 : World} {B : Nat} {v' : Value} {f : Nat → Int} {k : Nat} {e : TypeId} {b : Int} (hf : f k = b) (hw : B = w.heap.size) (hb : Below B w wr) (h1 : w1.ownsRow B e 1 v' (mk f k ++ [b]).length ((mk f k ++ [b]).map (Value.int .i64))) (h2 : Below B wr w1) :
    w1.ownsRow B e 1 v' (mk f (k + 1)).length ((mk f (k + 1)).map (Value.int .i64)) ∧ Below B w w1 ∧ B ≤ w1.heap.size := by
  rw [mk_succ, hf]; exact ⟨h1, hb.trans h2, by rw [hw]; exact (hb.trans h2).size⟩
def wf (A n : Nat) (t : Int) (j : Nat) : Int := if j < n then bt A j else t

set_option maxHeartbeats 1000000 in
theorem widen_false (A n m : Nat) (hn0 : 0 < n) (hm0 : 0 < m) (hn : n ≤ 200) (hm : m ≤ 200) (va : Value) (w : World) (la : Lst w va (bl A n)) :
    Calls Try.prog 28 #[va, .int .i64 (m : Int), .bool false] w fun e w' => ∃ v, e = .returned v ∧ Lst w' v (mk (wf A n (0)) m) ∧ Below w.heap.size w w' := by
  obtain ⟨B, hB⟩ : ∃ B, B = w.heap.size := ⟨_, rfl⟩
  obtain ⟨g, off, cap, rfl, h1, h2, h3⟩ := la
  rw [bl_length] at h1 h3
  rw [bl_length]
  have htop := h3 (n - 1) (by omega)
  rw [bl_get _ _ _ (by omega)] at htop
  have hl0 : (0 : Int) < (n : Int) := by omega
  have hl9 : ((n : Int) - 1).toNat = n - 1 := by omega
  go_enter Try.func28, Try.ntmps28
  go_wp2
  clear htop hl9
  go_loopw [7, 9] (fun v i wr => ∃ k : Nat, k ≤ m ∧ i = .int .i64 k ∧ wr.ownsRow B 3 1 v (mk (wf A n (0)) k).length ((mk (wf A n (0)) k).map (Value.int .i64)) ∧ Below B w wr ∧ B ≤ wr.heap.size) (fun _ i _ => m - (intOf i).toNat)
  case atStart => exact ⟨0, Nat.zero_le _, rfl, World.ownsRow_nil _ _ _ _, Below.refl _ _, by omega⟩
  case round =>
    obtain ⟨k, hk, rfl, hown, hbel, hsz⟩ := hrel
    have H : Hid (B = w.heap.size) := hB
    have Hb : Hid (Below B w wr) := hbel
    have Ho : Hid (wr.ownsRow B 3 1 u7 (mk (wf A n (0)) k).length ((mk (wf A n (0)) k).map (Value.int .i64))) := hown
    clear hB hbel hown
    by_cases hlt : k < m
    · have hl1 : (0 : Int) ≤ (k : Int) := by omega
      have hl2 : (k : Int) < (m : Int) := by omega
      have hlen : (mk (wf A n (0)) k).length ≤ 1000 := by rw [mk_length]; omega
      by_cases hin : k < n
      · have ha := (Hb.out.cell (p := ⟨g, off + k, none⟩) (by rw [H.out]; exact h2)).trans (h3 k hin)
        rw [bl_get _ _ _ hin] at ha
        have hf : Hid (wf A n (0) k = bt A k) := by show wf A n _ k = bt A k; unfold wf; rw [if_pos hin]
        have hl3 : (k : Int) < (n : Int) := by omega
        clear h3
        go_wp2_with (at_builtin; refine app1 (by rfl) _ _ (by rfl) B _ (mk (wf A n (0)) k) (bt A k) (by rfl) Ho.out (by rfl) hlen hsz ?_; intro v' w1 hown1 hbel1)
        have R := mk_next (f := wf A n (0)) hf.out H.out Hb.out hown1 hbel1
        have HR := Hid.out (p := Hid _) (show Hid (Hid _) from R)
        clear hown1 hbel1 R
        go_wp2
        go_roundw
        case rel => exact ⟨k + 1, by omega, by go_num, HR.out.1, HR.out.2.1, HR.out.2.2⟩
        case measure => simp [intOf]; omega
      · have hf : Hid (wf A n (0) k = 0) := by show wf A n _ k = _; unfold wf; rw [if_neg hin]
        have hl3 : (n : Int) ≤ (k : Int) := by omega
        clear h3
        go_wp2_with (at_builtin; refine app1 (by rfl) _ _ (by rfl) B _ (mk (wf A n (0)) k) (0) (by rfl) Ho.out (by rfl) hlen hsz ?_; intro v' w1 hown1 hbel1)
        have R := mk_next (f := wf A n (0)) hf.out H.out Hb.out hown1 hbel1
        have HR := Hid.out (p := Hid _) (show Hid (Hid _) from R)
        clear hown1 hbel1 R
        go_wp2
        go_roundw
        case rel => exact ⟨k + 1, by omega, by go_num, HR.out.1, HR.out.2.1, HR.out.2.2⟩
        case measure => simp [intOf]; omega
    · have hl2 : (m : Int) ≤ (k : Int) := by omega
      have hkn : k = m := by omega
      subst hkn
      clear h3
      go_wp2
      go_ret
      exact ⟨_, rfl, Lst.of_own Ho.out (by rw [mk_length]; omega), H.out ▸ Hb.out⟩

set_option maxHeartbeats 1000000 in
theorem widen_true (A n m : Nat) (hn0 : 0 < n) (hm0 : 0 < m) (hn : n ≤ 200) (hm : m ≤ 200) (va : Value) (w : World) (la : Lst w va (bl A n)) :
    Calls Try.prog 28 #[va, .int .i64 (m : Int), .bool true] w fun e w' => ∃ v, e = .returned v ∧ Lst w' v (mk (wf A n (bt A (n - 1))) m) ∧ Below w.heap.size w w' := by
  obtain ⟨B, hB⟩ : ∃ B, B = w.heap.size := ⟨_, rfl⟩
  obtain ⟨g, off, cap, rfl, h1, h2, h3⟩ := la
  rw [bl_length] at h1 h3
  rw [bl_length]
  have htop := h3 (n - 1) (by omega)
  rw [bl_get _ _ _ (by omega)] at htop
  have hl0 : (0 : Int) < (n : Int) := by omega
  have hl9 : ((n : Int) - 1).toNat = n - 1 := by omega
  go_enter Try.func28, Try.ntmps28
  go_wp2
  clear htop hl9
  go_loopw [7, 9] (fun v i wr => ∃ k : Nat, k ≤ m ∧ i = .int .i64 k ∧ wr.ownsRow B 3 1 v (mk (wf A n (bt A (n - 1))) k).length ((mk (wf A n (bt A (n - 1))) k).map (Value.int .i64)) ∧ Below B w wr ∧ B ≤ wr.heap.size) (fun _ i _ => m - (intOf i).toNat)
  case atStart => exact ⟨0, Nat.zero_le _, rfl, World.ownsRow_nil _ _ _ _, Below.refl _ _, by omega⟩
  case round =>
    obtain ⟨k, hk, rfl, hown, hbel, hsz⟩ := hrel
    have H : Hid (B = w.heap.size) := hB
    have Hb : Hid (Below B w wr) := hbel
    have Ho : Hid (wr.ownsRow B 3 1 u7 (mk (wf A n (bt A (n - 1))) k).length ((mk (wf A n (bt A (n - 1))) k).map (Value.int .i64))) := hown
    clear hB hbel hown
    by_cases hlt : k < m
    · have hl1 : (0 : Int) ≤ (k : Int) := by omega
      have hl2 : (k : Int) < (m : Int) := by omega
      have hlen : (mk (wf A n (bt A (n - 1))) k).length ≤ 1000 := by rw [mk_length]; omega
      by_cases hin : k < n
      · have ha := (Hb.out.cell (p := ⟨g, off + k, none⟩) (by rw [H.out]; exact h2)).trans (h3 k hin)
        rw [bl_get _ _ _ hin] at ha
        have hf : Hid (wf A n (bt A (n - 1)) k = bt A k) := by show wf A n _ k = bt A k; unfold wf; rw [if_pos hin]
        have hl3 : (k : Int) < (n : Int) := by omega
        clear h3
        go_wp2_with (at_builtin; refine app1 (by rfl) _ _ (by rfl) B _ (mk (wf A n (bt A (n - 1))) k) (bt A k) (by rfl) Ho.out (by rfl) hlen hsz ?_; intro v' w1 hown1 hbel1)
        have R := mk_next (f := wf A n (bt A (n - 1))) hf.out H.out Hb.out hown1 hbel1
        have HR := Hid.out (p := Hid _) (show Hid (Hid _) from R)
        clear hown1 hbel1 R
        go_wp2
        go_roundw
        case rel => exact ⟨k + 1, by omega, by go_num, HR.out.1, HR.out.2.1, HR.out.2.2⟩
        case measure => simp [intOf]; omega
      · have hf : Hid (wf A n (bt A (n - 1)) k = bt A (n - 1)) := by show wf A n _ k = _; unfold wf; rw [if_neg hin]
        have hl3 : (n : Int) ≤ (k : Int) := by omega
        clear h3
        go_wp2_with (at_builtin; refine app1 (by rfl) _ _ (by rfl) B _ (mk (wf A n (bt A (n - 1))) k) (bt A (n - 1)) (by rfl) Ho.out (by rfl) hlen hsz ?_; intro v' w1 hown1 hbel1)
        have R := mk_next (f := wf A n (bt A (n - 1))) hf.out H.out Hb.out hown1 hbel1
        have HR := Hid.out (p := Hid _) (show Hid (Hid _) from R)
        clear hown1 hbel1 R
        go_wp2
        go_roundw
        case rel => exact ⟨k + 1, by omega, by go_num, HR.out.1, HR.out.2.1, HR.out.2.2⟩
        case measure => simp [intOf]; omega
    · have hl2 : (m : Int) ≤ (k : Int) := by omega
      have hkn : k = m := by omega
      subst hkn
      clear h3
      go_wp2
      go_ret
      exact ⟨_, rfl, Lst.of_own Ho.out (by rw [mk_length]; omega), H.out ▸ Hb.out⟩

/-- The carry into bit k. -/
def cy (A B c k : Nat) : Int := (((A % 2 ^ k + B % 2 ^ k + c) / 2 ^ k : Nat) : Int)
theorem cy_hi (A B c k : Nat) (hc : c ≤ 1) : cy A B c k ≤ 1 := by
  unfold cy
  have h1 := Nat.mod_lt A (Nat.two_pow_pos k)
  have h2 := Nat.mod_lt B (Nat.two_pow_pos k)
  have h3 : (A % 2 ^ k + B % 2 ^ k + c) / 2 ^ k < 2 := by rw [Nat.div_lt_iff_lt_mul (Nat.two_pow_pos k)]; omega
  omega
theorem cy_lo (A B c k : Nat) : 0 ≤ cy A B c k := Int.natCast_nonneg _
theorem plus_step (A B c k : Nat) : ∃ s : Nat, bt A k + bt B k + cy A B c k = s ∧ ((s % 2 : Nat) : Int) = bt (A + B + c) k ∧ ((s / 2 : Nat) : Int) = cy A B c (k + 1) := by
  refine ⟨A / 2 ^ k % 2 + B / 2 ^ k % 2 + (A % 2 ^ k + B % 2 ^ k + c) / 2 ^ k, by unfold bt cy; omega, ?_, ?_⟩
  · unfold bt
    have h : (A + B + c) / 2 ^ k = A / 2 ^ k + B / 2 ^ k + (A % 2 ^ k + B % 2 ^ k + c) / 2 ^ k := by
      have ha := Nat.div_add_mod A (2 ^ k); have hb := Nat.div_add_mod B (2 ^ k)
      have : A + B + c = (A % 2 ^ k + B % 2 ^ k + c) + 2 ^ k * (A / 2 ^ k + B / 2 ^ k) := by rw [Nat.mul_add]; omega
      rw [this, Nat.add_mul_div_left _ _ (Nat.two_pow_pos k)]; omega
    rw [h]; omega
  · unfold cy
    have h : (A % 2 ^ (k + 1) + B % 2 ^ (k + 1) + c) / 2 ^ k = A / 2 ^ k % 2 + B / 2 ^ k % 2 + (A % 2 ^ k + B % 2 ^ k + c) / 2 ^ k := by
      rw [Nat.mod_pow_succ, Nat.mod_pow_succ]
      have : A % 2 ^ k + 2 ^ k * (A / 2 ^ k % 2) + (B % 2 ^ k + 2 ^ k * (B / 2 ^ k % 2)) + c = (A % 2 ^ k + B % 2 ^ k + c) + 2 ^ k * (A / 2 ^ k % 2 + B / 2 ^ k % 2) := by rw [Nat.mul_add]; omega
      rw [this, Nat.add_mul_div_left _ _ (Nat.two_pow_pos k)]; omega
    rw [Nat.pow_succ, ← Nat.div_div_eq_div_mul, ← Nat.pow_succ, h]

set_option maxHeartbeats 1000000 in
theorem plus_any (A Bn c n : Nat) (hn0 : 0 < n) (hn : n ≤ 200) (hc : c ≤ 1) (va vb : Value) (w : World) (la : Lst w va (bl A n)) (lb : Lst w vb (bl Bn n)) :
    Calls Try.prog 69 #[va, vb, .int .i64 (c : Int)] w fun e w' => ∃ v, e = .returned v ∧ Lst w' v (bl (A + Bn + c) n) ∧ Below w.heap.size w w' := by
  obtain ⟨B, hB⟩ : ∃ B, B = w.heap.size := ⟨_, rfl⟩
  obtain ⟨g, off, cap, rfl, h1, h2, h3⟩ := la
  obtain ⟨g', off', cap', rfl, h1', h2', h3'⟩ := lb
  rw [bl_length] at h1 h3 h1' h3'
  rw [bl_length, bl_length]
  go_enter Try.func69, Try.ntmps69
  go_wp2
  go_loopw [2, 7, 8] (fun q v i wr => ∃ k : Nat, k ≤ n ∧ i = .int .i64 k ∧ wr.ownsRow B 3 1 v (mk (bt (A + Bn + c)) k).length ((mk (bt (A + Bn + c)) k).map (Value.int .i64)) ∧ Below B w wr ∧ B ≤ wr.heap.size ∧ q = .int .i64 (cy A Bn c k)) (fun _ _ i _ => n - (intOf i).toNat)
  case atStart => exact ⟨0, Nat.zero_le _, rfl, World.ownsRow_nil _ _ _ _, Below.refl _ _, by omega, by unfold cy; simp [Nat.mod_one]⟩
  case round =>
    obtain ⟨k, hk, rfl, hown, hbel, hsz, rfl⟩ := hrel
    have H : Hid (B = w.heap.size) := hB
    have Hb : Hid (Below B w wr) := hbel
    have Ho : Hid (wr.ownsRow B 3 1 u7 (mk (bt (A + Bn + c)) k).length ((mk (bt (A + Bn + c)) k).map (Value.int .i64))) := hown
    clear hB hbel hown
    by_cases hlt : k < n
    · have hl1 : (0 : Int) ≤ (k : Int) := by omega
      have hl2 : (k : Int) < (n : Int) := by omega
      have hlen : (mk (bt (A + Bn + c)) k).length ≤ 1000 := by rw [mk_length]; omega
      have ha := (Hb.out.cell (p := ⟨g, off + k, none⟩) (by rw [H.out]; exact h2)).trans (h3 k hlt)
      have hb := (Hb.out.cell (p := ⟨g', off' + k, none⟩) (by rw [H.out]; exact h2')).trans (h3' k hlt)
      rw [bl_get _ _ _ hlt] at ha hb
      obtain ⟨s, e1, e2, e3⟩ := plus_step A Bn c k
      have b1 := bt_lo A k; have b2 := bt_hi A k; have b3 := bt_lo Bn k; have b4 := bt_hi Bn k; have b5 := cy_lo A Bn c k; have b6 := cy_hi A Bn c k hc
      have r1 : (bt A k + bt Bn k + cy A Bn c k) % 2 = bt (A + Bn + c) k := by rw [e1, ← e2]; omega
      have r2 : (bt A k + bt Bn k + cy A Bn c k) / 2 = cy A Bn c (k + 1) := by rw [e1, ← e3]; omega
      clear h3 h3' e1 e2 e3
      go_wp2_with fail
      go_quiet (fail)
      have Ho2 : Hid ((wr.drewN nq).ownsRow B 3 1 u7 (mk (bt (A + Bn + c)) k).length ((mk (bt (A + Bn + c)) k).map (Value.int .i64))) := Ho.out
      have Hb2 : Hid (Below B w (wr.drewN nq)) := below_drewN Hb.out _
      have hsz2 : B ≤ (wr.drewN nq).heap.size := hsz
      clear Ho Hb hsz ha hb
      generalize wr.drewN nq = w0 at *
      go_wp2_with (at_builtin; refine app1 (by rfl) _ _ (by rfl) B _ (mk (bt (A + Bn + c)) k) (bt (A + Bn + c) k) (by rfl) Ho2.out (by rfl) hlen hsz2 ?_; intro v' w1 hown1 hbel1)
      have R := mk_next (f := bt (A + Bn + c)) rfl H.out Hb2.out hown1 hbel1
      have HR := Hid.out (p := Hid _) (show Hid (Hid _) from R)
      clear hown1 hbel1 R
      go_wp2
      go_roundw
      case rel => exact ⟨k + 1, by omega, by go_num, HR.out.1, HR.out.2.1, HR.out.2.2, congrArg (Value.int .i64) r2⟩
      case measure => simp [intOf]; omega
    · have hl2 : (n : Int) ≤ (k : Int) := by omega
      have hkn : k = n := by omega
      subst hkn
      clear h3 h3'
      go_wp2
      go_ret
      exact ⟨_, rfl, Lst.of_own (l := bl (A + Bn + c) k) Ho.out (by rw [bl_length]; omega), H.out ▸ Hb.out⟩
end Go.Proofs.Ythnjppfgdkiaaac
