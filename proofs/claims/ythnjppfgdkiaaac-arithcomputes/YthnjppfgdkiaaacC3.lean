/-
  The reference: divided.
-/
import Derived.Test.YthnjppfgdkiaaacC2
namespace Go.Proofs.Ythnjppfgdkiaaac
open Go.ChangeShapes Go.WideShapes Go.ChangeAt Go.RowKit
/-- A slice in a block from B on. -/
def Frs (B : Nat) (v : Value) : Prop := ∃ g off n cap, v = .slice (some ⟨g, off, none⟩) n cap ∧ B ≤ g
theorem Frs.of_own {w : World} {B : Nat} {e : TypeId} {v : Value} {l : List Int} (h : w.ownsRow B e 1 v l.length (l.map (Value.int .i64))) (hl : 0 < l.length) : Frs B v := by
  obtain ⟨_, h | ⟨g, cap, cur, rfl, hg, _⟩⟩ := h
  · omega
  · exact ⟨g, 0, _, cap, rfl, hg⟩
theorem Frs.mono {B B' : Nat} {v : Value} (h : Frs B v) (hb : B' ≤ B) : Frs B' v := by
  obtain ⟨g, off, n, cap, rfl, hg⟩ := h; exact ⟨g, off, n, cap, rfl, Nat.le_trans hb hg⟩
theorem Lst.set {w : World} {v : Value} {l : List Int} {b i : Nat} {x : Value} (h : Lst w v l) (hf : Frs (b + 1) v) : Lst (w.setCell ⟨b, i, none⟩ x) v l := by
  obtain ⟨g, off, cap, rfl, h1, h2, h3⟩ := h
  obtain ⟨g', off', n', cap', he, hg⟩ := hf
  simp only [Value.slice.injEq, Option.some.injEq, Addr.mk.injEq] at he
  refine ⟨g, off, cap, rfl, h1, by simpa using h2, fun j hj => ?_⟩
  rw [World.cell?_of_block (w := w) (Below.heap_setCell w _ _ _ (by show g ≠ b; omega))]; exact h3 j hj
theorem Lst.set_lt {w : World} {v : Value} {l : List Int} {b i : Nat} {x : Value} (h : Lst w v l) (hf : ∃ g off n cap, v = .slice (some ⟨g, off, none⟩) n cap ∧ g < b) : Lst (w.setCell ⟨b, i, none⟩ x) v l := by
  obtain ⟨g, off, cap, rfl, h1, h2, h3⟩ := h
  obtain ⟨g', off', n', cap', he, hg⟩ := hf
  simp only [Value.slice.injEq, Option.some.injEq, Addr.mk.injEq] at he
  refine ⟨g, off, cap, rfl, h1, by simpa using h2, fun j hj => ?_⟩
  rw [World.cell?_of_block (w := w) (Below.heap_setCell w _ _ _ (by show g ≠ b; omega))]; exact h3 j hj

set_option maxHeartbeats 1000000 in
theorem plus_f (A Bn c n : Nat) (hn0 : 0 < n) (hn : n ≤ 200) (hc : c ≤ 1) (va vb : Value) (w : World) (la : Lst w va (bl A n)) (lb : Lst w vb (bl Bn n)) :
    Calls Try.prog 69 #[va, vb, .int .i64 (c : Int)] w fun e w' => ∃ v, e = .returned v ∧ Lst w' v (bl (A + Bn + c) n) ∧ Below w.heap.size w w' ∧ Frs w.heap.size v := by
  obtain ⟨B, hB⟩ : ∃ B, B = w.heap.size := ⟨_, rfl⟩
  obtain ⟨g, off, cap, rfl, h1, h2, h3⟩ := la
  obtain ⟨g', off', cap', rfl, h1', h2', h3'⟩ := lb
  rw [bl_length] at h1 h3 h1' h3'
  rw [bl_length, bl_length]
  go_enter Try.func69, Try.ntmps69
  go_wp2
  go_loopw [2, 7, 8] (fun q v i wr => ∃ k : Nat, k ≤ n ∧ i = .int .i64 k ∧ wr.ownsRow B 3 1 v (mk (bt (A + Bn + c)) k).length ((mk (bt (A + Bn + c)) k).map (Value.int .i64)) ∧ Below B w wr ∧ B ≤ wr.heap.size ∧ q = .int .i64 (cy A Bn c k)) (fun _ _ i _ => n - (intOf i).toNat)
  case atStart => exact ⟨0, Nat.zero_le _, rfl, World.ownsRow_nil _ _ _ _, Below.refl _ _, by omega, by unfold cy; simp [Nat.mod_one]⟩
  case round =>
    obtain ⟨k, hk, rfl, hown, hbel, hsz, rfl⟩ := hrel
    have H : Hid (B = w.heap.size) := hB
    have Hb : Hid (Below B w wr) := hbel
    have Ho : Hid (wr.ownsRow B 3 1 u7 (mk (bt (A + Bn + c)) k).length ((mk (bt (A + Bn + c)) k).map (Value.int .i64))) := hown
    clear hB hbel hown
    by_cases hlt : k < n
    · have hl1 : (0 : Int) ≤ (k : Int) := by omega
      have hl2 : (k : Int) < (n : Int) := by omega
      have hlen : (mk (bt (A + Bn + c)) k).length ≤ 1000 := by rw [mk_length]; omega
      have ha := (Hb.out.cell (p := ⟨g, off + k, none⟩) (by rw [H.out]; exact h2)).trans (h3 k hlt)
      have hb := (Hb.out.cell (p := ⟨g', off' + k, none⟩) (by rw [H.out]; exact h2')).trans (h3' k hlt)
      rw [bl_get _ _ _ hlt] at ha hb
      obtain ⟨s, e1, e2, e3⟩ := plus_step A Bn c k
      have b1 := bt_lo A k; have b2 := bt_hi A k; have b3 := bt_lo Bn k; have b4 := bt_hi Bn k; have b5 := cy_lo A Bn c k; have b6 := cy_hi A Bn c k hc
      have r1 : (bt A k + bt Bn k + cy A Bn c k) % 2 = bt (A + Bn + c) k := by rw [e1, ← e2]; omega
      have r2 : (bt A k + bt Bn k + cy A Bn c k) / 2 = cy A Bn c (k + 1) := by rw [e1, ← e3]; omega
      clear h3 h3' e1 e2 e3
      go_wp2_with fail
      go_quiet (fail)
      have Ho2 : Hid ((wr.drewN nq).ownsRow B 3 1 u7 (mk (bt (A + Bn + c)) k).length ((mk (bt (A + Bn + c)) k).map (Value.int .i64))) := Ho.out
      have Hb2 : Hid (Below B w (wr.drewN nq)) := below_drewN Hb.out _
      have hsz2 : B ≤ (wr.drewN nq).heap.size := hsz
      clear Ho Hb hsz ha hb
      generalize wr.drewN nq = w0 at *
      go_wp2_with (at_builtin; refine app1 (by rfl) _ _ (by rfl) B _ (mk (bt (A + Bn + c)) k) (bt (A + Bn + c) k) (by rfl) Ho2.out (by rfl) hlen hsz2 ?_; intro v' w1 hown1 hbel1)
      have R := mk_next (f := bt (A + Bn + c)) rfl H.out Hb2.out hown1 hbel1
      have HR := Hid.out (p := Hid _) (show Hid (Hid _) from R)
      clear hown1 hbel1 R
      go_wp2
      go_roundw
      case rel => exact ⟨k + 1, by omega, by go_num, HR.out.1, HR.out.2.1, HR.out.2.2, congrArg (Value.int .i64) r2⟩
      case measure => simp [intOf]; omega
    · have hl2 : (n : Int) ≤ (k : Int) := by omega
      have hkn : k = n := by omega
      subst hkn
      clear h3 h3'
      go_wp2
      go_ret
      exact ⟨_, rfl, Lst.of_own (l := bl (A + Bn + c) k) Ho.out (by rw [bl_length]; omega), H.out ▸ Hb.out, H.out ▸ Frs.of_own (l := bl (A + Bn + c) k) Ho.out (by rw [bl_length]; omega)⟩

set_option maxHeartbeats 1000000 in
theorem widen_f (A n m : Nat) (hn0 : 0 < n) (hm0 : 0 < m) (hn : n ≤ 200) (hm : m ≤ 200) (va : Value) (w : World) (la : Lst w va (bl A n)) :
    Calls Try.prog 28 #[va, .int .i64 (m : Int), .bool false] w fun e w' => ∃ v, e = .returned v ∧ Lst w' v (mk (wf A n (0)) m) ∧ Below w.heap.size w w' ∧ Frs w.heap.size v := by
  obtain ⟨B, hB⟩ : ∃ B, B = w.heap.size := ⟨_, rfl⟩
  obtain ⟨g, off, cap, rfl, h1, h2, h3⟩ := la
  rw [bl_length] at h1 h3
  rw [bl_length]
  have htop := h3 (n - 1) (by omega)
  rw [bl_get _ _ _ (by omega)] at htop
  have hl0 : (0 : Int) < (n : Int) := by omega
  have hl9 : ((n : Int) - 1).toNat = n - 1 := by omega
  go_enter Try.func28, Try.ntmps28
  go_wp2
  clear htop hl9
  go_loopw [7, 9] (fun v i wr => ∃ k : Nat, k ≤ m ∧ i = .int .i64 k ∧ wr.ownsRow B 3 1 v (mk (wf A n (0)) k).length ((mk (wf A n (0)) k).map (Value.int .i64)) ∧ Below B w wr ∧ B ≤ wr.heap.size) (fun _ i _ => m - (intOf i).toNat)
  case atStart => exact ⟨0, Nat.zero_le _, rfl, World.ownsRow_nil _ _ _ _, Below.refl _ _, by omega⟩
  case round =>
    obtain ⟨k, hk, rfl, hown, hbel, hsz⟩ := hrel
    have H : Hid (B = w.heap.size) := hB
    have Hb : Hid (Below B w wr) := hbel
    have Ho : Hid (wr.ownsRow B 3 1 u7 (mk (wf A n (0)) k).length ((mk (wf A n (0)) k).map (Value.int .i64))) := hown
    clear hB hbel hown
    by_cases hlt : k < m
    · have hl1 : (0 : Int) ≤ (k : Int) := by omega
      have hl2 : (k : Int) < (m : Int) := by omega
      have hlen : (mk (wf A n (0)) k).length ≤ 1000 := by rw [mk_length]; omega
      by_cases hin : k < n
      · have ha := (Hb.out.cell (p := ⟨g, off + k, none⟩) (by rw [H.out]; exact h2)).trans (h3 k hin)
        rw [bl_get _ _ _ hin] at ha
        have hf : Hid (wf A n (0) k = bt A k) := by show wf A n _ k = bt A k; unfold wf; rw [if_pos hin]
        have hl3 : (k : Int) < (n : Int) := by omega
        clear h3
        go_wp2_with (at_builtin; refine app1 (by rfl) _ _ (by rfl) B _ (mk (wf A n (0)) k) (bt A k) (by rfl) Ho.out (by rfl) hlen hsz ?_; intro v' w1 hown1 hbel1)
        have R := mk_next (f := wf A n (0)) hf.out H.out Hb.out hown1 hbel1
        have HR := Hid.out (p := Hid _) (show Hid (Hid _) from R)
        clear hown1 hbel1 R
        go_wp2
        go_roundw
        case rel => exact ⟨k + 1, by omega, by go_num, HR.out.1, HR.out.2.1, HR.out.2.2⟩
        case measure => simp [intOf]; omega
      · have hf : Hid (wf A n (0) k = 0) := by show wf A n _ k = _; unfold wf; rw [if_neg hin]
        have hl3 : (n : Int) ≤ (k : Int) := by omega
        clear h3
        go_wp2_with (at_builtin; refine app1 (by rfl) _ _ (by rfl) B _ (mk (wf A n (0)) k) (0) (by rfl) Ho.out (by rfl) hlen hsz ?_; intro v' w1 hown1 hbel1)
        have R := mk_next (f := wf A n (0)) hf.out H.out Hb.out hown1 hbel1
        have HR := Hid.out (p := Hid _) (show Hid (Hid _) from R)
        clear hown1 hbel1 R
        go_wp2
        go_roundw
        case rel => exact ⟨k + 1, by omega, by go_num, HR.out.1, HR.out.2.1, HR.out.2.2⟩
        case measure => simp [intOf]; omega
    · have hl2 : (m : Int) ≤ (k : Int) := by omega
      have hkn : k = m := by omega
      subst hkn
      clear h3
      go_wp2
      go_ret
      exact ⟨_, rfl, Lst.of_own Ho.out (by rw [mk_length]; omega), H.out ▸ Hb.out, H.out ▸ Frs.of_own Ho.out (by rw [mk_length]; omega)⟩


set_option maxHeartbeats 1000000 in
theorem up_exact (A sh n : Nat) (hn0 : 0 < n) (hn : n ≤ 200) (hsh : sh ≤ n) (va : Value) (w : World) (la : Lst w va (bl A n)) :
    Calls Try.prog 71 #[va, .int .i64 (sh : Int)] w fun e w' => ∃ C : Array Value, e = .returned (.slice (some ⟨w.heap.size, 0, none⟩) n n) ∧ w' = w.alloc (.cells C 3) ∧ C.size = n ∧ ∀ j, j < n → C[j]? = some (.int .i64 (bt (A * 2 ^ sh) j)) := by
  obtain ⟨g, off, cap, rfl, h1, h2, h3⟩ := la
  rw [bl_length] at h1 h3
  rw [bl_length]
  go_enter Try.func71, Try.ntmps71
  go_wp2_with fail
  refine (zeros_any n (by omega) _).mono ?_
  rintro e w' ⟨rfl, rfl⟩
  go_wp2_with fail
  go_loopw [6] (fun q wr => ∃ k : Nat, k ≤ n - sh ∧ q = .int .i64 k ∧ ∃ C : Array Value, wr = w.alloc (.cells C 3) ∧ C.size = n ∧ Hid (∀ j, j < n → C[j]? = some (.int .i64 (uf A sh k j)))) (fun q _ => n - (intOf q).toNat)
  case atStart => exact ⟨0, Nat.zero_le _, rfl, zc n, rfl, zc_size n, fun j hj => by rw [zc_get n j hj]; unfold uf; rw [if_neg (by omega)]⟩
  case round =>
    obtain ⟨k, hk, rfl, C, rfl, hC, hf⟩ := hrel
    by_cases hlt : k + sh < n
    · have ha := h3 k (by omega)
      rw [bl_get _ _ _ (by omega)] at ha
      have hl1 : (0 : Int) ≤ (k : Int) := by omega
      have hl2 : (k : Int) + (sh : Int) < (n : Int) := by omega
      have hl3 : (k : Int) < (n : Int) := by omega
      have hne : g < w.heap.size := h2
      have hz := hf.out (k + sh) hlt
      have HS := uf_step hC hf.out hlt
      have HH : Hid ((C.setIfInBounds (k + sh) (.int .i64 (bt A k))).size = n ∧ ∀ j, j < n → (C.setIfInBounds (k + sh) (.int .i64 (bt A k)))[j]? = some (.int .i64 (uf A sh (k + 1) j))) := HS
      have HC : Hid (C.size = n) := hC
      clear h3 HS hC
      go_wp2_with fail
      go_roundw
      case rel => exact ⟨k + 1, by omega, by go_num, _, rfl, HH.out.1, HH.out.2⟩
      case measure => simp [intOf]; omega
    · have hl2 : (n : Int) ≤ (k : Int) + (sh : Int) := by omega
      have hkn : k = n - sh := by omega
      have HK : Hid (k = n - sh) := hkn
      have HC : Hid (C.size = n) := hC
      clear h3 hkn hC
      go_wp2
      go_ret
      exact ⟨C, rfl, rfl, HC.out, fun j hj => by rw [hf.out j hj, HK.out, uf_end A sh n j hj]⟩


theorem minus_f (A Bn n : Nat) (hn0 : 0 < n) (hn : n ≤ 200) (va vb : Value) (w : World) (la : Lst w va (bl A n)) (lb : Lst w vb (bl Bn n)) :
    Calls Try.prog 70 #[va, vb] w fun e w' => ∃ v, e = .returned v ∧ Lst w' v (bl (mns A Bn n) n) ∧ Below w.heap.size w w' ∧ Frs w.heap.size v := by
  have La : Hid (Lst w va (bl A n)) := la
  have Lb : Hid (Lst w vb (bl Bn n)) := lb
  clear la lb
  go_enter Try.func70, Try.ntmps70
  go_wp2_with fail
  refine (turned_any Bn n hn0 hn vb _ Lb.out).mono ?_
  rintro e w1 ⟨v1, rfl, l1, b1⟩
  have L1 : Hid (Lst w1 v1 (bl (tnd Bn n) n)) := l1
  have La1 : Hid (Lst w1 va (bl A n)) := La.out.later b1
  have B1 : Hid (Below w.heap.size w w1) := b1
  clear l1 b1
  go_wp2_with fail
  refine (plus_f A (tnd Bn n) 1 n hn0 hn (by decide) va v1 _ La1.out L1.out).mono ?_
  rintro e w2 ⟨v2, rfl, l2, b2, f2⟩
  have L2 : Hid (Lst w2 v2 (bl (mns A Bn n) n)) := l2
  have F2 : Hid (Frs w.heap.size v2) := f2.mono B1.out.size
  have B2 : Hid (Below w.heap.size w w2) := B1.out.trans (b2.mono B1.out.size)
  clear l2 b2 f2
  go_wp2
  go_ret
  exact ⟨_, rfl, L2.out, B2.out, F2.out⟩

/-! the numbers -/
theorem dv_num (A Bn m : Nat) (hB : 0 < Bn) : 2 * (A / 2 ^ (m + 1) % Bn) + A / 2 ^ m % 2 < 2 * Bn ∧
    (2 * (A / 2 ^ (m + 1) % Bn) + A / 2 ^ m % 2 < Bn → A / 2 ^ m % Bn = 2 * (A / 2 ^ (m + 1) % Bn) + A / 2 ^ m % 2 ∧ bt (A / Bn) m = 0) ∧
    (¬ 2 * (A / 2 ^ (m + 1) % Bn) + A / 2 ^ m % 2 < Bn → A / 2 ^ m % Bn = 2 * (A / 2 ^ (m + 1) % Bn) + A / 2 ^ m % 2 - Bn ∧ bt (A / Bn) m = 1) := by
  have hu := up_div A m
  have hd := Nat.div_add_mod (A / 2 ^ (m + 1)) Bn
  have hr := Nat.mod_lt (A / 2 ^ (m + 1)) hB
  have hq : A / Bn / 2 ^ m = A / 2 ^ m / Bn := by rw [Nat.div_div_eq_div_mul, Nat.mul_comm, ← Nat.div_div_eq_div_mul]
  have hb : A / 2 ^ m % 2 < 2 := Nat.mod_lt _ (by decide)
  generalize A / 2 ^ (m + 1) % Bn = R at *
  generalize A / 2 ^ m % 2 = b at *
  generalize A / 2 ^ (m + 1) = P at *
  have hP : A / 2 ^ m = Bn * (2 * (P / Bn)) + (2 * R + b) := by
    have e : Bn * (2 * (P / Bn)) = 2 * (Bn * (P / Bn)) := Nat.mul_left_comm _ _ _
    omega
  unfold bt
  rw [hq]
  refine ⟨by omega, fun h => ?_, fun h => ?_⟩
  · have e1 : A / 2 ^ m / Bn = 2 * (P / Bn) := by rw [hP, Nat.mul_add_div hB, Nat.div_eq_of_lt h]; rfl
    refine ⟨by rw [hP, Nat.mul_add_mod, Nat.mod_eq_of_lt h], by rw [e1]; omega⟩
  · have hP' : A / 2 ^ m = Bn * (2 * (P / Bn) + 1) + (2 * R + b - Bn) := by rw [Nat.mul_add, Nat.mul_one]; omega
    have e1 : A / 2 ^ m / Bn = 2 * (P / Bn) + 1 := by rw [hP', Nat.mul_add_div hB, Nat.div_eq_of_lt (show 2 * R + b - Bn < Bn by omega), Nat.add_zero]
    refine ⟨by rw [hP', Nat.mul_add_mod, Nat.mod_eq_of_lt (show 2 * R + b - Bn < Bn by omega)], by rw [e1]; omega⟩
end Go.Proofs.Ythnjppfgdkiaaac
