/-
  The reference: bitwise.
-/
import Derived.Test.YthnjppfgdkiaaacNt
import Derived.Test.YthnjppfgdkiaaacRef5
namespace Go.Proofs.Ythnjppfgdkiaaac
open Go.ChangeShapes Go.WideShapes Go.ChangeAt Go.RowKit
theorem bt_xor (A B k : Nat) : (bt A k + bt B k) % 2 = bt (A ^^^ B) k := by
  rw [bt_test, bt_test, bt_test, Nat.testBit_xor]; cases A.testBit k <;> cases B.testBit k <;> rfl
theorem bt_or (A B k : Nat) : (bt A k + bt B k + 1) / 2 = bt (A ||| B) k := by
  rw [bt_test, bt_test, bt_test, Nat.testBit_or]; cases A.testBit k <;> cases B.testBit k <;> rfl
theorem bt_and (A B k : Nat) : (bt A k + bt B k) / 2 = bt (A &&& B) k := by
  rw [bt_test, bt_test, bt_test, Nat.testBit_and]; cases A.testBit k <;> cases B.testBit k <;> rfl

set_option maxHeartbeats 1000000 in
theorem bitwise_xor (A Bn n : Nat) (hn0 : 0 < n) (hn : n ≤ 200) (va vb : Value) (w : World) (la : Lst w va (bl A n)) (lb : Lst w vb (bl Bn n)) :
    Calls Try.prog 77 #[.int .i64 40, va, vb] w fun e w' => ∃ v, e = .returned v ∧ Lst w' v (bl (A ^^^ Bn) n) ∧ Below w.heap.size w w' := by
  obtain ⟨B, hB⟩ : ∃ B, B = w.heap.size := ⟨_, rfl⟩
  obtain ⟨g, off, cap, rfl, h1, h2, h3⟩ := la
  obtain ⟨g', off', cap', rfl, h1', h2', h3'⟩ := lb
  rw [bl_length] at h1 h3 h1' h3'
  rw [bl_length, bl_length]
  go_enter Try.func77, Try.ntmps77
  go_wp2
  go_loopw [7, 8] (fun v i wr => ∃ k : Nat, k ≤ n ∧ i = .int .i64 k ∧ wr.ownsRow B 3 1 v (mk (bt (A ^^^ Bn)) k).length ((mk (bt (A ^^^ Bn)) k).map (Value.int .i64)) ∧ Below B w wr ∧ B ≤ wr.heap.size) (fun _ i _ => n - (intOf i).toNat)
  case atStart => exact ⟨0, Nat.zero_le _, rfl, World.ownsRow_nil _ _ _ _, Below.refl _ _, by omega⟩
  case round =>
    obtain ⟨k, hk, rfl, hown, hbel, hsz⟩ := hrel
    have H : Hid (B = w.heap.size) := hB
    have Hb : Hid (Below B w wr) := hbel
    have Ho : Hid (wr.ownsRow B 3 1 u7 (mk (bt (A ^^^ Bn)) k).length ((mk (bt (A ^^^ Bn)) k).map (Value.int .i64))) := hown
    clear hB hbel hown
    by_cases hlt : k < n
    · have hl1 : (0 : Int) ≤ (k : Int) := by omega
      have hl2 : (k : Int) < (n : Int) := by omega
      have hlen : (mk (bt (A ^^^ Bn)) k).length ≤ 1000 := by rw [mk_length]; omega
      have ha := (Hb.out.cell (p := ⟨g, off + k, none⟩) (by rw [H.out]; exact h2)).trans (h3 k hlt)
      have hb := (Hb.out.cell (p := ⟨g', off' + k, none⟩) (by rw [H.out]; exact h2')).trans (h3' k hlt)
      rw [bl_get _ _ _ hlt] at ha hb
      have b1 := bt_lo A k; have b2 := bt_hi A k; have b3 := bt_lo Bn k; have b4 := bt_hi Bn k
      have r1 := bt_xor A Bn k
      clear h3 h3'
      go_wp2_with fail
      go_quiet (fail)
      have Ho2 : Hid ((wr.drewN nq).ownsRow B 3 1 u7 (mk (bt (A ^^^ Bn)) k).length ((mk (bt (A ^^^ Bn)) k).map (Value.int .i64))) := Ho.out
      have Hb2 : Hid (Below B w (wr.drewN nq)) := below_drewN Hb.out _
      have hsz2 : B ≤ (wr.drewN nq).heap.size := hsz
      clear Ho Hb hsz ha hb
      generalize wr.drewN nq = w0 at *
      go_wp2_with (at_builtin; refine app1 (by rfl) _ _ (by rfl) B _ (mk (bt (A ^^^ Bn)) k) (bt (A ^^^ Bn) k) (by rfl) Ho2.out (by rfl) hlen hsz2 ?_; intro v' w1 hown1 hbel1)
      have R := mk_next (f := bt (A ^^^ Bn)) rfl H.out Hb2.out hown1 hbel1
      have HR := Hid.out (p := Hid _) (show Hid (Hid _) from R)
      clear hown1 hbel1 R
      go_wp2
      go_roundw
      case rel => exact ⟨k + 1, by omega, by go_num, HR.out.1, HR.out.2.1, HR.out.2.2⟩
      case measure => simp [intOf]; omega
    · have hl2 : (n : Int) ≤ (k : Int) := by omega
      have hkn : k = n := by omega
      subst hkn
      clear h3 h3'
      go_wp2
      go_ret
      exact ⟨_, rfl, Lst.of_own (l := bl (A ^^^ Bn) k) Ho.out (by rw [bl_length]; omega), H.out ▸ Hb.out⟩

set_option maxHeartbeats 1000000 in
theorem bitwise_or (A Bn n : Nat) (hn0 : 0 < n) (hn : n ≤ 200) (va vb : Value) (w : World) (la : Lst w va (bl A n)) (lb : Lst w vb (bl Bn n)) :
    Calls Try.prog 77 #[.int .i64 43, va, vb] w fun e w' => ∃ v, e = .returned v ∧ Lst w' v (bl (A ||| Bn) n) ∧ Below w.heap.size w w' := by
  obtain ⟨B, hB⟩ : ∃ B, B = w.heap.size := ⟨_, rfl⟩
  obtain ⟨g, off, cap, rfl, h1, h2, h3⟩ := la
  obtain ⟨g', off', cap', rfl, h1', h2', h3'⟩ := lb
  rw [bl_length] at h1 h3 h1' h3'
  rw [bl_length, bl_length]
  go_enter Try.func77, Try.ntmps77
  go_wp2
  go_loopw [7, 8] (fun v i wr => ∃ k : Nat, k ≤ n ∧ i = .int .i64 k ∧ wr.ownsRow B 3 1 v (mk (bt (A ||| Bn)) k).length ((mk (bt (A ||| Bn)) k).map (Value.int .i64)) ∧ Below B w wr ∧ B ≤ wr.heap.size) (fun _ i _ => n - (intOf i).toNat)
  case atStart => exact ⟨0, Nat.zero_le _, rfl, World.ownsRow_nil _ _ _ _, Below.refl _ _, by omega⟩
  case round =>
    obtain ⟨k, hk, rfl, hown, hbel, hsz⟩ := hrel
    have H : Hid (B = w.heap.size) := hB
    have Hb : Hid (Below B w wr) := hbel
    have Ho : Hid (wr.ownsRow B 3 1 u7 (mk (bt (A ||| Bn)) k).length ((mk (bt (A ||| Bn)) k).map (Value.int .i64))) := hown
    clear hB hbel hown
    by_cases hlt : k < n
    · have hl1 : (0 : Int) ≤ (k : Int) := by omega
      have hl2 : (k : Int) < (n : Int) := by omega
      have hlen : (mk (bt (A ||| Bn)) k).length ≤ 1000 := by rw [mk_length]; omega
      have ha := (Hb.out.cell (p := ⟨g, off + k, none⟩) (by rw [H.out]; exact h2)).trans (h3 k hlt)
      have hb := (Hb.out.cell (p := ⟨g', off' + k, none⟩) (by rw [H.out]; exact h2')).trans (h3' k hlt)
      rw [bl_get _ _ _ hlt] at ha hb
      have b1 := bt_lo A k; have b2 := bt_hi A k; have b3 := bt_lo Bn k; have b4 := bt_hi Bn k
      have r1 := bt_or A Bn k
      clear h3 h3'
      go_wp2_with fail
      go_quiet (fail)
      have Ho2 : Hid ((wr.drewN nq).ownsRow B 3 1 u7 (mk (bt (A ||| Bn)) k).length ((mk (bt (A ||| Bn)) k).map (Value.int .i64))) := Ho.out
      have Hb2 : Hid (Below B w (wr.drewN nq)) := below_drewN Hb.out _
      have hsz2 : B ≤ (wr.drewN nq).heap.size := hsz
      clear Ho Hb hsz ha hb
      generalize wr.drewN nq = w0 at *
      go_wp2_with (at_builtin; refine app1 (by rfl) _ _ (by rfl) B _ (mk (bt (A ||| Bn)) k) (bt (A ||| Bn) k) (by rfl) Ho2.out (by rfl) hlen hsz2 ?_; intro v' w1 hown1 hbel1)
      have R := mk_next (f := bt (A ||| Bn)) rfl H.out Hb2.out hown1 hbel1
      have HR := Hid.out (p := Hid _) (show Hid (Hid _) from R)
      clear hown1 hbel1 R
      go_wp2
      go_roundw
      case rel => exact ⟨k + 1, by omega, by go_num, HR.out.1, HR.out.2.1, HR.out.2.2⟩
      case measure => simp [intOf]; omega
    · have hl2 : (n : Int) ≤ (k : Int) := by omega
      have hkn : k = n := by omega
      subst hkn
      clear h3 h3'
      go_wp2
      go_ret
      exact ⟨_, rfl, Lst.of_own (l := bl (A ||| Bn) k) Ho.out (by rw [bl_length]; omega), H.out ▸ Hb.out⟩

set_option maxHeartbeats 1000000 in
theorem bitwise_and (A Bn n : Nat) (hn0 : 0 < n) (hn : n ≤ 200) (va vb : Value) (w : World) (la : Lst w va (bl A n)) (lb : Lst w vb (bl Bn n)) :
    Calls Try.prog 77 #[.int .i64 44, va, vb] w fun e w' => ∃ v, e = .returned v ∧ Lst w' v (bl (A &&& Bn) n) ∧ Below w.heap.size w w' := by
  obtain ⟨B, hB⟩ : ∃ B, B = w.heap.size := ⟨_, rfl⟩
  obtain ⟨g, off, cap, rfl, h1, h2, h3⟩ := la
  obtain ⟨g', off', cap', rfl, h1', h2', h3'⟩ := lb
  rw [bl_length] at h1 h3 h1' h3'
  rw [bl_length, bl_length]
  go_enter Try.func77, Try.ntmps77
  go_wp2
  go_loopw [7, 8] (fun v i wr => ∃ k : Nat, k ≤ n ∧ i = .int .i64 k ∧ wr.ownsRow B 3 1 v (mk (bt (A &&& Bn)) k).length ((mk (bt (A &&& Bn)) k).map (Value.int .i64)) ∧ Below B w wr ∧ B ≤ wr.heap.size) (fun _ i _ => n - (intOf i).toNat)
  case atStart => exact ⟨0, Nat.zero_le _, rfl, World.ownsRow_nil _ _ _ _, Below.refl _ _, by omega⟩
  case round =>
    obtain ⟨k, hk, rfl, hown, hbel, hsz⟩ := hrel
    have H : Hid (B = w.heap.size) := hB
    have Hb : Hid (Below B w wr) := hbel
    have Ho : Hid (wr.ownsRow B 3 1 u7 (mk (bt (A &&& Bn)) k).length ((mk (bt (A &&& Bn)) k).map (Value.int .i64))) := hown
    clear hB hbel hown
    by_cases hlt : k < n
    · have hl1 : (0 : Int) ≤ (k : Int) := by omega
      have hl2 : (k : Int) < (n : Int) := by omega
      have hlen : (mk (bt (A &&& Bn)) k).length ≤ 1000 := by rw [mk_length]; omega
      have ha := (Hb.out.cell (p := ⟨g, off + k, none⟩) (by rw [H.out]; exact h2)).trans (h3 k hlt)
      have hb := (Hb.out.cell (p := ⟨g', off' + k, none⟩) (by rw [H.out]; exact h2')).trans (h3' k hlt)
      rw [bl_get _ _ _ hlt] at ha hb
      have b1 := bt_lo A k; have b2 := bt_hi A k; have b3 := bt_lo Bn k; have b4 := bt_hi Bn k
      have r1 := bt_and A Bn k
      clear h3 h3'
      go_wp2_with fail
      go_quiet (fail)
      have Ho2 : Hid ((wr.drewN nq).ownsRow B 3 1 u7 (mk (bt (A &&& Bn)) k).length ((mk (bt (A &&& Bn)) k).map (Value.int .i64))) := Ho.out
      have Hb2 : Hid (Below B w (wr.drewN nq)) := below_drewN Hb.out _
      have hsz2 : B ≤ (wr.drewN nq).heap.size := hsz
      clear Ho Hb hsz ha hb
      generalize wr.drewN nq = w0 at *
      go_wp2_with (at_builtin; refine app1 (by rfl) _ _ (by rfl) B _ (mk (bt (A &&& Bn)) k) (bt (A &&& Bn) k) (by rfl) Ho2.out (by rfl) hlen hsz2 ?_; intro v' w1 hown1 hbel1)
      have R := mk_next (f := bt (A &&& Bn)) rfl H.out Hb2.out hown1 hbel1
      have HR := Hid.out (p := Hid _) (show Hid (Hid _) from R)
      clear hown1 hbel1 R
      go_wp2
      go_roundw
      case rel => exact ⟨k + 1, by omega, by go_num, HR.out.1, HR.out.2.1, HR.out.2.2⟩
      case measure => simp [intOf]; omega
    · have hl2 : (n : Int) ≤ (k : Int) := by omega
      have hkn : k = n := by omega
      subst hkn
      clear h3 h3'
      go_wp2
      go_ret
      exact ⟨_, rfl, Lst.of_own (l := bl (A &&& Bn) k) Ho.out (by rw [bl_length]; omega), H.out ▸ Hb.out⟩
end Go.Proofs.Ythnjppfgdkiaaac
