/-
  The reference: divided: the walk.
-/
import Derived.Test.YthnjppfgdkiaaacC3
namespace Go.Proofs.Ythnjppfgdkiaaac
open Go.ChangeShapes Go.WideShapes Go.ChangeAt Go.RowKit
theorem zeros_succ (n : Nat) (hn : n ≤ 900) (w : World) : Calls Try.prog 84 #[.int .i64 ((n : Int) + 1)] w fun e w' => e = .returned (.slice (some ⟨w.heap.size, 0, none⟩) (n + 1) (n + 1)) ∧ w' = w.alloc (.cells (zc (n + 1)) 3) := zeros_any (n + 1) (by omega) w
theorem bt_small (A j n : Nat) (h : A < 2 ^ n) (hj : n ≤ j) : bt A j = 0 := by
  unfold bt; rw [Nat.div_eq_of_lt (Nat.lt_of_lt_of_le h (Nat.pow_le_pow_right (by decide) hj))]; rfl
theorem widen_succ (Bn n : Nat) (hn0 : 0 < n) (hn : n ≤ 190) (hB : Bn < 2 ^ n) (va : Value) (w : World) (la : Lst w va (bl Bn n)) :
    Calls Try.prog 28 #[va, .int .i64 ((n : Int) + 1), .bool false] w fun e w' => ∃ v, e = .returned v ∧ Lst w' v (bl Bn (n + 1)) ∧ Below w.heap.size w w' ∧ Frs w.heap.size v := by
  have h := widen_f Bn n (n + 1) hn0 (by omega) (by omega) (by omega) va w la
  rw [show mk (wf Bn n 0) (n + 1) = bl Bn (n + 1) from mk_congr (fun j hj => by
    unfold wf
    by_cases hl : j < n
    · rw [if_pos hl]
    · rw [if_neg hl, bt_small Bn j n hB (by omega)])] at h
  exact h
theorem bt_put (R b j : Nat) (hb : b < 2) : bt (2 * R + b) j = if j = 0 then (b : Int) else bt (R * 2 ^ 1) j := by
  unfold bt
  by_cases h : j = 0
  · subst h; rw [if_pos rfl]; simp; omega
  · rw [if_neg h]
    obtain ⟨i, rfl⟩ : ∃ i, j = i + 1 := ⟨j - 1, by omega⟩
    rw [Nat.pow_succ, Nat.mul_comm (2 ^ i) 2, ← Nat.div_div_eq_div_mul, ← Nat.div_div_eq_div_mul]
    congr 3; omega
theorem Lst.cut {w : World} {v : Value} {N m n : Nat} (h : Lst w v (bl N m)) (hm : n ≤ m) : ∃ g off cap, v = .slice (some ⟨g, off, none⟩) m cap ∧ m ≤ cap ∧ Lst w (.slice (some ⟨g, off, none⟩) n cap) (bl N n) := by
  obtain ⟨g, off, cap, rfl, h1, h2, h3⟩ := h
  rw [bl_length] at h1 h3
  refine ⟨g, off, cap, by rw [bl_length], h1, g, off, cap, by rw [bl_length], by rw [bl_length]; omega, h2, fun j hj => ?_⟩
  rw [bl_length] at hj
  have := h3 j (by omega)
  rw [bl_get _ _ _ (by omega)] at this
  rw [bl_get _ _ _ hj, this]
/-- What holds at a round's head. -/
def DR (A Bn n : Nat) (va vw : Value) (w : World) (k : Nat) (vr : Value) (wr : World) : Prop :=
  Lst wr vr (bl (A / 2 ^ k % Bn) (n + 1)) ∧ Frs (w.heap.size + 1) vr ∧ Lst wr vw (bl Bn (n + 1)) ∧ Lst wr va (bl A n) ∧ (∀ j, j < n → wr.cell? ⟨w.heap.size, j, none⟩ = some (.int .i64 (if k ≤ j then bt (A / Bn) j else 0)))
    ∧ (∀ j, j < n → wr.frozen? ⟨w.heap.size, j, none⟩ = false) ∧ Below w.heap.size w wr ∧ w.heap.size + 1 ≤ wr.heap.size

theorem up_one (R n : Nat) (hn0 : 0 < n) (hn : n ≤ 200) (va : Value) (w : World) (la : Lst w va (bl R n)) :
    Calls Try.prog 71 #[va, .int .i64 1] w fun e w' => ∃ C : Array Value, e = .returned (.slice (some ⟨w.heap.size, 0, none⟩) n n) ∧ w' = w.alloc (.cells C 3) ∧ C.size = n ∧ ∀ j, j < n → C[j]? = some (.int .i64 (bt (R * 2 ^ 1) j)) := up_exact R 1 n hn0 hn (by omega) va w la
theorem Lst.at {w : World} {g off m cap : Nat} {l : List Int} (h : Lst w (.slice (some ⟨g, off, none⟩) m cap) l) (j : Nat) (hj : j < l.length) : w.cell? ⟨g, off + j, none⟩ = some (.int .i64 (l.getD j 0)) := by
  obtain ⟨g', off', cap', he, _, _, h3⟩ := h
  simp only [Value.slice.injEq, Option.some.injEq, Addr.mk.injEq] at he
  obtain ⟨⟨rfl, rfl, _⟩, rfl, rfl⟩ := he
  exact h3 j hj
theorem put_lst {wr : World} {R b n : Nat} {C : Array Value} {e : TypeId} (hb : b < 2) (hC : C.size = n + 1) (hf : ∀ j, j < n + 1 → C[j]? = some (.int .i64 (bt (R * 2 ^ 1) j))) :
    Lst (wr.alloc (.cells (C.setIfInBounds 0 (.int .i64 (b : Int))) e)) (.slice (some ⟨wr.heap.size, 0, none⟩) (n + 1) (n + 1)) (bl (2 * R + b) (n + 1)) := by
  rw [← mk_bl]
  refine Lst.of_block (fun j hj => ?_)
  rw [Array.getElem?_setIfInBounds, bt_put R b j hb]
  by_cases h : 0 = j
  · subst h; rw [if_pos rfl, if_pos (by omega), if_pos rfl]
  · rw [if_neg h, if_neg (fun hc => h hc.symm), hf j hj]
/-- The facts of a round's head, in a later world. -/
theorem DR.later {A Bn n : Nat} {va vw : Value} {w : World} {k : Nat} {vr : Value} {wr w' : World} (h : DR A Bn n va vw w k vr wr) (hb : Below wr.heap.size wr w') : DR A Bn n va vw w k vr w' := by
  obtain ⟨h1, h2, h3, h4, h5, h6, h7, h8⟩ := h
  refine ⟨h1.later hb, h2, h3.later hb, h4.later hb, fun j hj => ?_, fun j hj => ?_, h7.trans (hb.mono (by omega)), Nat.le_trans h8 hb.size⟩
  · rw [hb.cell (by show w.heap.size < _; omega)]; exact h5 j hj
  · rw [hb.frozen (by show w.heap.size < _; omega)]; exact h6 j hj
theorem DR.less {A Bn n : Nat} {va vw : Value} {w : World} {m : Nat} {vr v2 : Value} {w5 : World} (hB0 : 0 < Bn) (h : DR A Bn n va vw w (m + 1) vr w5) (hl : 2 * (A / 2 ^ (m + 1) % Bn) + A / 2 ^ m % 2 < Bn)
    (L : Lst w5 v2 (bl (2 * (A / 2 ^ (m + 1) % Bn) + A / 2 ^ m % 2) (n + 1))) (hf : Frs (w.heap.size + 1) v2) : DR A Bn n va vw w m v2 w5 := by
  obtain ⟨h1, h2, h3, h4, h5, h6, h7, h8⟩ := h
  obtain ⟨e1, e2⟩ := (dv_num A Bn m hB0).2.1 hl
  refine ⟨by rw [e1]; exact L, hf, h3, h4, fun j hj => ?_, h6, h7, h8⟩
  rw [h5 j hj]
  by_cases hj' : j = m
  · subst hj'; rw [if_neg (by omega), if_pos (Nat.le_refl _), e2]
  · by_cases h : m + 1 ≤ j
    · rw [if_pos h, if_pos (show m ≤ j by omega)]
    · rw [if_neg h, if_neg (show ¬ m ≤ j by omega)]
theorem DR.ge {A Bn n : Nat} {va vw : Value} {w : World} {m : Nat} {vr v6 : Value} {w6 : World} (hB0 : 0 < Bn) (hBn : Bn < 2 ^ n) (h : DR A Bn n va vw w (m + 1) vr w6) (hl : ¬ 2 * (A / 2 ^ (m + 1) % Bn) + A / 2 ^ m % 2 < Bn)
    (hva : ∃ g off n cap, va = .slice (some ⟨g, off, none⟩) n cap ∧ g < w.heap.size) (hfw : Frs (w.heap.size + 1) vw)
    (L : Lst w6 v6 (bl (mns (2 * (A / 2 ^ (m + 1) % Bn) + A / 2 ^ m % 2) Bn (n + 1)) (n + 1))) (hf : Frs (w.heap.size + 1) v6) : DR A Bn n va vw w m v6 (w6.setCell ⟨w.heap.size, m, none⟩ (.int .i64 1)) := by
  obtain ⟨h1, h2, h3, h4, h5, h6, h7, h8⟩ := h
  have hd := dv_num A Bn m hB0
  obtain ⟨e1, e2⟩ := hd.2.2 hl
  have hp : 2 ^ (n + 1) = 2 * 2 ^ n := by rw [Nat.pow_succ, Nat.mul_comm]
  have e3 : bl (mns (2 * (A / 2 ^ (m + 1) % Bn) + A / 2 ^ m % 2) Bn (n + 1)) (n + 1) = bl (A / 2 ^ m % Bn) (n + 1) := by
    rw [← bl_mod, mns_mod _ _ _ (by omega), e1]
    congr 1
    rw [show 2 * (A / 2 ^ (m + 1) % Bn) + A / 2 ^ m % 2 + (2 ^ (n + 1) - Bn) = (2 * (A / 2 ^ (m + 1) % Bn) + A / 2 ^ m % 2 - Bn) + 2 ^ (n + 1) by omega, Nat.add_mod_right]
    exact Nat.mod_eq_of_lt (by have := hd.1; omega)
  rw [e3] at L
  refine ⟨L.set hf, hf, h3.set hfw, h4.set_lt hva, fun j hj => ?_, fun j hj => ?_, h7.setCell (Nat.le_refl _) _, by simpa using h8⟩
  · by_cases hj' : m = j
    · subst hj'
      rw [World.cell?_setCell_same' _ _ _ (by rw [h5 m hj]; rfl), if_pos (Nat.le_refl _), e2]
    · rw [World.cell?_setCell_other _ _ _ _ (by intro hc; simp only [Addr.mk.injEq] at hc; omega), h5 j hj]
      by_cases h : m + 1 ≤ j
      · rw [if_pos h, if_pos (show m ≤ j by omega)]
      · rw [if_neg h, if_neg (show ¬ m ≤ j by omega)]
  · rw [World.frozen?_setCell]; exact h6 j hj
set_option maxHeartbeats 2000000 in
theorem divided_any (A Bn n : Nat) (hn0 : 0 < n) (hn : n ≤ 100) (hA : A < 2 ^ n) (hB : Bn < 2 ^ n) (hB0 : 0 < Bn) (va vb : Value) (w : World) (la : Lst w va (bl A n)) (lb : Lst w vb (bl Bn n)) :
    Calls Try.prog 88 #[va, vb] w fun e w' => ∃ v1 v2, e = .returned (.tuple #[v1, v2]) ∧ Lst w' v1 (bl (A / Bn) n) ∧ Lst w' v2 (bl (A % Bn) n) ∧ Below w.heap.size w w' := by
  have La : Hid (Lst w va (bl A n)) := la
  have Lb : Hid (Lst w vb (bl Bn n)) := lb
  obtain ⟨ga, offa, capa, hva, hc1, hga, _⟩ := la
  rw [bl_length] at hva hc1
  subst hva
  clear lb
  go_enter Try.func88, Try.ntmps88
  go_wp2_with fail
  refine (zeros_any n (by omega) _).mono ?_
  rintro e w' ⟨rfl, rfl⟩
  go_wp2_with fail
  refine (zeros_succ n (by omega) _).mono ?_
  rintro e w' ⟨rfl, rfl⟩
  go_wp2_with fail
  refine (widen_succ Bn n hn0 (by omega) hB vb _ ((Lb.out.later ((Below.refl _ _).alloc (Nat.le_refl _) _)).later ((Below.refl _ _).alloc (Nat.le_refl _) _))).mono ?_
  rintro e w3 ⟨vw, rfl, lw, b3, fw⟩
  have hsz : ((w.alloc (.cells (zc n) 3)).alloc (.cells (zc (n + 1)) 3)).heap.size = w.heap.size + 2 := by simp
  have hb0 : Below w.heap.size w ((w.alloc (.cells (zc n) 3)).alloc (.cells (zc (n + 1)) 3)) := ((Below.refl _ _).alloc (Nat.le_refl _) _).alloc (by simp) _
  have D0 : Hid (DR A Bn n (.slice (some ⟨ga, offa, none⟩) n capa) vw w n (.slice (some ⟨w.heap.size + 1, 0, none⟩) (n + 1) (n + 1)) w3) := by
    refine ⟨?_, ⟨_, _, _, _, rfl, Nat.le_refl _⟩, lw, (La.out.later hb0).later b3, fun j hj => ?_, fun j hj => ?_, hb0.trans (b3.mono (by rw [hsz]; omega)), by have := b3.size; omega⟩
    · rw [Nat.div_eq_of_lt hA, Nat.zero_mod]
      refine Lst.later ?_ b3
      rw [← mk_bl]
      have := Lst.of_block (w := w.alloc (.cells (zc n) 3)) (f := bt 0) (n := n + 1) (C := zc (n + 1)) (e := 3) (fun j hj => by rw [zc_get _ j hj]; unfold bt; simp)
      simpa using this
    · rw [b3.cell (by show w.heap.size < _; omega), World.cell?_alloc_past _ _ _ (by simp), World.cell?_alloc_at _ _ _ _ rfl, zc_get n j hj, if_neg (by omega)]
    · rw [b3.frozen (by show w.heap.size < _; omega)]; simp
  have FW : Hid (Frs (w.heap.size + 1) vw) := fw.mono (by rw [hsz]; omega)
  clear lw b3 fw hsz hb0 Lb
  go_wp2_with fail
  go_loopw [8, 10] (fun vr q wr => ∃ k : Nat, k ≤ n ∧ q = .int .i64 ((k : Int) - 1) ∧ Hid (DR A Bn n (.slice (some ⟨ga, offa, none⟩) n capa) vw w k vr wr)) (fun _ q _ => (intOf q + 1).toNat)
  case atStart => exact ⟨n, Nat.le_refl _, rfl, D0⟩
  case round =>
    clear D0 La
    obtain ⟨k, hk, rfl, hD⟩ := hrel
    match k, hk, hD with
    | 0, hk, hD =>
      obtain ⟨h1, h2, h3, h4, h5, h6, h7, h8⟩ := hD.out
      obtain ⟨g, off, cap, hv, hcap, l7⟩ := h1.cut (n := n) (by omega)
      subst hv
      rw [Nat.pow_zero, Nat.div_one] at l7
      have L7 : Hid (Lst wr (.slice (some ⟨g, off, none⟩) n cap) (bl (A % Bn) n)) := l7
      have LQ : Hid (Lst wr (.slice (some ⟨w.heap.size, 0, none⟩) n n) (bl (A / Bn) n)) := by
        refine ⟨w.heap.size, 0, n, by rw [bl_length], by rw [bl_length]; exact Nat.le_refl _, by omega, fun j hj => ?_⟩
        rw [bl_length] at hj
        rw [Nat.zero_add, h5 j hj, if_pos (Nat.zero_le _), bl_get _ _ _ hj]
      have H7 : Hid (Below w.heap.size w wr) := h7
      have hc2 : (n : Int) ≤ (cap : Int) := by omega
      clear h1 h2 h3 h4 h5 h6 h7 h8 l7 hD
      go_wp2_with fail
      go_quiet (fail)
      go_wp2
      go_ret2
      exact ⟨_, _, rfl, LQ.out.later (below_drewN (Below.refl _ _) _), L7.out.later (below_drewN (Below.refl _ _) _), below_drewN H7.out _⟩
    | m + 1, hk, hD =>
      rw [show (((m + 1 : Nat) : Int) - 1) = (m : Int) from by omega]
      have hl1 : (0 : Int) ≤ (m : Int) := by omega
      have hl2 : (m : Int) < (n : Int) := by omega
      have ha := hD.out.2.2.2.1.at m (by rw [bl_length]; omega)
      rw [bl_get _ _ _ (by omega)] at ha
      have hgl : ga < wr.heap.size := Nat.lt_of_lt_of_le hga (by have := hD.out.2.2.2.2.2.2.2; omega)
      go_wp2_with fail
      refine (up_one _ (n + 1) (by omega) (by omega) _ _ hD.out.1).mono ?_
      rintro e w' ⟨C, rfl, rfl, hC, hCf⟩
      have hC0 := hCf 0 (by omega)
      have HF : Hid (∀ j, j < n + 1 → C[j]? = some (.int .i64 (bt (A / 2 ^ (m + 1) % Bn * 2 ^ 1) j))) := hCf
      clear hCf
      go_wp2_with fail
      have hbit : bt A m = ((A / 2 ^ m % 2 : Nat) : Int) := rfl
      rw [hbit]
      have hb2 : A / 2 ^ m % 2 < 2 := Nat.mod_lt _ (by decide)
      have b2 : Below wr.heap.size wr (wr.alloc (.cells (C.setIfInBounds 0 (.int .i64 ((A / 2 ^ m % 2 : Nat) : Int))) 3)) := (Below.refl _ _).alloc (Nat.le_refl _) _
      have L2 := put_lst (wr := wr) (e := 3) hb2 hC HF.out
      have D2 := hD.out.later b2
      have hd := dv_num A Bn m hB0
      have hp : 2 ^ (n + 1) = 2 * 2 ^ n := by rw [Nat.pow_succ, Nat.mul_comm]
      have hcall := less_any (2 * (A / 2 ^ (m + 1) % Bn) + A / 2 ^ m % 2) Bn (n + 1) (by omega) (by omega) (by omega) (by omega) _ vw _ L2 D2.2.2.1
      have F2 : Frs (w.heap.size + 1) (.slice (some ⟨wr.heap.size, 0, none⟩) (n + 1) (n + 1)) := ⟨_, _, _, _, rfl, hD.out.2.2.2.2.2.2.2⟩
      generalize hR : 2 * (A / 2 ^ (m + 1) % Bn) + A / 2 ^ m % 2 = R at *
      generalize wr.alloc (.cells (C.setIfInBounds 0 (.int .i64 ((A / 2 ^ m % 2 : Nat) : Int))) 3) = W2 at *
      have HD2 : Hid (DR A Bn n (.slice (some ⟨ga, offa, none⟩) n capa) vw w (m + 1) u8 W2) := D2
      have HL2 : Hid (Lst W2 (.slice (some ⟨wr.heap.size, 0, none⟩) (n + 1) (n + 1)) (bl R (n + 1))) := L2
      have HF2 : Hid (Frs (w.heap.size + 1) (.slice (some ⟨wr.heap.size, 0, none⟩) (n + 1) (n + 1))) := F2
      have HR : Hid (2 * (A / 2 ^ (m + 1) % Bn) + A / 2 ^ m % 2 = R) := hR
      by_cases hl : R < Bn
      · have HL : Hid (R < Bn) := hl
        rw [decide_eq_true hl] at hcall
        have HC : Hid (Calls Try.prog 76 #[.slice (some ⟨wr.heap.size, 0, none⟩) (n + 1) (n + 1), vw] W2 fun e w' => e = .returned (.bool true) ∧ Below W2.heap.size W2 w') := hcall
        clear hcall hl hR D2 L2 F2 hd hp hb2 b2 hC hC0 HF ha hbit
        refine HC.out.mono ?_
        rintro e w5 ⟨rfl, b5⟩
        have HB5 : Hid (Below W2.heap.size W2 w5) := b5
        clear b5 HC
        go_wp2_with fail
        go_roundw
        case rel => exact ⟨m, by omega, by go_num, DR.less hB0 (HD2.out.later HB5.out) (by rw [HR.out]; exact HL.out) (by rw [HR.out]; exact HL2.out.later HB5.out) HF2.out⟩
        case measure => simp [intOf]
      · have HL : Hid (¬ R < Bn) := hl
        rw [decide_eq_false hl] at hcall
        have HC : Hid (Calls Try.prog 76 #[.slice (some ⟨wr.heap.size, 0, none⟩) (n + 1) (n + 1), vw] W2 fun e w' => e = .returned (.bool false) ∧ Below W2.heap.size W2 w') := hcall
        clear hcall hl hR D2 L2 F2 hd hp hb2 b2 hC hC0 HF ha hbit
        refine HC.out.mono ?_
        rintro e w5 ⟨rfl, b5⟩
        have HD5 : Hid (DR A Bn n (.slice (some ⟨ga, offa, none⟩) n capa) vw w (m + 1) u8 w5) := HD2.out.later b5
        have HL5 : Hid (Lst w5 (.slice (some ⟨wr.heap.size, 0, none⟩) (n + 1) (n + 1)) (bl R (n + 1))) := HL2.out.later b5
        clear b5 HC
        go_wp2_with fail
        refine (minus_f R Bn (n + 1) (by omega) (by omega) _ vw _ HL5.out HD5.out.2.2.1).mono ?_
        rintro e w6 ⟨v6, rfl, l6, b6, f6⟩
        have D6 := HD5.out.later b6
        have hq := D6.2.2.2.2.1 m (by omega)
        have hz := D6.2.2.2.2.2.1 m (by omega)
        rw [if_neg (by omega)] at hq
        have HD6 : Hid (DR A Bn n (.slice (some ⟨ga, offa, none⟩) n capa) vw w (m + 1) u8 w6) := D6
        have HL6 : Hid (Lst w6 v6 (bl (mns R Bn (n + 1)) (n + 1))) := l6
        have HF6 : Hid (Frs (w.heap.size + 1) v6) := f6.mono HD5.out.2.2.2.2.2.2.2
        clear l6 b6 f6 D6
        go_wp2_with fail
        go_roundw
        case rel => exact ⟨m, by omega, by go_num, DR.ge hB0 hB HD6.out (by rw [HR.out]; exact HL.out) ⟨_, _, _, _, rfl, hga⟩ FW.out (by rw [HR.out]; exact HL6.out) HF6.out⟩
        case measure => simp [intOf]
end Go.Proofs.Ythnjppfgdkiaaac
