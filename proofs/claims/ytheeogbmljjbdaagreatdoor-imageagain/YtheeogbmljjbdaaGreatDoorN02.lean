/-
  Irb.
-/
import Derived.Test.YtheeogbmljjbdaaGreatDoorN01
import Derived.Deep.Cut
import Derived.WalkLawsBesides
namespace Go.Proofs.YtheeogbmljjbdaaGreatDoor
set_option linter.unusedVariables false
open Go.ChangeShapes Go.WideShapes Go.ChangeAt Go.RowKit Go.Deep
/-- A refusal: the fault that was thrown. -/
def Pan (w : World) (F : Nat × Nat) (e : Ending) (w' : World) : Prop := ∃ g, e = .panicked [{ v := .iface 79 (.pointer (some ⟨g, 0, none⟩)), recovered := false }] ∧ w.heap.size ≤ g ∧ w'.heap[g]? = some (.cells #[.int .i64 0, .int .i64 F.1, .int .i64 F.2] 46 (0, 0)) ∧ Below w.heap.size w w'
theorem Pan.later {w0 w : World} {F : Nat × Nat} {e : Ending} {w' : World} (hb : Below w0.heap.size w0 w) (h : Pan w F e w') : Pan w0 F e w' := by
  obtain ⟨g, h1, h2, h3, h4⟩ := h
  exact ⟨g, h1, Nat.le_trans hb.size h2, h3, hb.trans (h4.mono hb.size)⟩
theorem refuse_f (y q : Int) (w : World) : Calls Tryz.prog 51 #[.bool false, .int .i64 y, .int .i64 q] w fun e w' => e = .returned (.tuple #[]) ∧ w = w' := by
  go_enter Tryz.func51, Tryz.ntmps51
  go_wp2
  first | go_end0 | refine bodyPost_ret (results_none rfl _ _ _) rfl ?_
  exact ⟨rfl, rfl⟩
theorem refuse_t (y q : Nat) (w : World) : Calls Tryz.prog 51 #[.bool true, .int .i64 y, .int .i64 q] w fun e w' => Pan w (q, y) e w' := by
  go_enter Tryz.func51, Tryz.ntmps51
  go_wp2
  --@CUT0
  exact ⟨rfl, w.heap.size, rfl, Nat.le_refl _, heap_alloc_new w _, (Below.refl _ _).alloc (Nat.le_refl _) _⟩
set_option maxHeartbeats 2000000 in
theorem number_c {b : List Int} (hB : AllB b) (hl : b.length ≤ 200000) (vb : Value) (p k : Nat) (hk : k ≤ 8) (hp : p + k ≤ b.length) (w : World) (hv : Byt w vb b) :
    Calls Tryz.prog 90 #[.agg #[vb], .int .i64 p, .int .i64 k] w fun e w' => e = .returned (.int .u64 ((vl b p k : Nat) : Int)) ∧ Below w.heap.size w w' := by
  have hv1 := hv.later ((Below.refl w.heap.size w).alloc (Nat.le_refl _) (.cells #[vb] 65)) rfl
  obtain ⟨a, cap, rfl, hc, _, hr⟩ := hv1
  have HB : Hid (AllB b) := hB
  have HR : Hid (b ≠ [] → ∃ g off, a = some ⟨g, off, none⟩ ∧ g < (w.alloc (.cells #[.slice a b.length cap] 65)).heap.size ∧ ∀ j, j < b.length → (w.alloc (.cells #[.slice a b.length cap] 65)).cell? ⟨g, off + j, none⟩ = some (.int .u8 (b.getD j 0))) := hr
  have hkI : (k : Int) ≤ 8 := by omega
  have hpI : (p : Int) + k ≤ b.length := by omega
  have hlI : (b.length : Int) ≤ 200000 := by omega
  have HP : Hid (p + k ≤ b.length) := hp
  have HBL : Hid (Below w.heap.size w (w.alloc (.cells #[.slice a b.length cap] 65))) := (Below.refl _ _).alloc (Nat.le_refl _) _
  have k0 : (w.alloc (.cells #[.slice a b.length cap] 65)).cell? ⟨w.heap.size, 0, none⟩ = some (.slice a b.length cap) := by simp
  clear hr hv hB
  go_enter Tryz.func90, Tryz.ntmps90
  go_wp2
  generalize w.alloc (.cells #[.slice a b.length cap] 65) = w1 at *
  go_loopw [7, 8, 10] (fun v _ i wr => ∃ q : Nat, q ≤ k ∧ i = .int .i64 q ∧ v = .int .u64 ((vl b p q : Nat) : Int) ∧ wr = w1) (fun _ _ i _ => k - (intOf i).toNat)
  case atStart => exact ⟨0, Nat.zero_le _, rfl, rfl, rfl⟩
  case round =>
    obtain ⟨q, hq, rfl, rfl, rfl⟩ := hrel
    by_cases hlt : q < k
    · obtain ⟨g, off, rfl, _, hcell⟩ := HR.out (by intro e; have := HP.out; rw [e] at this; simp only [List.length_nil] at this; omega)
      have hq8 : q < 8 := by omega
      have hqI : (q : Int) < k := by omega
      have hq8I : (q : Int) < 8 := by omega
      have hpq : (p : Int) + q < b.length := by omega
      have hce := hcell (p + q) (by have := HP.out; omega)
      have hby := getD_byte HB.out (p + q)
      have HS : Hid (bits .or .u64 ((vl b p q : Nat) : Int) (IntKind.u64.wrap (b.getD (p + q) 0 * 2 ^ (8 * q))) = ((vl b p (q + 1) : Nat) : Int)) := vl_step HB.out p q hq8
      clear hcell
      obtain ⟨z, hz⟩ : ∃ z, z = b.getD (p + q) 0 := ⟨_, rfl⟩
      rw [← hz] at hce hby
      have HZ : Hid (z = b.getD (p + q) 0) := hz
      clear hz
      obtain ⟨M, hM⟩ : ∃ M, M = vl b p q := ⟨_, rfl⟩
      rw [← hM]
      have HM : Hid (M = vl b p q) := hM
      clear hM
      go_wp2
      go_roundw
      case rel => exact ⟨q + 1, by omega, by go_num, by rw [← HS.out, ← HZ.out, ← HM.out], trivial⟩
      case measure => simp only [intOf]; omega
    · obtain rfl : q = k := by omega
      have hqI : ¬ ((q : Int) < q) := by omega
      go_wp2
      go_ret
      exact ⟨rfl, HBL.out⟩
theorem half_c {b : List Int} (hB : AllB b) (hl : b.length ≤ 200000) (vb : Value) (p : Nat) (pI : Int) (hpI : pI = p) (hp : p + 2 ≤ b.length) (w : World) (hv : Byt w vb b) :
    Calls Tryz.prog 81 #[.agg #[vb], .int .i64 pI] w fun e w' => e = .returned (.int .u64 ((vl b p 2 : Nat) : Int)) ∧ Below w.heap.size w w' := by
  subst hpI
  have HV : Hid (∀ w', Below w.heap.size w w' → Byt w' vb b) := fun w' hb => hv.later hb rfl
  have HB : Hid (AllB b) := hB
  obtain ⟨a, cap, rfl, hc, _, _⟩ := hv
  have HBL : Hid (Below w.heap.size w (w.alloc (.cells #[.slice a b.length cap] 65))) := (Below.refl _ _).alloc (Nat.le_refl _) _
  go_enter Tryz.func81, Tryz.ntmps81
  go_wp2_with (go_at_call 90; refine (number_c HB.out hl _ p 2 (by omega) hp _ (HV.out _ HBL.out)).mono ?_; rintro e w2 ⟨rfl, hb2⟩)
  go_ret
  exact ⟨rfl, HBL.out.trans (hb2.mono HBL.out.size)⟩
theorem word_c {b : List Int} (hB : AllB b) (hl : b.length ≤ 200000) (vb : Value) (p : Nat) (pI : Int) (hpI : pI = p) (hp : p + 4 ≤ b.length) (w : World) (hv : Byt w vb b) :
    Calls Tryz.prog 82 #[.agg #[vb], .int .i64 pI] w fun e w' => e = .returned (.int .u64 ((vl b p 4 : Nat) : Int)) ∧ Below w.heap.size w w' := by
  subst hpI
  have HV : Hid (∀ w', Below w.heap.size w w' → Byt w' vb b) := fun w' hb => hv.later hb rfl
  have HB : Hid (AllB b) := hB
  obtain ⟨a, cap, rfl, hc, _, _⟩ := hv
  have HBL : Hid (Below w.heap.size w (w.alloc (.cells #[.slice a b.length cap] 65))) := (Below.refl _ _).alloc (Nat.le_refl _) _
  go_enter Tryz.func82, Tryz.ntmps82
  go_wp2_with (go_at_call 90; refine (number_c HB.out hl _ p 4 (by omega) hp _ (HV.out _ HBL.out)).mono ?_; rintro e w2 ⟨rfl, hb2⟩)
  go_ret
  exact ⟨rfl, HBL.out.trans (hb2.mono HBL.out.size)⟩
theorem double_c {b : List Int} (hB : AllB b) (hl : b.length ≤ 200000) (vb : Value) (p : Nat) (pI : Int) (hpI : pI = p) (hp : p + 8 ≤ b.length) (w : World) (hv : Byt w vb b) :
    Calls Tryz.prog 56 #[.agg #[vb], .int .i64 pI] w fun e w' => e = .returned (.int .u64 ((vl b p 8 : Nat) : Int)) ∧ Below w.heap.size w w' := by
  subst hpI
  have HV : Hid (∀ w', Below w.heap.size w w' → Byt w' vb b) := fun w' hb => hv.later hb rfl
  have HB : Hid (AllB b) := hB
  obtain ⟨a, cap, rfl, hc, _, _⟩ := hv
  have HBL : Hid (Below w.heap.size w (w.alloc (.cells #[.slice a b.length cap] 65))) := (Below.refl _ _).alloc (Nat.le_refl _) _
  go_enter Tryz.func56, Tryz.ntmps56
  go_wp2_with (go_at_call 90; refine (number_c HB.out hl _ p 8 (by omega) hp _ (HV.out _ HBL.out)).mono ?_; rintro e w2 ⟨rfl, hb2⟩)
  go_ret
  exact ⟨rfl, HBL.out.trans (hb2.mono HBL.out.size)⟩
set_option maxRecDepth 100000 in
set_option maxHeartbeats 1000000 in
theorem hasRoom_c {b : List Int} (hl : b.length ≤ 200000) (vb : Value) (p n : Nat) (hp : p < 18446744073709551616) (hn : n < 18446744073709551616) (w : World) (hv : Byt w vb b) :
    Calls Tryz.prog 97 #[.agg #[vb], .int .u64 p, .int .u64 n] w fun e w' => e = .returned (.bool (decide (room b p n))) ∧ Below w.heap.size w w' := by
  obtain ⟨a, cap, rfl, hc, _, _⟩ := hv
  have HBL : Hid (Below w.heap.size w (w.alloc (.cells #[.slice a b.length cap] 65))) := (Below.refl _ _).alloc (Nat.le_refl _) _
  have hlI : (b.length : Int) ≤ 200000 := by omega
  have hpI : (p : Int) < 18446744073709551616 := by omega
  have hnI : (n : Int) < 18446744073709551616 := by omega
  obtain ⟨d, hd⟩ : ∃ d, d = decide (room b p n) := ⟨_, rfl⟩
  rw [← hd]
  have HD : Hid (d = decide (room b p n)) := hd
  clear hd
  by_cases h1 : n ≤ b.length
  · have h1I : (n : Int) ≤ b.length := by omega
    by_cases h2 : p ≤ b.length - n
    · have h2I : (p : Int) ≤ (b.length : Int) - n := by omega
      have HE : Hid (d = true) := by unfold Hid; rw [HD.out]; exact decide_eq_true ⟨h1, h2⟩
      clear h1 h2
      go_enter Tryz.func97, Tryz.ntmps97
      go_wp2
      --@CUT1
      go_ret
      exact ⟨by rw [HE.out]; first | rfl | (simp; done) | (simp; omega), HBL.out⟩
    · have h2I : (b.length : Int) - n < (p : Int) := by omega
      have HE : Hid (d = false) := by unfold Hid; rw [HD.out]; exact decide_eq_false (fun h => h2 h.2)
      clear h1 h2
      go_enter Tryz.func97, Tryz.ntmps97
      go_wp2
      go_ret
      exact ⟨by rw [HE.out]; first | rfl | (simp; done) | (simp; omega), HBL.out⟩
  · have h1I : (b.length : Int) < (n : Int) := by omega
    have HE : Hid (d = false) := by unfold Hid; rw [HD.out]; exact decide_eq_false (fun h => h1 h.1)
    have h1d : ¬ ((n : Int) ≤ (b.length : Int)) := by omega
    clear h1 h1I hp hn hl hpI
    go_enter Tryz.func97, Tryz.ntmps97
    go_upto_region 2 with fail
    go_wp2
    go_ret
    exact ⟨by rw [HE.out]; first | rfl | (simp; done) | (simp; omega), HBL.out⟩
set_option maxRecDepth 100000 in
set_option maxHeartbeats 1000000 in
theorem placeAt_c {b : List Int} (hB : AllB b) (hl : b.length ≤ 200000) (vb : Value) (q n : Nat) (qI : Int) (hqI : qI = q) (hq : q + 8 ≤ b.length) (hn : n < 18446744073709551616) (w : World) (hv : Byt w vb b) :
    Calls Tryz.prog 83 #[.agg #[vb], .int .i64 qI, .int .u64 n] w fun e w' => (room b (vl b q 8) n ∧ e = .returned (.int .i64 ((vl b q 8 : Nat) : Int)) ∧ Below w.heap.size w w') ∨ (¬ room b (vl b q 8) n ∧ Pan w (q, 20) e w') := by
  subst hqI
  have HV : Hid (∀ w', Below w.heap.size w w' → Byt w' vb b) := fun w' hb => hv.later hb rfl
  have HB : Hid (AllB b) := hB
  have hlt := vl_lt8 hB q 8 (Nat.le_refl _)
  obtain ⟨a, cap, rfl, hc, _, _⟩ := hv
  have HBL : Hid (Below w.heap.size w (w.alloc (.cells #[.slice a b.length cap] 65))) := (Below.refl _ _).alloc (Nat.le_refl _) _
  have k0 : Hid (∀ w', Below (w.alloc (.cells #[.slice a b.length cap] 65)).heap.size (w.alloc (.cells #[.slice a b.length cap] 65)) w' → w'.cell? ⟨w.heap.size, 0, none⟩ = some (.slice a b.length cap)) := fun w' hb => by rw [hb.cell (by simp)]; simp
  have cD : Hid (Calls Tryz.prog 56 #[.agg #[.slice a b.length cap], .int .i64 q] (w.alloc (.cells #[.slice a b.length cap] 65)) fun e w' => e = .returned (.int .u64 ((vl b q 8 : Nat) : Int)) ∧ Below (w.alloc (.cells #[.slice a b.length cap] 65)).heap.size (w.alloc (.cells #[.slice a b.length cap] 65)) w') := double_c hB hl _ q q rfl hq _ (HV.out _ HBL.out)
  have HRM : Hid (∀ P, room b P n → P ≤ b.length) := fun P h => by unfold room at h; omega
  obtain ⟨P, hP⟩ : ∃ P, P = vl b q 8 := ⟨_, rfl⟩
  rw [← hP] at hlt cD ⊢
  clear hP hB
  have hPI : (P : Int) < 18446744073709551616 := by omega
  by_cases hr : room b P n
  · have hPl : (P : Int) ≤ 200000 := by have := HRM.out P hr; omega
    have HRR : Hid (room b P n) := hr
    have hd : decide (room b P n) = true := decide_eq_true hr
    clear hr
    go_enter Tryz.func83, Tryz.ntmps83
    go_wp2_with (first | (go_at_call 56; refine cD.out.mono ?_; rintro e w2 ⟨rfl, hb2⟩; have HB2 : Hid (Below w.heap.size w w2) := HBL.out.trans (hb2.mono HBL.out.size); have c2 := k0.out w2 hb2; clear hb2) | (go_at_call 97; refine (hasRoom_c hl _ P n hlt hn w2 (HV.out _ HB2.out)).mono ?_; rw [hd]; rintro e w3 ⟨rfl, hb3⟩; have HB3 : Hid (Below w.heap.size w w3) := HB2.out.trans (hb3.mono HB2.out.size); clear hb3) | (go_at_call 51; refine (refuse_f _ _ _).mono ?_; rintro e w' ⟨rfl, rfl⟩))
    go_ret
    exact .inl ⟨HRR.out, rfl, HB3.out⟩
  · have HRR : Hid (¬ room b P n) := hr
    have hd : decide (room b P n) = false := decide_eq_false hr
    clear hr
    go_enter Tryz.func83, Tryz.ntmps83
    go_wp2_with (first | (go_at_call 56; refine cD.out.mono ?_; rintro e w2 ⟨rfl, hb2⟩; have HB2 : Hid (Below w.heap.size w w2) := HBL.out.trans (hb2.mono HBL.out.size); have c2 := k0.out w2 hb2; clear hb2) | (go_at_call 97; refine (hasRoom_c hl _ P n hlt hn w2 (HV.out _ HB2.out)).mono ?_; rw [hd]; rintro e w3 ⟨rfl, hb3⟩; have HB3 : Hid (Below w.heap.size w w3) := HB2.out.trans (hb3.mono HB2.out.size); clear hb3) | (go_at_call 51; refine (refuse_t 20 q _).mono ?_; intro e w4 hpan; obtain ⟨g, rfl, h2, h3, h4⟩ := hpan; have HPN : Hid (Pan w3 (q, 20) (.panicked [{ v := .iface 79 (.pointer (some ⟨g, 0, none⟩)), recovered := false }]) w4) := ⟨g, rfl, h2, h3, h4⟩; clear h2 h3 h4))
    --@CUT2
    exact ⟨rfl, .inr ⟨HRR.out, HPN.out.later HB3.out⟩⟩
end Go.Proofs.YtheeogbmljjbdaaGreatDoor
