/-
  Ug.
-/
import Derived.Test.YtidfndgedopghaaGreatDoorM17
namespace Go.Proofs.YtidfndgedopghaaGreatDoor
set_option linter.unusedVariables false
set_option maxRecDepth 100000
set_option maxHeartbeats 4000000
open Go.ChangeShapes Go.WideShapes Go.ChangeAt Go.RowKit Go.Deep
def swB (f : BitVec 64 → Bool) (B A : List Int) : Bool := (List.range B.length).all fun i => (A.getD i 0 == B.getD i 0) || !f (BitVec.ofNat 64 (2147483648 + i))
theorem ram_at (k : Nat) (h : k ≤ 140737488351232) : IntKind.u64.wrap (2147483648 + (k : Int)) = n64 (BitVec.ofNat 64 (2147483648 + k)) := by
  rw [n64_ofNat _ (by omega)]
  show (2147483648 + (k : Int)) % 18446744073709551616 = _
  omega
theorem uSw5_c (f : BitVec 64 → Bool) (B A : List Int) (u v : Value) (g : Nat) (w : World) (hu : Byt w u B) (hv : Byt w v A) (hl : A.length = B.length) (hL : B.length ≤ 140737488351232)
    (hask : ∀ (t : BitVec 64) (W : World), Below w.heap.size w W → Calls Tryz.prog 68 #[.int .u64 (n64 t), .pointer (some ⟨g, 0, none⟩)] W fun e w' => e = .returned (.bool (f t)) ∧ Below W.heap.size W w') :
    Calls Tryz.prog 25 #[u, v, .func (.func 68) #[] #[.pointer (some ⟨g, 0, none⟩)]] w fun e w' => e = .returned (.bool (swB f B A)) ∧ Below w.heap.size w w' := by
  obtain ⟨au, cu, rfl, _, _, hu2⟩ := hu
  obtain ⟨av, cv, rfl, _, _, hv2⟩ := hv
  have HU := Hid.mkU hu2
  have HVV := Hid.mkU hv2
  have HA : Hid (∀ (t : BitVec 64) (W : World), Below w.heap.size w W → Calls Tryz.prog 68 #[.int .u64 (n64 t), .pointer (some ⟨g, 0, none⟩)] W fun e w' => e = .returned (.bool (f t)) ∧ Below W.heap.size W w') := hask
  have HL := Hid.mkU hl
  clear hu2 hv2 hask hl
  have HM : Hid (swB f B A = (List.range B.length).all fun i => (A.getD i 0 == B.getD i 0) || !f (BitVec.ofNat 64 (2147483648 + i))) := rfl
  generalize swB f B A = Z at HM ⊢
  go_enter Tryz.func25, Tryz.ntmps25
  go_wp2
  go_loopw [10] (fun i wr => ∃ k : Nat, k ≤ B.length ∧ i = .int .i64 k ∧ Hid (∀ j, j < k → ((A.getD j 0 == B.getD j 0) || !f (BitVec.ofNat 64 (2147483648 + j))) = true) ∧ Hid (Below w.heap.size w wr)) (fun i _ => B.length - (intOf i).toNat)
  case atStart => exact ⟨0, Nat.zero_le _, rfl, fun j hj => absurd hj (Nat.not_lt_zero _), Below.refl _ _⟩
  case round =>
    obtain ⟨k, hk, rfl, hf, hb⟩ := hrel
    by_cases hlt : k < B.length
    · have hlt2 : (k : Int) < (B.length : Int) := by omega
      have hltA : (k : Int) < (A.length : Int) := by rw [HL.out]; omega
      obtain ⟨gu, ou, rfl, hgu, hcu⟩ := HU.out (by intro e; rw [e] at hlt; simp at hlt)
      obtain ⟨gv, ov, rfl, hgv, hcv⟩ := HVV.out (by intro e; have := HL.out; rw [e] at this; simp at this; omega)
      have hku : ∀ x : Later wr, x.1.cell? ⟨gu, ou + k, none⟩ = some (.int .u8 (B.getD k 0)) := fun x => ((hb.out.trans (x.2.mono hb.out.size)).cell hgu).trans (hcu k hlt)
      have hkv : ∀ x : Later wr, x.1.cell? ⟨gv, ov + k, none⟩ = some (.int .u8 (A.getD k 0)) := fun x => ((hb.out.trans (x.2.mono hb.out.size)).cell hgv).trans (hcv k (by rw [HL.out]; exact hlt))
      have had := ram_at k (by omega)
      have hcw : IntKind.u64.wrap (k : Int) = (k : Int) := by show (k : Int) % 18446744073709551616 = _; omega
      have HC : Hid (∀ x : Later wr, Calls Tryz.prog 68 #[.int .u64 (n64 (BitVec.ofNat 64 (2147483648 + k))), .pointer (some ⟨g, 0, none⟩)] x.1 fun e w' => e = .returned (.bool (f (BitVec.ofNat 64 (2147483648 + k)))) ∧ Below x.1.heap.size x.1 w') := fun x => HA.out _ x.1 (hb.out.trans (x.2.mono hb.out.size))
      have HK : Hid (((A.getD k 0 == B.getD k 0) || !f (BitVec.ofNat 64 (2147483648 + k))) = ((A.getD k 0 == B.getD k 0) || !f (BitVec.ofNat 64 (2147483648 + k)))) := rfl
      have HT : Hid (((A.getD k 0 == B.getD k 0) || !f (BitVec.ofNat 64 (2147483648 + k))) = true → ∀ j, j < k + 1 → ((A.getD j 0 == B.getD j 0) || !f (BitVec.ofNat 64 (2147483648 + j))) = true) := fun hq j hj => by
        by_cases e : j = k
        · rw [e]; exact hq
        · exact hf.out j (by omega)
      have HZ : Hid (((A.getD k 0 == B.getD k 0) || !f (BitVec.ofNat 64 (2147483648 + k))) = false → Z = false) := fun hq => HM.out.trans (all_hit hlt hq)
      clear hf hcu hcv HK HU HVV HA
      have hne := later_nonempty wr
      generalize f (BitVec.ofNat 64 (2147483648 + k)) = q at *
      generalize n64 (BitVec.ofNat 64 (2147483648 + k)) = y at *
      generalize hx : A.getD k 0 = x at *
      generalize hz : B.getD k 0 = z at *
      clear hx hz
      cases h1 : (x != z) with
      | false =>
        have HX : Hid ((x == z) = true) := (by unfold Hid; simpa using h1)
        have HF := Hid.mkU (HT.out (by rw [HX.out]; rfl))
        clear HT HZ HC
        go_upto_region 4 with fail
        refine wp_region_later (x0 := Later.start wr) (by kernel_rfl) (by kernel_rfl) ?_
        iterate 16 (go_big_quiet_step (fail))
        refine wpQuiet_nil ?_
        rintro _ ⟨yq, rfl⟩
        have HB2 := Hid.mkU (hb.out.trans (yq.2.mono hb.out.size))
        clear hku hkv
        go_wp2
        go_roundw
        case rel => exact ⟨k + 1, by omega, by go_num, HF, HB2⟩
        case measure => simp [intOf]; omega
      | true =>
        have HX : Hid ((x == z) = false) := (by unfold Hid; simpa using h1)
        cases q with
        | true =>
          have HV := Hid.mkU (HZ.out (by rw [HX.out]; rfl))
          clear HT HZ
          go_upto_region 4 with fail
          refine wp_region_later (x0 := Later.start wr) (by kernel_rfl) (by kernel_rfl) ?_
          iterate 14 (go_big_quiet_step (fail))
          (go_big_quiet_step ((go_at_call 68; exact calls_later (HC.out _))))
          iterate 1 (go_big_quiet_step (fail))
          refine wpQuiet_nil ?_
          rintro _ ⟨yq, rfl⟩
          have HB2 := Hid.mkU (hb.out.trans (yq.2.mono hb.out.size))
          clear hku hkv
          go_wp2
          go_ret
          exact ⟨by rw [HV.out]; first | done | rfl, HB2.out⟩
        | false =>
          have HF := Hid.mkU (HT.out (by rw [HX.out]; rfl))
          clear HT HZ
          go_upto_region 4 with fail
          refine wp_region_later (x0 := Later.start wr) (by kernel_rfl) (by kernel_rfl) ?_
          iterate 14 (go_big_quiet_step (fail))
          (go_big_quiet_step ((go_at_call 68; exact calls_later (HC.out _))))
          iterate 1 (go_big_quiet_step (fail))
          refine wpQuiet_nil ?_
          rintro _ ⟨yq, rfl⟩
          have HB2 := Hid.mkU (hb.out.trans (yq.2.mono hb.out.size))
          clear hku hkv
          go_wp2
          go_roundw
          case rel => exact ⟨k + 1, by omega, by go_num, HF, HB2⟩
          case measure => simp [intOf]; omega
    · obtain rfl : k = B.length := by omega
      have HV : Hid (Z = true) := HM.out.trans (all_none hf.out)
      clear hf HM HU HVV HA HL
      go_wp2
      go_ret
      exact ⟨by rw [HV.out]; first | done | rfl, hb.out⟩
theorem uSw6_c (f : BitVec 64 → Bool) (B A : List Int) (u v : Value) (g : Nat) (w : World) (hu : Byt w u B) (hv : Byt w v A) (hl : A.length = B.length) (hL : B.length ≤ 140737488351232)
    (hask : ∀ (t : BitVec 64) (W : World), Below w.heap.size w W → Calls Tryz.prog 70 #[.int .u64 (n64 t), .pointer (some ⟨g, 0, none⟩)] W fun e w' => e = .returned (.bool (f t)) ∧ Below W.heap.size W w') :
    Calls Tryz.prog 25 #[u, v, .func (.func 70) #[] #[.pointer (some ⟨g, 0, none⟩)]] w fun e w' => e = .returned (.bool (swB f B A)) ∧ Below w.heap.size w w' := by
  obtain ⟨au, cu, rfl, _, _, hu2⟩ := hu
  obtain ⟨av, cv, rfl, _, _, hv2⟩ := hv
  have HU := Hid.mkU hu2
  have HVV := Hid.mkU hv2
  have HA : Hid (∀ (t : BitVec 64) (W : World), Below w.heap.size w W → Calls Tryz.prog 70 #[.int .u64 (n64 t), .pointer (some ⟨g, 0, none⟩)] W fun e w' => e = .returned (.bool (f t)) ∧ Below W.heap.size W w') := hask
  have HL := Hid.mkU hl
  clear hu2 hv2 hask hl
  have HM : Hid (swB f B A = (List.range B.length).all fun i => (A.getD i 0 == B.getD i 0) || !f (BitVec.ofNat 64 (2147483648 + i))) := rfl
  generalize swB f B A = Z at HM ⊢
  go_enter Tryz.func25, Tryz.ntmps25
  go_wp2
  go_loopw [10] (fun i wr => ∃ k : Nat, k ≤ B.length ∧ i = .int .i64 k ∧ Hid (∀ j, j < k → ((A.getD j 0 == B.getD j 0) || !f (BitVec.ofNat 64 (2147483648 + j))) = true) ∧ Hid (Below w.heap.size w wr)) (fun i _ => B.length - (intOf i).toNat)
  case atStart => exact ⟨0, Nat.zero_le _, rfl, fun j hj => absurd hj (Nat.not_lt_zero _), Below.refl _ _⟩
  case round =>
    obtain ⟨k, hk, rfl, hf, hb⟩ := hrel
    by_cases hlt : k < B.length
    · have hlt2 : (k : Int) < (B.length : Int) := by omega
      have hltA : (k : Int) < (A.length : Int) := by rw [HL.out]; omega
      obtain ⟨gu, ou, rfl, hgu, hcu⟩ := HU.out (by intro e; rw [e] at hlt; simp at hlt)
      obtain ⟨gv, ov, rfl, hgv, hcv⟩ := HVV.out (by intro e; have := HL.out; rw [e] at this; simp at this; omega)
      have hku : ∀ x : Later wr, x.1.cell? ⟨gu, ou + k, none⟩ = some (.int .u8 (B.getD k 0)) := fun x => ((hb.out.trans (x.2.mono hb.out.size)).cell hgu).trans (hcu k hlt)
      have hkv : ∀ x : Later wr, x.1.cell? ⟨gv, ov + k, none⟩ = some (.int .u8 (A.getD k 0)) := fun x => ((hb.out.trans (x.2.mono hb.out.size)).cell hgv).trans (hcv k (by rw [HL.out]; exact hlt))
      have had := ram_at k (by omega)
      have hcw : IntKind.u64.wrap (k : Int) = (k : Int) := by show (k : Int) % 18446744073709551616 = _; omega
      have HC : Hid (∀ x : Later wr, Calls Tryz.prog 70 #[.int .u64 (n64 (BitVec.ofNat 64 (2147483648 + k))), .pointer (some ⟨g, 0, none⟩)] x.1 fun e w' => e = .returned (.bool (f (BitVec.ofNat 64 (2147483648 + k)))) ∧ Below x.1.heap.size x.1 w') := fun x => HA.out _ x.1 (hb.out.trans (x.2.mono hb.out.size))
      have HK : Hid (((A.getD k 0 == B.getD k 0) || !f (BitVec.ofNat 64 (2147483648 + k))) = ((A.getD k 0 == B.getD k 0) || !f (BitVec.ofNat 64 (2147483648 + k)))) := rfl
      have HT : Hid (((A.getD k 0 == B.getD k 0) || !f (BitVec.ofNat 64 (2147483648 + k))) = true → ∀ j, j < k + 1 → ((A.getD j 0 == B.getD j 0) || !f (BitVec.ofNat 64 (2147483648 + j))) = true) := fun hq j hj => by
        by_cases e : j = k
        · rw [e]; exact hq
        · exact hf.out j (by omega)
      have HZ : Hid (((A.getD k 0 == B.getD k 0) || !f (BitVec.ofNat 64 (2147483648 + k))) = false → Z = false) := fun hq => HM.out.trans (all_hit hlt hq)
      clear hf hcu hcv HK HU HVV HA
      have hne := later_nonempty wr
      generalize f (BitVec.ofNat 64 (2147483648 + k)) = q at *
      generalize n64 (BitVec.ofNat 64 (2147483648 + k)) = y at *
      generalize hx : A.getD k 0 = x at *
      generalize hz : B.getD k 0 = z at *
      clear hx hz
      cases h1 : (x != z) with
      | false =>
        have HX : Hid ((x == z) = true) := (by unfold Hid; simpa using h1)
        have HF := Hid.mkU (HT.out (by rw [HX.out]; rfl))
        clear HT HZ HC
        go_upto_region 4 with fail
        refine wp_region_later (x0 := Later.start wr) (by kernel_rfl) (by kernel_rfl) ?_
        iterate 16 (go_big_quiet_step (fail))
        refine wpQuiet_nil ?_
        rintro _ ⟨yq, rfl⟩
        have HB2 := Hid.mkU (hb.out.trans (yq.2.mono hb.out.size))
        clear hku hkv
        go_wp2
        go_roundw
        case rel => exact ⟨k + 1, by omega, by go_num, HF, HB2⟩
        case measure => simp [intOf]; omega
      | true =>
        have HX : Hid ((x == z) = false) := (by unfold Hid; simpa using h1)
        cases q with
        | true =>
          have HV := Hid.mkU (HZ.out (by rw [HX.out]; rfl))
          clear HT HZ
          go_upto_region 4 with fail
          refine wp_region_later (x0 := Later.start wr) (by kernel_rfl) (by kernel_rfl) ?_
          iterate 14 (go_big_quiet_step (fail))
          (go_big_quiet_step ((go_at_call 70; exact calls_later (HC.out _))))
          iterate 1 (go_big_quiet_step (fail))
          refine wpQuiet_nil ?_
          rintro _ ⟨yq, rfl⟩
          have HB2 := Hid.mkU (hb.out.trans (yq.2.mono hb.out.size))
          clear hku hkv
          go_wp2
          go_ret
          exact ⟨by rw [HV.out]; first | done | rfl, HB2.out⟩
        | false =>
          have HF := Hid.mkU (HT.out (by rw [HX.out]; rfl))
          clear HT HZ
          go_upto_region 4 with fail
          refine wp_region_later (x0 := Later.start wr) (by kernel_rfl) (by kernel_rfl) ?_
          iterate 14 (go_big_quiet_step (fail))
          (go_big_quiet_step ((go_at_call 70; exact calls_later (HC.out _))))
          iterate 1 (go_big_quiet_step (fail))
          refine wpQuiet_nil ?_
          rintro _ ⟨yq, rfl⟩
          have HB2 := Hid.mkU (hb.out.trans (yq.2.mono hb.out.size))
          clear hku hkv
          go_wp2
          go_roundw
          case rel => exact ⟨k + 1, by omega, by go_num, HF, HB2⟩
          case measure => simp [intOf]; omega
    · obtain rfl : k = B.length := by omega
      have HV : Hid (Z = true) := HM.out.trans (all_none hf.out)
      clear hf HM HU HVV HA HL
      go_wp2
      go_ret
      exact ⟨by rw [HV.out]; first | done | rfl, hb.out⟩
theorem uSwA_c (f : BitVec 64 → Bool) (B A : List Int) (u v : Value) (g : Nat) (w : World) (hu : Byt w u B) (hv : Byt w v A) (hl : A.length = B.length) (hL : B.length ≤ 140737488351232)
    (hask : ∀ (t : BitVec 64) (W : World), Below w.heap.size w W → Calls Tryz.prog 26 #[.int .u64 (n64 t), .pointer (some ⟨g, 0, none⟩)] W fun e w' => e = .returned (.bool (f t)) ∧ Below W.heap.size W w') :
    Calls Tryz.prog 25 #[u, v, .func (.func 26) #[] #[.pointer (some ⟨g, 0, none⟩)]] w fun e w' => e = .returned (.bool (swB f B A)) ∧ Below w.heap.size w w' := by
  obtain ⟨au, cu, rfl, _, _, hu2⟩ := hu
  obtain ⟨av, cv, rfl, _, _, hv2⟩ := hv
  have HU := Hid.mkU hu2
  have HVV := Hid.mkU hv2
  have HA : Hid (∀ (t : BitVec 64) (W : World), Below w.heap.size w W → Calls Tryz.prog 26 #[.int .u64 (n64 t), .pointer (some ⟨g, 0, none⟩)] W fun e w' => e = .returned (.bool (f t)) ∧ Below W.heap.size W w') := hask
  have HL := Hid.mkU hl
  clear hu2 hv2 hask hl
  have HM : Hid (swB f B A = (List.range B.length).all fun i => (A.getD i 0 == B.getD i 0) || !f (BitVec.ofNat 64 (2147483648 + i))) := rfl
  generalize swB f B A = Z at HM ⊢
  go_enter Tryz.func25, Tryz.ntmps25
  go_wp2
  go_loopw [10] (fun i wr => ∃ k : Nat, k ≤ B.length ∧ i = .int .i64 k ∧ Hid (∀ j, j < k → ((A.getD j 0 == B.getD j 0) || !f (BitVec.ofNat 64 (2147483648 + j))) = true) ∧ Hid (Below w.heap.size w wr)) (fun i _ => B.length - (intOf i).toNat)
  case atStart => exact ⟨0, Nat.zero_le _, rfl, fun j hj => absurd hj (Nat.not_lt_zero _), Below.refl _ _⟩
  case round =>
    obtain ⟨k, hk, rfl, hf, hb⟩ := hrel
    by_cases hlt : k < B.length
    · have hlt2 : (k : Int) < (B.length : Int) := by omega
      have hltA : (k : Int) < (A.length : Int) := by rw [HL.out]; omega
      obtain ⟨gu, ou, rfl, hgu, hcu⟩ := HU.out (by intro e; rw [e] at hlt; simp at hlt)
      obtain ⟨gv, ov, rfl, hgv, hcv⟩ := HVV.out (by intro e; have := HL.out; rw [e] at this; simp at this; omega)
      have hku : ∀ x : Later wr, x.1.cell? ⟨gu, ou + k, none⟩ = some (.int .u8 (B.getD k 0)) := fun x => ((hb.out.trans (x.2.mono hb.out.size)).cell hgu).trans (hcu k hlt)
      have hkv : ∀ x : Later wr, x.1.cell? ⟨gv, ov + k, none⟩ = some (.int .u8 (A.getD k 0)) := fun x => ((hb.out.trans (x.2.mono hb.out.size)).cell hgv).trans (hcv k (by rw [HL.out]; exact hlt))
      have had := ram_at k (by omega)
      have hcw : IntKind.u64.wrap (k : Int) = (k : Int) := by show (k : Int) % 18446744073709551616 = _; omega
      have HC : Hid (∀ x : Later wr, Calls Tryz.prog 26 #[.int .u64 (n64 (BitVec.ofNat 64 (2147483648 + k))), .pointer (some ⟨g, 0, none⟩)] x.1 fun e w' => e = .returned (.bool (f (BitVec.ofNat 64 (2147483648 + k)))) ∧ Below x.1.heap.size x.1 w') := fun x => HA.out _ x.1 (hb.out.trans (x.2.mono hb.out.size))
      have HK : Hid (((A.getD k 0 == B.getD k 0) || !f (BitVec.ofNat 64 (2147483648 + k))) = ((A.getD k 0 == B.getD k 0) || !f (BitVec.ofNat 64 (2147483648 + k)))) := rfl
      have HT : Hid (((A.getD k 0 == B.getD k 0) || !f (BitVec.ofNat 64 (2147483648 + k))) = true → ∀ j, j < k + 1 → ((A.getD j 0 == B.getD j 0) || !f (BitVec.ofNat 64 (2147483648 + j))) = true) := fun hq j hj => by
        by_cases e : j = k
        · rw [e]; exact hq
        · exact hf.out j (by omega)
      have HZ : Hid (((A.getD k 0 == B.getD k 0) || !f (BitVec.ofNat 64 (2147483648 + k))) = false → Z = false) := fun hq => HM.out.trans (all_hit hlt hq)
      clear hf hcu hcv HK HU HVV HA
      have hne := later_nonempty wr
      generalize f (BitVec.ofNat 64 (2147483648 + k)) = q at *
      generalize n64 (BitVec.ofNat 64 (2147483648 + k)) = y at *
      generalize hx : A.getD k 0 = x at *
      generalize hz : B.getD k 0 = z at *
      clear hx hz
      cases h1 : (x != z) with
      | false =>
        have HX : Hid ((x == z) = true) := (by unfold Hid; simpa using h1)
        have HF := Hid.mkU (HT.out (by rw [HX.out]; rfl))
        clear HT HZ HC
        go_upto_region 4 with fail
        refine wp_region_later (x0 := Later.start wr) (by kernel_rfl) (by kernel_rfl) ?_
        iterate 16 (go_big_quiet_step (fail))
        refine wpQuiet_nil ?_
        rintro _ ⟨yq, rfl⟩
        have HB2 := Hid.mkU (hb.out.trans (yq.2.mono hb.out.size))
        clear hku hkv
        go_wp2
        go_roundw
        case rel => exact ⟨k + 1, by omega, by go_num, HF, HB2⟩
        case measure => simp [intOf]; omega
      | true =>
        have HX : Hid ((x == z) = false) := (by unfold Hid; simpa using h1)
        cases q with
        | true =>
          have HV := Hid.mkU (HZ.out (by rw [HX.out]; rfl))
          clear HT HZ
          go_upto_region 4 with fail
          refine wp_region_later (x0 := Later.start wr) (by kernel_rfl) (by kernel_rfl) ?_
          iterate 14 (go_big_quiet_step (fail))
          (go_big_quiet_step ((go_at_call 26; exact calls_later (HC.out _))))
          iterate 1 (go_big_quiet_step (fail))
          refine wpQuiet_nil ?_
          rintro _ ⟨yq, rfl⟩
          have HB2 := Hid.mkU (hb.out.trans (yq.2.mono hb.out.size))
          clear hku hkv
          go_wp2
          go_ret
          exact ⟨by rw [HV.out]; first | done | rfl, HB2.out⟩
        | false =>
          have HF := Hid.mkU (HT.out (by rw [HX.out]; rfl))
          clear HT HZ
          go_upto_region 4 with fail
          refine wp_region_later (x0 := Later.start wr) (by kernel_rfl) (by kernel_rfl) ?_
          iterate 14 (go_big_quiet_step (fail))
          (go_big_quiet_step ((go_at_call 26; exact calls_later (HC.out _))))
          iterate 1 (go_big_quiet_step (fail))
          refine wpQuiet_nil ?_
          rintro _ ⟨yq, rfl⟩
          have HB2 := Hid.mkU (hb.out.trans (yq.2.mono hb.out.size))
          clear hku hkv
          go_wp2
          go_roundw
          case rel => exact ⟨k + 1, by omega, by go_num, HF, HB2⟩
          case measure => simp [intOf]; omega
    · obtain rfl : k = B.length := by omega
      have HV : Hid (Z = true) := HM.out.trans (all_none hf.out)
      clear hf HM HU HVV HA HL
      go_wp2
      go_ret
      exact ⟨by rw [HV.out]; first | done | rfl, hb.out⟩
def byI (d : BitVec 64) (k : Nat) : Int := IntKind.u8.wrap (n64 d / 2 ^ (8 * k))
/-- Does RAM hold the number's bytes at the place (if it lies in RAM whole)? -/
def holB (p : Pl) (A : List Int) (d : BitVec 64) : Bool := if (decide (n64 p.f < 2147483648) || decide ((A.length : Int) < n64 (p.f - 2147483648#64) + p.n)) then true else (List.range p.n.toNat).all fun k => A.getD ((p.f - 2147483648#64).toNat + k) 0 == byI d k
theorem uHol_c (p : Pl) (m : Nat) (hp : p.n = (m : Int)) (hm : m ≤ 8) (A : List Int) (v : Value) (d : BitVec 64) (w : World) (hv : Byt w v A) (hL : A.length ≤ 140737488351232) :
    Calls Tryz.prog 72 #[.agg (plc2 p), v, .int .u64 (n64 d)] w fun e w' => e = .returned (.bool (holB p A d)) ∧ Below w.heap.size w w' := by
  obtain ⟨pf, pn⟩ := p
  simp only at hp
  subst hp
  obtain ⟨W0, hW0, r0, b0, s0⟩ := start1 w (plc2 ⟨pf, m⟩) 97
  obtain ⟨av, cv, rfl, _, _, hv2⟩ := hv
  have HVV := Hid.mkU hv2
  clear hv2
  have HM : Hid (holB ⟨pf, m⟩ A d = if (decide (n64 pf < 2147483648) || decide ((A.length : Int) < n64 (pf - 2147483648#64) + (m : Int))) then true else (List.range m).all fun k => A.getD ((pf - 2147483648#64).toNat + k) 0 == byI d k) := (by unfold Hid holB; simp only [Int.toNat_natCast])
  generalize holB ⟨pf, m⟩ A d = Z at HM ⊢
  have cf : W0.cell? ⟨w.heap.size, 0, none⟩ = some (.int .u64 (n64 pf)) := r0.out.cell 0
  have cn : W0.cell? ⟨w.heap.size, 1, none⟩ = some (.int .u64 (m : Int)) := r0.out.cell 1
  have HR := Hid.mkU r0.out
  have HB := Hid.mkU b0.out
  have HS := Hid.mkU s0
  clear r0 b0 s0
  have hsub : IntKind.u64.wrap (n64 pf - 2147483648) = n64 (pf - 2147483648#64) := n64_sub pf 2147483648#64
  have hlen : IntKind.u64.wrap (A.length : Int) = (A.length : Int) := by show (A.length : Int) % 18446744073709551616 = _; omega
  obtain ⟨y, hy⟩ : ∃ y : Nat, y = (pf - 2147483648#64).toNat := ⟨_, rfl⟩
  have hyn : n64 (pf - 2147483648#64) = (y : Int) := by unfold n64; rw [hy]
  rw [← hy] at HM
  rw [hyn] at HM hsub
  have hyl : y ≤ 18446744073709551615 := by rw [hy]; have := (pf - 2147483648#64).isLt; omega
  have hyu : n64 pf = (y : Int) + 2147483648 ∨ n64 pf < 2147483648 := by
    by_cases h : n64 pf < 2147483648
    · exact Or.inr h
    · left; rw [← hyn, ← n64_sub pf 2147483648#64]
      show n64 pf = (n64 pf - 2147483648) % 18446744073709551616 + 2147483648
      have : n64 pf < 18446744073709551616 := by unfold n64; have := pf.isLt; omega
      omega
  clear hy hyn
  go_enter Tryz.func72, Tryz.ntmps72
  go_upto_region 1 with fail
  clear hW0
  cases q1 : decide (n64 pf < 2147483648) with
  | true =>
    have HV : Hid (Z = true) := (by unfold Hid; rw [HM.out, q1]; rfl)
    clear HM hyu
    go_wp2
    go_ret
    exact ⟨by rw [HV.out]; first | done | rfl, HB.out⟩
  | false =>
    have hnp := of_decide_eq_false q1
    have hsum : IntKind.u64.wrap ((y : Int) + (m : Int)) = (y : Int) + (m : Int) := by
      have : n64 pf < 18446744073709551616 := by unfold n64; have := pf.isLt; omega
      show ((y : Int) + (m : Int)) % 18446744073709551616 = _
      omega
    cases q2 : decide ((A.length : Int) < (y : Int) + (m : Int)) with
    | true =>
      have HV : Hid (Z = true) := (by unfold Hid; rw [HM.out, q1, q2]; rfl)
      clear HM hyu hnp
      go_wp2
      go_ret
      exact ⟨by rw [HV.out]; first | done | rfl, HB.out⟩
    | false =>
      have hin := of_decide_eq_false q2
      have HN : Hid (Z = (List.range m).all fun k => A.getD (y + k) 0 == byI d k) := (by unfold Hid; rw [HM.out, q1, q2]; rfl)
      clear HM hyu hnp
      go_wp2
      clear q1 q2
      go_loopw [25] (fun i wr => ∃ k : Nat, k ≤ m ∧ i = .int .u64 k ∧ Hid (∀ j, j < k → (A.getD (y + j) 0 == byI d j) = true) ∧ wr = W0) (fun i _ => m - (intOf i).toNat)
      case atStart => exact ⟨0, Nat.zero_le _, rfl, fun j hj => absurd hj (Nat.not_lt_zero _), rfl⟩
      case round =>
        obtain ⟨k, hk, rfl, hf, hwr⟩ := hrel
        subst hwr
        by_cases hlt : k < m
        · have hlt2 : (k : Int) < (m : Int) := by omega
          obtain ⟨gv, ov, rfl, hgv, hcv⟩ := HVV.out (by intro e; rw [e] at hin; simp at hin; omega)
          have hcell : wr.cell? ⟨gv, ov + (y + k), none⟩ = some (.int .u8 (A.getD (y + k) 0)) := (HB.out.cell hgv).trans (hcv (y + k) (by omega))
          have had : IntKind.u64.wrap ((y : Int) + (k : Int)) = ((y + k : Nat) : Int) := by show ((y : Int) + (k : Int)) % 18446744073709551616 = _; omega
          have hix : ((y + k : Nat) : Int) < (A.length : Int) := by omega
          have hmul : IntKind.u64.wrap (8 * (k : Int)) = ((8 * k : Nat) : Int) := by show (8 * (k : Int)) % 18446744073709551616 = _; omega
          have h64 : ((8 * k : Nat) : Int) < 64 := by omega
          have hwk : IntKind.u64.wrap ((k : Int) + 1) = ((k + 1 : Nat) : Int) := by show ((k : Int) + 1) % 18446744073709551616 = _; omega
          have hby : IntKind.u8.wrap (n64 d / 2 ^ (8 * k)) = byI d k := rfl
          have HT : Hid ((A.getD (y + k) 0 == byI d k) = true → ∀ j, j < k + 1 → (A.getD (y + j) 0 == byI d j) = true) := fun hq j hj => by
            by_cases e : j = k
            · rw [e]; exact hq
            · exact hf.out j (by omega)
          have HZ : Hid ((A.getD (y + k) 0 == byI d k) = false → Z = false) := fun hq => HN.out.trans (all_hit hlt hq)
          clear hf hcv
          generalize hx : A.getD (y + k) 0 = x at *
          generalize hbz : byI d k = z at *
          clear hx hbz
          generalize hyk : y + k = yk at *
          generalize h8k : 8 * k = k8 at *
          cases h1 : (x != z) with
          | false =>
            have HF := Hid.mkU (HT.out (by simpa using h1))
            clear HT HZ
            go_wp2
            go_roundw
            case rel => exact ⟨k + 1, by omega, by first | rfl | (congr 1), HF, trivial⟩
            case measure => simp [intOf]; omega
          | true =>
            have HV := Hid.mkU (HZ.out (by simpa using h1))
            clear HT HZ
            go_wp2
            go_ret
            exact ⟨by rw [HV.out]; first | done | rfl, HB.out⟩
        · obtain rfl : k = m := by omega
          have HV : Hid (Z = true) := HN.out.trans (all_none hf.out)
          clear hf HN
          go_wp2
          go_ret
          exact ⟨by rw [HV.out]; first | done | rfl, HB.out⟩
end Go.Proofs.YtidfndgedopghaaGreatDoor
