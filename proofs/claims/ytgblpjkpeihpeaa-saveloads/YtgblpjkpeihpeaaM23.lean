/-
  Ke.
-/
import Derived.Test.YtgblpjkpeihpeaaM21
import Derived.Test.YtgblpjkpeihpeaaM22
namespace Go.Proofs.Ytgblpjkpeihpeaa
set_option linter.unusedVariables false
set_option maxRecDepth 100000
open Go.ChangeShapes Go.WideShapes Go.ChangeAt Go.RowKit Go.Deep
set_option maxHeartbeats 8000000 in
theorem rdev_c {B : Nat} {w : World} {g : Nat} {L : List Int} {q : Nat} {b : Bool} (h : Rrd B w g L (q) b) (hall : AllB L) :
    Calls Try.prog 38 #[.pointer (some ⟨g, 0, none⟩)] w fun e w' => DevP (fun W => Rrd B W g L (devQ L q) (devF L q b)) L q b g w e w' := by
  have hz := zero_bus
  obtain ⟨W0, hW0, r0, r1, b0, s0⟩ := start2 w #[.slice none 0 0, .int .u32 0, .int .u64 0, .int .u64 0, .bool false, .bool false, .int .u8 0, .int .u8 0, .int .u8 0, .int .u8 0, .bool false, .slice none 0 0, .slice none 0 0, .int .i64 0, .int .i64 0] #[.slice none 0 0, .int .u32 0, .int .u64 0, .int .u64 0, .bool false, .bool false, .int .u8 0, .int .u8 0, .int .u8 0, .int .u8 0, .bool false, .slice none 0 0, .slice none 0 0, .int .i64 0, .int .i64 0] 35 35
  have hgl : g < w.heap.size := h.lt
  have HP0 := Hid.mk' (h.later b0.out)
  have HX0 : Hid (Exc (· = g) w W0) := Exc.of_below b0.out rfl
  go_enter Try.func38, Try.ntmps38
  go_upto_region 2 with fail
  obtain ⟨g0, hg0⟩ : ∃ g0, g0 = w.heap.size := ⟨_, rfl⟩
  obtain ⟨g1, hg1⟩ : ∃ g1, g1 = w.heap.size + 1 := ⟨_, rfl⟩
  have hne : g1 ≠ g := by omega
  have hn0 : g0 ≠ g := by omega
  have hB1 : B ≤ g1 := by have := h.bg; omega
  have hB0 : B ≤ g0 := by have := h.bg; omega
  have hw1 : w.heap.size ≤ g1 := by omega
  have hw0 : w.heap.size ≤ g0 := by omega
  have h01 : g0 < g1 := by omega
  rw [← hg0] at r0
  rw [← hg1] at r1
  have HZ0 := Hid.mk' r0.out
  have HR0 := Hid.mk' r1.out
  rw [← hg1, ← hg0]
  clear hz hW0 r0 r1 b0 s0 h hgl hg0 hg1
  go_upto_region 3 with (go_at_call 60; refine (rnum_c HP0.out 4 (by omega)).mono ?_; rintro e V1 ⟨N1, rfl, h1, h2, h3, h4⟩; have HN1 := Hid.mk' h1; have HV1 := Hid.mk' h2; have HQ1 := Hid.mk' h3; have HG1 := Hid.mk' h4; clear h1 h2 h3 h4; have hN1 : ((N1 : Nat) : Int) < 4294967296 := (by have := HN1.out; omega); unfold u64V; have HS1 : Hid (Row V1 g1 #[.slice none 0 0, .int .u32 0, .int .u64 0, .int .u64 0, .bool false, .bool false, .int .u8 0, .int .u8 0, .int .u8 0, .int .u8 0, .bool false, .slice none 0 0, .slice none 0 0, .int .i64 0, .int .i64 0] 35) := (HG1.out.block g1 HR0.out.lt hne).trans HR0.out; have cS := HS1.out.cell 1; have fS := HS1.out.froz 1)
  clear cS fS
  refine on_W (motive := fun W => Code.wp _ _ _ _ W) (Q := fun W => Row W g1 #[.slice none 0 0, .int .u32 ((N1 : Nat) : Int), .int .u64 0, .int .u64 0, .bool false, .bool false, .int .u8 0, .int .u8 0, .int .u8 0, .int .u8 0, .bool false, .slice none 0 0, .slice none 0 0, .int .i64 0, .int .i64 0] 35 ∧ Row W g0 #[.slice none 0 0, .int .u32 0, .int .u64 0, .int .u64 0, .bool false, .bool false, .int .u8 0, .int .u8 0, .int .u8 0, .int .u8 0, .bool false, .slice none 0 0, .slice none 0 0, .int .i64 0, .int .i64 0] 35 ∧ Rrd B W g L (q + 4) b ∧ Exc (· = g) w W)
    ⟨HS1.out.put (i := 1) (.int .u32 ((N1 : Nat) : Int)), Row.other (show Row _ g0 #[.slice none 0 0, .int .u32 0, .int .u64 0, .int .u64 0, .bool false, .bool false, .int .u8 0, .int .u8 0, .int .u8 0, .int .u8 0, .bool false, .slice none 0 0, .slice none 0 0, .int .i64 0, .int .i64 0] 35 from (HG1.out.block g0 HZ0.out.lt hn0).trans HZ0.out) (by omega) _, HQ1.out.put (Ne.symm hne) hB1 _, (HX0.out.trans HG1.out).put hw1 _⟩ ?_
  rintro W1 ⟨p1, p2, p3, p4⟩
  have HR1 := Hid.mk' p1
  have HZ1 := Hid.mk' p2
  have HP1 := Hid.mk' p3
  have HX1 := Hid.mk' p4
  clear p1 p2 p3 p4 HS1 HQ1 HG1 HR0 HZ0 HP0 HX0
  go_upto_region 4 with (go_at_call 60; refine (rnum_c HP1.out 8 (by omega)).mono ?_; rintro e V2 ⟨N2, rfl, h1, h2, h3, h4⟩; have HN2 := Hid.mk' h1; have HV2 := Hid.mk' h2; have HQ2 := Hid.mk' h3; have HG2 := Hid.mk' h4; clear h1 h2 h3 h4; have hN2 : ((N2 : Nat) : Int) < 18446744073709551616 := (by have := HN2.out; omega); unfold u64V; have HS2 : Hid (Row V2 g1 #[.slice none 0 0, .int .u32 ((N1 : Nat) : Int), .int .u64 0, .int .u64 0, .bool false, .bool false, .int .u8 0, .int .u8 0, .int .u8 0, .int .u8 0, .bool false, .slice none 0 0, .slice none 0 0, .int .i64 0, .int .i64 0] 35) := (HG2.out.block g1 HR1.out.lt hne).trans HR1.out; have cS := HS2.out.cell 2; have fS := HS2.out.froz 2)
  clear cS fS
  refine on_W (motive := fun W => Code.wp _ _ _ _ W) (Q := fun W => Row W g1 #[.slice none 0 0, .int .u32 ((N1 : Nat) : Int), .int .u64 ((N2 : Nat) : Int), .int .u64 0, .bool false, .bool false, .int .u8 0, .int .u8 0, .int .u8 0, .int .u8 0, .bool false, .slice none 0 0, .slice none 0 0, .int .i64 0, .int .i64 0] 35 ∧ Row W g0 #[.slice none 0 0, .int .u32 0, .int .u64 0, .int .u64 0, .bool false, .bool false, .int .u8 0, .int .u8 0, .int .u8 0, .int .u8 0, .bool false, .slice none 0 0, .slice none 0 0, .int .i64 0, .int .i64 0] 35 ∧ Rrd B W g L (q + 4 + 8) b ∧ Exc (· = g) w W)
    ⟨HS2.out.put (i := 2) (.int .u64 ((N2 : Nat) : Int)), Row.other (show Row _ g0 #[.slice none 0 0, .int .u32 0, .int .u64 0, .int .u64 0, .bool false, .bool false, .int .u8 0, .int .u8 0, .int .u8 0, .int .u8 0, .bool false, .slice none 0 0, .slice none 0 0, .int .i64 0, .int .i64 0] 35 from (HG2.out.block g0 HZ1.out.lt hn0).trans HZ1.out) (by omega) _, HQ2.out.put (Ne.symm hne) hB1 _, (HX1.out.trans HG2.out).put hw1 _⟩ ?_
  rintro W2 ⟨p1, p2, p3, p4⟩
  have HR2 := Hid.mk' p1
  have HZ2 := Hid.mk' p2
  have HP2 := Hid.mk' p3
  have HX2 := Hid.mk' p4
  clear p1 p2 p3 p4 HS2 HQ2 HG2 HR1 HZ1 HP1 HX1
  go_upto_region 5 with (go_at_call 60; refine (rnum_c HP2.out 8 (by omega)).mono ?_; rintro e V3 ⟨N3, rfl, h1, h2, h3, h4⟩; have HN3 := Hid.mk' h1; have HV3 := Hid.mk' h2; have HQ3 := Hid.mk' h3; have HG3 := Hid.mk' h4; clear h1 h2 h3 h4; have hN3 : ((N3 : Nat) : Int) < 18446744073709551616 := (by have := HN3.out; omega); unfold u64V; have HS3 : Hid (Row V3 g1 #[.slice none 0 0, .int .u32 ((N1 : Nat) : Int), .int .u64 ((N2 : Nat) : Int), .int .u64 0, .bool false, .bool false, .int .u8 0, .int .u8 0, .int .u8 0, .int .u8 0, .bool false, .slice none 0 0, .slice none 0 0, .int .i64 0, .int .i64 0] 35) := (HG3.out.block g1 HR2.out.lt hne).trans HR2.out; have cS := HS3.out.cell 3; have fS := HS3.out.froz 3)
  clear cS fS
  refine on_W (motive := fun W => Code.wp _ _ _ _ W) (Q := fun W => Row W g1 #[.slice none 0 0, .int .u32 ((N1 : Nat) : Int), .int .u64 ((N2 : Nat) : Int), .int .u64 ((N3 : Nat) : Int), .bool false, .bool false, .int .u8 0, .int .u8 0, .int .u8 0, .int .u8 0, .bool false, .slice none 0 0, .slice none 0 0, .int .i64 0, .int .i64 0] 35 ∧ Row W g0 #[.slice none 0 0, .int .u32 0, .int .u64 0, .int .u64 0, .bool false, .bool false, .int .u8 0, .int .u8 0, .int .u8 0, .int .u8 0, .bool false, .slice none 0 0, .slice none 0 0, .int .i64 0, .int .i64 0] 35 ∧ Rrd B W g L (q + 4 + 8 + 8) b ∧ Exc (· = g) w W)
    ⟨HS3.out.put (i := 3) (.int .u64 ((N3 : Nat) : Int)), Row.other (show Row _ g0 #[.slice none 0 0, .int .u32 0, .int .u64 0, .int .u64 0, .bool false, .bool false, .int .u8 0, .int .u8 0, .int .u8 0, .int .u8 0, .bool false, .slice none 0 0, .slice none 0 0, .int .i64 0, .int .i64 0] 35 from (HG3.out.block g0 HZ2.out.lt hn0).trans HZ2.out) (by omega) _, HQ3.out.put (Ne.symm hne) hB1 _, (HX2.out.trans HG3.out).put hw1 _⟩ ?_
  rintro W3 ⟨p1, p2, p3, p4⟩
  have HR3 := Hid.mk' p1
  have HZ3 := Hid.mk' p2
  have HP3 := Hid.mk' p3
  have HX3 := Hid.mk' p4
  clear p1 p2 p3 p4 HS3 HQ3 HG3 HR2 HZ2 HP2 HX2
  go_upto_region 6 with (go_at_call 61; refine (rflag_c HP3.out).mono ?_; rintro e V4 ⟨f4, rfl, h2, h3, h4⟩; have HV4 := Hid.mk' h2; have HQ4 := Hid.mk' h3; have HG4 := Hid.mk' h4; clear h2 h3 h4; have HS4 : Hid (Row V4 g1 #[.slice none 0 0, .int .u32 ((N1 : Nat) : Int), .int .u64 ((N2 : Nat) : Int), .int .u64 ((N3 : Nat) : Int), .bool false, .bool false, .int .u8 0, .int .u8 0, .int .u8 0, .int .u8 0, .bool false, .slice none 0 0, .slice none 0 0, .int .i64 0, .int .i64 0] 35) := (HG4.out.block g1 HR3.out.lt hne).trans HR3.out; have cS := HS4.out.cell 4; have fS := HS4.out.froz 4)
  clear cS fS
  refine on_W (motive := fun W => Code.wp _ _ _ _ W) (Q := fun W => Row W g1 #[.slice none 0 0, .int .u32 ((N1 : Nat) : Int), .int .u64 ((N2 : Nat) : Int), .int .u64 ((N3 : Nat) : Int), .bool f4, .bool false, .int .u8 0, .int .u8 0, .int .u8 0, .int .u8 0, .bool false, .slice none 0 0, .slice none 0 0, .int .i64 0, .int .i64 0] 35 ∧ Row W g0 #[.slice none 0 0, .int .u32 0, .int .u64 0, .int .u64 0, .bool false, .bool false, .int .u8 0, .int .u8 0, .int .u8 0, .int .u8 0, .bool false, .slice none 0 0, .slice none 0 0, .int .i64 0, .int .i64 0] 35 ∧ Rrd B W g L (q + 4 + 8 + 8 + 1) (b || decide (1 < nv L (q + 4 + 8 + 8) 1)) ∧ Exc (· = g) w W)
    ⟨HS4.out.put (i := 4) (.bool f4), Row.other (show Row _ g0 #[.slice none 0 0, .int .u32 0, .int .u64 0, .int .u64 0, .bool false, .bool false, .int .u8 0, .int .u8 0, .int .u8 0, .int .u8 0, .bool false, .slice none 0 0, .slice none 0 0, .int .i64 0, .int .i64 0] 35 from (HG4.out.block g0 HZ3.out.lt hn0).trans HZ3.out) (by omega) _, HQ4.out.put (Ne.symm hne) hB1 _, (HX3.out.trans HG4.out).put hw1 _⟩ ?_
  rintro W4 ⟨p1, p2, p3, p4⟩
  have HR4 := Hid.mk' p1
  have HZ4 := Hid.mk' p2
  have HP4 := Hid.mk' p3
  have HX4 := Hid.mk' p4
  clear p1 p2 p3 p4 HS4 HQ4 HG4 HR3 HZ3 HP3 HX3
  go_upto_region 7 with (go_at_call 61; refine (rflag_c HP4.out).mono ?_; rintro e V5 ⟨f5, rfl, h2, h3, h4⟩; have HV5 := Hid.mk' h2; have HQ5 := Hid.mk' h3; have HG5 := Hid.mk' h4; clear h2 h3 h4; have HS5 : Hid (Row V5 g1 #[.slice none 0 0, .int .u32 ((N1 : Nat) : Int), .int .u64 ((N2 : Nat) : Int), .int .u64 ((N3 : Nat) : Int), .bool f4, .bool false, .int .u8 0, .int .u8 0, .int .u8 0, .int .u8 0, .bool false, .slice none 0 0, .slice none 0 0, .int .i64 0, .int .i64 0] 35) := (HG5.out.block g1 HR4.out.lt hne).trans HR4.out; have cS := HS5.out.cell 5; have fS := HS5.out.froz 5)
  clear cS fS
  refine on_W (motive := fun W => Code.wp _ _ _ _ W) (Q := fun W => Row W g1 #[.slice none 0 0, .int .u32 ((N1 : Nat) : Int), .int .u64 ((N2 : Nat) : Int), .int .u64 ((N3 : Nat) : Int), .bool f4, .bool f5, .int .u8 0, .int .u8 0, .int .u8 0, .int .u8 0, .bool false, .slice none 0 0, .slice none 0 0, .int .i64 0, .int .i64 0] 35 ∧ Row W g0 #[.slice none 0 0, .int .u32 0, .int .u64 0, .int .u64 0, .bool false, .bool false, .int .u8 0, .int .u8 0, .int .u8 0, .int .u8 0, .bool false, .slice none 0 0, .slice none 0 0, .int .i64 0, .int .i64 0] 35 ∧ Rrd B W g L (q + 4 + 8 + 8 + 1 + 1) ((b || decide (1 < nv L (q + 4 + 8 + 8) 1)) || decide (1 < nv L (q + 4 + 8 + 8 + 1) 1)) ∧ Exc (· = g) w W)
    ⟨HS5.out.put (i := 5) (.bool f5), Row.other (show Row _ g0 #[.slice none 0 0, .int .u32 0, .int .u64 0, .int .u64 0, .bool false, .bool false, .int .u8 0, .int .u8 0, .int .u8 0, .int .u8 0, .bool false, .slice none 0 0, .slice none 0 0, .int .i64 0, .int .i64 0] 35 from (HG5.out.block g0 HZ4.out.lt hn0).trans HZ4.out) (by omega) _, HQ5.out.put (Ne.symm hne) hB1 _, (HX4.out.trans HG5.out).put hw1 _⟩ ?_
  rintro W5 ⟨p1, p2, p3, p4⟩
  have HR5 := Hid.mk' p1
  have HZ5 := Hid.mk' p2
  have HP5 := Hid.mk' p3
  have HX5 := Hid.mk' p4
  clear p1 p2 p3 p4 HS5 HQ5 HG5 HR4 HZ4 HP4 HX4
  go_upto_region 8 with (go_at_call 60; refine (rnum_c HP5.out 1 (by omega)).mono ?_; rintro e V6 ⟨N6, rfl, h1, h2, h3, h4⟩; have HN6 := Hid.mk' h1; have HV6 := Hid.mk' h2; have HQ6 := Hid.mk' h3; have HG6 := Hid.mk' h4; clear h1 h2 h3 h4; have hN6 : ((N6 : Nat) : Int) < 256 := (by have := HN6.out; omega); unfold u64V; have HS6 : Hid (Row V6 g1 #[.slice none 0 0, .int .u32 ((N1 : Nat) : Int), .int .u64 ((N2 : Nat) : Int), .int .u64 ((N3 : Nat) : Int), .bool f4, .bool f5, .int .u8 0, .int .u8 0, .int .u8 0, .int .u8 0, .bool false, .slice none 0 0, .slice none 0 0, .int .i64 0, .int .i64 0] 35) := (HG6.out.block g1 HR5.out.lt hne).trans HR5.out; have cS := HS6.out.cell 6; have fS := HS6.out.froz 6)
  clear cS fS
  refine on_W (motive := fun W => Code.wp _ _ _ _ W) (Q := fun W => Row W g1 #[.slice none 0 0, .int .u32 ((N1 : Nat) : Int), .int .u64 ((N2 : Nat) : Int), .int .u64 ((N3 : Nat) : Int), .bool f4, .bool f5, .int .u8 ((N6 : Nat) : Int), .int .u8 0, .int .u8 0, .int .u8 0, .bool false, .slice none 0 0, .slice none 0 0, .int .i64 0, .int .i64 0] 35 ∧ Row W g0 #[.slice none 0 0, .int .u32 0, .int .u64 0, .int .u64 0, .bool false, .bool false, .int .u8 0, .int .u8 0, .int .u8 0, .int .u8 0, .bool false, .slice none 0 0, .slice none 0 0, .int .i64 0, .int .i64 0] 35 ∧ Rrd B W g L (q + 4 + 8 + 8 + 1 + 1 + 1) ((b || decide (1 < nv L (q + 4 + 8 + 8) 1)) || decide (1 < nv L (q + 4 + 8 + 8 + 1) 1)) ∧ Exc (· = g) w W)
    ⟨HS6.out.put (i := 6) (.int .u8 ((N6 : Nat) : Int)), Row.other (show Row _ g0 #[.slice none 0 0, .int .u32 0, .int .u64 0, .int .u64 0, .bool false, .bool false, .int .u8 0, .int .u8 0, .int .u8 0, .int .u8 0, .bool false, .slice none 0 0, .slice none 0 0, .int .i64 0, .int .i64 0] 35 from (HG6.out.block g0 HZ5.out.lt hn0).trans HZ5.out) (by omega) _, HQ6.out.put (Ne.symm hne) hB1 _, (HX5.out.trans HG6.out).put hw1 _⟩ ?_
  rintro W6 ⟨p1, p2, p3, p4⟩
  have HR6 := Hid.mk' p1
  have HZ6 := Hid.mk' p2
  have HP6 := Hid.mk' p3
  have HX6 := Hid.mk' p4
  clear p1 p2 p3 p4 HS6 HQ6 HG6 HR5 HZ5 HP5 HX5
  go_upto_region 9 with (go_at_call 60; refine (rnum_c HP6.out 1 (by omega)).mono ?_; rintro e V7 ⟨N7, rfl, h1, h2, h3, h4⟩; have HN7 := Hid.mk' h1; have HV7 := Hid.mk' h2; have HQ7 := Hid.mk' h3; have HG7 := Hid.mk' h4; clear h1 h2 h3 h4; have hN7 : ((N7 : Nat) : Int) < 256 := (by have := HN7.out; omega); unfold u64V; have HS7 : Hid (Row V7 g1 #[.slice none 0 0, .int .u32 ((N1 : Nat) : Int), .int .u64 ((N2 : Nat) : Int), .int .u64 ((N3 : Nat) : Int), .bool f4, .bool f5, .int .u8 ((N6 : Nat) : Int), .int .u8 0, .int .u8 0, .int .u8 0, .bool false, .slice none 0 0, .slice none 0 0, .int .i64 0, .int .i64 0] 35) := (HG7.out.block g1 HR6.out.lt hne).trans HR6.out; have cS := HS7.out.cell 7; have fS := HS7.out.froz 7)
  clear cS fS
  refine on_W (motive := fun W => Code.wp _ _ _ _ W) (Q := fun W => Row W g1 #[.slice none 0 0, .int .u32 ((N1 : Nat) : Int), .int .u64 ((N2 : Nat) : Int), .int .u64 ((N3 : Nat) : Int), .bool f4, .bool f5, .int .u8 ((N6 : Nat) : Int), .int .u8 ((N7 : Nat) : Int), .int .u8 0, .int .u8 0, .bool false, .slice none 0 0, .slice none 0 0, .int .i64 0, .int .i64 0] 35 ∧ Row W g0 #[.slice none 0 0, .int .u32 0, .int .u64 0, .int .u64 0, .bool false, .bool false, .int .u8 0, .int .u8 0, .int .u8 0, .int .u8 0, .bool false, .slice none 0 0, .slice none 0 0, .int .i64 0, .int .i64 0] 35 ∧ Rrd B W g L (q + 4 + 8 + 8 + 1 + 1 + 1 + 1) ((b || decide (1 < nv L (q + 4 + 8 + 8) 1)) || decide (1 < nv L (q + 4 + 8 + 8 + 1) 1)) ∧ Exc (· = g) w W)
    ⟨HS7.out.put (i := 7) (.int .u8 ((N7 : Nat) : Int)), Row.other (show Row _ g0 #[.slice none 0 0, .int .u32 0, .int .u64 0, .int .u64 0, .bool false, .bool false, .int .u8 0, .int .u8 0, .int .u8 0, .int .u8 0, .bool false, .slice none 0 0, .slice none 0 0, .int .i64 0, .int .i64 0] 35 from (HG7.out.block g0 HZ6.out.lt hn0).trans HZ6.out) (by omega) _, HQ7.out.put (Ne.symm hne) hB1 _, (HX6.out.trans HG7.out).put hw1 _⟩ ?_
  rintro W7 ⟨p1, p2, p3, p4⟩
  have HR7 := Hid.mk' p1
  have HZ7 := Hid.mk' p2
  have HP7 := Hid.mk' p3
  have HX7 := Hid.mk' p4
  clear p1 p2 p3 p4 HS7 HQ7 HG7 HR6 HZ6 HP6 HX6
  go_upto_region 10 with (go_at_call 60; refine (rnum_c HP7.out 1 (by omega)).mono ?_; rintro e V8 ⟨N8, rfl, h1, h2, h3, h4⟩; have HN8 := Hid.mk' h1; have HV8 := Hid.mk' h2; have HQ8 := Hid.mk' h3; have HG8 := Hid.mk' h4; clear h1 h2 h3 h4; have hN8 : ((N8 : Nat) : Int) < 256 := (by have := HN8.out; omega); unfold u64V; have HS8 : Hid (Row V8 g1 #[.slice none 0 0, .int .u32 ((N1 : Nat) : Int), .int .u64 ((N2 : Nat) : Int), .int .u64 ((N3 : Nat) : Int), .bool f4, .bool f5, .int .u8 ((N6 : Nat) : Int), .int .u8 ((N7 : Nat) : Int), .int .u8 0, .int .u8 0, .bool false, .slice none 0 0, .slice none 0 0, .int .i64 0, .int .i64 0] 35) := (HG8.out.block g1 HR7.out.lt hne).trans HR7.out; have cS := HS8.out.cell 8; have fS := HS8.out.froz 8)
  clear cS fS
  refine on_W (motive := fun W => Code.wp _ _ _ _ W) (Q := fun W => Row W g1 #[.slice none 0 0, .int .u32 ((N1 : Nat) : Int), .int .u64 ((N2 : Nat) : Int), .int .u64 ((N3 : Nat) : Int), .bool f4, .bool f5, .int .u8 ((N6 : Nat) : Int), .int .u8 ((N7 : Nat) : Int), .int .u8 ((N8 : Nat) : Int), .int .u8 0, .bool false, .slice none 0 0, .slice none 0 0, .int .i64 0, .int .i64 0] 35 ∧ Row W g0 #[.slice none 0 0, .int .u32 0, .int .u64 0, .int .u64 0, .bool false, .bool false, .int .u8 0, .int .u8 0, .int .u8 0, .int .u8 0, .bool false, .slice none 0 0, .slice none 0 0, .int .i64 0, .int .i64 0] 35 ∧ Rrd B W g L (q + 4 + 8 + 8 + 1 + 1 + 1 + 1 + 1) ((b || decide (1 < nv L (q + 4 + 8 + 8) 1)) || decide (1 < nv L (q + 4 + 8 + 8 + 1) 1)) ∧ Exc (· = g) w W)
    ⟨HS8.out.put (i := 8) (.int .u8 ((N8 : Nat) : Int)), Row.other (show Row _ g0 #[.slice none 0 0, .int .u32 0, .int .u64 0, .int .u64 0, .bool false, .bool false, .int .u8 0, .int .u8 0, .int .u8 0, .int .u8 0, .bool false, .slice none 0 0, .slice none 0 0, .int .i64 0, .int .i64 0] 35 from (HG8.out.block g0 HZ7.out.lt hn0).trans HZ7.out) (by omega) _, HQ8.out.put (Ne.symm hne) hB1 _, (HX7.out.trans HG8.out).put hw1 _⟩ ?_
  rintro W8 ⟨p1, p2, p3, p4⟩
  have HR8 := Hid.mk' p1
  have HZ8 := Hid.mk' p2
  have HP8 := Hid.mk' p3
  have HX8 := Hid.mk' p4
  clear p1 p2 p3 p4 HS8 HQ8 HG8 HR7 HZ7 HP7 HX7
  go_upto_region 11 with (go_at_call 60; refine (rnum_c HP8.out 1 (by omega)).mono ?_; rintro e V9 ⟨N9, rfl, h1, h2, h3, h4⟩; have HN9 := Hid.mk' h1; have HV9 := Hid.mk' h2; have HQ9 := Hid.mk' h3; have HG9 := Hid.mk' h4; clear h1 h2 h3 h4; have hN9 : ((N9 : Nat) : Int) < 256 := (by have := HN9.out; omega); unfold u64V; have HS9 : Hid (Row V9 g1 #[.slice none 0 0, .int .u32 ((N1 : Nat) : Int), .int .u64 ((N2 : Nat) : Int), .int .u64 ((N3 : Nat) : Int), .bool f4, .bool f5, .int .u8 ((N6 : Nat) : Int), .int .u8 ((N7 : Nat) : Int), .int .u8 ((N8 : Nat) : Int), .int .u8 0, .bool false, .slice none 0 0, .slice none 0 0, .int .i64 0, .int .i64 0] 35) := (HG9.out.block g1 HR8.out.lt hne).trans HR8.out; have cS := HS9.out.cell 9; have fS := HS9.out.froz 9)
  clear cS fS
  refine on_W (motive := fun W => Code.wp _ _ _ _ W) (Q := fun W => Row W g1 #[.slice none 0 0, .int .u32 ((N1 : Nat) : Int), .int .u64 ((N2 : Nat) : Int), .int .u64 ((N3 : Nat) : Int), .bool f4, .bool f5, .int .u8 ((N6 : Nat) : Int), .int .u8 ((N7 : Nat) : Int), .int .u8 ((N8 : Nat) : Int), .int .u8 ((N9 : Nat) : Int), .bool false, .slice none 0 0, .slice none 0 0, .int .i64 0, .int .i64 0] 35 ∧ Row W g0 #[.slice none 0 0, .int .u32 0, .int .u64 0, .int .u64 0, .bool false, .bool false, .int .u8 0, .int .u8 0, .int .u8 0, .int .u8 0, .bool false, .slice none 0 0, .slice none 0 0, .int .i64 0, .int .i64 0] 35 ∧ Rrd B W g L (q + 4 + 8 + 8 + 1 + 1 + 1 + 1 + 1 + 1) ((b || decide (1 < nv L (q + 4 + 8 + 8) 1)) || decide (1 < nv L (q + 4 + 8 + 8 + 1) 1)) ∧ Exc (· = g) w W)
    ⟨HS9.out.put (i := 9) (.int .u8 ((N9 : Nat) : Int)), Row.other (show Row _ g0 #[.slice none 0 0, .int .u32 0, .int .u64 0, .int .u64 0, .bool false, .bool false, .int .u8 0, .int .u8 0, .int .u8 0, .int .u8 0, .bool false, .slice none 0 0, .slice none 0 0, .int .i64 0, .int .i64 0] 35 from (HG9.out.block g0 HZ8.out.lt hn0).trans HZ8.out) (by omega) _, HQ9.out.put (Ne.symm hne) hB1 _, (HX8.out.trans HG9.out).put hw1 _⟩ ?_
  rintro W9 ⟨p1, p2, p3, p4⟩
  have HR9 := Hid.mk' p1
  have HZ9 := Hid.mk' p2
  have HP9 := Hid.mk' p3
  have HX9 := Hid.mk' p4
  clear p1 p2 p3 p4 HS9 HQ9 HG9 HR8 HZ8 HP8 HX8
  go_upto_region 12 with (go_at_call 61; refine (rflag_c HP9.out).mono ?_; rintro e V10 ⟨f10, rfl, h2, h3, h4⟩; have HV10 := Hid.mk' h2; have HQ10 := Hid.mk' h3; have HG10 := Hid.mk' h4; clear h2 h3 h4; have HS10 : Hid (Row V10 g1 #[.slice none 0 0, .int .u32 ((N1 : Nat) : Int), .int .u64 ((N2 : Nat) : Int), .int .u64 ((N3 : Nat) : Int), .bool f4, .bool f5, .int .u8 ((N6 : Nat) : Int), .int .u8 ((N7 : Nat) : Int), .int .u8 ((N8 : Nat) : Int), .int .u8 ((N9 : Nat) : Int), .bool false, .slice none 0 0, .slice none 0 0, .int .i64 0, .int .i64 0] 35) := (HG10.out.block g1 HR9.out.lt hne).trans HR9.out; have cS := HS10.out.cell 10; have fS := HS10.out.froz 10)
  clear cS fS
  refine on_W (motive := fun W => Code.wp _ _ _ _ W) (Q := fun W => Row W g1 #[.slice none 0 0, .int .u32 ((N1 : Nat) : Int), .int .u64 ((N2 : Nat) : Int), .int .u64 ((N3 : Nat) : Int), .bool f4, .bool f5, .int .u8 ((N6 : Nat) : Int), .int .u8 ((N7 : Nat) : Int), .int .u8 ((N8 : Nat) : Int), .int .u8 ((N9 : Nat) : Int), .bool f10, .slice none 0 0, .slice none 0 0, .int .i64 0, .int .i64 0] 35 ∧ Row W g0 #[.slice none 0 0, .int .u32 0, .int .u64 0, .int .u64 0, .bool false, .bool false, .int .u8 0, .int .u8 0, .int .u8 0, .int .u8 0, .bool false, .slice none 0 0, .slice none 0 0, .int .i64 0, .int .i64 0] 35 ∧ Rrd B W g L (q + 4 + 8 + 8 + 1 + 1 + 1 + 1 + 1 + 1 + 1) (((b || decide (1 < nv L (q + 4 + 8 + 8) 1)) || decide (1 < nv L (q + 4 + 8 + 8 + 1) 1)) || decide (1 < nv L (q + 4 + 8 + 8 + 1 + 1 + 1 + 1 + 1 + 1) 1)) ∧ Exc (· = g) w W)
    ⟨HS10.out.put (i := 10) (.bool f10), Row.other (show Row _ g0 #[.slice none 0 0, .int .u32 0, .int .u64 0, .int .u64 0, .bool false, .bool false, .int .u8 0, .int .u8 0, .int .u8 0, .int .u8 0, .bool false, .slice none 0 0, .slice none 0 0, .int .i64 0, .int .i64 0] 35 from (HG10.out.block g0 HZ9.out.lt hn0).trans HZ9.out) (by omega) _, HQ10.out.put (Ne.symm hne) hB1 _, (HX9.out.trans HG10.out).put hw1 _⟩ ?_
  rintro W10 ⟨p1, p2, p3, p4⟩
  have HR10 := Hid.mk' p1
  have HZ10 := Hid.mk' p2
  have HP10 := Hid.mk' p3
  have HX10 := Hid.mk' p4
  clear p1 p2 p3 p4 HS10 HQ10 HG10 HR9 HZ9 HP9 HX9
  go_upto_region 13 with (go_at_call 60; refine (rnum_c HP10.out 1 (by omega)).mono ?_; rintro e V11 ⟨N11, rfl, h1, h2, h3, h4⟩; have HN11 := Hid.mk' h1; have HV11 := Hid.mk' h2; have HQ11 := Hid.mk' h3; have HG11 := Hid.mk' h4; clear h1 h2 h3 h4; have hN11 : ((N11 : Nat) : Int) < 256 := (by have := HN11.out; omega); unfold u64V; have HS11 : Hid (Row V11 g1 #[.slice none 0 0, .int .u32 ((N1 : Nat) : Int), .int .u64 ((N2 : Nat) : Int), .int .u64 ((N3 : Nat) : Int), .bool f4, .bool f5, .int .u8 ((N6 : Nat) : Int), .int .u8 ((N7 : Nat) : Int), .int .u8 ((N8 : Nat) : Int), .int .u8 ((N9 : Nat) : Int), .bool f10, .slice none 0 0, .slice none 0 0, .int .i64 0, .int .i64 0] 35) := (HG11.out.block g1 HR10.out.lt hne).trans HR10.out; have cS := HS11.out.cell 13; have fS := HS11.out.froz 13)
  clear cS fS
  refine on_W (motive := fun W => Code.wp _ _ _ _ W) (Q := fun W => Row W g1 #[.slice none 0 0, .int .u32 ((N1 : Nat) : Int), .int .u64 ((N2 : Nat) : Int), .int .u64 ((N3 : Nat) : Int), .bool f4, .bool f5, .int .u8 ((N6 : Nat) : Int), .int .u8 ((N7 : Nat) : Int), .int .u8 ((N8 : Nat) : Int), .int .u8 ((N9 : Nat) : Int), .bool f10, .slice none 0 0, .slice none 0 0, .int .i64 ((N11 : Nat) : Int), .int .i64 0] 35 ∧ Row W g0 #[.slice none 0 0, .int .u32 0, .int .u64 0, .int .u64 0, .bool false, .bool false, .int .u8 0, .int .u8 0, .int .u8 0, .int .u8 0, .bool false, .slice none 0 0, .slice none 0 0, .int .i64 0, .int .i64 0] 35 ∧ Rrd B W g L (q + 4 + 8 + 8 + 1 + 1 + 1 + 1 + 1 + 1 + 1 + 1) (((b || decide (1 < nv L (q + 4 + 8 + 8) 1)) || decide (1 < nv L (q + 4 + 8 + 8 + 1) 1)) || decide (1 < nv L (q + 4 + 8 + 8 + 1 + 1 + 1 + 1 + 1 + 1) 1)) ∧ Exc (· = g) w W)
    ⟨HS11.out.put (i := 13) (.int .i64 ((N11 : Nat) : Int)), Row.other (show Row _ g0 #[.slice none 0 0, .int .u32 0, .int .u64 0, .int .u64 0, .bool false, .bool false, .int .u8 0, .int .u8 0, .int .u8 0, .int .u8 0, .bool false, .slice none 0 0, .slice none 0 0, .int .i64 0, .int .i64 0] 35 from (HG11.out.block g0 HZ10.out.lt hn0).trans HZ10.out) (by omega) _, HQ11.out.put (Ne.symm hne) hB1 _, (HX10.out.trans HG11.out).put hw1 _⟩ ?_
  rintro W11 ⟨p1, p2, p3, p4⟩
  have HR11 := Hid.mk' p1
  have HZ11 := Hid.mk' p2
  have HP11 := Hid.mk' p3
  have HX11 := Hid.mk' p4
  clear p1 p2 p3 p4 HS11 HQ11 HG11 HR10 HZ10 HP10 HX10
  go_upto_region 14 with (go_at_call 60; refine (rnum_c HP11.out 4 (by omega)).mono ?_; rintro e V12 ⟨N12, rfl, h1, h2, h3, h4⟩; have HN12 := Hid.mk' h1; have HV12 := Hid.mk' h2; have HQ12 := Hid.mk' h3; have HG12 := Hid.mk' h4; clear h1 h2 h3 h4; have hN12 : ((N12 : Nat) : Int) < 4294967296 := (by have := HN12.out; omega); unfold u64V; have HS12 : Hid (Row V12 g1 #[.slice none 0 0, .int .u32 ((N1 : Nat) : Int), .int .u64 ((N2 : Nat) : Int), .int .u64 ((N3 : Nat) : Int), .bool f4, .bool f5, .int .u8 ((N6 : Nat) : Int), .int .u8 ((N7 : Nat) : Int), .int .u8 ((N8 : Nat) : Int), .int .u8 ((N9 : Nat) : Int), .bool f10, .slice none 0 0, .slice none 0 0, .int .i64 ((N11 : Nat) : Int), .int .i64 0] 35) := (HG12.out.block g1 HR11.out.lt hne).trans HR11.out; have cS := HS12.out.cell 14; have fS := HS12.out.froz 14)
  clear cS fS
  refine on_W (motive := fun W => Code.wp _ _ _ _ W) (Q := fun W => Row W g1 #[.slice none 0 0, .int .u32 ((N1 : Nat) : Int), .int .u64 ((N2 : Nat) : Int), .int .u64 ((N3 : Nat) : Int), .bool f4, .bool f5, .int .u8 ((N6 : Nat) : Int), .int .u8 ((N7 : Nat) : Int), .int .u8 ((N8 : Nat) : Int), .int .u8 ((N9 : Nat) : Int), .bool f10, .slice none 0 0, .slice none 0 0, .int .i64 ((N11 : Nat) : Int), .int .i64 ((N12 : Nat) : Int)] 35 ∧ Row W g0 #[.slice none 0 0, .int .u32 0, .int .u64 0, .int .u64 0, .bool false, .bool false, .int .u8 0, .int .u8 0, .int .u8 0, .int .u8 0, .bool false, .slice none 0 0, .slice none 0 0, .int .i64 0, .int .i64 0] 35 ∧ Rrd B W g L (q + 4 + 8 + 8 + 1 + 1 + 1 + 1 + 1 + 1 + 1 + 1 + 4) (((b || decide (1 < nv L (q + 4 + 8 + 8) 1)) || decide (1 < nv L (q + 4 + 8 + 8 + 1) 1)) || decide (1 < nv L (q + 4 + 8 + 8 + 1 + 1 + 1 + 1 + 1 + 1) 1)) ∧ Exc (· = g) w W)
    ⟨HS12.out.put (i := 14) (.int .i64 ((N12 : Nat) : Int)), Row.other (show Row _ g0 #[.slice none 0 0, .int .u32 0, .int .u64 0, .int .u64 0, .bool false, .bool false, .int .u8 0, .int .u8 0, .int .u8 0, .int .u8 0, .bool false, .slice none 0 0, .slice none 0 0, .int .i64 0, .int .i64 0] 35 from (HG12.out.block g0 HZ11.out.lt hn0).trans HZ11.out) (by omega) _, HQ12.out.put (Ne.symm hne) hB1 _, (HX11.out.trans HG12.out).put hw1 _⟩ ?_
  rintro W12 ⟨p1, p2, p3, p4⟩
  have HR12 := Hid.mk' p1
  have HZ12 := Hid.mk' p2
  have HP12 := Hid.mk' p3
  have HX12 := Hid.mk' p4
  clear p1 p2 p3 p4 HS12 HQ12 HG12 HR11 HZ11 HP11 HX11
  go_upto_region 15 with (go_at_call 62; refine (rlist_c HP12.out 1 64 (by omega) (by omega)).mono ?_; rintro e V13 ⟨u13, M13, rfl, h1, hl, ha, h2, h3, h4⟩; obtain ⟨xa13, xn13, xc13, rfl⟩ := h1.1.sl; have HY13 := Hid.mk' h1; have HL13 := Hid.mk' hl; have HA13 := Hid.mk' ha; have HV13 := Hid.mk' h2; have HQ13 := Hid.mk' h3; have HG13 := Hid.mk' h4; clear h1 h2 h3 h4 hl ha; have HS13 : Hid (Row V13 g1 #[.slice none 0 0, .int .u32 ((N1 : Nat) : Int), .int .u64 ((N2 : Nat) : Int), .int .u64 ((N3 : Nat) : Int), .bool f4, .bool f5, .int .u8 ((N6 : Nat) : Int), .int .u8 ((N7 : Nat) : Int), .int .u8 ((N8 : Nat) : Int), .int .u8 ((N9 : Nat) : Int), .bool f10, .slice none 0 0, .slice none 0 0, .int .i64 ((N11 : Nat) : Int), .int .i64 ((N12 : Nat) : Int)] 35) := (HG13.out.block g1 HR12.out.lt hne).trans HR12.out; have cS := HS13.out.cell 11; have fS := HS13.out.froz 11)
  have hWg13 : g1 < W12.heap.size := HR12.out.lt
  have HD0 : Hid (∀ k, (Value.slice xa13 xn13 xc13).ownBlock = some k → k ≠ g ∧ k ≠ g1) := fun k hk => by
    have h1 := HY13.out.2 k hk
    have h2 := HP12.out.lt
    exact ⟨by omega, by omega⟩
  have HDw0 : Hid (∀ k, (Value.slice xa13 xn13 xc13).ownBlock = some k → w.heap.size ≤ k ∧ k ≠ g0) := fun k hk => by
    have h1 := HY13.out.2 k hk
    exact ⟨by omega, by omega⟩
  clear cS fS
  refine on_W (motive := fun W => Code.wp _ _ _ _ W) (Q := fun W => Row W g1 #[.slice none 0 0, .int .u32 ((N1 : Nat) : Int), .int .u64 ((N2 : Nat) : Int), .int .u64 ((N3 : Nat) : Int), .bool f4, .bool f5, .int .u8 ((N6 : Nat) : Int), .int .u8 ((N7 : Nat) : Int), .int .u8 ((N8 : Nat) : Int), .int .u8 ((N9 : Nat) : Int), .bool f10, .slice xa13 xn13 xc13, .slice none 0 0, .int .i64 ((N11 : Nat) : Int), .int .i64 ((N12 : Nat) : Int)] 35 ∧ Row W g0 #[.slice none 0 0, .int .u32 0, .int .u64 0, .int .u64 0, .bool false, .bool false, .int .u8 0, .int .u8 0, .int .u8 0, .int .u8 0, .bool false, .slice none 0 0, .slice none 0 0, .int .i64 0, .int .i64 0] 35 ∧ Rrd B W g L (q + 4 + 8 + 8 + 1 + 1 + 1 + 1 + 1 + 1 + 1 + 1 + 4 + 1 + nv L (q + 4 + 8 + 8 + 1 + 1 + 1 + 1 + 1 + 1 + 1 + 1 + 4) 1) ((((b || decide (1 < nv L (q + 4 + 8 + 8) 1)) || decide (1 < nv L (q + 4 + 8 + 8 + 1) 1)) || decide (1 < nv L (q + 4 + 8 + 8 + 1 + 1 + 1 + 1 + 1 + 1) 1)) || decide (64 < nv L (q + 4 + 8 + 8 + 1 + 1 + 1 + 1 + 1 + 1 + 1 + 1 + 4) 1)) ∧ Exc (· = g) w W ∧ Byt W (Value.slice xa13 xn13 xc13) M13)
    ⟨HS13.out.put (i := 11) (.slice xa13 xn13 xc13), Row.other (show Row _ g0 #[.slice none 0 0, .int .u32 0, .int .u64 0, .int .u64 0, .bool false, .bool false, .int .u8 0, .int .u8 0, .int .u8 0, .int .u8 0, .bool false, .slice none 0 0, .slice none 0 0, .int .i64 0, .int .i64 0] 35 from (HG13.out.block g0 HZ12.out.lt hn0).trans HZ12.out) (by omega) _, HQ13.out.put (Ne.symm hne) hB1 _, (HX12.out.trans HG13.out).put hw1 _, HY13.out.1.exc ((Exc.refl (· = g1) V13).set g1 11 _ rfl) (fun k off n' c' e => fun q2 => HD0.out k (by rw [e]; rfl) |>.2 q2)⟩ ?_
  rintro W13 ⟨p1, p2, p3, p4, p5⟩
  have HR13 := Hid.mk' p1
  have HZ13 := Hid.mk' p2
  have HP13 := Hid.mk' p3
  have HX13 := Hid.mk' p4
  have HB13_0 := Hid.mk' p5
  clear p1 p2 p3 p4 p5 HS13 HQ13 HG13 HR12 HZ12 HP12 HX12
  go_upto_region 16 with (go_at_call 62; refine (rlist_c HP13.out 2 4096 (by omega) (by omega)).mono ?_; rintro e V14 ⟨u14, M14, rfl, h1, hl, ha, h2, h3, h4⟩; obtain ⟨xa14, xn14, xc14, rfl⟩ := h1.1.sl; have HY14 := Hid.mk' h1; have HL14 := Hid.mk' hl; have HA14 := Hid.mk' ha; have HV14 := Hid.mk' h2; have HQ14 := Hid.mk' h3; have HG14 := Hid.mk' h4; clear h1 h2 h3 h4 hl ha; have HS14 : Hid (Row V14 g1 #[.slice none 0 0, .int .u32 ((N1 : Nat) : Int), .int .u64 ((N2 : Nat) : Int), .int .u64 ((N3 : Nat) : Int), .bool f4, .bool f5, .int .u8 ((N6 : Nat) : Int), .int .u8 ((N7 : Nat) : Int), .int .u8 ((N8 : Nat) : Int), .int .u8 ((N9 : Nat) : Int), .bool f10, .slice xa13 xn13 xc13, .slice none 0 0, .int .i64 ((N11 : Nat) : Int), .int .i64 ((N12 : Nat) : Int)] 35) := (HG14.out.block g1 HR13.out.lt hne).trans HR13.out; have cS := HS14.out.cell 12; have fS := HS14.out.froz 12)
  have hWg14 : g1 < W13.heap.size := HR13.out.lt
  have HD1 : Hid (∀ k, (Value.slice xa14 xn14 xc14).ownBlock = some k → k ≠ g ∧ k ≠ g1) := fun k hk => by
    have h1 := HY14.out.2 k hk
    have h2 := HP13.out.lt
    exact ⟨by omega, by omega⟩
  have HDw1 : Hid (∀ k, (Value.slice xa14 xn14 xc14).ownBlock = some k → w.heap.size ≤ k ∧ k ≠ g0) := fun k hk => by
    have h1 := HY14.out.2 k hk
    exact ⟨by omega, by omega⟩
  clear cS fS
  refine on_W (motive := fun W => Code.wp _ _ _ _ W) (Q := fun W => Row W g1 #[.slice none 0 0, .int .u32 ((N1 : Nat) : Int), .int .u64 ((N2 : Nat) : Int), .int .u64 ((N3 : Nat) : Int), .bool f4, .bool f5, .int .u8 ((N6 : Nat) : Int), .int .u8 ((N7 : Nat) : Int), .int .u8 ((N8 : Nat) : Int), .int .u8 ((N9 : Nat) : Int), .bool f10, .slice xa13 xn13 xc13, .slice xa14 xn14 xc14, .int .i64 ((N11 : Nat) : Int), .int .i64 ((N12 : Nat) : Int)] 35 ∧ Row W g0 #[.slice none 0 0, .int .u32 0, .int .u64 0, .int .u64 0, .bool false, .bool false, .int .u8 0, .int .u8 0, .int .u8 0, .int .u8 0, .bool false, .slice none 0 0, .slice none 0 0, .int .i64 0, .int .i64 0] 35 ∧ Rrd B W g L (q + 4 + 8 + 8 + 1 + 1 + 1 + 1 + 1 + 1 + 1 + 1 + 4 + 1 + nv L (q + 4 + 8 + 8 + 1 + 1 + 1 + 1 + 1 + 1 + 1 + 1 + 4) 1 + 2 + nv L (q + 4 + 8 + 8 + 1 + 1 + 1 + 1 + 1 + 1 + 1 + 1 + 4 + 1 + nv L (q + 4 + 8 + 8 + 1 + 1 + 1 + 1 + 1 + 1 + 1 + 1 + 4) 1) 2) (((((b || decide (1 < nv L (q + 4 + 8 + 8) 1)) || decide (1 < nv L (q + 4 + 8 + 8 + 1) 1)) || decide (1 < nv L (q + 4 + 8 + 8 + 1 + 1 + 1 + 1 + 1 + 1) 1)) || decide (64 < nv L (q + 4 + 8 + 8 + 1 + 1 + 1 + 1 + 1 + 1 + 1 + 1 + 4) 1)) || decide (4096 < nv L (q + 4 + 8 + 8 + 1 + 1 + 1 + 1 + 1 + 1 + 1 + 1 + 4 + 1 + nv L (q + 4 + 8 + 8 + 1 + 1 + 1 + 1 + 1 + 1 + 1 + 1 + 4) 1) 2)) ∧ Exc (· = g) w W ∧ Byt W (Value.slice xa13 xn13 xc13) M13 ∧ Byt W (Value.slice xa14 xn14 xc14) M14)
    ⟨HS14.out.put (i := 12) (.slice xa14 xn14 xc14), Row.other (show Row _ g0 #[.slice none 0 0, .int .u32 0, .int .u64 0, .int .u64 0, .bool false, .bool false, .int .u8 0, .int .u8 0, .int .u8 0, .int .u8 0, .bool false, .slice none 0 0, .slice none 0 0, .int .i64 0, .int .i64 0] 35 from (HG14.out.block g0 HZ13.out.lt hn0).trans HZ13.out) (by omega) _, HQ14.out.put (Ne.symm hne) hB1 _, (HX13.out.trans HG14.out).put hw1 _, ((HB13_0.out.exc HG14.out (fun k off n' c' e => fun q2 => HD0.out k (by rw [e]; rfl) |>.1 q2)).exc ((Exc.refl (· = g1) V14).set g1 12 _ rfl) (fun k off n' c' e => fun q2 => HD0.out k (by rw [e]; rfl) |>.2 q2)), HY14.out.1.exc ((Exc.refl (· = g1) V14).set g1 12 _ rfl) (fun k off n' c' e => fun q2 => HD1.out k (by rw [e]; rfl) |>.2 q2)⟩ ?_
  rintro W14 ⟨p1, p2, p3, p4, p5, p6⟩
  have HR14 := Hid.mk' p1
  have HZ14 := Hid.mk' p2
  have HP14 := Hid.mk' p3
  have HX14 := Hid.mk' p4
  have HB14_0 := Hid.mk' p5
  have HB14_1 := Hid.mk' p6
  clear p1 p2 p3 p4 p5 p6 HS14 HQ14 HG14 HR13 HZ13 HP13 HX13
  obtain ⟨S, hS⟩ : ∃ S : St, S = (⟨[], ((N1 : Nat) : Int), ((N2 : Nat) : Int), ((N3 : Nat) : Int), f4, f5, ((N6 : Nat) : Int), ((N7 : Nat) : Int), ((N8 : Nat) : Int), ((N9 : Nat) : Int), f10, M13, M14, ((N11 : Nat) : Int), ((N12 : Nat) : Int)⟩ : St) := ⟨_, rfl⟩
  have HST := Hid.mk' hS
  have HRW : Hid (Row W14 g1 (stc S (.slice none 0 0) (.slice xa13 xn13 xc13) (.slice xa14 xn14 xc14)) 35) := by rw [hS]; exact HR14
  have HIB := Hid.mk' (info_bst S (.slice none 0 0) (.slice xa13 xn13 xc13) (.slice xa14 xn14 xc14))
  have HON : Hid ((stc S (.slice none 0 0) (.slice xa13 xn13 xc13) (.slice xa14 xn14 xc14)).all (·.oneCell') = true) := Hid.mk' (by kernel_rfl)
  have HZS : Hid ((#[.slice none 0 0, .int .u32 0, .int .u64 0, .int .u64 0, .bool false, .bool false, .int .u8 0, .int .u8 0, .int .u8 0, .int .u8 0, .bool false, .slice none 0 0, .slice none 0 0, .int .i64 0, .int .i64 0] : Array Value).size = (stc S (.slice none 0 0) (.slice xa13 xn13 xc13) (.slice xa14 xn14 xc14)).size) := rfl
  have HGOOD : Hid (bd (devF L q b) L (devQ L q) = false → S = devN L q) := by
    intro hg
    have e1 := HV1.out (bd_mono (b' := devF L q b) (fun h => by unfold devF devO devI; simp only [h, Bool.true_or]) (by unfold devQ devO devI; omega) hg)
    have e2 := HV2.out (bd_mono (b' := devF L q b) (fun h => by unfold devF devO devI; simp only [h, Bool.true_or]) (by unfold devQ devO devI; omega) hg)
    have e3 := HV3.out (bd_mono (b' := devF L q b) (fun h => by unfold devF devO devI; simp only [h, Bool.true_or]) (by unfold devQ devO devI; omega) hg)
    have e4 := HV4.out (bd_mono (b' := devF L q b) (fun h => by unfold devF devO devI; simp only [h, Bool.true_or]) (by unfold devQ devO devI; omega) hg)
    have e5 := HV5.out (bd_mono (b' := devF L q b) (fun h => by unfold devF devO devI; simp only [h, Bool.true_or]) (by unfold devQ devO devI; omega) hg)
    have e6 := HV6.out (bd_mono (b' := devF L q b) (fun h => by unfold devF devO devI; simp only [h, Bool.true_or]) (by unfold devQ devO devI; omega) hg)
    have e7 := HV7.out (bd_mono (b' := devF L q b) (fun h => by unfold devF devO devI; simp only [h, Bool.true_or]) (by unfold devQ devO devI; omega) hg)
    have e8 := HV8.out (bd_mono (b' := devF L q b) (fun h => by unfold devF devO devI; simp only [h, Bool.true_or]) (by unfold devQ devO devI; omega) hg)
    have e9 := HV9.out (bd_mono (b' := devF L q b) (fun h => by unfold devF devO devI; simp only [h, Bool.true_or]) (by unfold devQ devO devI; omega) hg)
    have e10 := HV10.out (bd_mono (b' := devF L q b) (fun h => by unfold devF devO devI; simp only [h, Bool.true_or]) (by unfold devQ devO devI; omega) hg)
    have e11 := HV11.out (bd_mono (b' := devF L q b) (fun h => by unfold devF devO devI; simp only [h, Bool.true_or]) (by unfold devQ devO devI; omega) hg)
    have e12 := HV12.out (bd_mono (b' := devF L q b) (fun h => by unfold devF devO devI; simp only [h, Bool.true_or]) (by unfold devQ devO devI; omega) hg)
    have e13 := HV13.out (bd_mono (b' := devF L q b) (fun h => by unfold devF devO devI; simp only [h, Bool.true_or]) (by unfold devQ devO devI; omega) hg)
    have e14 := HV14.out hg
    rw [hS, e1, e2, e3, e4, e5, e6, e7, e8, e9, e10, e11, e12, e13, e14]
    rfl
  clear hS
  obtain ⟨SC, hSC⟩ : ∃ SC, SC = stc S (.slice none 0 0) (.slice xa13 xn13 xc13) (.slice xa14 xn14 xc14) := ⟨_, rfl⟩
  rw [← hSC] at HRW HIB HON HZS
  have HSC := Hid.mk' hSC
  clear hSC HR14
  go_wp2_with (first | (refine wpList_load_row (by rfl) _ _ (by rfl) _ (by rfl) 35 _ (0, 0) _ HRW.out Try.underlying35 (by rfl) HIB.out ?_) | (refine wpList_store_row (by rfl) _ _ _ (by rfl) (by rfl) _ _ _ (by rfl) (by rfl) HZ14.out HIB.out HZS.out HON.out ?_))
  refine bodyPost_ret (v := .agg SC) (results_cell_row Try.results38 _ _ g0 35 _ (0, 0) _ (by rfl) (setRow_heap _ _ _ _ _ _ HZ14.out) Try.underlying35 (by rfl) HIB.out) rfl ?_
  have xs : Exc (· = g0) W14 (W14.setRow g0 SC) := ⟨rfl, rfl, rfl, by simp [World.setRow], fun k _ h => Go.setRow_other W14 g0 k _ h⟩
  have eI : S.inp = M13 := by rw [HST.out]
  have eO : S.out = M14 := by rw [HST.out]
  exact ⟨S, _, _, _, _, _, _, by rw [HSC.out], by rw [HST.out], ⟨by rw [eI]; exact HB14_0.out.exc xs (fun k off n' c' e => fun q2 => (HDw0.out k (by rw [e]; rfl)).2 q2), fun k hk => (HDw0.out k hk).1⟩, ⟨by rw [eO]; exact HB14_1.out.exc xs (fun k off n' c' e => fun q2 => (HDw1.out k (by rw [e]; rfl)).2 q2), fun k hk => (HDw1.out k hk).1⟩, by rw [eI]; exact HL13.out, by rw [eO]; exact HL14.out, HGOOD.out, HP14.out.exc xs (fun e => hn0 e.symm) (fun k hk e => by have e2 : k = g0 := e; omega), HX14.out.fresh xs hw0⟩
end Go.Proofs.Ytgblpjkpeihpeaa
