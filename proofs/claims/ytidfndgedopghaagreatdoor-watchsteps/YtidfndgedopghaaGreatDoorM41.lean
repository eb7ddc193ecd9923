/-
  Ov.
-/
import Derived.Test.YtidfndgedopghaaGreatDoorM40
namespace Go.Proofs.YtidfndgedopghaaGreatDoor
set_option linter.unusedVariables false
set_option maxRecDepth 100000
set_option maxHeartbeats 4000000
open Go.ChangeShapes Go.WideShapes Go.ChangeAt Go.RowKit Go.Deep
/-- What the rules may rely on. -/
structure Kh (b : Cp) (B A : St) (br bi bo ar ai ao : Value) (w : World) : Prop where
  hA : Bs A ar ai ao w
  hB : Bs B br bi bo w
  dA : Bd A
  dB : Bd B
  hAll : AllB A.out
  hlen : A.ram.length = B.ram.length
  hm : b.md = 0 ∨ b.md = 3
theorem Kh.later {b : Cp} {B A : St} {br bi bo ar ai ao : Value} {w w' : World} (h : Kh b B A br bi bo ar ai ao w) (hb : Below w.heap.size w w') : Kh b B A br bi bo ar ai ao w' := ⟨h.hA.later hb, h.hB.later hb, h.dA, h.dB, h.hAll, h.hlen, h.hm⟩
def r7B (b a : Cp) : Bool := (b.md != 0) || pEq a.c a.a b.c b.a
def r16B (A : St) (ex so : Bool) (r : Rw) : Bool := (r.kd == 5) || ((A.ext == ex) && (A.soft == so))
def rK (b : Cp) (B : St) (a : Cp) (A : St) (tk ex so : Bool) (r : Rw) : Nat → Bool
  | 2 => r2B b a r
  | 3 => r3B b a B A r
  | 4 => woB r b.x a.x
  | 5 => r5B b B A
  | 6 => r6B B A r
  | 7 => r7B b a
  | 8 => klB b.c b.a a.c a.a
  | 9 => r9B b a r
  | 10 => r10B b a r
  | 11 => r11B b a A r
  | 12 => r12B b a r
  | 13 => r13B b a r
  | 14 => r14B B A r tk
  | 15 => r15B B A r
  | 16 => r16B A ex so r
  | 17 => r17B B A r
  | 18 => r18B b a r
  | 19 => rl19 b r
  | 20 => r20B b r
  | _ => true
theorem kept2_c (b : Cp) (B : St) (br bi bo : Value) (a : Cp) (A : St) (ar ai ao : Value) (K : Cp) (tk ex so : Bool) (vi : Value) (r : Rw) (w : World) (H : Kh b B A br bi bo ar ai ao w) : Calls Tryz.prog 33 #[.agg (ssc b B br bi bo a A ar ai ao K tk ex so vi r), .int .i64 2] w fun e w' => e = .returned (.bool (r2B b a r)) ∧ Below w.heap.size w w' := by
  obtain ⟨W0, hW0, r0, b0, s0⟩ := start1 w (ssc b B br bi bo a A ar ai ao K tk ex so vi r) 79
  have BB := Hid.mkU b0.out
  clear s0 b0
  have HC : Hid (∀ W, Below w.heap.size w W → Calls Tryz.prog 104 #[.agg (ssc b B br bi bo a A ar ai ao K tk ex so vi r)] W fun e w' => e = .returned (.bool (r2B b a r)) ∧ Below W.heap.size W w') := fun W h => r2_c b B br bi bo a A ar ai ao K tk ex so vi r W
  clear H
  generalize r2B b a r = Z at *
  go_enter Tryz.func33, Tryz.ntmps33
  go_upto_region 1 with fail
  clear hW0
  go_upto_region 3 with fail
  have hne := later_nonempty W0
  have HC2 : Hid (∀ x : Later W0, Calls Tryz.prog 104 #[.agg (ssc b B br bi bo a A ar ai ao K tk ex so vi r)] x.1 fun e w' => e = .returned (.bool Z) ∧ Below x.1.heap.size x.1 w') := fun x => HC.out x.1 (BB.out.trans (x.2.mono BB.out.size))
  refine wp_region_plain (x0 := Later.start W0) ?_
  (first | (go_big_quiet_want; refine quiet_load_agg 79 _ (by rfl) (w.heap.size) 0 (by rfl) (ssc b B br bi bo a A ar ai ao K tk ex so vi r) _ r0.out.lt (lrow_cells r0.out) Tryz.underlying79 (by rfl) (info_ss ..) ?_; simp only [Act.put, List.setIfInBounds_toArray, List.set_cons_succ, List.set_cons_zero]; go_big_quiet_on) | (go_big_quiet_step (fail)))
  (go_big_quiet_step ((go_at_call 104; exact calls_later (HC2.out _))))
  (go_big_quiet_step (fail))
  refine wpQuiet_nil ?_
  rintro _ ⟨yq, rfl⟩
  go_wp2
  go_ret
  exact ⟨rfl, BB.out.trans (yq.2.mono BB.out.size)⟩
theorem kept3_c (b : Cp) (B : St) (br bi bo : Value) (a : Cp) (A : St) (ar ai ao : Value) (K : Cp) (tk ex so : Bool) (vi : Value) (r : Rw) (w : World) (H : Kh b B A br bi bo ar ai ao w) : Calls Tryz.prog 33 #[.agg (ssc b B br bi bo a A ar ai ao K tk ex so vi r), .int .i64 3] w fun e w' => e = .returned (.bool (r3B b a B A r)) ∧ Below w.heap.size w w' := by
  obtain ⟨W0, hW0, r0, b0, s0⟩ := start1 w (ssc b B br bi bo a A ar ai ao K tk ex so vi r) 79
  have BB := Hid.mkU b0.out
  clear s0 b0
  have HC : Hid (∀ W, Below w.heap.size w W → Calls Tryz.prog 105 #[.agg (ssc b B br bi bo a A ar ai ao K tk ex so vi r)] W fun e w' => e = .returned (.bool (r3B b a B A r)) ∧ Below W.heap.size W w') := fun W h => r3_c b B br bi bo a A ar ai ao K tk ex so vi r W (H.hA.later h) (H.hB.later h) H.dA H.dB
  clear H
  generalize r3B b a B A r = Z at *
  go_enter Tryz.func33, Tryz.ntmps33
  go_upto_region 1 with fail
  clear hW0
  go_upto_region 5 with fail
  have hne := later_nonempty W0
  have HC2 : Hid (∀ x : Later W0, Calls Tryz.prog 105 #[.agg (ssc b B br bi bo a A ar ai ao K tk ex so vi r)] x.1 fun e w' => e = .returned (.bool Z) ∧ Below x.1.heap.size x.1 w') := fun x => HC.out x.1 (BB.out.trans (x.2.mono BB.out.size))
  refine wp_region_plain (x0 := Later.start W0) ?_
  (first | (go_big_quiet_want; refine quiet_load_agg 79 _ (by rfl) (w.heap.size) 0 (by rfl) (ssc b B br bi bo a A ar ai ao K tk ex so vi r) _ r0.out.lt (lrow_cells r0.out) Tryz.underlying79 (by rfl) (info_ss ..) ?_; simp only [Act.put, List.setIfInBounds_toArray, List.set_cons_succ, List.set_cons_zero]; go_big_quiet_on) | (go_big_quiet_step (fail)))
  (go_big_quiet_step ((go_at_call 105; exact calls_later (HC2.out _))))
  (go_big_quiet_step (fail))
  refine wpQuiet_nil ?_
  rintro _ ⟨yq, rfl⟩
  go_wp2
  go_ret
  exact ⟨rfl, BB.out.trans (yq.2.mono BB.out.size)⟩
theorem kept4_c (b : Cp) (B : St) (br bi bo : Value) (a : Cp) (A : St) (ar ai ao : Value) (K : Cp) (tk ex so : Bool) (vi : Value) (r : Rw) (w : World) (H : Kh b B A br bi bo ar ai ao w) : Calls Tryz.prog 33 #[.agg (ssc b B br bi bo a A ar ai ao K tk ex so vi r), .int .i64 4] w fun e w' => e = .returned (.bool (woB r b.x a.x)) ∧ Below w.heap.size w w' := by
  obtain ⟨W0, hW0, r0, b0, s0⟩ := start1 w (ssc b B br bi bo a A ar ai ao K tk ex so vi r) 79
  have BB := Hid.mkU b0.out
  clear s0 b0
  have HC : Hid (∀ W, Below w.heap.size w W → Calls Tryz.prog 106 #[.agg (ssc b B br bi bo a A ar ai ao K tk ex so vi r)] W fun e w' => e = .returned (.bool (woB r b.x a.x)) ∧ Below W.heap.size W w') := fun W h => r4_c b B br bi bo a A ar ai ao K tk ex so vi r W
  clear H
  generalize woB r b.x a.x = Z at *
  go_enter Tryz.func33, Tryz.ntmps33
  go_upto_region 1 with fail
  clear hW0
  go_upto_region 7 with fail
  have hne := later_nonempty W0
  have HC2 : Hid (∀ x : Later W0, Calls Tryz.prog 106 #[.agg (ssc b B br bi bo a A ar ai ao K tk ex so vi r)] x.1 fun e w' => e = .returned (.bool Z) ∧ Below x.1.heap.size x.1 w') := fun x => HC.out x.1 (BB.out.trans (x.2.mono BB.out.size))
  refine wp_region_plain (x0 := Later.start W0) ?_
  (first | (go_big_quiet_want; refine quiet_load_agg 79 _ (by rfl) (w.heap.size) 0 (by rfl) (ssc b B br bi bo a A ar ai ao K tk ex so vi r) _ r0.out.lt (lrow_cells r0.out) Tryz.underlying79 (by rfl) (info_ss ..) ?_; simp only [Act.put, List.setIfInBounds_toArray, List.set_cons_succ, List.set_cons_zero]; go_big_quiet_on) | (go_big_quiet_step (fail)))
  (go_big_quiet_step ((go_at_call 106; exact calls_later (HC2.out _))))
  (go_big_quiet_step (fail))
  refine wpQuiet_nil ?_
  rintro _ ⟨yq, rfl⟩
  go_wp2
  go_ret
  exact ⟨rfl, BB.out.trans (yq.2.mono BB.out.size)⟩
theorem kept5_c (b : Cp) (B : St) (br bi bo : Value) (a : Cp) (A : St) (ar ai ao : Value) (K : Cp) (tk ex so : Bool) (vi : Value) (r : Rw) (w : World) (H : Kh b B A br bi bo ar ai ao w) : Calls Tryz.prog 33 #[.agg (ssc b B br bi bo a A ar ai ao K tk ex so vi r), .int .i64 5] w fun e w' => e = .returned (.bool (r5B b B A)) ∧ Below w.heap.size w w' := by
  obtain ⟨W0, hW0, r0, b0, s0⟩ := start1 w (ssc b B br bi bo a A ar ai ao K tk ex so vi r) 79
  have BB := Hid.mkU b0.out
  clear s0 b0
  have HC : Hid (∀ W, Below w.heap.size w W → Calls Tryz.prog 107 #[.agg (ssc b B br bi bo a A ar ai ao K tk ex so vi r)] W fun e w' => e = .returned (.bool (r5B b B A)) ∧ Below W.heap.size W w') := fun W h => r5_c b B br bi bo a A ar ai ao K tk ex so vi r W (H.hA.later h) (H.hB.later h) H.dB H.hlen
  clear H
  generalize r5B b B A = Z at *
  go_enter Tryz.func33, Tryz.ntmps33
  go_upto_region 1 with fail
  clear hW0
  go_upto_region 9 with fail
  have hne := later_nonempty W0
  have HC2 : Hid (∀ x : Later W0, Calls Tryz.prog 107 #[.agg (ssc b B br bi bo a A ar ai ao K tk ex so vi r)] x.1 fun e w' => e = .returned (.bool Z) ∧ Below x.1.heap.size x.1 w') := fun x => HC.out x.1 (BB.out.trans (x.2.mono BB.out.size))
  refine wp_region_plain (x0 := Later.start W0) ?_
  (first | (go_big_quiet_want; refine quiet_load_agg 79 _ (by rfl) (w.heap.size) 0 (by rfl) (ssc b B br bi bo a A ar ai ao K tk ex so vi r) _ r0.out.lt (lrow_cells r0.out) Tryz.underlying79 (by rfl) (info_ss ..) ?_; simp only [Act.put, List.setIfInBounds_toArray, List.set_cons_succ, List.set_cons_zero]; go_big_quiet_on) | (go_big_quiet_step (fail)))
  (go_big_quiet_step ((go_at_call 107; exact calls_later (HC2.out _))))
  (go_big_quiet_step (fail))
  refine wpQuiet_nil ?_
  rintro _ ⟨yq, rfl⟩
  go_wp2
  go_ret
  exact ⟨rfl, BB.out.trans (yq.2.mono BB.out.size)⟩
theorem kept6_c (b : Cp) (B : St) (br bi bo : Value) (a : Cp) (A : St) (ar ai ao : Value) (K : Cp) (tk ex so : Bool) (vi : Value) (r : Rw) (w : World) (H : Kh b B A br bi bo ar ai ao w) : Calls Tryz.prog 33 #[.agg (ssc b B br bi bo a A ar ai ao K tk ex so vi r), .int .i64 6] w fun e w' => e = .returned (.bool (r6B B A r)) ∧ Below w.heap.size w w' := by
  obtain ⟨W0, hW0, r0, b0, s0⟩ := start1 w (ssc b B br bi bo a A ar ai ao K tk ex so vi r) 79
  have BB := Hid.mkU b0.out
  clear s0 b0
  have HC : Hid (∀ W, Below w.heap.size w W → Calls Tryz.prog 108 #[.agg (ssc b B br bi bo a A ar ai ao K tk ex so vi r)] W fun e w' => e = .returned (.bool (r6B B A r)) ∧ Below W.heap.size W w') := fun W h => r6_c b B br bi bo a A ar ai ao K tk ex so vi r W (H.hA.later h) (H.hB.later h) H.dB H.hlen
  clear H
  generalize r6B B A r = Z at *
  go_enter Tryz.func33, Tryz.ntmps33
  go_upto_region 1 with fail
  clear hW0
  go_upto_region 11 with fail
  have hne := later_nonempty W0
  have HC2 : Hid (∀ x : Later W0, Calls Tryz.prog 108 #[.agg (ssc b B br bi bo a A ar ai ao K tk ex so vi r)] x.1 fun e w' => e = .returned (.bool Z) ∧ Below x.1.heap.size x.1 w') := fun x => HC.out x.1 (BB.out.trans (x.2.mono BB.out.size))
  refine wp_region_plain (x0 := Later.start W0) ?_
  (first | (go_big_quiet_want; refine quiet_load_agg 79 _ (by rfl) (w.heap.size) 0 (by rfl) (ssc b B br bi bo a A ar ai ao K tk ex so vi r) _ r0.out.lt (lrow_cells r0.out) Tryz.underlying79 (by rfl) (info_ss ..) ?_; simp only [Act.put, List.setIfInBounds_toArray, List.set_cons_succ, List.set_cons_zero]; go_big_quiet_on) | (go_big_quiet_step (fail)))
  (go_big_quiet_step ((go_at_call 108; exact calls_later (HC2.out _))))
  (go_big_quiet_step (fail))
  refine wpQuiet_nil ?_
  rintro _ ⟨yq, rfl⟩
  go_wp2
  go_ret
  exact ⟨rfl, BB.out.trans (yq.2.mono BB.out.size)⟩
theorem kept8_c (b : Cp) (B : St) (br bi bo : Value) (a : Cp) (A : St) (ar ai ao : Value) (K : Cp) (tk ex so : Bool) (vi : Value) (r : Rw) (w : World) (H : Kh b B A br bi bo ar ai ao w) : Calls Tryz.prog 33 #[.agg (ssc b B br bi bo a A ar ai ao K tk ex so vi r), .int .i64 8] w fun e w' => e = .returned (.bool (klB b.c b.a a.c a.a)) ∧ Below w.heap.size w w' := by
  obtain ⟨W0, hW0, r0, b0, s0⟩ := start1 w (ssc b B br bi bo a A ar ai ao K tk ex so vi r) 79
  have BB := Hid.mkU b0.out
  clear s0 b0
  have HC : Hid (∀ W, Below w.heap.size w W → Calls Tryz.prog 109 #[.agg (ssc b B br bi bo a A ar ai ao K tk ex so vi r)] W fun e w' => e = .returned (.bool (klB b.c b.a a.c a.a)) ∧ Below W.heap.size W w') := fun W h => r8_c b B br bi bo a A ar ai ao K tk ex so vi r W
  clear H
  generalize klB b.c b.a a.c a.a = Z at *
  go_enter Tryz.func33, Tryz.ntmps33
  go_upto_region 1 with fail
  clear hW0
  go_upto_region 15 with fail
  have hne := later_nonempty W0
  have HC2 : Hid (∀ x : Later W0, Calls Tryz.prog 109 #[.agg (ssc b B br bi bo a A ar ai ao K tk ex so vi r)] x.1 fun e w' => e = .returned (.bool Z) ∧ Below x.1.heap.size x.1 w') := fun x => HC.out x.1 (BB.out.trans (x.2.mono BB.out.size))
  refine wp_region_plain (x0 := Later.start W0) ?_
  (first | (go_big_quiet_want; refine quiet_load_agg 79 _ (by rfl) (w.heap.size) 0 (by rfl) (ssc b B br bi bo a A ar ai ao K tk ex so vi r) _ r0.out.lt (lrow_cells r0.out) Tryz.underlying79 (by rfl) (info_ss ..) ?_; simp only [Act.put, List.setIfInBounds_toArray, List.set_cons_succ, List.set_cons_zero]; go_big_quiet_on) | (go_big_quiet_step (fail)))
  (go_big_quiet_step ((go_at_call 109; exact calls_later (HC2.out _))))
  (go_big_quiet_step (fail))
  refine wpQuiet_nil ?_
  rintro _ ⟨yq, rfl⟩
  go_wp2
  go_ret
  exact ⟨rfl, BB.out.trans (yq.2.mono BB.out.size)⟩
theorem kept9_c (b : Cp) (B : St) (br bi bo : Value) (a : Cp) (A : St) (ar ai ao : Value) (K : Cp) (tk ex so : Bool) (vi : Value) (r : Rw) (w : World) (H : Kh b B A br bi bo ar ai ao w) : Calls Tryz.prog 33 #[.agg (ssc b B br bi bo a A ar ai ao K tk ex so vi r), .int .i64 9] w fun e w' => e = .returned (.bool (r9B b a r)) ∧ Below w.heap.size w w' := by
  obtain ⟨W0, hW0, r0, b0, s0⟩ := start1 w (ssc b B br bi bo a A ar ai ao K tk ex so vi r) 79
  have BB := Hid.mkU b0.out
  clear s0 b0
  have HC : Hid (∀ W, Below w.heap.size w W → Calls Tryz.prog 110 #[.agg (ssc b B br bi bo a A ar ai ao K tk ex so vi r)] W fun e w' => e = .returned (.bool (r9B b a r)) ∧ Below W.heap.size W w') := fun W h => r9_c b B br bi bo a A ar ai ao K tk ex so vi r W
  clear H
  generalize r9B b a r = Z at *
  go_enter Tryz.func33, Tryz.ntmps33
  go_upto_region 1 with fail
  clear hW0
  go_upto_region 17 with fail
  have hne := later_nonempty W0
  have HC2 : Hid (∀ x : Later W0, Calls Tryz.prog 110 #[.agg (ssc b B br bi bo a A ar ai ao K tk ex so vi r)] x.1 fun e w' => e = .returned (.bool Z) ∧ Below x.1.heap.size x.1 w') := fun x => HC.out x.1 (BB.out.trans (x.2.mono BB.out.size))
  refine wp_region_plain (x0 := Later.start W0) ?_
  (first | (go_big_quiet_want; refine quiet_load_agg 79 _ (by rfl) (w.heap.size) 0 (by rfl) (ssc b B br bi bo a A ar ai ao K tk ex so vi r) _ r0.out.lt (lrow_cells r0.out) Tryz.underlying79 (by rfl) (info_ss ..) ?_; simp only [Act.put, List.setIfInBounds_toArray, List.set_cons_succ, List.set_cons_zero]; go_big_quiet_on) | (go_big_quiet_step (fail)))
  (go_big_quiet_step ((go_at_call 110; exact calls_later (HC2.out _))))
  (go_big_quiet_step (fail))
  refine wpQuiet_nil ?_
  rintro _ ⟨yq, rfl⟩
  go_wp2
  go_ret
  exact ⟨rfl, BB.out.trans (yq.2.mono BB.out.size)⟩
theorem kept10_c (b : Cp) (B : St) (br bi bo : Value) (a : Cp) (A : St) (ar ai ao : Value) (K : Cp) (tk ex so : Bool) (vi : Value) (r : Rw) (w : World) (H : Kh b B A br bi bo ar ai ao w) : Calls Tryz.prog 33 #[.agg (ssc b B br bi bo a A ar ai ao K tk ex so vi r), .int .i64 10] w fun e w' => e = .returned (.bool (r10B b a r)) ∧ Below w.heap.size w w' := by
  obtain ⟨W0, hW0, r0, b0, s0⟩ := start1 w (ssc b B br bi bo a A ar ai ao K tk ex so vi r) 79
  have BB := Hid.mkU b0.out
  clear s0 b0
  have HC : Hid (∀ W, Below w.heap.size w W → Calls Tryz.prog 111 #[.agg (ssc b B br bi bo a A ar ai ao K tk ex so vi r)] W fun e w' => e = .returned (.bool (r10B b a r)) ∧ Below W.heap.size W w') := fun W h => r10_c b B br bi bo a A ar ai ao K tk ex so vi r W H.hm
  clear H
  generalize r10B b a r = Z at *
  go_enter Tryz.func33, Tryz.ntmps33
  go_upto_region 1 with fail
  clear hW0
  go_upto_region 19 with fail
  have hne := later_nonempty W0
  have HC2 : Hid (∀ x : Later W0, Calls Tryz.prog 111 #[.agg (ssc b B br bi bo a A ar ai ao K tk ex so vi r)] x.1 fun e w' => e = .returned (.bool Z) ∧ Below x.1.heap.size x.1 w') := fun x => HC.out x.1 (BB.out.trans (x.2.mono BB.out.size))
  refine wp_region_plain (x0 := Later.start W0) ?_
  (first | (go_big_quiet_want; refine quiet_load_agg 79 _ (by rfl) (w.heap.size) 0 (by rfl) (ssc b B br bi bo a A ar ai ao K tk ex so vi r) _ r0.out.lt (lrow_cells r0.out) Tryz.underlying79 (by rfl) (info_ss ..) ?_; simp only [Act.put, List.setIfInBounds_toArray, List.set_cons_succ, List.set_cons_zero]; go_big_quiet_on) | (go_big_quiet_step (fail)))
  (go_big_quiet_step ((go_at_call 111; exact calls_later (HC2.out _))))
  (go_big_quiet_step (fail))
  refine wpQuiet_nil ?_
  rintro _ ⟨yq, rfl⟩
  go_wp2
  go_ret
  exact ⟨rfl, BB.out.trans (yq.2.mono BB.out.size)⟩
theorem kept11_c (b : Cp) (B : St) (br bi bo : Value) (a : Cp) (A : St) (ar ai ao : Value) (K : Cp) (tk ex so : Bool) (vi : Value) (r : Rw) (w : World) (H : Kh b B A br bi bo ar ai ao w) : Calls Tryz.prog 33 #[.agg (ssc b B br bi bo a A ar ai ao K tk ex so vi r), .int .i64 11] w fun e w' => e = .returned (.bool (r11B b a A r)) ∧ Below w.heap.size w w' := by
  obtain ⟨W0, hW0, r0, b0, s0⟩ := start1 w (ssc b B br bi bo a A ar ai ao K tk ex so vi r) 79
  have BB := Hid.mkU b0.out
  clear s0 b0
  have HC : Hid (∀ W, Below w.heap.size w W → Calls Tryz.prog 112 #[.agg (ssc b B br bi bo a A ar ai ao K tk ex so vi r)] W fun e w' => e = .returned (.bool (r11B b a A r)) ∧ Below W.heap.size W w') := fun W h => by
    obtain ⟨xi, ci, hai, -⟩ := H.hA.i
    exact r11_c b B br bi bo a A ar ai ao K tk ex so vi r xi ci W hai
  clear H
  generalize r11B b a A r = Z at *
  go_enter Tryz.func33, Tryz.ntmps33
  go_upto_region 1 with fail
  clear hW0
  go_upto_region 21 with fail
  have hne := later_nonempty W0
  have HC2 : Hid (∀ x : Later W0, Calls Tryz.prog 112 #[.agg (ssc b B br bi bo a A ar ai ao K tk ex so vi r)] x.1 fun e w' => e = .returned (.bool Z) ∧ Below x.1.heap.size x.1 w') := fun x => HC.out x.1 (BB.out.trans (x.2.mono BB.out.size))
  refine wp_region_plain (x0 := Later.start W0) ?_
  (first | (go_big_quiet_want; refine quiet_load_agg 79 _ (by rfl) (w.heap.size) 0 (by rfl) (ssc b B br bi bo a A ar ai ao K tk ex so vi r) _ r0.out.lt (lrow_cells r0.out) Tryz.underlying79 (by rfl) (info_ss ..) ?_; simp only [Act.put, List.setIfInBounds_toArray, List.set_cons_succ, List.set_cons_zero]; go_big_quiet_on) | (go_big_quiet_step (fail)))
  (go_big_quiet_step ((go_at_call 112; exact calls_later (HC2.out _))))
  (go_big_quiet_step (fail))
  refine wpQuiet_nil ?_
  rintro _ ⟨yq, rfl⟩
  go_wp2
  go_ret
  exact ⟨rfl, BB.out.trans (yq.2.mono BB.out.size)⟩
theorem kept12_c (b : Cp) (B : St) (br bi bo : Value) (a : Cp) (A : St) (ar ai ao : Value) (K : Cp) (tk ex so : Bool) (vi : Value) (r : Rw) (w : World) (H : Kh b B A br bi bo ar ai ao w) : Calls Tryz.prog 33 #[.agg (ssc b B br bi bo a A ar ai ao K tk ex so vi r), .int .i64 12] w fun e w' => e = .returned (.bool (r12B b a r)) ∧ Below w.heap.size w w' := by
  obtain ⟨W0, hW0, r0, b0, s0⟩ := start1 w (ssc b B br bi bo a A ar ai ao K tk ex so vi r) 79
  have BB := Hid.mkU b0.out
  clear s0 b0
  have HC : Hid (∀ W, Below w.heap.size w W → Calls Tryz.prog 113 #[.agg (ssc b B br bi bo a A ar ai ao K tk ex so vi r)] W fun e w' => e = .returned (.bool (r12B b a r)) ∧ Below W.heap.size W w') := fun W h => r12_c b B br bi bo a A ar ai ao K tk ex so vi r W
  clear H
  generalize r12B b a r = Z at *
  go_enter Tryz.func33, Tryz.ntmps33
  go_upto_region 1 with fail
  clear hW0
  go_upto_region 23 with fail
  have hne := later_nonempty W0
  have HC2 : Hid (∀ x : Later W0, Calls Tryz.prog 113 #[.agg (ssc b B br bi bo a A ar ai ao K tk ex so vi r)] x.1 fun e w' => e = .returned (.bool Z) ∧ Below x.1.heap.size x.1 w') := fun x => HC.out x.1 (BB.out.trans (x.2.mono BB.out.size))
  refine wp_region_plain (x0 := Later.start W0) ?_
  (first | (go_big_quiet_want; refine quiet_load_agg 79 _ (by rfl) (w.heap.size) 0 (by rfl) (ssc b B br bi bo a A ar ai ao K tk ex so vi r) _ r0.out.lt (lrow_cells r0.out) Tryz.underlying79 (by rfl) (info_ss ..) ?_; simp only [Act.put, List.setIfInBounds_toArray, List.set_cons_succ, List.set_cons_zero]; go_big_quiet_on) | (go_big_quiet_step (fail)))
  (go_big_quiet_step ((go_at_call 113; exact calls_later (HC2.out _))))
  (go_big_quiet_step (fail))
  refine wpQuiet_nil ?_
  rintro _ ⟨yq, rfl⟩
  go_wp2
  go_ret
  exact ⟨rfl, BB.out.trans (yq.2.mono BB.out.size)⟩
theorem kept13_c (b : Cp) (B : St) (br bi bo : Value) (a : Cp) (A : St) (ar ai ao : Value) (K : Cp) (tk ex so : Bool) (vi : Value) (r : Rw) (w : World) (H : Kh b B A br bi bo ar ai ao w) : Calls Tryz.prog 33 #[.agg (ssc b B br bi bo a A ar ai ao K tk ex so vi r), .int .i64 13] w fun e w' => e = .returned (.bool (r13B b a r)) ∧ Below w.heap.size w w' := by
  obtain ⟨W0, hW0, r0, b0, s0⟩ := start1 w (ssc b B br bi bo a A ar ai ao K tk ex so vi r) 79
  have BB := Hid.mkU b0.out
  clear s0 b0
  have HC : Hid (∀ W, Below w.heap.size w W → Calls Tryz.prog 114 #[.agg (ssc b B br bi bo a A ar ai ao K tk ex so vi r)] W fun e w' => e = .returned (.bool (r13B b a r)) ∧ Below W.heap.size W w') := fun W h => r13_c b B br bi bo a A ar ai ao K tk ex so vi r W
  clear H
  generalize r13B b a r = Z at *
  go_enter Tryz.func33, Tryz.ntmps33
  go_upto_region 1 with fail
  clear hW0
  go_upto_region 25 with fail
  have hne := later_nonempty W0
  have HC2 : Hid (∀ x : Later W0, Calls Tryz.prog 114 #[.agg (ssc b B br bi bo a A ar ai ao K tk ex so vi r)] x.1 fun e w' => e = .returned (.bool Z) ∧ Below x.1.heap.size x.1 w') := fun x => HC.out x.1 (BB.out.trans (x.2.mono BB.out.size))
  refine wp_region_plain (x0 := Later.start W0) ?_
  (first | (go_big_quiet_want; refine quiet_load_agg 79 _ (by rfl) (w.heap.size) 0 (by rfl) (ssc b B br bi bo a A ar ai ao K tk ex so vi r) _ r0.out.lt (lrow_cells r0.out) Tryz.underlying79 (by rfl) (info_ss ..) ?_; simp only [Act.put, List.setIfInBounds_toArray, List.set_cons_succ, List.set_cons_zero]; go_big_quiet_on) | (go_big_quiet_step (fail)))
  (go_big_quiet_step ((go_at_call 114; exact calls_later (HC2.out _))))
  (go_big_quiet_step (fail))
  refine wpQuiet_nil ?_
  rintro _ ⟨yq, rfl⟩
  go_wp2
  go_ret
  exact ⟨rfl, BB.out.trans (yq.2.mono BB.out.size)⟩
theorem kept14_c (b : Cp) (B : St) (br bi bo : Value) (a : Cp) (A : St) (ar ai ao : Value) (K : Cp) (tk ex so : Bool) (vi : Value) (r : Rw) (w : World) (H : Kh b B A br bi bo ar ai ao w) : Calls Tryz.prog 33 #[.agg (ssc b B br bi bo a A ar ai ao K tk ex so vi r), .int .i64 14] w fun e w' => e = .returned (.bool (r14B B A r tk)) ∧ Below w.heap.size w w' := by
  obtain ⟨W0, hW0, r0, b0, s0⟩ := start1 w (ssc b B br bi bo a A ar ai ao K tk ex so vi r) 79
  have BB := Hid.mkU b0.out
  clear s0 b0
  have HC : Hid (∀ W, Below w.heap.size w W → Calls Tryz.prog 115 #[.agg (ssc b B br bi bo a A ar ai ao K tk ex so vi r)] W fun e w' => e = .returned (.bool (r14B B A r tk)) ∧ Below W.heap.size W w') := fun W h => r14_c b B br bi bo a A ar ai ao K tk ex so vi r W
  clear H
  generalize r14B B A r tk = Z at *
  go_enter Tryz.func33, Tryz.ntmps33
  go_upto_region 1 with fail
  clear hW0
  go_upto_region 27 with fail
  have hne := later_nonempty W0
  have HC2 : Hid (∀ x : Later W0, Calls Tryz.prog 115 #[.agg (ssc b B br bi bo a A ar ai ao K tk ex so vi r)] x.1 fun e w' => e = .returned (.bool Z) ∧ Below x.1.heap.size x.1 w') := fun x => HC.out x.1 (BB.out.trans (x.2.mono BB.out.size))
  refine wp_region_plain (x0 := Later.start W0) ?_
  (first | (go_big_quiet_want; refine quiet_load_agg 79 _ (by rfl) (w.heap.size) 0 (by rfl) (ssc b B br bi bo a A ar ai ao K tk ex so vi r) _ r0.out.lt (lrow_cells r0.out) Tryz.underlying79 (by rfl) (info_ss ..) ?_; simp only [Act.put, List.setIfInBounds_toArray, List.set_cons_succ, List.set_cons_zero]; go_big_quiet_on) | (go_big_quiet_step (fail)))
  (go_big_quiet_step ((go_at_call 115; exact calls_later (HC2.out _))))
  (go_big_quiet_step (fail))
  refine wpQuiet_nil ?_
  rintro _ ⟨yq, rfl⟩
  go_wp2
  go_ret
  exact ⟨rfl, BB.out.trans (yq.2.mono BB.out.size)⟩
theorem kept15_c (b : Cp) (B : St) (br bi bo : Value) (a : Cp) (A : St) (ar ai ao : Value) (K : Cp) (tk ex so : Bool) (vi : Value) (r : Rw) (w : World) (H : Kh b B A br bi bo ar ai ao w) : Calls Tryz.prog 33 #[.agg (ssc b B br bi bo a A ar ai ao K tk ex so vi r), .int .i64 15] w fun e w' => e = .returned (.bool (r15B B A r)) ∧ Below w.heap.size w w' := by
  obtain ⟨W0, hW0, r0, b0, s0⟩ := start1 w (ssc b B br bi bo a A ar ai ao K tk ex so vi r) 79
  have BB := Hid.mkU b0.out
  clear s0 b0
  have HC : Hid (∀ W, Below w.heap.size w W → Calls Tryz.prog 116 #[.agg (ssc b B br bi bo a A ar ai ao K tk ex so vi r)] W fun e w' => e = .returned (.bool (r15B B A r)) ∧ Below W.heap.size W w') := fun W h => r15_c b B br bi bo a A ar ai ao K tk ex so vi r W
  clear H
  generalize r15B B A r = Z at *
  go_enter Tryz.func33, Tryz.ntmps33
  go_upto_region 1 with fail
  clear hW0
  go_upto_region 29 with fail
  have hne := later_nonempty W0
  have HC2 : Hid (∀ x : Later W0, Calls Tryz.prog 116 #[.agg (ssc b B br bi bo a A ar ai ao K tk ex so vi r)] x.1 fun e w' => e = .returned (.bool Z) ∧ Below x.1.heap.size x.1 w') := fun x => HC.out x.1 (BB.out.trans (x.2.mono BB.out.size))
  refine wp_region_plain (x0 := Later.start W0) ?_
  (first | (go_big_quiet_want; refine quiet_load_agg 79 _ (by rfl) (w.heap.size) 0 (by rfl) (ssc b B br bi bo a A ar ai ao K tk ex so vi r) _ r0.out.lt (lrow_cells r0.out) Tryz.underlying79 (by rfl) (info_ss ..) ?_; simp only [Act.put, List.setIfInBounds_toArray, List.set_cons_succ, List.set_cons_zero]; go_big_quiet_on) | (go_big_quiet_step (fail)))
  (go_big_quiet_step ((go_at_call 116; exact calls_later (HC2.out _))))
  (go_big_quiet_step (fail))
  refine wpQuiet_nil ?_
  rintro _ ⟨yq, rfl⟩
  go_wp2
  go_ret
  exact ⟨rfl, BB.out.trans (yq.2.mono BB.out.size)⟩
theorem kept17_c (b : Cp) (B : St) (br bi bo : Value) (a : Cp) (A : St) (ar ai ao : Value) (K : Cp) (tk ex so : Bool) (vi : Value) (r : Rw) (w : World) (H : Kh b B A br bi bo ar ai ao w) : Calls Tryz.prog 33 #[.agg (ssc b B br bi bo a A ar ai ao K tk ex so vi r), .int .i64 17] w fun e w' => e = .returned (.bool (r17B B A r)) ∧ Below w.heap.size w w' := by
  obtain ⟨W0, hW0, r0, b0, s0⟩ := start1 w (ssc b B br bi bo a A ar ai ao K tk ex so vi r) 79
  have BB := Hid.mkU b0.out
  clear s0 b0
  have HC : Hid (∀ W, Below w.heap.size w W → Calls Tryz.prog 117 #[.agg (ssc b B br bi bo a A ar ai ao K tk ex so vi r)] W fun e w' => e = .returned (.bool (r17B B A r)) ∧ Below W.heap.size W w') := fun W h => r17_c b B br bi bo a A ar ai ao K tk ex so vi r W (H.hA.later h) (H.hB.later h) H.dB H.hAll
  clear H
  generalize r17B B A r = Z at *
  go_enter Tryz.func33, Tryz.ntmps33
  go_upto_region 1 with fail
  clear hW0
  go_upto_region 33 with fail
  have hne := later_nonempty W0
  have HC2 : Hid (∀ x : Later W0, Calls Tryz.prog 117 #[.agg (ssc b B br bi bo a A ar ai ao K tk ex so vi r)] x.1 fun e w' => e = .returned (.bool Z) ∧ Below x.1.heap.size x.1 w') := fun x => HC.out x.1 (BB.out.trans (x.2.mono BB.out.size))
  refine wp_region_plain (x0 := Later.start W0) ?_
  (first | (go_big_quiet_want; refine quiet_load_agg 79 _ (by rfl) (w.heap.size) 0 (by rfl) (ssc b B br bi bo a A ar ai ao K tk ex so vi r) _ r0.out.lt (lrow_cells r0.out) Tryz.underlying79 (by rfl) (info_ss ..) ?_; simp only [Act.put, List.setIfInBounds_toArray, List.set_cons_succ, List.set_cons_zero]; go_big_quiet_on) | (go_big_quiet_step (fail)))
  (go_big_quiet_step ((go_at_call 117; exact calls_later (HC2.out _))))
  (go_big_quiet_step (fail))
  refine wpQuiet_nil ?_
  rintro _ ⟨yq, rfl⟩
  go_wp2
  go_ret
  exact ⟨rfl, BB.out.trans (yq.2.mono BB.out.size)⟩
theorem kept18_c (b : Cp) (B : St) (br bi bo : Value) (a : Cp) (A : St) (ar ai ao : Value) (K : Cp) (tk ex so : Bool) (vi : Value) (r : Rw) (w : World) (H : Kh b B A br bi bo ar ai ao w) : Calls Tryz.prog 33 #[.agg (ssc b B br bi bo a A ar ai ao K tk ex so vi r), .int .i64 18] w fun e w' => e = .returned (.bool (r18B b a r)) ∧ Below w.heap.size w w' := by
  obtain ⟨W0, hW0, r0, b0, s0⟩ := start1 w (ssc b B br bi bo a A ar ai ao K tk ex so vi r) 79
  have BB := Hid.mkU b0.out
  clear s0 b0
  have HC : Hid (∀ W, Below w.heap.size w W → Calls Tryz.prog 118 #[.agg (ssc b B br bi bo a A ar ai ao K tk ex so vi r)] W fun e w' => e = .returned (.bool (r18B b a r)) ∧ Below W.heap.size W w') := fun W h => r18_c b B br bi bo a A ar ai ao K tk ex so vi r W
  clear H
  generalize r18B b a r = Z at *
  go_enter Tryz.func33, Tryz.ntmps33
  go_upto_region 1 with fail
  clear hW0
  go_upto_region 35 with fail
  have hne := later_nonempty W0
  have HC2 : Hid (∀ x : Later W0, Calls Tryz.prog 118 #[.agg (ssc b B br bi bo a A ar ai ao K tk ex so vi r)] x.1 fun e w' => e = .returned (.bool Z) ∧ Below x.1.heap.size x.1 w') := fun x => HC.out x.1 (BB.out.trans (x.2.mono BB.out.size))
  refine wp_region_plain (x0 := Later.start W0) ?_
  (first | (go_big_quiet_want; refine quiet_load_agg 79 _ (by rfl) (w.heap.size) 0 (by rfl) (ssc b B br bi bo a A ar ai ao K tk ex so vi r) _ r0.out.lt (lrow_cells r0.out) Tryz.underlying79 (by rfl) (info_ss ..) ?_; simp only [Act.put, List.setIfInBounds_toArray, List.set_cons_succ, List.set_cons_zero]; go_big_quiet_on) | (go_big_quiet_step (fail)))
  (go_big_quiet_step ((go_at_call 118; exact calls_later (HC2.out _))))
  (go_big_quiet_step (fail))
  refine wpQuiet_nil ?_
  rintro _ ⟨yq, rfl⟩
  go_wp2
  go_ret
  exact ⟨rfl, BB.out.trans (yq.2.mono BB.out.size)⟩
theorem kept19_c (b : Cp) (B : St) (br bi bo : Value) (a : Cp) (A : St) (ar ai ao : Value) (K : Cp) (tk ex so : Bool) (vi : Value) (r : Rw) (w : World) (H : Kh b B A br bi bo ar ai ao w) : Calls Tryz.prog 33 #[.agg (ssc b B br bi bo a A ar ai ao K tk ex so vi r), .int .i64 19] w fun e w' => e = .returned (.bool (rl19 b r)) ∧ Below w.heap.size w w' := by
  obtain ⟨W0, hW0, r0, b0, s0⟩ := start1 w (ssc b B br bi bo a A ar ai ao K tk ex so vi r) 79
  have BB := Hid.mkU b0.out
  clear s0 b0
  have HC : Hid (∀ W, Below w.heap.size w W → Calls Tryz.prog 119 #[.agg (ssc b B br bi bo a A ar ai ao K tk ex so vi r)] W fun e w' => e = .returned (.bool (rl19 b r)) ∧ Below W.heap.size W w') := fun W h => r19_c b B br bi bo a A ar ai ao K tk ex so vi r W
  clear H
  generalize rl19 b r = Z at *
  go_enter Tryz.func33, Tryz.ntmps33
  go_upto_region 1 with fail
  clear hW0
  go_upto_region 37 with fail
  have hne := later_nonempty W0
  have HC2 : Hid (∀ x : Later W0, Calls Tryz.prog 119 #[.agg (ssc b B br bi bo a A ar ai ao K tk ex so vi r)] x.1 fun e w' => e = .returned (.bool Z) ∧ Below x.1.heap.size x.1 w') := fun x => HC.out x.1 (BB.out.trans (x.2.mono BB.out.size))
  refine wp_region_plain (x0 := Later.start W0) ?_
  (first | (go_big_quiet_want; refine quiet_load_agg 79 _ (by rfl) (w.heap.size) 0 (by rfl) (ssc b B br bi bo a A ar ai ao K tk ex so vi r) _ r0.out.lt (lrow_cells r0.out) Tryz.underlying79 (by rfl) (info_ss ..) ?_; simp only [Act.put, List.setIfInBounds_toArray, List.set_cons_succ, List.set_cons_zero]; go_big_quiet_on) | (go_big_quiet_step (fail)))
  (go_big_quiet_step ((go_at_call 119; exact calls_later (HC2.out _))))
  (go_big_quiet_step (fail))
  refine wpQuiet_nil ?_
  rintro _ ⟨yq, rfl⟩
  go_wp2
  go_ret
  exact ⟨rfl, BB.out.trans (yq.2.mono BB.out.size)⟩
theorem kept20_c (b : Cp) (B : St) (br bi bo : Value) (a : Cp) (A : St) (ar ai ao : Value) (K : Cp) (tk ex so : Bool) (vi : Value) (r : Rw) (w : World) (H : Kh b B A br bi bo ar ai ao w) : Calls Tryz.prog 33 #[.agg (ssc b B br bi bo a A ar ai ao K tk ex so vi r), .int .i64 20] w fun e w' => e = .returned (.bool (r20B b r)) ∧ Below w.heap.size w w' := by
  obtain ⟨W0, hW0, r0, b0, s0⟩ := start1 w (ssc b B br bi bo a A ar ai ao K tk ex so vi r) 79
  have BB := Hid.mkU b0.out
  clear s0 b0
  have HC : Hid (∀ W, Below w.heap.size w W → Calls Tryz.prog 120 #[.agg (ssc b B br bi bo a A ar ai ao K tk ex so vi r)] W fun e w' => e = .returned (.bool (r20B b r)) ∧ Below W.heap.size W w') := fun W h => r20_c b B br bi bo a A ar ai ao K tk ex so vi r W
  clear H
  generalize r20B b r = Z at *
  go_enter Tryz.func33, Tryz.ntmps33
  go_upto_region 1 with fail
  clear hW0
  go_upto_region 38 with fail
  have hne := later_nonempty W0
  have HC2 : Hid (∀ x : Later W0, Calls Tryz.prog 120 #[.agg (ssc b B br bi bo a A ar ai ao K tk ex so vi r)] x.1 fun e w' => e = .returned (.bool Z) ∧ Below x.1.heap.size x.1 w') := fun x => HC.out x.1 (BB.out.trans (x.2.mono BB.out.size))
  refine wp_region_plain (x0 := Later.start W0) ?_
  (first | (go_big_quiet_want; refine quiet_load_agg 79 _ (by rfl) (w.heap.size) 0 (by rfl) (ssc b B br bi bo a A ar ai ao K tk ex so vi r) _ r0.out.lt (lrow_cells r0.out) Tryz.underlying79 (by rfl) (info_ss ..) ?_; simp only [Act.put, List.setIfInBounds_toArray, List.set_cons_succ, List.set_cons_zero]; go_big_quiet_on) | (go_big_quiet_step (fail)))
  (go_big_quiet_step ((go_at_call 120; exact calls_later (HC2.out _))))
  (go_big_quiet_step (fail))
  refine wpQuiet_nil ?_
  rintro _ ⟨yq, rfl⟩
  go_wp2
  go_ret
  exact ⟨rfl, BB.out.trans (yq.2.mono BB.out.size)⟩
theorem kept7_c (b : Cp) (B : St) (br bi bo : Value) (a : Cp) (A : St) (ar ai ao : Value) (K : Cp) (tk ex so : Bool) (vi : Value) (r : Rw) (w : World) (H : Kh b B A br bi bo ar ai ao w) : Calls Tryz.prog 33 #[.agg (ssc b B br bi bo a A ar ai ao K tk ex so vi r), .int .i64 7] w fun e w' => e = .returned (.bool (r7B b a)) ∧ Below w.heap.size w w' := by
  obtain ⟨W0, hW0, r0, b0, s0⟩ := start1 w (ssc b B br bi bo a A ar ai ao K tk ex so vi r) 79
  have BB := Hid.mkU b0.out
  clear s0 b0
  have HM : Hid ((r7B b a) = ((b.md != 0) || (pEq a.c a.a b.c b.a))) := rfl
  have HEP := Hid.mkU (fun w => eq_pmpU a.c a.a b.c b.a w)
  clear H
  have c_b_md : ∀ x : Later W0, x.1.cell? ⟨w.heap.size, 33, none⟩ = some (.int .i64 b.md) := fun x => ((lrow r0.out x).cell 33).trans (ssc_bc _ _ _ _ _ _ _ _ _ _ _ _ _ _ _ _ 33 _ (cpc_at _ 33 (by omega)))
  generalize hZ : (r7B b a) = Z at HM ⊢
  clear hZ
  generalize pEq a.c a.a b.c b.a = z1 at *
  go_enter Tryz.func33, Tryz.ntmps33
  go_upto_region 1 with fail
  clear hW0
  go_upto_region 13 with fail
  have hne := later_nonempty W0
  cases q1 : (b.md != 0)
  focus
    cases z1
    focus
      have HV : Hid (Z = false) := (by unfold Hid; first | (rw [HM.out, q1]; done) | (rw [HM.out, q1]; rfl))
      clear HM
    rotate_left 1
    focus
      have HV : Hid (Z = true) := (by unfold Hid; first | (rw [HM.out, q1]; done) | (rw [HM.out, q1]; rfl))
      clear HM
    rotate_left 1
  rotate_left 2
  focus
    have HV : Hid (Z = true) := (by unfold Hid; first | (rw [HM.out, q1]; done) | (rw [HM.out, q1]; rfl))
    clear HM
  rotate_left 1
  all_goals
    refine wp_region_plain (x0 := Later.start W0) ?_
    iterate 9 (go_big_quiet_step (fail))
    (first | (go_big_quiet_want; refine quiet_load_agg 28 _ (by rfl) (w.heap.size) 144 (by rfl) (pc a.c a.a) _ r0.out.lt (fun j v hv => (r0.out.cell (144 + j)).trans (ssc_ap _ _ _ _ _ _ _ _ _ _ _ _ _ _ _ _ j v hv)) Tryz.underlying28 (by rfl) (info_pmpU _ _) ?_; simp only [Act.put, List.setIfInBounds_toArray, List.set_cons_succ, List.set_cons_zero]; go_big_quiet_on) | (go_big_quiet_step (fail)))
    iterate 3 (go_big_quiet_step (fail))
    (first | (go_big_quiet_want; refine quiet_load_agg 28 _ (by rfl) (w.heap.size) 47 (by rfl) (pc b.c b.a) _ r0.out.lt (fun j v hv => (r0.out.cell (47 + j)).trans (ssc_bp _ _ _ _ _ _ _ _ _ _ _ _ _ _ _ _ j v hv)) Tryz.underlying28 (by rfl) (info_pmpU _ _) ?_; simp only [Act.put, List.setIfInBounds_toArray, List.set_cons_succ, List.set_cons_zero]; go_big_quiet_on) | (go_big_quiet_step (fail)))
    (first | (go_big_quiet_want; refine quiet_eql_agg 28 _ _ _ (by rfl) (pc a.c a.a) (pc b.c b.a) (by rfl) (by rfl) _ HEP.out (fun w => eqG_pmpU _ _ _ _ w) ?_; simp only [Act.put, List.setIfInBounds_toArray, List.set_cons_succ, List.set_cons_zero]; go_big_quiet_on) | (go_big_quiet_step (fail)))
    iterate 2 (go_big_quiet_step (fail))
    refine wpQuiet_nil ?_
    rintro _ ⟨yq, rfl⟩
    go_wp2
    go_ret
    exact ⟨by rw [HV.out]; first | done | rfl, BB.out.trans (yq.2.mono BB.out.size)⟩
theorem kept16_c (b : Cp) (B : St) (br bi bo : Value) (a : Cp) (A : St) (ar ai ao : Value) (K : Cp) (tk ex so : Bool) (vi : Value) (r : Rw) (w : World) (H : Kh b B A br bi bo ar ai ao w) : Calls Tryz.prog 33 #[.agg (ssc b B br bi bo a A ar ai ao K tk ex so vi r), .int .i64 16] w fun e w' => e = .returned (.bool (r16B A ex so r)) ∧ Below w.heap.size w w' := by
  obtain ⟨W0, hW0, r0, b0, s0⟩ := start1 w (ssc b B br bi bo a A ar ai ao K tk ex so vi r) 79
  have BB := Hid.mkU b0.out
  clear s0 b0
  have HM : Hid ((r16B A ex so r) = ((r.kd == 5) || ((A.ext == ex) && (A.soft == so)))) := rfl
  clear H
  have c_r_kd : ∀ x : Later W0, x.1.cell? ⟨w.heap.size, 281, none⟩ = some (.int .i64 r.kd) := fun x => ((lrow r0.out x).cell 281).trans (ssc_r _ _ _ _ _ _ _ _ _ _ _ _ _ _ _ _ 1 _ rfl)
  have c_A_ext : ∀ x : Later W0, x.1.cell? ⟨w.heap.size, 183, none⟩ = some (.bool A.ext) := fun x => ((lrow r0.out x).cell 183).trans (ssc_as _ _ _ _ _ _ _ _ _ _ _ _ _ _ _ _ 4 _ rfl)
  have c_A_soft : ∀ x : Later W0, x.1.cell? ⟨w.heap.size, 184, none⟩ = some (.bool A.soft) := fun x => ((lrow r0.out x).cell 184).trans (ssc_as _ _ _ _ _ _ _ _ _ _ _ _ _ _ _ _ 5 _ rfl)
  have c_ex : ∀ x : Later W0, x.1.cell? ⟨w.heap.size, 277, none⟩ = some (.bool ex) := fun x => ((lrow r0.out x).cell 277).trans (ssc_w _ _ _ _ _ _ _ _ _ _ _ _ _ _ _ _ 1 _ rfl)
  have c_so : ∀ x : Later W0, x.1.cell? ⟨w.heap.size, 278, none⟩ = some (.bool so) := fun x => ((lrow r0.out x).cell 278).trans (ssc_w _ _ _ _ _ _ _ _ _ _ _ _ _ _ _ _ 2 _ rfl)
  generalize hZ : (r16B A ex so r) = Z at HM ⊢
  clear hZ
  go_enter Tryz.func33, Tryz.ntmps33
  go_upto_region 1 with fail
  clear hW0
  go_upto_region 31 with fail
  have hne := later_nonempty W0
  generalize hze : A.ext = ze at HM c_A_ext
  generalize hzf : A.soft = zf at HM c_A_soft
  generalize hzx : ex = zx at HM c_ex
  generalize hzy : so = zy at HM c_so
  clear hze hzf
  have HZX := Hid.mkU hzx
  have HZY := Hid.mkU hzy
  clear hzx hzy
  cases q1 : (r.kd == 5)
  focus
    cases q2 : (ze == zx)
    focus
      have HV : Hid (Z = false) := (by unfold Hid; first | (rw [HM.out, q1, q2]; done) | (rw [HM.out, q1, q2]; rfl))
      clear HM
    rotate_left 1
    focus
      cases q3 : (zf == zy)
      focus
        have HV : Hid (Z = false) := (by unfold Hid; first | (rw [HM.out, q1, q2, q3]; done) | (rw [HM.out, q1, q2, q3]; rfl))
        clear HM
      rotate_left 1
      focus
        have HV : Hid (Z = true) := (by unfold Hid; first | (rw [HM.out, q1, q2, q3]; done) | (rw [HM.out, q1, q2, q3]; rfl))
        clear HM
      rotate_left 1
    rotate_left 2
  rotate_left 3
  focus
    have HV : Hid (Z = true) := (by unfold Hid; first | (rw [HM.out, q1]; done) | (rw [HM.out, q1]; rfl))
    clear HM
  rotate_left 1
  all_goals
    refine wp_region_plain (x0 := Later.start W0) ?_
    iterate 25 (go_big_quiet_step (fail))
    refine wpQuiet_nil ?_
    rintro _ ⟨yq, rfl⟩
    go_wp2
    go_ret
    exact ⟨by rw [HV.out]; first | done | rfl, BB.out.trans (yq.2.mono BB.out.size)⟩
theorem cases_2_20 {k : Nat} (h : 2 ≤ k) (h2 : k ≤ 20) : k = 2 ∨ k = 3 ∨ k = 4 ∨ k = 5 ∨ k = 6 ∨ k = 7 ∨ k = 8 ∨ k = 9 ∨ k = 10 ∨ k = 11 ∨ k = 12 ∨ k = 13 ∨ k = 14 ∨ k = 15 ∨ k = 16 ∨ k = 17 ∨ k = 18 ∨ k = 19 ∨ k = 20 := by omega
theorem kept_c (b : Cp) (B : St) (br bi bo : Value) (a : Cp) (A : St) (ar ai ao : Value) (K : Cp) (tk ex so : Bool) (vi : Value) (r : Rw) (k : Nat) (h2 : 2 ≤ k) (h20 : k ≤ 20) (w : World) (H : Kh b B A br bi bo ar ai ao w) : Calls Tryz.prog 33 #[.agg (ssc b B br bi bo a A ar ai ao K tk ex so vi r), .int .i64 k] w fun e w' => e = .returned (.bool (rK b B a A tk ex so r k)) ∧ Below w.heap.size w w' := by
  rcases cases_2_20 h2 h20 with rfl | rfl | rfl | rfl | rfl | rfl | rfl | rfl | rfl | rfl | rfl | rfl | rfl | rfl | rfl | rfl | rfl | rfl | rfl
  · exact kept2_c b B br bi bo a A ar ai ao K tk ex so vi r w H
  · exact kept3_c b B br bi bo a A ar ai ao K tk ex so vi r w H
  · exact kept4_c b B br bi bo a A ar ai ao K tk ex so vi r w H
  · exact kept5_c b B br bi bo a A ar ai ao K tk ex so vi r w H
  · exact kept6_c b B br bi bo a A ar ai ao K tk ex so vi r w H
  · exact kept7_c b B br bi bo a A ar ai ao K tk ex so vi r w H
  · exact kept8_c b B br bi bo a A ar ai ao K tk ex so vi r w H
  · exact kept9_c b B br bi bo a A ar ai ao K tk ex so vi r w H
  · exact kept10_c b B br bi bo a A ar ai ao K tk ex so vi r w H
  · exact kept11_c b B br bi bo a A ar ai ao K tk ex so vi r w H
  · exact kept12_c b B br bi bo a A ar ai ao K tk ex so vi r w H
  · exact kept13_c b B br bi bo a A ar ai ao K tk ex so vi r w H
  · exact kept14_c b B br bi bo a A ar ai ao K tk ex so vi r w H
  · exact kept15_c b B br bi bo a A ar ai ao K tk ex so vi r w H
  · exact kept16_c b B br bi bo a A ar ai ao K tk ex so vi r w H
  · exact kept17_c b B br bi bo a A ar ai ao K tk ex so vi r w H
  · exact kept18_c b B br bi bo a A ar ai ao K tk ex so vi r w H
  · exact kept19_c b B br bi bo a A ar ai ao K tk ex so vi r w H
  · exact kept20_c b B br bi bo a A ar ai ao K tk ex so vi r w H
end Go.Proofs.YtidfndgedopghaaGreatDoor
