/-
  Uy Uz.
-/
import Derived.Test.YtidfndgedopghaaGreatDoorM24
namespace Go.Proofs.YtidfndgedopghaaGreatDoor
set_option linter.unusedVariables false
set_option maxRecDepth 100000
set_option maxHeartbeats 4000000
open Go.ChangeShapes Go.WideShapes Go.ChangeAt Go.RowKit Go.Deep
/-- The number of the first rule that is not kept, or 0. -/
def fN (f : Nat → Bool) : Nat → Nat → Int
  | 0, _ => 0
  | n + 1, k => if f k then fN f n (k + 1) else (k : Int) + 1
theorem fN_hit (f : Nat → Bool) : ∀ (n k j : Nat), k ≤ j → j < k + n → (∀ i, k ≤ i → i < j → f i = true) → f j = false → fN f n k = (j : Int) + 1
  | 0, k, j, h1, h2, _, _ => by omega
  | n + 1, k, j, h1, h2, h3, h4 => by
    unfold fN
    by_cases e : j = k
    · subst e; rw [h4]; rfl
    · rw [h3 k (Nat.le_refl _) (by omega), if_pos rfl]
      exact fN_hit f n (k + 1) j (by omega) (by omega) (fun i hi => h3 i (by omega)) h4
theorem fN_none (f : Nat → Bool) : ∀ (n k : Nat), (∀ i, k ≤ i → i < k + n → f i = true) → fN f n k = 0
  | 0, _, _ => rfl
  | n + 1, k, h => by
    unfold fN
    rw [h k (Nat.le_refl _) (by omega), if_pos rfl]
    exact fN_none f n (k + 1) (fun i hi hi2 => h i (by omega) (by omega))
/-- Is the rule number k + 1 kept? -/
def kL (b : Cp) (B : St) (a : Cp) (A : St) (tk ex so : Bool) (r : Rw) : Nat → Bool
  | 0 => rl1 B A (eqC (PR a) a)
  | 1 => rl2 (PR b) (PR a) r
  | 2 => rl3 (PR b) (PR a) B A (r.kd == 5)
  | 3 => rl4 (PR b) (PR a) r
  | 4 => rl5 (PR b) B A ((PR b).md == 0)
  | 5 => rl6 B A r (stP r)
  | 6 => rl7 (PR b) (PR a) ((PR b).md == 0)
  | 7 => rl8 (PR b) (PR a)
  | 8 => rl9 (PR b) (PR a) r ((PR b).md == 0)
  | 9 => rl10 (PR b) (PR a) r
  | 10 => rl11 (PR b) (PR a) r (n64 (mpV A))
  | 11 => rl12 (PR b) (PR a) r (r.kd == 5)
  | 12 => rl13 (PR b) (PR a) r
  | 13 => rl14 B A (stP r) (r.kd == 5) tk
  | 14 => rl15 B A (stP r)
  | 15 => rl16 A (r.kd == 5) ex so
  | 16 => rl17 B A r (stP r)
  | 17 => rl18 (PR b) (PR a) r
  | 18 => rl19 (PR b) r
  | 19 => rl20 (PR b) r
  | _ => true
/-- What Step answers. -/
def stV (b : Cp) (B : St) (a : Cp) (A : St) (tk ex so : Bool) (r : Rw) : Int := fN (kL b B a A tk ex so r) 20 0
def kV (g1 g3 g4 g5 g6 g7 g8 g9 g10 : Nat) : Nat → Array Value
  | 0 => #[.pointer (some ⟨g6, 0, none⟩), .pointer (some ⟨g5, 0, none⟩), .pointer (some ⟨g1, 0, none⟩)]
  | 1 => #[.pointer (some ⟨g7, 0, none⟩), .pointer (some ⟨g3, 0, none⟩), .pointer (some ⟨g4, 0, none⟩)]
  | 2 => #[.pointer (some ⟨g10, 0, none⟩), .pointer (some ⟨g5, 0, none⟩), .pointer (some ⟨g1, 0, none⟩)]
  | 3 => #[.pointer (some ⟨g7, 0, none⟩), .pointer (some ⟨g3, 0, none⟩), .pointer (some ⟨g4, 0, none⟩)]
  | 4 => #[.pointer (some ⟨g9, 0, none⟩), .pointer (some ⟨g5, 0, none⟩), .pointer (some ⟨g6, 0, none⟩), .pointer (some ⟨g3, 0, none⟩)]
  | 5 => #[.pointer (some ⟨g5, 0, none⟩), .pointer (some ⟨g6, 0, none⟩), .pointer (some ⟨g8, 0, none⟩), .pointer (some ⟨g7, 0, none⟩)]
  | 6 => #[.pointer (some ⟨g9, 0, none⟩), .pointer (some ⟨g4, 0, none⟩), .pointer (some ⟨g3, 0, none⟩)]
  | 7 => #[.pointer (some ⟨g3, 0, none⟩), .pointer (some ⟨g4, 0, none⟩)]
  | 8 => #[.pointer (some ⟨g9, 0, none⟩), .pointer (some ⟨g3, 0, none⟩), .pointer (some ⟨g4, 0, none⟩), .pointer (some ⟨g7, 0, none⟩)]
  | 9 => #[.pointer (some ⟨g7, 0, none⟩), .pointer (some ⟨g3, 0, none⟩), .pointer (some ⟨g4, 0, none⟩)]
  | 10 => #[.pointer (some ⟨g7, 0, none⟩), .pointer (some ⟨g3, 0, none⟩), .pointer (some ⟨g6, 0, none⟩), .pointer (some ⟨g4, 0, none⟩)]
  | 11 => #[.pointer (some ⟨g10, 0, none⟩), .pointer (some ⟨g7, 0, none⟩), .pointer (some ⟨g4, 0, none⟩), .pointer (some ⟨g3, 0, none⟩)]
  | 12 => #[.pointer (some ⟨g7, 0, none⟩), .pointer (some ⟨g4, 0, none⟩), .pointer (some ⟨g3, 0, none⟩)]
  | 13 => #[.pointer (some ⟨g10, 0, none⟩), .pointer (some ⟨g8, 0, none⟩), .pointer (some ⟨g6, 0, none⟩), .pointer (some ⟨g5, 0, none⟩), .pointer (some ⟨g1, 0, none⟩)]
  | 14 => #[.pointer (some ⟨g6, 0, none⟩), .pointer (some ⟨g5, 0, none⟩), .pointer (some ⟨g8, 0, none⟩)]
  | 15 => #[.pointer (some ⟨g10, 0, none⟩), .pointer (some ⟨g6, 0, none⟩), .pointer (some ⟨g1, 0, none⟩)]
  | 16 => #[.pointer (some ⟨g5, 0, none⟩), .pointer (some ⟨g6, 0, none⟩), .pointer (some ⟨g8, 0, none⟩), .pointer (some ⟨g7, 0, none⟩)]
  | 17 => #[.pointer (some ⟨g7, 0, none⟩), .pointer (some ⟨g3, 0, none⟩), .pointer (some ⟨g4, 0, none⟩)]
  | 18 => #[.pointer (some ⟨g7, 0, none⟩), .pointer (some ⟨g3, 0, none⟩)]
  | 19 => #[.pointer (some ⟨g7, 0, none⟩), .pointer (some ⟨g3, 0, none⟩)]
  | _ => #[]
theorem cases20 {k : Nat} (h : k < 20) : k = 0 ∨ k = 1 ∨ k = 2 ∨ k = 3 ∨ k = 4 ∨ k = 5 ∨ k = 6 ∨ k = 7 ∨ k = 8 ∨ k = 9 ∨ k = 10 ∨ k = 11 ∨ k = 12 ∨ k = 13 ∨ k = 14 ∨ k = 15 ∨ k = 16 ∨ k = 17 ∨ k = 18 ∨ k = 19 := by omega
theorem kA_at (g1 g3 g4 g5 g6 g7 g8 g9 g10 k : Nat) (h : k < 20) : (kA g1 g3 g4 g5 g6 g7 g8 g9 g10)[2 * k]? = some (.int .i64 ((k : Int) + 1)) ∧ (kA g1 g3 g4 g5 g6 g7 g8 g9 g10)[2 * k + 1]? = some (.func (.func (kF k)) #[] (kV g1 g3 g4 g5 g6 g7 g8 g9 g10 k)) := by
  have h20 := cases20 h
  rcases h20 with rfl | rfl | rfl | rfl | rfl | rfl | rfl | rfl | rfl | rfl | rfl | rfl | rfl | rfl | rfl | rfl | rfl | rfl | rfl | rfl <;> exact ⟨rfl, rfl⟩
theorem kF_call (k : Nat) (h : k < 20) (args : Array Value) (w : World) : (callFunc (kF k) args).run Tryz.prog w = .ok (.enter (kF k) args) w := by
  have h20 := cases20 h
  rcases h20 with rfl | rfl | rfl | rfl | rfl | rfl | rfl | rfl | rfl | rfl | rfl | rfl | rfl | rfl | rfl | rfl | rfl | rfl | rfl | rfl <;> (show (callFunc _ _).run _ _ = _; kernel_rfl)
theorem Rls.later {b : Cp} {B : St} {br bi bo : Value} {a : Cp} {A : St} {ar ai ao : Value} {tk ex so : Bool} {vi : Value} {r : Rw} {wp : Bool} {g g1 g3 g4 g5 g6 g7 g8 g9 g10 : Nat} {w w' : World} (h : Rls b B br bi bo a A ar ai ao tk ex so vi r wp g g1 g3 g4 g5 g6 g7 g8 g9 g10 w) (hb : Below w.heap.size w w') : Rls b B br bi bo a A ar ai ao tk ex so vi r wp g g1 g3 g4 g5 g6 g7 g8 g9 g10 w' :=
  ⟨h.sgt.later hb h.sgt.lt, h.kb.later hb h.kb.lt, h.ka.later hb h.ka.lt, h.was.later hb h.was.lt, h.is.later hb h.is.lt, h.rw_.later hb h.rw_.lt, h.pl.later hb h.pl.lt, h.fu.later hb h.fu.lt, h.off.later hb h.off.lt, h.tab.later hb h.tab.lt⟩
theorem stP_n (r : Rw) : ∃ m : Nat, (stP r).n = (m : Int) ∧ m ≤ 8 := by
  unfold stP
  by_cases h : noB r = true
  · rw [if_pos h]; exact ⟨0, rfl, by omega⟩
  · rw [if_neg h]
    unfold noB at h
    simp only [Bool.or_eq_true, decide_eq_true_eq, not_or] at h
    exact ⟨r.sz.toNat, by show r.sz = _; omega, by omega⟩
theorem PR_md18 (b : Cp) : (PR b).md = 0 ∨ (PR b).md = 3 := by
  show (if b.md = 3 then (3 : Int) else 0) = 0 ∨ _
  by_cases h : b.md = 3
  · right; show (if b.md = 3 then (3 : Int) else 0) = 3; rw [if_pos h]
  · left; rw [if_neg h]
theorem rl1_len {B A : St} {wp : Bool} (h : rl1 B A wp = true) : A.ram.length = B.ram.length := by
  unfold rl1 at h
  simp only [Bool.and_eq_true, beq_iff_eq] at h
  omega
/-- What is asked of two wholes. -/
structure Two18 (B A : St) (br bi bo ar ai ao : Value) (w : World) : Prop where
  hB : Bs B br bi bo w
  hA : Bs A ar ai ao w
  hT : Tb w
  hL : B.ram.length ≤ 140737488351232
  hLo : B.out.length ≤ 140737488351232
  hAo : AllB A.out
theorem Two18.later {B A : St} {br bi bo ar ai ao : Value} {w w' : World} (h : Two18 B A br bi bo ar ai ao w) (hb : Below w.heap.size w w') : Two18 B A br bi bo ar ai ao w' := ⟨h.hB.later hb, h.hA.later hb, h.hT.next hb, h.hL, h.hLo, h.hAo⟩
set_option maxHeartbeats 2000000 in
theorem rule_c (b : Cp) (B : St) (br bi bo : Value) (a : Cp) (A : St) (ar ai ao : Value) (tk ex so : Bool) (vi : Value) (r : Rw) (g g1 g3 g4 g5 g6 g7 g8 g9 g10 : Nat) (w : World) (h : Rls (PR b) B br bi bo (PR a) A ar ai ao tk ex so vi r (eqC (PR a) a) g g1 g3 g4 g5 g6 g7 g8 g9 g10 w) (ht : Two18 B A br bi bo ar ai ao w) (k : Nat) (hk : k < 20) (hp : ∀ j, j < k → kL b B a A tk ex so r j = true) :
    Calls Tryz.prog (kF k) (kV g1 g3 g4 g5 g6 g7 g8 g9 g10 k) w fun e w' => e = .returned (.bool (kL b B a A tk ex so r k)) ∧ Below w.heap.size w w' := by
  have h20 := cases20 hk
  obtain ⟨m, hm1, hm2⟩ := stP_n r
  obtain ⟨xa, ca, har, -⟩ := ht.hA.r
  obtain ⟨xb, cb, hbr, -⟩ := ht.hB.r
  obtain ⟨xi, ci, hai, -⟩ := ht.hA.i
  rcases h20 with rfl | rfl | rfl | rfl | rfl | rfl | rfl | rfl | rfl | rfl | rfl | rfl | rfl | rfl | rfl | rfl | rfl | rfl | rfl | rfl
  · exact uR1_c (PR b) (PR a) B A br bi bo ar ai ao vi r (eqC (PR a) a) tk ex so xa xb ca cb g6 g5 g1 w h.is h.was h.sgt har hbr
  · exact uR2_c (PR b) (PR a) r g7 g3 g4 w h.rw_ h.kb h.ka
  · exact uR3_c (PR b) (PR a) B A br bi bo ar ai ao vi r (r.kd == 5) (eqC (PR a) a) tk ex so g10 g5 g1 w h.off h.was h.sgt ht.hB ht.hA
  · exact uR4_c (PR b) (PR a) r g7 g3 g4 w h.rw_ h.kb h.ka
  · exact uR5_c (PR b) B A br bi bo ar ai ao ((PR b).md == 0) g9 g5 g6 g3 w h.fu h.was h.is h.kb ht.hB ht.hA ht.hT (rl1_len (hp 0 (by omega))) ht.hL
  · exact uR6_c B A br bi bo ar ai ao r (stP r) g5 g6 g8 g7 w h.was h.is h.pl h.rw_ m hm1 hm2 ht.hB ht.hA (rl1_len (hp 0 (by omega))) ht.hL
  · exact uR7_c (PR b) (PR a) ((PR b).md == 0) g9 g4 g3 w h.fu h.ka h.kb
  · exact uR8_c (PR b) (PR a) g3 g4 w h.kb h.ka
  · exact uR9_c (PR b) (PR a) r ((PR b).md == 0) g9 g3 g4 g7 w h.fu h.kb h.ka h.rw_
  · exact uR10_c (PR b) (PR a) r g7 g3 g4 w h.rw_ h.kb h.ka (PR_md18 b)
  · exact uR11_c (PR b) (PR a) A ar ai ao r (n64 (mpV A)) g7 g3 g6 g4 w h.rw_ h.kb h.is h.ka (fun x => by rw [hai]; exact uMip_c A ar ao xi ci x.1)
  · exact uR12_c (PR b) (PR a) r (r.kd == 5) g10 g7 g4 g3 w h.off h.rw_ h.ka h.kb
  · exact uR13_c (PR b) (PR a) r g7 g4 g3 w h.rw_ h.ka h.kb
  · exact uR14_c (PR b) (PR a) B A br bi bo ar ai ao vi r (stP r) (r.kd == 5) (eqC (PR a) a) tk ex so g10 g8 g6 g5 g1 w h.off h.pl h.is h.was h.sgt
  · exact uR15_c B A br bi bo ar ai ao (stP r) g6 g5 g8 w h.is h.was h.pl
  · exact uR16_c (PR b) (PR a) B A br bi bo ar ai ao vi r (r.kd == 5) (eqC (PR a) a) tk ex so g10 g6 g1 w h.off h.is h.sgt
  · exact uR17_c B A br bi bo ar ai ao r (stP r) g5 g6 g8 g7 w h.was h.is h.pl h.rw_ ht.hB ht.hA ht.hLo ht.hAo
  · exact uR18_c (PR b) (PR a) r g7 g3 g4 w h.rw_ h.kb h.ka
  · exact uR19_c (PR b) r g7 g3 w h.rw_ h.kb ht.hT
  · exact uR20_c (PR b) r g7 g3 w h.rw_ h.kb ht.hT
theorem start4U (w : World) (c1 c2 c3 c4 : Array Value) (t1 t2 t3 t4 : TypeId) : ∃ W, (((w.alloc (.cells c1 t1)).alloc (.cells c2 t2)).alloc (.cells c3 t3)).alloc (.cells c4 t4) = W ∧ Hid (Row W w.heap.size c1 t1) ∧ Hid (Row W (w.heap.size + 1) c2 t2) ∧ Hid (Row W (w.heap.size + 2) c3 t3) ∧ Hid (Row W (w.heap.size + 3) c4 t4) ∧ Hid (Below w.heap.size w W) := by
  obtain ⟨W, hW, r1, r2, b, s⟩ := start2 w c1 c2 t1 t2
  obtain ⟨V, hV, r4, r5, b2, s2⟩ := start2 W c3 c4 t3 t4
  refine ⟨V, by rw [hW, hV], r1.out.later b2.out r1.out.lt, r2.out.later b2.out r2.out.lt, ?_, ?_, b.out.trans (b2.out.mono b.out.size)⟩
  · rw [s] at r4; exact r4
  · rw [s] at r5; exact r5
theorem Bs.ones {S : St} {vr vi vo : Value} {w : World} (h : Bs S vr vi vo w) : (∀ k, (whc k S vr vi vo).all (·.oneCell') = true) ∧ (stc S vr vi vo).all (·.oneCell') = true := by
  obtain ⟨a1, c1, h1, -⟩ := h.r
  obtain ⟨a2, c2, h2, -⟩ := h.i
  obtain ⟨a3, c3, h3, -⟩ := h.o
  subst h1 h2 h3
  exact ⟨fun k => whc_ones _ _ _ _ _ _ _ _ _ _ _, by kernel_rfl⟩
set_option maxHeartbeats 8000000 in
theorem step_c (b : Cp) (B : St) (br bi bo : Value) (a : Cp) (A : St) (ar ai ao : Value) (tk ex so : Bool) (vi : Value) (r : Rw) (w : World) (ht : Two18 B A br bi bo ar ai ao w) (hi : vi.oneCell' = true) :
    Calls Tryz.prog 15 #[.agg (whc b B br bi bo), .agg (whc a A ar ai ao), .agg (woc tk ex so vi), .agg (rwc r)] w fun e w' => e = .returned (.int .i64 (stV b B a A tk ex so r)) ∧ Below w.heap.size w w' := by
  obtain ⟨W0, hW0, r0, r1, r2, r3, b0⟩ := start4U w (whc b B br bi bo) (whc a A ar ai ao) (woc tk ex so vi) (rwc r) 46 46 50 52
  have HT : Hid (Two18 B A br bi bo ar ai ao W0) := ht.later b0.out
  have HS : Hid (Calls Tryz.prog 31 #[.agg (whc b B br bi bo), .agg (whc a A ar ai ao), .agg (woc tk ex so vi), .agg (rwc r)] W0 fun e w' => e = .returned (.agg (sgc (PR b) B br bi bo (PR a) A ar ai ao tk ex so vi r (eqC (PR a) a))) ∧ Below W0.heap.size W0 w') := sight_c b B br bi bo a A ar ai ao tk ex so vi r W0 ht.hB.ones.1 ht.hA.ones.1 hi
  have HRU : Hid (∀ W, Calls Tryz.prog 32 #[.agg (sgc (PR b) B br bi bo (PR a) A ar ai ao tk ex so vi r (eqC (PR a) a))] W fun e w' => ∃ g g1 g3 g4 g5 g6 g7 g8 g9 g10, e = .returned (.slice (some ⟨g, 0, none⟩) 20 20) ∧ Rls (PR b) B br bi bo (PR a) A ar ai ao tk ex so vi r (eqC (PR a) a) g g1 g3 g4 g5 g6 g7 g8 g9 g10 w' ∧ Below W.heap.size W w') := fun W => rules_c (PR b) B br bi bo (PR a) A ar ai ao tk ex so vi r (eqC (PR a) a) ht.hB.ones.2 ht.hA.ones.2 W
  have HRC : Hid (∀ g g1 g3 g4 g5 g6 g7 g8 g9 g10 W k, Rls (PR b) B br bi bo (PR a) A ar ai ao tk ex so vi r (eqC (PR a) a) g g1 g3 g4 g5 g6 g7 g8 g9 g10 W → Two18 B A br bi bo ar ai ao W → k < 20 → (∀ j, j < k → kL b B a A tk ex so r j = true) → Calls Tryz.prog (kF k) (kV g1 g3 g4 g5 g6 g7 g8 g9 g10 k) W fun e w' => e = .returned (.bool (kL b B a A tk ex so r k)) ∧ Below W.heap.size W w') := fun g g1 g3 g4 g5 g6 g7 g8 g9 g10 W k h1 h2 h3 h4 => rule_c b B br bi bo a A ar ai ao tk ex so vi r g g1 g3 g4 g5 g6 g7 g8 g9 g10 W h1 h2 k h3 h4
  have H0 : Hid ((∀ j, j < 20 → kL b B a A tk ex so r j = true) → stV b B a A tk ex so r = 0) := fun h => fN_none _ 20 0 (fun i _ hi => h i (by omega))
  have HH : Hid (∀ k, k < 20 → (∀ j, j < k → kL b B a A tk ex so r j = true) → kL b B a A tk ex so r k = false → stV b B a A tk ex so r = (k : Int) + 1) := fun k h1 h2 h3 => fN_hit _ 20 0 k (Nat.zero_le _) (by omega) (fun i _ hi => h2 i hi) h3
  generalize stV b B a A tk ex so r = Z at *
  generalize sgc (PR b) B br bi bo (PR a) A ar ai ao tk ex so vi r (eqC (PR a) a) = sg at *
  generalize kL b B a A tk ex so r = f at *
  clear ht hi
  go_enter Tryz.func15, Tryz.ntmps15
  --@R1
  go_upto_region 1 with fail
  clear hW0
  go_wp2_with (first | (refine wpList_load_row (by rfl) _ _ (by rfl) _ (by rfl) 46 _ (0, 0) _ r0.out Tryz.underlying46 (by rfl) (info_whU _ _ _ _ _) ?_) | (refine wpList_load_row (by rfl) _ _ (by rfl) _ (by rfl) 46 _ (0, 0) _ r1.out Tryz.underlying46 (by rfl) (info_whU _ _ _ _ _) ?_) | (refine wpList_load_row (by rfl) _ _ (by rfl) _ (by rfl) 50 _ (0, 0) _ r2.out Tryz.underlying50 (by rfl) (info_wo _ _ _ _) ?_) | (refine wpList_load_row (by rfl) _ _ (by rfl) _ (by rfl) 52 _ (0, 0) _ r3.out Tryz.underlying52 (by rfl) (info_rw _) ?_) | (go_at_call 31; refine HS.out.mono ?_; rintro e w1 ⟨rfl, hb1⟩; have HB1 : Hid (Below W0.heap.size W0 w1) := hb1; clear hb1) | (go_at_call 32; refine (HRU.out w1).mono ?_; rintro e w2 ⟨g, g1, g3, g4, g5, g6, g7, g8, g9, g10, rfl, hrl, hb2⟩; have HRL := Hid.mkU hrl; have HB2 : Hid (Below w1.heap.size w1 w2) := hb2; clear hrl hb2))
  --@L
  have HB : Hid (Below w.heap.size w w2) := b0.out.trans ((HB1.out.trans (HB2.out.mono HB1.out.size)).mono b0.out.size)
  have HT2 : Hid (Two18 B A br bi bo ar ai ao w2) := (HT.out.later HB1.out).later HB2.out
  clear HB1 HB2 HT HS HRU r0 r1 r2 r3 b0
  go_loopw [18] (fun i wr => ∃ k : Nat, k ≤ 20 ∧ i = .int .i64 k ∧ Hid (∀ j, j < k → f j = true) ∧ Hid (Below w2.heap.size w2 wr)) (fun i _ => 20 - (intOf i).toNat)
  case atStart => exact ⟨0, by omega, rfl, fun j hj => absurd hj (Nat.not_lt_zero _), Below.refl _ _⟩
  case round =>
    obtain ⟨k, hk, rfl, hf, hb⟩ := hrel
    by_cases hlt : k < 20
    · have HR := Hid.mkU (HRL.out.later hb.out)
      have hcf := kF_call k hlt
      have HQ := Hid.mkU (kA_at g1 g3 g4 g5 g6 g7 g8 g9 g10 k hlt)
      have c1 : Hid (∀ j v, (#[.int .i64 ((k : Int) + 1), .func (.func (kF k)) #[] (kV g1 g3 g4 g5 g6 g7 g8 g9 g10 k)] : Array Value)[j]? = some v → wr.cell? ⟨g, k * 2 + j, none⟩ = some v) := fun j v hv => by
        rw [HR.out.tab.cell, Nat.mul_comm k 2]
        match j, hv with
        | 0, hv => rw [Nat.add_zero, HQ.out.1]; exact hv
        | 1, hv => rw [HQ.out.2]; exact hv
        | j + 2, hv => simp at hv
      have HC : Hid (∀ W', Below wr.heap.size wr W' → Calls Tryz.prog (kF k) (kV g1 g3 g4 g5 g6 g7 g8 g9 g10 k) W' fun e w' => e = .returned (.bool (f k)) ∧ Below W'.heap.size W' w') := fun W' hb2 => HRC.out g g1 g3 g4 g5 g6 g7 g8 g9 g10 W' k (HR.out.later hb2) ((HT2.out.later hb.out).later hb2) hlt hf.out
      have HZ : Hid (f k = false → Z = (k : Int) + 1) := fun h => HH.out k hlt hf.out h
      have HF : Hid (f k = true → ∀ j, j < k + 1 → f j = true) := fun h j hj => by
        by_cases e : j = k
        · rw [e]; exact h
        · exact hf.out j (by omega)
      clear HR HQ HRL HRC HH H0 hf
      generalize kF k = fk at *
      generalize kV g1 g3 g4 g5 g6 g7 g8 g9 g10 k = vk at *
      generalize f k = q at *
      have hlt2 : (k : Int) < 20 := by omega
      have B3 := Hid.mkU (HB.out.trans (hb.out.mono HB.out.size))
      have hz : ∀ w, (zeroValue 77).run Tryz.prog w = .ok (.agg #[.int .i64 0, .nilFunc]) w := fun w => by kernel_rfl
      have hnf : Hid (Below w.heap.size w (wr.alloc (.cells #[.int .i64 ((k : Int) + 1), .func (.func fk) #[] vk] 77))) := B3.out.trans ((below_al _ _).mono B3.out.size)
      cases q with
      | false =>
        have HV := Hid.mkU (HZ.out rfl)
        clear HZ HF
        go_wp2_with (first | (refine wpList_load_agg (by rfl) 77 _ (by rfl) g (k * 2) (by rfl) #[.int .i64 ((k : Int) + 1), .func (.func fk) #[] vk] _ c1.out Tryz.underlying77 (by rfl) (by kernel_rfl) ?_) | (refine wpList_store_new (by rfl) 77 _ _ (by rfl) (by rfl) #[.int .i64 0, .nilFunc] #[.int .i64 ((k : Int) + 1), .func (.func fk) #[] vk] (by rfl) (by rfl) (by kernel_rfl) (by rfl) (by simp [Value.oneCell']) ?_) | (refine (HC.out _ (below_al _ _)).mono ?_; rintro e w4 ⟨rfl, hb4⟩; have HB4 := Hid.mkU (hnf.out.trans (hb4.mono hnf.out.size)); have HB5 := Hid.mkU (hb.out.trans (((below_al _ _).trans (hb4.mono (below_al wr (.cells #[.int .i64 ((k : Int) + 1), .func (.func fk) #[] vk] 77)).size)).mono hb.out.size)); have hcc := hb4.cell (p := ⟨wr.heap.size, 0, none⟩) (by simp); clear hb4))
        go_ret
        exact ⟨by rw [HV.out]; rfl, HB4.out⟩
      | true =>
        have HV := Hid.mkU (HF.out rfl)
        clear HZ HF
        go_wp2_with (first | (refine wpList_load_agg (by rfl) 77 _ (by rfl) g (k * 2) (by rfl) #[.int .i64 ((k : Int) + 1), .func (.func fk) #[] vk] _ c1.out Tryz.underlying77 (by rfl) (by kernel_rfl) ?_) | (refine wpList_store_new (by rfl) 77 _ _ (by rfl) (by rfl) #[.int .i64 0, .nilFunc] #[.int .i64 ((k : Int) + 1), .func (.func fk) #[] vk] (by rfl) (by rfl) (by kernel_rfl) (by rfl) (by simp [Value.oneCell']) ?_) | (refine (HC.out _ (below_al _ _)).mono ?_; rintro e w4 ⟨rfl, hb4⟩; have HB4 := Hid.mkU (hnf.out.trans (hb4.mono hnf.out.size)); have HB5 := Hid.mkU (hb.out.trans (((below_al _ _).trans (hb4.mono (below_al wr (.cells #[.int .i64 ((k : Int) + 1), .func (.func fk) #[] vk] 77)).size)).mono hb.out.size)); have hcc := hb4.cell (p := ⟨wr.heap.size, 0, none⟩) (by simp); clear hb4))
        go_roundw
        case rel => exact ⟨k + 1, by omega, by go_num, HV, HB5⟩
        case measure => simp [intOf]; omega
    · have HV := Hid.mkU (H0.out (fun j hj => hf.out j (by omega)))
      have B3 := Hid.mkU (HB.out.trans (hb.out.mono HB.out.size))
      clear HRL HRC HH H0 hf
      have hge : ¬ ((k : Int) < 20) := by omega
      go_wp2
      go_ret
      exact ⟨by rw [HV.out]; rfl, B3.out⟩
end Go.Proofs.YtidfndgedopghaaGreatDoor
namespace Go.Proofs.YtidfndgedopghaaGreatDoor
set_option linter.unusedVariables false
set_option maxRecDepth 100000
set_option maxHeartbeats 4000000
open Go.ChangeShapes Go.WideShapes Go.ChangeAt Go.RowKit Go.Deep
/-- What Agree answers. -/
def agV (a : Cp) (A : St) (b : Cp) (B : St) : Bool := ((((eqC (PR a) (PR b)) && (dvB A B)) && ((A.ram.length : Int) == (B.ram.length : Int))) && (swB (gr5 (PR a)) A.ram B.ram))
set_option maxHeartbeats 8000000 in
theorem agree_c (a : Cp) (A : St) (ar ai ao : Value) (b : Cp) (B : St) (br bi bo : Value) (w : World) (hA : Bs A ar ai ao w) (hB : Bs B br bi bo w) (hT : Tb w) (hL : A.ram.length ≤ 140737488351232) : Calls Tryz.prog 12 #[.agg (whc a A ar ai ao), .agg (whc b B br bi bo)] w fun e w' => e = .returned (.bool (agV a A b B)) ∧ Below w.heap.size w w' := by
  have hz := zero_cpu
  obtain ⟨W0, hW0, r0, r1, b0, s0⟩ := start2 w (whc a A ar ai ao) (whc b B br bi bo) 46 46
  have HA := Hid.mkU hA
  have HB := Hid.mkU hB
  have HT := Hid.mkU hT
  have HL := Hid.mkU hL
  clear hA hB hT hL s0
  have HM : Hid (agV a A b B = ((((eqC (PR a) (PR b)) && (dvB A B)) && ((A.ram.length : Int) == (B.ram.length : Int))) && (swB (gr5 (PR a)) A.ram B.ram))) := rfl
  generalize agV a A b B = Z at HM ⊢
  have C0 : Hid (∀ j v, (cpc a)[j]? = some v → W0.cell? ⟨w.heap.size, 0 + j, none⟩ = some v) := fun j v hv => (r0.out.cell (0 + j)).trans (whc_c a A ar ai ao j v hv)
  go_enter Tryz.func12, Tryz.ntmps12
  go_upto_region 1 with fail
  clear hW0
  go_upto_region 2 with (first | (refine wpList_load_agg (by rfl) 32 _ (by rfl) w.heap.size 0 (by rfl) (cpc a) _ C0.out Tryz.underlying32 (by rfl) (info_cpuU _) ?_) | (go_at_call 23; refine (Pr_c a _).mono ?_; rintro e w1 ⟨rfl, hb1⟩; have HB1 : Hid (Below W0.heap.size W0 w1) := hb1; clear hb1) | (refine wpList_store_new (by rfl) 32 _ _ (by rfl) (by rfl) (cpc cz) (cpc (PR a)) (by rfl) (by rfl) (info_cpuU _) (by rw [cpc_size, cpc_size]) (cpc_ones _) ?_))
  refine on_W (motive := fun W => Code.wp _ _ _ _ W) (Q := fun W => Row W w.heap.size (whc a A ar ai ao) 46 ∧ Row W (w.heap.size + 1) (whc b B br bi bo) 46 ∧ Row W w1.heap.size (cpc (PR a)) 32 ∧ Below w.heap.size w W) ⟨(r0.out.later HB1.out r0.out.lt).old (r0.out.later HB1.out r0.out.lt).lt _, (r1.out.later HB1.out r1.out.lt).old (r1.out.later HB1.out r1.out.lt).lt _, Row.new _ _ _, (b0.out.trans (HB1.out.mono b0.out.size)).trans ((below_al _ _).mono (b0.out.trans (HB1.out.mono b0.out.size)).size)⟩ ?_
  generalize w1.heap.size = g5 at *
  clear r0 r1 b0 HB1 C0 hz
  rintro W1 ⟨q0, q1, q5, qb⟩
  have r0 := Hid.mkU q0
  have r1 := Hid.mkU q1
  have r5 := Hid.mkU q5
  have BB := Hid.mkU qb
  clear q0 q1 q5 qb
  have HAb := Hid.mkU (HA.out.later BB.out)
  have HBb := Hid.mkU (HB.out.later BB.out)
  have HEC := Hid.mkU (fun w => eq_cpuU (PR a) (PR b) w)
  have HPb : Hid (∀ x : Later W1, Calls Tryz.prog 23 #[.agg (cpc b)] x.1 fun e w' => e = .returned (.agg (cpc (PR b))) ∧ Below x.1.heap.size x.1 w') := fun x => Pr_c b x.1
  have HDV : Hid (∀ x : Later W1, Calls Tryz.prog 24 #[.agg (stc A ar ai ao), .agg (stc B br bi bo)] x.1 fun e w' => e = .returned (.bool (dvB A B)) ∧ Below x.1.heap.size x.1 w') := fun x => uDv_c A B ar ai ao br bi bo x.1 (HAb.out.later x.2) (HBb.out.later x.2)
  have HSW : Hid (B.ram.length = A.ram.length → ∀ x : Later W1, Calls Tryz.prog 25 #[ar, br, .func (.func 26) #[] #[.pointer (some ⟨g5, 0, none⟩)]] x.1 fun e w' => e = .returned (.bool (swB (gr5 (PR a)) A.ram B.ram)) ∧ Below x.1.heap.size x.1 w') := fun hl x => uSwA_c (gr5 (PR a)) A.ram B.ram ar br g5 x.1 (HAb.out.later x.2).r (HBb.out.later x.2).r hl HL.out (fun t W hb => uGA_c (PR a) t g5 W ((lrow r5.out x).later hb (lrow r5.out x).lt) (((HT.out.next BB.out).next x.2).next hb))
  have hmf : ∀ (fn : Fn) (first cap : Array Value) (w : World), (Instr.makeFunc fn first cap).run Tryz.prog w = .ok (.func fn first cap) w := fun _ _ _ _ => rfl
  have c0r : ∀ x : Later W1, x.1.cell? ⟨w.heap.size, 82, none⟩ = some ar := fun x => ((lrow r0.out x).cell 82).trans (whc_b a A ar ai ao 0 _ rfl)
  have c1r : ∀ x : Later W1, x.1.cell? ⟨w.heap.size + 1, 82, none⟩ = some br := fun x => ((lrow r1.out x).cell 82).trans (whc_b b B br bi bo 0 _ rfl)
  have hne := later_nonempty W1
  obtain ⟨xa, ca, har, -⟩ := HA.out.r
  obtain ⟨xb, cb, hbr, -⟩ := HB.out.r
  subst har hbr
  clear HAb HBb HA HB HT HL
  generalize eqC (PR a) (PR b) = z1 at *
  generalize dvB A B = z2 at *
  generalize swB (gr5 (PR a)) A.ram B.ram = z4 at *
  cases z1
  focus
    have HV : Hid (Z = false) := (by unfold Hid; first | (rw [HM.out]; done) | (rw [HM.out]; rfl))
  rotate_left 1
  focus
    cases z2
    focus
      have HV : Hid (Z = false) := (by unfold Hid; first | (rw [HM.out]; done) | (rw [HM.out]; rfl))
    rotate_left 1
    focus
      cases q1 : ((A.ram.length : Int) == (B.ram.length : Int))
      focus
        have HV : Hid (Z = false) := (by unfold Hid; rw [HM.out]; first | (rw [q1]; done) | (rw [q1]; rfl))
      rotate_left 1
      focus
        cases z4
        focus
          have HV : Hid (Z = false) := (by unfold Hid; rw [HM.out]; first | (rw [q1]; done) | (rw [q1]; rfl))
          have HSL := Hid.mkU (HSW.out (by have q := q1; rw [beq_iff_eq] at q; omega))
        rotate_left 1
        focus
          have HV : Hid (Z = true) := (by unfold Hid; rw [HM.out]; first | (rw [q1]; done) | (rw [q1]; rfl))
          have HSL := Hid.mkU (HSW.out (by have q := q1; rw [beq_iff_eq] at q; omega))
        rotate_left 1
      rotate_left 2
    rotate_left 3
  rotate_left 4
  all_goals
    clear HM HSW
    refine wp_region_later (x0 := Later.start W1) (by kernel_rfl) (by kernel_rfl) ?_
    (first | (go_big_quiet_want; refine quiet_load_agg 32 _ (by rfl) (g5) 0 (by rfl) (cpc (PR a)) _ r5.out.lt (lrow_cells r5.out) Tryz.underlying32 (by rfl) (info_cpuU _) ?_; simp only [Act.put, List.setIfInBounds_toArray, List.set_cons_succ, List.set_cons_zero]; go_big_quiet_on) | (go_big_quiet_want; refine quiet_load_agg 32 _ (by rfl) (w.heap.size + 1) 0 (by rfl) (cpc b) _ r1.out.lt (fun j v hv => (r1.out.cell (0 + j)).trans (whc_c b B _ bi bo j v hv)) Tryz.underlying32 (by rfl) (info_cpuU _) ?_; simp only [Act.put, List.setIfInBounds_toArray, List.set_cons_succ, List.set_cons_zero]; go_big_quiet_on) | (go_big_quiet_want; refine quiet_load_agg 44 _ (by rfl) (w.heap.size) 82 (by rfl) (stc A (.slice xa A.ram.length ca) ai ao) _ r0.out.lt (fun j v hv => (r0.out.cell (82 + j)).trans (whc_b a A _ ai ao j v hv)) Tryz.underlying44 (by rfl) (info_bst _ _ _ _) ?_; simp only [Act.put, List.setIfInBounds_toArray, List.set_cons_succ, List.set_cons_zero]; go_big_quiet_on) | (go_big_quiet_want; refine quiet_load_agg 44 _ (by rfl) (w.heap.size + 1) 82 (by rfl) (stc B (.slice xb B.ram.length cb) bi bo) _ r1.out.lt (fun j v hv => (r1.out.cell (82 + j)).trans (whc_b b B _ bi bo j v hv)) Tryz.underlying44 (by rfl) (info_bst _ _ _ _) ?_; simp only [Act.put, List.setIfInBounds_toArray, List.set_cons_succ, List.set_cons_zero]; go_big_quiet_on) | (go_big_quiet_step (fail)))
    (go_big_quiet_step (fail))
    (first | (go_big_quiet_want; refine quiet_load_agg 32 _ (by rfl) (g5) 0 (by rfl) (cpc (PR a)) _ r5.out.lt (lrow_cells r5.out) Tryz.underlying32 (by rfl) (info_cpuU _) ?_; simp only [Act.put, List.setIfInBounds_toArray, List.set_cons_succ, List.set_cons_zero]; go_big_quiet_on) | (go_big_quiet_want; refine quiet_load_agg 32 _ (by rfl) (w.heap.size + 1) 0 (by rfl) (cpc b) _ r1.out.lt (fun j v hv => (r1.out.cell (0 + j)).trans (whc_c b B _ bi bo j v hv)) Tryz.underlying32 (by rfl) (info_cpuU _) ?_; simp only [Act.put, List.setIfInBounds_toArray, List.set_cons_succ, List.set_cons_zero]; go_big_quiet_on) | (go_big_quiet_want; refine quiet_load_agg 44 _ (by rfl) (w.heap.size) 82 (by rfl) (stc A (.slice xa A.ram.length ca) ai ao) _ r0.out.lt (fun j v hv => (r0.out.cell (82 + j)).trans (whc_b a A _ ai ao j v hv)) Tryz.underlying44 (by rfl) (info_bst _ _ _ _) ?_; simp only [Act.put, List.setIfInBounds_toArray, List.set_cons_succ, List.set_cons_zero]; go_big_quiet_on) | (go_big_quiet_want; refine quiet_load_agg 44 _ (by rfl) (w.heap.size + 1) 82 (by rfl) (stc B (.slice xb B.ram.length cb) bi bo) _ r1.out.lt (fun j v hv => (r1.out.cell (82 + j)).trans (whc_b b B _ bi bo j v hv)) Tryz.underlying44 (by rfl) (info_bst _ _ _ _) ?_; simp only [Act.put, List.setIfInBounds_toArray, List.set_cons_succ, List.set_cons_zero]; go_big_quiet_on) | (go_big_quiet_step (fail)))
    (go_big_quiet_step ((go_at_call 23; exact calls_later (HPb.out _))))
    (first | (go_big_quiet_want; refine quiet_eql_agg 32 _ _ _ (by rfl) (cpc (PR a)) (cpc (PR b)) (by rfl) (by rfl) _ HEC.out (fun w => eqG_cpuU _ _ _ _ w) ?_; simp only [Act.put, List.setIfInBounds_toArray, List.set_cons_succ, List.set_cons_zero]; go_big_quiet_on) | (go_big_quiet_step (fail)))
    iterate 2 (go_big_quiet_step (fail))
    (first | (go_big_quiet_want; refine quiet_load_agg 32 _ (by rfl) (g5) 0 (by rfl) (cpc (PR a)) _ r5.out.lt (lrow_cells r5.out) Tryz.underlying32 (by rfl) (info_cpuU _) ?_; simp only [Act.put, List.setIfInBounds_toArray, List.set_cons_succ, List.set_cons_zero]; go_big_quiet_on) | (go_big_quiet_want; refine quiet_load_agg 32 _ (by rfl) (w.heap.size + 1) 0 (by rfl) (cpc b) _ r1.out.lt (fun j v hv => (r1.out.cell (0 + j)).trans (whc_c b B _ bi bo j v hv)) Tryz.underlying32 (by rfl) (info_cpuU _) ?_; simp only [Act.put, List.setIfInBounds_toArray, List.set_cons_succ, List.set_cons_zero]; go_big_quiet_on) | (go_big_quiet_want; refine quiet_load_agg 44 _ (by rfl) (w.heap.size) 82 (by rfl) (stc A (.slice xa A.ram.length ca) ai ao) _ r0.out.lt (fun j v hv => (r0.out.cell (82 + j)).trans (whc_b a A _ ai ao j v hv)) Tryz.underlying44 (by rfl) (info_bst _ _ _ _) ?_; simp only [Act.put, List.setIfInBounds_toArray, List.set_cons_succ, List.set_cons_zero]; go_big_quiet_on) | (go_big_quiet_want; refine quiet_load_agg 44 _ (by rfl) (w.heap.size + 1) 82 (by rfl) (stc B (.slice xb B.ram.length cb) bi bo) _ r1.out.lt (fun j v hv => (r1.out.cell (82 + j)).trans (whc_b b B _ bi bo j v hv)) Tryz.underlying44 (by rfl) (info_bst _ _ _ _) ?_; simp only [Act.put, List.setIfInBounds_toArray, List.set_cons_succ, List.set_cons_zero]; go_big_quiet_on) | (go_big_quiet_step (fail)))
    (go_big_quiet_step (fail))
    (first | (go_big_quiet_want; refine quiet_load_agg 32 _ (by rfl) (g5) 0 (by rfl) (cpc (PR a)) _ r5.out.lt (lrow_cells r5.out) Tryz.underlying32 (by rfl) (info_cpuU _) ?_; simp only [Act.put, List.setIfInBounds_toArray, List.set_cons_succ, List.set_cons_zero]; go_big_quiet_on) | (go_big_quiet_want; refine quiet_load_agg 32 _ (by rfl) (w.heap.size + 1) 0 (by rfl) (cpc b) _ r1.out.lt (fun j v hv => (r1.out.cell (0 + j)).trans (whc_c b B _ bi bo j v hv)) Tryz.underlying32 (by rfl) (info_cpuU _) ?_; simp only [Act.put, List.setIfInBounds_toArray, List.set_cons_succ, List.set_cons_zero]; go_big_quiet_on) | (go_big_quiet_want; refine quiet_load_agg 44 _ (by rfl) (w.heap.size) 82 (by rfl) (stc A (.slice xa A.ram.length ca) ai ao) _ r0.out.lt (fun j v hv => (r0.out.cell (82 + j)).trans (whc_b a A _ ai ao j v hv)) Tryz.underlying44 (by rfl) (info_bst _ _ _ _) ?_; simp only [Act.put, List.setIfInBounds_toArray, List.set_cons_succ, List.set_cons_zero]; go_big_quiet_on) | (go_big_quiet_want; refine quiet_load_agg 44 _ (by rfl) (w.heap.size + 1) 82 (by rfl) (stc B (.slice xb B.ram.length cb) bi bo) _ r1.out.lt (fun j v hv => (r1.out.cell (82 + j)).trans (whc_b b B _ bi bo j v hv)) Tryz.underlying44 (by rfl) (info_bst _ _ _ _) ?_; simp only [Act.put, List.setIfInBounds_toArray, List.set_cons_succ, List.set_cons_zero]; go_big_quiet_on) | (go_big_quiet_step (fail)))
    (go_big_quiet_step ((go_at_call 24; exact calls_later (HDV.out _))))
    iterate 5 (go_big_quiet_step (fail))
    (go_big_quiet_step (rfl))
    iterate 3 (go_big_quiet_step (fail))
    (go_big_quiet_step (rfl))
    iterate 10 (go_big_quiet_step (fail))
    (go_big_quiet_step ((go_at_call 25; exact calls_later (HSL.out _))))
    iterate 2 (go_big_quiet_step (fail))
    refine wpQuiet_nil ?_
    rintro _ ⟨yq, rfl⟩
    go_wp2
    go_ret
    exact ⟨by rw [HV.out]; first | done | rfl, BB.out.trans (yq.2.mono BB.out.size)⟩
end Go.Proofs.YtidfndgedopghaaGreatDoor
