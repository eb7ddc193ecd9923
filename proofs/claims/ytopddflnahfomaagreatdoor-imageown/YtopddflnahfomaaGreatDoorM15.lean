/-
  Irw.
-/
import Derived.Test.YtopddflnahfomaaGreatDoorM13
import Derived.Test.YtopddflnahfomaaGreatDoorM14
namespace Go.Proofs.YtopddflnahfomaaGreatDoor
set_option linter.unusedVariables false
set_option maxRecDepth 100000
open Go.ChangeShapes Go.WideShapes Go.ChangeAt Go.RowKit Go.Deep
theorem own_below {w w' : World} {B e size n : Nat} {v : Value} {xs : List Value} (h : w.ownsRow B e size v n xs) (hb : Below w.heap.size w w') : w'.ownsRow B e size v n xs := by
  refine ⟨h.1, ?_⟩
  rcases h.2 with h' | ⟨g, cap, cur, rfl, h1, h2, h3⟩
  · exact .inl h'
  · exact .inr ⟨g, cap, cur, rfl, h1, by rw [hb.block g (heap_lt h2)]; exact h2, h3⟩
theorem Dts.base {b : List Int} {B B' : Nat} {w : World} {L : List Sg} {l : List Pt} (h : Dts b B w L l) (hb : B' ≤ B) : Dts b B' w L l := by
  induction h with
  | nil => exact .nil
  | cons h1 _ ha ih => exact .cons ⟨h1.1, h1.2.1, h1.2.2.1, own_ge h1.2.2.2 hb (fun _ _ => rfl)⟩ ih ha
theorem Dts.has {b : List Int} {B : Nat} {w : World} {L : List Sg} {l : List Pt} (h : Dts b B w L l) : ∀ p ∈ l, ∃ x ∈ L, x.a.toNat = adr p := by
  induction h with
  | nil => intro p hp; cases hp
  | @cons x q L l h1 _ _ ih =>
    intro p hp
    rcases List.mem_cons.1 hp with rfl | hp
    · exact ⟨x, List.mem_cons_self, by rw [h1.1]; rfl⟩
    · obtain ⟨y, hy, e⟩ := ih p hp; exact ⟨y, List.mem_cons_of_mem _ hy, e⟩
theorem Dts.rise {b : List Int} {B : Nat} {w : World} {L : List Sg} {l : List Pt} (h : Dts b B w L l) (hs : L.Pairwise (fun x y => x.a.toNat ≤ y.a.toNat)) : l.Pairwise (fun x y => adr x ≤ adr y) := by
  induction h with
  | nil => exact .nil
  | @cons x q L l h1 h2 _ ih =>
    rw [List.pairwise_cons] at hs ⊢
    refine ⟨fun p hp => ?_, ih hs.2⟩
    obtain ⟨y, hy, e⟩ := h2.has p hp
    have := hs.1 y hy
    rw [h1.1] at this
    rw [← e]; exact this
/-- The first fault of the program headers. -/
def paF (b : List Int) : Flt := if (phF b).isSome then phF b else (prL b (vl b 32 8) (vl b 56 2)).2
/-- The parts of the file, by rising address. -/
def paL (b : List Int) : List Pt := srt (prL b (vl b 32 8) (vl b 56 2)).1
theorem own_nilS (w : World) (B : Nat) : w.ownsRow B 42 4 (.slice none 0 0) ([] : List Sg).length (sgl []) := ⟨by simp [sgl], .inl ⟨rfl, rfl⟩⟩
set_option maxHeartbeats 8000000 in
theorem parts_c {b : List Int} (hB : AllB b) (hl : b.length ≤ 200000) (h64 : 64 ≤ b.length) (vb : Value) (w : World) (hv : Byt w vb b) :
    Calls Tryz.prog 30 #[.agg #[vb]] w fun e w' =>
      (paF b = none ∧ ∃ u L, e = .returned u ∧ w'.ownsRow w.heap.size 42 4 u L.length (sgl L) ∧ Dts b w.heap.size w' L (paL b) ∧ Below w.heap.size w w') ∨ (∃ F, paF b = some F ∧ Pan w F e w') := by
  have HV : Hid (∀ w', Below w.heap.size w w' → Byt w' vb b) := fun w' hb => hv.later hb rfl
  have HB : Hid (AllB b) := hB
  obtain ⟨a, cap, rfl, hc, _, _⟩ := hv
  obtain ⟨W1, hW1⟩ : ∃ W1, w.alloc (.cells #[.slice a b.length cap] 54) = W1 := ⟨_, rfl⟩
  have HBL : Hid (Below w.heap.size w W1) := by rw [← hW1]; exact (Below.refl _ _).alloc (Nat.le_refl _) _
  have hsz : Hid (W1.heap.size = w.heap.size + 1) := by unfold Hid; rw [← hW1]; simp
  have R3 : Hid (W1.heap[w.heap.size]? = some (.cells #[.slice a b.length cap] 54 (0, 0))) := by unfold Hid; rw [← hW1]; exact heap_alloc_new w _
  have HC0 : Hid (∀ w', Below W1.heap.size W1 w' → w'.cell? ⟨w.heap.size, 0, none⟩ = some (.slice a b.length cap)) := fun w' hb => (hb.cell (by show w.heap.size < _; rw [hsz.out]; omega)).trans (cell_of_row W1 _ 0 _ _ _ R3.out)
  have c1 : Hid (∀ wx, Below W1.heap.size W1 wx → Calls Tryz.prog 46 #[.agg #[.slice a b.length cap], .int .i64 56] wx fun e w' => e = .returned (.int .u64 ((vl b 56 2 : Nat) : Int)) ∧ Below wx.heap.size wx w') := fun wx hx => half_c HB.out hl _ 56 56 rfl (by omega) wx (HV.out _ (HBL.out.trans (hx.mono HBL.out.size)))
  have c2 : Hid (∀ wx, Below W1.heap.size W1 wx → Calls Tryz.prog 46 #[.agg #[.slice a b.length cap], .int .i64 54] wx fun e w' => e = .returned (.int .u64 ((vl b 54 2 : Nat) : Int)) ∧ Below wx.heap.size wx w') := fun wx hx => half_c HB.out hl _ 54 54 rfl (by omega) wx (HV.out _ (HBL.out.trans (hx.mono HBL.out.size)))
  have hlI : (b.length : Int) ≤ 200000 := by omega
  have l1 := vl_lt hB 56 2
  have l2 := vl_lt hB 54 2
  have HF : Hid (phF b = if vl b 56 2 ≠ 0 ∧ vl b 54 2 ≠ 56 then some (54, 22) else if 16 < vl b 56 2 then some (56, 2) else if ¬ room b (vl b 32 8) (56 * vl b 56 2) then some (32, 20) else none) := rfl
  have HPA : Hid (paF b = if (phF b).isSome then phF b else (prL b (vl b 32 8) (vl b 56 2)).2) := rfl
  have HPL : Hid (paL b = srt (prL b (vl b 32 8) (vl b 56 2)).1) := rfl
  generalize paF b = FF at HPA ⊢
  generalize paL b = PL at HPL ⊢
  have c8 : Hid (∀ wx, Below W1.heap.size W1 wx → ∀ nI : Int, vl b 56 2 < 65536 → nI = ((56 * vl b 56 2 : Nat) : Int) → Calls Tryz.prog 48 #[.agg #[.slice a b.length cap], .int .i64 32, .int .u64 nI] wx fun e w' => (room b (vl b 32 8) (56 * vl b 56 2) ∧ e = .returned (.int .i64 ((vl b 32 8 : Nat) : Int)) ∧ Below wx.heap.size wx w') ∨ (¬ room b (vl b 32 8) (56 * vl b 56 2) ∧ Pan wx (32, 20) e w')) := fun wx hx nI hn h => by
    subst h
    exact placeAt_c HB.out hl _ 32 _ 32 rfl (by omega) (by omega) wx (HV.out _ (HBL.out.trans (hx.mono HBL.out.size)))
  generalize phF b = PH at HF HPA
  generalize vl b 56 2 = N at c1 c8 HF HPA HPL l1
  generalize vl b 54 2 = M at c2 HF l2
  generalize vl b 32 8 = P at c8 HF HPA HPL
  have l1I : (N : Int) < 65536 := by omega
  have l2I : (M : Int) < 65536 := by omega
  have hcap : Hid (b.length ≤ cap) := hc
  clear hc
  obtain ⟨RR, hRR⟩ : ∃ RR : Ending → World → Prop, RR = fun e w' => (FF = none ∧ ∃ u L, e = .returned u ∧ w'.ownsRow w.heap.size 42 4 u L.length (sgl L) ∧ Dts b w.heap.size w' L PL ∧ Below w.heap.size w w') ∨ (∃ F, FF = some F ∧ Pan w F e w') := ⟨_, rfl⟩
  rw [← hRR]
  have HRR : Hid (RR = fun e w' => (FF = none ∧ ∃ u L, e = .returned u ∧ w'.ownsRow w.heap.size 42 4 u L.length (sgl L) ∧ Dts b w.heap.size w' L PL ∧ Below w.heap.size w w') ∨ (∃ F, FF = some F ∧ Pan w F e w')) := hRR
  clear hRR
  have HW1 : Hid (Below W1.heap.size W1 W1) := Below.refl _ _
  go_enter Tryz.func30, Tryz.ntmps30
  go_upto_region 1 with fail
  have k1 := HC0.out W1 HW1.out
  clear hW1
  go_upto_region 2 with (go_at_call 46; refine (c1.out _ HW1.out).mono ?_; rintro e w2 ⟨rfl, hb⟩; have Hw2 : Hid (Below W1.heap.size W1 w2) := HW1.out.trans (hb.mono (HW1.out).size); clear hb)
  have k2 := HC0.out w2 Hw2.out
  clear k1
  by_cases gN : N = 0
  · have gNb : ((N : Int) != 0) = false := by rw [bne_eq_false_iff_eq]; omega
    have HG1 : Hid (¬ (N ≠ 0 ∧ M ≠ 56)) := fun q => q.1 gN
    clear gN
    go_upto_region 3 with (go_at_call 27; refine (refuse_f _ _ _).mono ?_; rintro e w9 ⟨rfl, hw9⟩; subst hw9)
    obtain ⟨w3, hw3⟩ : ∃ w3, w3 = w2 := ⟨_, rfl⟩
    rw [← hw3] at Hw2 k2 ⊢
    have Hw3 : Hid (Below W1.heap.size W1 w3) := Hw2
    clear hw3 Hw2 gNb
    by_cases g2 : 16 < N
    · have g2I : (16 : Int) < N := by omega
      have HE : Hid (FF = some (56, 2)) := by unfold Hid; rw [HPA.out, HF.out, if_neg HG1.out, if_pos g2]; rfl
      clear g2
      go_wp2_with (go_at_call 27; refine (refuse_tI 2 56 _ (by rfl) _).mono ?_; rintro e w9 ⟨g, rfl, p2, p3, p4⟩)
      exact ⟨rfl, by rw [HRR.out]; exact .inr ⟨_, HE.out, Pan.later (HBL.out.trans (Hw3.out.mono HBL.out.size)) ⟨g, rfl, p2, p3, p4⟩⟩⟩
    · have g2I : ¬ (16 : Int) < N := by omega
      have HG2 : Hid (¬ 16 < N) := g2
      clear g2
      go_upto_region 4 with (go_at_call 27; refine (refuse_f _ _ _).mono ?_; rintro e w9 ⟨rfl, hw9⟩; subst hw9)
      by_cases hrm : room b P (56 * N)
      · have HRM : Hid (room b P (56 * N)) := hrm
        have HE : Hid (PH = none) := by unfold Hid; rw [HF.out, if_neg HG1.out, if_neg HG2.out, if_neg (fun q => q hrm)]
        have c8t : Hid (∀ wx, Below W1.heap.size W1 wx → ∀ nI : Int, nI = ((56 * N : Nat) : Int) → Calls Tryz.prog 48 #[.agg #[.slice a b.length cap], .int .i64 32, .int .u64 nI] wx fun e w' => e = .returned (.int .i64 (P : Int)) ∧ Below wx.heap.size wx w') := fun wx hx nI hn => (c8.out wx hx nI (by omega) hn).mono fun e w' hq => hq.elim (fun h1 => h1.2) (fun h1 => absurd HRM.out h1.1)
        have hrmI : (P : Int) + 56 * N ≤ b.length := by have := HRM.out; unfold room at this; omega
        clear c8 hrm
        go_upto_region 5 with (go_at_call 48; refine (c8t.out _ Hw3.out _ (by first | omega | (rw [IntKind.wrap_i64]; omega) | (rw [IntKind.wrap_u64]; omega))).mono ?_; rintro e w4 ⟨rfl, hb⟩; have Hw4 : Hid (Below W1.heap.size W1 w4) := Hw3.out.trans (hb.mono (Hw3.out).size); clear hb)
        clear k2
        go_wp2
        go_loopw [27, 5] (fun x y wr => ∃ (i : Nat) (L : List Sg) (l : List Pt) (ym : Option Addr) (yn yc : Nat), i ≤ N ∧ x = .int .i64 i ∧ y = .slice ym yn yc ∧ Hid (wr.ownsRow W1.heap.size 42 4 (.slice ym yn yc) L.length (sgl L)) ∧ Hid (Below W1.heap.size W1 wr) ∧ Hid (prL b P i = (l, none)) ∧ Hid (Dts b W1.heap.size wr L l)) (fun x _ _ => N - (intOf x).toNat)
        case atStart => exact ⟨0, [], [], none, 0, 0, Nat.zero_le _, rfl, rfl, own_nilS _ _, Hw4, prL_zero _ _, .nil⟩
        case round =>
          obtain ⟨i, L, l, ym, yn, yc, hi, rfl, rfl, HO, HW, HL, HD⟩ := hrel
          have kr := HC0.out wr HW.out
          have hL16 : Hid (L.length ≤ 16) := by unfold Hid; have q := prL_len b P i; rw [HL.out] at q; have := HD.out.len; have := HG2.out; simp only at q; omega
          by_cases hlt : i < N
          · have hlt2 : (i : Int) < N := by omega
            have hh56 : Hid (P + 56 * i + 56 ≤ b.length) := by unfold Hid; have := HRM.out; unfold room at this; omega
            have cI : Hid (∀ wx, Below W1.heap.size W1 wx → ∀ hI : Int, hI = ((P + 56 * i : Nat) : Int) → Calls Tryz.prog 49 #[.agg #[.slice a b.length cap], .int .i64 hI] wx fun e w' => e = .returned (.bool (decide (isPt b (P + 56 * i)))) ∧ Below wx.heap.size wx w') := fun wx hx hI h => by
              subst h
              exact isPart_c HB.out hl _ (P + 56 * i) hh56.out wx (HV.out _ (HBL.out.trans (hx.mono HBL.out.size)))
            go_upto_region 10 with fail
            by_cases hp : isPt b (P + 56 * i)
            · have HIP : Hid (isPt b (P + 56 * i)) := hp
              have cIt : Hid (∀ wx, Below W1.heap.size W1 wx → ∀ hI : Int, hI = ((P + 56 * i : Nat) : Int) → Calls Tryz.prog 49 #[.agg #[.slice a b.length cap], .int .i64 hI] wx fun e w' => e = .returned (.bool true) ∧ Below wx.heap.size wx w') := fun wx hx hI h => (cI.out wx hx hI h).mono fun e w' hq => ⟨by rw [hq.1, decide_eq_true HIP.out], hq.2⟩
              clear cI hp
              go_upto_region 11 with (go_at_call 49; refine (cIt.out _ HW.out _ (by first | omega | (rw [IntKind.wrap_i64]; omega) | (rw [IntKind.wrap_u64]; omega))).mono ?_; rintro e w5 ⟨rfl, hb⟩; have H5 : Hid (Below W1.heap.size W1 w5) := HW.out.trans (hb.mono (HW.out).size); have B5 : Hid (Below wr.heap.size wr w5) := hb; clear hb)
              clear kr cIt
              have k5 := HC0.out w5 H5.out
              have HO5 : Hid (w5.ownsRow W1.heap.size 42 4 (.slice ym yn yc) L.length (sgl L)) := own_below HO.out B5.out
              have HD5 : Hid (Dts b W1.heap.size w5 L l) := HD.out.keep (KeepU.below B5.out)
              have cP := part_c HB.out hl _ (P + 56 * i) hh56.out (.slice ym yn yc) L hL16.out w5 (HV.out _ (HBL.out.trans (H5.out.mono HBL.out.size))) (Sgs.of_own HO5.out)
              have HCP : Hid (∀ hI : Int, hI = ((P + 56 * i : Nat) : Int) → Calls Tryz.prog 50 #[.agg #[.slice a b.length cap], .int .i64 hI, .slice ym yn yc] w5 fun e w' =>
      (ptF b (P + 56 * i) = none ∧ (∀ j, j < L.length → meetB (BitVec.ofNat 64 (ptAt b (P + 56 * i)).a) (BitVec.ofNat 64 (ptAt b (P + 56 * i)).s) (sg L j).a (sg L j).s = false) ∧ ∃ u, e = .returned (.agg (ptc (ptAt b (P + 56 * i)) u)) ∧ w'.ownsRow w5.heap.size 5 1 u (ptAt b (P + 56 * i)).n (bv ((b.drop (ptAt b (P + 56 * i)).p).take (ptAt b (P + 56 * i)).n)) ∧ Below w5.heap.size w5 w')
      ∨ (∃ F, ptF b (P + 56 * i) = some F ∧ Pan w5 F e w')
      ∨ (ptF b (P + 56 * i) = none ∧ (∃ j, j < L.length ∧ meetB (BitVec.ofNat 64 (ptAt b (P + 56 * i)).a) (BitVec.ofNat 64 (ptAt b (P + 56 * i)).s) (sg L j).a (sg L j).s = true) ∧ Pan w5 (P + 56 * i + 24, 24) e w')) := fun hI h => by subst h; exact cP
              clear cP
              have HAM : Hid (l.any (mtB (ptAt b (P + 56 * i))) = true ↔ ∃ j, j < L.length ∧ meetB (BitVec.ofNat 64 (ptAt b (P + 56 * i)).a) (BitVec.ofNat 64 (ptAt b (P + 56 * i)).s) (sg L j).a (sg L j).s = true) := any_mt HD.out (ptAt b (P + 56 * i))
              obtain ⟨PF, hPF⟩ : ∃ PF, PF = ptF b (P + 56 * i) := ⟨_, rfl⟩
              cases PF with
              | some F =>
                have HPF : Hid (ptF b (P + 56 * i) = some F) := hPF.symm
                have HE2 : Hid (FF = some F) := by unfold Hid; rw [HPA.out, HE.out, prL_stop (prL_own HL.out HIP.out HPF.out) N hlt]; rfl
                have HCF : Hid (∀ hI : Int, hI = ((P + 56 * i : Nat) : Int) → Calls Tryz.prog 50 #[.agg #[.slice a b.length cap], .int .i64 hI, .slice ym yn yc] w5 fun e w' => Pan w5 F e w') := fun hI h => (HCP.out hI h).mono fun e w' hq => by
                  rcases hq with ⟨q, _⟩ | ⟨F', q, r⟩ | ⟨q, _⟩
                  · rw [HPF.out] at q; cases q
                  · rw [HPF.out] at q; cases q; exact r
                  · rw [HPF.out] at q; cases q
                clear hPF HCP
                go_wp2_with (go_at_call 50; refine (HCF.out _ (by first | omega | (rw [IntKind.wrap_i64]; omega) | (rw [IntKind.wrap_u64]; omega))).mono ?_; rintro e w9 ⟨g, rfl, p2, p3, p4⟩)
                exact ⟨rfl, by rw [HRR.out]; exact .inr ⟨_, HE2.out, Pan.later (HBL.out.trans (H5.out.mono HBL.out.size)) ⟨g, rfl, p2, p3, p4⟩⟩⟩
              | none =>
                have HPF : Hid (ptF b (P + 56 * i) = none) := hPF.symm
                clear hPF
                by_cases hm : l.any (mtB (ptAt b (P + 56 * i))) = true
                · have HE2 : Hid (FF = some (P + 56 * i + 24, 24)) := by unfold Hid; rw [HPA.out, HE.out, prL_stop (prL_meet HL.out HIP.out HPF.out hm) N hlt]; rfl
                  have HCF : Hid (∀ hI : Int, hI = ((P + 56 * i : Nat) : Int) → Calls Tryz.prog 50 #[.agg #[.slice a b.length cap], .int .i64 hI, .slice ym yn yc] w5 fun e w' => Pan w5 (P + 56 * i + 24, 24) e w') := fun hI h => (HCP.out hI h).mono fun e w' hq => by
                    rcases hq with ⟨_, q, _⟩ | ⟨F', q, r⟩ | ⟨_, _, r⟩
                    · obtain ⟨j, hj, e⟩ := HAM.out.1 hm; rw [q j hj] at e; cases e
                    · rw [HPF.out] at q; cases q
                    · exact r
                  clear hm HCP
                  go_wp2_with (go_at_call 50; refine (HCF.out _ (by first | omega | (rw [IntKind.wrap_i64]; omega) | (rw [IntKind.wrap_u64]; omega))).mono ?_; rintro e w9 ⟨g, rfl, p2, p3, p4⟩)
                  exact ⟨rfl, by rw [HRR.out]; exact .inr ⟨_, HE2.out, Pan.later (HBL.out.trans (H5.out.mono HBL.out.size)) ⟨g, rfl, p2, p3, p4⟩⟩⟩
                · have HL2 : Hid (prL b P (i + 1) = (l ++ [ptAt b (P + 56 * i)], none)) := prL_add HL.out HIP.out HPF.out hm
                  have HCF : Hid (∀ hI : Int, hI = ((P + 56 * i : Nat) : Int) → Calls Tryz.prog 50 #[.agg #[.slice a b.length cap], .int .i64 hI, .slice ym yn yc] w5 fun e w' => ∃ um uk uc, e = .returned (.agg #[.int .u64 (n64 (BitVec.ofNat 64 (ptAt b (P + 56 * i)).a)), .int .u64 (n64 (BitVec.ofNat 64 (ptAt b (P + 56 * i)).s)), .int .i64 ((ptAt b (P + 56 * i)).f : Int), .slice um uk uc]) ∧ w'.ownsRow w5.heap.size 5 1 (.slice um uk uc) (ptAt b (P + 56 * i)).n (bv ((b.drop (ptAt b (P + 56 * i)).p).take (ptAt b (P + 56 * i)).n)) ∧ Below w5.heap.size w5 w') := fun hI h => (HCP.out hI h).mono fun e w' hq => by
                    rcases hq with ⟨_, _, u, rfl, r1, r2⟩ | ⟨F', q, r⟩ | ⟨_, q, _⟩
                    · obtain ⟨um, uk, uc, rfl⟩ := own_slice r1; exact ⟨um, uk, uc, rfl, r1, r2⟩
                    · rw [HPF.out] at q; cases q
                    · exact absurd (HAM.out.2 q) hm
                  clear hm HCP HAM
                  generalize ptAt b (P + 56 * i) = PT at HCF HL2
                  obtain ⟨X0, hX0⟩ : ∃ X0, X0 = n64 (BitVec.ofNat 64 PT.a) := ⟨_, rfl⟩
                  obtain ⟨X1, hX1⟩ : ∃ X1, X1 = n64 (BitVec.ofNat 64 PT.s) := ⟨_, rfl⟩
                  obtain ⟨X2, hX2⟩ : ∃ X2 : Int, X2 = (PT.f : Int) := ⟨_, rfl⟩
                  rw [← hX0, ← hX1, ← hX2] at HCF
                  have HX0 : Hid (X0 = n64 (BitVec.ofNat 64 PT.a)) := hX0
                  have HX1 : Hid (X1 = n64 (BitVec.ofNat 64 PT.s)) := hX1
                  have HX2 : Hid (X2 = (PT.f : Int)) := hX2
                  clear hX0 hX1 hX2
                  go_upto_region 12 with (first | (go_at_call 50; refine (HCF.out _ (by first | omega | (rw [IntKind.wrap_i64]; omega) | (rw [IntKind.wrap_u64]; omega))).mono ?_; rintro e w6 ⟨um, uk, uc, rfl, ho, hb⟩; have HU : Hid (w6.ownsRow w5.heap.size 5 1 (.slice um uk uc) PT.n (bv ((b.drop PT.p).take PT.n))) := ho; have B6 : Hid (Below w5.heap.size w5 w6) := hb; clear ho hb) | (at_builtin; have A1 : (w6.alloc (.cells #[.int .u64 X0, .int .u64 X1, .int .i64 X2, .slice um uk uc] 42)).ownsRow W1.heap.size 42 4 (.slice ym yn yc) L.length (sgl L) := own_below HO5.out (B6.out.alloc B6.out.size _); have A2 : (w6.alloc (.cells #[.int .u64 X0, .int .u64 X1, .int .i64 X2, .slice um uk uc] 42)).heap[w6.heap.size]? = some (.cells #[.int .u64 (n64 (BitVec.ofNat 64 PT.a)), .int .u64 (n64 (BitVec.ofNat 64 PT.s)), .int .i64 (PT.f : Int), .slice um uk uc] 42 (0, 0)) := (by rw [← HX0.out, ← HX1.out, ← HX2.out]; exact heap_alloc_new w6 _); have A3 : W1.heap.size ≤ (w6.alloc (.cells #[.int .u64 X0, .int .u64 X1, .int .i64 X2, .slice um uk uc] 42)).heap.size := (by have := H5.out.size; have := B6.out.size; simp; omega); refine appR (by rfl) _ _ (by rfl) W1.heap.size (.slice ym yn yc) L (Sg.mk (BitVec.ofNat 64 PT.a) (BitVec.ofNat 64 PT.s) (PT.f : Int) (.slice none 0 0) uk um uc) (by rfl) A1 w6.heap.size (by rfl) A2 (by have := hL16.out; omega) A3 ?_; clear A1 A2 A3; intro v7 w7 ho7 hb7 hk7; have HO7 : Hid (w7.ownsRow W1.heap.size 42 4 v7 (L ++ [(Sg.mk (BitVec.ofNat 64 PT.a) (BitVec.ofNat 64 PT.s) (PT.f : Int) (.slice none 0 0) uk um uc)]).length (sgl (L ++ [(Sg.mk (BitVec.ofNat 64 PT.a) (BitVec.ofNat 64 PT.s) (PT.f : Int) (.slice none 0 0) uk um uc)]))) := ho7; have K7 : Hid (KeepU w6 w7) := (KeepU.below ((Below.refl _ w6).alloc (Nat.le_refl _) _)).trans hk7; have H7 : Hid (Below W1.heap.size W1 w7) := ((H5.out.trans (B6.out.mono H5.out.size)).alloc (by have := H5.out.size; have := B6.out.size; omega) _).trans hb7; clear ho7 hb7 hk7; obtain ⟨vm, vn, vc, rfl⟩ := own_slice HO7.out))
                  have HD7 : Hid (Dts b W1.heap.size w7 (L ++ [(Sg.mk (BitVec.ofNat 64 PT.a) (BitVec.ofNat 64 PT.s) (PT.f : Int) (.slice none 0 0) uk um uc)]) (l ++ [PT])) := ((HD5.out.keep (KeepU.below B6.out)).keep K7.out).snoc ⟨rfl, rfl, rfl, K7.out.own (own_ge HU.out (H5.out.size) (fun _ _ => rfl))⟩ (by exact HD5.out.fresh (x := ⟨_, _, _, _, uk, um, uc⟩) HU.out)
                  clear k5
                  go_wp2
                  go_roundw
                  case rel => exact ⟨i + 1, _, _, vm, vn, vc, hlt, by go_num, rfl, HO7, H7, HL2, HD7⟩
                  case measure => simp [intOf]; omega
            · have HL2 : Hid (prL b P (i + 1) = (l, none)) := prL_pass HL.out hp
              have cIf : Hid (∀ wx, Below W1.heap.size W1 wx → ∀ hI : Int, hI = ((P + 56 * i : Nat) : Int) → Calls Tryz.prog 49 #[.agg #[.slice a b.length cap], .int .i64 hI] wx fun e w' => e = .returned (.bool false) ∧ Below wx.heap.size wx w') := fun wx hx hI h => (cI.out wx hx hI h).mono fun e w' hq => ⟨by rw [hq.1, decide_eq_false hp], hq.2⟩
              clear cI
              clear hp
              go_upto_region 12 with (go_at_call 49; refine (cIf.out _ HW.out _ (by first | omega | (rw [IntKind.wrap_i64]; omega) | (rw [IntKind.wrap_u64]; omega))).mono ?_; rintro e w5 ⟨rfl, hb⟩; have H5 : Hid (Below W1.heap.size W1 w5) := HW.out.trans (hb.mono (HW.out).size); have B5 : Hid (Below wr.heap.size wr w5) := hb; clear hb)
              have HO5 : Hid (w5.ownsRow W1.heap.size 42 4 (.slice ym yn yc) L.length (sgl L)) := own_below HO.out B5.out
              have HD5 : Hid (Dts b W1.heap.size w5 L l) := HD.out.keep (KeepU.below B5.out)
              clear kr
              go_wp2
              go_roundw
              case rel => exact ⟨i + 1, L, l, ym, yn, yc, hlt, by go_num, rfl, HO5, H5, HL2, HD5⟩
              case measure => simp [intOf]; omega
          · obtain rfl : i = N := by omega
            have cS := sort_c wr W1.heap.size (.slice ym yn yc) L HO.out HW.out.size hL16.out
            have HCS : Hid (Calls Tryz.prog 51 #[.slice ym yn yc, .func (.func 52) #[] #[]] wr fun e w' => e = .returned (.tuple #[]) ∧ ∃ L' : List Sg, L'.Perm L ∧ L'.Pairwise (fun x y => x.a.toNat ≤ y.a.toNat) ∧ w'.ownsRow W1.heap.size 42 4 (.slice ym yn yc) L'.length (sgl L') ∧ Below W1.heap.size wr w' ∧ KeepU wr w') := cS
            clear cS
            go_wp2_with (go_at_call 51; refine (HCS.out).mono ?_; rintro e w8 ⟨rfl, L', hp, hs, ho, hb, hk⟩; have HP8 : Hid (L'.Perm L) := hp; have HS8 : Hid (L'.Pairwise (fun x y => x.a.toNat ≤ y.a.toNat)) := hs; have HO8 : Hid (w8.ownsRow W1.heap.size 42 4 (.slice ym yn yc) L'.length (sgl L')) := ho; have HB8 : Hid (Below W1.heap.size wr w8) := hb; have HK8 : Hid (KeepU wr w8) := hk; clear hp hs ho hb hk)
            rw [HRR.out]
            obtain ⟨l', hpl, hd⟩ := (HD.out.keep HK8.out).perm HP8.out
            have hsl : l' = srt l := srt_unique (by have q := (prL_apart b P i).2; rw [HL.out] at q; exact q) hpl (hd.rise HS8.out)
            refine .inl ⟨by rw [HPA.out, HE.out, HL.out]; rfl, .slice ym yn yc, L', by rfl, own_ge HO8.out HBL.out.size (fun _ _ => rfl), ?_, HBL.out.trans ((HW.out.trans HB8.out).mono HBL.out.size)⟩
            rw [HPL.out, HL.out]
            show Dts b w.heap.size w8 L' (srt l)
            rw [← hsl]
            exact hd.base HBL.out.size
      · have HE : Hid (FF = some (32, 20)) := by unfold Hid; rw [HPA.out, HF.out, if_neg HG1.out, if_neg HG2.out, if_pos hrm]; rfl
        have c8f : Hid (∀ wx, Below W1.heap.size W1 wx → ∀ nI : Int, nI = ((56 * N : Nat) : Int) → Calls Tryz.prog 48 #[.agg #[.slice a b.length cap], .int .i64 32, .int .u64 nI] wx fun e w' => Pan wx (32, 20) e w') := fun wx hx nI hn => (c8.out wx hx nI (by omega) hn).mono fun e w' hq => hq.elim (fun h1 => absurd h1.1 hrm) (fun h1 => h1.2)
        clear c8 hrm
        go_wp2_with (go_at_call 48; refine (c8f.out _ Hw3.out _ (by first | omega | (rw [IntKind.wrap_i64]; omega) | (rw [IntKind.wrap_u64]; omega))).mono ?_; rintro e w9 ⟨g, rfl, p2, p3, p4⟩)
        exact ⟨rfl, by rw [HRR.out]; exact .inr ⟨_, HE.out, Pan.later (HBL.out.trans (Hw3.out.mono HBL.out.size)) ⟨g, rfl, p2, p3, p4⟩⟩⟩
  · have gNb : ((N : Int) != 0) = true := by rw [bne_iff_ne]; omega
    by_cases gM : M = 56
    · have gMb : ((M : Int) != 56) = false := by rw [bne_eq_false_iff_eq]; omega
      have HG1 : Hid (¬ (N ≠ 0 ∧ M ≠ 56)) := fun q => q.2 gM
      clear gN gM
      go_upto_region 3 with (first | (go_at_call 46; refine (c2.out _ Hw2.out).mono ?_; rintro e w3 ⟨rfl, hb⟩; have Hw3 : Hid (Below W1.heap.size W1 w3) := Hw2.out.trans (hb.mono (Hw2.out).size); clear hb) | (go_at_call 27; refine (refuse_f _ _ _).mono ?_; rintro e w9 ⟨rfl, hw9⟩; subst hw9))
      clear k2 gNb gMb
      have k2 := HC0.out w3 Hw3.out
      by_cases g2 : 16 < N
      · have g2I : (16 : Int) < N := by omega
        have HE : Hid (FF = some (56, 2)) := by unfold Hid; rw [HPA.out, HF.out, if_neg HG1.out, if_pos g2]; rfl
        clear g2
        go_wp2_with (go_at_call 27; refine (refuse_tI 2 56 _ (by rfl) _).mono ?_; rintro e w9 ⟨g, rfl, p2, p3, p4⟩)
        exact ⟨rfl, by rw [HRR.out]; exact .inr ⟨_, HE.out, Pan.later (HBL.out.trans (Hw3.out.mono HBL.out.size)) ⟨g, rfl, p2, p3, p4⟩⟩⟩
      · have g2I : ¬ (16 : Int) < N := by omega
        have HG2 : Hid (¬ 16 < N) := g2
        clear g2
        go_upto_region 4 with (go_at_call 27; refine (refuse_f _ _ _).mono ?_; rintro e w9 ⟨rfl, hw9⟩; subst hw9)
        by_cases hrm : room b P (56 * N)
        · have HRM : Hid (room b P (56 * N)) := hrm
          have HE : Hid (PH = none) := by unfold Hid; rw [HF.out, if_neg HG1.out, if_neg HG2.out, if_neg (fun q => q hrm)]
          have c8t : Hid (∀ wx, Below W1.heap.size W1 wx → ∀ nI : Int, nI = ((56 * N : Nat) : Int) → Calls Tryz.prog 48 #[.agg #[.slice a b.length cap], .int .i64 32, .int .u64 nI] wx fun e w' => e = .returned (.int .i64 (P : Int)) ∧ Below wx.heap.size wx w') := fun wx hx nI hn => (c8.out wx hx nI (by omega) hn).mono fun e w' hq => hq.elim (fun h1 => h1.2) (fun h1 => absurd HRM.out h1.1)
          have hrmI : (P : Int) + 56 * N ≤ b.length := by have := HRM.out; unfold room at this; omega
          clear c8 hrm
          go_upto_region 5 with (go_at_call 48; refine (c8t.out _ Hw3.out _ (by first | omega | (rw [IntKind.wrap_i64]; omega) | (rw [IntKind.wrap_u64]; omega))).mono ?_; rintro e w4 ⟨rfl, hb⟩; have Hw4 : Hid (Below W1.heap.size W1 w4) := Hw3.out.trans (hb.mono (Hw3.out).size); clear hb)
          clear k2
          go_wp2
          go_loopw [27, 5] (fun x y wr => ∃ (i : Nat) (L : List Sg) (l : List Pt) (ym : Option Addr) (yn yc : Nat), i ≤ N ∧ x = .int .i64 i ∧ y = .slice ym yn yc ∧ Hid (wr.ownsRow W1.heap.size 42 4 (.slice ym yn yc) L.length (sgl L)) ∧ Hid (Below W1.heap.size W1 wr) ∧ Hid (prL b P i = (l, none)) ∧ Hid (Dts b W1.heap.size wr L l)) (fun x _ _ => N - (intOf x).toNat)
          case atStart => exact ⟨0, [], [], none, 0, 0, Nat.zero_le _, rfl, rfl, own_nilS _ _, Hw4, prL_zero _ _, .nil⟩
          case round =>
            obtain ⟨i, L, l, ym, yn, yc, hi, rfl, rfl, HO, HW, HL, HD⟩ := hrel
            have kr := HC0.out wr HW.out
            have hL16 : Hid (L.length ≤ 16) := by unfold Hid; have q := prL_len b P i; rw [HL.out] at q; have := HD.out.len; have := HG2.out; simp only at q; omega
            by_cases hlt : i < N
            · have hlt2 : (i : Int) < N := by omega
              have hh56 : Hid (P + 56 * i + 56 ≤ b.length) := by unfold Hid; have := HRM.out; unfold room at this; omega
              have cI : Hid (∀ wx, Below W1.heap.size W1 wx → ∀ hI : Int, hI = ((P + 56 * i : Nat) : Int) → Calls Tryz.prog 49 #[.agg #[.slice a b.length cap], .int .i64 hI] wx fun e w' => e = .returned (.bool (decide (isPt b (P + 56 * i)))) ∧ Below wx.heap.size wx w') := fun wx hx hI h => by
                subst h
                exact isPart_c HB.out hl _ (P + 56 * i) hh56.out wx (HV.out _ (HBL.out.trans (hx.mono HBL.out.size)))
              go_upto_region 10 with fail
              by_cases hp : isPt b (P + 56 * i)
              · have HIP : Hid (isPt b (P + 56 * i)) := hp
                have cIt : Hid (∀ wx, Below W1.heap.size W1 wx → ∀ hI : Int, hI = ((P + 56 * i : Nat) : Int) → Calls Tryz.prog 49 #[.agg #[.slice a b.length cap], .int .i64 hI] wx fun e w' => e = .returned (.bool true) ∧ Below wx.heap.size wx w') := fun wx hx hI h => (cI.out wx hx hI h).mono fun e w' hq => ⟨by rw [hq.1, decide_eq_true HIP.out], hq.2⟩
                clear cI hp
                go_upto_region 11 with (go_at_call 49; refine (cIt.out _ HW.out _ (by first | omega | (rw [IntKind.wrap_i64]; omega) | (rw [IntKind.wrap_u64]; omega))).mono ?_; rintro e w5 ⟨rfl, hb⟩; have H5 : Hid (Below W1.heap.size W1 w5) := HW.out.trans (hb.mono (HW.out).size); have B5 : Hid (Below wr.heap.size wr w5) := hb; clear hb)
                clear kr cIt
                have k5 := HC0.out w5 H5.out
                have HO5 : Hid (w5.ownsRow W1.heap.size 42 4 (.slice ym yn yc) L.length (sgl L)) := own_below HO.out B5.out
                have HD5 : Hid (Dts b W1.heap.size w5 L l) := HD.out.keep (KeepU.below B5.out)
                have cP := part_c HB.out hl _ (P + 56 * i) hh56.out (.slice ym yn yc) L hL16.out w5 (HV.out _ (HBL.out.trans (H5.out.mono HBL.out.size))) (Sgs.of_own HO5.out)
                have HCP : Hid (∀ hI : Int, hI = ((P + 56 * i : Nat) : Int) → Calls Tryz.prog 50 #[.agg #[.slice a b.length cap], .int .i64 hI, .slice ym yn yc] w5 fun e w' =>
      (ptF b (P + 56 * i) = none ∧ (∀ j, j < L.length → meetB (BitVec.ofNat 64 (ptAt b (P + 56 * i)).a) (BitVec.ofNat 64 (ptAt b (P + 56 * i)).s) (sg L j).a (sg L j).s = false) ∧ ∃ u, e = .returned (.agg (ptc (ptAt b (P + 56 * i)) u)) ∧ w'.ownsRow w5.heap.size 5 1 u (ptAt b (P + 56 * i)).n (bv ((b.drop (ptAt b (P + 56 * i)).p).take (ptAt b (P + 56 * i)).n)) ∧ Below w5.heap.size w5 w')
      ∨ (∃ F, ptF b (P + 56 * i) = some F ∧ Pan w5 F e w')
      ∨ (ptF b (P + 56 * i) = none ∧ (∃ j, j < L.length ∧ meetB (BitVec.ofNat 64 (ptAt b (P + 56 * i)).a) (BitVec.ofNat 64 (ptAt b (P + 56 * i)).s) (sg L j).a (sg L j).s = true) ∧ Pan w5 (P + 56 * i + 24, 24) e w')) := fun hI h => by subst h; exact cP
                clear cP
                have HAM : Hid (l.any (mtB (ptAt b (P + 56 * i))) = true ↔ ∃ j, j < L.length ∧ meetB (BitVec.ofNat 64 (ptAt b (P + 56 * i)).a) (BitVec.ofNat 64 (ptAt b (P + 56 * i)).s) (sg L j).a (sg L j).s = true) := any_mt HD.out (ptAt b (P + 56 * i))
                obtain ⟨PF, hPF⟩ : ∃ PF, PF = ptF b (P + 56 * i) := ⟨_, rfl⟩
                cases PF with
                | some F =>
                  have HPF : Hid (ptF b (P + 56 * i) = some F) := hPF.symm
                  have HE2 : Hid (FF = some F) := by unfold Hid; rw [HPA.out, HE.out, prL_stop (prL_own HL.out HIP.out HPF.out) N hlt]; rfl
                  have HCF : Hid (∀ hI : Int, hI = ((P + 56 * i : Nat) : Int) → Calls Tryz.prog 50 #[.agg #[.slice a b.length cap], .int .i64 hI, .slice ym yn yc] w5 fun e w' => Pan w5 F e w') := fun hI h => (HCP.out hI h).mono fun e w' hq => by
                    rcases hq with ⟨q, _⟩ | ⟨F', q, r⟩ | ⟨q, _⟩
                    · rw [HPF.out] at q; cases q
                    · rw [HPF.out] at q; cases q; exact r
                    · rw [HPF.out] at q; cases q
                  clear hPF HCP
                  go_wp2_with (go_at_call 50; refine (HCF.out _ (by first | omega | (rw [IntKind.wrap_i64]; omega) | (rw [IntKind.wrap_u64]; omega))).mono ?_; rintro e w9 ⟨g, rfl, p2, p3, p4⟩)
                  exact ⟨rfl, by rw [HRR.out]; exact .inr ⟨_, HE2.out, Pan.later (HBL.out.trans (H5.out.mono HBL.out.size)) ⟨g, rfl, p2, p3, p4⟩⟩⟩
                | none =>
                  have HPF : Hid (ptF b (P + 56 * i) = none) := hPF.symm
                  clear hPF
                  by_cases hm : l.any (mtB (ptAt b (P + 56 * i))) = true
                  · have HE2 : Hid (FF = some (P + 56 * i + 24, 24)) := by unfold Hid; rw [HPA.out, HE.out, prL_stop (prL_meet HL.out HIP.out HPF.out hm) N hlt]; rfl
                    have HCF : Hid (∀ hI : Int, hI = ((P + 56 * i : Nat) : Int) → Calls Tryz.prog 50 #[.agg #[.slice a b.length cap], .int .i64 hI, .slice ym yn yc] w5 fun e w' => Pan w5 (P + 56 * i + 24, 24) e w') := fun hI h => (HCP.out hI h).mono fun e w' hq => by
                      rcases hq with ⟨_, q, _⟩ | ⟨F', q, r⟩ | ⟨_, _, r⟩
                      · obtain ⟨j, hj, e⟩ := HAM.out.1 hm; rw [q j hj] at e; cases e
                      · rw [HPF.out] at q; cases q
                      · exact r
                    clear hm HCP
                    go_wp2_with (go_at_call 50; refine (HCF.out _ (by first | omega | (rw [IntKind.wrap_i64]; omega) | (rw [IntKind.wrap_u64]; omega))).mono ?_; rintro e w9 ⟨g, rfl, p2, p3, p4⟩)
                    exact ⟨rfl, by rw [HRR.out]; exact .inr ⟨_, HE2.out, Pan.later (HBL.out.trans (H5.out.mono HBL.out.size)) ⟨g, rfl, p2, p3, p4⟩⟩⟩
                  · have HL2 : Hid (prL b P (i + 1) = (l ++ [ptAt b (P + 56 * i)], none)) := prL_add HL.out HIP.out HPF.out hm
                    have HCF : Hid (∀ hI : Int, hI = ((P + 56 * i : Nat) : Int) → Calls Tryz.prog 50 #[.agg #[.slice a b.length cap], .int .i64 hI, .slice ym yn yc] w5 fun e w' => ∃ um uk uc, e = .returned (.agg #[.int .u64 (n64 (BitVec.ofNat 64 (ptAt b (P + 56 * i)).a)), .int .u64 (n64 (BitVec.ofNat 64 (ptAt b (P + 56 * i)).s)), .int .i64 ((ptAt b (P + 56 * i)).f : Int), .slice um uk uc]) ∧ w'.ownsRow w5.heap.size 5 1 (.slice um uk uc) (ptAt b (P + 56 * i)).n (bv ((b.drop (ptAt b (P + 56 * i)).p).take (ptAt b (P + 56 * i)).n)) ∧ Below w5.heap.size w5 w') := fun hI h => (HCP.out hI h).mono fun e w' hq => by
                      rcases hq with ⟨_, _, u, rfl, r1, r2⟩ | ⟨F', q, r⟩ | ⟨_, q, _⟩
                      · obtain ⟨um, uk, uc, rfl⟩ := own_slice r1; exact ⟨um, uk, uc, rfl, r1, r2⟩
                      · rw [HPF.out] at q; cases q
                      · exact absurd (HAM.out.2 q) hm
                    clear hm HCP HAM
                    generalize ptAt b (P + 56 * i) = PT at HCF HL2
                    obtain ⟨X0, hX0⟩ : ∃ X0, X0 = n64 (BitVec.ofNat 64 PT.a) := ⟨_, rfl⟩
                    obtain ⟨X1, hX1⟩ : ∃ X1, X1 = n64 (BitVec.ofNat 64 PT.s) := ⟨_, rfl⟩
                    obtain ⟨X2, hX2⟩ : ∃ X2 : Int, X2 = (PT.f : Int) := ⟨_, rfl⟩
                    rw [← hX0, ← hX1, ← hX2] at HCF
                    have HX0 : Hid (X0 = n64 (BitVec.ofNat 64 PT.a)) := hX0
                    have HX1 : Hid (X1 = n64 (BitVec.ofNat 64 PT.s)) := hX1
                    have HX2 : Hid (X2 = (PT.f : Int)) := hX2
                    clear hX0 hX1 hX2
                    go_upto_region 12 with (first | (go_at_call 50; refine (HCF.out _ (by first | omega | (rw [IntKind.wrap_i64]; omega) | (rw [IntKind.wrap_u64]; omega))).mono ?_; rintro e w6 ⟨um, uk, uc, rfl, ho, hb⟩; have HU : Hid (w6.ownsRow w5.heap.size 5 1 (.slice um uk uc) PT.n (bv ((b.drop PT.p).take PT.n))) := ho; have B6 : Hid (Below w5.heap.size w5 w6) := hb; clear ho hb) | (at_builtin; have A1 : (w6.alloc (.cells #[.int .u64 X0, .int .u64 X1, .int .i64 X2, .slice um uk uc] 42)).ownsRow W1.heap.size 42 4 (.slice ym yn yc) L.length (sgl L) := own_below HO5.out (B6.out.alloc B6.out.size _); have A2 : (w6.alloc (.cells #[.int .u64 X0, .int .u64 X1, .int .i64 X2, .slice um uk uc] 42)).heap[w6.heap.size]? = some (.cells #[.int .u64 (n64 (BitVec.ofNat 64 PT.a)), .int .u64 (n64 (BitVec.ofNat 64 PT.s)), .int .i64 (PT.f : Int), .slice um uk uc] 42 (0, 0)) := (by rw [← HX0.out, ← HX1.out, ← HX2.out]; exact heap_alloc_new w6 _); have A3 : W1.heap.size ≤ (w6.alloc (.cells #[.int .u64 X0, .int .u64 X1, .int .i64 X2, .slice um uk uc] 42)).heap.size := (by have := H5.out.size; have := B6.out.size; simp; omega); refine appR (by rfl) _ _ (by rfl) W1.heap.size (.slice ym yn yc) L (Sg.mk (BitVec.ofNat 64 PT.a) (BitVec.ofNat 64 PT.s) (PT.f : Int) (.slice none 0 0) uk um uc) (by rfl) A1 w6.heap.size (by rfl) A2 (by have := hL16.out; omega) A3 ?_; clear A1 A2 A3; intro v7 w7 ho7 hb7 hk7; have HO7 : Hid (w7.ownsRow W1.heap.size 42 4 v7 (L ++ [(Sg.mk (BitVec.ofNat 64 PT.a) (BitVec.ofNat 64 PT.s) (PT.f : Int) (.slice none 0 0) uk um uc)]).length (sgl (L ++ [(Sg.mk (BitVec.ofNat 64 PT.a) (BitVec.ofNat 64 PT.s) (PT.f : Int) (.slice none 0 0) uk um uc)]))) := ho7; have K7 : Hid (KeepU w6 w7) := (KeepU.below ((Below.refl _ w6).alloc (Nat.le_refl _) _)).trans hk7; have H7 : Hid (Below W1.heap.size W1 w7) := ((H5.out.trans (B6.out.mono H5.out.size)).alloc (by have := H5.out.size; have := B6.out.size; omega) _).trans hb7; clear ho7 hb7 hk7; obtain ⟨vm, vn, vc, rfl⟩ := own_slice HO7.out))
                    have HD7 : Hid (Dts b W1.heap.size w7 (L ++ [(Sg.mk (BitVec.ofNat 64 PT.a) (BitVec.ofNat 64 PT.s) (PT.f : Int) (.slice none 0 0) uk um uc)]) (l ++ [PT])) := ((HD5.out.keep (KeepU.below B6.out)).keep K7.out).snoc ⟨rfl, rfl, rfl, K7.out.own (own_ge HU.out (H5.out.size) (fun _ _ => rfl))⟩ (by exact HD5.out.fresh (x := ⟨_, _, _, _, uk, um, uc⟩) HU.out)
                    clear k5
                    go_wp2
                    go_roundw
                    case rel => exact ⟨i + 1, _, _, vm, vn, vc, hlt, by go_num, rfl, HO7, H7, HL2, HD7⟩
                    case measure => simp [intOf]; omega
              · have HL2 : Hid (prL b P (i + 1) = (l, none)) := prL_pass HL.out hp
                have cIf : Hid (∀ wx, Below W1.heap.size W1 wx → ∀ hI : Int, hI = ((P + 56 * i : Nat) : Int) → Calls Tryz.prog 49 #[.agg #[.slice a b.length cap], .int .i64 hI] wx fun e w' => e = .returned (.bool false) ∧ Below wx.heap.size wx w') := fun wx hx hI h => (cI.out wx hx hI h).mono fun e w' hq => ⟨by rw [hq.1, decide_eq_false hp], hq.2⟩
                clear cI
                clear hp
                go_upto_region 12 with (go_at_call 49; refine (cIf.out _ HW.out _ (by first | omega | (rw [IntKind.wrap_i64]; omega) | (rw [IntKind.wrap_u64]; omega))).mono ?_; rintro e w5 ⟨rfl, hb⟩; have H5 : Hid (Below W1.heap.size W1 w5) := HW.out.trans (hb.mono (HW.out).size); have B5 : Hid (Below wr.heap.size wr w5) := hb; clear hb)
                have HO5 : Hid (w5.ownsRow W1.heap.size 42 4 (.slice ym yn yc) L.length (sgl L)) := own_below HO.out B5.out
                have HD5 : Hid (Dts b W1.heap.size w5 L l) := HD.out.keep (KeepU.below B5.out)
                clear kr
                go_wp2
                go_roundw
                case rel => exact ⟨i + 1, L, l, ym, yn, yc, hlt, by go_num, rfl, HO5, H5, HL2, HD5⟩
                case measure => simp [intOf]; omega
            · obtain rfl : i = N := by omega
              have cS := sort_c wr W1.heap.size (.slice ym yn yc) L HO.out HW.out.size hL16.out
              have HCS : Hid (Calls Tryz.prog 51 #[.slice ym yn yc, .func (.func 52) #[] #[]] wr fun e w' => e = .returned (.tuple #[]) ∧ ∃ L' : List Sg, L'.Perm L ∧ L'.Pairwise (fun x y => x.a.toNat ≤ y.a.toNat) ∧ w'.ownsRow W1.heap.size 42 4 (.slice ym yn yc) L'.length (sgl L') ∧ Below W1.heap.size wr w' ∧ KeepU wr w') := cS
              clear cS
              go_wp2_with (go_at_call 51; refine (HCS.out).mono ?_; rintro e w8 ⟨rfl, L', hp, hs, ho, hb, hk⟩; have HP8 : Hid (L'.Perm L) := hp; have HS8 : Hid (L'.Pairwise (fun x y => x.a.toNat ≤ y.a.toNat)) := hs; have HO8 : Hid (w8.ownsRow W1.heap.size 42 4 (.slice ym yn yc) L'.length (sgl L')) := ho; have HB8 : Hid (Below W1.heap.size wr w8) := hb; have HK8 : Hid (KeepU wr w8) := hk; clear hp hs ho hb hk)
              rw [HRR.out]
              obtain ⟨l', hpl, hd⟩ := (HD.out.keep HK8.out).perm HP8.out
              have hsl : l' = srt l := srt_unique (by have q := (prL_apart b P i).2; rw [HL.out] at q; exact q) hpl (hd.rise HS8.out)
              refine .inl ⟨by rw [HPA.out, HE.out, HL.out]; rfl, .slice ym yn yc, L', by rfl, own_ge HO8.out HBL.out.size (fun _ _ => rfl), ?_, HBL.out.trans ((HW.out.trans HB8.out).mono HBL.out.size)⟩
              rw [HPL.out, HL.out]
              show Dts b w.heap.size w8 L' (srt l)
              rw [← hsl]
              exact hd.base HBL.out.size
        · have HE : Hid (FF = some (32, 20)) := by unfold Hid; rw [HPA.out, HF.out, if_neg HG1.out, if_neg HG2.out, if_pos hrm]; rfl
          have c8f : Hid (∀ wx, Below W1.heap.size W1 wx → ∀ nI : Int, nI = ((56 * N : Nat) : Int) → Calls Tryz.prog 48 #[.agg #[.slice a b.length cap], .int .i64 32, .int .u64 nI] wx fun e w' => Pan wx (32, 20) e w') := fun wx hx nI hn => (c8.out wx hx nI (by omega) hn).mono fun e w' hq => hq.elim (fun h1 => absurd h1.1 hrm) (fun h1 => h1.2)
          clear c8 hrm
          go_wp2_with (go_at_call 48; refine (c8f.out _ Hw3.out _ (by first | omega | (rw [IntKind.wrap_i64]; omega) | (rw [IntKind.wrap_u64]; omega))).mono ?_; rintro e w9 ⟨g, rfl, p2, p3, p4⟩)
          exact ⟨rfl, by rw [HRR.out]; exact .inr ⟨_, HE.out, Pan.later (HBL.out.trans (Hw3.out.mono HBL.out.size)) ⟨g, rfl, p2, p3, p4⟩⟩⟩
    · have gMb : ((M : Int) != 56) = true := by rw [bne_iff_ne]; omega
      have HE : Hid (FF = some (54, 22)) := by unfold Hid; rw [HPA.out, HF.out, if_pos (show N ≠ 0 ∧ M ≠ 56 from ⟨gN, gM⟩)]; rfl
      clear gN gM
      go_wp2_with (first | (go_at_call 46; refine (c2.out _ Hw2.out).mono ?_; rintro e w3 ⟨rfl, hb⟩; have Hw3 : Hid (Below W1.heap.size W1 w3) := Hw2.out.trans (hb.mono (Hw2.out).size); clear hb) | (go_at_call 27; refine (refuse_tI 22 54 _ (by rfl) _).mono ?_; rintro e w9 ⟨g, rfl, p2, p3, p4⟩))
      exact ⟨rfl, by rw [HRR.out]; exact .inr ⟨_, HE.out, Pan.later (HBL.out.trans (Hw3.out.mono HBL.out.size)) ⟨g, rfl, p2, p3, p4⟩⟩⟩
end Go.Proofs.YtopddflnahfomaaGreatDoor
