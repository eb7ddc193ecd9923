/-
  Qtl Irk Iru Irv.
-/
import Derived.Test.YtheeogbmljjbdaaGreatDoorN01
import Derived.StillTailTactics
import Derived.Test.YtheeogbmljjbdaaGreatDoorN09
import Derived.Test.YtheeogbmljjbdaaGreatDoorN08
import Derived.Test.YtheeogbmljjbdaaGreatDoorN07
namespace Go.Proofs.YtheeogbmljjbdaaGreatDoor
open Go.ChangeShapes Go.WideShapes Go.ChangeAt Go.RowKit Go.Deep
section
variable {P : Program} {ops : Array Oper} {md : Region.Mode} {C : World → Prop}
def wpAnyM (P : Program) (md : Region.Mode) (ops : Array Oper) (C : World → Prop) (n : Nat) (L : Array Bool → Act → Prop) : Nat → Array Bool → Act → Prop
  | 0, listed, a => L listed a
  | f + 1, listed, a => Region.ready md ops listed ≠ [] ∧ ∀ i ∈ Region.ready md ops listed, i < n ∧ qOp P ops C i (wpAnyM P md ops C n L f (listed.setIfInBounds i true)) a
theorem wpAny_of_M {n g : Nat} {L : Array Bool → Act → Prop} {Q' : Exit → Act → World → Prop} (hL : ∀ listed a w, C w → L listed a → wpAny P md ops Q' g listed a w) :
    ∀ (f : Nat) (listed : Array Bool) (a : Act) (w : World), C w → wpAnyM P md ops C n L f listed a → wpAny P md ops Q' (f + g) listed a w
  | 0, listed, a, w, hw, h => by rw [Nat.zero_add]; exact hL _ _ _ hw h
  | f + 1, listed, a, w, hw, h => by
    rw [Nat.add_right_comm f 1 g]
    exact ⟨fun h0 => absurd h0 h.1, fun i hi => wpOp_of_qOp hw (fun a' w' hw' h' => wpAny_of_M hL f _ a' w' hw' h') (h.2 i hi).2⟩
/-- While an operation of the head has not come up nothing behind the head is ready. -/
theorem head_only {n i : Nat} {listed : Array Bool} (hs : Region.sinkB md ops n = true) (hc : Region.chainB md ops n = true) (hn : n < ops.size) (inv : HeadInv md ops n listed) (hin : i < n) (hr : i ∈ Region.ready md ops listed) :
    ∀ j ∈ Region.ready md ops listed, j < n := fun j hj => by
  rcases Nat.lt_or_ge j n with h | h
  · exact h
  · exact absurd hj (tail_waits hs hc hn inv _ i rfl hin (mem_ready.1 hr).1 j h)
theorem wpAnyM_first {n i : Nat} {oi : Oper} {v : Value} {L : Array Bool → Act → Prop} (hi : ops[i]? = some oi) (hsel : ∀ (j : Nat) (o : Oper) cs b, ops[j]? = some o → o.op ≠ .select cs b)
    (hs : Region.sinkB md ops n = true) (hc : Region.chainB md ops n = true) (hn : n < ops.size) (hin : i < n) (hdone : ∀ listed a, L listed a → ∀ j ∈ Region.ready md ops listed, n ≤ j) :
    ∀ (f : Nat) (listed : Array Bool) (a : Act), HeadInv md ops n listed →
      (∀ j oj, ops[j]? = some oj → j ≠ i → listed.getD j true = false → (∀ e ∈ oj.after, Region.binds md e = true → e.on ≠ i) → oi.apart ops oj = true) →
      i ∈ Region.ready md ops listed → YieldsIn P ops C oi v a →
      wpAnyM P md ops C n L f (listed.setIfInBounds i true) (a.put oi.dst v) → wpAnyM P md ops C n L (f + 1) listed a := by
  intro f
  induction f with
  | zero =>
    intro listed a inv _ hr hy H
    refine ⟨List.ne_nil_of_mem hr, fun j hj => ⟨head_only hs hc hn inv hin hr j hj, ?_⟩⟩
    by_cases e : j = i
    · subst e; exact hy.qOp hi H
    · have h1 := hdone _ _ H j (ready_mono hj e)
      have h2 := head_only hs hc hn inv hin hr j hj
      omega
  | succ f ih =>
    intro listed a inv hfree hr hy H
    refine ⟨List.ne_nil_of_mem hr, fun j hj => ⟨head_only hs hc hn inv hin hr j hj, ?_⟩⟩
    by_cases e : j = i
    · subst e; exact hy.qOp hi H
    · obtain ⟨hun, oj, hoj, hall⟩ := mem_ready.1 hj
      have hap : oi.apart ops oj = true := hfree j oj hoj e hun fun q hq hb heq => by
        have h1 := hall q hq hb
        rw [heq, getD_both (mem_ready.1 hr).1] at h1
        cases h1
      refine qOp_mono (fun a' h3 => ih (listed.setIfInBounds j true) a' (inv.set hj (head_only hs hc hn inv hin hr j hj)) (fun k ok hk hki hunk hno => ?_) (ready_mono hr (Ne.symm e)) h3.1 ?_)
        (qOp_put hoj hap (fun cs b => hsel i oi cs b hi) (fun cs b => hsel j oj cs b hoj) hy (H.2 j (ready_mono hj e)).2)
      · refine hfree k ok hk hki ?_ hno
        by_cases e2 : j = k
        · subst e2; exact hun
        · rwa [getD_set_ne true e2] at hunk
      · rw [Array.setIfInBounds_comm _ _ e]; exact h3.2
theorem wpAnyM_lex {n g : Nat} {Lq : Act → Prop} (hsel : Region.noSelect ops = true) (hs : Region.sinkB md ops n = true) (hc : Region.chainB md ops n = true) (hn : n < ops.size) :
    ∀ (l : List Oper) (k : Nat) (listed : Array Bool) (a : Act), (∀ j, j < l.length → l[j]? = ops[k + j]?) → k + l.length = n → HeadInv md ops n listed →
    Region.lexHead md ops g l.length k listed = true → wpQuiet P ops C Lq l a → wpAnyM P md ops C n (fun listed' a' => Region.seqB md ops g n listed' = true ∧ Lq a') l.length listed a
  | [], k, listed, a, _, hk, _, hB, h => by
    obtain rfl : k = n := by simpa using hk
    exact ⟨by simpa [Region.lexHead] using hB, h⟩
  | o :: l, k, listed, a, hl, hk, inv, hB, h => by
    simp only [List.length_cons] at hk
    have h0 : ops[k]? = some o := by simpa using (hl 0 (by simp)).symm
    simp only [List.length_cons, Region.lexHead, Bool.and_eq_true] at hB
    have hr : k ∈ Region.ready md ops listed := by simpa using hB.1.1
    obtain ⟨v, hy, hK⟩ := yieldsIn_of_qOp (K := wpQuiet P ops C Lq l) h0 (by unfold qOp; simp only [h0]; exact h)
    refine wpAnyM_first h0 (Region.noSelect_spec hsel) hs hc hn (by omega) (fun listed' a' hL => seqB_ready hL.1) l.length listed a inv (Region.free_spec h0 hB.1.2) hr hy ?_
    refine wpAnyM_lex hsel hs hc hn l (k + 1) _ _ (fun j hj => ?_) (by omega) (inv.set hr (by omega)) hB.2 hK
    have := hl (j + 1) (by simp; omega)
    simpa [Nat.add_assoc, Nat.add_comm 1 j] using this
theorem wp_region_quiet_tail {id : Nat} {Q : Exit → Act → World → Prop} {a : Act} {w : World} {l : List Oper} (n : Nat) (hm : P.follows .mixedOrders = true) (hB : Region.lexTailB .any l.toArray n = true) (hC : C { w with drawn := w.drawn + 1 })
    (h : wpQuiet P l.toArray C (fun a' => ∀ w', C w' → wpList P l.toArray Q (l.drop n) a' w') (l.take n) a) : (Code.region id l.toArray true).wp P Q a w := by
  simp only [Region.lexTailB, Bool.and_eq_true, decide_eq_true_eq] at hB
  obtain ⟨⟨⟨⟨hsel, hn⟩, hs⟩, hc⟩, hlex⟩ := hB
  have hn' : n < l.length := by simpa using hn
  have ht : (l.take n).length = n := by simp; omega
  have hd : (l.drop n).length = l.toArray.size - n := by simp
  have H := wpAnyM_lex (md := .any) (g := l.toArray.size - n) hsel hs hc hn (l.take n) 0 (Array.replicate l.toArray.size false) a (fun j hj => by
    rw [ht] at hj
    simp [hj]) (by simpa using ht) ⟨by simp, fun j oj _ hl => (by rw [getD_replicate_false] at hl; cases hl), fun t _ ht' => getD_in (by simpa using ht') (getD_replicate_false _ _)⟩ (by rw [ht]; exact hlex) h
  have G := wpAny_of_M (Q' := Q) (g := l.toArray.size - n) (fun listed a' w' hw' hL => by
    have := wpAny_of_seq (md := .any) (Q' := Q) (l.drop n) n listed a' w' (fun j => by simp [List.getElem?_drop]) (by rw [hd]; exact hL.1) (hL.2 w' hw')
    rwa [hd] at this) _ _ _ _ hC H
  rw [ht, show n + (l.toArray.size - n) = l.toArray.size by omega] at G
  exact wp_region_any hm G
end
/-- So, at the class of later worlds. -/
theorem wp_region_later_tail {P : Program} {id : Nat} {Q : Exit → Act → World → Prop} {a : Act} {W : World} {x0 : Later W} {l : List Oper} (n : Nat) (hm : P.follows .mixedOrders = true) (hB : Region.lexTailB .any l.toArray n = true)
    (h : wpQuiet P l.toArray (fun w' => ∃ x : Later W, w' = x.1) (fun a' => ∀ w', (∃ x : Later W, w' = x.1) → wpList P l.toArray Q (l.drop n) a' w') (l.take n) a) : (Code.region id l.toArray true).wp P Q a x0.1 :=
  wp_region_quiet_tail (C := fun w' => ∃ x : Later W, w' = x.1) n hm hB ⟨⟨_, x0.2.drew⟩, rfl⟩ h
end Go.Proofs.YtheeogbmljjbdaaGreatDoor
namespace Go.Proofs.YtheeogbmljjbdaaGreatDoor
set_option linter.unusedVariables false
set_option maxRecDepth 100000
open Go.ChangeShapes Go.WideShapes Go.ChangeAt Go.RowKit Go.Deep
/-- What name answers. -/
def NmP (E : Option (Option Sy)) (y : Nat) (w : World) (e : Ending) (w' : World) : Prop :=
  (E = none ∧ Pan w (y, 25) e w') ∨ (E = some none ∧ (∃ s v, e = .returned (.tuple #[.agg #[.string s, .int .u64 v], .bool false])) ∧ Below w.heap.size w w') ∨ (∃ x : Sy, E = some (some x) ∧ e = .returned (.tuple #[.agg #[.string x.s, .int .u64 (n64 x.v)], .bool true]) ∧ Below w.heap.size w w')
theorem Hid.mkI {p : Prop} (h : p) : Hid p := h
theorem below_drewX {B : Nat} {w w' : World} (h : Below B w w') (n : Nat) : Below B w (w'.drewN n) := ⟨h.os, h.tape, h.output, h.size, h.block⟩
set_option maxHeartbeats 8000000 in
theorem name_c {b T : List Int} (hB : AllB b) (hl : b.length ≤ 200000) (hTl : T.length ≤ 200000) (vb vt : Value) (y : Nat) (hy : y + 24 ≤ b.length) (w : World) (hv : Byt w vb b) (ht : Byt w vt T) (hTb : Hid (Tabs w)) :
    Calls Tryz.prog 103 #[.agg #[vb], .int .i64 (y : Int), vt] w fun e w' => NmP (enE b T y) y w e w' := by
  have HV : Hid (∀ w', Below w.heap.size w w' → Byt w' vb b) := fun w' hb => hv.later hb rfl
  have HT : Hid (∀ w', Below w.heap.size w w' → Byt w' vt T) := fun w' hb => ht.later hb rfl
  have HTB : Hid (∀ w', Below w.heap.size w w' → Tabs w') := fun w' hb => hTb.out.below hb rfl
  have HB : Hid (AllB b) := hB
  obtain ⟨a, cap, rfl, hc, _, hra⟩ := hv
  obtain ⟨ta, tc, rfl, htc, _, htr⟩ := ht
  obtain ⟨g0, o0, rfl, hg0, hcb⟩ := hra (by intro e; rw [e] at hy; simp at hy)
  obtain ⟨W1, hW1⟩ : ∃ W1, (w.alloc (.cells #[.slice (some ⟨g0, o0, none⟩) b.length cap] 65)).alloc (.cells #[.string ⟨#[]⟩, .int .u64 0] 87) = W1 := ⟨_, rfl⟩
  have HBL : Hid (Below w.heap.size w W1) := by rw [← hW1]; exact ((Below.refl _ _).alloc (Nat.le_refl _) _).alloc (by simp) _
  have hsz : Hid (W1.heap.size = w.heap.size + 2) := by unfold Hid; rw [← hW1]; simp
  have R3 : Hid (W1.heap[w.heap.size]? = some (.cells #[.slice (some ⟨g0, o0, none⟩) b.length cap] 65 (0, 0))) := by rw [← hW1]; exact heap_alloc2_old w _ _
  have R4 : Hid (W1.heap[w.heap.size + 1]? = some (.cells #[.string ⟨#[]⟩, .int .u64 0] 87 (0, 0))) := by rw [← hW1]; exact heap_alloc2_new w _ _
  have HC0 : Hid (∀ w', Below W1.heap.size W1 w' → w'.cell? ⟨w.heap.size, 0, none⟩ = some (.slice (some ⟨g0, o0, none⟩) b.length cap)) := fun w' hb => (hb.cell (by show w.heap.size < _; rw [hsz.out]; omega)).trans (cell_of_row W1 _ 0 _ _ _ R3.out)
  have HR6 : Hid (∀ w', Below W1.heap.size W1 w' → w'.heap[w.heap.size + 1]? = some (.cells #[.string ⟨#[]⟩, .int .u64 0] 87 (0, 0))) := fun w' hb => (hb.block _ (by rw [hsz.out]; omega)).trans R4.out
  have HC4 : Hid (∀ w', Below W1.heap.size W1 w' → w'.cell? ⟨g0, o0 + (y + 4), none⟩ = some (.int .u8 (b.getD (y + 4) 0))) := fun w' hb => ((HBL.out.trans (hb.mono HBL.out.size)).cell (p := ⟨g0, o0 + (y + 4), none⟩) hg0).trans (hcb (y + 4) (by omega))
  have cW : Hid (∀ wx, Below W1.heap.size W1 wx → ∀ pI : Int, pI = ((y : Nat) : Int) → Calls Tryz.prog 82 #[.agg #[.slice (some ⟨g0, o0, none⟩) b.length cap], .int .i64 pI] wx fun e w' => e = .returned (.int .u64 ((vl b y 4 : Nat) : Int)) ∧ Below wx.heap.size wx w') := fun wx hx pI hpI => word_c HB.out hl _ y pI hpI (by omega) wx (HV.out _ (HBL.out.trans (hx.mono HBL.out.size)))
  have cS : Hid (∀ wx, Below W1.heap.size W1 wx → ∀ pI : Int, pI = ((y + 6 : Nat) : Int) → Calls Tryz.prog 81 #[.agg #[.slice (some ⟨g0, o0, none⟩) b.length cap], .int .i64 pI] wx fun e w' => e = .returned (.int .u64 ((vl b (y + 6) 2 : Nat) : Int)) ∧ Below wx.heap.size wx w') := fun wx hx pI hpI => half_c HB.out hl _ (y + 6) pI hpI (by omega) wx (HV.out _ (HBL.out.trans (hx.mono HBL.out.size)))
  have cV : Hid (∀ wx, Below W1.heap.size W1 wx → ∀ pI : Int, pI = ((y + 8 : Nat) : Int) → Calls Tryz.prog 56 #[.agg #[.slice (some ⟨g0, o0, none⟩) b.length cap], .int .i64 pI] wx fun e w' => e = .returned (.int .u64 ((vl b (y + 8) 8 : Nat) : Int)) ∧ Below wx.heap.size wx w') := fun wx hx pI hpI => double_c HB.out hl _ (y + 8) pI hpI (by omega) wx (HV.out _ (HBL.out.trans (hx.mono HBL.out.size)))
  have HF : Hid (enE b T y = if T.length ≤ vl b y 4 ∨ fz (T.drop (vl b y 4)) < 0 then none
  else if (b.getD (y + 4) 0).toNat % 16 = 3 ∨ (b.getD (y + 4) 0).toNat % 16 = 4 ∨ vl b (y + 6) 2 = 0 ∨ nm (strOfNums (txT T (vl b y 4))) = false then some none
  else some (some ⟨strOfNums (txT T (vl b y 4)), BitVec.ofNat 64 (vl b (y + 8) 8)⟩)) := rfl
  have HTX : Hid (txT T (vl b y 4) = (T.drop (vl b y 4)).take (fz (T.drop (vl b y 4))).toNat) := rfl
  have lN := vl_lt8 hB y 4 (by omega)
  have lS := vl_lt8 hB (y + 6) 2 (by omega)
  have lV : Hid (vl b (y + 8) 8 < 18446744073709551616) := vl_lt8 hB (y + 8) 8 (by omega)
  have hby := getD_byte hB (y + 4)
  have hkd := and_u8_15 hby.1 hby.2
  generalize enE b T y = EE at HF ⊢
  generalize txT T (vl b y 4) = X at HF HTX
  generalize vl b y 4 = N at cW HF HTX lN
  generalize vl b (y + 6) 2 = NS at cS HF lS
  generalize vl b (y + 8) 8 = NV at cV HF lV
  generalize b.getD (y + 4) 0 = z at HC4 HF hby hkd
  generalize z.toNat % 16 = KD at HF hkd
  have hyI : (y : Int) + 24 ≤ b.length := by omega
  have hlI : (b.length : Int) ≤ 200000 := by omega
  have iN : (N : Int) < 18446744073709551616 := by omega
  have HW1 : Hid (Below W1.heap.size W1 W1) := Below.refl _ _
  clear hcb hB hTb hra
  go_enter Tryz.func103, Tryz.ntmps103
  go_upto_region 1 with fail
  have k1 := HC0.out W1 HW1.out
  clear hW1
  go_upto_region 2 with (go_at_call 82; refine (cW.out _ HW1.out _ (by first | omega | (rw [IntKind.wrap_i64]; omega) | (rw [IntKind.wrap_u64]; omega))).mono ?_; rintro e w2 ⟨rfl, hb⟩; have Hw2 : Hid (Below W1.heap.size W1 w2) := HW1.out.trans (hb.mono (HW1.out).size); clear hb)
  have htlI : (T.length : Int) ≤ 200000 := by omega
  by_cases g1 : T.length ≤ N
  · have g1I : (T.length : Int) ≤ N := by omega
    have HE : Hid (EE = none) := by unfold Hid; rw [HF.out, if_pos (.inl g1)]
    clear g1
    go_wp2_with (go_at_call 51; refine (refuse_t 25 y _).mono ?_; rintro e w9 ⟨g, rfl, p2, p3, p4⟩)
    exact ⟨rfl, .inl ⟨HE.out, Pan.later (HBL.out.trans (Hw2.out.mono HBL.out.size)) ⟨g, rfl, p2, p3, p4⟩⟩⟩
  · have g1I : ¬ (T.length : Int) ≤ N := by omega
    obtain ⟨gt, ot, rfl, hgt, hct⟩ := htr (by intro e; rw [e] at g1; simp at g1)
    have HCT : Hid (∀ w', Below w.heap.size w w' → ∀ i, i < T.length - N → w'.cell? ⟨gt, ot + N + i, none⟩ = some (.int .u8 ((T.drop N).getD i 0))) := fun w' hb i hi => by
      rw [hb.cell (p := ⟨gt, ot + N + i, none⟩) hgt, drop_getD, Nat.add_assoc]
      exact hct (N + i) (by omega)
    have HN : Hid (N < T.length) := by unfold Hid; omega
    have hsl : ∀ W, (Instr.slice 31 (.slice (some ⟨gt, ot, none⟩) T.length tc) (some (.int .u64 (N : Int))) none none).run Tryz.prog W = .ok (.slice (some ⟨gt, ot + N, none⟩) (T.length - N) (tc - N)) W := fun W => slice_lo W gt ot T.length tc N HN.out htc
    have hdl : Hid ((T.drop N).length = T.length - N) := by unfold Hid; simp
    clear htr hct g1
    go_upto_region 3 with (go_at_call 51; refine (refuse_f _ _ _).mono ?_; rintro e w9 ⟨rfl, hw9⟩; subst hw9)
    have k2 := HC0.out w2 Hw2.out
    have HA2 : Hid (Below W1.heap.size W1 (w2.alloc (.cells #[.int .u8 0] 5))) := Hw2.out.alloc Hw2.out.size _
    have HCT2 : Hid (∀ i, i < T.length - N → (w2.alloc (.cells #[.int .u8 0] 5)).cell? ⟨gt, ot + N + i, none⟩ = some (.int .u8 ((T.drop N).getD i 0))) := HCT.out _ (HBL.out.trans (HA2.out.mono HBL.out.size))
    have HZ2 : Hid ((w2.alloc (.cells #[.int .u8 0] 5)).cell? ⟨w2.heap.size, 0, none⟩ = some (.int .u8 0)) := by unfold Hid; simp
    by_cases gz : fz (T.drop N) < 0
    · have HE : Hid (EE = none) := by unfold Hid; rw [HF.out, if_pos (.inr gz)]
      have cC : Hid (Calls Tryz.prog 117 #[.slice (some ⟨gt, ot + N, none⟩) (T.length - N) (tc - N), .slice (some ⟨w2.heap.size, 0, none⟩) 1 1] (w2.alloc (.cells #[.int .u8 0] 5)) fun e w' => e = .returned (.tuple #[.slice (some ⟨gt, ot + N, none⟩) (T.length - N) (tc - N), .slice none 0 0, .bool false]) ∧ ∃ q, w' = (w2.alloc (.cells #[.int .u8 0] 5)).drewN q) := cutZ_f gt (ot + N) (T.length - N) (tc - N) w2.heap.size (T.drop N) gz _ hdl.out (by omega) (by omega) HCT2.out HZ2.out
      clear gz
      go_upto_region 4 with (go_at_call 117; refine cC.out.mono ?_; rintro e w3 ⟨rfl, q, hq⟩; have Hw3 : Hid (Below W1.heap.size W1 w3) := (by unfold Hid; rw [hq]; exact below_drewX HA2.out q); clear hq)
      clear k1 k2
      go_wp2_with (go_at_call 51; refine (refuse_t 25 y _).mono ?_; rintro e w9 ⟨g, rfl, p2, p3, p4⟩)
      exact ⟨rfl, .inl ⟨HE.out, Pan.later (HBL.out.trans (Hw3.out.mono HBL.out.size)) ⟨g, rfl, p2, p3, p4⟩⟩⟩
    · have HGZ : Hid (¬ (T.length ≤ N ∨ fz (T.drop N) < 0)) := by
        unfold Hid; rintro (h | h)
        · have := HN.out; omega
        · exact gz h
      obtain ⟨i, hi⟩ : ∃ i : Nat, fz (T.drop N) = (i : Int) := ⟨(fz (T.drop N)).toNat, by omega⟩
      have hir := fz_room (T.drop N) (by omega)
      have hiN : Hid (i < T.length - N) := by unfold Hid; rw [hdl.out] at hir; omega
      have hiI : (i : Int) ≤ 200000 := by have := hiN.out; omega
      have HX : Hid (X = (T.drop N).take i) := by unfold Hid; rw [HTX.out, hi]; rfl
      have hXl : Hid (X.length = i) := by unfold Hid; rw [HX.out, List.length_take, hdl.out]; have := hiN.out; omega
      have cC : Hid (Calls Tryz.prog 117 #[.slice (some ⟨gt, ot + N, none⟩) (T.length - N) (tc - N), .slice (some ⟨w2.heap.size, 0, none⟩) 1 1] (w2.alloc (.cells #[.int .u8 0] 5)) fun e w' => (∃ r, e = .returned (.tuple #[.slice (some ⟨gt, ot + N, none⟩) i (tc - N), r, .bool true])) ∧ ∃ q, w' = (w2.alloc (.cells #[.int .u8 0] 5)).drewN q) := cutZ_t gt (ot + N) (T.length - N) (tc - N) w2.heap.size i (T.drop N) hi _ hdl.out (by omega) (by omega) HCT2.out HZ2.out
      have HY : Hid (∀ w', Below W1.heap.size W1 w' → Byt w' (.slice (some ⟨gt, ot + N, none⟩) i (tc - N)) X) := fun w' hb => by
        refine ⟨some ⟨gt, ot + N, none⟩, tc - N, by rw [hXl.out], by rw [hXl.out]; have := hiN.out; omega, fun h => by simp at h, fun _ => ⟨gt, ot + N, rfl, Nat.lt_of_lt_of_le hgt (Nat.le_trans HBL.out.size hb.size), fun j hj => ?_⟩⟩
        rw [hXl.out] at hj
        rw [HCT.out w' (HBL.out.trans (hb.mono HBL.out.size)) j (by have := hiN.out; omega), HX.out, List.getD_eq_getElem?_getD, List.getD_eq_getElem?_getD, List.getElem?_take_of_lt hj]
      clear gz hi hir
      go_upto_region 4 with (go_at_call 117; refine cC.out.mono ?_; rintro e w3 ⟨⟨rr, rfl⟩, q, hq⟩; have Hw3 : Hid (Below W1.heap.size W1 w3) := (by unfold Hid; rw [hq]; exact below_drewX HA2.out q); clear hq)
      clear k1 k2 hsl cC
      go_upto_region 5 with (go_at_call 51; refine (refuse_f _ _ _).mono ?_; rintro e w9 ⟨rfl, hw9⟩; subst hw9)
      have k3 := HC0.out w3 Hw3.out
      have k4 := HC4.out w3 Hw3.out
      go_upto_region 6 with fail
      clear k4
      obtain ⟨EQ, hEQ⟩ : ∃ EQ, EQ = EE := ⟨_, rfl⟩
      have r6 := HR6.out w3 Hw3.out
      have c60 := cell_of_row w3 (w.heap.size + 1) 0 _ _ _ r6
      have c61 := cell_of_row w3 (w.heap.size + 1) 1 _ _ _ r6
      have f60 := frozen_of_row w3 (w.heap.size + 1) 0 _ _ r6
      have f61 := frozen_of_row w3 (w.heap.size + 1) 1 _ _ r6
      have HRR6 := Hid.mkI r6
      clear r6 hEQ
      by_cases d3 : KD = 3
      · have d3b : ((KD : Int) == 3) = true := by rw [beq_iff_eq]; omega
        have HE : Hid (EE = some none) := by unfold Hid; rw [HF.out, if_neg HGZ.out, if_pos (.inl d3)]
        clear d3
        go_wp2
        refine bodyPost_ret (v := .tuple #[.agg #[.string ⟨#[]⟩, .int .u64 0], .bool false]) (results_rs Tryz.results103 _ _ (w.heap.size + 1) 87 _ (0, 0) _ _ (by rfl) (by rfl) (set2_at HRR6.out _ _) Tryz.underlying87 (by rfl) size_sym) rfl ?_
        exact .inr (.inl ⟨HE.out, ⟨_, _, rfl⟩, below_set2 (HBL.out.trans (Hw3.out.mono HBL.out.size)) (by omega) _ _⟩)
      · have d3b : ((KD : Int) == 3) = false := by rw [beq_eq_false_iff_ne]; omega
        by_cases d4 : KD = 4
        · have d4b : ((KD : Int) == 4) = true := by rw [beq_iff_eq]; omega
          have HE : Hid (EE = some none) := by unfold Hid; rw [HF.out, if_neg HGZ.out, if_pos (.inr (.inl d4))]
          clear d3 d4
          go_wp2
          refine bodyPost_ret (v := .tuple #[.agg #[.string ⟨#[]⟩, .int .u64 0], .bool false]) (results_rs Tryz.results103 _ _ (w.heap.size + 1) 87 _ (0, 0) _ _ (by rfl) (by rfl) (set2_at HRR6.out _ _) Tryz.underlying87 (by rfl) size_sym) rfl ?_
          exact .inr (.inl ⟨HE.out, ⟨_, _, rfl⟩, below_set2 (HBL.out.trans (Hw3.out.mono HBL.out.size)) (by omega) _ _⟩)
        · have d4b : ((KD : Int) == 4) = false := by rw [beq_eq_false_iff_ne]; omega
          by_cases dS : NS = 0
          · have dSb : ((NS : Int) == 0) = true := by rw [beq_iff_eq]; omega
            have HE : Hid (EE = some none) := by unfold Hid; rw [HF.out, if_neg HGZ.out, if_pos (.inr (.inr (.inl dS)))]
            clear d3 d4 dS c60 c61 f60 f61
            go_upto_region 7 with (go_at_call 81; refine (cS.out _ Hw3.out _ (by first | omega | (rw [IntKind.wrap_i64]; omega) | (rw [IntKind.wrap_u64]; omega))).mono ?_; rintro e w4 ⟨rfl, hb⟩; have Hw4 : Hid (Below W1.heap.size W1 w4) := Hw3.out.trans (hb.mono (Hw3.out).size); clear hb)
            have r6 := HR6.out w4 Hw4.out
            have c60 := cell_of_row w4 (w.heap.size + 1) 0 _ _ _ r6
            have c61 := cell_of_row w4 (w.heap.size + 1) 1 _ _ _ r6
            have f60 := frozen_of_row w4 (w.heap.size + 1) 0 _ _ r6
            have f61 := frozen_of_row w4 (w.heap.size + 1) 1 _ _ r6
            replace HRR6 := Hid.mkI r6
            clear r6
            go_wp2
            refine bodyPost_ret (v := .tuple #[.agg #[.string ⟨#[]⟩, .int .u64 0], .bool false]) (results_rs Tryz.results103 _ _ (w.heap.size + 1) 87 _ (0, 0) _ _ (by rfl) (by rfl) (set2_at HRR6.out _ _) Tryz.underlying87 (by rfl) size_sym) rfl ?_
            exact .inr (.inl ⟨HE.out, ⟨_, _, rfl⟩, below_set2 (HBL.out.trans (Hw4.out.mono HBL.out.size)) (by omega) _ _⟩)
          · have dSb : ((NS : Int) == 0) = false := by rw [beq_eq_false_iff_ne]; omega
            clear c60 c61 f60 f61
            go_upto_region 8 with (go_at_call 81; refine (cS.out _ Hw3.out _ (by first | omega | (rw [IntKind.wrap_i64]; omega) | (rw [IntKind.wrap_u64]; omega))).mono ?_; rintro e w4 ⟨rfl, hb⟩; have Hw4 : Hid (Below W1.heap.size W1 w4) := Hw3.out.trans (hb.mono (Hw3.out).size); clear hb)
            have r6 := HR6.out w4 Hw4.out
            have c60 := cell_of_row w4 (w.heap.size + 1) 0 _ _ _ r6
            have c61 := cell_of_row w4 (w.heap.size + 1) 1 _ _ _ r6
            have f60 := frozen_of_row w4 (w.heap.size + 1) 0 _ _ r6
            have f61 := frozen_of_row w4 (w.heap.size + 1) 1 _ _ r6
            replace HRR6 := Hid.mkI r6
            clear r6
            cases dn : nm (strOfNums X) with
            | false =>
              have HE : Hid (EE = some none) := by unfold Hid; rw [HF.out, if_neg HGZ.out, if_pos (.inr (.inr (.inr dn)))]
              by_cases g160 : 160 < i
              · have g160I : (160 : Int) < i := by omega
                clear d3 d4 dS dn g160
                go_wp2
                refine bodyPost_ret (v := .tuple #[.agg #[.string ⟨#[]⟩, .int .u64 0], .bool false]) (results_rs Tryz.results103 _ _ (w.heap.size + 1) 87 _ (0, 0) _ _ (by rfl) (by rfl) (set2_at HRR6.out _ _) Tryz.underlying87 (by rfl) size_sym) rfl ?_
                exact .inr (.inl ⟨HE.out, ⟨_, _, rfl⟩, below_set2 (HBL.out.trans (Hw4.out.mono HBL.out.size)) (by omega) _ _⟩)
              · have g160I : ¬ (160 : Int) < i := by omega
                have hcv : (convert 31 9 (.slice (some ⟨gt, ot + N, none⟩) i (tc - N))).run Tryz.prog w4 = .ok (.string (strOfNums X)) w4 := (HY.out w4 Hw4.out).conv
                have cI : Hid (Calls Tryz.prog 44 #[.string (strOfNums X)] w4 fun e w' => e = .returned (.bool false) ∧ Below w4.heap.size w4 w') := (isName_c (strOfNums X) (by rw [str_size, hXl.out]; omega) w4 (HTB.out _ (HBL.out.trans (Hw4.out.mono HBL.out.size)))).mono fun e w' hq => ⟨by rw [hq.1, dn], hq.2⟩
                clear d3 d4 dS dn g160 c60 c61 f60 f61
                generalize strOfNums X = XS at *
                go_upto_region 9 with (go_at_call 44; refine cI.out.mono ?_; rintro e w5 ⟨rfl, hb⟩; have B45 : Hid (Below w4.heap.size w4 w5) := hb; have Hw5 : Hid (Below W1.heap.size W1 w5) := Hw4.out.trans (hb.mono (Hw4.out).size); clear hb)
                have r6 := HR6.out w5 Hw5.out
                have c60 := cell_of_row w5 (w.heap.size + 1) 0 _ _ _ r6
                have c61 := cell_of_row w5 (w.heap.size + 1) 1 _ _ _ r6
                have f60 := frozen_of_row w5 (w.heap.size + 1) 0 _ _ r6
                have f61 := frozen_of_row w5 (w.heap.size + 1) 1 _ _ r6
                replace HRR6 := Hid.mkI r6
                clear r6
                go_wp2
                refine bodyPost_ret (v := .tuple #[.agg #[.string ⟨#[]⟩, .int .u64 0], .bool false]) (results_rs Tryz.results103 _ _ (w.heap.size + 1) 87 _ (0, 0) _ _ (by rfl) (by rfl) (set2_at HRR6.out _ _) Tryz.underlying87 (by rfl) size_sym) rfl ?_
                exact .inr (.inl ⟨HE.out, ⟨_, _, rfl⟩, below_set2 (HBL.out.trans (Hw5.out.mono HBL.out.size)) (by omega) _ _⟩)
            | true =>
              have hnr := nm_room dn
              rw [str_size, hXl.out] at hnr
              have g160I : ¬ (160 : Int) < i := by omega
              have HE : Hid (EE = some (some ⟨strOfNums X, BitVec.ofNat 64 NV⟩)) := by
                unfold Hid; rw [HF.out, if_neg HGZ.out, if_neg]
                rintro (h | h | h | h)
                · exact d3 h
                · exact d4 h
                · exact dS h
                · rw [dn] at h; cases h
              have hcv : ∀ W, Below w4.heap.size w4 W → (convert 31 9 (.slice (some ⟨gt, ot + N, none⟩) i (tc - N))).run Tryz.prog W = .ok (.string (strOfNums X)) W := fun W hb => (HY.out W (Hw4.out.trans (hb.mono Hw4.out.size))).conv
              have hcv4 := hcv w4 (Below.refl _ _)
              have cI : Hid (Calls Tryz.prog 44 #[.string (strOfNums X)] w4 fun e w' => e = .returned (.bool true) ∧ Below w4.heap.size w4 w') := (isName_c (strOfNums X) (by rw [str_size, hXl.out]; omega) w4 (HTB.out _ (HBL.out.trans (Hw4.out.mono HBL.out.size)))).mono fun e w' hq => ⟨by rw [hq.1, dn], hq.2⟩
              clear d3 d4 dS dn c60 c61 f60 f61
              generalize strOfNums X = XS at *
              have HCV := Hid.mkI hcv
              clear hcv
              go_upto_region 10 with (go_at_call 44; refine cI.out.mono ?_; rintro e w5 ⟨rfl, hb⟩; have B45 : Hid (Below w4.heap.size w4 w5) := hb; have Hw5 : Hid (Below W1.heap.size W1 w5) := Hw4.out.trans (hb.mono (Hw4.out).size); clear hb)
              clear hcv4 k3
              have k5 := HC0.out w5 Hw5.out
              have := later_nonempty w5
              have hcvL : ∀ x : Later w5, (convert 31 9 (.slice (some ⟨gt, ot + N, none⟩) i (tc - N))).run Tryz.prog x.1 = .ok (.string XS) x.1 := fun x => HCV.out x.1 (B45.out.trans (x.below.mono B45.out.size))
              have hk5L : ∀ x : Later w5, x.1.cell? ⟨w.heap.size, 0, none⟩ = some (.slice (some ⟨g0, o0, none⟩) b.length cap) := fun x => HC0.out x.1 (Hw5.out.trans (x.below.mono Hw5.out.size))
              have cVL : Hid (∀ x : Later w5, ∀ pI : Int, pI = ((y + 8 : Nat) : Int) → Calls Tryz.prog 56 #[.agg #[.slice (some ⟨g0, o0, none⟩) b.length cap], .int .i64 pI] x.1 fun e w' => e = .returned (.int .u64 (NV : Int)) ∧ ∃ y' : Later w5, w' = y'.1) := fun x pI hpI => calls_later (cV.out x.1 (Hw5.out.trans (x.below.mono Hw5.out.size)) pI hpI)
              refine wp_region_later_tail (x0 := Later.start w5) 7 (by kernel_rfl) (by kernel_rfl) ?_
              simp only [List.take_succ_cons, List.take_zero, List.drop_succ_cons, List.drop_zero]
              repeat (go_big_quiet_step (first | (go_at_call 56; exact cVL.out _ _ (by first | rfl | omega | (rw [IntKind.wrap_i64]; omega)))))
              refine wpQuiet_nil ?_
              rintro w' ⟨x9, rfl⟩
              have H9 : Hid (Below W1.heap.size W1 x9.1) := Hw5.out.trans (x9.below.mono Hw5.out.size)
              have r6 := HR6.out x9.1 H9.out
              have c60 := cell_of_row x9.1 (w.heap.size + 1) 0 _ _ _ r6
              have c61 := cell_of_row x9.1 (w.heap.size + 1) 1 _ _ _ r6
              have f60 := frozen_of_row x9.1 (w.heap.size + 1) 0 _ _ r6
              have f61 := frozen_of_row x9.1 (w.heap.size + 1) 1 _ _ r6
              have HRR9 := Hid.mkI r6
              clear r6
              go_wp2
              refine bodyPost_ret (v := .tuple #[.agg #[.string XS, .int .u64 (NV : Int)], .bool true]) (results_rs Tryz.results103 _ _ (w.heap.size + 1) 87 _ (0, 0) _ _ (by rfl) (by rfl) (set2_at HRR9.out _ _) Tryz.underlying87 (by rfl) size_sym) rfl ?_
              exact .inr (.inr ⟨_, HE.out, by rw [← nat64 lV.out], below_set2 (HBL.out.trans (H9.out.mono HBL.out.size)) (by omega) _ _⟩)
end Go.Proofs.YtheeogbmljjbdaaGreatDoor
namespace Go.Proofs.YtheeogbmljjbdaaGreatDoor
set_option linter.unusedVariables false
open Go.ChangeShapes Go.WideShapes Go.ChangeAt Go.RowKit Go.Deep
theorem nan_c (x : Int) (w : World) : Calls Tryz.prog 95 #[.int .u64 x] w fun e w' => e = .returned (.bool false) ∧ w' = w := by
  go_enter Tryz.func95, Tryz.ntmps95
  go_wp2
  go_ret
  exact ⟨by simp, rfl⟩
set_option maxHeartbeats 1000000 in
theorem cmp_c (x y : Int) (w : World) : Calls Tryz.prog 75 #[.int .u64 x, .int .u64 y] w fun e w' => e = .returned (.int .i64 (Lib.compareInt x y)) ∧ w' = w := by
  go_enter Tryz.func75, Tryz.ntmps75
  go_wp2_with (go_at_call 95; refine (nan_c _ _).mono ?_; rintro e w' ⟨rfl, hw⟩; rw [hw])
  all_goals (go_ret; refine ⟨?_, rfl⟩; unfold Lib.compareInt; (repeat' split) <;> first | rfl | (exfalso; omega))
set_option maxHeartbeats 1000000 in
theorem clo_c (x y : Sg) (W : World) : Calls Tryz.prog 87 #[.agg (sgv x).toArray, .agg (sgv y).toArray] W fun e w' => e = .returned (.int .i64 (Lib.compareInt (n64 x.a) (n64 y.a))) ∧ ∃ q os', w' = Go.Sort.grow (W.drewN q) os' := by
  have hcon := fun W' => cmp_c (n64 x.a) (n64 y.a) W'
  change Calls Tryz.prog 87 #[.agg #[.int .u64 (n64 x.a), .int .u64 (n64 x.s), .int .i64 x.f, .slice x.m x.n x.c], .agg #[.int .u64 (n64 y.a), .int .u64 (n64 y.s), .int .i64 y.f, .slice y.m y.n y.c]] W _
  generalize Lib.compareInt (n64 x.a) (n64 y.a) = r at hcon ⊢
  go_enter Tryz.func87, Tryz.ntmps87
  go_wp2_with (go_at_call 75; refine (hcon _).mono ?_; rintro e w' ⟨rfl, rfl⟩)
  go_ret
  exact ⟨rfl, 0, _, by rw [Go.Sort.alloc_eq_grow, Go.Sort.alloc_eq_grow, Go.Sort.grow_grow]; rfl⟩
theorem lt_ad (x y : Sg) : ltOf (fun x y : Sg => Lib.compareInt (n64 x.a) (n64 y.a)) x y = decide (n64 x.a < n64 y.a) := by
  unfold ltOf Lib.compareInt
  by_cases h1 : n64 x.a < n64 y.a
  · simp [h1]
  · by_cases h2 : n64 y.a < n64 x.a <;> simp [h1, h2]
theorem swo_ad : Go.Sort.SWO (ltOf fun x y : Sg => Lib.compareInt (n64 x.a) (n64 y.a)) :=
  ⟨fun x => by rw [lt_ad]; simp, fun x y z h1 h2 => by rw [lt_ad] at *; simp at *; omega, fun x y z h1 h2 => by rw [lt_ad] at *; simp at *; omega⟩
set_option maxHeartbeats 1000000 in
theorem sort_c (w : World) (B : Nat) (v : Value) (L : List Sg) (hown : w.ownsRow B 61 4 v L.length (sgl L)) (hB : B ≤ w.heap.size) (hl : L.length ≤ 16) :
    Calls Tryz.prog 86 #[v, .func (.func 87) #[] #[]] w fun e w' => e = .returned (.tuple #[]) ∧ ∃ L' : List Sg, L'.Perm L ∧ L'.Pairwise (fun x y => x.a.toNat ≤ y.a.toNat) ∧ w'.ownsRow B 61 4 v L'.length (sgl L') ∧ Below B w w' ∧ KeepU w w' := by
  by_cases h0 : L = []
  · subst h0
    obtain ⟨p, cap, rfl⟩ : ∃ p cap, v = .slice p 0 cap := by
      rcases Go.Joins.ownsRow_forms hown with ⟨rfl, _⟩ | ⟨g, cap, rfl⟩
      · exact ⟨_, _, rfl⟩
      · exact ⟨_, _, rfl⟩
    have hcon := AnyF.slices_SortFunc_none { Tryz.sortSeg with } p cap (.func (.func 87) #[] #[]) w
    change Calls Tryz.prog 86 _ _ _ at hcon
    refine hcon.mono ?_
    rintro e w' ⟨rfl, rfl⟩
    exact ⟨rfl, [], .nil, .nil, hown, Below.refl _ _, KeepU.refl _⟩
  · have hne : 0 < L.length := List.length_pos_iff.2 h0
    obtain ⟨g, cap, rfl⟩ := Go.Joins.ownsRow_form hown hne
    haveI : Inhabited Sg := ⟨sgz⟩
    obtain ⟨hH, hBg, hg⟩ := own_holdsK (enc := sgv) (fun _ => rfl) hown rfl
    have eg : ∀ args w, (callFunc 87 args).run Tryz.prog w = .ok (.enter 87 args) w := enters_of Tryz.func87 (by kernel_rfl) rfl
    have hcon := AnyQ.slices_SortFunc Tryz.sortSeg 4 (fun w => by kernel_rfl) (fun w => by kernel_rfl) sgv (fun _ => rfl) (fun x u hu => by simp [sgv] at hu; rcases hu with rfl | rfl | rfl | rfl <;> rfl) (fun x y : Sg => Lib.compareInt (n64 x.a) (n64 y.a)) swo_ad 87 #[] g 0 cap L.toArray w eg (fun _ _ _ _ x y => clo_c x y _) hH hg (by simp; omega)
    change Calls Tryz.prog 86 #[.slice (some ⟨g, 0, none⟩) L.length cap, .func (.func 87) #[] #[]] _ _ at hcon
    refine hcon.mono ?_
    rintro e w' ⟨rfl, d, n, os, hp, hs, rfl⟩
    obtain ⟨p1, p2⟩ := permIn_list hp
    have s1 := sortedIn_list p2 (by simpa using hs)
    refine ⟨rfl, d.toList, p1, s1.imp (fun {x y} q => ?_), ?_, below_sortWorldK hBg hB, KeepU.other hown (fun j h1 h2 => sortWorldK_other h1 h2)⟩
    · rw [lt_ad] at q
      have q := of_decide_eq_false q
      unfold n64 at q; omega
    · have e1 : d.toList.length = L.length := by simpa using p2
      rw [e1]
      exact own_sortWorldK (enc := sgv) (fun _ => rfl) hown p2
end Go.Proofs.YtheeogbmljjbdaaGreatDoor
namespace Go.Proofs.YtheeogbmljjbdaaGreatDoor
set_option linter.unusedVariables false
open Go.ChangeShapes Go.WideShapes Go.ChangeAt Go.RowKit Go.Deep
/-- A part's address. -/
def adr (x : Pt) : Nat := (BitVec.ofNat 64 x.a).toNat
/-- Parts by rising address. -/
def srt (l : List Pt) : List Pt := l.mergeSort (fun x y => decide (adr x ≤ adr y))
theorem prL_succ (b : List Int) (P i : Nat) : prL b P (i + 1) = prS b (P + 56 * i) (prL b P i) := rfl
theorem prL_zero (b : List Int) (P : Nat) : prL b P 0 = ([], none) := rfl
theorem prL_pass {b : List Int} {P i : Nat} {l : List Pt} (h : prL b P i = (l, none)) (hn : ¬ isPt b (P + 56 * i)) : prL b P (i + 1) = (l, none) := by
  rw [prL_succ, h]; unfold prS; rw [if_neg (by simp), if_neg hn]
theorem prL_own {b : List Int} {P i : Nat} {l : List Pt} {F : Nat × Nat} (h : prL b P i = (l, none)) (hn : isPt b (P + 56 * i)) (hf : ptF b (P + 56 * i) = some F) : prL b P (i + 1) = (l, some F) := by
  rw [prL_succ, h]; unfold prS; rw [if_neg (by simp), if_pos hn, hf, if_pos (by rfl)]
theorem prL_meet {b : List Int} {P i : Nat} {l : List Pt} (h : prL b P i = (l, none)) (hn : isPt b (P + 56 * i)) (hf : ptF b (P + 56 * i) = none) (hm : l.any (mtB (ptAt b (P + 56 * i))) = true) : prL b P (i + 1) = (l, some (P + 56 * i + 24, 24)) := by
  rw [prL_succ, h]; unfold prS; rw [if_neg (by simp), if_pos hn, hf, if_neg (by simp), if_pos hm]
theorem prL_add {b : List Int} {P i : Nat} {l : List Pt} (h : prL b P i = (l, none)) (hn : isPt b (P + 56 * i)) (hf : ptF b (P + 56 * i) = none) (hm : ¬ l.any (mtB (ptAt b (P + 56 * i))) = true) : prL b P (i + 1) = (l ++ [ptAt b (P + 56 * i)], none) := by
  rw [prL_succ, h]; unfold prS; rw [if_neg (by simp), if_pos hn, hf, if_neg (by simp), if_neg hm]
/-- A fault stays. -/
theorem prL_stop {b : List Int} {P i : Nat} {l : List Pt} {F : Nat × Nat} (h : prL b P i = (l, some F)) : ∀ n, i ≤ n → prL b P n = (l, some F) := by
  intro n hn
  induction n with
  | zero =>
    obtain rfl : i = 0 := by omega
    exact h
  | succ n ih =>
    by_cases e : i = n + 1
    · rw [← e]; exact h
    · rw [prL_succ, ih (by omega)]; unfold prS; rw [if_pos (by rfl)]
theorem prL_len (b : List Int) (P : Nat) : ∀ i, (prL b P i).1.length ≤ i
  | 0 => by rw [prL_zero]; simp
  | i + 1 => by
    have ih := prL_len b P i
    obtain ⟨l, f, hf⟩ : ∃ l f, prL b P i = (l, f) := ⟨_, _, rfl⟩
    rw [hf] at ih
    cases f with
    | some F => rw [prL_stop hf _ (Nat.le_succ _)]; exact Nat.le_succ_of_le ih
    | none =>
      by_cases h1 : isPt b (P + 56 * i)
      · cases h2 : ptF b (P + 56 * i) with
        | some F => rw [prL_own hf h1 h2]; exact Nat.le_succ_of_le ih
        | none =>
          by_cases h3 : l.any (mtB (ptAt b (P + 56 * i))) = true
          · rw [prL_meet hf h1 h2 h3]; exact Nat.le_succ_of_le ih
          · rw [prL_add hf h1 h2 h3]; simp; exact ih
      · rw [prL_pass hf h1]; exact Nat.le_succ_of_le ih
/-- A part that is kept: it does not pass the end. -/
def fits (x : Pt) : Prop := ¬ (BitVec.ofNat 64 x.a + (BitVec.ofNat 64 x.s - 1#64)).toNat < (BitVec.ofNat 64 x.a).toNat
theorem fits_of {b : List Int} {h : Nat} (hf : ptF b h = none) : fits (ptAt b h) := by
  unfold ptF at hf
  unfold fits ptAt
  intro q
  by_cases h1 : 7 < vl b (h + 4) 4
  · rw [if_pos h1] at hf; cases hf
  · rw [if_neg h1] at hf
    by_cases h2 : vl b (h + 40) 8 < vl b (h + 32) 8
    · rw [if_pos h2] at hf; cases hf
    · rw [if_neg h2] at hf
      by_cases h3 : ¬ room b (vl b (h + 8) 8) (vl b (h + 32) 8)
      · rw [if_pos h3] at hf; cases hf
      · rw [if_neg h3, if_pos q] at hf; cases hf
theorem mt_adr {x y : Pt} (hx : fits x) (hy : fits y) (h : mtB x y = false) : adr x ≠ adr y := by
  intro e
  unfold mtB meetB at h
  unfold adr at e
  unfold fits at hx hy
  have e2 : BitVec.ofNat 64 x.a = BitVec.ofNat 64 y.a := BitVec.eq_of_toNat_eq e
  rw [e2] at h hx
  have h1 : decide (n64 (BitVec.ofNat 64 y.a) ≤ n64 (BitVec.ofNat 64 y.a + (BitVec.ofNat 64 y.s - 1#64))) = true := by
    apply decide_eq_true; unfold n64; omega
  have h2 : decide (n64 (BitVec.ofNat 64 y.a) ≤ n64 (BitVec.ofNat 64 y.a + (BitVec.ofNat 64 x.s - 1#64))) = true := by
    apply decide_eq_true; unfold n64; omega
  rw [h1, h2] at h
  cases h
/-- The parts that are kept fit, and no two have one address. -/
theorem prL_apart (b : List Int) (P : Nat) : ∀ i, (∀ x ∈ (prL b P i).1, fits x) ∧ (prL b P i).1.Pairwise (fun x y => adr x ≠ adr y)
  | 0 => by rw [prL_zero]; simp
  | i + 1 => by
    have ih := prL_apart b P i
    obtain ⟨l, f, hf⟩ : ∃ l f, prL b P i = (l, f) := ⟨_, _, rfl⟩
    rw [hf] at ih
    cases f with
    | some F => rw [prL_stop hf _ (Nat.le_succ _)]; exact ih
    | none =>
      by_cases h1 : isPt b (P + 56 * i)
      · cases h2 : ptF b (P + 56 * i) with
        | some F => rw [prL_own hf h1 h2]; exact ih
        | none =>
          by_cases h3 : l.any (mtB (ptAt b (P + 56 * i))) = true
          · rw [prL_meet hf h1 h2 h3]; exact ih
          · rw [prL_add hf h1 h2 h3]
            refine ⟨fun x hx => ?_, ?_⟩
            · rcases List.mem_append.1 hx with q | q
              · exact ih.1 x q
              · rw [List.mem_singleton.1 q]; exact fits_of h2
            · refine List.pairwise_append.2 ⟨ih.2, List.pairwise_singleton _ _, fun x hx y hy => ?_⟩
              rw [List.mem_singleton.1 hy]
              refine (mt_adr (fits_of h2) (ih.1 x hx) ?_).symm
              rw [List.any_eq_true] at h3
              cases e : mtB (ptAt b (P + 56 * i)) x with
              | false => rfl
              | true => exact absurd ⟨x, hx, e⟩ h3
      · rw [prL_pass hf h1]; exact ih
/-- There is one order by rising address. -/
theorem srt_unique {l l' : List Pt} (hd : l.Pairwise (fun x y => adr x ≠ adr y)) (hp : l'.Perm l) (hs : l'.Pairwise (fun x y => adr x ≤ adr y)) : l' = srt l := by
  have inj : ∀ a b : Pt, a ∈ l → b ∈ l → adr a = adr b → a = b := by
    intro a b ha hb e
    obtain ⟨i, hi, rfl⟩ := List.getElem_of_mem ha
    obtain ⟨j, hj, rfl⟩ := List.getElem_of_mem hb
    rw [List.pairwise_iff_getElem] at hd
    rcases Nat.lt_trichotomy i j with q | q | q
    · exact absurd e (hd i j hi hj q)
    · subst q; rfl
    · exact absurd e.symm (hd j i hj hi q)
  refine List.Perm.eq_of_pairwise (le := fun x y => adr x ≤ adr y) (fun a b ha hb h1 h2 => inj a b (hp.mem_iff.1 ha) ((List.mergeSort_perm _ _).mem_iff.1 hb) (Nat.le_antisymm h1 h2)) hs ?_ (hp.trans (List.mergeSort_perm _ _).symm)
  have q := List.pairwise_mergeSort (le := fun x y : Pt => decide (adr x ≤ adr y)) (fun a b c h1 h2 => by simp at *; omega) (fun a b => by simp; omega) l
  exact q.imp (fun h => by simpa using h)
end Go.Proofs.YtheeogbmljjbdaaGreatDoor
