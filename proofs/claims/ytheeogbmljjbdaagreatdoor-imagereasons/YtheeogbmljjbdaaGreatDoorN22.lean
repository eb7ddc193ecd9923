/-
  Ixe Ing Irp.
-/
import Derived.Test.YtheeogbmljjbdaaGreatDoorN20
import Derived.Test.YtheeogbmljjbdaaGreatDoorN21
import Derived.Test.YtheeogbmljjbdaaGreatDoorN12
import Derived.BigQuiet
import Derived.Deep.QuietTactic
import Derived.Test.YtheeogbmljjbdaaGreatDoorN08
import Derived.Test.YtheeogbmljjbdaaGreatDoorN18
namespace Go.Proofs.YtheeogbmljjbdaaGreatDoor
set_option linter.unusedVariables false
set_option maxRecDepth 100000
open Go.ChangeShapes Go.WideShapes Go.ChangeAt Go.RowKit Go.Deep
theorem slice_I2 (W : World) (a : Option Addr) (len cap l n : Nat) (hc : l + n ≤ cap) :
    (Instr.slice 31 (.slice a len cap) (some (.int .i64 (l : Int))) (some (.int .i64 ((l : Int) + n))) none).run Tryz.prog W = .ok (.slice (if cap = l then a else a.map (fun x => x.add l)) n (cap - l)) W := slice_I W a len cap l n _ rfl hc
/-- What names answers. -/
def RnP (r : List Sy × Flt) (w : World) (e : Ending) (w' : World) : Prop :=
  (r.2 = none ∧ ∃ um un uc, e = .returned (.tuple #[.slice um un uc, .agg #[.int .i64 0, .int .i64 0]]) ∧ w'.ownsRow w.heap.size 87 2 (.slice um un uc) r.1.length (syl r.1) ∧ Below w.heap.size w w')
  ∨ (∃ F, r.2 = some F ∧ e = .returned (.tuple #[.slice none 0 0, .agg #[.int .i64 F.1, .int .i64 F.2]]) ∧ Below w.heap.size w w')
theorem below_al {w : World} (o : Obj) : Below w.heap.size w (w.alloc o) := (Below.refl _ _).alloc (Nat.le_refl _) _
set_option maxHeartbeats 16000000 in
theorem rnames_c {b : List Int} (hB : AllB b) (hl : b.length ≤ 200000) (h64 : 64 ≤ b.length) (vb : Value) (w : World) (hv : Byt w vb b) (hTb : Hid (Tabs w)) :
    Calls Tryz.prog 34 #[vb] w fun e w' => RnP (nsR b) w e w' := by
  have HV : Hid (∀ w', Below w.heap.size w w' → Byt w' vb b) := fun w' hb => hv.later hb rfl
  have HTB : Hid (∀ w', Below w.heap.size w w' → Tabs w') := fun w' hb => hTb.out.below hb rfl
  have HB : Hid (AllB b) := hB
  obtain ⟨a, cap, rfl, hc, _, hra⟩ := hv
  obtain ⟨g0, o0, rfl, hg0, hcb⟩ := hra (by intro e; rw [e] at h64; simp at h64)
  have HCB := Hid.mkI hcb
  obtain ⟨W1, hW1⟩ : ∃ W1, w.alloc (.cells #[.int .i64 0, .int .i64 0] 70) = W1 := ⟨_, rfl⟩
  have HBL : Hid (Below w.heap.size w W1) := by rw [← hW1]; exact (Below.refl _ _).alloc (Nat.le_refl _) _
  have hsz : Hid (W1.heap.size = w.heap.size + 1) := by unfold Hid; rw [← hW1]; simp
  have R3 : Hid (W1.heap[w.heap.size]? = some (.cells #[.int .i64 0, .int .i64 0] 70 (0, 0))) := by unfold Hid; rw [← hW1]; exact heap_alloc_new w _
  have cTB : Hid (Calls Tryz.prog 61 #[.slice (some ⟨g0, o0, none⟩) b.length cap] W1 fun e w' => TbP b W1 e w') := rtable_c HB.out hl h64 _ W1 (HV.out _ HBL.out)
  have HWY := Hid.mkI (wy_ns b)
  have hlI : (b.length : Int) ≤ 200000 := by omega
  clear hcb hra hB hTb
  generalize hRR : nsR b = RR at HWY ⊢
  have cTB2 : Hid (Calls Tryz.prog 61 #[.slice (some ⟨g0, o0, none⟩) b.length cap] W1 fun e w' => Below W1.heap.size W1 w' ∧ ((RR = ([], none) ∧ e = .returned (.tuple #[.int .i64 (-1), .int .i64 0, .int .i64 0, .int .i64 0, .agg #[.int .i64 0, .int .i64 0]]))
  ∨ (∃ F : Nat × Nat, RR = ([], some F) ∧ e = .returned (.tuple #[.int .i64 (-1), .int .i64 0, .int .i64 0, .int .i64 0, .agg #[.int .i64 F.1, .int .i64 F.2]]))
  ∨ (∃ A M TP TL : Nat, RR = nmL b ((b.drop TP).take TL) A (M / 24 - 1) ∧ TP + TL ≤ b.length ∧ A + M ≤ b.length ∧ M % 24 = 0 ∧ e = .returned (.tuple #[.int .i64 (A : Int), .int .i64 (M : Int), .int .i64 (TP : Int), .int .i64 (TL : Int), .agg #[.int .i64 0, .int .i64 0]])))) := by rw [← hRR]; exact cTB.out
  clear hRR cTB
  have hro : Hid (∀ W, Below w.heap.size w W → ∀ j, j < b.length → W.cell? ⟨g0, o0 + j, none⟩ = some (.int .u8 (b.getD j 0))) := fun W hb j hj => ((hb.cell (p := ⟨g0, o0 + j, none⟩) hg0)).trans (HCB.out j hj)
  go_enter Tryz.func34, Tryz.ntmps34
  go_upto_region 1 with fail
  clear hW1
  go_upto_region 2 with (go_at_call 61; refine cTB2.out.mono ?_; rintro e w1 ⟨hb, (⟨h1, rfl⟩ | ⟨F, h1, rfl⟩ | ⟨A, M, TP, TL, h1, h2, h3, h4, rfl⟩)⟩)
  --@M0
  · have HE := Hid.mkI h1
    refine on_w (motive := fun W => Code.wp _ _ _ _ W) (Q := fun W => W.heap[w1.heap.size]? = some (.cells #[.int .i64 0, .int .i64 0] 70 (0, 0)) ∧ Below w.heap.size w W ∧ W.heap[w.heap.size]? = some (.cells #[.int .i64 0, .int .i64 0] 70 (0, 0)) ∧ w1.heap.size < W.heap.size ∧ w.heap.size < w1.heap.size) ⟨heap_alloc_new w1 _, (HBL.out.trans (hb.mono HBL.out.size)).alloc (Nat.le_trans HBL.out.size hb.size) _, ((below_al _).block _ (Nat.lt_of_lt_of_le (by rw [hsz.out]; omega) hb.size)).trans ((hb.block _ (by rw [hsz.out]; omega)).trans R3.out), by simp, Nat.lt_of_lt_of_le (by rw [hsz.out]; omega) hb.size⟩ ?_
    clear hb h1
    generalize w1.heap.size = g8
    rintro W2 ⟨s1, s2, s3, s4, s5⟩
    have HG8 := Hid.mkI s1
    have HB2 := Hid.mkI s2
    have HRR := Hid.mkI s3
    have HS8 := Hid.mkI s4
    have HW8 := Hid.mkI s5
    have q0 := cell_of_row W2 g8 0 _ _ _ s1
    have q1 := cell_of_row W2 g8 1 _ _ _ s1
    have r0 := cell_of_row W2 w.heap.size 0 _ _ _ s3
    have r1 := cell_of_row W2 w.heap.size 1 _ _ _ s3
    have f0 := frozen_of_row W2 w.heap.size 0 _ _ s3
    have f1 := frozen_of_row W2 w.heap.size 1 _ _ s3
    have hne8 : ¬ g8 = w.heap.size := by have := s5; omega
    clear s1 s2 s3 s4 s5
    go_upto_region 3 with fail
    go_region
    go_wp2
    refine bodyPost_ret (v := .tuple #[.slice none 0 0, .agg #[.int .i64 0, .int .i64 0]]) (results_sr Tryz.results34 _ _ w.heap.size 70 _ (0, 0) _ _ (by rfl) (by rfl) (set2_at (w := W2.drew) HRR.out _ _) Tryz.underlying70 (by rfl) size52) rfl ?_
    refine .inl ⟨by rw [HE.out], none, 0, 0, rfl, ?_, below_set2 (w' := W2.drew) (Below.drew HB2.out) (Nat.le_refl _) _ _⟩
    rw [HE.out]
    exact own_nilN _ _
  · have HE : Hid (RR.2 = some F) := by unfold Hid; rw [h1]
    have hF2 := HWY.out F HE.out
    have hFb : ((F.2 : Int) != 0) = true := by rw [bne_iff_ne]; omega
    clear hF2
    refine on_w (motive := fun W => Code.wp _ _ _ _ W) (Q := fun W => W.heap[w1.heap.size]? = some (.cells #[.int .i64 F.1, .int .i64 F.2] 70 (0, 0)) ∧ Below w.heap.size w W ∧ W.heap[w.heap.size]? = some (.cells #[.int .i64 0, .int .i64 0] 70 (0, 0)) ∧ w1.heap.size < W.heap.size ∧ w.heap.size < w1.heap.size) ⟨heap_alloc_new w1 _, (HBL.out.trans (hb.mono HBL.out.size)).alloc (Nat.le_trans HBL.out.size hb.size) _, ((below_al _).block _ (Nat.lt_of_lt_of_le (by rw [hsz.out]; omega) hb.size)).trans ((hb.block _ (by rw [hsz.out]; omega)).trans R3.out), by simp, Nat.lt_of_lt_of_le (by rw [hsz.out]; omega) hb.size⟩ ?_
    clear hb h1
    generalize w1.heap.size = g8
    rintro W2 ⟨s1, s2, s3, s4, s5⟩
    have HG8 := Hid.mkI s1
    have HB2 := Hid.mkI s2
    have HRR := Hid.mkI s3
    have HS8 := Hid.mkI s4
    have HW8 := Hid.mkI s5
    have q0 := cell_of_row W2 g8 0 _ _ _ s1
    have q1 := cell_of_row W2 g8 1 _ _ _ s1
    have r0 := cell_of_row W2 w.heap.size 0 _ _ _ s3
    have r1 := cell_of_row W2 w.heap.size 1 _ _ _ s3
    have f0 := frozen_of_row W2 w.heap.size 0 _ _ s3
    have f1 := frozen_of_row W2 w.heap.size 1 _ _ s3
    have hne8 : ¬ g8 = w.heap.size := by have := s5; omega
    clear s1 s2 s3 s4 s5
    go_upto_region 3 with fail
    go_region
    go_wp2
    refine bodyPost_ret (v := .tuple #[.slice none 0 0, .agg #[.int .i64 F.1, .int .i64 F.2]]) (results_sr Tryz.results34 _ _ w.heap.size 70 _ (0, 0) _ _ (by rfl) (by rfl) (set2_at (w := W2.drew) HRR.out _ _) Tryz.underlying70 (by rfl) size52) rfl ?_
    exact .inr ⟨F, HE.out, rfl, below_set2 (w' := W2.drew) (Below.drew HB2.out) (Nat.le_refl _) _ _⟩
  · have HR := Hid.mkI h1
    have hTPL : (TP : Int) + TL ≤ b.length := by omega
    have hAM : (A : Int) + M ≤ b.length := by omega
    have HTPL := Hid.mkI h2
    have HM24 := Hid.mkI h4
    have HAM := Hid.mkI h3
    obtain ⟨T, hT⟩ : ∃ T, T = (b.drop TP).take TL := ⟨_, rfl⟩
    rw [← hT] at HR
    have HT := Hid.mkI hT
    have hTl : Hid (T.length = TL) := by unfold Hid; rw [hT, List.length_take, List.length_drop]; omega
    have HTB8 : Hid (AllB T) := by unfold Hid; rw [hT]; exact fun x hx => HB.out x (List.mem_of_mem_drop (List.mem_of_mem_take hx))
    obtain ⟨Q, hQ⟩ : ∃ Q, Q = M / 24 := ⟨_, rfl⟩
    have hq1 : (M : Int) / 24 = (Q : Int) := by omega
    have hq2 : (M : Int).tdiv 24 = (Q : Int) := by rw [Int.tdiv_eq_ediv_of_nonneg (by omega)]; exact hq1
    have HQ := Hid.mkI hQ
    rw [← hQ] at HR
    clear h2 h3 h4 hT hQ
    refine on_w (motive := fun W => Code.wp _ _ _ _ W) (Q := fun W => W.heap[w1.heap.size]? = some (.cells #[.int .i64 0, .int .i64 0] 70 (0, 0)) ∧ Below w.heap.size w W ∧ W.heap[w.heap.size]? = some (.cells #[.int .i64 0, .int .i64 0] 70 (0, 0)) ∧ w1.heap.size < W.heap.size ∧ w.heap.size < w1.heap.size) ⟨heap_alloc_new w1 _, (HBL.out.trans (hb.mono HBL.out.size)).alloc (Nat.le_trans HBL.out.size hb.size) _, ((below_al _).block _ (Nat.lt_of_lt_of_le (by rw [hsz.out]; omega) hb.size)).trans ((hb.block _ (by rw [hsz.out]; omega)).trans R3.out), by simp, Nat.lt_of_lt_of_le (by rw [hsz.out]; omega) hb.size⟩ ?_
    clear hb h1
    generalize w1.heap.size = g8
    rintro W2 ⟨s1, s2, s3, s4, s5⟩
    have HG8 := Hid.mkI s1
    have HB2 := Hid.mkI s2
    have HRR := Hid.mkI s3
    have HS8 := Hid.mkI s4
    have HW8 := Hid.mkI s5
    have q0 := cell_of_row W2 g8 0 _ _ _ s1
    have q1 := cell_of_row W2 g8 1 _ _ _ s1
    have r0 := cell_of_row W2 w.heap.size 0 _ _ _ s3
    have r1 := cell_of_row W2 w.heap.size 1 _ _ _ s3
    have f0 := frozen_of_row W2 w.heap.size 0 _ _ s3
    have f1 := frozen_of_row W2 w.heap.size 1 _ _ s3
    have hne8 : ¬ g8 = w.heap.size := by have := s5; omega
    clear s1 s2 s3 s4 s5
    have HV2 : Hid (∀ wx, Below W2.heap.size W2 wx → Byt wx (.slice (some ⟨g0, o0, none⟩) b.length cap) b) := fun wx hx => HV.out _ (HB2.out.trans (hx.mono HB2.out.size))
    have HR2 : Hid (∀ w', Below W2.heap.size W2 w' → w'.heap[w.heap.size]? = some (.cells #[.int .i64 0, .int .i64 0] 70 (0, 0))) := fun w' hx => (hx.block _ (heap_lt HRR.out)).trans HRR.out
    have hA0 : decide ((A : Int) < 0) = false := by simp
    have hsl : ∀ W, (Instr.slice 31 (.slice (some ⟨g0, o0, none⟩) b.length cap) (some (.int .i64 (TP : Int))) (some (.int .i64 ((TP : Int) + TL))) none).run Tryz.prog W = .ok (.slice (if cap = TP then some ⟨g0, o0, none⟩ else (some ⟨g0, o0, none⟩ : Option Addr).map (fun x => x.add TP)) TL (cap - TP)) W := fun W => slice_I2 W _ b.length cap TP TL (by have := HTPL.out; omega)
    obtain ⟨VS, hVS⟩ : ∃ VS : Value, VS = .slice (if cap = TP then some ⟨g0, o0, none⟩ else (some ⟨g0, o0, none⟩ : Option Addr).map (fun x => x.add TP)) TL (cap - TP) := ⟨_, rfl⟩
    have HBS : Hid (∀ wx, Below W2.heap.size W2 wx → Byt wx VS T) := fun wx hx => by rw [hVS, HT.out]; exact (HV2.out wx hx).sub HTPL.out
    rw [← hVS] at hsl
    clear hVS
    go_upto_region 4 with fail
    clear q0 q1 r0 r1 f0 f1 HRR hA0
    go_wp2
    --@M1
    go_loopw [10, 9] (fun x y wr => ∃ (p I : Nat) (l : List Sy) (ym : Option Addr) (yn yc : Nat), Hid (p ≤ Q - 1) ∧ x = .int .i64 (I : Int) ∧ Hid (I = p + 1) ∧ y = .slice ym yn yc ∧ Hid (wr.ownsRow W2.heap.size 87 2 (.slice ym yn yc) l.length (syl l)) ∧ Hid (Below W2.heap.size W2 wr) ∧ Hid (nmL b T A p = (l, none))) (fun x _ _ => Q + 1 - (intOf x).toNat)
    case atStart => exact ⟨0, 1, [], none, 0, 0, Nat.zero_le _, rfl, rfl, rfl, own_nilN _ _, Below.refl _ _, rfl⟩
    case round =>
      obtain ⟨p, I, l, ym, yn, yc, hp, rfl, HI, rfl, HO, HW, HL⟩ := hrel
      have hL4 : Hid (l.length ≤ 400) := by unfold Hid; have q := nmL_len b T A p; rw [HL.out] at q; exact q
      have hQb : Hid (24 * Q = M) := by unfold Hid; have := HQ.out; have := HM24.out; omega
      have hIl : (I : Int) ≤ 200000 := by have := HI.out; have := hp.out; have := hQb.out; omega
      by_cases hlt : p < Q - 1
      · have hltI : (I : Int) < Q := by have := HI.out; omega
        have hltD : decide (I < Q) = true := by simp; have := HI.out; omega
        have HLT : Hid (p + 1 ≤ Q - 1) := hlt
        obtain ⟨O, hO⟩ : ∃ O, O = A + 24 * (p + 1) := ⟨_, rfl⟩
        have HO24 : Hid (O + 24 ≤ b.length) := by unfold Hid; have := hQb.out; have := HAM.out; omega
        have hOI : (O : Int) + 24 ≤ b.length := by have := HO24.out; omega
        have hOe : (A : Int) + 24 * I = O := by have := HI.out; omega
        have HOE := Hid.mkI hO
        have c4 : Hid (∀ wx, Below W2.heap.size W2 wx → ∀ pI : Int, pI = ((O : Nat) : Int) → Calls Tryz.prog 35 #[.slice (some ⟨g0, o0, none⟩) b.length cap, .int .i64 pI, .int .i64 4] wx fun e w' => e = .returned (.int .u64 ((vl b (O) 4 : Nat) : Int)) ∧ wx = w') := fun wx hx pI hpI => rvalue_c HB.out hl _ (O) 4 pI 4 hpI rfl (by omega) (by have := HO24.out; omega) wx (HV2.out _ hx)
        have c6 : Hid (∀ wx, Below W2.heap.size W2 wx → ∀ pI : Int, pI = ((O + 6 : Nat) : Int) → Calls Tryz.prog 35 #[.slice (some ⟨g0, o0, none⟩) b.length cap, .int .i64 pI, .int .i64 2] wx fun e w' => e = .returned (.int .u64 ((vl b (O + 6) 2 : Nat) : Int)) ∧ wx = w') := fun wx hx pI hpI => rvalue_c HB.out hl _ (O + 6) 2 pI 2 hpI rfl (by omega) (by have := HO24.out; omega) wx (HV2.out _ hx)
        have c8 : Hid (∀ wx, Below W2.heap.size W2 wx → ∀ pI : Int, pI = ((O + 8 : Nat) : Int) → Calls Tryz.prog 35 #[.slice (some ⟨g0, o0, none⟩) b.length cap, .int .i64 pI, .int .i64 8] wx fun e w' => e = .returned (.int .u64 ((vl b (O + 8) 8 : Nat) : Int)) ∧ wx = w') := fun wx hx pI hpI => rvalue_c HB.out hl _ (O + 8) 8 pI 8 hpI rfl (by omega) (by have := HO24.out; omega) wx (HV2.out _ hx)
        have l4 := vl_lt8 HB.out O 4 (by omega)
        have l6 := vl_lt8 HB.out (O + 6) 2 (by omega)
        have l8 : Hid (vl b (O + 8) 8 < 18446744073709551616) := vl_lt8 HB.out (O + 8) 8 (by omega)
        have kc := hro.out wr (HB2.out.trans (HW.out.mono HB2.out.size)) (O + 4) (by have := HO24.out; omega)
        have hby := getD_byte HB.out (O + 4)
        have HEN : Hid (enE b T O = if T.length ≤ vl b O 4 ∨ fz (T.drop (vl b O 4)) < 0 then none
  else if (b.getD (O + 4) 0).toNat % 16 = 3 ∨ (b.getD (O + 4) 0).toNat % 16 = 4 ∨ vl b (O + 6) 2 = 0 ∨ nm (strOfNums (txT T (vl b O 4))) = false then some none
  else some (some ⟨strOfNums (txT T (vl b O 4)), BitVec.ofNat 64 (vl b (O + 8) 8)⟩)) := rfl
        rw [hO] at HEN
        have HBAD : Hid (enE b T (A + 24 * (p + 1)) = none → RR.2 = some (O, 25)) := fun h => by rw [HR.out, nmL_stop (nmL_bad HL.out h) _ HLT.out, HOE.out]
        have HPASS : Hid (enE b T (A + 24 * (p + 1)) = some none → nmL b T A (p + 1) = (l, none)) := fun h => nmL_pass HL.out h
        have HHAD : Hid (∀ x, enE b T (A + 24 * (p + 1)) = some (some x) → l.any (eqS x) = true → nmL b T A (p + 1) = (l, none)) := fun x h h2 => nmL_had HL.out h h2
        have HMANY : Hid (∀ x, enE b T (A + 24 * (p + 1)) = some (some x) → l.any (eqS x) = false → l.length = 400 → RR.2 = some (O, 2)) := fun x h h2 h3 => by rw [HR.out, nmL_stop (nmL_many HL.out h h2 h3) _ HLT.out, HOE.out]
        have HADD : Hid (∀ x, enE b T (A + 24 * (p + 1)) = some (some x) → l.any (eqS x) = false → ¬ l.length = 400 → nmL b T A (p + 1) = (l ++ [x], none)) := fun x h h2 h3 => nmL_add HL.out h h2 h3
        generalize enE b T (A + 24 * (p + 1)) = EN at HEN HBAD HPASS HHAD HMANY HADD
        rw [← hO] at HEN
        generalize vl b O 4 = N at c4 HEN l4
        generalize vl b (O + 6) 2 = NS at c6 HEN l6
        generalize vl b (O + 8) 8 = NV at c8 HEN l8
        obtain ⟨z, hzz⟩ : ∃ z, z = b.getD (O + 4) 0 := ⟨_, rfl⟩
        rw [← hzz] at kc hby HEN
        have HZB : Hid (b.getD (O + 4) 0 = z) := hzz.symm
        clear hzz
        obtain ⟨KD, hKD⟩ : ∃ KD, KD = z.toNat % 16 := ⟨_, rfl⟩
        have hk1 : z % 16 = (KD : Int) := by omega
        have hk2 : z.tmod 16 = (KD : Int) := by rw [Int.tmod_eq_emod_of_nonneg hby.1]; exact hk1
        rw [← hKD] at HEN
        clear hKD hO hlt
        have hKDI : (KD : Int) < 16 := by omega
        go_upto_region 9 with fail
        --@M2
        have cTX : Hid (∀ wx, Below W2.heap.size W2 wx → Calls Tryz.prog 62 #[VS, .int .u64 (N : Int)] wx fun e w' => TxP T N wx e w') := fun wx hx => rtext_c HTB8.out (by rw [hTl.out]; have := HTPL.out; omega) VS N l4 wx (HBS.out wx hx)
        have c4q : Hid (∀ wx, Below W2.heap.size W2 wx → Calls Tryz.prog 35 #[.slice (some ⟨g0, o0, none⟩) b.length cap, .int .i64 (O : Int), .int .i64 4] wx fun e w' => e = .returned (.int .u64 (N : Int)) ∧ w' = wx) := fun wx hx => (c4.out wx hx _ rfl).mono fun e w' h => ⟨h.1, h.2.symm⟩
        by_cases gT : T.length ≤ N ∨ fz (T.drop N) < 0
        · have HE : Hid (RR.2 = some (O, 25)) := HBAD.out (by rw [HEN.out, if_pos gT])
          have cTf : Hid (∀ wx, Below W2.heap.size W2 wx → Calls Tryz.prog 62 #[VS, .int .u64 (N : Int)] wx fun e w' => e = .returned (.tuple #[.string ⟨#[]⟩, .bool false]) ∧ w' = wx) := fun wx hx => (cTX.out wx hx).mono fun e w' h => by
            rcases h with ⟨_, h1, h2⟩ | ⟨h1, _⟩
            · exact ⟨h1, h2.symm⟩
            · exact absurd gT h1
          clear gT cTX
          go_quiet ((first | (go_at_call 35; exact Calls.quiet_of_same (c4q.out _ (by first | exact HW.out | exact Below.drew HW.out | exact below_drewX HW.out _))) | (go_at_call 62; exact Calls.quiet_of_same (cTf.out _ (by first | exact HW.out | exact Below.drew HW.out | exact below_drewX HW.out _))) | fail))
          go_upto_region 10 with fail
          refine on_w (motive := fun W => Code.wp _ _ _ _ W) (Q := fun W => Below W2.heap.size W2 W ∧ W.ownsRow W2.heap.size 87 2 (.slice ym yn yc) l.length (syl l)) ⟨below_drewX HW.out _, own_below HO.out (below_drewX (Below.refl _ _) _)⟩ ?_
          rintro W5 ⟨s1, s2⟩
          have HW5 := Hid.mkI s1
          have HO5 := Hid.mkI s2
          clear s1 s2
          have rr := HR2.out W5 HW5.out
          have r0 := cell_of_row W5 w.heap.size 0 _ _ _ rr
          have r1 := cell_of_row W5 w.heap.size 1 _ _ _ rr
          have f0 := frozen_of_row W5 w.heap.size 0 _ _ rr
          have f1 := frozen_of_row W5 w.heap.size 1 _ _ rr
          have HRR := Hid.mkI rr
          clear rr
          go_wp2
          refine bodyPost_ret (v := .tuple #[.slice none 0 0, .agg #[.int .i64 ((O : Int)), .int .i64 25]]) (results_sr Tryz.results34 _ _ w.heap.size 70 _ (0, 0) _ _ (by rfl) (by rfl) (set2_at HRR.out _ _) Tryz.underlying70 (by rfl) size52) rfl ?_
          exact .inr ⟨_, HE.out, by first | rfl | simp, below_set2 (HB2.out.trans (HW5.out.mono HB2.out.size)) (Nat.le_refl _) _ _⟩
        · have cTt : Hid (∀ wx, Below W2.heap.size W2 wx → Calls Tryz.prog 62 #[VS, .int .u64 (N : Int)] wx fun e w' => e = .returned (.tuple #[.string (strOfNums (txT T N)), .bool true]) ∧ w' = wx) := fun wx hx => (cTX.out wx hx).mono fun e w' h => by
            rcases h with ⟨h1, _⟩ | ⟨_, h1, h2⟩
            · exact absurd h1 gT
            · exact ⟨h1, h2.symm⟩
          have HGT := Hid.mkI gT
          have hsS : Hid ((strOfNums (txT T N)).size ≤ 140737488355328) := by
            unfold Hid; rw [str_size]; unfold txT; rw [List.length_take, List.length_drop, hTl.out]; have := HTPL.out; omega
          clear gT cTX
          generalize strOfNums (txT T N) = XS at cTt hsS HEN
          go_quiet ((first | (go_at_call 35; exact Calls.quiet_of_same (c4q.out _ (by first | exact HW.out | exact Below.drew HW.out | exact below_drewX HW.out _))) | (go_at_call 62; exact Calls.quiet_of_same (cTt.out _ (by first | exact HW.out | exact Below.drew HW.out | exact below_drewX HW.out _))) | fail))
          --@M3
          go_upto_region 10 with fail
          refine on_w (motive := fun W => Code.wp _ _ _ _ W) (Q := fun W => Below W2.heap.size W2 W ∧ W.ownsRow W2.heap.size 87 2 (.slice ym yn yc) l.length (syl l)) ⟨below_drewX HW.out _, own_below HO.out (below_drewX (Below.refl _ _) _)⟩ ?_
          rintro W5 ⟨s1, s2⟩
          have HW5 := Hid.mkI s1
          have HO5 := Hid.mkI s2
          clear s1 s2
          have HTB5 : Hid (∀ wx, Below W5.heap.size W5 wx → Tabs wx) := fun wx hx => HTB.out _ (HB2.out.trans ((HW5.out.trans (hx.mono HW5.out.size)).mono HB2.out.size))
          have kc5 := hro.out W5 (HB2.out.trans (HW5.out.mono HB2.out.size)) (O + 4) (by have := HO24.out; omega)
          rw [HZB.out] at kc5
          go_upto_region 13 with fail
          clear kc kc5
          go_upto_region 14 with (go_at_call 35; refine (c8.out _ HW5.out _ (by first | omega | (rw [IntKind.wrap_i64]; omega) | (rw [IntKind.wrap_u64]; omega))).mono ?_; rintro e w9 ⟨rfl, hw9⟩; subst hw9)
          --@M4
          refine on_w (motive := fun W => Code.wp _ _ _ _ W) (Q := fun W => W.heap[W5.heap.size]? = some (.cells #[.string XS, .int .u64 (NV : Int)] 87 (0, 0)) ∧ Below W5.heap.size W5 W) ⟨heap_alloc_new W5 _, below_al _⟩ ?_
          generalize hg15 : W5.heap.size = g15
          rintro W7 ⟨s1, s2⟩
          have HG := Hid.mkI s1
          have B7 : Hid (Below W5.heap.size W5 W7) := by unfold Hid; rw [hg15]; exact s2
          have H7 : Hid (Below W2.heap.size W2 W7) := HW5.out.trans (B7.out.mono HW5.out.size)
          have HO7 : Hid (W7.ownsRow W2.heap.size 87 2 (.slice ym yn yc) l.length (syl l)) := own_below HO5.out B7.out
          clear s1 s2 hg15
          have cNM : Hid (Calls Tryz.prog 63 #[.string XS] W7 fun e w' => e = .returned (.bool (nm XS)) ∧ Below W7.heap.size W7 w') := rname_c XS hsS.out W7 (HTB5.out W7 B7.out)
          cases dn : nm XS with
          | false =>
            have HL2 : Hid (nmL b T A (p + 1) = (l, none)) := HPASS.out (by rw [HEN.out, if_neg HGT.out, if_pos (.inr (.inr (.inr dn)))])
            rw [dn] at cNM
            clear dn
            go_upto_region 15 with (go_at_call 63; refine cNM.out.mono ?_; rintro e w8 ⟨rfl, hb⟩; have B8 : Hid (Below W7.heap.size W7 w8) := hb; have H8 : Hid (Below W2.heap.size W2 w8) := H7.out.trans (hb.mono H7.out.size); clear hb)
            go_wp2
            go_roundw
            case rel => exact ⟨p + 1, I + 1, l, ym, yn, yc, HLT, by go_num, by unfold Hid; rw [HI.out], rfl, own_below HO7.out B8.out, H8, HL2⟩
            case measure => simp [intOf]; omega
          | true =>
            rw [dn] at cNM
            have HDN := Hid.mkI dn
            clear dn
            go_upto_region 15 with (go_at_call 63; refine cNM.out.mono ?_; rintro e w8 ⟨rfl, hb⟩; have B8 : Hid (Below W7.heap.size W7 w8) := hb; have H8 : Hid (Below W2.heap.size W2 w8) := H7.out.trans (hb.mono H7.out.size); clear hb)
            have HO8 : Hid (w8.ownsRow W2.heap.size 87 2 (.slice ym yn yc) l.length (syl l)) := own_below HO7.out B8.out
            by_cases d3 : KD = 3
            · have d3b : ((KD : Int) == 3) = true := by rw [beq_iff_eq]; omega
              have HL2 : Hid (nmL b T A (p + 1) = (l, none)) := HPASS.out (by rw [HEN.out, if_neg HGT.out, if_pos (.inl d3)])
              clear d3
              go_wp2
              go_roundw
              case rel => exact ⟨p + 1, I + 1, l, ym, yn, yc, HLT, by go_num, by unfold Hid; rw [HI.out], rfl, own_below HO7.out B8.out, H8, HL2⟩
              case measure => simp [intOf]; omega
            · have d3b : ((KD : Int) == 3) = false := by rw [beq_eq_false_iff_ne]; omega
              by_cases d4 : KD = 4
              · have d4b : ((KD : Int) == 4) = true := by rw [beq_iff_eq]; omega
                have HL2 : Hid (nmL b T A (p + 1) = (l, none)) := HPASS.out (by rw [HEN.out, if_neg HGT.out, if_pos (.inr (.inl d4))])
                clear d3 d4
                go_wp2
                go_roundw
                case rel => exact ⟨p + 1, I + 1, l, ym, yn, yc, HLT, by go_num, by unfold Hid; rw [HI.out], rfl, own_below HO7.out B8.out, H8, HL2⟩
                case measure => simp [intOf]; omega
              · have d4b : ((KD : Int) == 4) = false := by rw [beq_eq_false_iff_ne]; omega
                by_cases dS : NS = 0
                · have dSb : ((NS : Int) == 0) = true := by rw [beq_iff_eq]; omega
                  have HL2 : Hid (nmL b T A (p + 1) = (l, none)) := HPASS.out (by rw [HEN.out, if_neg HGT.out, if_pos (.inr (.inr (.inl dS)))])
                  clear d3 d4 dS
                  go_wp2_with (go_at_call 35; refine (c6.out _ H8.out _ (by first | omega | (rw [IntKind.wrap_i64]; omega) | (rw [IntKind.wrap_u64]; omega))).mono ?_; rintro e w9 ⟨rfl, hw9⟩; subst hw9)
                  go_roundw
                  case rel => exact ⟨p + 1, I + 1, l, ym, yn, yc, HLT, by go_num, by unfold Hid; rw [HI.out], rfl, own_below HO7.out B8.out, H8, HL2⟩
                  case measure => simp [intOf]; omega
                · have dSb : ((NS : Int) == 0) = false := by rw [beq_eq_false_iff_ne]; omega
                  have HEX : Hid (EN = some (some ⟨XS, BitVec.ofNat 64 NV⟩)) := by
                    unfold Hid; rw [HEN.out, if_neg HGT.out, if_neg]
                    rintro (h | h | h | h)
                    · exact d3 h
                    · exact d4 h
                    · exact dS h
                    · rw [HDN.out] at h; cases h
                  have cHS : Hid (Calls Tryz.prog 64 #[.slice ym yn yc, .agg #[.string XS, .int .u64 (NV : Int)]] w8 fun e w' => e = .returned (.bool (l.any (eqS ⟨XS, BitVec.ofNat 64 NV⟩))) ∧ Below w8.heap.size w8 w') := by
                    have q := rhas_c (.slice ym yn yc) l ⟨XS, BitVec.ofNat 64 NV⟩ w8 (Sys.of_own HO8.out) hL4.out
                    rw [← nat64 l8.out] at q
                    exact q
                  have G8 : Hid (w8.heap[g15]? = some (.cells #[.string XS, .int .u64 (NV : Int)] 87 (0, 0))) := (B8.out.block g15 (heap_lt HG.out)).trans HG.out
                  have x0 := cell_of_row w8 g15 0 _ _ _ G8.out
                  have x1 := cell_of_row w8 g15 1 _ _ _ G8.out
                  clear d3 d4 dS
                  cases hA : l.any (eqS ⟨XS, BitVec.ofNat 64 NV⟩) with
                  | true =>
                    have HL2 : Hid (nmL b T A (p + 1) = (l, none)) := HHAD.out _ HEX.out hA
                    rw [hA] at cHS
                    clear hA
                    go_upto_region 7 with (first | (go_at_call 35; refine (c6.out _ H8.out _ (by first | omega | (rw [IntKind.wrap_i64]; omega) | (rw [IntKind.wrap_u64]; omega))).mono ?_; rintro e w9 ⟨rfl, hw9⟩; subst hw9) | (go_at_call 64; refine cHS.out.mono ?_; rintro e wA ⟨rfl, hb⟩; have BA : Hid (Below w8.heap.size w8 wA) := hb; have HA9 : Hid (Below W2.heap.size W2 wA) := H8.out.trans (hb.mono H8.out.size); clear hb))
                    clear x0 x1
                    go_wp2
                    go_roundw
                    case rel => exact ⟨p + 1, I + 1, l, ym, yn, yc, HLT, by go_num, by unfold Hid; rw [HI.out], rfl, own_below HO8.out BA.out, HA9, HL2⟩
                    case measure => simp [intOf]; omega
                  | false =>
                    rw [hA] at cHS
                    have HAN := Hid.mkI hA
                    clear hA
                    go_upto_region 16 with (first | (go_at_call 35; refine (c6.out _ H8.out _ (by first | omega | (rw [IntKind.wrap_i64]; omega) | (rw [IntKind.wrap_u64]; omega))).mono ?_; rintro e w9 ⟨rfl, hw9⟩; subst hw9) | (go_at_call 64; refine cHS.out.mono ?_; rintro e wA ⟨rfl, hb⟩; have BA : Hid (Below w8.heap.size w8 wA) := hb; have HA9 : Hid (Below W2.heap.size W2 wA) := H8.out.trans (hb.mono H8.out.size); clear hb))
                    clear x0 x1 d3b d4b dSb
                    have HOA : Hid (wA.ownsRow W2.heap.size 87 2 (.slice ym yn yc) l.length (syl l)) := own_below HO8.out BA.out
                    have GA : Hid (wA.heap[g15]? = some (.cells #[.string XS, .int .u64 (NV : Int)] 87 (0, 0))) := (BA.out.block g15 (heap_lt G8.out)).trans G8.out
                    have hyn : Hid (yn = l.length) := by
                      unfold Hid
                      obtain ⟨ad, cp, e, _⟩ := Sys.of_own HOA.out
                      cases e; rfl
                    have hynI : (yn : Int) ≤ 400 := by have := hyn.out; have := hL4.out; omega
                    by_cases h4 : l.length = 400
                    · have h4b : ((yn : Int) == 400) = true := by rw [beq_iff_eq]; have := hyn.out; omega
                      have HE : Hid (RR.2 = some (O, 2)) := HMANY.out _ HEX.out HAN.out h4
                      clear h4
                      have rr := HR2.out wA HA9.out
                      have r0 := cell_of_row wA w.heap.size 0 _ _ _ rr
                      have r1 := cell_of_row wA w.heap.size 1 _ _ _ rr
                      have f0 := frozen_of_row wA w.heap.size 0 _ _ rr
                      have f1 := frozen_of_row wA w.heap.size 1 _ _ rr
                      have HRR := Hid.mkI rr
                      clear rr
                      go_wp2
                      refine bodyPost_ret (v := .tuple #[.slice none 0 0, .agg #[.int .i64 ((O : Int)), .int .i64 2]]) (results_sr Tryz.results34 _ _ w.heap.size 70 _ (0, 0) _ _ (by rfl) (by rfl) (set2_at HRR.out _ _) Tryz.underlying70 (by rfl) size52) rfl ?_
                      exact .inr ⟨_, HE.out, by first | rfl | simp, below_set2 (HB2.out.trans (HA9.out.mono HB2.out.size)) (Nat.le_refl _) _ _⟩
                    · have h4b : ((yn : Int) == 400) = false := by rw [beq_eq_false_iff_ne]; have := hyn.out; omega
                      have HL2 : Hid (nmL b T A (p + 1) = (l ++ [⟨XS, BitVec.ofNat 64 NV⟩], none)) := HADD.out _ HEX.out HAN.out h4
                      clear h4
                      go_upto_region 18 with fail
                      clear h4b
                      have x0 := cell_of_row wA g15 0 _ _ _ GA.out
                      have x1 := cell_of_row wA g15 1 _ _ _ GA.out
                      go_upto_region 7 with (at_builtin; have A1 : (wA.alloc (.cells #[.string XS, .int .u64 (NV : Int)] 87)).ownsRow W2.heap.size 87 2 (.slice ym yn yc) l.length (syl l) := own_below HOA.out (below_al _); have A2 : (wA.alloc (.cells #[.string XS, .int .u64 (NV : Int)] 87)).heap[wA.heap.size]? = some (.cells #[.string XS, .int .u64 (n64 (BitVec.ofNat 64 NV))] 87 (0, 0)) := (by rw [← nat64 l8.out]; exact heap_alloc_new wA _); have A3 : W2.heap.size ≤ (wA.alloc (.cells #[.string XS, .int .u64 (NV : Int)] 87)).heap.size := (by have := HA9.out.size; simp; omega); refine appS (by rfl) _ _ (by rfl) W2.heap.size (.slice ym yn yc) l ⟨XS, BitVec.ofNat 64 NV⟩ (by rfl) A1 wA.heap.size (by rfl) A2 (by have := hL4.out; omega) A3 ?_; clear A1 A2 A3; intro v9 wB ho9 hb9; have HO9 : Hid (wB.ownsRow W2.heap.size 87 2 v9 (l ++ [(Sy.mk XS (BitVec.ofNat 64 NV))]).length (syl (l ++ [(Sy.mk XS (BitVec.ofNat 64 NV))]))) := ho9; have H95 : Hid (Below W2.heap.size W2 wB) := (HA9.out.alloc (HA9.out.size) _).trans hb9; clear ho9 hb9; obtain ⟨zm, zn, zc, rfl⟩ := own_sliceN HO9.out)
                      clear x0 x1
                      go_wp2
                      go_roundw
                      case rel => exact ⟨p + 1, I + 1, l ++ [⟨XS, BitVec.ofNat 64 NV⟩], zm, zn, zc, HLT, by go_num, by unfold Hid; rw [HI.out], rfl, HO9, H95, HL2⟩
                      case measure => simp [intOf]; omega
      · have hltI : ¬ (I : Int) < Q := by have := HI.out; have := hp.out; omega
        have hltD : decide (I < Q) = false := by simp; have := HI.out; have := hp.out; omega
        have HIE : Hid (p = Q - 1) := by have := hp.out; unfold Hid; omega
        clear hlt
        have rr := HR2.out wr HW.out
        have r0 := cell_of_row wr w.heap.size 0 _ _ _ rr
        have r1 := cell_of_row wr w.heap.size 1 _ _ _ rr
        have f0 := frozen_of_row wr w.heap.size 0 _ _ rr
        have f1 := frozen_of_row wr w.heap.size 1 _ _ rr
        have HRR := Hid.mkI rr
        clear rr
        go_wp2
        refine bodyPost_ret (v := .tuple #[.slice ym yn yc, .agg #[.int .i64 0, .int .i64 0]]) (results_sr Tryz.results34 _ _ w.heap.size 70 _ (0, 0) _ _ (by rfl) (by rfl) (set2_at HRR.out _ _) Tryz.underlying70 (by rfl) size52) rfl ?_
        have hR2 : RR = (l, none) := by rw [HR.out, ← HIE.out]; exact HL.out
        have hwl : Hid (w.heap.size < W2.heap.size) := by unfold Hid; have := HS8.out; have := HW8.out; omega
        have hk : ∀ j, W2.heap.size ≤ j → ((wr.setCell ⟨w.heap.size, 0, none⟩ (.int .i64 0)).setCell ⟨w.heap.size, 1, none⟩ (.int .i64 0)).heap[j]? = wr.heap[j]? := fun j hj => by
          have := hwl.out
          rw [heap_setCell_other _ _ j _ (by show j ≠ w.heap.size; omega), heap_setCell_other _ _ j _ (by show j ≠ w.heap.size; omega)]
        exact .inl ⟨by rw [hR2], ym, yn, yc, rfl, by rw [hR2]; exact own_ge HO.out HB2.out.size hk, below_set2 (HB2.out.trans (HW.out.mono HB2.out.size)) (Nat.le_refl _) _ _⟩
end Go.Proofs.YtheeogbmljjbdaaGreatDoor
namespace Go.Proofs.YtheeogbmljjbdaaGreatDoor
set_option linter.unusedVariables false
open Go.ChangeShapes Go.WideShapes Go.ChangeAt Go.RowKit Go.Deep
theorem below2 (w : World) (a b : Obj) : Below w.heap.size w ((w.alloc a).alloc b) := ((Below.refl _ _).alloc (Nat.le_refl _) _).alloc (by simp) _
set_option maxHeartbeats 1000000 in
theorem behind_c (s t : ByteArray) (x y : BitVec 64) (w : World) :
    Calls Tryz.prog 65 #[.agg #[.string s, .int .u64 (n64 x)], .agg #[.string t, .int .u64 (n64 y)]] w fun e w' => e = .returned (.bool (ahead s x t y)) ∧ Below w.heap.size w w' := by
  obtain ⟨R, hR⟩ : ∃ R, R = ahead s x t y := ⟨_, rfl⟩
  rw [← hR]
  have HR : Hid (R = ahead s x t y) := hR
  clear hR
  by_cases h1 : x.toNat < y.toNat
  · have g1 : n64 x < n64 y := by unfold n64; omega
    have HP : Hid (R = true) := by unfold Hid; rw [HR.out]; unfold ahead; simp [h1]
    clear h1
    go_enter Tryz.func65, Tryz.ntmps65
    go_wp2
    go_ret
    exact ⟨by rw [HP.out]; rfl, below2 _ _ _⟩
  · have g1 : n64 y ≤ n64 x := by unfold n64; omega
    have g1d : decide (n64 x < n64 y) = false := decide_eq_false (by omega)
    by_cases h2 : x.toNat = y.toNat
    · have e2 : (n64 y == n64 x) = true := by unfold n64; rw [h2]; simp
      have tri := less_tri s.toList t.toList
      have HPr : Hid (R = Op.bytesLess s.toList t.toList) := by unfold Hid; rw [HR.out]; unfold ahead; simp [h2]; rfl
      clear h1 h2
      cases k1 : Op.bytesLess t.toList s.toList with
      | true =>
        rw [k1] at tri
        have HP : Hid (R = false) := by unfold Hid; rw [HPr.out, tri]; rfl
        clear tri
        go_enter Tryz.func65, Tryz.ntmps65
        go_wp2
        go_ret
        exact ⟨by rw [HP.out]; rfl, below2 _ _ _⟩
      | false =>
        cases k2 : (t.toList == s.toList) with
        | true =>
          rw [k1, k2] at tri
          have HP : Hid (R = false) := by unfold Hid; rw [HPr.out, tri]; rfl
          clear tri
          go_enter Tryz.func65, Tryz.ntmps65
          go_wp2
          go_ret
          exact ⟨by rw [HP.out]; rfl, below2 _ _ _⟩
        | false =>
          rw [k1, k2] at tri
          have HP : Hid (R = true) := by unfold Hid; rw [HPr.out, tri]; rfl
          clear tri
          go_enter Tryz.func65, Tryz.ntmps65
          go_wp2
          go_ret
          exact ⟨by rw [HP.out]; rfl, below2 _ _ _⟩
    · have e2 : (n64 y == n64 x) = false := by unfold n64; simp; omega
      have HP : Hid (R = false) := by unfold Hid; rw [HR.out]; unfold ahead; simp [h1, h2]
      clear h1 h2
      go_enter Tryz.func65, Tryz.ntmps65
      go_wp2
      go_ret
      exact ⟨by rw [HP.out]; rfl, below2 _ _ _⟩
end Go.Proofs.YtheeogbmljjbdaaGreatDoor
namespace Go.Proofs.YtheeogbmljjbdaaGreatDoor
set_option linter.unusedVariables false
open Go.ChangeShapes Go.WideShapes Go.ChangeAt Go.RowKit Go.Deep
/-- A part meets one of a list. -/
def anyM (L : List Sg) (x y : BitVec 64) : Nat → Bool
  | 0 => false
  | k + 1 => anyM L x y k || meetB x y (sg L k).a (sg L k).s
theorem anyM_true {L : List Sg} {x y : BitVec 64} {k m : Nat} (hk : k < m) (h : meetB x y (sg L k).a (sg L k).s = true) : anyM L x y m = true := by
  induction m with
  | zero => omega
  | succ m ih =>
    by_cases e : k = m
    · subst e; rw [anyM, h, Bool.or_true]
    · rw [anyM, ih (by omega), Bool.true_or]
theorem below_drewM {B : Nat} {w w' : World} (h : Below B w w') (n : Nat) : Below B w (w'.drewN n) := ⟨h.os, h.tape, h.output, h.size, h.block⟩
set_option maxRecDepth 100000 in
set_option maxHeartbeats 4000000 in
theorem rmeets_c (va : Value) (L : List Sg) (hL : L.length ≤ 16) (x y : BitVec 64) (f : Int) (m : Option Addr) (n c : Nat) (w : World) (ha : Sgs w va L) :
    Calls Tryz.prog 60 #[va, .agg #[.int .u64 (n64 x), .int .u64 (n64 y), .int .i64 f, .slice m n c]] w fun e w' => e = .returned (.bool (anyM L x y L.length)) ∧ Below w.heap.size w w' := by
  have HA : Hid (Sgs w va L) := ha
  obtain ⟨aa, ac, rfl, _, _⟩ := ha
  have HBL : Hid (Below w.heap.size w (w.alloc (.cells #[.int .u64 (n64 x), .int .u64 (n64 y), .int .i64 f, .slice m n c] 61))) := (Below.refl _ _).alloc (Nat.le_refl _) _
  have HC : Hid (∀ w', Below (w.alloc (.cells #[.int .u64 (n64 x), .int .u64 (n64 y), .int .i64 f, .slice m n c] 61)).heap.size (w.alloc (.cells #[.int .u64 (n64 x), .int .u64 (n64 y), .int .i64 f, .slice m n c] 61)) w' → w'.cell? ⟨w.heap.size, 0, none⟩ = some (.int .u64 (n64 x))) := fun w' hb => by rw [hb.cell (by simp)]; simp
  have hLI : (L.length : Int) ≤ 16 := by omega
  obtain ⟨bs, hbs⟩ : ∃ bs, bs = decide ((x + (y - 1#64)).toNat < x.toNat) := ⟨_, rfl⟩
  have cS : Hid (∀ wx : World, Calls Tryz.prog 59 #[.int .u64 (n64 x), .int .u64 (n64 y)] wx fun e w' => e = .returned (.tuple #[.int .u64 (n64 (x + (y - 1#64))), .bool (!bs)]) ∧ wx = w') := fun wx => rlast_c x y wx bs hbs
  clear hbs
  go_enter Tryz.func60, Tryz.ntmps60
  go_upto_region 3 with (go_at_call 59; refine (cS.out _).mono ?_; rintro e w' ⟨rfl, rfl⟩)
  generalize w.alloc (.cells #[.int .u64 (n64 x), .int .u64 (n64 y), .int .i64 f, .slice m n c] 61) = w1 at *
  obtain ⟨z, hz⟩ : ∃ z, z = n64 (x + (y - 1#64)) := ⟨_, rfl⟩
  have HZ : Hid (z = n64 (x + (y - 1#64))) := hz
  rw [← hz]
  clear hz
  obtain ⟨X, hX⟩ : ∃ X, X = n64 x := ⟨_, rfl⟩
  have HXX : Hid (X = n64 x) := hX
  rw [← hX] at HC ⊢
  clear hX
  go_wp2
  go_loopw [7, 8, 9] (fun i _ _ wr => ∃ k : Nat, k ≤ L.length ∧ i = .int .i64 k ∧ Hid (anyM L x y k = false) ∧ Hid (Below w1.heap.size w1 wr)) (fun i _ _ _ => L.length - (intOf i).toNat)
  case atStart => exact ⟨0, Nat.zero_le _, rfl, rfl, Below.refl _ _⟩
  case round =>
    obtain ⟨k, hk, rfl, HF, hw⟩ := hrel
    have HBW : Hid (Below w.heap.size w wr) := HBL.out.trans (hw.out.mono HBL.out.size)
    have c0 := HC.out wr hw.out
    by_cases hlt : k < L.length
    · have hltI : (k : Int) < (L.length : Int) := by omega
      obtain ⟨_, _, he, _, hcc⟩ := HA.out.later HBW.out rfl
      cases he
      obtain ⟨g, off, rfl, hg, hcells⟩ := hcc (by intro e; rw [e] at hlt; exact absurd hlt (Nat.not_lt_zero _))
      obtain ⟨d0, d1, _, _⟩ := hcells k hlt
      clear hcells hcc hg
      have HM : Hid (meetB x y (sg L k).a (sg L k).s = (decide (X ≤ n64 ((sg L k).a + ((sg L k).s - 1#64))) && decide (n64 (sg L k).a ≤ z))) := by unfold Hid meetB; rw [HXX.out, HZ.out]
      have cL := fun (wx : World) => rlast_c (sg L k).a (sg L k).s wx _ rfl
      have HT : Hid (meetB x y (sg L k).a (sg L k).s = true → anyM L x y L.length = true) := fun h => anyM_true hlt h
      have HN : Hid (meetB x y (sg L k).a (sg L k).s = false → anyM L x y (k + 1) = false) := fun h => by rw [anyM, HF.out, h]; rfl
      generalize decide (((sg L k).a + ((sg L k).s - 1#64)).toNat < (sg L k).a.toNat) = bo at cL
      generalize n64 ((sg L k).a + ((sg L k).s - 1#64)) = V at *
      generalize n64 (sg L k).a = A at *
      generalize n64 (sg L k).s = S at *
      generalize meetB x y (sg L k).a (sg L k).s = mb at *
      have HCL : Hid (∀ wx : World, Calls Tryz.prog 59 #[.int .u64 A, .int .u64 S] wx fun e w' => e = .returned (.tuple #[.int .u64 V, .bool (!bo)]) ∧ w' = wx) := fun wx => (cL wx).mono fun _ _ h => ⟨h.1, h.2.symm⟩
      clear cL
      go_upto_region 5 with fail
      go_quiet ((first | (go_at_call 59; exact Calls.quiet_of_same (HCL.out _)) | fail))
      by_cases h1 : X ≤ V
      · by_cases h2 : A ≤ z
        · have HE : Hid (anyM L x y L.length = true) := HT.out (by rw [HM.out, decide_eq_true h1, decide_eq_true h2]; rfl)
          go_wp2
          --@CUT1
          go_ret
          exact ⟨by rw [HE.out]; first | rfl | simp, below_drewM HBW.out _⟩
        · have HE : Hid (anyM L x y (k + 1) = false) := HN.out (by rw [HM.out, decide_eq_false h2, Bool.and_false])
          have h2d : decide (A ≤ z) = false := decide_eq_false h2
          go_wp2
          go_roundw
          case rel => exact ⟨k + 1, by omega, by go_num, HE, below_drewM hw.out _⟩
          case measure => simp only [intOf]; omega
      · have HE : Hid (anyM L x y (k + 1) = false) := HN.out (by rw [HM.out, decide_eq_false h1]; rfl)
        have h1d : decide (X ≤ V) = false := decide_eq_false h1
        go_wp2
        go_roundw
        case rel => exact ⟨k + 1, by omega, by go_num, HE, below_drewM hw.out _⟩
        case measure => simp only [intOf]; omega
    · obtain rfl : k = L.length := by omega
      have hltI : ¬ ((L.length : Int) < L.length) := by omega
      go_wp2
      go_ret
      exact ⟨by rw [HF.out]; first | rfl | simp, HBW.out⟩
end Go.Proofs.YtheeogbmljjbdaaGreatDoor
