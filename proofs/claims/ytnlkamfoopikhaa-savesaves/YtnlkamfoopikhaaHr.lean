/-
  Layer 16 (save): the reference's cpu.
-/
import Derived.Test.YtnlkamfoopikhaaHq
namespace Go.Proofs.Ytnlkamfoopikhaa
set_option linter.unusedVariables false
set_option maxRecDepth 100000
open Go.ChangeShapes Go.WideShapes Go.ChangeAt Go.RowKit Go.Deep
theorem dbl_range (f : Nat → BitVec 64) (j : Nat) : dbl ((List.range (j + 1)).map f) = dbl ((List.range j).map f) ++ ptL (f j).toNat 8 := by
  rw [List.range_succ, List.map_append, dbl_append]; simp [dbl]
theorem byt_range (f : Nat → Int) (j : Nat) : (List.range (j + 1)).map f = (List.range j).map f ++ [f j] := by
  rw [List.range_succ, List.map_append]; rfl
def sRow (k : Cp) : Array Value := ((List.range 12).map fun i => .int .u64 (n64 (k.s i))).toArray
theorem sRow_at (k : Cp) (j : Nat) (h : j < 12) : (sRow k)[j]? = some (.int .u64 (n64 (k.s j))) := by simp [sRow, h]
set_option maxHeartbeats 4000000 in
theorem qcpu_c (B : Nat) (vb : Value) (lb : List Int) (k : Cp) (w : World) (hp : Owb B w vb lb) (hlb : lb.length < 100000) (hB : B ≤ w.heap.size) (hm0 : 0 ≤ k.md) (hm1 : k.md ≤ 255) (hs0 : 0 ≤ k.rs) (hs1 : k.rs ≤ 255) :
    Calls Try.prog 29 #[vb, .agg (cpc k)] w fun e w' => ∃ v, e = .returned v ∧ Owb B w' v (lb ++ (cpuS k).flatten) ∧ Fr B w w' := by
  have QN : Hid (∀ W vb lb (x : BitVec 64) (n : Nat), Owb B W vb lb → n ≤ 24 → lb.length < 140737488350000 → B ≤ W.heap.size → Calls Try.prog 33 #[vb, .int .u64 (n64 x), .int .i64 n] W fun e w' => ∃ v, e = .returned v ∧ Owb B w' v (lb ++ ptL x.toNat n) ∧ Fr B W w') := fun W vb lb x n h1 h2 h3 h4 => qnum_b B vb lb x n W h1 h2 h3 h4
  have QF : Hid (∀ W vb lb (b : Bool), Owb B W vb lb → lb.length < 140737488350000 → B ≤ W.heap.size → Calls Try.prog 53 #[vb, .bool b] W fun e w' => ∃ v, e = .returned v ∧ Owb B w' v (lb ++ [fl b]) ∧ Fr B W w') := fun W vb lb b h1 h2 h3 => qflag_c B vb lb b W h1 h2 h3
  obtain ⟨md, hmd⟩ : ∃ md, md = wB k.md := ⟨_, rfl⟩
  have HMD : Hid (k.md = n64 md) := by unfold Hid; rw [hmd]; exact wB_of hm0 (by omega)
  have HM2 := Hid.mk' hmd
  obtain ⟨rs, hrs⟩ : ∃ rs, rs = wB k.rs := ⟨_, rfl⟩
  have HRS : Hid (k.rs = n64 rs) := by unfold Hid; rw [hrs]; exact wB_of hs0 (by omega)
  have HR2 := Hid.mk' hrs
  have hmw : IntKind.u64.wrap (n64 md) = n64 md := by rw [wrap_n64, ofInt_n64]
  have hrw : IntKind.u64.wrap (n64 rs) = n64 rs := by rw [wrap_n64, ofInt_n64]
  have hm2 : 0 ≤ n64 md := n64_lo _
  have hm3 : n64 md ≤ 255 := by rw [← HMD.out]; exact hm1
  have hs2 : 0 ≤ n64 rs := n64_lo _
  have hs3 : n64 rs ≤ 255 := by rw [← HRS.out]; exact hs1
  have HO := Hid.mk' (World.ownsRow.alloc hp (.cells (cpc k) 31))
  have HR : Hid (Row (w.alloc (.cells (cpc k) 31)) w.heap.size (cpc k) 31) := Row.new _ _ _
  have HF := Hid.mk' ((Fr.refl B w).alloc hB (.cells (cpc k) 31))
  have HLB : Hid (lb.length < 100000) := hlb
  have HL0 : Hid (lb.length ≤ lb.length + 0) := Nat.le_refl _
  clear hp hlb hmd hrs hm0 hm1 hs0 hs1
  go_enter Try.func29, Try.ntmps29
  go_upto_region 1 with fail
  obtain ⟨W0, hW⟩ : ∃ W, W = w.alloc (.cells (cpc k) 31) := ⟨_, rfl⟩
  rw [← hW] at HO HR HF ⊢
  obtain ⟨g, hg⟩ : ∃ g, g = w.heap.size := ⟨_, rfl⟩
  rw [← hg] at HR ⊢
  clear hW hg
  have HO0 : Hid (Owb B W0 vb lb) := HO
  have HR0 := Hid.mk' HR.out
  have HF0 := Hid.mk' HF.out
  clear HO HR HF
  obtain ⟨L0, hL0⟩ : ∃ L0, L0 = lb := ⟨_, rfl⟩
  have HE0 := Hid.mk' hL0
  rw [← hL0] at HO0
  have HL0 : Hid (L0.length ≤ lb.length + 0) := by rw [hL0]; exact HL0
  clear hL0
  have cA : W0.cell? ⟨g, 0, none⟩ = some (.int .u64 (n64 (k.pc))) := (HR0.out.cell 0).trans ((cpc_at k 0 (by decide)).trans (congrArg some (cpcell_pc k)))
  go_upto_region 2 with (go_at_call 33; refine (QN.out _ _ L0 (k.pc) 8 HO0.out (by omega) (by have := HL0.out; have := HLB.out; omega) (Nat.le_trans hB HF0.out.b.size)).mono ?_; rintro e W1 ⟨v1, rfl, ho1, hf1⟩; have HO1 := Hid.mk' ho1; have HG1 := Hid.mk' hf1; clear ho1 hf1)
  clear cA
  obtain ⟨L1, hL1⟩ : ∃ L1, L1 = L0 ++ ptL (k.pc).toNat 8 := ⟨_, rfl⟩
  have HE1 := Hid.mk' hL1
  have HL1 : Hid (L1.length ≤ lb.length + 8) := by have := HL0.out; unfold Hid; rw [hL1]; simp [ptL_length]; omega
  rw [← hL1] at HO1
  clear hL1
  have HR1 := Hid.mk' (HR0.out.fr HG1.out (by decide))
  have HF1 := Hid.mk' (HF0.out.trans HG1.out)
  clear HO0 HF0 HL0 HG1 HR0
  go_wp2
  go_loopw [0, 5] (fun v i wr => ∃ j : Nat, j ≤ 32 ∧ i = .int .i64 j ∧ Hid (Owb B wr v (L1 ++ dbl ((List.range j).map k.x))) ∧ Hid (Row wr g (cpc k) 31) ∧ Hid (Fr B w wr)) (fun _ i _ => 32 - (intOf i).toNat)
  case atStart => exact ⟨0, Nat.zero_le _, rfl, by unfold Hid; rw [show dbl ((List.range 0).map k.x) = [] from rfl, List.append_nil]; exact HO1.out, HR1, HF1⟩
  case round =>
  obtain ⟨j, hj, rfl, ho, rHR, hf⟩ := hrel
  clear HO1 HF1 HR1
  by_cases hlt : j < 32
  · have hlt2 : (j : Int) < 32 := by omega
    have hjl : Hid ((L1 ++ dbl ((List.range j).map k.x)).length < 140737488350000) := by have := HL1.out; have := HLB.out; unfold Hid; rw [List.length_append]; simp [dbl_length]; omega
    have cA : wr.cell? ⟨g, 1 + j, none⟩ = some (.int .u64 (n64 (k.x j))) := (rHR.out.cell _).trans ((cpc_at k _ (by omega)).trans (congrArg some (cpcell_x k j hlt)))
    go_wp2_with (go_at_call 33; refine (QN.out _ _ _ (k.x j) 8 ho.out (by omega) hjl.out (Nat.le_trans hB hf.out.b.size)).mono ?_; rintro e w5 ⟨v5, rfl, ho1, hf1⟩; have HO5 := Hid.mk' ho1; have HG5 := Hid.mk' hf1; clear ho1 hf1)
    go_roundw
    case rel => exact ⟨j + 1, by omega, by go_num, by unfold Hid; rw [dbl_range, ← List.append_assoc]; exact HO5.out, rHR.out.fr HG5.out (by decide), hf.out.trans HG5.out⟩
    case measure => simp [intOf]; omega
  have hjn : j = 32 := by omega
  subst hjn
  rw [show ((32 : Nat) : Int) = (32 : Int) from rfl]
  obtain ⟨L2, hL2⟩ : ∃ L2, L2 = L1 ++ dbl ((List.range 32).map k.x) := ⟨_, rfl⟩
  have HE2 := Hid.mk' hL2
  have HL2 : Hid (L2.length ≤ lb.length + 264) := by have := HL1.out; unfold Hid; rw [hL2]; simp [dbl_length]; omega
  rw [← hL2] at ho
  clear hL2 HL1 hlt hj
  have HO2 := Hid.mk' ho.out
  have HF2 := Hid.mk' hf.out
  have HR2 := Hid.mk' rHR.out
  clear ho hf rHR
  obtain ⟨W2, hW2⟩ : ∃ W, W = wr := ⟨_, rfl⟩
  rw [← hW2] at HO2 HF2 HR2 ⊢
  clear hW2
  go_upto_region 6 with fail
  have cA : W2.cell? ⟨g, 33, none⟩ = some (.int .i64 (n64 md)) := (HR2.out.cell 33).trans ((cpc_at k 33 (by decide)).trans (congrArg some ((cpcell_md k).trans (congrArg (Value.int .i64) HMD.out))))
  go_upto_region 7 with (go_at_call 33; refine (QN.out _ _ L2 (md) 1 HO2.out (by omega) (by have := HL2.out; have := HLB.out; omega) (Nat.le_trans hB HF2.out.b.size)).mono ?_; rintro e W3 ⟨v3, rfl, ho1, hf1⟩; have HO3 := Hid.mk' ho1; have HG3 := Hid.mk' hf1; clear ho1 hf1)
  clear cA
  obtain ⟨L3, hL3⟩ : ∃ L3, L3 = L2 ++ ptL (md).toNat 1 := ⟨_, rfl⟩
  have HE3 := Hid.mk' hL3
  have HL3 : Hid (L3.length ≤ lb.length + 265) := by have := HL2.out; unfold Hid; rw [hL3]; simp [ptL_length]; omega
  rw [← hL3] at HO3
  clear hL3
  have HR3 := Hid.mk' (HR2.out.fr HG3.out (by decide))
  have HF3 := Hid.mk' (HF2.out.trans HG3.out)
  clear HO2 HF2 HL2 HG3 HR2
  have cA : W3.cell? ⟨g, 34, none⟩ = some (.bool k.wt) := (HR3.out.cell 34).trans ((cpc_at k 34 (by decide)).trans (congrArg some (cpcell_wt k)))
  go_upto_region 8 with (go_at_call 53; refine (QF.out _ _ L3 k.wt HO3.out (by have := HL3.out; have := HLB.out; omega) (Nat.le_trans hB HF3.out.b.size)).mono ?_; rintro e W4 ⟨v4, rfl, ho1, hf1⟩; have HO4 := Hid.mk' ho1; have HG4 := Hid.mk' hf1; clear ho1 hf1)
  clear cA
  obtain ⟨L4, hL4⟩ : ∃ L4, L4 = L3 ++ [fl k.wt] := ⟨_, rfl⟩
  have HE4 := Hid.mk' hL4
  have HL4 : Hid (L4.length ≤ lb.length + 266) := by have := HL3.out; unfold Hid; rw [hL4]; simp; omega
  rw [← hL4] at HO4
  clear hL4
  have HR4 := Hid.mk' (HR3.out.fr HG4.out (by decide))
  have HF4 := Hid.mk' (HF3.out.trans HG4.out)
  clear HO3 HF3 HL3 HG4 HR3
  have c0 : W4.cell? ⟨g, 35, none⟩ = some (.int .u64 (n64 (k.s 0))) := (HR4.out.cell 35).trans ((cpc_at k 35 (by decide)).trans (congrArg some (cpcell_s k 0 (by decide))))
  have c1 : W4.cell? ⟨g, 36, none⟩ = some (.int .u64 (n64 (k.s 1))) := (HR4.out.cell 36).trans ((cpc_at k 36 (by decide)).trans (congrArg some (cpcell_s k 1 (by decide))))
  have c2 : W4.cell? ⟨g, 37, none⟩ = some (.int .u64 (n64 (k.s 2))) := (HR4.out.cell 37).trans ((cpc_at k 37 (by decide)).trans (congrArg some (cpcell_s k 2 (by decide))))
  have c3 : W4.cell? ⟨g, 38, none⟩ = some (.int .u64 (n64 (k.s 3))) := (HR4.out.cell 38).trans ((cpc_at k 38 (by decide)).trans (congrArg some (cpcell_s k 3 (by decide))))
  have c4 : W4.cell? ⟨g, 39, none⟩ = some (.int .u64 (n64 (k.s 4))) := (HR4.out.cell 39).trans ((cpc_at k 39 (by decide)).trans (congrArg some (cpcell_s k 4 (by decide))))
  have c5 : W4.cell? ⟨g, 40, none⟩ = some (.int .u64 (n64 (k.s 5))) := (HR4.out.cell 40).trans ((cpc_at k 40 (by decide)).trans (congrArg some (cpcell_s k 5 (by decide))))
  have c6 : W4.cell? ⟨g, 41, none⟩ = some (.int .u64 (n64 (k.s 6))) := (HR4.out.cell 41).trans ((cpc_at k 41 (by decide)).trans (congrArg some (cpcell_s k 6 (by decide))))
  have c7 : W4.cell? ⟨g, 42, none⟩ = some (.int .u64 (n64 (k.s 7))) := (HR4.out.cell 42).trans ((cpc_at k 42 (by decide)).trans (congrArg some (cpcell_s k 7 (by decide))))
  have c8 : W4.cell? ⟨g, 43, none⟩ = some (.int .u64 (n64 (k.s 8))) := (HR4.out.cell 43).trans ((cpc_at k 43 (by decide)).trans (congrArg some (cpcell_s k 8 (by decide))))
  have c9 : W4.cell? ⟨g, 44, none⟩ = some (.int .u64 (n64 (k.s 9))) := (HR4.out.cell 44).trans ((cpc_at k 44 (by decide)).trans (congrArg some (cpcell_s k 9 (by decide))))
  have c10 : W4.cell? ⟨g, 45, none⟩ = some (.int .u64 (n64 (k.s 10))) := (HR4.out.cell 45).trans ((cpc_at k 45 (by decide)).trans (congrArg some (cpcell_s k 10 (by decide))))
  have c11 : W4.cell? ⟨g, 46, none⟩ = some (.int .u64 (n64 (k.s 11))) := (HR4.out.cell 46).trans ((cpc_at k 46 (by decide)).trans (congrArg some (cpcell_s k 11 (by decide))))
  go_upto_region 9 with fail
  clear c0 c1 c2 c3 c4 c5 c6 c7 c8 c9 c10 c11
  have HSN : Hid (Row (W4.alloc (.cells (sRow k) 22)) W4.heap.size (sRow k) 22) := Row.new _ _ _
  have HRN := Hid.mk' (HR4.out.old HR4.out.lt (.cells (sRow k) 22))
  have HON := Hid.mk' (World.ownsRow.alloc HO4.out (.cells (sRow k) 22))
  have HFN := Hid.mk' (HF4.out.alloc (Nat.le_trans hB HF4.out.b.size) (.cells (sRow k) 22))
  obtain ⟨W5, hW5⟩ : ∃ W, W = W4.alloc (.cells (sRow k) 22) := ⟨_, rfl⟩
  have hW52 : W5 = W4.alloc (.cells #[.int .u64 (n64 (k.s 0)), .int .u64 (n64 (k.s 1)), .int .u64 (n64 (k.s 2)), .int .u64 (n64 (k.s 3)), .int .u64 (n64 (k.s 4)), .int .u64 (n64 (k.s 5)), .int .u64 (n64 (k.s 6)), .int .u64 (n64 (k.s 7)), .int .u64 (n64 (k.s 8)), .int .u64 (n64 (k.s 9)), .int .u64 (n64 (k.s 10)), .int .u64 (n64 (k.s 11))] 22) := hW5
  rw [← hW5] at HSN HRN HON HFN
  rw [← hW52]
  obtain ⟨g2, hg2⟩ : ∃ g2, g2 = W4.heap.size := ⟨_, rfl⟩
  rw [← hg2] at HSN ⊢
  have HS5 := Hid.mk' HSN.out
  have HR5 := Hid.mk' HRN.out
  have HO5 : Hid (Owb B W5 v4 L4) := HON.out
  have HF5 := Hid.mk' HFN.out
  obtain ⟨L5, hL5⟩ : ∃ L5, L5 = L4 := ⟨_, rfl⟩
  have HE5 := Hid.mk' hL5
  have HL5 : Hid (L5.length ≤ lb.length + 266) := by have := HL4.out; unfold Hid; rw [hL5]; exact this
  rw [← hL5] at HO5
  clear hL5 HO4 HF4 HR4 HL4 HSN HRN HON HFN hW5 hW52 hg2
  go_wp2
  go_loopw [0, 7] (fun v i wr => ∃ j : Nat, j ≤ 12 ∧ i = .int .i64 j ∧ Hid (Owb B wr v (L5 ++ dbl ((List.range j).map k.s))) ∧ Hid (Row wr g (cpc k) 31) ∧ Hid (Row wr g2 (sRow k) 22) ∧ Hid (Fr B w wr)) (fun _ i _ => 12 - (intOf i).toNat)
  case atStart => exact ⟨0, Nat.zero_le _, rfl, by unfold Hid; rw [show dbl ((List.range 0).map k.s) = [] from rfl, List.append_nil]; exact HO5.out, HR5, HS5, HF5⟩
  case round =>
  obtain ⟨j, hj, rfl, ho, rHR, rHS, hf⟩ := hrel
  clear HO5 HF5 HR5 HS5
  by_cases hlt : j < 12
  · have hlt2 : (j : Int) < 12 := by omega
    have hjl : Hid ((L5 ++ dbl ((List.range j).map k.s)).length < 140737488350000) := by have := HL5.out; have := HLB.out; unfold Hid; rw [List.length_append]; simp [dbl_length]; omega
    have cA : wr.cell? ⟨g2, j, none⟩ = some (.int .u64 (n64 (k.s j))) := (rHS.out.cell _).trans (sRow_at k j hlt)
    go_wp2_with (go_at_call 33; refine (QN.out _ _ _ (k.s j) 8 ho.out (by omega) hjl.out (Nat.le_trans hB hf.out.b.size)).mono ?_; rintro e w5 ⟨v5, rfl, ho1, hf1⟩; have HO5 := Hid.mk' ho1; have HG5 := Hid.mk' hf1; clear ho1 hf1)
    go_roundw
    case rel => exact ⟨j + 1, by omega, by go_num, by unfold Hid; rw [dbl_range, ← List.append_assoc]; exact HO5.out, rHR.out.fr HG5.out (by decide), rHS.out.fr HG5.out (by decide), hf.out.trans HG5.out⟩
    case measure => simp [intOf]; omega
  have hjn : j = 12 := by omega
  subst hjn
  rw [show ((12 : Nat) : Int) = (12 : Int) from rfl]
  obtain ⟨L6, hL6⟩ : ∃ L6, L6 = L5 ++ dbl ((List.range 12).map k.s) := ⟨_, rfl⟩
  have HE6 := Hid.mk' hL6
  have HL6 : Hid (L6.length ≤ lb.length + 362) := by have := HL5.out; unfold Hid; rw [hL6]; simp [dbl_length]; omega
  rw [← hL6] at ho
  clear hL6 HL5 hlt hj
  have HO6 := Hid.mk' ho.out
  have HF6 := Hid.mk' hf.out
  have HR6 := Hid.mk' rHR.out
  have HS6 := Hid.mk' rHS.out
  clear ho hf rHR rHS
  obtain ⟨W6, hW6⟩ : ∃ W, W = wr := ⟨_, rfl⟩
  rw [← hW6] at HO6 HF6 HR6 HS6 ⊢
  clear hW6
  clear HS6
  go_wp2
  go_loopw [0, 8] (fun v i wr => ∃ j : Nat, j ≤ 16 ∧ i = .int .i64 j ∧ Hid (Owb B wr v (L6 ++ (List.range j).map (fun i => n8 (k.c i)))) ∧ Hid (Row wr g (cpc k) 31) ∧ Hid (Fr B w wr)) (fun _ i _ => 16 - (intOf i).toNat)
  case atStart => exact ⟨0, Nat.zero_le _, rfl, by unfold Hid; rw [show (List.range 0).map (fun i => n8 (k.c i)) = [] from rfl, List.append_nil]; exact HO6.out, HR6, HF6⟩
  case round =>
  obtain ⟨j, hj, rfl, ho, rHR, hf⟩ := hrel
  clear HO6 HF6 HR6
  by_cases hlt : j < 16
  · have hlt2 : (j : Int) < 16 := by omega
    have hjl : Hid ((L6 ++ (List.range j).map (fun i => n8 (k.c i))).length < 140737488350000) := by have := HL6.out; have := HLB.out; unfold Hid; rw [List.length_append]; simp; omega
    have cA : wr.cell? ⟨g, 47 + j, none⟩ = some (.int .u8 (n8 (k.c j))) := (rHR.out.cell _).trans ((cpc_at k _ (by omega)).trans (congrArg some ((cpcell_p k j (by omega)).trans (by unfold pcell; rw [if_pos hlt]))))
    go_wp2_with (at_builtin; refine appN (by rfl) _ _ (by rfl) B _ _ [n8 (k.c j)] (by rfl) ho.out _ 1 (by rfl) (by rfl) (by simp) (by have := hjl.out; simp at this ⊢; omega) (Nat.le_trans hB hf.out.b.size) ?_; intro v5 w5 ho1 hf1; have HO5 := Hid.mk' ho1; have HG5 := Hid.mk' hf1; clear ho1 hf1)
    go_roundw
    case rel => exact ⟨j + 1, by omega, by go_num, by unfold Hid; rw [byt_range, ← List.append_assoc]; exact HO5.out, rHR.out.fr HG5.out (by decide), hf.out.trans HG5.out⟩
    case measure => simp [intOf]; omega
  have hjn : j = 16 := by omega
  subst hjn
  rw [show ((16 : Nat) : Int) = (16 : Int) from rfl]
  obtain ⟨L7, hL7⟩ : ∃ L7, L7 = L6 ++ (List.range 16).map (fun i => n8 (k.c i)) := ⟨_, rfl⟩
  have HE7 := Hid.mk' hL7
  have HL7 : Hid (L7.length ≤ lb.length + 378) := by have := HL6.out; unfold Hid; rw [hL7]; simp; omega
  rw [← hL7] at ho
  clear hL7 HL6 hlt hj
  have HO7 := Hid.mk' ho.out
  have HF7 := Hid.mk' hf.out
  have HR7 := Hid.mk' rHR.out
  clear ho hf rHR
  obtain ⟨W7, hW7⟩ : ∃ W, W = wr := ⟨_, rfl⟩
  rw [← hW7] at HO7 HF7 HR7 ⊢
  clear hW7
  go_wp2
  go_loopw [0, 9] (fun v i wr => ∃ j : Nat, j ≤ 16 ∧ i = .int .i64 j ∧ Hid (Owb B wr v (L7 ++ dbl ((List.range j).map k.a))) ∧ Hid (Row wr g (cpc k) 31) ∧ Hid (Fr B w wr)) (fun _ i _ => 16 - (intOf i).toNat)
  case atStart => exact ⟨0, Nat.zero_le _, rfl, by unfold Hid; rw [show dbl ((List.range 0).map k.a) = [] from rfl, List.append_nil]; exact HO7.out, HR7, HF7⟩
  case round =>
  obtain ⟨j, hj, rfl, ho, rHR, hf⟩ := hrel
  clear HO7 HF7 HR7
  by_cases hlt : j < 16
  · have hlt2 : (j : Int) < 16 := by omega
    have hjl : Hid ((L7 ++ dbl ((List.range j).map k.a)).length < 140737488350000) := by have := HL7.out; have := HLB.out; unfold Hid; rw [List.length_append]; simp [dbl_length]; omega
    have cA : wr.cell? ⟨g, 63 + j, none⟩ = some (.int .u64 (n64 (k.a j))) := (rHR.out.cell _).trans ((cpc_at k _ (by omega)).trans (congrArg some ((show cpcell k (63 + j) = cpcell k (47 + (16 + j)) from congrArg (cpcell k) (by omega)).trans ((cpcell_p k (16 + j) (by omega)).trans (by unfold pcell; rw [if_neg (by omega), Nat.add_sub_cancel_left])))))
    go_wp2_with (go_at_call 33; refine (QN.out _ _ _ (k.a j) 8 ho.out (by omega) hjl.out (Nat.le_trans hB hf.out.b.size)).mono ?_; rintro e w5 ⟨v5, rfl, ho1, hf1⟩; have HO5 := Hid.mk' ho1; have HG5 := Hid.mk' hf1; clear ho1 hf1)
    go_roundw
    case rel => exact ⟨j + 1, by omega, by go_num, by unfold Hid; rw [dbl_range, ← List.append_assoc]; exact HO5.out, rHR.out.fr HG5.out (by decide), hf.out.trans HG5.out⟩
    case measure => simp [intOf]; omega
  have hjn : j = 16 := by omega
  subst hjn
  rw [show ((16 : Nat) : Int) = (16 : Int) from rfl]
  obtain ⟨L8, hL8⟩ : ∃ L8, L8 = L7 ++ dbl ((List.range 16).map k.a) := ⟨_, rfl⟩
  have HE8 := Hid.mk' hL8
  have HL8 : Hid (L8.length ≤ lb.length + 506) := by have := HL7.out; unfold Hid; rw [hL8]; simp [dbl_length]; omega
  rw [← hL8] at ho
  clear hL8 HL7 hlt hj
  have HO8 := Hid.mk' ho.out
  have HF8 := Hid.mk' hf.out
  have HR8 := Hid.mk' rHR.out
  clear ho hf rHR
  obtain ⟨W8, hW8⟩ : ∃ W, W = wr := ⟨_, rfl⟩
  rw [← hW8] at HO8 HF8 HR8 ⊢
  clear hW8
  go_upto_region 21 with fail
  have cA : W8.cell? ⟨g, 79, none⟩ = some (.bool k.rv) := (HR8.out.cell 79).trans ((cpc_at k 79 (by decide)).trans (congrArg some (cpcell_rv k)))
  go_upto_region 22 with (go_at_call 53; refine (QF.out _ _ L8 k.rv HO8.out (by have := HL8.out; have := HLB.out; omega) (Nat.le_trans hB HF8.out.b.size)).mono ?_; rintro e W9 ⟨v9, rfl, ho1, hf1⟩; have HO9 := Hid.mk' ho1; have HG9 := Hid.mk' hf1; clear ho1 hf1)
  clear cA
  obtain ⟨L9, hL9⟩ : ∃ L9, L9 = L8 ++ [fl k.rv] := ⟨_, rfl⟩
  have HE9 := Hid.mk' hL9
  have HL9 : Hid (L9.length ≤ lb.length + 507) := by have := HL8.out; unfold Hid; rw [hL9]; simp; omega
  rw [← hL9] at HO9
  clear hL9
  have HR9 := Hid.mk' (HR8.out.fr HG9.out (by decide))
  have HF9 := Hid.mk' (HF8.out.trans HG9.out)
  clear HO8 HF8 HL8 HG9 HR8
  have cA : W9.cell? ⟨g, 80, none⟩ = some (.int .u64 (n64 (k.ra))) := (HR9.out.cell 80).trans ((cpc_at k 80 (by decide)).trans (congrArg some (cpcell_ra k)))
  go_upto_region 23 with (go_at_call 33; refine (QN.out _ _ L9 (k.ra) 8 HO9.out (by omega) (by have := HL9.out; have := HLB.out; omega) (Nat.le_trans hB HF9.out.b.size)).mono ?_; rintro e W10 ⟨v10, rfl, ho1, hf1⟩; have HO10 := Hid.mk' ho1; have HG10 := Hid.mk' hf1; clear ho1 hf1)
  clear cA
  obtain ⟨L10, hL10⟩ : ∃ L10, L10 = L9 ++ ptL (k.ra).toNat 8 := ⟨_, rfl⟩
  have HE10 := Hid.mk' hL10
  have HL10 : Hid (L10.length ≤ lb.length + 515) := by have := HL9.out; unfold Hid; rw [hL10]; simp [ptL_length]; omega
  rw [← hL10] at HO10
  clear hL10
  have HR10 := Hid.mk' (HR9.out.fr HG10.out (by decide))
  have HF10 := Hid.mk' (HF9.out.trans HG10.out)
  clear HO9 HF9 HL9 HG10 HR9
  have cA : W10.cell? ⟨g, 81, none⟩ = some (.int .i64 (n64 rs)) := (HR10.out.cell 81).trans ((cpc_at k 81 (by decide)).trans (congrArg some ((cpcell_rs k).trans (congrArg (Value.int .i64) HRS.out))))
  go_wp2_with (go_at_call 33; refine (QN.out _ _ L10 (rs) 1 HO10.out (by omega) (by have := HL10.out; have := HLB.out; omega) (Nat.le_trans hB HF10.out.b.size)).mono ?_; rintro e W11 ⟨v11, rfl, ho1, hf1⟩; have HO11 := Hid.mk' ho1; have HG11 := Hid.mk' hf1; clear ho1 hf1)
  clear cA
  obtain ⟨L11, hL11⟩ : ∃ L11, L11 = L10 ++ ptL (rs).toNat 1 := ⟨_, rfl⟩
  have HE11 := Hid.mk' hL11
  have HL11 : Hid (L11.length ≤ lb.length + 516) := by have := HL10.out; unfold Hid; rw [hL11]; simp [ptL_length]; omega
  rw [← hL11] at HO11
  clear hL11
  have HR11 := Hid.mk' (HR10.out.fr HG11.out (by decide))
  have HF11 := Hid.mk' (HF10.out.trans HG11.out)
  clear HO10 HF10 HL10 HG11 HR10
  have HEND : Hid (L11 = lb ++ (cpuS k).flatten) := by
    unfold Hid
    rw [HE11.out, HE10.out, HE9.out, HE8.out, HE7.out, HE6.out, HE5.out, HE4.out, HE3.out, HE2.out, HE1.out, HE0.out, HM2.out, HR2.out, ptL_one, ptL_one]
    simp [cpuS, dbl, List.range_succ]
  go_ret
  exact ⟨_, rfl, by rw [← HEND.out]; exact HO11.out, HF11.out⟩
end Go.Proofs.Ytnlkamfoopikhaa
