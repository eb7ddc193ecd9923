import Derived.Test.YtiffkbmppmejhaaGreatDoorK33
namespace Go.Proofs.YtiffkbmppmejhaaGreatDoor
set_option linter.unusedVariables false
set_option maxRecDepth 100000
set_option maxHeartbeats 8000000
open Go.MuLone Go.ChangeShapes Go.WideShapes Go.ChangeAt Go.RowKit Go.Deep _root_.Go.Proofs.Tryz
def Pks (B : Nat) (w0 : World) (b c gc : Nat) (w : World) : Prop := ∃ K L S vr vi vo, Kx B w0 b c L S S vr vi vo w ∧ Sok S ∧ Kr B L c vr vi vo w gc (cpc K) 31
theorem nT {P : Program} (ty : TypeId) (g off : Nat) (cs : Array Value) (d : TypeDesc) (w9 : World) (h : ∀ j v, cs[j]? = some v → w9.cell? ⟨g, off + j, none⟩ = some v) (hu : P.underlying ty = some d) (hd : (match d with | .struct _ | .array _ _ => true | _ => false) = true) (hi : (P.info? ty).map (·.size) = some cs.size) :
  ((Instr.loadAt ty (.pointer (some ⟨g, off, none⟩))) >>= fun v => pure (Next.value v)).run P w9 = .ok (.value (.agg cs)) w9 := by
 have hl := fH (P := P) w9 ty g off cs d h hu hd hi
 simp only [Instr.loadAt, Instr.sureAddr, Sem.run_bind, Sem.run_pure, Result.andThen_ok, hl]
theorem FG (hD : DoesC) (hM : IQ) (K : Cp) (S : St) (ar ai ao : Option Addr) (cr ci co : Nat) (O : List Acd) (va : Value) (kd : Int) (w : World) (hT : Tb w) (hs : Bs S (.slice ar S.ram.length cr) (.slice ai S.inp.length ci) (.slice ao S.out.length co) w) (hw : StW S) (lr : S.ram.length ≤ 140737488355328) (li : S.inp.length ≤ 140737488355328) (lo : S.out.length ≤ 140737488355328) (ha : pL w va O) (hl : O.length ≤ 140737488355328) (hok : S.ok = true) :
  Calls prog 9 #[.agg (scc K S (.slice ar S.ram.length cr) (.slice ai S.inp.length ci) (.slice ao S.out.length co) va), .int .i64 kd] w fun e w' => e = .returned (.bool true) ∧ Below w.heap.size w w' := by
 obtain ⟨W0, hW0, r0, b0, s0⟩ := cO w (scc K S (.slice ar S.ram.length cr) (.slice ai S.inp.length ci) (.slice ao S.out.length co) va) 38
 have HSB : Hid (∀ W, Below W0.heap.size W0 W → ∀ j v, (stc S (.slice ar S.ram.length cr) (.slice ai S.inp.length ci) (.slice ao S.out.length co))[j]? = some v → W.cell? ⟨w.heap.size, 82 + j, none⟩ = some v) := fun W hb j v h => by rw [(r0.out.later hb r0.out.lt).cell]; exact JB _ _ _ _ _ _ j v h
 have HSC : Hid (∀ W, Below W0.heap.size W0 W → ∀ j v, (cpc K)[j]? = some v → W.cell? ⟨w.heap.size, 0 + j, none⟩ = some v) := fun W hb j v h => by rw [(r0.out.later hb r0.out.lt).cell]; exact TH _ _ _ _ _ _ j v h
 have HSA : Hid (∀ W, Below W0.heap.size W0 W → W.cell? ⟨w.heap.size, 97, none⟩ = some va) := fun W hb => by rw [(r0.out.later hb r0.out.lt).cell]; exact TG _ _ _ _ _ _
 have HFR : Hid (Calls prog 10 #[.agg (stc S (.slice ar S.ram.length cr) (.slice ai S.inp.length ci) (.slice ao S.out.length co))] W0 fun e w' => ∃ L, e = .returned (.tuple #[.pointer (some ⟨L.b, 0, none⟩), .int .i64 0]) ∧ PB W0.heap.size L S w' ∧ Below W0.heap.size W0 w') := yZ S ar ai ao cr ci co W0 hok (hs.later b0.out).r (hs.later b0.out).i (hs.later b0.out).o lr li lo
 have HRF : Hid (∀ w1, Below W0.heap.size W0 w1 → Calls prog 11 #[.agg (stc S (.slice ar S.ram.length cr) (.slice ai S.inp.length ci) (.slice ao S.out.length co))] w1 fun e w' => ∃ c ur ui uo, e = .returned (.tuple #[.pointer (some ⟨c, 0, none⟩), .int .i64 0]) ∧ RB w1.heap.size c S ur ui uo w' ∧ Below w1.heap.size w1 w') := fun w1 hb => FW S ar ai ao cr ci co w1 hok ((hs.later b0.out).later hb) lr li lo
 have HLV : Hid (∀ W, Tb W → Calls prog 12 #[] W fun e w' => e = .returned (.bool true) ∧ Below W.heap.size W w') := fun W h => zG W h
 have HT0 : Hid (Tb W0) := hT.next b0.out
 have HSK : Hid (Sok S) := ⟨hok, hw⟩
 have HD : Hid DoesC := hD
 have HM : Hid IQ := hM
 obtain ⟨aA, cA, rfl, hcap, hel⟩ := ha
 have HEL : Hid (∀ j, j < O.length → ∃ g off, aA = some ⟨g, off, none⟩ ∧ g < W0.heap.size ∧ ∀ i, i < 5 → ∀ W, Below W0.heap.size W0 W → W.cell? ⟨g, off + j * 5 + i, none⟩ = (acc (O.getD j ⟨0, 0, 0, 0#64, 0#64⟩))[i]?) := fun j hj => by
  obtain ⟨g, off, e, hg, hc⟩ := hel (fun e => by rw [e] at hj; simp at hj)
  refine ⟨g, off, e, Nat.lt_of_lt_of_le hg b0.out.size, fun i hi W hb => ?_⟩
  rw [hb.cell (p := ⟨g, off + j * 5 + i, none⟩) (Nat.lt_of_lt_of_le hg b0.out.size), b0.out.cell (p := ⟨g, off + j * 5 + i, none⟩) hg]
  exact hc j hj i hi
 have HL0 := hid hl
 have hzc := dJ
 clear hs hw lr li lo hok s0 hT hel hcap hl hD hM
 go_enter func9, ntmps9
 go_upto_region 1 with fail
 clear hW0 r0
 go_upto_region 8 with (first | (refine bA (by rfl) _ _ (by rfl) w.heap.size 82 (by rfl) (stc S (.slice ar S.ram.length cr) (.slice ai S.inp.length ci) (.slice ao S.out.length co)) _ (HSB.out _ (Below.refl _ _)) underlying35 (by rfl) (jO _ _ _ _) ?_) | (refine bA (by rfl) _ _ (by rfl) w.heap.size 82 (by rfl) (stc S (.slice ar S.ram.length cr) (.slice ai S.inp.length ci) (.slice ao S.out.length co)) _ (HSB.out _ HB1.out) underlying35 (by rfl) (jO _ _ _ _) ?_) | (go_at_call 10; refine HFR.out.mono ?_; rintro e w1 ⟨L, rfl, hp1, hb1⟩; have HP1 := hid hp1; have HB1 := hid hb1; clear hp1 hb1) | (go_at_call 11; refine (HRF.out _ HB1.out).mono ?_; rintro e w2 ⟨c, vr, vi, vo, rfl, hr2, hb2⟩; have HR2 := hid hr2; have HB2 := hid hb2; have HB3 : Hid (Below W0.heap.size W0 w2) := HB1.out.trans (hb2.mono HB1.out.size); clear hb2 hr2) | (go_at_call 12; refine (HLV.out _ (HT0.out.next HB3.out)).mono ?_; rintro e w3 ⟨rfl, hb4⟩; have HB4 := hid hb4; have HB5 : Hid (Below W0.heap.size W0 w3) := HB3.out.trans (hb4.mono HB3.out.size); clear hb4) | (refine bA (by rfl) _ _ (by rfl) w.heap.size 0 (by rfl) (cpc K) _ (HSC.out _ HB5.out) underlying31 (by rfl) (aC _) ?_) | (refine aO (by rfl) 31 _ _ (by rfl) (by rfl) (cpc cz) (cpc K) (by rfl) (by rfl) (aC _) (by rw [aD, aD]) (aW _) ?_))
 have HK : Hid (Kx W0.heap.size W0 L.b c L S S vr vi vo w3) := by
  have ht : Two W0.heap.size w1.heap.size L c S vr vi vo w2 := ⟨HP1.out.later HB2.out, HP1.out.lt, HR2.out, HB1.out.size⟩
  exact (show Kx W0.heap.size W0 L.b c L S S vr vi vo w2 from ⟨(ht.okb HB1.out.size HSK.out.ok HSK.out.st).m, rfl, HB3.out⟩).later HB4.out
 have HPK : Hid (Pks W0.heap.size W0 L.b c w3.heap.size (w3.alloc (.cells (cpc K) 31))) := ⟨K, L, S, vr, vi, vo, HK.out.later (aI _ _), HSK.out, Kr.new HK.out _ _⟩
 clear HK HP1 HB1 HR2 HB2 HB3 HB4 HB5 HSB HSC HFR HRF HLV HSK
 generalize w3.alloc (.cells (cpc K) 31) = U at HPK ⊢
 generalize w3.heap.size = gc at HPK ⊢
 generalize L.b = b at HPK ⊢
 clear w1 w2 w3 L vr vi vo
 go_wp2
 go_loopw [10] (fun i wr => ∃ j : Nat, j ≤ O.length ∧ i = .int .i64 j ∧ Hid (Pks W0.heap.size W0 b c gc wr)) (fun i _ => O.length - (intOf i).toNat)
 case atStart => exact ⟨0, Nat.zero_le _, rfl, HPK⟩
 case round =>
  obtain ⟨j, hj, rfl, hst⟩ := hrel
  clear HPK
  obtain ⟨K1, L1, S1, vr, vi, vo, hk, hsk, hr⟩ := hst.out
  have c97 := HSA.out wr hk.be
  have hlenI : (O.length : Int) ≤ 140737488355328 := by have := HL0.out; omega
  by_cases hlt : j < O.length
  ·have hltI : (j : Int) < (O.length : Int) := by omega
   by_cases h60 : j < 60
   ·have h60I : (j : Int) < 60 := by omega
    have HKX := hid hk
    have HSO := hid hsk
    have HRC := hid hr
    clear hk hsk hr hst
    --@CUTA
    go_upto_region 11 with fail
    clear c97
    obtain ⟨ga, off, rfl, hga, hcell⟩ := HEL.out j hlt
    obtain ⟨x, hx⟩ : ∃ x, x = O.getD j ⟨0, 0, 0, 0#64, 0#64⟩ := ⟨_, rfl⟩
    have HAC : Hid (∀ W, Below W0.heap.size W0 W → ∀ i v, (acc x)[i]? = some v → W.cell? ⟨ga, off + j * 5 + i, none⟩ = some v) := fun W hb i v h => by
     have hi : i < 5 := by
      by_cases q : i < 5
      ·exact q
      ·rw [Array.getElem?_eq_none (by show 5 ≤ i; omega)] at h; cases h
     rw [hcell i hi W hb, ← hx]; exact h
    clear hcell hx hga
    have HSOK : Hid (Sok (DO S1 K1 x).2) := RJ HSO.out K1 x
    have HDC : Hid (∀ W, Kx W0.heap.size W0 b c L1 S1 S1 vr vi vo W → Calls prog 13 #[.agg (cpc K1), .pointer (some ⟨b, 0, none⟩), .agg (acc x)] W fun e w' => e = .returned (.agg (otc (DO S1 K1 x).1)) ∧ ∃ L', PSt W0.heap.size L1 W L' (DO S1 K1 x).2 w') := fun W hk => by
     have q := HD.out W hk.m.p HSO.out (HT0.out.next hk.be) HT0.out.lt K1 x
     rw [hk.e] at q
     exact q
    have HMC : Hid (∀ L2 W, Kx W0.heap.size W0 b c L2 (DO S1 K1 x).2 S1 vr vi vo W → Calls prog 14 #[.agg (cpc K1), .pointer (some ⟨c, 0, none⟩), .agg (acc x)] W fun e w' => e = .returned (.agg (otc (DO S1 K1 x).1)) ∧ ∃ ur ui uo, RSt W0.heap.size c vr vi vo W ur ui uo (DO S1 K1 x).2 w') := fun L2 W hk => HM.out W hk.m.r HSO.out K1 x
    generalize (DO S1 K1 x).1 = o at HDC HMC
    generalize (DO S1 K1 x).2 = S2 at HSOK HDC HMC
    go_cut [11] from 55 to 62 (fun p wx => ∃ gO L2, p = .pointer (some ⟨gO, 0, none⟩) ∧ Kx W0.heap.size W0 b c L2 S2 S1 vr vi vo wx ∧ Kr W0.heap.size L2 c vr vi vo wx gc (cpc K1) 31 ∧ Kr W0.heap.size L2 c vr vi vo wx gO (otc o) 52 ∧ gc < gO)
    case first =>
     have hS0 : Below W0.heap.size W0 wr.drew ∧ Row wr.drew gc (cpc K1) 31 := ⟨HKX.out.drew.be, HRC.out.drew.r⟩
     refine wp_region_held (S := fun w' => Below W0.heap.size W0 w' ∧ Row w' gc (cpc K1) 31) (by kernel_rfl) ?_
     change wpAnyH _ _ _ _ _ _ _ _ wr.drew
     refine aE 0 (some 55) (v := .agg (cpc K1)) rfl (by kernel_rfl) (by kernel_rfl) (by kernel_rfl) (by kernel_rfl) (fun _ _ _ h => h) (Or.inl ⟨by rfl, fun w9 hSw => ?_⟩) hS0 ?_
     ·have q := bM (P := prog) 31 gc (cpc K1) _ w9 hSw.2 underlying31 (by rfl) (aC _)
      unfold execOp
      exact q
     try simp only [Act.put, List.setIfInBounds_toArray, List.set_cons_zero, List.set_cons_succ]
     refine aE 1 (some 56) (v := .pointer (some ⟨b, 0, none⟩)) rfl (by kernel_rfl) (by kernel_rfl) (by kernel_rfl) (by kernel_rfl) (fun _ _ _ h => h) (Or.inl ⟨by rfl, fun w9 hSw => by go_simp⟩) hS0 ?_
     try simp only [Act.put, List.setIfInBounds_toArray, List.set_cons_zero, List.set_cons_succ]
     refine aE 2 (some 57) (v := .pointer (some ⟨w.heap.size, 97, none⟩)) rfl (by kernel_rfl) (by kernel_rfl) (by kernel_rfl) (by kernel_rfl) (fun _ _ _ h => h) (Or.inl ⟨by rfl, fun w9 hSw => by go_simp⟩) hS0 ?_
     try simp only [Act.put, List.setIfInBounds_toArray, List.set_cons_zero, List.set_cons_succ]
     refine aE 3 (some 58) (v := .slice (some ⟨ga, off, none⟩) O.length cA) rfl (by kernel_rfl) (by kernel_rfl) (by kernel_rfl) (by kernel_rfl) (fun _ _ _ h => h) (Or.inl ⟨by rfl, fun w9 hSw => by have q97 := HSA.out w9 hSw.1; go_simp⟩) hS0 ?_
     try simp only [Act.put, List.setIfInBounds_toArray, List.set_cons_zero, List.set_cons_succ]
     refine aE 4 (some 59) (v := .int .i64 (j : Int)) rfl (by kernel_rfl) (by kernel_rfl) (by kernel_rfl) (by kernel_rfl) (fun _ _ _ h => h) (Or.inl ⟨by rfl, fun w9 hSw => by go_simp⟩) hS0 ?_
     try simp only [Act.put, List.setIfInBounds_toArray, List.set_cons_zero, List.set_cons_succ]
     refine aE 5 (some 60) (v := .pointer (some ⟨ga, off + j * 5, none⟩)) rfl (by kernel_rfl) (by kernel_rfl) (by kernel_rfl) (by kernel_rfl) (fun _ _ _ h => h) (Or.inl ⟨by rfl, fun w9 hSw => by go_simp⟩) hS0 ?_
     try simp only [Act.put, List.setIfInBounds_toArray, List.set_cons_zero, List.set_cons_succ]
     refine aE 6 (some 61) (v := .agg (acc x)) rfl (by kernel_rfl) (by kernel_rfl) (by kernel_rfl) (by kernel_rfl) (fun _ _ _ h => h) (Or.inl ⟨by rfl, fun w9 hSw => ?_⟩) hS0 ?_
     ·have q := nT (P := prog) 55 ga (off + j * 5) (acc x) _ w9 (HAC.out w9 hSw.1) underlying55 (by rfl) (jN _)
      unfold execOp
      exact q
     try simp only [Act.put, List.setIfInBounds_toArray, List.set_cons_zero, List.set_cons_succ]
     refine wpAnyH_ready (rs := [7, 8]) (by kernel_rfl) (by simp) ?_
     refine AllReadyH.cons (o := _) rfl (fun KK hKK => ?_) ?_
     ·
      rw [if_pos (by rfl)]
      go_simp
      go_at_call 13
      have HKY := HKX.out.drew
      refine (HDC.out _ HKY).mono ?_
      rintro e w3 ⟨rfl, L2, hp⟩
      have hk3 := HKY.stepP hp
      have hr3 := HRC.out.drew.stepP hp
      have hS3 : Below W0.heap.size W0 w3 ∧ Row w3 gc (cpc K1) 31 := ⟨hk3.be, hr3.r⟩
      refine hKK.out _ _ hS3 (fun _ => ?_)
      try simp only [Act.put, List.setIfInBounds_toArray, List.set_cons_zero, List.set_cons_succ]
      refine wpAnyH_ready (rs := [8]) (by kernel_rfl) (by simp) ?_
      refine AllReadyH.cons (o := _) rfl (fun KL hKL => ?_) AllReadyH.nil
      rw [if_pos (by rfl)]
      go_simp
      have hk4 := hk3.later (aI w3 (.cells (otc (oz cz)) 52))
      have hr4 := hr3.later (aI w3 (.cells (otc (oz cz)) 52))
      have hn4 := Kr.new hk3 (otc (oz cz)) 52
      have hlt4 : gc < w3.heap.size := hr3.r.lt
      have hS4 : Below W0.heap.size W0 (w3.alloc (.cells (otc (oz cz)) 52)) ∧ Row (w3.alloc (.cells (otc (oz cz)) 52)) gc (cpc K1) 31 := ⟨hk4.be, hr4.r⟩
      refine hKL.out _ _ hS4 (fun _ => ?_)
      try simp only [Act.put, List.setIfInBounds_toArray, List.set_cons_zero, List.set_cons_succ]
      have hk5 := hk4.row hn4 (otc o)
      have hr5 := hr4.far (show gc ≠ w3.heap.size by omega) (otc o)
      have hn5 := hn4.put (otc o)
      have hS5 : Below W0.heap.size W0 ((w3.alloc (.cells (otc (oz cz)) 52)).setRow w3.heap.size (otc o)) ∧ Row ((w3.alloc (.cells (otc (oz cz)) 52)).setRow w3.heap.size (otc o)) gc (cpc K1) 31 := ⟨hk5.be, hr5.r⟩
      refine aN 9 52 (.tmp 11) (.tmp 62) (by kernel_rfl) (by kernel_rfl) w3.heap.size (otc (oz cz)) (otc o) (by rfl) (by rfl) hn4.r (aZ _) (cS _ _) (bT _) hS5 ?_
      try simp only [Act.put, List.setIfInBounds_toArray, List.set_cons_zero, List.set_cons_succ]
      refine wpAnyH_done (by kernel_rfl) ?_ _
      go_wp2_with fail
      go_meet
      exact ⟨w3.heap.size, L2, rfl, hk5, hr5, hn5, by omega⟩
     ·
      refine AllReadyH.cons (o := _) rfl (fun KK hKK => ?_) AllReadyH.nil
      rw [if_pos (by rfl)]
      go_simp
      have HKY := HKX.out.drew.later (aI _ (.cells (otc (oz cz)) 52))
      have hr3 := HRC.out.drew.later (aI _ (.cells (otc (oz cz)) 52))
      have hn3 := Kr.new HKX.out.drew (otc (oz cz)) 52
      have hlt4 : gc < wr.heap.size := HRC.out.r.lt
      have hS3 : Below W0.heap.size W0 (wr.drew.alloc (.cells (otc (oz cz)) 52)) ∧ Row (wr.drew.alloc (.cells (otc (oz cz)) 52)) gc (cpc K1) 31 := ⟨HKY.be, hr3.r⟩
      refine hKK.out _ _ hS3 (fun _ => ?_)
      try simp only [Act.put, List.setIfInBounds_toArray, List.set_cons_zero, List.set_cons_succ]
      refine wpAnyH_ready (rs := [7]) (by kernel_rfl) (by simp) ?_
      refine AllReadyH.cons (o := _) rfl (fun KL hKL => ?_) AllReadyH.nil
      rw [if_pos (by rfl)]
      go_simp
      go_at_call 13
      refine (HDC.out _ HKY).mono ?_
      rintro e w3 ⟨rfl, L2, hp⟩
      have hk4 := HKY.stepP hp
      have hr4 := hr3.stepP hp
      have hn4 := hn3.stepP hp
      have hS4 : Below W0.heap.size W0 w3 ∧ Row w3 gc (cpc K1) 31 := ⟨hk4.be, hr4.r⟩
      refine hKL.out _ _ hS4 (fun _ => ?_)
      try simp only [Act.put, List.setIfInBounds_toArray, List.set_cons_zero, List.set_cons_succ]
      have hk5 := hk4.row hn4 (otc o)
      have hr5 := hr4.far (show gc ≠ wr.heap.size by omega) (otc o)
      have hn5 := hn4.put (otc o)
      have hS5 : Below W0.heap.size W0 (w3.setRow wr.heap.size (otc o)) ∧ Row (w3.setRow wr.heap.size (otc o)) gc (cpc K1) 31 := ⟨hk5.be, hr5.r⟩
      refine aN 9 52 (.tmp 11) (.tmp 62) (by kernel_rfl) (by kernel_rfl) wr.heap.size (otc (oz cz)) (otc o) (by rfl) (by rfl) hn4.r (aZ _) (cS _ _) (bT _) hS5 ?_
      try simp only [Act.put, List.setIfInBounds_toArray, List.set_cons_zero, List.set_cons_succ]
      refine wpAnyH_done (by kernel_rfl) ?_ _
      go_wp2_with fail
      go_meet
      exact ⟨wr.heap.size, L2, rfl, hk5, hr5, hn5, by omega⟩
    case rest =>
    obtain ⟨gO, L2, rfl, hk2, hr2, ho2, hne⟩ := hcut
    have HKX2 := hid hk2
    have HRC2 := hid hr2
    have HRO2 := hid ho2
    have HNE := hid hne
    clear hk2 hr2 ho2 hne HKX HRC HDC
    go_upto_region 12 with fail
    go_cut [12] from 63 to 70 (fun p wx => ∃ gM ur ui uo, p = .pointer (some ⟨gM, 0, none⟩) ∧ Kx W0.heap.size W0 b c L2 S2 S2 ur ui uo wx ∧ Kr W0.heap.size L2 c ur ui uo wx gc (cpc K1) 31 ∧ Kr W0.heap.size L2 c ur ui uo wx gO (otc o) 52 ∧ Kr W0.heap.size L2 c ur ui uo wx gM (otc o) 52)
    case first =>
     have hS0 : Below W0.heap.size W0 wc.drew ∧ Row wc.drew gc (cpc K1) 31 := ⟨HKX2.out.drew.be, HRC2.out.drew.r⟩
     refine wp_region_held (S := fun w' => Below W0.heap.size W0 w' ∧ Row w' gc (cpc K1) 31) (by kernel_rfl) ?_
     change wpAnyH _ _ _ _ _ _ _ _ wc.drew
     refine aE 0 (some 63) (v := .agg (cpc K1)) rfl (by kernel_rfl) (by kernel_rfl) (by kernel_rfl) (by kernel_rfl) (fun _ _ _ h => h) (Or.inl ⟨by rfl, fun w9 hSw => ?_⟩) hS0 ?_
     ·have q := bM (P := prog) 31 gc (cpc K1) _ w9 hSw.2 underlying31 (by rfl) (aC _)
      unfold execOp
      exact q
     try simp only [Act.put, List.setIfInBounds_toArray, List.set_cons_zero, List.set_cons_succ]
     refine aE 1 (some 64) (v := .pointer (some ⟨c, 0, none⟩)) rfl (by kernel_rfl) (by kernel_rfl) (by kernel_rfl) (by kernel_rfl) (fun _ _ _ h => h) (Or.inl ⟨by rfl, fun w9 hSw => by go_simp⟩) hS0 ?_
     try simp only [Act.put, List.setIfInBounds_toArray, List.set_cons_zero, List.set_cons_succ]
     refine aE 2 (some 65) (v := .pointer (some ⟨w.heap.size, 97, none⟩)) rfl (by kernel_rfl) (by kernel_rfl) (by kernel_rfl) (by kernel_rfl) (fun _ _ _ h => h) (Or.inl ⟨by rfl, fun w9 hSw => by go_simp⟩) hS0 ?_
     try simp only [Act.put, List.setIfInBounds_toArray, List.set_cons_zero, List.set_cons_succ]
     refine aE 3 (some 66) (v := .slice (some ⟨ga, off, none⟩) O.length cA) rfl (by kernel_rfl) (by kernel_rfl) (by kernel_rfl) (by kernel_rfl) (fun _ _ _ h => h) (Or.inl ⟨by rfl, fun w9 hSw => by have q97 := HSA.out w9 hSw.1; go_simp⟩) hS0 ?_
     try simp only [Act.put, List.setIfInBounds_toArray, List.set_cons_zero, List.set_cons_succ]
     refine aE 4 (some 67) (v := .int .i64 (j : Int)) rfl (by kernel_rfl) (by kernel_rfl) (by kernel_rfl) (by kernel_rfl) (fun _ _ _ h => h) (Or.inl ⟨by rfl, fun w9 hSw => by go_simp⟩) hS0 ?_
     try simp only [Act.put, List.setIfInBounds_toArray, List.set_cons_zero, List.set_cons_succ]
     refine aE 5 (some 68) (v := .pointer (some ⟨ga, off + j * 5, none⟩)) rfl (by kernel_rfl) (by kernel_rfl) (by kernel_rfl) (by kernel_rfl) (fun _ _ _ h => h) (Or.inl ⟨by rfl, fun w9 hSw => by go_simp⟩) hS0 ?_
     try simp only [Act.put, List.setIfInBounds_toArray, List.set_cons_zero, List.set_cons_succ]
     refine aE 6 (some 69) (v := .agg (acc x)) rfl (by kernel_rfl) (by kernel_rfl) (by kernel_rfl) (by kernel_rfl) (fun _ _ _ h => h) (Or.inl ⟨by rfl, fun w9 hSw => ?_⟩) hS0 ?_
     ·have q := nT (P := prog) 55 ga (off + j * 5) (acc x) _ w9 (HAC.out w9 hSw.1) underlying55 (by rfl) (jN _)
      unfold execOp
      exact q
     try simp only [Act.put, List.setIfInBounds_toArray, List.set_cons_zero, List.set_cons_succ]
     refine wpAnyH_ready (rs := [7, 8]) (by kernel_rfl) (by simp) ?_
     refine AllReadyH.cons (o := _) rfl (fun KK hKK => ?_) ?_
     ·
      rw [if_pos (by rfl)]
      go_simp
      go_at_call 14
      have HKY := HKX2.out.drew
      refine (HMC.out L2 _ HKY).mono ?_
      rintro e w3 ⟨rfl, ur, ui, uo, hp⟩
      have hk3 := HKY.stepR hp
      have hr3 := HRC2.out.drew.stepR hp
      have ho3 := HRO2.out.drew.stepR hp
      have hS3 : Below W0.heap.size W0 w3 ∧ Row w3 gc (cpc K1) 31 := ⟨hk3.be, hr3.r⟩
      refine hKK.out _ _ hS3 (fun _ => ?_)
      try simp only [Act.put, List.setIfInBounds_toArray, List.set_cons_zero, List.set_cons_succ]
      refine wpAnyH_ready (rs := [8]) (by kernel_rfl) (by simp) ?_
      refine AllReadyH.cons (o := _) rfl (fun KL hKL => ?_) AllReadyH.nil
      rw [if_pos (by rfl)]
      go_simp
      have hk4 := hk3.later (aI w3 (.cells (otc (oz cz)) 52))
      have hr4 := hr3.later (aI w3 (.cells (otc (oz cz)) 52))
      have ho4 := ho3.later (aI w3 (.cells (otc (oz cz)) 52))
      have hlo4 : gO < w3.heap.size := ho3.r.lt
      have hn4 := Kr.new hk3 (otc (oz cz)) 52
      have hlt4 : gc < w3.heap.size := hr3.r.lt
      have hS4 : Below W0.heap.size W0 (w3.alloc (.cells (otc (oz cz)) 52)) ∧ Row (w3.alloc (.cells (otc (oz cz)) 52)) gc (cpc K1) 31 := ⟨hk4.be, hr4.r⟩
      refine hKL.out _ _ hS4 (fun _ => ?_)
      try simp only [Act.put, List.setIfInBounds_toArray, List.set_cons_zero, List.set_cons_succ]
      have hk5 := hk4.row hn4 (otc o)
      have hr5 := hr4.far (show gc ≠ w3.heap.size by omega) (otc o)
      have ho5 := ho4.far (show gO ≠ w3.heap.size by omega) (otc o)
      have hn5 := hn4.put (otc o)
      have hS5 : Below W0.heap.size W0 ((w3.alloc (.cells (otc (oz cz)) 52)).setRow w3.heap.size (otc o)) ∧ Row ((w3.alloc (.cells (otc (oz cz)) 52)).setRow w3.heap.size (otc o)) gc (cpc K1) 31 := ⟨hk5.be, hr5.r⟩
      refine aN 9 52 (.tmp 12) (.tmp 70) (by kernel_rfl) (by kernel_rfl) w3.heap.size (otc (oz cz)) (otc o) (by rfl) (by rfl) hn4.r (aZ _) (cS _ _) (bT _) hS5 ?_
      try simp only [Act.put, List.setIfInBounds_toArray, List.set_cons_zero, List.set_cons_succ]
      refine wpAnyH_done (by kernel_rfl) ?_ _
      go_wp2_with fail
      go_meet
      exact ⟨w3.heap.size, ur, ui, uo, rfl, hk5, hr5, ho5, hn5⟩
     ·
      refine AllReadyH.cons (o := _) rfl (fun KK hKK => ?_) AllReadyH.nil
      rw [if_pos (by rfl)]
      go_simp
      have HKY := HKX2.out.drew.later (aI _ (.cells (otc (oz cz)) 52))
      have hr3 := HRC2.out.drew.later (aI _ (.cells (otc (oz cz)) 52))
      have ho3 := HRO2.out.drew.later (aI _ (.cells (otc (oz cz)) 52))
      have hlo4 : gO < wc.heap.size := HRO2.out.r.lt
      have hn3 := Kr.new HKX2.out.drew (otc (oz cz)) 52
      have hlt4 : gc < wc.heap.size := HRC2.out.r.lt
      have hS3 : Below W0.heap.size W0 (wc.drew.alloc (.cells (otc (oz cz)) 52)) ∧ Row (wc.drew.alloc (.cells (otc (oz cz)) 52)) gc (cpc K1) 31 := ⟨HKY.be, hr3.r⟩
      refine hKK.out _ _ hS3 (fun _ => ?_)
      try simp only [Act.put, List.setIfInBounds_toArray, List.set_cons_zero, List.set_cons_succ]
      refine wpAnyH_ready (rs := [7]) (by kernel_rfl) (by simp) ?_
      refine AllReadyH.cons (o := _) rfl (fun KL hKL => ?_) AllReadyH.nil
      rw [if_pos (by rfl)]
      go_simp
      go_at_call 14
      refine (HMC.out L2 _ HKY).mono ?_
      rintro e w3 ⟨rfl, ur, ui, uo, hp⟩
      have hk4 := HKY.stepR hp
      have hr4 := hr3.stepR hp
      have ho4 := ho3.stepR hp
      have hn4 := hn3.stepR hp
      have hS4 : Below W0.heap.size W0 w3 ∧ Row w3 gc (cpc K1) 31 := ⟨hk4.be, hr4.r⟩
      refine hKL.out _ _ hS4 (fun _ => ?_)
      try simp only [Act.put, List.setIfInBounds_toArray, List.set_cons_zero, List.set_cons_succ]
      have hk5 := hk4.row hn4 (otc o)
      have hr5 := hr4.far (show gc ≠ wc.heap.size by omega) (otc o)
      have ho5 := ho4.far (show gO ≠ wc.heap.size by omega) (otc o)
      have hn5 := hn4.put (otc o)
      have hS5 : Below W0.heap.size W0 (w3.setRow wc.heap.size (otc o)) ∧ Row (w3.setRow wc.heap.size (otc o)) gc (cpc K1) 31 := ⟨hk5.be, hr5.r⟩
      refine aN 9 52 (.tmp 12) (.tmp 70) (by kernel_rfl) (by kernel_rfl) wc.heap.size (otc (oz cz)) (otc o) (by rfl) (by rfl) hn4.r (aZ _) (cS _ _) (bT _) hS5 ?_
      try simp only [Act.put, List.setIfInBounds_toArray, List.set_cons_zero, List.set_cons_succ]
      refine wpAnyH_done (by kernel_rfl) ?_ _
      go_wp2_with fail
      go_meet
      exact ⟨wc.heap.size, ur, ui, uo, rfl, hk5, hr5, ho5, hn5⟩
    case rest =>
    obtain ⟨gM, ur, ui, uo, rfl, hk3, hr3, ho3, hm3⟩ := hcut
    clear HKX2 HRC2 HRO2 HMC HSO
    have HKX3 := hid hk3
    have HRC3 := hid hr3
    have HRO3 := hid ho3
    have HRM3 := hid hm3
    clear hk3 hr3 ho3 hm3
    have heq : ∀ W, (Op.equalIn 10000 52 (.agg (otc o)) (.agg (otc o))).run prog W = .ok true W := fun W => JV W o
    have HSP : Hid (∀ W, Below wc.heap.size wc W → Calls prog 16 #[.pointer (some ⟨b, 0, none⟩)] W fun e w' => ∃ x y z, e = .returned (.agg (stc S2 x y z)) ∧ Bs S2 x y z w' ∧ Below W.heap.size W w') := fun W hb => by
     obtain ⟨hn1, hn2, hn3, hn4, _⟩ := HSOK.out.n
     have q := GN W (HKX3.out.later hb).m.p (by omega) (by omega) (by omega)
     rw [HKX3.out.e] at q
     exact q.mono fun e w' ⟨x, y, z, h1, h2, h3⟩ => ⟨x, y, z, h1, h2.bs, h3⟩
    have HSR : Hid (∀ W, Below wc.heap.size wc W → Calls prog 17 #[.pointer (some ⟨c, 0, none⟩)] W fun e w' => ∃ x y z, e = .returned (.agg (stc S2 x y z)) ∧ Bs S2 x y z w' ∧ Below W.heap.size W w') := fun W hb => by
     obtain ⟨hn1, hn2, hn3, hn4, _⟩ := HSOK.out.n
     exact (BC W (HKX3.out.later hb).m.r (by omega) (by omega) (by omega)).mono fun e w' ⟨x, y, z, h1, h2, h3⟩ => ⟨x, y, z, h1, h2.bs, h3⟩
    have HSM : Hid (IT S2) := BW S2
    go_upto_region 15 with (first | (refine wpList_load_row (by rfl) _ _ (by rfl) _ (by rfl) 52 _ (0, 0) _ HRO3.out.r underlying52 (by rfl) (aZ _) ?_) | (refine wpList_load_row (by rfl) _ _ (by rfl) _ (by rfl) 52 _ (0, 0) _ HRM3.out.r underlying52 (by rfl) (aZ _) ?_) | (go_at_call 16; refine (HSP.out _ (Below.refl _ _)).mono ?_; rintro e w4 ⟨x1, y1, z1, rfl, hy4, hb4⟩; have HB4 := hid hb4; have HY4 := hid hy4; clear hb4 hy4) | (go_at_call 17; refine (HSR.out _ HB4.out).mono ?_; rintro e w5 ⟨x2, y2, z2, rfl, hy5, hb5⟩; have HB5 : Hid (Below wc.heap.size wc w5) := HB4.out.trans (hb5.mono HB4.out.size); have HY4b : Hid (Bs S2 x1 y1 z1 w5) := HY4.out.later hb5; have HY5 := hid hy5; clear hb5 hy5) | (go_at_call 15; refine (HSM.out _ _ _ _ _ _ _ HY4b.out HY5.out).mono ?_; rintro e w6 ⟨rfl, hb6⟩; have HB6 : Hid (Below wc.heap.size wc w6) := HB5.out.trans (hb6.mono HB5.out.size); clear hb6))
    refine bE (motive := fun W => Code.wp _ _ _ _ W) (Q := fun W => Kx W0.heap.size W0 b c L2 S2 S2 ur ui uo W ∧ Kr W0.heap.size L2 c ur ui uo W gc (cpc K1) 31 ∧ Kr W0.heap.size L2 c ur ui uo W gO (otc o) 52) ⟨HKX3.out.later HB6.out, HRC3.out.later HB6.out, HRO3.out.later HB6.out⟩ ?_
    clear HKX3 HRC3 HRO3 HRM3 HB4 HY4 HB5 HY4b HY5 HB6 heq HSP HSR HSM
    rintro W7 ⟨hk7, hr7, ho7⟩
    have HKX7 := hid hk7
    have HRC7 := hid hr7
    have HRO7 : Hid (∀ j v, (cpc o.K)[j]? = some v → W7.cell? ⟨gO, 7 + j, none⟩ = some v) := FC ho7.r
    clear hk7 hr7 ho7
    go_wp2_with (first | (refine bA (by rfl) _ _ (by rfl) gO 7 (by rfl) (cpc o.K) _ HRO7.out underlying31 (by rfl) (aC _) ?_) | (refine wpList_store_row (by rfl) _ _ _ (by rfl) (by rfl) _ _ _ (by rfl) (by rfl) HRC7.out.r (aC _) (by rw [aD, aD]) (aW _) ?_))
    go_roundw
    ·exact ⟨j + 1, by omega, by go_num, ⟨o.K, L2, S2, ur, ui, uo, HKX7.out.row HRC7.out _, HSOK.out, HRC7.out.put _⟩⟩
    ·simp only [intOf]; omega
   ·have h60I : ¬ ((j : Int) < 60) := by omega
    go_wp2
    go_ret
    exact ⟨rfl, b0.out.trans (hk.be.mono b0.out.size)⟩
  ·obtain rfl : j = O.length := by omega
   have hltI : ¬ ((O.length : Int) < (O.length : Int)) := by omega
   go_wp2
   go_ret
   exact ⟨rfl, b0.out.trans (hk.be.mono b0.out.size)⟩
end Go.Proofs.YtiffkbmppmejhaaGreatDoor
