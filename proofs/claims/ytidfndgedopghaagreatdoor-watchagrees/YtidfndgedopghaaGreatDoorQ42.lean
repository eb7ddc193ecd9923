/-
  Uo.
-/
import Derived.Test.YtidfndgedopghaaGreatDoorQ41
namespace Go.Proofs.YtidfndgedopghaaGreatDoor
set_option linter.unusedVariables false
set_option maxRecDepth 100000
set_option maxHeartbeats 4000000
open Go.ChangeShapes Go.WideShapes Go.ChangeAt Go.RowKit Go.Deep
/-- Memory while a trace is looked through. -/
structure Tg (w : World) (cs : Array Value) (v : Value) (g g1 gm b : Nat) (wr : World) : Prop where
  be : Below w.heap.size w wr
  r0 : Row wr w.heap.size cs 35
  r1 : Row wr g1 #[v] 22
  rm : Row wr gm #[.map (some b)] 57
  tb : Row wr g (tA g1 gm) 62
theorem Tg.later {w : World} {cs : Array Value} {v : Value} {g g1 gm b : Nat} {wr w' : World} (h : Tg w cs v g g1 gm b wr) (hb : Below wr.heap.size wr w') : Tg w cs v g g1 gm b w' :=
  ⟨h.be.trans (hb.mono h.be.size), h.r0.later hb h.r0.lt, h.r1.later hb h.r1.lt, h.rm.later hb h.rm.lt, h.tb.later hb h.tb.lt⟩
theorem Tg.put {w : World} {cs : Array Value} {v : Value} {g g1 gm b : Nat} {wr w' : World} (h : Tg w cs v g g1 gm b wr) (hg : wr.grownBy w' (some b)) (hm : ∃ es ck, wr.heap[b]? = some (.map es ck)) (hb : w.heap.size ≤ b) : Tg w cs v g g1 gm b w' :=
  ⟨h.be.grown hg h.be.size (fun k hk => by cases hk; exact hb), h.r0.keep hg hm, h.r1.keep hg hm, h.rm.keep hg hm, h.tb.keep hg hm⟩
set_option maxHeartbeats 8000000 in
theorem trace_c (l : List Rw) (v : Value) (K : Cp) (f c : Int) (u : Value) (w : World) (hv : Rws w v l) (hL : l.length ≤ 140737488351232) (hW : ∀ r ∈ l, (Lit.int .i64 r.kd).wf = true) :
    Calls Tryz.prog 7 #[.agg (trc v K f c u)] w fun e w' => e = .returned (.tuple #[.int .i64 (trV (kpB l) l.length (enV l K)).1, .int .i64 (trV (kpB l) l.length (enV l K)).2]) ∧ Below w.heap.size w w' := by
  have hmk := mkMapI
  obtain ⟨W0, hW0, r0, b0, s0⟩ := start1 w (trc v K f c u) 35
  have HV := Hid.mkU hv
  have HE : Hid (∀ W, Below w.heap.size w W → Calls Tryz.prog 18 #[.agg (trc v K f c u)] W fun e w' => e = .returned (.bool (enV l K)) ∧ Below W.heap.size W w') := fun W hb => ends_c l v K f c u W (hv.later hb) hL
  have HT : Hid (∀ j g1 gm b n k W, Row W g1 #[v] 22 → Row W gm #[.map (some b)] 57 → Below w.heap.size w W → Mi (cnK l j) b n W → j < l.length → k < 5 → Calls Tryz.prog (tF k) (#[.int .i64 j] ++ tV g1 gm k) W fun e w' => e = .returned (.bool (kpB l k j)) ∧ Below W.heap.size W w') := fun j g1 gm b n k W h1 h2 h3 h4 h5 h6 => trule_c l v j g1 gm b n k W h1 h2 (hv.later h3) h4 h5 hL h6
  have HHIT : Hid (∀ k j, k < 5 → j < l.length → (∀ q, q < k → ∀ x, x < l.length → kpB l q x = true) → (∀ x, x < j → kpB l k x = true) → kpB l k j = false → trV (kpB l) l.length (enV l K) = ((k : Int) + 1, (j : Int))) := fun k j h1 h2 h3 h4 h5 => by
    unfold trV
    rw [trK_hit (kpB l) l.length 5 0 k j (Nat.zero_le _) (by omega) (fun q _ hq => h3 q hq) h2 h4 h5]; rfl
  have HNO : Hid ((∀ q, q < 5 → ∀ x, x < l.length → kpB l q x = true) → trV (kpB l) l.length (enV l K) = if enV l K then (0, 0) else (6, (l.length : Int))) := fun h => by
    unfold trV
    rw [trK_none (kpB l) l.length 5 0 (fun q _ hq => h q (by omega))]; rfl
  have HWF : Hid (∀ j, j < l.length → (Lit.int .i64 (l.getD j rz).kd).wf = true) := fun j hj => hW _ (by simp [hj])
  obtain ⟨a, cap, rfl, -, -, hrow⟩ := hv
  have c0 : W0.cell? ⟨w.heap.size, 0, none⟩ = some (.slice a l.length cap) := (r0.out.cell 0).trans (trc_v ..)
  have HB0 := Hid.mkU b0.out
  have HS0 : Hid (W0.heap.size = w.heap.size + 1) := s0
  have HR : Hid (l ≠ [] → ∃ g off, a = some ⟨g, off, none⟩ ∧ g < w.heap.size ∧ ∀ j, j < l.length → ∀ i v, (rwc (l.getD j rz))[i]? = some v → w.cell? ⟨g, off + j * 16 + i, none⟩ = some v) := hrow
  clear hrow b0 s0 hW
  have Hcs : Hid ((trc (.slice a l.length cap) K f c u)[0]? = some (.slice a l.length cap)) := trc_v ..
  have Hci : Hid ((Tryz.prog.info? 35).map (·.size) = some (trc (.slice a l.length cap) K f c u).size) := info_tr ..
  generalize trV (kpB l) l.length (enV l K) = Z at *
  generalize trc (.slice a l.length cap) K f c u = cs at *
  go_enter Tryz.func7, Tryz.ntmps7
  go_upto_region 1 with fail
  clear hW0
  go_upto_region 2 with fail
  --@R2
  have r0' := Hid.mkU (r0.out.old r0.out.lt (.map #[] 0))
  have c0' : (W0.alloc (.map #[] 0)).cell? ⟨w.heap.size, 0, none⟩ = some (.slice a l.length cap) := by rw [(below_al W0 (.map #[] 0)).cell r0.out.lt]; exact c0
  have HM0 := Hid.mkU (Mi.made W0)
  have HBA : Hid (Below w.heap.size w (W0.alloc (.map #[] 0))) := HB0.out.trans ((below_al _ _).mono HB0.out.size)
  have hbb : Hid (w.heap.size ≤ W0.heap.size) := HB0.out.size
  generalize W0.heap.size = b at *
  generalize W0.alloc (.map #[] 0) = W1 at *
  clear c0 r0 HB0 HS0 hmk
  go_wp2_with (go_at_call 17; refine (rowRules_c a l.length cap b _).mono ?_; rintro e w2 ⟨g, g1, gm, rfl, h1, h2, h3, h4⟩; have HG : Hid (Tg w cs (.slice a l.length cap) g g1 gm b w2) := ⟨HBA.out.trans (h4.mono HBA.out.size), r0'.out.later h4 r0'.out.lt, h1, h2, h3⟩; have HM2 := Hid.mkU (HM0.out.later h4); clear h1 h2 h3 h4)
  --@L
  clear HBA r0' HM0 c0'
  go_loopw [15] (fun i wr => ∃ k : Nat, k ≤ 5 ∧ i = .int .i64 k ∧ Hid (∀ q, q < k → ∀ x, x < l.length → kpB l q x = true) ∧ Hid (Tg w cs (.slice a l.length cap) g g1 gm b wr) ∧ Hid (∃ T n, Mi T b n wr)) (fun i _ => 5 - (intOf i).toNat)
  case atStart => exact ⟨0, by omega, rfl, fun q hq => absurd hq (Nat.not_lt_zero _), HG.out, ⟨_, _, HM2.out⟩⟩
  case round =>
    obtain ⟨k, hk, rfl, hf, hg, hm⟩ := hrel
    clear HG HM2
    by_cases hlt : k < 5
    · obtain ⟨T0, n0, hm0⟩ := hm.out
      have hcf := tF_call k hlt
      have HQ := Hid.mkU (tA_at g1 gm k hlt)
      have C1 : Hid (∀ j v, (#[.int .i64 ((k : Int) + 1), .func (.func (tF k)) #[] (tV g1 gm k)] : Array Value)[j]? = some v → wr.cell? ⟨g, k * 2 + j, none⟩ = some v) := fun j v hv => by
        rw [hg.out.tb.cell, Nat.mul_comm k 2]
        match j, hv with
        | 0, hv => rw [Nat.add_zero, HQ.out.1]; exact hv
        | 1, hv => rw [HQ.out.2]; exact hv
        | j + 2, hv => simp at hv
      have HC : Hid (∀ j n W, Tg w cs (.slice a l.length cap) g g1 gm b W → Mi (cnK l j) b n W → j < l.length → Calls Tryz.prog (tF k) (#[.int .i64 j] ++ tV g1 gm k) W fun e w' => e = .returned (.bool (kpB l k j)) ∧ Below W.heap.size W w') := fun j n W h1 h2 h3 => HT.out j g1 gm b n k W h1.r1 h1.rm h1.be h2 h3 hlt
      have HH : Hid (∀ j, j < l.length → (∀ x, x < j → kpB l k x = true) → kpB l k j = false → Z = ((k : Int) + 1, (j : Int))) := fun j h1 h2 h3 => HHIT.out k j hlt h1 hf.out h2 h3
      have HF : Hid ((∀ x, x < l.length → kpB l k x = true) → ∀ q, q < k + 1 → ∀ x, x < l.length → kpB l q x = true) := fun h q hq => by
        by_cases e : q = k
        · rw [e]; exact h
        · exact hf.out q (by omega)
      clear HT HHIT HNO HQ hf hm
      generalize kpB l k = p at *
      generalize tF k = fk at *
      generalize tV g1 gm k = vk at *
      have hlt2 : (k : Int) < 5 := by omega
      have HGV := Hid.mkU (hg.out.later (below_al wr (.cells #[.int .i64 ((k : Int) + 1), .func (.func fk) #[] vk] 62)))
      have hmV := hm0.later (below_al wr (.cells #[.int .i64 ((k : Int) + 1), .func (.func fk) #[] vk] 62))
      have R6 := Row.new wr #[.int .i64 ((k : Int) + 1), .func (.func fk) #[] vk] 62
      obtain ⟨w3, hcl, hM3, hgr3⟩ := hmV.clear
      have HG3 := Hid.mkU (HGV.out.put hgr3 hmV.row hbb.out)
      have H6 := Hid.mkU (R6.keep hgr3 hmV.row)
      have c0 : w3.cell? ⟨w.heap.size, 0, none⟩ = some (.slice a l.length cap) := (HG3.out.r0.cell 0).trans Hcs.out
      have HM3 : Hid (Mi (cnK l 0) b 0 w3) := by
        have e : cnK l 0 = fun _ => 0 := funext fun q => cnK_zero l q
        show Mi _ _ _ _
        rw [e]; exact hM3
      have hz : ∀ w, (zeroValue 62).run Tryz.prog w = .ok (.agg #[.int .i64 0, .nilFunc]) w := fun w => by kernel_rfl
      clear HGV hmV R6 hM3 hgr3 hm0 hg
      --@I
      go_wp2_with (first | (refine wpList_load_agg (by rfl) 62 _ (by rfl) g (k * 2) (by rfl) #[.int .i64 ((k : Int) + 1), .func (.func fk) #[] vk] _ C1.out Tryz.underlying62 (by rfl) (by kernel_rfl) ?_) | (refine wpList_store_new (by rfl) 62 _ _ (by rfl) (by rfl) #[.int .i64 0, .nilFunc] #[.int .i64 ((k : Int) + 1), .func (.func fk) #[] vk] (by rfl) (by rfl) (by kernel_rfl) (by rfl) (by simp [Value.oneCell']) ?_))
      --@J
      generalize wr.heap.size = g6 at *
      clear hcl C1 hz c0
      go_loopw [23] (fun i wr => ∃ j : Nat, j ≤ l.length ∧ i = .int .i64 j ∧ Hid (∀ x, x < j → p x = true) ∧ Hid (Tg w cs (.slice a l.length cap) g g1 gm b wr) ∧ Hid (Row wr g6 #[.int .i64 ((k : Int) + 1), .func (.func fk) #[] vk] 62) ∧ Hid (∃ n, n ≤ j ∧ Mi (cnK l j) b n wr)) (fun i _ => l.length - (intOf i).toNat)
      case atStart => exact ⟨0, Nat.zero_le _, rfl, fun x hx => absurd hx (Nat.not_lt_zero _), HG3.out, H6.out, ⟨0, Nat.le_refl _, HM3.out⟩⟩
      case round =>
        obtain ⟨j, hj, rfl, hf, hg, h6, hm⟩ := hrel
        clear HG3 H6 HM3
        by_cases hlj : j < l.length
        · obtain ⟨n1, hn1, hm1⟩ := hm.out
          have hlj2 : (j : Int) < (l.length : Int) := by omega
          obtain ⟨gr, off, har, hgr, hcr⟩ := HR.out (by intro e; rw [e] at hlj; exact absurd hlj (by simp))
          subst har
          have CR : Hid (∀ i v, (rwc (l.getD j rz))[i]? = some v → wr.cell? ⟨gr, off + j * 16 + i, none⟩ = some v) := fun i v hv => (hg.out.be.cell hgr).trans (hcr j hlj i v hv)
          have hwf := HWF.out j hlj
          have hcc := cnK_bd l j (l.getD j rz).kd
          have hsu := cnK_succ l j hlj
          generalize hr : l.getD j rz = r at *
          clear hr hcr
          have R8 := Hid.mkU (Row.new wr (rwc r) 52)
          have H62 := Hid.mkU (h6.out.old h6.out.lt (.cells (rwc r) 52))
          have HG2 := Hid.mkU (hg.out.later (below_al wr (.cells (rwc r) 52)))
          have hM2 := Hid.mkU (hm1.later (below_al wr (.cells (rwc r) 52)))
          have c6a : (wr.alloc (.cells (rwc r) 52)).cell? ⟨g6, 1, none⟩ = some (.func (.func fk) #[] vk) := H62.out.cell 1
          have HCJ := Hid.mkU (HC.out j n1 _ HG2.out hM2.out hlj)
          have HHJ := Hid.mkU (HH.out j hlj hf.out)
          have HFJ : Hid (p j = true → ∀ x, x < j + 1 → p x = true) := fun h x hx => by
            by_cases e : x = j
            · rw [e]; exact h
            · exact hf.out x (by omega)
          have hzr := zero_rw
          have hsuH := Hid.mkU hsu
          clear hsu hm hm1 hg h6 hf
          generalize p j = q at *
          generalize hcE : cnK l j r.kd = cc at *
          have HCE := Hid.mkU hcE
          clear hcE
          have hn2 : n1 ≤ 140737488351232 := by omega
          cases q with
          | false =>
            have HV := Hid.mkU (HHJ.out rfl)
            clear HHJ HFJ
            go_wp2_with (first | (refine wpList_load_agg (by rfl) 52 _ (by rfl) gr (off + j * 16) (by rfl) (rwc r) _ CR.out Tryz.underlying52 (by rfl) (info_rw _) ?_) | (refine wpList_store_new (by rfl) 52 _ _ (by rfl) (by rfl) (rwc rz) (rwc r) (by rfl) (by rfl) (info_rw _) (by rfl) (rwc_ones _) ?_) | (refine HCJ.out.mono ?_; rintro e w5 ⟨rfl, hb5⟩; have HG5 := Hid.mkU (HG2.out.later hb5); have H65 := Hid.mkU (H62.out.later hb5 H62.out.lt); have hM5 := hM2.out.later hb5; have c6b : w5.cell? ⟨g6, 0, none⟩ = some (.int .i64 ((k : Int) + 1)) := H65.out.cell 0; have c8 : w5.cell? ⟨wr.heap.size, 1, none⟩ = some (.int .i64 r.kd) := (R8.out.later hb5 R8.out.lt).cell 1; have hlk := hM5.look r.kd hwf; rw [HCE.out] at hlk; clear hb5))
            go_ret2
            exact ⟨by rw [HV.out]; rfl, HG5.out.be⟩
          | true =>
            have HV := Hid.mkU (HFJ.out rfl)
            clear HHJ HFJ
            go_wp2_with (first | (refine wpList_load_agg (by rfl) 52 _ (by rfl) gr (off + j * 16) (by rfl) (rwc r) _ CR.out Tryz.underlying52 (by rfl) (info_rw _) ?_) | (refine wpList_store_new (by rfl) 52 _ _ (by rfl) (by rfl) (rwc rz) (rwc r) (by rfl) (by rfl) (info_rw _) (by rfl) (rwc_ones _) ?_) | (refine HCJ.out.mono ?_; rintro e w5 ⟨rfl, hb5⟩; have HG5 := Hid.mkU (HG2.out.later hb5); have H65 := Hid.mkU (H62.out.later hb5 H62.out.lt); have hM5 := hM2.out.later hb5; have c6b : w5.cell? ⟨g6, 0, none⟩ = some (.int .i64 ((k : Int) + 1)) := H65.out.cell 0; have c8 : w5.cell? ⟨wr.heap.size, 1, none⟩ = some (.int .i64 r.kd) := (R8.out.later hb5 R8.out.lt).cell 1; have hlk := hM5.look r.kd hwf; rw [HCE.out] at hlk; obtain ⟨w6, hup, hM6, hgr6⟩ := hM5.update hn2 r.kd (cc + 1) hwf; have HG6 := Hid.mkU (HG5.out.put hgr6 hM5.row hbb.out); have H66 := Hid.mkU (H65.out.keep hgr6 hM5.row); have HM6 := Hid.mkU hM6; clear hM6 hgr6 hb5))
            go_roundw
            case rel =>
              refine ⟨j + 1, by omega, by go_num, HV, HG6, H66, ⟨n1 + 1, by omega, ?_⟩⟩
              have e : cnK l (j + 1) = fun q => if q = r.kd then cc + 1 else cnK l j q := funext hsuH.out
              rw [e]; exact HM6.out
            case measure => simp [intOf]; omega
        · obtain ⟨n1, hn1, hm1⟩ := hm.out
          have HV := Hid.mkU (HF.out (fun x hx => hf.out x (by omega)))
          have hge : ¬ ((j : Int) < (l.length : Int)) := by omega
          have hm2 : Hid (∃ T n, Mi T b n wr) := ⟨_, _, hm1⟩
          clear hm hm1 hf HF HH HC hcf
          go_wp2
          go_roundw
          case rel => exact ⟨k + 1, by omega, by go_num, HV, hg, hm2⟩
          case measure => simp [intOf]; omega
    · have HV := Hid.mkU (HNO.out (fun q hq => hf.out q (by omega)))
      have hge : ¬ ((k : Int) < 5) := by omega
      have HEE := Hid.mkU (HE.out wr hg.out.be)
      have HCI := Hid.mkU (hg.out.r0)
      have c0 : ∀ W, Below wr.heap.size wr W → W.cell? ⟨w.heap.size, 0, none⟩ = some (.slice a l.length cap) := fun W hb => ((hg.out.r0.later hb hg.out.r0.lt).cell 0).trans Hcs.out
      have C0 := Hid.mkU c0
      clear HT HHIT HNO hf hm HE c0
      generalize enV l K = z at *
      --@E
      cases z with
      | true =>
        go_wp2_with (first | (refine wpList_load_row (by rfl) _ _ (by rfl) _ (by rfl) 35 _ (0, 0) _ HCI.out Tryz.underlying35 (by rfl) Hci.out ?_) | (go_at_call 18; refine HEE.out.mono ?_; rintro e w4 ⟨rfl, hb4⟩; have HB4b : Hid (Below wr.heap.size wr w4) := hb4; have HB4 := Hid.mkU (hg.out.be.trans (hb4.mono hg.out.be.size)); clear hb4))
        go_ret2
        exact ⟨by rw [HV.out]; rfl, HB4.out⟩
      | false =>
        go_upto_region 14 with fail
        go_upto_region 15 with (first | (refine wpList_load_row (by rfl) _ _ (by rfl) _ (by rfl) 35 _ (0, 0) _ HCI.out Tryz.underlying35 (by rfl) Hci.out ?_) | (go_at_call 18; refine HEE.out.mono ?_; rintro e w4 ⟨rfl, hb4⟩; have HB4b : Hid (Below wr.heap.size wr w4) := hb4; have HB4 := Hid.mkU (hg.out.be.trans (hb4.mono hg.out.be.size)); clear hb4))
        have c1 : ∀ x : Later w4, x.1.cell? ⟨w.heap.size, 0, none⟩ = some (.slice a l.length cap) := fun x => C0.out x.1 (HB4b.out.trans (x.2.mono HB4b.out.size))
        have hne := later_nonempty w4
        refine wp_region_later (x0 := Later.start w4) (by kernel_rfl) (by kernel_rfl) ?_
        iterate 2 (go_big_quiet_step (fail))
        (go_big_quiet_step (rfl))
        iterate 2 (go_big_quiet_step (fail))
        refine wpQuiet_nil ?_
        rintro _ ⟨yq, rfl⟩
        go_wp2
        go_ret2
        exact ⟨by rw [HV.out]; rfl, HB4.out.trans (yq.2.mono HB4.out.size)⟩
end Go.Proofs.YtidfndgedopghaaGreatDoor
