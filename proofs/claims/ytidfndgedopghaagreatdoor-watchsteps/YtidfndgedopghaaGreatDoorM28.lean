/-
  Uo Up.
-/
import Derived.Test.YtidfndgedopghaaGreatDoorM27
namespace Go.Proofs.YtidfndgedopghaaGreatDoor
set_option linter.unusedVariables false
set_option maxRecDepth 100000
set_option maxHeartbeats 4000000
open Go.ChangeShapes Go.WideShapes Go.ChangeAt Go.RowKit Go.Deep
/-- Memory while a trace is looked through. -/
structure Tg (w : World) (cs : Array Value) (v : Value) (g g1 gm b : Nat) (wr : World) : Prop where
  be : Below w.heap.size w wr
  r0 : Row wr w.heap.size cs 35
  r1 : Row wr g1 #[v] 22
  rm : Row wr gm #[.map (some b)] 57
  tb : Row wr g (tA g1 gm) 62
theorem Tg.later {w : World} {cs : Array Value} {v : Value} {g g1 gm b : Nat} {wr w' : World} (h : Tg w cs v g g1 gm b wr) (hb : Below wr.heap.size wr w') : Tg w cs v g g1 gm b w' :=
  ⟨h.be.trans (hb.mono h.be.size), h.r0.later hb h.r0.lt, h.r1.later hb h.r1.lt, h.rm.later hb h.rm.lt, h.tb.later hb h.tb.lt⟩
theorem Tg.put {w : World} {cs : Array Value} {v : Value} {g g1 gm b : Nat} {wr w' : World} (h : Tg w cs v g g1 gm b wr) (hg : wr.grownBy w' (some b)) (hm : ∃ es ck, wr.heap[b]? = some (.map es ck)) (hb : w.heap.size ≤ b) : Tg w cs v g g1 gm b w' :=
  ⟨h.be.grown hg h.be.size (fun k hk => by cases hk; exact hb), h.r0.keep hg hm, h.r1.keep hg hm, h.rm.keep hg hm, h.tb.keep hg hm⟩
set_option maxHeartbeats 8000000 in
theorem trace_c (l : List Rw) (v : Value) (K : Cp) (f c : Int) (u : Value) (w : World) (hv : Rws w v l) (hL : l.length ≤ 140737488351232) (hW : ∀ r ∈ l, (Lit.int .i64 r.kd).wf = true) :
    Calls Tryz.prog 7 #[.agg (trc v K f c u)] w fun e w' => e = .returned (.tuple #[.int .i64 (trV (kpB l) l.length (enV l K)).1, .int .i64 (trV (kpB l) l.length (enV l K)).2]) ∧ Below w.heap.size w w' := by
  have hmk := mkMapI
  obtain ⟨W0, hW0, r0, b0, s0⟩ := start1 w (trc v K f c u) 35
  have HV := Hid.mkU hv
  have HE : Hid (∀ W, Below w.heap.size w W → Calls Tryz.prog 18 #[.agg (trc v K f c u)] W fun e w' => e = .returned (.bool (enV l K)) ∧ Below W.heap.size W w') := fun W hb => ends_c l v K f c u W (hv.later hb) hL
  have HT : Hid (∀ j g1 gm b n k W, Row W g1 #[v] 22 → Row W gm #[.map (some b)] 57 → Below w.heap.size w W → Mi (cnK l j) b n W → j < l.length → k < 5 → Calls Tryz.prog (tF k) (#[.int .i64 j] ++ tV g1 gm k) W fun e w' => e = .returned (.bool (kpB l k j)) ∧ Below W.heap.size W w') := fun j g1 gm b n k W h1 h2 h3 h4 h5 h6 => trule_c l v j g1 gm b n k W h1 h2 (hv.later h3) h4 h5 hL h6
  have HHIT : Hid (∀ k j, k < 5 → j < l.length → (∀ q, q < k → ∀ x, x < l.length → kpB l q x = true) → (∀ x, x < j → kpB l k x = true) → kpB l k j = false → trV (kpB l) l.length (enV l K) = ((k : Int) + 1, (j : Int))) := fun k j h1 h2 h3 h4 h5 => by
    unfold trV
    rw [trK_hit (kpB l) l.length 5 0 k j (Nat.zero_le _) (by omega) (fun q _ hq => h3 q hq) h2 h4 h5]; rfl
  have HNO : Hid ((∀ q, q < 5 → ∀ x, x < l.length → kpB l q x = true) → trV (kpB l) l.length (enV l K) = if enV l K then (0, 0) else (6, (l.length : Int))) := fun h => by
    unfold trV
    rw [trK_none (kpB l) l.length 5 0 (fun q _ hq => h q (by omega))]; rfl
  have HWF : Hid (∀ j, j < l.length → (Lit.int .i64 (l.getD j rz).kd).wf = true) := fun j hj => hW _ (by simp [hj])
  obtain ⟨a, cap, rfl, -, -, hrow⟩ := hv
  have c0 : W0.cell? ⟨w.heap.size, 0, none⟩ = some (.slice a l.length cap) := (r0.out.cell 0).trans (trc_v ..)
  have HB0 := Hid.mkU b0.out
  have HS0 : Hid (W0.heap.size = w.heap.size + 1) := s0
  have HR : Hid (l ≠ [] → ∃ g off, a = some ⟨g, off, none⟩ ∧ g < w.heap.size ∧ ∀ j, j < l.length → ∀ i v, (rwc (l.getD j rz))[i]? = some v → w.cell? ⟨g, off + j * 16 + i, none⟩ = some v) := hrow
  clear hrow b0 s0 hW
  have Hcs : Hid ((trc (.slice a l.length cap) K f c u)[0]? = some (.slice a l.length cap)) := trc_v ..
  have Hci : Hid ((Tryz.prog.info? 35).map (·.size) = some (trc (.slice a l.length cap) K f c u).size) := info_tr ..
  generalize trV (kpB l) l.length (enV l K) = Z at *
  generalize trc (.slice a l.length cap) K f c u = cs at *
  go_enter Tryz.func7, Tryz.ntmps7
  go_upto_region 1 with fail
  clear hW0
  go_upto_region 2 with fail
  --@R2
  have r0' := Hid.mkU (r0.out.old r0.out.lt (.map #[] 0))
  have c0' : (W0.alloc (.map #[] 0)).cell? ⟨w.heap.size, 0, none⟩ = some (.slice a l.length cap) := by rw [(below_al W0 (.map #[] 0)).cell r0.out.lt]; exact c0
  have HM0 := Hid.mkU (Mi.made W0)
  have HBA : Hid (Below w.heap.size w (W0.alloc (.map #[] 0))) := HB0.out.trans ((below_al _ _).mono HB0.out.size)
  have hbb : Hid (w.heap.size ≤ W0.heap.size) := HB0.out.size
  generalize W0.heap.size = b at *
  generalize W0.alloc (.map #[] 0) = W1 at *
  clear c0 r0 HB0 HS0 hmk
  go_wp2_with (go_at_call 17; refine (rowRules_c a l.length cap b _).mono ?_; rintro e w2 ⟨g, g1, gm, rfl, h1, h2, h3, h4⟩; have HG : Hid (Tg w cs (.slice a l.length cap) g g1 gm b w2) := ⟨HBA.out.trans (h4.mono HBA.out.size), r0'.out.later h4 r0'.out.lt, h1, h2, h3⟩; have HM2 := Hid.mkU (HM0.out.later h4); clear h1 h2 h3 h4)
  --@L
  clear HBA r0' HM0 c0'
  go_loopw [15] (fun i wr => ∃ k : Nat, k ≤ 5 ∧ i = .int .i64 k ∧ Hid (∀ q, q < k → ∀ x, x < l.length → kpB l q x = true) ∧ Hid (Tg w cs (.slice a l.length cap) g g1 gm b wr) ∧ Hid (∃ T n, Mi T b n wr)) (fun i _ => 5 - (intOf i).toNat)
  case atStart => exact ⟨0, by omega, rfl, fun q hq => absurd hq (Nat.not_lt_zero _), HG.out, ⟨_, _, HM2.out⟩⟩
  case round =>
    obtain ⟨k, hk, rfl, hf, hg, hm⟩ := hrel
    clear HG HM2
    by_cases hlt : k < 5
    · obtain ⟨T0, n0, hm0⟩ := hm.out
      have hcf := tF_call k hlt
      have HQ := Hid.mkU (tA_at g1 gm k hlt)
      have C1 : Hid (∀ j v, (#[.int .i64 ((k : Int) + 1), .func (.func (tF k)) #[] (tV g1 gm k)] : Array Value)[j]? = some v → wr.cell? ⟨g, k * 2 + j, none⟩ = some v) := fun j v hv => by
        rw [hg.out.tb.cell, Nat.mul_comm k 2]
        match j, hv with
        | 0, hv => rw [Nat.add_zero, HQ.out.1]; exact hv
        | 1, hv => rw [HQ.out.2]; exact hv
        | j + 2, hv => simp at hv
      have HC : Hid (∀ j n W, Tg w cs (.slice a l.length cap) g g1 gm b W → Mi (cnK l j) b n W → j < l.length → Calls Tryz.prog (tF k) (#[.int .i64 j] ++ tV g1 gm k) W fun e w' => e = .returned (.bool (kpB l k j)) ∧ Below W.heap.size W w') := fun j n W h1 h2 h3 => HT.out j g1 gm b n k W h1.r1 h1.rm h1.be h2 h3 hlt
      have HH : Hid (∀ j, j < l.length → (∀ x, x < j → kpB l k x = true) → kpB l k j = false → Z = ((k : Int) + 1, (j : Int))) := fun j h1 h2 h3 => HHIT.out k j hlt h1 hf.out h2 h3
      have HF : Hid ((∀ x, x < l.length → kpB l k x = true) → ∀ q, q < k + 1 → ∀ x, x < l.length → kpB l q x = true) := fun h q hq => by
        by_cases e : q = k
        · rw [e]; exact h
        · exact hf.out q (by omega)
      clear HT HHIT HNO HQ hf hm
      generalize kpB l k = p at *
      generalize tF k = fk at *
      generalize tV g1 gm k = vk at *
      have hlt2 : (k : Int) < 5 := by omega
      have HGV := Hid.mkU (hg.out.later (below_al wr (.cells #[.int .i64 ((k : Int) + 1), .func (.func fk) #[] vk] 62)))
      have hmV := hm0.later (below_al wr (.cells #[.int .i64 ((k : Int) + 1), .func (.func fk) #[] vk] 62))
      have R6 := Row.new wr #[.int .i64 ((k : Int) + 1), .func (.func fk) #[] vk] 62
      obtain ⟨w3, hcl, hM3, hgr3⟩ := hmV.clear
      have HG3 := Hid.mkU (HGV.out.put hgr3 hmV.row hbb.out)
      have H6 := Hid.mkU (R6.keep hgr3 hmV.row)
      have c0 : w3.cell? ⟨w.heap.size, 0, none⟩ = some (.slice a l.length cap) := (HG3.out.r0.cell 0).trans Hcs.out
      have HM3 : Hid (Mi (cnK l 0) b 0 w3) := by
        have e : cnK l 0 = fun _ => 0 := funext fun q => cnK_zero l q
        show Mi _ _ _ _
        rw [e]; exact hM3
      have hz : ∀ w, (zeroValue 62).run Tryz.prog w = .ok (.agg #[.int .i64 0, .nilFunc]) w := fun w => by kernel_rfl
      clear HGV hmV R6 hM3 hgr3 hm0 hg
      --@I
      go_wp2_with (first | (refine wpList_load_agg (by rfl) 62 _ (by rfl) g (k * 2) (by rfl) #[.int .i64 ((k : Int) + 1), .func (.func fk) #[] vk] _ C1.out Tryz.underlying62 (by rfl) (by kernel_rfl) ?_) | (refine wpList_store_new (by rfl) 62 _ _ (by rfl) (by rfl) #[.int .i64 0, .nilFunc] #[.int .i64 ((k : Int) + 1), .func (.func fk) #[] vk] (by rfl) (by rfl) (by kernel_rfl) (by rfl) (by simp [Value.oneCell']) ?_))
      --@J
      generalize wr.heap.size = g6 at *
      clear hcl C1 hz c0
      go_loopw [23] (fun i wr => ∃ j : Nat, j ≤ l.length ∧ i = .int .i64 j ∧ Hid (∀ x, x < j → p x = true) ∧ Hid (Tg w cs (.slice a l.length cap) g g1 gm b wr) ∧ Hid (Row wr g6 #[.int .i64 ((k : Int) + 1), .func (.func fk) #[] vk] 62) ∧ Hid (∃ n, n ≤ j ∧ Mi (cnK l j) b n wr)) (fun i _ => l.length - (intOf i).toNat)
      case atStart => exact ⟨0, Nat.zero_le _, rfl, fun x hx => absurd hx (Nat.not_lt_zero _), HG3.out, H6.out, ⟨0, Nat.le_refl _, HM3.out⟩⟩
      case round =>
        obtain ⟨j, hj, rfl, hf, hg, h6, hm⟩ := hrel
        clear HG3 H6 HM3
        by_cases hlj : j < l.length
        · obtain ⟨n1, hn1, hm1⟩ := hm.out
          have hlj2 : (j : Int) < (l.length : Int) := by omega
          obtain ⟨gr, off, har, hgr, hcr⟩ := HR.out (by intro e; rw [e] at hlj; exact absurd hlj (by simp))
          subst har
          have CR : Hid (∀ i v, (rwc (l.getD j rz))[i]? = some v → wr.cell? ⟨gr, off + j * 16 + i, none⟩ = some v) := fun i v hv => (hg.out.be.cell hgr).trans (hcr j hlj i v hv)
          have hwf := HWF.out j hlj
          have hcc := cnK_bd l j (l.getD j rz).kd
          have hsu := cnK_succ l j hlj
          generalize hr : l.getD j rz = r at *
          clear hr hcr
          have R8 := Hid.mkU (Row.new wr (rwc r) 52)
          have H62 := Hid.mkU (h6.out.old h6.out.lt (.cells (rwc r) 52))
          have HG2 := Hid.mkU (hg.out.later (below_al wr (.cells (rwc r) 52)))
          have hM2 := Hid.mkU (hm1.later (below_al wr (.cells (rwc r) 52)))
          have c6a : (wr.alloc (.cells (rwc r) 52)).cell? ⟨g6, 1, none⟩ = some (.func (.func fk) #[] vk) := H62.out.cell 1
          have HCJ := Hid.mkU (HC.out j n1 _ HG2.out hM2.out hlj)
          have HHJ := Hid.mkU (HH.out j hlj hf.out)
          have HFJ : Hid (p j = true → ∀ x, x < j + 1 → p x = true) := fun h x hx => by
            by_cases e : x = j
            · rw [e]; exact h
            · exact hf.out x (by omega)
          have hzr := zero_rw
          have hsuH := Hid.mkU hsu
          clear hsu hm hm1 hg h6 hf
          generalize p j = q at *
          generalize hcE : cnK l j r.kd = cc at *
          have HCE := Hid.mkU hcE
          clear hcE
          have hn2 : n1 ≤ 140737488351232 := by omega
          cases q with
          | false =>
            have HV := Hid.mkU (HHJ.out rfl)
            clear HHJ HFJ
            go_wp2_with (first | (refine wpList_load_agg (by rfl) 52 _ (by rfl) gr (off + j * 16) (by rfl) (rwc r) _ CR.out Tryz.underlying52 (by rfl) (info_rw _) ?_) | (refine wpList_store_new (by rfl) 52 _ _ (by rfl) (by rfl) (rwc rz) (rwc r) (by rfl) (by rfl) (info_rw _) (by rfl) (rwc_ones _) ?_) | (refine HCJ.out.mono ?_; rintro e w5 ⟨rfl, hb5⟩; have HG5 := Hid.mkU (HG2.out.later hb5); have H65 := Hid.mkU (H62.out.later hb5 H62.out.lt); have hM5 := hM2.out.later hb5; have c6b : w5.cell? ⟨g6, 0, none⟩ = some (.int .i64 ((k : Int) + 1)) := H65.out.cell 0; have c8 : w5.cell? ⟨wr.heap.size, 1, none⟩ = some (.int .i64 r.kd) := (R8.out.later hb5 R8.out.lt).cell 1; have hlk := hM5.look r.kd hwf; rw [HCE.out] at hlk; clear hb5))
            go_ret2
            exact ⟨by rw [HV.out]; rfl, HG5.out.be⟩
          | true =>
            have HV := Hid.mkU (HFJ.out rfl)
            clear HHJ HFJ
            go_wp2_with (first | (refine wpList_load_agg (by rfl) 52 _ (by rfl) gr (off + j * 16) (by rfl) (rwc r) _ CR.out Tryz.underlying52 (by rfl) (info_rw _) ?_) | (refine wpList_store_new (by rfl) 52 _ _ (by rfl) (by rfl) (rwc rz) (rwc r) (by rfl) (by rfl) (info_rw _) (by rfl) (rwc_ones _) ?_) | (refine HCJ.out.mono ?_; rintro e w5 ⟨rfl, hb5⟩; have HG5 := Hid.mkU (HG2.out.later hb5); have H65 := Hid.mkU (H62.out.later hb5 H62.out.lt); have hM5 := hM2.out.later hb5; have c6b : w5.cell? ⟨g6, 0, none⟩ = some (.int .i64 ((k : Int) + 1)) := H65.out.cell 0; have c8 : w5.cell? ⟨wr.heap.size, 1, none⟩ = some (.int .i64 r.kd) := (R8.out.later hb5 R8.out.lt).cell 1; have hlk := hM5.look r.kd hwf; rw [HCE.out] at hlk; obtain ⟨w6, hup, hM6, hgr6⟩ := hM5.update hn2 r.kd (cc + 1) hwf; have HG6 := Hid.mkU (HG5.out.put hgr6 hM5.row hbb.out); have H66 := Hid.mkU (H65.out.keep hgr6 hM5.row); have HM6 := Hid.mkU hM6; clear hM6 hgr6 hb5))
            go_roundw
            case rel =>
              refine ⟨j + 1, by omega, by go_num, HV, HG6, H66, ⟨n1 + 1, by omega, ?_⟩⟩
              have e : cnK l (j + 1) = fun q => if q = r.kd then cc + 1 else cnK l j q := funext hsuH.out
              rw [e]; exact HM6.out
            case measure => simp [intOf]; omega
        · obtain ⟨n1, hn1, hm1⟩ := hm.out
          have HV := Hid.mkU (HF.out (fun x hx => hf.out x (by omega)))
          have hge : ¬ ((j : Int) < (l.length : Int)) := by omega
          have hm2 : Hid (∃ T n, Mi T b n wr) := ⟨_, _, hm1⟩
          clear hm hm1 hf HF HH HC hcf
          go_wp2
          go_roundw
          case rel => exact ⟨k + 1, by omega, by go_num, HV, hg, hm2⟩
          case measure => simp [intOf]; omega
    · have HV := Hid.mkU (HNO.out (fun q hq => hf.out q (by omega)))
      have hge : ¬ ((k : Int) < 5) := by omega
      have HEE := Hid.mkU (HE.out wr hg.out.be)
      have HCI := Hid.mkU (hg.out.r0)
      have c0 : ∀ W, Below wr.heap.size wr W → W.cell? ⟨w.heap.size, 0, none⟩ = some (.slice a l.length cap) := fun W hb => ((hg.out.r0.later hb hg.out.r0.lt).cell 0).trans Hcs.out
      have C0 := Hid.mkU c0
      clear HT HHIT HNO hf hm HE c0
      generalize enV l K = z at *
      --@E
      cases z with
      | true =>
        go_wp2_with (first | (refine wpList_load_row (by rfl) _ _ (by rfl) _ (by rfl) 35 _ (0, 0) _ HCI.out Tryz.underlying35 (by rfl) Hci.out ?_) | (go_at_call 18; refine HEE.out.mono ?_; rintro e w4 ⟨rfl, hb4⟩; have HB4b : Hid (Below wr.heap.size wr w4) := hb4; have HB4 := Hid.mkU (hg.out.be.trans (hb4.mono hg.out.be.size)); clear hb4))
        go_ret2
        exact ⟨by rw [HV.out]; rfl, HB4.out⟩
      | false =>
        go_upto_region 14 with fail
        go_upto_region 15 with (first | (refine wpList_load_row (by rfl) _ _ (by rfl) _ (by rfl) 35 _ (0, 0) _ HCI.out Tryz.underlying35 (by rfl) Hci.out ?_) | (go_at_call 18; refine HEE.out.mono ?_; rintro e w4 ⟨rfl, hb4⟩; have HB4b : Hid (Below wr.heap.size wr w4) := hb4; have HB4 := Hid.mkU (hg.out.be.trans (hb4.mono hg.out.be.size)); clear hb4))
        have c1 : ∀ x : Later w4, x.1.cell? ⟨w.heap.size, 0, none⟩ = some (.slice a l.length cap) := fun x => C0.out x.1 (HB4b.out.trans (x.2.mono HB4b.out.size))
        have hne := later_nonempty w4
        refine wp_region_later (x0 := Later.start w4) (by kernel_rfl) (by kernel_rfl) ?_
        iterate 2 (go_big_quiet_step (fail))
        (go_big_quiet_step (rfl))
        iterate 2 (go_big_quiet_step (fail))
        refine wpQuiet_nil ?_
        rintro _ ⟨yq, rfl⟩
        go_wp2
        go_ret2
        exact ⟨by rw [HV.out]; rfl, HB4.out.trans (yq.2.mono HB4.out.size)⟩
end Go.Proofs.YtidfndgedopghaaGreatDoor
namespace Go.Proofs.YtidfndgedopghaaGreatDoor
set_option linter.unusedVariables false
set_option maxRecDepth 100000
set_option maxHeartbeats 4000000
open Go.ChangeShapes Go.WideShapes Go.ChangeAt Go.RowKit Go.Deep
section
variable {P : Program} {ops : Array Oper} {Q : Exit → Act → World → Prop}
/-- What is asked of an operation. -/
def Stp (P : Program) (ops : Array Oper) (Q : Exit → Act → World → Prop) (need : Nat → List Nat) (F : Nat → Value → World → Prop) (W : World) (a0 : Act) (i : Nat) (o : Oper) : Prop :=
  o.dst ≠ none ∧ ∀ a w, (∀ k, apartB ops k = true → a.eval (.tmp k) = a0.eval (.tmp k)) → Below W.heap.size W w → (∀ k ∈ need i, F k (leftBy ops a k) w) →
    wpOp P ops Q i (fun a' w' => ∃ v, a' = a.put o.dst v ∧ Below w.heap.size w w' ∧ F i v w') a w
theorem stp_val {need : Nat → List Nat} {F : Nat → Value → World → Prop} {W : World} {a0 : Act} {i : Nat} {o : Oper} (ho : ops[i]? = some o) (hg : o.guard = none) (hd : o.dst ≠ none)
    (h : ∀ a w, (∀ k, apartB ops k = true → a.eval (.tmp k) = a0.eval (.tmp k)) → Below W.heap.size W w → (∀ k ∈ need i, F k (leftBy ops a k) w) → ∃ v w', (execOp a.eval o).run P w = .ok (.value v) w' ∧ Below w.heap.size w w' ∧ F i v w') : Stp P ops Q need F W a0 i o :=
  ⟨hd, fun a w h1 h2 h3 => wpOp_plain ho hg (by
    obtain ⟨v, w', hr, hb, hf⟩ := h a w h1 h2 h3
    unfold Oper.wp; rw [hr]; exact ⟨v, rfl, hb, hf⟩)⟩
/-- One that only reads: its value is known. -/
theorem stp_con {need : Nat → List Nat} {F : Nat → Value → World → Prop} {W : World} {a0 : Act} {i : Nat} {o : Oper} (v : Value) (hF : F i = fun u _ => u = v) (ho : ops[i]? = some o) (hg : o.guard = none) (hd : o.dst ≠ none)
    (h : ∀ a w, (∀ k, apartB ops k = true → a.eval (.tmp k) = a0.eval (.tmp k)) → Below W.heap.size W w → (∀ k ∈ need i, F k (leftBy ops a k) w) → (execOp a.eval o).run P w = .ok (.value v) w) : Stp P ops Q need F W a0 i o :=
  stp_val ho hg hd fun a w h1 h2 h3 => ⟨v, w, h a w h1 h2 h3, Below.refl _ _, by rw [hF]⟩
theorem stp_call {need : Nat → List Nat} {F : Nat → Value → World → Prop} {W : World} {a0 : Act} {i : Nat} {o : Oper} (f : FuncId) (ho : ops[i]? = some o) (hg : o.guard = none) (hd : o.dst ≠ none)
    (h : ∀ a w, (∀ k, apartB ops k = true → a.eval (.tmp k) = a0.eval (.tmp k)) → Below W.heap.size W w → (∀ k ∈ need i, F k (leftBy ops a k) w) → ∃ args, (execOp a.eval o).run P w = .ok (.enter f args) w ∧ Calls P f args w fun e w' => ∃ u, e = .returned u ∧ Below w.heap.size w w' ∧ F i u w') : Stp P ops Q need F W a0 i o :=
  ⟨hd, fun a w h1 h2 h3 => wpOp_plain ho hg (by
    obtain ⟨args, hr, hc⟩ := h a w h1 h2 h3
    unfold Oper.wp; rw [hr]
    refine Calls.mono hc ?_
    rintro e w' ⟨u, rfl, hb, hf⟩
    exact ⟨u, rfl, hb, hf⟩)⟩
theorem wp_region_mk {id : Nat} (hm : P.follows .mixedOrders = true) (need : Nat → List Nat) (F : Nat → Value → World → Prop) (W : World) (a0 : Act) (hB : bagB ops need a0.tmps.size = true) (hF : ∀ j v w w', F j v w → Below w.heap.size w w' → F j v w')
    (hstep : ∀ i o, ops[i]? = some o → Stp P ops Q need F W a0 i o)
    (hend : ∀ a w, a.tmps.size = a0.tmps.size → a.defers = a0.defers → (∀ k, apartB ops k = true → a.eval (.tmp k) = a0.eval (.tmp k)) → Below W.heap.size W w → (∀ j, j < ops.size → F j (leftBy ops a j) w) → Q .normal a w) :
    (Code.region id ops true).wp P Q a0 W := by
  have eb : ∀ {w w' : World}, Exk (fun _ => False) w w' → Below w.heap.size w w' := fun h => h.e.below (Nat.le_refl _) (fun _ h => h.elim)
  refine wp_region_bag hm need (fun j vs w => match vs with | v :: _ => F j v w | [] => False) [] (fun _ => False) ops.size W W a0 hB (fun k _ _ h => absurd h (Nat.lt_irrefl _)) ?_ (fun j hj => by cases hj) (Exk.refl _ _) ?_ ?_
  · intro j vs w w' _ h hb
    cases vs with
    | nil => exact h
    | cons v vs => exact hF j v w w' h (eb hb)
  · intro i o ho a w h1 h2 h3
    obtain ⟨hd, hs⟩ := hstep i o ho
    refine wpOp_mono ?_ (hs a w h1 (eb h2) (fun k hk => h3 k hk))
    rintro a' w' ⟨v, rfl, hb, hf⟩
    refine ⟨v, rfl, Exk.of_below hb rfl, fun v' h => ?_, fun h => by cases h⟩
    rcases h with h | h
    · exact absurd h hd
    · rw [h]; exact hf
  · intro a w h1 h2 h3 h4 h5 _
    exact hend a w h1 h2 h3 (eb h4) (fun j hj => h5 j hj)
/-- So, and the last operation, which waits for all the others, does as it likes. -/
theorem wp_region_mkf {id : Nat} (hm : P.follows .mixedOrders = true) (fin : Nat) (need : Nat → List Nat) (F : Nat → Value → World → Prop) (W : World) (a0 : Act) (hB : bagB ops need a0.tmps.size = true) (hflt : fin < ops.size) (hfin : ∀ k, k < ops.size → k ≠ fin → k ∈ need fin) (hF : ∀ j v w w', F j v w → Below w.heap.size w w' → F j v w')
    (hstep : ∀ i o, ops[i]? = some o → i ≠ fin → Stp P ops Q need F W a0 i o)
    (hend : ∀ o, ops[fin]? = some o → ∀ a w, a.tmps.size = a0.tmps.size → a.defers = a0.defers → (∀ k, apartB ops k = true → a.eval (.tmp k) = a0.eval (.tmp k)) → Below W.heap.size W w → (∀ j, j < ops.size → j ≠ fin → F j (leftBy ops a j) w) → wpOp P ops Q fin (fun a' w' => Q .normal a' w') a w) :
    (Code.region id ops true).wp P Q a0 W := by
  have eb : ∀ {w w' : World}, Exk (fun _ => False) w w' → Below w.heap.size w w' := fun h => h.e.below (Nat.le_refl _) (fun _ h => h.elim)
  refine wp_region_any hm ?_
  let F' : Nat → List Value → World → Prop := fun j vs w => match vs with | v :: _ => F j v w | [] => False
  have hF' : ∀ j vs w w', j ≠ ops.size → F' j vs w → Exk (fun _ => False) w w' → F' j vs w' := fun j vs w w' _ h hb => by
    cases vs with
    | nil => exact h
    | cons v vs => exact hF j v w w' h (eb hb)
  have main : ∀ (fuel : Nat) (listed : Array Bool) a w, listed.toList.count false ≤ fuel → ((listed.getD fin false = false ∧ Bag ops need F' [] (fun _ => False) W a0 listed a w) ∨ (Region.ready .any ops listed = [] ∧ Q .normal a w)) → wpAny P .any ops Q fuel listed a w := by
    intro fuel
    have hdone : ∀ (listed : Array Bool) a w, listed.getD fin false = false → Bag ops need F' [] (fun _ => False) W a0 listed a w → Region.ready .any ops listed ≠ [] := fun listed a w hf h hr => by
      have := bag_all hB h.size hr fin hflt
      rw [hf] at this; cases this
    induction fuel with
    | zero =>
      intro listed a w hc h
      rcases h with ⟨hf, h⟩ | ⟨hr, hq⟩
      · exfalso
        refine hdone listed a w hf h (List.eq_nil_iff_forall_not_mem.2 fun j hj => ?_)
        obtain ⟨h0, o, ho, _⟩ := mem_ready.1 hj
        have hjl : j < listed.size := by rw [h.size]; exact (Array.getElem?_eq_some_iff.1 ho).1
        have : false ∈ listed.toList := by
          simp [hjl] at h0
          rw [← h0]; simp
        have := List.count_pos_iff.2 this
        omega
      · exact ⟨hr, hq⟩
    | succ fuel ih =>
      intro listed a w hc h
      rcases h with ⟨hf, h⟩ | ⟨hr, hq⟩
      · refine ⟨fun hr => absurd hr (hdone listed a w hf h), fun i hi => ?_⟩
        obtain ⟨h0, o, ho, hall⟩ := mem_ready.1 hi
        have hok := bagB_spec hB ho
        have hjl : i < listed.size := by rw [h.size]; exact (Array.getElem?_eq_some_iff.1 ho).1
        have hneed : ∀ k ∈ need i, listed.getD k false = true := fun k hk => by
          obtain ⟨e, he, hbe, h1 | h1⟩ := hok.need k hk
          · rw [← h1]; exact hall e he hbe
          · exact h.cl e.on (hall e he hbe) k h1
        have hcnt : (listed.setIfInBounds i true).toList.count false ≤ fuel := by
          have h1 : listed.toList[i]'(by simpa using hjl) = false := by simp [hjl] at h0; simpa using h0
          rw [Array.toList_setIfInBounds, List.count_set (by simpa using hjl), h1]
          have h2 : 0 < listed.toList.count false := List.count_pos_iff.2 (by rw [← h1]; simp)
          simp only [beq_self_eq_true, if_true, show (true == false) = false from rfl, Bool.false_eq_true, if_false]
          omega
        by_cases hif : i = fin
        · subst hif
          refine wpOp_mono ?_ (hend o ho a w h.tsz h.dfr h.old (eb h.bel) (fun j hj hne => h.fact j (hneed j (hfin j hj hne))))
          intro a' w' hq
          refine ih _ _ _ hcnt (.inr ⟨?_, hq⟩)
          refine List.eq_nil_iff_forall_not_mem.2 fun j hj => ?_
          obtain ⟨h0', o', ho', _⟩ := mem_ready.1 hj
          have hj' : j < ops.size := (Array.getElem?_eq_some_iff.1 ho').1
          have hjl' : j < listed.size := by rw [h.size]; exact hj'
          by_cases e : i = j
          · subst e; simp [hjl] at h0'
          · rw [getD_set_ne true e] at h0'
            have := hneed j (hfin j hj' (Ne.symm e))
            simp [hjl'] at h0' this
            rw [h0'] at this; cases this
        · obtain ⟨hd, hs⟩ := hstep i o ho hif
          refine wpOp_mono ?_ (hs a w h.old (eb h.bel) (fun k hk => h.fact k (hneed k hk)))
          rintro a' w' ⟨v, rfl, hb, hf2⟩
          refine ih _ _ _ hcnt (.inl ⟨by rw [getD_set_ne false hif]; exact hf, h.step ops.size hB (fun k _ _ h => absurd h (Nat.lt_irrefl _)) hF' (fun j hj => by cases hj) ho h0 hall (Exk.of_below hb rfl) (fun v' h => ?_) (fun h => by cases h)⟩)
          rcases h with h | h
          · exact absurd h hd
          · rw [h]; exact hf2
      · exact ⟨fun _ => hq, fun i hi => by rw [hr] at hi; cases hi⟩
  refine main _ _ _ _ (by simp) (.inl ⟨?_, ⟨by simp, rfl, rfl, fun _ _ => rfl, ?_, fun j hj => ?_, fun j hj => ?_, fun j hj => by cases hj⟩⟩)
  · simp [Array.getElem?_replicate]; split <;> rfl
  · exact ⟨⟨rfl, rfl, rfl, Nat.le_refl _, fun _ _ _ => rfl⟩, fun _ h => h.elim⟩
  · exfalso; simp [Array.getElem?_replicate] at hj; split at hj <;> simp at hj
  · exfalso; simp [Array.getElem?_replicate] at hj; split at hj <;> simp at hj
end
theorem wpO_store_rowX {P : Program} {o : Oper} {a : Act} {w : World} {K : Act → World → Prop} {Q : Exit → Act → World → Prop} (t : TypeId) (x y : Operand) (ho : o.op = .store t x y)
    (g : Nat) (c c' : Array Value) (hx : a.eval x = .pointer (some ⟨g, 0, none⟩)) (hy : a.eval y = .agg c') (hg : Row w g c t) (hi : (P.info? t).map (·.size) = some c'.size) (hs : c.size = c'.size) (h1 : c'.all (·.oneCell') = true)
    (h : K (a.put o.dst undef) (w.setRow g c')) : o.wp P a w K Q := by
  unfold Oper.wp execOp
  simp only [ho, hx, hy, Instr.storeAt, Instr.sureAddr, Sem.run_bind, Sem.run_pure, Result.andThen_ok, run_storeVar_row w g t t c c' hg hi hs h1]
  exact h
/-- A Cpu in U, that does nothing. -/
def cst : Cp := { cz with pc := 2147483648#64, s := upd cz.s 0 8589934592#64 }
def sst : St := { zS with ram := List.replicate 8 0, cmp := 9 }
def b8 : Array Value := #[.int .u8 0, .int .u8 0, .int .u8 0, .int .u8 0, .int .u8 0, .int .u8 0, .int .u8 0, .int .u8 0]
theorem built_cst : Tryz.prog.built 32 [(0, .int .u64 2147483648), (4, .int .u64 8589934592)] = some (cpc cst) := by kernel_rfl
theorem built_sst (g : Nat) : Tryz.prog.built 44 [(0, .slice (some ⟨g, 0, none⟩) 8 8), (2, .int .u64 9)] = some (stc sst (.slice (some ⟨g, 0, none⟩) 8 8) (.slice none 0 0) (.slice none 0 0)) := by kernel_rfl
theorem built_wst (g : Nat) : Tryz.prog.built 46 [(0, .agg (cpc cst)), (1, .agg (stc sst (.slice (some ⟨g, 0, none⟩) 8 8) (.slice none 0 0) (.slice none 0 0)))] = some (whc cst sst (.slice (some ⟨g, 0, none⟩) 8 8) (.slice none 0 0) (.slice none 0 0)) := by kernel_rfl
set_option maxHeartbeats 4000000 in
theorem still_c (w : World) : Calls Tryz.prog 21 #[] w fun e w' => ∃ g, e = .returned (.agg (whc cst sst (.slice (some ⟨g, 0, none⟩) 8 8) (.slice none 0 0) (.slice none 0 0))) ∧ Row w' g b8 5 ∧ w.heap.size ≤ g ∧ Below w.heap.size w w' := by
  have hz := zero_wh
  have hzc := zero_cpu
  have hb1 := built_cst
  have hb2 := built_sst
  have hb3 := built_wst
  obtain ⟨W0, hW0, r0, b0, s0⟩ := start1 w whz 46
  have HS0 : Hid (W0.heap.size = w.heap.size + 1) := s0
  clear s0
  go_enter Tryz.func21, Tryz.ntmps21
  go_upto_region 1 with fail
  clear hW0
  go_upto_region 2 with (first | (refine wpList_build_tab (by rfl) 32 _ (by rfl) (cpc cst) (by kernel_rfl) ?_) | (refine wpList_store_new (by rfl) 32 _ _ (by rfl) (by rfl) (cpc cz) (cpc cst) (by rfl) (by rfl) (info_cpuU _) (by rw [cpc_size, cpc_size]) (cpc_ones _) ?_))
  --@R2
  refine on_W (motive := fun W => Code.wp _ _ _ _ W) (Q := fun W => Row W w.heap.size whz 46 ∧ Row W W0.heap.size (cpc cst) 32 ∧ Below w.heap.size w W ∧ w.heap.size + 2 ≤ W.heap.size) ⟨r0.out.old r0.out.lt _, Row.new _ _ _, b0.out.trans ((below_al _ _).mono b0.out.size), by have := HS0.out; simp; omega⟩ ?_
  generalize W0.heap.size = g1 at *
  clear r0 b0 hz hzc hb1
  rintro W1 ⟨q0, q1, qb, qs⟩
  have r0 := Hid.mkU q0
  have r1 := Hid.mkU q1
  have BB := Hid.mkU qb
  have HS1 := Hid.mkU qs
  clear q0 q1 qb qs
  refine wp_region_mkf (by kernel_rfl) 4 (fun i => ([[], [], [1], [0, 2, 1], [3, 0, 1, 2]] : List (List Nat)).getD i []) (fun i => ([fun v _ => v = .agg (cpc cst), fun v x => ∃ g, v = .slice (some ⟨g, 0, none⟩) 8 8 ∧ w.heap.size + 2 ≤ g ∧ Row x g b8 5, fun v x => ∃ g, v = .agg (stc sst (.slice (some ⟨g, 0, none⟩) 8 8) (.slice none 0 0) (.slice none 0 0)) ∧ w.heap.size + 2 ≤ g ∧ Row x g b8 5, fun v x => ∃ g, v = .agg (whc cst sst (.slice (some ⟨g, 0, none⟩) 8 8) (.slice none 0 0) (.slice none 0 0)) ∧ w.heap.size + 2 ≤ g ∧ Row x g b8 5] : List (Value → World → Prop)).getD i (fun _ _ => True)) W1 _ (by kernel_rfl) (by decide) (by decide) ?_ ?_ ?_
  · intro j v x x' h hb
    match j, h with
    | 0, h => exact h
    | 1, h => obtain ⟨g, h1, h2, h3⟩ := h; exact ⟨g, h1, h2, h3.later hb h3.lt⟩
    | 2, h => obtain ⟨g, h1, h2, h3⟩ := h; exact ⟨g, h1, h2, h3.later hb h3.lt⟩
    | 3, h => obtain ⟨g, h1, h2, h3⟩ := h; exact ⟨g, h1, h2, h3.later hb h3.lt⟩
    | j + 4, h => trivial
  · refine hop_list ?_
    refine ⟨fun _ => ?_, fun _ => ?_, fun _ => ?_, fun _ => ?_, fun h => absurd rfl h, trivial⟩
    · refine stp_con (.agg (cpc cst)) rfl rfl rfl (by simp) (fun ac w9 h1 h2 h3 => ?_)
      have q0 : ac.eval (.tmp 1) = .pointer (some ⟨g1, 0, none⟩) := (h1 1 (by kernel_rfl)).trans rfl
      have hl := ld_aggs (P := Tryz.prog) 32 g1 0 (cpc cst) _ w9 (lrow_cells (r1.out.later h2 r1.out.lt)) Tryz.underlying32 (by rfl) (info_cpuU _)
      clear h1 h2 h3
      generalize ac.eval = ρ at *
      simp only [execOp, q0]
      exact hl
    · refine stp_val rfl rfl (by simp) (fun ac w9 h1 h2 h3 => ⟨.slice (some ⟨w9.heap.size, 0, none⟩) 8 8, w9.alloc (.cells b8 5), ?_, below_al _ _, w9.heap.size, rfl, ?_, Row.new _ _ _⟩)
      · kernel_rfl
      · have q := h2.size; have q2 := HS1.out; omega
    · refine stp_val rfl rfl (by simp) (fun ac w9 h1 h2 h3 => ?_)
      obtain ⟨g, e, hg1, hg2⟩ := h3 1 (by simp)
      have q0 : ac.eval (.tmp 4) = .slice (some ⟨g, 0, none⟩) 8 8 := e
      refine ⟨_, w9, ?_, Below.refl _ _, g, rfl, hg1, hg2⟩
      have hc : Tryz.prog.built 44 ((#[(0, Operand.tmp 4), (2, Operand.const (Value.int IntKind.u64 9))] : Array (Nat × Operand)).map fun (i, x) => (i, ac.eval x)).toList = some (stc sst (.slice (some ⟨g, 0, none⟩) 8 8) (.slice none 0 0) (.slice none 0 0)) := by
        simp only [List.map_toArray, List.map_cons, List.map_nil, q0]; exact hb2 g
      unfold execOp
      simp only [Sem.run_bind, run_build w9 44 _ _ hc, Result.andThen_ok]
      rfl
    · refine stp_val rfl rfl (by simp) (fun ac w9 h1 h2 h3 => ?_)
      obtain ⟨g, e, hg1, hg2⟩ := h3 2 (by simp)
      have q0 : ac.eval (.tmp 5) = .agg (stc sst (.slice (some ⟨g, 0, none⟩) 8 8) (.slice none 0 0) (.slice none 0 0)) := e
      have q1 : ac.eval (.tmp 3) = .agg (cpc cst) := h3 0 (by simp)
      refine ⟨_, w9, ?_, Below.refl _ _, g, rfl, hg1, hg2⟩
      have hc : Tryz.prog.built 46 ((#[(0, Operand.tmp 3), (1, Operand.tmp 5)] : Array (Nat × Operand)).map fun (i, x) => (i, ac.eval x)).toList = some (whc cst sst (.slice (some ⟨g, 0, none⟩) 8 8) (.slice none 0 0) (.slice none 0 0)) := by
        simp only [List.map_toArray, List.map_cons, List.map_nil, q0, q1]; exact hb3 g
      unfold execOp
      simp only [Sem.run_bind, run_build w9 46 _ _ hc, Result.andThen_ok]
      rfl
  · intro o ho ac w9 h0 hd h1 h2 h3
    obtain rfl := (Option.some.inj ho)
    obtain ⟨g, e, hg1, hg2⟩ := h3 3 (by simp) (by decide)
    have q0 : ac.eval (.tmp 0) = .pointer (some ⟨w.heap.size, 0, none⟩) := (h1 0 (by kernel_rfl)).trans rfl
    have q1 : ac.eval (.tmp 6) = .agg (whc cst sst (.slice (some ⟨g, 0, none⟩) 8 8) (.slice none 0 0) (.slice none 0 0)) := e
    have HR := r0.out.later h2 r0.out.lt
    refine wpOp_plain rfl rfl (wpO_store_rowX 46 _ _ rfl w.heap.size whz _ q0 q1 HR (info_whU _ _ _ _ _) (whz_size _ _ _ _ _) (whc_ones _ _ _ _ _ _ _ _ _ _ _) ?_)
    show Exit.then _ _ .normal _ _
    unfold Exit.then
    simp only
    apply_assumption
    refine wp_ret (bodyPost_ret (v := .agg (whc cst sst (.slice (some ⟨g, 0, none⟩) 8 8) (.slice none 0 0) (.slice none 0 0))) (results_cell_row Tryz.results21 _ _ w.heap.size 46 _ (0, 0) _ ?_ (setRow_heap _ _ _ _ _ _ HR) Tryz.underlying46 (by rfl) (info_whU _ _ _ _ _)) hd ?_)
    · exact q0
    · exact ⟨g, rfl, (setRow_other _ _ _ _ (by omega)).trans hg2, by omega, below_row (BB.out.trans (h2.mono BB.out.size)) (Nat.le_refl _) _⟩
end Go.Proofs.YtidfndgedopghaaGreatDoor
