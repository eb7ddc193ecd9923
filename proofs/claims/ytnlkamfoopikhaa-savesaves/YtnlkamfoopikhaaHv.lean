/-
  Layer 16 (save): the reference's ram and Save.
-/
import Derived.Test.YtnlkamfoopikhaaHr
import Derived.Test.YtnlkamfoopikhaaHu
import Derived.Test.YtnlkamfoopikhaaCpr
namespace Go.Proofs.Ytnlkamfoopikhaa
set_option linter.unusedVariables false
set_option maxRecDepth 100000
open Go.ChangeShapes Go.WideShapes Go.ChangeAt Go.RowKit Go.Deep
set_option maxHeartbeats 4000000 in
theorem qram_c (B : Nat) (vb : Value) (lb : List Int) (r : List Int) (a : Option Addr) (cap : Nat) (w : World) (hp : Owb B w vb lb) (hlb : lb.length < 100000) (hB : B ≤ w.heap.size)
    (hv : ∀ W, Below B w W → Byt W (.slice a r.length cap) r) (hl : r.length ≤ 65536) :
    Calls Try.prog 31 #[vb, .slice a r.length cap] w fun e w' => ∃ v, e = .returned v ∧ Owb B w' v (lb ++ (ramS r).flatten) ∧ Fr B w w' := by
  have QN : Hid (∀ W vb lb (N n : Nat), Owb B W vb lb → N < 2 ^ 64 → n ≤ 24 → lb.length < 140737488350000 → B ≤ W.heap.size → Calls Try.prog 33 #[vb, .int .u64 N, .int .i64 n] W fun e w' => ∃ v, e = .returned v ∧ Owb B w' v (lb ++ ptL N n) ∧ Fr B W w') := fun W vb lb N n h1 h2 h3 h4 h5 => qnum_c B vb lb N n W h1 h2 h3 h4 h5
  have hcap : r.length ≤ cap := by obtain ⟨_, _, e, h1, _⟩ := hv w (Below.refl _ _); simp only [Value.slice.injEq] at e; omega
  have HP4 : Hid (ptL (wB r.length).toNat 4 = ptL r.length 4) := by unfold Hid; rw [wB_small' _ (by omega)]
  have HPL : Hid (∀ i, (pgL r i).length ≤ 256) := fun i => by rw [pgL_length]; unfold pgE; omega
  obtain ⟨n, hn⟩ : ∃ n : Nat, n = r.length := ⟨_, rfl⟩
  have HN := Hid.mk' hn
  have HPC : Hid (∀ W, Calls Try.prog 54 #[.int .i64 (n : Int)] W fun e w' => e = .returned (.int .i64 (pgN n : Nat)) ∧ w' = W) := fun W => rpages_c n (by omega) W
  have HPG : Hid (∀ i, i < pgN n → ∀ W, Calls Try.prog 55 #[.slice a n cap, .int .i64 (i : Int)] W fun e w' => e = .returned (.slice (cad a (256 * i) cap) (pgE n i - 256 * i) (cap - 256 * i)) ∧ w' = W) := fun i hi W => rpage_c a n cap i (by omega) (by omega) hi W
  have HBL : Hid (∀ l v W, Byt W v l → l.length ≤ 140737488355328 → Calls Try.prog 56 #[v] W fun e w' => e = .returned (.bool (blk l)) ∧ w' = W) := fun l v W h1 h2 => rblank_c l v W h1 h2
  have HPB : Hid (∀ i, i < pgN n → ∀ W, Below B w W → Byt W (.slice (cad a (256 * i) cap) (pgE n i - 256 * i) (cap - 256 * i)) (pgL r i)) := fun i hi W hb => by
    rw [hn] at hi ⊢
    exact (hv W hb).page i hi cap (by unfold pgE; omega) (Nat.le_refl _)
  have hn2 : (n : Int) ≤ 65536 := by omega
  rw [← hn] at hl hcap HP4 ⊢
  have HP := Hid.mk' hp
  have HLB : Hid (lb.length < 100000) := hlb
  clear hn hp hlb hv
  go_enter Try.func31, Try.ntmps31
  go_upto_region 2 with (go_at_call 33; refine (QN.out _ _ lb n 4 HP.out (by omega) (by omega) (by have := HLB.out; omega) hB).mono ?_; rintro e W1 ⟨v1, rfl, ho1, hf1⟩; have HO := Hid.mk' ho1; have HF := Hid.mk' hf1; clear ho1 hf1)
  obtain ⟨M, hM⟩ : ∃ M, M = pgN n := ⟨_, rfl⟩
  have HM := Hid.mk' hM
  have hM2 : M ≤ 256 := by rw [hM]; unfold pgN; omega
  rw [← hM] at HPC HPG HPB
  obtain ⟨L, hL⟩ : ∃ L, L = lb ++ ptL n 4 := ⟨_, rfl⟩
  have HE := Hid.mk' hL
  rw [← hL] at HO
  have HL : Hid (L.length ≤ 100004) := by have := HLB.out; unfold Hid; rw [hL]; simp [ptL_length]; omega
  clear hM hL
  go_upto_region 3 with (go_at_call 54; refine (HPC.out _).mono ?_; rintro e w5 ⟨rfl, hw5⟩; have hw6 := hw5.symm; subst hw6)
  go_wp2
  go_loopw [0, 6] (fun v i wr => ∃ k : Nat, k ≤ M ∧ i = .int .i64 k ∧ Hid (Owb B wr v (L ++ (pgS r k).flatten)) ∧ Hid (Fr B w wr)) (fun _ i _ => M - (intOf i).toNat)
  case atStart => exact ⟨0, Nat.zero_le _, rfl, by unfold Hid; rw [show (pgS r 0).flatten = [] from rfl, List.append_nil]; exact HO.out, HF⟩
  case round =>
    obtain ⟨k, hk, rfl, ho, hf⟩ := hrel
    clear HO HF
    have HLL : Hid ((L ++ (pgS r k).flatten).length ≤ 170000) := by
      have h1 := HL.out
      have h2 := (pgS_len r k).2
      unfold Hid; rw [List.length_append]; omega
    have hBr : B ≤ wr.heap.size := Nat.le_trans hB hf.out.b.size
    by_cases hlt : k < M
    · have hlt2 : (k : Int) < (M : Int) := by omega
      have HPW := Hid.mk' (HPB.out k hlt)
      have hpg := HPG.out k hlt
      have HPS : Hid (pgS r (k + 1) = pgS r k ++ pgO r k) := pgS_succ r k
      obtain ⟨pa, hpa⟩ : ∃ pa, pa = cad a (256 * k) cap := ⟨_, rfl⟩
      obtain ⟨pl, hpl⟩ : ∃ pl, pl = pgE n k - 256 * k := ⟨_, rfl⟩
      obtain ⟨pc, hpc⟩ : ∃ pc, pc = cap - 256 * k := ⟨_, rfl⟩
      rw [← hpa, ← hpl, ← hpc] at hpg HPW
      have HBY := Hid.mk' (HPW.out wr hf.out.b)
      have HPG2 := Hid.mk' hpg
      clear hpa hpl hpc hpg
      have hpl2 := HPL.out k
      have HPL2 := Hid.mk' hpl2
      have HBK := Hid.mk' (HBL.out (pgL r k) _ wr HBY.out (by omega))
      clear hpl2
      cases hbl : blk (pgL r k) with
      | true =>
        have HPO : Hid (pgO r k = []) := by unfold Hid pgO; rw [if_pos hbl]
        rw [hbl] at HBK
        clear hbl
        go_wp2_with (first | (go_at_call 55; refine (HPG2.out _).mono ?_; rintro e w5 ⟨rfl, hw5⟩; have hw6 := hw5.symm; subst hw6) | (go_at_call 56; refine HBK.out.mono ?_; rintro e w5 ⟨rfl, hw5⟩; have hw6 := hw5.symm; subst hw6))
        go_roundw
        case rel => exact ⟨k + 1, by omega, by go_num, by unfold Hid; rw [HPS.out, HPO.out, List.append_nil]; exact ho.out, hf⟩
        case measure => simp [intOf]; omega
      | false =>
        have HPO : Hid ((pgO r k).flatten = ptL k 2 ++ pgL r k) := by unfold Hid pgO; rw [if_neg (by rw [hbl]; simp), wB_small' _ (by omega)]; simp
        rw [hbl] at HBK
        clear hbl
        go_wp2_with (first | (go_at_call 55; refine (HPG2.out _).mono ?_; rintro e w5 ⟨rfl, hw5⟩; have hw6 := hw5.symm; subst hw6) | (go_at_call 56; refine HBK.out.mono ?_; rintro e w5 ⟨rfl, hw5⟩; have hw6 := hw5.symm; subst hw6) | (go_at_call 33; refine (QN.out _ _ _ k 2 ho.out (by omega) (by omega) (by have := HLL.out; omega) hBr).mono ?_; rintro e W2 ⟨v2, rfl, ho1, hf1⟩; have HO2 := Hid.mk' ho1; have HF2 := Hid.mk' hf1; clear ho1 hf1; have HB2 := Hid.mk' (HPW.out W2 (hf.out.trans HF2.out).b); have hB2 : B ≤ W2.heap.size := Nat.le_trans hBr HF2.out.b.size) | (at_builtin; refine appY (by rfl) _ _ (by rfl) B _ _ _ (pgL r k) (by rfl) HO2.out (by rfl) HB2.out (by have := HLL.out; have := HPL2.out; rw [List.length_append, ptL_length]; omega) hB2 ?_; intro v3 W3 ho1 hf1; have HO3 := Hid.mk' ho1; have HF3 := Hid.mk' hf1; clear ho1 hf1))
        go_roundw
        case rel => exact ⟨k + 1, by omega, by go_num, by unfold Hid; rw [HPS.out, List.flatten_append, HPO.out, ← List.append_assoc, ← List.append_assoc]; exact HO3.out, hf.out.trans (HF2.out.trans HF3.out)⟩
        case measure => simp [intOf]; omega
    · have hkM : k = M := by omega
      have HK := Hid.mk' hkM
      have hz : ¬ (k : Int) < (M : Int) := by omega
      clear hkM hlt
      go_wp2_with (go_at_call 33; refine (QN.out _ _ _ 65535 2 ho.out (by omega) (by omega) (by have := HLL.out; omega) hBr).mono ?_; rintro e W2 ⟨v2, rfl, ho1, hf1⟩; have HO2 := Hid.mk' ho1; have HF2 := Hid.mk' hf1; clear ho1 hf1)
      go_ret
      refine ⟨_, rfl, ?_, hf.out.trans HF2.out⟩
      have e : lb ++ (ramS r).flatten = L ++ (pgS r k).flatten ++ ptL 65535 2 := by
        unfold ramS
        rw [HE.out, HK.out, HM.out, ← HN.out, HP4.out]
        simp
      rw [e]; exact HO2.out
/-- A proper Cpu's mode and size are bytes. -/
theorem PR_small (k : Cp) : 0 ≤ (PR k).md ∧ (PR k).md ≤ 255 ∧ 0 ≤ (PR k).rs ∧ (PR k).rs ≤ 255 := by
  refine ⟨?_, ?_, ?_, ?_⟩
  · show 0 ≤ (if k.md = 3 then (3 : Int) else 0); split <;> omega
  · show (if k.md = 3 then (3 : Int) else 0) ≤ 255; split <;> omega
  · show 0 ≤ (if rok k.rv k.ra k.rs then k.rs else 0)
    split
    · rename_i h; unfold rok at h; simp at h; omega
    · omega
  · show (if rok k.rv k.ra k.rs then k.rs else 0) ≤ 255
    split
    · rename_i h; unfold rok at h; simp at h; omega
    · omega
theorem info_cpu8 (K : Cp) : (Try.prog.info? 31).map (·.size) = some (cpc K).size := by rw [cpc_size]; kernel_rfl
set_option maxHeartbeats 4000000 in
theorem qsave_no (K : Cp) (S : St) (ar ai ao : Option Addr) (cr ci co : Nat) (w : World) (hok : S.ok = false) :
    Calls Try.prog 12 #[.agg (whc K S (.slice ar S.ram.length cr) (.slice ai S.inp.length ci) (.slice ao S.out.length co))] w fun e w' => e = .returned (.tuple #[.slice none 0 0, .int .i64 162]) ∧ Below w.heap.size w w' := by
  have HR : Hid (Row (w.alloc (.cells (whc K S (.slice ar S.ram.length cr) (.slice ai S.inp.length ci) (.slice ao S.out.length co)) 37)) w.heap.size (whc K S (.slice ar S.ram.length cr) (.slice ai S.inp.length ci) (.slice ao S.out.length co)) 37) := Row.new _ _ _
  have HI := Hid.mk' (info_wh K S (.slice ar S.ram.length cr) (.slice ai S.inp.length ci) (.slice ao S.out.length co))
  have HC : Hid (∀ o, Calls Try.prog 9 #[.agg (whc K S (.slice ar S.ram.length cr) (.slice ai S.inp.length ci) (.slice ao S.out.length co))] (w.alloc o) fun e w' => e = .returned (.int .i64 162) ∧ Below (w.alloc o).heap.size (w.alloc o) w') := fun o => by
    have q := rchk_c K S ar ai ao cr ci co (w.alloc o)
    rw [hok] at q; exact q
  generalize whc K S (.slice ar S.ram.length cr) (.slice ai S.inp.length ci) (.slice ao S.out.length co) = V at *
  go_enter Try.func12, Try.ntmps12
  go_wp2_with (first | (refine wpList_load_row (by rfl) _ _ (by rfl) _ (by rfl) 37 _ (0, 0) _ HR.out Try.underlying37 (by rfl) HI.out ?_) | (go_at_call 9; refine (HC.out _).mono ?_; rintro e w1 ⟨rfl, hb1⟩))
  refine bodyPost_ret (results_tmp2 rfl _ _ _) rfl ?_
  exact ⟨rfl, box_below hb1⟩
theorem ok_more {S : St} (h : S.ok = true) (hw : StW S) : 0 ≤ S.off ∧ 0 ≤ S.code := by
  unfold St.ok powOk at h
  simp only [Bool.and_eq_true, decide_eq_true_eq] at h
  obtain ⟨_, h⟩ := h
  split at h
  · rename_i q
    simp at h
    omega
  · split at h
    · simp at h; omega
    · simp at h
theorem ok_parts' {S : St} (h : S.ok = true) : 0 < S.ram.length ∧ S.ram.length ≤ 65536 ∧ S.inp.length ≤ 64 ∧ S.out.length ≤ 4096 := by
  unfold St.ok ramOk at h
  simp only [Bool.and_eq_true, decide_eq_true_eq] at h
  omega
set_option maxHeartbeats 4000000 in
theorem qsave_yes (K : Cp) (S : St) (ar ai ao : Option Addr) (cr ci co : Nat) (w : World) (hs : Bs S (.slice ar S.ram.length cr) (.slice ai S.inp.length ci) (.slice ao S.out.length co) w) (hw : StW S) (hok : S.ok = true) :
    Calls Try.prog 12 #[.agg (whc K S (.slice ar S.ram.length cr) (.slice ai S.inp.length ci) (.slice ao S.out.length co))] w fun e w' => ∃ u, e = .returned (.tuple #[u, .int .i64 0]) ∧ Owb w.heap.size w' u (snapB (PR K) S) ∧ Below w.heap.size w w' := by
  obtain ⟨l8, lr, li, lo⟩ := ok_parts' hok
  obtain ⟨f0, c0⟩ := ok_more hok hw
  obtain ⟨m0, m1, s0, s1⟩ := PR_small K
  have hz := zero_cpu
  have HR : Hid (Row (w.alloc (.cells (whc K S (.slice ar S.ram.length cr) (.slice ai S.inp.length ci) (.slice ao S.out.length co)) 37)) w.heap.size (whc K S (.slice ar S.ram.length cr) (.slice ai S.inp.length ci) (.slice ao S.out.length co)) 37) := Row.new _ _ _
  have HI := Hid.mk' (info_wh K S (.slice ar S.ram.length cr) (.slice ai S.inp.length ci) (.slice ao S.out.length co))
  have HC : Hid (∀ o, Calls Try.prog 9 #[.agg (whc K S (.slice ar S.ram.length cr) (.slice ai S.inp.length ci) (.slice ao S.out.length co))] (w.alloc o) fun e w' => e = .returned (.int .i64 0) ∧ Below (w.alloc o).heap.size (w.alloc o) w') := fun o => by
    have q := rchk_c K S ar ai ao cr ci co (w.alloc o)
    rw [hok] at q; exact q
  have HSL : Hid (∀ W, Below w.heap.size w W → Bs S (.slice ar S.ram.length cr) (.slice ai S.inp.length ci) (.slice ao S.out.length co) W) := fun W hb => hs.later hb
  obtain ⟨V, hV⟩ : ∃ V, V = whc K S (.slice ar S.ram.length cr) (.slice ai S.inp.length ci) (.slice ao S.out.length co) := ⟨_, rfl⟩
  have HV := Hid.mk' hV
  rw [← hV] at HR HI HC ⊢
  clear hV hs
  go_enter Try.func12, Try.ntmps12
  go_upto_region 5 with (first | (refine wpList_load_row (by rfl) _ _ (by rfl) _ (by rfl) 37 _ (0, 0) _ HR.out Try.underlying37 (by rfl) HI.out ?_) | (go_at_call 9; refine (HC.out _).mono ?_; rintro e w1 ⟨rfl, hb1⟩; have HB1 := Hid.mk' hb1; clear hb1) | (go_at_call 27; refine (qhead_c _).mono ?_; rintro e w2 ⟨rfl, ho2, hb2⟩; have HO2 := Hid.mk' ho2; have HB2 := Hid.mk' hb2; clear ho2 hb2))
  obtain ⟨B, hB⟩ : ∃ B, B = w.heap.size := ⟨_, rfl⟩
  have HB0 := Hid.mk' hB
  have b01 : Below w.heap.size w w1 := (below_al w _).trans (HB1.out.mono (below_al w _).size)
  have b02 : Below w.heap.size w w2 := b01.trans (HB2.out.mono b01.size)
  have r2 : Row w2 w.heap.size V 37 := (HR.out.later HB1.out HR.out.lt).later HB2.out (HR.out.later HB1.out HR.out.lt).lt
  rw [HV.out] at r2
  have HRW := Hid.mk' r2
  have HO3 : Hid (Owb B w2 (.slice (some ⟨w1.heap.size, 0, none⟩) 8 8) headB) := own_le HO2.out (by rw [hB]; exact b01.size)
  have HF3 : Hid (Fr B w w2) := ⟨by rw [hB]; exact b02, fun g cur t z ht hg => by rw [b02.block g (Array.getElem?_eq_some_iff.1 hg).1]; exact hg⟩
  have HBW : Hid (B ≤ w2.heap.size) := by unfold Hid; rw [hB]; exact b02.size
  rw [← hB] at HRW HSL ⊢
  clear HR HB1 HB2 HO2 b01 b02 r2 hB HI HC
  have HCC : Hid (∀ W, Row W B (whc K S (.slice ar S.ram.length cr) (.slice ai S.inp.length ci) (.slice ao S.out.length co)) 37 → ∀ j v, (cpc K)[j]? = some v → W.cell? ⟨B, 0 + j, none⟩ = some v) := fun W h j v hv => by rw [h.cell]; exact whc_c K S _ _ _ j v hv
  have HCB : Hid (∀ W, Row W B (whc K S (.slice ar S.ram.length cr) (.slice ai S.inp.length ci) (.slice ao S.out.length co)) 37 → ∀ j v, (stc S (.slice ar S.ram.length cr) (.slice ai S.inp.length ci) (.slice ao S.out.length co))[j]? = some v → W.cell? ⟨B, 82 + j, none⟩ = some v) := fun W h j v hv => by rw [h.cell]; exact whc_b K S _ _ _ j v hv
  have HIC := Hid.mk' (info_cpu8 K)
  have HIP := Hid.mk' (info_cpu8 (PR K))
  have HON := Hid.mk' (cpc_ones (PR K))
  have HZS : Hid ((cpc cz).size = (cpc (PR K)).size) := by unfold Hid; rw [cpc_size, cpc_size]
  have HIB := Hid.mk' (info_bst S (.slice ar S.ram.length cr) (.slice ai S.inp.length ci) (.slice ao S.out.length co))
  have HPR := Hid.mk' (fun W => rPr_c K W)
  go_upto_region 6 with (first | (refine wpList_load_agg (by rfl) 31 _ (by rfl) B 0 (by rfl) (cpc K) _ (HCC.out _ HRW.out) Try.underlying31 (by rfl) HIC.out ?_) | (go_at_call 28; refine (HPR.out _).mono ?_; rintro e w3 ⟨rfl, hb3⟩; have HB3 := Hid.mk' hb3; clear hb3) | (refine wpList_store_new (by rfl) _ _ _ (by rfl) (by rfl) (cpc cz) (cpc (PR K)) (by rfl) (by rfl) HIP.out HZS.out HON.out ?_))
  clear hz
  have f23 : Fr B w2 w3 := Fr.of HB3.out HBW.out
  refine on_W (motive := fun W => Code.wp _ _ _ _ W) (Q := fun W => Owb B W (.slice (some ⟨w1.heap.size, 0, none⟩) 8 8) headB ∧ Row W B (whc K S (.slice ar S.ram.length cr) (.slice ai S.inp.length ci) (.slice ao S.out.length co)) 37 ∧ Row W w3.heap.size (cpc (PR K)) 31 ∧ Fr B w W)
    ⟨World.ownsRow.alloc (own_later HO3.out HB3.out rfl) _, (HRW.out.fr f23 (by decide)).old (HRW.out.fr f23 (by decide)).lt _, Row.new _ _ _, (HF3.out.trans f23).alloc (Nat.le_trans HBW.out HB3.out.size) _⟩ ?_
  rintro W4 ⟨p1, p2, p3, p4⟩
  have HO4 := Hid.mk' p1
  have HW4 := Hid.mk' p2
  have HC4 := Hid.mk' p3
  have HF4 := Hid.mk' p4
  have hBw : B ≤ w.heap.size := Nat.le_of_eq HB0.out
  clear p1 p2 p3 p4 f23 HO3 HRW HF3 HBW HB3 HON HZS HPR HIC
  go_upto_region 7 with (first | (refine wpList_load_row (by rfl) _ _ (by rfl) _ (by rfl) 31 _ (0, 0) _ HC4.out Try.underlying31 (by rfl) HIP.out ?_) | (go_at_call 29; refine (qcpu_c B _ headB (PR K) W4 HO4.out (by simp [headB]) (Nat.le_trans hBw HF4.out.b.size) m0 m1 s0 s1).mono ?_; rintro e W5 ⟨v5, rfl, ho5, hf5⟩; have HO5 := Hid.mk' ho5; have HG5 := Hid.mk' hf5; clear ho5 hf5))
  have HW5 := Hid.mk' (HW4.out.fr HG5.out (by decide))
  have HF5 := Hid.mk' (HF4.out.trans HG5.out)
  clear HO4 HW4 HC4 HF4 HG5 HIP
  have HL5 : Hid ((headB ++ (cpuS (PR K)).flatten).length = 524) := by unfold Hid; rw [List.length_append, cpuS_length]; rfl
  obtain ⟨L5, hL5⟩ : ∃ L5, L5 = headB ++ (cpuS (PR K)).flatten := ⟨_, rfl⟩
  rw [← hL5] at HO5 HL5
  have HE5 := Hid.mk' hL5
  clear hL5
  go_upto_region 8 with (first | (refine wpList_load_agg (by rfl) 35 _ (by rfl) B 82 (by rfl) _ _ (HCB.out _ HW5.out) Try.underlying35 (by rfl) HIB.out ?_) | (go_at_call 30; refine (qdev_c B _ L5 S ar ai ao cr ci co W5 HO5.out (by have := HL5.out; omega) (Nat.le_trans hBw HF5.out.b.size) (fun W hb => HSL.out W (HF5.out.b.trans hb)) hw li lo f0 c0).mono ?_; rintro e W6 ⟨v6, rfl, ho6, hf6⟩; have HO6 := Hid.mk' ho6; have HG6 := Hid.mk' hf6; clear ho6 hf6))
  have HW6 := Hid.mk' (HW5.out.fr HG6.out (by decide))
  have HF6 := Hid.mk' (HF5.out.trans HG6.out)
  have HL6 : Hid ((L5 ++ (devS S).flatten).length ≤ 5000) := by have := HL5.out; unfold Hid; rw [List.length_append, devS_length]; omega
  obtain ⟨L6, hL6⟩ : ∃ L6, L6 = L5 ++ (devS S).flatten := ⟨_, rfl⟩
  rw [← hL6] at HO6 HL6
  have HE6 := Hid.mk' hL6
  clear hL6 HO5 HW5 HF5 HG6 HL5
  have cA : W6.cell? ⟨B, 82, none⟩ = some (.slice ar S.ram.length cr) := HCB.out _ HW6.out 0 _ rfl
  go_upto_region 9 with (go_at_call 31; refine (qram_c B _ L6 S.ram ar cr W6 HO6.out (by have := HL6.out; omega) (Nat.le_trans hBw HF6.out.b.size) (fun W hb => (HSL.out W (HF6.out.b.trans hb)).r) lr).mono ?_; rintro e W7 ⟨v7, rfl, ho7, hf7⟩; have HO7 := Hid.mk' ho7; have HG7 := Hid.mk' hf7; clear ho7 hf7)
  clear cA
  have HF7 := Hid.mk' (HF6.out.trans HG7.out)
  have HE7 : Hid (L6 ++ (ramS S.ram).flatten = toldB (PR K) S) := by unfold Hid; rw [HE6.out, HE5.out]; simp [toldB]
  rw [HE7.out] at HO7
  have HTL : Hid ((toldB (PR K) S).length ≤ 70800) := toldB_length _ _ lr li lo
  clear HO6 HW6 HF6 HG7 HL6 HE7 HE6 HE5
  have HSM := Hid.mk' (rsum_c (toldB (PR K) S) v7 W7 (Byt.of_own HO7.out) (by have := HTL.out; omega))
  obtain ⟨sm, hsm⟩ : ∃ sm, sm = sumB (toldB (PR K) S) := ⟨_, rfl⟩
  have HSU := Hid.mk' hsm
  rw [← hsm] at HSM
  clear hsm
  have hlo := n32_lo sm
  have hhi := n32_hi sm
  obtain ⟨sn, hsn⟩ : ∃ sn, sn = sm.toNat := ⟨_, rfl⟩
  have HSN := Hid.mk' hsn
  rw [show n32 sm = ((sm.toNat : Nat) : Int) from rfl, ← hsn] at HSM hlo hhi
  clear hsn
  go_wp2_with (first | (go_at_call 32; refine HSM.out.mono ?_; rintro e w5 ⟨rfl, hw5⟩; have hw6 := hw5.symm; subst hw6) | (go_at_call 33; refine (qnum_c B _ (toldB (PR K) S) sn 4 _ HO7.out (by omega) (by omega) (by have := HTL.out; omega) (Nat.le_trans hBw HF7.out.b.size)).mono ?_; rintro e W8 ⟨v8, rfl, ho8, hf8⟩; have HO8 := Hid.mk' ho8; have HG8 := Hid.mk' hf8; clear ho8 hf8))
  refine bodyPost_ret (results_tmp2 rfl _ _ _) rfl ?_
  refine ⟨_, rfl, ?_, ?_⟩
  · rw [← HB0.out]; unfold snapB; rw [← HSU.out, ← HSN.out]; exact HO8.out
  · rw [← HB0.out]; exact (HF7.out.trans HG8.out).b
end Go.Proofs.Ytnlkamfoopikhaa
