/-
  Layer 16 (save): ramSection of the program, its walk.
-/
import Derived.Test.YtnlkamfoopikhaaHl
namespace Go.Proofs.Ytnlkamfoopikhaa
set_option linter.unusedVariables false
set_option maxRecDepth 100000
open Go.ChangeShapes Go.WideShapes Go.ChangeAt Go.RowKit Go.Deep
theorem cad_own {w : World} {a : Option Addr} {n cap : Nat} {r : List Int} (h : Byt w (.slice a n cap) r) (hr : r ≠ []) (p m l c : Nat) : ∀ g, (Value.slice (cad a p m) l c).ownBlock = some g → g < w.heap.size := by
  obtain ⟨a', cap', e, _, _, h3⟩ := h
  simp only [Value.slice.injEq] at e
  obtain ⟨g, off, e2, hg, _⟩ := h3 hr
  intro g' hg'
  rw [e.1, e2] at hg'
  unfold cad at hg'
  split at hg'
  · simp [Value.ownBlock] at hg'; omega
  · simp [Value.ownBlock, addAt] at hg'; omega
theorem own_new (w : World) (cs : List Value) (e : TypeId) {B : Nat} (hb : B ≤ w.heap.size) (hm : cs.length ≤ maxLen) : (w.alloc (.cells cs.toArray e)).ownsRow B e 1 (.slice (some ⟨w.heap.size, 0, none⟩) cs.length cs.length) cs.length cs :=
  ⟨by simp, .inr ⟨w.heap.size, cs.length, cs.toArray, rfl, hb, heap_alloc_new w _, Nat.le_refl _, hm, by simp, by simp⟩⟩
theorem ones1 (a : Option Addr) (n c : Nat) : ∀ u ∈ [Value.slice a n c], u.oneCell' = true := fun u hu => by
  rw [List.mem_singleton.1 hu]; rfl
theorem ones2 (a b : Option Addr) (n c m d : Nat) : ∀ u ∈ [Value.slice a n c, Value.slice b m d], u.oneCell' = true := fun u hu => by
  rcases List.mem_cons.1 hu with rfl | hu
  · rfl
  · rw [List.mem_singleton.1 hu]; rfl
theorem ones_fsh {B : Nat} {w : World} {u : Value} {l : List Int} (h : Fsh B w u l) : u.oneCell' = true := by
  obtain ⟨g, rfl, _⟩ := h; rfl
set_option maxHeartbeats 4000000 in
theorem ramSec_c (r : List Int) (a : Option Addr) (cap : Nat) (w : World) (hv : Byt w (.slice a r.length cap) r) (h8 : 0 < r.length) (hl : r.length ≤ 65536) :
    Calls Try.prog 24 #[.slice a r.length cap] w fun e w' => ∃ u, e = .returned u ∧ Fsh w.heap.size w' u (ramS r).flatten ∧ Below w.heap.size w w' := by
  have HV := Hid.mk' hv
  have hcap : r.length ≤ cap := by obtain ⟨_, _, e, h1, _⟩ := hv; simp only [Value.slice.injEq] at e; omega
  clear hv
  have HNE : Hid (r ≠ []) := by intro e; rw [e] at h8; simp at h8
  have HPUT : Hid (∀ (N n : Nat) W, N < 18446744073709551616 → 0 < n → n ≤ 8 → Calls Try.prog 25 #[.int .u64 (N : Int), .int .i64 (n : Int)] W fun e w' => ∃ u, e = .returned u ∧ Fsh W.heap.size w' u (ptL N n) ∧ Below W.heap.size W w') := fun N n W h1 h2 h3 => put_n N n h1 h2 h3 W
  have HRL : Hid ((ramS r).flatten.length ≤ 66054 ∧ (ramS r).length ≤ 514) := ramS_len r hl
  have HP4 : Hid (ptL (wB r.length).toNat 4 = ptL r.length 4) := by unfold Hid; rw [wB_small _ (by omega)]
  obtain ⟨n, hn⟩ : ∃ n : Nat, n = r.length := ⟨_, rfl⟩
  have HN := Hid.mk' hn
  have HPC : Hid (∀ W, Calls Try.prog 47 #[.int .i64 (n : Int)] W fun e w' => e = .returned (.int .i64 (pgN n : Nat)) ∧ w' = W) := fun W => spages_c n (by omega) W
  have HPG : Hid (∀ i, i < pgN n → ∀ W, Calls Try.prog 48 #[.slice a n cap, .int .i64 (i : Int)] W fun e w' => e = .returned (.slice (cad a (256 * i) (pgE n i)) (pgE n i - 256 * i) (pgE n i - 256 * i)) ∧ w' = W) := fun i hi W => spage_c a n cap i (by omega) (by omega) hi W
  have HBL : Hid (∀ l v W, Byt W v l → l.length ≤ 140737488355328 → Calls Try.prog 49 #[v] W fun e w' => e = .returned (.bool (blk l)) ∧ w' = W) := fun l v W h1 h2 => sblank_c l v W h1 h2
  have HPB : Hid (∀ i, i < pgN n → ∀ W, Below w.heap.size w W → Byt W (.slice (cad a (256 * i) (pgE n i)) (pgE n i - 256 * i) (pgE n i - 256 * i)) (pgL r i) ∧ (∀ g, (Value.slice (cad a (256 * i) (pgE n i)) (pgE n i - 256 * i) (pgE n i - 256 * i)).ownBlock = some g → g < w.heap.size) ∧ (pgL r i).length ≤ 256) := fun i hi W hb => by
    rw [hn] at hi ⊢
    refine ⟨(HV.out.page i hi (pgE r.length i) (Nat.le_refl _) (by unfold pgE; omega)).later hb rfl, cad_own HV.out HNE.out _ _ _ _, ?_⟩
    rw [pgL_length]; unfold pgE; omega
  have hn2 : (n : Int) ≤ 65536 := by omega
  rw [← hn] at hl h8 hcap HP4 ⊢
  clear hn
  obtain ⟨B, hB⟩ : ∃ B, B = w.heap.size := ⟨_, rfl⟩
  have HB0 := Hid.mk' hB
  rw [← hB] at HPB
  clear hB
  go_enter Try.func24, Try.ntmps24
  go_upto_region 2 with (go_at_call 25; refine (HPUT.out n 4 _ (by omega) (by omega) (by omega)).mono ?_; rintro e w1 ⟨u1, rfl, hu1, hb1⟩; obtain ⟨a1, n1, c1, rfl⟩ := hu1.byt.sl; have HU1 := Hid.mk' hu1; have HB1 := Hid.mk' hb1; clear hu1 hb1)
  have hsz1 : B ≤ w1.heap.size := by rw [HB0.out]; exact HB1.out.size
  refine on_W (motive := fun W => Code.wp _ _ _ _ W) (Q := fun W => W.ownsRow B 32 1 (.slice (some ⟨w1.heap.size, 0, none⟩) 1 1) [Value.slice a1 n1 c1].length [Value.slice a1 n1 c1] ∧ Secs B W [Value.slice a1 n1 c1] ([ptL n 4] ++ pgS r 0) ∧ Below B w W)
    ⟨own_new w1 [Value.slice a1 n1 c1] 32 hsz1 (by unfold maxLen; simp), ⟨rfl, fun j hj => by
      have hj0 : j = 0 := by simp [pgS] at hj; exact hj
      subst hj0
      refine .inr ?_
      rw [HB0.out]
      exact HU1.out.later (below_al w1 _)⟩, by rw [HB0.out]; exact HB1.out.alloc HB1.out.size _⟩ ?_
  rintro W1 ⟨p1, p2, p3⟩
  have HO := Hid.mk' p1
  have HS := Hid.mk' p2
  have HBW := Hid.mk' p3
  clear p1 p2 p3 HU1 HB1 hsz1
  obtain ⟨g1, hg1⟩ : ∃ g1, g1 = w1.heap.size := ⟨_, rfl⟩
  rw [← hg1] at HO ⊢
  clear hg1
  obtain ⟨M, hM⟩ : ∃ M, M = pgN n := ⟨_, rfl⟩
  have HM := Hid.mk' hM
  have hM2 : M ≤ 256 := by rw [hM]; unfold pgN; omega
  rw [← hM] at HPC HPG HPB
  clear hM
  go_upto_region 3 with (go_at_call 47; refine (HPC.out _).mono ?_; rintro e w5 ⟨rfl, hw5⟩; have hw6 := hw5.symm; subst hw6)
  obtain ⟨v0, hv0⟩ : ∃ v0, v0 = Value.slice (some ⟨g1, 0, none⟩) 1 1 := ⟨_, rfl⟩
  rw [← hv0] at HO
  have HV0 := Hid.mk' hv0
  clear hv0
  go_loopw [3, 14] (fun v i wr => ∃ (k : Nat) (us : List Value), k ≤ M ∧ i = .int .i64 k ∧ Hid (wr.ownsRow B 32 1 v us.length us) ∧ Hid (Secs B wr us ([ptL n 4] ++ pgS r k)) ∧ Hid (Below B w wr)) (fun _ i _ => M - (intOf i).toNat)
  case atStart => exact ⟨0, _, Nat.zero_le _, rfl, by rw [← HV0.out]; exact HO, HS, HBW⟩
  case round =>
    obtain ⟨k, us, hk, rfl, ho, hs, hb⟩ := hrel
    clear HO HS HBW
    by_cases hlt : k < M
    · have hlt2 : (k : Int) < (M : Int) := by omega
      obtain ⟨HY, HOB, HPL⟩ := HPB.out k hlt wr hb.out
      have hpg := HPG.out k hlt
      have HBY := Hid.mk' HY
      have HOW := Hid.mk' HOB
      have HLL := Hid.mk' HPL
      clear HY HOB HPL
      have HPS : Hid (pgS r (k + 1) = pgS r k ++ pgO r k) := pgS_succ r k
      have HUL : Hid (us.length ≤ 600) := by
        have h1 := hs.out.1
        have h2 := (pgS_len r k).1
        unfold Hid
        rw [h1, List.length_append]; simp; omega
      obtain ⟨pa, hpa⟩ : ∃ pa, pa = cad a (256 * k) (pgE n k) := ⟨_, rfl⟩
      obtain ⟨pl, hpl⟩ : ∃ pl, pl = pgE n k - 256 * k := ⟨_, rfl⟩
      rw [← hpa, ← hpl] at hpg HBY HOW
      have HPG2 := Hid.mk' hpg
      clear hpa hpl hpg
      have hbk := HBL.out (pgL r k) _ wr HBY.out (by have := HLL.out; omega)
      have HBK := Hid.mk' hbk
      clear hbk
      cases hbl : blk (pgL r k) with
      | true =>
        have HPO : Hid (pgO r k = []) := by unfold Hid pgO; rw [if_pos hbl]
        rw [hbl] at HBK
        clear hbl
        go_wp2_with (first | (go_at_call 48; refine (HPG2.out _).mono ?_; rintro e w5 ⟨rfl, hw5⟩; have hw6 := hw5.symm; subst hw6) | (go_at_call 49; refine HBK.out.mono ?_; rintro e w5 ⟨rfl, hw5⟩; have hw6 := hw5.symm; subst hw6))
        go_roundw
        case rel => exact ⟨k + 1, us, by omega, by go_num, ho, by unfold Hid; rw [HPS.out, HPO.out, List.append_nil]; exact hs.out, hb⟩
        case measure => simp [intOf]; omega
      | false =>
        have HPO : Hid (pgO r k = [ptL k 2, pgL r k]) := by unfold Hid pgO; rw [if_neg (by rw [hbl]; simp), wB_small _ (by omega)]
        rw [hbl] at HBK
        clear hbl
        go_upto_region 7 with (first | (go_at_call 48; refine (HPG2.out _).mono ?_; rintro e w5 ⟨rfl, hw5⟩; have hw6 := hw5.symm; subst hw6) | (go_at_call 49; refine HBK.out.mono ?_; rintro e w5 ⟨rfl, hw5⟩; have hw6 := hw5.symm; subst hw6))
        have hBr : B ≤ wr.heap.size := by rw [HB0.out]; exact hb.out.size
        go_wp2_with (first | (go_at_call 25; refine (HPUT.out k 2 _ (by omega) (by omega) (by omega)).mono ?_; rintro e w2 ⟨u2, rfl, hu2, hb2⟩; obtain ⟨a2, n2, c2, rfl⟩ := hu2.byt.sl; have HU2 := Hid.mk' hu2; have HB2 := Hid.mk' hb2; clear hu2 hb2; have HF2 := Hid.mk' (Frb.of HB2.out hBr); have HO2 : Hid (w2.ownsRow B 32 1 u3 us.length us) := own_later ho.out HB2.out rfl; have hB2 : B ≤ w2.heap.size := Nat.le_trans hBr HB2.out.size) | (at_builtin; refine appR (by rfl) _ _ (by rfl) B _ us [Value.slice a2 n2 c2, Value.slice pa pl pl] (by rfl) HO2.out _ 2 (by rfl) (by rfl) (by simp) (ones2 _ _ _ _ _ _) (by have := HUL.out; simp; omega) hB2 ?_; intro v3 w3 hown3 hf3; have HO3 := Hid.mk' hown3; have HF3 := Hid.mk' hf3; clear hown3 hf3))
        go_roundw
        case rel =>
          have f23 := HF2.out.trans HF3.out
          refine ⟨k + 1, us ++ [Value.slice a2 n2 c2, Value.slice pa pl pl], by omega, by go_num, HO3, ?_, hb.out.trans f23.b⟩
          unfold Hid
          rw [HPS.out, HPO.out, ← List.append_assoc, show ([Value.slice a2 n2 c2, Value.slice pa pl pl] : List Value) = [Value.slice a2 n2 c2] ++ [Value.slice pa pl pl] from rfl, show ([ptL k 2, pgL r k] : List (List Int)) = [ptL k 2] ++ [pgL r k] from rfl, ← List.append_assoc, ← List.append_assoc]
          refine ((hs.out.fr f23).one ?_).one ?_
          · exact (Sec.fr (.inr (HU2.out.mono hBr)) HF3.out)
          · refine Sec.fr (.inl ⟨HBY.out, HOW.out⟩) f23
        case measure => simp [intOf]; omega
    · have hkM : k = M := by omega
      have HK := Hid.mk' hkM
      have hz : ¬ (k : Int) < (M : Int) := by omega
      have hBr : B ≤ wr.heap.size := by rw [HB0.out]; exact hb.out.size
      have HUL : Hid (us.length ≤ 600) := by
        have h1 := hs.out.1
        have h2 := (pgS_len r k).1
        unfold Hid
        rw [h1, List.length_append]; simp; omega
      have HFIN : Hid (∀ (w2 w3 : World) (v3 : Value) (a2 : Option Addr) (n2 c2 : Nat), Fsh wr.heap.size w2 (.slice a2 n2 c2) (ptL 65535 2) → Frb B wr w2 → w3.ownsRow B 32 1 v3 (us ++ [Value.slice a2 n2 c2]).length (us ++ [Value.slice a2 n2 c2]) → Frb B w2 w3 → Rws w3 v3 (ramS r)) := by
        intro w2 w3 v3 a2 n2 c2 hu hf2 ho3 hf3
        have f23 := hf2.trans hf3
        refine rws_of ho3 ?_ (by unfold ramS; simp)
        unfold ramS
        rw [← HN.out, HP4.out, ← HM.out, ← HK.out]
        exact (hs.out.fr f23).one (Sec.fr (.inr (hu.mono hBr)) hf3)
      clear hkM hlt
      go_wp2_with (first | (go_at_call 25; refine (HPUT.out 65535 2 _ (by omega) (by omega) (by omega)).mono ?_; rintro e w2 ⟨u2, rfl, hu2, hb2⟩; obtain ⟨a2, n2, c2, rfl⟩ := hu2.byt.sl; have HU2 := Hid.mk' hu2; have HB2 := Hid.mk' hb2; clear hu2 hb2; have HF2 := Hid.mk' (Frb.of HB2.out hBr); have HO2 : Hid (w2.ownsRow B 32 1 u3 us.length us) := own_later ho.out HB2.out rfl; have hB2 : B ≤ w2.heap.size := Nat.le_trans hBr HB2.out.size) | (at_builtin; refine appR (by rfl) _ _ (by rfl) B _ us [Value.slice a2 n2 c2] (by rfl) HO2.out _ 1 (by rfl) (by rfl) (by simp) (ones1 _ _ _) (by have := HUL.out; simp; omega) hB2 ?_; intro v3 w3 hown3 hf3; have HO3 := Hid.mk' hown3; have HF3 := Hid.mk' hf3; clear hown3 hf3; have HRW := Hid.mk' (HFIN.out w2 w3 v3 a2 n2 c2 HU2.out HF2.out HO3.out HF3.out); have HB3 : Hid (Below B w w3) := hb.out.trans (HF2.out.trans HF3.out).b) | (go_at_call 20; refine (joined_c (ramS r) (by have := HRL.out.1; omega) (by have := HRL.out.2; omega) _ w3 HRW.out).mono ?_; rintro e w4 ⟨u4, rfl, hu4, hb4⟩; have HU4 := Hid.mk' hu4; have HB4 := Hid.mk' hb4; clear hu4 hb4))
      go_ret
      have e3 : w.heap.size ≤ w3.heap.size := HB3.out.size
      refine ⟨_, rfl, HU4.out.mono e3, ?_⟩
      have := HB3.out
      rw [HB0.out] at this
      exact this.trans (HB4.out.mono e3)
end Go.Proofs.Ytnlkamfoopikhaa
