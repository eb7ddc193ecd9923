/-
  symbols of the reference.
-/
import Derived.Test.YtjjdpfmkbaaapaaDoorIwc
namespace Go.Proofs.YtjjdpfmkbaaapaaDoor
set_option linter.unusedVariables false
open Go.ChangeShapes Go.WideShapes Go.ChangeAt Go.RowKit Go.Deep
theorem rsec_z (B : Nat) (vb vt : Value) (lb lt : List Int) (a1 a2 a3 a4 a5 a6 a7 a8 : Int) (w : World) (hp : Pr B w vb lb vt lt) (hlb : lb.length < 800000) (hB : B ≤ w.heap.size)
    (h1 : 0 ≤ a1 ∧ a1 ≤ 1000000) (h2 : 0 ≤ a2 ∧ a2 ≤ 1000000) (h3 : 0 ≤ a3 ∧ a3 ≤ 1000000) (h4 : 0 ≤ a4 ∧ a4 ≤ 1000000) (h5 : 0 ≤ a5 ∧ a5 ≤ 1000000) (h6 : 0 ≤ a6 ∧ a6 ≤ 1000000) (h7 : 0 ≤ a7 ∧ a7 ≤ 1000000) (h8 : 0 ≤ a8 ∧ a8 ≤ 1000000) :
    Calls Tryd.prog 31 #[vb, .int .u64 a1, .int .u64 a2, .int .i64 a3, .int .i64 a4, .int .u64 a5, .int .u64 a6, .int .u64 a7, .int .u64 a8] w fun e w' => ∃ v, e = .returned v ∧ Pr B w' v (lb ++ secL a1.toNat a2.toNat a3.toNat a4.toNat a5.toNat a6.toNat a7.toNat a8.toNat) vt lt ∧ Fr B w w' := by
  have h := rsec_c B vb vt lb lt a1.toNat a2.toNat a3.toNat a4.toNat a5.toNat a6.toNat a7.toNat a8.toNat w hp hlb hB (by omega) (by omega) (by omega) (by omega) (by omega) (by omega) (by omega) (by omega)
  rw [Int.toNat_of_nonneg h1.1, Int.toNat_of_nonneg h2.1, Int.toNat_of_nonneg h3.1, Int.toNat_of_nonneg h4.1, Int.toNat_of_nonneg h5.1, Int.toNat_of_nonneg h6.1, Int.toNat_of_nonneg h7.1, Int.toNat_of_nonneg h8.1] at h
  exact h
/-- The sections' own texts. -/
def ownT : ByteArray := ⟨#[0, 46, 115, 121, 109, 116, 97, 98, 0, 46, 115, 116, 114, 116, 97, 98, 0, 46, 115, 104, 115, 116, 114, 116, 97, 98, 0]⟩
theorem ownT_size : ownT.size = 27 := rfl
/-- What stands behind the parts, from the place p of the table on. -/
def symL (p : Nat) (N : List Sy) : List Int :=
  ptL 0 24 ++ (tbL N N.length ++ (txL N N.length ++ (sb ownT ++ (zs (al (p + 24 + 24 * N.length + 1 + nk N N.length + 27) - (p + 24 + 24 * N.length + 1 + nk N N.length + 27)) ++
    (secL 0 0 0 0 0 0 0 0 ++ (secL 1 2 p (24 + 24 * N.length) 2 1 8 24 ++ (secL 9 3 (p + 24 + 24 * N.length) (1 + nk N N.length) 0 0 1 0 ++
      secL 17 3 (p + 24 + 24 * N.length + 1 + nk N N.length) 27 0 0 1 0)))))))
theorem sym_fin {w wr : World} {B : Nat} {v vt : Value} {lb l l' lt : List Int} (hp : Pr B wr v l vt lt) (he : l = l') (hb : Fr B w wr) :
    ∃ u t s, Ending.returned v = .returned u ∧ Pr B wr u l' t s ∧ Fr B w wr := by
  subst he
  exact ⟨v, _, _, rfl, hp, hb⟩
set_option maxRecDepth 10000 in
set_option maxHeartbeats 4000000 in
theorem rsym_c (B : Nat) (vb vn : Value) (lb : List Int) (N : List Sy) (w0 w : World) (hB0 : B = w0.heap.size) (hb0 : Below B w0 w) (hS : Sys w0 vn N) (hp : Pr B w vb lb (.slice none 0 0) []) (hN : N.length ≤ 400) (hlb : lb.length + nk N N.length < 300000) :
    Calls Tryd.prog 18 #[vb, vn] w fun e w' => ∃ v t s, e = .returned v ∧ Pr B w' v (lb ++ (zs (al lb.length - lb.length) ++ symL (al lb.length) N)) t s ∧ Fr B w w' := by
  have HP : Hid (Pr B w vb lb (.slice none 0 0) []) := hp
  have HL : Hid (lb.length + nk N N.length < 300000) := hlb
  have HBW : Hid (B ≤ w.heap.size) := by unfold Hid; rw [hB0]; exact hb0.size
  have HB0 : Hid (B = w0.heap.size) := hB0
  have Hb0 : Hid (Below B w0 w) := hb0
  have HS0 : Hid (Sys w0 vn N) := hS
  obtain ⟨na, nc, rfl, _, _⟩ := hS
  have HA : Hid (lb.length ≤ al lb.length ∧ al lb.length ≤ lb.length + 7) := ⟨al_lo _, al_hi _⟩
  obtain ⟨P, hP⟩ : ∃ P, P = al lb.length := ⟨_, rfl⟩
  have HPP : Hid (P = al lb.length) := hP
  rw [← hP] at HA
  clear hp hlb hb0 hB0 hP
  rw [← HPP.out]
  go_enter Tryd.func18, Tryd.ntmps18
  go_wp2_with (first
    | (go_at_call 17; refine (rpad_c B _ (.slice none 0 0) lb [] _ HP.out (by have := HL.out; omega) HBW.out).mono ?_; rintro e w1 ⟨v, rfl, hpn, hbn⟩; obtain ⟨a1, c1, T1, rfl, HT1⟩ := lenOwn hpn.b; have HP1 : Hid (Pr B w1 _ _ _ _) := hpn; have HB1 : Hid (Fr B w w1) := hbn; have HT1' : Hid (T1 = P) := (by have := HT1.out; have := HA.out; have := HPP.out; simp only [List.length_append, zs_length] at *; unfold Hid; omega); have hT1 : T1 ≤ 300007 := (by have := HT1'.out; have := HA.out; have := HL.out; omega); clear hpn hbn)
    | (go_at_call 15; refine (rnum_z B _ (.slice none 0 0) _ [] _ _ _ HP1.out (by omega) (by omega) (by omega) (by omega) (by have := HT1.out; omega) (Nat.le_trans HBW.out HB1.out.b.size)).mono ?_; rintro e w2 ⟨v, rfl, hpn, hbn⟩; have HP2 : Hid (Pr B w2 v _ _ _) := hpn; have HB2 : Hid (Fr B w w2) := HB1.out.trans hbn; clear hpn hbn))
  obtain ⟨l1, hl1⟩ : ∃ l1, l1 = (lb ++ zs (al lb.length - lb.length)) ++ ptL (Int.toNat 0) (Int.toNat 24) := ⟨_, rfl⟩
  rw [← hl1] at HP2
  have HL1 : Hid (l1 = lb ++ (zs (P - lb.length) ++ ptL 0 24)) := by unfold Hid; rw [hl1, HPP.out, List.append_assoc]; rfl
  have HL1' : Hid (l1.length = P + 24) := by unfold Hid; rw [HL1.out]; simp only [List.length_append, zs_length, ptL_length]; have := HA.out; omega
  clear hl1
  have HBs2 : Hid (B ≤ w2.heap.size) := Nat.le_trans HBW.out HB2.out.b.size
  go_loopw [0, 6, 7] (fun b t i wr => ∃ k : Nat, k ≤ N.length ∧ i = .int .i64 k ∧ (∃ a c, t = .slice a (1 + nk N k) c) ∧ Hid (Pr B wr b (l1 ++ tbL N k) t (txL N k)) ∧ Hid (Fr B w wr)) (fun _ _ i _ => N.length - (intOf i).toNat)
  case atStart => exact ⟨0, Nat.zero_le _, rfl, ⟨_, _, rfl⟩, by unfold Hid; simpa [tbL, txL] using HP2.out.newT HBs2.out, HB2.out.alloc HBs2.out _⟩
  case round =>
    obtain ⟨k, hk, rfl, ⟨ta, tc, rfl⟩, hpr, hbel⟩ := hrel
    have hmono := nk_mono N hk
    by_cases hlt : k < N.length
    · have hlt2 : (k : Int) < (N.length : Int) := by omega
      have hmono2 := nk_mono N (show k + 1 ≤ N.length by omega)
      obtain ⟨_, _, he, _, hcc⟩ := HS0.out
      cases he
      obtain ⟨g, off, rfl, hg, hcells⟩ := hcc (by intro e; have := congrArg List.length e; simp only [List.length_nil] at this; omega)
      obtain ⟨c0, c1⟩ := hcells k hlt
      have HC0 : Hid (∀ w', Fr B w w' → w'.cell? ⟨g, off + k * 2, none⟩ = some (.string (sy N k).s)) := fun w' hb => ((Hb0.out.trans hb.b).cell (by rw [HB0.out]; exact hg)).trans c0
      have HC1 : Hid (∀ w', Fr B w w' → w'.cell? ⟨g, off + k * 2 + 1, none⟩ = some (.int .u64 (n64 (sy N k).v))) := fun w' hb => ((Hb0.out.trans hb.b).cell (by rw [HB0.out]; exact hg)).trans c1
      clear hcells hcc c0 c1
      obtain ⟨y, hy⟩ : ∃ y, y = sy N k := ⟨_, rfl⟩
      rw [← hy] at HC0 HC1
      have HY : Hid (nk N (k + 1) = nk N k + (y.s.size + 1)) := by unfold Hid; rw [hy]; rfl
      have HYY : Hid (y = sy N k) := hy
      clear hy
      obtain ⟨K, hK⟩ : ∃ K, K = nk N k := ⟨_, rfl⟩
      rw [← hK] at hmono HY hpr ⊢
      have HK : Hid (K = nk N k) := hK
      clear hK
      have HLt : Hid ((txL N k).length = 1 + K) := by unfold Hid; rw [HK.out]; exact txL_length N k
      have HLb : Hid ((l1 ++ tbL N k).length ≤ P + 24 + 24 * N.length) := by unfold Hid; rw [List.length_append, HL1'.out, tbL_length]; omega
      have hK2 : K + y.s.size ≤ 300000 := by have := HY.out; have := HL.out; omega
      have hP2 : P ≤ 300007 := by have := HA.out; have := HL.out; omega
      have hv := y.v.isLt
      have hv1 : 0 ≤ n64 y.v := by unfold n64; omega
      have hv2 : n64 y.v < 18446744073709551616 := by unfold n64; omega
      have Hv3 : Hid ((n64 y.v).toNat = y.v.toNat) := by unfold Hid n64; omega
      clear hv
      have hbc := hbel
      have hpc := hpr
      have c1 := HC1.out _ hbc.out
      have c0 := HC0.out _ hbc.out
      have HF : Hid True := trivial
      go_wp2_with (first
        | (go_at_call 15; refine (rnum_z B _ _ _ (txL N k) _ _ _ hpc.out (by omega) (by omega) (by omega) (by omega) (by have h := HLb.out; (try simp only [List.length_append, ptL_length] at h ⊢); omega) (Nat.le_trans HBW.out hbc.out.b.size)).mono ?_; rintro e w' ⟨v, rfl, hpn, hbn⟩; have hpc : Hid (Pr B w' v _ _ (txL N k)) := hpn; have hbc : Hid (Fr B w w') := hbc.out.trans hbn; have c1 := HC1.out _ hbc.out; have c0 := HC0.out _ hbc.out; clear hpn hbn)
        | (at_builtin; clear HF; refine appPts (by rfl) _ _ (by rfl) B _ _ _ (txL N k) y.s (by rfl) hpc.out (txL_head N k) (by rfl) (by have := HLt.out; omega) (Nat.le_trans HBW.out hbc.out.b.size) ?_; intro v' w' hpn hbn; have hpc : Hid (Pr B w' _ _ v' (txL N k ++ sb y.s)) := hpn; have hbc : Hid (Fr B w w') := hbc.out.trans hbn; clear hpn hbn)
        | (at_builtin; refine appPt (by rfl) _ _ (by rfl) B _ _ _ (txL N k ++ sb y.s) 0 (by rfl) hpc.out (by have h := txL_head N k; cases e : txL N k with | nil => rw [e] at h; simp at h | cons x l => rw [e] at h; exact h) _ (by rfl) (by simp) (by have := HLt.out; rw [List.length_append, sb_length]; omega) (Nat.le_trans HBW.out hbc.out.b.size) ?_; intro v' w' hpn hbn; obtain ⟨a9, c9, T9, rfl, HT9⟩ := lenOwn hpn.t; have hpc : Hid (Pr B w' _ _ (.slice a9 T9 c9) (txL N k ++ sb y.s ++ [0])) := hpn; have hbc : Hid (Fr B w w') := hbc.out.trans hbn; clear hpn hbn))
      have HX : Hid (txL N k ++ sb y.s ++ [0] = txL N (k + 1)) := by unfold Hid; rw [txL, HYY.out, List.append_assoc]
      have HTk : Hid (T9 = 1 + nk N (k + 1)) := by unfold Hid; rw [HT9.out, HX.out, txL_length]
      have hT9 := HTk.out
      subst hT9
      go_roundw
      case rel =>
        refine ⟨k + 1, by omega, by go_num, ⟨_, _, rfl⟩, ?_, hbc⟩
        have h := hpc.out
        rw [HX.out] at h
        have e : l1 ++ tbL N k ++ ptL (Int.toNat (1 + (K : Int))) 4 ++ ptL 16 2 ++ ptL 65521 2 ++ ptL (n64 y.v).toNat 8 ++ ptL 0 8 = l1 ++ tbL N (k + 1) := by
          rw [tbL, entL, ← HYY.out, ← HK.out, Hv3.out, show Int.toNat (1 + (K : Int)) = 1 + K by omega]
          simp only [List.append_assoc]
        rw [← e]
        exact h
      case measure => simp [intOf]; omega
    · have hkn : k = N.length := by omega
      have HKN : Hid (k = N.length) := hkn
      have hle : (N.length : Int) ≤ (k : Int) := by omega
      clear hkn hlt
      obtain ⟨K, hK⟩ : ∃ K, K = nk N k := ⟨_, rfl⟩
      rw [← hK] at hmono hpr ⊢
      have HK : Hid (K = nk N k) := hK
      clear hK
      obtain ⟨a3, c3, T3, rfl, HT3⟩ := lenOwn hpr.out.b
      have HT3' : Hid (T3 = P + 24 + 24 * N.length) := by unfold Hid; rw [HT3.out, List.length_append, HL1'.out, tbL_length, HKN.out]
      have hP2 : P ≤ 300007 := by have := HA.out; have := HL.out; omega
      have hK2 : K ≤ 300000 := by have := HL.out; omega
      have hT3 : T3 ≤ 320000 := by have := HT3'.out; omega
      have HLt : Hid ((txL N k).length = 1 + K) := by unfold Hid; rw [HK.out]; exact txL_length N k
      obtain ⟨L4, hL4⟩ : ∃ L4, L4 = l1 ++ tbL N k ++ txL N k := ⟨_, rfl⟩
      have HL4 : Hid (L4 = l1 ++ tbL N k ++ txL N k) := hL4
      have HL4' : Hid (L4.length = T3 + 1 + K) := by unfold Hid; rw [hL4, List.length_append, ← HT3.out, HLt.out]; omega
      obtain ⟨L5, hL5⟩ : ∃ L5, L5 = L4 ++ sb ownT := ⟨_, rfl⟩
      have HL5 : Hid (L5 = L4 ++ sb ownT) := hL5
      have HL5' : Hid (L5.length = T3 + 1 + K + 27) := by unfold Hid; rw [hL5, List.length_append, HL4'.out, sb_length, ownT_size]
      obtain ⟨L6, hL6⟩ : ∃ L6, L6 = L5 ++ zs (al L5.length - L5.length) := ⟨_, rfl⟩
      have HL6 : Hid (L6 = L5 ++ zs (al L5.length - L5.length)) := hL6
      have HL6' : Hid (L6.length ≤ 700000) := by unfold Hid; rw [hL6, List.length_append, zs_length]; have := HL5'.out; have := al_hi L5.length; omega
      clear hL4 hL5 hL6
      have HF : Hid True := trivial
      have HG : Hid True := trivial
      have hbc := hbel
      have hpc := hpr
      clear hpr hbel
      go_wp2_with (first
        | (at_builtin; clear HF; refine appPbd (by rfl) _ _ (by rfl) B _ _ (l1 ++ tbL N k) (txL N k) _ (txL N k) (by rfl) hpc.out (by rfl) (Byt.of_own hpc.out.t) (by have := HT3.out; have := HLt.out; omega) (Nat.le_trans HBW.out hbc.out.b.size) ?_; intro v' w' hpn hbn; rw [← HL4.out] at hpn; obtain ⟨a4, c4, T4, rfl, HT4⟩ := lenOwn hpn.b; have HT4' : Hid (T4 = T3 + 1 + K) := HT4.out.trans HL4'.out; have hT4 : T4 ≤ 630000 := (by have := HT4'.out; omega); have hpc : Hid (Pr B w' _ L4 _ (txL N k)) := hpn; have hbc : Hid (Fr B w w') := hbc.out.trans hbn; clear hpn hbn)
        | (at_builtin; clear HG; refine appPbs (by rfl) _ _ (by rfl) B _ _ L4 (txL N k) ownT (by rfl) hpc.out (by rfl) (by have := HL4'.out; rw [ownT_size]; omega) (Nat.le_trans HBW.out hbc.out.b.size) ?_; intro v' w' hpn hbn; rw [← HL5.out] at hpn; have hpc : Hid (Pr B w' v' L5 _ (txL N k)) := hpn; have hbc : Hid (Fr B w w') := hbc.out.trans hbn; clear hpn hbn)
        | (go_at_call 17; refine (rpad_c B _ _ L5 (txL N k) _ hpc.out (by have := HL5'.out; omega) (Nat.le_trans HBW.out hbc.out.b.size)).mono ?_; rintro e w' ⟨v, rfl, hpn, hbn⟩; rw [← HL6.out] at hpn; have hpc : Hid (Pr B w' v L6 _ (txL N k)) := hpn; have hbc : Hid (Fr B w w') := hbc.out.trans hbn; clear hpn hbn)
        | (go_at_call 31; refine (rsec_z B _ _ _ (txL N k) _ _ _ _ _ _ _ _ _ hpc.out (by have h := HL6'.out; (try simp only [List.length_append, secL_length]); omega) (Nat.le_trans HBW.out hbc.out.b.size) (by omega) (by omega) (by omega) (by omega) (by omega) (by omega) (by omega) (by omega)).mono ?_; rintro e w' ⟨v, rfl, hpn, hbn⟩; have hpc : Hid (Pr B w' v _ _ (txL N k)) := hpn; have hbc : Hid (Fr B w w') := hbc.out.trans hbn; clear hpn hbn))
      go_ret
      refine sym_fin (lb := lb) hpc.out ?_ hbc.out
      have e1 : Int.toNat ((T1 : Nat) : Int) = P := by rw [HT1'.out]; rfl
      have e2 : Int.toNat (24 + 24 * (N.length : Int)) = 24 + 24 * N.length := by omega
      have e3 : Int.toNat ((T3 : Nat) : Int) = P + 24 + 24 * N.length := by rw [HT3'.out]; rfl
      have e4 : Int.toNat (1 + (K : Int)) = 1 + nk N N.length := by rw [HK.out, HKN.out]; omega
      have e5 : Int.toNat ((T4 : Nat) : Int) = P + 24 + 24 * N.length + 1 + nk N N.length := by rw [HT4'.out, HT3'.out, HK.out, HKN.out]; rfl
      have e6 : L5.length = P + 24 + 24 * N.length + 1 + nk N N.length + 27 := by rw [HL5'.out, HT3'.out, HK.out, HKN.out]
      rw [e1, e2, e3, e4, e5, HL6.out, e6, HL5.out, HL4.out, HL1.out, HKN.out]
      unfold symL
      simp only [List.append_assoc]
      rfl
end Go.Proofs.YtjjdpfmkbaaapaaDoor
