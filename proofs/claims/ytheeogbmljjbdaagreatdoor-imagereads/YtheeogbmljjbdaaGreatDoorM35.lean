/-
  Ixb.
-/
import Derived.Test.YtheeogbmljjbdaaGreatDoorM34
import Derived.BigQuiet
namespace Go.Proofs.YtheeogbmljjbdaaGreatDoor
set_option linter.unusedVariables false
set_option maxRecDepth 100000
open Go.ChangeShapes Go.WideShapes Go.ChangeAt Go.RowKit Go.Deep
theorem sg_get {L : List Sg} {j : Nat} (h : j < L.length) : sg L j = L[j] := by unfold sg; simp [h]
theorem sg_mem {L : List Sg} {j : Nat} (h : j < L.length) : sg L j ∈ L := by rw [sg_get h]; exact List.getElem_mem h
/-- A part that may come next behind the first k. -/
abbrev fr (L S : List Sg) (k j : Nat) : Prop := k = 0 ∨ (sg S (k - 1)).a.toNat < (sg L j).a.toNat
theorem rise_lt {S : List Sg} (hs : S.Pairwise (fun x y => x.a.toNat < y.a.toNat)) {i j : Nat} (hj : j < S.length) (h : i < j) : (sg S i).a.toNat < (sg S j).a.toNat := by
  rw [sg_get hj, sg_get (show i < S.length by omega)]
  exact List.pairwise_iff_getElem.1 hs i j _ _ h
theorem rise_next {L S : List Sg} (hp : S.Perm L) (hs : S.Pairwise (fun x y => x.a.toNat < y.a.toNat)) {k t : Nat} (hk : k < S.length) (ht : t < L.length) (hf : fr L S k t) (hm : ∀ j, j < L.length → fr L S k j → (sg L t).a.toNat ≤ (sg L j).a.toNat) : sg L t = sg S k := by
  obtain ⟨m, hm1, hm2⟩ := List.getElem_of_mem (hp.mem_iff.2 (sg_mem ht))
  obtain ⟨j, hj1, hj2⟩ := List.getElem_of_mem (hp.mem_iff.1 (sg_mem hk))
  rw [← sg_get hm1] at hm2
  rw [← sg_get hj1] at hj2
  have h1 : k ≤ m := by
    rcases Nat.lt_or_ge m k with q | q
    · rcases hf with h | h
      · omega
      · rw [← hm2] at h
        rcases Nat.lt_or_ge m (k - 1) with r | r
        · have := rise_lt hs (show k - 1 < S.length by omega) r; omega
        · have e : m = k - 1 := by omega
          rw [e] at h; omega
    · exact q
  have h2 : fr L S k j := by
    rcases Nat.eq_zero_or_pos k with q | q
    · exact .inl q
    · right; rw [hj2]; exact rise_lt hs hk (by omega)
  have h3 := hm j hj1 h2
  rw [hj2, ← hm2] at h3
  rcases Nat.lt_or_ge k m with q | q
  · have := rise_lt hs hm1 q; omega
  · rw [← hm2]; rw [show m = k by omega]
theorem rise_has {L S : List Sg} (hp : S.Perm L) (hs : S.Pairwise (fun x y => x.a.toNat < y.a.toNat)) {k : Nat} (hk : k < S.length) : ∃ j, j < L.length ∧ fr L S k j := by
  obtain ⟨j, hj1, hj2⟩ := List.getElem_of_mem (hp.mem_iff.1 (sg_mem hk))
  rw [← sg_get hj1] at hj2
  refine ⟨j, hj1, ?_⟩
  rcases Nat.eq_zero_or_pos k with q | q
  · exact .inl q
  · right; rw [hj2]; exact rise_lt hs hk (by omega)
/-- The best of the first i. -/
def Bst (L S : List Sg) (k i : Nat) (t : Int) : Prop :=
  (t = -1 ∧ ∀ j, j < i → ¬ fr L S k j) ∨ (∃ t' : Nat, t = (t' : Int) ∧ t' < i ∧ fr L S k t' ∧ ∀ j, j < i → fr L S k j → (sg L t').a.toNat ≤ (sg L j).a.toNat)
theorem bst_zero (L S : List Sg) (k : Nat) : Bst L S k 0 (-1) := .inl ⟨rfl, fun j h => by omega⟩
theorem bst_skip {L S : List Sg} {k i : Nat} {t : Int} (h : Bst L S k i t) (hn : ¬ fr L S k i) : Bst L S k (i + 1) t := by
  rcases h with ⟨h1, h2⟩ | ⟨t', h1, h2, h3, h4⟩
  · refine .inl ⟨h1, fun j hj => ?_⟩
    by_cases e : j = i
    · rw [e]; exact hn
    · exact h2 j (by omega)
  · refine .inr ⟨t', h1, by omega, h3, fun j hj hf => ?_⟩
    by_cases e : j = i
    · rw [e] at hf; exact absurd hf hn
    · exact h4 j (by omega) hf
theorem bst_first {L S : List Sg} {k i : Nat} (h : Bst L S k i (-1)) (hf : fr L S k i) : Bst L S k (i + 1) (i : Int) := by
  rcases h with ⟨h1, h2⟩ | ⟨t', h1, _⟩
  · refine .inr ⟨i, rfl, by omega, hf, fun j hj hj2 => ?_⟩
    by_cases e : j = i
    · rw [e]; exact Nat.le_refl _
    · exact absurd hj2 (h2 j (by omega))
  · omega
theorem bst_less {L S : List Sg} {k i t : Nat} (h : Bst L S k i (t : Int)) (hf : fr L S k i) (hl : (sg L i).a.toNat < (sg L t).a.toNat) : Bst L S k (i + 1) (i : Int) := by
  rcases h with ⟨h1, h2⟩ | ⟨t', h1, h2, h3, h4⟩
  · omega
  · obtain rfl : t' = t := by omega
    refine .inr ⟨i, rfl, by omega, hf, fun j hj hj2 => ?_⟩
    by_cases e : j = i
    · rw [e]; exact Nat.le_refl _
    · have := h4 j (by omega) hj2; omega
theorem bst_keep {L S : List Sg} {k i t : Nat} (h : Bst L S k i (t : Int)) (hl : ¬ (sg L i).a.toNat < (sg L t).a.toNat) : Bst L S k (i + 1) (t : Int) := by
  rcases h with ⟨h1, h2⟩ | ⟨t', h1, h2, h3, h4⟩
  · omega
  · obtain rfl : t' = t := by omega
    refine .inr ⟨t', rfl, by omega, h3, fun j hj hj2 => ?_⟩
    by_cases e : j = i
    · rw [e]; omega
    · exact h4 j (by omega) hj2
theorem bst_end {L S : List Sg} {k : Nat} {t : Int} (hp : S.Perm L) (hs : S.Pairwise (fun x y => x.a.toNat < y.a.toNat)) (hk : k < S.length) (h : Bst L S k L.length t) : ∃ t' : Nat, t = (t' : Int) ∧ t' < L.length ∧ sg L t' = sg S k := by
  rcases h with ⟨h1, h2⟩ | ⟨t', h1, h2, h3, h4⟩
  · obtain ⟨j, hj, hf⟩ := rise_has hp hs hk
    exact absurd hf (h2 j hj)
  · exact ⟨t', h1, h2, rise_next hp hs hk h2 h3 h4⟩
theorem bst_at {L S : List Sg} {k i : Nat} {t : Int} (h : Bst L S k i t) : t = -1 ∨ ∃ t' : Nat, t = (t' : Int) ∧ t' < i := by
  rcases h with ⟨h1, _⟩ | ⟨t', h1, h2, _⟩
  · exact .inl h1
  · exact .inr ⟨t', h1, h2⟩
/-- Parts by rising address. -/
def sgS (L : List Sg) : List Sg := L.mergeSort (fun x y => decide (x.a.toNat ≤ y.a.toNat))
theorem sgS_perm (L : List Sg) : (sgS L).Perm L := List.mergeSort_perm _ _
theorem sgS_rise {L : List Sg} (hd : L.Pairwise (fun x y => x.a.toNat ≠ y.a.toNat)) : (sgS L).Pairwise (fun x y => x.a.toNat < y.a.toNat) := by
  have h1 : (sgS L).Pairwise (fun x y => x.a.toNat ≤ y.a.toNat) := by
    have q := List.pairwise_mergeSort (le := fun x y : Sg => decide (x.a.toNat ≤ y.a.toNat)) (fun a b c h1 h2 => by simp at *; omega) (fun a b => by simp; omega) L
    exact q.imp (fun h => by simpa using h)
  have h2 : (sgS L).Pairwise (fun x y => x.a.toNat ≠ y.a.toNat) := (List.Perm.pairwise_iff (fun {x y} h => Ne.symm h) (sgS_perm L)).2 hd
  exact (h1.and h2).imp (fun {x y} h => by have := h.1; have := h.2; omega)
theorem take_snoc {S : List Sg} {k : Nat} (hk : k < S.length) : S.take k ++ [sg S k] = S.take (k + 1) := by
  rw [sg_get hk, List.take_succ_eq_append_getElem hk]
theorem sg_take {S : List Sg} {k j : Nat} (h : j < k) : sg (S.take k) j = sg S j := by
  unfold sg; rw [List.getD_eq_getElem?_getD, List.getD_eq_getElem?_getD, List.getElem?_take_of_lt h]
set_option maxHeartbeats 8000000 in
theorem rrising_c (va : Value) (L : List Sg) (hL : L.length ≤ 16) (hd : L.Pairwise (fun x y => x.a.toNat ≠ y.a.toNat)) (w : World) (ha : Sgs w va L) :
    Calls Tryz.prog 36 #[va] w fun e w' => ∃ um un uc, e = .returned (.slice um un uc) ∧ w'.ownsRow w.heap.size 61 4 (.slice um un uc) (sgS L).length (sgl (sgS L)) ∧ Below w.heap.size w w' := by
  have HP := Hid.mkI (sgS_perm L)
  have HI := Hid.mkI (sgS_rise hd)
  have hSl : Hid ((sgS L).length = L.length) := (sgS_perm L).length_eq
  have ha2 := ha
  obtain ⟨la, lc, rfl, hlc, _⟩ := ha
  have HS : Hid (∀ w', Below w.heap.size w w' → L ≠ [] → ∃ g off, la = some ⟨g, off, none⟩ ∧ ∀ j, j < L.length → w'.cell? ⟨g, off + j * 4, none⟩ = some (.int .u64 (n64 (sg L j).a)) ∧ w'.cell? ⟨g, off + j * 4 + 1, none⟩ = some (.int .u64 (n64 (sg L j).s)) ∧ w'.cell? ⟨g, off + j * 4 + 2, none⟩ = some (.int .i64 (sg L j).f) ∧ w'.cell? ⟨g, off + j * 4 + 3, none⟩ = some (.slice (sg L j).m (sg L j).n (sg L j).c)) := fun w' hb hne => by
    obtain ⟨ad, cp, e, _, h2⟩ := ha2.later hb rfl
    cases e
    obtain ⟨g, off, h3, _, h4⟩ := h2 hne
    exact ⟨g, off, h3, h4⟩
  clear ha2
  generalize sgS L = S at HP HI hSl ⊢
  have hLI : (L.length : Int) ≤ 16 := by omega
  clear hd
  obtain ⟨LL, hLL⟩ : ∃ LL, LL = L.length := ⟨_, rfl⟩
  rw [← hLL] at hLI hlc hSl HS ⊢
  have HLL := Hid.mkI hLL
  clear hLL
  go_enter Tryz.func36, Tryz.ntmps36
  go_wp2
  go_loopw [3] (fun y wr => ∃ (k : Nat) (ym : Option Addr) (yc : Nat), k ≤ LL ∧ y = .slice ym k yc ∧ Hid (wr.ownsRow w.heap.size 61 4 (.slice ym k yc) (S.take k).length (sgl (S.take k))) ∧ Hid (Below w.heap.size w wr)) (fun y _ => LL - (match y with | .slice _ n _ => n | _ => 0))
  case atStart => exact ⟨0, none, 0, Nat.zero_le _, rfl, own_nilS _ _, Below.refl _ _⟩
  case round =>
    obtain ⟨k, ym, yc, hk, rfl, HO, HW⟩ := hrel
    by_cases hlt : k < LL
    · obtain ⟨WO, rfl⟩ : ∃ WO : World, WO = wr := ⟨_, rfl⟩
      have hltI : (k : Int) < LL := by omega
      have hltD : decide (k < LL) = true := by simp; omega
      have HLT := Hid.mkI hlt
      clear hlt
      go_upto_region 5 with fail
      --@M1
      go_wp2
      go_loopw [5, 4] (fun x z wx => ∃ (i : Nat) (t : Int), i ≤ LL ∧ x = .int .i64 i ∧ z = .int .i64 t ∧ Hid (Below WO.heap.size WO wx) ∧ Hid (Bst L S k i t)) (fun x _ _ => LL - (intOf x).toNat)
      case atStart => exact ⟨0, -1, Nat.zero_le _, rfl, rfl, Below.refl _ _, bst_zero _ _ _⟩
      case round =>
        obtain ⟨i, t, hi, rfl, rfl, HX, HT⟩ := hrel
        have HXW : Hid (Below w.heap.size w wr) := HW.out.trans (HX.out.mono HW.out.size)
        by_cases hli : i < LL
        · have hliI : (i : Int) < LL := by omega
          have HLI := Hid.mkI hli
          obtain ⟨gl, ol, rfl, hcl⟩ := HS.out wr HXW.out (by intro e; have := HLL.out; rw [e] at this; simp at this; omega)
          have xi := (hcl i hli).1
          have HCL := Hid.mkI (fun j (hj : j < LL) => (hcl j hj).1)
          obtain ⟨X, hX⟩ : ∃ X, X = n64 (sg L i).a := ⟨_, rfl⟩
          rw [← hX] at xi
          have HXI := Hid.mkI hX
          clear hX hcl hli
          rcases Nat.eq_zero_or_pos k with hk0 | hk0
          · have HF : Hid (fr L S k i) := .inl hk0
            have hk0b : ((k : Int) == 0) = true := by rw [beq_iff_eq]; omega
            clear hk0
            go_upto_region 7 with fail
            go_quiet (fail)
            clear hk0b
            rcases bst_at HT.out with ht | ⟨t', ht, htl⟩
            · subst ht
              have HB2 : Hid (Bst L S k (i + 1) (i : Int)) := bst_first HT.out HF.out
              go_upto_region 8 with fail
              go_quiet (fail)
              go_wp2
              go_roundw
              case rel => exact ⟨i + 1, i, HLI.out, by go_num, rfl, below_drewX HX.out _, HB2⟩
              case measure => simp [intOf]; omega
            · subst ht
              have htb : decide ((t' : Int) < 0) = false := by simp
              have htI : (t' : Int) < LL := by omega
              have xt := HCL.out t' (by omega)
              obtain ⟨Z, hZ⟩ : ∃ Z, Z = n64 (sg L t').a := ⟨_, rfl⟩
              rw [← hZ] at xt
              have HLS : Hid ((sg L i).a.toNat < (sg L t').a.toNat ↔ X < Z) := by
                unfold Hid; rw [HXI.out, hZ]; unfold n64; omega
              clear hZ
              by_cases hz : X < Z
              · have hzD : decide (X < Z) = true := decide_eq_true hz
                have HB2 : Hid (Bst L S k (i + 1) (i : Int)) := bst_less HT.out HF.out (HLS.out.2 hz)
                clear hz
                go_upto_region 8 with fail
                go_quiet (fail)
                go_wp2
                go_roundw
                case rel => exact ⟨i + 1, i, HLI.out, by go_num, rfl, below_drewX HX.out _, HB2⟩
                case measure => simp [intOf]; omega
              · have hzD : decide (X < Z) = false := decide_eq_false hz
                have HB2 : Hid (Bst L S k (i + 1) (t' : Int)) := bst_keep HT.out (fun h => hz (HLS.out.1 h))
                clear hz
                go_upto_region 8 with fail
                go_quiet (fail)
                go_wp2
                go_roundw
                case rel => exact ⟨i + 1, t', HLI.out, by go_num, rfl, below_drewX HX.out _, HB2⟩
                case measure => simp [intOf]; omega
          · have hk0b : ((k : Int) == 0) = false := by rw [beq_eq_false_iff_ne]; omega
            obtain ⟨q, hq⟩ : ∃ q, q = k - 1 := ⟨_, rfl⟩
            have hqI : (k : Int) - 1 = q := by omega
            have hqk : (q : Int) < k := by omega
            have HQ := Hid.mkI hq
            obtain ⟨ao, co, eo, _, h3⟩ := Sgs.of_own (own_below HO.out HX.out)
            have htl : (S.take k).length = k := by rw [List.length_take, hSl.out]; omega
            rw [htl] at eo
            cases eo
            obtain ⟨go, oo, rfl, hgo, hco⟩ := h3 (by intro e; rw [e] at htl; simp at htl; omega)
            have yq := (hco q (by rw [htl]; omega)).1
            rw [sg_take (show q < k by omega)] at yq
            obtain ⟨Y, hY⟩ : ∃ Y, Y = n64 (sg S q).a := ⟨_, rfl⟩
            rw [← hY] at yq
            have HFR : Hid (fr L S k i ↔ Y < X) := by
              unfold Hid fr; rw [HXI.out, hY, ← hq]; unfold n64
              constructor
              · rintro (h | h)
                · omega
                · omega
              · intro h; right; omega
            clear hY hco h3 htl hk0 hq
            by_cases hf : Y < X
            · have hfD : decide (Y < X) = true := decide_eq_true hf
              have HF : Hid (fr L S k i) := HFR.out.2 hf
              clear hf
              go_upto_region 7 with fail
              --@M2
              go_quiet (fail)
              clear hk0b hfD yq
              rcases bst_at HT.out with ht | ⟨t', ht, htl⟩
              · subst ht
                have HB2 : Hid (Bst L S k (i + 1) (i : Int)) := bst_first HT.out HF.out
                go_upto_region 8 with fail
                go_quiet (fail)
                go_wp2
                go_roundw
                case rel => exact ⟨i + 1, i, HLI.out, by go_num, rfl, below_drewX HX.out _, HB2⟩
                case measure => simp [intOf]; omega
              · subst ht
                have htb : decide ((t' : Int) < 0) = false := by simp
                have htI : (t' : Int) < LL := by omega
                have xt := HCL.out t' (by omega)
                obtain ⟨Z, hZ⟩ : ∃ Z, Z = n64 (sg L t').a := ⟨_, rfl⟩
                rw [← hZ] at xt
                have HLS : Hid ((sg L i).a.toNat < (sg L t').a.toNat ↔ X < Z) := by
                  unfold Hid; rw [HXI.out, hZ]; unfold n64; omega
                clear hZ
                by_cases hz : X < Z
                · have hzD : decide (X < Z) = true := decide_eq_true hz
                  have HB2 : Hid (Bst L S k (i + 1) (i : Int)) := bst_less HT.out HF.out (HLS.out.2 hz)
                  clear hz
                  go_upto_region 8 with fail
                  go_quiet (fail)
                  go_wp2
                  go_roundw
                  case rel => exact ⟨i + 1, i, HLI.out, by go_num, rfl, below_drewX HX.out _, HB2⟩
                  case measure => simp [intOf]; omega
                · have hzD : decide (X < Z) = false := decide_eq_false hz
                  have HB2 : Hid (Bst L S k (i + 1) (t' : Int)) := bst_keep HT.out (fun h => hz (HLS.out.1 h))
                  clear hz
                  go_upto_region 8 with fail
                  go_quiet (fail)
                  go_wp2
                  go_roundw
                  case rel => exact ⟨i + 1, t', HLI.out, by go_num, rfl, below_drewX HX.out _, HB2⟩
                  case measure => simp [intOf]; omega
            · have hfD : decide (Y < X) = false := decide_eq_false hf
              have HB2 : Hid (Bst L S k (i + 1) t) := bst_skip HT.out (fun h => hf (HFR.out.1 h))
              clear hf
              go_upto_region 7 with fail
              go_quiet (fail)
              go_upto_region 8 with fail
              go_quiet (fail)
              go_wp2
              go_roundw
              case rel => exact ⟨i + 1, t, HLI.out, by go_num, rfl, below_drewX HX.out _, HB2⟩
              case measure => simp [intOf]; omega
        · obtain rfl : i = LL := by omega
          have HB2 : Hid (Bst L S k L.length t) := by unfold Hid; rw [← HLL.out]; exact HT.out
          obtain ⟨t', ht', htl, hst⟩ := bst_end HP.out HI.out (by rw [hSl.out]; exact HLT.out) HB2.out
          subst ht'
          obtain ⟨gl, ol, rfl, hcl⟩ := HS.out wr HXW.out (by intro e; rw [e] at htl; simp at htl)
          obtain ⟨x0, x1, x2, x3⟩ := hcl t' (by have := HLL.out; omega)
          have htI : (t' : Int) < i := by have := HLL.out; omega
          have HST := Hid.mkI hst
          have HOx : Hid (wr.ownsRow w.heap.size 61 4 (.slice ym k yc) (S.take k).length (sgl (S.take k))) := own_below HO.out HX.out
          clear hcl hst htl
          have HY0 : Hid (∀ W : World, W.alloc (.cells #[.int .u64 (n64 (sg L t').a), .int .u64 (n64 (sg L t').s), .int .i64 (sg L t').f, .slice (sg L t').m (sg L t').n (sg L t').c] 61) = W.alloc (.cells #[.int .u64 (n64 (sg S k).a), .int .u64 (n64 (sg S k).s), .int .i64 (sg S k).f, .slice (sg S k).m (sg S k).n (sg S k).c] 61)) := fun W => by rw [HST.out]
          generalize n64 (sg L t').a = X0 at *
          generalize n64 (sg L t').s = X1 at *
          generalize (sg L t').f = X2 at *
          generalize (sg L t').m = X3 at *
          generalize (sg L t').n = X4 at *
          generalize (sg L t').c = X5 at *
          go_upto_region 10 with fail
          --@M3
          go_wp2_with (at_builtin; have A1 : (wr.alloc (.cells #[.int .u64 X0, .int .u64 X1, .int .i64 X2, .slice X3 X4 X5] 61)).ownsRow w.heap.size 61 4 (.slice ym k yc) (S.take k).length (sgl (S.take k)) := own_below HOx.out ((Below.refl _ wr).alloc (Nat.le_refl _) _); have A2 : (wr.alloc (.cells #[.int .u64 X0, .int .u64 X1, .int .i64 X2, .slice X3 X4 X5] 61)).heap[wr.heap.size]? = some (.cells #[.int .u64 (n64 (sg S k).a), .int .u64 (n64 (sg S k).s), .int .i64 (sg S k).f, .slice (sg S k).m (sg S k).n (sg S k).c] 61 (0, 0)) := (by rw [HY0.out]; exact heap_alloc_new wr _); have A3 : w.heap.size ≤ (wr.alloc (.cells #[.int .u64 X0, .int .u64 X1, .int .i64 X2, .slice X3 X4 X5] 61)).heap.size := (by have := HXW.out.size; simp; omega); refine appR (by rfl) _ _ (by rfl) w.heap.size (.slice ym k yc) (S.take k) (sg S k) (by rfl) A1 wr.heap.size (by rfl) A2 (by rw [List.length_take]; have := HLT.out; omega) A3 ?_; clear A1 A2 A3; intro v9 w9 ho9 hb9 hk9; have HO9 : Hid (w9.ownsRow w.heap.size 61 4 v9 (S.take (k + 1)).length (sgl (S.take (k + 1)))) := (by rw [← take_snoc (by rw [hSl.out]; exact HLT.out)]; exact ho9); have H9 : Hid (Below w.heap.size w w9) := (HXW.out.alloc HXW.out.size _).trans hb9; clear ho9 hb9 hk9; obtain ⟨zm, zn, zc, rfl⟩ := own_slice HO9.out; have hzn : zn = k + 1 := (by obtain ⟨ad, cp, e, _⟩ := Sgs.of_own HO9.out; cases e; rw [List.length_take, hSl.out]; have := HLT.out; omega); subst hzn)
          go_roundw
          case rel => exact ⟨k + 1, zm, zc, HLT.out, rfl, HO9, H9⟩
          case measure => have := HLT.out; simp; omega
    · obtain rfl : k = LL := by omega
      have hltD : decide (k < k) = false := by simp
      go_wp2
      go_ret
      have e : S.take k = S := by rw [← hSl.out]; exact List.take_length
      refine ⟨ym, k, yc, rfl, ?_, HW.out⟩
      have q := HO.out
      rw [e] at q
      exact q
end Go.Proofs.YtheeogbmljjbdaaGreatDoor
