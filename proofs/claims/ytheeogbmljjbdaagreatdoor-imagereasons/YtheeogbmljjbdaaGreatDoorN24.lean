/-
  Ixb Ixf.
-/
import Derived.Test.YtheeogbmljjbdaaGreatDoorN23
import Derived.BigQuiet
import Derived.Test.YtheeogbmljjbdaaGreatDoorN22
namespace Go.Proofs.YtheeogbmljjbdaaGreatDoor
set_option linter.unusedVariables false
set_option maxRecDepth 100000
open Go.ChangeShapes Go.WideShapes Go.ChangeAt Go.RowKit Go.Deep
theorem sg_get {L : List Sg} {j : Nat} (h : j < L.length) : sg L j = L[j] := by unfold sg; simp [h]
theorem sg_mem {L : List Sg} {j : Nat} (h : j < L.length) : sg L j ∈ L := by rw [sg_get h]; exact List.getElem_mem h
/-- A part that may come next behind the first k. -/
abbrev fr (L S : List Sg) (k j : Nat) : Prop := k = 0 ∨ (sg S (k - 1)).a.toNat < (sg L j).a.toNat
theorem rise_lt {S : List Sg} (hs : S.Pairwise (fun x y => x.a.toNat < y.a.toNat)) {i j : Nat} (hj : j < S.length) (h : i < j) : (sg S i).a.toNat < (sg S j).a.toNat := by
  rw [sg_get hj, sg_get (show i < S.length by omega)]
  exact List.pairwise_iff_getElem.1 hs i j _ _ h
theorem rise_next {L S : List Sg} (hp : S.Perm L) (hs : S.Pairwise (fun x y => x.a.toNat < y.a.toNat)) {k t : Nat} (hk : k < S.length) (ht : t < L.length) (hf : fr L S k t) (hm : ∀ j, j < L.length → fr L S k j → (sg L t).a.toNat ≤ (sg L j).a.toNat) : sg L t = sg S k := by
  obtain ⟨m, hm1, hm2⟩ := List.getElem_of_mem (hp.mem_iff.2 (sg_mem ht))
  obtain ⟨j, hj1, hj2⟩ := List.getElem_of_mem (hp.mem_iff.1 (sg_mem hk))
  rw [← sg_get hm1] at hm2
  rw [← sg_get hj1] at hj2
  have h1 : k ≤ m := by
    rcases Nat.lt_or_ge m k with q | q
    · rcases hf with h | h
      · omega
      · rw [← hm2] at h
        rcases Nat.lt_or_ge m (k - 1) with r | r
        · have := rise_lt hs (show k - 1 < S.length by omega) r; omega
        · have e : m = k - 1 := by omega
          rw [e] at h; omega
    · exact q
  have h2 : fr L S k j := by
    rcases Nat.eq_zero_or_pos k with q | q
    · exact .inl q
    · right; rw [hj2]; exact rise_lt hs hk (by omega)
  have h3 := hm j hj1 h2
  rw [hj2, ← hm2] at h3
  rcases Nat.lt_or_ge k m with q | q
  · have := rise_lt hs hm1 q; omega
  · rw [← hm2]; rw [show m = k by omega]
theorem rise_has {L S : List Sg} (hp : S.Perm L) (hs : S.Pairwise (fun x y => x.a.toNat < y.a.toNat)) {k : Nat} (hk : k < S.length) : ∃ j, j < L.length ∧ fr L S k j := by
  obtain ⟨j, hj1, hj2⟩ := List.getElem_of_mem (hp.mem_iff.1 (sg_mem hk))
  rw [← sg_get hj1] at hj2
  refine ⟨j, hj1, ?_⟩
  rcases Nat.eq_zero_or_pos k with q | q
  · exact .inl q
  · right; rw [hj2]; exact rise_lt hs hk (by omega)
/-- The best of the first i. -/
def Bst (L S : List Sg) (k i : Nat) (t : Int) : Prop :=
  (t = -1 ∧ ∀ j, j < i → ¬ fr L S k j) ∨ (∃ t' : Nat, t = (t' : Int) ∧ t' < i ∧ fr L S k t' ∧ ∀ j, j < i → fr L S k j → (sg L t').a.toNat ≤ (sg L j).a.toNat)
theorem bst_zero (L S : List Sg) (k : Nat) : Bst L S k 0 (-1) := .inl ⟨rfl, fun j h => by omega⟩
theorem bst_skip {L S : List Sg} {k i : Nat} {t : Int} (h : Bst L S k i t) (hn : ¬ fr L S k i) : Bst L S k (i + 1) t := by
  rcases h with ⟨h1, h2⟩ | ⟨t', h1, h2, h3, h4⟩
  · refine .inl ⟨h1, fun j hj => ?_⟩
    by_cases e : j = i
    · rw [e]; exact hn
    · exact h2 j (by omega)
  · refine .inr ⟨t', h1, by omega, h3, fun j hj hf => ?_⟩
    by_cases e : j = i
    · rw [e] at hf; exact absurd hf hn
    · exact h4 j (by omega) hf
theorem bst_first {L S : List Sg} {k i : Nat} (h : Bst L S k i (-1)) (hf : fr L S k i) : Bst L S k (i + 1) (i : Int) := by
  rcases h with ⟨h1, h2⟩ | ⟨t', h1, _⟩
  · refine .inr ⟨i, rfl, by omega, hf, fun j hj hj2 => ?_⟩
    by_cases e : j = i
    · rw [e]; exact Nat.le_refl _
    · exact absurd hj2 (h2 j (by omega))
  · omega
theorem bst_less {L S : List Sg} {k i t : Nat} (h : Bst L S k i (t : Int)) (hf : fr L S k i) (hl : (sg L i).a.toNat < (sg L t).a.toNat) : Bst L S k (i + 1) (i : Int) := by
  rcases h with ⟨h1, h2⟩ | ⟨t', h1, h2, h3, h4⟩
  · omega
  · obtain rfl : t' = t := by omega
    refine .inr ⟨i, rfl, by omega, hf, fun j hj hj2 => ?_⟩
    by_cases e : j = i
    · rw [e]; exact Nat.le_refl _
    · have := h4 j (by omega) hj2; omega
theorem bst_keep {L S : List Sg} {k i t : Nat} (h : Bst L S k i (t : Int)) (hl : ¬ (sg L i).a.toNat < (sg L t).a.toNat) : Bst L S k (i + 1) (t : Int) := by
  rcases h with ⟨h1, h2⟩ | ⟨t', h1, h2, h3, h4⟩
  · omega
  · obtain rfl : t' = t := by omega
    refine .inr ⟨t', rfl, by omega, h3, fun j hj hj2 => ?_⟩
    by_cases e : j = i
    · rw [e]; omega
    · exact h4 j (by omega) hj2
theorem bst_end {L S : List Sg} {k : Nat} {t : Int} (hp : S.Perm L) (hs : S.Pairwise (fun x y => x.a.toNat < y.a.toNat)) (hk : k < S.length) (h : Bst L S k L.length t) : ∃ t' : Nat, t = (t' : Int) ∧ t' < L.length ∧ sg L t' = sg S k := by
  rcases h with ⟨h1, h2⟩ | ⟨t', h1, h2, h3, h4⟩
  · obtain ⟨j, hj, hf⟩ := rise_has hp hs hk
    exact absurd hf (h2 j hj)
  · exact ⟨t', h1, h2, rise_next hp hs hk h2 h3 h4⟩
theorem bst_at {L S : List Sg} {k i : Nat} {t : Int} (h : Bst L S k i t) : t = -1 ∨ ∃ t' : Nat, t = (t' : Int) ∧ t' < i := by
  rcases h with ⟨h1, _⟩ | ⟨t', h1, h2, _⟩
  · exact .inl h1
  · exact .inr ⟨t', h1, h2⟩
/-- Parts by rising address. -/
def sgS (L : List Sg) : List Sg := L.mergeSort (fun x y => decide (x.a.toNat ≤ y.a.toNat))
theorem sgS_perm (L : List Sg) : (sgS L).Perm L := List.mergeSort_perm _ _
theorem sgS_rise {L : List Sg} (hd : L.Pairwise (fun x y => x.a.toNat ≠ y.a.toNat)) : (sgS L).Pairwise (fun x y => x.a.toNat < y.a.toNat) := by
  have h1 : (sgS L).Pairwise (fun x y => x.a.toNat ≤ y.a.toNat) := by
    have q := List.pairwise_mergeSort (le := fun x y : Sg => decide (x.a.toNat ≤ y.a.toNat)) (fun a b c h1 h2 => by simp at *; omega) (fun a b => by simp; omega) L
    exact q.imp (fun h => by simpa using h)
  have h2 : (sgS L).Pairwise (fun x y => x.a.toNat ≠ y.a.toNat) := (List.Perm.pairwise_iff (fun {x y} h => Ne.symm h) (sgS_perm L)).2 hd
  exact (h1.and h2).imp (fun {x y} h => by have := h.1; have := h.2; omega)
theorem take_snoc {S : List Sg} {k : Nat} (hk : k < S.length) : S.take k ++ [sg S k] = S.take (k + 1) := by
  rw [sg_get hk, List.take_succ_eq_append_getElem hk]
theorem sg_take {S : List Sg} {k j : Nat} (h : j < k) : sg (S.take k) j = sg S j := by
  unfold sg; rw [List.getD_eq_getElem?_getD, List.getD_eq_getElem?_getD, List.getElem?_take_of_lt h]
set_option maxHeartbeats 8000000 in
theorem rrising_c (va : Value) (L : List Sg) (hL : L.length ≤ 16) (hd : L.Pairwise (fun x y => x.a.toNat ≠ y.a.toNat)) (w : World) (ha : Sgs w va L) :
    Calls Tryz.prog 36 #[va] w fun e w' => ∃ um un uc, e = .returned (.slice um un uc) ∧ w'.ownsRow w.heap.size 61 4 (.slice um un uc) (sgS L).length (sgl (sgS L)) ∧ Below w.heap.size w w' := by
  have HP := Hid.mkI (sgS_perm L)
  have HI := Hid.mkI (sgS_rise hd)
  have hSl : Hid ((sgS L).length = L.length) := (sgS_perm L).length_eq
  have ha2 := ha
  obtain ⟨la, lc, rfl, hlc, _⟩ := ha
  have HS : Hid (∀ w', Below w.heap.size w w' → L ≠ [] → ∃ g off, la = some ⟨g, off, none⟩ ∧ ∀ j, j < L.length → w'.cell? ⟨g, off + j * 4, none⟩ = some (.int .u64 (n64 (sg L j).a)) ∧ w'.cell? ⟨g, off + j * 4 + 1, none⟩ = some (.int .u64 (n64 (sg L j).s)) ∧ w'.cell? ⟨g, off + j * 4 + 2, none⟩ = some (.int .i64 (sg L j).f) ∧ w'.cell? ⟨g, off + j * 4 + 3, none⟩ = some (.slice (sg L j).m (sg L j).n (sg L j).c)) := fun w' hb hne => by
    obtain ⟨ad, cp, e, _, h2⟩ := ha2.later hb rfl
    cases e
    obtain ⟨g, off, h3, _, h4⟩ := h2 hne
    exact ⟨g, off, h3, h4⟩
  clear ha2
  generalize sgS L = S at HP HI hSl ⊢
  have hLI : (L.length : Int) ≤ 16 := by omega
  clear hd
  obtain ⟨LL, hLL⟩ : ∃ LL, LL = L.length := ⟨_, rfl⟩
  rw [← hLL] at hLI hlc hSl HS ⊢
  have HLL := Hid.mkI hLL
  clear hLL
  go_enter Tryz.func36, Tryz.ntmps36
  go_wp2
  go_loopw [3] (fun y wr => ∃ (k : Nat) (ym : Option Addr) (yc : Nat), k ≤ LL ∧ y = .slice ym k yc ∧ Hid (wr.ownsRow w.heap.size 61 4 (.slice ym k yc) (S.take k).length (sgl (S.take k))) ∧ Hid (Below w.heap.size w wr)) (fun y _ => LL - (match y with | .slice _ n _ => n | _ => 0))
  case atStart => exact ⟨0, none, 0, Nat.zero_le _, rfl, own_nilS _ _, Below.refl _ _⟩
  case round =>
    obtain ⟨k, ym, yc, hk, rfl, HO, HW⟩ := hrel
    by_cases hlt : k < LL
    · obtain ⟨WO, rfl⟩ : ∃ WO : World, WO = wr := ⟨_, rfl⟩
      have hltI : (k : Int) < LL := by omega
      have hltD : decide (k < LL) = true := by simp; omega
      have HLT := Hid.mkI hlt
      clear hlt
      go_upto_region 5 with fail
      --@M1
      go_wp2
      go_loopw [5, 4] (fun x z wx => ∃ (i : Nat) (t : Int), i ≤ LL ∧ x = .int .i64 i ∧ z = .int .i64 t ∧ Hid (Below WO.heap.size WO wx) ∧ Hid (Bst L S k i t)) (fun x _ _ => LL - (intOf x).toNat)
      case atStart => exact ⟨0, -1, Nat.zero_le _, rfl, rfl, Below.refl _ _, bst_zero _ _ _⟩
      case round =>
        obtain ⟨i, t, hi, rfl, rfl, HX, HT⟩ := hrel
        have HXW : Hid (Below w.heap.size w wr) := HW.out.trans (HX.out.mono HW.out.size)
        by_cases hli : i < LL
        · have hliI : (i : Int) < LL := by omega
          have HLI := Hid.mkI hli
          obtain ⟨gl, ol, rfl, hcl⟩ := HS.out wr HXW.out (by intro e; have := HLL.out; rw [e] at this; simp at this; omega)
          have xi := (hcl i hli).1
          have HCL := Hid.mkI (fun j (hj : j < LL) => (hcl j hj).1)
          obtain ⟨X, hX⟩ : ∃ X, X = n64 (sg L i).a := ⟨_, rfl⟩
          rw [← hX] at xi
          have HXI := Hid.mkI hX
          clear hX hcl hli
          rcases Nat.eq_zero_or_pos k with hk0 | hk0
          · have HF : Hid (fr L S k i) := .inl hk0
            have hk0b : ((k : Int) == 0) = true := by rw [beq_iff_eq]; omega
            clear hk0
            go_upto_region 7 with fail
            go_quiet (fail)
            clear hk0b
            rcases bst_at HT.out with ht | ⟨t', ht, htl⟩
            · subst ht
              have HB2 : Hid (Bst L S k (i + 1) (i : Int)) := bst_first HT.out HF.out
              go_upto_region 8 with fail
              go_quiet (fail)
              go_wp2
              go_roundw
              case rel => exact ⟨i + 1, i, HLI.out, by go_num, rfl, below_drewX HX.out _, HB2⟩
              case measure => simp [intOf]; omega
            · subst ht
              have htb : decide ((t' : Int) < 0) = false := by simp
              have htI : (t' : Int) < LL := by omega
              have xt := HCL.out t' (by omega)
              obtain ⟨Z, hZ⟩ : ∃ Z, Z = n64 (sg L t').a := ⟨_, rfl⟩
              rw [← hZ] at xt
              have HLS : Hid ((sg L i).a.toNat < (sg L t').a.toNat ↔ X < Z) := by
                unfold Hid; rw [HXI.out, hZ]; unfold n64; omega
              clear hZ
              by_cases hz : X < Z
              · have hzD : decide (X < Z) = true := decide_eq_true hz
                have HB2 : Hid (Bst L S k (i + 1) (i : Int)) := bst_less HT.out HF.out (HLS.out.2 hz)
                clear hz
                go_upto_region 8 with fail
                go_quiet (fail)
                go_wp2
                go_roundw
                case rel => exact ⟨i + 1, i, HLI.out, by go_num, rfl, below_drewX HX.out _, HB2⟩
                case measure => simp [intOf]; omega
              · have hzD : decide (X < Z) = false := decide_eq_false hz
                have HB2 : Hid (Bst L S k (i + 1) (t' : Int)) := bst_keep HT.out (fun h => hz (HLS.out.1 h))
                clear hz
                go_upto_region 8 with fail
                go_quiet (fail)
                go_wp2
                go_roundw
                case rel => exact ⟨i + 1, t', HLI.out, by go_num, rfl, below_drewX HX.out _, HB2⟩
                case measure => simp [intOf]; omega
          · have hk0b : ((k : Int) == 0) = false := by rw [beq_eq_false_iff_ne]; omega
            obtain ⟨q, hq⟩ : ∃ q, q = k - 1 := ⟨_, rfl⟩
            have hqI : (k : Int) - 1 = q := by omega
            have hqk : (q : Int) < k := by omega
            have HQ := Hid.mkI hq
            obtain ⟨ao, co, eo, _, h3⟩ := Sgs.of_own (own_below HO.out HX.out)
            have htl : (S.take k).length = k := by rw [List.length_take, hSl.out]; omega
            rw [htl] at eo
            cases eo
            obtain ⟨go, oo, rfl, hgo, hco⟩ := h3 (by intro e; rw [e] at htl; simp at htl; omega)
            have yq := (hco q (by rw [htl]; omega)).1
            rw [sg_take (show q < k by omega)] at yq
            obtain ⟨Y, hY⟩ : ∃ Y, Y = n64 (sg S q).a := ⟨_, rfl⟩
            rw [← hY] at yq
            have HFR : Hid (fr L S k i ↔ Y < X) := by
              unfold Hid fr; rw [HXI.out, hY, ← hq]; unfold n64
              constructor
              · rintro (h | h)
                · omega
                · omega
              · intro h; right; omega
            clear hY hco h3 htl hk0 hq
            by_cases hf : Y < X
            · have hfD : decide (Y < X) = true := decide_eq_true hf
              have HF : Hid (fr L S k i) := HFR.out.2 hf
              clear hf
              go_upto_region 7 with fail
              --@M2
              go_quiet (fail)
              clear hk0b hfD yq
              rcases bst_at HT.out with ht | ⟨t', ht, htl⟩
              · subst ht
                have HB2 : Hid (Bst L S k (i + 1) (i : Int)) := bst_first HT.out HF.out
                go_upto_region 8 with fail
                go_quiet (fail)
                go_wp2
                go_roundw
                case rel => exact ⟨i + 1, i, HLI.out, by go_num, rfl, below_drewX HX.out _, HB2⟩
                case measure => simp [intOf]; omega
              · subst ht
                have htb : decide ((t' : Int) < 0) = false := by simp
                have htI : (t' : Int) < LL := by omega
                have xt := HCL.out t' (by omega)
                obtain ⟨Z, hZ⟩ : ∃ Z, Z = n64 (sg L t').a := ⟨_, rfl⟩
                rw [← hZ] at xt
                have HLS : Hid ((sg L i).a.toNat < (sg L t').a.toNat ↔ X < Z) := by
                  unfold Hid; rw [HXI.out, hZ]; unfold n64; omega
                clear hZ
                by_cases hz : X < Z
                · have hzD : decide (X < Z) = true := decide_eq_true hz
                  have HB2 : Hid (Bst L S k (i + 1) (i : Int)) := bst_less HT.out HF.out (HLS.out.2 hz)
                  clear hz
                  go_upto_region 8 with fail
                  go_quiet (fail)
                  go_wp2
                  go_roundw
                  case rel => exact ⟨i + 1, i, HLI.out, by go_num, rfl, below_drewX HX.out _, HB2⟩
                  case measure => simp [intOf]; omega
                · have hzD : decide (X < Z) = false := decide_eq_false hz
                  have HB2 : Hid (Bst L S k (i + 1) (t' : Int)) := bst_keep HT.out (fun h => hz (HLS.out.1 h))
                  clear hz
                  go_upto_region 8 with fail
                  go_quiet (fail)
                  go_wp2
                  go_roundw
                  case rel => exact ⟨i + 1, t', HLI.out, by go_num, rfl, below_drewX HX.out _, HB2⟩
                  case measure => simp [intOf]; omega
            · have hfD : decide (Y < X) = false := decide_eq_false hf
              have HB2 : Hid (Bst L S k (i + 1) t) := bst_skip HT.out (fun h => hf (HFR.out.1 h))
              clear hf
              go_upto_region 7 with fail
              go_quiet (fail)
              go_upto_region 8 with fail
              go_quiet (fail)
              go_wp2
              go_roundw
              case rel => exact ⟨i + 1, t, HLI.out, by go_num, rfl, below_drewX HX.out _, HB2⟩
              case measure => simp [intOf]; omega
        · obtain rfl : i = LL := by omega
          have HB2 : Hid (Bst L S k L.length t) := by unfold Hid; rw [← HLL.out]; exact HT.out
          obtain ⟨t', ht', htl, hst⟩ := bst_end HP.out HI.out (by rw [hSl.out]; exact HLT.out) HB2.out
          subst ht'
          obtain ⟨gl, ol, rfl, hcl⟩ := HS.out wr HXW.out (by intro e; rw [e] at htl; simp at htl)
          obtain ⟨x0, x1, x2, x3⟩ := hcl t' (by have := HLL.out; omega)
          have htI : (t' : Int) < i := by have := HLL.out; omega
          have HST := Hid.mkI hst
          have HOx : Hid (wr.ownsRow w.heap.size 61 4 (.slice ym k yc) (S.take k).length (sgl (S.take k))) := own_below HO.out HX.out
          clear hcl hst htl
          have HY0 : Hid (∀ W : World, W.alloc (.cells #[.int .u64 (n64 (sg L t').a), .int .u64 (n64 (sg L t').s), .int .i64 (sg L t').f, .slice (sg L t').m (sg L t').n (sg L t').c] 61) = W.alloc (.cells #[.int .u64 (n64 (sg S k).a), .int .u64 (n64 (sg S k).s), .int .i64 (sg S k).f, .slice (sg S k).m (sg S k).n (sg S k).c] 61)) := fun W => by rw [HST.out]
          generalize n64 (sg L t').a = X0 at *
          generalize n64 (sg L t').s = X1 at *
          generalize (sg L t').f = X2 at *
          generalize (sg L t').m = X3 at *
          generalize (sg L t').n = X4 at *
          generalize (sg L t').c = X5 at *
          go_upto_region 10 with fail
          --@M3
          go_wp2_with (at_builtin; have A1 : (wr.alloc (.cells #[.int .u64 X0, .int .u64 X1, .int .i64 X2, .slice X3 X4 X5] 61)).ownsRow w.heap.size 61 4 (.slice ym k yc) (S.take k).length (sgl (S.take k)) := own_below HOx.out ((Below.refl _ wr).alloc (Nat.le_refl _) _); have A2 : (wr.alloc (.cells #[.int .u64 X0, .int .u64 X1, .int .i64 X2, .slice X3 X4 X5] 61)).heap[wr.heap.size]? = some (.cells #[.int .u64 (n64 (sg S k).a), .int .u64 (n64 (sg S k).s), .int .i64 (sg S k).f, .slice (sg S k).m (sg S k).n (sg S k).c] 61 (0, 0)) := (by rw [HY0.out]; exact heap_alloc_new wr _); have A3 : w.heap.size ≤ (wr.alloc (.cells #[.int .u64 X0, .int .u64 X1, .int .i64 X2, .slice X3 X4 X5] 61)).heap.size := (by have := HXW.out.size; simp; omega); refine appR (by rfl) _ _ (by rfl) w.heap.size (.slice ym k yc) (S.take k) (sg S k) (by rfl) A1 wr.heap.size (by rfl) A2 (by rw [List.length_take]; have := HLT.out; omega) A3 ?_; clear A1 A2 A3; intro v9 w9 ho9 hb9 hk9; have HO9 : Hid (w9.ownsRow w.heap.size 61 4 v9 (S.take (k + 1)).length (sgl (S.take (k + 1)))) := (by rw [← take_snoc (by rw [hSl.out]; exact HLT.out)]; exact ho9); have H9 : Hid (Below w.heap.size w w9) := (HXW.out.alloc HXW.out.size _).trans hb9; clear ho9 hb9 hk9; obtain ⟨zm, zn, zc, rfl⟩ := own_slice HO9.out; have hzn : zn = k + 1 := (by obtain ⟨ad, cp, e, _⟩ := Sgs.of_own HO9.out; cases e; rw [List.length_take, hSl.out]; have := HLT.out; omega); subst hzn)
          go_roundw
          case rel => exact ⟨k + 1, zm, zc, HLT.out, rfl, HO9, H9⟩
          case measure => have := HLT.out; simp; omega
    · obtain rfl : k = LL := by omega
      have hltD : decide (k < k) = false := by simp
      go_wp2
      go_ret
      have e : S.take k = S := by rw [← hSl.out]; exact List.take_length
      refine ⟨ym, k, yc, rfl, ?_, HW.out⟩
      have q := HO.out
      rw [e] at q
      exact q
end Go.Proofs.YtheeogbmljjbdaaGreatDoor
namespace Go.Proofs.YtheeogbmljjbdaaGreatDoor
set_option linter.unusedVariables false
set_option maxRecDepth 100000
open Go.ChangeShapes Go.WideShapes Go.ChangeAt Go.RowKit Go.Deep
theorem sy_get {L : List Sy} {j : Nat} (h : j < L.length) : sy L j = L[j] := by unfold sy; simp [h]
theorem syl_set : ∀ (M : List Sy) (k : Nat) (y : Sy), syl (M.set k y) = ((syl M).set (k * 2) (.string y.s)).set (k * 2 + 1) (.int .u64 (n64 y.v))
  | [], k, y => by simp [syl]
  | m :: M, 0, y => by simp [syl, syv]
  | m :: M, k + 1, y => by
    have ih := syl_set M k y
    have e : (k + 1) * 2 = k * 2 + 1 + 1 := by omega
    have e1 : ∀ (m : Sy) (R : List Sy), syl (m :: R) = .string m.s :: .int .u64 (n64 m.v) :: syl R := fun m R => by simp [syl, syv]
    rw [List.set_cons_succ, e1, e1, e]
    simp only [List.set_cons_succ]
    rw [ih]
/-- One cell of a row of the call's own is written. -/
theorem own_set1 {w : World} {B e size g n cap : Nat} {xs : List Value} (h : w.ownsRow B e size (.slice (some ⟨g, 0, none⟩) n cap) n xs) (j : Nat) (hj : j < n * size) (u : Value) : (w.setCell ⟨g, j, none⟩ u).ownsRow B e size (.slice (some ⟨g, 0, none⟩) n cap) n (xs.set j u) := by
  refine ⟨by rw [List.length_set]; exact h.1, ?_⟩
  rcases h.2 with ⟨h', _⟩ | ⟨g', cap', cur, h', h1, h2, h3, h4, h5, h6⟩
  · cases h'
  · cases h'
    refine .inr ⟨g, cap, cur.setIfInBounds j u, rfl, h1, heap_setCell_same w g j cur e u h2, h3, h4, by rw [Array.size_setIfInBounds]; exact h5, ?_⟩
    rw [Array.toList_setIfInBounds, ← h6, List.take_set]
theorem own_setS {w : World} {B g n cap : Nat} {M : List Sy} (h : w.ownsRow B 87 2 (.slice (some ⟨g, 0, none⟩) n cap) n (syl M)) (k : Nat) (hk : k < n) (y : Sy) : ((w.setCell ⟨g, k * 2, none⟩ (.string y.s)).setCell ⟨g, k * 2 + 1, none⟩ (.int .u64 (n64 y.v))).ownsRow B 87 2 (.slice (some ⟨g, 0, none⟩) n cap) n (syl (M.set k y)) := by
  rw [syl_set]
  exact own_set1 (own_set1 h (k * 2) (by omega) _) (k * 2 + 1) (by omega) _
theorem own_cellsS {w : World} {B g n cap : Nat} {M : List Sy} (h : w.ownsRow B 87 2 (.slice (some ⟨g, 0, none⟩) n cap) n (syl M)) (hn : M.length = n) (j : Nat) (hj : j < n) : w.cell? ⟨g, j * 2, none⟩ = some (.string (sy M j).s) ∧ w.cell? ⟨g, j * 2 + 1, none⟩ = some (.int .u64 (n64 (sy M j).v)) := by
  have k : ∀ c, c < 2 → w.cell? ⟨g, j * 2 + c, none⟩ = (syv (sy M j))[c]? := fun c hc => by
    rw [h.cellAt (j * 2 + c) (by omega)]; exact syl_get M j c (by omega) hc
  exact ⟨k 0 (by omega), k 1 (by omega)⟩
theorem own_frozenS {w : World} {B e size g n cap : Nat} {xs : List Value} (h : w.ownsRow B e size (.slice (some ⟨g, 0, none⟩) n cap) n xs) (j : Nat) : w.frozen? ⟨g, j, none⟩ = false := by
  rcases h.2 with ⟨h', _⟩ | ⟨g', cap', cur, h', h1, h2, _⟩
  · cases h'
  · cases h'; exact frozen_of_row w g j _ _ h2
theorem own_lenS {w : World} {B n : Nat} {v : Value} {M : List Sy} (h : w.ownsRow B 87 2 v n (syl M)) : M.length = n := by
  have q := h.1
  rw [syl_length] at q
  omega
theorem ins_at {S : List Sy} {k : Nat} {z x : Sy} (hk : k ≤ S.length) : (S.take k ++ z :: S.drop k).set k x = S.take k ++ x :: S.drop k := by
  have e : (S.take k).length = k := by rw [List.length_take]; omega
  rw [List.set_append_right _ _ (by omega), e, Nat.sub_self]
  rfl
theorem ins_sy {S : List Sy} {k q : Nat} {z : Sy} (hk : k ≤ S.length) (hq : q < k) : sy (S.take k ++ z :: S.drop k) q = sy S q := by
  have e : (S.take k).length = k := by rw [List.length_take]; omega
  unfold sy
  rw [List.getD_eq_getElem?_getD, List.getD_eq_getElem?_getD, List.getElem?_append_left (by omega), List.getElem?_take_of_lt hq]
theorem ins_shift {S : List Sy} {k q : Nat} {z : Sy} (hk : k ≤ S.length) (hq : k = q + 1) : (S.take k ++ z :: S.drop k).set k (sy S q) = S.take q ++ sy S q :: S.drop q := by
  rw [ins_at hk]
  subst hq
  have h1 : q < S.length := by omega
  have h2 : S.drop q = S[q] :: S.drop (q + 1) := List.drop_eq_getElem_cons h1
  rw [List.take_succ_eq_append_getElem h1, sy_get h1, h2, List.append_assoc]
  rfl
theorem ins_len {S : List Sy} {k : Nat} {z : Sy} (hk : k ≤ S.length) : (S.take k ++ z :: S.drop k).length = S.length + 1 := by
  rw [List.length_append, List.length_take, List.length_cons, List.length_drop]; omega
theorem ahS_asym {x y : Sy} (h : ahS x y = true) : ahS y x = false := by
  rcases ahS_total y x with q | q
  · exact q
  · rw [h] at q; cases q
theorem sy_memS {S : List Sy} {j : Nat} (h : j < S.length) : sy S j ∈ S := by rw [sy_get h]; exact List.getElem_mem h
/-- A name put in at its place. -/
theorem ins_sorted {S : List Sy} {k : Nat} {x : Sy} (hs : S.Pairwise (fun x y => ahS y x = false)) (hk : k ≤ S.length) (hlo : k = 0 ∨ ahS x (sy S (k - 1)) = false) (hhi : ∀ j, k ≤ j → j < S.length → ahS x (sy S j) = true) : (S.take k ++ x :: S.drop k).Pairwise (fun x y => ahS y x = false) := by
  have hs2 := List.pairwise_iff_getElem.1 hs
  refine List.pairwise_append.2 ⟨hs.sublist (List.take_sublist _ _), List.pairwise_cons.2 ⟨fun y hy => ?_, hs.sublist (List.drop_sublist _ _)⟩, fun a ha y hy => ?_⟩
  · obtain ⟨j, hj, rfl⟩ := List.getElem_of_mem hy
    rw [List.length_drop] at hj
    rw [List.getElem_drop]
    have := hhi (k + j) (by omega) (by omega)
    rw [sy_get (by omega)] at this
    exact ahS_asym this
  · obtain ⟨i, hi, rfl⟩ := List.getElem_of_mem ha
    rw [List.length_take] at hi
    rw [List.getElem_take]
    have hx : ahS x S[i] = false := by
      rcases hlo with h | h
      · omega
      · rw [sy_get (by omega)] at h
        by_cases e : i = k - 1
        · subst e; exact h
        · exact ahS_trans (hs2 i (k - 1) (by omega) (by omega) (by omega)) h
    rcases List.mem_cons.1 hy with rfl | hy
    · exact hx
    · obtain ⟨j, hj, rfl⟩ := List.getElem_of_mem hy
      rw [List.length_drop] at hj
      rw [List.getElem_drop]
      exact hs2 i (k + j) (by omega) (by omega) (by omega)
theorem ins_perm {S N : List Sy} {k i : Nat} (hp : S.Perm (N.take i)) (hi : i < N.length) : (S.take k ++ sy N i :: S.drop k).Perm (N.take (i + 1)) := by
  rw [List.take_succ_eq_append_getElem hi, sy_get hi]
  refine (List.perm_middle).trans ?_
  rw [List.take_append_drop]
  exact (List.Perm.cons _ hp).trans (List.perm_append_comm (l₁ := [N[i]]) (l₂ := N.take i))
set_option maxHeartbeats 8000000 in
theorem rsorted_c (va : Value) (N : List Sy) (hN : N.length ≤ 400) (w : World) (ha : Sys w va N) :
    Calls Tryz.prog 37 #[va] w fun e w' => ∃ um un uc, e = .returned (.slice um un uc) ∧ w'.ownsRow w.heap.size 87 2 (.slice um un uc) (nSrt N).length (syl (nSrt N)) ∧ Below w.heap.size w w' := by
  have ha2 := ha
  obtain ⟨la, lc, rfl, hlc, _⟩ := ha
  have HS : Hid (∀ w', Below w.heap.size w w' → N ≠ [] → ∃ g off, la = some ⟨g, off, none⟩ ∧ ∀ j, j < N.length → w'.cell? ⟨g, off + j * 2, none⟩ = some (.string (sy N j).s) ∧ w'.cell? ⟨g, off + j * 2 + 1, none⟩ = some (.int .u64 (n64 (sy N j).v))) := fun w' hb hne => by
    obtain ⟨ad, cp, e, _, h2⟩ := ha2.later hb rfl
    cases e
    obtain ⟨g, off, h3, _, h4⟩ := h2 hne
    exact ⟨g, off, h3, h4⟩
  clear ha2
  have hNI : (N.length : Int) ≤ 400 := by omega
  obtain ⟨LL, hLL⟩ : ∃ LL, LL = N.length := ⟨_, rfl⟩
  rw [← hLL] at hNI hlc HS ⊢
  have HLL := Hid.mkI hLL
  clear hLL
  go_enter Tryz.func37, Tryz.ntmps37
  go_wp2
  go_loopw [4, 3] (fun x y wr => ∃ (i : Nat) (ym : Option Addr) (yc : Nat), i ≤ LL ∧ x = .int .i64 i ∧ y = .slice ym i yc ∧ Hid (wr.ownsRow w.heap.size 87 2 (.slice ym i yc) (nSrt (N.take i)).length (syl (nSrt (N.take i)))) ∧ Hid (Below w.heap.size w wr)) (fun x _ _ => LL - (intOf x).toNat)
  case atStart => exact ⟨0, none, 0, Nat.zero_le _, rfl, rfl, by rw [List.take_zero, nSrt_nil]; exact own_nilN _ _, Below.refl _ _⟩
  case round =>
    obtain ⟨i, ym, yc, hi, rfl, rfl, HO, HW⟩ := hrel
    by_cases hlt : i < LL
    · have hltI : (i : Int) < LL := by omega
      have HLT := Hid.mkI hlt
      have HLN : Hid (i < N.length) := by unfold Hid; rw [← HLL.out]; exact hlt
      have hSl : Hid ((nSrt (N.take i)).length = i) := by
        unfold Hid
        have hpp : (nSrt (N.take i)).Perm (N.take i) := List.mergeSort_perm _ _
        rw [hpp.length_eq, List.length_take]; have := HLN.out; omega
      have HSP := Hid.mkI (nSrt_pair (N.take i))
      have HPM : Hid ((nSrt (N.take i)).Perm (N.take i)) := List.mergeSort_perm _ _
      generalize nSrt (N.take i) = S at HO hSl HSP HPM
      obtain ⟨x, hx⟩ : ∃ x, x = sy N i := ⟨_, rfl⟩
      have HXE := Hid.mkI hx
      obtain ⟨gl, ol, rfl, hcl⟩ := HS.out wr HW.out (by intro e; have := HLN.out; rw [e] at this; simp at this)
      obtain ⟨c0, c1⟩ := hcl i hlt
      rw [← hx] at c0 c1
      have HCL : Hid (∀ wx, Below w.heap.size w wx → wx.cell? ⟨gl, ol + i * 2, none⟩ = some (.string x.s) ∧ wx.cell? ⟨gl, ol + i * 2 + 1, none⟩ = some (.int .u64 (n64 x.v))) := fun wx hb => by
        obtain ⟨g2, o2, e2, h2⟩ := HS.out wx hb (by intro e; have := HLN.out; rw [e] at this; simp at this)
        cases e2
        rw [hx]; exact h2 i HLT.out
      obtain ⟨xs, hxs⟩ : ∃ xs, xs = x.s := ⟨_, rfl⟩
      obtain ⟨xv, hxv⟩ : ∃ xv, xv = n64 x.v := ⟨_, rfl⟩
      have HXS := Hid.mkI hxs
      have HXV := Hid.mkI hxv
      rw [← hxs] at c0 HCL
      rw [← hxv] at c1 HCL
      clear hcl hx hxs hxv hlt
      go_upto_region 7 with (at_builtin; have A1 : (wr.alloc (.cells #[.string xs, .int .u64 xv] 87)).ownsRow w.heap.size 87 2 (.slice ym i yc) S.length (syl S) := own_below HO.out (below_al _); have A2 : (wr.alloc (.cells #[.string xs, .int .u64 xv] 87)).heap[wr.heap.size]? = some (.cells #[.string x.s, .int .u64 (n64 x.v)] 87 (0, 0)) := (by rw [← HXS.out, ← HXV.out]; exact heap_alloc_new wr _); have A3 : w.heap.size ≤ (wr.alloc (.cells #[.string xs, .int .u64 xv] 87)).heap.size := (by have := HW.out.size; simp; omega); refine appS (by rfl) _ _ (by rfl) w.heap.size (.slice ym i yc) S x (by rfl) A1 wr.heap.size (by rfl) A2 (by have := hSl.out; have := HLT.out; omega) A3 ?_; clear A1 A2 A3; intro v5 w5 ho5 hb5; have HO5 : Hid (w5.ownsRow w.heap.size 87 2 v5 (S ++ [x]).length (syl (S ++ [x]))) := ho5; have H5 : Hid (Below w.heap.size w w5) := (HW.out.alloc HW.out.size _).trans hb5; clear ho5 hb5)
      --@M1
      clear c0 c1
      obtain ⟨go, oc, hv5⟩ := Go.Joins.ownsRow_form HO5.out (by simp)
      have hl1 : (S ++ [x]).length = i + 1 := by rw [List.length_append, hSl.out]; rfl
      rw [hl1] at HO5 hv5
      subst hv5
      have HO6 : Hid (w5.ownsRow w.heap.size 87 2 (.slice (some ⟨go, 0, none⟩) (i + 1) oc) (i + 1) (syl (S.take i ++ x :: S.drop i))) := by
        unfold Hid
        have e1 : S.take i = S := by rw [← hSl.out]; exact List.take_length
        have e2 : S.drop i = [] := by rw [← hSl.out]; exact List.drop_length
        rw [e1, e2]; exact HO5.out
      have hgo : Hid (w.heap.size ≤ go) := by
        unfold Hid
        rcases HO5.out.2 with ⟨h', _⟩ | ⟨g', cap', cur, h', h1, _⟩
        · cases h'
        · cases h'; exact h1
      clear hl1 HO5
      go_wp2
      go_loopw [5] (fun z wx => ∃ (k : Nat) (y : Sy), Hid (k ≤ i) ∧ z = .int .i64 k ∧ Hid (wx.ownsRow w.heap.size 87 2 (.slice (some ⟨go, 0, none⟩) (i + 1) oc) (i + 1) (syl (S.take k ++ y :: S.drop k))) ∧ Hid (Below w.heap.size w wx) ∧ Hid (∀ j, k ≤ j → j < S.length → ahS x (sy S j) = true)) (fun z _ => (intOf z).toNat)
      case atStart => exact ⟨i, x, Nat.le_refl i, rfl, HO6, H5, fun j h1 h2 => by rw [hSl.out] at h2; omega⟩
      case round =>
        obtain ⟨k, y, hk, rfl, HK, HX, HH⟩ := hrel
        have hkI : (k : Int) < i + 1 := by have := hk.out; omega
        have hkS : Hid (k ≤ S.length) := by unfold Hid; rw [hSl.out]; exact hk.out
        have hml : Hid ((S.take k ++ y :: S.drop k).length = i + 1) := by unfold Hid; rw [ins_len hkS.out, hSl.out]
        obtain ⟨d0, d1⟩ := HCL.out wr HX.out
        rcases Nat.eq_zero_or_pos k with hk0 | hk0
        · have hkb : decide ((0 : Int) < k) = false := by simp; omega
          have hkn : decide (0 < k) = false := by simp; omega
          have HLO : Hid (k = 0 ∨ ahS x (sy S (k - 1)) = false) := .inl hk0
          clear hk0
          go_upto_region 7 with fail
          go_quiet (fail)
          go_upto_region 10 with fail
          refine on_w (motive := fun W => Code.wp _ _ _ _ W) (Q := fun W => Below w.heap.size w W ∧ W.ownsRow w.heap.size 87 2 (.slice (some ⟨go, 0, none⟩) (i + 1) oc) (i + 1) (syl (S.take k ++ y :: S.drop k))) ⟨below_drewX HX.out _, own_below HK.out (below_drewX (Below.refl _ _) _)⟩ ?_
          clear d0 d1
          rintro W9 ⟨s1, s2⟩
          have HX9 := Hid.mkI s1
          have HK9 := Hid.mkI s2
          clear s1 s2
          obtain ⟨d0, d1⟩ := HCL.out W9 HX9.out
          obtain ⟨v0, v1⟩ := own_cellsS HK9.out hml.out k (by have := hk.out; omega)
          have v2 := own_frozenS HK9.out (k * 2)
          have v3 := own_frozenS HK9.out (k * 2 + 1)
          go_upto_region 4 with fail
          have HK10 : Hid (((W9.setCell ⟨go, k * 2, none⟩ (.string xs)).setCell ⟨go, k * 2 + 1, none⟩ (.int .u64 xv)).ownsRow w.heap.size 87 2 (.slice (some ⟨go, 0, none⟩) (i + 1) oc) (nSrt (N.take (i + 1))).length (syl (nSrt (N.take (i + 1))))) := by
            unfold Hid
            have r := own_setS HK9.out k (by have := hk.out; omega) x
            rw [← HXS.out, ← HXV.out, ins_at hkS.out] at r
            have e := nSrt_unique (l := N.take (i + 1)) (l' := S.take k ++ x :: S.drop k) (by rw [HXE.out]; exact ins_perm HPM.out HLN.out) (ins_sorted HSP.out hkS.out HLO.out HH.out)
            rw [e] at r
            have e2 := own_lenS r
            rw [e2]; exact r
          have HX10 : Hid (Below w.heap.size w ((W9.setCell ⟨go, k * 2, none⟩ (.string xs)).setCell ⟨go, k * 2 + 1, none⟩ (.int .u64 xv))) := (HX9.out.setCell (p := ⟨go, k * 2, none⟩) hgo.out _).setCell (p := ⟨go, k * 2 + 1, none⟩) hgo.out _
          clear d0 d1 v0 v1 v2 v3
          go_wp2
          go_roundw
          case rel => exact ⟨i + 1, some ⟨go, 0, none⟩, oc, HLT.out, by go_num, rfl, HK10, HX10⟩
          case measure => simp [intOf]; have := HLT.out; omega
        · have hkb : decide ((0 : Int) < k) = true := by simp; omega
          have hkn : decide (0 < k) = true := by simp; omega
          obtain ⟨q, hq⟩ : ∃ q, k = q + 1 := ⟨k - 1, by omega⟩
          have hqI : (k : Int) - 1 = q := by omega
          have hqi : (q : Int) < i + 1 := by have := hk.out; omega
          obtain ⟨e0, e1⟩ := own_cellsS HK.out hml.out q (by have := hk.out; omega)
          rw [ins_sy hkS.out (by omega)] at e0 e1
          have cBH : Hid (∀ wx, Calls Tryz.prog 65 #[.agg #[.string xs, .int .u64 xv], .agg #[.string (sy S q).s, .int .u64 (n64 (sy S q).v)]] wx fun e w' => e = .returned (.bool (ahS x (sy S q))) ∧ Below wx.heap.size wx w') := fun wx => by rw [HXS.out, HXV.out]; exact behind_c x.s (sy S q).s x.v (sy S q).v wx
          have HQ := Hid.mkI hq
          have HSH : Hid (∀ W : World, W.ownsRow w.heap.size 87 2 (.slice (some ⟨go, 0, none⟩) (i + 1) oc) (i + 1) (syl (S.take k ++ y :: S.drop k)) → ((W.setCell ⟨go, k * 2, none⟩ (.string (sy S q).s)).setCell ⟨go, k * 2 + 1, none⟩ (.int .u64 (n64 (sy S q).v))).ownsRow w.heap.size 87 2 (.slice (some ⟨go, 0, none⟩) (i + 1) oc) (i + 1) (syl (S.take q ++ sy S q :: S.drop q))) := fun W h => by
            have r := own_setS h k (by have := hk.out; omega) (sy S q)
            rwa [ins_shift hkS.out HQ.out] at r
          obtain ⟨b, hb⟩ : ∃ b, b = ahS x (sy S q) := ⟨_, rfl⟩
          rw [← hb] at cBH
          have HBB := Hid.mkI hb
          obtain ⟨Q0, hQ0⟩ : ∃ Q0, Q0 = sy S q := ⟨_, rfl⟩
          obtain ⟨ys, hys⟩ : ∃ ys, ys = (sy S q).s := ⟨_, rfl⟩
          obtain ⟨yv, hyv⟩ : ∃ yv, yv = n64 (sy S q).v := ⟨_, rfl⟩
          rw [← hys] at e0 cBH HSH
          rw [← hyv] at e1 cBH HSH
          rw [← hQ0] at HSH
          have HQ0 := Hid.mkI hQ0
          clear hb hq hk0 hys hyv hQ0
          have := later_nonempty wr
          have hd0 : ∀ x' : Later wr, x'.1.cell? ⟨gl, ol + i * 2, none⟩ = some (.string xs) := fun x' => (HCL.out x'.1 (HX.out.trans (x'.below.mono HX.out.size))).1
          have hd1 : ∀ x' : Later wr, x'.1.cell? ⟨gl, ol + i * 2 + 1, none⟩ = some (.int .u64 xv) := fun x' => (HCL.out x'.1 (HX.out.trans (x'.below.mono HX.out.size))).2
          have hgw : go < wr.heap.size := (HK.out.lt go rfl).2
          have he0 : ∀ x' : Later wr, x'.1.cell? ⟨go, q * 2, none⟩ = some (.string ys) := fun x' => (x'.below.cell (p := ⟨go, q * 2, none⟩) hgw).trans e0
          have he1 : ∀ x' : Later wr, x'.1.cell? ⟨go, q * 2 + 1, none⟩ = some (.int .u64 yv) := fun x' => (x'.below.cell (p := ⟨go, q * 2 + 1, none⟩) hgw).trans e1
          clear d0 d1 e0 e1
          cases b with
          | true =>
            have HH2 : Hid (∀ j, q ≤ j → j < S.length → ahS x (sy S j) = true) := fun j h1 h2 => by
              by_cases e : j = q
              · rw [e]; exact HBB.out.symm
              · exact HH.out j (by have := HQ.out; omega) h2
            go_upto_region 7 with fail
            refine wp_region_later (x0 := Later.start wr) (by kernel_rfl) (by kernel_rfl) ?_
            repeat (go_big_quiet_step (first | (go_at_call 65; exact calls_later (cBH.out _))))
            refine wpQuiet_nil ?_
            rintro w' ⟨x9, rfl⟩
            --@M2
            have HX9 : Hid (Below w.heap.size w x9.1) := HX.out.trans (x9.below.mono HX.out.size)
            have HK9 : Hid (x9.1.ownsRow w.heap.size 87 2 (.slice (some ⟨go, 0, none⟩) (i + 1) oc) (i + 1) (syl (S.take k ++ y :: S.drop k))) := own_below HK.out x9.below
            have u0 := he0 x9
            have u1 := he1 x9
            obtain ⟨v0, v1⟩ := own_cellsS HK9.out hml.out k (by have := hk.out; omega)
            have v2 := own_frozenS HK9.out (k * 2)
            have v3 := own_frozenS HK9.out (k * 2 + 1)
            generalize x9.1 = W9 at *
            clear hd0 hd1 he0 he1
            go_upto_region 9 with fail
            --@M3
            have HK10 : Hid (((W9.setCell ⟨go, k * 2, none⟩ (.string ys)).setCell ⟨go, k * 2 + 1, none⟩ (.int .u64 yv)).ownsRow w.heap.size 87 2 (.slice (some ⟨go, 0, none⟩) (i + 1) oc) (i + 1) (syl (S.take q ++ Q0 :: S.drop q))) := HSH.out W9 HK9.out
            have HX10 : Hid (Below w.heap.size w ((W9.setCell ⟨go, k * 2, none⟩ (.string ys)).setCell ⟨go, k * 2 + 1, none⟩ (.int .u64 yv))) := (HX9.out.setCell (p := ⟨go, k * 2, none⟩) hgo.out _).setCell (p := ⟨go, k * 2 + 1, none⟩) hgo.out _
            go_wp2
            go_roundw
            case rel => exact ⟨q, Q0, by unfold Hid; have := hk.out; have := HQ.out; omega, rfl, HK10, HX10, HH2⟩
            case measure => simp [intOf]; have := HQ.out; omega
          | false =>
            have HLO : Hid (k = 0 ∨ ahS x (sy S (k - 1)) = false) := .inr (by rw [show k - 1 = q by have := HQ.out; omega]; exact HBB.out.symm)
            go_upto_region 7 with fail
            refine wp_region_later (x0 := Later.start wr) (by kernel_rfl) (by kernel_rfl) ?_
            repeat (go_big_quiet_step (first | (go_at_call 65; exact calls_later (cBH.out _))))
            refine wpQuiet_nil ?_
            rintro w' ⟨x9, rfl⟩
            have HX9 : Hid (Below w.heap.size w x9.1) := HX.out.trans (x9.below.mono HX.out.size)
            have HK9 : Hid (x9.1.ownsRow w.heap.size 87 2 (.slice (some ⟨go, 0, none⟩) (i + 1) oc) (i + 1) (syl (S.take k ++ y :: S.drop k))) := own_below HK.out x9.below
            generalize x9.1 = W9 at *
            clear hd0 hd1 he0 he1
            obtain ⟨d0, d1⟩ := HCL.out W9 HX9.out
            obtain ⟨v0, v1⟩ := own_cellsS HK9.out hml.out k (by have := hk.out; omega)
            have v2 := own_frozenS HK9.out (k * 2)
            have v3 := own_frozenS HK9.out (k * 2 + 1)
            go_upto_region 4 with fail
            have HK10 : Hid (((W9.setCell ⟨go, k * 2, none⟩ (.string xs)).setCell ⟨go, k * 2 + 1, none⟩ (.int .u64 xv)).ownsRow w.heap.size 87 2 (.slice (some ⟨go, 0, none⟩) (i + 1) oc) (nSrt (N.take (i + 1))).length (syl (nSrt (N.take (i + 1))))) := by
              unfold Hid
              have r := own_setS HK9.out k (by have := hk.out; omega) x
              rw [← HXS.out, ← HXV.out, ins_at hkS.out] at r
              have e := nSrt_unique (l := N.take (i + 1)) (l' := S.take k ++ x :: S.drop k) (by rw [HXE.out]; exact ins_perm HPM.out HLN.out) (ins_sorted HSP.out hkS.out HLO.out HH.out)
              rw [e] at r
              have e2 := own_lenS r
              rw [e2]; exact r
            have HX10 : Hid (Below w.heap.size w ((W9.setCell ⟨go, k * 2, none⟩ (.string xs)).setCell ⟨go, k * 2 + 1, none⟩ (.int .u64 xv))) := (HX9.out.setCell (p := ⟨go, k * 2, none⟩) hgo.out _).setCell (p := ⟨go, k * 2 + 1, none⟩) hgo.out _
            clear d0 d1 v0 v1 v2 v3
            go_wp2
            go_roundw
            case rel => exact ⟨i + 1, some ⟨go, 0, none⟩, oc, HLT.out, by go_num, rfl, HK10, HX10⟩
            case measure => simp [intOf]; have := HLT.out; omega
    · obtain rfl : i = LL := by omega
      go_wp2
      go_ret
      have e : N.take i = N := by rw [HLL.out]; exact List.take_length
      refine ⟨ym, i, yc, rfl, ?_, HW.out⟩
      have q := HO.out
      rw [e] at q
      exact q
end Go.Proofs.YtheeogbmljjbdaaGreatDoor
