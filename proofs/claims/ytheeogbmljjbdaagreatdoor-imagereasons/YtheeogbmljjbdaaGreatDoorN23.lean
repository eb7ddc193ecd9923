/-
  Ixa.
-/
import Derived.Test.YtheeogbmljjbdaaGreatDoorN22
import Derived.Test.YtheeogbmljjbdaaGreatDoorN18
import Derived.Test.YtheeogbmljjbdaaGreatDoorN13
import Derived.Deep.RegionLaw
namespace Go.Proofs.YtheeogbmljjbdaaGreatDoor
set_option linter.unusedVariables false
set_option maxRecDepth 100000
open Go.ChangeShapes Go.WideShapes Go.ChangeAt Go.RowKit Go.Deep
theorem slice_U (W : World) (a : Option Addr) (len cap l n : Nat) (hI : Int) (hh : hI = (l : Int) + n) (hc : l + n ≤ cap) :
    (Instr.slice 31 (.slice a len cap) (some (.int .u64 (l : Int))) (some (.int .u64 hI)) none).run Tryz.prog W = .ok (.slice (if cap = l then a else a.map (fun x => x.add l)) n (cap - l)) W := by
  have he : Tryz.prog.elem 31 = 5 := by kernel_rfl
  have ht' : Tryz.prog.underlying 31 = some (.slice (Tryz.prog.elem 31)) := by rw [he]; exact Tryz.underlying31
  have hz : ∀ w, (Go.sizeOf 5).run Tryz.prog w = .ok 1 w := fun w => by kernel_rfl
  subst hh
  rw [run_slice_lh W _ _ _ _ ht' .u64 .u64 _ _ (by omega) (by omega) (by omega), he, hz]
  have e1 : ((l : Int)).toNat = l := by omega
  have e2 : ((l : Int) + n).toNat = l + n := by omega
  rw [e1, e2]
  simp [Result.andThen, sliced]
theorem bv_len (l : List Int) : (bv l).length = l.length := by simp [bv]
/-- A copy by append, in a region that draws. -/
theorem step_appN {ops : Array Oper} {o : Oper} {a : Act} {w : World} {K : Act → World → Prop} {Q : Exit → Act → World → Prop} {E : Prop} (hgd : o.guard = none) (s x : Operand) (ho : o.op = .call { callee := .builtin .append, args := #[s, x], argTypes := #[31, 31] })
    (u : Value) (l : List Int) (hs : a.eval s = .slice none 0 0) (hx : a.eval x = u) (hu : Byt w u l) (hl : l.length ≤ 140737488355328)
    (h : ∀ v' w', w'.ownsRow w.heap.size 5 1 v' l.length (bv l) → Below w.heap.size w w' → K (a.put o.dst v') w') :
    if Region.wanted o (yielded ops a.tmps) = true then Oper.wp Tryz.prog o a w K Q else E := by
  obtain ⟨i0, hi, hz0, hz1, hz2⟩ := info_parts info5
  have hw : Region.wanted o (yielded ops a.tmps) = true := by simp [Region.wanted, hgd]
  rw [if_pos hw]
  obtain ⟨ao, cap, rfl, h1, h1', h2⟩ := hu
  cases ao with
  | none =>
    have hc := h1' rfl
    have hl0 : l = [] := List.eq_nil_of_length_eq_zero (by omega)
    subst hl0; subst hc
    have hr := run_append_owned_none (P := Tryz.prog) (w := w) w.heap.size 31 o.type 5 i0 1 Tryz.underlying31 hi (.slice none 0 0) 0 [] (World.ownsRow_nil _ _ _ _)
    unfold Oper.wp
    simp [execOp, ho, resolve, invoke, builtin, hs, hx, hr, Result.andThen]
    exact h _ _ (World.ownsRow_nil _ _ _ _) (Below.refl _ _)
  | some ad =>
    obtain ⟨v', w', hr, g1, g2, _⟩ := run_append_own (P := Tryz.prog) w w.heap.size 31 o.type 5 i0 (.int .u8 0) 1 1 Tryz.underlying31 hi hz0 hz1 hz2 rfl (by decide) (.slice none 0 0) 0 [] (World.ownsRow_nil _ _ _ _) ad l.length cap (bv l) (by rw [bv_len, Nat.mul_one]) (fun j u hj => by
      have hjl : j < l.length := by have := (List.getElem?_eq_some_iff.1 hj).1; simpa [bv] using this
      obtain ⟨g, off, he, h3, h4⟩ := h2 (by intro e; rw [e] at hjl; simp at hjl)
      cases he
      rw [bv_get _ _ hjl] at hj
      cases hj
      rw [addAt]
      exact h4 j hjl) (fun u hu => by simp [bv] at hu; obtain ⟨q, _, rfl⟩ := hu; rfl) (by unfold maxLen; omega) (by omega) (Nat.le_refl _)
    unfold Oper.wp
    simp [execOp, ho, resolve, invoke, builtin, hs, hx, hr, Result.andThen]
    exact h v' w' (by simpa using g1) ((Below.refl _ _).grown g2 (Nat.le_refl _) (fun k hk => by cases hk))
theorem anyM_iff {L : List Sg} {x y : BitVec 64} : ∀ {m : Nat}, anyM L x y m = true ↔ ∃ j, j < m ∧ meetB x y (sg L j).a (sg L j).s = true
  | 0 => by simp [anyM]
  | m + 1 => by
    rw [anyM, Bool.or_eq_true, anyM_iff]
    constructor
    · rintro (⟨j, h1, h2⟩ | h)
      · exact ⟨j, by omega, h2⟩
      · exact ⟨m, by omega, h⟩
    · rintro ⟨j, h1, h2⟩
      by_cases e : j = m
      · subst e; exact .inr h2
      · exact .inl ⟨j, by omega, h2⟩
theorem ownS_lt {w : World} {B e n : Nat} {v : Value} {xs : List Value} (h : w.ownsRow B e 4 v n xs) : ∀ k, v.ownBlock = some k → k < w.heap.size := fun k hk => (h.lt k hk).2
theorem ownS_other {w w' : World} {B e size n g : Nat} {v : Value} {xs : List Value} (h : w.ownsRow B e size v n xs) (hg : ∀ k, v.ownBlock = some k → k ≠ g) (hk : ∀ k, k ≠ g → w'.heap[k]? = w.heap[k]?) : w'.ownsRow B e size v n xs := by
  refine ⟨h.1, ?_⟩
  rcases h.2 with h' | ⟨gg, cap, cur, rfl, h1, h2, h3⟩
  · exact .inl h'
  · exact .inr ⟨gg, cap, cur, rfl, h1, by rw [hk gg (hg gg rfl)]; exact h2, h3⟩
/-- What program answers. -/
def PgP (b : List Int) (r : List Pt × Flt) (w : World) (e : Ending) (w' : World) : Prop :=
  (r.2 = none ∧ ∃ um un uc L, e = .returned (.tuple #[.slice um un uc, .agg #[.int .i64 0, .int .i64 0]]) ∧ w'.ownsRow w.heap.size 61 4 (.slice um un uc) L.length (sgl L) ∧ Dts b w.heap.size w' L r.1 ∧ Below w.heap.size w w')
  ∨ (∃ F, r.2 = some F ∧ e = .returned (.tuple #[.slice none 0 0, .agg #[.int .i64 F.1, .int .i64 F.2]]) ∧ Below w.heap.size w w')
set_option maxHeartbeats 8000000 in
theorem rprogram_c {b : List Int} (hB : AllB b) (hl : b.length ≤ 200000) (h64 : 64 ≤ b.length) (hph : phF b = none) (vb : Value) (w : World) (hv : Byt w vb b) :
    Calls Tryz.prog 33 #[vb] w fun e w' => PgP b (prL b (vl b 32 8) (vl b 56 2)) w e w' := by
  have HV : Hid (∀ w', Below w.heap.size w w' → Byt w' vb b) := fun w' hb => hv.later hb rfl
  have HB : Hid (AllB b) := hB
  obtain ⟨a, cap, rfl, hc, _, _⟩ := hv
  obtain ⟨W1, hW1⟩ : ∃ W1, w.alloc (.cells #[.int .i64 0, .int .i64 0] 70) = W1 := ⟨_, rfl⟩
  have HBL : Hid (Below w.heap.size w W1) := by rw [← hW1]; exact (Below.refl _ _).alloc (Nat.le_refl _) _
  have hsz : Hid (W1.heap.size = w.heap.size + 1) := by unfold Hid; rw [← hW1]; simp
  have R3 : Hid (W1.heap[w.heap.size]? = some (.cells #[.int .i64 0, .int .i64 0] 70 (0, 0))) := by unfold Hid; rw [← hW1]; exact heap_alloc_new w _
  have HR2 : Hid (∀ w', Below W1.heap.size W1 w' → w'.heap[w.heap.size]? = some (.cells #[.int .i64 0, .int .i64 0] 70 (0, 0))) := fun w' hb => (hb.block _ (by rw [hsz.out]; omega)).trans R3.out
  have c56 : Hid (∀ wx, Below W1.heap.size W1 wx → Calls Tryz.prog 35 #[.slice a b.length cap, .int .i64 56, .int .i64 2] wx fun e w' => e = .returned (.int .u64 ((vl b 56 2 : Nat) : Int)) ∧ wx = w') := fun wx hx => rvalue_c HB.out hl _ 56 2 56 2 rfl rfl (by omega) (by omega) wx (HV.out _ (HBL.out.trans (hx.mono HBL.out.size)))
  have c32 : Hid (∀ wx, Below W1.heap.size W1 wx → Calls Tryz.prog 35 #[.slice a b.length cap, .int .i64 32, .int .i64 8] wx fun e w' => e = .returned (.int .u64 ((vl b 32 8 : Nat) : Int)) ∧ wx = w') := fun wx hx => rvalue_c HB.out hl _ 32 8 32 8 rfl rfl (by omega) (by omega) wx (HV.out _ (HBL.out.trans (hx.mono HBL.out.size)))
  have hN16 : vl b 56 2 ≤ 16 ∧ room b (vl b 32 8) (56 * vl b 56 2) := by
    unfold phF at hph
    by_cases h1 : vl b 56 2 ≠ 0 ∧ vl b 54 2 ≠ 56
    · rw [if_pos h1] at hph; cases hph
    · rw [if_neg h1] at hph
      by_cases h2 : 16 < vl b 56 2
      · rw [if_pos h2] at hph; cases hph
      · rw [if_neg h2] at hph
        by_cases h3 : ¬ room b (vl b 32 8) (56 * vl b 56 2)
        · rw [if_pos h3] at hph; cases hph
        · exact ⟨by omega, Classical.not_not.1 h3⟩
  generalize vl b 56 2 = N at c56 hN16 ⊢
  generalize vl b 32 8 = P at c32 hN16 ⊢
  have HRM : Hid (room b P (56 * N)) := hN16.2
  have hNle : N ≤ 16 := hN16.1
  have hNI : (N : Int) ≤ 16 := by omega
  have hPN : (P : Int) + 56 * N ≤ b.length := by have := hN16.2; unfold room at this; omega
  have hlI : (b.length : Int) ≤ 200000 := by omega
  clear hN16 hph hB
  obtain ⟨RR, hRR⟩ : ∃ RR, RR = prL b P N := ⟨_, rfl⟩
  rw [← hRR]
  have HR := Hid.mkI hRR
  clear hRR
  have HW1 : Hid (Below W1.heap.size W1 W1) := Below.refl _ _
  go_enter Tryz.func33, Tryz.ntmps33
  go_upto_region 2 with fail
  clear hW1
  go_wp2_with (go_at_call 35; refine (c56.out _ HW1.out).mono ?_; rintro e w9 ⟨rfl, hw9⟩; subst hw9)
  --@M0
  go_loopw [6, 4] (fun x y wr => ∃ (i : Nat) (L : List Sg) (l : List Pt) (ym : Option Addr) (yn yc : Nat), i ≤ N ∧ x = .int .i64 i ∧ y = .slice ym yn yc ∧ Hid (wr.ownsRow W1.heap.size 61 4 (.slice ym yn yc) L.length (sgl L)) ∧ Hid (Below W1.heap.size W1 wr) ∧ Hid (prL b P i = (l, none)) ∧ Hid (Dts b W1.heap.size wr L l)) (fun x _ _ => N - (intOf x).toNat)
  case atStart => exact ⟨0, [], [], none, 0, 0, Nat.zero_le _, rfl, rfl, own_nilS _ _, HW1, prL_zero _ _, .nil⟩
  case round =>
    obtain ⟨i, L, l, ym, yn, yc, hi, rfl, rfl, HO, HW, HL, HD⟩ := hrel
    have hL16 : Hid (L.length ≤ 16) := by unfold Hid; have q := prL_len b P i; rw [HL.out] at q; have := HD.out.len; simp only at q; omega
    by_cases hlt : i < N
    · have hltI : (i : Int) < N := by omega
      obtain ⟨O, hO⟩ : ∃ O, O = P + 56 * i := ⟨_, rfl⟩
      have HLT : Hid (i + 1 ≤ N) := hlt
      have hO56 : Hid (O + 56 ≤ b.length) := by unfold Hid; omega
      have hOI : (O : Int) + 56 ≤ b.length := by omega
      have hOe : (P : Int) + 56 * i = O := by omega
      have HOE := Hid.mkI hO
      have cF : Hid (∀ wx, Below W1.heap.size W1 wx → ∀ pI : Int, pI = ((O + 32 : Nat) : Int) → Calls Tryz.prog 35 #[.slice a b.length cap, .int .i64 pI, .int .i64 8] wx fun e w' => e = .returned (.int .u64 ((vl b (O + 32) 8 : Nat) : Int)) ∧ wx = w') := fun wx hx pI hpI => rvalue_c HB.out hl _ (O + 32) 8 pI 8 hpI rfl (by omega) (by have := hO56.out; omega) wx (HV.out _ (HBL.out.trans (hx.mono HBL.out.size)))
      have cM : Hid (∀ wx, Below W1.heap.size W1 wx → ∀ pI : Int, pI = ((O + 40 : Nat) : Int) → Calls Tryz.prog 35 #[.slice a b.length cap, .int .i64 pI, .int .i64 8] wx fun e w' => e = .returned (.int .u64 ((vl b (O + 40) 8 : Nat) : Int)) ∧ wx = w') := fun wx hx pI hpI => rvalue_c HB.out hl _ (O + 40) 8 pI 8 hpI rfl (by omega) (by have := hO56.out; omega) wx (HV.out _ (HBL.out.trans (hx.mono HBL.out.size)))
      have cK : Hid (∀ wx, Below W1.heap.size W1 wx → ∀ pI : Int, pI = ((O : Nat) : Int) → Calls Tryz.prog 35 #[.slice a b.length cap, .int .i64 pI, .int .i64 4] wx fun e w' => e = .returned (.int .u64 ((vl b O 4 : Nat) : Int)) ∧ wx = w') := fun wx hx pI hpI => rvalue_c HB.out hl _ (O) 4 pI 4 hpI rfl (by omega) (by have := hO56.out; omega) wx (HV.out _ (HBL.out.trans (hx.mono HBL.out.size)))
      have c4 : Hid (∀ wx, Below W1.heap.size W1 wx → ∀ pI : Int, pI = ((O + 4 : Nat) : Int) → Calls Tryz.prog 35 #[.slice a b.length cap, .int .i64 pI, .int .i64 4] wx fun e w' => e = .returned (.int .u64 ((vl b (O + 4) 4 : Nat) : Int)) ∧ wx = w') := fun wx hx pI hpI => rvalue_c HB.out hl _ (O + 4) 4 pI 4 hpI rfl (by omega) (by have := hO56.out; omega) wx (HV.out _ (HBL.out.trans (hx.mono HBL.out.size)))
      have c8 : Hid (∀ wx, Below W1.heap.size W1 wx → ∀ pI : Int, pI = ((O + 8 : Nat) : Int) → Calls Tryz.prog 35 #[.slice a b.length cap, .int .i64 pI, .int .i64 8] wx fun e w' => e = .returned (.int .u64 ((vl b (O + 8) 8 : Nat) : Int)) ∧ wx = w') := fun wx hx pI hpI => rvalue_c HB.out hl _ (O + 8) 8 pI 8 hpI rfl (by omega) (by have := hO56.out; omega) wx (HV.out _ (HBL.out.trans (hx.mono HBL.out.size)))
      have cA : Hid (∀ wx, Below W1.heap.size W1 wx → ∀ pI : Int, pI = ((O + 24 : Nat) : Int) → Calls Tryz.prog 35 #[.slice a b.length cap, .int .i64 pI, .int .i64 8] wx fun e w' => e = .returned (.int .u64 ((vl b (O + 24) 8 : Nat) : Int)) ∧ wx = w') := fun wx hx pI hpI => rvalue_c HB.out hl _ (O + 24) 8 pI 8 hpI rfl (by omega) (by have := hO56.out; omega) wx (HV.out _ (HBL.out.trans (hx.mono HBL.out.size)))
      have lF := vl_lt8 HB.out (O + 32) 8 (by omega)
      have lM := vl_lt8 HB.out (O + 40) 8 (by omega)
      have lK := vl_lt8 HB.out O 4 (by omega)
      have l4 := vl_lt8 HB.out (O + 4) 4 (by omega)
      have l8 := vl_lt8 HB.out (O + 8) 8 (by omega)
      have lA := vl_lt8 HB.out (O + 24) 8 (by omega)
      have HIS : Hid (isPt b (P + 56 * i) ↔ (vl b O 4 = 1 ∧ ¬ (vl b (O + 40) 8 = 0 ∧ vl b (O + 32) 8 = 0))) := by unfold Hid; rw [← hO]
      have HPF : Hid (ptF b (P + 56 * i) = if 7 < vl b (O + 4) 4 then some (O + 4, 23) else if vl b (O + 40) 8 < vl b (O + 32) 8 then some (O + 32, 23) else if ¬ room b (vl b (O + 8) 8) (vl b (O + 32) 8) then some (O + 8, 20)
  else if (BitVec.ofNat 64 (vl b (O + 24) 8) + (BitVec.ofNat 64 (vl b (O + 40) 8) - 1#64)).toNat < (BitVec.ofNat 64 (vl b (O + 24) 8)).toNat then some (O + 24, 23) else none) := by unfold Hid; rw [← hO]; unfold ptF; rfl
      have HPA : Hid (ptAt b (P + 56 * i) = ⟨vl b (O + 24) 8, vl b (O + 40) 8, fwN (vl b (O + 4) 4), vl b (O + 8) 8, vl b (O + 32) 8⟩) := by unfold Hid; rw [← hO]; rfl
      generalize vl b (O + 32) 8 = NF at cF lF HIS HPF HPA
      generalize vl b (O + 40) 8 = NM at cM lM HIS HPF HPA
      generalize vl b O 4 = NK at cK lK HIS
      generalize vl b (O + 4) 4 = N4 at c4 l4 HPF HPA
      generalize vl b (O + 8) 8 = N8 at c8 l8 HPF HPA
      generalize vl b (O + 24) 8 = NA at cA lA HPF HPA
      have HFAULT : Hid (∀ F, isPt b (P + 56 * i) → ptF b (P + 56 * i) = some F → RR.2 = some F) := fun F h1 h2 => by rw [HR.out, prL_stop (prL_own HL.out h1 h2) N HLT.out]
      have iF : (NF : Int) < 18446744073709551616 := by omega
      have iM : (NM : Int) < 18446744073709551616 := by omega
      have i4 : (N4 : Int) < 18446744073709551616 := by omega
      have i8 : (N8 : Int) < 18446744073709551616 := by omega
      have hO2 := HOE
      clear hO hlt
      go_upto_region 7 with (go_at_call 35; refine (c32.out _ HW.out).mono ?_; rintro e w9 ⟨rfl, hw9⟩; subst hw9)
      go_upto_region 8 with (go_at_call 35; refine (cF.out _ HW.out _ (by first | omega | (rw [IntKind.wrap_i64]; omega) | (rw [IntKind.wrap_u64]; omega))).mono ?_; rintro e w9 ⟨rfl, hw9⟩; subst hw9)
      go_upto_region 9 with (go_at_call 35; refine (cM.out _ HW.out _ (by first | omega | (rw [IntKind.wrap_i64]; omega) | (rw [IntKind.wrap_u64]; omega))).mono ?_; rintro e w9 ⟨rfl, hw9⟩; subst hw9)
      --@M1
      by_cases gK : NK = 1
      · have gKb : ((NK : Int) != 1) = false := by rw [bne_eq_false_iff_eq]; omega
        by_cases gF : NF = 0
        · have gFb : ((NF : Int) == 0) = true := by rw [beq_iff_eq]; omega
          by_cases gM : NM = 0
          · have gMb : ((NM : Int) == 0) = true := by rw [beq_iff_eq]; omega
            have HL2 : Hid (prL b P (i + 1) = (l, none)) := prL_pass HL.out (fun h => ((HIS.out.1 h).2 ⟨gM, gF⟩))
            clear gK gF gM
            go_wp2_with (go_at_call 35; refine (cK.out _ HW.out _ (by first | omega | (rw [IntKind.wrap_i64]; omega) | (rw [IntKind.wrap_u64]; omega))).mono ?_; rintro e w9 ⟨rfl, hw9⟩; subst hw9)
            go_roundw
            case rel => exact ⟨i + 1, L, l, ym, yn, yc, HLT.out, by go_num, rfl, HO, HW, HL2, HD⟩
            case measure => simp [intOf]; omega
          · have gMb : ((NM : Int) == 0) = false := by rw [beq_eq_false_iff_ne]; omega
            have HIP : Hid (isPt b (P + 56 * i)) := HIS.out.2 ⟨gK, fun h => gM h.1⟩
            clear gK gM gF
            go_upto_region 10 with (go_at_call 35; refine (cK.out _ HW.out _ (by first | omega | (rw [IntKind.wrap_i64]; omega) | (rw [IntKind.wrap_u64]; omega))).mono ?_; rintro e w9 ⟨rfl, hw9⟩; subst hw9)
            clear gKb gFb gMb
            by_cases g4 : 7 < N4
            · have g4I : (7 : Int) < N4 := by omega
              have HE : Hid (RR.2 = some (O + 4, 23)) := HFAULT.out _ HIP.out (by rw [HPF.out, if_pos g4])
              clear g4
              have rr := HR2.out wr HW.out
              have r0 := cell_of_row wr w.heap.size 0 _ _ _ rr
              have r1 := cell_of_row wr w.heap.size 1 _ _ _ rr
              have f0 := frozen_of_row wr w.heap.size 0 _ _ rr
              have f1 := frozen_of_row wr w.heap.size 1 _ _ rr
              have HRR := Hid.mkI rr
              clear rr
              go_wp2_with (go_at_call 35; refine (c4.out _ HW.out _ (by first | omega | (rw [IntKind.wrap_i64]; omega) | (rw [IntKind.wrap_u64]; omega))).mono ?_; rintro e w9 ⟨rfl, hw9⟩; subst hw9)
              refine bodyPost_ret (v := .tuple #[.slice none 0 0, .agg #[.int .i64 ((O : Int) + 4), .int .i64 23]]) (results_sr Tryz.results33 _ _ w.heap.size 70 _ (0, 0) _ _ (by rfl) (by rfl) (set2_at HRR.out _ _) Tryz.underlying70 (by rfl) size52) rfl ?_
              exact .inr ⟨_, HE.out, by first | rfl | simp, below_set2 (HBL.out.trans (HW.out.mono HBL.out.size)) (Nat.le_refl _) _ _⟩
            · have g4I : decide ((7 : Int) < N4) = false := by simp; omega
              have HG4 := Hid.mkI g4
              have hN4 : Hid (N4 ≤ 7) := by unfold Hid; omega
              clear g4
              go_upto_region 12 with (go_at_call 35; refine (c4.out _ HW.out _ (by first | omega | (rw [IntKind.wrap_i64]; omega) | (rw [IntKind.wrap_u64]; omega))).mono ?_; rintro e w9 ⟨rfl, hw9⟩; subst hw9)
              by_cases g5 : NM < NF
              · have g5I : (NM : Int) < NF := by omega
                have HE : Hid (RR.2 = some (O + 32, 23)) := HFAULT.out _ HIP.out (by rw [HPF.out, if_neg HG4.out, if_pos g5])
                clear g5
                have rr := HR2.out wr HW.out
                have r0 := cell_of_row wr w.heap.size 0 _ _ _ rr
                have r1 := cell_of_row wr w.heap.size 1 _ _ _ rr
                have f0 := frozen_of_row wr w.heap.size 0 _ _ rr
                have f1 := frozen_of_row wr w.heap.size 1 _ _ rr
                have HRR := Hid.mkI rr
                clear rr
                go_wp2
                refine bodyPost_ret (v := .tuple #[.slice none 0 0, .agg #[.int .i64 ((O : Int) + 32), .int .i64 23]]) (results_sr Tryz.results33 _ _ w.heap.size 70 _ (0, 0) _ _ (by rfl) (by rfl) (set2_at HRR.out _ _) Tryz.underlying70 (by rfl) size52) rfl ?_
                exact .inr ⟨_, HE.out, by first | rfl | simp, below_set2 (HBL.out.trans (HW.out.mono HBL.out.size)) (Nat.le_refl _) _ _⟩
              · have g5I : ¬ (NM : Int) < NF := by omega
                have HG5 := Hid.mkI g5
                clear g5
                go_upto_region 15 with (go_at_call 35; refine (c8.out _ HW.out _ (by first | omega | (rw [IntKind.wrap_i64]; omega) | (rw [IntKind.wrap_u64]; omega))).mono ?_; rintro e w9 ⟨rfl, hw9⟩; subst hw9)
                have cRM : Hid (Calls Tryz.prog 57 #[.slice a b.length cap, .int .u64 (N8 : Int), .int .u64 (NF : Int)] wr fun e w' => e = .returned (.bool (decide (room b N8 NF))) ∧ wr = w') := rroom_c hl _ N8 NF l8 lF wr (HV.out _ (HBL.out.trans (HW.out.mono HBL.out.size)))
                by_cases hrm : room b N8 NF
                · rw [decide_eq_true hrm] at cRM
                  have HRM8 := Hid.mkI hrm
                  clear hrm
                  go_upto_region 17 with (go_at_call 57; refine cRM.out.mono ?_; rintro e w9 ⟨rfl, hw9⟩; subst hw9)
                  clear cRM g4I g5I
                  have cFL : Hid (∀ wx, Calls Tryz.prog 58 #[.int .u64 (N4 : Int)] wx fun e w' => e = .returned (.int .i64 ((fwN N4 : Nat) : Int)) ∧ wx = w') := fun wx => rflags_c N4 hN4.out wx
                  obtain ⟨fw, hfw⟩ : ∃ fw : Int, fw = ((fwN N4 : Nat) : Int) := ⟨_, rfl⟩
                  rw [← hfw] at cFL
                  have HFW := Hid.mkI hfw
                  clear hfw
                  have HFLAG : Hid True := trivial
                  go_upto_region 18 with (first | (have hfl := HFLAG; clear HFLAG hfl; (go_at_call 35; refine (cA.out _ HW.out _ (by first | omega | (rw [IntKind.wrap_i64]; omega) | (rw [IntKind.wrap_u64]; omega))).mono ?_; rintro e w9 ⟨rfl, hw9⟩; subst hw9)) | (go_at_call 35; refine (c4.out _ HW.out _ (by first | omega | (rw [IntKind.wrap_i64]; omega) | (rw [IntKind.wrap_u64]; omega))).mono ?_; rintro e w9 ⟨rfl, hw9⟩; subst hw9) | (go_at_call 58; refine (cFL.out _).mono ?_; rintro e w9 ⟨rfl, hw9⟩; subst hw9))
                  --@M2
                  refine on_w (motive := fun W => Code.wp _ _ _ _ W) (Q := fun W => W.heap[wr.heap.size]? = some (.cells #[.int .u64 (NA : Int), .int .u64 (NM : Int), .int .i64 fw, .slice none 0 0] 61 (0, 0)) ∧ Below wr.heap.size wr W ∧ W.heap.size = wr.heap.size + 1) ⟨heap_alloc_new wr _, (Below.refl _ _).alloc (Nat.le_refl _) _, by simp⟩ ?_
                  rintro W5 ⟨s1, s2, s3⟩
                  have HG := Hid.mkI s1
                  have B5 := Hid.mkI s2
                  have S5 := Hid.mkI s3
                  have H5 : Hid (Below W1.heap.size W1 W5) := HW.out.trans (s2.mono HW.out.size)
                  have hg5 : Hid (W1.heap.size ≤ wr.heap.size) := HW.out.size
                  clear s1 s2 s3
                  obtain ⟨gs, hgs⟩ : ∃ gs, gs = wr.heap.size := ⟨_, rfl⟩
                  have HGS := Hid.mkI hgs
                  rw [← hgs] at HG ⊢
                  clear hgs
                  have y0 := cell_of_row W5 gs 0 _ _ _ HG.out
                  have y1 := cell_of_row W5 gs 1 _ _ _ HG.out
                  have y2 := cell_of_row W5 gs 2 _ _ _ HG.out
                  have y3 := cell_of_row W5 gs 3 _ _ _ HG.out
                  obtain ⟨cb, hcb⟩ : ∃ cb, cb = decide ((BitVec.ofNat 64 NA + (BitVec.ofNat 64 NM - 1#64)).toNat < (BitVec.ofNat 64 NA).toNat) := ⟨_, rfl⟩
                  have cLA : Hid (∀ wx, Calls Tryz.prog 59 #[.int .u64 (NA : Int), .int .u64 (NM : Int)] wx fun e w' => ∃ zz, e = .returned (.tuple #[.int .u64 zz, .bool (!cb)]) ∧ wx = w') := fun wx => by
                    have q := rlast_c (BitVec.ofNat 64 NA) (BitVec.ofNat 64 NM) wx cb hcb
                    rw [← nat64 lA, ← nat64 lM] at q
                    exact q.mono fun e w' h => ⟨_, h.1, h.2⟩
                  cases cb with
                  | true =>
                    have HE : Hid (RR.2 = some (O + 24, 23)) := HFAULT.out _ HIP.out (by rw [HPF.out, if_neg HG4.out, if_neg HG5.out, if_neg (fun q => q HRM8.out), if_pos (of_decide_eq_true hcb.symm)])
                    clear hcb
                    go_upto_region 20 with (go_at_call 59; refine (cLA.out _).mono ?_; rintro e w9 ⟨zz, rfl, hw9⟩; subst hw9)
                    clear y0 y1 y2 y3
                    have rr := HR2.out W5 H5.out
                    have r0 := cell_of_row W5 w.heap.size 0 _ _ _ rr
                    have r1 := cell_of_row W5 w.heap.size 1 _ _ _ rr
                    have f0 := frozen_of_row W5 w.heap.size 0 _ _ rr
                    have f1 := frozen_of_row W5 w.heap.size 1 _ _ rr
                    have HRR := Hid.mkI rr
                    clear rr
                    go_wp2
                    refine bodyPost_ret (v := .tuple #[.slice none 0 0, .agg #[.int .i64 ((O : Int) + 24), .int .i64 23]]) (results_sr Tryz.results33 _ _ w.heap.size 70 _ (0, 0) _ _ (by rfl) (by rfl) (set2_at HRR.out _ _) Tryz.underlying70 (by rfl) size52) rfl ?_
                    exact .inr ⟨_, HE.out, by first | rfl | simp, below_set2 (HBL.out.trans (H5.out.mono HBL.out.size)) (Nat.le_refl _) _ _⟩
                  | false =>
                    have HPN : Hid (ptF b (P + 56 * i) = none) := by unfold Hid; rw [HPF.out, if_neg HG4.out, if_neg HG5.out, if_neg (fun q => q HRM8.out), if_neg (of_decide_eq_false hcb.symm)]
                    clear hcb
                    go_upto_region 21 with (go_at_call 59; refine (cLA.out _).mono ?_; rintro e w9 ⟨zz, rfl, hw9⟩; subst hw9)
                    have HO5 : Hid (W5.ownsRow W1.heap.size 61 4 (.slice ym yn yc) L.length (sgl L)) := own_below HO.out B5.out
                    have HD5 : Hid (Dts b W1.heap.size W5 L l) := HD.out.next B5.out
                    have cMT : Hid (Calls Tryz.prog 60 #[.slice ym yn yc, .agg #[.int .u64 (NA : Int), .int .u64 (NM : Int), .int .i64 fw, .slice none 0 0]] W5 fun e w' => e = .returned (.bool (anyM L (BitVec.ofNat 64 NA) (BitVec.ofNat 64 NM) L.length)) ∧ Below W5.heap.size W5 w') := by
                      have q := rmeets_c (.slice ym yn yc) L hL16.out (BitVec.ofNat 64 NA) (BitVec.ofNat 64 NM) fw none 0 0 W5 (Sgs.of_own HO5.out)
                      rw [← nat64 lA, ← nat64 lM] at q
                      exact q
                    have HAM : Hid (l.any (mtB (ptAt b (P + 56 * i))) = true ↔ anyM L (BitVec.ofNat 64 NA) (BitVec.ofNat 64 NM) L.length = true) := by unfold Hid; rw [any_mt HD.out, anyM_iff, HPA.out]
                    cases hAM : anyM L (BitVec.ofNat 64 NA) (BitVec.ofNat 64 NM) L.length with
                    | true =>
                      have HE : Hid (RR.2 = some (O + 24, 24)) := by unfold Hid; rw [HR.out, prL_stop (prL_meet HL.out HIP.out HPN.out (HAM.out.2 hAM)) N HLT.out, HOE.out]
                      rw [hAM] at cMT
                      clear hAM
                      go_upto_region 22 with (go_at_call 60; refine cMT.out.mono ?_; rintro e w6 ⟨rfl, hb⟩; have B6 : Hid (Below W5.heap.size W5 w6) := hb; have H6 : Hid (Below W1.heap.size W1 w6) := H5.out.trans (hb.mono H5.out.size); clear hb)
                      clear y0 y1 y2 y3
                      have rr := HR2.out w6 H6.out
                      have r0 := cell_of_row w6 w.heap.size 0 _ _ _ rr
                      have r1 := cell_of_row w6 w.heap.size 1 _ _ _ rr
                      have f0 := frozen_of_row w6 w.heap.size 0 _ _ rr
                      have f1 := frozen_of_row w6 w.heap.size 1 _ _ rr
                      have HRR := Hid.mkI rr
                      clear rr
                      go_wp2
                      refine bodyPost_ret (v := .tuple #[.slice none 0 0, .agg #[.int .i64 ((O : Int) + 24), .int .i64 24]]) (results_sr Tryz.results33 _ _ w.heap.size 70 _ (0, 0) _ _ (by rfl) (by rfl) (set2_at HRR.out _ _) Tryz.underlying70 (by rfl) size52) rfl ?_
                      exact .inr ⟨_, HE.out, by first | rfl | simp, below_set2 (HBL.out.trans (H6.out.mono HBL.out.size)) (Nat.le_refl _) _ _⟩
                    | false =>
                      have HL2 : Hid (prL b P (i + 1) = (l ++ [⟨NA, NM, fwN N4, N8, NF⟩], none)) := by unfold Hid; rw [prL_add HL.out HIP.out HPN.out (fun h => by rw [HAM.out.1 h] at hAM; cases hAM), HPA.out]
                      rw [hAM] at cMT
                      clear hAM
                      go_upto_region 23 with (go_at_call 60; refine cMT.out.mono ?_; rintro e w6 ⟨rfl, hb⟩; have B6 : Hid (Below W5.heap.size W5 w6) := hb; have H6 : Hid (Below W1.heap.size W1 w6) := H5.out.trans (hb.mono H5.out.size); clear hb)
                      clear y0 y1 y2 y3
                      have G6 : Hid (w6.heap[gs]? = some (.cells #[.int .u64 (NA : Int), .int .u64 (NM : Int), .int .i64 fw, .slice none 0 0] 61 (0, 0))) := (B6.out.block gs (heap_lt HG.out)).trans HG.out
                      have HO6 : Hid (w6.ownsRow W1.heap.size 61 4 (.slice ym yn yc) L.length (sgl L)) := own_below HO5.out B6.out
                      have HD6 : Hid (Dts b W1.heap.size w6 L l) := HD5.out.next B6.out
                      have y3 := cell_of_row w6 gs 3 _ _ _ G6.out
                      have z3 := frozen_of_row w6 gs 3 _ _ G6.out
                      have hsum : (N8 : Int) + NF ≤ 200000 := by have := HRM8.out; unfold room at this; omega
                      have hsl : ∀ W, (Instr.slice 31 (.slice a b.length cap) (some (.int .u64 (N8 : Int))) (some (.int .u64 ((N8 : Int) + NF))) none).run Tryz.prog W = .ok (.slice (if cap = N8 then a else a.map (fun x => x.add N8)) NF (cap - N8)) W := fun W => slice_U W a b.length cap N8 NF _ rfl (by have := HRM8.out; unfold room at this; omega)
                      obtain ⟨VS, hVS⟩ : ∃ VS : Value, VS = .slice (if cap = N8 then a else a.map (fun x => x.add N8)) NF (cap - N8) := ⟨_, rfl⟩
                      have HBS : Hid (∀ wx, Below W1.heap.size W1 wx → Byt wx VS ((b.drop N8).take NF)) := fun wx hx => by rw [hVS]; exact (HV.out wx (HBL.out.trans (hx.mono HBL.out.size))).sub (by have := HRM8.out; unfold room at this; omega)
                      rw [← hVS] at hsl
                      clear hVS
                      have hwr : IntKind.u64.wrap ((N8 : Int) + NF) = (N8 : Int) + NF := by rw [IntKind.wrap_u64]; omega
                      have hsl2 : ∀ W, (Instr.slice 31 (.slice a b.length cap) (some (.int .u64 (N8 : Int))) (some (.int .u64 (IntKind.u64.wrap ((N8 : Int) + NF)))) none).run Tryz.prog W = .ok VS W := fun W => by rw [hwr]; exact hsl W
                      have hlen : Hid (((b.drop N8).take NF).length = NF) := by unfold Hid; have := HRM8.out; unfold room at this; simp; omega
                      have y3d : w6.drew.cell? ⟨gs, 3, none⟩ = some (.slice none 0 0) := y3
                      have z3d : w6.drew.frozen? ⟨gs, 3, none⟩ = false := z3
                      --@M3
                      go_region_law (refine step_appN rfl (.tmp 105) (.tmp 111) rfl VS ((b.drop N8).take NF) (by simp [Act.eval]) (by simp [Act.eval]) (by first | exact HBS.out _ H6.out | exact HBS.out _ H6.out.drew) (by rw [hlen.out]; omega) ?_; intro v7 w7 ho7 hb7; have HU7 : Hid (w7.ownsRow w6.heap.size 5 1 v7 NF (bv ((b.drop N8).take NF))) := (by have q := ho7; rw [hlen.out] at q; exact q); have B7 : Hid (Below w6.heap.size w6 w7) := (by first | exact hb7 | exact ((Below.refl w6.heap.size w6).drew.trans hb7)); obtain ⟨um, uk, uc, rfl⟩ := own_slice HU7.out; have r7 := (B7.out.block gs (heap_lt G6.out)).trans G6.out; have G7 := Hid.mkI r7; have y7 := cell_of_row w7 gs 3 _ _ _ r7; have z7 := frozen_of_row w7 gs 3 _ _ r7; clear ho7 hb7 r7)
                      --@M4
                      all_goals
                        have hgw : Hid (gs < w6.heap.size) := heap_lt G6.out
                        go_upto_region 24 with fail
                        refine on_w (motive := fun W => Code.wp _ _ _ _ W) (Q := fun W => W.heap[gs]? = some (.cells #[.int .u64 (NA : Int), .int .u64 (NM : Int), .int .i64 fw, .slice um uk uc] 61 (0, 0)) ∧ (∀ k, k ≠ gs → W.heap[k]? = w7.heap[k]?) ∧ Below W1.heap.size W1 W ∧ W.heap.size = w7.heap.size) ⟨by first | (have q := heap_setCell_same w7 gs 3 _ _ (.slice um uk uc) G7.out; rw [seg_set] at q; exact q), fun k hk => heap_setCell_other w7 _ k _ hk, (H6.out.trans (B7.out.mono H6.out.size)).setCell (p := ⟨gs, 3, none⟩) (by show W1.heap.size ≤ gs; rw [HGS.out]; exact hg5.out) _, by simp⟩ ?_
                        rintro W8 ⟨s1, s2, s3, s4⟩
                        have G8 := Hid.mkI s1
                        have K8 := Hid.mkI s2
                        have H8 := Hid.mkI s3
                        have S8 := Hid.mkI s4
                        clear s1 s2 s3 s4 y3 z3 y3d z3d y7 z7
                        have HO8 : Hid (W8.ownsRow W1.heap.size 61 4 (.slice ym yn yc) L.length (sgl L)) := ownS_other (own_below HO6.out B7.out) (by have := ownS_lt HO.out; intro k hk; have := this k hk; rw [HGS.out]; omega) K8.out
                        have KU : Hid (KeepU w7 W8) := fun k c e => by
                          by_cases hk : k = gs
                          · subst hk; rw [G7.out] at e; cases e
                          · rw [K8.out k hk]; exact e
                        have HD8 : Hid (Dts b W1.heap.size W8 L l) := (HD6.out.next B7.out).keep KU.out
                        have HU8 : Hid (W8.ownsRow W1.heap.size 5 1 (.slice um uk uc) NF (bv ((b.drop N8).take NF))) := KU.out.own (own_ge HU7.out H6.out.size (fun _ _ => rfl))
                        have x0 := cell_of_row W8 gs 0 _ _ _ G8.out
                        have x1 := cell_of_row W8 gs 1 _ _ _ G8.out
                        have x2 := cell_of_row W8 gs 2 _ _ _ G8.out
                        have x3 := cell_of_row W8 gs 3 _ _ _ G8.out
                        go_upto_region 5 with (at_builtin; have A1 : (W8.alloc (.cells #[.int .u64 (NA : Int), .int .u64 (NM : Int), .int .i64 fw, .slice um uk uc] 61)).ownsRow W1.heap.size 61 4 (.slice ym yn yc) L.length (sgl L) := own_below HO8.out ((Below.refl _ W8).alloc (Nat.le_refl _) _); have A2 : (W8.alloc (.cells #[.int .u64 (NA : Int), .int .u64 (NM : Int), .int .i64 fw, .slice um uk uc] 61)).heap[W8.heap.size]? = some (.cells #[.int .u64 (n64 (BitVec.ofNat 64 NA)), .int .u64 (n64 (BitVec.ofNat 64 NM)), .int .i64 fw, .slice um uk uc] 61 (0, 0)) := (by rw [← nat64 lA, ← nat64 lM]; exact heap_alloc_new W8 _); have A3 : W1.heap.size ≤ (W8.alloc (.cells #[.int .u64 (NA : Int), .int .u64 (NM : Int), .int .i64 fw, .slice um uk uc] 61)).heap.size := (by have := H8.out.size; simp; omega); refine appR (by rfl) _ _ (by rfl) W1.heap.size (.slice ym yn yc) L (Sg.mk (BitVec.ofNat 64 NA) (BitVec.ofNat 64 NM) fw (.slice none 0 0) uk um uc) (by rfl) A1 W8.heap.size (by rfl) A2 (by have := hL16.out; omega) A3 ?_; clear A1 A2 A3; intro v9 w9 ho9 hb9 hk9; have HO9 : Hid (w9.ownsRow W1.heap.size 61 4 v9 (L ++ [(Sg.mk (BitVec.ofNat 64 NA) (BitVec.ofNat 64 NM) fw (.slice none 0 0) uk um uc)]).length (sgl (L ++ [(Sg.mk (BitVec.ofNat 64 NA) (BitVec.ofNat 64 NM) fw (.slice none 0 0) uk um uc)]))) := ho9; have K9 : Hid (KeepU W8 w9) := (KeepU.below ((Below.refl _ W8).alloc (Nat.le_refl _) _)).trans hk9; have H9 : Hid (Below W1.heap.size W1 w9) := (H8.out.alloc H8.out.size _).trans hb9; clear ho9 hb9 hk9; obtain ⟨vm, vn, vc, rfl⟩ := own_slice HO9.out)
                        clear x0 x1 x2 x3
                        have HD9 : Hid (Dts b W1.heap.size w9 (L ++ [(Sg.mk (BitVec.ofNat 64 NA) (BitVec.ofNat 64 NM) fw (.slice none 0 0) uk um uc)]) (l ++ [⟨NA, NM, fwN N4, N8, NF⟩])) := (HD8.out.keep K9.out).snoc ⟨rfl, rfl, HFW.out, K9.out.own HU8.out⟩
                        go_wp2
                        go_roundw
                      all_goals first | exact ⟨i + 1, _, _, vm, vn, vc, HLT.out, by go_num, rfl, HO9, H9, HL2, HD9⟩ | (simp [intOf]; omega)
                · rw [decide_eq_false hrm] at cRM
                  have HE : Hid (RR.2 = some (O + 8, 20)) := HFAULT.out _ HIP.out (by rw [HPF.out, if_neg HG4.out, if_neg HG5.out, if_pos hrm])
                  clear hrm
                  have rr := HR2.out wr HW.out
                  have r0 := cell_of_row wr w.heap.size 0 _ _ _ rr
                  have r1 := cell_of_row wr w.heap.size 1 _ _ _ rr
                  have f0 := frozen_of_row wr w.heap.size 0 _ _ rr
                  have f1 := frozen_of_row wr w.heap.size 1 _ _ rr
                  have HRR := Hid.mkI rr
                  clear rr
                  go_wp2_with (go_at_call 57; refine cRM.out.mono ?_; rintro e w9 ⟨rfl, hw9⟩; subst hw9)
                  refine bodyPost_ret (v := .tuple #[.slice none 0 0, .agg #[.int .i64 ((O : Int) + 8), .int .i64 20]]) (results_sr Tryz.results33 _ _ w.heap.size 70 _ (0, 0) _ _ (by rfl) (by rfl) (set2_at HRR.out _ _) Tryz.underlying70 (by rfl) size52) rfl ?_
                  exact .inr ⟨_, HE.out, by first | rfl | simp, below_set2 (HBL.out.trans (HW.out.mono HBL.out.size)) (Nat.le_refl _) _ _⟩
        · have gFb : ((NF : Int) == 0) = false := by rw [beq_eq_false_iff_ne]; omega
          have HIP : Hid (isPt b (P + 56 * i)) := HIS.out.2 ⟨gK, fun h => gF h.2⟩
          clear gK gF
          go_upto_region 10 with (go_at_call 35; refine (cK.out _ HW.out _ (by first | omega | (rw [IntKind.wrap_i64]; omega) | (rw [IntKind.wrap_u64]; omega))).mono ?_; rintro e w9 ⟨rfl, hw9⟩; subst hw9)
          clear gKb gFb
          by_cases g4 : 7 < N4
          · have g4I : (7 : Int) < N4 := by omega
            have HE : Hid (RR.2 = some (O + 4, 23)) := HFAULT.out _ HIP.out (by rw [HPF.out, if_pos g4])
            clear g4
            have rr := HR2.out wr HW.out
            have r0 := cell_of_row wr w.heap.size 0 _ _ _ rr
            have r1 := cell_of_row wr w.heap.size 1 _ _ _ rr
            have f0 := frozen_of_row wr w.heap.size 0 _ _ rr
            have f1 := frozen_of_row wr w.heap.size 1 _ _ rr
            have HRR := Hid.mkI rr
            clear rr
            go_wp2_with (go_at_call 35; refine (c4.out _ HW.out _ (by first | omega | (rw [IntKind.wrap_i64]; omega) | (rw [IntKind.wrap_u64]; omega))).mono ?_; rintro e w9 ⟨rfl, hw9⟩; subst hw9)
            refine bodyPost_ret (v := .tuple #[.slice none 0 0, .agg #[.int .i64 ((O : Int) + 4), .int .i64 23]]) (results_sr Tryz.results33 _ _ w.heap.size 70 _ (0, 0) _ _ (by rfl) (by rfl) (set2_at HRR.out _ _) Tryz.underlying70 (by rfl) size52) rfl ?_
            exact .inr ⟨_, HE.out, by first | rfl | simp, below_set2 (HBL.out.trans (HW.out.mono HBL.out.size)) (Nat.le_refl _) _ _⟩
          · have g4I : decide ((7 : Int) < N4) = false := by simp; omega
            have HG4 := Hid.mkI g4
            have hN4 : Hid (N4 ≤ 7) := by unfold Hid; omega
            clear g4
            go_upto_region 12 with (go_at_call 35; refine (c4.out _ HW.out _ (by first | omega | (rw [IntKind.wrap_i64]; omega) | (rw [IntKind.wrap_u64]; omega))).mono ?_; rintro e w9 ⟨rfl, hw9⟩; subst hw9)
            by_cases g5 : NM < NF
            · have g5I : (NM : Int) < NF := by omega
              have HE : Hid (RR.2 = some (O + 32, 23)) := HFAULT.out _ HIP.out (by rw [HPF.out, if_neg HG4.out, if_pos g5])
              clear g5
              have rr := HR2.out wr HW.out
              have r0 := cell_of_row wr w.heap.size 0 _ _ _ rr
              have r1 := cell_of_row wr w.heap.size 1 _ _ _ rr
              have f0 := frozen_of_row wr w.heap.size 0 _ _ rr
              have f1 := frozen_of_row wr w.heap.size 1 _ _ rr
              have HRR := Hid.mkI rr
              clear rr
              go_wp2
              refine bodyPost_ret (v := .tuple #[.slice none 0 0, .agg #[.int .i64 ((O : Int) + 32), .int .i64 23]]) (results_sr Tryz.results33 _ _ w.heap.size 70 _ (0, 0) _ _ (by rfl) (by rfl) (set2_at HRR.out _ _) Tryz.underlying70 (by rfl) size52) rfl ?_
              exact .inr ⟨_, HE.out, by first | rfl | simp, below_set2 (HBL.out.trans (HW.out.mono HBL.out.size)) (Nat.le_refl _) _ _⟩
            · have g5I : ¬ (NM : Int) < NF := by omega
              have HG5 := Hid.mkI g5
              clear g5
              go_upto_region 15 with (go_at_call 35; refine (c8.out _ HW.out _ (by first | omega | (rw [IntKind.wrap_i64]; omega) | (rw [IntKind.wrap_u64]; omega))).mono ?_; rintro e w9 ⟨rfl, hw9⟩; subst hw9)
              have cRM : Hid (Calls Tryz.prog 57 #[.slice a b.length cap, .int .u64 (N8 : Int), .int .u64 (NF : Int)] wr fun e w' => e = .returned (.bool (decide (room b N8 NF))) ∧ wr = w') := rroom_c hl _ N8 NF l8 lF wr (HV.out _ (HBL.out.trans (HW.out.mono HBL.out.size)))
              by_cases hrm : room b N8 NF
              · rw [decide_eq_true hrm] at cRM
                have HRM8 := Hid.mkI hrm
                clear hrm
                go_upto_region 17 with (go_at_call 57; refine cRM.out.mono ?_; rintro e w9 ⟨rfl, hw9⟩; subst hw9)
                clear cRM g4I g5I
                have cFL : Hid (∀ wx, Calls Tryz.prog 58 #[.int .u64 (N4 : Int)] wx fun e w' => e = .returned (.int .i64 ((fwN N4 : Nat) : Int)) ∧ wx = w') := fun wx => rflags_c N4 hN4.out wx
                obtain ⟨fw, hfw⟩ : ∃ fw : Int, fw = ((fwN N4 : Nat) : Int) := ⟨_, rfl⟩
                rw [← hfw] at cFL
                have HFW := Hid.mkI hfw
                clear hfw
                have HFLAG : Hid True := trivial
                go_upto_region 18 with (first | (have hfl := HFLAG; clear HFLAG hfl; (go_at_call 35; refine (cA.out _ HW.out _ (by first | omega | (rw [IntKind.wrap_i64]; omega) | (rw [IntKind.wrap_u64]; omega))).mono ?_; rintro e w9 ⟨rfl, hw9⟩; subst hw9)) | (go_at_call 35; refine (c4.out _ HW.out _ (by first | omega | (rw [IntKind.wrap_i64]; omega) | (rw [IntKind.wrap_u64]; omega))).mono ?_; rintro e w9 ⟨rfl, hw9⟩; subst hw9) | (go_at_call 58; refine (cFL.out _).mono ?_; rintro e w9 ⟨rfl, hw9⟩; subst hw9))
                --@M2
                refine on_w (motive := fun W => Code.wp _ _ _ _ W) (Q := fun W => W.heap[wr.heap.size]? = some (.cells #[.int .u64 (NA : Int), .int .u64 (NM : Int), .int .i64 fw, .slice none 0 0] 61 (0, 0)) ∧ Below wr.heap.size wr W ∧ W.heap.size = wr.heap.size + 1) ⟨heap_alloc_new wr _, (Below.refl _ _).alloc (Nat.le_refl _) _, by simp⟩ ?_
                rintro W5 ⟨s1, s2, s3⟩
                have HG := Hid.mkI s1
                have B5 := Hid.mkI s2
                have S5 := Hid.mkI s3
                have H5 : Hid (Below W1.heap.size W1 W5) := HW.out.trans (s2.mono HW.out.size)
                have hg5 : Hid (W1.heap.size ≤ wr.heap.size) := HW.out.size
                clear s1 s2 s3
                obtain ⟨gs, hgs⟩ : ∃ gs, gs = wr.heap.size := ⟨_, rfl⟩
                have HGS := Hid.mkI hgs
                rw [← hgs] at HG ⊢
                clear hgs
                have y0 := cell_of_row W5 gs 0 _ _ _ HG.out
                have y1 := cell_of_row W5 gs 1 _ _ _ HG.out
                have y2 := cell_of_row W5 gs 2 _ _ _ HG.out
                have y3 := cell_of_row W5 gs 3 _ _ _ HG.out
                obtain ⟨cb, hcb⟩ : ∃ cb, cb = decide ((BitVec.ofNat 64 NA + (BitVec.ofNat 64 NM - 1#64)).toNat < (BitVec.ofNat 64 NA).toNat) := ⟨_, rfl⟩
                have cLA : Hid (∀ wx, Calls Tryz.prog 59 #[.int .u64 (NA : Int), .int .u64 (NM : Int)] wx fun e w' => ∃ zz, e = .returned (.tuple #[.int .u64 zz, .bool (!cb)]) ∧ wx = w') := fun wx => by
                  have q := rlast_c (BitVec.ofNat 64 NA) (BitVec.ofNat 64 NM) wx cb hcb
                  rw [← nat64 lA, ← nat64 lM] at q
                  exact q.mono fun e w' h => ⟨_, h.1, h.2⟩
                cases cb with
                | true =>
                  have HE : Hid (RR.2 = some (O + 24, 23)) := HFAULT.out _ HIP.out (by rw [HPF.out, if_neg HG4.out, if_neg HG5.out, if_neg (fun q => q HRM8.out), if_pos (of_decide_eq_true hcb.symm)])
                  clear hcb
                  go_upto_region 20 with (go_at_call 59; refine (cLA.out _).mono ?_; rintro e w9 ⟨zz, rfl, hw9⟩; subst hw9)
                  clear y0 y1 y2 y3
                  have rr := HR2.out W5 H5.out
                  have r0 := cell_of_row W5 w.heap.size 0 _ _ _ rr
                  have r1 := cell_of_row W5 w.heap.size 1 _ _ _ rr
                  have f0 := frozen_of_row W5 w.heap.size 0 _ _ rr
                  have f1 := frozen_of_row W5 w.heap.size 1 _ _ rr
                  have HRR := Hid.mkI rr
                  clear rr
                  go_wp2
                  refine bodyPost_ret (v := .tuple #[.slice none 0 0, .agg #[.int .i64 ((O : Int) + 24), .int .i64 23]]) (results_sr Tryz.results33 _ _ w.heap.size 70 _ (0, 0) _ _ (by rfl) (by rfl) (set2_at HRR.out _ _) Tryz.underlying70 (by rfl) size52) rfl ?_
                  exact .inr ⟨_, HE.out, by first | rfl | simp, below_set2 (HBL.out.trans (H5.out.mono HBL.out.size)) (Nat.le_refl _) _ _⟩
                | false =>
                  have HPN : Hid (ptF b (P + 56 * i) = none) := by unfold Hid; rw [HPF.out, if_neg HG4.out, if_neg HG5.out, if_neg (fun q => q HRM8.out), if_neg (of_decide_eq_false hcb.symm)]
                  clear hcb
                  go_upto_region 21 with (go_at_call 59; refine (cLA.out _).mono ?_; rintro e w9 ⟨zz, rfl, hw9⟩; subst hw9)
                  have HO5 : Hid (W5.ownsRow W1.heap.size 61 4 (.slice ym yn yc) L.length (sgl L)) := own_below HO.out B5.out
                  have HD5 : Hid (Dts b W1.heap.size W5 L l) := HD.out.next B5.out
                  have cMT : Hid (Calls Tryz.prog 60 #[.slice ym yn yc, .agg #[.int .u64 (NA : Int), .int .u64 (NM : Int), .int .i64 fw, .slice none 0 0]] W5 fun e w' => e = .returned (.bool (anyM L (BitVec.ofNat 64 NA) (BitVec.ofNat 64 NM) L.length)) ∧ Below W5.heap.size W5 w') := by
                    have q := rmeets_c (.slice ym yn yc) L hL16.out (BitVec.ofNat 64 NA) (BitVec.ofNat 64 NM) fw none 0 0 W5 (Sgs.of_own HO5.out)
                    rw [← nat64 lA, ← nat64 lM] at q
                    exact q
                  have HAM : Hid (l.any (mtB (ptAt b (P + 56 * i))) = true ↔ anyM L (BitVec.ofNat 64 NA) (BitVec.ofNat 64 NM) L.length = true) := by unfold Hid; rw [any_mt HD.out, anyM_iff, HPA.out]
                  cases hAM : anyM L (BitVec.ofNat 64 NA) (BitVec.ofNat 64 NM) L.length with
                  | true =>
                    have HE : Hid (RR.2 = some (O + 24, 24)) := by unfold Hid; rw [HR.out, prL_stop (prL_meet HL.out HIP.out HPN.out (HAM.out.2 hAM)) N HLT.out, HOE.out]
                    rw [hAM] at cMT
                    clear hAM
                    go_upto_region 22 with (go_at_call 60; refine cMT.out.mono ?_; rintro e w6 ⟨rfl, hb⟩; have B6 : Hid (Below W5.heap.size W5 w6) := hb; have H6 : Hid (Below W1.heap.size W1 w6) := H5.out.trans (hb.mono H5.out.size); clear hb)
                    clear y0 y1 y2 y3
                    have rr := HR2.out w6 H6.out
                    have r0 := cell_of_row w6 w.heap.size 0 _ _ _ rr
                    have r1 := cell_of_row w6 w.heap.size 1 _ _ _ rr
                    have f0 := frozen_of_row w6 w.heap.size 0 _ _ rr
                    have f1 := frozen_of_row w6 w.heap.size 1 _ _ rr
                    have HRR := Hid.mkI rr
                    clear rr
                    go_wp2
                    refine bodyPost_ret (v := .tuple #[.slice none 0 0, .agg #[.int .i64 ((O : Int) + 24), .int .i64 24]]) (results_sr Tryz.results33 _ _ w.heap.size 70 _ (0, 0) _ _ (by rfl) (by rfl) (set2_at HRR.out _ _) Tryz.underlying70 (by rfl) size52) rfl ?_
                    exact .inr ⟨_, HE.out, by first | rfl | simp, below_set2 (HBL.out.trans (H6.out.mono HBL.out.size)) (Nat.le_refl _) _ _⟩
                  | false =>
                    have HL2 : Hid (prL b P (i + 1) = (l ++ [⟨NA, NM, fwN N4, N8, NF⟩], none)) := by unfold Hid; rw [prL_add HL.out HIP.out HPN.out (fun h => by rw [HAM.out.1 h] at hAM; cases hAM), HPA.out]
                    rw [hAM] at cMT
                    clear hAM
                    go_upto_region 23 with (go_at_call 60; refine cMT.out.mono ?_; rintro e w6 ⟨rfl, hb⟩; have B6 : Hid (Below W5.heap.size W5 w6) := hb; have H6 : Hid (Below W1.heap.size W1 w6) := H5.out.trans (hb.mono H5.out.size); clear hb)
                    clear y0 y1 y2 y3
                    have G6 : Hid (w6.heap[gs]? = some (.cells #[.int .u64 (NA : Int), .int .u64 (NM : Int), .int .i64 fw, .slice none 0 0] 61 (0, 0))) := (B6.out.block gs (heap_lt HG.out)).trans HG.out
                    have HO6 : Hid (w6.ownsRow W1.heap.size 61 4 (.slice ym yn yc) L.length (sgl L)) := own_below HO5.out B6.out
                    have HD6 : Hid (Dts b W1.heap.size w6 L l) := HD5.out.next B6.out
                    have y3 := cell_of_row w6 gs 3 _ _ _ G6.out
                    have z3 := frozen_of_row w6 gs 3 _ _ G6.out
                    have hsum : (N8 : Int) + NF ≤ 200000 := by have := HRM8.out; unfold room at this; omega
                    have hsl : ∀ W, (Instr.slice 31 (.slice a b.length cap) (some (.int .u64 (N8 : Int))) (some (.int .u64 ((N8 : Int) + NF))) none).run Tryz.prog W = .ok (.slice (if cap = N8 then a else a.map (fun x => x.add N8)) NF (cap - N8)) W := fun W => slice_U W a b.length cap N8 NF _ rfl (by have := HRM8.out; unfold room at this; omega)
                    obtain ⟨VS, hVS⟩ : ∃ VS : Value, VS = .slice (if cap = N8 then a else a.map (fun x => x.add N8)) NF (cap - N8) := ⟨_, rfl⟩
                    have HBS : Hid (∀ wx, Below W1.heap.size W1 wx → Byt wx VS ((b.drop N8).take NF)) := fun wx hx => by rw [hVS]; exact (HV.out wx (HBL.out.trans (hx.mono HBL.out.size))).sub (by have := HRM8.out; unfold room at this; omega)
                    rw [← hVS] at hsl
                    clear hVS
                    have hwr : IntKind.u64.wrap ((N8 : Int) + NF) = (N8 : Int) + NF := by rw [IntKind.wrap_u64]; omega
                    have hsl2 : ∀ W, (Instr.slice 31 (.slice a b.length cap) (some (.int .u64 (N8 : Int))) (some (.int .u64 (IntKind.u64.wrap ((N8 : Int) + NF)))) none).run Tryz.prog W = .ok VS W := fun W => by rw [hwr]; exact hsl W
                    have hlen : Hid (((b.drop N8).take NF).length = NF) := by unfold Hid; have := HRM8.out; unfold room at this; simp; omega
                    have y3d : w6.drew.cell? ⟨gs, 3, none⟩ = some (.slice none 0 0) := y3
                    have z3d : w6.drew.frozen? ⟨gs, 3, none⟩ = false := z3
                    --@M3
                    go_region_law (refine step_appN rfl (.tmp 105) (.tmp 111) rfl VS ((b.drop N8).take NF) (by simp [Act.eval]) (by simp [Act.eval]) (by first | exact HBS.out _ H6.out | exact HBS.out _ H6.out.drew) (by rw [hlen.out]; omega) ?_; intro v7 w7 ho7 hb7; have HU7 : Hid (w7.ownsRow w6.heap.size 5 1 v7 NF (bv ((b.drop N8).take NF))) := (by have q := ho7; rw [hlen.out] at q; exact q); have B7 : Hid (Below w6.heap.size w6 w7) := (by first | exact hb7 | exact ((Below.refl w6.heap.size w6).drew.trans hb7)); obtain ⟨um, uk, uc, rfl⟩ := own_slice HU7.out; have r7 := (B7.out.block gs (heap_lt G6.out)).trans G6.out; have G7 := Hid.mkI r7; have y7 := cell_of_row w7 gs 3 _ _ _ r7; have z7 := frozen_of_row w7 gs 3 _ _ r7; clear ho7 hb7 r7)
                    --@M4
                    all_goals
                      have hgw : Hid (gs < w6.heap.size) := heap_lt G6.out
                      go_upto_region 24 with fail
                      refine on_w (motive := fun W => Code.wp _ _ _ _ W) (Q := fun W => W.heap[gs]? = some (.cells #[.int .u64 (NA : Int), .int .u64 (NM : Int), .int .i64 fw, .slice um uk uc] 61 (0, 0)) ∧ (∀ k, k ≠ gs → W.heap[k]? = w7.heap[k]?) ∧ Below W1.heap.size W1 W ∧ W.heap.size = w7.heap.size) ⟨by first | (have q := heap_setCell_same w7 gs 3 _ _ (.slice um uk uc) G7.out; rw [seg_set] at q; exact q), fun k hk => heap_setCell_other w7 _ k _ hk, (H6.out.trans (B7.out.mono H6.out.size)).setCell (p := ⟨gs, 3, none⟩) (by show W1.heap.size ≤ gs; rw [HGS.out]; exact hg5.out) _, by simp⟩ ?_
                      rintro W8 ⟨s1, s2, s3, s4⟩
                      have G8 := Hid.mkI s1
                      have K8 := Hid.mkI s2
                      have H8 := Hid.mkI s3
                      have S8 := Hid.mkI s4
                      clear s1 s2 s3 s4 y3 z3 y3d z3d y7 z7
                      have HO8 : Hid (W8.ownsRow W1.heap.size 61 4 (.slice ym yn yc) L.length (sgl L)) := ownS_other (own_below HO6.out B7.out) (by have := ownS_lt HO.out; intro k hk; have := this k hk; rw [HGS.out]; omega) K8.out
                      have KU : Hid (KeepU w7 W8) := fun k c e => by
                        by_cases hk : k = gs
                        · subst hk; rw [G7.out] at e; cases e
                        · rw [K8.out k hk]; exact e
                      have HD8 : Hid (Dts b W1.heap.size W8 L l) := (HD6.out.next B7.out).keep KU.out
                      have HU8 : Hid (W8.ownsRow W1.heap.size 5 1 (.slice um uk uc) NF (bv ((b.drop N8).take NF))) := KU.out.own (own_ge HU7.out H6.out.size (fun _ _ => rfl))
                      have x0 := cell_of_row W8 gs 0 _ _ _ G8.out
                      have x1 := cell_of_row W8 gs 1 _ _ _ G8.out
                      have x2 := cell_of_row W8 gs 2 _ _ _ G8.out
                      have x3 := cell_of_row W8 gs 3 _ _ _ G8.out
                      go_upto_region 5 with (at_builtin; have A1 : (W8.alloc (.cells #[.int .u64 (NA : Int), .int .u64 (NM : Int), .int .i64 fw, .slice um uk uc] 61)).ownsRow W1.heap.size 61 4 (.slice ym yn yc) L.length (sgl L) := own_below HO8.out ((Below.refl _ W8).alloc (Nat.le_refl _) _); have A2 : (W8.alloc (.cells #[.int .u64 (NA : Int), .int .u64 (NM : Int), .int .i64 fw, .slice um uk uc] 61)).heap[W8.heap.size]? = some (.cells #[.int .u64 (n64 (BitVec.ofNat 64 NA)), .int .u64 (n64 (BitVec.ofNat 64 NM)), .int .i64 fw, .slice um uk uc] 61 (0, 0)) := (by rw [← nat64 lA, ← nat64 lM]; exact heap_alloc_new W8 _); have A3 : W1.heap.size ≤ (W8.alloc (.cells #[.int .u64 (NA : Int), .int .u64 (NM : Int), .int .i64 fw, .slice um uk uc] 61)).heap.size := (by have := H8.out.size; simp; omega); refine appR (by rfl) _ _ (by rfl) W1.heap.size (.slice ym yn yc) L (Sg.mk (BitVec.ofNat 64 NA) (BitVec.ofNat 64 NM) fw (.slice none 0 0) uk um uc) (by rfl) A1 W8.heap.size (by rfl) A2 (by have := hL16.out; omega) A3 ?_; clear A1 A2 A3; intro v9 w9 ho9 hb9 hk9; have HO9 : Hid (w9.ownsRow W1.heap.size 61 4 v9 (L ++ [(Sg.mk (BitVec.ofNat 64 NA) (BitVec.ofNat 64 NM) fw (.slice none 0 0) uk um uc)]).length (sgl (L ++ [(Sg.mk (BitVec.ofNat 64 NA) (BitVec.ofNat 64 NM) fw (.slice none 0 0) uk um uc)]))) := ho9; have K9 : Hid (KeepU W8 w9) := (KeepU.below ((Below.refl _ W8).alloc (Nat.le_refl _) _)).trans hk9; have H9 : Hid (Below W1.heap.size W1 w9) := (H8.out.alloc H8.out.size _).trans hb9; clear ho9 hb9 hk9; obtain ⟨vm, vn, vc, rfl⟩ := own_slice HO9.out)
                      clear x0 x1 x2 x3
                      have HD9 : Hid (Dts b W1.heap.size w9 (L ++ [(Sg.mk (BitVec.ofNat 64 NA) (BitVec.ofNat 64 NM) fw (.slice none 0 0) uk um uc)]) (l ++ [⟨NA, NM, fwN N4, N8, NF⟩])) := (HD8.out.keep K9.out).snoc ⟨rfl, rfl, HFW.out, K9.out.own HU8.out⟩
                      go_wp2
                      go_roundw
                    all_goals first | exact ⟨i + 1, _, _, vm, vn, vc, HLT.out, by go_num, rfl, HO9, H9, HL2, HD9⟩ | (simp [intOf]; omega)
              · rw [decide_eq_false hrm] at cRM
                have HE : Hid (RR.2 = some (O + 8, 20)) := HFAULT.out _ HIP.out (by rw [HPF.out, if_neg HG4.out, if_neg HG5.out, if_pos hrm])
                clear hrm
                have rr := HR2.out wr HW.out
                have r0 := cell_of_row wr w.heap.size 0 _ _ _ rr
                have r1 := cell_of_row wr w.heap.size 1 _ _ _ rr
                have f0 := frozen_of_row wr w.heap.size 0 _ _ rr
                have f1 := frozen_of_row wr w.heap.size 1 _ _ rr
                have HRR := Hid.mkI rr
                clear rr
                go_wp2_with (go_at_call 57; refine cRM.out.mono ?_; rintro e w9 ⟨rfl, hw9⟩; subst hw9)
                refine bodyPost_ret (v := .tuple #[.slice none 0 0, .agg #[.int .i64 ((O : Int) + 8), .int .i64 20]]) (results_sr Tryz.results33 _ _ w.heap.size 70 _ (0, 0) _ _ (by rfl) (by rfl) (set2_at HRR.out _ _) Tryz.underlying70 (by rfl) size52) rfl ?_
                exact .inr ⟨_, HE.out, by first | rfl | simp, below_set2 (HBL.out.trans (HW.out.mono HBL.out.size)) (Nat.le_refl _) _ _⟩
      · have gKb : ((NK : Int) != 1) = true := by rw [bne_iff_ne]; omega
        have HL2 : Hid (prL b P (i + 1) = (l, none)) := prL_pass HL.out (fun h => gK (HIS.out.1 h).1)
        clear gK
        go_wp2_with (go_at_call 35; refine (cK.out _ HW.out _ (by first | omega | (rw [IntKind.wrap_i64]; omega) | (rw [IntKind.wrap_u64]; omega))).mono ?_; rintro e w9 ⟨rfl, hw9⟩; subst hw9)
        go_roundw
        case rel => exact ⟨i + 1, L, l, ym, yn, yc, HLT.out, by go_num, rfl, HO, HW, HL2, HD⟩
        case measure => simp [intOf]; omega
    · obtain rfl : i = N := by omega
      have rr := HR2.out wr HW.out
      have r0 := cell_of_row wr w.heap.size 0 _ _ _ rr
      have r1 := cell_of_row wr w.heap.size 1 _ _ _ rr
      have f0 := frozen_of_row wr w.heap.size 0 _ _ rr
      have f1 := frozen_of_row wr w.heap.size 1 _ _ rr
      have HRR := Hid.mkI rr
      clear rr
      go_wp2
      refine bodyPost_ret (v := .tuple #[.slice ym yn yc, .agg #[.int .i64 0, .int .i64 0]]) (results_sr Tryz.results33 _ _ w.heap.size 70 _ (0, 0) _ _ (by rfl) (by rfl) (set2_at HRR.out _ _) Tryz.underlying70 (by rfl) size52) rfl ?_
      have hR2 : RR = (l, none) := HR.out.trans HL.out
      have hk : ∀ j, W1.heap.size ≤ j → ((wr.setCell ⟨w.heap.size, 0, none⟩ (.int .i64 0)).setCell ⟨w.heap.size, 1, none⟩ (.int .i64 0)).heap[j]? = wr.heap[j]? := fun j hj => by
        rw [heap_setCell_other _ _ j _ (by show j ≠ w.heap.size; rw [hsz.out] at hj; omega), heap_setCell_other _ _ j _ (by show j ≠ w.heap.size; rw [hsz.out] at hj; omega)]
      exact .inl ⟨by rw [hR2], ym, yn, yc, L, rfl, own_ge HO.out HBL.out.size hk, by rw [hR2]; exact HD.out.move HBL.out.size hk, below_set2 (HBL.out.trans (HW.out.mono HBL.out.size)) (Nat.le_refl _) _ _⟩
end Go.Proofs.YtheeogbmljjbdaaGreatDoor
