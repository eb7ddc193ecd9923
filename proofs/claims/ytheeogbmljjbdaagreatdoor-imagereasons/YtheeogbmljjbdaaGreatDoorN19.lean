/-
  Ixd.
-/
import Derived.Test.YtheeogbmljjbdaaGreatDoorN09
import Derived.Test.YtheeogbmljjbdaaGreatDoorN18
import Derived.Test.YtheeogbmljjbdaaGreatDoorN10
import Derived.Test.YtheeogbmljjbdaaGreatDoorN13
import Derived.BigQuiet
import Derived.Lib.IndexLaws
namespace Go.Proofs.YtheeogbmljjbdaaGreatDoor
set_option linter.unusedVariables false
set_option maxRecDepth 100000
open Go.ChangeShapes Go.WideShapes Go.ChangeAt Go.RowKit Go.Deep
theorem byte_at (l : List Int) (k : Nat) : (Lib.bytesOf l)[k]? = l[k]?.map fun n => UInt8.ofNat n.toNat := by unfold Lib.bytesOf; rw [List.getElem?_map]
theorem byte_zero {n : Int} (h : 0 ≤ n ∧ n ≤ 255) : UInt8.ofNat n.toNat = 0 ↔ n = 0 := by
  constructor
  · intro e
    have := congrArg UInt8.toNat e
    rw [UInt8.toNat_ofNat'] at this
    have h2 : n.toNat % 256 = n.toNat := Nat.mod_eq_of_lt (by omega)
    have h3 : n.toNat % 256 = 0 := this
    omega
  · rintro rfl; rfl
theorem fz_hit {T : List Int} (hT : AllB T) {o i : Nat} (ho : o ≤ i) (hi : i < T.length) (h0 : T.getD i 0 = 0) (hno : ∀ j, o ≤ j → j < i → T.getD j 0 ≠ 0) : fz (T.drop o) = ((i - o : Nat) : Int) := by
  have at1 : ∀ k, k < T.length - o → (Lib.bytesOf (T.drop o))[k]? = some (UInt8.ofNat (T.getD (o + k) 0).toNat) := fun k hk => by
    rw [byte_at, List.getElem?_drop, List.getD_eq_getElem?_getD]
    have : o + k < T.length := by omega
    simp [this]
  have hz : (Lib.bytesOf (T.drop o))[i - o]? = some 0 := by
    rw [at1 _ (by omega), show o + (i - o) = i by omega, h0]; rfl
  have hge := Lib.indexByte_ge (Lib.bytesOf (T.drop o)) 0
  unfold fz
  rcases Int.lt_or_le (Lib.indexByte (Lib.bytesOf (T.drop o)) 0) 0 with q | q
  · exact absurd hz (Lib.indexByte_none (by omega) _)
  · obtain ⟨p, hp⟩ : ∃ p : Nat, Lib.indexByte (Lib.bytesOf (T.drop o)) 0 = p := ⟨_, (Int.toNat_of_nonneg q).symm⟩
    obtain ⟨h1, h2⟩ := Lib.indexByte_some hp
    rw [hp]
    rcases Nat.lt_trichotomy p (i - o) with r | r | r
    · have hb := getD_byte hT (o + p)
      rw [at1 p (by omega)] at h1
      have e := (byte_zero hb).1 (Option.some.inj h1)
      exact absurd e (hno (o + p) (by omega) (by omega))
    · rw [r]
    · exact absurd hz (h2 _ r)
theorem fz_none {T : List Int} (hT : AllB T) {o : Nat} (hno : ∀ j, o ≤ j → j < T.length → T.getD j 0 ≠ 0) : fz (T.drop o) < 0 := by
  have hge := Lib.indexByte_ge (Lib.bytesOf (T.drop o)) 0
  unfold fz
  rcases Int.lt_or_le (Lib.indexByte (Lib.bytesOf (T.drop o)) 0) 0 with q | q
  · exact q
  · obtain ⟨p, hp⟩ : ∃ p : Nat, Lib.indexByte (Lib.bytesOf (T.drop o)) 0 = p := ⟨_, (Int.toNat_of_nonneg q).symm⟩
    obtain ⟨h1, h2⟩ := Lib.indexByte_some hp
    have hlt : p < (T.drop o).length := by
      have := (List.getElem?_eq_some_iff.1 h1).1
      rwa [Lib.bytesOf_length] at this
    rw [List.length_drop] at hlt
    rw [byte_at, List.getElem?_drop] at h1
    have h3 : o + p < T.length := by omega
    rw [List.getElem?_eq_getElem h3] at h1
    have hb := getD_byte hT (o + p)
    have e : T.getD (o + p) 0 = T[o + p] := by simp [h3]
    rw [e] at hb
    have := (byte_zero hb).1 (Option.some.inj h1)
    exact absurd (e.trans this) (hno (o + p) (by omega) h3)
/-- What text answers. -/
def TxP (T : List Int) (o : Nat) (w : World) (e : Ending) (w' : World) : Prop :=
  ((T.length ≤ o ∨ fz (T.drop o) < 0) ∧ e = .returned (.tuple #[.string ⟨#[]⟩, .bool false]) ∧ w = w') ∨ (¬ (T.length ≤ o ∨ fz (T.drop o) < 0) ∧ e = .returned (.tuple #[.string (strOfNums (txT T o)), .bool true]) ∧ w = w')
set_option maxHeartbeats 4000000 in
theorem rtext_c {T : List Int} (hT : AllB T) (hTl : T.length ≤ 200000) (vt : Value) (o : Nat) (ho : o < 18446744073709551616) (w : World) (ht : Byt w vt T) :
    Calls Tryz.prog 62 #[vt, .int .u64 (o : Int)] w fun e w' => TxP T o w e w' := by
  have HT := Hid.mkI ht
  have HB := Hid.mkI hT
  obtain ⟨ta, tc, rfl, htc, _, htr⟩ := ht
  have hlI : (T.length : Int) ≤ 200000 := by omega
  have hoI : (o : Int) < 18446744073709551616 := by omega
  by_cases g : T.length ≤ o
  · have gI : (T.length : Int) ≤ o := by omega
    have HG : Hid (T.length ≤ o ∨ fz (T.drop o) < 0) := .inl g
    clear g htr hT
    go_enter Tryz.func62, Tryz.ntmps62
    go_wp2
    go_ret2
    exact .inl ⟨HG.out, rfl, rfl⟩
  · have gI : ¬ (T.length : Int) ≤ o := by omega
    have hoL : (o : Int) ≤ 200000 := by omega
    have HO : Hid (o < T.length) := by unfold Hid; omega
    obtain ⟨gt, ot, rfl, hgt, hct⟩ := htr (by intro e; rw [e] at g; simp at g)
    have HC := Hid.mkI hct
    clear g htr hct hT
    go_enter Tryz.func62, Tryz.ntmps62
    go_wp2
    go_loopw [6] (fun x wr => ∃ (i : Nat), Hid (o ≤ i) ∧ i ≤ T.length ∧ x = .int .i64 (i : Int) ∧ Hid (∀ j, o ≤ j → j < i → T.getD j 0 ≠ 0) ∧ wr = w) (fun x _ => T.length - (intOf x).toNat)
    case atStart => exact ⟨o, Nat.le_refl o, Nat.le_of_lt HO.out, rfl, fun j h1 h2 => by omega, rfl⟩
    case round =>
      obtain ⟨i, hoi, hi, rfl, HN, rfl⟩ := hrel
      by_cases hlt : i < T.length
      · have hltI : (i : Int) < T.length := by omega
        have hc := HC.out i hlt
        have HLT := Hid.mkI hlt
        have hby := getD_byte HB.out i
        obtain ⟨z, hz⟩ : ∃ z, z = T.getD i 0 := ⟨_, rfl⟩
        rw [← hz] at hc hby
        by_cases hz0 : z = 0
        · have hzb : (z == 0) = true := by rw [beq_iff_eq]; exact hz0
          have HF : Hid (fz (T.drop o) = ((i - o : Nat) : Int)) := fz_hit HB.out hoi.out hlt (by rw [← hz]; exact hz0) HN.out
          have hsl : ∀ W, (Instr.slice 31 (.slice (some ⟨gt, ot, none⟩) T.length tc) (some (.int .u64 (o : Int))) (some (.int .i64 (i : Int))) none).run Tryz.prog W = .ok (.slice (some ⟨gt, ot + o, none⟩) (i - o) (tc - o)) W := fun W => by
            have he : Tryz.prog.elem 31 = 5 := by kernel_rfl
            have ht' : Tryz.prog.underlying 31 = some (.slice (Tryz.prog.elem 31)) := by rw [he]; exact Tryz.underlying31
            have hzz : ∀ w, (Go.sizeOf 5).run Tryz.prog w = .ok 1 w := fun w => by kernel_rfl
            rw [run_slice_lh W _ _ _ _ ht' .u64 .i64 _ _ (by omega) (by have := hoi.out; omega) (by omega), he, hzz]
            have e1 : ((o : Int)).toNat = o := by omega
            have e2 : ((i : Int)).toNat = i := by omega
            have e3 : ¬ tc = o := by have := HO.out; omega
            rw [e1, e2]
            simp [Result.andThen, sliced, e3, addAt]
          have hcv : (convert 31 9 (.slice (some ⟨gt, ot + o, none⟩) (i - o) (tc - o))).run Tryz.prog wr = .ok (.string (strOfNums (txT T o))) wr := by
            have hy : Byt wr (.slice (some ⟨gt, ot + o, none⟩) (i - o) (tc - o)) (txT T o) := by
              have hl : (txT T o).length = i - o := by unfold txT; rw [HF.out, List.length_take, List.length_drop]; omega
              refine ⟨_, tc - o, by rw [hl], by rw [hl]; omega, fun h => by simp at h, fun _ => ⟨gt, ot + o, rfl, hgt, fun j hj => ?_⟩⟩
              rw [hl] at hj
              rw [Nat.add_assoc, HC.out (o + j) (by omega)]
              unfold txT
              rw [HF.out, List.getD_eq_getElem?_getD, List.getD_eq_getElem?_getD, List.getElem?_take_of_lt (by omega), List.getElem?_drop]
            exact hy.conv
          have HG : Hid (¬ (T.length ≤ o ∨ fz (T.drop o) < 0)) := by
            unfold Hid; rintro (h | h)
            · have := HO.out; omega
            · rw [HF.out] at h; omega
          clear hz0 hz hoi
          obtain ⟨XS, hXS⟩ : ∃ XS, XS = strOfNums (txT T o) := ⟨_, rfl⟩
          rw [← hXS] at hcv
          have HXS := Hid.mkI hXS
          clear hXS
          obtain ⟨m, hm⟩ : ∃ m, m = i - o := ⟨_, rfl⟩
          rw [← hm] at hsl hcv
          clear hm HF
          go_wp2
          go_ret2
          exact .inr ⟨HG.out, by rw [← HXS.out]; rfl, rfl⟩
        · have hzb : (z == 0) = false := by rw [beq_eq_false_iff_ne]; exact hz0
          have HN2 : Hid (∀ j, o ≤ j → j < i + 1 → T.getD j 0 ≠ 0) := fun j h1 h2 => by
            by_cases e : j = i
            · rw [e, ← hz]; exact hz0
            · exact HN.out j h1 (by omega)
          clear hz0 hz
          go_wp2
          go_roundw
          case rel => exact ⟨i + 1, Nat.le_succ_of_le hoi.out, HLT.out, by go_num, HN2, trivial⟩
          case measure => simp [intOf]; omega
      · obtain rfl : i = T.length := by omega
        have HG : Hid (T.length ≤ o ∨ fz (T.drop o) < 0) := .inr (fz_none HB.out (fun j h1 h2 => HN.out j h1 h2))
        go_wp2
        go_ret2
        exact .inl ⟨HG.out, rfl, rfl⟩
theorem eqS_symm (x y : Sy) : eqS x y = eqS y x := by
  cases h : eqS x y with
  | true => rw [eqS_iff.1 h]; exact (eqS_iff.2 rfl).symm
  | false =>
    cases h2 : eqS y x with
    | true => rw [eqS_iff.1 h2, eqS_iff.2 rfl] at h; cases h
    | false => rfl
theorem eqG_sym (u v : Array Value) (x y : Operand) (w : World) : (eqGuard .eql 87 x y (.agg u) (.agg v)).run Tryz.prog w = .ok () w := by kernel_rfl
theorem any_upto {N : List Sy} {x : Sy} (h : ∀ j, j < N.length → eqS x (sy N j) = false) : N.any (eqS x) = false := by
  rw [List.any_eq_false]
  intro y hy
  obtain ⟨j, hj, rfl⟩ := List.getElem_of_mem hy
  have := h j hj
  unfold sy at this
  simp [hj] at this
  simp [this]
theorem any_at {N : List Sy} {x : Sy} {j : Nat} (hj : j < N.length) (h : eqS x (sy N j) = true) : N.any (eqS x) = true := by
  rw [List.any_eq_true]
  refine ⟨N[j], List.getElem_mem hj, ?_⟩
  unfold sy at h
  simpa [hj] using h
set_option maxHeartbeats 4000000 in
theorem rhas_c (va : Value) (N : List Sy) (x : Sy) (w : World) (hs : Sys w va N) (hl : N.length ≤ 400) :
    Calls Tryz.prog 64 #[va, .agg #[.string x.s, .int .u64 (n64 x.v)]] w fun e w' => e = .returned (.bool (N.any (eqS x))) ∧ Below w.heap.size w w' := by
  have hs2 := hs
  obtain ⟨na, nc, rfl, hnc, _⟩ := hs
  obtain ⟨W1, hW1⟩ : ∃ W1, w.alloc (.cells #[.string x.s, .int .u64 (n64 x.v)] 87) = W1 := ⟨_, rfl⟩
  have HBL : Hid (Below w.heap.size w W1) := by rw [← hW1]; exact (Below.refl _ _).alloc (Nat.le_refl _) _
  have R3 : Hid (W1.heap[w.heap.size]? = some (.cells #[.string x.s, .int .u64 (n64 x.v)] 87 (0, 0))) := by unfold Hid; rw [← hW1]; exact heap_alloc_new w _
  have HS : Hid (∀ w', Below W1.heap.size W1 w' → N ≠ [] → ∃ g off, na = some ⟨g, off, none⟩ ∧ ∀ j, j < N.length → w'.cell? ⟨g, off + j * 2, none⟩ = some (.string (sy N j).s) ∧ w'.cell? ⟨g, off + j * 2 + 1, none⟩ = some (.int .u64 (n64 (sy N j).v))) := fun w' hb hne => by
    obtain ⟨ad, cp, e, _, h2⟩ := hs2.later (HBL.out.trans (hb.mono HBL.out.size)) rfl
    cases e
    obtain ⟨g, off, h3, _, h4⟩ := h2 hne
    exact ⟨g, off, h3, h4⟩
  have hlI : (N.length : Int) ≤ 400 := by omega
  obtain ⟨RR, hRR⟩ : ∃ RR, RR = N.any (eqS x) := ⟨_, rfl⟩
  rw [← hRR]
  have HR := Hid.mkI hRR
  have HEQ : Hid (∀ (y : Sy) (W : World), (binOp .eql 87 (.agg #[.string y.s, .int .u64 (n64 y.v)]) (.agg #[.string x.s, .int .u64 (n64 x.v)])).run Tryz.prog W = .ok (.bool (eqS y x)) W) := fun y W => eq_sym.1 y x W
  clear hRR hs2
  obtain ⟨xs, hxs⟩ : ∃ xs, xs = x.s := ⟨_, rfl⟩
  obtain ⟨xv, hxv⟩ : ∃ xv, xv = n64 x.v := ⟨_, rfl⟩
  rw [← hxs, ← hxv] at R3 HEQ hW1 ⊢
  clear hxs hxv
  go_enter Tryz.func64, Tryz.ntmps64
  go_wp2
  try rw [hW1]
  clear hW1
  go_loopw [5] (fun i wr => ∃ k : Nat, k ≤ N.length ∧ i = .int .i64 k ∧ Hid (Below W1.heap.size W1 wr) ∧ Hid (∀ j, j < k → eqS x (sy N j) = false)) (fun i _ => N.length - (intOf i).toNat)
  case atStart => exact ⟨0, Nat.zero_le _, rfl, Below.refl _ _, fun j h => by omega⟩
  case round =>
    obtain ⟨k, hk, rfl, HW, HN⟩ := hrel
    by_cases hlt : k < N.length
    · have hltI : (k : Int) < (N.length : Int) := by omega
      have HLT := Hid.mkI hlt
      obtain ⟨g, off, rfl, hcl⟩ := HS.out wr HW.out (by intro e; rw [e] at hlt; exact absurd hlt (Nat.not_lt_zero _))
      obtain ⟨c0, c1⟩ := hcl k hlt
      have rr := (HW.out.block w.heap.size (heap_lt R3.out)).trans R3.out
      have d0 := cell_of_row wr w.heap.size 0 _ _ _ rr
      have d1 := cell_of_row wr w.heap.size 1 _ _ _ rr
      have heq := HEQ.out (sy N k)
      have hsy := eqS_symm x (sy N k)
      have heg := eqG_sym
      clear hcl rr hlt
      cases hb : eqS (sy N k) x with
      | true =>
        rw [hb] at heq
        have HE : Hid (RR = true) := by unfold Hid; rw [HR.out]; exact any_at HLT.out (by rw [hsy]; exact hb)
        clear hb hsy
        generalize (sy N k).s = ys at *
        generalize n64 (sy N k).v = yv at *
        go_upto_region 4 with fail
        go_quiet (fail)
        go_wp2
        go_ret
        exact ⟨by rw [HE.out]; rfl, HBL.out.trans ((below_drewX HW.out _).mono HBL.out.size)⟩
      | false =>
        rw [hb] at heq
        have HN2 : Hid (∀ j, j < k + 1 → eqS x (sy N j) = false) := fun j hj => by
          by_cases e : j = k
          · rw [e, hsy]; exact hb
          · exact HN.out j (by omega)
        clear hb hsy
        generalize (sy N k).s = ys at *
        generalize n64 (sy N k).v = yv at *
        go_upto_region 4 with fail
        go_quiet (fail)
        go_wp2
        go_roundw
        case rel => exact ⟨k + 1, HLT.out, by go_num, below_drewX HW.out _, HN2⟩
        case measure => simp [intOf]; omega
    · obtain rfl : k = N.length := by omega
      have HE : Hid (RR = false) := by unfold Hid; rw [HR.out]; exact any_upto HN.out
      go_wp2
      go_ret
      exact ⟨by rw [HE.out]; rfl, HBL.out.trans (HW.out.mono HBL.out.size)⟩
theorem size_flt : (Tryz.prog.info? 46).map (·.size) = some 3 := by kernel_rfl
theorem told_c (x y : Int) (w : World) : Calls Tryz.prog 31 #[.agg #[.int .i64 x, .int .i64 y]] w fun e w' => e = .returned (.agg #[.int .i64 0, .int .i64 x, .int .i64 y]) ∧ Below w.heap.size w w' := by
  have HB : Hid (Below w.heap.size w ((w.alloc (.cells #[.int .i64 x, .int .i64 y] 70)).alloc (.cells #[.int .i64 0, .int .i64 0, .int .i64 0] 46))) := ((Below.refl _ _).alloc (Nat.le_refl _) _).alloc (by simp) _
  have R0 : Hid (((w.alloc (.cells #[.int .i64 x, .int .i64 y] 70)).alloc (.cells #[.int .i64 0, .int .i64 0, .int .i64 0] 46)).heap[w.heap.size]? = some (.cells #[.int .i64 x, .int .i64 y] 70 (0, 0))) := heap_alloc2_old w _ _
  have R1 : Hid (((w.alloc (.cells #[.int .i64 x, .int .i64 y] 70)).alloc (.cells #[.int .i64 0, .int .i64 0, .int .i64 0] 46)).heap[w.heap.size + 1]? = some (.cells #[.int .i64 0, .int .i64 0, .int .i64 0] 46 (0, 0))) := heap_alloc2_new w _ _
  go_enter Tryz.func31, Tryz.ntmps31
  go_upto_region 1 with fail
  generalize (w.alloc (.cells #[.int .i64 x, .int .i64 y] 70)).alloc (.cells #[.int .i64 0, .int .i64 0, .int .i64 0] 46) = W1 at *
  have a0 := cell_of_row W1 w.heap.size 0 _ _ _ R0.out
  have a1 := cell_of_row W1 w.heap.size 1 _ _ _ R0.out
  have b0 := cell_of_row W1 (w.heap.size + 1) 0 _ _ _ R1.out
  have b1 := cell_of_row W1 (w.heap.size + 1) 1 _ _ _ R1.out
  have b2 := cell_of_row W1 (w.heap.size + 1) 2 _ _ _ R1.out
  have f0 := frozen_of_row W1 (w.heap.size + 1) 0 _ _ R1.out
  have f1 := frozen_of_row W1 (w.heap.size + 1) 1 _ _ R1.out
  have f2 := frozen_of_row W1 (w.heap.size + 1) 2 _ _ R1.out
  go_wp2
  refine bodyPost_ret (v := .agg #[.int .i64 0, .int .i64 x, .int .i64 y]) (results_cell_row Tryz.results31 _ _ (w.heap.size + 1) 46 _ (0, 0) _ (by rfl) (set3_at R1.out _ _ _) Tryz.underlying46 (by rfl) size_flt) rfl ⟨rfl, below_set3 HB.out (by omega) _ _ _⟩
end Go.Proofs.YtheeogbmljjbdaaGreatDoor
