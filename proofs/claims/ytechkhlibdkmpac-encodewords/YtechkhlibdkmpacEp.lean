/-
  longForms: the walk.
-/
import Derived.Test.YtechkhlibdkmpacEo
namespace Go.Proofs.Ytechkhlibdkmpac
set_option linter.unusedVariables false
open Go.ChangeShapes Go.WideShapes Go.ChangeAt Go.RowKit Go.Deep
theorem Mp.later {T : List (Int × Int × Nat)} {b n : Nat} {w w' : World} (h : Mp T b n w) (hb : Below w.heap.size w w') : Mp T b n w' := by
  obtain ⟨D, ⟨es, ck, h1, h2⟩, hl⟩ := h
  exact ⟨D, ⟨es, ck, (hb.block _ (Array.getElem?_eq_some_iff.1 h1).1).trans h1, h2⟩, hl⟩
theorem LL_ok : ∀ L ∈ LL, L.length ≤ 6 ∧ ∀ x ∈ L, x.ops.length ≤ 29 ∧ (0 ≤ x.pl ∧ x.pl ≤ 27) ∧ (0 ≤ x.bits ∧ x.bits ≤ 4294967295) ∧ ∀ o ∈ x.ops, 0 ≤ o ∧ o ≤ 96 := by decide
theorem Fys.form {w : World} {v : Value} {L : List Fy} (h : Fys w v L) : ∃ a n c, v = .slice a n c := by
  obtain ⟨g, C, G, h1, _⟩ := h
  exact ⟨_, _, _, h1⟩
theorem famSize : (Try.prog.info? 69).map (·.size) = some 4 := by kernel_rfl
theorem famOne (a b : Int) (f : Nat) (c : Option Addr) (n m : Nat) : (#[Value.int .u32 a, Value.int .i64 b, Value.func (.func f) #[] #[], Value.slice c n m] : Array Value).all (·.oneCell') = true := by simp [Value.oneCell']
structure Lg (w0 : World) (gA : Nat) (V : Nat → Value) (T : List (Int × Int × Nat)) (bm n gf gp : Nat) (x : Fy) (w : World) : Prop where
  l : Lf w0 gA V T bm n w
  rf : w.heap[gf]? = some (.cells #[.int .u32 x.bits, .int .i64 x.pl, fv x.fn, .slice (some ⟨gp, 0, none⟩) x.ops.length x.ops.length] 69 (0, 0))
  rp : w.heap[gp]? = some (.cells (iv x.ops) 3 (0, 0))
theorem Lg.put {w0 w w' : World} {gA bm n gf gp : Nat} {V : Nat → Value} {T T' : List (Int × Int × Nat)} {x : Fy} (h : Lg w0 gA V T bm n gf gp x w) (hm : Mp T' bm (n + 1) w') (hg : w.grownBy w' (some bm)) : Lg w0 gA V T' bm (n + 1) gf gp x w' :=
  ⟨h.l.put hm hg, cells_kept hg h.l.m.row _ _ _ h.rf, cells_kept hg h.l.m.row _ _ _ h.rp⟩
theorem mkMap (w : World) : (Instr.makeMap 49 (some (.int .i64 97))).run Try.prog w = .ok (.map (some w.heap.size)) (w.alloc (.map #[] 0)) := by first | rfl | kernel_rfl | simp [Instr.makeMap]
set_option maxRecDepth 100000 in
set_option maxHeartbeats 8000000 in
theorem longForms_c (w : World) : Calls Try.prog 17 #[] w fun e w' => ∃ b n, e = .returned (.map (some b)) ∧ Mp TB b n w' ∧ Below w.heap.size w w' := by
  obtain ⟨W0, hW0⟩ : ∃ W0, w.alloc (.map #[] 0) = W0 := ⟨_, rfl⟩
  have H0 : Hid (Mp [] w.heap.size 0 W0 ∧ Below w.heap.size w W0) := by rw [← hW0]; exact ⟨Mp.made w, below_al w _⟩
  have hmm : ∀ w, (Instr.makeMap 49 (some (.int .i64 97))).run Try.prog w = .ok (.map (some w.heap.size)) (w.alloc (.map #[] 0)) := mkMap
  go_enter Try.func17, Try.ntmps17
  go_upto_region 2 with fail
  clear hW0
  --@CUT1
  go_upto_region 3 with (first | (go_at_call 24; refine (fys_jumps _).mono ?_; rintro e w1 ⟨v0, rfl, hf, hb⟩; obtain ⟨a0, n0, c0, rfl⟩ := hf.form; have HF0 : Hid (Fys w1 (.slice a0 n0 c0) L_jumps) := hf; have HB1 : Hid (Below W0.heap.size W0 w1) := hb; clear hf hb) | (go_at_call 25; refine (fys_memory _).mono ?_; rintro e w2 ⟨v1, rfl, hf, hb⟩; obtain ⟨a1, n1, c1, rfl⟩ := hf.form; have HF1 : Hid (Fys w2 (.slice a1 n1 c1) L_memory) := hf; have HB2 : Hid (Below w1.heap.size w1 w2) := hb; clear hf hb) | (go_at_call 26; refine (fys_immediates _).mono ?_; rintro e w3 ⟨v2, rfl, hf, hb⟩; obtain ⟨a2, n2, c2, rfl⟩ := hf.form; have HF2 : Hid (Fys w3 (.slice a2 n2 c2) L_immediates) := hf; have HB3 : Hid (Below w2.heap.size w2 w3) := hb; clear hf hb) | (go_at_call 27; refine (fys_registers _).mono ?_; rintro e w4 ⟨v3, rfl, hf, hb⟩; obtain ⟨a3, n3, c3, rfl⟩ := hf.form; have HF3 : Hid (Fys w4 (.slice a3 n3 c3) L_registers) := hf; have HB4 : Hid (Below w3.heap.size w3 w4) := hb; clear hf hb) | (go_at_call 28; refine (fys_systems _).mono ?_; rintro e w5 ⟨v4, rfl, hf, hb⟩; obtain ⟨a4, n4, c4, rfl⟩ := hf.form; have HF4 : Hid (Fys w5 (.slice a4 n4 c4) L_systems) := hf; have HB5 : Hid (Below w4.heap.size w4 w5) := hb; clear hf hb) | (go_at_call 29; refine (fys_atomics _).mono ?_; rintro e w6 ⟨v5, rfl, hf, hb⟩; obtain ⟨a5, n5, c5, rfl⟩ := hf.form; have HF5 : Hid (Fys w6 (.slice a5 n5 c5) L_atomics) := hf; have HB6 : Hid (Below w5.heap.size w5 w6) := hb; clear hf hb))
  --@CUT2
  obtain ⟨V, hV0, hV1, hV2, hV3, hV4, hV5⟩ : ∃ V : Nat → Value, V 0 = (.slice a0 n0 c0) ∧ V 1 = (.slice a1 n1 c1) ∧ V 2 = (.slice a2 n2 c2) ∧ V 3 = (.slice a3 n3 c3) ∧ V 4 = (.slice a4 n4 c4) ∧ V 5 = (.slice a5 n5 c5) := ⟨fun i => [(.slice a0 n0 c0), (.slice a1 n1 c1), (.slice a2 n2 c2), (.slice a3 n3 c3), (.slice a4 n4 c4), (.slice a5 n5 c5)].getD i (.slice a0 n0 c0), rfl, rfl, rfl, rfl, rfl, rfl⟩
  obtain ⟨W, hW⟩ : ∃ W, w6.alloc (.cells #[.slice a0 n0 c0, .slice a1 n1 c1, .slice a2 n2 c2, .slice a3 n3 c3, .slice a4 n4 c4, .slice a5 n5 c5] 64) = W := ⟨_, rfl⟩
  have d6 : Below w6.heap.size w6 W := by rw [← hW]; exact below_al w6 _
  have d5 : Below w5.heap.size w5 W := HB6.out.trans (d6.mono HB6.out.size)
  have d4 : Below w4.heap.size w4 W := HB5.out.trans (d5.mono HB5.out.size)
  have d3 : Below w3.heap.size w3 W := HB4.out.trans (d4.mono HB4.out.size)
  have d2 : Below w2.heap.size w2 W := HB3.out.trans (d3.mono HB3.out.size)
  have d1 : Below w1.heap.size w1 W := HB2.out.trans (d2.mono HB2.out.size)
  have d0 : Below W0.heap.size W0 W := HB1.out.trans (d1.mono HB1.out.size)
  have HL : Hid (Lf w w6.heap.size V (ouN 0) w.heap.size 0 W) := by
    refine ⟨H0.out.1.later d0, ?_, fun i L hi => ?_, H0.out.2.trans (d0.mono H0.out.2.size), Nat.le_refl _, Nat.le_trans H0.out.2.size d0.size⟩
    · rw [← hW, hV0, hV1, hV2, hV3, hV4, hV5]; exact heap_alloc_new w6 _
    · match i, hi with
      | 0, hi => cases hi; rw [hV0]; exact Fys.later HF0.out d1
      | 1, hi => cases hi; rw [hV1]; exact Fys.later HF1.out d2
      | 2, hi => cases hi; rw [hV2]; exact Fys.later HF2.out d3
      | 3, hi => cases hi; rw [hV3]; exact Fys.later HF3.out d4
      | 4, hi => cases hi; rw [hV4]; exact Fys.later HF4.out d5
      | 5, hi => cases hi; rw [hV5]; exact Fys.later HF5.out d6
      | i + 6, hi => simp [LL] at hi
  rw [hW]
  obtain ⟨gA, hgA⟩ : ∃ gA, gA = w6.heap.size := ⟨_, rfl⟩
  obtain ⟨bm, hbm⟩ : ∃ bm, bm = w.heap.size := ⟨_, rfl⟩
  rw [← hgA, ← hbm] at HL
  rw [← hgA, ← hbm]
  clear hW d0 d1 d2 d3 d4 d5 d6 HB1 HB2 HB3 HB4 HB5 HB6 HF0 HF1 HF2 HF3 HF4 HF5 H0 hgA hbm hV0 hV1 hV2 hV3 hV4 hV5
  --@CUT3
  go_loopw [17] (fun i wr => ∃ (q n : Nat), q ≤ 6 ∧ i = .int .i64 q ∧ n ≤ 200 * q ∧ Hid (Lf w gA V (ouN q) bm n wr)) (fun i _ => 6 - (intOf i).toNat)
  case atStart => exact ⟨0, 0, by omega, rfl, by omega, HL⟩
  case round =>
    obtain ⟨q, n, hq, rfl, hn, hst⟩ := hrel
    clear HL
    by_cases hlt : q < 6
    · have hlt2 : (q : Int) < 6 := by omega
      obtain ⟨L, hL⟩ : ∃ L, LL[q]? = some L := ⟨LL[q]'hlt, List.getElem?_eq_getElem hlt⟩
      have HLL : Hid (LL[q]? = some L) := hL
      have hLk := LL_ok L (List.mem_of_getElem? hL)
      have HO : Hid (ouN (q + 1) = miN L (ouN q) L.length) := by unfold Hid; show (match LL[q]? with | some L => miN L (ouN q) L.length | none => ouN q) = _; rw [hL]
      obtain ⟨g, C, G, hv, _, _⟩ := hst.out.f q L hL
      have hce : wr.cell? ⟨gA, q, none⟩ = some (.slice (some ⟨g, 0, none⟩) L.length L.length) := by
        rw [cell_of_row wr gA q _ _ _ hst.out.r, ← hv]
        match q, hlt with
        | 0, _ => rfl
        | 1, _ => rfl
        | 2, _ => rfl
        | 3, _ => rfl
        | 4, _ => rfl
        | 5, _ => rfl
      have HV : Hid (V q = .slice (some ⟨g, 0, none⟩) L.length L.length) := hv
      have hl6 : L.length ≤ 6 := hLk.1
      have HLK : Hid (∀ x ∈ L, x.ops.length ≤ 29 ∧ (0 ≤ x.pl ∧ x.pl ≤ 27) ∧ (0 ≤ x.bits ∧ x.bits ≤ 4294967295) ∧ ∀ o ∈ x.ops, 0 ≤ o ∧ o ≤ 96) := hLk.2
      clear hL hLk hv
      go_upto_region 6 with fail
      --@CUT4
      go_loopw [23] (fun j wr => ∃ (p n : Nat), p ≤ L.length ∧ j = .int .i64 p ∧ n ≤ 200 * q + 30 * p ∧ Hid (Lf w gA V (miN L (ouN q) p) bm n wr)) (fun j _ => L.length - (intOf j).toNat)
      case atStart => exact ⟨0, n, by omega, rfl, by omega, hst⟩
      case round =>
        obtain ⟨p, n2, hp, rfl, hn2, hst2⟩ := hrel
        clear hst hce
        by_cases hltp : p < L.length
        · have hltp2 : (p : Int) < (L.length : Int) := by omega
          obtain ⟨x, hx⟩ : ∃ x, L[p]? = some x := ⟨L[p]'hltp, List.getElem?_eq_getElem hltp⟩
          have hxk := HLK.out x (List.mem_of_getElem? hx)
          have HM : Hid (miN L (ouN q) (p + 1) = inN x (miN L (ouN q) p) x.ops.length) := by unfold Hid; show (match L[p]? with | some x => inN x (miN L (ouN q) p) x.ops.length | none => miN L (ouN q) p) = _; rw [hx]
          obtain ⟨g', C, G, hv, hrow, hcs⟩ := hst2.out.f q L HLL.out
          rw [HV.out] at hv
          injection hv with hv1
          injection hv1 with hv2
          injection hv2 with hv3
          subst hv3
          obtain ⟨hG, k0, k1, k2, k3⟩ := hcs p x hx
          obtain ⟨gp, hgp⟩ : ∃ gp, gp = G p := ⟨_, rfl⟩
          rw [← hgp] at hG k3
          have e0 : wr.cell? ⟨g, p * 4, none⟩ = some (.int .u32 x.bits) := (cell_of_row wr g _ _ _ _ hrow).trans k0
          have e1 : wr.cell? ⟨g, p * 4 + 1, none⟩ = some (.int .i64 x.pl) := (cell_of_row wr g _ _ _ _ hrow).trans k1
          have e2 : wr.cell? ⟨g, p * 4 + 2, none⟩ = some (fv x.fn) := (cell_of_row wr g _ _ _ _ hrow).trans k2
          have e3 : wr.cell? ⟨g, p * 4 + 3, none⟩ = some (.slice (some ⟨gp, 0, none⟩) x.ops.length x.ops.length) := (cell_of_row wr g _ _ _ _ hrow).trans k3
          have HGP : Hid (wr.heap[gp]? = some (.cells (iv x.ops) 3 (0, 0))) := hG
          clear hG k0 k1 k2 k3 hrow hcs hgp hx
          unfold fv at e2
          go_upto_region 8 with (refine wpList_store_new (w := wr) (by rfl) 69 _ _ (by rfl) (by rfl) #[.int .u32 0, .int .i64 0, .nilFunc, .slice none 0 0] #[.int .u32 x.bits, .int .i64 x.pl, .func (.func x.fn) #[] #[], .slice (some ⟨gp, 0, none⟩) x.ops.length x.ops.length] (by rfl) (by rfl) famSize (by rfl) (famOne _ _ _ _ _ _) ?_)
          --@CUT5
          obtain ⟨W1, hW1⟩ : ∃ W1, wr.alloc (.cells #[.int .u32 x.bits, .int .i64 x.pl, fv x.fn, .slice (some ⟨gp, 0, none⟩) x.ops.length x.ops.length] 69) = W1 := ⟨_, rfl⟩
          have HG1 : Hid (Lg w gA V (inN x (miN L (ouN q) p) 0) bm n2 wr.heap.size gp x W1) := by rw [← hW1]; exact ⟨hst2.out.alloc _, heap_alloc_new wr _, ((below_al wr _).block _ (Array.getElem?_eq_some_iff.1 HGP.out).1).trans HGP.out⟩
          unfold fv at hW1
          rw [hW1]
          obtain ⟨gf, hgf⟩ : ∃ gf, gf = wr.heap.size := ⟨_, rfl⟩
          rw [← hgf] at HG1 ⊢
          clear hgf hW1 e0 e1 e2 e3 HGP hst2
          have s3 : W1.cell? ⟨gf, 3, none⟩ = some (.slice (some ⟨gp, 0, none⟩) x.ops.length x.ops.length) := cell_of_row W1 _ 3 _ _ _ HG1.out.rf
          have hx29 := hxk.1
          have hpl := hxk.2.1
          have hbt := hxk.2.2.1
          have HOP : Hid (∀ o ∈ x.ops, 0 ≤ o ∧ o ≤ 96) := hxk.2.2.2
          clear hxk
          go_upto_region 9 with fail
          clear s3
          --@CUT6
          go_loopw [30] (fun k wr => ∃ (s n : Nat), s ≤ x.ops.length ∧ k = .int .i64 s ∧ n ≤ 200 * q + 30 * p + s ∧ Hid (Lg w gA V (inN x (miN L (ouN q) p) s) bm n gf gp x wr)) (fun k _ => x.ops.length - (intOf k).toNat)
          case atStart => exact ⟨0, n2, by omega, rfl, by omega, HG1⟩
          case round =>
            obtain ⟨s, n3, hs, rfl, hn3, hg3⟩ := hrel
            clear HG1
            by_cases hlts : s < x.ops.length
            · have hlts2 : (s : Int) < (x.ops.length : Int) := by omega
              have hce : wr.cell? ⟨gp, s, none⟩ = some (.int .i64 (x.ops.getD s 0)) := by rw [cell_of_row wr gp s _ _ _ hg3.out.rp]; exact iv_get hlts
              have hzb : 0 ≤ x.ops.getD s 0 ∧ x.ops.getD s 0 ≤ 96 := HOP.out _ (by simp [hlts])
              have HI : Hid (inN x (miN L (ouN q) p) (s + 1) = if x.ops.getD s 0 = 0 then inN x (miN L (ouN q) p) s else (x.ops.getD s 0, eb x s, x.fn) :: inN x (miN L (ouN q) p) s) := rfl
              generalize x.ops.getD s 0 = z at hce hzb HI
              by_cases hz : z = 0
              · have hz0 : (z != 0) = false := by simp [hz]
                have HN : Hid (Lg w gA V (inN x (miN L (ouN q) p) (s + 1)) bm n3 gf gp x wr) := by unfold Hid; rw [HI.out, if_pos hz]; exact hg3.out
                clear hz HI
                --@CUT7
                go_wp2
                go_roundw
                all_goals first | exact ⟨s + 1, n3, by omega, by go_num, by omega, HN⟩ | (simp [intOf] <;> omega)
              · have hz0 : (z != 0) = true := by simpa using hz
                have f0 : wr.cell? ⟨gf, 0, none⟩ = some (.int .u32 x.bits) := cell_of_row wr _ 0 _ _ _ hg3.out.rf
                have f1 : wr.cell? ⟨gf, 1, none⟩ = some (.int .i64 x.pl) := cell_of_row wr _ 1 _ _ _ hg3.out.rf
                have f2 : wr.cell? ⟨gf, 2, none⟩ = some (fv x.fn) := cell_of_row wr _ 2 _ _ _ hg3.out.rf
                unfold fv at f2
                obtain ⟨w8, hrun, hm8, hg8⟩ := Mp.update (w := wr.drew) hg3.out.l.m (by omega) z (eb x s) x.fn (WalkArith.wf_i64 (by omega))
                have HN : Hid (Lg w gA V (inN x (miN L (ouN q) p) (s + 1)) bm (n3 + 1) gf gp x w8) := by unfold Hid; rw [HI.out, if_neg hz]; exact Lg.put (w := wr.drew) ⟨⟨hg3.out.l.m, hg3.out.l.r, hg3.out.l.f, Below.drew hg3.out.l.be, hg3.out.l.lb, hg3.out.l.le⟩, hg3.out.rf, hg3.out.rp⟩ hm8 hg8
                clear hz HI hm8 hg8
                unfold eb fv at hrun
                go_upto_region 12 with fail
                --@CUT8
                go_region
                all_goals go_wp2
                all_goals go_roundw
                all_goals first | exact ⟨s + 1, n3 + 1, by omega, by go_num, by omega, HN⟩ | (simp [intOf] <;> omega)
            · obtain rfl : s = x.ops.length := by omega
              have hnl : ¬ (x.ops.length : Int) < (x.ops.length : Int) := by omega
              have HN : Hid (Lf w gA V (miN L (ouN q) (p + 1)) bm n3 wr) := by unfold Hid; rw [HM.out]; exact hg3.out.l
              clear hg3
              go_wp2
              go_roundw
              all_goals first | exact ⟨p + 1, n3, by omega, by go_num, by omega, HN⟩ | (simp [intOf] <;> omega)
        · obtain rfl : p = L.length := by omega
          have hnl : ¬ (L.length : Int) < (L.length : Int) := by omega
          have HN : Hid (Lf w gA V (ouN (q + 1)) bm n2 wr) := by unfold Hid; rw [HO.out]; exact hst2.out
          clear hst2
          go_wp2
          go_roundw
          all_goals first | exact ⟨q + 1, n2, by omega, by go_num, by omega, HN⟩ | (simp [intOf] <;> omega)
    · obtain rfl : q = 6 := by omega
      rw [show ((6 : Nat) : Int) = (6 : Int) from rfl]
      go_wp2
      go_ret
      exact ⟨bm, n, rfl, hst.out.m, hst.out.be⟩
end Go.Proofs.Ytechkhlibdkmpac
