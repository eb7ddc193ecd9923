/-
  Dt.
-/
import Derived.Test.YthmjimmmkoeeoaaDoorM29
namespace Go.Proofs.YthmjimmmkoeeoaaDoor
set_option linter.unusedVariables false
set_option maxRecDepth 100000
open Go.ChangeShapes Go.WideShapes Go.ChangeAt Go.RowKit Go.Deep Go.Shelf
theorem cpuU_cnt (k : Cp) (n : Nat) : (cpuU k n).length ≤ n := by
  induction n with
  | zero => simp [cpuU_zero]
  | succ n ih => rw [cpuU_succ, List.length_append]; unfold oneL; split <;> simp <;> omega
theorem cpu_3 (k : Cp) : cpuU k 3 = [pcT k] ++ [mdT k] ++ oneL (wtT k) := by
  rw [cpuU_succ, cpuU_succ, cpuU_succ, cpuU_zero]
  show [] ++ oneL (pcT k) ++ oneL (mdT k) ++ oneL (wtT k) = _
  rw [oneL_some, oneL_some]
  · rfl
  · unfold mdT; rw [jw_cons, jw_one]; simp
  · unfold pcT; rw [jw_cons, jw_one]; simp
theorem cpu_r (k : Cp) (n : Nat) (h : n < 32) : cpuU k (3 + (n + 1)) = cpuU k (3 + n) ++ oneL (rgT k n) := by
  rw [show 3 + (n + 1) = (3 + n) + 1 by omega, cpuU_succ]; congr 2
  unfold cpuT; rw [if_neg (by omega), if_neg (by omega), if_neg (by omega), if_pos (by omega), Nat.add_sub_cancel_left]
theorem cpu_s (k : Cp) (n : Nat) (h : n < 12) : cpuU k (35 + (n + 1)) = cpuU k (35 + n) ++ oneL (csT k n) := by
  rw [show 35 + (n + 1) = (35 + n) + 1 by omega, cpuU_succ]; congr 2
  unfold cpuT; rw [if_neg (by omega), if_neg (by omega), if_neg (by omega), if_neg (by omega), if_pos (by omega), Nat.add_sub_cancel_left]
theorem cpu_e (k : Cp) (n : Nat) (h : n < 16) : cpuU k (47 + (n + 1)) = cpuU k (47 + n) ++ oneL (enT k n) := by
  rw [show 47 + (n + 1) = (47 + n) + 1 by omega, cpuU_succ]; congr 2
  unfold cpuT; rw [if_neg (by omega), if_neg (by omega), if_neg (by omega), if_neg (by omega), if_neg (by omega), if_pos (by omega), Nat.add_sub_cancel_left]
theorem cpu_z (k : Cp) : cpuLs k = cpuU k 63 ++ oneL (rsT k) := by
  unfold cpuLs; rw [cpuU_succ]; rfl
theorem bs1e (w : World) {S : ByteArray} {a : Tx} (h : S = tS a) : ∀ (j : Nat) (x : Tx), [a][j]? = some x → (w.alloc (.cells #[.string S] 9)).cell? ⟨w.heap.size, 0 + j, none⟩ = some (.string (tS x)) := by subst h; exact bs1 w a
theorem jw_ne (a b : Tx) (r : List Tx) : jw (a :: b :: r) ≠ [] := by rw [jw_cons]; simp
theorem Row.rcl {w : World} {g : Nat} {k : Cp} {t : TypeId} (h : Row w g (cpc k) t) : w.cell? ⟨g, 0, none⟩ = some (.int .u64 (n64 k.pc)) ∧ w.cell? ⟨g, 33, none⟩ = some (.int .i64 k.md) ∧ w.cell? ⟨g, 34, none⟩ = some (.bool k.wt) ∧ w.cell? ⟨g, 79, none⟩ = some (.bool k.rv) ∧ w.cell? ⟨g, 80, none⟩ = some (.int .u64 (n64 k.ra)) ∧ w.cell? ⟨g, 81, none⟩ = some (.int .i64 k.rs) := ⟨h.cls.pc, h.cls.md, h.cls.wt, h.cls.rv, h.cls.ra, h.cls.rs⟩
set_option maxHeartbeats 16000000 in
theorem rcpu_c (k : Cp) (hx : k.x 0 = 0#64) (hr : 0 ≤ k.rs ∧ k.rs < 1000) (w : World) (hT : Rt w) : Calls Tryd.prog 13 #[.agg (cpc k)] w fun e w' => ∃ u, e = .returned u ∧ w'.ownsRow w.heap.size 9 1 u (cpuLs k).length (stv (cpuLs k)) ∧ Below w.heap.size w w' := by
  obtain ⟨W0, hW0, r0, b0, s0⟩ := start1 w (cpc k) 31
  have hls : w.heap.size < W0.heap.size := by omega
  have HR : Hid (∀ w', Below W0.heap.size W0 w' → Row w' w.heap.size (cpc k) 31) := fun w' hb => r0.out.later hb hls
  have HT : Hid (∀ w', Below W0.heap.size W0 w' → Rt w') := fun w' hb => (hT.next b0.out).next hb
  have HO : Hid (W0.ownsRow W0.heap.size 9 1 (.slice none 0 0) ([] : List Tx).length (stv [])) := own_nilW _ _
  have HX : Hid (k.x 0 = 0#64 ∧ 0 ≤ k.rs ∧ k.rs < 1000) := ⟨hx, hr⟩
  have HLS : Hid (w.heap.size + 1 ≤ W0.heap.size) := hls
  obtain ⟨c0, c33, c34, c79, c80, c81⟩ := r0.out.rcl
  clear hT s0 hx hr
  go_enter Tryd.func13, Tryd.ntmps13
  go_upto_region 2 with fail
  clear hW0
  obtain ⟨ln, hln⟩ : ∃ ln, ln = pcT k := ⟨_, rfl⟩
  have HLP : Hid (ln = pcT k) := hln
  have HLN : Hid (ln = [112, 99, 32] ++ hxT k.pc) := by unfold Hid; rw [hln]; unfold pcT; rw [jw_cons, jw_one]; rfl
  clear hln
  have hs0 : (tS (hxT k.pc)).size ≤ 200 := by rw [tS_size]; have := hxT_len k.pc; omega
  have HEQ : Hid (((⟨#[112, 99, 32]⟩ : ByteArray) ++ tS (hxT k.pc)) = tS ln) := by unfold Hid; rw [HLN.out]; simp only [← tS_append]; rfl
  have HHX : Hid (∀ w', Calls Tryd.prog 12 #[.int .u64 (n64 k.pc)] w' fun e w'' => e = .returned (.string (tS (hxT k.pc))) ∧ Below w'.heap.size w' w'') := fun w' => rhx_c _ w'
  go_upto_region 3 with (first
    | (go_at_call 12; refine (HHX.out _).mono ?_; rintro e w1 ⟨rfl, hb⟩; have HB1 : Hid (Below W0.heap.size W0 w1) := hb; have HO1 : Hid (w1.ownsRow W0.heap.size 9 1 (.slice none 0 0) ([] : List Tx).length (stv [])) := ownW_later HO.out hb; clear hb)
    | (at_builtin; refine appW (by rfl) _ _ (by rfl) W0.heap.size _ ([] : List Tx) (by rfl) (ownW_al HO1.out _) [ln] _ 0 1 (by rfl) (bs1e _ HEQ.out) (by simp) (by have := HB1.out.size; simp; omega) ?_; intro v2 w2 h1 h2 h3; have HO_w2 : Hid (w2.ownsRow W0.heap.size 9 1 v2 (([] : List Tx) ++ [ln]).length (stv (([] : List Tx) ++ [ln]))) := h1; have HB_w2 : Hid (Below W0.heap.size W0 w2) := ((HB1.out).alloc (HB1.out).size _).trans h2; clear h1 h2 h3))
  rw [HLP.out, List.nil_append] at HO_w2
  clear HEQ hs0 HLN HLP HHX HO1 HB1
  obtain ⟨c0, c33, c34, c79, c80, c81⟩ := (HR.out w2 HB_w2.out).rcl
  --@M1
  go_upto_if 19 with fail
  go_cut [3] from 18 to 25 (fun v wx => Hid (wx.ownsRow W0.heap.size 9 1 v ([pcT k] ++ [mdT k]).length (stv ([pcT k] ++ [mdT k]))) ∧ Hid (Below W0.heap.size W0 wx))
  case first =>
    by_cases hm : k.md = 3
    · have hmd : Hid (mdT k = [109, 111, 100, 101, 32, 109]) := by unfold Hid mdT; rw [if_pos hm]; rfl
      rw [hm] at c33
      go_wp2_with (at_builtin; refine appW (by rfl) _ _ (by rfl) W0.heap.size _ [pcT k] (by rfl) (ownW_al HO_w2.out _) [[109, 111, 100, 101, 32, 109]] _ 0 1 (by rfl) (bs1 _ [109, 111, 100, 101, 32, 109]) (by simp) (by have := HB_w2.out.size; simp; omega) ?_; intro v3 w3 h1 h2 h3; have HO_w3 : Hid (w3.ownsRow W0.heap.size 9 1 v3 ([pcT k] ++ [[109, 111, 100, 101, 32, 109]]).length (stv ([pcT k] ++ [[109, 111, 100, 101, 32, 109]]))) := h1; have HB_w3 : Hid (Below W0.heap.size W0 w3) := ((HB_w2.out).alloc (HB_w2.out).size _).trans h2; clear h1 h2 h3)
      go_meet
      exact ⟨by rw [hmd.out]; exact HO_w3, HB_w3⟩
    · have hmd : Hid (mdT k = [109, 111, 100, 101, 32, 117]) := by unfold Hid mdT; rw [if_neg hm]; rfl
      have hmb : (k.md == 3) = false := by simpa using hm
      go_wp2_with (at_builtin; refine appW (by rfl) _ _ (by rfl) W0.heap.size _ [pcT k] (by rfl) (ownW_al HO_w2.out _) [[109, 111, 100, 101, 32, 117]] _ 0 1 (by rfl) (bs1 _ [109, 111, 100, 101, 32, 117]) (by simp) (by have := HB_w2.out.size; simp; omega) ?_; intro v3 w3 h1 h2 h3; have HO_w3 : Hid (w3.ownsRow W0.heap.size 9 1 v3 ([pcT k] ++ [[109, 111, 100, 101, 32, 117]]).length (stv ([pcT k] ++ [[109, 111, 100, 101, 32, 117]]))) := h1; have HB_w3 : Hid (Below W0.heap.size W0 w3) := ((HB_w2.out).alloc (HB_w2.out).size _).trans h2; clear h1 h2 h3)
      go_meet
      exact ⟨by rw [hmd.out]; exact HO_w3, HB_w3⟩
  case rest =>
    obtain ⟨HO3, HB3⟩ := hcut
    clear HO_w2 HB_w2 c0 c33 c34 c79 c80 c81
    obtain ⟨c0, c33, c34, c79, c80, c81⟩ := (HR.out wc HB3.out).rcl
    --@M2
    go_upto_if 27 with fail
    rename World => w3
    go_cut [3] from 27 to 30 (fun v wx => Hid (wx.ownsRow W0.heap.size 9 1 v (cpuU k 3).length (stv (cpuU k 3))) ∧ Hid (Below W0.heap.size W0 wx))
    case first =>
      cases hw : k.wt
      · have hwt : Hid (cpuU k 3 = [pcT k] ++ [mdT k]) := by unfold Hid; rw [cpu_3]; unfold wtT; rw [hw]; simp [oneL]
        rw [hw] at c34
        go_wp2
        go_meet
        exact ⟨by rw [hwt.out]; exact HO3, HB3⟩
      · have hwt : Hid (cpuU k 3 = [pcT k] ++ [mdT k] ++ [[119, 97, 105, 116, 105, 110, 103]]) := by unfold Hid; rw [cpu_3]; unfold wtT; rw [hw]; rfl
        rw [hw] at c34
        go_wp2_with (at_builtin; refine appW (by rfl) _ _ (by rfl) W0.heap.size _ ([pcT k] ++ [mdT k]) (by rfl) (ownW_al HO3.out _) [[119, 97, 105, 116, 105, 110, 103]] _ 0 1 (by rfl) (bs1 _ [119, 97, 105, 116, 105, 110, 103]) (by simp) (by have := HB3.out.size; simp; omega) ?_; intro v4 w4 h1 h2 h3; have HO_w4 : Hid (w4.ownsRow W0.heap.size 9 1 v4 (([pcT k] ++ [mdT k]) ++ [[119, 97, 105, 116, 105, 110, 103]]).length (stv (([pcT k] ++ [mdT k]) ++ [[119, 97, 105, 116, 105, 110, 103]]))) := h1; have HB_w4 : Hid (Below W0.heap.size W0 w4) := ((HB3.out).alloc (HB3.out).size _).trans h2; clear h1 h2 h3)
        go_meet
        exact ⟨by rw [hwt.out]; exact HO_w4, HB_w4⟩
    case rest =>
      obtain ⟨HO4, HB4⟩ := hcut
      clear HO3 HB3 c0 c33 c34 c79 c80 c81
      --@M3
      go_upto_region 9 with fail
      go_loopw [3, 4] (fun v i wr => ∃ n : Nat, 1 ≤ n ∧ n ≤ 32 ∧ i = .int .i64 n ∧ Hid (wr.ownsRow W0.heap.size 9 1 v (cpuU k (3 + n)).length (stv (cpuU k (3 + n)))) ∧ Hid (Below W0.heap.size W0 wr)) (fun _ i _ => 32 - (intOf i).toNat)
      case atStart => exact ⟨1, by omega, by omega, rfl, by rw [show 3 + 1 = 3 + (0 + 1) from rfl, cpu_r k 0 (by omega)]; unfold rgT; rw [if_pos HX.out.1, oneL_nil, List.append_nil]; exact HO4, HB4⟩
      case round =>
        obtain ⟨n, hn1, hn2, rfl, HOr, HBr⟩ := hrel
        clear HO4 HB4
        by_cases hlt : n < 32
        · have hltI : (n : Int) < 32 := by omega
          have HRr := HR.out wr HBr.out
          have cx := HRr.xcell n hlt
          have HSU : Hid (cpuU k (3 + (n + 1)) = cpuU k (3 + n) ++ oneL (rgT k n)) := cpu_r k n hlt
          have HCN : Hid ((cpuU k (3 + n)).length ≤ 100) := by unfold Hid; have := cpuU_cnt k (3 + n); omega
          have HNN : Hid (n < 32 ∧ 1 ≤ n) := ⟨hlt, hn1⟩
          generalize cpuU k (3 + n) = LL at HOr HSU HCN
          by_cases hz : k.x n = 0#64
          · have hv : (n64 (k.x n) == 0) = true := by rw [hz]; rfl
            have HS0 : Hid (cpuU k (3 + (n + 1)) = LL) := by unfold Hid; rw [HSU.out]; unfold rgT; rw [if_pos hz, oneL_nil, List.append_nil]
            clear hz HSU HRr
            go_wp2
            go_roundw
            case rel => exact ⟨n + 1, by omega, HNN.out.1, by go_num, by rw [HS0.out]; exact HOr, HBr⟩
            case measure => have := HNN.out; simp [intOf]; omega
          · have hv : (n64 (k.x n) == 0) = false := n64_ne (y := 0#64) hz
            obtain ⟨ln, hln⟩ : ∃ ln, ln = rgT k n := ⟨_, rfl⟩
            have HS0 : Hid (cpuU k (3 + (n + 1)) = LL ++ [ln]) := by unfold Hid; rw [HSU.out, hln, oneL_some]; unfold rgT; rw [if_neg hz]; exact jw_ne _ _ _
            have HLN : Hid (ln = [114, 101, 103, 32] ++ rgN.getD n [] ++ [32] ++ hxT (k.x n)) := by unfold Hid; rw [hln]; unfold rgT; rw [if_neg hz, jw_cons, jw_cons, jw_one]; simp
            have HLA : Hid ((rgN.getD n []).length ≤ 4) := rgN_len n hlt
            have HLB : Hid ((hxT (k.x n)).length ≤ 18) := hxT_len _
            have X1 : Hid (∀ x : Later wr, Calls Tryd.prog 30 #[.int .i64 n] x.1 fun e w'' => e = .returned (.string (tS (rgN.getD n []))) ∧ w'' = x.1) := fun x => rreg2_c n hlt x.1 (HT.out x.1 (HBr.out.trans (x.below.mono HBr.out.size)))
            have X2 : Hid (∀ x : Later wr, Calls Tryd.prog 12 #[.int .u64 (n64 (k.x n))] x.1 fun e w'' => e = .returned (.string (tS (hxT (k.x n)))) ∧ Below x.1.heap.size x.1 w'') := fun x => rhx_c _ x.1
            have hwl : w.heap.size < wr.heap.size := Nat.lt_of_lt_of_le HLS.out HBr.out.size
            have cL : ∀ x : Later wr, x.1.cell? ⟨w.heap.size, 1 + n, none⟩ = some (.int .u64 (n64 (k.x n))) := later_atD hwl cx
            clear hz HSU hln HRr
            generalize rgN.getD n [] = a at HLN HLA X1
            generalize hxT (k.x n) = b at HLN HLB X2
            have hs0 : (tS a).size ≤ 200 := by rw [tS_size]; have := HLA.out; have := HLB.out; omega
            have hs1 : (tS b).size ≤ 200 := by rw [tS_size]; have := HLA.out; have := HLB.out; omega
            have HEQ : Hid (((((⟨#[114, 101, 103, 32]⟩ : ByteArray) ++ tS a) ++ ⟨#[32]⟩) ++ tS b) = tS ln) := by unfold Hid; rw [HLN.out]; simp only [← tS_append]; rfl
            go_upto_region 12 with fail
            have := later_nonempty wr
            clear HLA HLB
            refine wp_region_later_tail1 (x0 := Later.start wr) 11 u3 (by kernel_rfl) (by kernel_rfl) (fun _ _ _ h => h) (.inl ⟨by rfl, fun w => by rfl⟩) ?_
            simp only [List.take_succ_cons, List.take_zero, List.drop_succ_cons, List.drop_zero, Act.put, List.setIfInBounds_toArray, List.set_cons_succ, List.set_cons_zero]
            repeat (go_big_quiet_step (first | (go_at_call 30; exact calls_later_same (X1.out _)) | (go_at_call 12; exact calls_later (X2.out _))))
            refine wpQuiet_nil ?_
            rintro w' ⟨x9, rfl⟩
            have HO9 : Hid (x9.1.ownsRow W0.heap.size 9 1 u3 LL.length (stv LL)) := ownW_later HOr.out x9.below
            have HB9 : Hid (Below W0.heap.size W0 x9.1) := HBr.out.trans (x9.below.mono HBr.out.size)
            generalize x9.1 = W9 at HO9 HB9 ⊢
            clear cL X1 X2 hs0 hs1 cx
            go_wp2_with (at_builtin; refine appW (by rfl) _ _ (by rfl) W0.heap.size _ LL (by rfl) (ownW_al HO9.out _) [ln] _ 0 1 (by rfl) (bs1e _ HEQ.out) (by have := HCN.out; simp; omega) (by have := HB9.out.size; simp; omega) ?_; intro v10 w10 h1 h2 h3; have HO_w10 : Hid (w10.ownsRow W0.heap.size 9 1 v10 (LL ++ [ln]).length (stv (LL ++ [ln]))) := h1; have HB_w10 : Hid (Below W0.heap.size W0 w10) := ((HB9.out).alloc (HB9.out).size _).trans h2; clear h1 h2 h3)
            go_roundw
            case rel => exact ⟨n + 1, by omega, HNN.out.1, by go_num, by rw [HS0.out]; exact HO_w10, HB_w10⟩
            case measure => have := HNN.out; simp [intOf]; omega
        · have hne : n = 32 := by omega
          subst hne
          clear hlt hn1 hn2
          rename World => w5
          have HO5 : Hid (w5.ownsRow W0.heap.size 9 1 u3 (cpuU k 35).length (stv (cpuU k 35))) := HOr
          have HB5 := HBr
          clear HOr HBr
          --@M4
          have hz := zero_cpu
          have HP : Hid (∀ w', Calls Tryd.prog 14 #[.agg (cpc cz)] w' fun e w'' => e = .returned (.agg (cpc (PR cz))) ∧ Below w'.heap.size w' w'') := fun w' => rPr_c cz w'
          go_upto_region 14 with (first
            | (go_at_call 14; refine (HP.out _).mono ?_; rintro e w6 ⟨rfl, hb⟩; have HO6 : Hid (w6.ownsRow W0.heap.size 9 1 u3 (cpuU k 35).length (stv (cpuU k 35))) := ownW_later HO5.out hb; have HB6 : Hid (Below W0.heap.size W0 w6) := HB5.out.trans (hb.mono HB5.out.size); clear hb HP)
            | (refine wpList_allocZ (by rfl) 31 (by rfl) (cpc cz) zero_cpu ?_)
            | (refine wpList_store_new (by rfl) 31 _ _ (by rfl) (by rfl) (cpc cz) (cpc (PR cz)) (by rfl) (by rfl) (info_cpu _) (by simp [cpc_size]) (cpc_ones _) ?_))
          clear hz
          obtain ⟨W7, hW7, r7, b7, s7⟩ := start1 w6 (cpc (PR cz)) 31
          rw [hW7]
          clear hW7
          go_upto_region 15 with fail
          have HO7 : Hid (W7.ownsRow W0.heap.size 9 1 u3 (cpuU k 35).length (stv (cpuU k 35))) := ownW_later HO6.out b7.out
          have HB7 : Hid (Below W0.heap.size W0 W7) := HB6.out.trans (b7.out.mono HB6.out.size)
          have HZ7 : Hid (Row W7 w6.heap.size (cpc (PR cz)) 31) := r7.out
          clear HO5 HB5 HO6 HB6 r7 b7 s7
          generalize w6.heap.size = gz at *
          --@M5
          go_loopw [3, 6, 7, 8] (fun v i _ _ wr => ∃ n : Nat, n ≤ 12 ∧ i = .int .i64 n ∧ Hid (wr.ownsRow W0.heap.size 9 1 v (cpuU k (35 + n)).length (stv (cpuU k (35 + n)))) ∧ Hid (Below W0.heap.size W0 wr) ∧ Hid (Row wr gz (cpc (PR cz)) 31)) (fun _ i _ _ _ => 12 - (intOf i).toNat)
          case atStart => exact ⟨0, by omega, rfl, HO7, HB7, HZ7⟩
          case round =>
            obtain ⟨n, hn2, rfl, HOr, HBr, HZr⟩ := hrel
            clear HO7 HB7 HZ7
            by_cases hlt : n < 12
            · have hltI : (n : Int) < 12 := by omega
              have HSU : Hid (cpuU k (35 + (n + 1)) = cpuU k (35 + n) ++ oneL (csT k n)) := cpu_s k n hlt
              have HCN : Hid ((cpuU k (35 + n)).length ≤ 100) := by unfold Hid; have := cpuU_cnt k (35 + n); omega
              have HNN : Hid (n < 12) := hlt
              generalize cpuU k (35 + n) = LL at HOr HSU HCN
              have HFD : Hid (∀ (g : Nat) w', Calls Tryd.prog 31 #[.pointer (some ⟨g, 0, none⟩), .int .i64 n] w' fun e w'' => e = .returned (.pointer (some ⟨g, 35 + n, none⟩)) ∧ w'' = w') := fun g w' => field_c g n hlt w'
              have HCS : Hid (csT k n = if k.s n = (PR cz).s n then [] else jw [[99, 115, 114], csN.getD n [], hxT (k.s n)]) := rfl
              have hwl : w.heap.size < wr.heap.size := Nat.lt_of_lt_of_le HLS.out HBr.out.size
              have := later_nonempty wr
              have cA : ∀ x : Later wr, x.1.cell? ⟨w.heap.size, 35 + n, none⟩ = some (.int .u64 (n64 (k.s n))) := later_atD hwl ((HR.out wr HBr.out).scell n hlt)
              have cB : ∀ x : Later wr, x.1.cell? ⟨gz, 35 + n, none⟩ = some (.int .u64 (n64 ((PR cz).s n))) := later_atD HZr.out.lt (HZr.out.scell n hlt)
              have HXL : Hid ((hxT (k.s n)).length ≤ 18) := hxT_len _
              have HX8 : Hid (∀ w', Calls Tryd.prog 12 #[.int .u64 (n64 (k.s n))] w' fun e w'' => e = .returned (.string (tS (hxT (k.s n)))) ∧ Below w'.heap.size w' w'') := fun w' => rhx_c _ w'
              generalize csT k n = ct at HSU HCS
              generalize hxT (k.s n) = b at HCS HXL HX8
              generalize k.s n = U at cA HCS HX8
              generalize (PR cz).s n = V at cB HCS
              clear hlt hn2
              go_upto_region 19 with (first | (go_at_call 31; refine (HFD.out _ _).mono ?_; rintro e wf ⟨rfl, hw⟩; have hw2 := hw.symm; subst hw2))
              clear HFD
              --@M6
              by_cases huv : U = V
              · have hq : (n64 U == n64 V) = true := by rw [huv]; simp
                have HS0 : Hid (cpuU k (35 + (n + 1)) = LL) := by unfold Hid; rw [HSU.out, HCS.out, if_pos huv, oneL_nil, List.append_nil]
                clear huv HCS HSU
                refine wp_region_later (x0 := Later.start wr) (by kernel_rfl) (by kernel_rfl) ?_
                repeat (go_big_quiet_step (fail))
                refine wpQuiet_nil ?_
                rintro w' ⟨x9, rfl⟩
                have HO9 : Hid (x9.1.ownsRow W0.heap.size 9 1 u3 LL.length (stv LL)) := ownW_later HOr.out x9.below
                have HB9 : Hid (Below W0.heap.size W0 x9.1) := HBr.out.trans (x9.below.mono HBr.out.size)
                have HZ9 : Hid (Row x9.1 gz (cpc (PR cz)) 31) := HZr.out.later x9.below HZr.out.lt
                generalize x9.1 = W9 at HO9 HB9 HZ9 ⊢
                clear cA cB
                go_wp2
                go_roundw
                case rel => exact ⟨n + 1, HNN.out, by go_num, by rw [HS0.out]; exact HO9, HB9, HZ9⟩
                case measure => have := HNN.out; simp [intOf]; omega
              · have hq : (n64 U == n64 V) = false := n64_ne huv
                have HNE : Hid (ct = jw [[99, 115, 114], csN.getD n [], b]) := by unfold Hid; rw [HCS.out, if_neg huv]
                have HLA : Hid ((csN.getD n []).length ≤ 13) := csN_len n HNN.out
                have HLB : Hid (b.length ≤ 18) := HXL.out
                obtain ⟨ln, hln⟩ : ∃ ln, ln = ct := ⟨_, rfl⟩
                have HS0 : Hid (cpuU k (35 + (n + 1)) = LL ++ [ln]) := by unfold Hid; rw [HSU.out, hln, HNE.out, oneL_some (jw_ne _ _ _)]
                have HLN : Hid (ln = [99, 115, 114, 32] ++ csN.getD n [] ++ [32] ++ b) := by unfold Hid; rw [hln, HNE.out, jw_cons, jw_cons, jw_one]; simp
                have X1 : Hid (∀ w', Below W0.heap.size W0 w' → Calls Tryd.prog 32 #[.int .i64 (r12.getD n 0)] w' fun e w'' => e = .returned (.string (tS (csN.getD n []))) ∧ w'' = w') := fun w' hb => rcsr_c n HNN.out w' (HT.out w' hb)
                have HCC : Hid (∀ w', Below W0.heap.size W0 w' → w'.cell? ⟨0, n, none⟩ = some (.int .i64 (r12.getD n 0))) := fun w' hb => (HT.out w' hb).cs n HNN.out
                clear huv HCS HSU HXL hln HNE
                generalize csN.getD n [] = a at HLN HLA X1
                generalize r12.getD n 0 = rn at X1 HCC
                refine wp_region_later (x0 := Later.start wr) (by kernel_rfl) (by kernel_rfl) ?_
                repeat (go_big_quiet_step (fail))
                refine wpQuiet_nil ?_
                rintro w' ⟨x8, rfl⟩
                have HO8 : Hid (x8.1.ownsRow W0.heap.size 9 1 u3 LL.length (stv LL)) := ownW_later HOr.out x8.below
                have HB8 : Hid (Below W0.heap.size W0 x8.1) := HBr.out.trans (x8.below.mono HBr.out.size)
                have HZ8 : Hid (Row x8.1 gz (cpc (PR cz)) 31) := HZr.out.later x8.below HZr.out.lt
                have hwl8 : w.heap.size < x8.1.heap.size := Nat.lt_of_lt_of_le HLS.out HB8.out.size
                have e8 := cA x8
                generalize x8.1 = W8 at HO8 HB8 HZ8 hwl8 e8 ⊢
                clear cA cB HOr HBr HZr
                have := later_nonempty W8
                have cA : ∀ x : Later W8, x.1.cell? ⟨w.heap.size, 35 + n, none⟩ = some (.int .u64 (n64 U)) := later_atD hwl8 e8
                have cC : ∀ x : Later W8, x.1.cell? ⟨0, n, none⟩ = some (.int .i64 rn) := fun x => HCC.out x.1 (HB8.out.trans (x.below.mono HB8.out.size))
                have X1L : Hid (∀ x : Later W8, Calls Tryd.prog 32 #[.int .i64 rn] x.1 fun e w'' => e = .returned (.string (tS a)) ∧ w'' = x.1) := fun x => X1.out x.1 (HB8.out.trans (x.below.mono HB8.out.size))
                have hs0 : (tS a).size ≤ 200 := by rw [tS_size]; have := HLA.out; have := HLB.out; omega
                have hs1 : (tS b).size ≤ 200 := by rw [tS_size]; have := HLA.out; have := HLB.out; omega
                have HEQ : Hid (((((⟨#[99, 115, 114, 32]⟩ : ByteArray) ++ tS a) ++ ⟨#[32]⟩) ++ tS b) = tS ln) := by unfold Hid; rw [HLN.out]; simp only [← tS_append]; rfl
                clear HLA HLB X1 HCC e8
                go_upto_region 20 with fail
                refine wp_region_later_tail1 (x0 := Later.start W8) 12 u3 (by kernel_rfl) (by kernel_rfl) (fun _ _ _ h => h) (.inl ⟨by rfl, fun w => by rfl⟩) ?_
                simp only [List.take_succ_cons, List.take_zero, List.drop_succ_cons, List.drop_zero, Act.put, List.setIfInBounds_toArray, List.set_cons_succ, List.set_cons_zero]
                repeat (go_big_quiet_step (first | (go_at_call 32; exact calls_later_same (X1L.out _)) | (go_at_call 12; exact calls_later (HX8.out _))))
                refine wpQuiet_nil ?_
                rintro w' ⟨x9, rfl⟩
                have HO9 : Hid (x9.1.ownsRow W0.heap.size 9 1 u3 LL.length (stv LL)) := ownW_later HO8.out x9.below
                have HB9 : Hid (Below W0.heap.size W0 x9.1) := HB8.out.trans (x9.below.mono HB8.out.size)
                have HZ9 : Hid (Row x9.1 gz (cpc (PR cz)) 31) := HZ8.out.later x9.below HZ8.out.lt
                generalize x9.1 = W9 at HO9 HB9 HZ9 ⊢
                clear cA cC X1L HX8 hs0 hs1
                go_wp2_with (at_builtin; refine appW (by rfl) _ _ (by rfl) W0.heap.size _ LL (by rfl) (ownW_al HO9.out _) [ln] _ 0 1 (by rfl) (bs1e _ HEQ.out) (by have := HCN.out; simp; omega) (by have := HB9.out.size; simp; omega) ?_; intro v10 w10 h1 h2 h3; have HO_w10 : Hid (w10.ownsRow W0.heap.size 9 1 v10 (LL ++ [ln]).length (stv (LL ++ [ln]))) := h1; have HB_w10 : Hid (Below W0.heap.size W0 w10) := ((HB9.out).alloc (HB9.out).size _).trans h2; have HZ10 : Hid (Row w10 gz (cpc (PR cz)) 31) := h3 _ _ _ _ (HZ9.out.old HZ9.out.lt _) (by decide); clear h1 h2 h3)
                go_roundw
                case rel => exact ⟨n + 1, HNN.out, by go_num, by rw [HS0.out]; exact HO_w10, HB_w10, HZ10⟩
                case measure => have := HNN.out; simp [intOf]; omega
            · have hne : n = 12 := by omega
              subst hne
              clear hlt hn2 HZr
              rename World => w5
              have HO5 : Hid (w5.ownsRow W0.heap.size 9 1 u3 (cpuU k 47).length (stv (cpuU k 47))) := HOr
              have HB5 := HBr
              clear HOr HBr
              --@M7
              go_upto_region 22 with fail
              rw [show ((12 : Nat) : Int) = 12 from rfl]
              go_loopw [3, 9] (fun v i wr => ∃ n : Nat, n ≤ 16 ∧ i = .int .i64 n ∧ Hid (wr.ownsRow W0.heap.size 9 1 v (cpuU k (47 + n)).length (stv (cpuU k (47 + n)))) ∧ Hid (Below W0.heap.size W0 wr)) (fun _ i _ => 16 - (intOf i).toNat)
              case atStart => exact ⟨0, by omega, rfl, HO5, HB5⟩
              case round =>
                obtain ⟨n, hn2, rfl, HOr, HBr⟩ := hrel
                clear HO5 HB5
                by_cases hlt : n < 16
                · have hltI : (n : Int) < 16 := by omega
                  have HSU : Hid (cpuU k (47 + (n + 1)) = cpuU k (47 + n) ++ oneL (enT k n)) := cpu_e k n hlt
                  have HCN : Hid ((cpuU k (47 + n)).length ≤ 100) := by unfold Hid; have := cpuU_cnt k (47 + n); omega
                  have HNN : Hid (n < 16) := hlt
                  generalize cpuU k (47 + n) = LL at HOr HSU HCN
                  have HCS : Hid (enT k n = if k.c n = 0#8 ∧ k.a n = 0#64 then [] else jw [[112, 109, 112], dcL n, hxT ((k.c n).setWidth 64), hxT (k.a n)]) := rfl
                  have hwl : w.heap.size < wr.heap.size := Nat.lt_of_lt_of_le HLS.out HBr.out.size
                  have := later_nonempty wr
                  have HRw := HR.out wr HBr.out
                  have dC := HRw.pcc n hlt
                  have dA := HRw.pca n hlt
                  have cC : ∀ x : Later wr, x.1.cell? ⟨w.heap.size, 47 + n, none⟩ = some (.int .u8 (n8 (k.c n))) := later_atD hwl dC
                  have cA : ∀ x : Later wr, x.1.cell? ⟨w.heap.size, 63 + n, none⟩ = some (.int .u64 (n64 (k.a n))) := later_atD hwl dA
                  have hcw := n8_64 (k.c n)
                  have HLD : Hid ((dcL n).length ≤ 2) := dcL_len n 1 (by omega)
                  have HL1 : Hid ((hxT ((k.c n).setWidth 64)).length ≤ 18) := hxT_len _
                  have HL2 : Hid ((hxT (k.a n)).length ≤ 18) := hxT_len _
                  have X1 : Hid (∀ x : Later wr, Calls Tryd.prog 11 #[.int .i64 n] x.1 fun e w'' => e = .returned (.string (tS (dcL n))) ∧ Below x.1.heap.size x.1 w'') := fun x => rdec_c n (by omega) x.1
                  have X2 : Hid (∀ x : Later wr, Calls Tryd.prog 12 #[.int .u64 (n64 ((k.c n).setWidth 64))] x.1 fun e w'' => e = .returned (.string (tS (hxT ((k.c n).setWidth 64)))) ∧ Below x.1.heap.size x.1 w'') := fun x => rhx_c _ x.1
                  have X3 : Hid (∀ x : Later wr, Calls Tryd.prog 12 #[.int .u64 (n64 (k.a n))] x.1 fun e w'' => e = .returned (.string (tS (hxT (k.a n)))) ∧ Below x.1.heap.size x.1 w'') := fun x => rhx_c _ x.1
                  clear HRw
                  generalize enT k n = ct at HSU HCS
                  generalize dcL n = d at HCS HLD X1
                  generalize hxT ((k.c n).setWidth 64) = b1 at HCS HL1 X2
                  generalize hxT (k.a n) = b2 at HCS HL2 X3
                  generalize n64 ((k.c n).setWidth 64) = cn at hcw X2
                  have HV : Hid ((k.c n = 0#8 ∧ k.a n = 0#64) ∨ (k.c n = 0#8 ∧ ¬ k.a n = 0#64) ∨ ¬ k.c n = 0#8) := by
                    unfold Hid
                    by_cases h1 : k.c n = 0#8 <;> by_cases h2 : k.a n = 0#64 <;> simp [h1, h2]
                  generalize k.c n = C at dC cC hcw HCS HV
                  generalize k.a n = A at dA cA HCS HV X3
                  clear hlt hn2
                  have HC3 : Hid (¬ (C = 0#8 ∧ A = 0#64) → ct = jw [[112, 109, 112], d, b1, b2]) := fun h => by rw [HCS.out, if_neg h]
                  rcases HV.out with ⟨h1, h2⟩ | ⟨h1, h2⟩ | h1
                  · have HS0 : Hid (cpuU k (47 + (n + 1)) = LL) := by unfold Hid; rw [HSU.out, HCS.out, if_pos ⟨h1, h2⟩, oneL_nil, List.append_nil]
                    have q1 : (n8 C == 0) = true := by rw [h1]; rfl
                    have p1 : n8 C = 0 := by rw [h1]; rfl
                    have q2 : (n64 A == 0) = true := by rw [h2]; rfl
                    have p2 : n64 A = 0 := by rw [h2]; rfl
                    clear h1 h2 HCS HV HC3
                    go_wp2
                    go_roundw
                    case rel => exact ⟨n + 1, HNN.out, by go_num, by rw [HS0.out]; exact HOr, HBr⟩
                    case measure => have := HNN.out; simp [intOf]; omega
                  · have q1 : (n8 C == 0) = true := by rw [h1]; rfl
                    have p1 : n8 C = 0 := by rw [h1]; rfl
                    have q2 : (n64 A == 0) = false := n64_ne (y := 0#64) h2
                    have p2 : ¬ n64 A = 0 := by simpa using q2
                    have HNE := HC3.out (fun h => h2 h.2)
                    obtain ⟨ln, hln⟩ : ∃ ln, ln = ct := ⟨_, rfl⟩
                    have HS0 : Hid (cpuU k (47 + (n + 1)) = LL ++ [ln]) := by unfold Hid; rw [HSU.out, hln, HNE, oneL_some (jw_ne _ _ _)]
                    have HLN : Hid (ln = [112, 109, 112, 32] ++ d ++ [32] ++ b1 ++ [32] ++ b2) := by unfold Hid; rw [hln, HNE, jw_cons, jw_cons, jw_cons, jw_one]; simp
                    clear h1 h2 HCS HV HC3 HNE HSU hln
                    have hs0 : (tS d).size ≤ 200 := by rw [tS_size]; have := HLD.out; have := HL1.out; have := HL2.out; omega
                    have hs1 : (tS b1).size ≤ 200 := by rw [tS_size]; have := HLD.out; have := HL1.out; have := HL2.out; omega
                    have hs2 : (tS b2).size ≤ 200 := by rw [tS_size]; have := HLD.out; have := HL1.out; have := HL2.out; omega
                    have HEQ : Hid (((((((⟨#[112, 109, 112, 32]⟩ : ByteArray) ++ tS d) ++ ⟨#[32]⟩) ++ tS b1) ++ ⟨#[32]⟩) ++ tS b2) = tS ln) := by unfold Hid; rw [HLN.out]; simp only [← tS_append]; rfl
                    clear HLD HL1 HL2
                    go_upto_region 25 with fail
                    clear p1 q1
                    refine wp_region_later_tail1 (x0 := Later.start wr) 21 u3 (by kernel_rfl) (by kernel_rfl) (fun _ _ _ h => h) (.inl ⟨by rfl, fun w => by rfl⟩) ?_
                    simp only [List.take_succ_cons, List.take_zero, List.drop_succ_cons, List.drop_zero, Act.put, List.setIfInBounds_toArray, List.set_cons_succ, List.set_cons_zero]
                    repeat (go_big_quiet_step (first | (go_at_call 11; exact calls_later (X1.out _)) | (go_at_call 12; exact calls_later (X2.out _)) | (go_at_call 12; exact calls_later (X3.out _))))
                    refine wpQuiet_nil ?_
                    rintro w' ⟨x9, rfl⟩
                    have HO9 : Hid (x9.1.ownsRow W0.heap.size 9 1 u3 LL.length (stv LL)) := ownW_later HOr.out x9.below
                    have HB9 : Hid (Below W0.heap.size W0 x9.1) := HBr.out.trans (x9.below.mono HBr.out.size)
                    generalize x9.1 = W9 at HO9 HB9 ⊢
                    clear cC cA X1 X2 X3 hs0 hs1 hs2 dC dA
                    go_wp2_with (at_builtin; refine appW (by rfl) _ _ (by rfl) W0.heap.size _ LL (by rfl) (ownW_al HO9.out _) [ln] _ 0 1 (by rfl) (bs1e _ HEQ.out) (by have := HCN.out; simp; omega) (by have := HB9.out.size; simp; omega) ?_; intro v10 w10 h1 h2 h3; have HO_w10 : Hid (w10.ownsRow W0.heap.size 9 1 v10 (LL ++ [ln]).length (stv (LL ++ [ln]))) := h1; have HB_w10 : Hid (Below W0.heap.size W0 w10) := ((HB9.out).alloc (HB9.out).size _).trans h2; clear h1 h2 h3)
                    go_roundw
                    case rel => exact ⟨n + 1, HNN.out, by go_num, by rw [HS0.out]; exact HO_w10, HB_w10⟩
                    case measure => have := HNN.out; simp [intOf]; omega
                  · have q1 : (n8 C == 0) = false := n8_ne (y := 0#8) h1
                    have p1 : ¬ n8 C = 0 := by simpa using q1
                    have HNE := HC3.out (fun h => h1 h.1)
                    obtain ⟨ln, hln⟩ : ∃ ln, ln = ct := ⟨_, rfl⟩
                    have HS0 : Hid (cpuU k (47 + (n + 1)) = LL ++ [ln]) := by unfold Hid; rw [HSU.out, hln, HNE, oneL_some (jw_ne _ _ _)]
                    have HLN : Hid (ln = [112, 109, 112, 32] ++ d ++ [32] ++ b1 ++ [32] ++ b2) := by unfold Hid; rw [hln, HNE, jw_cons, jw_cons, jw_cons, jw_one]; simp
                    clear h1 HCS HV HC3 HNE HSU hln
                    have hs0 : (tS d).size ≤ 200 := by rw [tS_size]; have := HLD.out; have := HL1.out; have := HL2.out; omega
                    have hs1 : (tS b1).size ≤ 200 := by rw [tS_size]; have := HLD.out; have := HL1.out; have := HL2.out; omega
                    have hs2 : (tS b2).size ≤ 200 := by rw [tS_size]; have := HLD.out; have := HL1.out; have := HL2.out; omega
                    have HEQ : Hid (((((((⟨#[112, 109, 112, 32]⟩ : ByteArray) ++ tS d) ++ ⟨#[32]⟩) ++ tS b1) ++ ⟨#[32]⟩) ++ tS b2) = tS ln) := by unfold Hid; rw [HLN.out]; simp only [← tS_append]; rfl
                    clear HLD HL1 HL2
                    go_upto_region 25 with fail
                    clear p1 q1
                    refine wp_region_later_tail1 (x0 := Later.start wr) 21 u3 (by kernel_rfl) (by kernel_rfl) (fun _ _ _ h => h) (.inl ⟨by rfl, fun w => by rfl⟩) ?_
                    simp only [List.take_succ_cons, List.take_zero, List.drop_succ_cons, List.drop_zero, Act.put, List.setIfInBounds_toArray, List.set_cons_succ, List.set_cons_zero]
                    repeat (go_big_quiet_step (first | (go_at_call 11; exact calls_later (X1.out _)) | (go_at_call 12; exact calls_later (X2.out _)) | (go_at_call 12; exact calls_later (X3.out _))))
                    refine wpQuiet_nil ?_
                    rintro w' ⟨x9, rfl⟩
                    have HO9 : Hid (x9.1.ownsRow W0.heap.size 9 1 u3 LL.length (stv LL)) := ownW_later HOr.out x9.below
                    have HB9 : Hid (Below W0.heap.size W0 x9.1) := HBr.out.trans (x9.below.mono HBr.out.size)
                    generalize x9.1 = W9 at HO9 HB9 ⊢
                    clear cC cA X1 X2 X3 hs0 hs1 hs2 dC dA
                    go_wp2_with (at_builtin; refine appW (by rfl) _ _ (by rfl) W0.heap.size _ LL (by rfl) (ownW_al HO9.out _) [ln] _ 0 1 (by rfl) (bs1e _ HEQ.out) (by have := HCN.out; simp; omega) (by have := HB9.out.size; simp; omega) ?_; intro v10 w10 h1 h2 h3; have HO_w10 : Hid (w10.ownsRow W0.heap.size 9 1 v10 (LL ++ [ln]).length (stv (LL ++ [ln]))) := h1; have HB_w10 : Hid (Below W0.heap.size W0 w10) := ((HB9.out).alloc (HB9.out).size _).trans h2; clear h1 h2 h3)
                    go_roundw
                    case rel => exact ⟨n + 1, HNN.out, by go_num, by rw [HS0.out]; exact HO_w10, HB_w10⟩
                    case measure => have := HNN.out; simp [intOf]; omega
                · have hne : n = 16 := by omega
                  subst hne
                  clear hlt hn2
                  rename World => w6
                  have HO6 : Hid (w6.ownsRow W0.heap.size 9 1 u3 (cpuU k 63).length (stv (cpuU k 63))) := HOr
                  have HB6 := HBr
                  clear HOr HBr
                  --@M8
                  have hr6 := (HR.out w6 HB6.out).rcl
                  obtain ⟨-, -, -, c79, c80, c81⟩ := hr6
                  have HCN : Hid ((cpuU k 63).length ≤ 100) := by unfold Hid; have := cpuU_cnt k 63; omega
                  have HCZ : Hid (cpuLs k = cpuU k 63 ++ oneL (if k.rv then jw [[114, 101, 115], hxT k.ra, dcL k.rs.toNat] else [])) := cpu_z k
                  obtain ⟨m, hm⟩ := Int.eq_ofNat_of_zero_le HX.out.2.1
                  have HM : Hid (m < 1000) := by unfold Hid; have := HX.out.2.2; omega
                  rw [hm, Int.toNat_natCast] at HCZ
                  rw [hm] at c81
                  generalize cpuU k 63 = LL at HO6 HCZ HCN
                  have hwl : w.heap.size < w6.heap.size := Nat.lt_of_lt_of_le HLS.out HB6.out.size
                  have := later_nonempty w6
                  have cA : ∀ x : Later w6, x.1.cell? ⟨w.heap.size, 80, none⟩ = some (.int .u64 (n64 k.ra)) := later_atD hwl c80
                  have cB : ∀ x : Later w6, x.1.cell? ⟨w.heap.size, 81, none⟩ = some (.int .i64 m) := later_atD hwl c81
                  have HLB : Hid ((hxT k.ra).length ≤ 18) := hxT_len _
                  have HLD : Hid ((dcL m).length ≤ 3) := dcL_len m 2 (by have := HM.out; omega)
                  have X1 : Hid (∀ x : Later w6, Calls Tryd.prog 11 #[.int .i64 m] x.1 fun e w'' => e = .returned (.string (tS (dcL m))) ∧ Below x.1.heap.size x.1 w'') := fun x => rdec_c m (by have := HM.out; omega) x.1
                  have X2 : Hid (∀ x : Later w6, Calls Tryd.prog 12 #[.int .u64 (n64 k.ra)] x.1 fun e w'' => e = .returned (.string (tS (hxT k.ra))) ∧ Below x.1.heap.size x.1 w'') := fun x => rhx_c _ x.1
                  generalize hxT k.ra = b at HCZ HLB X2
                  generalize dcL m = d at HCZ HLD X1
                  generalize n64 k.ra = na at cA X2 c80
                  clear hm HX
                  cases hrv : k.rv
                  · rw [hrv] at HCZ c79
                    have HS0 : Hid (cpuLs k = LL) := by unfold Hid; rw [HCZ.out]; simp [oneL]
                    clear cA cB X1 X2 HCZ hrv
                    go_wp2
                    go_ret
                    exact ⟨_, rfl, by rw [HS0.out]; exact own_le HO6.out (by have := HLS.out; omega), b0.out.trans (HB6.out.mono b0.out.size)⟩
                  · rw [hrv] at HCZ c79
                    obtain ⟨ln, hln⟩ : ∃ ln, ln = jw [[114, 101, 115], b, d] := ⟨_, rfl⟩
                    have HS0 : Hid (cpuLs k = LL ++ [ln]) := by unfold Hid; rw [HCZ.out, if_pos rfl, hln, oneL_some (jw_ne _ _ _)]
                    have HLN : Hid (ln = [114, 101, 115, 32] ++ b ++ [32] ++ d) := by unfold Hid; rw [hln, jw_cons, jw_cons, jw_one]; simp
                    clear HCZ hrv hln
                    have hs0 : (tS b).size ≤ 200 := by rw [tS_size]; have := HLB.out; have := HLD.out; omega
                    have hs1 : (tS d).size ≤ 200 := by rw [tS_size]; have := HLB.out; have := HLD.out; omega
                    have HEQ : Hid (((((⟨#[114, 101, 115, 32]⟩ : ByteArray) ++ tS b) ++ ⟨#[32]⟩) ++ tS d) = tS ln) := by unfold Hid; rw [HLN.out]; simp only [← tS_append]; rfl
                    clear HLB HLD
                    go_upto_region 27 with fail
                    clear c79 c80 c81
                    refine wp_region_later_tail1 (x0 := Later.start w6) 12 u3 (by kernel_rfl) (by kernel_rfl) (fun _ _ _ h => h) (.inl ⟨by rfl, fun w => by rfl⟩) ?_
                    simp only [List.take_succ_cons, List.take_zero, List.drop_succ_cons, List.drop_zero, Act.put, List.setIfInBounds_toArray, List.set_cons_succ, List.set_cons_zero]
                    repeat (go_big_quiet_step (first | (go_at_call 11; exact calls_later (X1.out _)) | (go_at_call 12; exact calls_later (X2.out _))))
                    refine wpQuiet_nil ?_
                    rintro w' ⟨x9, rfl⟩
                    have HO9 : Hid (x9.1.ownsRow W0.heap.size 9 1 u3 LL.length (stv LL)) := ownW_later HO6.out x9.below
                    have HB9 : Hid (Below W0.heap.size W0 x9.1) := HB6.out.trans (x9.below.mono HB6.out.size)
                    generalize x9.1 = W9 at HO9 HB9 ⊢
                    clear cA cB X1 X2 hs0 hs1
                    go_wp2_with (at_builtin; refine appW (by rfl) _ _ (by rfl) W0.heap.size _ LL (by rfl) (ownW_al HO9.out _) [ln] _ 0 1 (by rfl) (bs1e _ HEQ.out) (by have := HCN.out; simp; omega) (by have := HB9.out.size; simp; omega) ?_; intro v10 w10 h1 h2 h3; have HO_w10 : Hid (w10.ownsRow W0.heap.size 9 1 v10 (LL ++ [ln]).length (stv (LL ++ [ln]))) := h1; have HB_w10 : Hid (Below W0.heap.size W0 w10) := ((HB9.out).alloc (HB9.out).size _).trans h2; clear h1 h2 h3)
                    go_ret
                    exact ⟨_, rfl, by rw [HS0.out]; exact own_le HO_w10.out (by have := HLS.out; omega), b0.out.trans (HB_w10.out.mono b0.out.size)⟩
end Go.Proofs.YthmjimmmkoeeoaaDoor
