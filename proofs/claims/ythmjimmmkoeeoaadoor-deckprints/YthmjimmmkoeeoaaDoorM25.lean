/-
  Do.
-/
import Derived.Test.YthmjimmmkoeeoaaDoorM24
namespace Go.Proofs.YthmjimmmkoeeoaaDoor
set_option linter.unusedVariables false
set_option maxRecDepth 100000
open Go.ChangeShapes Go.WideShapes Go.ChangeAt Go.RowKit Go.Deep Go.Shelf
theorem wdW_len (x : Wd) : (wdW x).length ≤ 5 := by
  unfold wdW
  cases x.t <;> cases x.e <;> cases x.s <;> by_cases h : x.i = [] <;> simp [h]
set_option maxHeartbeats 8000000 in
theorem addWorlds_c {w0 : World} {b : Nat} {l : Tx} (ws : List Wd) (v : Value) (hv : Wds w0 v ws) (hn : ws.length ≤ 4000) (hi : ∀ x ∈ ws, x.i.length ≤ 64) (w : World) (hG : Gp w0) (h0 : Below w0.heap.size w0 w) (hP : Bd 63 w0.heap.size b l w) (hl : l.length ≤ 90000000) :
    Calls Tryd.prog 26 #[.pointer (some ⟨b, 0, none⟩), v] w fun e w' => e = .returned (.tuple #[]) ∧ Bd 63 w0.heap.size b (l ++ lnT (wdLs ws)) w' ∧ Bk w0.heap.size b w w' := by
  have HG : Hid (∀ w', Below w0.heap.size w0 w' → Gp w') := fun w' h => hG.base h
  have HP : Hid (Bd 63 w0.heap.size b l w) := hP
  have H0 : Hid (Below w0.heap.size w0 w) := h0
  have HTT : Hid ((l ++ lnT (wdLs ws)).length ≤ 92000000) := by unfold Hid; have := wdLs_len _ ws (Nat.le_refl _) hn hi; rw [List.length_append]; omega
  have HV : Hid (Wds w0 v ws) := hv
  obtain ⟨ad, cap, rfl, hcap, _, _⟩ := hv
  obtain ⟨n, hnn⟩ : ∃ n, n = ws.length := ⟨_, rfl⟩
  have HN : Hid (n = ws.length) := hnn
  have HI : Hid (n ≤ 4000 ∧ ∀ x ∈ ws, x.i.length ≤ 64) := ⟨by rw [hnn]; exact hn, hi⟩
  rw [← hnn] at hcap ⊢
  obtain ⟨T, hT⟩ : ∃ T, T = l ++ lnT (wdLs ws) := ⟨_, rfl⟩
  rw [← hT] at HTT ⊢
  have HT : Hid (l ++ lnT (wdLs (ws.drop 0)) = T) := by unfold Hid; rw [List.drop_zero, hT]
  clear hG hP h0 hl hn hi hnn hT
  go_enter Tryd.func26, Tryd.ntmps26
  go_upto_region 1 with fail
  go_loopw [4, 5, 6, 7] (fun f _ _ _ wr => ∃ k : Nat, ∃ m : Tx, k ≤ n ∧ f = .int .i64 k ∧ Hid (m ++ lnT (wdLs (ws.drop k)) = T) ∧ Hid (Bd 63 w0.heap.size b m wr) ∧ Hid (Bk w0.heap.size b w wr)) (fun f _ _ _ _ => n - (intOf f).toNat)
  case atStart => exact ⟨0, l, Nat.zero_le _, rfl, HT, HP, Bk.refl _ _ _⟩
  case round =>
    obtain ⟨k, m, hk, rfl, HE, HD, HK⟩ := hrel
    clear HT HP
    by_cases hlt : k < n
    · have hltI : (k : Int) < n := by omega
      obtain ⟨g, off, cap2, e1, hc2, hg, hcs⟩ := HV.out.at k (by rw [← HN.out]; exact hlt)
      cases e1
      have HCS : Hid (∀ j, j < ws.length → ∃ u, (∀ i y, (#[.bool (ws.getD j wd0).t, .bool (ws.getD j wd0).e, .bool (ws.getD j wd0).s, u] : Array Value)[i]? = some y → w0.cell? ⟨g, off + j * 4 + i, none⟩ = some y) ∧ Byt w0 u (ws.getD j wd0).i ∧ AllB (ws.getD j wd0).i) := hcs
      obtain ⟨uk, hck, hbk, hak⟩ := HCS.out k (by rw [← HN.out]; exact hlt)
      obtain ⟨x, hx⟩ : ∃ x, x = ws.getD k wd0 := ⟨_, rfl⟩
      rw [← hx] at hck hbk hak
      have HXK : Hid (x = ws.getD k wd0) := hx
      have HCK : Hid (∀ i y, (#[.bool x.t, .bool x.e, .bool x.s, uk] : Array Value)[i]? = some y → w0.cell? ⟨g, off + k * 4 + i, none⟩ = some y) := hck
      have HBK : Hid (Byt w0 uk x.i ∧ AllB x.i ∧ x.i.length ≤ 64) := ⟨hbk, hak, by rw [hx]; exact HI.out.2 _ (by rw [List.getD_eq_getElem?_getD, List.getElem?_eq_getElem (by rw [← HN.out]; exact hlt)]; exact List.getElem_mem _)⟩
      have HGG : Hid (g < w0.heap.size) := hg
      have HD0 : Hid (ws.drop k = x :: ws.drop (k + 1)) := by unfold Hid; rw [hx]; exact drop_at ws k (by rw [← HN.out]; exact hlt)
      have HWR : Hid (Below w0.heap.size w0 wr) := H0.out.trans HK.out.bel
      have HKN : Hid (k < n) := hlt
      clear hck hbk hak hg hcs hc2 hx
      have hn4 : n ≤ 4000 := HI.out.1
      go_upto_region 3 with fail
      rename World => w5
      --@U1
      go_loopw [5] (fun f wr => ∃ c : Nat, k + 1 ≤ c ∧ c ≤ n ∧ f = .int .i64 c ∧ Hid (runN x (ws.drop (k + 1)) = (c - (k + 1)) + runN x (ws.drop c)) ∧ Hid (Below w5.heap.size w5 wr)) (fun f _ => n - (intOf f).toNat)
      case atStart => exact ⟨k + 1, Nat.le_refl _, HKN.out, by go_num, by unfold Hid; omega, Below.refl _ _⟩
      case round =>
        obtain ⟨c, hc1, hc2, rfl, HRN, HBQ⟩ := hrel
        have HWQ : Hid (Below w0.heap.size w0 wr) := HWR.out.trans (HBQ.out.mono HWR.out.size)
        by_cases hcn : c < n
        · have hcI : (c : Int) < n := by omega
          obtain ⟨uc, hcc, hbc, hac⟩ := HCS.out c (by rw [← HN.out]; exact hcn)
          obtain ⟨y, hy⟩ : ∃ y, y = ws.getD c wd0 := ⟨_, rfl⟩
          rw [← hy] at hcc hbc hac
          have HDC : Hid (ws.drop c = y :: ws.drop (c + 1)) := by unfold Hid; rw [hy]; exact drop_at ws c (by rw [← HN.out]; exact hcn)
          have := later_nonempty wr
          have hgq : g < wr.heap.size := Nat.lt_of_lt_of_le HGG.out HWQ.out.size
          have C1 : Hid (∀ i z, (#[.bool x.t, .bool x.e, .bool x.s, uk] : Array Value)[i]? = some z → wr.cell? ⟨g, off + k * 4 + i, none⟩ = some z) := fun i z h => (HWQ.out.cell (p := ⟨g, off + k * 4 + i, none⟩) HGG.out).trans (HCK.out i z h)
          have C2 : Hid (∀ i z, (#[.bool y.t, .bool y.e, .bool y.s, uc] : Array Value)[i]? = some z → wr.cell? ⟨g, off + c * 4 + i, none⟩ = some z) := fun i z h => (HWQ.out.cell (p := ⟨g, off + c * 4 + i, none⟩) HGG.out).trans (hcc i z h)
          have HAL : Hid (∀ X : Later wr, Calls Tryd.prog 49 #[.agg #[.bool x.t, .bool x.e, .bool x.s, uk], .agg #[.bool y.t, .bool y.e, .bool y.s, uc]] X.1 fun e w' => e = .returned (.bool (alB x y)) ∧ Below X.1.heap.size X.1 w') := fun X => alike_c x y uk uc X.1 (HBK.out.1.later (HWQ.out.trans (X.below.mono HWQ.out.size)) rfl) (hbc.later (HWQ.out.trans (X.below.mono HWQ.out.size)) rfl) HBK.out.2.1 hac
          have HRH : Hid (alB x y = true → runN x (ws.drop (k + 1)) = (c + 1 - (k + 1)) + runN x (ws.drop (c + 1))) := fun h => by have := HRN.out; rw [HDC.out, runN_hit _ _ _ h] at this; omega
          have HRM : Hid (alB x y = false → runN x (ws.drop (k + 1)) = c - (k + 1)) := fun h => by have := HRN.out; rw [HDC.out, runN_miss _ _ _ h] at this; omega
          clear hcc hbc hac hy
          have i1 : (Tryd.prog.info? 48).map (·.size) = some (#[Value.bool x.t, .bool x.e, .bool x.s, uk] : Array Value).size := info_wd _ _ _ _
          have i2 : (Tryd.prog.info? 48).map (·.size) = some (#[Value.bool y.t, .bool y.e, .bool y.s, uc] : Array Value).size := info_wd _ _ _ _
          generalize (#[Value.bool x.t, .bool x.e, .bool x.s, uk] : Array Value) = X1 at C1 HAL i1
          generalize (#[Value.bool y.t, .bool y.e, .bool y.s, uc] : Array Value) = X2 at C2 HAL i2
          cases hal : alB x y
          all_goals
            rw [hal] at HAL HRH HRM
            go_upto_region 3 with fail
            refine wp_region_later (x0 := Later.start wr) (by kernel_rfl) (by kernel_rfl) ?_
            --@U2
            repeat (first
              | (go_big_quiet_want; refine quiet_load_agg 48 _ (by rfl) g (off + k * 4) (by rfl) X1 _ hgq C1.out Tryd.underlying48 (by rfl) i1 ?_; simp only [Act.put, List.setIfInBounds_toArray, List.set_cons_succ, List.set_cons_zero]; go_big_quiet_on)
              | (go_big_quiet_want; refine quiet_load_agg 48 _ (by rfl) g (off + c * 4) (by rfl) X2 _ hgq C2.out Tryd.underlying48 (by rfl) i2 ?_; simp only [Act.put, List.setIfInBounds_toArray, List.set_cons_succ, List.set_cons_zero]; go_big_quiet_on)
              | (go_big_quiet_step ((go_at_call 49; exact calls_later (HAL.out _)))))
            refine wpQuiet_nil ?_
            rintro w' ⟨x9, rfl⟩
            have HB9 : Hid (Below w5.heap.size w5 x9.1) := HBQ.out.trans (x9.below.mono HBQ.out.size)
            generalize x9.1 = W9 at HB9 ⊢
            clear C1 C2 HAL
          --@U3
          · have HRC : Hid (runN x (ws.drop (k + 1)) = c - (k + 1)) := HRM.out rfl
            clear HRH HRM HDC i1 i2
            have HB9W : Hid (Below w0.heap.size w0 W9) := HWR.out.trans (HB9.out.mono HWR.out.size)
            have HBD : Hid (Bd 63 w0.heap.size b m W9) := HD.out.later HB9.out
            have HML : Hid (m.length ≤ 92000000) := by unfold Hid; have := congrArg List.length HE.out; rw [List.length_append] at this; have := HTT.out; omega
            have HK9 : Hid (Bk w0.heap.size b w W9) := HK.out.trans (Bk.of_below HD.out.sz HB9.out)
            have HHL : Hid (∀ q : Nat, q < 100000 → (wdH q x).length ≤ 350) := fun q h => wdH_len q h x HBK.out.2.2
            have HNX : Hid (m ++ wdH (c - k) x ++ [10] ++ lnT (wdLs (ws.drop c)) = T) := by
              have e1 : 1 + runN x (ws.drop (k + 1)) = c - k := by have := HRC.out; omega
              have e2 : (ws.drop (k + 1)).drop (runN x (ws.drop (k + 1))) = ws.drop c := by rw [List.drop_drop]; congr 1; have := HRC.out; omega
              unfold Hid; have := HE.out; rw [HD0.out, wdLs_more, lnT_cons, e1, e2] at this; rw [← this]; simp
            have HKC : Hid (k + 1 ≤ c ∧ c ≤ n) := ⟨hc1, hc2⟩
            have HIT : Hid (∀ w', Below w0.heap.size w0 w' → Calls Tryd.prog 21 #[.int .i64 ((c - k : Nat) : Int)] w' fun e w'' => e = .returned (.string (tS (dcL (c - k)))) ∧ Below w'.heap.size w' w'') := fun w' h => itoa_c (c - k) (by omega) w' (HG.out w' h).2
            by_cases h1 : c = k + 1
            · subst h1
              have hcnt : ((k + 1 : Nat) : Int) - (k : Int) = 1 := by omega
              have hcw : IntKind.i64.wrap 1 = 1 := by kernel_rfl
              have HJ : Hid (jw ([115, 116, 101, 112] :: wdW x) = wdH (k + 1 - k) x) := by unfold Hid; rw [jw_step, show k + 1 - k = 1 by omega]
              have HJL : Hid ((jw ([115, 116, 101, 112] :: wdW x)).length ≤ 1000000) := by unfold Hid; rw [HJ.out]; have := HHL.out (k + 1 - k) (by omega); omega
              clear hc1 hc2 HIT
              --@U5
              obtain ⟨WA, hWA, rA, bA, sA⟩ := start1 W9 #[.string ⟨#[115, 116, 101, 112]⟩] 9
              have HOW : Hid (WA.ownsRow W9.heap.size 9 1 (.slice (some ⟨W9.heap.size, 0, none⟩) 1 1) ([[115, 116, 101, 112]] : List Tx).length (stv [[115, 116, 101, 112]])) := by unfold Hid; rw [← hWA]; exact own_built W9 [[115, 116, 101, 112]] _ (Nat.le_refl _) (by simp) _ rfl
              have HB9A : Hid (Below W9.heap.size W9 WA) := bA.out
              have HS9 : Hid (W9.heap.size ≤ WA.heap.size) := bA.out.size
              have HBWA : Hid (Below w0.heap.size w0 WA) := HB9W.out.trans (bA.out.mono HB9W.out.size)
              have CW : Hid (∀ i z, (#[.bool x.t, .bool x.e, .bool x.s, uk] : Array Value)[i]? = some z → WA.cell? ⟨g, off + k * 4 + i, none⟩ = some z) := fun i z h => (HBWA.out.cell (p := ⟨g, off + k * 4 + i, none⟩) HGG.out).trans (HCK.out i z h)
              clear rA bA sA
              go_upto_region 6 with fail
              clear hWA
              go_wp2_with (first
                | (refine wpList_load_agg (by rfl) 48 _ (by rfl) g (off + k * 4) (by rfl) #[.bool x.t, .bool x.e, .bool x.s, uk] _ CW.out Tryd.underlying48 (by rfl) (info_wd _ _ _ _) ?_)
                | (go_at_call 50; refine (wdWords_c x.t x.e x.s x.i HBK.out.2.1 (by have := HBK.out.2.2; omega) uk _ (HBK.out.1.later HBWA.out rfl)).mono ?_; rintro en wb ⟨u9, rfl, h1, h2⟩; have HU : Hid (wb.ownsRow WA.heap.size 9 1 u9 (wdW x).length (stv (wdW x))) := h1; have HBb : Hid (Below WA.heap.size WA wb) := h2; clear h1 h2)
                | (at_builtin; refine appW2 (by rfl) _ _ (by rfl) W9.heap.size _ [[115, 116, 101, 112]] (by rfl) (ownW_later HOW.out HBb.out) _ (wdW x) WA.heap.size (by rfl) HU.out (by have := wdW_len x; simp only [List.length_cons, List.length_nil]; omega) (Nat.le_trans HS9.out HBb.out.size) ?_; intro v7 wc h1 h2 h3; obtain ⟨gv, cv, rfl, hcv, hgv, hcl⟩ := own_slice h1 (by simp); have HCL : Hid (∀ (j : Nat) y, ([[115, 116, 101, 112]] ++ wdW x)[j]? = some y → wc.cell? ⟨gv, 0 + j, none⟩ = some (.string (tS y))) := hcl; have HGV : Hid (gv < wc.heap.size ∧ ([[115, 116, 101, 112]] ++ wdW x).length ≤ cv) := ⟨hgv, hcv⟩; have HBc : Hid (Below W9.heap.size W9 wc) := HB9A.out.trans ((HBb.out.mono HS9.out).trans h2); clear h1 h2 h3 hcl hgv hcv)
                | (go_at_call 20; refine (add_c ([[115, 116, 101, 112]] ++ wdW x) gv 0 cv wc (HBD.out.later HBc.out) HCL.out HGV.out.1 (by have := wdW_len x; simp only [List.length_append, List.length_cons, List.length_nil]; omega) HGV.out.2 HJL.out (by have := HML.out; omega)).mono ?_; rintro en w8 ⟨rfl, h1, h2⟩; have HP8 : Hid (Bd 63 w0.heap.size b (m ++ jw ([[115, 116, 101, 112]] ++ wdW x) ++ [10]) w8) := h1; have HK8 : Hid (Bk w0.heap.size b w w8) := HK9.out.trans ((Bk.of_below HBD.out.sz HBc.out).trans h2); clear h1 h2))
              --@U7
              go_roundw
              case rel => exact ⟨(k + 1), m ++ wdH ((k + 1) - k) x ++ [10], HKC.out.2, by go_num, HNX.out, by unfold Hid; rw [← HJ.out]; exact HP8.out, HK8.out⟩
              case measure => have := HKC.out; simp [intOf]; omega
            · obtain ⟨q, hq⟩ : ∃ q, q = c - k := ⟨_, rfl⟩
              rw [← hq] at HNX HIT
              have hqI : (c : Int) - (k : Int) = (q : Int) := by omega
              have hq1 : (1 : Int) < (q : Int) := by omega
              have hq2 : q ≤ 4000 := by omega
              have HQ : Hid (q < 100000) := by unfold Hid; omega
              have HJ : Hid (jw ([115, 116, 101, 112, 115] :: dcL q :: wdW x) = wdH q x) := jw_steps _ (by omega) x
              have HJL : Hid ((jw ([115, 116, 101, 112, 115] :: dcL q :: wdW x)).length ≤ 1000000) := by unfold Hid; rw [HJ.out]; have := HHL.out q HQ.out; omega
              clear hq hc1 hc2 h1
              --@U6
              obtain ⟨WS, hWS, rS, bS, sS⟩ := start1 W9 #[.string ⟨#[115, 116, 101, 112]⟩] 9
              have HBS : Hid (Below W9.heap.size W9 WS) := bS.out
              go_upto_region 6 with fail
              clear hWS rS sS bS
              go_upto_region 8 with fail
              go_upto_region 9 with (go_at_call 21; refine (HIT.out _ (HB9W.out.trans (HBS.out.mono HB9W.out.size))).mono ?_; rintro en wi ⟨rfl, hb⟩; have HBi : Hid (Below W9.heap.size W9 wi) := HBS.out.trans (hb.mono HBS.out.size); clear hb)
              obtain ⟨WA, hWA, rA, bA, sA⟩ := start1 wi #[.string ⟨#[115, 116, 101, 112, 115]⟩, .string (tS (dcL q))] 9
              rw [hWA]
              have HB9A : Hid (Below W9.heap.size W9 WA) := HBi.out.trans (bA.out.mono HBi.out.size)
              have HS9 : Hid (W9.heap.size ≤ WA.heap.size) := HB9A.out.size
              have HOW : Hid (WA.ownsRow W9.heap.size 9 1 (.slice (some ⟨wi.heap.size, 0, none⟩) 2 2) ([[115, 116, 101, 112, 115], dcL q] : List Tx).length (stv [[115, 116, 101, 112, 115], dcL q])) := by unfold Hid; rw [← hWA]; exact own_built wi [[115, 116, 101, 112, 115], dcL q] _ HBi.out.size (by simp) _ rfl
              have HBWA : Hid (Below w0.heap.size w0 WA) := HB9W.out.trans (HB9A.out.mono HB9W.out.size)
              have CW : Hid (∀ i z, (#[.bool x.t, .bool x.e, .bool x.s, uk] : Array Value)[i]? = some z → WA.cell? ⟨g, off + k * 4 + i, none⟩ = some z) := fun i z h => (HBWA.out.cell (p := ⟨g, off + k * 4 + i, none⟩) HGG.out).trans (HCK.out i z h)
              clear rA bA sA hWA
              go_wp2_with (first
                | (refine wpList_load_agg (by rfl) 48 _ (by rfl) g (off + k * 4) (by rfl) #[.bool x.t, .bool x.e, .bool x.s, uk] _ CW.out Tryd.underlying48 (by rfl) (info_wd _ _ _ _) ?_)
                | (go_at_call 50; refine (wdWords_c x.t x.e x.s x.i HBK.out.2.1 (by have := HBK.out.2.2; omega) uk _ (HBK.out.1.later HBWA.out rfl)).mono ?_; rintro en wb ⟨u9, rfl, h1, h2⟩; have HU : Hid (wb.ownsRow WA.heap.size 9 1 u9 (wdW x).length (stv (wdW x))) := h1; have HBb : Hid (Below WA.heap.size WA wb) := h2; clear h1 h2)
                | (at_builtin; refine appW2 (by rfl) _ _ (by rfl) W9.heap.size _ [[115, 116, 101, 112, 115], dcL q] (by rfl) (ownW_later HOW.out HBb.out) _ (wdW x) WA.heap.size (by rfl) HU.out (by have := wdW_len x; simp only [List.length_cons, List.length_nil]; omega) (Nat.le_trans HS9.out HBb.out.size) ?_; intro v7 wc h1 h2 h3; obtain ⟨gv, cv, rfl, hcv, hgv, hcl⟩ := own_slice h1 (by simp); have HCL : Hid (∀ (j : Nat) y, ([[115, 116, 101, 112, 115], dcL q] ++ wdW x)[j]? = some y → wc.cell? ⟨gv, 0 + j, none⟩ = some (.string (tS y))) := hcl; have HGV : Hid (gv < wc.heap.size ∧ ([[115, 116, 101, 112, 115], dcL q] ++ wdW x).length ≤ cv) := ⟨hgv, hcv⟩; have HBc : Hid (Below W9.heap.size W9 wc) := HB9A.out.trans ((HBb.out.mono HS9.out).trans h2); clear h1 h2 h3 hcl hgv hcv)
                | (go_at_call 20; refine (add_c ([[115, 116, 101, 112, 115], dcL q] ++ wdW x) gv 0 cv wc (HBD.out.later HBc.out) HCL.out HGV.out.1 (by have := wdW_len x; simp only [List.length_append, List.length_cons, List.length_nil]; omega) HGV.out.2 HJL.out (by have := HML.out; omega)).mono ?_; rintro en w8 ⟨rfl, h1, h2⟩; have HP8 : Hid (Bd 63 w0.heap.size b (m ++ jw ([[115, 116, 101, 112, 115], dcL q] ++ wdW x) ++ [10]) w8) := h1; have HK8 : Hid (Bk w0.heap.size b w w8) := HK9.out.trans ((Bk.of_below HBD.out.sz HBc.out).trans h2); clear h1 h2))
              --@U7
              go_roundw
              case rel => exact ⟨c, m ++ wdH q x ++ [10], HKC.out.2, by go_num, HNX.out, by unfold Hid; rw [← HJ.out]; exact HP8.out, HK8.out⟩
              case measure => have := HKC.out; simp [intOf]; omega
          · go_wp2
            go_roundw
            case rel => exact ⟨c + 1, by omega, by omega, by go_num, HRH.out rfl, HB9.out⟩
            case measure => simp [intOf]; omega
        · have hce : c = n := by omega
          have HRC : Hid (runN x (ws.drop (k + 1)) = c - (k + 1)) := by unfold Hid; have := HRN.out; rw [hce, HN.out, List.drop_length] at this; rw [hce, HN.out]; simpa [runN] using this
          have hcI : ¬ ((c : Int) < n) := by omega
          clear hce
          have := later_nonempty wr
          go_upto_region 3 with fail
          refine wp_region_later (x0 := Later.start wr) (by kernel_rfl) (by kernel_rfl) ?_
          repeat (go_big_quiet_step (fail))
          refine wpQuiet_nil ?_
          rintro w' ⟨x9, rfl⟩
          have HB9 : Hid (Below w5.heap.size w5 x9.1) := HBQ.out.trans (x9.below.mono HBQ.out.size)
          generalize x9.1 = W9 at HB9 ⊢
          --@U4
          have HB9W : Hid (Below w0.heap.size w0 W9) := HWR.out.trans (HB9.out.mono HWR.out.size)
          have HBD : Hid (Bd 63 w0.heap.size b m W9) := HD.out.later HB9.out
          have HML : Hid (m.length ≤ 92000000) := by unfold Hid; have := congrArg List.length HE.out; rw [List.length_append] at this; have := HTT.out; omega
          have HK9 : Hid (Bk w0.heap.size b w W9) := HK.out.trans (Bk.of_below HD.out.sz HB9.out)
          have HHL : Hid (∀ q : Nat, q < 100000 → (wdH q x).length ≤ 350) := fun q h => wdH_len q h x HBK.out.2.2
          have HNX : Hid (m ++ wdH (c - k) x ++ [10] ++ lnT (wdLs (ws.drop c)) = T) := by
            have e1 : 1 + runN x (ws.drop (k + 1)) = c - k := by have := HRC.out; omega
            have e2 : (ws.drop (k + 1)).drop (runN x (ws.drop (k + 1))) = ws.drop c := by rw [List.drop_drop]; congr 1; have := HRC.out; omega
            unfold Hid; have := HE.out; rw [HD0.out, wdLs_more, lnT_cons, e1, e2] at this; rw [← this]; simp
          have HKC : Hid (k + 1 ≤ c ∧ c ≤ n) := ⟨hc1, hc2⟩
          have HIT : Hid (∀ w', Below w0.heap.size w0 w' → Calls Tryd.prog 21 #[.int .i64 ((c - k : Nat) : Int)] w' fun e w'' => e = .returned (.string (tS (dcL (c - k)))) ∧ Below w'.heap.size w' w'') := fun w' h => itoa_c (c - k) (by omega) w' (HG.out w' h).2
          by_cases h1 : c = k + 1
          · subst h1
            have hcnt : ((k + 1 : Nat) : Int) - (k : Int) = 1 := by omega
            have hcw : IntKind.i64.wrap 1 = 1 := by kernel_rfl
            have HJ : Hid (jw ([115, 116, 101, 112] :: wdW x) = wdH (k + 1 - k) x) := by unfold Hid; rw [jw_step, show k + 1 - k = 1 by omega]
            have HJL : Hid ((jw ([115, 116, 101, 112] :: wdW x)).length ≤ 1000000) := by unfold Hid; rw [HJ.out]; have := HHL.out (k + 1 - k) (by omega); omega
            clear hc1 hc2 HIT
            --@U5
            obtain ⟨WA, hWA, rA, bA, sA⟩ := start1 W9 #[.string ⟨#[115, 116, 101, 112]⟩] 9
            have HOW : Hid (WA.ownsRow W9.heap.size 9 1 (.slice (some ⟨W9.heap.size, 0, none⟩) 1 1) ([[115, 116, 101, 112]] : List Tx).length (stv [[115, 116, 101, 112]])) := by unfold Hid; rw [← hWA]; exact own_built W9 [[115, 116, 101, 112]] _ (Nat.le_refl _) (by simp) _ rfl
            have HB9A : Hid (Below W9.heap.size W9 WA) := bA.out
            have HS9 : Hid (W9.heap.size ≤ WA.heap.size) := bA.out.size
            have HBWA : Hid (Below w0.heap.size w0 WA) := HB9W.out.trans (bA.out.mono HB9W.out.size)
            have CW : Hid (∀ i z, (#[.bool x.t, .bool x.e, .bool x.s, uk] : Array Value)[i]? = some z → WA.cell? ⟨g, off + k * 4 + i, none⟩ = some z) := fun i z h => (HBWA.out.cell (p := ⟨g, off + k * 4 + i, none⟩) HGG.out).trans (HCK.out i z h)
            clear rA bA sA
            go_upto_region 6 with fail
            clear hWA
            go_wp2_with (first
              | (refine wpList_load_agg (by rfl) 48 _ (by rfl) g (off + k * 4) (by rfl) #[.bool x.t, .bool x.e, .bool x.s, uk] _ CW.out Tryd.underlying48 (by rfl) (info_wd _ _ _ _) ?_)
              | (go_at_call 50; refine (wdWords_c x.t x.e x.s x.i HBK.out.2.1 (by have := HBK.out.2.2; omega) uk _ (HBK.out.1.later HBWA.out rfl)).mono ?_; rintro en wb ⟨u9, rfl, h1, h2⟩; have HU : Hid (wb.ownsRow WA.heap.size 9 1 u9 (wdW x).length (stv (wdW x))) := h1; have HBb : Hid (Below WA.heap.size WA wb) := h2; clear h1 h2)
              | (at_builtin; refine appW2 (by rfl) _ _ (by rfl) W9.heap.size _ [[115, 116, 101, 112]] (by rfl) (ownW_later HOW.out HBb.out) _ (wdW x) WA.heap.size (by rfl) HU.out (by have := wdW_len x; simp only [List.length_cons, List.length_nil]; omega) (Nat.le_trans HS9.out HBb.out.size) ?_; intro v7 wc h1 h2 h3; obtain ⟨gv, cv, rfl, hcv, hgv, hcl⟩ := own_slice h1 (by simp); have HCL : Hid (∀ (j : Nat) y, ([[115, 116, 101, 112]] ++ wdW x)[j]? = some y → wc.cell? ⟨gv, 0 + j, none⟩ = some (.string (tS y))) := hcl; have HGV : Hid (gv < wc.heap.size ∧ ([[115, 116, 101, 112]] ++ wdW x).length ≤ cv) := ⟨hgv, hcv⟩; have HBc : Hid (Below W9.heap.size W9 wc) := HB9A.out.trans ((HBb.out.mono HS9.out).trans h2); clear h1 h2 h3 hcl hgv hcv)
              | (go_at_call 20; refine (add_c ([[115, 116, 101, 112]] ++ wdW x) gv 0 cv wc (HBD.out.later HBc.out) HCL.out HGV.out.1 (by have := wdW_len x; simp only [List.length_append, List.length_cons, List.length_nil]; omega) HGV.out.2 HJL.out (by have := HML.out; omega)).mono ?_; rintro en w8 ⟨rfl, h1, h2⟩; have HP8 : Hid (Bd 63 w0.heap.size b (m ++ jw ([[115, 116, 101, 112]] ++ wdW x) ++ [10]) w8) := h1; have HK8 : Hid (Bk w0.heap.size b w w8) := HK9.out.trans ((Bk.of_below HBD.out.sz HBc.out).trans h2); clear h1 h2))
            --@U7
            go_roundw
            case rel => exact ⟨(k + 1), m ++ wdH ((k + 1) - k) x ++ [10], HKC.out.2, by go_num, HNX.out, by unfold Hid; rw [← HJ.out]; exact HP8.out, HK8.out⟩
            case measure => have := HKC.out; simp [intOf]; omega
          · obtain ⟨q, hq⟩ : ∃ q, q = c - k := ⟨_, rfl⟩
            rw [← hq] at HNX HIT
            have hqI : (c : Int) - (k : Int) = (q : Int) := by omega
            have hq1 : (1 : Int) < (q : Int) := by omega
            have hq2 : q ≤ 4000 := by omega
            have HQ : Hid (q < 100000) := by unfold Hid; omega
            have HJ : Hid (jw ([115, 116, 101, 112, 115] :: dcL q :: wdW x) = wdH q x) := jw_steps _ (by omega) x
            have HJL : Hid ((jw ([115, 116, 101, 112, 115] :: dcL q :: wdW x)).length ≤ 1000000) := by unfold Hid; rw [HJ.out]; have := HHL.out q HQ.out; omega
            clear hq hc1 hc2 h1
            --@U6
            obtain ⟨WS, hWS, rS, bS, sS⟩ := start1 W9 #[.string ⟨#[115, 116, 101, 112]⟩] 9
            have HBS : Hid (Below W9.heap.size W9 WS) := bS.out
            go_upto_region 6 with fail
            clear hWS rS sS bS
            go_upto_region 8 with fail
            go_upto_region 9 with (go_at_call 21; refine (HIT.out _ (HB9W.out.trans (HBS.out.mono HB9W.out.size))).mono ?_; rintro en wi ⟨rfl, hb⟩; have HBi : Hid (Below W9.heap.size W9 wi) := HBS.out.trans (hb.mono HBS.out.size); clear hb)
            obtain ⟨WA, hWA, rA, bA, sA⟩ := start1 wi #[.string ⟨#[115, 116, 101, 112, 115]⟩, .string (tS (dcL q))] 9
            rw [hWA]
            have HB9A : Hid (Below W9.heap.size W9 WA) := HBi.out.trans (bA.out.mono HBi.out.size)
            have HS9 : Hid (W9.heap.size ≤ WA.heap.size) := HB9A.out.size
            have HOW : Hid (WA.ownsRow W9.heap.size 9 1 (.slice (some ⟨wi.heap.size, 0, none⟩) 2 2) ([[115, 116, 101, 112, 115], dcL q] : List Tx).length (stv [[115, 116, 101, 112, 115], dcL q])) := by unfold Hid; rw [← hWA]; exact own_built wi [[115, 116, 101, 112, 115], dcL q] _ HBi.out.size (by simp) _ rfl
            have HBWA : Hid (Below w0.heap.size w0 WA) := HB9W.out.trans (HB9A.out.mono HB9W.out.size)
            have CW : Hid (∀ i z, (#[.bool x.t, .bool x.e, .bool x.s, uk] : Array Value)[i]? = some z → WA.cell? ⟨g, off + k * 4 + i, none⟩ = some z) := fun i z h => (HBWA.out.cell (p := ⟨g, off + k * 4 + i, none⟩) HGG.out).trans (HCK.out i z h)
            clear rA bA sA hWA
            go_wp2_with (first
              | (refine wpList_load_agg (by rfl) 48 _ (by rfl) g (off + k * 4) (by rfl) #[.bool x.t, .bool x.e, .bool x.s, uk] _ CW.out Tryd.underlying48 (by rfl) (info_wd _ _ _ _) ?_)
              | (go_at_call 50; refine (wdWords_c x.t x.e x.s x.i HBK.out.2.1 (by have := HBK.out.2.2; omega) uk _ (HBK.out.1.later HBWA.out rfl)).mono ?_; rintro en wb ⟨u9, rfl, h1, h2⟩; have HU : Hid (wb.ownsRow WA.heap.size 9 1 u9 (wdW x).length (stv (wdW x))) := h1; have HBb : Hid (Below WA.heap.size WA wb) := h2; clear h1 h2)
              | (at_builtin; refine appW2 (by rfl) _ _ (by rfl) W9.heap.size _ [[115, 116, 101, 112, 115], dcL q] (by rfl) (ownW_later HOW.out HBb.out) _ (wdW x) WA.heap.size (by rfl) HU.out (by have := wdW_len x; simp only [List.length_cons, List.length_nil]; omega) (Nat.le_trans HS9.out HBb.out.size) ?_; intro v7 wc h1 h2 h3; obtain ⟨gv, cv, rfl, hcv, hgv, hcl⟩ := own_slice h1 (by simp); have HCL : Hid (∀ (j : Nat) y, ([[115, 116, 101, 112, 115], dcL q] ++ wdW x)[j]? = some y → wc.cell? ⟨gv, 0 + j, none⟩ = some (.string (tS y))) := hcl; have HGV : Hid (gv < wc.heap.size ∧ ([[115, 116, 101, 112, 115], dcL q] ++ wdW x).length ≤ cv) := ⟨hgv, hcv⟩; have HBc : Hid (Below W9.heap.size W9 wc) := HB9A.out.trans ((HBb.out.mono HS9.out).trans h2); clear h1 h2 h3 hcl hgv hcv)
              | (go_at_call 20; refine (add_c ([[115, 116, 101, 112, 115], dcL q] ++ wdW x) gv 0 cv wc (HBD.out.later HBc.out) HCL.out HGV.out.1 (by have := wdW_len x; simp only [List.length_append, List.length_cons, List.length_nil]; omega) HGV.out.2 HJL.out (by have := HML.out; omega)).mono ?_; rintro en w8 ⟨rfl, h1, h2⟩; have HP8 : Hid (Bd 63 w0.heap.size b (m ++ jw ([[115, 116, 101, 112, 115], dcL q] ++ wdW x) ++ [10]) w8) := h1; have HK8 : Hid (Bk w0.heap.size b w w8) := HK9.out.trans ((Bk.of_below HBD.out.sz HBc.out).trans h2); clear h1 h2))
            --@U7
            go_roundw
            case rel => exact ⟨c, m ++ wdH q x ++ [10], HKC.out.2, by go_num, HNX.out, by unfold Hid; rw [← HJ.out]; exact HP8.out, HK8.out⟩
            case measure => have := HKC.out; simp [intOf]; omega
    · have hke : k = n := by omega
      have HF : Hid (m = T) := by unfold Hid; have := HE.out; rw [hke, HN.out, List.drop_length, wdLs_nil, lnT_nil, List.append_nil] at this; exact this
      subst hke
      go_wp2
      go_end0
      exact ⟨rfl, by rw [← HF.out]; exact HD.out, HK.out⟩
end Go.Proofs.YthmjimmmkoeeoaaDoor
