/-
  Dz Dla.
-/
import Derived.Test.YthmjimmmkoeeoaaDoorM35
namespace Go.Proofs.YthmjimmmkoeeoaaDoor
set_option linter.unusedVariables false
set_option maxRecDepth 100000
open Go.ChangeShapes Go.WideShapes Go.ChangeAt Go.RowKit Go.Deep Go.Shelf
theorem eqG_cpu (x y : Operand) (u v : Array Value) (w : World) : (eqGuard .neq 31 x y (.agg u) (.agg v)).run Tryd.prog w = .ok () w := by kernel_rfl
set_option maxRecDepth 100000 in
theorem wpList_neq_agg {ops : Array Oper} {rest : List Oper} {o : Oper} {a : Act} {w : World} {Q : Exit → Act → World → Prop} (hw : Region.wanted o (yielded ops a.tmps) = true) (t t2 : TypeId) (x y : Operand) (ho : o.op = .binOp .neq t x y t2)
    (u v : Array Value) (hx : a.eval x = .agg u) (hy : a.eval y = .agg v) (he : (Op.equalIn 10000 t (.agg u) (.agg v)).run Tryd.prog w = .ok true w) (hg : (eqGuard .neq t x y (.agg u) (.agg v)).run Tryd.prog w = .ok () w)
    (h : wpList Tryd.prog ops Q rest (a.put o.dst (.bool false)) w) : wpList Tryd.prog ops Q (o :: rest) a w :=
  BigFrame.wpList_want hw fun _ hK => by
    unfold Oper.wp execOp
    simp only [ho, hx, hy]
    go_simp
    exact hK _ _ h
/-- At the operation of this slot (asked with little reduction: it fails at once elsewhere). -/
theorem wpList_at {P : Program} {ops : Array Oper} {rest : List Oper} {o : Oper} {a : Act} {w : World} {Q : Exit → Act → World → Prop} (n : Tmp) (hn : o.dst = some n) (h : wpList P ops Q (o :: rest) a w) : wpList P ops Q (o :: rest) a w := h
set_option maxHeartbeats 4000000 in
theorem sseg_c (A S F : Int) (a b : Value) (d : List Int) (w : World) (ha : Byt w a d) (hb : Byt w b d) : Calls Tryd.prog 18 #[.agg #[.int .u64 A, .int .u64 S, .int .i64 F, a], .agg #[.int .u64 A, .int .u64 S, .int .i64 F, b]] w fun e w' => e = .returned (.bool true) ∧ Below w.heap.size w w' := by
  obtain ⟨W0, hW0, r0, r1, b0, s0⟩ := start2 w #[.int .u64 A, .int .u64 S, .int .i64 F, a] #[.int .u64 A, .int .u64 S, .int .i64 F, b] 46 46
  have k1 := (ha.later b0.out rfl).conv
  have k2 := (hb.later b0.out rfl).conv
  obtain ⟨x1, y1, rfl, _⟩ := ha
  obtain ⟨x2, y2, rfl, _⟩ := hb
  have a0 := r0.out.cell 0
  have a1 := r0.out.cell 1
  have a2 := r0.out.cell 2
  have a3 := r0.out.cell 3
  have c0 := r1.out.cell 0
  have c1 := r1.out.cell 1
  have c2 := r1.out.cell 2
  have c3 := r1.out.cell 3
  generalize strOfNums d = s at *
  clear s0
  go_enter Tryd.func18, Tryd.ntmps18
  go_upto_region 1 with fail
  clear hW0
  go_wp2
  go_ret
  exact ⟨rfl, b0.out⟩
set_option maxHeartbeats 16000000 in
theorem sdeck_c (r : Int) (K : Cp) (mt : BitVec 64) (ps : List Pt) (ws : List Wd) (v u v' u' : Value) (w : World) (hv : Pts w v ps) (hu : Wds w u ws) (hv' : Pts w v' ps) (hu' : Wds w u' ws) (hn : ps.length ≤ 2932031007400) (hm : ws.length ≤ 4398046511000) :
    Calls Tryd.prog 7 #[.agg (dkc r K mt v u), .agg (dkc r K mt v' u')] w fun e w' => e = .returned (.bool true) ∧ Below w.heap.size w w' := by
  obtain ⟨W0, hW0, r0, r1, b0, s0⟩ := start2 w (dkc r K mt v u) (dkc r K mt v' u') 35 35
  have HV : Hid (Pts W0 v ps) := hv.later b0.out
  have HU : Hid (Wds W0 u ws) := hu.later b0.out
  have HV' : Hid (Pts W0 v' ps) := hv'.later b0.out
  have HU' : Hid (Wds W0 u' ws) := hu'.later b0.out
  have HNM : Hid (ps.length ≤ 2932031007400 ∧ ws.length ≤ 4398046511000) := ⟨hn, hm⟩
  obtain ⟨va, vc, rfl, _, _, _⟩ := hv
  obtain ⟨ua, uc, rfl, _, _, _⟩ := hu
  obtain ⟨va', vc', rfl, _, _, _⟩ := hv'
  obtain ⟨ua', uc', rfl, _, _, _⟩ := hu'
  obtain ⟨N, hN⟩ : ∃ N, N = ps.length := ⟨_, rfl⟩
  obtain ⟨M, hM⟩ : ∃ M, M = ws.length := ⟨_, rfl⟩
  have HN : Hid (N = ps.length) := hN
  have HM : Hid (M = ws.length) := hM
  have l0 := r0.out.lt
  have l1 := r1.out.lt
  have HL01 : Hid (w.heap.size < W0.heap.size) := l0
  have HC : Hid (∀ w', Below W0.heap.size W0 w' → (w'.cell? ⟨w.heap.size, 84, none⟩ = some (.slice va N vc) ∧ w'.cell? ⟨w.heap.size, 85, none⟩ = some (.slice ua M uc)) ∧ w'.cell? ⟨w.heap.size + 1, 84, none⟩ = some (.slice va' N vc') ∧ w'.cell? ⟨w.heap.size + 1, 85, none⟩ = some (.slice ua' M uc')) := fun w' hb => by
    rw [hN, hM]
    exact ⟨⟨(hb.cell (p := ⟨w.heap.size, 84, none⟩) l0).trans ((r0.out.cell (83 + 1)).trans ((dkc_e ..).trans rfl)), (hb.cell (p := ⟨w.heap.size, 85, none⟩) l0).trans ((r0.out.cell (83 + 2)).trans ((dkc_e ..).trans rfl))⟩, (hb.cell (p := ⟨w.heap.size + 1, 84, none⟩) l1).trans ((r1.out.cell (83 + 1)).trans ((dkc_e ..).trans rfl)), (hb.cell (p := ⟨w.heap.size + 1, 85, none⟩) l1).trans ((r1.out.cell (83 + 2)).trans ((dkc_e ..).trans rfl))⟩
  have a0 : W0.cell? ⟨w.heap.size, 0, none⟩ = some (.int .i64 r) := (r0.out.cell 0).trans (dkc_r ..)
  have c0 : W0.cell? ⟨w.heap.size + 1, 0, none⟩ = some (.int .i64 r) := (r1.out.cell 0).trans (dkc_r ..)
  have a83 : W0.cell? ⟨w.heap.size, 83, none⟩ = some (.int .u64 (n64 mt)) := (r0.out.cell (83 + 0)).trans ((dkc_e ..).trans rfl)
  have c83 : W0.cell? ⟨w.heap.size + 1, 83, none⟩ = some (.int .u64 (n64 mt)) := (r1.out.cell (83 + 0)).trans ((dkc_e ..).trans rfl)
  obtain ⟨⟨a84, a85⟩, c84, c85⟩ := HC.out W0 (Below.refl _ _)
  have HK1 : Hid (∀ j x, (cpc K)[j]? = some x → W0.cell? ⟨w.heap.size, 1 + j, none⟩ = some x) := fun j x h => (r0.out.cell (1 + j)).trans (dkc_c _ _ _ _ _ j x h)
  have HK2 : Hid (∀ j x, (cpc K)[j]? = some x → W0.cell? ⟨w.heap.size + 1, 1 + j, none⟩ = some x) := fun j x h => (r1.out.cell (1 + j)).trans (dkc_c _ _ _ _ _ j x h)
  have HEQ : Hid (∀ w', (Op.equalIn 10000 31 (.agg (cpc K)) (.agg (cpc K))).run Tryd.prog w' = .ok true w') := fun w' => eq_cpu w' K
  have HIC : Hid ((Tryd.prog.info? 31).map (·.size) = some (cpc K).size) := info_cpu _
  generalize dkc r K mt (.slice va ps.length vc) (.slice ua ws.length uc) = D1 at hW0 ⊢
  generalize dkc r K mt (.slice va' ps.length vc') (.slice ua' ws.length uc') = D2 at hW0 ⊢
  generalize cpc K = CK at HK1 HK2 HEQ HIC
  have hN1 : N ≤ 2932031007400 := by rw [hN]; exact hn
  have hM1 : M ≤ 4398046511000 := by rw [hM]; exact hm
  clear hN hM hn hm s0 r0 r1 l0 l1
  go_enter Tryd.func7, Tryd.ntmps7
  go_upto_region 1 with fail
  clear hW0
  generalize w.heap.size + 1 = g1 at HC c0 c83 c84 c85 HK2 ⊢
  generalize hg0 : w.heap.size = g0 at HC a0 a83 a84 a85 HK1 ⊢
  clear HL01
  --@U1
  go_upto_region 3 with (first
    | ((with_reducible refine wpList_at 17 rfl ?_); refine wpList_load_aggG (by rfl) 31 _ (by rfl) g0 1 (by rfl) CK _ HK1.out Tryd.underlying31 (by rfl) HIC.out ?_)
    | ((with_reducible refine wpList_at 19 rfl ?_); refine wpList_load_aggG (by rfl) 31 _ (by rfl) g1 1 (by rfl) CK _ HK2.out Tryd.underlying31 (by rfl) HIC.out ?_)
    | ((with_reducible refine wpList_at 20 rfl ?_); refine wpList_neq_agg (by rfl) 31 _ _ _ (by rfl) CK CK (by rfl) (by rfl) (HEQ.out _) (eqG_cpu _ _ _ _ _) ?_))
  clear HK1 HK2 HEQ HIC a0 c0 a83 c83 a84 a85 c84 c85
  go_upto_region 4 with fail
  --@U2
  go_loopw [5, 6] (fun i _ wr => ∃ k : Nat, k ≤ N ∧ i = .int .i64 k ∧ Hid (Below W0.heap.size W0 wr)) (fun i _ _ => N - (intOf i).toNat)
  case atStart => exact ⟨0, Nat.zero_le _, rfl, Below.refl _ _⟩
  case round =>
    obtain ⟨k, hk, rfl, HB⟩ := hrel
    obtain ⟨⟨a84, a85⟩, c84, c85⟩ := HC.out wr HB.out
    by_cases hlt : k < N
    · have hltI : (k : Int) < N := by omega
      obtain ⟨g, off, cap2, e1, hc2, hg, hcs⟩ := HV.out.at k (by rw [← HN.out]; exact hlt)
      cases e1
      obtain ⟨g', off', cap2', e1', hc2', hg', hcs'⟩ := HV'.out.at k (by rw [← HN.out]; exact hlt)
      cases e1'
      obtain ⟨u1, hck, hbk, hak⟩ := hcs k (by rw [← HN.out]; exact hlt)
      obtain ⟨u2, hck', hbk', hak'⟩ := hcs' k (by rw [← HN.out]; exact hlt)
      generalize ps.getD k pt0 = p at hck hbk hak hck' hbk' hak'
      have hgr : g < wr.heap.size := Nat.lt_of_lt_of_le hg HB.out.size
      have hgr' : g' < wr.heap.size := Nat.lt_of_lt_of_le hg' HB.out.size
      have C1 : Hid (∀ i y, (#[.int .u64 (n64 p.a), .int .u64 (n64 p.s), .int .i64 p.f, u1] : Array Value)[i]? = some y → wr.cell? ⟨g, off + k * 4 + i, none⟩ = some y) := fun i y h => (HB.out.cell (p := ⟨g, off + k * 4 + i, none⟩) hg).trans (hck i y h)
      have C2 : Hid (∀ i y, (#[.int .u64 (n64 p.a), .int .u64 (n64 p.s), .int .i64 p.f, u2] : Array Value)[i]? = some y → wr.cell? ⟨g', off' + k * 4 + i, none⟩ = some y) := fun i y h => (HB.out.cell (p := ⟨g', off' + k * 4 + i, none⟩) hg').trans (hck' i y h)
      have HSS : Hid (∀ x : Later wr, Calls Tryd.prog 18 #[.agg #[.int .u64 (n64 p.a), .int .u64 (n64 p.s), .int .i64 p.f, u1], .agg #[.int .u64 (n64 p.a), .int .u64 (n64 p.s), .int .i64 p.f, u2]] x.1 fun e w' => e = .returned (.bool true) ∧ Below x.1.heap.size x.1 w') := fun x => sseg_c _ _ _ u1 u2 p.d x.1 (hbk.later (HB.out.trans (x.below.mono HB.out.size)) rfl) (hbk'.later (HB.out.trans (x.below.mono HB.out.size)) rfl)
      have i1 : (Tryd.prog.info? 46).map (·.size) = some (#[.int .u64 (n64 p.a), .int .u64 (n64 p.s), .int .i64 p.f, u1] : Array Value).size := info_sg _ _ _ _
      have i2 : (Tryd.prog.info? 46).map (·.size) = some (#[.int .u64 (n64 p.a), .int .u64 (n64 p.s), .int .i64 p.f, u2] : Array Value).size := info_sg _ _ _ _
      generalize (#[.int .u64 (n64 p.a), .int .u64 (n64 p.s), .int .i64 p.f, u1] : Array Value) = X1 at C1 HSS i1
      generalize (#[.int .u64 (n64 p.a), .int .u64 (n64 p.s), .int .i64 p.f, u2] : Array Value) = X2 at C2 HSS i2
      have HKN : Hid (k + 1 ≤ N) := hlt
      have := later_nonempty wr
      have q84 : ∀ x : Later wr, x.1.cell? ⟨g0, 84, none⟩ = some (.slice (some ⟨g, off, none⟩) N vc) := fun x => (HC.out x.1 (HB.out.trans (x.below.mono HB.out.size))).1.1
      have r84 : ∀ x : Later wr, x.1.cell? ⟨g1, 84, none⟩ = some (.slice (some ⟨g', off', none⟩) N vc') := fun x => (HC.out x.1 (HB.out.trans (x.below.mono HB.out.size))).2.1
      clear hck hbk hak hck' hbk' hak' hg hg' hcs hcs' hc2 hc2' c85 a85
      go_upto_region 6 with fail
      --@U3
      refine wp_region_later (x0 := Later.start wr) (by kernel_rfl) (by kernel_rfl) ?_
      repeat (first
        | (go_big_quiet_want; refine quiet_load_agg 46 _ (by rfl) g (off + k * 4) (by rfl) X1 _ hgr C1.out Tryd.underlying46 (by rfl) i1 ?_; simp only [Act.put, List.setIfInBounds_toArray, List.set_cons_succ, List.set_cons_zero]; go_big_quiet_on)
        | (go_big_quiet_want; refine quiet_load_agg 46 _ (by rfl) g' (off' + k * 4) (by rfl) X2 _ hgr' C2.out Tryd.underlying46 (by rfl) i2 ?_; simp only [Act.put, List.setIfInBounds_toArray, List.set_cons_succ, List.set_cons_zero]; go_big_quiet_on)
        | (go_big_quiet_step ((go_at_call 18; exact calls_later (HSS.out _)))))
      refine wpQuiet_nil ?_
      rintro w' ⟨x9, rfl⟩
      have HB9 : Hid (Below W0.heap.size W0 x9.1) := HB.out.trans (x9.below.mono HB.out.size)
      generalize x9.1 = W9 at HB9 ⊢
      clear C1 C2 HSS q84 r84 i1 i2
      go_wp2
      go_roundw
      case rel => exact ⟨k + 1, HKN.out, by go_num, HB9⟩
      case measure => have := HKN.out; simp [intOf]; omega
    · have hqI : ¬ (k : Int) < (N : Int) := by omega
      clear hlt hk
      rename World => w7
      go_upto_region 10 with fail
      have HB7 : Hid (Below W0.heap.size W0 w7) := HB
      clear HB a84 a85 c84 c85 hqI
      --@U4
      go_loopw [7, 8, 9] (fun i _ _ wr => ∃ q : Nat, q ≤ M ∧ i = .int .i64 q ∧ Hid (Below W0.heap.size W0 wr)) (fun i _ _ _ => M - (intOf i).toNat)
      case atStart => exact ⟨0, Nat.zero_le _, rfl, HB7⟩
      case round =>
        obtain ⟨q, hq, rfl, HB⟩ := hrel
        clear HB7
        obtain ⟨⟨a84, a85⟩, c84, c85⟩ := HC.out wr HB.out
        by_cases hlt : q < M
        · have hltI : (q : Int) < M := by omega
          obtain ⟨g, off, cap2, e1, hc2, hg, hcs⟩ := HU.out.at q (by rw [← HM.out]; exact hlt)
          cases e1
          obtain ⟨g', off', cap2', e1', hc2', hg', hcs'⟩ := HU'.out.at q (by rw [← HM.out]; exact hlt)
          cases e1'
          obtain ⟨u1, hck, hbk, hak⟩ := hcs q (by rw [← HM.out]; exact hlt)
          obtain ⟨u2, hck', hbk', hak'⟩ := hcs' q (by rw [← HM.out]; exact hlt)
          generalize ws.getD q wd0 = p at hck hbk hak hck' hbk' hak'
          have C1 : Hid (∀ i y, (#[.bool p.t, .bool p.e, .bool p.s, u1] : Array Value)[i]? = some y → wr.cell? ⟨g, off + q * 4 + i, none⟩ = some y) := fun i y h => (HB.out.cell (p := ⟨g, off + q * 4 + i, none⟩) hg).trans (hck i y h)
          obtain ⟨WA, hWA, rA, bA, sA⟩ := start1 wr #[.bool p.t, .bool p.e, .bool p.s, u1] 48
          have HBA : Hid (Below W0.heap.size W0 WA) := HB.out.trans (bA.out.mono HB.out.size)
          have C2 : Hid (∀ i y, (#[.bool p.t, .bool p.e, .bool p.s, u2] : Array Value)[i]? = some y → WA.cell? ⟨g', off' + q * 4 + i, none⟩ = some y) := fun i y h => (HBA.out.cell (p := ⟨g', off' + q * 4 + i, none⟩) hg').trans (hck' i y h)
          obtain ⟨WB, hWB, rB, bB, sB⟩ := start1 WA #[.bool p.t, .bool p.e, .bool p.s, u2] 48
          have HBB : Hid (Below W0.heap.size W0 WB) := HBA.out.trans (bB.out.mono HBA.out.size)
          have RA := rA.out.later bB.out rA.out.lt
          have x0 := RA.cell 0
          have x1 := RA.cell 1
          have x2 := RA.cell 2
          have x3 := RA.cell 3
          have y0 := rB.out.cell 0
          have y1 := rB.out.cell 1
          have y2 := rB.out.cell 2
          have y3 := rB.out.cell 3
          have k1 := (hbk.later HBB.out rfl).conv
          have k2 := (hbk'.later HBB.out rfl).conv
          obtain ⟨⟨z84, z85⟩, d84, d85⟩ := HC.out WA HBA.out
          obtain ⟨p1, q1, rfl, _⟩ := hbk
          obtain ⟨p2, q2, rfl, _⟩ := hbk'
          generalize strOfNums p.i = s at k1 k2
          generalize p.i.length = li at *
          generalize p.t = xt at *
          generalize p.e = xe at *
          generalize p.s = xs at *
          have HKN : Hid (q + 1 ≤ M) := hlt
          clear hck hak hck' hak' hg hg' hcs hcs' hc2 hc2' rA rB RA bA bB sA sB
          go_upto_region 13 with (first
            | (refine wpList_allocZ1 (by rfl) 48 (by rfl) #[.bool false, .bool false, .bool false, .slice none 0 0] zero_wd ?_)
            | (refine wpList_store_new (by rfl) 48 _ _ (by rfl) (by rfl) #[.bool false, .bool false, .bool false, .slice none 0 0] #[.bool xt, .bool xe, .bool xs, .slice p1 li q1] (by rfl) (by rfl) (info_wd _ _ _ _) (by rfl) (ones4 (by rfl) (by rfl) (by rfl) (by rfl)) ?_)
            | (refine wpList_load_agg (by rfl) 48 _ (by rfl) g (off + q * 4) (by rfl) #[.bool xt, .bool xe, .bool xs, .slice p1 li q1] _ C1.out Tryd.underlying48 (by rfl) (info_wd _ _ _ _) ?_))
          try rw [hWA]
          clear hWA
          go_upto_region 14 with (first
            | (refine wpList_allocZ1 (by rfl) 48 (by rfl) #[.bool false, .bool false, .bool false, .slice none 0 0] zero_wd ?_)
            | (refine wpList_store_new (by rfl) 48 _ _ (by rfl) (by rfl) #[.bool false, .bool false, .bool false, .slice none 0 0] #[.bool xt, .bool xe, .bool xs, .slice p2 li q2] (by rfl) (by rfl) (info_wd _ _ _ _) (by rfl) (ones4 (by rfl) (by rfl) (by rfl) (by rfl)) ?_)
            | (refine wpList_load_agg (by rfl) 48 _ (by rfl) g' (off' + q * 4) (by rfl) #[.bool xt, .bool xe, .bool xs, .slice p2 li q2] _ C2.out Tryd.underlying48 (by rfl) (info_wd _ _ _ _) ?_))
          try rw [hWB]
          clear hWB
          --@U5
          go_wp2
          go_roundw
          case rel => exact ⟨q + 1, HKN.out, by go_num, HBB⟩
          case measure => have := HKN.out; simp [intOf]; omega
        · have hqI : ¬ (q : Int) < (M : Int) := by omega
          go_wp2
          go_ret
          exact ⟨rfl, by have := b0.out.trans (HB.out.mono b0.out.size); rw [hg0] at this; exact this⟩
end Go.Proofs.YthmjimmmkoeeoaaDoor
namespace Go.Proofs.YthmjimmmkoeeoaaDoor
set_option linter.unusedVariables false
set_option maxRecDepth 100000
open Go.ChangeShapes Go.WideShapes Go.ChangeAt Go.RowKit Go.Deep Go.Shelf
set_option maxHeartbeats 16000000 in
theorem deckPrints_walk (r : Int) (K : Cp) (mt : BitVec 64) (ps : List Pt) (ws : List Wd) (v u : Value) (w : World) (hr : -9223372036854775808 ≤ r ∧ r ≤ 9223372036854775807) (hG : Gp w) (hT : Rt w) (hv : Pts w v ps) (hu : Wds w u ws) (hn : ps.length ≤ 2932031007400) (hm : ws.length ≤ 4398046511000)
    (hd : ∀ p ∈ ps, p.d.length ≤ 140737488355328) (hi : ∀ x ∈ ws, x.i.length ≤ 140737488355328) :
    Calls Tryd.prog 3 #[.agg (dkc r K mt v u)] w fun e w' => e = .returned (.bool true) ∧ Below w.heap.size w w' := by
  obtain ⟨W0, hW0, r0, b0, s0⟩ := start1 w (dkc r K mt v u) 35
  have HCP : Hid (Calls Tryd.prog 4 #[.agg (dkc r K mt v u)] W0 fun e w' => ∃ v' u', e = .returned (.agg (dkc r K mt v' u')) ∧ Pts w' v' ps ∧ Wds w' u' ws ∧ Below W0.heap.size W0 w') := copied_c r K mt ps ws v u W0 (hv.later b0.out) (hu.later b0.out) hn hm hd hi
  have HPR : Hid (∀ (v' u' : Value) w', Below w.heap.size w w' → Pts w' v' ps → Wds w' u' ws → Calls Tryd.prog 5 #[.agg (dkc r K mt v' u')] w' fun e w'' => e = .returned (.tuple #[.string (tS (prT ⟨r, K, mt, ps, ws⟩).1), .int .i64 (prT ⟨r, K, mt, ps, ws⟩).2]) ∧ Below w'.heap.size w' w'') := fun v' u' w' hb h1 h2 => print_c r K mt ps ws v' u' w' hr (hG.next hb) h1 h2 (by omega) (by omega) hd hi
  have HRP : Hid (∀ w', Below w.heap.size w w' → Calls Tryd.prog 6 #[.agg (dkc r K mt v u)] w' fun e w'' => e = .returned (.tuple #[.string (tS (prT ⟨r, K, mt, ps, ws⟩).1), .int .i64 (prT ⟨r, K, mt, ps, ws⟩).2]) ∧ Below w'.heap.size w' w'') := fun w' hb => rprint_c r K mt ps ws v u w' hr (hT.next hb) (hv.later hb) (hu.later hb) (by omega) (by omega) hd hi
  have HSD : Hid (∀ (v' u' : Value) w', Below w.heap.size w w' → Pts w' v' ps → Wds w' u' ws → Calls Tryd.prog 7 #[.agg (dkc r K mt v' u'), .agg (dkc r K mt v u)] w' fun e w'' => e = .returned (.bool true) ∧ Below w'.heap.size w' w'') := fun v' u' w' hb h1 h2 => sdeck_c r K mt ps ws v' u' v u w' h1 h2 (hv.later hb) (hu.later hb) hn hm
  have HCD : Hid (∀ w', Below W0.heap.size W0 w' → ∀ i y, (dkc r K mt v u)[i]? = some y → w'.cell? ⟨w.heap.size, 0 + i, none⟩ = some y) := fun w' hb i y h => by rw [Nat.zero_add]; exact ((hb.cell (p := ⟨w.heap.size, i, none⟩) (by show w.heap.size < _; omega)).trans (r0.out.cell i)).trans h
  have HID := info_dk r K mt v u
  have HZD := zero_dk
  generalize (prT ⟨r, K, mt, ps, ws⟩).2 = q at HPR HRP
  generalize tS (prT ⟨r, K, mt, ps, ws⟩).1 = s at HPR HRP
  have hone : ∀ v' u' : Value, v'.oneCell' = true → u'.oneCell' = true → (dkc r K mt v' u').all (·.oneCell') = true := fun v' u' h1 h2 => ones_dk r K mt v' u' h1 h2
  have HNF : Hid (∀ v' u' : Value, (Tryd.prog.info? 35).map (·.size) = some (dkc r K mt v' u').size ∧ dkZ.size = (dkc r K mt v' u').size) := fun v' u' => ⟨info_dk r K mt v' u', by unfold dkZ; rw [dkc_size, dkc_size]⟩
  have HON : Hid (∀ v' u' : Value, v'.oneCell' = true → u'.oneCell' = true → (dkc r K mt v' u').all (·.oneCell') = true) := hone
  generalize hDC : dkc r K mt v u = DC at hW0 HCP HRP HSD HCD HID ⊢
  clear hG hT hv hu hn hm hd hi hr s0 r0 hone hDC
  go_enter Tryd.func3, Tryd.ntmps3
  go_upto_region 1 with fail
  clear hW0
  --@U1
  go_upto_region 2 with (first
    | (go_at_call 4; refine HCP.out.mono ?_; rintro e w1 ⟨v1, u1, rfl, h1, h2, h3⟩; have HP1 : Hid (Pts w1 v1 ps) := h1; have HU1 : Hid (Wds w1 u1 ws) := h2; have HB1 : Hid (Below W0.heap.size W0 w1) := h3; have hv1 : v1.oneCell' = true := (by obtain ⟨a, c, rfl, _⟩ := h1; rfl); have hu1 : u1.oneCell' = true := (by obtain ⟨a, c, rfl, _⟩ := h2; rfl); have i1 := HNF.out v1 u1; have o1 := HON.out v1 u1 hv1 hu1; clear h1 h2 h3 hv1 hu1 HCP)
    | (refine wpList_allocZ1 (by rfl) 35 (by rfl) dkZ zero_dk ?_)
    | (refine wpList_store_new (by rfl) 35 _ _ (by rfl) (by rfl) dkZ (dkc r K mt v1 u1) (by rfl) (by rfl) i1.1 i1.2 o1 ?_)
    | (refine wpList_load_agg (by rfl) 35 _ (by rfl) w.heap.size 0 (by rfl) DC _ (HCD.out _ (Below.refl _ _)) Tryd.underlying35 (by rfl) HID ?_))
  obtain ⟨W2, hW2, r2, b2, s2⟩ := start1 w1 (dkc r K mt v1 u1) 35
  rw [hW2]
  clear hW2
  have HB2 : Hid (Below W0.heap.size W0 W2) := HB1.out.trans (b2.out.mono HB1.out.size)
  have HW2 : Hid (Below w.heap.size w W2) := b0.out.trans (HB2.out.mono b0.out.size)
  have HP2 : Hid (∀ w', Below W2.heap.size W2 w' → Pts w' v1 ps ∧ Wds w' u1 ws) := fun w' hb => ⟨(HP1.out.later b2.out).later hb, (HU1.out.later b2.out).later hb⟩
  have HCR : Hid (∀ w', Below W2.heap.size W2 w' → ∀ i y, (dkc r K mt v1 u1)[i]? = some y → w'.cell? ⟨w1.heap.size, 0 + i, none⟩ = some y) := fun w' hb i y h => by rw [Nat.zero_add]; exact ((hb.cell (p := ⟨w1.heap.size, i, none⟩) r2.out.lt).trans (r2.out.cell i)).trans h
  have HP3 : Hid (Calls Tryd.prog 5 #[.agg (dkc r K mt v1 u1)] W2 fun e w'' => e = .returned (.tuple #[.string s, .int .i64 q]) ∧ Below W2.heap.size W2 w'') := HPR.out v1 u1 W2 HW2.out (HP2.out W2 (Below.refl _ _)).1 (HP2.out W2 (Below.refl _ _)).2
  have HS3 : Hid (∀ w', Below W2.heap.size W2 w' → Calls Tryd.prog 7 #[.agg (dkc r K mt v1 u1), .agg DC] w' fun e w'' => e = .returned (.bool true) ∧ Below w'.heap.size w' w'') := fun w' hb => HSD.out v1 u1 w' (HW2.out.trans (hb.mono HW2.out.size)) (HP2.out w' hb).1 (HP2.out w' hb).2
  have HIR := i1.1
  clear HPR HSD HNF HON i1 o1 r2 b2 s2 HP1 HU1 HB1 HP2
  generalize w1.heap.size = g2 at *
  generalize dkc r K mt v1 u1 = DR at *
  --@U2
  go_upto_region 3 with (first
    | (go_at_call 5; refine HP3.out.mono ?_; rintro e w3 ⟨rfl, hb⟩; have HB3 : Hid (Below W2.heap.size W2 w3) := hb; clear hb HP3)
    | (refine wpList_load_agg (by rfl) 35 _ (by rfl) g2 0 (by rfl) DR _ (HCR.out _ (Below.refl _ _)) Tryd.underlying35 (by rfl) HIR ?_))
  have HB03 : Hid (Below W0.heap.size W0 w3) := HB2.out.trans (HB3.out.mono HB2.out.size)
  have HQ3 : Hid (Calls Tryd.prog 6 #[.agg DC] w3 fun e w'' => e = .returned (.tuple #[.string s, .int .i64 q]) ∧ Below w3.heap.size w3 w'') := HRP.out w3 (HW2.out.trans (HB3.out.mono HW2.out.size))
  --@U3
  go_upto_region 4 with (first
    | (go_at_call 6; refine HQ3.out.mono ?_; rintro e w4 ⟨rfl, hb⟩; have HB4 : Hid (Below W2.heap.size W2 w4) := HB3.out.trans (hb.mono HB3.out.size); clear hb HQ3)
    | (refine wpList_load_agg (by rfl) 35 _ (by rfl) w.heap.size 0 (by rfl) DC _ (HCD.out _ HB03.out) Tryd.underlying35 (by rfl) HID ?_))
  have HB04 : Hid (Below W0.heap.size W0 w4) := HB2.out.trans (HB4.out.mono HB2.out.size)
  --@U4
  go_wp2_with (first
    | (go_at_call 7; refine (HS3.out _ HB4.out).mono ?_; rintro e w5 ⟨rfl, hb⟩; have HB5 : Hid (Below W2.heap.size W2 w5) := HB4.out.trans (hb.mono HB4.out.size); clear hb)
    | ((with_reducible refine wpList_at 21 rfl ?_); refine wpList_load_agg (by rfl) 35 _ (by rfl) g2 0 (by rfl) DR _ (HCR.out _ HB4.out) Tryd.underlying35 (by rfl) HIR ?_)
    | ((with_reducible refine wpList_at 22 rfl ?_); refine wpList_load_agg (by rfl) 35 _ (by rfl) w.heap.size 0 (by rfl) DC _ (HCD.out _ HB04.out) Tryd.underlying35 (by rfl) HID ?_))
  go_ret
  exact ⟨rfl, HW2.out.trans (HB5.out.mono HW2.out.size)⟩
end Go.Proofs.YthmjimmmkoeeoaaDoor
