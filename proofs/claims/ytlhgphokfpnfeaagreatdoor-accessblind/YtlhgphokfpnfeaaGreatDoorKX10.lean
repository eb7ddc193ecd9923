import Derived.Test.YtlhgphokfpnfeaaGreatDoorKX9
import Derived.Deep.CutRange
import Derived.Deep.RegionWith
namespace Go.Proofs.YtlhgphokfpnfeaaGreatDoor
set_option linter.unusedVariables false
open Go.MuLone Go.ChangeShapes Go.WideShapes Go.ChangeAt Go.RowKit Go.Deep
theorem md0_M (k : Cp) : layC (cpc k) 33 [.int .i64 0] = cpc { k with md := 0 } := cpc_md k 0
theorem PR_md9 {k : Cp} (h : PR k = k) : PR { k with md := 0 } = { k with md := 0 } := by
  have e : PR { k with md := 0 } = { PR k with md := 0 } := rfl
  rw [e, h]
set_option maxRecDepth 100000 in
set_option maxHeartbeats 8000000 in
theorem blind_ok (K : Cp) (S : St) (ar ai ao : Option Addr) (cr ci co : Nat) (O : List Acd) (va : Value) (vx : Value) (X : List Int) (w : World) (hT : Tb w) (hs : Bs S (.slice ar S.ram.length cr) (.slice ai S.inp.length ci) (.slice ao S.out.length co) w) (hw : StW S) (lr : S.ram.length ≤ 140737488355328) (li : S.inp.length ≤ 140737488355328) (lo : S.out.length ≤ 140737488355328) (ha : Acts w va O) (hl : O.length ≤ 140737488355328) (hx : Byt w vx X) (hX : X.length ≤ 140737488355328) (hok : S.ok = true) :
    Calls Tryz.prog 6 #[.agg (scc K S (.slice ar S.ram.length cr) (.slice ai S.inp.length ci) (.slice ao S.out.length co) va), vx] w fun e w' => e = .returned (.bool true) ∧ Below w.heap.size w w' := by
  obtain ⟨ax, cx, rfl, hxc, hxn, hxe⟩ := hx
  obtain ⟨W0, hW0, r0, b0, s0⟩ := start1 w (scc K S (.slice ar S.ram.length cr) (.slice ai S.inp.length ci) (.slice ao S.out.length co) va) 38
  have HSB : Hid (∀ W, Below W0.heap.size W0 W → ∀ j v, (stc S (.slice ar S.ram.length cr) (.slice ai S.inp.length ci) (.slice ao S.out.length co))[j]? = some v → W.cell? ⟨w.heap.size, 82 + j, none⟩ = some v) := fun W hb j v h => by rw [(r0.out.later hb r0.out.lt).cell]; exact scc_b _ _ _ _ _ _ j v h
  have HLV : Hid (∀ W, Tb W → Calls Tryz.prog 9 #[] W fun e w' => e = .returned (.bool true) ∧ Below W.heap.size W w') := fun W h => live_c W h
  have HT0 : Hid (Tb W0) := hT.next b0.out
  have HSC : Hid (∀ W, Below W0.heap.size W0 W → ∀ j v, (cpc K)[j]? = some v → W.cell? ⟨w.heap.size, 0 + j, none⟩ = some v) := fun W hb j v h => by rw [(r0.out.later hb r0.out.lt).cell]; exact scc_c _ _ _ _ _ _ j v h
  have HSA : Hid (∀ W, Below W0.heap.size W0 W → W.cell? ⟨w.heap.size, 97, none⟩ = some va) := fun W hb => by rw [(r0.out.later hb r0.out.lt).cell]; exact scc_a _ _ _ _ _ _
  have HST : Hid (Calls Tryz.prog 8 #[.agg (stc S (.slice ar S.ram.length cr) (.slice ai S.inp.length ci) (.slice ao S.out.length co))] W0 fun e w' => ∃ L, e = .returned (.pointer (some ⟨L.b, 0, none⟩)) ∧ PB W0.heap.size L S w' ∧ Below W0.heap.size W0 w') := start_ok S ar ai ao cr ci co W0 hok (hs.later b0.out) lr li lo
  have HSK : Hid (Sok S) := ⟨hok, hw⟩
  obtain ⟨aA, cA, rfl, hcap, hel⟩ := ha
  have HEL : Hid (∀ j, j < O.length → ∃ g off, aA = some ⟨g, off, none⟩ ∧ g < W0.heap.size ∧ ∀ i, i < 5 → ∀ W, Below W0.heap.size W0 W → W.cell? ⟨g, off + j * 5 + i, none⟩ = (acc (O.getD j ⟨0, 0, 0, 0#64, 0#64⟩))[i]?) := fun j hj => by
    obtain ⟨g, off, e, hg, hc⟩ := hel (fun e => by rw [e] at hj; simp at hj)
    refine ⟨g, off, e, Nat.lt_of_lt_of_le hg b0.out.size, fun i hi W hb => ?_⟩
    rw [hb.cell (p := ⟨g, off + j * 5 + i, none⟩) (Nat.lt_of_lt_of_le hg b0.out.size), b0.out.cell (p := ⟨g, off + j * 5 + i, none⟩) hg]
    exact hc j hj i hi
  have HL0 : Hid (O.length ≤ 140737488355328) := hl
  have hzc := zero_cpu
  have hza := zero_act
  have hzo := zero_out
  have hzt := zero_trap
  have HVX : Hid (0 < X.length → ∃ g off, ax = some ⟨g, off, none⟩ ∧ g < W0.heap.size ∧ ∀ j, j < X.length → W0.cell? ⟨g, off + j, none⟩ = some (.int .u8 (X.getD j 0))) := fun h => by
    obtain ⟨g, off, e, hg, hc⟩ := hxe (fun e => by rw [e] at h; simp at h)
    exact ⟨g, off, e, Nat.lt_of_lt_of_le hg b0.out.size, fun j hj => by rw [b0.out.cell (p := ⟨g, off + j, none⟩) hg]; exact hc j hj⟩
  have HXL : Hid (X.length ≤ 140737488355328) := hX
  have HSOKS : Hid (S.ok = true) := hok
  clear hs hw lr li lo hok s0 hT hel hcap hl hxc hxn hxe hX
  go_enter Tryz.func6, Tryz.ntmps6
  go_upto_region 1 with fail
  clear hW0 r0
  go_upto_region 4 with (first | (refine wpList_load_agg (by rfl) _ _ (by rfl) w.heap.size 82 (by rfl) (stc S (.slice ar S.ram.length cr) (.slice ai S.inp.length ci) (.slice ao S.out.length co)) _ (HSB.out _ (Below.refl _ _)) Tryz.underlying35 (by rfl) (info_bus _ _ _ _) ?_) | (go_at_call 8; refine HST.out.mono ?_; rintro e w1 ⟨L, rfl, hp1, hb1⟩; have HK1 : Hid (Ky W0 L.b L S w1) := ⟨hp1, rfl, hb1⟩; clear hp1 hb1) | (go_at_call 9; refine (HLV.out _ (HT0.out.next HK1.out.be)).mono ?_; rintro e w3 ⟨rfl, hb3⟩; have HK3 : Hid (Ky W0 L.b L S w3) := HK1.out.later hb3; clear hb3))
  have HA0 : Hid (Calls Tryz.prog 10 #[.agg (cpc K), .pointer (some ⟨L.b, 0, none⟩)] w3 fun e w' => e = .returned (.agg (cpc (PR K))) ∧ ∃ L', PSt W0.heap.size L w3 L' S w') := access0_c w3 HK3.out.p HSK.out (HT0.out.next HK3.out.be) HT0.out.lt K
  go_upto_region 5 with (first | (refine wpList_load_agg (by rfl) _ _ (by rfl) w.heap.size 0 (by rfl) (cpc K) _ (HSC.out _ HK3.out.be) Tryz.underlying31 (by rfl) (info_cpu _) ?_) | (go_at_call 10; refine HA0.out.mono ?_; rintro e w4 ⟨rfl, L1, hp4⟩; have HK4 : Hid (Ky W0 L.b L1 S w4) := HK3.out.step hp4; clear hp4) | (refine wpList_store_end (by rfl) 31 _ _ (by rfl) (by rfl) w4 (cpc cz) (cpc (PR K)) (by rfl) (by rfl) (by rfl) (info_cpu _) (by rw [cpc_size, cpc_size]) (cpc_ones _) ?_))
  refine on_P (motive := fun W => Code.wp _ _ _ _ W) (Q := fun W => Ky W0 L.b L1 S W ∧ Ks W0 L1 W w4.heap.size (cpc (PR K)) 31) ⟨HK4.out.later (below_al _ _), Ks.new HK4.out _ _⟩ ?_
  clear HK1 HK3 HK4 HA0 HSB HSC HST HLV
  generalize w4.heap.size = gc
  rintro W5 ⟨hk5, hr5⟩
  have HK5 : Hid (Ky W0 L.b L1 S W5) := hk5
  have HR5 : Hid (Ks W0 L1 W5 gc (cpc (PR K)) 31) := hr5
  clear hk5 hr5
  have hzb := zero_busv
  have c33 : W5.cell? ⟨gc, 33, none⟩ = some (.int .i64 (PR K).md) := HR5.out.r.cls.md
  have f33 : W5.frozen? ⟨gc, 33, none⟩ = false := frozen_of_row W5 gc 33 _ _ HR5.out.r
  generalize (PR K).md = m9 at c33
  go_upto_region 6 with fail
  obtain ⟨K0, hK0⟩ : ∃ K0 : Cp, K0 = { PR K with md := 0 } := ⟨_, rfl⟩
  have HPK : Hid (PR K0 = K0 ∧ K0.md = 0) := by unfold Hid; rw [hK0]; exact ⟨PR_md9 (PR_PR K), rfl⟩
  have HL2 : Hid (layC (cpc (PR K)) 33 [.int .i64 0] = cpc K0) := by unfold Hid; rw [hK0]; exact md0_M (PR K)
  clear hK0
  generalize hbb : L.b = b at HK5 ⊢
  refine on_P (motive := fun W => Code.wp _ _ _ _ W) (Q := fun W => (Ky W0 b L1 S W) ∧ (Ks W0 L1 W gc (cpc K0) 31)) ⟨HK5.out.lay HR5.out 33 [.int .i64 0], ⟨by have q := HR5.out.r.lay [.int .i64 0] 33; rw [HL2.out] at q; exact q, HR5.out.n, HR5.out.ge⟩⟩ ?_
  clear HK5 HR5 HL2 c33 f33 hbb
  rintro W6 ⟨h0, h1⟩
  have HK6 : Hid (Ky W0 b L1 S W6) := h0
  have HR6 : Hid (Ks W0 L1 W6 gc (cpc K0) 31) := h1
  clear h0 h1
  clear L w1 w3 w4 W5
  have HSTA : Hid (∀ W, Ky W0 b L1 S W → Calls Tryz.prog 15 #[.pointer (some ⟨b, 0, none⟩)] W fun e w' => ∃ ur ui uo, e = .returned (.agg (stc S ur ui uo)) ∧ Sv W.heap.size S ur ui uo w' ∧ Below W.heap.size W w') := fun W hk => by
    obtain ⟨hn1, hn2, hn3, hn4, _⟩ := HSK.out.n
    have q := state_c W hk.p (by omega) (by omega) (by omega)
    rw [hk.e] at q
    exact q
  go_upto_region 7 with (first | (go_at_call 15; refine (HSTA.out _ HK6.out).mono ?_; rintro e w2 ⟨ur, ui, uo, rfl, hsv, hb2⟩; obtain ⟨a1, a2, i1, i2, p1, p2, rfl, rfl, rfl⟩ := hsv.bs.forms; have HSV : Hid _ := hsv; have HB2 : Hid _ := hb2; clear hsv hb2) | (refine wpList_store_end (by rfl) 35 _ _ (by rfl) (by rfl) w2 (stc zST (.slice none 0 0) (.slice none 0 0) (.slice none 0 0)) (stc S (.slice a1 S.ram.length a2) (.slice i1 S.inp.length i2) (.slice p1 S.out.length p2)) (by rfl) (by rfl) (by rfl) (info_bus _ _ _ _) (by rfl) (stOne S) ?_))
  have hSr : ∃ g, a1 = some ⟨g, 0, none⟩ := by
    rcases HSV.out.r.2 with q | ⟨g, cap, cur, e, _⟩
    · have := HSK.out.n.2.1; omega
    · injection e with e1; exact ⟨g, e1⟩
  obtain ⟨g, rfl⟩ := hSr
  obtain ⟨cap, hcp⟩ : ∃ cap, cap = a2 := ⟨_, rfl⟩
  subst hcp
  have HXR0 : Hid (Xr W0 b L1 S gc K0 w2.heap.size W6.heap.size g cap (.slice i1 S.inp.length i2) (.slice p1 S.out.length p2) S.ram (w2.alloc (.cells (stc S (.slice (some ⟨g, 0, none⟩) S.ram.length cap) (.slice i1 S.inp.length i2) (.slice p1 S.out.length p2)) 35))) := by
    have hb := HB2.out
    refine ⟨(HK6.out.later hb).later (below_al _ _), (HR6.out.later hb).later (below_al _ _), Ks.new (HK6.out.later hb) _ _, own_later HSV.out.r (below_al _ _) rfl, HSV.out.bs.i.later (below_al _ _) rfl, HSV.out.bs.o.later (below_al _ _) rfl, fun k hk => HK6.out.p.own_hi k hk, HR6.out.r.lt, (HSV.out.r.lt g rfl).2, fun v hv g' off n c e => ?_, HK6.out.be.size⟩
    rintro rfl
    rcases hv with rfl | rfl
    · exact HSV.out.ri g' rfl (ownBlock_slice e)
    · exact HSV.out.ro g' rfl (ownBlock_slice e)
  refine on_P (motive := fun W => Code.wp _ _ _ _ W) (Q := fun W => Xr W0 b L1 S gc K0 w2.heap.size W6.heap.size g cap (.slice i1 S.inp.length i2) (.slice p1 S.out.length p2) S.ram W) HXR0.out ?_
  clear HXR0 HK6 HR6 HSV HB2 HSTA
  generalize w2.heap.size = gs
  generalize W6.heap.size = M
  intro W7 hW7
  have HXR : Hid (Xr W0 b L1 S gc K0 gs M g cap (.slice i1 S.inp.length i2) (.slice p1 S.out.length p2) S.ram W7) := hW7
  clear hW7
  --@P0
  go_wp2
  go_loopw [8] (fun vk wr => ∃ (k : Nat) (l : List Int), k ≤ S.ram.length ∧ vk = .int .i64 (k : Int) ∧ Hid (Xr W0 b L1 S gc K0 gs M g cap (.slice i1 S.inp.length i2) (.slice p1 S.out.length p2) l wr ∧ Agl K0 S l)) (fun k _ => S.ram.length - (intOf k).toNat)
  case atStart => exact ⟨0, S.ram, Nat.zero_le _, rfl, HXR.out, ⟨⟨rfl, fun _ _ _ => rfl⟩, HSK.out.st.r⟩⟩
  case round =>
    obtain ⟨k, l, hk9, rfl, hst⟩ := hrel
    clear HXR
    have s0 : wr.cell? ⟨gs, 0, none⟩ = some (.slice (some ⟨g, 0, none⟩) S.ram.length cap) := hst.out.1.s.r.cell 0
    have hn65 : (S.ram.length : Int) ≤ 65536 := by have := HSK.out.n.1; omega
    have hXI : (X.length : Int) ≤ 140737488355328 := by have := HXL.out; omega
    by_cases hkl : k < S.ram.length ∧ 0 < X.length
    · have hklI : (k : Int) < (S.ram.length : Int) := by omega
      have hX0 : (0 : Int) < (X.length : Int) := by omega
      have hXn : ¬ (X.length : Int) = 0 := by omega
      obtain ⟨hk1, hk2⟩ := hkl
      have hw1 : IntKind.u64.wrap (k : Int) = (k : Int) := u64_small (by omega) (by omega)
      have hs1 : IntKind.u64.wrap (2147483648 + (k : Int)) = n64 (2147483648#64 + BitVec.ofNat 64 k) := by
        have q := n64_add 2147483648#64 (BitVec.ofNat 64 k)
        have q2 : n64 (BitVec.ofNat 64 k) = (k : Int) := by unfold n64; rw [BitVec.toNat_ofNat, Nat.mod_eq_of_lt (by omega)]
        rw [q2] at q
        exact q
      have HGR : Hid (∀ W, Below W0.heap.size W0 W → Calls Tryz.prog 17 #[.agg (pc K0.c K0.a), .int .u64 (n64 (2147483648#64 + BitVec.ofNat 64 k)), .int .i64 5] W fun e w' => e = .returned (.bool (grA (PC K0.c) (PA K0.a) (2147483648#64 + BitVec.ofNat 64 k) 5)) ∧ Below W.heap.size W w') := fun W hb => Granted_c K0.c K0.a _ 5 W (HT0.out.next hb)
      have HST1 : Hid (Xr W0 b L1 S gc K0 gs M g cap (.slice i1 S.inp.length i2) (.slice p1 S.out.length p2) l wr) := hst.out.1
      have HAG : Hid (grA (PC K0.c) (PA K0.a) (2147483648#64 + BitVec.ofNat 64 k) 5 = false → ∀ x : Int, 0 ≤ x ∧ x ≤ 255 → Agl K0 S (l.set k x)) := fun h x hx => hst.out.2.set h hx
      have HAO : Hid (Agl K0 S l) := hst.out.2
      have HRC : Hid (Ks W0 L1 wr gc (cpc K0) 31) := hst.out.1.c
      clear hst
      generalize grA (PC K0.c) (PA K0.a) (2147483648#64 + BitVec.ofNat 64 k) 5 = gg at HGR HAG
      generalize n64 (2147483648#64 + BitVec.ofNat 64 k) = nn at HGR hs1
      cases gg with
      | true =>
        go_wp2_with (first | (refine wpList_load_agg (by rfl) _ _ (by rfl) gc 47 (by rfl) (pc K0.c K0.a) _ HRC.out.r.pmp Tryz.underlying27 (by rfl) (info_pmp _ _) ?_) | (go_at_call 17; refine (HGR.out _ HST1.out.k.be).mono ?_; rintro e w3 ⟨rfl, hb3⟩; have HB3 : Hid (Below wr.heap.size wr w3) := hb3; clear hb3))
        go_roundw
        · exact ⟨k + 1, l, by omega, by go_num, HST1.out.later HB3.out, HAO.out⟩
        · simp only [intOf]; omega
      | false =>
        go_upto_region 11 with (first | (refine wpList_load_agg (by rfl) _ _ (by rfl) gc 47 (by rfl) (pc K0.c K0.a) _ HRC.out.r.pmp Tryz.underlying27 (by rfl) (info_pmp _ _) ?_) | (go_at_call 17; refine (HGR.out _ HST1.out.k.be).mono ?_; rintro e w3 ⟨rfl, hb3⟩; have HB3 : Hid (Below wr.heap.size wr w3) := hb3; clear hb3))
        have HX3 : Hid (Xr W0 b L1 S gc K0 gs M g cap (.slice i1 S.inp.length i2) (.slice p1 S.out.length p2) l w3) := HST1.out.later HB3.out
        obtain ⟨t, htX, ht⟩ : ∃ t : Nat, t < X.length ∧ (k : Int).tmod (X.length : Int) = (t : Int) := ⟨k % X.length, Nat.mod_lt _ hk2, by rw [Int.tmod_eq_emod_of_nonneg (by omega)]; rfl⟩
        have htI : (t : Int) < (X.length : Int) := by omega
        obtain ⟨gx, ox, ea, hgx, hcx⟩ := HVX.out hk2
        subst ea
        have l0 : ∀ x : Later w3, x.1.cell? ⟨gs, 0, none⟩ = some (.slice (some ⟨g, 0, none⟩) S.ram.length cap) := fun x => (HX3.out.later x.below).s.r.cell 0
        have l1 : ∀ x : Later w3, x.1.cell? ⟨g, k, none⟩ = some (.int .u8 (l.getD k 0)) := fun x => by
          rw [(HX3.out.later x.below).r.cellAt k (by omega), bv_get _ _ (by rw [HAO.out.a.len]; exact hk1)]
        have l2 : ∀ x : Later w3, x.1.cell? ⟨gx, ox + t, none⟩ = some (.int .u8 (X.getD t 0)) := fun x => by
          rw [(HX3.out.later x.below).k.be.cell (p := ⟨gx, ox + t, none⟩) hgx]; exact hcx t htX
        have l3 : ∀ x : Later w3, x.1.frozen? ⟨g, k, none⟩ = false := fun x => (HX3.out.later x.below).r.frozenAt k
        obtain ⟨xx, hxx⟩ : ∃ xx, bits .xor .u8 (l.getD k 0) (X.getD t 0) = xx := ⟨_, rfl⟩
        have HXX : Hid (0 ≤ xx ∧ xx ≤ 255) := by
          rw [← hxx]
          unfold Hid bits IntKind.wrap
          simp [IntKind.bits, IntKind.signed]
          omega
        generalize l.getD k 0 = va9 at l1 hxx
        generalize X.getD t 0 = vb9 at l2 hxx
        clear htX hgx hcx HST1 HB3 HRC HGR
        have := later_nonempty w3
        --@P1
        refine wp_region_later_tail (x0 := Later.start w3) 17 (by kernel_rfl) (by kernel_rfl) ?_
        simp only [List.take_succ_cons, List.take_zero, List.drop_succ_cons, List.drop_zero]
        repeat (go_big_quiet_step (fail))
        refine wpQuiet_nil ?_
        rintro w' ⟨x9, rfl⟩
        have m1 := l1 x9
        have m3 := l3 x9
        have HX9 : Hid (Xr W0 b L1 S gc K0 gs M g cap (.slice i1 S.inp.length i2) (.slice p1 S.out.length p2) (l.set k xx) (x9.1.setCell ⟨g, k, none⟩ (.int .u8 xx))) := (HX3.out.later x9.below).put k hk1 xx
        --@P2
        go_wp2
        go_roundw
        · exact ⟨k + 1, l.set k xx, by omega, by go_num, HX9.out, HAG.out (by first | trivial | rfl) xx HXX.out⟩
        · simp only [intOf]; omega
    · --@P3
      go_upto_region 8 with fail
      go_cut [42] from 33 to 41 (fun v wx => v = .bool false ∧ wx = wr)
      case first =>
        by_cases hk8 : k < S.ram.length
        · have hkI : (k : Int) < (S.ram.length : Int) := by omega
          have hxI : ¬ (0 : Int) < (X.length : Int) := by omega
          clear hkl
          go_wp2
          go_meet
          exact ⟨(by first | rfl | (rw [decide_eq_false (by omega)])), rfl⟩
        · have hkI : ¬ (k : Int) < (S.ram.length : Int) := by omega
          clear hkl
          go_wp2
          go_meet
          exact ⟨rfl, rfl⟩
      case rest =>
        obtain ⟨rfl, hwc⟩ := hcut
        have hwc2 := hwc.symm
        subst hwc2
        have HX : Hid (Xr W0 b L1 S gc K0 gs M g cap (.slice i1 S.inp.length i2) (.slice p1 S.out.length p2) l wr) := hst.out.1
        have HG9 : Hid (Agl K0 S l) := hst.out.2
        clear hst s0 hkl
        have HSD : Hid (Calls Tryz.prog 8 #[.agg (stc S (.slice (some ⟨g, 0, none⟩) S.ram.length cap) (.slice i1 S.inp.length i2) (.slice p1 S.out.length p2))] wr fun e w' => ∃ L, e = .returned (.pointer (some ⟨L.b, 0, none⟩)) ∧ PB wr.heap.size L (rmS S l) w' ∧ Below wr.heap.size wr w') := by
          have el : (rmS S l).ram.length = S.ram.length := HG9.out.a.len
          have hr := HX.out.r
          rw [← HG9.out.a.len] at hr
          have hn := HSK.out.n
          have q := start_ok (rmS S l) (some ⟨g, 0, none⟩) i1 p1 cap i2 p2 wr (HG9.out.sok HSK.out).ok ⟨Byt.of_own hr, HX.out.bi, HX.out.bo⟩ (by rw [el]; omega) (by show S.inp.length ≤ _; omega) (by show S.out.length ≤ _; omega)
          rw [el] at q
          exact q
        go_upto_region 13 with (first | (refine wpList_load_row (by rfl) _ _ (by rfl) _ (by rfl) 35 _ (0, 0) _ HX.out.s.r Tryz.underlying35 (by rfl) (info_bus _ _ _ _) ?_) | (go_at_call 8; refine HSD.out.mono ?_; rintro e w4 ⟨Md, rfl, hp4, hb4⟩; have HP4 : Hid (PB wr.heap.size Md (rmS S l) w4) := hp4; have HB4 : Hid (Below wr.heap.size wr w4) := hb4; clear hp4 hb4))
        have HU : Hid (Blv W0 b Md.b gc K0 w4) := by
          have hky := HX.out.k.later HB4.out
          have hle := HX.out.k.be.size
          refine ⟨K0, L1, Md, S, l, ⟨hky, ⟨HP4.out.le hle, rfl, hky.be⟩, fun k hk hm => ?_⟩, HSK.out, HG9.out.sok HSK.out, HG9.out.a, ⟨(HX.out.c.later HB4.out).r, HX.out.c.n, fun e => ?_, HX.out.c.ge⟩, Cst.refl HPK.out.1⟩
          · have h1 := HX.out.k.p.own_hi k hk
            have h2 := HP4.out.own_lo k hm
            omega
          · have h1 := HX.out.c.r.lt
            have h2 := HP4.out.own_lo gc e
            omega
        clear HX HG9 HSD HP4 HB4 hn65 hXI
        generalize Md.b = d at HU ⊢
        clear Md
        --@P4
        go_wp2
        go_loopw [10] (fun vi wr => ∃ j : Nat, j ≤ O.length ∧ vi = .int .i64 j ∧ Hid (Blv W0 b d gc K0 wr)) (fun i _ => O.length - (intOf i).toNat)
        case atStart => exact ⟨0, Nat.zero_le _, rfl, HU⟩
        case round =>
          obtain ⟨j, hj, rfl, hst⟩ := hrel
          clear HU
          obtain ⟨K1, La, Ma, S1, l1, hk, hs1, hs2, hag, hrc, hcst⟩ := hst.out
          have c97 := HSA.out wr hk.l.be
          have hlenI : (O.length : Int) ≤ 140737488355328 := by have := HL0.out; omega
          by_cases hlt : j < O.length
          · have hltI : (j : Int) < (O.length : Int) := by omega
            by_cases h60 : j < 60
            · have h60I : (j : Int) < 60 := by omega
              have HKX : Hid (Kz W0 b d La Ma S1 (rmS S1 l1) wr) := hk
              have HRC : Hid (Kt W0 La Ma wr gc (cpc K1) 31) := hrc
              have HCS : Hid (Cst K0 K1) := hcst
              have HMD : Hid (K1.md = 0) := by
                obtain ⟨v, x, s, e⟩ := HCS.out.e
                unfold Hid
                rw [e]; exact HPK.out.2
              obtain ⟨ga, off, rfl, hga, hcell⟩ := HEL.out j hlt
              obtain ⟨y, hy⟩ : ∃ y, y = O.getD j ⟨0, 0, 0, 0#64, 0#64⟩ := ⟨_, rfl⟩
              have HAC : Hid (∀ W, Below W0.heap.size W0 W → ∀ i v, (acc y)[i]? = some v → W.cell? ⟨ga, off + j * 5 + i, none⟩ = some v) := fun W hb i v h => by
                have hi : i < 5 := by
                  by_cases q : i < 5
                  · exact q
                  · rw [Array.getElem?_eq_none (by show 5 ≤ i; omega)] at h; cases h
                rw [hcell i hi W hb, ← hy]; exact h
              clear hcell hy hga
              obtain ⟨l2, e1, e2, ha2⟩ := DO_ag (hag.cst hcst) hcst.p HMD.out y
              have HDL : Hid (∀ W, Kz W0 b d La Ma S1 (rmS S1 l1) W → Calls Tryz.prog 14 #[.agg (cpc K1), .pointer (some ⟨b, 0, none⟩), .agg (acc y)] W fun e w' => e = .returned (.agg (otc (DO S1 K1 y).1)) ∧ ∃ L', PSt W0.heap.size La W L' (DO S1 K1 y).2 w') := fun W hk => by
                have q := does_c W hk.l.p hs1 (HT0.out.next hk.l.be) HT0.out.lt K1 y
                rw [hk.l.e] at q
                exact q
              have HDM : Hid (∀ L' W, Kz W0 b d L' Ma (DO S1 K1 y).2 (rmS S1 l1) W → Calls Tryz.prog 14 #[.agg (cpc K1), .pointer (some ⟨d, 0, none⟩), .agg (acc y)] W fun e w' => e = .returned (.agg (otc (DO S1 K1 y).1)) ∧ ∃ M', PSt W0.heap.size Ma W M' (rmS (DO S1 K1 y).2 l2) w') := fun L' W hk => by
                have q := does_c W hk.m.p hs2 (HT0.out.next hk.l.be) HT0.out.lt K1 y
                rw [hk.m.e, e1, e2] at q
                exact q
              have HS2 : Hid (Sok (DO S1 K1 y).2) := DO_ok hs1 K1 y
              have HS3 : Hid (Sok (rmS (DO S1 K1 y).2 l2)) := by have q := DO_ok hs2 K1 y; rw [e2] at q; exact q
              have HA2 : Hid (Ag K1 (DO S1 K1 y).2 l2) := ha2
              have HCN : Hid (Cst K0 (resOf K1 (DO S1 K1 y).1.K)) := HCS.out.step S1 y
              clear e1 e2 ha2 hag hs1 hs2 hk hrc hcst hst
              generalize (DO S1 K1 y).1 = o at HDL HDM HCN
              generalize (DO S1 K1 y).2 = S2 at HDL HDM HS2 HS3 HA2
              go_upto_region 18 with fail
              clear c97
              go_cut [11] from 84 to 91 (fun p wx => ∃ gO L2, p = .pointer (some ⟨gO, 0, none⟩) ∧ Kz W0 b d L2 Ma S2 (rmS S1 l1) wx ∧ Kt W0 L2 Ma wx gc (cpc K1) 31 ∧ Kt W0 L2 Ma wx gO (otc o) 52 ∧ gc < gO)
              case first =>
                have hS0 : Below W0.heap.size W0 wr.drew ∧ Row wr.drew gc (cpc K1) 31 := ⟨(HKX.out.later (Below.refl _ _).drew).l.be, (HRC.out.later (Below.refl _ _).drew).r⟩
                refine wp_region_held (S := fun w' => Below W0.heap.size W0 w' ∧ Row w' gc (cpc K1) 31) (by kernel_rfl) ?_
                change wpAnyH _ _ _ _ _ _ _ _ wr.drew
                refine wpAnyH_takeD 0 (some 84) (v := .agg (cpc K1)) rfl (by kernel_rfl) (by kernel_rfl) (by kernel_rfl) (by kernel_rfl) (fun _ _ _ h => h) (Or.inl ⟨by rfl, fun w9 hSw => ?_⟩) hS0 ?_
                · have q := load_rows (P := Tryz.prog) 31 gc (cpc K1) _ w9 hSw.2 Tryz.underlying31 (by rfl) (info_cpu _)
                  unfold execOp
                  exact q
                try simp only [Act.put, List.setIfInBounds_toArray, List.set_cons_zero, List.set_cons_succ]
                refine wpAnyH_takeD 1 (some 85) (v := .pointer (some ⟨b, 0, none⟩)) rfl (by kernel_rfl) (by kernel_rfl) (by kernel_rfl) (by kernel_rfl) (fun _ _ _ h => h) (Or.inl ⟨by rfl, fun w9 hSw => by go_simp⟩) hS0 ?_
                try simp only [Act.put, List.setIfInBounds_toArray, List.set_cons_zero, List.set_cons_succ]
                refine wpAnyH_takeD 2 (some 86) (v := .pointer (some ⟨w.heap.size, 97, none⟩)) rfl (by kernel_rfl) (by kernel_rfl) (by kernel_rfl) (by kernel_rfl) (fun _ _ _ h => h) (Or.inl ⟨by rfl, fun w9 hSw => by go_simp⟩) hS0 ?_
                try simp only [Act.put, List.setIfInBounds_toArray, List.set_cons_zero, List.set_cons_succ]
                refine wpAnyH_takeD 3 (some 87) (v := .slice (some ⟨ga, off, none⟩) O.length cA) rfl (by kernel_rfl) (by kernel_rfl) (by kernel_rfl) (by kernel_rfl) (fun _ _ _ h => h) (Or.inl ⟨by rfl, fun w9 hSw => by have q97 := HSA.out w9 hSw.1; go_simp⟩) hS0 ?_
                try simp only [Act.put, List.setIfInBounds_toArray, List.set_cons_zero, List.set_cons_succ]
                refine wpAnyH_takeD 4 (some 88) (v := .int .i64 (j : Int)) rfl (by kernel_rfl) (by kernel_rfl) (by kernel_rfl) (by kernel_rfl) (fun _ _ _ h => h) (Or.inl ⟨by rfl, fun w9 hSw => by go_simp⟩) hS0 ?_
                try simp only [Act.put, List.setIfInBounds_toArray, List.set_cons_zero, List.set_cons_succ]
                refine wpAnyH_takeD 5 (some 89) (v := .pointer (some ⟨ga, off + j * 5, none⟩)) rfl (by kernel_rfl) (by kernel_rfl) (by kernel_rfl) (by kernel_rfl) (fun _ _ _ h => h) (Or.inl ⟨by rfl, fun w9 hSw => by go_simp⟩) hS0 ?_
                try simp only [Act.put, List.setIfInBounds_toArray, List.set_cons_zero, List.set_cons_succ]
                refine wpAnyH_takeD 6 (some 90) (v := .agg (acc y)) rfl (by kernel_rfl) (by kernel_rfl) (by kernel_rfl) (by kernel_rfl) (fun _ _ _ h => h) (Or.inl ⟨by rfl, fun w9 hSw => ?_⟩) hS0 ?_
                · have q := load_aggs (P := Tryz.prog) 45 ga (off + j * 5) (acc y) _ w9 (HAC.out w9 hSw.1) Tryz.underlying45 (by rfl) (info_act _)
                  unfold execOp
                  exact q
                try simp only [Act.put, List.setIfInBounds_toArray, List.set_cons_zero, List.set_cons_succ]
                refine wpAnyH_ready (rs := [7, 8]) (by kernel_rfl) (by simp) ?_
                refine AllReadyH.cons (o := _) rfl (fun KK hKK => ?_) ?_
                ·
                  rw [if_pos (by rfl)]
                  go_simp
                  go_at_call 14
                  have HKY := HKX.out.later (Below.refl _ _).drew
                  refine (HDL.out _ HKY).mono ?_
                  rintro e w3 ⟨rfl, L2, hp⟩
                  have hk3 := HKY.stepL hp
                  have hr3 := (HRC.out.later (Below.refl _ _).drew).stepL hp
                  have hS3 : Below W0.heap.size W0 w3 ∧ Row w3 gc (cpc K1) 31 := ⟨hk3.l.be, hr3.r⟩
                  refine hKK.out _ _ hS3 (fun _ => ?_)
                  try simp only [Act.put, List.setIfInBounds_toArray, List.set_cons_zero, List.set_cons_succ]
                  refine wpAnyH_ready (rs := [8]) (by kernel_rfl) (by simp) ?_
                  refine AllReadyH.cons (o := _) rfl (fun KL hKL => ?_) AllReadyH.nil
                  rw [if_pos (by rfl)]
                  go_simp
                  have hk4 := hk3.later (below_al w3 (.cells (otc (oz cz)) 52))
                  have hr4 := hr3.later (below_al w3 (.cells (otc (oz cz)) 52))
                  have hn4 := Kt.new hk3 (otc (oz cz)) 52
                  have hlt4 : gc < w3.heap.size := hr3.r.lt
                  have hS4 : Below W0.heap.size W0 (w3.alloc (.cells (otc (oz cz)) 52)) ∧ Row (w3.alloc (.cells (otc (oz cz)) 52)) gc (cpc K1) 31 := ⟨hk4.l.be, hr4.r⟩
                  refine hKL.out _ _ hS4 (fun _ => ?_)
                  try simp only [Act.put, List.setIfInBounds_toArray, List.set_cons_zero, List.set_cons_succ]
                  have hk5 := hk4.row hn4 (otc o)
                  have hr5 := hr4.far (show gc ≠ w3.heap.size by omega) (otc o)
                  have hn5 := hn4.put (otc o)
                  have hS5 : Below W0.heap.size W0 ((w3.alloc (.cells (otc (oz cz)) 52)).setRow w3.heap.size (otc o)) ∧ Row ((w3.alloc (.cells (otc (oz cz)) 52)).setRow w3.heap.size (otc o)) gc (cpc K1) 31 := ⟨hk5.l.be, hr5.r⟩
                  refine wpAnyH_store_row 9 52 (.tmp 11) (.tmp 91) (by kernel_rfl) (by kernel_rfl) w3.heap.size (otc (oz cz)) (otc o) (by rfl) (by rfl) hn4.r (info_out _) (otc_sz _ _) (otc_ones _) hS5 ?_
                  try simp only [Act.put, List.setIfInBounds_toArray, List.set_cons_zero, List.set_cons_succ]
                  refine wpAnyH_done (by kernel_rfl) ?_ _
                  go_wp2_with fail
                  go_meet
                  exact ⟨w3.heap.size, L2, rfl, hk5, hr5, hn5, by omega⟩
                ·
                  refine AllReadyH.cons (o := _) rfl (fun KK hKK => ?_) AllReadyH.nil
                  rw [if_pos (by rfl)]
                  go_simp
                  have HKY := (HKX.out.later (Below.refl _ _).drew).later (below_al _ (.cells (otc (oz cz)) 52))
                  have hr3 := (HRC.out.later (Below.refl _ _).drew).later (below_al _ (.cells (otc (oz cz)) 52))
                  have hn3 := Kt.new (HKX.out.later (Below.refl _ _).drew) (otc (oz cz)) 52
                  have hlt4 : gc < wr.heap.size := HRC.out.r.lt
                  have hS3 : Below W0.heap.size W0 (wr.drew.alloc (.cells (otc (oz cz)) 52)) ∧ Row (wr.drew.alloc (.cells (otc (oz cz)) 52)) gc (cpc K1) 31 := ⟨HKY.l.be, hr3.r⟩
                  refine hKK.out _ _ hS3 (fun _ => ?_)
                  try simp only [Act.put, List.setIfInBounds_toArray, List.set_cons_zero, List.set_cons_succ]
                  refine wpAnyH_ready (rs := [7]) (by kernel_rfl) (by simp) ?_
                  refine AllReadyH.cons (o := _) rfl (fun KL hKL => ?_) AllReadyH.nil
                  rw [if_pos (by rfl)]
                  go_simp
                  go_at_call 14
                  refine (HDL.out _ HKY).mono ?_
                  rintro e w3 ⟨rfl, L2, hp⟩
                  have hk4 := HKY.stepL hp
                  have hr4 := hr3.stepL hp
                  have hn4 := hn3.stepL hp
                  have hS4 : Below W0.heap.size W0 w3 ∧ Row w3 gc (cpc K1) 31 := ⟨hk4.l.be, hr4.r⟩
                  refine hKL.out _ _ hS4 (fun _ => ?_)
                  try simp only [Act.put, List.setIfInBounds_toArray, List.set_cons_zero, List.set_cons_succ]
                  have hk5 := hk4.row hn4 (otc o)
                  have hr5 := hr4.far (show gc ≠ wr.heap.size by omega) (otc o)
                  have hn5 := hn4.put (otc o)
                  have hS5 : Below W0.heap.size W0 (w3.setRow wr.heap.size (otc o)) ∧ Row (w3.setRow wr.heap.size (otc o)) gc (cpc K1) 31 := ⟨hk5.l.be, hr5.r⟩
                  refine wpAnyH_store_row 9 52 (.tmp 11) (.tmp 91) (by kernel_rfl) (by kernel_rfl) wr.heap.size (otc (oz cz)) (otc o) (by rfl) (by rfl) hn4.r (info_out _) (otc_sz _ _) (otc_ones _) hS5 ?_
                  try simp only [Act.put, List.setIfInBounds_toArray, List.set_cons_zero, List.set_cons_succ]
                  refine wpAnyH_done (by kernel_rfl) ?_ _
                  go_wp2_with fail
                  go_meet
                  exact ⟨wr.heap.size, L2, rfl, hk5, hr5, hn5, by omega⟩
              case rest =>
                obtain ⟨go, L2, rfl, hk2, hr2, ho2, hne⟩ := hcut
                have HKX2 : Hid (Kz W0 b d L2 Ma S2 (rmS S1 l1) wc) := hk2
                have HRC2 : Hid (Kt W0 L2 Ma wc gc (cpc K1) 31) := hr2
                have HRO : Hid (Kt W0 L2 Ma wc go (otc o) 52) := ho2
                have HNE1 : Hid (gc < go) := hne
                have HDM2 : Hid (∀ W, Kz W0 b d L2 Ma S2 (rmS S1 l1) W → Calls Tryz.prog 14 #[.agg (cpc K1), .pointer (some ⟨d, 0, none⟩), .agg (acc y)] W fun e w' => e = .returned (.agg (otc o)) ∧ ∃ M', PSt W0.heap.size Ma W M' (rmS S2 l2) w') := HDM.out L2
                clear hk2 hr2 ho2 hne HKX HRC HDL HDM
                have HKX := HKX2
                have HRC := HRC2
                clear HKX2 HRC2
                go_upto_region 19 with fail
                go_cut [12] from 92 to 99 (fun p wx => ∃ gQ M2, p = .pointer (some ⟨gQ, 0, none⟩) ∧ Kz W0 b d L2 M2 S2 (rmS S2 l2) wx ∧ Kt W0 L2 M2 wx gc (cpc K1) 31 ∧ Kt W0 L2 M2 wx gQ (otc o) 52 ∧ gc < gQ ∧ Kt W0 L2 M2 wx go (otc o) 52 ∧ go < gQ)
                case first =>
                  have hS0 : Below W0.heap.size W0 wc.drew ∧ Row wc.drew gc (cpc K1) 31 := ⟨(HKX.out.later (Below.refl _ _).drew).l.be, (HRC.out.later (Below.refl _ _).drew).r⟩
                  refine wp_region_held (S := fun w' => Below W0.heap.size W0 w' ∧ Row w' gc (cpc K1) 31) (by kernel_rfl) ?_
                  change wpAnyH _ _ _ _ _ _ _ _ wc.drew
                  refine wpAnyH_takeD 0 (some 92) (v := .agg (cpc K1)) rfl (by kernel_rfl) (by kernel_rfl) (by kernel_rfl) (by kernel_rfl) (fun _ _ _ h => h) (Or.inl ⟨by rfl, fun w9 hSw => ?_⟩) hS0 ?_
                  · have q := load_rows (P := Tryz.prog) 31 gc (cpc K1) _ w9 hSw.2 Tryz.underlying31 (by rfl) (info_cpu _)
                    unfold execOp
                    exact q
                  try simp only [Act.put, List.setIfInBounds_toArray, List.set_cons_zero, List.set_cons_succ]
                  refine wpAnyH_takeD 1 (some 93) (v := .pointer (some ⟨d, 0, none⟩)) rfl (by kernel_rfl) (by kernel_rfl) (by kernel_rfl) (by kernel_rfl) (fun _ _ _ h => h) (Or.inl ⟨by rfl, fun w9 hSw => by go_simp⟩) hS0 ?_
                  try simp only [Act.put, List.setIfInBounds_toArray, List.set_cons_zero, List.set_cons_succ]
                  refine wpAnyH_takeD 2 (some 94) (v := .pointer (some ⟨w.heap.size, 97, none⟩)) rfl (by kernel_rfl) (by kernel_rfl) (by kernel_rfl) (by kernel_rfl) (fun _ _ _ h => h) (Or.inl ⟨by rfl, fun w9 hSw => by go_simp⟩) hS0 ?_
                  try simp only [Act.put, List.setIfInBounds_toArray, List.set_cons_zero, List.set_cons_succ]
                  refine wpAnyH_takeD 3 (some 95) (v := .slice (some ⟨ga, off, none⟩) O.length cA) rfl (by kernel_rfl) (by kernel_rfl) (by kernel_rfl) (by kernel_rfl) (fun _ _ _ h => h) (Or.inl ⟨by rfl, fun w9 hSw => by have q97 := HSA.out w9 hSw.1; go_simp⟩) hS0 ?_
                  try simp only [Act.put, List.setIfInBounds_toArray, List.set_cons_zero, List.set_cons_succ]
                  refine wpAnyH_takeD 4 (some 96) (v := .int .i64 (j : Int)) rfl (by kernel_rfl) (by kernel_rfl) (by kernel_rfl) (by kernel_rfl) (fun _ _ _ h => h) (Or.inl ⟨by rfl, fun w9 hSw => by go_simp⟩) hS0 ?_
                  try simp only [Act.put, List.setIfInBounds_toArray, List.set_cons_zero, List.set_cons_succ]
                  refine wpAnyH_takeD 5 (some 97) (v := .pointer (some ⟨ga, off + j * 5, none⟩)) rfl (by kernel_rfl) (by kernel_rfl) (by kernel_rfl) (by kernel_rfl) (fun _ _ _ h => h) (Or.inl ⟨by rfl, fun w9 hSw => by go_simp⟩) hS0 ?_
                  try simp only [Act.put, List.setIfInBounds_toArray, List.set_cons_zero, List.set_cons_succ]
                  refine wpAnyH_takeD 6 (some 98) (v := .agg (acc y)) rfl (by kernel_rfl) (by kernel_rfl) (by kernel_rfl) (by kernel_rfl) (fun _ _ _ h => h) (Or.inl ⟨by rfl, fun w9 hSw => ?_⟩) hS0 ?_
                  · have q := load_aggs (P := Tryz.prog) 45 ga (off + j * 5) (acc y) _ w9 (HAC.out w9 hSw.1) Tryz.underlying45 (by rfl) (info_act _)
                    unfold execOp
                    exact q
                  try simp only [Act.put, List.setIfInBounds_toArray, List.set_cons_zero, List.set_cons_succ]
                  refine wpAnyH_ready (rs := [7, 8]) (by kernel_rfl) (by simp) ?_
                  refine AllReadyH.cons (o := _) rfl (fun KK hKK => ?_) ?_
                  ·
                    rw [if_pos (by rfl)]
                    go_simp
                    go_at_call 14
                    have HKY := HKX.out.later (Below.refl _ _).drew
                    refine (HDM2.out _ HKY).mono ?_
                    rintro e w3 ⟨rfl, L2, hp⟩
                    have hk3 := HKY.stepM hp
                    have hr3 := (HRC.out.later (Below.refl _ _).drew).stepM hp
                    have ho3 := (HRO.out.later (Below.refl _ _).drew).stepM hp
                    have hS3 : Below W0.heap.size W0 w3 ∧ Row w3 gc (cpc K1) 31 := ⟨hk3.l.be, hr3.r⟩
                    refine hKK.out _ _ hS3 (fun _ => ?_)
                    try simp only [Act.put, List.setIfInBounds_toArray, List.set_cons_zero, List.set_cons_succ]
                    refine wpAnyH_ready (rs := [8]) (by kernel_rfl) (by simp) ?_
                    refine AllReadyH.cons (o := _) rfl (fun KL hKL => ?_) AllReadyH.nil
                    rw [if_pos (by rfl)]
                    go_simp
                    have hk4 := hk3.later (below_al w3 (.cells (otc (oz cz)) 52))
                    have hr4 := hr3.later (below_al w3 (.cells (otc (oz cz)) 52))
                    have ho4 := ho3.later (below_al w3 (.cells (otc (oz cz)) 52))
                    have hn4 := Kt.new hk3 (otc (oz cz)) 52
                    have hlt4 : gc < w3.heap.size := hr3.r.lt
                    have hS4 : Below W0.heap.size W0 (w3.alloc (.cells (otc (oz cz)) 52)) ∧ Row (w3.alloc (.cells (otc (oz cz)) 52)) gc (cpc K1) 31 := ⟨hk4.l.be, hr4.r⟩
                    refine hKL.out _ _ hS4 (fun _ => ?_)
                    try simp only [Act.put, List.setIfInBounds_toArray, List.set_cons_zero, List.set_cons_succ]
                    have hk5 := hk4.row hn4 (otc o)
                    have hr5 := hr4.far (show gc ≠ w3.heap.size by omega) (otc o)
                    have ho5 := ho4.far (show go ≠ w3.heap.size by have := ho3.r.lt; omega) (otc o)
                    have hn5 := hn4.put (otc o)
                    have hS5 : Below W0.heap.size W0 ((w3.alloc (.cells (otc (oz cz)) 52)).setRow w3.heap.size (otc o)) ∧ Row ((w3.alloc (.cells (otc (oz cz)) 52)).setRow w3.heap.size (otc o)) gc (cpc K1) 31 := ⟨hk5.l.be, hr5.r⟩
                    refine wpAnyH_store_row 9 52 (.tmp 12) (.tmp 99) (by kernel_rfl) (by kernel_rfl) w3.heap.size (otc (oz cz)) (otc o) (by rfl) (by rfl) hn4.r (info_out _) (otc_sz _ _) (otc_ones _) hS5 ?_
                    try simp only [Act.put, List.setIfInBounds_toArray, List.set_cons_zero, List.set_cons_succ]
                    refine wpAnyH_done (by kernel_rfl) ?_ _
                    go_wp2_with fail
                    go_meet
                    exact ⟨w3.heap.size, L2, rfl, hk5, hr5, hn5, by omega, ho5, by have := ho3.r.lt; omega⟩
                  ·
                    refine AllReadyH.cons (o := _) rfl (fun KK hKK => ?_) AllReadyH.nil
                    rw [if_pos (by rfl)]
                    go_simp
                    have HKY := (HKX.out.later (Below.refl _ _).drew).later (below_al _ (.cells (otc (oz cz)) 52))
                    have hr3 := (HRC.out.later (Below.refl _ _).drew).later (below_al _ (.cells (otc (oz cz)) 52))
                    have ho3 := (HRO.out.later (Below.refl _ _).drew).later (below_al _ (.cells (otc (oz cz)) 52))
                    have hn3 := Kt.new (HKX.out.later (Below.refl _ _).drew) (otc (oz cz)) 52
                    have hlt4 : gc < wc.heap.size := HRC.out.r.lt
                    have hS3 : Below W0.heap.size W0 (wc.drew.alloc (.cells (otc (oz cz)) 52)) ∧ Row (wc.drew.alloc (.cells (otc (oz cz)) 52)) gc (cpc K1) 31 := ⟨HKY.l.be, hr3.r⟩
                    refine hKK.out _ _ hS3 (fun _ => ?_)
                    try simp only [Act.put, List.setIfInBounds_toArray, List.set_cons_zero, List.set_cons_succ]
                    refine wpAnyH_ready (rs := [7]) (by kernel_rfl) (by simp) ?_
                    refine AllReadyH.cons (o := _) rfl (fun KL hKL => ?_) AllReadyH.nil
                    rw [if_pos (by rfl)]
                    go_simp
                    go_at_call 14
                    refine (HDM2.out _ HKY).mono ?_
                    rintro e w3 ⟨rfl, L2, hp⟩
                    have hk4 := HKY.stepM hp
                    have hr4 := hr3.stepM hp
                    have ho4 := ho3.stepM hp
                    have hn4 := hn3.stepM hp
                    have hS4 : Below W0.heap.size W0 w3 ∧ Row w3 gc (cpc K1) 31 := ⟨hk4.l.be, hr4.r⟩
                    refine hKL.out _ _ hS4 (fun _ => ?_)
                    try simp only [Act.put, List.setIfInBounds_toArray, List.set_cons_zero, List.set_cons_succ]
                    have hk5 := hk4.row hn4 (otc o)
                    have hr5 := hr4.far (show gc ≠ wc.heap.size by omega) (otc o)
                    have ho5 := ho4.far (show go ≠ wc.heap.size by have := HRO.out.r.lt; omega) (otc o)
                    have hn5 := hn4.put (otc o)
                    have hS5 : Below W0.heap.size W0 (w3.setRow wc.heap.size (otc o)) ∧ Row (w3.setRow wc.heap.size (otc o)) gc (cpc K1) 31 := ⟨hk5.l.be, hr5.r⟩
                    refine wpAnyH_store_row 9 52 (.tmp 12) (.tmp 99) (by kernel_rfl) (by kernel_rfl) wc.heap.size (otc (oz cz)) (otc o) (by rfl) (by rfl) hn4.r (info_out _) (otc_sz _ _) (otc_ones _) hS5 ?_
                    try simp only [Act.put, List.setIfInBounds_toArray, List.set_cons_zero, List.set_cons_succ]
                    refine wpAnyH_done (by kernel_rfl) ?_ _
                    go_wp2_with fail
                    go_meet
                    exact ⟨wc.heap.size, L2, rfl, hk5, hr5, hn5, by omega, ho5, by have := HRO.out.r.lt; omega⟩
                case rest =>
                  obtain ⟨gq, M2, rfl, hk2, hr2, hq2, hne, ho2, hne2⟩ := hcut
                  obtain ⟨W5, hW5⟩ : ∃ W5, W5 = wc := ⟨_, rfl⟩
                  rw [← hW5] at hk2 hr2 hq2 ho2 ⊢
                  clear hW5
                  have HKX5 : Hid (Kz W0 b d L2 M2 S2 (rmS S2 l2) W5) := hk2
                  have HRC5 : Hid (Kt W0 L2 M2 W5 gc (cpc K1) 31) := hr2
                  have HRO5 : Hid (Kt W0 L2 M2 W5 go (otc o) 52) := ho2
                  have HRQ5 : Hid (Kt W0 L2 M2 W5 gq (otc o) 52) := hq2
                  clear hk2 hr2 hq2 ho2 hne hne2 HKX HRC HRO HDM2 HAC
                  have heq := fun W => eq_out W o
                  have heg := eqG_out
                  go_upto_region 22 with (first | (refine wpList_load_row (by rfl) _ _ (by rfl) _ (by rfl) 52 _ (0, 0) _ HRO5.out.r Tryz.underlying52 (by rfl) (info_out _) ?_) | (refine wpList_load_row (by rfl) _ _ (by rfl) _ (by rfl) 52 _ (0, 0) _ HRQ5.out.r Tryz.underlying52 (by rfl) (info_out _) ?_))
                  clear heq heg HRQ5
                  --@P5
                  have HSL : Hid (∀ W, Kz W0 b d L2 M2 S2 (rmS S2 l2) W → Calls Tryz.prog 15 #[.pointer (some ⟨b, 0, none⟩)] W fun e w' => ∃ x y z, e = .returned (.agg (stc S2 x y z)) ∧ Sv W.heap.size S2 x y z w' ∧ Below W.heap.size W w') := fun W hk => by
                    obtain ⟨hn1, hn2, hn3, hn4, _⟩ := HS2.out.n
                    have q := state_c W hk.l.p (by omega) (by omega) (by omega)
                    rw [hk.l.e] at q
                    exact q.mono fun e w' ⟨x, y, z, h1, h2, h3⟩ => ⟨x, y, z, h1, h2, h3⟩
                  have HSM : Hid (∀ W, Kz W0 b d L2 M2 S2 (rmS S2 l2) W → Calls Tryz.prog 15 #[.pointer (some ⟨d, 0, none⟩)] W fun e w' => ∃ x y z, e = .returned (.agg (stc (rmS S2 l2) x y z)) ∧ Sv W.heap.size (rmS S2 l2) x y z w' ∧ Below W.heap.size W w') := fun W hk => by
                    obtain ⟨hn1, hn2, hn3, hn4, _⟩ := HS3.out.n
                    have q := state_c W hk.m.p (by omega) (by omega) (by omega)
                    rw [hk.m.e] at q
                    exact q.mono fun e w' ⟨x, y, z, h1, h2, h3⟩ => ⟨x, y, z, h1, h2, h3⟩
                  go_upto_region 23 with (first | (go_at_call 15; refine (HSL.out _ HKX5.out).mono ?_; rintro e w5 ⟨ur, ui, uo, rfl, hsv, hb2⟩; obtain ⟨b1, b2, k1, k2, v1, v2, rfl, rfl, rfl⟩ := hsv.bs.forms; have HSVw5 : Hid _ := hsv; have HBw5 : Hid _ := hb2; clear hsv hb2) | (refine wpList_store_end (by rfl) 35 _ _ (by rfl) (by rfl) w5 (stc zST (.slice none 0 0) (.slice none 0 0) (.slice none 0 0)) (stc S2 (.slice b1 S2.ram.length b2) (.slice k1 S2.inp.length k2) (.slice v1 S2.out.length v2)) (by rfl) (by rfl) (by rfl) (info_bus _ _ _ _) (by rfl) (stOne S2) ?_))
                  refine on_P (motive := fun W => Code.wp _ _ _ _ W) (Q := fun W => (Kz W0 b d L2 M2 S2 (rmS S2 l2) W) ∧ (Kt W0 L2 M2 W gc (cpc K1) 31) ∧ (Kt W0 L2 M2 W go (otc o) 52) ∧ (Kt W0 L2 M2 W w5.heap.size (stc S2 (.slice b1 S2.ram.length b2) (.slice k1 S2.inp.length k2) (.slice v1 S2.out.length v2)) 35) ∧ (Bz W5.heap.size w5.heap.size S2 (.slice b1 S2.ram.length b2) (.slice k1 S2.inp.length k2) (.slice v1 S2.out.length v2) W) ∧ (gc < w5.heap.size ∧ go < w5.heap.size)) ⟨(HKX5.out.later HBw5.out).later (below_al _ _), (HRC5.out.later HBw5.out).later (below_al _ _), (HRO5.out.later HBw5.out).later (below_al _ _), Kt.new (HKX5.out.later HBw5.out) _ _, (Bz.new HSVw5.out).later (below_al _ _), ⟨(HRC5.out.later HBw5.out).r.lt, (HRO5.out.later HBw5.out).r.lt⟩⟩ ?_
                  clear HKX5 HRC5 HRO5 HSVw5 HBw5 HSL
                  generalize w5.heap.size = gi
                  rintro W6 ⟨h0, h1, h2, h3, h4, h5⟩
                  have HKX6 : Hid (Kz W0 b d L2 M2 S2 (rmS S2 l2) W6) := h0
                  have HRC6 : Hid (Kt W0 L2 M2 W6 gc (cpc K1) 31) := h1
                  have HRO6 : Hid (Kt W0 L2 M2 W6 go (otc o) 52) := h2
                  have HRI6 : Hid (Kt W0 L2 M2 W6 gi (stc S2 (.slice b1 S2.ram.length b2) (.slice k1 S2.inp.length k2) (.slice v1 S2.out.length v2)) 35) := h3
                  have HYI6 : Hid (Bz W5.heap.size gi S2 (.slice b1 S2.ram.length b2) (.slice k1 S2.inp.length k2) (.slice v1 S2.out.length v2) W6) := h4
                  have HN6 : Hid (gc < gi ∧ go < gi) := h5
                  clear h0 h1 h2 h3 h4 h5
                  generalize W5.heap.size = n5 at HYI6
                  go_upto_region 24 with (first | (go_at_call 15; refine (HSM.out _ HKX6.out).mono ?_; rintro e w6 ⟨ur, ui, uo, rfl, hsv, hb2⟩; obtain ⟨c1, c2, m1, m2, n1, n2, rfl, rfl, rfl⟩ := hsv.bs.forms; have HSVw6 : Hid _ := hsv; have HBw6 : Hid _ := hb2; clear hsv hb2) | (refine wpList_store_end (by rfl) 35 _ _ (by rfl) (by rfl) w6 (stc zST (.slice none 0 0) (.slice none 0 0) (.slice none 0 0)) (stc (rmS S2 l2) (.slice c1 l2.length c2) (.slice m1 S2.inp.length m2) (.slice n1 S2.out.length n2)) (by rfl) (by rfl) (by rfl) (info_bus _ _ _ _) (by rfl) (stOne (rmS S2 l2)) ?_))
                  refine on_P (motive := fun W => Code.wp _ _ _ _ W) (Q := fun W => (Kz W0 b d L2 M2 S2 (rmS S2 l2) W) ∧ (Kt W0 L2 M2 W gc (cpc K1) 31) ∧ (Kt W0 L2 M2 W go (otc o) 52) ∧ (Kt W0 L2 M2 W gi ((stc S2 (.slice b1 S2.ram.length b2) (.slice k1 S2.inp.length k2) (.slice v1 S2.out.length v2))) 35) ∧ (Kt W0 L2 M2 W w6.heap.size (stc (rmS S2 l2) (.slice c1 l2.length c2) (.slice m1 S2.inp.length m2) (.slice n1 S2.out.length n2)) 35) ∧ (Bz n5 gi S2 (.slice b1 S2.ram.length b2) (.slice k1 S2.inp.length k2) (.slice v1 S2.out.length v2) W) ∧ (Bz W6.heap.size w6.heap.size (rmS S2 l2) (.slice c1 l2.length c2) (.slice m1 S2.inp.length m2) (.slice n1 S2.out.length n2) W) ∧ (gc < gi ∧ go < gi ∧ gi < W6.heap.size ∧ gi < w6.heap.size)) ⟨(HKX6.out.later HBw6.out).later (below_al _ _), (HRC6.out.later HBw6.out).later (below_al _ _), (HRO6.out.later HBw6.out).later (below_al _ _), (HRI6.out.later HBw6.out).later (below_al _ _), Kt.new (HKX6.out.later HBw6.out) _ _, (HYI6.out.later HBw6.out).later (below_al _ _), (Bz.new HSVw6.out).later (below_al _ _), ⟨HN6.out.1, HN6.out.2, HRI6.out.r.lt, (HRI6.out.later HBw6.out).r.lt⟩⟩ ?_
                  clear HKX6 HRC6 HRO6 HRI6 HYI6 HN6 HSVw6 HBw6 HSM
                  generalize w6.heap.size = gv
                  generalize W6.heap.size = n6
                  rintro W8 ⟨h0, h1, h2, h3, h4, h5, h6, h7⟩
                  have HKX : Hid (Kz W0 b d L2 M2 S2 (rmS S2 l2) W8) := h0
                  have HRC : Hid (Kt W0 L2 M2 W8 gc (cpc K1) 31) := h1
                  have HRO : Hid (Kt W0 L2 M2 W8 go (otc o) 52) := h2
                  have HRI : Hid (Kt W0 L2 M2 W8 gi ((stc S2 (.slice b1 S2.ram.length b2) (.slice k1 S2.inp.length k2) (.slice v1 S2.out.length v2))) 35) := h3
                  have HRV : Hid (Kt W0 L2 M2 W8 gv (stc (rmS S2 l2) (.slice c1 l2.length c2) (.slice m1 S2.inp.length m2) (.slice n1 S2.out.length n2)) 35) := h4
                  have HYI : Hid (Bz n5 gi S2 (.slice b1 S2.ram.length b2) (.slice k1 S2.inp.length k2) (.slice v1 S2.out.length v2) W8) := h5
                  have HYV : Hid (Bz n6 gv (rmS S2 l2) (.slice c1 l2.length c2) (.slice m1 S2.inp.length m2) (.slice n1 S2.out.length n2) W8) := h6
                  have HNE : Hid (gc < gi ∧ go < gi ∧ gi < n6 ∧ gi < gv) := h7
                  clear h0 h1 h2 h3 h4 h5 h6 h7
                  have hne2 : S2.ram ≠ [] := fun e => by have := HS2.out.n.2.1; rw [e] at this; simp at this
                  have hne3 : l2 ≠ [] := fun e => by have h1 := HA2.out.len; have := HS2.out.n.2.1; rw [← h1, e] at this; simp at this
                  obtain ⟨rb, ob, rfl, hrb, hcb⟩ := HYI.out.b.r.spot hne2
                  obtain ⟨rc, oc, rfl, hrc, hcc⟩ := (show Byt W8 (.slice c1 l2.length c2) l2 from HYV.out.b.r).spot hne3
                  have HCBY : Hid (rb < W8.heap.size ∧ rc < W8.heap.size ∧ (∀ j, j < S2.ram.length → W8.cell? ⟨rb, ob + j, none⟩ = some (.int .u8 (S2.ram.getD j 0))) ∧ (∀ j, j < l2.length → W8.cell? ⟨rc, oc + j, none⟩ = some (.int .u8 (l2.getD j 0)))) := ⟨hrb, hrc, hcb, hcc⟩
                  have HN65 : Hid (S2.ram.length ≤ 65536) := HS2.out.n.1
                  clear hne2 hne3 hrb hcb hrc hcc
                  --@P6
                  go_wp2
                  go_loopw [15] (fun vk wr => ∃ k : Nat, k ≤ S2.ram.length ∧ vk = .int .i64 (k : Int) ∧ Hid (Below W8.heap.size W8 wr)) (fun k _ => S2.ram.length - (intOf k).toNat)
                  case atStart => exact ⟨0, Nat.zero_le _, rfl, Below.refl _ _⟩
                  case round =>
                    obtain ⟨k, hk9, rfl, hbw⟩ := hrel
                    have q0 : wr.cell? ⟨gi, 0, none⟩ = some (.slice (some ⟨rb, ob, none⟩) S2.ram.length b2) := (HRI.out.later hbw.out).r.cell 0
                    by_cases hkl : k < S2.ram.length
                    · have hklI : (k : Int) < (S2.ram.length : Int) := by omega
                      have hk65 : (k : Int) < 65536 := by have := HN65.out; omega
                      have hklJ : (k : Int) < (l2.length : Int) := by rw [HA2.out.len]; exact hklI
                      have j0 : ∀ x : Later wr, x.1.cell? ⟨gi, 0, none⟩ = some (.slice (some ⟨rb, ob, none⟩) S2.ram.length b2) := fun x => ((HRI.out.later hbw.out).later x.below).r.cell 0
                      have j1 : ∀ x : Later wr, x.1.cell? ⟨gv, 0, none⟩ = some (.slice (some ⟨rc, oc, none⟩) l2.length c2) := fun x => ((HRV.out.later hbw.out).later x.below).r.cell 0
                      have j2 : ∀ x : Later wr, x.1.cell? ⟨rb, ob + k, none⟩ = some (.int .u8 (S2.ram.getD k 0)) := fun x => ((hbw.out.trans (x.below.mono hbw.out.size)).cell (p := ⟨rb, ob + k, none⟩) HCBY.out.1).trans (HCBY.out.2.2.1 k hkl)
                      have j3 : ∀ x : Later wr, x.1.cell? ⟨rc, oc + k, none⟩ = some (.int .u8 (l2.getD k 0)) := fun x => ((hbw.out.trans (x.below.mono hbw.out.size)).cell (p := ⟨rc, oc + k, none⟩) HCBY.out.2.1).trans (HCBY.out.2.2.2 k (by rw [HA2.out.len]; exact hkl))
                      have hw1 : IntKind.u64.wrap (k : Int) = (k : Int) := u64_small (by omega) (by omega)
                      have hs1 : IntKind.u64.wrap (2147483648 + (k : Int)) = n64 (2147483648#64 + BitVec.ofNat 64 k) := by
                        have q := n64_add 2147483648#64 (BitVec.ofNat 64 k)
                        have q2 : n64 (BitVec.ofNat 64 k) = (k : Int) := by unfold n64; rw [BitVec.toNat_ofNat, Nat.mod_eq_of_lt (by omega)]
                        rw [q2] at q
                        exact q
                      have HGR : Hid (∀ W, Below wr.heap.size wr W → Calls Tryz.prog 17 #[.agg (pc K1.c K1.a), .int .u64 (n64 (2147483648#64 + BitVec.ofNat 64 k)), .int .i64 5] W fun e w' => e = .returned (.bool (grA (PC K1.c) (PA K1.a) (2147483648#64 + BitVec.ofNat 64 k) 5)) ∧ Below W.heap.size W w') := fun W hb => Granted_c K1.c K1.a _ 5 W (HT0.out.next ((HKX.out.later hbw.out).later hb).l.be)
                      have HAK := HA2.out.at' k hkl
                      have HLC : Hid (gc < wr.heap.size) := (HRC.out.later hbw.out).r.lt
                      have HCP : Hid (∀ j v, (pc K1.c K1.a)[j]? = some v → wr.cell? ⟨gc, 47 + j, none⟩ = some v) := (HRC.out.later hbw.out).r.pmp
                      have := later_nonempty wr
                      generalize grA (PC K1.c) (PA K1.a) (2147483648#64 + BitVec.ofNat 64 k) 5 = gg at HGR HAK
                      generalize n64 (2147483648#64 + BitVec.ofNat 64 k) = nn at HGR hs1
                      go_upto_region 27 with fail
                      cases gg with
                      | false =>
                        clear HAK
                        refine wp_region_later (x0 := Later.start wr) (by kernel_rfl) (by kernel_rfl) ?_
                        iterate 7 (first | (refine BigFrame.wpQuiet_want (by rfl) fun KK hK => ?_; refine quiet_load_agg 27 _ (by rfl) gc 47 (by rfl) (pc K1.c K1.a) _ HLC.out HCP.out Tryz.underlying27 (by rfl) (info_pmp _ _) (hK _ ?_); clear hK KK; simp only [Act.put, List.setIfInBounds_toArray, List.set_cons_succ, List.set_cons_zero]) | (go_big_quiet_step (first | (go_at_call 17; exact calls_later (HGR.out _ (Later.below _))))))
                        repeat (go_big_quiet_step (fail))
                        refine wpQuiet_nil ?_
                        rintro w' ⟨x9, rfl⟩
                        go_wp2
                        go_roundw
                        · exact ⟨k + 1, by omega, by go_num, hbw.out.trans (x9.below.mono hbw.out.size)⟩
                        · simp only [intOf]; omega
                      | true =>
                        have hv := HAK rfl
                        rw [hv] at j3
                        have en : (S2.ram.getD k 0 != S2.ram.getD k 0) = false := by simp
                        generalize S2.ram.getD k 0 = vb at j2 j3 en
                        clear HAK hv
                        refine wp_region_later (x0 := Later.start wr) (by kernel_rfl) (by kernel_rfl) ?_
                        iterate 7 (first | (refine BigFrame.wpQuiet_want (by rfl) fun KK hK => ?_; refine quiet_load_agg 27 _ (by rfl) gc 47 (by rfl) (pc K1.c K1.a) _ HLC.out HCP.out Tryz.underlying27 (by rfl) (info_pmp _ _) (hK _ ?_); clear hK KK; simp only [Act.put, List.setIfInBounds_toArray, List.set_cons_succ, List.set_cons_zero]) | (go_big_quiet_step (first | (go_at_call 17; exact calls_later (HGR.out _ (Later.below _))))))
                        repeat (go_big_quiet_step (fail))
                        refine wpQuiet_nil ?_
                        rintro w' ⟨x9, rfl⟩
                        go_wp2
                        go_roundw
                        · exact ⟨k + 1, by omega, by go_num, hbw.out.trans (x9.below.mono hbw.out.size)⟩
                        · simp only [intOf]; omega
                    · obtain rfl : k = S2.ram.length := by omega
                      have hklI : ¬ (S2.ram.length : Int) < (S2.ram.length : Int) := by omega
                      have q1 : wr.frozen? ⟨gi, 0, none⟩ = false := frozen_of_row wr gi 0 _ _ (HRI.out.later hbw.out).r
                      --@P8
                      go_upto_region 30 with fail
                      refine on_P (motive := fun W => Code.wp _ _ _ _ W) (Q := fun W => (Kz W0 b d L2 M2 S2 (rmS S2 l2) W) ∧ (Kt W0 L2 M2 W gc (cpc K1) 31) ∧ (Kt W0 L2 M2 W go (otc o) 52) ∧ (Kt W0 L2 M2 W gi (stc (rmS S2 []) (.slice none 0 0) (.slice k1 S2.inp.length k2) (.slice v1 S2.out.length v2)) 35) ∧ (Kt W0 L2 M2 W gv (stc (rmS S2 l2) (.slice (some ⟨rc, oc, none⟩) l2.length c2) (.slice m1 S2.inp.length m2) (.slice n1 S2.out.length n2)) 35) ∧ (Bz n5 gi S2 (.slice (some ⟨rb, ob, none⟩) S2.ram.length b2) (.slice k1 S2.inp.length k2) (.slice v1 S2.out.length v2) W) ∧ (Bz n6 gv (rmS S2 l2) (.slice (some ⟨rc, oc, none⟩) l2.length c2) (.slice m1 S2.inp.length m2) (.slice n1 S2.out.length n2) W)) ⟨(HKX.out.later hbw.out).lay (HRI.out.later hbw.out) 0 [.slice none 0 0], (HRC.out.later hbw.out).lays (by have := HNE.out; omega) [.slice none 0 0] 0, (HRO.out.later hbw.out).lays (by have := HNE.out; omega) [.slice none 0 0] 0, (HRI.out.later hbw.out).lay [.slice none 0 0] 0, (HRV.out.later hbw.out).lays (by have := HNE.out; omega) [.slice none 0 0] 0, (HYI.out.later hbw.out).lay (.inr (Nat.le_refl _)) 0 [.slice none 0 0], (HYV.out.later hbw.out).lay (.inl (by have := HNE.out; omega)) 0 [.slice none 0 0]⟩ ?_
                      clear HKX HRC HRO HRI HRV HYI HYV q0 q1
                      rintro W9 ⟨h0, h1, h2, h3, h4, h5, h6⟩
                      have HKX9 : Hid (Kz W0 b d L2 M2 S2 (rmS S2 l2) W9) := h0
                      have HRC9 : Hid (Kt W0 L2 M2 W9 gc (cpc K1) 31) := h1
                      have HRO9 : Hid (Kt W0 L2 M2 W9 go (otc o) 52) := h2
                      have HRI9 : Hid (Kt W0 L2 M2 W9 gi (stc (rmS S2 []) (.slice none 0 0) (.slice k1 S2.inp.length k2) (.slice v1 S2.out.length v2)) 35) := h3
                      have HRV9 : Hid (Kt W0 L2 M2 W9 gv (stc (rmS S2 l2) (.slice (some ⟨rc, oc, none⟩) l2.length c2) (.slice m1 S2.inp.length m2) (.slice n1 S2.out.length n2)) 35) := h4
                      have HYI9 : Hid (Bz n5 gi S2 (.slice (some ⟨rb, ob, none⟩) S2.ram.length b2) (.slice k1 S2.inp.length k2) (.slice v1 S2.out.length v2) W9) := h5
                      have HYV9 : Hid (Bz n6 gv (rmS S2 l2) (.slice (some ⟨rc, oc, none⟩) l2.length c2) (.slice m1 S2.inp.length m2) (.slice n1 S2.out.length n2) W9) := h6
                      clear h0 h1 h2 h3 h4 h5 h6
                      have q0 : W9.cell? ⟨gv, 0, none⟩ = some (.slice (some ⟨rc, oc, none⟩) l2.length c2) := HRV9.out.r.cell 0
                      have q1 : W9.frozen? ⟨gv, 0, none⟩ = false := frozen_of_row W9 gv 0 _ _ HRV9.out.r
                      go_upto_region 31 with fail
                      refine on_P (motive := fun W => Code.wp _ _ _ _ W) (Q := fun W => (Kz W0 b d L2 M2 S2 (rmS S2 l2) W) ∧ (Kt W0 L2 M2 W gc (cpc K1) 31) ∧ (Kt W0 L2 M2 W go (otc o) 52) ∧ (Kt W0 L2 M2 W gi (stc (rmS S2 []) (.slice none 0 0) (.slice k1 S2.inp.length k2) (.slice v1 S2.out.length v2)) 35) ∧ (Kt W0 L2 M2 W gv (stc (rmS S2 []) (.slice none 0 0) (.slice m1 S2.inp.length m2) (.slice n1 S2.out.length n2)) 35) ∧ (Bz n5 gi S2 (.slice (some ⟨rb, ob, none⟩) S2.ram.length b2) (.slice k1 S2.inp.length k2) (.slice v1 S2.out.length v2) W) ∧ (Bz n6 gv (rmS S2 l2) (.slice (some ⟨rc, oc, none⟩) l2.length c2) (.slice m1 S2.inp.length m2) (.slice n1 S2.out.length n2) W)) ⟨HKX9.out.lay HRV9.out 0 [.slice none 0 0], HRC9.out.lays (by have := HNE.out; omega) [.slice none 0 0] 0, HRO9.out.lays (by have := HNE.out; omega) [.slice none 0 0] 0, HRI9.out.lays (by have := HNE.out; omega) [.slice none 0 0] 0, HRV9.out.lay [.slice none 0 0] 0, HYI9.out.lay (.inr (by have := HNE.out; omega)) 0 [.slice none 0 0], HYV9.out.lay (.inr (Nat.le_refl _)) 0 [.slice none 0 0]⟩ ?_
                      clear HKX9 HRC9 HRO9 HRI9 HRV9 HYI9 HYV9 q0 q1
                      rintro Wa ⟨h0, h1, h2, h3, h4, h5, h6⟩
                      have HKXa : Hid (Kz W0 b d L2 M2 S2 (rmS S2 l2) Wa) := h0
                      have HRCa : Hid (Kt W0 L2 M2 Wa gc (cpc K1) 31) := h1
                      have HROa : Hid (Kt W0 L2 M2 Wa go (otc o) 52) := h2
                      have HRIa : Hid (Kt W0 L2 M2 Wa gi (stc (rmS S2 []) (.slice none 0 0) (.slice k1 S2.inp.length k2) (.slice v1 S2.out.length v2)) 35) := h3
                      have HRVa : Hid (Kt W0 L2 M2 Wa gv (stc (rmS S2 []) (.slice none 0 0) (.slice m1 S2.inp.length m2) (.slice n1 S2.out.length n2)) 35) := h4
                      have HYIa : Hid (Bz n5 gi S2 (.slice (some ⟨rb, ob, none⟩) S2.ram.length b2) (.slice k1 S2.inp.length k2) (.slice v1 S2.out.length v2) Wa) := h5
                      have HYVa : Hid (Bz n6 gv (rmS S2 l2) (.slice (some ⟨rc, oc, none⟩) l2.length c2) (.slice m1 S2.inp.length m2) (.slice n1 S2.out.length n2) Wa) := h6
                      clear h0 h1 h2 h3 h4 h5 h6
                      have HSA9 : Hid (Calls Tryz.prog 16 #[.agg (stc (rmS S2 []) (.slice none 0 0) (.slice k1 S2.inp.length k2) (.slice v1 S2.out.length v2)), .agg (stc (rmS S2 []) (.slice none 0 0) (.slice m1 S2.inp.length m2) (.slice n1 S2.out.length n2))] Wa fun e w' => e = .returned (.bool true) ∧ Below Wa.heap.size Wa w') := same_c (rmS S2 []) _ _ _ _ _ _ Wa ⟨byt_nil Wa, HYIa.out.b.i, HYIa.out.b.o⟩ ⟨byt_nil Wa, HYVa.out.b.i, HYVa.out.b.o⟩
                      --@P9
                      go_upto_region 33 with (first | (refine wpList_load_row (by rfl) _ _ (by rfl) _ (by rfl) 35 _ (0, 0) _ HRIa.out.r Tryz.underlying35 (by rfl) (info_bus _ _ _ _) ?_) | (refine wpList_load_row (by rfl) _ _ (by rfl) _ (by rfl) 35 _ (0, 0) _ HRVa.out.r Tryz.underlying35 (by rfl) (info_bus _ _ _ _) ?_) | (go_at_call 16; refine HSA9.out.mono ?_; rintro e w9 ⟨rfl, hb9⟩; have HB9 : Hid (Below Wa.heap.size Wa w9) := hb9; clear hb9))
                      refine on_P (motive := fun W => Code.wp _ _ _ _ W) (Q := fun W => (Kz W0 b d L2 M2 S2 (rmS S2 l2) W) ∧ (Kt W0 L2 M2 W gc (cpc K1) 31) ∧ (Kt W0 L2 M2 W go (otc o) 52)) ⟨HKXa.out.later HB9.out, HRCa.out.later HB9.out, HROa.out.later HB9.out⟩ ?_
                      clear HKXa HRCa HROa HRIa HRVa HYIa HYVa HSA9 HB9
                      rintro Wb ⟨h0, h1, h2⟩
                      have HKXb : Hid (Kz W0 b d L2 M2 S2 (rmS S2 l2) Wb) := h0
                      have HRCb : Hid (Kt W0 L2 M2 Wb gc (cpc K1) 31) := h1
                      have HROb : Hid (Kt W0 L2 M2 Wb go (otc o) 52) := h2
                      clear h0 h1 h2
                      have HRSb : Hid (∀ j v, (rsc o.K.rv o.K.ra o.K.rs)[j]? = some v → Wb.cell? ⟨go, 86 + j, none⟩ = some v) := otc_res HROb.out.r
                      go_upto_region 17 with (first | (refine wpList_load_agg (by rfl) _ _ (by rfl) go 86 (by rfl) (rsc o.K.rv o.K.ra o.K.rs) _ HRSb.out Tryz.underlying29 (by rfl) (info_res _ _ _) ?_) | (refine wpList_store_part (by rfl) _ _ _ (by rfl) (by rfl) gc 79 _ (by rfl) (by rfl) (HRCb.out.r.there (by rw [cpc_size]; show 79 + 3 ≤ 82; omega)) (info_res _ _ _) (rsc_ones _ _ _) ?_))
                      refine on_P (motive := fun W => Code.wp _ _ _ _ W) (Q := fun W => Blv W0 b d gc K0 W) ⟨resOf K1 o.K, L2, M2, S2, l2, HKXb.out.lay HRCb.out 79 _, HS2.out, HS3.out, HA2.out.tsc HCS.out, (HRCb.out.lay (rsc o.K.rv o.K.ra o.K.rs).toList 79).eqs (cpc_res _ o.K.rv o.K.ra o.K.rs), HCN.out⟩ ?_
                      clear HKXb HRCb HROb HRSb HS2 HS3 HA2 HCN
                      intro Wc hWc
                      have HUc : Hid (Blv W0 b d gc K0 Wc) := hWc
                      clear hWc
                      go_wp2
                      go_roundw
                      · exact ⟨j + 1, by omega, by go_num, HUc⟩
                      · simp only [intOf]; omega
            · have h60I : ¬ ((j : Int) < 60) := by omega
              go_wp2
              go_ret
              exact ⟨rfl, b0.out.trans (hk.l.be.mono b0.out.size)⟩
          · obtain rfl : j = O.length := by omega
            have hltI : ¬ ((O.length : Int) < (O.length : Int)) := by omega
            go_wp2
            go_ret
            exact ⟨rfl, b0.out.trans (hk.l.be.mono b0.out.size)⟩
end Go.Proofs.YtlhgphokfpnfeaaGreatDoor
