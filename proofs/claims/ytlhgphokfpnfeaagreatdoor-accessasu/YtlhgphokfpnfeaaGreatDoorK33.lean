import Derived.Test.YtlhgphokfpnfeaaGreatDoorK32
import Derived.Deep.CutRange
import Derived.Deep.RegionWith
namespace Go.Proofs.YtlhgphokfpnfeaaGreatDoor
set_option linter.unusedVariables false
open Go.MuLone Go.ChangeShapes Go.WideShapes Go.ChangeAt Go.RowKit Go.Deep
theorem bfB_or (x y : BitVec 64) : bfB (x ||| y) = bfB x ||| bfB y := by
  unfold bfB
  rw [BitVec.ushiftRight_or_distrib]
  apply BitVec.eq_of_getLsbD_eq
  intro i hi
  simp only [BitVec.getLsbD_and, BitVec.getLsbD_or]
  cases (x >>> 11).getLsbD i <;> cases (y >>> 11).getLsbD i <;> cases (3#64).getLsbD i <;> rfl
theorem bfB_and (x y : BitVec 64) : bfB (x &&& y) = bfB x &&& (y >>> 11) := by
  unfold bfB
  rw [BitVec.ushiftRight_and_distrib, BitVec.and_assoc, BitVec.and_comm (y >>> 11), ← BitVec.and_assoc]
theorem bfB_an (x y : BitVec 64) : bfB (x &&& y) = (x >>> 11) &&& bfB y := by
  unfold bfB
  rw [BitVec.ushiftRight_and_distrib, BitVec.and_assoc]
/-- mstatus with MPRV, and U ahead. -/
def mpr (v : BitVec 64) : BitVec 64 := v &&& ~~~6144#64 ||| 131072#64
theorem mpr_bf (v : BitVec 64) : bfB (mpr v) = 0#64 := by
  unfold mpr
  rw [bfB_or, bfB_an, show bfB (~~~6144#64) = 0#64 by decide, show bfB 131072#64 = 0#64 by decide, BitVec.and_zero]
  rfl
theorem stB_bf (v : BitVec 64) (h : bfB v = 0#64) : bfB (stB v) = 0#64 := by
  unfold stB
  rw [bfB_or, show bfB 8589934592#64 = 0#64 by decide]
  split
  · rw [bfB_and, bfB_and, h, BitVec.zero_and, BitVec.zero_and]; rfl
  · rw [bfB_and, h, BitVec.zero_and]; rfl
theorem stB_17 (v : BitVec 64) (h : v.getLsbD 17 = true) : stB v &&& 131072#64 ≠ 0#64 := fun e => by
  have q := congrArg (fun z : BitVec 64 => z.getLsbD 17) e
  simp only [BitVec.getLsbD_and, BitVec.getLsbD_zero] at q
  unfold stB at q
  rw [BitVec.getLsbD_or, show (131072#64 : BitVec 64).getLsbD 17 = true by decide] at q
  split at q
  · rw [BitVec.getLsbD_and, BitVec.getLsbD_and, h, show (2234504#64 : BitVec 64).getLsbD 17 = true by decide, show (~~~6144#64 : BitVec 64).getLsbD 17 = true by decide] at q; cases q
  · rw [BitVec.getLsbD_and, h, show (2234504#64 : BitVec 64).getLsbD 17 = true by decide] at q; cases q
theorem mpr_17 (v : BitVec 64) : (mpr v).getLsbD 17 = true := by
  unfold mpr
  rw [BitVec.getLsbD_or, show (131072#64 : BitVec 64).getLsbD 17 = true by decide, Bool.or_true]
/-- In M with MPRV and MPP U the mode that counts is U. -/
theorem xE_m {k : Cp} {v : BitVec 64} (hm : k.md = 3) (hs : k.s 0 = mpr v) : xE (PR k) = 0 := by
  have e1 : (PR k).md = 3 := by show (if k.md = 3 then (3 : Int) else 0) = 3; rw [if_pos hm]
  have e2 : (PR k).s 0 = stB (mpr v) := by show stB (k.s 0) = _; rw [hs]
  unfold xE
  rw [e1, e2, if_pos ⟨rfl, stB_17 _ (mpr_17 v)⟩, stB_bf _ (mpr_bf v)]
  rfl
theorem xE_u {k : Cp} (hm : k.md = 0) : xE (PR k) = 0 := by
  have e1 : (PR k).md = 0 := by show (if k.md = 3 then (3 : Int) else 0) = 0; rw [if_neg (by omega)]
  unfold xE
  rw [e1, if_neg (by omega)]
theorem cpc_sL (k : Cp) (v : BitVec 64) : layC (cpc k) 35 [.int .u64 (n64 v)] = cpc { k with s := upd k.s 0 v } := cpc_s k 0 (by omega) v
theorem cpc_m (k : Cp) (v : Int) : layC (cpc k) 33 [.int .i64 v] = cpc { k with md := v } := cpc_md k v
theorem eq_rsc (w : World) (v : Bool) (a : BitVec 64) (s : Int) : (Op.equalIn 10000 29 (.agg (rsc v a s)) (.agg (rsc v a s))).run Tryz.prog w = .ok true w := by
  obtain ⟨r, hr, hi⟩ := cmp_res w 9998 v v a a s s
  have hr' : (Op.equalIn 10000 29 (.agg (rsc v a s)) (.agg (rsc v a s))).run Tryz.prog w = .ok r w := hr
  rw [hr']
  cases r with
  | true => rfl
  | false => simp at hi
/-- Both buses and the three Cpus between two acts. -/
def Amu (w0 : World) (b d gm gu gp : Nat) (m0 p0 : Cp) (w : World) : Prop := ∃ rv ra rs L M S, Kz w0 b d L M S S w ∧ Sok S ∧ Kt w0 L M w gm (cpc { m0 with rv := rv, ra := ra, rs := rs }) 31 ∧ Kt w0 L M w gu (cpc { m0 with md := 0, rv := rv, ra := ra, rs := rs }) 31 ∧ Kt w0 L M w gp (cpc p0) 31
theorem Amu.later {w0 : World} {b d gm gu gp : Nat} {m0 p0 : Cp} {w w' : World} (h : Amu w0 b d gm gu gp m0 p0 w) (hb : Below w.heap.size w w') : Amu w0 b d gm gu gp m0 p0 w' := by
  obtain ⟨rv, ra, rs, L, M, S, h1, h2, h3, h4, h5⟩ := h
  exact ⟨rv, ra, rs, L, M, S, h1.later hb, h2, h3.later hb, h4.later hb, h5.later hb⟩
set_option maxRecDepth 100000 in
set_option maxHeartbeats 4000000 in
theorem asu_no (K : Cp) (S : St) (ar ai ao : Option Addr) (cr ci co : Nat) (O : List Acd) (va : Value) (w : World) (hT : Tb w) (hs : Bs S (.slice ar S.ram.length cr) (.slice ai S.inp.length ci) (.slice ao S.out.length co) w) (hw : StW S) (lr : S.ram.length ≤ 140737488355328) (li : S.inp.length ≤ 140737488355328) (lo : S.out.length ≤ 140737488355328) (ha : Acts w va O) (hl : O.length ≤ 140737488355328) (hok : S.ok = false) :
    Calls Tryz.prog 5 #[.agg (scc K S (.slice ar S.ram.length cr) (.slice ai S.inp.length ci) (.slice ao S.out.length co) va)] w fun e w' => e = .returned (.bool true) ∧ Below w.heap.size w w' := by
  obtain ⟨W0, hW0, r0, b0, s0⟩ := start1 w (scc K S (.slice ar S.ram.length cr) (.slice ai S.inp.length ci) (.slice ao S.out.length co) va) 38
  have HSB : Hid (∀ W, Below W0.heap.size W0 W → ∀ j v, (stc S (.slice ar S.ram.length cr) (.slice ai S.inp.length ci) (.slice ao S.out.length co))[j]? = some v → W.cell? ⟨w.heap.size, 82 + j, none⟩ = some v) := fun W hb j v h => by rw [(r0.out.later hb r0.out.lt).cell]; exact scc_b _ _ _ _ _ _ j v h
  have HLV : Hid (∀ W, Tb W → Calls Tryz.prog 9 #[] W fun e w' => e = .returned (.bool true) ∧ Below W.heap.size W w') := fun W h => live_c W h
  have HT0 : Hid (Tb W0) := hT.next b0.out
  have HST : Hid (∀ W, Calls Tryz.prog 8 #[.agg (stc S (.slice ar S.ram.length cr) (.slice ai S.inp.length ci) (.slice ao S.out.length co))] W fun e w' => e = .returned (.pointer none) ∧ Below W.heap.size W w') := fun W => start_no S ar ai ao cr ci co W hok
  clear hs hw lr li lo ha hl hok s0 hT
  go_enter Tryz.func5, Tryz.ntmps5
  go_upto_region 1 with fail
  clear hW0 r0
  go_upto_region 2 with (first | (refine wpList_load_agg (by rfl) _ _ (by rfl) w.heap.size 82 (by rfl) (stc S (.slice ar S.ram.length cr) (.slice ai S.inp.length ci) (.slice ao S.out.length co)) _ (HSB.out _ (Below.refl _ _)) Tryz.underlying35 (by rfl) (info_bus _ _ _ _) ?_) | (go_at_call 8; refine (HST.out _).mono ?_; rintro e w1 ⟨rfl, hb1⟩; have HB1 : Hid (Below W0.heap.size W0 w1) := hb1; clear hb1))
  go_upto_region 3 with (first | (refine wpList_load_agg (by rfl) _ _ (by rfl) w.heap.size 82 (by rfl) (stc S (.slice ar S.ram.length cr) (.slice ai S.inp.length ci) (.slice ao S.out.length co)) _ (HSB.out _ HB1.out) Tryz.underlying35 (by rfl) (info_bus _ _ _ _) ?_) | (go_at_call 8; refine (HST.out _).mono ?_; rintro e w2 ⟨rfl, hb2⟩; have HB2 : Hid (Below W0.heap.size W0 w2) := HB1.out.trans (hb2.mono HB1.out.size); clear hb2))
  go_wp2_with (first | (go_at_call 9; refine (HLV.out _ (HT0.out.next HB2.out)).mono ?_; rintro e w3 ⟨rfl, hb3⟩; have HB3 : Hid (Below W0.heap.size W0 w3) := HB2.out.trans (hb3.mono HB2.out.size); clear hb3))
  go_ret
  exact ⟨rfl, b0.out.trans (HB3.out.mono b0.out.size)⟩
set_option maxRecDepth 100000 in
set_option maxHeartbeats 8000000 in
theorem asu_ok (K : Cp) (S : St) (ar ai ao : Option Addr) (cr ci co : Nat) (O : List Acd) (va : Value) (w : World) (hT : Tb w) (hs : Bs S (.slice ar S.ram.length cr) (.slice ai S.inp.length ci) (.slice ao S.out.length co) w) (hw : StW S) (lr : S.ram.length ≤ 140737488355328) (li : S.inp.length ≤ 140737488355328) (lo : S.out.length ≤ 140737488355328) (ha : Acts w va O) (hl : O.length ≤ 140737488355328) (hok : S.ok = true) :
    Calls Tryz.prog 5 #[.agg (scc K S (.slice ar S.ram.length cr) (.slice ai S.inp.length ci) (.slice ao S.out.length co) va)] w fun e w' => e = .returned (.bool true) ∧ Below w.heap.size w w' := by
  obtain ⟨W0, hW0, r0, b0, s0⟩ := start1 w (scc K S (.slice ar S.ram.length cr) (.slice ai S.inp.length ci) (.slice ao S.out.length co) va) 38
  have HSB : Hid (∀ W, Below W0.heap.size W0 W → ∀ j v, (stc S (.slice ar S.ram.length cr) (.slice ai S.inp.length ci) (.slice ao S.out.length co))[j]? = some v → W.cell? ⟨w.heap.size, 82 + j, none⟩ = some v) := fun W hb j v h => by rw [(r0.out.later hb r0.out.lt).cell]; exact scc_b _ _ _ _ _ _ j v h
  have HLV : Hid (∀ W, Tb W → Calls Tryz.prog 9 #[] W fun e w' => e = .returned (.bool true) ∧ Below W.heap.size W w') := fun W h => live_c W h
  have HT0 : Hid (Tb W0) := hT.next b0.out
  have HSC : Hid (∀ W, Below W0.heap.size W0 W → ∀ j v, (cpc K)[j]? = some v → W.cell? ⟨w.heap.size, 0 + j, none⟩ = some v) := fun W hb j v h => by rw [(r0.out.later hb r0.out.lt).cell]; exact scc_c _ _ _ _ _ _ j v h
  have HSA : Hid (∀ W, Below W0.heap.size W0 W → W.cell? ⟨w.heap.size, 97, none⟩ = some va) := fun W hb => by rw [(r0.out.later hb r0.out.lt).cell]; exact scc_a _ _ _ _ _ _
  have HST : Hid (Calls Tryz.prog 8 #[.agg (stc S (.slice ar S.ram.length cr) (.slice ai S.inp.length ci) (.slice ao S.out.length co))] W0 fun e w' => ∃ L, e = .returned (.pointer (some ⟨L.b, 0, none⟩)) ∧ PB W0.heap.size L S w' ∧ Below W0.heap.size W0 w') := start_ok S ar ai ao cr ci co W0 hok (hs.later b0.out) lr li lo
  have HSK : Hid (Sok S) := ⟨hok, hw⟩
  obtain ⟨aA, cA, rfl, hcap, hel⟩ := ha
  have HEL : Hid (∀ j, j < O.length → ∃ g off, aA = some ⟨g, off, none⟩ ∧ g < W0.heap.size ∧ ∀ i, i < 5 → ∀ W, Below W0.heap.size W0 W → W.cell? ⟨g, off + j * 5 + i, none⟩ = (acc (O.getD j ⟨0, 0, 0, 0#64, 0#64⟩))[i]?) := fun j hj => by
    obtain ⟨g, off, e, hg, hc⟩ := hel (fun e => by rw [e] at hj; simp at hj)
    refine ⟨g, off, e, Nat.lt_of_lt_of_le hg b0.out.size, fun i hi W hb => ?_⟩
    rw [hb.cell (p := ⟨g, off + j * 5 + i, none⟩) (Nat.lt_of_lt_of_le hg b0.out.size), b0.out.cell (p := ⟨g, off + j * 5 + i, none⟩) hg]
    exact hc j hj i hi
  have HL0 : Hid (O.length ≤ 140737488355328) := hl
  have hzc := zero_cpu
  have hza := zero_act
  have hzo := zero_out
  have hzt := zero_trap
  have HST2 : Hid (∀ W, Below W0.heap.size W0 W → Calls Tryz.prog 8 #[.agg (stc S (.slice ar S.ram.length cr) (.slice ai S.inp.length ci) (.slice ao S.out.length co))] W fun e w' => ∃ L, e = .returned (.pointer (some ⟨L.b, 0, none⟩)) ∧ PB W.heap.size L S w' ∧ Below W.heap.size W w') := fun W hb => start_ok S ar ai ao cr ci co W hok ((hs.later b0.out).later hb) lr li lo
  clear hs hw lr li lo hok s0 hT hel hcap hl
  go_enter Tryz.func5, Tryz.ntmps5
  go_upto_region 1 with fail
  clear hW0 r0
  go_upto_region 2 with (first | (refine wpList_load_agg (by rfl) _ _ (by rfl) w.heap.size 82 (by rfl) (stc S (.slice ar S.ram.length cr) (.slice ai S.inp.length ci) (.slice ao S.out.length co)) _ (HSB.out _ (Below.refl _ _)) Tryz.underlying35 (by rfl) (info_bus _ _ _ _) ?_) | (go_at_call 8; refine HST.out.mono ?_; rintro e w1 ⟨L, rfl, hp1, hb1⟩; have HK1 : Hid (Ky W0 L.b L S w1) := ⟨hp1, rfl, hb1⟩; clear hp1 hb1))
  go_upto_region 3 with (first | (refine wpList_load_agg (by rfl) _ _ (by rfl) w.heap.size 82 (by rfl) (stc S (.slice ar S.ram.length cr) (.slice ai S.inp.length ci) (.slice ao S.out.length co)) _ (HSB.out _ HK1.out.be) Tryz.underlying35 (by rfl) (info_bus _ _ _ _) ?_) | (go_at_call 8; refine (HST2.out _ HK1.out.be).mono ?_; rintro e w2 ⟨M, rfl, hp2, hb2⟩; have HK2 : Hid (Kz W0 L.b M.b L M S S w2) := ⟨HK1.out.later hb2, ⟨hp2.le HK1.out.be.size, rfl, HK1.out.be.trans (hb2.mono HK1.out.be.size)⟩, fun k hk hm => by have h1 := HK1.out.p.own_hi k hk; have h2 := hp2.own_lo k hm; omega⟩; clear hp2 hb2))
  go_upto_region 5 with (first | (go_at_call 9; refine (HLV.out _ (HT0.out.next HK2.out.l.be)).mono ?_; rintro e w3 ⟨rfl, hb3⟩; have HK3 : Hid (Kz W0 L.b M.b L M S S w3) := HK2.out.later hb3; clear hb3))
  have HA0 : Hid (Calls Tryz.prog 10 #[.agg (cpc K), .pointer (some ⟨L.b, 0, none⟩)] w3 fun e w' => e = .returned (.agg (cpc (PR K))) ∧ ∃ L', PSt W0.heap.size L w3 L' S w') := access0_c w3 HK3.out.l.p HSK.out (HT0.out.next HK3.out.l.be) HT0.out.lt K
  go_upto_region 6 with (first | (refine wpList_load_agg (by rfl) _ _ (by rfl) w.heap.size 0 (by rfl) (cpc K) _ (HSC.out _ HK3.out.l.be) Tryz.underlying31 (by rfl) (info_cpu _) ?_) | (go_at_call 10; refine HA0.out.mono ?_; rintro e w4 ⟨rfl, L1, hp4⟩; have HK4 : Hid (Kz W0 L.b M.b L1 M S S w4) := HK3.out.stepL hp4; clear hp4) | (refine wpList_store_end (by rfl) 31 _ _ (by rfl) (by rfl) w4 (cpc cz) (cpc (PR K)) (by rfl) (by rfl) (by rfl) (info_cpu _) (by rw [cpc_size, cpc_size]) (cpc_ones _) ?_))
  generalize hbb : L.b = b at HK4 ⊢
  generalize hdd : M.b = d at HK4 ⊢
  refine on_P (motive := fun W => Code.wp _ _ _ _ W) (Q := fun W => (Kz W0 b d L1 M S S W) ∧ (Kt W0 L1 M W w4.heap.size (cpc (PR K)) 31)) ⟨HK4.out.later (below_al _ _), Kt.new HK4.out _ _⟩ ?_
  clear HK1 HK2 HK3 HK4 HA0 HSB HSC HST HST2 HLV hbb hdd
  generalize w4.heap.size = gm
  rintro W5 ⟨h0, h1⟩
  have HK5 : Hid (Kz W0 b d L1 M S S W5) := h0
  have HR5 : Hid (Kt W0 L1 M W5 gm (cpc (PR K)) 31) := h1
  clear h0 h1
  clear w1 w2 w3 w4 L
  obtain ⟨K0, hK0⟩ : ∃ K0, K0 = PR K := ⟨_, rfl⟩
  rw [← hK0] at HR5
  clear hK0
  have c33 : W5.cell? ⟨gm, 33, none⟩ = some (.int .i64 K0.md) := HR5.out.r.cls.md
  have f33 : W5.frozen? ⟨gm, 33, none⟩ = false := frozen_of_row W5 gm 33 _ _ HR5.out.r
  go_upto_region 7 with fail
  refine on_P (motive := fun W => Code.wp _ _ _ _ W) (Q := fun W => (Kz W0 b d L1 M S S W) ∧ (Kt W0 L1 M W gm (cpc { K0 with md := 3 }) 31)) ⟨HK5.out.lay HR5.out 33 [.int .i64 3], (HR5.out.lay [.int .i64 3] 33).eqs (cpc_m _ _)⟩ ?_
  clear HK5 HR5 c33 f33
  rintro W6 ⟨h0, h1⟩
  have HK6 : Hid (Kz W0 b d L1 M S S W6) := h0
  have HR6 : Hid (Kt W0 L1 M W6 gm (cpc { K0 with md := 3 }) 31) := h1
  clear h0 h1
  have c35 : W6.cell? ⟨gm, 35, none⟩ = some (.int .u64 (n64 (K0.s 0))) := HR6.out.r.cls.s0
  have f35 : W6.frozen? ⟨gm, 35, none⟩ = false := frozen_of_row W6 gm 35 _ _ HR6.out.r
  have a0 : bits .andNot .u64 (n64 (K0.s 0)) 6144 = n64 (K0.s 0 &&& ~~~6144#64) := n64_andNot _ 6144#64
  have a1 : bits .or .u64 (n64 (K0.s 0 &&& ~~~6144#64)) 131072 = n64 (mpr (K0.s 0)) := n64_or _ 131072#64
  obtain ⟨m0, hm0⟩ : ∃ m0 : Cp, m0 = { K0 with md := 3, s := upd K0.s 0 (mpr (K0.s 0)) } := ⟨_, rfl⟩
  have HMM : Hid (m0.md = 3 ∧ m0.s 0 = mpr (K0.s 0)) := by unfold Hid; rw [hm0]; exact ⟨rfl, rfl⟩
  have HL2 : Hid (layC (cpc { K0 with md := 3 }) 35 [.int .u64 (n64 (mpr (K0.s 0)))] = cpc m0) := by unfold Hid; rw [cpc_sL, hm0]
  clear hm0
  generalize n64 (K0.s 0 &&& ~~~6144#64) = t0 at a0 a1
  obtain ⟨t1, ht1⟩ : ∃ t1, t1 = n64 (mpr (K0.s 0)) := ⟨_, rfl⟩
  rw [← ht1] at a1 HL2
  clear ht1
  go_upto_region 8 with fail
  refine on_P (motive := fun W => Code.wp _ _ _ _ W) (Q := fun W => (Kz W0 b d L1 M S S W) ∧ (Kt W0 L1 M W gm (cpc m0) 31)) ⟨HK6.out.lay HR6.out 35 [.int .u64 t1], (HR6.out.lay [.int .u64 t1] 35).eqs HL2.out⟩ ?_
  clear HK6 HR6 c35 f35 a0 a1 HL2
  rintro W7 ⟨h0, h1⟩
  have HK7 : Hid (Kz W0 b d L1 M S S W7) := h0
  have HR7 : Hid (Kt W0 L1 M W7 gm (cpc m0) 31) := h1
  clear h0 h1
  go_upto_region 9 with (first | (refine wpList_load_row (by rfl) _ _ (by rfl) _ (by rfl) 31 _ (0, 0) _ HR7.out.r Tryz.underlying31 (by rfl) (info_cpu _) ?_) | (refine wpList_store_end (by rfl) 31 _ _ (by rfl) (by rfl) W7 (cpc cz) (cpc m0) (by rfl) (by rfl) (by rfl) (info_cpu _) (by rw [cpc_size, cpc_size]) (cpc_ones _) ?_))
  refine on_P (motive := fun W => Code.wp _ _ _ _ W) (Q := fun W => (Kz W0 b d L1 M S S W) ∧ (Kt W0 L1 M W gm (cpc m0) 31) ∧ (Kt W0 L1 M W W7.heap.size (cpc m0) 31) ∧ (gm < W7.heap.size)) ⟨HK7.out.later (below_al _ _), HR7.out.later (below_al _ _), Kt.new HK7.out _ _, HR7.out.r.lt⟩ ?_
  clear HK7 HR7
  generalize W7.heap.size = gu
  rintro W8 ⟨h0, h1, h2, h3⟩
  have HK8 : Hid (Kz W0 b d L1 M S S W8) := h0
  have HR8 : Hid (Kt W0 L1 M W8 gm (cpc m0) 31) := h1
  have HU8 : Hid (Kt W0 L1 M W8 gu (cpc m0) 31) := h2
  have HN8 : Hid (gm < gu) := h3
  clear h0 h1 h2 h3
  have c33 : W8.cell? ⟨gu, 33, none⟩ = some (.int .i64 m0.md) := HU8.out.r.cls.md
  have f33 : W8.frozen? ⟨gu, 33, none⟩ = false := frozen_of_row W8 gu 33 _ _ HU8.out.r
  go_upto_region 10 with fail
  refine on_P (motive := fun W => Code.wp _ _ _ _ W) (Q := fun W => (Kz W0 b d L1 M S S W) ∧ (Kt W0 L1 M W gm (cpc m0) 31) ∧ (Kt W0 L1 M W gu (cpc { m0 with md := 0 }) 31)) ⟨HK8.out.lay HU8.out 33 [.int .i64 0], HR8.out.lays (by have := HN8.out; omega) [.int .i64 0] 33, (HU8.out.lay [.int .i64 0] 33).eqs (cpc_m _ _)⟩ ?_
  clear HK8 HR8 HU8 c33 f33
  rintro W9 ⟨h0, h1, h2⟩
  have HK9 : Hid (Kz W0 b d L1 M S S W9) := h0
  have HR9 : Hid (Kt W0 L1 M W9 gm (cpc m0) 31) := h1
  have HU9 : Hid (Kt W0 L1 M W9 gu (cpc { m0 with md := 0 }) 31) := h2
  clear h0 h1 h2
  go_upto_region 11 with (first | (refine wpList_load_row (by rfl) _ _ (by rfl) _ (by rfl) 31 _ (0, 0) _ HR9.out.r Tryz.underlying31 (by rfl) (info_cpu _) ?_) | (refine wpList_store_end (by rfl) 31 _ _ (by rfl) (by rfl) W9 (cpc cz) (cpc m0) (by rfl) (by rfl) (by rfl) (info_cpu _) (by rw [cpc_size, cpc_size]) (cpc_ones _) ?_))
  refine on_P (motive := fun W => Code.wp _ _ _ _ W) (Q := fun W => (Kz W0 b d L1 M S S W) ∧ (Kt W0 L1 M W gm (cpc m0) 31) ∧ (Kt W0 L1 M W gu (cpc { m0 with md := 0 }) 31) ∧ (Kt W0 L1 M W W9.heap.size (cpc m0) 31) ∧ (gm < W9.heap.size ∧ gu < W9.heap.size)) ⟨HK9.out.later (below_al _ _), HR9.out.later (below_al _ _), HU9.out.later (below_al _ _), Kt.new HK9.out _ _, ⟨HR9.out.r.lt, HU9.out.r.lt⟩⟩ ?_
  clear HK9 HR9 HU9
  generalize W9.heap.size = gp
  rintro Wa ⟨h0, h1, h2, h3, h4⟩
  have HKa : Hid (Kz W0 b d L1 M S S Wa) := h0
  have HRa : Hid (Kt W0 L1 M Wa gm (cpc m0) 31) := h1
  have HUa : Hid (Kt W0 L1 M Wa gu (cpc { m0 with md := 0 }) 31) := h2
  have HPa : Hid (Kt W0 L1 M Wa gp (cpc m0) 31) := h3
  have HNa : Hid (gm < gp ∧ gu < gp) := h4
  clear h0 h1 h2 h3 h4
  have c35 : Wa.cell? ⟨gp, 35, none⟩ = some (.int .u64 (n64 (m0.s 0))) := HPa.out.r.cls.s0
  have f35 : Wa.frozen? ⟨gp, 35, none⟩ = false := frozen_of_row Wa gp 35 _ _ HPa.out.r
  have a0 : bits .andNot .u64 (n64 (m0.s 0)) 131072 = n64 (m0.s 0 &&& ~~~131072#64) := n64_andNot _ 131072#64
  obtain ⟨p0, hp0⟩ : ∃ p0 : Cp, p0 = { m0 with s := upd m0.s 0 (m0.s 0 &&& ~~~131072#64) } := ⟨_, rfl⟩
  have HPP : Hid (p0.md = m0.md ∧ p0.c = m0.c ∧ p0.a = m0.a) := by unfold Hid; rw [hp0]; exact ⟨rfl, rfl, rfl⟩
  have HL2 : Hid (layC (cpc m0) 35 [.int .u64 (n64 (m0.s 0 &&& ~~~131072#64))] = cpc p0) := by unfold Hid; rw [cpc_sL, hp0]
  clear hp0
  obtain ⟨t2, ht2⟩ : ∃ t2, t2 = n64 (m0.s 0 &&& ~~~131072#64) := ⟨_, rfl⟩
  rw [← ht2] at a0 HL2
  clear ht2
  go_upto_region 12 with fail
  refine on_P (motive := fun W => Code.wp _ _ _ _ W) (Q := fun W => Amu W0 b d gm gu gp m0 p0 W) ⟨m0.rv, m0.ra, m0.rs, L1, M, S, HKa.out.lay HPa.out 35 [.int .u64 t2], HSK.out, HRa.out.lays (by have := HNa.out; omega) [.int .u64 t2] 35, HUa.out.lays (by have := HNa.out; omega) [.int .u64 t2] 35, (HPa.out.lay [.int .u64 t2] 35).eqs HL2.out⟩ ?_
  have HNN : Hid (gm < gu ∧ gu < gp) := ⟨HN8.out, HNa.out.2⟩
  clear HKa HRa HUa HPa HNa HN8 HSK HL2 c35 f35 a0
  intro Wb hWb
  have HU : Hid (Amu W0 b d gm gu gp m0 p0 Wb) := hWb
  clear hWb
  clear L1 M W5 W6 W7 W8 W9 Wa
  go_wp2
  --@Q1
  go_loopw [8] (fun vi wr => ∃ j : Nat, j ≤ O.length ∧ vi = .int .i64 j ∧ Hid (Amu W0 b d gm gu gp m0 p0 wr)) (fun i _ => O.length - (intOf i).toNat)
  case atStart => exact ⟨0, Nat.zero_le _, rfl, HU⟩
  case round =>
    obtain ⟨j, hj, rfl, hst⟩ := hrel
    clear HU
    obtain ⟨rv, ra, rs, L1, M1, S1, hk, hsk, hrm, hru, hrp⟩ := hst.out
    have c97 := HSA.out wr hk.l.be
    have hlenI : (O.length : Int) ≤ 140737488355328 := by have := HL0.out; omega
    by_cases hlt : j < O.length
    · have hltI : (j : Int) < (O.length : Int) := by omega
      by_cases h60 : j < 60
      · have h60I : (j : Int) < 60 := by omega
        have HKX : Hid (Kz W0 b d L1 M1 S1 S1 wr) := hk
        have HSO : Hid (Sok S1) := hsk
        have HRM : Hid (Kt W0 L1 M1 wr gm (cpc { m0 with rv := rv, ra := ra, rs := rs }) 31) := hrm
        have HRU : Hid (Kt W0 L1 M1 wr gu (cpc { m0 with md := 0, rv := rv, ra := ra, rs := rs }) 31) := hru
        have HRP : Hid (Kt W0 L1 M1 wr gp (cpc p0) 31) := hrp
        clear hk hsk hrm hru hrp hst
        obtain ⟨ga, off, rfl, hga, hcell⟩ := HEL.out j hlt
        obtain ⟨y, hy⟩ : ∃ y, y = O.getD j ⟨0, 0, 0, 0#64, 0#64⟩ := ⟨_, rfl⟩
        have HAC : Hid (∀ W, Below W0.heap.size W0 W → ∀ i v, (acc y)[i]? = some v → W.cell? ⟨ga, off + j * 5 + i, none⟩ = some v) := fun W hb i v h => by
          have hi : i < 5 := by
            by_cases q : i < 5
            · exact q
            · rw [Array.getElem?_eq_none (by show 5 ≤ i; omega)] at h; cases h
          rw [hcell i hi W hb, ← hy]; exact h
        clear hcell hy hga
        have HDL : Hid (∀ (k : Cp) W, Kz W0 b d L1 M1 S1 S1 W → Calls Tryz.prog 14 #[.agg (cpc k), .pointer (some ⟨b, 0, none⟩), .agg (acc y)] W fun e w' => e = .returned (.agg (otc (DO S1 k y).1)) ∧ ∃ L', PSt W0.heap.size L1 W L' (DO S1 k y).2 w') := fun k W hk => by
          have q := does_c W hk.l.p HSO.out (HT0.out.next hk.l.be) HT0.out.lt k y
          rw [hk.l.e] at q
          exact q
        have HDM : Hid (∀ (k : Cp) L2 T W, Kz W0 b d L2 M1 T S1 W → Calls Tryz.prog 14 #[.agg (cpc k), .pointer (some ⟨d, 0, none⟩), .agg (acc y)] W fun e w' => e = .returned (.agg (otc (DO S1 k y).1)) ∧ ∃ M', PSt W0.heap.size M1 W M' (DO S1 k y).2 w') := fun k L2 T W hk => by
          have q := does_c W hk.m.p HSO.out (HT0.out.next hk.l.be) HT0.out.lt k y
          rw [hk.m.e] at q
          exact q
        have HDB : Hid (∀ (k : Cp) L2 W, Kz W0 b d L2 M1 S1 S1 W → Calls Tryz.prog 14 #[.agg (cpc k), .pointer (some ⟨b, 0, none⟩), .agg (acc y)] W fun e w' => e = .returned (.agg (otc (DO S1 k y).1)) ∧ ∃ L', PSt W0.heap.size L2 W L' (DO S1 k y).2 w') := fun k L2 W hk => by
          have q := does_c W hk.l.p HSO.out (HT0.out.next hk.l.be) HT0.out.lt k y
          rw [hk.l.e] at q
          exact q
        have HWS : Hid (Wys { m0 with rv := rv, ra := ra, rs := rs } { m0 with md := 0, rv := rv, ra := ra, rs := rs }) := ⟨(xE_m (v := K0.s 0) HMM.out.1 HMM.out.2).trans (xE_u rfl).symm, rfl, rfl, rfl, rfl, rfl⟩
        go_upto_region 16 with (first | (refine wpList_load_agg (by rfl) _ _ (by rfl) ga (off + j * 5) (by rfl) (acc y) _ (HAC.out _ HKX.out.l.be) Tryz.underlying45 (by rfl) (info_act _) ?_) | (refine wpList_store_end (by rfl) 45 _ _ (by rfl) (by rfl) wr (acc ⟨0, 0, 0, 0#64, 0#64⟩) (acc y) (by rfl) (by rfl) (by rfl) (info_act _) (by rfl) (by kernel_rfl) ?_))
        clear c97
        refine on_P (motive := fun W => Code.wp _ _ _ _ W) (Q := fun W => (Kz W0 b d L1 M1 S1 S1 W) ∧ (Kt W0 L1 M1 W gm (cpc { m0 with rv := rv, ra := ra, rs := rs }) 31) ∧ (Kt W0 L1 M1 W gu (cpc { m0 with md := 0, rv := rv, ra := ra, rs := rs }) 31) ∧ (Kt W0 L1 M1 W gp (cpc p0) 31) ∧ (Kt W0 L1 M1 W wr.heap.size (acc y) 45) ∧ (gp < wr.heap.size)) ⟨HKX.out.later (below_al _ _), HRM.out.later (below_al _ _), HRU.out.later (below_al _ _), HRP.out.later (below_al _ _), Kt.new HKX.out _ _, HRP.out.r.lt⟩ ?_
        clear HKX HRM HRU HRP HAC
        generalize wr.heap.size = gy
        rintro W1 ⟨h0, h1, h2, h3, h4, h5⟩
        have HKX1 : Hid (Kz W0 b d L1 M1 S1 S1 W1) := h0
        have HRM1 : Hid (Kt W0 L1 M1 W1 gm (cpc { m0 with rv := rv, ra := ra, rs := rs }) 31) := h1
        have HRU1 : Hid (Kt W0 L1 M1 W1 gu (cpc { m0 with md := 0, rv := rv, ra := ra, rs := rs }) 31) := h2
        have HRP1 : Hid (Kt W0 L1 M1 W1 gp (cpc p0) 31) := h3
        have HRY : Hid (Kt W0 L1 M1 W1 gy (acc y) 45) := h4
        have HNY : Hid (gp < gy) := h5
        clear h0 h1 h2 h3 h4 h5
        have y0 : W1.cell? ⟨gy, 0, none⟩ = some (.int .i64 y.kd) := HRY.out.r.cell 0
        by_cases k1 : y.kd = 1
        · have e1 : (y.kd == 1) = true := by rw [k1]; rfl
          have HF := fetch_same (K := { m0 with rv := rv, ra := ra, rs := rs }) (U := p0) S1 y k1 (by show (if m0.md = 3 then (3 : Int) else 0) = (if p0.md = 3 then (3 : Int) else 0); rw [HPP.out.1]) HPP.out.2.1.symm HPP.out.2.2.symm
          have HFP := fetch_same (K := p0) (U := p0) S1 y k1 rfl rfl rfl
          have HD1 := HDL.out { m0 with rv := rv, ra := ra, rs := rs }
          have HD2 := HDB.out p0
          rw [HF.2.2.2] at HD1
          rw [HFP.2.2.2] at HD2
          have HQ : Hid ((DO S1 { m0 with rv := rv, ra := ra, rs := rs } y).1.A = (DO S1 p0 y).1.A ∧ (DO S1 { m0 with rv := rv, ra := ra, rs := rs } y).1.N = (DO S1 p0 y).1.N ∧ (DO S1 { m0 with rv := rv, ra := ra, rs := rs } y).1.t = (DO S1 p0 y).1.t) := ⟨HF.1, HF.2.1, HF.2.2.1⟩
          clear k1 HF HFP HDL HDM HDB HWS
          generalize (DO S1 { m0 with rv := rv, ra := ra, rs := rs } y).1 = o at HD1 HQ
          generalize (DO S1 p0 y).1 = q at HD2 HQ
          have HDa : Hid (∀ W, Kz W0 b d L1 M1 S1 S1 W → Calls Tryz.prog 14 #[.agg (cpc { m0 with rv := rv, ra := ra, rs := rs }), .pointer (some ⟨b, 0, none⟩), .agg (acc y)] W fun e w' => e = .returned (.agg (otc o)) ∧ ∃ L', PSt W0.heap.size L1 W L' S1 w') := HD1
          have HDb : Hid (∀ L2 W, Kz W0 b d L2 M1 S1 S1 W → Calls Tryz.prog 14 #[.agg (cpc p0), .pointer (some ⟨b, 0, none⟩), .agg (acc y)] W fun e w' => e = .returned (.agg (otc q)) ∧ ∃ L', PSt W0.heap.size L2 W L' S1 w') := HD2
          clear HD1 HD2
          go_upto_region 18 with (first | (refine wpList_load_row (by rfl) _ _ (by rfl) _ (by rfl) 31 _ (0, 0) _ HRM1.out.r Tryz.underlying31 (by rfl) (info_cpu _) ?_) | (refine wpList_load_row (by rfl) _ _ (by rfl) _ (by rfl) 45 _ (0, 0) _ HRY.out.r Tryz.underlying45 (by rfl) (info_act _) ?_) | (go_at_call 14; refine (HDa.out _ HKX1.out).mono ?_; rintro e w2 ⟨rfl, L2, hp2⟩; have HP2 : Hid (PSt W0.heap.size L1 W1 L2 S1 w2) := hp2; clear hp2) | (refine wpList_store_end (by rfl) 52 _ _ (by rfl) (by rfl) w2 (otc (oz cz)) (otc o) (by rfl) (by rfl) (by rfl) (info_out _) (otc_sz _ _) (otc_ones _) ?_))
          refine on_P (motive := fun W => Code.wp _ _ _ _ W) (Q := fun W => (Kz W0 b d L2 M1 S1 S1 W) ∧ (Kt W0 L2 M1 W gm (cpc { m0 with rv := rv, ra := ra, rs := rs }) 31) ∧ (Kt W0 L2 M1 W gu (cpc { m0 with md := 0, rv := rv, ra := ra, rs := rs }) 31) ∧ (Kt W0 L2 M1 W gp (cpc p0) 31) ∧ (Kt W0 L2 M1 W gy (acc y) 45) ∧ (Kt W0 L2 M1 W w2.heap.size (otc o) 52)) ⟨(HKX1.out.stepL HP2.out).later (below_al _ _), (HRM1.out.stepL HP2.out).later (below_al _ _), (HRU1.out.stepL HP2.out).later (below_al _ _), (HRP1.out.stepL HP2.out).later (below_al _ _), (HRY.out.stepL HP2.out).later (below_al _ _), Kt.new (HKX1.out.stepL HP2.out) _ _⟩ ?_
          clear HKX1 HRM1 HRU1 HRP1 HRY HP2 y0 HDa
          generalize w2.heap.size = go
          rintro W2 ⟨h0, h1, h2, h3, h4, h5⟩
          have HKX2 : Hid (Kz W0 b d L2 M1 S1 S1 W2) := h0
          have HRM2 : Hid (Kt W0 L2 M1 W2 gm (cpc { m0 with rv := rv, ra := ra, rs := rs }) 31) := h1
          have HRU2 : Hid (Kt W0 L2 M1 W2 gu (cpc { m0 with md := 0, rv := rv, ra := ra, rs := rs }) 31) := h2
          have HRP2 : Hid (Kt W0 L2 M1 W2 gp (cpc p0) 31) := h3
          have HRY2 : Hid (Kt W0 L2 M1 W2 gy (acc y) 45) := h4
          have HRO2 : Hid (Kt W0 L2 M1 W2 go (otc o) 52) := h5
          clear h0 h1 h2 h3 h4 h5
          go_upto_region 19 with (first | (refine wpList_load_row (by rfl) _ _ (by rfl) _ (by rfl) 31 _ (0, 0) _ HRP2.out.r Tryz.underlying31 (by rfl) (info_cpu _) ?_) | (refine wpList_load_row (by rfl) _ _ (by rfl) _ (by rfl) 45 _ (0, 0) _ HRY2.out.r Tryz.underlying45 (by rfl) (info_act _) ?_) | (go_at_call 14; refine (HDb.out _ _ HKX2.out).mono ?_; rintro e w3 ⟨rfl, L3, hp3⟩; have HP3 : Hid (PSt W0.heap.size L2 W2 L3 S1 w3) := hp3; clear hp3) | (refine wpList_store_end (by rfl) 52 _ _ (by rfl) (by rfl) w3 (otc (oz cz)) (otc q) (by rfl) (by rfl) (by rfl) (info_out _) (otc_sz _ _) (otc_ones _) ?_))
          refine on_P (motive := fun W => Code.wp _ _ _ _ W) (Q := fun W => (Kz W0 b d L3 M1 S1 S1 W) ∧ (Kt W0 L3 M1 W gm (cpc { m0 with rv := rv, ra := ra, rs := rs }) 31) ∧ (Kt W0 L3 M1 W gu (cpc { m0 with md := 0, rv := rv, ra := ra, rs := rs }) 31) ∧ (Kt W0 L3 M1 W gp (cpc p0) 31) ∧ (Kt W0 L3 M1 W go (otc o) 52) ∧ (Kt W0 L3 M1 W w3.heap.size (otc q) 52)) ⟨(HKX2.out.stepL HP3.out).later (below_al _ _), (HRM2.out.stepL HP3.out).later (below_al _ _), (HRU2.out.stepL HP3.out).later (below_al _ _), (HRP2.out.stepL HP3.out).later (below_al _ _), (HRO2.out.stepL HP3.out).later (below_al _ _), Kt.new (HKX2.out.stepL HP3.out) _ _⟩ ?_
          clear HKX2 HRM2 HRU2 HRP2 HRY2 HRO2 HP3 HDb
          generalize w3.heap.size = gq
          rintro W3 ⟨h0, h1, h2, h3, h4, h5⟩
          have HKX3 : Hid (Kz W0 b d L3 M1 S1 S1 W3) := h0
          have HRM3 : Hid (Kt W0 L3 M1 W3 gm (cpc { m0 with rv := rv, ra := ra, rs := rs }) 31) := h1
          have HRU3 : Hid (Kt W0 L3 M1 W3 gu (cpc { m0 with md := 0, rv := rv, ra := ra, rs := rs }) 31) := h2
          have HRP3 : Hid (Kt W0 L3 M1 W3 gp (cpc p0) 31) := h3
          have HRO3 : Hid (Kt W0 L3 M1 W3 go (otc o) 52) := h4
          have HRQ3 : Hid (Kt W0 L3 M1 W3 gq (otc q) 52) := h5
          clear h0 h1 h2 h3 h4 h5
          have o0 : W3.cell? ⟨go, 0, none⟩ = some (.int .u64 q.A) := by rw [HRO3.out.r.cell, otc_at _ _ (by omega), ← HQ.out.1]; rfl
          have o2 : W3.cell? ⟨go, 2, none⟩ = some (.int .i64 q.N) := by rw [HRO3.out.r.cell, otc_at _ _ (by omega), ← HQ.out.2.1]; rfl
          have q0 : W3.cell? ⟨gq, 0, none⟩ = some (.int .u64 q.A) := by rw [HRQ3.out.r.cell, otc_at _ _ (by omega)]; rfl
          have q2 : W3.cell? ⟨gq, 2, none⟩ = some (.int .i64 q.N) := by rw [HRQ3.out.r.cell, otc_at _ _ (by omega)]; rfl
          have eA : (q.A != q.A) = false := by simp
          have eN : (q.N != q.N) = false := by simp
          have heq : ∀ W, (Op.equalIn 10000 48 (.agg (tpc q.t)) (.agg (tpc q.t))).run Tryz.prog W = .ok true W := fun W => eq_trap W q.t
          have heg := eqG_trap
          have HTO : Hid (∀ j v, (tpc q.t)[j]? = some v → W3.cell? ⟨go, 4 + j, none⟩ = some v) := fun j v hv => otc_trap HRO3.out.r j v (by rw [HQ.out.2.2]; exact hv)
          have HTQ : Hid (∀ j v, (tpc q.t)[j]? = some v → W3.cell? ⟨gq, 4 + j, none⟩ = some v) := otc_trap HRQ3.out.r
          have HN : Hid (Amu W0 b d gm gu gp m0 p0 W3) := ⟨rv, ra, rs, L3, M1, S1, HKX3.out, HSO.out, HRM3.out, HRU3.out, HRP3.out⟩
          clear HKX3 HRM3 HRU3 HRP3 HRO3 HRQ3 HQ HNY HSO
          --@Q2
          go_wp2_with (first | (refine wpList_load_aggG (by rfl) _ _ (by rfl) go 4 (by rfl) (tpc q.t) _ HTO.out Tryz.underlying48 (by rfl) (info_trap _) ?_) | (refine wpList_load_aggG (by rfl) _ _ (by rfl) gq 4 (by rfl) (tpc q.t) _ HTQ.out Tryz.underlying48 (by rfl) (info_trap _) ?_))
          --@Q5
          go_roundw
          · exact ⟨j + 1, by omega, by go_num, HN⟩
          · simp only [intOf]; omega
        · have e1 : (y.kd == 1) = false := by rw [beq_eq_false_iff_ne]; exact k1
          have HSA2 := HWS.out.same S1 y k1
          have HD1 := HDL.out { m0 with rv := rv, ra := ra, rs := rs }
          have HD2 := HDM.out { m0 with md := 0, rv := rv, ra := ra, rs := rs }
          have HSK2 : Hid (Sok (DO S1 { m0 with rv := rv, ra := ra, rs := rs } y).2) := DO_ok HSO.out _ y
          rw [← HSA2.2.2.2.2.2] at HD2
          have HQ : Hid ((DO S1 { m0 with rv := rv, ra := ra, rs := rs } y).1.A = (DO S1 { m0 with md := 0, rv := rv, ra := ra, rs := rs } y).1.A ∧ (DO S1 { m0 with rv := rv, ra := ra, rs := rs } y).1.B = (DO S1 { m0 with md := 0, rv := rv, ra := ra, rs := rs } y).1.B ∧ (DO S1 { m0 with rv := rv, ra := ra, rs := rs } y).1.ok = (DO S1 { m0 with md := 0, rv := rv, ra := ra, rs := rs } y).1.ok ∧ (DO S1 { m0 with rv := rv, ra := ra, rs := rs } y).1.t = (DO S1 { m0 with md := 0, rv := rv, ra := ra, rs := rs } y).1.t ∧ reE (DO S1 { m0 with rv := rv, ra := ra, rs := rs } y).1.K (DO S1 { m0 with md := 0, rv := rv, ra := ra, rs := rs } y).1.K) := ⟨HSA2.1, HSA2.2.1, HSA2.2.2.1, HSA2.2.2.2.1, HSA2.2.2.2.2.1⟩
          clear k1 HSA2 HDL HDM HDB HWS
          generalize (DO S1 { m0 with rv := rv, ra := ra, rs := rs } y).1 = o at HD1 HQ
          generalize (DO S1 { m0 with md := 0, rv := rv, ra := ra, rs := rs } y).1 = q at HD2 HQ
          generalize (DO S1 { m0 with rv := rv, ra := ra, rs := rs } y).2 = S2 at HD1 HD2 HSK2
          have HDa : Hid (∀ W, Kz W0 b d L1 M1 S1 S1 W → Calls Tryz.prog 14 #[.agg (cpc { m0 with rv := rv, ra := ra, rs := rs }), .pointer (some ⟨b, 0, none⟩), .agg (acc y)] W fun e w' => e = .returned (.agg (otc o)) ∧ ∃ L', PSt W0.heap.size L1 W L' S2 w') := HD1
          have HDb : Hid (∀ L2 T W, Kz W0 b d L2 M1 T S1 W → Calls Tryz.prog 14 #[.agg (cpc { m0 with md := 0, rv := rv, ra := ra, rs := rs }), .pointer (some ⟨d, 0, none⟩), .agg (acc y)] W fun e w' => e = .returned (.agg (otc q)) ∧ ∃ L', PSt W0.heap.size M1 W L' S2 w') := HD2
          clear HD1 HD2
          go_upto_region 22 with (first | (refine wpList_load_row (by rfl) _ _ (by rfl) _ (by rfl) 31 _ (0, 0) _ HRM1.out.r Tryz.underlying31 (by rfl) (info_cpu _) ?_) | (refine wpList_load_row (by rfl) _ _ (by rfl) _ (by rfl) 45 _ (0, 0) _ HRY.out.r Tryz.underlying45 (by rfl) (info_act _) ?_) | (go_at_call 14; refine (HDa.out _ HKX1.out).mono ?_; rintro e w2 ⟨rfl, L2, hp2⟩; have HP2 : Hid (PSt W0.heap.size L1 W1 L2 S2 w2) := hp2; clear hp2) | (refine wpList_store_end (by rfl) 52 _ _ (by rfl) (by rfl) w2 (otc (oz cz)) (otc o) (by rfl) (by rfl) (by rfl) (info_out _) (otc_sz _ _) (otc_ones _) ?_))
          refine on_P (motive := fun W => Code.wp _ _ _ _ W) (Q := fun W => (Kz W0 b d L2 M1 S2 S1 W) ∧ (Kt W0 L2 M1 W gm (cpc { m0 with rv := rv, ra := ra, rs := rs }) 31) ∧ (Kt W0 L2 M1 W gu (cpc { m0 with md := 0, rv := rv, ra := ra, rs := rs }) 31) ∧ (Kt W0 L2 M1 W gp (cpc p0) 31) ∧ (Kt W0 L2 M1 W gy (acc y) 45) ∧ (Kt W0 L2 M1 W w2.heap.size (otc o) 52) ∧ (gp < w2.heap.size)) ⟨(HKX1.out.stepL HP2.out).later (below_al _ _), (HRM1.out.stepL HP2.out).later (below_al _ _), (HRU1.out.stepL HP2.out).later (below_al _ _), (HRP1.out.stepL HP2.out).later (below_al _ _), (HRY.out.stepL HP2.out).later (below_al _ _), Kt.new (HKX1.out.stepL HP2.out) _ _, (HRP1.out.stepL HP2.out).r.lt⟩ ?_
          clear HKX1 HRM1 HRU1 HRP1 HRY HP2 y0 HDa
          generalize w2.heap.size = go
          rintro W2 ⟨h0, h1, h2, h3, h4, h5, h6⟩
          have HKX2 : Hid (Kz W0 b d L2 M1 S2 S1 W2) := h0
          have HRM2 : Hid (Kt W0 L2 M1 W2 gm (cpc { m0 with rv := rv, ra := ra, rs := rs }) 31) := h1
          have HRU2 : Hid (Kt W0 L2 M1 W2 gu (cpc { m0 with md := 0, rv := rv, ra := ra, rs := rs }) 31) := h2
          have HRP2 : Hid (Kt W0 L2 M1 W2 gp (cpc p0) 31) := h3
          have HRY2 : Hid (Kt W0 L2 M1 W2 gy (acc y) 45) := h4
          have HRO2 : Hid (Kt W0 L2 M1 W2 go (otc o) 52) := h5
          have HNO : Hid (gp < go) := h6
          clear h0 h1 h2 h3 h4 h5 h6
          go_upto_region 23 with (first | (refine wpList_load_row (by rfl) _ _ (by rfl) _ (by rfl) 31 _ (0, 0) _ HRU2.out.r Tryz.underlying31 (by rfl) (info_cpu _) ?_) | (refine wpList_load_row (by rfl) _ _ (by rfl) _ (by rfl) 45 _ (0, 0) _ HRY2.out.r Tryz.underlying45 (by rfl) (info_act _) ?_) | (go_at_call 14; refine (HDb.out _ _ _ HKX2.out).mono ?_; rintro e w3 ⟨rfl, M2, hp3⟩; have HP3 : Hid (PSt W0.heap.size M1 W2 M2 S2 w3) := hp3; clear hp3) | (refine wpList_store_end (by rfl) 52 _ _ (by rfl) (by rfl) w3 (otc (oz cz)) (otc q) (by rfl) (by rfl) (by rfl) (info_out _) (otc_sz _ _) (otc_ones _) ?_))
          refine on_P (motive := fun W => Code.wp _ _ _ _ W) (Q := fun W => (Kz W0 b d L2 M2 S2 S2 W) ∧ (Kt W0 L2 M2 W gm (cpc { m0 with rv := rv, ra := ra, rs := rs }) 31) ∧ (Kt W0 L2 M2 W gu (cpc { m0 with md := 0, rv := rv, ra := ra, rs := rs }) 31) ∧ (Kt W0 L2 M2 W gp (cpc p0) 31) ∧ (Kt W0 L2 M2 W go (otc o) 52) ∧ (Kt W0 L2 M2 W w3.heap.size (otc q) 52) ∧ (go < w3.heap.size)) ⟨(HKX2.out.stepM HP3.out).later (below_al _ _), (HRM2.out.stepM HP3.out).later (below_al _ _), (HRU2.out.stepM HP3.out).later (below_al _ _), (HRP2.out.stepM HP3.out).later (below_al _ _), (HRO2.out.stepM HP3.out).later (below_al _ _), Kt.new (HKX2.out.stepM HP3.out) _ _, (HRO2.out.stepM HP3.out).r.lt⟩ ?_
          clear HKX2 HRM2 HRU2 HRP2 HRY2 HRO2 HP3 HDb
          generalize w3.heap.size = gq
          rintro W3 ⟨h0, h1, h2, h3, h4, h5, h6⟩
          have HKX3 : Hid (Kz W0 b d L2 M2 S2 S2 W3) := h0
          have HRM3 : Hid (Kt W0 L2 M2 W3 gm (cpc { m0 with rv := rv, ra := ra, rs := rs }) 31) := h1
          have HRU3 : Hid (Kt W0 L2 M2 W3 gu (cpc { m0 with md := 0, rv := rv, ra := ra, rs := rs }) 31) := h2
          have HRP3 : Hid (Kt W0 L2 M2 W3 gp (cpc p0) 31) := h3
          have HRO3 : Hid (Kt W0 L2 M2 W3 go (otc o) 52) := h4
          have HRQ3 : Hid (Kt W0 L2 M2 W3 gq (otc q) 52) := h5
          have HNQ : Hid (go < gq) := h6
          clear h0 h1 h2 h3 h4 h5 h6
          have o0 : W3.cell? ⟨go, 0, none⟩ = some (.int .u64 q.A) := by rw [HRO3.out.r.cell, otc_at _ _ (by omega), ← HQ.out.1]; rfl
          have o1 : W3.cell? ⟨go, 1, none⟩ = some (.int .u64 q.B) := by rw [HRO3.out.r.cell, otc_at _ _ (by omega), ← HQ.out.2.1]; rfl
          have o3 : W3.cell? ⟨go, 3, none⟩ = some (.bool q.ok) := by rw [HRO3.out.r.cell, otc_at _ _ (by omega), ← HQ.out.2.2.1]; rfl
          have q0 : W3.cell? ⟨gq, 0, none⟩ = some (.int .u64 q.A) := by rw [HRQ3.out.r.cell, otc_at _ _ (by omega)]; rfl
          have q1 : W3.cell? ⟨gq, 1, none⟩ = some (.int .u64 q.B) := by rw [HRQ3.out.r.cell, otc_at _ _ (by omega)]; rfl
          have q3 : W3.cell? ⟨gq, 3, none⟩ = some (.bool q.ok) := by rw [HRQ3.out.r.cell, otc_at _ _ (by omega)]; rfl
          have eA : (q.A != q.A) = false := by simp
          have eB : (q.B != q.B) = false := by simp
          have eK : (q.ok != q.ok) = false := by simp
          have heq : ∀ W, (Op.equalIn 10000 48 (.agg (tpc q.t)) (.agg (tpc q.t))).run Tryz.prog W = .ok true W := fun W => eq_trap W q.t
          have heg := eqG_trap
          have her : ∀ W, (Op.equalIn 10000 29 (.agg (rsc q.K.rv q.K.ra q.K.rs)) (.agg (rsc q.K.rv q.K.ra q.K.rs))).run Tryz.prog W = .ok true W := fun W => eq_rsc W q.K.rv q.K.ra q.K.rs
          have heh := eqG_res
          have HTO : Hid (∀ j v, (tpc q.t)[j]? = some v → W3.cell? ⟨go, 4 + j, none⟩ = some v) := fun j v hv => otc_trap HRO3.out.r j v (by rw [HQ.out.2.2.2.1]; exact hv)
          have HTQ : Hid (∀ j v, (tpc q.t)[j]? = some v → W3.cell? ⟨gq, 4 + j, none⟩ = some v) := otc_trap HRQ3.out.r
          have HSO3 : Hid (∀ j v, (rsc q.K.rv q.K.ra q.K.rs)[j]? = some v → W3.cell? ⟨go, 86 + j, none⟩ = some v) := fun j v hv => otc_res HRO3.out.r j v (by rw [HQ.out.2.2.2.2.1, HQ.out.2.2.2.2.2.1, HQ.out.2.2.2.2.2.2]; exact hv)
          have HSQ3 : Hid (∀ j v, (rsc q.K.rv q.K.ra q.K.rs)[j]? = some v → W3.cell? ⟨gq, 86 + j, none⟩ = some v) := otc_res HRQ3.out.r
          have HSL : Hid (∀ W, Kz W0 b d L2 M2 S2 S2 W → Calls Tryz.prog 15 #[.pointer (some ⟨b, 0, none⟩)] W fun e w' => ∃ x y z, e = .returned (.agg (stc S2 x y z)) ∧ Bs S2 x y z w' ∧ Below W.heap.size W w') := fun W hk => by
            obtain ⟨hn1, hn2, hn3, hn4, _⟩ := HSK2.out.n
            have q := state_c W hk.l.p (by omega) (by omega) (by omega)
            rw [hk.l.e] at q
            exact q.mono fun e w' ⟨x, y, z, h1, h2, h3⟩ => ⟨x, y, z, h1, h2.bs, h3⟩
          have HSM : Hid (∀ W, Kz W0 b d L2 M2 S2 S2 W → Calls Tryz.prog 15 #[.pointer (some ⟨d, 0, none⟩)] W fun e w' => ∃ x y z, e = .returned (.agg (stc S2 x y z)) ∧ Bs S2 x y z w' ∧ Below W.heap.size W w') := fun W hk => by
            obtain ⟨hn1, hn2, hn3, hn4, _⟩ := HSK2.out.n
            have q := state_c W hk.m.p (by omega) (by omega) (by omega)
            rw [hk.m.e] at q
            exact q.mono fun e w' ⟨x, y, z, h1, h2, h3⟩ => ⟨x, y, z, h1, h2.bs, h3⟩
          --@Q3
          go_upto_region 25 with (first | (refine wpList_load_aggG (by rfl) _ _ (by rfl) go 4 (by rfl) (tpc q.t) _ HTO.out Tryz.underlying48 (by rfl) (info_trap _) ?_) | (refine wpList_load_aggG (by rfl) _ _ (by rfl) gq 4 (by rfl) (tpc q.t) _ HTQ.out Tryz.underlying48 (by rfl) (info_trap _) ?_) | (refine wpList_load_aggG (by rfl) _ _ (by rfl) go 86 (by rfl) (rsc q.K.rv q.K.ra q.K.rs) _ HSO3.out Tryz.underlying29 (by rfl) (info_res _ _ _) ?_) | (refine wpList_load_aggG (by rfl) _ _ (by rfl) gq 86 (by rfl) (rsc q.K.rv q.K.ra q.K.rs) _ HSQ3.out Tryz.underlying29 (by rfl) (info_res _ _ _) ?_) | (go_at_call_of 15 (Value.pointer (some { block := b, off := 0 })); refine (HSL.out _ HKX3.out).mono ?_; rintro e w4 ⟨x1, y1, z1, rfl, hy4, hb4⟩; have HB4 : Hid (Below W3.heap.size W3 w4) := hb4; have HY4 : Hid (Bs S2 x1 y1 z1 w4) := hy4; clear hb4 hy4) | (go_at_call_of 15 (Value.pointer (some { block := d, off := 0 })); refine (HSM.out _ (HKX3.out.later HB4.out)).mono ?_; rintro e w5 ⟨x2, y2, z2, rfl, hy5, hb5⟩; have HB5 : Hid (Below W3.heap.size W3 w5) := HB4.out.trans (hb5.mono HB4.out.size); have HY4b : Hid (Bs S2 x1 y1 z1 w5) := HY4.out.later hb5; have HY5 : Hid (Bs S2 x2 y2 z2 w5) := hy5; clear hb5 hy5) | (go_at_call 16; refine (same_c S2 x1 y1 z1 x2 y2 z2 w5 HY4b.out HY5.out).mono ?_; rintro e w6 ⟨rfl, hb6⟩; have HB6 : Hid (Below W3.heap.size W3 w6) := HB5.out.trans (hb6.mono HB5.out.size); clear hb6))
          refine on_P (motive := fun W => Code.wp _ _ _ _ W) (Q := fun W => (Kz W0 b d L2 M2 S2 S2 W) ∧ (Kt W0 L2 M2 W gm (cpc { m0 with rv := rv, ra := ra, rs := rs }) 31) ∧ (Kt W0 L2 M2 W gu (cpc { m0 with md := 0, rv := rv, ra := ra, rs := rs }) 31) ∧ (Kt W0 L2 M2 W gp (cpc p0) 31) ∧ (∀ j v, (rsc q.K.rv q.K.ra q.K.rs)[j]? = some v → W.cell? ⟨go, 86 + j, none⟩ = some v) ∧ (Kt W0 L2 M2 W gq (otc q) 52)) ⟨HKX3.out.later HB6.out, HRM3.out.later HB6.out, HRU3.out.later HB6.out, HRP3.out.later HB6.out, fun j v hv => otc_res (HRO3.out.later HB6.out).r j v (by rw [HQ.out.2.2.2.2.1, HQ.out.2.2.2.2.2.1, HQ.out.2.2.2.2.2.2]; exact hv), HRQ3.out.later HB6.out⟩ ?_
          clear HKX3 HRM3 HRU3 HRP3 HRO3 HRQ3 HB4 HY4 HB5 HY4b HY5 HB6 HTO HTQ HSO3 HSQ3 HSL HSM heq her heg heh o0 o1 o3 q0 q1 q3 eA eB eK HQ
          rintro W7 ⟨h0, h1, h2, h3, h4, h5⟩
          have HKX7 : Hid (Kz W0 b d L2 M2 S2 S2 W7) := h0
          have HRM7 : Hid (Kt W0 L2 M2 W7 gm (cpc { m0 with rv := rv, ra := ra, rs := rs }) 31) := h1
          have HRU7 : Hid (Kt W0 L2 M2 W7 gu (cpc { m0 with md := 0, rv := rv, ra := ra, rs := rs }) 31) := h2
          have HRP7 : Hid (Kt W0 L2 M2 W7 gp (cpc p0) 31) := h3
          have HS7 : Hid (∀ j v, (rsc q.K.rv q.K.ra q.K.rs)[j]? = some v → W7.cell? ⟨go, 86 + j, none⟩ = some v) := h4
          have HRQ7 : Hid (Kt W0 L2 M2 W7 gq (otc q) 52) := h5
          clear h0 h1 h2 h3 h4 h5
          --@Q4
          go_upto_region 26 with (first | (refine wpList_load_agg (by rfl) _ _ (by rfl) go 86 (by rfl) (rsc q.K.rv q.K.ra q.K.rs) _ HS7.out Tryz.underlying29 (by rfl) (info_res _ _ _) ?_) | (refine wpList_store_part (by rfl) _ _ _ (by rfl) (by rfl) gm 79 _ (by rfl) (by rfl) (HRM7.out.r.there (by rw [cpc_size]; show 79 + 3 ≤ 82; omega)) (info_res _ _ _) (rsc_ones _ _ _) ?_))
          refine on_P (motive := fun W => Code.wp _ _ _ _ W) (Q := fun W => (Kz W0 b d L2 M2 S2 S2 W) ∧ (Kt W0 L2 M2 W gm (cpc { m0 with rv := q.K.rv, ra := q.K.ra, rs := q.K.rs }) 31) ∧ (Kt W0 L2 M2 W gu (cpc { m0 with md := 0, rv := rv, ra := ra, rs := rs }) 31) ∧ (Kt W0 L2 M2 W gp (cpc p0) 31) ∧ (Kt W0 L2 M2 W gq (otc q) 52)) ⟨HKX7.out.lay HRM7.out 79 _, (HRM7.out.lay (rsc q.K.rv q.K.ra q.K.rs).toList 79).eqs (cpc_res _ q.K.rv q.K.ra q.K.rs), HRU7.out.lays (by have := HNN.out; omega) _ _, HRP7.out.lays (by have := HNN.out; omega) _ _, HRQ7.out.lays (by have := HNN.out; have := HNO.out; have := HNQ.out; omega) _ _⟩ ?_
          clear HKX7 HRM7 HRU7 HRP7 HRQ7 HS7
          rintro W8 ⟨h0, h1, h2, h3, h4⟩
          have HKX8 : Hid (Kz W0 b d L2 M2 S2 S2 W8) := h0
          have HRM8 : Hid (Kt W0 L2 M2 W8 gm (cpc { m0 with rv := q.K.rv, ra := q.K.ra, rs := q.K.rs }) 31) := h1
          have HRU8 : Hid (Kt W0 L2 M2 W8 gu (cpc { m0 with md := 0, rv := rv, ra := ra, rs := rs }) 31) := h2
          have HRP8 : Hid (Kt W0 L2 M2 W8 gp (cpc p0) 31) := h3
          have HRQ8 : Hid (Kt W0 L2 M2 W8 gq (otc q) 52) := h4
          clear h0 h1 h2 h3 h4
          have HS8 : Hid (∀ j v, (rsc q.K.rv q.K.ra q.K.rs)[j]? = some v → W8.cell? ⟨gq, 86 + j, none⟩ = some v) := otc_res HRQ8.out.r
          go_upto_region 14 with (first | (refine wpList_load_agg (by rfl) _ _ (by rfl) gq 86 (by rfl) (rsc q.K.rv q.K.ra q.K.rs) _ HS8.out Tryz.underlying29 (by rfl) (info_res _ _ _) ?_) | (refine wpList_store_part (by rfl) _ _ _ (by rfl) (by rfl) gu 79 _ (by rfl) (by rfl) (HRU8.out.r.there (by rw [cpc_size]; show 79 + 3 ≤ 82; omega)) (info_res _ _ _) (rsc_ones _ _ _) ?_))
          refine on_P (motive := fun W => Code.wp _ _ _ _ W) (Q := fun W => Amu W0 b d gm gu gp m0 p0 W) ⟨q.K.rv, q.K.ra, q.K.rs, L2, M2, S2, HKX8.out.lay HRU8.out 79 _, HSK2.out, HRM8.out.lays (by have := HNN.out; omega) _ _, (HRU8.out.lay (rsc q.K.rv q.K.ra q.K.rs).toList 79).eqs (cpc_res _ q.K.rv q.K.ra q.K.rs), HRP8.out.lays (by have := HNN.out; omega) _ _⟩ ?_
          clear HKX8 HRM8 HRU8 HRP8 HRQ8 HS8 HSK2 HSO HNY HNO HNQ
          intro W9 hW9
          have HU9 : Hid (Amu W0 b d gm gu gp m0 p0 W9) := hW9
          clear hW9
          go_wp2
          go_roundw
          · exact ⟨j + 1, by omega, by go_num, HU9⟩
          · simp only [intOf]; omega
      · have h60I : ¬ ((j : Int) < 60) := by omega
        go_wp2
        go_ret
        exact ⟨rfl, b0.out.trans (hk.l.be.mono b0.out.size)⟩
    · obtain rfl : j = O.length := by omega
      have hltI : ¬ ((O.length : Int) < (O.length : Int)) := by omega
      go_wp2
      go_ret
      exact ⟨rfl, b0.out.trans (hk.l.be.mono b0.out.size)⟩
end Go.Proofs.YtlhgphokfpnfeaaGreatDoor
