import Derived.Test.YtlhgphokfpnfeaaGreatDoorK28
import Derived.Test.YtlhgphokfpnfeaaGreatDoorKX3
namespace Go.Proofs.YtlhgphokfpnfeaaGreatDoor
set_option linter.unusedVariables false
open Go.MuLone Go.ChangeShapes Go.WideShapes Go.ChangeAt Go.RowKit Go.Deep
/-- What Same tells of two states. -/
def smB (S T : St) : Bool := S.msip == T.msip && S.cmp == T.cmp && S.time == T.time && S.ext == T.ext && S.soft == T.soft && S.off == T.off && S.code == T.code && S.ier == T.ier && S.lcr == T.lcr && S.mcr == T.mcr && S.scr == T.scr && S.ov == T.ov && decide ((strOfNums S.ram).toList = (strOfNums T.ram).toList) && decide ((strOfNums S.inp).toList = (strOfNums T.inp).toList) && decide ((strOfNums S.out).toList = (strOfNums T.out).toList)
structure SmF (S T : St) (r : Bool) : Prop where
  msip : ¬ S.msip = T.msip → r = false
  cmp : ¬ S.cmp = T.cmp → r = false
  time : ¬ S.time = T.time → r = false
  ext : ¬ S.ext = T.ext → r = false
  soft : ¬ S.soft = T.soft → r = false
  off : ¬ S.off = T.off → r = false
  code : ¬ S.code = T.code → r = false
  ier : ¬ S.ier = T.ier → r = false
  lcr : ¬ S.lcr = T.lcr → r = false
  mcr : ¬ S.mcr = T.mcr → r = false
  scr : ¬ S.scr = T.scr → r = false
  ov : ¬ S.ov = T.ov → r = false
theorem smB_f (S T : St) : SmF S T (smB S T) := by
  constructor
  all_goals
    intro h
    unfold smB
    simp [h]
theorem smB_self (S : St) : smB S S = true := by unfold smB; simp
set_option maxRecDepth 100000 in
set_option maxHeartbeats 4000000 in
theorem same_a (S T : St) (vr vi vo ur ui uo : Value) (w : World) (ha : Bs S vr vi vo w) (hb : Bs T ur ui uo w) :
    Calls Tryz.prog 16 #[.agg (stc S vr vi vo), .agg (stc T ur ui uo)] w fun e w' => e = .returned (.bool (smB S T)) ∧ Below w.heap.size w w' := by
  have HB : Hid (∀ o o', Below w.heap.size w ((w.alloc o).alloc o')) := fun o o' => ((Below.refl _ _).alloc (Nat.le_refl _) o).alloc (by simp) o'
  have k1 := fun o o' => (ha.r.later (HB.out o o') rfl).conv
  have k2 := fun o o' => (ha.i.later (HB.out o o') rfl).conv
  have k3 := fun o o' => (ha.o.later (HB.out o o') rfl).conv
  have k4 := fun o o' => (hb.r.later (HB.out o o') rfl).conv
  have k5 := fun o o' => (hb.i.later (HB.out o o') rfl).conv
  have k6 := fun o o' => (hb.o.later (HB.out o o') rfl).conv
  obtain ⟨x1, y1, e1, _⟩ := ha.r
  obtain ⟨x2, y2, e2, _⟩ := ha.i
  obtain ⟨x3, y3, e3, _⟩ := ha.o
  obtain ⟨x4, y4, e4, _⟩ := hb.r
  obtain ⟨x5, y5, e5, _⟩ := hb.i
  obtain ⟨x6, y6, e6, _⟩ := hb.o
  clear ha hb
  obtain ⟨r, hr⟩ : ∃ r, r = smB S T := ⟨_, rfl⟩
  rw [← hr]
  have HR : Hid (SmF S T r) := by rw [hr]; exact smB_f S T
  have Hram : Hid (¬ (strOfNums S.ram).toList = (strOfNums T.ram).toList → r = false) := fun h => by rw [hr]; unfold smB; simp [h]
  have Hinp : Hid (¬ (strOfNums S.inp).toList = (strOfNums T.inp).toList → r = false) := fun h => by rw [hr]; unfold smB; simp [h]
  have Hout : Hid (¬ (strOfNums S.out).toList = (strOfNums T.out).toList → r = false) := fun h => by rw [hr]; unfold smB; simp [h]
  have HT : Hid ((strOfNums S.ram).toList = (strOfNums T.ram).toList → (strOfNums S.inp).toList = (strOfNums T.inp).toList → (strOfNums S.out).toList = (strOfNums T.out).toList → S.msip = T.msip → S.cmp = T.cmp → S.time = T.time → S.ext = T.ext → S.soft = T.soft → S.off = T.off → S.code = T.code → S.ier = T.ier → S.lcr = T.lcr → S.mcr = T.mcr → S.scr = T.scr → S.ov = T.ov → r = true) := fun q1 q2 q3 hmsip hcmp htime hext hsoft hoff hcode hier hlcr hmcr hscr hov => by rw [hr]; unfold smB; simp [q1, q2, q3, hmsip, hcmp, htime, hext, hsoft, hoff, hcode, hier, hlcr, hmcr, hscr, hov]
  clear hr
  generalize strOfNums S.ram = sr at k1 Hram HT
  generalize strOfNums S.inp = si at k2 Hinp HT
  generalize strOfNums S.out = so at k3 Hout HT
  generalize strOfNums T.ram = tr at k4 Hram HT
  generalize strOfNums T.inp = ti at k5 Hinp HT
  generalize strOfNums T.out = to9 at k6 Hout HT
  subst e1 e2 e3 e4 e5 e6
  unfold stc
  by_cases h_msip : S.msip = T.msip
  rotate_left 1
  · have n_msip : (S.msip != T.msip) = true := by rw [bne_iff_ne]; exact h_msip
    have HX : Hid (r = false) := HR.out.msip h_msip
    clear h_msip
    go_enter Tryz.func16, Tryz.ntmps16
    go_wp2
    go_ret
    exact ⟨(by rw [HX.out]; try rfl), HB.out _ _⟩
  have n_msip : (S.msip != T.msip) = false := by rw [h_msip]; simp
  have HE_msip : Hid (S.msip = T.msip) := h_msip
  clear h_msip
  by_cases h_cmp : S.cmp = T.cmp
  rotate_left 1
  · have n_cmp : (S.cmp != T.cmp) = true := by rw [bne_iff_ne]; exact h_cmp
    have HX : Hid (r = false) := HR.out.cmp h_cmp
    clear h_cmp
    go_enter Tryz.func16, Tryz.ntmps16
    go_wp2
    go_ret
    exact ⟨(by rw [HX.out]; try rfl), HB.out _ _⟩
  have n_cmp : (S.cmp != T.cmp) = false := by rw [h_cmp]; simp
  have HE_cmp : Hid (S.cmp = T.cmp) := h_cmp
  clear h_cmp
  by_cases h_time : S.time = T.time
  rotate_left 1
  · have n_time : (S.time != T.time) = true := by rw [bne_iff_ne]; exact h_time
    have HX : Hid (r = false) := HR.out.time h_time
    clear h_time
    go_enter Tryz.func16, Tryz.ntmps16
    go_wp2
    go_ret
    exact ⟨(by rw [HX.out]; try rfl), HB.out _ _⟩
  have n_time : (S.time != T.time) = false := by rw [h_time]; simp
  have HE_time : Hid (S.time = T.time) := h_time
  clear h_time
  by_cases h_ext : S.ext = T.ext
  rotate_left 1
  · have n_ext : S.ext = !T.ext := by cases q1 : S.ext <;> cases q2 : T.ext <;> simp_all
    have HX : Hid (r = false) := HR.out.ext h_ext
    clear h_ext
    go_enter Tryz.func16, Tryz.ntmps16
    go_wp2
    go_ret
    exact ⟨(by rw [HX.out]; try rfl), HB.out _ _⟩
  have n_ext : T.ext = S.ext := h_ext.symm
  have HE_ext : Hid (S.ext = T.ext) := h_ext
  clear h_ext
  by_cases h_soft : S.soft = T.soft
  rotate_left 1
  · have n_soft : S.soft = !T.soft := by cases q1 : S.soft <;> cases q2 : T.soft <;> simp_all
    have HX : Hid (r = false) := HR.out.soft h_soft
    clear h_soft
    go_enter Tryz.func16, Tryz.ntmps16
    go_wp2
    go_ret
    exact ⟨(by rw [HX.out]; try rfl), HB.out _ _⟩
  have n_soft : T.soft = S.soft := h_soft.symm
  have HE_soft : Hid (S.soft = T.soft) := h_soft
  clear h_soft
  by_cases h_off : S.off = T.off
  rotate_left 1
  · have n_off : (S.off != T.off) = true := by rw [bne_iff_ne]; exact h_off
    have HX : Hid (r = false) := HR.out.off h_off
    clear h_off
    go_enter Tryz.func16, Tryz.ntmps16
    go_wp2
    go_ret
    exact ⟨(by rw [HX.out]; try rfl), HB.out _ _⟩
  have n_off : (S.off != T.off) = false := by rw [h_off]; simp
  have HE_off : Hid (S.off = T.off) := h_off
  clear h_off
  by_cases h_code : S.code = T.code
  rotate_left 1
  · have n_code : (S.code != T.code) = true := by rw [bne_iff_ne]; exact h_code
    have HX : Hid (r = false) := HR.out.code h_code
    clear h_code
    go_enter Tryz.func16, Tryz.ntmps16
    go_wp2
    go_ret
    exact ⟨(by rw [HX.out]; try rfl), HB.out _ _⟩
  have n_code : (S.code != T.code) = false := by rw [h_code]; simp
  have HE_code : Hid (S.code = T.code) := h_code
  clear h_code
  by_cases h_ier : S.ier = T.ier
  rotate_left 1
  · have n_ier : (S.ier != T.ier) = true := by rw [bne_iff_ne]; exact h_ier
    have HX : Hid (r = false) := HR.out.ier h_ier
    clear h_ier
    go_enter Tryz.func16, Tryz.ntmps16
    go_wp2
    go_ret
    exact ⟨(by rw [HX.out]; try rfl), HB.out _ _⟩
  have n_ier : (S.ier != T.ier) = false := by rw [h_ier]; simp
  have HE_ier : Hid (S.ier = T.ier) := h_ier
  clear h_ier
  by_cases h_lcr : S.lcr = T.lcr
  rotate_left 1
  · have n_lcr : (S.lcr != T.lcr) = true := by rw [bne_iff_ne]; exact h_lcr
    have HX : Hid (r = false) := HR.out.lcr h_lcr
    clear h_lcr
    go_enter Tryz.func16, Tryz.ntmps16
    go_wp2
    go_ret
    exact ⟨(by rw [HX.out]; try rfl), HB.out _ _⟩
  have n_lcr : (S.lcr != T.lcr) = false := by rw [h_lcr]; simp
  have HE_lcr : Hid (S.lcr = T.lcr) := h_lcr
  clear h_lcr
  by_cases h_mcr : S.mcr = T.mcr
  rotate_left 1
  · have n_mcr : (S.mcr != T.mcr) = true := by rw [bne_iff_ne]; exact h_mcr
    have HX : Hid (r = false) := HR.out.mcr h_mcr
    clear h_mcr
    go_enter Tryz.func16, Tryz.ntmps16
    go_wp2
    go_ret
    exact ⟨(by rw [HX.out]; try rfl), HB.out _ _⟩
  have n_mcr : (S.mcr != T.mcr) = false := by rw [h_mcr]; simp
  have HE_mcr : Hid (S.mcr = T.mcr) := h_mcr
  clear h_mcr
  by_cases h_scr : S.scr = T.scr
  rotate_left 1
  · have n_scr : (S.scr != T.scr) = true := by rw [bne_iff_ne]; exact h_scr
    have HX : Hid (r = false) := HR.out.scr h_scr
    clear h_scr
    go_enter Tryz.func16, Tryz.ntmps16
    go_wp2
    go_ret
    exact ⟨(by rw [HX.out]; try rfl), HB.out _ _⟩
  have n_scr : (S.scr != T.scr) = false := by rw [h_scr]; simp
  have HE_scr : Hid (S.scr = T.scr) := h_scr
  clear h_scr
  by_cases h_ov : S.ov = T.ov
  rotate_left 1
  · have n_ov : S.ov = !T.ov := by cases q1 : S.ov <;> cases q2 : T.ov <;> simp_all
    have HX : Hid (r = false) := HR.out.ov h_ov
    clear h_ov
    go_enter Tryz.func16, Tryz.ntmps16
    go_wp2
    go_ret
    exact ⟨(by rw [HX.out]; try rfl), HB.out _ _⟩
  have n_ov : T.ov = S.ov := h_ov.symm
  have HE_ov : Hid (S.ov = T.ov) := h_ov
  clear h_ov
  by_cases h_ram : sr.toList = tr.toList
  rotate_left 1
  · have HX : Hid (r = false) := Hram.out h_ram
    go_enter Tryz.func16, Tryz.ntmps16
    go_wp2
    go_ret
    exact ⟨(by rw [HX.out]; first | rfl | simp [h_ram] | (simp; exact h_ram) | (exact congrArg (fun z => Ending.returned (Value.bool z)) (by simp [h_ram]))), HB.out _ _⟩
  have HE_ram : Hid (sr.toList = tr.toList) := h_ram
  by_cases h_inp : si.toList = ti.toList
  rotate_left 1
  · have HX : Hid (r = false) := Hinp.out h_inp
    go_enter Tryz.func16, Tryz.ntmps16
    go_wp2
    go_ret
    exact ⟨(by rw [HX.out]; first | rfl | simp [h_inp] | (simp; exact h_inp) | (exact congrArg (fun z => Ending.returned (Value.bool z)) (by simp [h_inp]))), HB.out _ _⟩
  have HE_inp : Hid (si.toList = ti.toList) := h_inp
  by_cases h_out : so.toList = to9.toList
  rotate_left 1
  · have HX : Hid (r = false) := Hout.out h_out
    go_enter Tryz.func16, Tryz.ntmps16
    go_wp2
    go_ret
    exact ⟨(by rw [HX.out]; first | rfl | simp [h_out] | (simp; exact h_out) | (exact congrArg (fun z => Ending.returned (Value.bool z)) (by simp [h_out]))), HB.out _ _⟩
  have HE_out : Hid (so.toList = to9.toList) := h_out
  have HX : Hid (r = true) := HT.out HE_ram.out HE_inp.out HE_out.out HE_msip.out HE_cmp.out HE_time.out HE_ext.out HE_soft.out HE_off.out HE_code.out HE_ier.out HE_lcr.out HE_mcr.out HE_scr.out HE_ov.out
  go_enter Tryz.func16, Tryz.ntmps16
  go_wp2
  go_ret
  exact ⟨(by rw [HX.out]; try rfl), HB.out _ _⟩
/-- Has each byte of an access the bit? -/
def gtD (K : Cp) (ad : BitVec 64) (z : Nat) (b : Int) : Bool := (List.range z).all fun i => grA (PC K.c) (PA K.a) (ad + BitVec.ofNat 64 i) b
theorem gtD_yes {K : Cp} {ad : BitVec 64} {z : Nat} {b : Int} (h : gtA K ad z b) : gtD K ad z b = true := by
  unfold gtD
  rw [List.all_eq_true]
  intro i hi
  exact h i (List.mem_range.1 hi)
theorem gtD_no {K : Cp} {ad : BitVec 64} {z i : Nat} {b : Int} (hi : i < z) (h : grA (PC K.c) (PA K.a) (ad + BitVec.ofNat 64 i) b = false) : gtD K ad z b = false := by
  cases q : gtD K ad z b with
  | false => rfl
  | true =>
    unfold gtD at q
    rw [List.all_eq_true] at q
    have := q i (List.mem_range.2 hi)
    rw [h] at this; cases this
set_option maxRecDepth 100000 in
set_option maxHeartbeats 4000000 in
theorem granted_c (K : Cp) (y : Acd) (z : Nat) (hz : z ≤ 8) (b : Int) (w : World) (hT : Tb w) :
    Calls Tryz.prog 20 #[.agg (cpc K), .agg (acc y), .int .i64 (z : Int), .int .i64 b] w fun e w' => e = .returned (.bool (gtD K y.ad z b)) ∧ Below w.heap.size w w' := by
  obtain ⟨W0, hW0, r0, r1, b0, s0⟩ := start2 w (cpc K) (acc y) 31 45
  have HT0 : Hid (Tb W0) := hT.next b0.out
  have HG : Hid (∀ (i : Nat) W, Below W0.heap.size W0 W → Calls Tryz.prog 17 #[.agg (pc K.c K.a), .int .u64 (n64 (y.ad + BitVec.ofNat 64 i)), .int .i64 b] W fun e w' => e = .returned (.bool (grA (PC K.c) (PA K.a) (y.ad + BitVec.ofNat 64 i) b)) ∧ Below W.heap.size W w') := fun i W hb => Granted_c K.c K.a _ b W (HT0.out.next hb)
  have HRC : Hid (∀ W, Below W0.heap.size W0 W → Row W w.heap.size (cpc K) 31) := fun W hb => r0.out.later hb r0.out.lt
  have HRY : Hid (∀ W, Below W0.heap.size W0 W → Row W (w.heap.size + 1) (acc y) 45) := fun W hb => r1.out.later hb r1.out.lt
  have HY : Hid (gtA K y.ad z b → gtD K y.ad z b = true) := gtD_yes
  have HN : Hid (∀ i, i < z → grA (PC K.c) (PA K.a) (y.ad + BitVec.ofNat 64 i) b = false → gtD K y.ad z b = false) := fun i => gtD_no
  generalize gtD K y.ad z b = R at HY HN ⊢
  have HBB : Hid (Below w.heap.size w W0) := b0
  clear s0 hT b0
  go_enter Tryz.func20, Tryz.ntmps20
  go_upto_region 1 with fail
  clear hW0 r0 r1
  go_wp2
  go_loopw [9] (fun vi wr => ∃ i : Nat, i ≤ z ∧ vi = .int .i64 (i : Int) ∧ Hid (Below W0.heap.size W0 wr ∧ ∀ j, j < i → grA (PC K.c) (PA K.a) (y.ad + BitVec.ofNat 64 j) b = true)) (fun i _ => z - (intOf i).toNat)
  case atStart => exact ⟨0, Nat.zero_le _, rfl, Below.refl _ _, fun j hj => absurd hj (Nat.not_lt_zero _)⟩
  case round =>
    obtain ⟨i, hi, rfl, hst⟩ := hrel
    by_cases hlt : i < z
    · have hltI : (i : Int) < (z : Int) := by omega
      have HRC1 : Hid (Row wr w.heap.size (cpc K) 31) := HRC.out wr hst.out.1
      have y3 : wr.cell? ⟨w.heap.size + 1, 3, none⟩ = some (.int .u64 (n64 y.ad)) := (HRY.out wr hst.out.1).cell 3
      have hw1 : IntKind.u64.wrap (i : Int) = (i : Int) := u64_small (by omega) (by omega)
      have hs1 : IntKind.u64.wrap (n64 y.ad + (i : Int)) = n64 (y.ad + BitVec.ofNat 64 i) := by
        have q := n64_add y.ad (BitVec.ofNat 64 i)
        have q2 : n64 (BitVec.ofNat 64 i) = (i : Int) := by unfold n64; rw [BitVec.toNat_ofNat, Nat.mod_eq_of_lt (by omega)]
        rw [q2] at q
        exact q
      have HGG := HG.out i
      have HNN := HN.out i hlt
      have HGN : Hid (grA (PC K.c) (PA K.a) (y.ad + BitVec.ofNat 64 i) b = true → ∀ j, j < i + 1 → grA (PC K.c) (PA K.a) (y.ad + BitVec.ofNat 64 j) b = true) := fun h j hj => by
        by_cases q : j < i
        · exact hst.out.2 j q
        · obtain rfl : j = i := by omega
          exact h
      generalize grA (PC K.c) (PA K.a) (y.ad + BitVec.ofNat 64 i) b = g at HGG HNN HGN
      generalize n64 (y.ad + BitVec.ofNat 64 i) = nn at HGG hs1
      have HGF : Hid (∀ W, Below W0.heap.size W0 W → Calls Tryz.prog 17 #[.agg (pc K.c K.a), .int .u64 nn, .int .i64 b] W fun e w' => e = .returned (.bool g) ∧ Below W.heap.size W w') := HGG
      have HNF : Hid (g = false → R = false) := HNN
      have HST : Hid (Below W0.heap.size W0 wr) := hst.out.1
      clear HGG HNN hst
      cases g with
      | true =>
        go_wp2_with (first | (refine wpList_load_agg (by rfl) _ _ (by rfl) w.heap.size 47 (by rfl) (pc K.c K.a) _ HRC1.out.pmp Tryz.underlying27 (by rfl) (info_pmp _ _) ?_) | (go_at_call 17; refine (HGF.out _ HST.out).mono ?_; rintro e w1 ⟨rfl, hb1⟩; have HB1 : Hid (Below W0.heap.size W0 w1) := HST.out.trans (hb1.mono HST.out.size); clear hb1))
        go_roundw
        · exact ⟨i + 1, by omega, by go_num, HB1.out, HGN.out (by first | trivial | rfl)⟩
        · simp only [intOf]; omega
      | false =>
        have HE : Hid (R = false) := HNF.out rfl
        go_wp2_with (first | (refine wpList_load_agg (by rfl) _ _ (by rfl) w.heap.size 47 (by rfl) (pc K.c K.a) _ HRC1.out.pmp Tryz.underlying27 (by rfl) (info_pmp _ _) ?_) | (go_at_call 17; refine (HGF.out _ HST.out).mono ?_; rintro e w1 ⟨rfl, hb1⟩; have HB1 : Hid (Below W0.heap.size W0 w1) := HST.out.trans (hb1.mono HST.out.size); clear hb1))
        go_ret
        exact ⟨(by rw [HE.out]; try rfl), HBB.out.trans (HB1.out.mono HBB.out.size)⟩
    · have hltI : ¬ (i : Int) < (z : Int) := by omega
      obtain rfl : i = z := by omega
      have HE : Hid (R = true) := HY.out (fun j hj => hst.out.2 j hj)
      go_wp2
      go_ret
      exact ⟨(by rw [HE.out]; try rfl), HBB.out.trans (hst.out.1.mono HBB.out.size)⟩
theorem Byt.spot {w : World} {a : Option Addr} {n cap : Nat} {l : List Int} (h : Byt w (.slice a n cap) l) (hl : l ≠ []) : ∃ g off, a = some ⟨g, off, none⟩ ∧ g < w.heap.size ∧ ∀ j, j < l.length → w.cell? ⟨g, off + j, none⟩ = some (.int .u8 (l.getD j 0)) := by
  obtain ⟨a', cap', e1, e2, e3, e4⟩ := h
  obtain ⟨g, off, ea, q1, q2⟩ := e4 hl
  cases e1
  exact ⟨g, off, ea, q1, q2⟩
theorem byt_nil (w : World) : Byt w (.slice none 0 0) [] := ⟨none, 0, rfl, Nat.le_refl _, fun _ => rfl, fun h => absurd rfl h⟩
set_option maxRecDepth 100000 in
set_option maxHeartbeats 2000000 in
theorem quiet_c (S : St) (x1 x2 x3 : Option Addr) (c1 c2 c3 : Nat) (w : World) :
    Calls Tryz.prog 21 #[.agg (stc S (.slice x1 S.ram.length c1) (.slice x2 S.inp.length c2) (.slice x3 S.out.length c3))] w fun e w' => e = .returned (.agg (stc (quS S) (.slice none 0 0) (.slice none 0 0) (.slice x3 S.out.length c3))) ∧ Below w.heap.size w w' := by
  obtain ⟨W0, hW0, r0, r1, b0, s0⟩ := start2 w (stc S (.slice x1 S.ram.length c1) (.slice x2 S.inp.length c2) (.slice x3 S.out.length c3)) (stc zST (.slice none 0 0) (.slice none 0 0) (.slice none 0 0)) 35 35
  have hzb := zero_busv
  have q0 : W0.cell? ⟨w.heap.size, 0, none⟩ = some (.slice x1 S.ram.length c1) := r0.out.cell 0
  have f0 : W0.frozen? ⟨w.heap.size, 0, none⟩ = false := frozen_of_row W0 _ 0 _ _ r0.out
  have HR1 : Hid (Row W0 (w.heap.size + 1) (stc zST (.slice none 0 0) (.slice none 0 0) (.slice none 0 0)) 35) := r1.out
  have HR0 : Hid (Row W0 w.heap.size (stc S (.slice x1 S.ram.length c1) (.slice x2 S.inp.length c2) (.slice x3 S.out.length c3)) 35) := r0.out
  have HB0 : Hid (Below w.heap.size w W0) := b0
  clear s0 r0 r1 b0
  go_enter Tryz.func21, Tryz.ntmps21
  go_upto_region 1 with fail
  clear hW0
  go_upto_region 2 with fail
  refine on_P (motive := fun W => Code.wp _ _ _ _ W) (Q := fun W => Row W w.heap.size (stc { S with ram := [] } (.slice none 0 0) (.slice x2 S.inp.length c2) (.slice x3 S.out.length c3)) 35 ∧ Row W (w.heap.size + 1) (stc zST (.slice none 0 0) (.slice none 0 0) (.slice none 0 0)) 35 ∧ Below w.heap.size w W) ⟨HR0.out.lay [.slice none 0 0] 0, HR1.out.lays (by omega) [.slice none 0 0] 0, below_lay (Nat.le_refl _) [.slice none 0 0] 0 HB0.out⟩ ?_
  clear HR0 HR1 HB0 q0 f0
  rintro W1 ⟨h0, h1, h2⟩
  have q0 : W1.cell? ⟨w.heap.size, 11, none⟩ = some (.slice x2 S.inp.length c2) := h0.cell 11
  have f0 : W1.frozen? ⟨w.heap.size, 11, none⟩ = false := frozen_of_row W1 _ 11 _ _ h0
  have HR0 : Hid (Row W1 w.heap.size (stc { S with ram := [] } (.slice none 0 0) (.slice x2 S.inp.length c2) (.slice x3 S.out.length c3)) 35) := h0
  have HR1 : Hid (Row W1 (w.heap.size + 1) (stc zST (.slice none 0 0) (.slice none 0 0) (.slice none 0 0)) 35) := h1
  have HB0 : Hid (Below w.heap.size w W1) := h2
  clear h0 h1 h2
  go_upto_region 3 with fail
  refine on_P (motive := fun W => Code.wp _ _ _ _ W) (Q := fun W => Row W w.heap.size (stc { S with ram := [], inp := [] } (.slice none 0 0) (.slice none 0 0) (.slice x3 S.out.length c3)) 35 ∧ Row W (w.heap.size + 1) (stc zST (.slice none 0 0) (.slice none 0 0) (.slice none 0 0)) 35 ∧ Below w.heap.size w W) ⟨HR0.out.lay [.slice none 0 0] 11, HR1.out.lays (by omega) [.slice none 0 0] 11, below_lay (Nat.le_refl _) [.slice none 0 0] 11 HB0.out⟩ ?_
  clear HR0 HR1 HB0 q0 f0
  rintro W2 ⟨h0, h1, h2⟩
  have q0 : W2.cell? ⟨w.heap.size, 10, none⟩ = some (.bool S.ov) := h0.cell 10
  have f0 : W2.frozen? ⟨w.heap.size, 10, none⟩ = false := frozen_of_row W2 _ 10 _ _ h0
  have HR0 : Hid (Row W2 w.heap.size (stc { S with ram := [], inp := [] } (.slice none 0 0) (.slice none 0 0) (.slice x3 S.out.length c3)) 35) := h0
  have HR1 : Hid (Row W2 (w.heap.size + 1) (stc zST (.slice none 0 0) (.slice none 0 0) (.slice none 0 0)) 35) := h1
  have HB0 : Hid (Below w.heap.size w W2) := h2
  clear h0 h1 h2
  go_upto_region 4 with fail
  refine on_P (motive := fun W => Code.wp _ _ _ _ W) (Q := fun W => Row W w.heap.size (stc (quS S) (.slice none 0 0) (.slice none 0 0) (.slice x3 S.out.length c3)) 35 ∧ Row W (w.heap.size + 1) (stc zST (.slice none 0 0) (.slice none 0 0) (.slice none 0 0)) 35 ∧ Below w.heap.size w W) ⟨HR0.out.lay [.bool false] 10, HR1.out.lays (by omega) [.bool false] 10, below_lay (Nat.le_refl _) [.bool false] 10 HB0.out⟩ ?_
  clear HR0 HR1 HB0 q0 f0
  rintro W3 ⟨h0, h1, h2⟩
  have HR0 : Hid (Row W3 w.heap.size (stc (quS S) (.slice none 0 0) (.slice none 0 0) (.slice x3 S.out.length c3)) 35) := h0
  have HR1 : Hid (Row W3 (w.heap.size + 1) (stc zST (.slice none 0 0) (.slice none 0 0) (.slice none 0 0)) 35) := h1
  have HB0 : Hid (Below w.heap.size w W3) := h2
  clear h0 h1 h2
  go_wp2_with (first | (refine wpList_load_row (by rfl) _ _ (by rfl) _ (by rfl) 35 _ (0, 0) _ HR0.out Tryz.underlying35 (by rfl) (info_bus _ _ _ _) ?_) | (refine wpList_store_row (by rfl) _ _ _ (by rfl) (by rfl) (w.heap.size + 1) _ (stc (quS S) (.slice none 0 0) (.slice none 0 0) (.slice x3 S.out.length c3)) (by rfl) (by rfl) HR1.out (info_bus _ _ _ _) (by rfl) (by kernel_rfl) ?_))
  refine bodyPost_ret (v := .agg (stc (quS S) (.slice none 0 0) (.slice none 0 0) (.slice x3 S.out.length c3))) (results_cell_row Tryz.results21 _ _ (w.heap.size + 1) 35 _ (0, 0) _ (by rfl) (setRow_heap _ _ _ _ _ _ HR1.out) Tryz.underlying35 (by rfl) (info_bus _ _ _ _)) rfl ⟨rfl, below_row HB0.out (by omega) _⟩
end Go.Proofs.YtlhgphokfpnfeaaGreatDoor
