import Derived.Test.YtdpfjhacmlnklaaGreatDoorK25
namespace Go.Proofs.YtdpfjhacmlnklaaGreatDoor
set_option linter.unusedVariables false
set_option maxRecDepth 100000
set_option maxHeartbeats 8000000
open Go.ChangeShapes Go.WideShapes Go.ChangeAt Go.RowKit Go.Deep _root_.Go.Proofs.Tryz
theorem lN {S : St} {k : Wy} {z : Nat} (hs : Sok S) (hz : bV z) : n64 (MV S k z none).old < ((256 ^ z : Nat) : Int) := by
 have hp : 0 < 256 ^ z := Nat.pow_pos (by decide)
 have e0 : n64 0#64 = 0 := rfl
 simp only [MV]
 by_cases q : (fbd S k z).is = true
 ·rw [if_pos q, e0]; omega
 ·rw [if_neg q]
  have hf := (bO hz (by simpa using q)).1
  by_cases hr : k.r = 2
  ·show n64 (mvB S k z) < _
   unfold mvB; rw [if_pos hr, e0]; omega
  ·show n64 (mvB S k z) < _
   rw [gF hs hz hf hr]
   exact (fT hs _ z hz hf).2
def n32 (x : BitVec 32) : Int := (x.toNat : Int)
theorem fO (x : BitVec 32) : BitVec.ofInt 32 (n32 x) = x := by
 unfold n32
 apply BitVec.eq_of_toNat_eq
 rw [BitVec.toNat_ofInt]
 have := x.isLt
 omega
theorem nA (x : BitVec 32) : IntKind.u32.wrap (n32 x) = n32 x := by
 show n32 x % 4294967296 = n32 x
 have := x.isLt
 unfold n32; omega
theorem wI (x y : BitVec 32) : bits .and .u32 (n32 x) (n32 y) = n32 (x &&& y) := by
 show IntKind.u32.wrap ((BitVec.ofInt 32 (n32 x) &&& BitVec.ofInt 32 (n32 y)).toNat : Int) = _
 rw [fO, fO]; exact nA _
theorem BV (x y : BitVec 32) : bits .or .u32 (n32 x) (n32 y) = n32 (x ||| y) := by
 show IntKind.u32.wrap ((BitVec.ofInt 32 (n32 x) ||| BitVec.ofInt 32 (n32 y)).toNat : Int) = _
 rw [fO, fO]; exact nA _
theorem nP {z : Int} (h0 : 0 ≤ z) (h1 : z < 4294967296) : z = n32 (BitVec.ofNat 32 z.toNat) := by
 unfold n32; rw [BitVec.toNat_ofNat, Nat.mod_eq_of_lt (by omega)]; omega
theorem vH {z : Int} (h0 : 0 ≤ z) (h1 : z < 65536) : bits .and .u32 z 3 = z % 4 := by
 have e : z = n32 (BitVec.ofNat 32 z.toNat) := nP h0 (by omega)
 have e3 : (3 : Int) = n32 3#32 := rfl
 rw [e, e3, wI]
 unfold n32
 rw [BitVec.toNat_and, show (3#32).toNat = 2 ^ 2 - 1 from rfl, Nat.and_two_pow_sub_one_eq_mod, Int.natCast_emod]
 rfl
theorem EL {h l : Int} (h0 : 0 ≤ h) (h1 : h < 65536) (l0 : 0 ≤ l) (l1 : l < 65536) : bits .or .u32 (h * 65536) l = h * 65536 + l := by
 have eh : h * 65536 = n32 (BitVec.ofNat 32 (h * 65536).toNat) := nP (by omega) (by omega)
 have el : l = n32 (BitVec.ofNat 32 l.toNat) := nP l0 (by omega)
 obtain ⟨H, rfl⟩ : ∃ H : Nat, h = H := ⟨h.toNat, by omega⟩
 obtain ⟨M, rfl⟩ : ∃ M : Nat, l = M := ⟨l.toNat, by omega⟩
 have q : bits .or .u32 ((H : Int) * 65536) (M : Int) = n32 (BitVec.ofNat 32 ((H : Int) * 65536).toNat ||| BitVec.ofNat 32 ((M : Int)).toNat) := by
  rw [← BV, ← eh, ← el]
 rw [q]
 unfold n32
 rw [BitVec.toNat_or, BitVec.toNat_ofNat, BitVec.toNat_ofNat, show ((H : Int) * 65536).toNat = 2 ^ 16 * H by omega, show ((M : Int)).toNat = M by omega, Nat.mod_eq_of_lt (by omega), Nat.mod_eq_of_lt (by omega)]
 have := Nat.two_pow_add_eq_or_of_lt (i := 16) (b := M) (by omega) H
 rw [← this]
 omega
theorem mS {B : Nat} {L : Lay} {S : St} (w : World) (h : PB B L S w) (hs : Sok S) (hT : Tb w) (hB : 0 < B) (K : Cp) (ad : BitVec 64) :
  Calls prog 52 #[.agg (cpc K), .pointer (some ⟨L.b, 0, none⟩), .int .u64 (n64 ad)] w fun e w' => e = .returned (.tuple #[.int .u32 (n64 (MV S (wF L.b K ad) 2 none).old), .agg (tpc (MV S (wF L.b K ad) 2 none).t)]) ∧ ∃ L', PSt B L w L' (MV S (wF L.b K ad) 2 none).S w' := by
 obtain ⟨W0, hW0, r0, r1, b0, s0⟩ := bX w (cpc K) (tpc tN) 31 46
 have hzt := bE
 have hzw := gL
 have HP0 : Hid (PSt B L w L S W0) := (PSt.refl h).post b0.out
 have hlo : ∀ g, w.heap.size ≤ g → ¬ L.own g := fun g hg e => by have := h.own_hi _ e; omega
 have HO1 : Hid (Own w L W0 (w.heap.size + 1) (tpc tN) 46) := ⟨r1.out, hlo _ (by omega), by omega⟩
 have HL1 : Hid (∀ j v, (pc K.c K.a)[j]? = some v → W0.cell? ⟨w.heap.size, 47 + j, none⟩ = some v) := r0.out.pmp
 have cm := r0.out.cls.md
 have HMV : Hid (∀ W, Below w.heap.size w W → Calls prog 72 #[.agg (wyc (wF L.b K ad)), .nilFunc] W fun e w' => e = .returned (.tuple #[.int .u64 (n64 (MV S (wF L.b K ad) 2 none).old), .int .u64 (n64 (MV S (wF L.b K ad) 2 none).st), .agg (tpc (MV S (wF L.b K ad) 2 none).t)]) ∧ ∃ L', PSt B L W L' (MV S (wF L.b K ad) 2 none).S w') := fun W hb => tB W (h.later hb) hs (hT.next hb) hB (wF L.b K ad) rfl .nilFunc none .nil
 have hlt : n64 (MV S (wF L.b K ad) 2 none).old < 65536 := lN hs (by simp [bV])
 have hwr : IntKind.u32.wrap (n64 (MV S (wF L.b K ad) 2 none).old) = n64 (MV S (wF L.b K ad) 2 none).old := by
  show _ % 4294967296 = _
  have := bB (MV S (wF L.b K ad) 2 none).old
  omega
 have HB0 : Hid (Below w.heap.size w W0) := b0
 clear hlt
 generalize (MV S (wF L.b K ad) 2 none) = m at HMV hwr ⊢
 clear h hs hT s0 r1 b0
 go_enter func52, ntmps52
 go_upto_region 1 with fail
 clear hW0
 go_upto_region 2 with (first | (refine aT (by rfl) _ _ (by rfl) w.heap.size 47 (by rfl) (pc K.c K.a) _ HL1.out underlying27 (by rfl) (dB _ _) ?_) | (refine aH (by rfl) 127 _ (by rfl) (wyc (wF L.b K ad)) (by kernel_rfl) ?_) | (refine aK (by rfl) 127 _ _ (by rfl) (by rfl) wz (wyc (wF L.b K ad)) (by rfl) (by rfl) (bA _) (by rw [iL, dL]) (gK _) ?_))
 refine bK (motive := fun W => Code.wp _ _ _ _ W) (Q := fun W => Own w L W (w.heap.size + 1) (tpc tN) 46 ∧ Own w L W W0.heap.size (wyc (wF L.b K ad)) 127 ∧ PSt B L w L S W ∧ Below w.heap.size w W) ⟨HO1.out.post (aF _ _), Own.new HP0.out _ _, HP0.out.al _, HB0.out.trans ((aF _ _).mono HB0.out.size)⟩ ?_
 clear HO1 HP0 HB0 HL1 cm r0
 generalize W0.heap.size = gw
 rintro W2 ⟨o1, o2, p2, b2⟩
 have HO1 := hid o1
 have HO2 := hid o2
 have HP2 := hid p2
 have HC : Hid (Calls prog 72 #[.agg (wyc (wF L.b K ad)), .nilFunc] W2 fun e w' => e = .returned (.tuple #[.int .u64 (n64 m.old), .int .u64 (n64 m.st), .agg (tpc m.t)]) ∧ ∃ L', PSt B L W2 L' m.S w') := HMV.out W2 b2
 clear o1 o2 p2 b2 HMV
 go_upto_region 3 with (first | (refine wpList_load_row (by rfl) _ _ (by rfl) _ (by rfl) 127 _ (0, 0) _ HO2.out.r underlying127 (by rfl) (bA _) ?_) | (go_at_call 72; refine HC.out.mono ?_; rintro e w3 ⟨rfl, L1, hp3⟩; have HP3 := hid hp3; clear hp3) | (refine aK (by rfl) 46 _ _ (by rfl) (by rfl) (tpc tN) (tpc m.t) (by rfl) (by rfl) (aB _) (aP _ _) (aG _) ?_))
 refine bK (motive := fun W => Code.wp _ _ _ _ W) (Q := fun W => Own w L1 W (w.heap.size + 1) (tpc tN) 46 ∧ Own w L1 W w3.heap.size (tpc m.t) 46 ∧ PSt B L w L1 m.S W) ⟨(HO1.out.bus HP3.out).post (aF _ _), Own.new (HP2.out.trans HP3.out) _ _, (HP2.out.trans HP3.out).al _⟩ ?_
 clear HO1 HO2 HP2 HP3 HC
 generalize w3.heap.size = gt
 rintro W4 ⟨o1, o2, p4⟩
 have HO1 := hid o1
 have HP4 := hid p4
 have hlt : Hid (gt < W4.heap.size) := o2.r.lt
 have HL2 : Hid (∀ j v, (tpc m.t)[j]? = some v → W4.cell? ⟨gt, 0 + j, none⟩ = some v) := o2.r.agg
 clear o1 o2 p4
 have := aX W4
 refine aQ (x0 := bR.start W4) 4 (by kernel_rfl) (by kernel_rfl) ?_
 simp only [List.take_succ_cons, List.take_zero, List.drop_succ_cons, List.drop_zero]
 repeat (first | (refine BigFrame.wpQuiet_want (by rfl) fun K hK => ?_; refine aV 46 _ (by rfl) (gt) 0 (by rfl) (tpc m.t) _ hlt.out HL2.out underlying46 (by rfl) (aB _) (hK _ ?_); clear hK K; simp only [Act.put, List.setIfInBounds_toArray, List.set_cons_succ, List.set_cons_zero]) | (go_big_quiet_step (fail)))
 refine wpQuiet_nil ?_
 rintro w' ⟨x9, rfl⟩
 have HO9 : Hid (Own w L1 x9.1 (w.heap.size + 1) (tpc tN) 46) := HO1.out.post x9.below
 go_wp2_with (refine aC (by rfl) _ _ _ (by rfl) (by rfl) _ _ _ (by rfl) (by rfl) HO9.out.r (aB _) (aP _ _) (aG _) ?_)
 refine bodyPost_ret (v := .tuple #[.int .u32 (n64 m.old), .agg (tpc m.t)]) (jQ results52 _ _ (w.heap.size + 1) 46 _ (0, 0) _ _ (by rfl) (by rfl) (setRow_heap _ _ _ _ _ _ HO9.out.r) underlying46 (by rfl) (aB _)) rfl ⟨rfl, L1, (HP4.out.post x9.below).row HO9.out.n HO9.out.ge _⟩
structure Ft where
 raw : Int
 n : Int
 t : Tp
 S : St
def FT2 (m1 m2 : Mv) : Ft := if m1.t.is = true then ⟨0, 0, m1.t, m1.S⟩ else if n64 m1.old % 4 = 3 then (if m2.t.is = true then ⟨0, 0, m2.t, m2.S⟩ else ⟨n64 m2.old * 65536 + n64 m1.old, 4, tN, m2.S⟩) else ⟨n64 m1.old, 2, tN, m1.S⟩
def FT (S : St) (K : Cp) (b : Nat) : Ft := FT2 (MV S (wF b K K.pc) 2 none) (MV (MV S (wF b K K.pc) 2 none).S (wF b K (K.pc + 2#64)) 2 none)
theorem lP {B : Nat} {L : Lay} {S : St} (w : World) (h : PB B L S w) (hs : Sok S) (hT : Tb w) (hB : 0 < B) (k : Cp) :
  Calls prog 27 #[.agg (cpc k), .pointer (some ⟨L.b, 0, none⟩)] w fun e w' => e = .returned (.tuple #[.int .u32 (FT S (PR k) L.b).raw, .int .i64 (FT S (PR k) L.b).n, .agg (tpc (FT S (PR k) L.b).t)]) ∧ ∃ L', PSt B L w L' (FT S (PR k) L.b).S w' := by
 obtain ⟨W0, hW0, r0, r1, b0, s0⟩ := bX w (cpc k) (tpc tN) 31 46
 have hzt := bE
 have HP0 : Hid (PSt B L w L S W0) := (PSt.refl h).post b0.out
 have hlo : ∀ g, w.heap.size ≤ g → ¬ L.own g := fun g hg e => by have := h.own_hi _ e; omega
 have HO0 : Hid (Own w L W0 w.heap.size (cpc k) 31) := ⟨r0.out, hlo _ (by omega), by omega⟩
 have HO1 : Hid (Own w L W0 (w.heap.size + 1) (tpc tN) 46) := ⟨r1.out, hlo _ (by omega), by omega⟩
 have HPR : Hid (∀ W, Calls prog 46 #[.agg (cpc k)] W fun e w' => e = .returned (.agg (cpc (PR k))) ∧ Below W.heap.size W w') := fun W => nB k W
 have HPA : Hid (∀ W, Below w.heap.size w W → Calls prog 52 #[.agg (cpc (PR k)), .pointer (some ⟨L.b, 0, none⟩), .int .u64 (n64 (PR k).pc)] W fun e w' => e = .returned (.tuple #[.int .u32 (n64 (MV S (wF L.b (PR k) (PR k).pc) 2 none).old), .agg (tpc (MV S (wF L.b (PR k) (PR k).pc) 2 none).t)]) ∧ ∃ L', PSt B L W L' (MV S (wF L.b (PR k) (PR k).pc) 2 none).S w') := fun W hb => mS W (h.later hb) hs (hT.next hb) hB (PR k) (PR k).pc
 have HPB : Hid (∀ L1 W, PSt B L w L1 (MV S (wF L.b (PR k) (PR k).pc) 2 none).S W → Calls prog 52 #[.agg (cpc (PR k)), .pointer (some ⟨L.b, 0, none⟩), .int .u64 (n64 ((PR k).pc + 2#64))] W fun e w' => e = .returned (.tuple #[.int .u32 (n64 (MV (MV S (wF L.b (PR k) (PR k).pc) 2 none).S (wF L.b (PR k) ((PR k).pc + 2#64)) 2 none).old), .agg (tpc (MV (MV S (wF L.b (PR k) (PR k).pc) 2 none).S (wF L.b (PR k) ((PR k).pc + 2#64)) 2 none).t)]) ∧ ∃ L', PSt B L1 W L' (MV (MV S (wF L.b (PR k) (PR k).pc) 2 none).S (wF L.b (PR k) ((PR k).pc + 2#64)) 2 none).S w') := fun L1 W hp => by
  have q := mS W hp.p (iM hs) (hp.tb hT hB h) hB (PR k) ((PR k).pc + 2#64)
  rw [hp.b.1] at q
  exact q
 have hl1 : n64 (MV S (wF L.b (PR k) (PR k).pc) 2 none).old < 65536 := lN hs (by simp [bV])
 have hl2 : n64 (MV (MV S (wF L.b (PR k) (PR k).pc) 2 none).S (wF L.b (PR k) ((PR k).pc + 2#64)) 2 none).old < 65536 := lN (iM hs) (by simp [bV])
 have HFT : Hid (FT S (PR k) L.b = FT2 (MV S (wF L.b (PR k) (PR k).pc) 2 none) (MV (MV S (wF L.b (PR k) (PR k).pc) 2 none).S (wF L.b (PR k) ((PR k).pc + 2#64)) 2 none)) := rfl
 obtain ⟨ft, hft⟩ : ∃ ft, ft = FT S (PR k) L.b := ⟨_, rfl⟩
 rw [← hft] at HFT ⊢
 clear hft
 generalize (MV (MV S (wF L.b (PR k) (PR k).pc) 2 none).S (wF L.b (PR k) ((PR k).pc + 2#64)) 2 none) = m2 at HPB hl2 HFT
 generalize (MV S (wF L.b (PR k) (PR k).pc) 2 none) = m1 at HPA HPB hl1 HFT
 generalize PR k = K at HPR HPA HPB
 have HB0 : Hid (Below w.heap.size w W0) := b0
 have HN1 : Hid (0 ≤ n64 m1.old ∧ n64 m1.old < 65536) := ⟨bB _, hl1⟩
 have HN2 : Hid (0 ≤ n64 m2.old ∧ n64 m2.old < 65536) := ⟨bB _, hl2⟩
 have hpc : IntKind.u64.wrap (n64 K.pc + 2) = n64 (K.pc + 2#64) := iG K.pc 2#64
 clear h hs hT s0 r0 r1 b0 hl1 hl2
 go_enter func27, ntmps27
 go_upto_region 1 with fail
 clear hW0
 go_upto_region 2 with (first | (refine wpList_load_row (by rfl) _ _ (by rfl) _ (by rfl) 31 _ (0, 0) _ HO0.out.r underlying31 (by rfl) (aE _) ?_) | (go_at_call 46; refine (HPR.out _).mono ?_; rintro e w1 ⟨rfl, hb1⟩; have HB1 := hid hb1; clear hb1) | (refine aC (by rfl) _ _ _ (by rfl) (by rfl) _ _ _ (by rfl) (by rfl) (HO0.out.post HB1.out).r (aE _) (by rw [aI, aI]) (aY _) ?_))
 refine bK (motive := fun W => Code.wp _ _ _ _ W) (Q := fun W => Own w L W w.heap.size (cpc K) 31 ∧ Own w L W (w.heap.size + 1) (tpc tN) 46 ∧ PSt B L w L S W ∧ Below w.heap.size w W)
  ⟨⟨setRow_heap _ _ _ _ _ _ (HO0.out.post HB1.out).r, HO0.out.n, HO0.out.ge⟩, ⟨(setRow_other _ _ _ _ (by omega)).trans (HO1.out.post HB1.out).r, HO1.out.n, HO1.out.ge⟩, (HP0.out.post HB1.out).row HO0.out.n HO0.out.ge _, bC (HB0.out.trans (HB1.out.mono HB0.out.size)) (Nat.le_refl _) _⟩ ?_
 clear HO0 HO1 HP0 HB0 HB1 HPR
 rintro W2 ⟨o0, o1, p2, b2⟩
 have HO0 := hid o0
 have HO1 := hid o1
 have HP2 := hid p2
 have HC : Hid (Calls prog 52 #[.agg (cpc K), .pointer (some ⟨L.b, 0, none⟩), .int .u64 (n64 K.pc)] W2 fun e w' => e = .returned (.tuple #[.int .u32 (n64 m1.old), .agg (tpc m1.t)]) ∧ ∃ L', PSt B L W2 L' m1.S w') := HPA.out W2 b2
 have cpx := o0.r.cls.pc
 clear o0 o1 p2 b2 HPA
 go_upto_region 3 with (first | (refine wpList_load_row (by rfl) _ _ (by rfl) _ (by rfl) 31 _ (0, 0) _ HO0.out.r underlying31 (by rfl) (aE _) ?_) | (go_at_call 52; refine HC.out.mono ?_; rintro e w3 ⟨rfl, L1, hp3⟩; have HP3 := hid hp3; clear hp3) | (refine aK (by rfl) 46 _ _ (by rfl) (by rfl) (tpc tN) (tpc m1.t) (by rfl) (by rfl) (aB _) (aP _ _) (aG _) ?_))
 refine bK (motive := fun W => Code.wp _ _ _ _ W) (Q := fun W => Own w L1 W w.heap.size (cpc K) 31 ∧ Own w L1 W (w.heap.size + 1) (tpc tN) 46 ∧ Own w L1 W w3.heap.size (tpc m1.t) 46 ∧ PSt B L w L1 m1.S W) ⟨(HO0.out.bus HP3.out).post (aF _ _), (HO1.out.bus HP3.out).post (aF _ _), Own.new (HP2.out.trans HP3.out) _ _, (HP2.out.trans HP3.out).al _⟩ ?_
 have HGT : Hid (w.heap.size + 1 < w3.heap.size) := by have := HP3.out.x.size; have := HO1.out.r.lt; unfold Hid; omega
 clear HO0 HO1 HP2 HP3 HC cpx
 generalize w3.heap.size = gt at HGT ⊢
 rintro W4 ⟨o0, o1, o2, p4⟩
 have HO0 := hid o0
 have HO1 := hid o1
 have HO2 := hid o2
 have HP4 := hid p4
 have ct : W4.cell? ⟨gt, 0, none⟩ = some (.bool m1.t.is) := o2.r.cell 0
 have cpx := o0.r.cls.pc
 clear o0 o1 o2 p4
 obtain ⟨q, hq⟩ : ∃ q, q = m1.t.is := ⟨_, rfl⟩
 rw [← hq] at ct
 have HQ : Hid (m1.t.is = q) := hq.symm
 clear hq
 cases q with
 | true =>
  have HF : Hid (ft = ⟨0, 0, m1.t, m1.S⟩) := by unfold Hid; rw [HFT.out, FT2, if_pos HQ.out]
  clear HFT HPB HN1 HN2 hpc cpx
  go_upto_region 4 with fail
  have hlt : Hid (gt < W4.heap.size) := HO2.out.r.lt
  have HL2 : Hid (∀ j v, (tpc m1.t)[j]? = some v → W4.cell? ⟨gt, 0 + j, none⟩ = some v) := HO2.out.r.agg
  have := aX W4
  refine aQ (x0 := bR.start W4) 3 (by kernel_rfl) (by kernel_rfl) ?_
  simp only [List.take_succ_cons, List.take_zero, List.drop_succ_cons, List.drop_zero]
  repeat (first | (refine BigFrame.wpQuiet_want (by rfl) fun K hK => ?_; refine aV 46 _ (by rfl) (gt) 0 (by rfl) (tpc m1.t) _ hlt.out HL2.out underlying46 (by rfl) (aB _) (hK _ ?_); clear hK K; simp only [Act.put, List.setIfInBounds_toArray, List.set_cons_succ, List.set_cons_zero]) | (go_big_quiet_step (fail)))
  refine wpQuiet_nil ?_
  rintro w' ⟨x9, rfl⟩
  have HO9 : Hid (Own w L1 x9.1 (w.heap.size + 1) (tpc tN) 46) := HO1.out.post x9.below
  go_wp2_with (refine aC (by rfl) _ _ _ (by rfl) (by rfl) _ _ _ (by rfl) (by rfl) HO9.out.r (aB _) (aP _ _) (aG _) ?_)
  refine bodyPost_ret (v := .tuple #[.int .u32 0, .int .i64 0, .agg (tpc m1.t)]) (aM results27 _ _ (w.heap.size + 1) 46 _ (0, 0) _ _ _ (by rfl) (by rfl) (by rfl) (setRow_heap _ _ _ _ _ _ HO9.out.r) underlying46 (by rfl) (aB _)) rfl ⟨by rw [HF.out], L1, by rw [HF.out]; exact (HP4.out.post x9.below).row HO9.out.n HO9.out.ge _⟩
 | false =>
  have hand := vH HN1.out.1 HN1.out.2
  by_cases h3 : n64 m1.old % 4 = 3
  ·have hne : (n64 m1.old % 4 != 3) = false := by rw [h3]; rfl
   have HC : Hid (Calls prog 52 #[.agg (cpc K), .pointer (some ⟨L.b, 0, none⟩), .int .u64 (n64 (K.pc + 2#64))] W4 fun e w' => e = .returned (.tuple #[.int .u32 (n64 m2.old), .agg (tpc m2.t)]) ∧ ∃ L', PSt B L1 W4 L' m2.S w') := HPB.out L1 W4 HP4.out
   have HF0 : Hid (ft = (if m2.t.is = true then ⟨0, 0, m2.t, m2.S⟩ else ⟨n64 m2.old * 65536 + n64 m1.old, 4, tN, m2.S⟩)) := by unfold Hid; rw [HFT.out, FT2, HQ.out, if_neg (by decide), if_pos h3]
   have hor := EL HN2.out.1 HN2.out.2 HN1.out.1 HN1.out.2
   have hsh : IntKind.u32.wrap (n64 m2.old * 65536) = n64 m2.old * 65536 := by
    show _ % 4294967296 = _
    have := HN2.out
    omega
   generalize n64 (K.pc + 2#64) = pc2 at hpc HC
   generalize n64 m1.old = lo at *
   generalize n64 m2.old = hi at *
   clear HFT HPB HN1 HN2 h3
   go_upto_region 8 with (first | (refine wpList_load_row (by rfl) _ _ (by rfl) _ (by rfl) 31 _ (0, 0) _ HO0.out.r underlying31 (by rfl) (aE _) ?_) | (go_at_call 52; refine HC.out.mono ?_; rintro e w5 ⟨rfl, L2, hp5⟩; have HP5 := hid hp5; clear hp5) | (refine aC (by rfl) _ _ _ (by rfl) (by rfl) _ _ _ (by rfl) (by rfl) (HO2.out.bus HP5.out).r (aB _) (aP _ _) (aG _) ?_))
   refine bK (motive := fun W => Code.wp _ _ _ _ W) (Q := fun W => Own w L2 W (w.heap.size + 1) (tpc tN) 46 ∧ Own w L2 W gt (tpc m2.t) 46 ∧ PSt B L w L2 m2.S W) ⟨⟨(setRow_other _ _ _ _ (by have := HGT.out; omega)).trans (HO1.out.bus HP5.out).r, (HO1.out.bus HP5.out).n, HO1.out.ge⟩, ⟨setRow_heap _ _ _ _ _ _ (HO2.out.bus HP5.out).r, (HO2.out.bus HP5.out).n, HO2.out.ge⟩, (HP4.out.trans HP5.out).row (HO2.out.bus HP5.out).n HO2.out.ge _⟩ ?_
   clear HO0 HO1 HO2 HP4 HP5 HC cpx ct hpc hand hne
   rintro W6 ⟨o1, o2, p4⟩
   have HO1 := hid o1
   have HO2 := hid o2
   have HP4 := hid p4
   have ct : W6.cell? ⟨gt, 0, none⟩ = some (.bool m2.t.is) := o2.r.cell 0
   clear o1 o2 p4
   obtain ⟨q, hq⟩ : ∃ q, q = m2.t.is := ⟨_, rfl⟩
   rw [← hq] at ct HF0
   clear hq
   cases q with
   | true =>
    have HF : Hid (ft = ⟨0, 0, m2.t, m2.S⟩) := by unfold Hid; rw [HF0.out, if_pos rfl]
    clear HF0 hor hsh
    go_upto_region 9 with fail
    have hlt : Hid (gt < W6.heap.size) := HO2.out.r.lt
    have HL2 : Hid (∀ j v, (tpc m2.t)[j]? = some v → W6.cell? ⟨gt, 0 + j, none⟩ = some v) := HO2.out.r.agg
    have := aX W6
    refine aQ (x0 := bR.start W6) 3 (by kernel_rfl) (by kernel_rfl) ?_
    simp only [List.take_succ_cons, List.take_zero, List.drop_succ_cons, List.drop_zero]
    repeat (first | (refine BigFrame.wpQuiet_want (by rfl) fun K hK => ?_; refine aV 46 _ (by rfl) (gt) 0 (by rfl) (tpc m2.t) _ hlt.out HL2.out underlying46 (by rfl) (aB _) (hK _ ?_); clear hK K; simp only [Act.put, List.setIfInBounds_toArray, List.set_cons_succ, List.set_cons_zero]) | (go_big_quiet_step (fail)))
    refine wpQuiet_nil ?_
    rintro w' ⟨x9, rfl⟩
    have HO9 : Hid (Own w L2 x9.1 (w.heap.size + 1) (tpc tN) 46) := HO1.out.post x9.below
    go_wp2_with (refine aC (by rfl) _ _ _ (by rfl) (by rfl) _ _ _ (by rfl) (by rfl) HO9.out.r (aB _) (aP _ _) (aG _) ?_)
    refine bodyPost_ret (v := .tuple #[.int .u32 0, .int .i64 0, .agg (tpc m2.t)]) (aM results27 _ _ (w.heap.size + 1) 46 _ (0, 0) _ _ _ (by rfl) (by rfl) (by rfl) (setRow_heap _ _ _ _ _ _ HO9.out.r) underlying46 (by rfl) (aB _)) rfl ⟨by rw [HF.out], L2, by rw [HF.out]; exact (HP4.out.post x9.below).row HO9.out.n HO9.out.ge _⟩
   | false =>
    have HF : Hid (ft = ⟨hi * 65536 + lo, 4, tN, m2.S⟩) := by unfold Hid; rw [HF0.out, if_neg (by decide)]
    clear HF0
    go_wp2_with (first | (refine aH (by rfl) 46 _ (by rfl) (tpc tN) (by kernel_rfl) ?_) | (refine aC (by rfl) _ _ _ (by rfl) (by rfl) _ _ _ (by rfl) (by rfl) HO1.out.r (aB _) (aP _ _) (aG _) ?_))
    refine bodyPost_ret (v := .tuple #[.int .u32 (hi * 65536 + lo), .int .i64 4, .agg (tpc tN)]) (aM results27 _ _ (w.heap.size + 1) 46 _ (0, 0) _ _ _ (by rfl) (by rfl) (by rfl) (setRow_heap _ _ _ _ _ _ HO1.out.r) underlying46 (by rfl) (aB _)) rfl ⟨by rw [HF.out], L2, by rw [HF.out]; exact HP4.out.row HO1.out.n HO1.out.ge _⟩
  ·have hne : (n64 m1.old % 4 != 3) = true := by simpa using h3
   have HF : Hid (ft = ⟨n64 m1.old, 2, tN, m1.S⟩) := by unfold Hid; rw [HFT.out, FT2, HQ.out, if_neg (by decide), if_neg h3]
   clear HFT HPB HN1 HN2 hpc cpx
   generalize n64 m1.old = lo at *
   go_wp2_with (first | (refine aH (by rfl) 46 _ (by rfl) (tpc tN) (by kernel_rfl) ?_) | (refine aC (by rfl) _ _ _ (by rfl) (by rfl) _ _ _ (by rfl) (by rfl) HO1.out.r (aB _) (aP _ _) (aG _) ?_))
   refine bodyPost_ret (v := .tuple #[.int .u32 lo, .int .i64 2, .agg (tpc tN)]) (aM results27 _ _ (w.heap.size + 1) 46 _ (0, 0) _ _ _ (by rfl) (by rfl) (by rfl) (setRow_heap _ _ _ _ _ _ HO1.out.r) underlying46 (by rfl) (aB _)) rfl ⟨by rw [HF.out], L1, by rw [HF.out]; exact HP4.out.row HO1.out.n HO1.out.ge _⟩
end Go.Proofs.YtdpfjhacmlnklaaGreatDoor
