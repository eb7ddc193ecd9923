import Derived.Test.YtddlmenfcbjoaaaGreatDoorK38
namespace Go.Proofs.YtddlmenfcbjoaaaGreatDoor
set_option linter.unusedVariables false
set_option maxRecDepth 100000
set_option maxHeartbeats 8000000
open Go.MuLone Go.ChangeShapes Go.WideShapes Go.ChangeAt Go.RowKit Go.Deep _root_.Go.Proofs.Tryz
def iJ1 : Ins := ⟨4, 1, 5, 0, 0, false, false, 4, 0#32⟩
def iJ2 : Ins := ⟨4, 0, 1, 0, 0, false, false, 2, 0#32⟩
def iBr (op : Int) : Ins := ⟨op, 0, 6, 7, 64, false, false, 4, 0#32⟩
def cJ1 (P : Cp) (tg : BitVec 64) : Cp := { P with x := upd P.x 1 (P.pc + 4#64), pc := tg &&& ~~~1#64 }
def cJ2 (X : Cp) (q : BitVec 64) : Cp := { X with pc := q }
def dJ1 (P : Cp) : Dd := { dZ with rd := 1, v := P.pc + 4#64 }
def cBr (Y : Cp) (t : Bool) : Cp := { Y with pc := if t = true then Y.pc + 64#64 else Y.pc + 4#64 }
theorem iB0 : iB 0 = 0#64 := by decide
theorem dR_j1 (V : ZqZ) (S : St) (b : Nat) {P : Cp} (hp : PR P = P) : (dR V S b P iJ1).S = S ∧ dC (dR V S b P iJ1) P = cJ1 P (P.x 5) ∧ dD (dR V S b P iJ1) = dJ1 P := by
 have e := oW (V := V) (S := S) (b := b) (c := P) (i := iJ1) (N := 3) (by kernel_rfl) (by kernel_rfl)
 rw [hp] at e
 have e2 : rnK (aU V S (szK (wk0 b P iJ1) 3) (grI 3)) = rnK ⟨tN, S, { ptK (szK (wk0 b P iJ1) 3) (P.pc + iB 4) with nx := P.x 5 + iB 0 }⟩ := rfl
 have e3 : ptK (szK (wk0 b P iJ1) 3) (P.pc + iB 4) = { szK (wk0 b P iJ1) 3 with k := { P with x := upd P.x 1 (P.pc + iB 4) }, d := { dZ with rd := 1, v := P.pc + iB 4 } } := rfl
 rw [e, e2, e3]
 refine ⟨rfl, ?_, ?_⟩
 ·show ({ P with x := upd P.x 1 (P.pc + iB 4), pc := (P.x 5 + iB 0) &&& ~~~1#64 } : Cp) = cJ1 P (P.x 5)
  rw [iB0, BitVec.add_zero, show iB 4 = 4#64 by decide]; rfl
 ·show ({ dZ with rd := 1, v := P.pc + iB 4 } : Dd) = dJ1 P
  rw [show iB 4 = 4#64 by decide]; rfl
theorem dR_j2 (V : ZqZ) (S : St) (b : Nat) {X : Cp} (hp : PR X = X) {q : BitVec 64} (hq : X.x 1 = q) (he : q &&& ~~~1#64 = q) : (dR V S b X iJ2).S = S ∧ dC (dR V S b X iJ2) X = cJ2 X q ∧ dD (dR V S b X iJ2) = dZ := by
 have e := oW (V := V) (S := S) (b := b) (c := X) (i := iJ2) (N := 3) (by kernel_rfl) (by kernel_rfl)
 rw [hp] at e
 have e2 : rnK (aU V S (szK (wk0 b X iJ2) 3) (grI 3)) = rnK ⟨tN, S, { szK (wk0 b X iJ2) 3 with nx := X.x 1 + iB 0 }⟩ := rfl
 rw [e, e2]
 refine ⟨rfl, ?_, rfl⟩
 show ({ X with pc := (X.x 1 + iB 0) &&& ~~~1#64 } : Cp) = cJ2 X q
 rw [iB0, BitVec.add_zero, hq, he]; rfl
theorem VY {p : BitVec 64} (h : p &&& ~~~1#64 = p) : (p + iB 64) &&& ~~~1#64 = p + 64#64 := by
 have key : ∀ q : BitVec 64, q.toNat % 2 = 0 → q &&& ~~~1#64 = q := fun q hq => by
  apply BitVec.eq_of_getLsbD_eq
  intro i hi
  rw [BitVec.getLsbD_and, BitVec.getLsbD_not]
  by_cases e : i = 0
  ·subst e
   have : q.getLsbD 0 = false := by
    rw [BitVec.getLsbD, Nat.testBit_zero]; simp [hq]
   rw [this]; rfl
  ·have : (1#64).getLsbD i = false := by
    simp [BitVec.getLsbD_one, e]
   rw [this]; simp [hi]
 have h0 : p.getLsbD 0 = false := by rw [← h]; simp
 have hp : p.toNat % 2 = 0 := by
  rw [BitVec.getLsbD, Nat.testBit_zero] at h0
  simpa using h0
 rw [show iB 64 = 64#64 by decide]
 have := p.isLt
 apply key
 rw [BitVec.toNat_add]; simp only [ZqR]; omega
theorem WA : fmF (((5 : Nat)) : Int) = some 4 := by kernel_rfl
theorem WB : fmF (((6 : Nat)) : Int) = some 4 := by kernel_rfl
theorem WC : fmF (((7 : Nat)) : Int) = some 4 := by kernel_rfl
theorem WD : fmF (((8 : Nat)) : Int) = some 4 := by kernel_rfl
theorem WE : fmF (((9 : Nat)) : Int) = some 4 := by kernel_rfl
theorem OY : fmF (((10 : Nat)) : Int) = some 4 := by kernel_rfl
theorem WF {op : Int} (h : 5 ≤ op ∧ op ≤ 10) : fmF op = some 4 := by
 obtain ⟨k, rfl⟩ : ∃ k : Nat, op = (k : Int) := ⟨op.toNat, by omega⟩
 obtain ⟨h1, h2⟩ := h
 have : k = 5 ∨ k = 6 ∨ k = 7 ∨ k = 8 ∨ k = 9 ∨ k = 10 := by omega
 rcases this with rfl | rfl | rfl | rfl | rfl | rfl
 ·exact WA
 ·exact WB
 ·exact WC
 ·exact WD
 ·exact WE
 ·exact OY
theorem TG (V : ZqZ) (S : St) (b : Nat) {Y : Cp} (hp : PR Y = Y) {op : Int} (h : 5 ≤ op ∧ op ≤ 10) : (dR V S b Y (iBr op)).S = S ∧ dC (dR V S b Y (iBr op)) Y = cBr Y (tkB op (Y.x 6) (Y.x 7)) ∧ dD (dR V S b Y (iBr op)) = dZ := by
 have e := oW (V := V) (S := S) (b := b) (c := Y) (i := iBr op) (N := 4) (WF h) rfl
 rw [hp] at e
 have hev : Y.pc &&& ~~~1#64 = Y.pc := by have q := zK Y; rwa [hp] at q
 have e2 : rnK (aU V S (szK (wk0 b Y (iBr op)) 4) (grI 4)) = rnK ⟨tN, S, if tkB op (Y.x 6) (Y.x 7) = true then { szK (wk0 b Y (iBr op)) 4 with nx := Y.pc + iB 64 } else szK (wk0 b Y (iBr op)) 4⟩ := rfl
 rw [e, e2]
 cases ht : tkB op (Y.x 6) (Y.x 7) with
 | true =>
  rw [if_pos rfl]
  refine ⟨rfl, ?_, rfl⟩
  show ({ Y with pc := (Y.pc + iB 64) &&& ~~~1#64 } : Cp) = cBr Y true
  rw [VY hev]; rfl
 | false =>
  rw [if_neg (by simp)]
  refine ⟨rfl, ?_, rfl⟩
  show ({ Y with pc := (Y.pc + iB 4) &&& ~~~1#64 } : Cp) = cBr Y false
  rw [AE hev]; rfl
theorem ne644 (q : BitVec 64) : (n64 (q + 64#64) == n64 (q + 4#64)) = false ∧ (n64 (q + 4#64) == n64 (q + 64#64)) = false := by
 have h : q + 64#64 ≠ q + 4#64 := fun e => by
  have := congrArg (fun z => z - q) e
  simp [BitVec.add_comm q] at this
 exact ⟨by rw [beq_eq_false_iff_ne]; exact fun e => h (bV.1 e), by rw [beq_eq_false_iff_ne]; exact fun e => h (bV.1 e).symm⟩
theorem oJ {s : Int} (h0 : -9223372036854775808 ≤ s) (h1 : s ≤ 9223372036854775807) : IntKind.i64.wrap s = s := by
 unfold IntKind.wrap
 simp [IntKind.bits, IntKind.signed]
 omega
def opp (op : Int) : Int := if (op - 5) % 2 = 0 then op + 1 else op - 1
theorem RV {op : Int} (h : 5 ≤ op ∧ op ≤ 10) (x y : BitVec 64) : tkB (opp op) x y = !tkB op x y ∧ 5 ≤ opp op ∧ opp op ≤ 10 := by
 have : op = 5 ∨ op = 6 ∨ op = 7 ∨ op = 8 ∨ op = 9 ∨ op = 10 := by omega
 rcases this with rfl | rfl | rfl | rfl | rfl | rfl
 ·exact ⟨rfl, by decide, by decide⟩
 ·exact ⟨(Bool.not_not _).symm, by decide, by decide⟩
 ·exact ⟨rfl, by decide, by decide⟩
 ·exact ⟨(Bool.not_not _).symm, by decide, by decide⟩
 ·exact ⟨rfl, by decide, by decide⟩
 ·exact ⟨(Bool.not_not _).symm, by decide, by decide⟩
theorem calls_n (c : Cp) (op : Int) (tg a z : BitVec 64) (S : St) (ar ai ao : Option Addr) (cr ci co : Nat) (w : World) (hT : Tb w) (hok : S.ok = false) :
  Calls prog 3 #[.agg (cpc c), .agg (stc S (.slice ar S.ram.length cr) (.slice ai S.inp.length ci) (.slice ao S.out.length co)), .int .u64 (n64 tg), .int .i64 op, .int .u64 (n64 a), .int .u64 (n64 z)] w fun e w' => e = .returned (.bool true) ∧ Below w.heap.size w w' := by
 obtain ⟨W0, hW0, r0', r1', b0', -⟩ := cN w (cpc c) (stc S (.slice ar S.ram.length cr) (.slice ai S.inp.length ci) (.slice ao S.out.length co)) 31 35
 have HM := Hid.mk' (qF S ar ai ao cr ci co W0 hok)
 have HI : Hid ((prog.info? 35).map (·.size) = some (stc S (.slice ar S.ram.length cr) (.slice ai S.inp.length ci) (.slice ao S.out.length co)).size) := cJ _ _ _ _
 have HF : Hid (∀ W, Below w.heap.size w W → Calls prog 9 #[] W fun e w' => e = .returned (.bool true) ∧ Below W.heap.size W w') := fun W hb => gM W (hT.next hb)
 have HR1 := Hid.mk' r1'.out
 have b0 := Hid.mk' b0'.out
 clear r0' r1' hok hT b0'
 generalize (stc S (.slice ar S.ram.length cr) (.slice ai S.inp.length ci) (.slice ao S.out.length co)) = cs at HM HI HR1 hW0 ⊢
 generalize cpc c = cc at hW0 ⊢
 go_enter func3, ntmps3
 go_upto_region 1 with fail
 clear hW0
 go_wp2_with (first | (refine wpList_load_row (by rfl) _ _ (by rfl) _ (by rfl) 35 _ (0, 0) _ HR1.out underlying35 (by rfl) (HI.out) ?_) | (go_at_call 8; refine HM.out.mono ?_; rintro e w1 ⟨rfl, hb⟩; have HB := Hid.mk' (b0.out.trans (hb.mono b0.out.size)); clear hb) | (go_at_call 9; refine (HF.out _ HB.out).mono ?_; rintro e w2 ⟨rfl, hb⟩; have HB2 := Hid.mk' (HB.out.trans (hb.mono HB.out.size)); clear hb))
 go_ret
 exact ⟨rfl, HB2.out⟩
theorem calls_y (c : Cp) (op : Int) (tg a z : BitVec 64) (S : St) (ar ai ao : Option Addr) (cr ci co : Nat) (w : World) (hT : Tb w) (hok : S.ok = true) (hw : StW S) (hs : Bs S (.slice ar S.ram.length cr) (.slice ai S.inp.length ci) (.slice ao S.out.length co) w) (lr : S.ram.length ≤ 140737488355328) (li : S.inp.length ≤ 140737488355328) (lo : S.out.length ≤ 140737488355328) :
  Calls prog 3 #[.agg (cpc c), .agg (stc S (.slice ar S.ram.length cr) (.slice ai S.inp.length ci) (.slice ao S.out.length co)), .int .u64 (n64 tg), .int .i64 op, .int .u64 (n64 a), .int .u64 (n64 z)] w fun e w' => e = .returned (.bool true) ∧ Below w.heap.size w w' := by
 obtain ⟨V, hV⟩ := gZ
 obtain ⟨W0, hW0, r0', r1', b0', -⟩ := cN w (cpc c) (stc S (.slice ar S.ram.length cr) (.slice ai S.inp.length ci) (.slice ao S.out.length co)) 31 35
 have r0 := r0'.out
 have r1 := r1'.out
 have b0 := b0'.out
 clear r0' r1' b0'
 have HM : Hid (Calls prog 8 #[.agg (stc S (.slice ar S.ram.length cr) (.slice ai S.inp.length ci) (.slice ao S.out.length co))] W0 fun e w' => ∃ L, e = .returned (.tuple #[.pointer (some ⟨L.b, 0, none⟩), .bool true]) ∧ PB W0.heap.size L S w' ∧ Below W0.heap.size W0 w') := qG S ar ai ao cr ci co W0 hok (hs.later b0) lr li lo
 have HI : Hid ((prog.info? 35).map (·.size) = some (stc S (.slice ar S.ram.length cr) (.slice ai S.inp.length ci) (.slice ao S.out.length co)).size) := cJ _ _ _ _
 have HT0 : Hid (Tb W0) := hT.next b0
 have HF : Hid (∀ W, Tb W → Calls prog 9 #[] W fun e w' => e = .returned (.bool true) ∧ Below W.heap.size W w') := fun W h => gM W h
 have HSK : Hid (Sok S) := ⟨hok, hw⟩
 have HR0 := Hid.mk' r0
 have HR1 := Hid.mk' r1
 have HB0 := Hid.mk' b0
 have HV := hid hV
 have HPR : Hid (∀ W, Calls prog 10 #[.agg (cpc c)] W fun e w' => e = .returned (.agg (cpc (PR c))) ∧ Below W.heap.size W w') := fun W => jF c W
 clear r0 r1 hok hw hs lr li lo hT b0 hV
 have b0 := HB0
 generalize hcs : (stc S (.slice ar S.ram.length cr) (.slice ai S.inp.length ci) (.slice ao S.out.length co)) = cs at HM HI HR1 hW0 ⊢
 clear hcs
 have hzc := cC
 have hzd := fP
 go_enter func3, ntmps3
 go_upto_region 1 with fail
 clear hW0
 go_upto_region 6 with (first | (refine wpList_load_row (by rfl) _ _ (by rfl) _ (by rfl) 35 _ (0, 0) _ HR1.out underlying35 (by rfl) (HI.out) ?_) | (go_at_call 8; refine HM.out.mono ?_; rintro e w1 ⟨L, rfl, hp1, hb1⟩; have HK1 : Hid (Ky W0 L.b L S w1) := ⟨hp1, rfl, hb1⟩; clear hp1 hb1) | (go_at_call 9; refine (HF.out _ (HT0.out.next HK1.out.be)).mono ?_; rintro e w3 ⟨rfl, hb3⟩; have HK3 : Hid (Ky W0 L.b L S w3) := HK1.out.later hb3; clear hb3))
 clear HK1 HM HI HR1 HF
 have HX0 := Hid.mk' (HR0.out.later HK3.out.be HR0.out.lt)
 obtain ⟨P0, hP0⟩ : ∃ P0, P0 = PR c := ⟨_, rfl⟩
 have HP0 : Hid (PR P0 = P0) := by unfold Hid; rw [hP0]; exact fR c
 rw [← hP0] at HPR
 clear hP0
 generalize L.b = b at HK3 ⊢
 --@R6
 go_upto_region 7 with (first | (refine wpList_load_row (by rfl) _ _ (by rfl) _ (by rfl) 31 _ (0, 0) _ HX0.out underlying31 (by rfl) (aB _) ?_) | (go_at_call 10; refine (HPR.out _).mono ?_; rintro e w5 ⟨rfl, hb5⟩; have HB5 := hid hb5; clear hb5) | (refine bP (by rfl) 31 _ _ (by rfl) (by rfl) w5 (cpc cz) (cpc P0) (by rfl) (by rfl) (by rfl) (aB _) (by rw [aE, aE]) (aO _) ?_))
 refine bT (motive := fun W => Code.wp _ _ _ _ W) (Q := fun W => (Ky W0 b L S W) ∧ (Ks W0 L W w5.heap.size (cpc P0) 31)) ⟨(HK3.out.later HB5.out).later (aG _ _), Ks.new (HK3.out.later HB5.out) _ _⟩ ?_
 clear HK3 HB5 HX0 HPR
 generalize w5.heap.size = gp
 rintro W6 ⟨q0, q1⟩
 have HKX := hid q0
 have HRP := hid q1
 clear q0 q1

 obtain ⟨P, hP⟩ : ∃ P : Cp, P = { P0 with x := upd P0.x 5 tg } := ⟨_, rfl⟩
 have HPP : Hid (PR P = P) := by unfold Hid; rw [hP]; exact uR HP0.out (by decide) tg
 have HP5 : Hid (P.x 5 = tg) := by unfold Hid; rw [hP]; rfl
 have c5 : W6.cell? ⟨gp, 6, none⟩ = some (.int .u64 (n64 (P0.x 5))) := HRP.out.r.xj 5 (by decide)
 have f5 := HRP.out.r.froz 6
 --@R7
 go_upto_region 8 with fail
 refine bT (motive := fun W => Code.wp _ _ _ _ W) (Q := fun W => (Ky W0 b L S W) ∧ (Ks W0 L W gp (cpc P) 31)) ⟨HKX.out.lay HRP.out 6 [.int .u64 (n64 tg)], ⟨by rw [hP, ← pQ P0 5 (by decide) tg]; exact HRP.out.r.put _, HRP.out.n, HRP.out.ge⟩⟩ ?_
 clear HKX HRP c5 f5 hP HP0
 rintro W7 ⟨q0, q1⟩
 have HKX7 := hid q0
 have HRP7 := hid q1
 clear q0 q1

 have HKX := HKX7
 clear HKX7
 obtain ⟨X, hX⟩ : ∃ X, X = cJ1 P tg := ⟨_, rfl⟩
 have HD1 : Hid (∀ L1 W, Ky W0 b L1 S W → Calls prog 11 #[.agg (cpc P), .pointer (some ⟨b, 0, none⟩), .agg (inc iJ1)] W fun e w' => e = .returned (.tuple #[.agg (cpc X), .agg (dnc (dJ1 P))]) ∧ ∃ L', PSt W0.heap.size L1 W L' S w') := fun L1 W hk => by
  have q := sZ HT0.out HSK.out HV.out P iJ1 (by unfold I64; decide) hk
  obtain ⟨q1, q2, q3⟩ := dR_j1 (vA V) S b HPP.out
  rw [q1, q2, q3, HP5.out, ← hX] at q
  exact q

 have HXP : Hid (PR X = X) := by unfold Hid; rw [hX]; exact xD (uR HPP.out (by decide) (P.pc + 4#64)) tg
 have HXc : Hid (X.pc = tg &&& ~~~1#64 ∧ X.x 1 = P.pc + 4#64) := by unfold Hid; rw [hX]; exact ⟨rfl, rfl⟩
 have hev : P.pc &&& ~~~1#64 = P.pc := by have q := zK P; rwa [HPP.out] at q
 have hev4 : (P.pc + 4#64) &&& ~~~1#64 = P.pc + 4#64 := by have q := AE hev; rwa [show iB 4 = 4#64 by decide] at q
 obtain ⟨Y, hY⟩ : ∃ Y, Y = cJ2 X (P.pc + 4#64) := ⟨_, rfl⟩
 have HD2 : Hid (∀ L1 W, Ky W0 b L1 S W → Calls prog 11 #[.agg (cpc X), .pointer (some ⟨b, 0, none⟩), .agg (inc iJ2)] W fun e w' => e = .returned (.tuple #[.agg (cpc Y), .agg (dnc dZ)]) ∧ ∃ L', PSt W0.heap.size L1 W L' S w') := fun L1 W hk => by
  have q := sZ HT0.out HSK.out HV.out X iJ2 (by unfold I64; decide) hk
  obtain ⟨q1, q2, q3⟩ := dR_j2 (vA V) S b HXP.out HXc.out.2 hev4
  rw [q1, q2, q3, ← hY] at q
  exact q

 have HYP : Hid (PR Y = Y) := by
  unfold Hid
  have q := xD HXP.out (P.pc + 4#64)
  rw [hev4] at q
  rw [hY]; exact q
 have HYc : Hid (Y.pc = P.pc + 4#64 ∧ Y.x = X.x) := by unfold Hid; rw [hY]; exact ⟨rfl, rfl⟩
 clear hX hY hev hev4 HPP HP5 HXP
 have HX7 := Hid.mk' HRP7.out.r
 --@R8
 go_upto_region 9 with (first | (refine wpList_load_row (by rfl) _ _ (by rfl) _ (by rfl) 31 _ (0, 0) _ HX7.out underlying31 (by rfl) (aB _) ?_) | (refine aC (by rfl) 48 _ (by rfl) (inc iJ1) (by kernel_rfl) ?_) | (go_at_call 11; refine (HD1.out _ _ HKX.out).mono ?_; rintro e w5 ⟨rfl, L2, hp5⟩; have HP5 : Hid _ := hp5; clear hp5; have HRa := Hid.mk' (iD w5 (cpc cz) (dnc dZ) 31 44); have HRb := Hid.mk' (iE w5 (cpc cz) (cpc X) (dnc dZ) 31 44)) | (refine aA (by rfl) _ _ _ (by rfl) (by rfl) w5.heap.size _ _ (by rfl) (by rfl) HRa.out (aB _) (by rw [aE, aE]) (aO _) ?_) | (refine aA (by rfl) _ _ _ (by rfl) (by rfl) (w5.heap.size + 1) _ _ (by rfl) (by rfl) HRb.out (bE _) (eZ _ _) (dI _) ?_))
 refine bT (motive := fun W => Code.wp _ _ _ _ W) (Q := fun W => (Ky W0 b L2 S W) ∧ (Ks W0 L2 W w5.heap.size (cpc X) 31) ∧ (Ks W0 L2 W (w5.heap.size + 1) (dnc (dJ1 P)) 44) ∧ (Ks W0 L2 W gp (cpc P) 31) ∧ (gp < w5.heap.size)) ⟨(dF (HKX.out.step HP5.out) (cpc cz) (cpc X) (dnc dZ) (dnc (dJ1 P)) 31 44).1, (dF (HKX.out.step HP5.out) (cpc cz) (cpc X) (dnc dZ) (dnc (dJ1 P)) 31 44).2.1, (dF (HKX.out.step HP5.out) (cpc cz) (cpc X) (dnc dZ) (dnc (dJ1 P)) 31 44).2.2.1, (dF (HKX.out.step HP5.out) (cpc cz) (cpc X) (dnc dZ) (dnc (dJ1 P)) 31 44).2.2.2.1 _ _ _ (HRP7.out.step HP5.out), (HRP7.out.step HP5.out).r.lt⟩ ?_
 clear HKX HRP7 HP5 HRa HRb HX7 HD1
 generalize w5.heap.size = gx
 rintro W8 ⟨q0, q1, q2, q3, q4⟩
 have HKX8 := hid q0
 have HRX := hid q1
 have HRD := hid q2
 have HRP := hid q3
 have HNE := hid q4
 clear q0 q1 q2 q3 q4

 have HKX := HKX8
 clear HKX8
 have d0 : W8.cell? ⟨gx + 1, 0, none⟩ = some (.bool false) := HRD.out.r.cell 0
 have x0 : W8.cell? ⟨gx, 0, none⟩ = some (.int .u64 (n64 X.pc)) := HRX.out.r.cls.pc
 have x1 : W8.cell? ⟨gx, 2, none⟩ = some (.int .u64 (n64 (X.x 1))) := HRX.out.r.xj 1 (by decide)
 have p0 : W8.cell? ⟨gp, 0, none⟩ = some (.int .u64 (n64 P.pc)) := HRP.out.r.cls.pc
 rw [HXc.out.1] at x0
 rw [HXc.out.2] at x1
 have e1 : bits .andNot .u64 (n64 tg) 1 = n64 (tg &&& ~~~1#64) := eR _ 1#64
 have e4 : IntKind.u64.wrap (n64 P.pc + 4) = n64 (P.pc + 4#64) := dA P.pc 4#64
 --@R9
 go_upto_region 11 with fail
 clear d0 x0 x1 p0 e1
 have HXr := Hid.mk' HRX.out.r
 have HZ0 : Hid True := trivial
 --@R11
 go_upto_region 12 with (first | (refine wpList_load_row (by rfl) _ _ (by rfl) _ (by rfl) 31 _ (0, 0) _ HXr.out underlying31 (by rfl) (aB _) ?_) | (refine aC (by rfl) 48 _ (by rfl) (inc iJ2) (by kernel_rfl) ?_) | (go_at_call 11; refine (HD2.out _ _ HKX.out).mono ?_; rintro e w6 ⟨rfl, L3, hp6⟩; have HP6 := hid hp6; clear hp6; have HRa := Hid.mk' (Row.new w6 (cpc cz) 31); have HRb : Hid (Row ((w6.alloc (.cells (cpc cz) 31)).setRow w6.heap.size (cpc Y)) (gx + 1) (dnc (dJ1 P)) 44) := (setRow_other _ _ _ _ (by have := (HRD.out.step HP6.out).r.lt; omega)).trans (((HRD.out.step HP6.out).later (aG _ _)).r)) | (refine aA (by rfl) _ _ _ (by rfl) (by rfl) w6.heap.size _ _ (by rfl) (by rfl) HRa.out (aB _) (by rw [aE, aE]) (aO _) ?_) | (refine aA (by rfl) _ _ _ (by rfl) (by rfl) (gx + 1) _ _ (by rfl) (by rfl) HRb.out (bE _) (eZ _ _) (dI _) ?_))
 have HQ6 := Hid.mk' (HKX.out.step HP6.out)
 have HRd6 := Hid.mk' (HRD.out.step HP6.out)
 have HRx6 := Hid.mk' (HRX.out.step HP6.out)
 have HRp6 := Hid.mk' (HRP.out.step HP6.out)
 have HKn := Hid.mk' (Ks.new HQ6.out (cpc cz) 31)
 have hl1 := HRd6.out.r.lt
 have hl2 := HRp6.out.r.lt
 have hnn := HNE.out
 refine bT (motive := fun W => Code.wp _ _ _ _ W) (Q := fun W => (Ky W0 b L3 S W) ∧ (Ks W0 L3 W w6.heap.size (cpc Y) 31) ∧ (Ks W0 L3 W (gx + 1) (dnc dZ) 44) ∧ (Ks W0 L3 W gx (cpc X) 31) ∧ (Ks W0 L3 W gp (cpc P) 31)) ⟨((HQ6.out.later (aG _ _)).row HKn.out (cpc Y)).row ((HRd6.out.later (aG _ _)).far (show gx + 1 ≠ w6.heap.size by omega) _) (dnc dZ), (HKn.out.put _).far (show w6.heap.size ≠ gx + 1 by omega) _, ((HRd6.out.later (aG _ _)).far (show gx + 1 ≠ w6.heap.size by omega) _).put _, ((HRx6.out.later (aG _ _)).far (show gx ≠ w6.heap.size by omega) _).far (show gx ≠ gx + 1 by omega) _, ((HRp6.out.later (aG _ _)).far (show gp ≠ w6.heap.size by omega) _).far (show gp ≠ gx + 1 by omega) _⟩ ?_
 clear HKX HRX HRD HRP HP6 HRa HRb HD2 HXr HQ6 HRd6 HRx6 HRp6 HKn
 generalize w6.heap.size = gy
 rintro W11 ⟨q0, q1, q2, q3, q4⟩
 have HKX11 := hid q0
 have HRY := hid q1
 have HRD11 := hid q2
 have HRX11 := hid q3
 have HRP11 := hid q4
 clear q0 q1 q2 q3 q4

 clear hl1 hl2 hnn HNE
 have HKX := HKX11
 clear HKX11
 have d0 : W11.cell? ⟨gx + 1, 0, none⟩ = some (.bool false) := HRD11.out.r.cell 0
 have y0 : W11.cell? ⟨gy, 0, none⟩ = some (.int .u64 (n64 Y.pc)) := HRY.out.r.cls.pc
 have p0 : W11.cell? ⟨gp, 0, none⟩ = some (.int .u64 (n64 P.pc)) := HRP11.out.r.cls.pc
 rw [HYc.out.1] at y0
 have HXA : Hid (∀ j v, (gV X.x)[j]? = some v → W11.cell? ⟨gx, 1 + j, none⟩ = some v) := qR HRX11.out.r
 have HYA : Hid (∀ j v, (gV X.x)[j]? = some v → W11.cell? ⟨gy, 1 + j, none⟩ = some v) := by unfold Hid; rw [← HYc.out.2]; exact qR HRY.out.r
 --@R12
 go_upto_region 14 with (first | (refine jS (by rfl) 23 _ (by rfl) gy 1 (by rfl) (gV X.x) _ HYA.out underlying23 (by rfl) (lO _) ?_) | (refine jS (by rfl) 23 _ (by rfl) gx 1 (by rfl) (gV X.x) _ HXA.out underlying23 (by rfl) (lO _) ?_) | (refine iH (by rfl) 23 _ _ _ (by rfl) (gV X.x) (gV X.x) (by rfl) (by rfl) (OU _ _) (GQ _ _ _ _ _) ?_))
 clear d0 y0 p0 e4 HXA HYA HRD11 HRX11 HRP11 HXc HYc
 by_cases hout : op < 5 ∨ 10 < op
 ·by_cases q1 : op < 5
  ·go_wp2
   go_ret
   exact ⟨rfl, b0.out.trans (HKX.out.be.mono b0.out.size)⟩
  have q2 : 10 < op := by omega
  go_wp2
  go_ret
  exact ⟨rfl, b0.out.trans (HKX.out.be.mono b0.out.size)⟩
 have q1 : ¬ op < 5 := by omega
 have q2 : ¬ 10 < op := by omega
 have hop : 5 ≤ op ∧ op ≤ 10 := by omega
 clear hout
 have c6 : W11.cell? ⟨gy, 7, none⟩ = some (.int .u64 (n64 (Y.x 6))) := HRY.out.r.xj 6 (by decide)
 have f6 := HRY.out.r.froz 7
 --@R16
 go_upto_region 17 with fail
 refine bT (motive := fun W => Code.wp _ _ _ _ W) (Q := fun W => (Ky W0 b L3 S W) ∧ (Ks W0 L3 W gy (cpc { Y with x := upd Y.x 6 a }) 31)) ⟨HKX.out.lay HRY.out 7 [.int .u64 (n64 a)], ⟨by rw [← pQ Y 6 (by decide) a]; exact HRY.out.r.put _, HRY.out.n, HRY.out.ge⟩⟩ ?_
 clear HKX HRY c6 f6
 rintro W16 ⟨q0, q1⟩
 have HK16 := hid q0
 have HRY16 := hid q1
 clear q0 q1

 have c7 : W16.cell? ⟨gy, 8, none⟩ = some (.int .u64 (n64 (upd Y.x 6 a 7))) := HRY16.out.r.xj 7 (by decide)
 have f7 := HRY16.out.r.froz 8
 go_upto_region 18 with fail
 refine bT (motive := fun W => Code.wp _ _ _ _ W) (Q := fun W => (Ky W0 b L3 S W) ∧ (Ks W0 L3 W gy (cpc { Y with x := upd (upd Y.x 6 a) 7 z }) 31)) ⟨HK16.out.lay HRY16.out 8 [.int .u64 (n64 z)], ⟨by rw [← pQ ({ Y with x := upd Y.x 6 a } : Cp) 7 (by decide) z]; exact HRY16.out.r.put _, HRY16.out.n, HRY16.out.ge⟩⟩ ?_
 clear HK16 HRY16 c7 f7
 rintro W17 ⟨q0, q1⟩
 have HKX := hid q0
 have HRY := hid q1
 clear q0 q1

 obtain ⟨Z, hZ⟩ : ∃ Z : Cp, Z = { Y with x := upd (upd Y.x 6 a) 7 z } := ⟨_, rfl⟩
 have HZP : Hid (PR Z = Z) := by unfold Hid; rw [hZ]; exact uR (uR HYP.out (by decide) a) (by decide) z
 rw [← hZ] at HRY
 clear hZ HYP
 obtain ⟨ho1, ho2, ho3⟩ := RV hop (Z.x 6) (Z.x 7)
 obtain ⟨t, ht⟩ : ∃ t, t = tkB op (Z.x 6) (Z.x 7) := ⟨_, rfl⟩
 have HD3 : Hid (∀ L1 W, Ky W0 b L1 S W → Calls prog 11 #[.agg (cpc Z), .pointer (some ⟨b, 0, none⟩), .agg (inc (iBr op))] W fun e w' => e = .returned (.tuple #[.agg (cpc (cBr Z t)), .agg (dnc dZ)]) ∧ ∃ L', PSt W0.heap.size L1 W L' S w') := fun L1 W hk => by
  have q := sZ HT0.out HSK.out HV.out Z (iBr op) (show I64 64 by unfold I64; decide) hk
  obtain ⟨q1, q2, q3⟩ := TG (vA V) S b HZP.out hop
  rw [q1, q2, q3, ← ht] at q
  exact q

 have HD4 : Hid (∀ L1 W, Ky W0 b L1 S W → Calls prog 11 #[.agg (cpc Z), .pointer (some ⟨b, 0, none⟩), .agg (inc (iBr (opp op)))] W fun e w' => e = .returned (.tuple #[.agg (cpc (cBr Z (!t))), .agg (dnc dZ)]) ∧ ∃ L', PSt W0.heap.size L1 W L' S w') := fun L1 W hk => by
  have q := sZ HT0.out HSK.out HV.out Z (iBr (opp op)) (show I64 64 by unfold I64; decide) hk
  obtain ⟨q1, q2, q3⟩ := TG (vA V) S b HZP.out ⟨ho2, ho3⟩
  rw [q1, q2, q3, ho1, ← ht] at q
  exact q

 clear ho1 ho2 ho3 ht HZP HV
 obtain ⟨oo, hoo⟩ : ∃ oo, oo = opp op := ⟨_, rfl⟩
 rw [← hoo] at HD4
 --@R18
 go_upto_region 19 with fail
 obtain ⟨tt, htt⟩ : ∃ tt, tt = decide ((op - 5) % 2 = 0) := ⟨_, rfl⟩
 have HOO : Hid ((tt = true → oo = op + 1) ∧ (tt = false → oo = op - 1)) := by
  unfold Hid
  rw [htt, hoo]
  unfold opp
  constructor
  ·intro h; rw [if_pos (of_decide_eq_true h)]
  ·intro h; rw [if_neg (of_decide_eq_false h)]
 have w1 : IntKind.i64.wrap (op + 1) = op + 1 := oJ (by omega) (by omega)
 have w2 : IntKind.i64.wrap (op - 1) = op - 1 := oJ (by omega) (by omega)
 clear hoo
 go_cut [115] from 112 to 114 (fun v wx => v = .bool tt ∧ wx = W17)
 case first =>
  have h6 : op = 5 ∨ op = 6 ∨ op = 7 ∨ op = 8 ∨ op = 9 ∨ op = 10 := by omega
  clear HD3 HD4 HOO w1 w2
  rcases h6 with rfl | rfl | rfl | rfl | rfl | rfl
  ·have HTT : Hid (tt = true) := by unfold Hid; rw [htt]; decide
   clear q1 q2 hop htt
   go_wp2
   go_meet
   exact ⟨by rw [HTT.out], rfl⟩
  ·have HTT : Hid (tt = false) := by unfold Hid; rw [htt]; decide
   clear q1 q2 hop htt
   go_wp2
   go_meet
   exact ⟨by rw [HTT.out], rfl⟩
  ·have HTT : Hid (tt = true) := by unfold Hid; rw [htt]; decide
   clear q1 q2 hop htt
   go_wp2
   go_meet
   exact ⟨by rw [HTT.out], rfl⟩
  ·have HTT : Hid (tt = false) := by unfold Hid; rw [htt]; decide
   clear q1 q2 hop htt
   go_wp2
   go_meet
   exact ⟨by rw [HTT.out], rfl⟩
  ·have HTT : Hid (tt = true) := by unfold Hid; rw [htt]; decide
   clear q1 q2 hop htt
   go_wp2
   go_meet
   exact ⟨by rw [HTT.out], rfl⟩
  ·have HTT : Hid (tt = false) := by unfold Hid; rw [htt]; decide
   clear q1 q2 hop htt
   go_wp2
   go_meet
   exact ⟨by rw [HTT.out], rfl⟩
 case rest =>
  obtain ⟨rfl, hwc⟩ := hcut
  have hwc2 := hwc.symm
  subst hwc2
  clear htt
  go_upto_if 115 with fail
  go_cut [19] from 116 to 117 (fun v wx => v = .int .i64 oo ∧ wx = W17)
  case first =>
   cases tt with
   | true =>
    have HO1 := Hid.mk' (HOO.out.1 rfl)
    clear HD3 HD4 HOO q1 q2 hop
    go_wp2
    go_meet
    exact ⟨by rw [HO1.out], rfl⟩
   | false =>
    have HO1 := Hid.mk' (HOO.out.2 rfl)
    clear HD3 HD4 HOO q1 q2 hop
    go_wp2
    go_meet
    exact ⟨by rw [HO1.out], rfl⟩
  case rest =>
   obtain ⟨rfl, hwc⟩ := hcut
   have hwc2 := hwc.symm
   subst hwc2
   clear w1 w2 HOO
   have HYr := Hid.mk' HRY.out.r
   --@R21
   go_upto_region 22 with (first | (refine wpList_load_row (by rfl) _ _ (by rfl) _ (by rfl) 31 _ (0, 0) _ HYr.out underlying31 (by rfl) (aB _) ?_) | (refine aC (by rfl) 48 _ (by rfl) (inc (iBr op)) (by kernel_rfl) ?_) | (go_at_call 11; refine (HD3.out _ _ HKX.out).mono ?_; rintro e w5 ⟨rfl, L4, hp5⟩; have HP5 : Hid _ := hp5; clear hp5; have HRa := Hid.mk' (iD w5 (cpc cz) (dnc dZ) 31 44); have HRb := Hid.mk' (iE w5 (cpc cz) (cpc (cBr Z t)) (dnc dZ) 31 44)) | (refine aA (by rfl) _ _ _ (by rfl) (by rfl) w5.heap.size _ _ (by rfl) (by rfl) HRa.out (aB _) (by rw [aE, aE]) (aO _) ?_) | (refine aA (by rfl) _ _ _ (by rfl) (by rfl) (w5.heap.size + 1) _ _ (by rfl) (by rfl) HRb.out (bE _) (eZ _ _) (dI _) ?_))
   refine bT (motive := fun W => Code.wp _ _ _ _ W) (Q := fun W => (Ky W0 b L4 S W) ∧ (Ks W0 L4 W w5.heap.size (cpc (cBr Z t)) 31) ∧ (Ks W0 L4 W (w5.heap.size + 1) (dnc dZ) 44) ∧ (Ks W0 L4 W gy (cpc Z) 31)) ⟨(dF (HKX.out.step HP5.out) (cpc cz) (cpc (cBr Z t)) (dnc dZ) (dnc dZ) 31 44).1, (dF (HKX.out.step HP5.out) (cpc cz) (cpc (cBr Z t)) (dnc dZ) (dnc dZ) 31 44).2.1, (dF (HKX.out.step HP5.out) (cpc cz) (cpc (cBr Z t)) (dnc dZ) (dnc dZ) 31 44).2.2.1, (dF (HKX.out.step HP5.out) (cpc cz) (cpc (cBr Z t)) (dnc dZ) (dnc dZ) 31 44).2.2.2.1 _ _ _ (HRY.out.step HP5.out)⟩ ?_
   clear HKX HRY HP5 HRa HRb HYr HD3
   generalize w5.heap.size = gu
   rintro W21 ⟨q0, q1, q2, q3⟩
   have HKX8 := hid q0
   have HRU := hid q1
   have HRE := hid q2
   have HRY8 := hid q3
   clear q0 q1 q2 q3

   have HKX := HKX8
   have HRY := HRY8
   clear HKX8 HRY8
   have HYr := Hid.mk' HRY.out.r
   go_upto_region 23 with (first | (refine wpList_load_row (by rfl) _ _ (by rfl) _ (by rfl) 31 _ (0, 0) _ HYr.out underlying31 (by rfl) (aB _) ?_) | (refine aC (by rfl) 48 _ (by rfl) (inc (iBr oo)) (by kernel_rfl) ?_) | (go_at_call 11; refine (HD4.out _ _ HKX.out).mono ?_; rintro e w5 ⟨rfl, L5, hp5⟩; have HP5 : Hid _ := hp5; clear hp5; have HRa := Hid.mk' (iD w5 (cpc cz) (dnc dZ) 31 44); have HRb := Hid.mk' (iE w5 (cpc cz) (cpc (cBr Z (!t))) (dnc dZ) 31 44)) | (refine aA (by rfl) _ _ _ (by rfl) (by rfl) w5.heap.size _ _ (by rfl) (by rfl) HRa.out (aB _) (by rw [aE, aE]) (aO _) ?_) | (refine aA (by rfl) _ _ _ (by rfl) (by rfl) (w5.heap.size + 1) _ _ (by rfl) (by rfl) HRb.out (bE _) (eZ _ _) (dI _) ?_))
   refine bT (motive := fun W => Code.wp _ _ _ _ W) (Q := fun W => (Ky W0 b L5 S W) ∧ (Ks W0 L5 W w5.heap.size (cpc (cBr Z (!t))) 31) ∧ (Ks W0 L5 W (w5.heap.size + 1) (dnc dZ) 44) ∧ (Ks W0 L5 W gy (cpc Z) 31) ∧ (Ks W0 L5 W gu (cpc (cBr Z t)) 31) ∧ (Ks W0 L5 W (gu + 1) (dnc dZ) 44)) ⟨(dF (HKX.out.step HP5.out) (cpc cz) (cpc (cBr Z (!t))) (dnc dZ) (dnc dZ) 31 44).1, (dF (HKX.out.step HP5.out) (cpc cz) (cpc (cBr Z (!t))) (dnc dZ) (dnc dZ) 31 44).2.1, (dF (HKX.out.step HP5.out) (cpc cz) (cpc (cBr Z (!t))) (dnc dZ) (dnc dZ) 31 44).2.2.1, (dF (HKX.out.step HP5.out) (cpc cz) (cpc (cBr Z (!t))) (dnc dZ) (dnc dZ) 31 44).2.2.2.1 _ _ _ (HRY.out.step HP5.out), (dF (HKX.out.step HP5.out) (cpc cz) (cpc (cBr Z (!t))) (dnc dZ) (dnc dZ) 31 44).2.2.2.1 _ _ _ (HRU.out.step HP5.out), (dF (HKX.out.step HP5.out) (cpc cz) (cpc (cBr Z (!t))) (dnc dZ) (dnc dZ) 31 44).2.2.2.1 _ _ _ (HRE.out.step HP5.out)⟩ ?_
   clear HKX HRY HRU HRE HP5 HRa HRb HYr HD4
   generalize w5.heap.size = gv
   rintro W22 ⟨q0, q1, q2, q3, q4, q5⟩
   have HKX8 := hid q0
   have HRV := hid q1
   have HRF := hid q2
   have HRY8 := hid q3
   have HRU8 := hid q4
   have HRE8 := hid q5
   clear q0 q1 q2 q3 q4 q5

   have u0 : W22.cell? ⟨gu, 0, none⟩ = some (.int .u64 (n64 (cBr Z t).pc)) := HRU8.out.r.cls.pc
   have v0 : W22.cell? ⟨gv, 0, none⟩ = some (.int .u64 (n64 (cBr Z (!t)).pc)) := HRV.out.r.cls.pc
   have y0 : W22.cell? ⟨gy, 0, none⟩ = some (.int .u64 (n64 Z.pc)) := HRY8.out.r.cls.pc
   have e4 : IntKind.u64.wrap (n64 Z.pc + 4) = n64 (Z.pc + 4#64) := dA Z.pc 4#64
   have e64 : IntKind.u64.wrap (n64 Z.pc + 64) = n64 (Z.pc + 64#64) := dA Z.pc 64#64
   obtain ⟨n1, n2⟩ := ne644 Z.pc
   have HE := Hid.mk' HRE8.out.r
   have HFf := Hid.mk' HRF.out.r
   have HBE := Hid.mk' (b0.out.trans (HKX8.out.be.mono b0.out.size))
   clear HRU8 HRV HRY8 HRE8 HRF HKX8
   --@R23
   cases t with
   | true =>
    have u1 : (cBr Z true).pc = Z.pc + 64#64 := rfl
    have v1 : (cBr Z (!true)).pc = Z.pc + 4#64 := rfl
    rw [u1] at u0
    rw [v1] at v0
    clear u1 v1
    generalize n64 (Z.pc + 64#64) = m64 at u0 e64 n1 n2
    generalize n64 (Z.pc + 4#64) = m4 at v0 e4 n1 n2
    go_upto_region 25 with fail
    go_wp2_with (first | (refine wpList_load_row (by rfl) _ _ (by rfl) (gu + 1) (by rfl) 44 _ (0, 0) _ HE.out underlying44 (by rfl) (bE _) ?_) | (refine bA (by rfl) _ _ (by rfl) (gv + 1) (by rfl) 44 _ (0, 0) _ HFf.out underlying44 (by rfl) (bE _) ?_) | (refine eO (by rfl) 44 _ (by rfl) (dnc dZ) (by kernel_rfl) ?_) | (refine bO (by rfl) 44 _ _ _ (by rfl) (dnc dZ) (dnc dZ) (by rfl) (by rfl) (fG _ _) (fC _ _ _ _ _) ?_))
    go_ret
    exact ⟨rfl, HBE.out⟩
   | false =>
    have u1 : (cBr Z false).pc = Z.pc + 4#64 := rfl
    have v1 : (cBr Z (!false)).pc = Z.pc + 64#64 := rfl
    rw [u1] at u0
    rw [v1] at v0
    clear u1 v1
    generalize n64 (Z.pc + 64#64) = m64 at v0 e64 n1 n2
    generalize n64 (Z.pc + 4#64) = m4 at u0 e4 n1 n2
    go_upto_region 25 with fail
    go_wp2_with (first | (refine wpList_load_row (by rfl) _ _ (by rfl) (gu + 1) (by rfl) 44 _ (0, 0) _ HE.out underlying44 (by rfl) (bE _) ?_) | (refine bA (by rfl) _ _ (by rfl) (gv + 1) (by rfl) 44 _ (0, 0) _ HFf.out underlying44 (by rfl) (bE _) ?_) | (refine eO (by rfl) 44 _ (by rfl) (dnc dZ) (by kernel_rfl) ?_) | (refine bO (by rfl) 44 _ _ _ (by rfl) (dnc dZ) (dnc dZ) (by rfl) (by rfl) (fG _ _) (fC _ _ _ _ _) ?_))
    go_ret
    exact ⟨rfl, HBE.out⟩
end Go.Proofs.YtddlmenfcbjoaaaGreatDoor
