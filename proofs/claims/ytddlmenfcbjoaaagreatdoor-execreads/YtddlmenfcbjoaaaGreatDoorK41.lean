import Derived.Test.YtddlmenfcbjoaaaGreatDoorK38
namespace Go.Proofs.YtddlmenfcbjoaaaGreatDoor
set_option linter.unusedVariables false
set_option maxRecDepth 100000
set_option maxHeartbeats 8000000
open Go.MuLone Go.ChangeShapes Go.WideShapes Go.ChangeAt Go.RowKit Go.Deep _root_.Go.Proofs.Tryz
def iR (op rd n : Int) (raw : BitVec 32) : Ins := ⟨op, rd, 0, 0, n, false, false, 4, raw⟩
def rdC (P : Cp) (rd : Int) (v : BitVec 64) : Cp := { P with pc := P.pc + 4#64, x := if rd = 0 then P.x else upd P.x rd.toNat v }
def rdD (rd : Int) (v : BitVec 64) : Dd := if rd = 0 then dZ else { dZ with rd := rd, v := v }
theorem GK (V : ZqZ) (S : St) (b : Nat) (c : Cp) {op rd : Int} (n : Int) (raw : BitVec 32) (hop : op = 57 ∨ op = 58 ∨ op = 60 ∨ op = 61) (hrd : 0 ≤ rd ∧ rd < 32) :
  (dR V S b c (iR op rd n raw)).S = S ∧ (RK (PR c) n = true → dC (dR V S b c (iR op rd n raw)) c = rdC (PR c) rd (rV S (PR c) n) ∧ dD (dR V S b c (iR op rd n raw)) = rdD rd (rV S (PR c) n)) ∧ (RK (PR c) n = false → dC (dR V S b c (iR op rd n raw)) c = PR c ∧ dD (dR V S b c (iR op rd n raw)) = dT (tS 2 (rB raw))) := by
 have ft : ftB (iR op rd n raw) = true := by
  show (rgB rd && rgB 0 && rgB 0 && (decide ((4 : Int) = 2) || decide ((4 : Int) = 4))) = true
  simp [rgB, hrd.1, hrd.2]
 have hb : ∃ N, fmF op = some N ∧ (grI N = 16 ∨ grI N = 17) := by
  rcases hop with rfl | rfl | rfl | rfl
  ·exact ⟨24, by kernel_rfl, .inl rfl⟩
  ·exact ⟨25, by kernel_rfl, .inr rfl⟩
  ·exact ⟨27, by kernel_rfl, .inl rfl⟩
  ·exact ⟨28, by kernel_rfl, .inr rfl⟩
 obtain ⟨N, hf, hg⟩ := hb
 have e := oW (V := V) (S := S) (b := b) (c := c) (i := iR op rd n raw) hf ft
 have hy : RK (PR c) n = true → aU V S (szK (wk0 b (PR c) (iR op rd n raw)) N) (grI N) = ⟨tN, S, ptK (szK (wk0 b (PR c) (iR op rd n raw)) N) (rV S (PR c) n)⟩ := fun hk => by
  rcases hg with e | e <;> rw [e]
  ·show (if RK (PR c) n = true then (if (0 : Int) = 0 then _ else _) else _) = _
   rw [if_pos hk, if_pos rfl]; rfl
  ·show (if RK (PR c) n = true then (if (0 : Int) = 0 then _ else _) else _) = _
   rw [if_pos hk, if_pos rfl]; rfl
 have hn : RK (PR c) n = false → aU V S (szK (wk0 b (PR c) (iR op rd n raw)) N) (grI N) = ⟨tS 2 (rB raw), S, szK (wk0 b (PR c) (iR op rd n raw)) N⟩ := fun hk => by
  rcases hg with e | e <;> rw [e]
  ·show (if RK (PR c) n = true then _ else _) = _
   rw [if_neg (by rw [hk]; simp)]; rfl
  ·show (if RK (PR c) n = true then _ else _) = _
   rw [if_neg (by rw [hk]; simp)]; rfl
 have hS : (dR V S b c (iR op rd n raw)).S = S := by
  rw [e]
  cases hk : RK (PR c) n with
  | true => rw [hy hk]; rfl
  | false => rw [hn hk]; rfl
 refine ⟨hS, fun hk => ?_, fun hk => ?_⟩
 ·rw [e, hy hk]
  by_cases h0 : rd = 0
  ·have ep : ptK (szK (wk0 b (PR c) (iR op rd n raw)) N) (rV S (PR c) n) = szK (wk0 b (PR c) (iR op rd n raw)) N := by unfold ptK; rw [if_pos (show (szK (wk0 b (PR c) (iR op rd n raw)) N).i.rd = 0 from h0)]
   rw [ep]
   constructor
   ·show ({ PR c with pc := ((PR c).pc + iB 4) &&& ~~~1#64 } : Cp) = rdC (PR c) rd (rV S (PR c) n)
    unfold rdC
    rw [AE (zK c), if_pos h0]
   ·show dZ = rdD rd _
    unfold rdD; rw [if_pos h0]
  ·have ep : ptK (szK (wk0 b (PR c) (iR op rd n raw)) N) (rV S (PR c) n) = { szK (wk0 b (PR c) (iR op rd n raw)) N with k := { PR c with x := upd (PR c).x rd.toNat (rV S (PR c) n) }, d := { dZ with rd := rd, v := rV S (PR c) n } } := by unfold ptK; rw [if_neg (show ¬ (szK (wk0 b (PR c) (iR op rd n raw)) N).i.rd = 0 from h0)]; rfl
   rw [ep]
   constructor
   ·show ({ PR c with x := upd (PR c).x rd.toNat (rV S (PR c) n), pc := ((PR c).pc + iB 4) &&& ~~~1#64 } : Cp) = rdC (PR c) rd (rV S (PR c) n)
    unfold rdC
    rw [AE (zK c), if_neg h0]
   ·show ({ dZ with rd := rd, v := rV S (PR c) n } : Dd) = rdD rd _
    unfold rdD; rw [if_neg h0]
 ·rw [e, hn hk]; exact ⟨rfl, rfl⟩
structure Jk (w0 : World) (b : Nat) (L1 : Lay) (w1 : World) (S T : St) (L : Lay) (bb : Bool) (w : World) : Prop where
 k : Ky w0 b L (if bb then T else S) w
 f : Fr L1 w1 L w
theorem Ks.fr {w0 : World} {L1 L : Lay} {w1 w : World} {g : Nat} {cs : Array Value} {t : TypeId} (h : Ks w0 L1 w1 g cs t) (f : Fr L1 w1 L w) : Ks w0 L w g cs t := ⟨(f.bl g h.r.lt h.n).trans h.r, fun e => by rcases f.ow g e with q | q; exact h.n q; have := h.r.lt; omega, h.ge⟩
theorem Sb.fr {L1 L : Lay} {w1 w : World} {N : Nat} {S : St} {vr vi vo : Value} (h : Sb L1 N S vr vi vo w1) (f : Fr L1 w1 L w) : Sb L N S vr vi vo w :=
 ⟨h.keeps f.sz (fun g hg ho => f.bl g (ZqS hg h.l) ho), fun v hv g off n c e => ⟨fun ho => by
  rcases f.ow g ho with q | q
  ·exact (h.n v hv g off n c e).1 q
  ·have := (h.n v hv g off n c e).2; have := h.l; omega, (h.n v hv g off n c e).2⟩, ZqO h.l f.sz⟩
section
variable {w0 w1 w : World} {b : Nat} {L1 L : Lay} {S T : St} {bb : Bool}
theorem Jk.later (h : Jk w0 b L1 w1 S T L bb w) {w' : World} (hb : Below w.heap.size w w') : Jk w0 b L1 w1 S T L bb w' := ⟨h.k.later hb, ZqO h.f.sz hb.size, fun g h1 h2 => (hb.block g (ZqS h1 h.f.sz)).trans (h.f.bl g h1 h2), h.f.ow⟩
theorem Jk.put (hx : w0.heap.size ≤ w1.heap.size) (h : Jk w0 b L1 w1 S T L bb w) {q : Nat} (hq : ¬ L.own q) (hb : w1.heap.size ≤ q) (cs : Array Value) : Jk w0 b L1 w1 S T L bb (w.setRow q cs) :=
 ⟨⟨h.k.p.exo (G := fun j => j = q) ⟨rfl, rfl, rfl, by simp, fun j hj hne => setRow_other _ _ _ _ hne⟩ (fun j hj e => hq (e ▸ hj)), h.k.e, aW h.k.be (ZqO hx hb) _⟩, by rw [size_setRow]; exact h.f.sz, fun g h1 h2 => (setRow_other _ _ _ _ (by omega)).trans (h.f.bl g h1 h2), h.f.ow⟩
theorem Jk.own (h : Jk w0 b L1 w1 S T L bb w) {q : Nat} (hq : L.own q) : q < w.heap.size := h.k.p.own_hi _ hq
theorem Jk.call (h : Jk w0 b L1 w1 S T L false w) {L' : Lay} {w' : World} (hp : PSt w0.heap.size L w L' T w') : Jk w0 b L1 w1 S T L' true w' ∧ Fr L w L' w' :=
 ⟨⟨h.k.step hp, ZqO h.f.sz hp.x.size, fun g h1 h2 => (hp.x.block g (ZqS h1 h.f.sz) (fun e => by rcases h.f.ow g e with q | q; exact h2 q; omega)).trans (h.f.bl g h1 h2), fun g e => by
  rcases hp.o g e with q | q
  ·exact h.f.ow g q
  ·right; have := h.f.sz; omega⟩, .of_pst hp⟩
end
theorem Fr.refl' (L : Lay) (w : World) : Fr L w L w.drew := ⟨ZqE _, fun _ _ _ => rfl, fun _ h => .inl h⟩
theorem CF {P : Program} {o : Oper} {ρ : Operand → Value} (t : TypeId) (parts : Array (Nat × Operand)) (ho : o.op = .build t parts) (cells : Array Value) (hc : P.built t (parts.map fun (i, x) => (i, ρ x)).toList = some cells) (w9 : World) : (execOp ρ o).run P w9 = .ok (.value (.agg cells)) w9 := by
 unfold execOp
 simp only [ho, Sem.run_bind, run_build w9 t _ cells hc, Result.andThen_ok]
 rfl
theorem FE (op rd n : Int) (raw : BitVec 32) : prog.built 48 [(0, .int .i64 op), (1, .int .i64 rd), (4, .int .i64 n), (7, .int .i64 4), (8, .int .u32 (n32 raw))] = some (inc (iR op rd n raw)) := by kernel_rfl
theorem reads_n (c : Cp) (which rd n : Int) (raw : BitVec 32) (S : St) (ar ai ao : Option Addr) (cr ci co : Nat) (w : World) (hT : Tb w) (hok : S.ok = false) :
  Calls prog 5 #[.agg (cpc c), .agg (stc S (.slice ar S.ram.length cr) (.slice ai S.inp.length ci) (.slice ao S.out.length co)), .int .i64 which, .int .i64 rd, .int .i64 n, .int .u32 (n32 raw)] w fun e w' => e = .returned (.bool true) ∧ Below w.heap.size w w' := by
 obtain ⟨W0, hW0, r0', r1', b0', -⟩ := cN w (cpc c) (stc S (.slice ar S.ram.length cr) (.slice ai S.inp.length ci) (.slice ao S.out.length co)) 31 35
 have HM := Hid.mk' (qF S ar ai ao cr ci co W0 hok)
 have HI : Hid ((prog.info? 35).map (·.size) = some (stc S (.slice ar S.ram.length cr) (.slice ai S.inp.length ci) (.slice ao S.out.length co)).size) := cJ _ _ _ _
 have HF : Hid (∀ W, Below w.heap.size w W → Calls prog 9 #[] W fun e w' => e = .returned (.bool true) ∧ Below W.heap.size W w') := fun W hb => gM W (hT.next hb)
 have HR1 := Hid.mk' r1'.out
 have b0 := Hid.mk' b0'.out
 clear r0' r1' hok hT b0'
 generalize (stc S (.slice ar S.ram.length cr) (.slice ai S.inp.length ci) (.slice ao S.out.length co)) = cs at HM HI HR1 hW0 ⊢
 generalize cpc c = cc at hW0 ⊢
 go_enter func5, ntmps5
 go_upto_region 1 with fail
 clear hW0
 go_wp2_with (first | (refine wpList_load_row (by rfl) _ _ (by rfl) _ (by rfl) 35 _ (0, 0) _ HR1.out underlying35 (by rfl) (HI.out) ?_) | (go_at_call 8; refine HM.out.mono ?_; rintro e w1 ⟨rfl, hb⟩; have HB := Hid.mk' (b0.out.trans (hb.mono b0.out.size)); clear hb) | (go_at_call 9; refine (HF.out _ HB.out).mono ?_; rintro e w2 ⟨rfl, hb⟩; have HB2 := Hid.mk' (HB.out.trans (hb.mono HB.out.size)); clear hb))
 go_ret
 exact ⟨rfl, HB2.out.alloc HB2.out.size _⟩
theorem reads_y (c : Cp) (which rd n : Int) (raw : BitVec 32) (S : St) (ar ai ao : Option Addr) (cr ci co : Nat) (w : World) (hT : Tb w) (him : I64 n) (hok : S.ok = true) (hw : StW S) (hs : Bs S (.slice ar S.ram.length cr) (.slice ai S.inp.length ci) (.slice ao S.out.length co) w) (lr : S.ram.length ≤ 140737488355328) (li : S.inp.length ≤ 140737488355328) (lo : S.out.length ≤ 140737488355328) :
  Calls prog 5 #[.agg (cpc c), .agg (stc S (.slice ar S.ram.length cr) (.slice ai S.inp.length ci) (.slice ao S.out.length co)), .int .i64 which, .int .i64 rd, .int .i64 n, .int .u32 (n32 raw)] w fun e w' => e = .returned (.bool true) ∧ Below w.heap.size w w' := by
 obtain ⟨V, hV⟩ := gZ
 obtain ⟨W0, hW0, r0', r1', b0', -⟩ := cN w (cpc c) (stc S (.slice ar S.ram.length cr) (.slice ai S.inp.length ci) (.slice ao S.out.length co)) 31 35
 have r0 := r0'.out
 have r1 := r1'.out
 have b0 := b0'.out
 clear r0' r1' b0'
 have HM : Hid (Calls prog 8 #[.agg (stc S (.slice ar S.ram.length cr) (.slice ai S.inp.length ci) (.slice ao S.out.length co))] W0 fun e w' => ∃ L, e = .returned (.tuple #[.pointer (some ⟨L.b, 0, none⟩), .bool true]) ∧ PB W0.heap.size L S w' ∧ Below W0.heap.size W0 w') := qG S ar ai ao cr ci co W0 hok (hs.later b0) lr li lo
 have HI : Hid ((prog.info? 35).map (·.size) = some (stc S (.slice ar S.ram.length cr) (.slice ai S.inp.length ci) (.slice ao S.out.length co)).size) := cJ _ _ _ _
 have HT0 : Hid (Tb W0) := hT.next b0
 have HF : Hid (∀ W, Tb W → Calls prog 9 #[] W fun e w' => e = .returned (.bool true) ∧ Below W.heap.size W w') := fun W h => gM W h
 have HSK : Hid (Sok S) := ⟨hok, hw⟩
 have HR0 := Hid.mk' r0
 have HR1 := Hid.mk' r1
 have HB0 := Hid.mk' b0
 have HIM := hid him
 have HV := hid hV
 have HPR : Hid (∀ W, Calls prog 10 #[.agg (cpc c)] W fun e w' => e = .returned (.agg (cpc (PR c))) ∧ Below W.heap.size W w') := fun W => jF c W
 have HRW : Hid (IntKind.u64.wrap (n32 raw) = n64 (rB raw)) := yO raw
 clear r0 r1 hok hw hs lr li lo hT b0 him hV
 have b0 := HB0
 generalize hcs : (stc S (.slice ar S.ram.length cr) (.slice ai S.inp.length ci) (.slice ao S.out.length co)) = cs at HM HI HR1 hW0 ⊢
 clear hcs
 have hzc := cC
 have hzd := fP
 have hzb := nV
 have hzt := bU
 go_enter func5, ntmps5
 go_upto_region 1 with fail
 clear hW0
 go_upto_region 4 with (first | (refine wpList_load_row (by rfl) _ _ (by rfl) _ (by rfl) 35 _ (0, 0) _ HR1.out underlying35 (by rfl) (HI.out) ?_) | (go_at_call 8; refine HM.out.mono ?_; rintro e w1 ⟨L, rfl, hp1, hb1⟩; have HK1 : Hid (Ky W0 L.b L S w1) := ⟨hp1, rfl, hb1⟩; clear hp1 hb1) | (go_at_call 9; refine (HF.out _ (HT0.out.next HK1.out.be)).mono ?_; rintro e w3 ⟨rfl, hb3⟩; have HK3 : Hid (Ky W0 L.b L S w3) := HK1.out.later hb3; clear hb3))
 clear HK1 HM HI HR1 HF
 by_cases hout : which < 0 ∨ 3 < which ∨ rd < 0 ∨ 31 < rd
 ·by_cases q1 : which < 0
  ·go_wp2
   go_ret
   exact ⟨rfl, b0.out.trans ((HK3.out.be.alloc HK3.out.be.size _).mono b0.out.size)⟩
  by_cases q2 : 3 < which
  ·go_wp2
   go_ret
   exact ⟨rfl, b0.out.trans ((HK3.out.be.alloc HK3.out.be.size _).mono b0.out.size)⟩
  by_cases q3 : rd < 0
  ·go_wp2
   go_ret
   exact ⟨rfl, b0.out.trans ((HK3.out.be.alloc HK3.out.be.size _).mono b0.out.size)⟩
  have q4 : 31 < rd := by omega
  go_wp2
  go_ret
  exact ⟨rfl, b0.out.trans ((HK3.out.be.alloc HK3.out.be.size _).mono b0.out.size)⟩
 have q1 : ¬ which < 0 := by omega
 have q2 : ¬ 3 < which := by omega
 have q3 : ¬ rd < 0 := by omega
 have q4 : ¬ 31 < rd := by omega
 clear hout
 go_upto_region 7 with fail
 obtain ⟨j, rfl⟩ : ∃ j : Nat, which = (j : Int) := ⟨which.toNat, by omega⟩
 have hj4 : j < 4 := by omega
 have hjI : (j : Int) < 4 := by omega
 obtain ⟨op, hop⟩ : ∃ op : Int, op = [(57 : Int), 58, 60, 61].getD j 0 := ⟨_, rfl⟩
 have hop4 : op = 57 ∨ op = 58 ∨ op = 60 ∨ op = 61 := by
  rw [hop]
  match j, hj4 with
  | 0, _ => exact .inl rfl
  | 1, _ => exact .inr (.inl rfl)
  | 2, _ => exact .inr (.inr (.inl rfl))
  | 3, _ => exact .inr (.inr (.inr rfl))
 have HOP : Hid (∀ (W : World) {gs : Nat} {t : TypeId}, Row W gs #[.int .i64 57, .int .i64 58, .int .i64 60, .int .i64 61] t → W.cell? ⟨gs, j, none⟩ = some (.int .i64 op)) := fun W gs t hr => by
  rw [hr.cell, hop]
  match j, hj4 with
  | 0, _ => rfl
  | 1, _ => rfl
  | 2, _ => rfl
  | 3, _ => rfl
 clear hop
 have hrd2 : 0 ≤ rd ∧ rd < 32 := by omega
 --@R7
 refine bT (motive := fun W => Code.wp _ _ _ _ W) (Q := fun W => (Ky W0 L.b L S W) ∧ (Ks W0 L W w3.heap.size #[.int .i64 57, .int .i64 58, .int .i64 60, .int .i64 61] 3)) ⟨HK3.out.later (aG _ _), Ks.new HK3.out _ _⟩ ?_
 clear HK3
 generalize w3.heap.size = gs
 rintro W4 ⟨q0, q1⟩
 have HKX := hid q0
 have HRS := hid q1
 clear q0 q1

 obtain ⟨P, hP⟩ : ∃ P, P = PR c := ⟨_, rfl⟩
 obtain ⟨X, hX⟩ : ∃ X, X = dC (dR (vA V) S L.b c (iR op rd n raw)) c := ⟨_, rfl⟩
 obtain ⟨D, hD⟩ : ∃ D, D = dD (dR (vA V) S L.b c (iR op rd n raw)) := ⟨_, rfl⟩
 obtain ⟨v, hv⟩ : ∃ v, v = rV S P n := ⟨_, rfl⟩
 have hall := GK (vA V) S L.b c n raw hop4 hrd2
 have HYE : Hid (RK P n = true → X = rdC P rd v ∧ D = rdD rd v) := fun h => by rw [hX, hD, hv, hP]; exact hall.2.1 (by rw [← hP]; exact h)
 have HNO : Hid (RK P n = false → X = P ∧ D = dT (tS 2 (rB raw))) := fun h => by rw [hX, hD, hP]; exact hall.2.2 (by rw [← hP]; exact h)
 have HDO : Hid (∀ L1 W, Ky W0 L.b L1 S W → Calls prog 11 #[.agg (cpc c), .pointer (some ⟨L.b, 0, none⟩), .agg (inc (iR op rd n raw))] W fun e w' => e = .returned (.tuple #[.agg (cpc X), .agg (dnc D)]) ∧ ∃ L', PSt W0.heap.size L1 W L' S w') := fun L1 W hk => by
  have q := sZ HT0.out HSK.out HV.out c (iR op rd n raw) HIM.out hk
  rw [hall.1, ← hX, ← hD] at q
  exact q
 have HST : Hid (∀ L1 W, Ky W0 L.b L1 S W → Calls prog 12 #[.pointer (some ⟨L.b, 0, none⟩)] W fun e w' => ∃ ur ui uo, e = .returned (.agg (stc S ur ui uo)) ∧ Sv W.heap.size S ur ui uo w' ∧ Below W.heap.size W w') := fun L1 W hk => iN HSK.out hk
 have HMI : Hid (∀ L1 W, Ky W0 L.b L1 S W → Calls prog 15 #[.pointer (some ⟨L.b, 0, none⟩)] W fun e w' => e = .returned (.int .u64 (n64 (mM S))) ∧ Below W.heap.size W w') := fun L1 W hk => by rw [yD, ← hk.e]; exact IX W hk.p HSK.out.st.ier
 have HTI : Hid (∀ L1 W, Ky W0 L.b L1 S W → Calls prog 16 #[.pointer (some ⟨L.b, 0, none⟩)] W fun e w' => e = .returned (.int .u64 (n64 (tM S))) ∧ Below W.heap.size W w') := fun L1 W hk => by rw [yF HSK.out, ← hk.e]; exact yV W hk.p
 have HRE : Hid (∀ W, Calls prog 14 #[.agg (cpc P), .int .u64 (n64 (mM S)), .int .u64 (n64 (tM S)), .int .i64 n] W fun e w' => e = .returned (.tuple #[.int .u64 (n64 v), .bool (RK P n)]) ∧ Below W.heap.size W w') := fun W => by rw [hv, yE]; exact xF P (mM S) (tM S) n HIM.out W
 rw [← hP] at HPR
 clear hP hX hD hv hall HIM HV hop4
 generalize mM S = mi at HMI HRE
 generalize tM S = ti at HTI HRE
 generalize L.b = b at HDO HST HMI HTI HKX ⊢
 --@R7b
 go_upto_region 8 with (first | (go_at_call 12; refine (HST.out _ _ HKX.out).mono ?_; rintro e w2 ⟨ur, ui, uo, rfl, hsv, hb2⟩; obtain ⟨y1, z1, y2, z2, y3, z3, rfl, rfl, rfl⟩ := hsv.bs.forms; have HSV : Hid _ := hsv; have HB2 : Hid _ := hb2; clear hsv hb2) | (refine bP (by rfl) 35 _ _ (by rfl) (by rfl) w2 (stc zST (.slice none 0 0) (.slice none 0 0) (.slice none 0 0)) (stc S (.slice y1 S.ram.length z1) (.slice y2 S.inp.length z2) (.slice y3 S.out.length z3)) (by rfl) (by rfl) (by rfl) (cJ _ _ _ _) (by rfl) (wP S) ?_))
 refine bT (motive := fun W => Code.wp _ _ _ _ W) (Q := fun W => (Ky W0 b L S W) ∧ (Ks W0 L W gs #[.int .i64 57, .int .i64 58, .int .i64 60, .int .i64 61] 3) ∧ (Ks W0 L W w2.heap.size (stc S (.slice y1 S.ram.length z1) (.slice y2 S.inp.length z2) (.slice y3 S.out.length z3)) 35) ∧ (Sb L w2.heap.size S (.slice y1 S.ram.length z1) (.slice y2 S.inp.length z2) (.slice y3 S.out.length z3) W)) ⟨(HKX.out.later HB2.out).later (aG _ _), (HRS.out.later HB2.out).later (aG _ _), Ks.new (HKX.out.later HB2.out) _ _, (Sb.new HKX.out.p HB2.out HSV.out).later (aG _ _)⟩ ?_
 clear HKX HRS HSV HB2
 generalize w2.heap.size = gb
 rintro W6 ⟨q0, q1, q2, q3⟩
 have HKX6 := hid q0
 have HRS6 := hid q1
 have HRB := hid q2
 have HSB := hid q3
 clear q0 q1 q2 q3

 have HX0 := Hid.mk' (HR0.out.later HKX6.out.be HR0.out.lt)
 --@R8
 go_upto_region 9 with (first | (refine wpList_load_row (by rfl) _ _ (by rfl) _ (by rfl) 31 _ (0, 0) _ HX0.out underlying31 (by rfl) (aB _) ?_) | (go_at_call 10; refine (HPR.out _).mono ?_; rintro e w5 ⟨rfl, hb5⟩; have HB5 := hid hb5; clear hb5) | (refine bP (by rfl) 31 _ _ (by rfl) (by rfl) w5 (cpc cz) (cpc P) (by rfl) (by rfl) (by rfl) (aB _) (by rw [aE, aE]) (aO _) ?_))
 refine bT (motive := fun W => Code.wp _ _ _ _ W) (Q := fun W => (Ky W0 b L S W) ∧ (Ks W0 L W gs #[.int .i64 57, .int .i64 58, .int .i64 60, .int .i64 61] 3) ∧ (Ks W0 L W gb (stc S (.slice y1 S.ram.length z1) (.slice y2 S.inp.length z2) (.slice y3 S.out.length z3)) 35) ∧ (Sb L gb S (.slice y1 S.ram.length z1) (.slice y2 S.inp.length z2) (.slice y3 S.out.length z3) W) ∧ (Ks W0 L W w5.heap.size (cpc P) 31)) ⟨(HKX6.out.later HB5.out).later (aG _ _), (HRS6.out.later HB5.out).later (aG _ _), (HRB.out.later HB5.out).later (aG _ _), (HSB.out.later HB5.out).later (aG _ _), Ks.new (HKX6.out.later HB5.out) _ _⟩ ?_
 clear HKX6 HRS6 HRB HSB HB5 HX0
 generalize w5.heap.size = gp
 rintro W8 ⟨q0, q1, q2, q3, q4⟩
 have HKX := hid q0
 have HRS := hid q1
 have HRB8 := hid q2
 have HSB8 := hid q3
 have HRP := hid q4
 clear q0 q1 q2 q3 q4

 --@R9
 have hltP := HRP.out.r.lt
 have HAG : Hid (∀ j v, (cpc P)[j]? = some v → W8.cell? ⟨gp, 0 + j, none⟩ = some v) := HRP.out.r.agg
 have := aS W8
 refine bN (x0 := bB.start W8) (by kernel_rfl) (by kernel_rfl) ?_
 repeat (first | (refine ZqN (by rfl) fun KK hK => ?_; refine bD 31 _ (by rfl) gp 0 (by rfl) (cpc P) _ hltP HAG.out underlying31 (by rfl) (aB _) (hK _ ?_); clear hK KK; simp only [Act.put, ZqA, ZqC, ZqB]) | go_big_quiet_step (first | (go_at_call 15; exact bJ (HMI.out _ _ (HKX.out.later (bB.below _)))) | (go_at_call 16; exact bJ (HTI.out _ _ (HKX.out.later (bB.below _)))) | (go_at_call 14; exact bJ (HRE.out _))))
 refine wpQuiet_nil ?_
 rintro w' ⟨x9, rfl⟩
 go_upto_region 10 with fail
 refine bT (motive := fun W => Code.wp _ _ _ _ W) (Q := fun W => (Ky W0 b L S W) ∧ (Ks W0 L W gs #[.int .i64 57, .int .i64 58, .int .i64 60, .int .i64 61] 3) ∧ (Ks W0 L W gb (stc S (.slice y1 S.ram.length z1) (.slice y2 S.inp.length z2) (.slice y3 S.out.length z3)) 35) ∧ (Sb L gb S (.slice y1 S.ram.length z1) (.slice y2 S.inp.length z2) (.slice y3 S.out.length z3) W) ∧ (Ks W0 L W gp (cpc P) 31)) ⟨HKX.out.later x9.below, HRS.out.later x9.below, HRB8.out.later x9.below, HSB8.out.later x9.below, HRP.out.later x9.below⟩ ?_
 clear HKX HRS HRB8 HSB8 HRP hltP HAG HMI HTI HRE this
 rintro W9a ⟨q0, q1, q2, q3, q4⟩
 have HK8 := hid q0
 have HRS8 := hid q1
 have HRB := hid q2
 have HSB := hid q3
 have HRP8 := hid q4
 clear q0 q1 q2 q3 q4

 have HK9a := HK8
 have HRS := HRS8
 have HRP := HRP8
 have HKX := HK8
 clear HRS8 HRP8 HK8
 have hle := HKX.out.be.size
 have HC : Hid (∀ w9 L9, Jk W0 b L W9a S S L9 false w9 → Calls prog 11 #[.agg (cpc c), .pointer (some ⟨b, 0, none⟩), .agg (inc (iR op rd n raw))] w9 fun e w' => e = .returned (.tuple #[.agg (cpc X), .agg (dnc D)]) ∧ ∃ L', Jk W0 b L W9a S S L' true w' ∧ Fr L9 w9 L' w') := fun w9 L9 hJ => by
  refine (HDO.out L9 w9 hJ.k).mono ?_
  rintro e w' ⟨rfl, L', hp⟩
  exact ⟨rfl, L', hJ.call hp⟩
 clear HDO HK9a
 --@R10
 refine dH (by kernel_rfl) (fun i => ([[], [], [], [], [2, 3], [4], [], [], [], [5, 6, 7, 8], [0, 1, 9], [10], [11], [11], [], [], [14, 12], [15, 13]] : List (List Nat)).getD i []) (fun i => ([some (.agg (cpc c)), some (.pointer (some ⟨b, 0, none⟩)), some (.slice (some ⟨gs, 0, none⟩) 4 4), some (.int .i64 (j : Int)), some (.pointer (some ⟨gs, j, none⟩)), some (.int .i64 op), some (.int .i64 rd), some (.int .i64 n), some (.int .u32 (n32 raw)), some (.agg (inc (iR op rd n raw))), some (.tuple #[.agg (cpc X), .agg (dnc D)]), some (.tuple #[.agg (cpc X), .agg (dnc D)]), some (.agg (cpc X)), some (.agg (dnc D)), none, none, none, none] : List (Option Value)).getD i none) [⟨14, 16, 12, 31, cpc cz, cpc X⟩, ⟨15, 17, 13, 44, dnc dZ, dnc D⟩] 10 W9a.heap.size (Jk W0 b L W9a S S) _ W9a (by kernel_rfl) (by kernel_rfl) ?_ L (⟨HKX.out.later (ZqD _ _).drew, Fr.refl' _ _⟩) rfl (by decide) ?_ (fun L b w w' h hb => h.later hb) (fun L b w q cs h hq hb => h.put hle hq hb cs) (fun L b w q h hq => h.own hq) (hO ⟨?_, ?_, ?_, ?_, ?_, ?_, ?_, ?_, ?_, ?_, ?_, ?_, ?_, ?_, ?_, ?_, ?_, ?_, trivial⟩) ?_
 ·intro p hp q hq e
  rcases List.mem_cons.1 hp with rfl | hp
  ·rcases List.mem_cons.1 hq with rfl | hq
   ·rfl
   ·rw [List.mem_singleton.1 hq] at e; exact absurd (show (14 : Nat) = 15 from e) (by decide)
  ·rw [List.mem_singleton.1 hp] at e ⊢
   rcases List.mem_cons.1 hq with rfl | hq
   ·exact absurd (show (15 : Nat) = 14 from e) (by decide)
   ·rw [List.mem_singleton.1 hq]
 ·intro q hq
  rcases List.mem_cons.1 hq with rfl | hq
  ·exact ⟨(by show 14 < _; decide), (by show 16 < _; decide)⟩
  ·rw [List.mem_singleton.1 hq]
   exact ⟨(by show 15 < _; decide), (by show 17 < _; decide)⟩
 ·exact opn_old _ (.pointer (some ⟨w.heap.size, 0, none⟩)) 6 rfl rfl (by simp) rfl (by decide) (by kernel_rfl) rfl (fun ρ w9 L9 b9 q hJ => by have hl := bQ (P := prog) 31 w.heap.size (cpc c) _ w9 (HR0.out.later hJ.k.be HR0.out.lt) underlying31 (by rfl) (aB _); simp only [execOp, q]; exact hl)
 ·exact opn_old _ (.pointer (some ⟨b, 0, none⟩)) 13 rfl rfl (by simp) rfl (by decide) (by kernel_rfl) rfl (fun ρ w9 L9 b9 q hJ => by simp [execOp, q, go_sem])
 ·exact opn_old _ (.slice (some ⟨gs, 0, none⟩) 4 4) 15 rfl rfl (by simp) rfl (by decide) (by kernel_rfl) rfl (fun ρ w9 L9 b9 q hJ => by simp [execOp, q, go_sem])
 ·exact opn_old _ (.int .i64 (j : Int)) 2 rfl rfl (by simp) rfl (by decide) (by kernel_rfl) rfl (fun ρ w9 L9 b9 q hJ => by simp [execOp, q, go_sem])
 ·refine aH (.pointer (some ⟨gs, j, none⟩)) rfl rfl (by simp) rfl (by decide) (fun a w9 L9 b9 ho hn hJ => ?_)
  have q0 : a.eval (.tmp 73) = .slice (some ⟨gs, 0, none⟩) 4 4 := hn 2 (by decide) _ rfl
  have q1 : a.eval (.tmp 74) = .int .i64 (j : Int) := hn 3 (by decide) _ rfl
  clear ho hn
  generalize a.eval = ρ at *
  simp [execOp, q0, q1, go_sem, hjI]
 ·exact opn_new _ _ 75 4 rfl rfl (by simp) rfl (by decide) (by decide) rfl (fun _ => rfl) (fun ρ w9 L9 b9 q hJ => by have hl := HOP.out w9 ((HRS.out.fr hJ.f).r); simp [execOp, q, hl, go_sem])
 ·exact opn_old _ (.int .i64 rd) 3 rfl rfl (by simp) rfl (by decide) (by kernel_rfl) rfl (fun ρ w9 L9 b9 q hJ => by simp [execOp, q, go_sem])
 ·exact opn_old _ (.int .i64 n) 4 rfl rfl (by simp) rfl (by decide) (by kernel_rfl) rfl (fun ρ w9 L9 b9 q hJ => by simp [execOp, q, go_sem])
 ·exact opn_old _ (.int .u32 (n32 raw)) 5 rfl rfl (by simp) rfl (by decide) (by kernel_rfl) rfl (fun ρ w9 L9 b9 q hJ => by simp [execOp, q, go_sem])
 ·refine aH (.agg (inc (iR op rd n raw))) rfl rfl (by simp) rfl (by decide) (fun a w9 L9 b9 ho hn hJ => ?_)
  have q0 : a.eval (.tmp 76) = .int .i64 op := hn 5 (by decide) _ rfl
  have q1 : a.eval (.tmp 77) = .int .i64 rd := hn 6 (by decide) _ rfl
  have q2 : a.eval (.tmp 78) = .int .i64 n := hn 7 (by decide) _ rfl
  have q3 : a.eval (.tmp 79) = .int .u32 (n32 raw) := hn 8 (by decide) _ rfl
  have qc : a.eval (.const (.int .i64 4)) = .int .i64 4 := rfl
  clear ho hn
  generalize a.eval = ρ at *
  refine CF 48 _ rfl (inc (iR op rd n raw)) ?_ w9
  simp only [List.map_toArray, List.map_cons, List.map_nil, q0, q1, q2, qc, q3]
  exact FE op rd n raw
 ·refine iA (.tuple #[.agg (cpc X), .agg (dnc D)]) 11 #[.agg (cpc c), .pointer (some ⟨b, 0, none⟩), .agg (inc (iR op rd n raw))] rfl rfl (by simp) rfl rfl (fun a w9 L9 ho hn hJ => ?_) (fun w9 L9 hJ => ?_)
  ·
   have q0 : a.eval (.tmp 71) = .agg (cpc c) := hn 0 (by decide) _ rfl
   have q1 : a.eval (.tmp 72) = .pointer (some ⟨b, 0, none⟩) := hn 1 (by decide) _ rfl
   have q2 : a.eval (.tmp 80) = .agg (inc (iR op rd n raw)) := hn 9 (by decide) _ rfl
   have hf : a.eval (.func 11) = .func (.func 11) #[] #[] := rfl
   clear ho hn
   generalize a.eval = ρ at *
   simp [execOp, q0, q1, q2, hf, go_sem]
  ·
   exact HC.out w9 L9 hJ
 ·exact opn_new _ _ 81 10 rfl rfl (by simp) rfl (by decide) (by decide) rfl (fun _ => rfl) (fun ρ w9 L9 b9 q hJ => by simp [execOp, q, go_sem])
 ·exact opn_new _ _ 70 11 rfl rfl (by simp) rfl (by decide) (by decide) rfl (fun _ => rfl) (fun ρ w9 L9 b9 q hJ => by simp [execOp, q, go_sem])
 ·exact opn_new _ _ 70 11 rfl rfl (by simp) rfl (by decide) (by decide) rfl (fun _ => rfl) (fun ρ w9 L9 b9 q hJ => by simp [execOp, q, go_sem])
 ·refine eM ⟨14, 16, 12, 31, cpc cz, cpc X⟩ rfl rfl (by simp) (by simp) rfl (fun a w9 => ?_)
  have hz := cC w9
  generalize a.eval = ρ
  simp [execOp, go_sem, hz, ptr]
 ·refine eM ⟨15, 17, 13, 44, dnc dZ, dnc D⟩ rfl rfl (by simp) (by simp) rfl (fun a w9 => ?_)
  have hz := fP w9
  generalize a.eval = ρ
  simp [execOp, go_sem, hz, ptr]
 ·exact dE ⟨14, 16, 12, 31, cpc cz, cpc X⟩ (.tmp 20) (.tmp 82) rfl rfl rfl (by simp) rfl rfl ⟨(by show (14 : Nat) ∈ [14, 12]; decide), (by show (12 : Nat) ∈ [14, 12]; decide)⟩ rfl (fun a => rfl) (fun a => rfl) (aB _) (by rw [aE, aE]) (aO _)
 ·exact dE ⟨15, 17, 13, 44, dnc dZ, dnc D⟩ (.tmp 21) (.tmp 83) rfl rfl rfl (by simp) rfl rfl ⟨(by show (15 : Nat) ∈ [15, 13]; decide), (by show (13 : Nat) ∈ [15, 13]; decide)⟩ rfl (fun a => rfl) (fun a => rfl) (bE _) (eZ _ _) (dI _)
 ·intro W9 L9 pg hJ hrow hdis
  have hr1 := hrow _ (List.mem_cons_self ..)
  have hr2 := hrow _ (List.mem_cons_of_mem _ (List.mem_singleton.2 rfl))
  simp only [dW, Act.put, List.getD_cons_zero, List.getD_cons_succ, Option.getD_some, Option.getD_none, ZqA, ZqB, ZqC]
  simp only [Nat.reduceAdd, ptr]
  simp only at hr1 hr2
  generalize pg 14 = gx at hr1 ⊢
  generalize pg 15 = gd at hr2 ⊢
  have HK9 : Hid (Ky W0 b L9 S W9) := hJ.k
  have HRX : Hid (Ks W0 L9 W9 gx (cpc X) 31) := ⟨hr1.1, hr1.2.1, ZqO HKX.out.be.size hr1.2.2⟩
  have HRD : Hid (Ks W0 L9 W9 gd (dnc D) 44) := ⟨hr2.1, hr2.2.1, ZqO HKX.out.be.size hr2.2.2⟩
  have HRB9 : Hid (Ks W0 L9 W9 gb (stc S (.slice y1 S.ram.length z1) (.slice y2 S.inp.length z2) (.slice y3 S.out.length z3)) 35) := HRB.out.fr hJ.f
  have HSB9 : Hid (Sb L9 gb S (.slice y1 S.ram.length z1) (.slice y2 S.inp.length z2) (.slice y3 S.out.length z3) W9) := HSB.out.fr hJ.f
  have HRP9 : Hid (Ks W0 L9 W9 gp (cpc P) 31) := HRP.out.fr hJ.f
  have hgx : gp < gx ∧ gp < gd := ⟨ZqS HRP.out.r.lt hr1.2.2, ZqS HRP.out.r.lt hr2.2.2⟩
  clear hrow hdis hJ hr1 hr2 HC HRB HSB HRP HKX HRS HOP
  go_upto_region 11 with fail
  have hS0 : Row W9.drew gb (stc S (.slice y1 S.ram.length z1) (.slice y2 S.inp.length z2) (.slice y3 S.out.length z3)) 35 := HRB9.out.r
  refine wp_region_held (S := fun w' => Row w' gb (stc S (.slice y1 S.ram.length z1) (.slice y2 S.inp.length z2) (.slice y3 S.out.length z3)) 35) (by kernel_rfl) ?_
  change wpAnyH _ _ _ _ _ _ _ _ W9.drew
  refine aF 0 (some 84) (v := .agg (stc S (.slice y1 S.ram.length z1) (.slice y2 S.inp.length z2) (.slice y3 S.out.length z3))) rfl (by kernel_rfl) (by kernel_rfl) (by kernel_rfl) (by kernel_rfl) (fun _ _ _ h => h) (Or.inl ⟨by rfl, fun w9 hSw => ?_⟩) hS0 ?_
  ·have q := bQ (P := prog) 35 gb (stc S (.slice y1 S.ram.length z1) (.slice y2 S.inp.length z2) (.slice y3 S.out.length z3)) _ w9 hSw underlying35 (by rfl) (cJ _ _ _ _)
   unfold execOp
   exact q
  try simp only [Act.put, ZqA, ZqB, ZqC]
  refine aF 1 (some 85) (v := .pointer (some ⟨b, 0, none⟩)) rfl (by kernel_rfl) (by kernel_rfl) (by kernel_rfl) (by kernel_rfl) (fun _ _ _ h => h) (Or.inl ⟨by rfl, fun w9 hSw => by go_simp⟩) hS0 ?_
  try simp only [Act.put, ZqA, ZqB, ZqC]
  refine wpAnyH_ready (rs := [2]) (by kernel_rfl) (by simp) ?_
  refine AllReadyH.cons (o := _) rfl (fun KK hKK => ?_) AllReadyH.nil
  rw [if_pos (by rfl)]
  go_simp
  go_at_call 12
  refine (iN HSK.out (HK9.out.later (ZqD _ _).drew)).mono ?_
  rintro e w7 ⟨ur, ui, uo, rfl, hsv, hb7⟩
  have hb7' : Below W9.heap.size W9 w7 := ((ZqD _ _).drew).trans hb7
  have hS7 : Row w7 gb (stc S (.slice y1 S.ram.length z1) (.slice y2 S.inp.length z2) (.slice y3 S.out.length z3)) 35 := (HRB9.out.later hb7').r
  refine hKK.out _ _ hS7 (fun _ => ?_)
  try simp only [Act.put, ZqA, ZqB, ZqC]
  refine wpAnyH_ready (rs := [3]) (by kernel_rfl) (by simp) ?_
  refine AllReadyH.cons (o := _) rfl (fun KK hKK => ?_) AllReadyH.nil
  rw [if_pos (by rfl)]
  go_simp
  go_at_call 13
  refine (oQ S (.slice y1 S.ram.length z1) (.slice y2 S.inp.length z2) (.slice y3 S.out.length z3) ur ui uo w7 (HSB9.out.later hb7').b hsv.bs).mono ?_
  rintro e w8 ⟨rfl, hb8⟩
  have hb8' : Below W9.heap.size W9 w8 := hb7'.trans (hb8.mono hb7'.size)
  have hS8 : Row w8 gb (stc S (.slice y1 S.ram.length z1) (.slice y2 S.inp.length z2) (.slice y3 S.out.length z3)) 35 := (HRB9.out.later hb8').r
  refine hKK.out _ _ hS8 (fun _ => ?_)
  try simp only [Act.put, ZqA, ZqB, ZqC]
  refine aF 4 (some 88) (v := .bool false) rfl (by kernel_rfl) (by kernel_rfl) (by kernel_rfl) (by kernel_rfl) (fun _ _ _ h => h) (Or.inl ⟨by rfl, fun w9 hSw => by go_simp⟩) hS8 ?_
  try simp only [Act.put, ZqA, ZqB, ZqC]
  refine wpAnyH_done (by kernel_rfl) ?_ _
  have HB8 := Hid.mk' (HK9.out.be.trans (hb8'.mono HK9.out.be.size))
  have HX8 := Hid.mk' (HRX.out.later hb8').r
  have HD8 := Hid.mk' (HRD.out.later hb8').r
  have HP8 := Hid.mk' (HRP9.out.later hb8').r
  have HG8 := Hid.mk' HRP9.out.ge
  clear hS8 hS7 hS0 hb7' hb8 hb7 hb8' hKK HRX HRD HRP9 HK9 HRB9 HSB9 hsv HST
  cases hrk : RK P n with
  | false =>
   obtain ⟨e1, e2⟩ := HNO.out hrk
   rw [e1] at HX8
   rw [e2] at HD8
   clear e1 e2 HNO HYE
   have hb1 : IntKind.u64.wrap (n32 raw) = n64 (rB raw) := HRW.out
   go_wp2_with (first | (refine wpList_load_row (by rfl) _ _ (by rfl) gx (by rfl) 31 _ (0, 0) _ HX8.out underlying31 (by rfl) (aB _) ?_) | (refine wpList_load_row (by rfl) _ _ (by rfl) gp (by rfl) 31 _ (0, 0) _ HP8.out underlying31 (by rfl) (aB _) ?_) | (refine bA (by rfl) _ _ (by rfl) gd (by rfl) 44 _ (0, 0) _ HD8.out underlying44 (by rfl) (bE _) ?_) | (refine bO (by rfl) 31 _ _ _ (by rfl) (cpc P) (cpc P) (by rfl) (by rfl) (jX _ _) (eN _ _ _ _ _) ?_) | (refine eO (by rfl) 42 _ (by rfl) (tpc (tS 2 (rB raw))) (by kernel_rfl) ?_) | (refine eO (by rfl) 44 _ (by rfl) (dnc (dT (tS 2 (rB raw)))) (by kernel_rfl) ?_) | (refine bO (by rfl) 44 _ _ _ (by rfl) (dnc (dT (tS 2 (rB raw)))) (dnc (dT (tS 2 (rB raw)))) (by rfl) (by rfl) (fG _ _) (fC _ _ _ _ _) ?_))
 
   go_ret
   exact ⟨rfl, b0.out.trans (HB8.out.mono b0.out.size)⟩
  | true =>
   obtain ⟨e1, e2⟩ := HYE.out hrk
   rw [e1] at HX8
   rw [e2] at HD8
   clear e1 e2 HNO HYE
   --@R15
   have c0 : w8.cell? ⟨gp, 0, none⟩ = some (.int .u64 (n64 P.pc)) := HP8.out.cls.pc
   have f0 := HP8.out.froz 0
   have e4 : IntKind.u64.wrap (n64 P.pc + 4) = n64 (P.pc + 4#64) := dA P.pc 4#64
   go_upto_region 16 with fail
   refine bT (motive := fun W => Code.wp _ _ _ _ W) (Q := fun W => (Below W0.heap.size W0 W) ∧ (Row W gx (cpc (rdC P rd v)) 31) ∧ (Row W gd (dnc (rdD rd v)) 44) ∧ (Row W gp (cpc { P with pc := P.pc + 4#64 }) 31)) ⟨aM HB8.out HG8.out _, HX8.out.other (by omega) _, HD8.out.other (by omega) _, by rw [← kV]; exact HP8.out.put _⟩ ?_
   clear c0 f0 e4 HB8 HX8 HD8 HP8
   rintro W16 ⟨q0, q1, q2, q3⟩
   have HB9 := hid q0
   have HX9 := hid q1
   have HD9 := hid q2
   have HP9 := hid q3
   clear q0 q1 q2 q3
 
   --@R16
   go_upto_region 17 with (first | (refine aC (by rfl) 44 _ (by rfl) (dnc dZ) (by kernel_rfl) ?_) | (refine bP (by rfl) 44 _ _ (by rfl) (by rfl) W16 (dnc dZ) (dnc dZ) (by rfl) (by rfl) (by rfl) (bE _) (eZ _ _) (dI _) ?_))
   refine bT (motive := fun W => Code.wp _ _ _ _ W) (Q := fun W => (Below W0.heap.size W0 W) ∧ (Row W gx (cpc (rdC P rd v)) 31) ∧ (Row W gd (dnc (rdD rd v)) 44) ∧ (Row W gp (cpc { P with pc := P.pc + 4#64 }) 31) ∧ (Row W W16.heap.size (dnc dZ) 44) ∧ (gx < W16.heap.size ∧ gd < W16.heap.size ∧ gp < W16.heap.size ∧ W0.heap.size ≤ W16.heap.size)) ⟨HB9.out.trans ((aG _ _).mono HB9.out.size), HX9.out.old HX9.out.lt _, HD9.out.old HD9.out.lt _, HP9.out.old HP9.out.lt _, Row.new _ _ _, ⟨HX9.out.lt, HD9.out.lt, HP9.out.lt, HB9.out.size⟩⟩ ?_
   clear HB9 HX9 HD9 HP9
   generalize W16.heap.size = gw
   rintro W17 ⟨q0, q1, q2, q3, q4, q5⟩
   have HB8 := hid q0
   have HX8 := hid q1
   have HD8 := hid q2
   have HP8 := hid q3
   have HWn := hid q4
   have HNE := hid q5
   clear q0 q1 q2 q3 q4 q5
 
   --@R17
   by_cases h0 : rd = 0
   ·subst h0
    have eX : rdC P 0 v = { P with pc := P.pc + 4#64 } := rfl
    have eD : rdD 0 v = dZ := rfl
    rw [eX] at HX8
    rw [eD] at HD8
    clear eX eD
    generalize ({ P with pc := P.pc + 4#64 } : Cp) = Q1 at HX8 HP8
    go_wp2_with (first | (refine wpList_load_row (by rfl) _ _ (by rfl) gx (by rfl) 31 _ (0, 0) _ HX8.out underlying31 (by rfl) (aB _) ?_) | (refine wpList_load_row (by rfl) _ _ (by rfl) gp (by rfl) 31 _ (0, 0) _ HP8.out underlying31 (by rfl) (aB _) ?_) | (refine bA (by rfl) _ _ (by rfl) gd (by rfl) 44 _ (0, 0) _ HD8.out underlying44 (by rfl) (bE _) ?_) | (refine bA (by rfl) _ _ (by rfl) gw (by rfl) 44 _ (0, 0) _ HWn.out underlying44 (by rfl) (bE _) ?_) | (refine bO (by rfl) 31 _ _ _ (by rfl) (cpc Q1) (cpc Q1) (by rfl) (by rfl) (jX _ _) (eN _ _ _ _ _) ?_) | (refine bO (by rfl) 44 _ _ _ (by rfl) (dnc dZ) (dnc dZ) (by rfl) (by rfl) (fG _ _) (fC _ _ _ _ _) ?_))
    go_ret
    exact ⟨rfl, b0.out.trans (HB8.out.mono b0.out.size)⟩
   ·obtain ⟨r, rfl⟩ : ∃ r : Nat, rd = (r : Int) := ⟨rd.toNat, by omega⟩
    have hr0 : r ≠ 0 := by omega
    have hr32 : r < 32 := by omega
    have hrI : (r : Int) < 32 := by omega
    have hnz : ((r : Int) != 0) = true := by rw [bne_iff_ne]; exact h0
    have eX : rdC P (r : Int) v = { P with pc := P.pc + 4#64, x := upd P.x r v } := by unfold rdC; rw [if_neg h0, show ((r : Int)).toNat = r from rfl]
    rw [eX] at HX8
    clear eX
    have eD : rdD (r : Int) v = { dZ with rd := (r : Int), v := v } := by unfold rdD; rw [if_neg h0]
    rw [eD] at HD8
    clear eD h0 hrd2 q3 q4
    have c1 : W17.cell? ⟨gp, 1 + r, none⟩ = some (.int .u64 (n64 (P.x r))) := HP8.out.xj r hr32
    have f1 := HP8.out.froz (1 + r)
    --@R18
    go_upto_region 19 with fail
    refine bT (motive := fun W => Code.wp _ _ _ _ W) (Q := fun W => (Below W0.heap.size W0 W) ∧ (Row W gx (cpc { P with pc := P.pc + 4#64, x := upd P.x r v }) 31) ∧ (Row W gd (dnc { dZ with rd := (r : Int), v := v }) 44) ∧ (Row W gp (cpc { P with pc := P.pc + 4#64, x := upd P.x r v }) 31) ∧ (Row W gw (dnc dZ) 44)) ⟨aM HB8.out HG8.out _, HX8.out.other (by omega) _, HD8.out.other (by omega) _, by have q := pQ ({ P with pc := P.pc + 4#64 } : Cp) r hr32 v; rw [← q]; exact HP8.out.put _, HWn.out.other (by have := HNE.out; omega) _⟩ ?_
    clear c1 f1 HB8 HX8 HD8 HP8 HWn
    rintro W18 ⟨q0, q1, q2, q3, q4⟩
    have HB9 := hid q0
    have HX9 := hid q1
    have HD9 := hid q2
    have HP9 := hid q3
    have HW9 := hid q4
    clear q0 q1 q2 q3 q4
 
    generalize ({ P with pc := P.pc + 4#64, x := upd P.x r v } : Cp) = Q1 at HX9 HP9
    --@R19
    go_upto_region 20 with (first | (refine aC (by rfl) 44 _ (by rfl) (dnc { dZ with rd := (r : Int), v := v }) (by kernel_rfl) ?_) | (refine aA (by rfl) _ _ _ (by rfl) (by rfl) gw _ _ (by rfl) (by rfl) HW9.out (bE _) (eZ _ _) (dI _) ?_))
    refine bT (motive := fun W => Code.wp _ _ _ _ W) (Q := fun W => (Below W0.heap.size W0 W) ∧ (Row W gx (cpc Q1) 31) ∧ (Row W gd (dnc { dZ with rd := (r : Int), v := v }) 44) ∧ (Row W gp (cpc Q1) 31) ∧ (Row W gw (dnc { dZ with rd := (r : Int), v := v }) 44)) ⟨aW HB9.out HNE.out.2.2.2 _, (setRow_other _ _ _ _ (by have := HNE.out; omega)).trans HX9.out, (setRow_other _ _ _ _ (by have := HNE.out; omega)).trans HD9.out, (setRow_other _ _ _ _ (by have := HNE.out; omega)).trans HP9.out, ZqW _ _ _ _ _ _ HW9.out⟩ ?_
    clear HB9 HX9 HD9 HP9 HW9
    rintro W20 ⟨q0, q1, q2, q3, q4⟩
    have HB8 := hid q0
    have HX8 := hid q1
    have HD8 := hid q2
    have HP8 := hid q3
    have HWn := hid q4
    clear q0 q1 q2 q3 q4
 
    go_wp2_with (first | (refine wpList_load_row (by rfl) _ _ (by rfl) gx (by rfl) 31 _ (0, 0) _ HX8.out underlying31 (by rfl) (aB _) ?_) | (refine wpList_load_row (by rfl) _ _ (by rfl) gp (by rfl) 31 _ (0, 0) _ HP8.out underlying31 (by rfl) (aB _) ?_) | (refine bA (by rfl) _ _ (by rfl) gd (by rfl) 44 _ (0, 0) _ HD8.out underlying44 (by rfl) (bE _) ?_) | (refine bA (by rfl) _ _ (by rfl) gw (by rfl) 44 _ (0, 0) _ HWn.out underlying44 (by rfl) (bE _) ?_) | (refine bO (by rfl) 31 _ _ _ (by rfl) (cpc Q1) (cpc Q1) (by rfl) (by rfl) (jX _ _) (eN _ _ _ _ _) ?_) | (refine bO (by rfl) 44 _ _ _ (by rfl) (dnc { dZ with rd := (r : Int), v := v }) (dnc { dZ with rd := (r : Int), v := v }) (by rfl) (by rfl) (fG _ _) (fC _ _ _ _ _) ?_))
    go_ret
    exact ⟨rfl, b0.out.trans (HB8.out.mono b0.out.size)⟩
end Go.Proofs.YtddlmenfcbjoaaaGreatDoor
