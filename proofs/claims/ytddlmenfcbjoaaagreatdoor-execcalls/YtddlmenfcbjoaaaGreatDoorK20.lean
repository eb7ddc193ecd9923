import Derived.Test.YtddlmenfcbjoaaaGreatDoorK03
import Derived.Test.YtddlmenfcbjoaaaGreatDoorK19
namespace Go.Proofs.YtddlmenfcbjoaaaGreatDoor
set_option linter.unusedVariables false
set_option maxRecDepth 100000
set_option maxHeartbeats 8000000
open Go.ChangeShapes Go.WideShapes Go.ChangeAt Go.RowKit Go.Deep _root_.Go.Proofs.Tryz
def amV (op : Int) (x y : BitVec 64) : BitVec 64 := if op ≤ 85 then mW (op - 77).toNat x y else mD (op - 88).toNat x y
theorem NP (op : Int) (h : dP op ≠ 0) (x y : BitVec 64) (w : World) : Calls prog 141 #[.int .i64 op, .int .u64 (n64 x), .int .u64 (n64 y)] w fun e w' => e = .returned (.tuple #[.int .u64 (n64 (amV op x y)), .bool true]) ∧ Below w.heap.size w w' := by
 unfold amV
 by_cases h1 : 77 ≤ op ∧ op ≤ 85
 ·obtain ⟨n, hn, hl⟩ : ∃ n : Nat, op = 77 + (n : Int) ∧ n < 9 := ⟨(op - 77).toNat, by omega, by omega⟩
  subst hn
  rw [if_pos (by omega), show ((77 + (n : Int)) - 77).toNat = n by omega]
  exact FA n hl x y w
 ·by_cases h2 : 88 ≤ op ∧ op ≤ 96
  ·obtain ⟨n, hn, hl⟩ : ∃ n : Nat, op = 88 + (n : Int) ∧ n < 9 := ⟨(op - 88).toNat, by omega, by omega⟩
   subst hn
   rw [if_neg (by omega), show ((88 + (n : Int)) - 88).toNat = n by omega]
   exact EZ n hl x y w
  ·exact absurd (by unfold dP; rw [if_neg h1, if_neg h2]) h
theorem US (op : Int) (h : dP op ≠ 0) (x v : BitVec 64) (g1 g2 : Nat) (w : World) (c1 : w.cell? ⟨g1, 0, none⟩ = some (.int .i64 op)) (c2 : w.cell? ⟨g2, 0, none⟩ = some (.int .u64 (n64 v))) : Calls prog 140 #[.int .u64 (n64 x), .pointer (some ⟨g1, 0, none⟩), .pointer (some ⟨g2, 0, none⟩)] w fun e w' => e = .returned (.int .u64 (n64 (amV op x v))) ∧ Below w.heap.size w w' := by
 have HA : Hid (∀ W, Calls prog 141 #[.int .i64 op, .int .u64 (n64 x), .int .u64 (n64 v)] W fun e w' => e = .returned (.tuple #[.int .u64 (n64 (amV op x v)), .bool true]) ∧ Below W.heap.size W w') := fun W => NP op h x v W
 go_enter func140, ntmps140
 go_wp2_with (go_at_call 141; refine (HA.out _).mono ?_; rintro e w1 ⟨rfl, hb1⟩; have HB1 := hid hb1; clear hb1)
 go_ret
 exact ⟨rfl, HB1.out⟩
theorem PV {B : Nat} {L : Lay} {w : World} (op : Int) (h : dP op ≠ 0) (v : BitVec 64) (g1 g2 : Nat) (h1 : Row w g1 #[.int .i64 op] 3) (h2 : Row w g2 #[.int .u64 (n64 v)] 22) (n1 : ¬ L.own g1) (n2 : ¬ L.own g2) : Mde B L w (.func (.func 140) #[] #[.pointer (some ⟨g1, 0, none⟩), .pointer (some ⟨g2, 0, none⟩)]) (some fun x => amV op x v) :=
 .two _ _ _ _ (fun x W => by kernel_rfl) (fun L1 S1 W hp x => US op h x v g1 g2 W (Row.cell ((hp.x.block g1 h1.lt n1).trans h1) 0) (Row.cell ((hp.x.block g2 h2.lt n2).trans h2) 0))
def AM (S : St) (K : Cp) (b : Nat) (op : Int) (ad v : BitVec 64) : Mv := if dP op = 0 then ⟨0#64, 0#64, tS 2 0#64, S⟩ else AT S { wS b K ad with r := 3 } (dP op) (some fun x => amV op x v)
theorem UQ {B : Nat} {L : Lay} {S : St} (w : World) (h : PB B L S w) (hs : Sok S) (hT : Tb w) (hB : 0 < B) (k : Cp) (op : Int) (ad v : BitVec 64) :
  Calls prog 106 #[.agg (cpc k), .pointer (some ⟨L.b, 0, none⟩), .int .i64 op, .int .u64 (n64 ad), .int .u64 (n64 v)] w fun e w' => e = .returned (.tuple #[.int .u64 (n64 (AM S (PR k) L.b op ad v).old), .int .u64 (n64 (AM S (PR k) L.b op ad v).st), .agg (cpc (stK (PR k) (AM S (PR k) L.b op ad v) ad (dP op))), .agg (tpc (AM S (PR k) L.b op ad v).t)]) ∧ ∃ L', PSt B L w L' (AM S (PR k) L.b op ad v).S w' := by
 obtain ⟨W0, hW0, hb0⟩ : ∃ W, ((((w.alloc (.cells (cpc k) 31)).alloc (.cells #[.int .i64 op] 3)).alloc (.cells #[.int .u64 (n64 v)] 22)).alloc (.cells (cpc cz) 31)).alloc (.cells (tpc tN) 42) = W ∧ (Row W w.heap.size (cpc k) 31 ∧ Row W (w.heap.size + 1) #[.int .i64 op] 3 ∧ Row W (w.heap.size + 2) #[.int .u64 (n64 v)] 22 ∧ Row W (w.heap.size + 3) (cpc cz) 31 ∧ Row W (w.heap.size + 4) (tpc tN) 42 ∧ Below w.heap.size w W) := by
  refine ⟨_, rfl, ?_, ?_, ?_, ?_, ?_, ?_⟩
  ·exact ((((Row.new w _ _).old (by simp) _).old (by simp <;> omega) _).old (by simp <;> omega) _).old (by simp <;> omega) _
  ·exact ((((by have q := Row.new (w.alloc (.cells (cpc k) 31)) #[.int .i64 op] 3; simpa using q : Row ((w.alloc (.cells (cpc k) 31)).alloc (.cells #[.int .i64 op] 3)) (w.heap.size + 1) #[.int .i64 op] 3).old (by simp) _).old (by simp <;> omega) _).old (by simp <;> omega) _)
  ·exact (((by have q := Row.new ((w.alloc (.cells (cpc k) 31)).alloc (.cells #[.int .i64 op] 3)) #[.int .u64 (n64 v)] 22; simpa using q : Row (((w.alloc (.cells (cpc k) 31)).alloc (.cells #[.int .i64 op] 3)).alloc (.cells #[.int .u64 (n64 v)] 22)) (w.heap.size + 2) #[.int .u64 (n64 v)] 22).old (by simp) _).old (by simp <;> omega) _)
  ·exact ((by have q := Row.new (((w.alloc (.cells (cpc k) 31)).alloc (.cells #[.int .i64 op] 3)).alloc (.cells #[.int .u64 (n64 v)] 22)) (cpc cz) 31; simpa using q : Row ((((w.alloc (.cells (cpc k) 31)).alloc (.cells #[.int .i64 op] 3)).alloc (.cells #[.int .u64 (n64 v)] 22)).alloc (.cells (cpc cz) 31)) (w.heap.size + 3) (cpc cz) 31).old (by simp) _)
  ·have q := Row.new ((((w.alloc (.cells (cpc k) 31)).alloc (.cells #[.int .i64 op] 3)).alloc (.cells #[.int .u64 (n64 v)] 22)).alloc (.cells (cpc cz) 31)) (tpc tN) 42
   simpa using q
  ·exact ((((aG w _).trans ((aG _ _).mono (by simp))).trans ((aG _ _).mono (by simp <;> omega))).trans ((aG _ _).mono (by simp <;> omega))).trans ((aG _ _).mono (by simp <;> omega))
 obtain ⟨r0, r1, r2, r3, r4, b0⟩ := hb0
 have hzt := bU
 have hzc := cC
 have hzw := rM
 have HP0 : Hid (PSt B L w L S W0) := (PSt.refl h).post b0
 have hlo : ∀ g, w.heap.size ≤ g → ¬ L.own g := fun g hg e => by have := h.own_hi _ e; omega
 have HO0 : Hid (Own w L W0 w.heap.size (cpc k) 31) := ⟨r0, hlo _ (by omega), by omega⟩
 have HOo : Hid (Own w L W0 (w.heap.size + 1) #[.int .i64 op] 3) := ⟨r1, hlo _ (by omega), by omega⟩
 have HOv : Hid (Own w L W0 (w.heap.size + 2) #[.int .u64 (n64 v)] 22) := ⟨r2, hlo _ (by omega), by omega⟩
 have HO1 : Hid (Own w L W0 (w.heap.size + 3) (cpc cz) 31) := ⟨r3, hlo _ (by omega), by omega⟩
 have HO2 : Hid (Own w L W0 (w.heap.size + 4) (tpc tN) 42) := ⟨r4, hlo _ (by omega), by omega⟩
 have HPR : Hid (∀ W, Calls prog 10 #[.agg (cpc k)] W fun e w' => e = .returned (.agg (cpc (PR k))) ∧ Below W.heap.size W w') := fun W => jF k W
 have HB0 := hid b0
 have HLG : Hid (∀ W, Calls prog 128 #[.agg (cpc (PR k)), .pointer (some ⟨L.b, 0, none⟩), .int .u64 (n64 ad)] W fun e w' => e = .returned (.agg (wyc (wS L.b (PR k) ad))) ∧ Below W.heap.size W w') := fun W => by
  have q := nR (PR k) L.b ad W
  rw [fR] at q
  exact q
 have HPL : Hid (dP op ≠ 0 → ∀ W M, Below w.heap.size w W → Mde B L W M (some fun x => amV op x v) → Calls prog 138 #[.agg (wyc { wS L.b (PR k) ad with r := 3 }), .int .i64 (dP op), M] W fun e w' => e = .returned (.tuple #[.int .u64 (n64 (AM S (PR k) L.b op ad v).old), .int .u64 (n64 (AM S (PR k) L.b op ad v).st), .agg (tpc (AM S (PR k) L.b op ad v).t)]) ∧ ∃ L', PSt B L W L' (AM S (PR k) L.b op ad v).S w') := fun hz W M hb hM => by
  have e : (AM S (PR k) L.b op ad v) = AT S { wS L.b (PR k) ad with r := 3 } (dP op) (some fun x => amV op x v) := by unfold AM; rw [if_neg hz]
  rw [e]
  exact pM W (h.later hb) hs (hT.next hb) hB { wS L.b (PR k) ad with r := 3 } rfl (dP op) M _ hM
 have HA0 : Hid (dP op = 0 → (AM S (PR k) L.b op ad v) = ⟨0#64, 0#64, tS 2 0#64, S⟩) := fun q => by unfold AM; rw [if_pos q]
 have HAS : Hid (∀ W, Calls prog 139 #[.int .i64 op] W fun e w' => e = .returned (.tuple #[.int .i64 (dP op), .bool (decide (dP op ≠ 0))]) ∧ w' = W) := fun W => BZ op W
 have HMA : Hid (dP op ≠ 0 → ∀ W, Row W (w.heap.size + 1) #[.int .i64 op] 3 → Row W (w.heap.size + 2) #[.int .u64 (n64 v)] 22 → Mde B L W (.func (.func 140) #[] #[.pointer (some ⟨w.heap.size + 1, 0, none⟩), .pointer (some ⟨w.heap.size + 2, 0, none⟩)]) (some fun x => amV op x v)) := fun hz W q1 q2 => PV op hz v _ _ q1 q2 (hlo _ (by omega)) (hlo _ (by omega))
 generalize (AM S (PR k) L.b op ad v) = m at HPL HA0 ⊢
 obtain ⟨ky, hky⟩ : ∃ ky, ky = wS L.b (PR k) ad := ⟨_, rfl⟩
 rw [← hky] at HPL HLG
 clear hky
 generalize PR k = K at HPR HLG ⊢
 have HBH : Hid (∀ W, Calls prog 131 #[.agg (rsc K.rv K.ra K.rs), .int .u64 (n64 ad), .int .i64 (dP op)] W fun e w' => e = .returned (.agg (rsc (bhK K ad (dP op)).rv (bhK K ad (dP op)).ra (bhK K ad (dP op)).rs)) ∧ Below W.heap.size W w') := fun W => uY K ad (dP op) W
 have HSK : Hid (stK K m ad (dP op) = if m.t.is = true then K else bhK K ad (dP op)) := rfl
 generalize dP op = sz at HPL HA0 HAS HMA HBH HSK ⊢
 obtain ⟨K2, hK2⟩ : ∃ K2, K2 = stK K m ad sz := ⟨_, rfl⟩
 rw [← hK2] at HSK ⊢
 clear hK2 h hs hT r0 r1 r2 r3 r4 b0
 go_enter func106, ntmps106
 go_upto_region 1 with fail
 clear hW0
 go_upto_region 2 with (first | (refine wpList_load_row (by rfl) _ _ (by rfl) _ (by rfl) 31 _ (0, 0) _ HO0.out.r underlying31 (by rfl) (aB _) ?_) | (go_at_call 10; refine (HPR.out _).mono ?_; rintro e w1 ⟨rfl, hb1⟩; have HB1 := hid hb1; clear hb1) | (refine aA (by rfl) _ _ _ (by rfl) (by rfl) _ _ _ (by rfl) (by rfl) (HO0.out.post HB1.out).r (aB _) (by rw [aE, aE]) (aO _) ?_))
 refine bT (motive := fun W => Code.wp _ _ _ _ W) (Q := fun W => (Own w L W w.heap.size (cpc K) 31 ∧ Own w L W (w.heap.size + 1) #[.int .i64 op] 3 ∧ Own w L W (w.heap.size + 2) #[.int .u64 (n64 v)] 22 ∧ Own w L W (w.heap.size + 3) (cpc cz) 31 ∧ Own w L W (w.heap.size + 4) (tpc tN) 42) ∧ PSt B L w L S W ∧ Below w.heap.size w W)
  ⟨⟨⟨ZqW _ _ _ _ _ _ (HO0.out.post HB1.out).r, HO0.out.n, HO0.out.ge⟩, ⟨(setRow_other _ _ _ _ (by omega)).trans (HOo.out.post HB1.out).r, HOo.out.n, HOo.out.ge⟩, ⟨(setRow_other _ _ _ _ (by omega)).trans (HOv.out.post HB1.out).r, HOv.out.n, HOv.out.ge⟩, ⟨(setRow_other _ _ _ _ (by omega)).trans (HO1.out.post HB1.out).r, HO1.out.n, HO1.out.ge⟩, ⟨(setRow_other _ _ _ _ (by omega)).trans (HO2.out.post HB1.out).r, HO2.out.n, HO2.out.ge⟩⟩, (HP0.out.post HB1.out).row HO0.out.n HO0.out.ge _, aW (HB0.out.trans (HB1.out.mono HB0.out.size)) (ZqE _) _⟩ ?_
 clear HO0 HOo HOv HO1 HO2 HP0 HB0 HB1 HPR
 rintro W2 ⟨⟨o0, oo, ov, o1, o2⟩, p2, b2⟩
 have HO0 := hid o0
 have HOo := hid oo
 have HOv := hid ov
 have HO1 := hid o1
 have HO2 := hid o2
 have HP2 := hid p2
 have HB2 := hid b2
 have co : W2.cell? ⟨w.heap.size + 1, 0, none⟩ = some (.int .i64 op) := oo.r.cell 0
 clear o0 oo ov o1 o2 p2 b2
 by_cases hz0 : sz = 0
 ·rw [show decide (sz ≠ 0) = false by simp [hz0]] at HAS
  have hm := HA0.out hz0
  have HMt : Hid (m.t = tS 2 0#64) := by unfold Hid; rw [hm]
  have HMo : Hid (m.old = 0#64) := by unfold Hid; rw [hm]
  have HMs : Hid (m.st = 0#64) := by unfold Hid; rw [hm]
  have HMS : Hid (m.S = S) := by unfold Hid; rw [hm]
  have HK2 : Hid (K2 = K) := by unfold Hid; rw [HSK.out, if_pos (by rw [HMt.out]; rfl)]
  have HP4 : Hid (PSt B L w L m.S W2) := by unfold Hid; rw [HMS.out]; exact HP2.out
  clear hm HSK HA0 HPL HMA HBH HP2
  go_upto_region 4 with (go_at_call 139; refine (HAS.out _).mono ?_; rintro e wl ⟨rfl, hwl⟩; have hwl2 := hwl.symm; subst hwl2)
  have hrw : Hid (∀ w9, Exc (fun j => j = w.heap.size + 3 ∨ j = w.heap.size + 4) W2 w9 → Row w9 w.heap.size (cpc K) 31 ∧ True) := fun w9 hx => ⟨(hx.block _ HO0.out.r.lt (fun e => by rcases e with e | e <;> omega)).trans HO0.out.r, trivial⟩
  have hS0 : Exc (fun j => j = w.heap.size + 3 ∨ j = w.heap.size + 4) W2 W2.drew := ⟨rfl, rfl, rfl, ZqE _, fun _ _ _ => rfl⟩
  have H1 : Row W2.drew (w.heap.size + 3) (cpc cz) 31 := HO1.out.r
  have H2 : Row (W2.drew.setRow (w.heap.size + 3) (cpc K)) (w.heap.size + 4) (tpc tN) 42 := (setRow_other _ _ _ _ (by omega)).trans HO2.out.r
  have hS1 : Exc (fun j => j = w.heap.size + 3 ∨ j = w.heap.size + 4) W2 (W2.drew.setRow (w.heap.size + 3) (cpc K)) := ⟨rfl, rfl, rfl, by simp, fun k hk hn => setRow_other _ _ _ _ (fun e => hn (.inl e))⟩
  have hS2 : Exc (fun j => j = w.heap.size + 3 ∨ j = w.heap.size + 4) W2 ((W2.drew.setRow (w.heap.size + 3) (cpc K)).setRow (w.heap.size + 4) (tpc m.t)) := ⟨rfl, rfl, rfl, by simp, fun k hk hn => (setRow_other _ _ _ _ (fun e => hn (.inr e))).trans (setRow_other _ _ _ _ (fun e => hn (.inl e)))⟩
  have HP9 : Hid (PSt B L w L m.S ((W2.drew.setRow (w.heap.size + 3) (cpc K)).setRow (w.heap.size + 4) (tpc m.t))) := ((HP4.out.post (ZqD _ _).drew).row HO1.out.n HO1.out.ge _).row HO2.out.n HO2.out.ge _
  have HR1 : Hid (Row ((W2.drew.setRow (w.heap.size + 3) (cpc K)).setRow (w.heap.size + 4) (tpc m.t)) (w.heap.size + 3) (cpc K) 31) := (setRow_other _ _ _ _ (by omega)).trans (ZqW _ _ _ _ _ _ H1)
  have HR2 : Hid (Row ((W2.drew.setRow (w.heap.size + 3) (cpc K)).setRow (w.heap.size + 4) (tpc m.t)) (w.heap.size + 4) (tpc m.t) 42) := ZqW _ _ _ _ _ _ H2
  refine wp_region_held (S := fun w' => Exc (fun j => j = w.heap.size + 3 ∨ j = w.heap.size + 4) W2 w') (by kernel_rfl) ?_
  change wpAnyH _ _ _ _ _ _ _ _ W2.drew
  refine aF 0 (some 29) (v := .agg (cpc K)) rfl (by kernel_rfl) (by kernel_rfl) (by kernel_rfl) (by kernel_rfl) (fun _ _ _ h => h) (Or.inl ⟨by rfl, fun w9 hSw => ?_⟩) hS0 ?_
  ·have q := bQ (P := prog) 31 (w.heap.size) (cpc K) _ w9 (hrw.out w9 hSw).1 underlying31 (by rfl) (aB _)
   unfold execOp
   exact q
  try simp only [Act.put, ZqA, ZqB, ZqC]
  refine aF 1 (some 30) (v := .agg (tpc m.t)) rfl (by kernel_rfl) (by kernel_rfl) (by kernel_rfl) (by kernel_rfl) (fun _ _ _ h => h) (Or.inl ⟨by rfl, fun w9 hSw => by rw [HMt.out]; exact gO 42 _ (by rfl) (tpc (tS 2 0#64)) (by kernel_rfl) w9⟩) hS0 ?_
  try simp only [Act.put, ZqA, ZqB, ZqC]
  refine aF 2 (some 10) (v := .int .u64 0) rfl (by kernel_rfl) (by kernel_rfl) (by kernel_rfl) (by kernel_rfl) (fun _ _ _ h => h) (Or.inl ⟨by rfl, fun w9 hSw => by go_simp⟩) hS0 ?_
  try simp only [Act.put, ZqA, ZqB, ZqC]
  refine aF 3 (some 11) (v := .int .u64 0) rfl (by kernel_rfl) (by kernel_rfl) (by kernel_rfl) (by kernel_rfl) (fun _ _ _ h => h) (Or.inl ⟨by rfl, fun w9 hSw => by go_simp⟩) hS0 ?_
  try simp only [Act.put, ZqA, ZqB, ZqC]
  refine aV 4 31 (.tmp 12) (.tmp 29) (by kernel_rfl) (by kernel_rfl) (w.heap.size + 3) (cpc cz) (cpc K) (by rfl) (by rfl) H1 (aB _) (by rw [aE, aE]) (aO _) hS1 ?_
  try simp only [Act.put, ZqA, ZqB, ZqC]
  refine aV 5 42 (.tmp 13) (.tmp 30) (by kernel_rfl) (by kernel_rfl) (w.heap.size + 4) (tpc tN) (tpc m.t) (by rfl) (by rfl) H2 (aD _) (bC _ _) (aN _) hS2 ?_
  try simp only [Act.put, ZqA, ZqB, ZqC]
  refine wpAnyH_done (by kernel_rfl) ?_ _
  go_wp2_with fail
  refine ZqH (v := .tuple #[.int .u64 0, .int .u64 0, .agg (cpc K), .agg (tpc m.t)]) (kF _ _ (w.heap.size + 3) (w.heap.size + 4) 31 42 _ _ (0, 0) (0, 0) _ _ _ _ results106 (by rfl) (by rfl) (by rfl) (by rfl) HR1.out HR2.out underlying31 (by rfl) (aB _) underlying42 (by rfl) (aD _)) rfl ⟨by rw [HK2.out, HMo.out, HMs.out]; rfl, L, HP9.out⟩
 ·rw [show decide (sz ≠ 0) = true by simp [hz0]] at HAS
  have HPL2 := HPL.out hz0
  have HMA2 := HMA.out hz0
  have HPL : Hid _ := HPL2
  have HMA : Hid _ := HMA2
  clear HPL2 HMA2 HA0
  go_upto_region 6 with (first | (refine wpList_load_row (by rfl) _ _ (by rfl) _ (by rfl) 31 _ (0, 0) _ HO0.out.r underlying31 (by rfl) (aB _) ?_) | (go_at_call 139; refine (HAS.out _).mono ?_; rintro e wl ⟨rfl, hwl⟩; have hwl2 := hwl.symm; subst hwl2) | (go_at_call 128; refine (HLG.out _).mono ?_; rintro e w3 ⟨rfl, hb3⟩; have HB3 := hid hb3; clear hb3) | (refine aK (by rfl) 187 _ _ (by rfl) (by rfl) wz (wyc ky) (by rfl) (by rfl) (bZ _) (by rw [uL, iJ]) (rL _) ?_))
  refine bT (motive := fun W => Code.wp _ _ _ _ W) (Q := fun W => (Own w L W w.heap.size (cpc K) 31 ∧ Own w L W (w.heap.size + 1) #[.int .i64 op] 3 ∧ Own w L W (w.heap.size + 2) #[.int .u64 (n64 v)] 22 ∧ Own w L W (w.heap.size + 3) (cpc cz) 31 ∧ Own w L W (w.heap.size + 4) (tpc tN) 42) ∧ Own w L W w3.heap.size (wyc ky) 187 ∧ PSt B L w L S W ∧ Below w.heap.size w W)
   ⟨⟨(HO0.out.post HB3.out).post (aG _ _), (HOo.out.post HB3.out).post (aG _ _), (HOv.out.post HB3.out).post (aG _ _), (HO1.out.post HB3.out).post (aG _ _), (HO2.out.post HB3.out).post (aG _ _)⟩, Own.new (HP2.out.post HB3.out) _ _, (HP2.out.post HB3.out).al _, (HB2.out.trans (HB3.out.mono HB2.out.size)).trans ((aG _ _).mono (ZqO HB2.out.size HB3.out.size))⟩ ?_
  have HGW : Hid (w.heap.size + 4 < w3.heap.size) := by have := HB3.out.size; have := HO2.out.r.lt; unfold Hid; omega
  clear HO0 HOo HOv HO1 HO2 HP2 HB2 HB3 HLG HAS co
  generalize w3.heap.size = gw at HGW ⊢
  rintro W4 ⟨⟨o0, oo, ov, o1, o2⟩, o3, p2, b2⟩
  have c35 := o3.r.wcl.r
  have f35 := o3.r.froz
  go_upto_region 7 with fail
  refine bT (motive := fun W => Code.wp _ _ _ _ W) (Q := fun W => (Own w L W w.heap.size (cpc K) 31 ∧ Own w L W (w.heap.size + 1) #[.int .i64 op] 3 ∧ Own w L W (w.heap.size + 2) #[.int .u64 (n64 v)] 22 ∧ Own w L W (w.heap.size + 3) (cpc cz) 31 ∧ Own w L W (w.heap.size + 4) (tpc tN) 42) ∧ Own w L W gw (wyc { ky with r := 3 }) 187 ∧ PSt B L w L S W ∧ Below w.heap.size w W)
   ⟨⟨⟨o0.r.other (by have := HGW.out; omega) _, o0.n, o0.ge⟩, ⟨oo.r.other (by have := HGW.out; omega) _, oo.n, oo.ge⟩, ⟨ov.r.other (by have := HGW.out; omega) _, ov.n, ov.ge⟩, ⟨o1.r.other (by have := HGW.out; omega) _, o1.n, o1.ge⟩, ⟨o2.r.other (by have := HGW.out; omega) _, o2.n, o2.ge⟩⟩, ⟨by have q := o3.r.put (i := 35) (.int .i64 3); rw [wyc_r] at q; exact q, o3.n, o3.ge⟩, p2.put o3.n o3.ge _ _, aM b2 o3.ge _⟩ ?_
  clear o0 oo ov o1 o2 o3 p2 b2 c35 f35
  rintro W5 ⟨⟨o0, oo, ov, o1, o2⟩, o3, p2, b2⟩
  have HO0 := hid o0
  have HOo := hid oo
  have HOv := hid ov
  have HO1 := hid o1
  have HO2 := hid o2
  have HP2 := hid p2
  have HB2 := hid b2
  have HO3 := hid o3
  clear o0 oo ov o1 o2 o3 p2 b2
  have hmf : ∀ (fn : Fn) (first cap : Array Value) (w : World), (Instr.makeFunc fn first cap).run prog w = .ok (.func fn first cap) w := fun _ _ _ _ => rfl
  go_upto_region 8 with (first | (refine wpList_load_row (by rfl) _ _ (by rfl) _ (by rfl) 187 _ (0, 0) _ HO3.out.r underlying187 (by rfl) (bZ _) ?_) | (go_at_call 138; refine (HPL.out W5 _ HB2.out (HMA.out W5 HOo.out.r HOv.out.r)).mono ?_; rintro e w5 ⟨rfl, L1, hp5⟩; have HP5 := hid hp5; clear hp5) | (refine aK (by rfl) 42 _ _ (by rfl) (by rfl) (tpc tN) (tpc m.t) (by rfl) (by rfl) (aD _) (bC _ _) (aN _) ?_))
  refine bT (motive := fun W => Code.wp _ _ _ _ W) (Q := fun W => Own w L1 W w.heap.size (cpc K) 31 ∧ Own w L1 W (w.heap.size + 3) (cpc cz) 31 ∧ Own w L1 W (w.heap.size + 4) (tpc tN) 42 ∧ Own w L1 W w5.heap.size (tpc m.t) 42 ∧ PSt B L w L1 m.S W) ⟨(HO0.out.bus HP5.out).post (aG _ _), (HO1.out.bus HP5.out).post (aG _ _), (HO2.out.bus HP5.out).post (aG _ _), Own.new (HP2.out.trans HP5.out) _ _, (HP2.out.trans HP5.out).al _⟩ ?_
  have HGT : Hid (w.heap.size + 4 < w5.heap.size) := by have := HP5.out.x.size; have := HO2.out.r.lt; unfold Hid; omega
  clear HP2 HB2 HP5 HPL HMA HO3 HOo HOv HGW hmf
  generalize w5.heap.size = gt at HGT ⊢
  clear HO0 HO1 HO2
  rintro W6 ⟨o0, o1, o2, o3, p4⟩
  have HO0 := hid o0
  have HO1 := hid o1
  have HO2 := hid o2
  have HO3 := hid o3
  have HP4 := hid p4
  clear o0 o1 o2 o3 p4
  have ct : W6.cell? ⟨gt, 0, none⟩ = some (.bool m.t.is) := HO3.out.r.cell 0
  obtain ⟨q, hq⟩ : ∃ q, q = m.t.is := ⟨_, rfl⟩
  rw [← hq] at ct HSK
  clear hq
  cases q with
  | true =>
   have HK2 : Hid (K2 = K) := by unfold Hid; rw [HSK.out, if_pos rfl]
   clear HSK
   go_upto_region 10 with fail
   have hrw : Hid (∀ w9, Exc (fun j => j = w.heap.size + 3 ∨ j = w.heap.size + 4) W6 w9 → Row w9 w.heap.size (cpc K) 31 ∧ Row w9 gt (tpc m.t) 42) := fun w9 hx => ⟨(hx.block _ HO0.out.r.lt (fun e => by rcases e with e | e <;> omega)).trans HO0.out.r, (hx.block _ HO3.out.r.lt (fun e => by have := HGT.out; rcases e with e | e <;> omega)).trans HO3.out.r⟩
   have hS0 : Exc (fun j => j = w.heap.size + 3 ∨ j = w.heap.size + 4) W6 W6.drew := ⟨rfl, rfl, rfl, ZqE _, fun _ _ _ => rfl⟩
   have H1 : Row W6.drew (w.heap.size + 3) (cpc cz) 31 := HO1.out.r
   have H2 : Row (W6.drew.setRow (w.heap.size + 3) (cpc K)) (w.heap.size + 4) (tpc tN) 42 := (setRow_other _ _ _ _ (by omega)).trans HO2.out.r
   have hS1 : Exc (fun j => j = w.heap.size + 3 ∨ j = w.heap.size + 4) W6 (W6.drew.setRow (w.heap.size + 3) (cpc K)) := ⟨rfl, rfl, rfl, by simp, fun k hk hn => setRow_other _ _ _ _ (fun e => hn (.inl e))⟩
   have hS2 : Exc (fun j => j = w.heap.size + 3 ∨ j = w.heap.size + 4) W6 ((W6.drew.setRow (w.heap.size + 3) (cpc K)).setRow (w.heap.size + 4) (tpc m.t)) := ⟨rfl, rfl, rfl, by simp, fun k hk hn => (setRow_other _ _ _ _ (fun e => hn (.inr e))).trans (setRow_other _ _ _ _ (fun e => hn (.inl e)))⟩
   have HP9 : Hid (PSt B L w L1 m.S ((W6.drew.setRow (w.heap.size + 3) (cpc K)).setRow (w.heap.size + 4) (tpc m.t))) := ((HP4.out.post (ZqD _ _).drew).row HO1.out.n HO1.out.ge _).row HO2.out.n HO2.out.ge _
   have HR1 : Hid (Row ((W6.drew.setRow (w.heap.size + 3) (cpc K)).setRow (w.heap.size + 4) (tpc m.t)) (w.heap.size + 3) (cpc K) 31) := (setRow_other _ _ _ _ (by omega)).trans (ZqW _ _ _ _ _ _ H1)
   have HR2 : Hid (Row ((W6.drew.setRow (w.heap.size + 3) (cpc K)).setRow (w.heap.size + 4) (tpc m.t)) (w.heap.size + 4) (tpc m.t) 42) := ZqW _ _ _ _ _ _ H2
   refine wp_region_held (S := fun w' => Exc (fun j => j = w.heap.size + 3 ∨ j = w.heap.size + 4) W6 w') (by kernel_rfl) ?_
   change wpAnyH _ _ _ _ _ _ _ _ W6.drew
   refine aF 0 (some 53) (v := .int .u64 (n64 m.old)) rfl (by kernel_rfl) (by kernel_rfl) (by kernel_rfl) (by kernel_rfl) (fun _ _ _ h => h) (Or.inl ⟨by rfl, fun w9 hSw => by go_simp⟩) hS0 ?_
   try simp only [Act.put, ZqA, ZqB, ZqC]
   refine aF 1 (some 54) (v := .int .u64 (n64 m.st)) rfl (by kernel_rfl) (by kernel_rfl) (by kernel_rfl) (by kernel_rfl) (fun _ _ _ h => h) (Or.inl ⟨by rfl, fun w9 hSw => by go_simp⟩) hS0 ?_
   try simp only [Act.put, ZqA, ZqB, ZqC]
   refine aF 2 (some 55) (v := .agg (cpc K)) rfl (by kernel_rfl) (by kernel_rfl) (by kernel_rfl) (by kernel_rfl) (fun _ _ _ h => h) (Or.inl ⟨by rfl, fun w9 hSw => ?_⟩) hS0 ?_
   ·have q := bQ (P := prog) 31 (w.heap.size) (cpc K) _ w9 (hrw.out w9 hSw).1 underlying31 (by rfl) (aB _)
    unfold execOp
    exact q
   try simp only [Act.put, ZqA, ZqB, ZqC]
   refine aF 3 (some 56) (v := .agg (tpc m.t)) rfl (by kernel_rfl) (by kernel_rfl) (by kernel_rfl) (by kernel_rfl) (fun _ _ _ h => h) (Or.inl ⟨by rfl, fun w9 hSw => ?_⟩) hS0 ?_
   ·have q := bQ (P := prog) 42 (gt) (tpc m.t) _ w9 (hrw.out w9 hSw).2 underlying42 (by rfl) (aD _)
    unfold execOp
    exact q
   try simp only [Act.put, ZqA, ZqB, ZqC]
   refine aF 4 (some 10) (v := .int .u64 (n64 m.old)) rfl (by kernel_rfl) (by kernel_rfl) (by kernel_rfl) (by kernel_rfl) (fun _ _ _ h => h) (Or.inl ⟨by rfl, fun w9 hSw => by go_simp⟩) hS0 ?_
   try simp only [Act.put, ZqA, ZqB, ZqC]
   refine aF 5 (some 11) (v := .int .u64 (n64 m.st)) rfl (by kernel_rfl) (by kernel_rfl) (by kernel_rfl) (by kernel_rfl) (fun _ _ _ h => h) (Or.inl ⟨by rfl, fun w9 hSw => by go_simp⟩) hS0 ?_
   try simp only [Act.put, ZqA, ZqB, ZqC]
   refine aV 6 31 (.tmp 12) (.tmp 55) (by kernel_rfl) (by kernel_rfl) (w.heap.size + 3) (cpc cz) (cpc K) (by rfl) (by rfl) H1 (aB _) (by rw [aE, aE]) (aO _) hS1 ?_
   try simp only [Act.put, ZqA, ZqB, ZqC]
   refine aV 7 42 (.tmp 13) (.tmp 56) (by kernel_rfl) (by kernel_rfl) (w.heap.size + 4) (tpc tN) (tpc m.t) (by rfl) (by rfl) H2 (aD _) (bC _ _) (aN _) hS2 ?_
   try simp only [Act.put, ZqA, ZqB, ZqC]
   refine wpAnyH_done (by kernel_rfl) ?_ _
   go_wp2_with fail
   refine ZqH (v := .tuple #[.int .u64 (n64 m.old), .int .u64 (n64 m.st), .agg (cpc K), .agg (tpc m.t)]) (kF _ _ (w.heap.size + 3) (w.heap.size + 4) 31 42 _ _ (0, 0) (0, 0) _ _ _ _ results106 (by rfl) (by rfl) (by rfl) (by rfl) HR1.out HR2.out underlying31 (by rfl) (aB _) underlying42 (by rfl) (aD _)) rfl ⟨by rw [HK2.out], L1, HP9.out⟩
  | false =>
   have HK2 : Hid (K2 = bhK K ad sz) := by unfold Hid; rw [HSK.out, if_neg (by decide)]
   clear HSK
   have HR : Hid (∀ j v, (rsc K.rv K.ra K.rs)[j]? = some v → W6.cell? ⟨w.heap.size, 79 + j, none⟩ = some v) := HO0.out.r.res
   have HTH : Hid (∀ W, Below W6.heap.size W6 W → W.there w.heap.size 79 (rsc (bhK K ad sz).rv (bhK K ad sz).ra (bhK K ad sz).rs).size) := fun W hb => (HO0.out.post hb).r.there (by rw [aE]; show 79 + 3 ≤ 82; omega)
   go_upto_region 10 with (first | (refine aY (by rfl) _ _ (by rfl) w.heap.size 79 (by rfl) (rsc K.rv K.ra K.rs) _ HR.out underlying29 (by rfl) (cK _ _ _) ?_) | (go_at_call 131; refine (HBH.out _).mono ?_; rintro e w7 ⟨rfl, hb7⟩; have HB7 := hid hb7; clear hb7) | (refine aX (by rfl) _ _ _ (by rfl) (by rfl) w.heap.size 79 _ (by rfl) (by rfl) (HTH.out _ HB7.out) (cK _ _ _) (fF _ _ _) ?_))
   refine bT (motive := fun W => Code.wp _ _ _ _ W) (Q := fun W => Own w L1 W w.heap.size (cpc (bhK K ad sz)) 31 ∧ Own w L1 W (w.heap.size + 3) (cpc cz) 31 ∧ Own w L1 W (w.heap.size + 4) (tpc tN) 42 ∧ Own w L1 W gt (tpc m.t) 42 ∧ PSt B L w L1 m.S W) ⟨⟨by have q := (HO0.out.post HB7.out).r.lay (rsc (bhK K ad sz).rv (bhK K ad sz).ra (bhK K ad sz).rs).toList 79; rw [show (rsc (bhK K ad sz).rv (bhK K ad sz).ra (bhK K ad sz).rs).toList = [.bool (bhK K ad sz).rv, .int .u64 (n64 (bhK K ad sz).ra), .int .i64 (bhK K ad sz).rs] from rfl, iP, zQ] at q; exact q, HO0.out.n, HO0.out.ge⟩, ⟨(HO1.out.post HB7.out).r.lays (by omega) _ _, HO1.out.n, HO1.out.ge⟩, ⟨(HO2.out.post HB7.out).r.lays (by omega) _ _, HO2.out.n, HO2.out.ge⟩, ⟨(HO3.out.post HB7.out).r.lays (by have := HGT.out; omega) _ _, HO3.out.n, HO3.out.ge⟩, PSt.lay HO0.out.n HO0.out.ge _ _ (HP4.out.post HB7.out)⟩ ?_
   clear HP4 HB7 HR HTH ct HBH HO3
   clear HO0 HO1 HO2
   rintro W8 ⟨o0, o1, o2, o3, p4⟩
   have HO0 := hid o0
   have HO1 := hid o1
   have HO2 := hid o2
   have HO3 := hid o3
   have HP4 := hid p4
   clear o0 o1 o2 o3 p4
   have hrw : Hid (∀ w9, Exc (fun j => j = w.heap.size + 3 ∨ j = w.heap.size + 4) W8 w9 → Row w9 w.heap.size (cpc (bhK K ad sz)) 31 ∧ Row w9 gt (tpc m.t) 42) := fun w9 hx => ⟨(hx.block _ HO0.out.r.lt (fun e => by rcases e with e | e <;> omega)).trans HO0.out.r, (hx.block _ HO3.out.r.lt (fun e => by have := HGT.out; rcases e with e | e <;> omega)).trans HO3.out.r⟩
   have hS0 : Exc (fun j => j = w.heap.size + 3 ∨ j = w.heap.size + 4) W8 W8.drew := ⟨rfl, rfl, rfl, ZqE _, fun _ _ _ => rfl⟩
   have H1 : Row W8.drew (w.heap.size + 3) (cpc cz) 31 := HO1.out.r
   have H2 : Row (W8.drew.setRow (w.heap.size + 3) (cpc (bhK K ad sz))) (w.heap.size + 4) (tpc tN) 42 := (setRow_other _ _ _ _ (by omega)).trans HO2.out.r
   have hS1 : Exc (fun j => j = w.heap.size + 3 ∨ j = w.heap.size + 4) W8 (W8.drew.setRow (w.heap.size + 3) (cpc (bhK K ad sz))) := ⟨rfl, rfl, rfl, by simp, fun k hk hn => setRow_other _ _ _ _ (fun e => hn (.inl e))⟩
   have hS2 : Exc (fun j => j = w.heap.size + 3 ∨ j = w.heap.size + 4) W8 ((W8.drew.setRow (w.heap.size + 3) (cpc (bhK K ad sz))).setRow (w.heap.size + 4) (tpc m.t)) := ⟨rfl, rfl, rfl, by simp, fun k hk hn => (setRow_other _ _ _ _ (fun e => hn (.inr e))).trans (setRow_other _ _ _ _ (fun e => hn (.inl e)))⟩
   have HP9 : Hid (PSt B L w L1 m.S ((W8.drew.setRow (w.heap.size + 3) (cpc (bhK K ad sz))).setRow (w.heap.size + 4) (tpc m.t))) := ((HP4.out.post (ZqD _ _).drew).row HO1.out.n HO1.out.ge _).row HO2.out.n HO2.out.ge _
   have HR1 : Hid (Row ((W8.drew.setRow (w.heap.size + 3) (cpc (bhK K ad sz))).setRow (w.heap.size + 4) (tpc m.t)) (w.heap.size + 3) (cpc (bhK K ad sz)) 31) := (setRow_other _ _ _ _ (by omega)).trans (ZqW _ _ _ _ _ _ H1)
   have HR2 : Hid (Row ((W8.drew.setRow (w.heap.size + 3) (cpc (bhK K ad sz))).setRow (w.heap.size + 4) (tpc m.t)) (w.heap.size + 4) (tpc m.t) 42) := ZqW _ _ _ _ _ _ H2
   refine wp_region_held (S := fun w' => Exc (fun j => j = w.heap.size + 3 ∨ j = w.heap.size + 4) W8 w') (by kernel_rfl) ?_
   change wpAnyH _ _ _ _ _ _ _ _ W8.drew
   refine aF 0 (some 53) (v := .int .u64 (n64 m.old)) rfl (by kernel_rfl) (by kernel_rfl) (by kernel_rfl) (by kernel_rfl) (fun _ _ _ h => h) (Or.inl ⟨by rfl, fun w9 hSw => by go_simp⟩) hS0 ?_
   try simp only [Act.put, ZqA, ZqB, ZqC]
   refine aF 1 (some 54) (v := .int .u64 (n64 m.st)) rfl (by kernel_rfl) (by kernel_rfl) (by kernel_rfl) (by kernel_rfl) (fun _ _ _ h => h) (Or.inl ⟨by rfl, fun w9 hSw => by go_simp⟩) hS0 ?_
   try simp only [Act.put, ZqA, ZqB, ZqC]
   refine aF 2 (some 55) (v := .agg (cpc (bhK K ad sz))) rfl (by kernel_rfl) (by kernel_rfl) (by kernel_rfl) (by kernel_rfl) (fun _ _ _ h => h) (Or.inl ⟨by rfl, fun w9 hSw => ?_⟩) hS0 ?_
   ·have q := bQ (P := prog) 31 (w.heap.size) (cpc (bhK K ad sz)) _ w9 (hrw.out w9 hSw).1 underlying31 (by rfl) (aB _)
    unfold execOp
    exact q
   try simp only [Act.put, ZqA, ZqB, ZqC]
   refine aF 3 (some 56) (v := .agg (tpc m.t)) rfl (by kernel_rfl) (by kernel_rfl) (by kernel_rfl) (by kernel_rfl) (fun _ _ _ h => h) (Or.inl ⟨by rfl, fun w9 hSw => ?_⟩) hS0 ?_
   ·have q := bQ (P := prog) 42 (gt) (tpc m.t) _ w9 (hrw.out w9 hSw).2 underlying42 (by rfl) (aD _)
    unfold execOp
    exact q
   try simp only [Act.put, ZqA, ZqB, ZqC]
   refine aF 4 (some 10) (v := .int .u64 (n64 m.old)) rfl (by kernel_rfl) (by kernel_rfl) (by kernel_rfl) (by kernel_rfl) (fun _ _ _ h => h) (Or.inl ⟨by rfl, fun w9 hSw => by go_simp⟩) hS0 ?_
   try simp only [Act.put, ZqA, ZqB, ZqC]
   refine aF 5 (some 11) (v := .int .u64 (n64 m.st)) rfl (by kernel_rfl) (by kernel_rfl) (by kernel_rfl) (by kernel_rfl) (fun _ _ _ h => h) (Or.inl ⟨by rfl, fun w9 hSw => by go_simp⟩) hS0 ?_
   try simp only [Act.put, ZqA, ZqB, ZqC]
   refine aV 6 31 (.tmp 12) (.tmp 55) (by kernel_rfl) (by kernel_rfl) (w.heap.size + 3) (cpc cz) (cpc (bhK K ad sz)) (by rfl) (by rfl) H1 (aB _) (by rw [aE, aE]) (aO _) hS1 ?_
   try simp only [Act.put, ZqA, ZqB, ZqC]
   refine aV 7 42 (.tmp 13) (.tmp 56) (by kernel_rfl) (by kernel_rfl) (w.heap.size + 4) (tpc tN) (tpc m.t) (by rfl) (by rfl) H2 (aD _) (bC _ _) (aN _) hS2 ?_
   try simp only [Act.put, ZqA, ZqB, ZqC]
   refine wpAnyH_done (by kernel_rfl) ?_ _
   go_wp2_with fail
   refine ZqH (v := .tuple #[.int .u64 (n64 m.old), .int .u64 (n64 m.st), .agg (cpc (bhK K ad sz)), .agg (tpc m.t)]) (kF _ _ (w.heap.size + 3) (w.heap.size + 4) 31 42 _ _ (0, 0) (0, 0) _ _ _ _ results106 (by rfl) (by rfl) (by rfl) (by rfl) HR1.out HR2.out underlying31 (by rfl) (aB _) underlying42 (by rfl) (aD _)) rfl ⟨by rw [HK2.out], L1, HP9.out⟩
def n32 (x : BitVec 32) : Int := (x.toNat : Int)
end Go.Proofs.YtddlmenfcbjoaaaGreatDoor
