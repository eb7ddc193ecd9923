import Derived.Test.YtlhgphokfpnfeaaGreatDoorK02
import Derived.Test.YtlhgphokfpnfeaaGreatDoorK19
namespace Go.Proofs.YtlhgphokfpnfeaaGreatDoor
set_option linter.unusedVariables false
open Go.ChangeShapes Go.WideShapes Go.ChangeAt Go.RowKit Go.Deep
/-- What an AMO makes. -/
def amV (op : Int) (x y : BitVec 64) : BitVec 64 := if op ≤ 85 then mW (op - 77).toNat x y else mD (op - 88).toNat x y
theorem arAmo_c (op : Int) (h : amSz op ≠ 0) (x y : BitVec 64) (w : World) : Calls Tryz.prog 62 #[.int .i64 op, .int .u64 (n64 x), .int .u64 (n64 y)] w fun e w' => e = .returned (.tuple #[.int .u64 (n64 (amV op x y)), .bool true]) ∧ Below w.heap.size w w' := by
  unfold amV
  by_cases h1 : 77 ≤ op ∧ op ≤ 85
  · obtain ⟨n, hn, hl⟩ : ∃ n : Nat, op = 77 + (n : Int) ∧ n < 9 := ⟨(op - 77).toNat, by omega, by omega⟩
    subst hn
    rw [if_pos (by omega), show ((77 + (n : Int)) - 77).toNat = n by omega]
    exact arith_mW n hl x y w
  · by_cases h2 : 88 ≤ op ∧ op ≤ 96
    · obtain ⟨n, hn, hl⟩ : ∃ n : Nat, op = 88 + (n : Int) ∧ n < 9 := ⟨(op - 88).toNat, by omega, by omega⟩
      subst hn
      rw [if_neg (by omega), show ((88 + (n : Int)) - 88).toNat = n by omega]
      exact arith_mD n hl x y w
    · exact absurd (by unfold amSz; rw [if_neg h1, if_neg h2]) h
set_option maxRecDepth 100000 in
theorem amo1_c (op : Int) (h : amSz op ≠ 0) (x v : BitVec 64) (g1 g2 : Nat) (w : World) (c1 : w.cell? ⟨g1, 0, none⟩ = some (.int .i64 op)) (c2 : w.cell? ⟨g2, 0, none⟩ = some (.int .u64 (n64 v))) : Calls Tryz.prog 61 #[.int .u64 (n64 x), .pointer (some ⟨g1, 0, none⟩), .pointer (some ⟨g2, 0, none⟩)] w fun e w' => e = .returned (.int .u64 (n64 (amV op x v))) ∧ Below w.heap.size w w' := by
  have HA : Hid (∀ W, Calls Tryz.prog 62 #[.int .i64 op, .int .u64 (n64 x), .int .u64 (n64 v)] W fun e w' => e = .returned (.tuple #[.int .u64 (n64 (amV op x v)), .bool true]) ∧ Below W.heap.size W w') := fun W => arAmo_c op h x v W
  go_enter Tryz.func61, Tryz.ntmps61
  go_wp2_with (go_at_call 62; refine (HA.out _).mono ?_; rintro e w1 ⟨rfl, hb1⟩; have HB1 : Hid (Below w.heap.size w w1) := hb1; clear hb1)
  go_ret
  exact ⟨rfl, HB1.out⟩
theorem mde_amo {B : Nat} {L : Lay} {w : World} (op : Int) (h : amSz op ≠ 0) (v : BitVec 64) (g1 g2 : Nat) (h1 : Row w g1 #[.int .i64 op] 3) (h2 : Row w g2 #[.int .u64 (n64 v)] 22) (n1 : ¬ L.own g1) (n2 : ¬ L.own g2) : Mde B L w (.func (.func 61) #[] #[.pointer (some ⟨g1, 0, none⟩), .pointer (some ⟨g2, 0, none⟩)]) (some fun x => amV op x v) :=
  .two _ _ _ _ (fun x W => by kernel_rfl) (fun L1 S1 W hp x => amo1_c op h x v g1 g2 W (Row.cell ((hp.x.block g1 h1.lt n1).trans h1) 0) (Row.cell ((hp.x.block g2 h2.lt n2).trans h2) 0))
/-- An AMO. -/
def AM (S : St) (K : Cp) (b : Nat) (op : Int) (ad v : BitVec 64) : Mv := if amSz op = 0 then ⟨0#64, 0#64, tS 2 0#64, S⟩ else AT S { wS b K ad with r := 3 } (amSz op) (some fun x => amV op x v)
set_option maxRecDepth 100000 in
set_option maxHeartbeats 4000000 in
theorem aAmo_c {B : Nat} {L : Lay} {S : St} (w : World) (h : PB B L S w) (hs : Sok S) (hT : Tb w) (hB : 0 < B) (k : Cp) (op : Int) (ad v : BitVec 64) :
    Calls Tryz.prog 38 #[.agg (cpc k), .pointer (some ⟨L.b, 0, none⟩), .int .i64 op, .int .u64 (n64 ad), .int .u64 (n64 v)] w fun e w' => e = .returned (.tuple #[.int .u64 (n64 (AM S (PR k) L.b op ad v).old), .int .u64 (n64 (AM S (PR k) L.b op ad v).st), .agg (cpc (stK (PR k) (AM S (PR k) L.b op ad v) ad (amSz op))), .agg (tpc (AM S (PR k) L.b op ad v).t)]) ∧ ∃ L', PSt B L w L' (AM S (PR k) L.b op ad v).S w' := by
  obtain ⟨W0, hW0, hb0⟩ : ∃ W, ((((w.alloc (.cells (cpc k) 31)).alloc (.cells #[.int .i64 op] 3)).alloc (.cells #[.int .u64 (n64 v)] 22)).alloc (.cells (cpc cz) 31)).alloc (.cells (tpc tN) 48) = W ∧ (Row W w.heap.size (cpc k) 31 ∧ Row W (w.heap.size + 1) #[.int .i64 op] 3 ∧ Row W (w.heap.size + 2) #[.int .u64 (n64 v)] 22 ∧ Row W (w.heap.size + 3) (cpc cz) 31 ∧ Row W (w.heap.size + 4) (tpc tN) 48 ∧ Below w.heap.size w W) := by
    refine ⟨_, rfl, ?_, ?_, ?_, ?_, ?_, ?_⟩
    · exact ((((Row.new w _ _).old (by simp) _).old (by simp <;> omega) _).old (by simp <;> omega) _).old (by simp <;> omega) _
    · exact ((((by have q := Row.new (w.alloc (.cells (cpc k) 31)) #[.int .i64 op] 3; simpa using q : Row ((w.alloc (.cells (cpc k) 31)).alloc (.cells #[.int .i64 op] 3)) (w.heap.size + 1) #[.int .i64 op] 3).old (by simp) _).old (by simp <;> omega) _).old (by simp <;> omega) _)
    · exact (((by have q := Row.new ((w.alloc (.cells (cpc k) 31)).alloc (.cells #[.int .i64 op] 3)) #[.int .u64 (n64 v)] 22; simpa using q : Row (((w.alloc (.cells (cpc k) 31)).alloc (.cells #[.int .i64 op] 3)).alloc (.cells #[.int .u64 (n64 v)] 22)) (w.heap.size + 2) #[.int .u64 (n64 v)] 22).old (by simp) _).old (by simp <;> omega) _)
    · exact ((by have q := Row.new (((w.alloc (.cells (cpc k) 31)).alloc (.cells #[.int .i64 op] 3)).alloc (.cells #[.int .u64 (n64 v)] 22)) (cpc cz) 31; simpa using q : Row ((((w.alloc (.cells (cpc k) 31)).alloc (.cells #[.int .i64 op] 3)).alloc (.cells #[.int .u64 (n64 v)] 22)).alloc (.cells (cpc cz) 31)) (w.heap.size + 3) (cpc cz) 31).old (by simp) _)
    · have q := Row.new ((((w.alloc (.cells (cpc k) 31)).alloc (.cells #[.int .i64 op] 3)).alloc (.cells #[.int .u64 (n64 v)] 22)).alloc (.cells (cpc cz) 31)) (tpc tN) 48
      simpa using q
    · exact ((((below_al w _).trans ((below_al _ _).mono (by simp))).trans ((below_al _ _).mono (by simp <;> omega))).trans ((below_al _ _).mono (by simp <;> omega))).trans ((below_al _ _).mono (by simp <;> omega))
  obtain ⟨r0, r1, r2, r3, r4, b0⟩ := hb0
  have hzt := zero_trap
  have hzc := zero_cpu
  have hzw := zero_way
  have HP0 : Hid (PSt B L w L S W0) := (PSt.refl h).post b0
  have hlo : ∀ g, w.heap.size ≤ g → ¬ L.own g := fun g hg e => by have := h.own_hi _ e; omega
  have HO0 : Hid (Own w L W0 w.heap.size (cpc k) 31) := ⟨r0, hlo _ (by omega), by omega⟩
  have HOo : Hid (Own w L W0 (w.heap.size + 1) #[.int .i64 op] 3) := ⟨r1, hlo _ (by omega), by omega⟩
  have HOv : Hid (Own w L W0 (w.heap.size + 2) #[.int .u64 (n64 v)] 22) := ⟨r2, hlo _ (by omega), by omega⟩
  have HO1 : Hid (Own w L W0 (w.heap.size + 3) (cpc cz) 31) := ⟨r3, hlo _ (by omega), by omega⟩
  have HO2 : Hid (Own w L W0 (w.heap.size + 4) (tpc tN) 48) := ⟨r4, hlo _ (by omega), by omega⟩
  have HPR : Hid (∀ W, Calls Tryz.prog 45 #[.agg (cpc k)] W fun e w' => e = .returned (.agg (cpc (PR k))) ∧ Below W.heap.size W w') := fun W => Pr_c k W
  have HB0 : Hid (Below w.heap.size w W0) := b0
  have HLG : Hid (∀ W, Calls Tryz.prog 46 #[.agg (cpc (PR k)), .pointer (some ⟨L.b, 0, none⟩), .int .u64 (n64 ad)] W fun e w' => e = .returned (.agg (wyc (wS L.b (PR k) ad))) ∧ Below W.heap.size W w') := fun W => by
    have q := storing_c (PR k) L.b ad W
    rw [PR_PR] at q
    exact q
  have HPL : Hid (amSz op ≠ 0 → ∀ W M, Below w.heap.size w W → Mde B L W M (some fun x => amV op x v) → Calls Tryz.prog 59 #[.agg (wyc { wS L.b (PR k) ad with r := 3 }), .int .i64 (amSz op), M] W fun e w' => e = .returned (.tuple #[.int .u64 (n64 (AM S (PR k) L.b op ad v).old), .int .u64 (n64 (AM S (PR k) L.b op ad v).st), .agg (tpc (AM S (PR k) L.b op ad v).t)]) ∧ ∃ L', PSt B L W L' (AM S (PR k) L.b op ad v).S w') := fun hz W M hb hM => by
    have e : (AM S (PR k) L.b op ad v) = AT S { wS L.b (PR k) ad with r := 3 } (amSz op) (some fun x => amV op x v) := by unfold AM; rw [if_neg hz]
    rw [e]
    exact atomic_c W (h.later hb) hs (hT.next hb) hB { wS L.b (PR k) ad with r := 3 } rfl (amSz op) M _ hM
  have HA0 : Hid (amSz op = 0 → (AM S (PR k) L.b op ad v) = ⟨0#64, 0#64, tS 2 0#64, S⟩) := fun q => by unfold AM; rw [if_pos q]
  have HAS : Hid (∀ W, Calls Tryz.prog 60 #[.int .i64 op] W fun e w' => e = .returned (.tuple #[.int .i64 (amSz op), .bool (decide (amSz op ≠ 0))]) ∧ w' = W) := fun W => amoSize_c op W
  have HMA : Hid (amSz op ≠ 0 → ∀ W, Row W (w.heap.size + 1) #[.int .i64 op] 3 → Row W (w.heap.size + 2) #[.int .u64 (n64 v)] 22 → Mde B L W (.func (.func 61) #[] #[.pointer (some ⟨w.heap.size + 1, 0, none⟩), .pointer (some ⟨w.heap.size + 2, 0, none⟩)]) (some fun x => amV op x v)) := fun hz W q1 q2 => mde_amo op hz v _ _ q1 q2 (hlo _ (by omega)) (hlo _ (by omega))
  generalize (AM S (PR k) L.b op ad v) = m at HPL HA0 ⊢
  obtain ⟨ky, hky⟩ : ∃ ky, ky = wS L.b (PR k) ad := ⟨_, rfl⟩
  rw [← hky] at HPL HLG
  clear hky
  generalize PR k = K at HPR HLG ⊢
  have HBH : Hid (∀ W, Calls Tryz.prog 49 #[.agg (rsc K.rv K.ra K.rs), .int .u64 (n64 ad), .int .i64 (amSz op)] W fun e w' => e = .returned (.agg (rsc (bhK K ad (amSz op)).rv (bhK K ad (amSz op)).ra (bhK K ad (amSz op)).rs)) ∧ Below W.heap.size W w') := fun W => behind_c K ad (amSz op) W
  have HSK : Hid (stK K m ad (amSz op) = if m.t.is = true then K else bhK K ad (amSz op)) := rfl
  generalize amSz op = sz at HPL HA0 HAS HMA HBH HSK ⊢
  obtain ⟨K2, hK2⟩ : ∃ K2, K2 = stK K m ad sz := ⟨_, rfl⟩
  rw [← hK2] at HSK ⊢
  clear hK2 h hs hT r0 r1 r2 r3 r4 b0
  go_enter Tryz.func38, Tryz.ntmps38
  go_upto_region 1 with fail
  clear hW0
  go_upto_region 2 with (first | (refine wpList_load_row (by rfl) _ _ (by rfl) _ (by rfl) 31 _ (0, 0) _ HO0.out.r Tryz.underlying31 (by rfl) (info_cpu _) ?_) | (go_at_call 45; refine (HPR.out _).mono ?_; rintro e w1 ⟨rfl, hb1⟩; have HB1 : Hid (Below W0.heap.size W0 w1) := hb1; clear hb1) | (refine wpList_store_row (by rfl) _ _ _ (by rfl) (by rfl) _ _ _ (by rfl) (by rfl) (HO0.out.post HB1.out).r (info_cpu _) (by rw [cpc_size, cpc_size]) (cpc_ones _) ?_))
  refine on_P (motive := fun W => Code.wp _ _ _ _ W) (Q := fun W => (Own w L W w.heap.size (cpc K) 31 ∧ Own w L W (w.heap.size + 1) #[.int .i64 op] 3 ∧ Own w L W (w.heap.size + 2) #[.int .u64 (n64 v)] 22 ∧ Own w L W (w.heap.size + 3) (cpc cz) 31 ∧ Own w L W (w.heap.size + 4) (tpc tN) 48) ∧ PSt B L w L S W ∧ Below w.heap.size w W)
    ⟨⟨⟨setRow_heap _ _ _ _ _ _ (HO0.out.post HB1.out).r, HO0.out.n, HO0.out.ge⟩, ⟨(setRow_other _ _ _ _ (by omega)).trans (HOo.out.post HB1.out).r, HOo.out.n, HOo.out.ge⟩, ⟨(setRow_other _ _ _ _ (by omega)).trans (HOv.out.post HB1.out).r, HOv.out.n, HOv.out.ge⟩, ⟨(setRow_other _ _ _ _ (by omega)).trans (HO1.out.post HB1.out).r, HO1.out.n, HO1.out.ge⟩, ⟨(setRow_other _ _ _ _ (by omega)).trans (HO2.out.post HB1.out).r, HO2.out.n, HO2.out.ge⟩⟩, (HP0.out.post HB1.out).row HO0.out.n HO0.out.ge _, below_row (HB0.out.trans (HB1.out.mono HB0.out.size)) (Nat.le_refl _) _⟩ ?_
  clear HO0 HOo HOv HO1 HO2 HP0 HB0 HB1 HPR
  rintro W2 ⟨⟨o0, oo, ov, o1, o2⟩, p2, b2⟩
  have HO0 : Hid (Own w L W2 w.heap.size (cpc K) 31) := o0
  have HOo : Hid (Own w L W2 (w.heap.size + 1) #[.int .i64 op] 3) := oo
  have HOv : Hid (Own w L W2 (w.heap.size + 2) #[.int .u64 (n64 v)] 22) := ov
  have HO1 : Hid (Own w L W2 (w.heap.size + 3) (cpc cz) 31) := o1
  have HO2 : Hid (Own w L W2 (w.heap.size + 4) (tpc tN) 48) := o2
  have HP2 : Hid (PSt B L w L S W2) := p2
  have HB2 : Hid (Below w.heap.size w W2) := b2
  have co : W2.cell? ⟨w.heap.size + 1, 0, none⟩ = some (.int .i64 op) := oo.r.cell 0
  clear o0 oo ov o1 o2 p2 b2
  by_cases hz0 : sz = 0
  · rw [show decide (sz ≠ 0) = false by simp [hz0]] at HAS
    have hm := HA0.out hz0
    have HMt : Hid (m.t = tS 2 0#64) := by unfold Hid; rw [hm]
    have HMo : Hid (m.old = 0#64) := by unfold Hid; rw [hm]
    have HMs : Hid (m.st = 0#64) := by unfold Hid; rw [hm]
    have HMS : Hid (m.S = S) := by unfold Hid; rw [hm]
    have HK2 : Hid (K2 = K) := by unfold Hid; rw [HSK.out, if_pos (by rw [HMt.out]; rfl)]
    have HP4 : Hid (PSt B L w L m.S W2) := by unfold Hid; rw [HMS.out]; exact HP2.out
    clear hm HSK HA0 HPL HMA HBH HP2
    go_upto_region 4 with (go_at_call 60; refine (HAS.out _).mono ?_; rintro e wl ⟨rfl, hwl⟩; have hwl2 := hwl.symm; subst hwl2)
    have hrw : Hid (∀ w9, Exc (fun j => j = w.heap.size + 3 ∨ j = w.heap.size + 4) W2 w9 → Row w9 w.heap.size (cpc K) 31 ∧ True) := fun w9 hx => ⟨(hx.block _ HO0.out.r.lt (fun e => by rcases e with e | e <;> omega)).trans HO0.out.r, trivial⟩
    have hS0 : Exc (fun j => j = w.heap.size + 3 ∨ j = w.heap.size + 4) W2 W2.drew := ⟨rfl, rfl, rfl, Nat.le_refl _, fun _ _ _ => rfl⟩
    have H1 : Row W2.drew (w.heap.size + 3) (cpc cz) 31 := HO1.out.r
    have H2 : Row (W2.drew.setRow (w.heap.size + 3) (cpc K)) (w.heap.size + 4) (tpc tN) 48 := (setRow_other _ _ _ _ (by omega)).trans HO2.out.r
    have hS1 : Exc (fun j => j = w.heap.size + 3 ∨ j = w.heap.size + 4) W2 (W2.drew.setRow (w.heap.size + 3) (cpc K)) := ⟨rfl, rfl, rfl, by simp, fun k hk hn => setRow_other _ _ _ _ (fun e => hn (.inl e))⟩
    have hS2 : Exc (fun j => j = w.heap.size + 3 ∨ j = w.heap.size + 4) W2 ((W2.drew.setRow (w.heap.size + 3) (cpc K)).setRow (w.heap.size + 4) (tpc m.t)) := ⟨rfl, rfl, rfl, by simp, fun k hk hn => (setRow_other _ _ _ _ (fun e => hn (.inr e))).trans (setRow_other _ _ _ _ (fun e => hn (.inl e)))⟩
    have HP9 : Hid (PSt B L w L m.S ((W2.drew.setRow (w.heap.size + 3) (cpc K)).setRow (w.heap.size + 4) (tpc m.t))) := ((HP4.out.post (Below.refl _ _).drew).row HO1.out.n HO1.out.ge _).row HO2.out.n HO2.out.ge _
    have HR1 : Hid (Row ((W2.drew.setRow (w.heap.size + 3) (cpc K)).setRow (w.heap.size + 4) (tpc m.t)) (w.heap.size + 3) (cpc K) 31) := (setRow_other _ _ _ _ (by omega)).trans (setRow_heap _ _ _ _ _ _ H1)
    have HR2 : Hid (Row ((W2.drew.setRow (w.heap.size + 3) (cpc K)).setRow (w.heap.size + 4) (tpc m.t)) (w.heap.size + 4) (tpc m.t) 48) := setRow_heap _ _ _ _ _ _ H2
    refine wp_region_held (S := fun w' => Exc (fun j => j = w.heap.size + 3 ∨ j = w.heap.size + 4) W2 w') (by kernel_rfl) ?_
    change wpAnyH _ _ _ _ _ _ _ _ W2.drew
    refine wpAnyH_takeD 0 (some 29) (v := .agg (cpc K)) rfl (by kernel_rfl) (by kernel_rfl) (by kernel_rfl) (by kernel_rfl) (fun _ _ _ h => h) (Or.inl ⟨by rfl, fun w9 hSw => ?_⟩) hS0 ?_
    · have q := load_rows (P := Tryz.prog) 31 (w.heap.size) (cpc K) _ w9 (hrw.out w9 hSw).1 Tryz.underlying31 (by rfl) (info_cpu _)
      unfold execOp
      exact q
    try simp only [Act.put, List.setIfInBounds_toArray, List.set_cons_zero, List.set_cons_succ]
    refine wpAnyH_takeD 1 (some 30) (v := .agg (tpc m.t)) rfl (by kernel_rfl) (by kernel_rfl) (by kernel_rfl) (by kernel_rfl) (fun _ _ _ h => h) (Or.inl ⟨by rfl, fun w9 hSw => by rw [HMt.out]; exact build_yield 48 _ (by rfl) (tpc (tS 2 0#64)) (by kernel_rfl) w9⟩) hS0 ?_
    try simp only [Act.put, List.setIfInBounds_toArray, List.set_cons_zero, List.set_cons_succ]
    refine wpAnyH_takeD 2 (some 10) (v := .int .u64 0) rfl (by kernel_rfl) (by kernel_rfl) (by kernel_rfl) (by kernel_rfl) (fun _ _ _ h => h) (Or.inl ⟨by rfl, fun w9 hSw => by go_simp⟩) hS0 ?_
    try simp only [Act.put, List.setIfInBounds_toArray, List.set_cons_zero, List.set_cons_succ]
    refine wpAnyH_takeD 3 (some 11) (v := .int .u64 0) rfl (by kernel_rfl) (by kernel_rfl) (by kernel_rfl) (by kernel_rfl) (fun _ _ _ h => h) (Or.inl ⟨by rfl, fun w9 hSw => by go_simp⟩) hS0 ?_
    try simp only [Act.put, List.setIfInBounds_toArray, List.set_cons_zero, List.set_cons_succ]
    refine wpAnyH_store_row 4 31 (.tmp 12) (.tmp 29) (by kernel_rfl) (by kernel_rfl) (w.heap.size + 3) (cpc cz) (cpc K) (by rfl) (by rfl) H1 (info_cpu _) (by rw [cpc_size, cpc_size]) (cpc_ones _) hS1 ?_
    try simp only [Act.put, List.setIfInBounds_toArray, List.set_cons_zero, List.set_cons_succ]
    refine wpAnyH_store_row 5 48 (.tmp 13) (.tmp 30) (by kernel_rfl) (by kernel_rfl) (w.heap.size + 4) (tpc tN) (tpc m.t) (by rfl) (by rfl) H2 (info_trap _) (tpc_sz _ _) (tpc_ones _) hS2 ?_
    try simp only [Act.put, List.setIfInBounds_toArray, List.set_cons_zero, List.set_cons_succ]
    refine wpAnyH_done (by kernel_rfl) ?_ _
    go_wp2_with fail
    refine bodyPost_ret (v := .tuple #[.int .u64 0, .int .u64 0, .agg (cpc K), .agg (tpc m.t)]) (results_sscc _ _ (w.heap.size + 3) (w.heap.size + 4) 31 48 _ _ (0, 0) (0, 0) _ _ _ _ Tryz.results38 (by rfl) (by rfl) (by rfl) (by rfl) HR1.out HR2.out Tryz.underlying31 (by rfl) (info_cpu _) Tryz.underlying48 (by rfl) (info_trap _)) rfl ⟨by rw [HK2.out, HMo.out, HMs.out]; rfl, L, HP9.out⟩
  · rw [show decide (sz ≠ 0) = true by simp [hz0]] at HAS
    have HPL2 := HPL.out hz0
    have HMA2 := HMA.out hz0
    have HPL : Hid _ := HPL2
    have HMA : Hid _ := HMA2
    clear HPL2 HMA2 HA0
    go_upto_region 6 with (first | (refine wpList_load_row (by rfl) _ _ (by rfl) _ (by rfl) 31 _ (0, 0) _ HO0.out.r Tryz.underlying31 (by rfl) (info_cpu _) ?_) | (go_at_call 60; refine (HAS.out _).mono ?_; rintro e wl ⟨rfl, hwl⟩; have hwl2 := hwl.symm; subst hwl2) | (go_at_call 46; refine (HLG.out _).mono ?_; rintro e w3 ⟨rfl, hb3⟩; have HB3 : Hid (Below W2.heap.size W2 w3) := hb3; clear hb3) | (refine wpList_store_new (by rfl) 127 _ _ (by rfl) (by rfl) wz (wyc ky) (by rfl) (by rfl) (info_way _) (by rw [wz_size, wyc_size]) (wyc_ones _) ?_))
    refine on_P (motive := fun W => Code.wp _ _ _ _ W) (Q := fun W => (Own w L W w.heap.size (cpc K) 31 ∧ Own w L W (w.heap.size + 1) #[.int .i64 op] 3 ∧ Own w L W (w.heap.size + 2) #[.int .u64 (n64 v)] 22 ∧ Own w L W (w.heap.size + 3) (cpc cz) 31 ∧ Own w L W (w.heap.size + 4) (tpc tN) 48) ∧ Own w L W w3.heap.size (wyc ky) 127 ∧ PSt B L w L S W ∧ Below w.heap.size w W)
      ⟨⟨(HO0.out.post HB3.out).post (below_al _ _), (HOo.out.post HB3.out).post (below_al _ _), (HOv.out.post HB3.out).post (below_al _ _), (HO1.out.post HB3.out).post (below_al _ _), (HO2.out.post HB3.out).post (below_al _ _)⟩, Own.new (HP2.out.post HB3.out) _ _, (HP2.out.post HB3.out).al _, (HB2.out.trans (HB3.out.mono HB2.out.size)).trans ((below_al _ _).mono (Nat.le_trans HB2.out.size HB3.out.size))⟩ ?_
    have HGW : Hid (w.heap.size + 4 < w3.heap.size) := by have := HB3.out.size; have := HO2.out.r.lt; unfold Hid; omega
    clear HO0 HOo HOv HO1 HO2 HP2 HB2 HB3 HLG HAS co
    generalize w3.heap.size = gw at HGW ⊢
    rintro W4 ⟨⟨o0, oo, ov, o1, o2⟩, o3, p2, b2⟩
    have c35 := o3.r.wcl.r
    have f35 := o3.r.froz
    go_upto_region 7 with fail
    refine on_P (motive := fun W => Code.wp _ _ _ _ W) (Q := fun W => (Own w L W w.heap.size (cpc K) 31 ∧ Own w L W (w.heap.size + 1) #[.int .i64 op] 3 ∧ Own w L W (w.heap.size + 2) #[.int .u64 (n64 v)] 22 ∧ Own w L W (w.heap.size + 3) (cpc cz) 31 ∧ Own w L W (w.heap.size + 4) (tpc tN) 48) ∧ Own w L W gw (wyc { ky with r := 3 }) 127 ∧ PSt B L w L S W ∧ Below w.heap.size w W)
      ⟨⟨⟨o0.r.other (by have := HGW.out; omega) _, o0.n, o0.ge⟩, ⟨oo.r.other (by have := HGW.out; omega) _, oo.n, oo.ge⟩, ⟨ov.r.other (by have := HGW.out; omega) _, ov.n, ov.ge⟩, ⟨o1.r.other (by have := HGW.out; omega) _, o1.n, o1.ge⟩, ⟨o2.r.other (by have := HGW.out; omega) _, o2.n, o2.ge⟩⟩, ⟨by have q := o3.r.put (i := 35) (.int .i64 3); rw [wyc_r] at q; exact q, o3.n, o3.ge⟩, p2.put o3.n o3.ge _ _, below_put b2 o3.ge _⟩ ?_
    clear o0 oo ov o1 o2 o3 p2 b2 c35 f35
    rintro W5 ⟨⟨o0, oo, ov, o1, o2⟩, o3, p2, b2⟩
    have HO0 : Hid (Own w L W5 w.heap.size (cpc K) 31) := o0
    have HOo : Hid (Own w L W5 (w.heap.size + 1) #[.int .i64 op] 3) := oo
    have HOv : Hid (Own w L W5 (w.heap.size + 2) #[.int .u64 (n64 v)] 22) := ov
    have HO1 : Hid (Own w L W5 (w.heap.size + 3) (cpc cz) 31) := o1
    have HO2 : Hid (Own w L W5 (w.heap.size + 4) (tpc tN) 48) := o2
    have HP2 : Hid (PSt B L w L S W5) := p2
    have HB2 : Hid (Below w.heap.size w W5) := b2
    have HO3 : Hid (Own w L W5 gw (wyc { ky with r := 3 }) 127) := o3
    clear o0 oo ov o1 o2 o3 p2 b2
    have hmf : ∀ (fn : Fn) (first cap : Array Value) (w : World), (Instr.makeFunc fn first cap).run Tryz.prog w = .ok (.func fn first cap) w := fun _ _ _ _ => rfl
    go_upto_region 8 with (first | (refine wpList_load_row (by rfl) _ _ (by rfl) _ (by rfl) 127 _ (0, 0) _ HO3.out.r Tryz.underlying127 (by rfl) (info_way _) ?_) | (go_at_call 59; refine (HPL.out W5 _ HB2.out (HMA.out W5 HOo.out.r HOv.out.r)).mono ?_; rintro e w5 ⟨rfl, L1, hp5⟩; have HP5 : Hid (PSt B L W5 L1 m.S w5) := hp5; clear hp5) | (refine wpList_store_new (by rfl) 48 _ _ (by rfl) (by rfl) (tpc tN) (tpc m.t) (by rfl) (by rfl) (info_trap _) (tpc_sz _ _) (tpc_ones _) ?_))
    refine on_P (motive := fun W => Code.wp _ _ _ _ W) (Q := fun W => Own w L1 W w.heap.size (cpc K) 31 ∧ Own w L1 W (w.heap.size + 3) (cpc cz) 31 ∧ Own w L1 W (w.heap.size + 4) (tpc tN) 48 ∧ Own w L1 W w5.heap.size (tpc m.t) 48 ∧ PSt B L w L1 m.S W) ⟨(HO0.out.bus HP5.out).post (below_al _ _), (HO1.out.bus HP5.out).post (below_al _ _), (HO2.out.bus HP5.out).post (below_al _ _), Own.new (HP2.out.trans HP5.out) _ _, (HP2.out.trans HP5.out).al _⟩ ?_
    have HGT : Hid (w.heap.size + 4 < w5.heap.size) := by have := HP5.out.x.size; have := HO2.out.r.lt; unfold Hid; omega
    clear HP2 HB2 HP5 HPL HMA HO3 HOo HOv HGW hmf
    generalize w5.heap.size = gt at HGT ⊢
    clear HO0 HO1 HO2
    rintro W6 ⟨o0, o1, o2, o3, p4⟩
    have HO0 : Hid (Own w L1 W6 w.heap.size (cpc K) 31) := o0
    have HO1 : Hid (Own w L1 W6 (w.heap.size + 3) (cpc cz) 31) := o1
    have HO2 : Hid (Own w L1 W6 (w.heap.size + 4) (tpc tN) 48) := o2
    have HO3 : Hid (Own w L1 W6 gt (tpc m.t) 48) := o3
    have HP4 : Hid (PSt B L w L1 m.S W6) := p4
    clear o0 o1 o2 o3 p4
    have ct : W6.cell? ⟨gt, 0, none⟩ = some (.bool m.t.is) := HO3.out.r.cell 0
    obtain ⟨q, hq⟩ : ∃ q, q = m.t.is := ⟨_, rfl⟩
    rw [← hq] at ct HSK
    clear hq
    cases q with
    | true =>
      have HK2 : Hid (K2 = K) := by unfold Hid; rw [HSK.out, if_pos rfl]
      clear HSK
      go_upto_region 10 with fail
      have hrw : Hid (∀ w9, Exc (fun j => j = w.heap.size + 3 ∨ j = w.heap.size + 4) W6 w9 → Row w9 w.heap.size (cpc K) 31 ∧ Row w9 gt (tpc m.t) 48) := fun w9 hx => ⟨(hx.block _ HO0.out.r.lt (fun e => by rcases e with e | e <;> omega)).trans HO0.out.r, (hx.block _ HO3.out.r.lt (fun e => by have := HGT.out; rcases e with e | e <;> omega)).trans HO3.out.r⟩
      have hS0 : Exc (fun j => j = w.heap.size + 3 ∨ j = w.heap.size + 4) W6 W6.drew := ⟨rfl, rfl, rfl, Nat.le_refl _, fun _ _ _ => rfl⟩
      have H1 : Row W6.drew (w.heap.size + 3) (cpc cz) 31 := HO1.out.r
      have H2 : Row (W6.drew.setRow (w.heap.size + 3) (cpc K)) (w.heap.size + 4) (tpc tN) 48 := (setRow_other _ _ _ _ (by omega)).trans HO2.out.r
      have hS1 : Exc (fun j => j = w.heap.size + 3 ∨ j = w.heap.size + 4) W6 (W6.drew.setRow (w.heap.size + 3) (cpc K)) := ⟨rfl, rfl, rfl, by simp, fun k hk hn => setRow_other _ _ _ _ (fun e => hn (.inl e))⟩
      have hS2 : Exc (fun j => j = w.heap.size + 3 ∨ j = w.heap.size + 4) W6 ((W6.drew.setRow (w.heap.size + 3) (cpc K)).setRow (w.heap.size + 4) (tpc m.t)) := ⟨rfl, rfl, rfl, by simp, fun k hk hn => (setRow_other _ _ _ _ (fun e => hn (.inr e))).trans (setRow_other _ _ _ _ (fun e => hn (.inl e)))⟩
      have HP9 : Hid (PSt B L w L1 m.S ((W6.drew.setRow (w.heap.size + 3) (cpc K)).setRow (w.heap.size + 4) (tpc m.t))) := ((HP4.out.post (Below.refl _ _).drew).row HO1.out.n HO1.out.ge _).row HO2.out.n HO2.out.ge _
      have HR1 : Hid (Row ((W6.drew.setRow (w.heap.size + 3) (cpc K)).setRow (w.heap.size + 4) (tpc m.t)) (w.heap.size + 3) (cpc K) 31) := (setRow_other _ _ _ _ (by omega)).trans (setRow_heap _ _ _ _ _ _ H1)
      have HR2 : Hid (Row ((W6.drew.setRow (w.heap.size + 3) (cpc K)).setRow (w.heap.size + 4) (tpc m.t)) (w.heap.size + 4) (tpc m.t) 48) := setRow_heap _ _ _ _ _ _ H2
      refine wp_region_held (S := fun w' => Exc (fun j => j = w.heap.size + 3 ∨ j = w.heap.size + 4) W6 w') (by kernel_rfl) ?_
      change wpAnyH _ _ _ _ _ _ _ _ W6.drew
      refine wpAnyH_takeD 0 (some 53) (v := .int .u64 (n64 m.old)) rfl (by kernel_rfl) (by kernel_rfl) (by kernel_rfl) (by kernel_rfl) (fun _ _ _ h => h) (Or.inl ⟨by rfl, fun w9 hSw => by go_simp⟩) hS0 ?_
      try simp only [Act.put, List.setIfInBounds_toArray, List.set_cons_zero, List.set_cons_succ]
      refine wpAnyH_takeD 1 (some 54) (v := .int .u64 (n64 m.st)) rfl (by kernel_rfl) (by kernel_rfl) (by kernel_rfl) (by kernel_rfl) (fun _ _ _ h => h) (Or.inl ⟨by rfl, fun w9 hSw => by go_simp⟩) hS0 ?_
      try simp only [Act.put, List.setIfInBounds_toArray, List.set_cons_zero, List.set_cons_succ]
      refine wpAnyH_takeD 2 (some 55) (v := .agg (cpc K)) rfl (by kernel_rfl) (by kernel_rfl) (by kernel_rfl) (by kernel_rfl) (fun _ _ _ h => h) (Or.inl ⟨by rfl, fun w9 hSw => ?_⟩) hS0 ?_
      · have q := load_rows (P := Tryz.prog) 31 (w.heap.size) (cpc K) _ w9 (hrw.out w9 hSw).1 Tryz.underlying31 (by rfl) (info_cpu _)
        unfold execOp
        exact q
      try simp only [Act.put, List.setIfInBounds_toArray, List.set_cons_zero, List.set_cons_succ]
      refine wpAnyH_takeD 3 (some 56) (v := .agg (tpc m.t)) rfl (by kernel_rfl) (by kernel_rfl) (by kernel_rfl) (by kernel_rfl) (fun _ _ _ h => h) (Or.inl ⟨by rfl, fun w9 hSw => ?_⟩) hS0 ?_
      · have q := load_rows (P := Tryz.prog) 48 (gt) (tpc m.t) _ w9 (hrw.out w9 hSw).2 Tryz.underlying48 (by rfl) (info_trap _)
        unfold execOp
        exact q
      try simp only [Act.put, List.setIfInBounds_toArray, List.set_cons_zero, List.set_cons_succ]
      refine wpAnyH_takeD 4 (some 10) (v := .int .u64 (n64 m.old)) rfl (by kernel_rfl) (by kernel_rfl) (by kernel_rfl) (by kernel_rfl) (fun _ _ _ h => h) (Or.inl ⟨by rfl, fun w9 hSw => by go_simp⟩) hS0 ?_
      try simp only [Act.put, List.setIfInBounds_toArray, List.set_cons_zero, List.set_cons_succ]
      refine wpAnyH_takeD 5 (some 11) (v := .int .u64 (n64 m.st)) rfl (by kernel_rfl) (by kernel_rfl) (by kernel_rfl) (by kernel_rfl) (fun _ _ _ h => h) (Or.inl ⟨by rfl, fun w9 hSw => by go_simp⟩) hS0 ?_
      try simp only [Act.put, List.setIfInBounds_toArray, List.set_cons_zero, List.set_cons_succ]
      refine wpAnyH_store_row 6 31 (.tmp 12) (.tmp 55) (by kernel_rfl) (by kernel_rfl) (w.heap.size + 3) (cpc cz) (cpc K) (by rfl) (by rfl) H1 (info_cpu _) (by rw [cpc_size, cpc_size]) (cpc_ones _) hS1 ?_
      try simp only [Act.put, List.setIfInBounds_toArray, List.set_cons_zero, List.set_cons_succ]
      refine wpAnyH_store_row 7 48 (.tmp 13) (.tmp 56) (by kernel_rfl) (by kernel_rfl) (w.heap.size + 4) (tpc tN) (tpc m.t) (by rfl) (by rfl) H2 (info_trap _) (tpc_sz _ _) (tpc_ones _) hS2 ?_
      try simp only [Act.put, List.setIfInBounds_toArray, List.set_cons_zero, List.set_cons_succ]
      refine wpAnyH_done (by kernel_rfl) ?_ _
      go_wp2_with fail
      refine bodyPost_ret (v := .tuple #[.int .u64 (n64 m.old), .int .u64 (n64 m.st), .agg (cpc K), .agg (tpc m.t)]) (results_sscc _ _ (w.heap.size + 3) (w.heap.size + 4) 31 48 _ _ (0, 0) (0, 0) _ _ _ _ Tryz.results38 (by rfl) (by rfl) (by rfl) (by rfl) HR1.out HR2.out Tryz.underlying31 (by rfl) (info_cpu _) Tryz.underlying48 (by rfl) (info_trap _)) rfl ⟨by rw [HK2.out], L1, HP9.out⟩
    | false =>
      have HK2 : Hid (K2 = bhK K ad sz) := by unfold Hid; rw [HSK.out, if_neg (by decide)]
      clear HSK
      have HR : Hid (∀ j v, (rsc K.rv K.ra K.rs)[j]? = some v → W6.cell? ⟨w.heap.size, 79 + j, none⟩ = some v) := HO0.out.r.res
      have HTH : Hid (∀ W, Below W6.heap.size W6 W → W.there w.heap.size 79 (rsc (bhK K ad sz).rv (bhK K ad sz).ra (bhK K ad sz).rs).size) := fun W hb => (HO0.out.post hb).r.there (by rw [cpc_size]; show 79 + 3 ≤ 82; omega)
      go_upto_region 10 with (first | (refine wpList_load_agg (by rfl) _ _ (by rfl) w.heap.size 79 (by rfl) (rsc K.rv K.ra K.rs) _ HR.out Tryz.underlying29 (by rfl) (info_res _ _ _) ?_) | (go_at_call 49; refine (HBH.out _).mono ?_; rintro e w7 ⟨rfl, hb7⟩; have HB7 : Hid (Below W6.heap.size W6 w7) := hb7; clear hb7) | (refine wpList_store_part (by rfl) _ _ _ (by rfl) (by rfl) w.heap.size 79 _ (by rfl) (by rfl) (HTH.out _ HB7.out) (info_res _ _ _) (rsc_ones _ _ _) ?_))
      refine on_P (motive := fun W => Code.wp _ _ _ _ W) (Q := fun W => Own w L1 W w.heap.size (cpc (bhK K ad sz)) 31 ∧ Own w L1 W (w.heap.size + 3) (cpc cz) 31 ∧ Own w L1 W (w.heap.size + 4) (tpc tN) 48 ∧ Own w L1 W gt (tpc m.t) 48 ∧ PSt B L w L1 m.S W) ⟨⟨by have q := (HO0.out.post HB7.out).r.lay (rsc (bhK K ad sz).rv (bhK K ad sz).ra (bhK K ad sz).rs).toList 79; rw [show (rsc (bhK K ad sz).rv (bhK K ad sz).ra (bhK K ad sz).rs).toList = [.bool (bhK K ad sz).rv, .int .u64 (n64 (bhK K ad sz).ra), .int .i64 (bhK K ad sz).rs] from rfl, cpc_res, bhK_res] at q; exact q, HO0.out.n, HO0.out.ge⟩, ⟨(HO1.out.post HB7.out).r.lays (by omega) _ _, HO1.out.n, HO1.out.ge⟩, ⟨(HO2.out.post HB7.out).r.lays (by omega) _ _, HO2.out.n, HO2.out.ge⟩, ⟨(HO3.out.post HB7.out).r.lays (by have := HGT.out; omega) _ _, HO3.out.n, HO3.out.ge⟩, PSt.lay HO0.out.n HO0.out.ge _ _ (HP4.out.post HB7.out)⟩ ?_
      clear HP4 HB7 HR HTH ct HBH HO3
      clear HO0 HO1 HO2
      rintro W8 ⟨o0, o1, o2, o3, p4⟩
      have HO0 : Hid (Own w L1 W8 w.heap.size (cpc (bhK K ad sz)) 31) := o0
      have HO1 : Hid (Own w L1 W8 (w.heap.size + 3) (cpc cz) 31) := o1
      have HO2 : Hid (Own w L1 W8 (w.heap.size + 4) (tpc tN) 48) := o2
      have HO3 : Hid (Own w L1 W8 gt (tpc m.t) 48) := o3
      have HP4 : Hid (PSt B L w L1 m.S W8) := p4
      clear o0 o1 o2 o3 p4
      have hrw : Hid (∀ w9, Exc (fun j => j = w.heap.size + 3 ∨ j = w.heap.size + 4) W8 w9 → Row w9 w.heap.size (cpc (bhK K ad sz)) 31 ∧ Row w9 gt (tpc m.t) 48) := fun w9 hx => ⟨(hx.block _ HO0.out.r.lt (fun e => by rcases e with e | e <;> omega)).trans HO0.out.r, (hx.block _ HO3.out.r.lt (fun e => by have := HGT.out; rcases e with e | e <;> omega)).trans HO3.out.r⟩
      have hS0 : Exc (fun j => j = w.heap.size + 3 ∨ j = w.heap.size + 4) W8 W8.drew := ⟨rfl, rfl, rfl, Nat.le_refl _, fun _ _ _ => rfl⟩
      have H1 : Row W8.drew (w.heap.size + 3) (cpc cz) 31 := HO1.out.r
      have H2 : Row (W8.drew.setRow (w.heap.size + 3) (cpc (bhK K ad sz))) (w.heap.size + 4) (tpc tN) 48 := (setRow_other _ _ _ _ (by omega)).trans HO2.out.r
      have hS1 : Exc (fun j => j = w.heap.size + 3 ∨ j = w.heap.size + 4) W8 (W8.drew.setRow (w.heap.size + 3) (cpc (bhK K ad sz))) := ⟨rfl, rfl, rfl, by simp, fun k hk hn => setRow_other _ _ _ _ (fun e => hn (.inl e))⟩
      have hS2 : Exc (fun j => j = w.heap.size + 3 ∨ j = w.heap.size + 4) W8 ((W8.drew.setRow (w.heap.size + 3) (cpc (bhK K ad sz))).setRow (w.heap.size + 4) (tpc m.t)) := ⟨rfl, rfl, rfl, by simp, fun k hk hn => (setRow_other _ _ _ _ (fun e => hn (.inr e))).trans (setRow_other _ _ _ _ (fun e => hn (.inl e)))⟩
      have HP9 : Hid (PSt B L w L1 m.S ((W8.drew.setRow (w.heap.size + 3) (cpc (bhK K ad sz))).setRow (w.heap.size + 4) (tpc m.t))) := ((HP4.out.post (Below.refl _ _).drew).row HO1.out.n HO1.out.ge _).row HO2.out.n HO2.out.ge _
      have HR1 : Hid (Row ((W8.drew.setRow (w.heap.size + 3) (cpc (bhK K ad sz))).setRow (w.heap.size + 4) (tpc m.t)) (w.heap.size + 3) (cpc (bhK K ad sz)) 31) := (setRow_other _ _ _ _ (by omega)).trans (setRow_heap _ _ _ _ _ _ H1)
      have HR2 : Hid (Row ((W8.drew.setRow (w.heap.size + 3) (cpc (bhK K ad sz))).setRow (w.heap.size + 4) (tpc m.t)) (w.heap.size + 4) (tpc m.t) 48) := setRow_heap _ _ _ _ _ _ H2
      refine wp_region_held (S := fun w' => Exc (fun j => j = w.heap.size + 3 ∨ j = w.heap.size + 4) W8 w') (by kernel_rfl) ?_
      change wpAnyH _ _ _ _ _ _ _ _ W8.drew
      refine wpAnyH_takeD 0 (some 53) (v := .int .u64 (n64 m.old)) rfl (by kernel_rfl) (by kernel_rfl) (by kernel_rfl) (by kernel_rfl) (fun _ _ _ h => h) (Or.inl ⟨by rfl, fun w9 hSw => by go_simp⟩) hS0 ?_
      try simp only [Act.put, List.setIfInBounds_toArray, List.set_cons_zero, List.set_cons_succ]
      refine wpAnyH_takeD 1 (some 54) (v := .int .u64 (n64 m.st)) rfl (by kernel_rfl) (by kernel_rfl) (by kernel_rfl) (by kernel_rfl) (fun _ _ _ h => h) (Or.inl ⟨by rfl, fun w9 hSw => by go_simp⟩) hS0 ?_
      try simp only [Act.put, List.setIfInBounds_toArray, List.set_cons_zero, List.set_cons_succ]
      refine wpAnyH_takeD 2 (some 55) (v := .agg (cpc (bhK K ad sz))) rfl (by kernel_rfl) (by kernel_rfl) (by kernel_rfl) (by kernel_rfl) (fun _ _ _ h => h) (Or.inl ⟨by rfl, fun w9 hSw => ?_⟩) hS0 ?_
      · have q := load_rows (P := Tryz.prog) 31 (w.heap.size) (cpc (bhK K ad sz)) _ w9 (hrw.out w9 hSw).1 Tryz.underlying31 (by rfl) (info_cpu _)
        unfold execOp
        exact q
      try simp only [Act.put, List.setIfInBounds_toArray, List.set_cons_zero, List.set_cons_succ]
      refine wpAnyH_takeD 3 (some 56) (v := .agg (tpc m.t)) rfl (by kernel_rfl) (by kernel_rfl) (by kernel_rfl) (by kernel_rfl) (fun _ _ _ h => h) (Or.inl ⟨by rfl, fun w9 hSw => ?_⟩) hS0 ?_
      · have q := load_rows (P := Tryz.prog) 48 (gt) (tpc m.t) _ w9 (hrw.out w9 hSw).2 Tryz.underlying48 (by rfl) (info_trap _)
        unfold execOp
        exact q
      try simp only [Act.put, List.setIfInBounds_toArray, List.set_cons_zero, List.set_cons_succ]
      refine wpAnyH_takeD 4 (some 10) (v := .int .u64 (n64 m.old)) rfl (by kernel_rfl) (by kernel_rfl) (by kernel_rfl) (by kernel_rfl) (fun _ _ _ h => h) (Or.inl ⟨by rfl, fun w9 hSw => by go_simp⟩) hS0 ?_
      try simp only [Act.put, List.setIfInBounds_toArray, List.set_cons_zero, List.set_cons_succ]
      refine wpAnyH_takeD 5 (some 11) (v := .int .u64 (n64 m.st)) rfl (by kernel_rfl) (by kernel_rfl) (by kernel_rfl) (by kernel_rfl) (fun _ _ _ h => h) (Or.inl ⟨by rfl, fun w9 hSw => by go_simp⟩) hS0 ?_
      try simp only [Act.put, List.setIfInBounds_toArray, List.set_cons_zero, List.set_cons_succ]
      refine wpAnyH_store_row 6 31 (.tmp 12) (.tmp 55) (by kernel_rfl) (by kernel_rfl) (w.heap.size + 3) (cpc cz) (cpc (bhK K ad sz)) (by rfl) (by rfl) H1 (info_cpu _) (by rw [cpc_size, cpc_size]) (cpc_ones _) hS1 ?_
      try simp only [Act.put, List.setIfInBounds_toArray, List.set_cons_zero, List.set_cons_succ]
      refine wpAnyH_store_row 7 48 (.tmp 13) (.tmp 56) (by kernel_rfl) (by kernel_rfl) (w.heap.size + 4) (tpc tN) (tpc m.t) (by rfl) (by rfl) H2 (info_trap _) (tpc_sz _ _) (tpc_ones _) hS2 ?_
      try simp only [Act.put, List.setIfInBounds_toArray, List.set_cons_zero, List.set_cons_succ]
      refine wpAnyH_done (by kernel_rfl) ?_ _
      go_wp2_with fail
      refine bodyPost_ret (v := .tuple #[.int .u64 (n64 m.old), .int .u64 (n64 m.st), .agg (cpc (bhK K ad sz)), .agg (tpc m.t)]) (results_sscc _ _ (w.heap.size + 3) (w.heap.size + 4) 31 48 _ _ (0, 0) (0, 0) _ _ _ _ Tryz.results38 (by rfl) (by rfl) (by rfl) (by rfl) HR1.out HR2.out Tryz.underlying31 (by rfl) (info_cpu _) Tryz.underlying48 (by rfl) (info_trap _)) rfl ⟨by rw [HK2.out], L1, HP9.out⟩
end Go.Proofs.YtlhgphokfpnfeaaGreatDoor
namespace Go.Proofs.YtlhgphokfpnfeaaGreatDoor
set_option linter.unusedVariables false
open Go.ChangeShapes Go.WideShapes Go.ChangeAt Go.RowKit Go.Deep
theorem MV_lt {S : St} {k : Wy} {z : Nat} (hs : Sok S) (hz : wid4 z) : n64 (MV S k z none).old < ((256 ^ z : Nat) : Int) := by
  have hp : 0 < 256 ^ z := Nat.pow_pos (by decide)
  have e0 : n64 0#64 = 0 := rfl
  simp only [MV]
  by_cases q : (fbd S k z).is = true
  · rw [if_pos q, e0]; omega
  · rw [if_neg q]
    have hf := (fbd_there hz (by simpa using q)).1
    by_cases hr : k.r = 2
    · show n64 (mvB S k z) < _
      unfold mvB; rw [if_pos hr, e0]; omega
    · show n64 (mvB S k z) < _
      rw [mvB_n hs hz hf hr]
      exact (ld_lt hs _ z hz hf).2
def n32 (x : BitVec 32) : Int := (x.toNat : Int)
theorem ofInt_n32 (x : BitVec 32) : BitVec.ofInt 32 (n32 x) = x := by
  unfold n32
  apply BitVec.eq_of_toNat_eq
  rw [BitVec.toNat_ofInt]
  have := x.isLt
  omega
theorem wrap_n32 (x : BitVec 32) : IntKind.u32.wrap (n32 x) = n32 x := by
  show n32 x % 4294967296 = n32 x
  have := x.isLt
  unfold n32; omega
theorem n32_and (x y : BitVec 32) : bits .and .u32 (n32 x) (n32 y) = n32 (x &&& y) := by
  show IntKind.u32.wrap ((BitVec.ofInt 32 (n32 x) &&& BitVec.ofInt 32 (n32 y)).toNat : Int) = _
  rw [ofInt_n32, ofInt_n32]; exact wrap_n32 _
theorem n32_or (x y : BitVec 32) : bits .or .u32 (n32 x) (n32 y) = n32 (x ||| y) := by
  show IntKind.u32.wrap ((BitVec.ofInt 32 (n32 x) ||| BitVec.ofInt 32 (n32 y)).toNat : Int) = _
  rw [ofInt_n32, ofInt_n32]; exact wrap_n32 _
theorem n32_of {z : Int} (h0 : 0 ≤ z) (h1 : z < 4294967296) : z = n32 (BitVec.ofNat 32 z.toNat) := by
  unfold n32; rw [BitVec.toNat_ofNat, Nat.mod_eq_of_lt (by omega)]; omega
theorem and3_32 {z : Int} (h0 : 0 ≤ z) (h1 : z < 65536) : bits .and .u32 z 3 = z % 4 := by
  have e : z = n32 (BitVec.ofNat 32 z.toNat) := n32_of h0 (by omega)
  have e3 : (3 : Int) = n32 3#32 := rfl
  rw [e, e3, n32_and]
  unfold n32
  rw [BitVec.toNat_and, show (3#32).toNat = 2 ^ 2 - 1 from rfl, Nat.and_two_pow_sub_one_eq_mod, Int.natCast_emod]
  rfl
theorem or_32 {h l : Int} (h0 : 0 ≤ h) (h1 : h < 65536) (l0 : 0 ≤ l) (l1 : l < 65536) : bits .or .u32 (h * 65536) l = h * 65536 + l := by
  have eh : h * 65536 = n32 (BitVec.ofNat 32 (h * 65536).toNat) := n32_of (by omega) (by omega)
  have el : l = n32 (BitVec.ofNat 32 l.toNat) := n32_of l0 (by omega)
  obtain ⟨H, rfl⟩ : ∃ H : Nat, h = H := ⟨h.toNat, by omega⟩
  obtain ⟨M, rfl⟩ : ∃ M : Nat, l = M := ⟨l.toNat, by omega⟩
  have q : bits .or .u32 ((H : Int) * 65536) (M : Int) = n32 (BitVec.ofNat 32 ((H : Int) * 65536).toNat ||| BitVec.ofNat 32 ((M : Int)).toNat) := by
    rw [← n32_or, ← eh, ← el]
  rw [q]
  unfold n32
  rw [BitVec.toNat_or, BitVec.toNat_ofNat, BitVec.toNat_ofNat, show ((H : Int) * 65536).toNat = 2 ^ 16 * H by omega, show ((M : Int)).toNat = M by omega, Nat.mod_eq_of_lt (by omega), Nat.mod_eq_of_lt (by omega)]
  have := Nat.two_pow_add_eq_or_of_lt (i := 16) (b := M) (by omega) H
  rw [← this]
  omega
set_option maxRecDepth 100000 in
set_option maxHeartbeats 4000000 in
theorem parcel_c {B : Nat} {L : Lay} {S : St} (w : World) (h : PB B L S w) (hs : Sok S) (hT : Tb w) (hB : 0 < B) (K : Cp) (ad : BitVec 64) :
    Calls Tryz.prog 51 #[.agg (cpc K), .pointer (some ⟨L.b, 0, none⟩), .int .u64 (n64 ad)] w fun e w' => e = .returned (.tuple #[.int .u32 (n64 (MV S (wF L.b K ad) 2 none).old), .agg (tpc (MV S (wF L.b K ad) 2 none).t)]) ∧ ∃ L', PSt B L w L' (MV S (wF L.b K ad) 2 none).S w' := by
  obtain ⟨W0, hW0, r0, r1, b0, s0⟩ := start2 w (cpc K) (tpc tN) 31 48
  have hzt := zero_trap
  have hzw := zero_way
  have HP0 : Hid (PSt B L w L S W0) := (PSt.refl h).post b0.out
  have hlo : ∀ g, w.heap.size ≤ g → ¬ L.own g := fun g hg e => by have := h.own_hi _ e; omega
  have HO1 : Hid (Own w L W0 (w.heap.size + 1) (tpc tN) 48) := ⟨r1.out, hlo _ (by omega), by omega⟩
  have HL1 : Hid (∀ j v, (pc K.c K.a)[j]? = some v → W0.cell? ⟨w.heap.size, 47 + j, none⟩ = some v) := r0.out.pmp
  have cm := r0.out.cls.md
  have HMV : Hid (∀ W, Below w.heap.size w W → Calls Tryz.prog 71 #[.agg (wyc (wF L.b K ad)), .nilFunc] W fun e w' => e = .returned (.tuple #[.int .u64 (n64 (MV S (wF L.b K ad) 2 none).old), .int .u64 (n64 (MV S (wF L.b K ad) 2 none).st), .agg (tpc (MV S (wF L.b K ad) 2 none).t)]) ∧ ∃ L', PSt B L W L' (MV S (wF L.b K ad) 2 none).S w') := fun W hb => move_2 W (h.later hb) hs (hT.next hb) hB (wF L.b K ad) rfl .nilFunc none .nil
  have hlt : n64 (MV S (wF L.b K ad) 2 none).old < 65536 := MV_lt hs (by simp [wid4])
  have hwr : IntKind.u32.wrap (n64 (MV S (wF L.b K ad) 2 none).old) = n64 (MV S (wF L.b K ad) 2 none).old := by
    show _ % 4294967296 = _
    have := n64_lo (MV S (wF L.b K ad) 2 none).old
    omega
  have HB0 : Hid (Below w.heap.size w W0) := b0
  clear hlt
  generalize (MV S (wF L.b K ad) 2 none) = m at HMV hwr ⊢
  clear h hs hT s0 r1 b0
  go_enter Tryz.func51, Tryz.ntmps51
  go_upto_region 1 with fail
  clear hW0
  go_upto_region 2 with (first | (refine wpList_load_agg (by rfl) _ _ (by rfl) w.heap.size 47 (by rfl) (pc K.c K.a) _ HL1.out Tryz.underlying27 (by rfl) (info_pmp _ _) ?_) | (refine wpList_build_tab (by rfl) 127 _ (by rfl) (wyc (wF L.b K ad)) (by kernel_rfl) ?_) | (refine wpList_store_new (by rfl) 127 _ _ (by rfl) (by rfl) wz (wyc (wF L.b K ad)) (by rfl) (by rfl) (info_way _) (by rw [wz_size, wyc_size]) (wyc_ones _) ?_))
  refine on_P (motive := fun W => Code.wp _ _ _ _ W) (Q := fun W => Own w L W (w.heap.size + 1) (tpc tN) 48 ∧ Own w L W W0.heap.size (wyc (wF L.b K ad)) 127 ∧ PSt B L w L S W ∧ Below w.heap.size w W) ⟨HO1.out.post (below_al _ _), Own.new HP0.out _ _, HP0.out.al _, HB0.out.trans ((below_al _ _).mono HB0.out.size)⟩ ?_
  clear HO1 HP0 HB0 HL1 cm r0
  generalize W0.heap.size = gw
  rintro W2 ⟨o1, o2, p2, b2⟩
  have HO1 : Hid (Own w L W2 (w.heap.size + 1) (tpc tN) 48) := o1
  have HO2 : Hid (Own w L W2 gw (wyc (wF L.b K ad)) 127) := o2
  have HP2 : Hid (PSt B L w L S W2) := p2
  have HC : Hid (Calls Tryz.prog 71 #[.agg (wyc (wF L.b K ad)), .nilFunc] W2 fun e w' => e = .returned (.tuple #[.int .u64 (n64 m.old), .int .u64 (n64 m.st), .agg (tpc m.t)]) ∧ ∃ L', PSt B L W2 L' m.S w') := HMV.out W2 b2
  clear o1 o2 p2 b2 HMV
  go_upto_region 3 with (first | (refine wpList_load_row (by rfl) _ _ (by rfl) _ (by rfl) 127 _ (0, 0) _ HO2.out.r Tryz.underlying127 (by rfl) (info_way _) ?_) | (go_at_call 71; refine HC.out.mono ?_; rintro e w3 ⟨rfl, L1, hp3⟩; have HP3 : Hid (PSt B L W2 L1 m.S w3) := hp3; clear hp3) | (refine wpList_store_new (by rfl) 48 _ _ (by rfl) (by rfl) (tpc tN) (tpc m.t) (by rfl) (by rfl) (info_trap _) (tpc_sz _ _) (tpc_ones _) ?_))
  refine on_P (motive := fun W => Code.wp _ _ _ _ W) (Q := fun W => Own w L1 W (w.heap.size + 1) (tpc tN) 48 ∧ Own w L1 W w3.heap.size (tpc m.t) 48 ∧ PSt B L w L1 m.S W) ⟨(HO1.out.bus HP3.out).post (below_al _ _), Own.new (HP2.out.trans HP3.out) _ _, (HP2.out.trans HP3.out).al _⟩ ?_
  clear HO1 HO2 HP2 HP3 HC
  generalize w3.heap.size = gt
  rintro W4 ⟨o1, o2, p4⟩
  have HO1 : Hid (Own w L1 W4 (w.heap.size + 1) (tpc tN) 48) := o1
  have HP4 : Hid (PSt B L w L1 m.S W4) := p4
  have hlt : Hid (gt < W4.heap.size) := o2.r.lt
  have HL2 : Hid (∀ j v, (tpc m.t)[j]? = some v → W4.cell? ⟨gt, 0 + j, none⟩ = some v) := o2.r.agg
  clear o1 o2 p4
  have := later_nonempty W4
  refine wp_region_later_tail (x0 := Later.start W4) 4 (by kernel_rfl) (by kernel_rfl) ?_
  simp only [List.take_succ_cons, List.take_zero, List.drop_succ_cons, List.drop_zero]
  repeat (first | (refine BigFrame.wpQuiet_want (by rfl) fun K hK => ?_; refine quiet_load_agg 48 _ (by rfl) (gt) 0 (by rfl) (tpc m.t) _ hlt.out HL2.out Tryz.underlying48 (by rfl) (info_trap _) (hK _ ?_); clear hK K; simp only [Act.put, List.setIfInBounds_toArray, List.set_cons_succ, List.set_cons_zero]) | (go_big_quiet_step (fail)))
  refine wpQuiet_nil ?_
  rintro w' ⟨x9, rfl⟩
  have HO9 : Hid (Own w L1 x9.1 (w.heap.size + 1) (tpc tN) 48) := HO1.out.post x9.below
  go_wp2_with (refine wpList_store_row (by rfl) _ _ _ (by rfl) (by rfl) _ _ _ (by rfl) (by rfl) HO9.out.r (info_trap _) (tpc_sz _ _) (tpc_ones _) ?_)
  refine bodyPost_ret (v := .tuple #[.int .u32 (n64 m.old), .agg (tpc m.t)]) (results_sc Tryz.results51 _ _ (w.heap.size + 1) 48 _ (0, 0) _ _ (by rfl) (by rfl) (setRow_heap _ _ _ _ _ _ HO9.out.r) Tryz.underlying48 (by rfl) (info_trap _)) rfl ⟨rfl, L1, (HP4.out.post x9.below).row HO9.out.n HO9.out.ge _⟩
end Go.Proofs.YtlhgphokfpnfeaaGreatDoor
