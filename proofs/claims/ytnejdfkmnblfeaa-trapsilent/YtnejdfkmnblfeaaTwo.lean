/-
  TrapOrder: its walk.
-/
import Derived.Test.YtnejdfkmnblfeaaTfi
import Derived.Test.YtnejdfkmnblfeaaTpa
namespace Go.Proofs.Ytnejdfkmnblfeaa
set_option linter.unusedVariables false
open Go.ChangeShapes Go.WideShapes Go.ChangeAt Go.RowKit Go.Deep
theorem pd_bits (k : Cp) (m : BitVec 64) : PD k m = if (PR k).md = 3 ∧ ((PR k).s 0).getLsbD 3 = false then (0, false) else fsB (m.getLsbD 11 && ((PR k).s 2).getLsbD 11) (m.getLsbD 3 && ((PR k).s 2).getLsbD 3) (m.getLsbD 7 && ((PR k).s 2).getLsbD 7) 0 := rfl
/-- A proper Cpu with other enables. -/
def wD (k : Cp) (v : BitVec 64) : Cp := { PR k with s := upd (PR k).s 2 v }
theorem wD_md (k : Cp) (v : BitVec 64) : (PR (wD k v)).md = (PR k).md := by
  have h := congrArg Cp.md (PR_PR k)
  exact h
theorem wD_s0 (k : Cp) (v : BitVec 64) : (PR (wD k v)).s 0 = (PR k).s 0 := by
  have h := congrArg (fun z : Cp => z.s 0) (PR_PR k)
  exact h
theorem wD_s2 (k : Cp) (v : BitVec 64) : (PR (wD k v)).s 2 = v &&& 2184#64 := rfl
theorem m2184 : (2184#64).getLsbD 11 = true ∧ (2184#64).getLsbD 3 = true ∧ (2184#64).getLsbD 7 = true := by decide
theorem pd_wD (k : Cp) (v m : BitVec 64) : PD (wD k v) m = if (PR k).md = 3 ∧ ((PR k).s 0).getLsbD 3 = false then (0, false) else fsB (m.getLsbD 11 && v.getLsbD 11) (m.getLsbD 3 && v.getLsbD 3) (m.getLsbD 7 && v.getLsbD 7) 0 := by
  rw [pd_bits, wD_md, wD_s0, wD_s2, BitVec.getLsbD_and, BitVec.getLsbD_and, BitVec.getLsbD_and, m2184.1, m2184.2.1, m2184.2.2, Bool.and_true, Bool.and_true, Bool.and_true]
theorem fsB_is11 : ∀ a b c, fsB a b c 0 = (11, true) → a = true := by decide
theorem fsB_is3 : ∀ a b c, fsB a b c 0 = (3, true) → a = false ∧ b = true := by decide
theorem fsB_is7 : ∀ a b c, fsB a b c 0 = (7, true) → a = false ∧ b = false ∧ c = true := by decide
theorem fsB_11 : ∀ b c, fsB true b c 0 = (11, true) := by decide
theorem fsB_3' : ∀ c, fsB false true c 0 = (3, true) := by decide
theorem fsB_7 : fsB false false true 0 = (7, true) := by decide
theorem more_t : ∀ a b x y l : Bool, (a && b) = true → ((a || x && l) && (b || y && l)) = true := by decide
theorem more_f : ∀ a b x y : Bool, (a && b) = false → ((a || x && false) && (b || y && false)) = false := by decide
theorem pd_is (k : Cp) (m : BitVec 64) : PD k m = (11, true) ∨ PD k m = (3, true) ∨ PD k m = (7, true) ∨ PD k m = (0, false) := by
  unfold PD
  split
  · exact Or.inr (Or.inr (Or.inr rfl))
  · unfold pdF
    split
    · exact Or.inl rfl
    · split
      · exact Or.inr (Or.inl rfl)
      · split
        · exact Or.inr (Or.inr (Or.inl rfl))
        · exact Or.inr (Or.inr (Or.inr rfl))
theorem pd_more11 (k : Cp) (m x y : BitVec 64) (h : PD k m = (11, true)) : PD (wD k ((PR k).s 2 ||| y &&& 18446744073709551615#64)) (m ||| x &&& 18446744073709551615#64) = (11, true) := by
  rw [pd_bits] at h
  rw [pd_wD]
  by_cases hc : (PR k).md = 3 ∧ ((PR k).s 0).getLsbD 3 = false
  · rw [if_pos hc] at h; exact absurd (congrArg Prod.snd h) (by decide)
  · rw [if_neg hc] at h ⊢
    simp only [BitVec.getLsbD_or, BitVec.getLsbD_and]
    rw [more_t _ _ _ _ _ (fsB_is11 _ _ _ h)]
    exact fsB_11 _ _
theorem pd_more3 (k : Cp) (m x y : BitVec 64) (h : PD k m = (3, true)) : PD (wD k ((PR k).s 2 ||| y &&& 18446744073709549567#64)) (m ||| x &&& 18446744073709549567#64) = (3, true) := by
  rw [pd_bits] at h
  rw [pd_wD]
  by_cases hc : (PR k).md = 3 ∧ ((PR k).s 0).getLsbD 3 = false
  · rw [if_pos hc] at h; exact absurd (congrArg Prod.snd h) (by decide)
  · rw [if_neg hc] at h ⊢
    simp only [BitVec.getLsbD_or, BitVec.getLsbD_and]
    obtain ⟨h1, h2⟩ := fsB_is3 _ _ _ h
    rw [show (18446744073709549567#64).getLsbD 11 = false by decide, more_f _ _ _ _ h1, more_t _ _ _ _ _ h2]
    exact fsB_3' _
theorem pd_more7 (k : Cp) (m x y : BitVec 64) (h : PD k m = (7, true)) : PD (wD k ((PR k).s 2 ||| y &&& 18446744073709549431#64)) (m ||| x &&& 18446744073709549431#64) = (7, true) := by
  rw [pd_bits] at h
  rw [pd_wD]
  by_cases hc : (PR k).md = 3 ∧ ((PR k).s 0).getLsbD 3 = false
  · rw [if_pos hc] at h; exact absurd (congrArg Prod.snd h) (by decide)
  · rw [if_neg hc] at h ⊢
    simp only [BitVec.getLsbD_or, BitVec.getLsbD_and]
    obtain ⟨h1, h2, h3⟩ := fsB_is7 _ _ _ h
    rw [show (18446744073709549431#64).getLsbD 11 = false by decide, show (18446744073709549431#64).getLsbD 3 = false by decide, more_f _ _ _ _ h1, more_f _ _ _ _ h2, more_t _ _ _ _ _ h3]
    exact fsB_7
set_option maxRecDepth 100000 in
set_option maxHeartbeats 2000000 in
theorem torder_11 (hp : CPr) (hf : ∀ W, Calls Try.prog 11 #[] W fun e w' => e = .returned (.bool true) ∧ Below W.heap.size W w') (hpd : TPd) (k : Cp) (mip more en : BitVec 64) (hP : PD k mip = (11, true)) (w : World) :
    Calls Try.prog 4 #[.agg (cpc k), .int .u64 (n64 mip), .int .u64 (n64 more), .int .u64 (n64 en)] w fun e w' => e = .returned (.bool true) ∧ Below w.heap.size w w' := by
  have hz := zero_cpu
  obtain ⟨W0, hW0, r0, b0, s0⟩ := start1 w (cpc k) 31
  clear s0
  have HFi : Hid (∀ W, Calls Try.prog 11 #[] W fun e w' => e = .returned (.bool true) ∧ Below W.heap.size W w') := hf
  have HPd : Hid (∀ W, Calls Try.prog 9 #[.agg (cpc k), .int .u64 (n64 mip)] W fun e w' => e = .returned (.tuple #[.int .i64 11, .bool true]) ∧ Below W.heap.size W w') := fun W => by have h := hpd k mip W; rw [hP] at h; exact h
  have HPr : Hid (∀ W, Calls Try.prog 12 #[.agg (cpc k)] W fun e w' => e = .returned (.agg (cpc (PR k))) ∧ Below W.heap.size W w') := hp k
  have HP2 : Hid (∀ W, Calls Try.prog 9 #[.agg (cpc (wD k ((PR k).s 2 ||| en &&& 18446744073709551615#64))), .int .u64 (n64 (mip ||| more &&& 18446744073709551615#64))] W fun e w' => e = .returned (.tuple #[.int .i64 11, .bool true]) ∧ Below W.heap.size W w') := fun W => by have h := hpd (wD k ((PR k).s 2 ||| en &&& 18446744073709551615#64)) (mip ||| more &&& 18446744073709551615#64) W; rw [pd_more11 k mip more en hP] at h; exact h
  have a1 : bits .and .u64 (n64 en) 18446744073709551615 = n64 (en &&& 18446744073709551615#64) := n64_and _ 18446744073709551615#64
  have a2 : bits .or .u64 (n64 ((PR k).s 2)) (n64 (en &&& 18446744073709551615#64)) = n64 ((PR k).s 2 ||| en &&& 18446744073709551615#64) := n64_or _ _
  have a3 : bits .and .u64 (n64 more) 18446744073709551615 = n64 (more &&& 18446744073709551615#64) := n64_and _ 18446744073709551615#64
  have a4 : bits .or .u64 (n64 mip) (n64 (more &&& 18446744073709551615#64)) = n64 (mip ||| more &&& 18446744073709551615#64) := n64_or _ _
  have HD : Hid (wD k ((PR k).s 2 ||| en &&& 18446744073709551615#64) = { PR k with s := upd (PR k).s 2 ((PR k).s 2 ||| en &&& 18446744073709551615#64) }) := rfl
  generalize n64 (mip ||| more &&& 18446744073709551615#64) = y4 at a4 HP2
  generalize n64 (more &&& 18446744073709551615#64) = y3 at a3 a4
  generalize (PR k).s 2 ||| en &&& 18446744073709551615#64 = v at a2 HD HP2
  generalize n64 (en &&& 18446744073709551615#64) = y1 at a1 a2
  generalize wD k v = E at HD HP2
  generalize PR k = K at HPr a2 HD
  have R0 : Hid (Row W0 w.heap.size (cpc k) 31) := r0.out
  have BB : Hid (Below w.heap.size w W0) := b0.out
  clear r0 b0 hp hf hpd hP
  go_enter Try.func4, Try.ntmps4
  go_upto_region 1 with fail
  clear hW0
  go_upto_region 2 with (first | (refine wpList_load_row (by rfl) _ _ (by rfl) _ (by rfl) 31 _ (0, 0) _ R0.out Try.underlying31 (by rfl) (info_cpu _) ?_) | (go_at_call 9; refine (HPd.out _).mono ?_; rintro e w1 ⟨rfl, hb⟩; have Bw1 : Hid (Below W0.heap.size W0 w1) := hb; clear hb))
  go_upto_region 11 with (go_at_call 11; refine (HFi.out _).mono ?_; rintro e w2 ⟨rfl, hb⟩; have Bw2 : Hid (Below w1.heap.size w1 w2) := hb; clear hb)
  have R2 : Hid (Row w2 w.heap.size (cpc k) 31) := (R0.out.cb Bw1.out).cb Bw2.out
  have B2 : Hid (Below w.heap.size w w2) := BB.out.trans ((Bw1.out.trans (Bw2.out.mono Bw1.out.size)).mono BB.out.size)
  clear R0 BB Bw1 Bw2
  go_upto_region 12 with (first | (refine wpList_load_row (by rfl) _ _ (by rfl) _ (by rfl) 31 _ (0, 0) _ R2.out Try.underlying31 (by rfl) (info_cpu _) ?_) | (go_at_call 12; refine (HPr.out _).mono ?_; rintro e w3 ⟨rfl, hb⟩; have Bw3 : Hid (Below w2.heap.size w2 w3) := hb; clear hb) | (refine wpList_store_last (by rfl) _ _ _ (by rfl) (by rfl) _ _ _ (by rfl) (by rfl) (by rfl) (info_cpu _) (by rw [cpc_size, cpc_size]) (cpc_ones _) ?_))
  refine go_onP (motive := fun W => Code.wp _ _ _ _ W) (Q := fun W => Row W w3.heap.size (cpc K) 31 ∧ Below w.heap.size w W ∧ w.heap.size ≤ w3.heap.size) ⟨Row.new w3 (cpc K) 31, (B2.out.trans (Bw3.out.mono B2.out.size)).alloc (Nat.le_trans B2.out.size Bw3.out.size) _, Nat.le_trans B2.out.size Bw3.out.size⟩ ?_
  clear R2 B2 Bw3 HFi HPr HPd hz
  generalize w3.heap.size = gp
  rintro W4 ⟨q0, c0, l0⟩
  have RP : Hid (Row W4 gp (cpc K) 31) := q0
  have BB : Hid (Below w.heap.size w W4) := c0
  have LL : Hid (w.heap.size ≤ gp) := l0
  have K2 := q0.cls.s2
  have f0 := q0.froz
  clear q0 c0 l0
  go_upto_region 13 with fail
  have Q := RP.out.put (i := 37) (.int .u64 (n64 v))
  rw [cpc_s2] at Q
  refine go_on1 (motive := fun W => Code.wp _ _ _ _ W) (a := w) (B := w.heap.size) (cs := cpc E) (row_cast Q (by rw [HD.out])) (below_put BB.out LL.out _) rfl ?_
  clear Q RP BB K2 f0 HD
  intro W5 q0 c0 t0
  have RE : Hid (Row W5 gp (cpc E) 31) := q0
  have BB : Hid (Below w.heap.size w W5) := c0
  clear q0 c0 t0
  go_wp2_with (first | (refine wpList_load_row (by rfl) _ _ (by rfl) _ (by rfl) 31 _ (0, 0) _ RE.out Try.underlying31 (by rfl) (info_cpu _) ?_) | (go_at_call 9; refine (HP2.out _).mono ?_; rintro e w6 ⟨rfl, hb⟩; have Bw6 : Hid (Below W5.heap.size W5 w6) := hb; clear hb))
  go_ret
  exact ⟨rfl, BB.out.trans (Bw6.out.mono BB.out.size)⟩
set_option maxRecDepth 100000 in
set_option maxHeartbeats 2000000 in
theorem torder_3 (hp : CPr) (hf : ∀ W, Calls Try.prog 11 #[] W fun e w' => e = .returned (.bool true) ∧ Below W.heap.size W w') (hpd : TPd) (k : Cp) (mip more en : BitVec 64) (hP : PD k mip = (3, true)) (w : World) :
    Calls Try.prog 4 #[.agg (cpc k), .int .u64 (n64 mip), .int .u64 (n64 more), .int .u64 (n64 en)] w fun e w' => e = .returned (.bool true) ∧ Below w.heap.size w w' := by
  have hz := zero_cpu
  obtain ⟨W0, hW0, r0, b0, s0⟩ := start1 w (cpc k) 31
  clear s0
  have HFi : Hid (∀ W, Calls Try.prog 11 #[] W fun e w' => e = .returned (.bool true) ∧ Below W.heap.size W w') := hf
  have HPd : Hid (∀ W, Calls Try.prog 9 #[.agg (cpc k), .int .u64 (n64 mip)] W fun e w' => e = .returned (.tuple #[.int .i64 3, .bool true]) ∧ Below W.heap.size W w') := fun W => by have h := hpd k mip W; rw [hP] at h; exact h
  have HPr : Hid (∀ W, Calls Try.prog 12 #[.agg (cpc k)] W fun e w' => e = .returned (.agg (cpc (PR k))) ∧ Below W.heap.size W w') := hp k
  have HP2 : Hid (∀ W, Calls Try.prog 9 #[.agg (cpc (wD k ((PR k).s 2 ||| en &&& 18446744073709549567#64))), .int .u64 (n64 (mip ||| more &&& 18446744073709549567#64))] W fun e w' => e = .returned (.tuple #[.int .i64 3, .bool true]) ∧ Below W.heap.size W w') := fun W => by have h := hpd (wD k ((PR k).s 2 ||| en &&& 18446744073709549567#64)) (mip ||| more &&& 18446744073709549567#64) W; rw [pd_more3 k mip more en hP] at h; exact h
  have a1 : bits .and .u64 (n64 en) 18446744073709549567 = n64 (en &&& 18446744073709549567#64) := n64_and _ 18446744073709549567#64
  have a2 : bits .or .u64 (n64 ((PR k).s 2)) (n64 (en &&& 18446744073709549567#64)) = n64 ((PR k).s 2 ||| en &&& 18446744073709549567#64) := n64_or _ _
  have a3 : bits .and .u64 (n64 more) 18446744073709549567 = n64 (more &&& 18446744073709549567#64) := n64_and _ 18446744073709549567#64
  have a4 : bits .or .u64 (n64 mip) (n64 (more &&& 18446744073709549567#64)) = n64 (mip ||| more &&& 18446744073709549567#64) := n64_or _ _
  have HD : Hid (wD k ((PR k).s 2 ||| en &&& 18446744073709549567#64) = { PR k with s := upd (PR k).s 2 ((PR k).s 2 ||| en &&& 18446744073709549567#64) }) := rfl
  generalize n64 (mip ||| more &&& 18446744073709549567#64) = y4 at a4 HP2
  generalize n64 (more &&& 18446744073709549567#64) = y3 at a3 a4
  generalize (PR k).s 2 ||| en &&& 18446744073709549567#64 = v at a2 HD HP2
  generalize n64 (en &&& 18446744073709549567#64) = y1 at a1 a2
  generalize wD k v = E at HD HP2
  generalize PR k = K at HPr a2 HD
  have R0 : Hid (Row W0 w.heap.size (cpc k) 31) := r0.out
  have BB : Hid (Below w.heap.size w W0) := b0.out
  clear r0 b0 hp hf hpd hP
  go_enter Try.func4, Try.ntmps4
  go_upto_region 1 with fail
  clear hW0
  go_upto_region 2 with (first | (refine wpList_load_row (by rfl) _ _ (by rfl) _ (by rfl) 31 _ (0, 0) _ R0.out Try.underlying31 (by rfl) (info_cpu _) ?_) | (go_at_call 9; refine (HPd.out _).mono ?_; rintro e w1 ⟨rfl, hb⟩; have Bw1 : Hid (Below W0.heap.size W0 w1) := hb; clear hb))
  go_upto_region 11 with (go_at_call 11; refine (HFi.out _).mono ?_; rintro e w2 ⟨rfl, hb⟩; have Bw2 : Hid (Below w1.heap.size w1 w2) := hb; clear hb)
  have R2 : Hid (Row w2 w.heap.size (cpc k) 31) := (R0.out.cb Bw1.out).cb Bw2.out
  have B2 : Hid (Below w.heap.size w w2) := BB.out.trans ((Bw1.out.trans (Bw2.out.mono Bw1.out.size)).mono BB.out.size)
  clear R0 BB Bw1 Bw2
  go_upto_region 12 with (first | (refine wpList_load_row (by rfl) _ _ (by rfl) _ (by rfl) 31 _ (0, 0) _ R2.out Try.underlying31 (by rfl) (info_cpu _) ?_) | (go_at_call 12; refine (HPr.out _).mono ?_; rintro e w3 ⟨rfl, hb⟩; have Bw3 : Hid (Below w2.heap.size w2 w3) := hb; clear hb) | (refine wpList_store_last (by rfl) _ _ _ (by rfl) (by rfl) _ _ _ (by rfl) (by rfl) (by rfl) (info_cpu _) (by rw [cpc_size, cpc_size]) (cpc_ones _) ?_))
  refine go_onP (motive := fun W => Code.wp _ _ _ _ W) (Q := fun W => Row W w3.heap.size (cpc K) 31 ∧ Below w.heap.size w W ∧ w.heap.size ≤ w3.heap.size) ⟨Row.new w3 (cpc K) 31, (B2.out.trans (Bw3.out.mono B2.out.size)).alloc (Nat.le_trans B2.out.size Bw3.out.size) _, Nat.le_trans B2.out.size Bw3.out.size⟩ ?_
  clear R2 B2 Bw3 HFi HPr HPd hz
  generalize w3.heap.size = gp
  rintro W4 ⟨q0, c0, l0⟩
  have RP : Hid (Row W4 gp (cpc K) 31) := q0
  have BB : Hid (Below w.heap.size w W4) := c0
  have LL : Hid (w.heap.size ≤ gp) := l0
  have K2 := q0.cls.s2
  have f0 := q0.froz
  clear q0 c0 l0
  go_upto_region 13 with fail
  have Q := RP.out.put (i := 37) (.int .u64 (n64 v))
  rw [cpc_s2] at Q
  refine go_on1 (motive := fun W => Code.wp _ _ _ _ W) (a := w) (B := w.heap.size) (cs := cpc E) (row_cast Q (by rw [HD.out])) (below_put BB.out LL.out _) rfl ?_
  clear Q RP BB K2 f0 HD
  intro W5 q0 c0 t0
  have RE : Hid (Row W5 gp (cpc E) 31) := q0
  have BB : Hid (Below w.heap.size w W5) := c0
  clear q0 c0 t0
  go_wp2_with (first | (refine wpList_load_row (by rfl) _ _ (by rfl) _ (by rfl) 31 _ (0, 0) _ RE.out Try.underlying31 (by rfl) (info_cpu _) ?_) | (go_at_call 9; refine (HP2.out _).mono ?_; rintro e w6 ⟨rfl, hb⟩; have Bw6 : Hid (Below W5.heap.size W5 w6) := hb; clear hb))
  go_ret
  exact ⟨rfl, BB.out.trans (Bw6.out.mono BB.out.size)⟩
set_option maxRecDepth 100000 in
set_option maxHeartbeats 2000000 in
theorem torder_7 (hp : CPr) (hf : ∀ W, Calls Try.prog 11 #[] W fun e w' => e = .returned (.bool true) ∧ Below W.heap.size W w') (hpd : TPd) (k : Cp) (mip more en : BitVec 64) (hP : PD k mip = (7, true)) (w : World) :
    Calls Try.prog 4 #[.agg (cpc k), .int .u64 (n64 mip), .int .u64 (n64 more), .int .u64 (n64 en)] w fun e w' => e = .returned (.bool true) ∧ Below w.heap.size w w' := by
  have hz := zero_cpu
  obtain ⟨W0, hW0, r0, b0, s0⟩ := start1 w (cpc k) 31
  clear s0
  have HFi : Hid (∀ W, Calls Try.prog 11 #[] W fun e w' => e = .returned (.bool true) ∧ Below W.heap.size W w') := hf
  have HPd : Hid (∀ W, Calls Try.prog 9 #[.agg (cpc k), .int .u64 (n64 mip)] W fun e w' => e = .returned (.tuple #[.int .i64 7, .bool true]) ∧ Below W.heap.size W w') := fun W => by have h := hpd k mip W; rw [hP] at h; exact h
  have HPr : Hid (∀ W, Calls Try.prog 12 #[.agg (cpc k)] W fun e w' => e = .returned (.agg (cpc (PR k))) ∧ Below W.heap.size W w') := hp k
  have HP2 : Hid (∀ W, Calls Try.prog 9 #[.agg (cpc (wD k ((PR k).s 2 ||| en &&& 18446744073709549431#64))), .int .u64 (n64 (mip ||| more &&& 18446744073709549431#64))] W fun e w' => e = .returned (.tuple #[.int .i64 7, .bool true]) ∧ Below W.heap.size W w') := fun W => by have h := hpd (wD k ((PR k).s 2 ||| en &&& 18446744073709549431#64)) (mip ||| more &&& 18446744073709549431#64) W; rw [pd_more7 k mip more en hP] at h; exact h
  have a1 : bits .and .u64 (n64 en) 18446744073709549431 = n64 (en &&& 18446744073709549431#64) := n64_and _ 18446744073709549431#64
  have a2 : bits .or .u64 (n64 ((PR k).s 2)) (n64 (en &&& 18446744073709549431#64)) = n64 ((PR k).s 2 ||| en &&& 18446744073709549431#64) := n64_or _ _
  have a3 : bits .and .u64 (n64 more) 18446744073709549431 = n64 (more &&& 18446744073709549431#64) := n64_and _ 18446744073709549431#64
  have a4 : bits .or .u64 (n64 mip) (n64 (more &&& 18446744073709549431#64)) = n64 (mip ||| more &&& 18446744073709549431#64) := n64_or _ _
  have HD : Hid (wD k ((PR k).s 2 ||| en &&& 18446744073709549431#64) = { PR k with s := upd (PR k).s 2 ((PR k).s 2 ||| en &&& 18446744073709549431#64) }) := rfl
  generalize n64 (mip ||| more &&& 18446744073709549431#64) = y4 at a4 HP2
  generalize n64 (more &&& 18446744073709549431#64) = y3 at a3 a4
  generalize (PR k).s 2 ||| en &&& 18446744073709549431#64 = v at a2 HD HP2
  generalize n64 (en &&& 18446744073709549431#64) = y1 at a1 a2
  generalize wD k v = E at HD HP2
  generalize PR k = K at HPr a2 HD
  have R0 : Hid (Row W0 w.heap.size (cpc k) 31) := r0.out
  have BB : Hid (Below w.heap.size w W0) := b0.out
  clear r0 b0 hp hf hpd hP
  go_enter Try.func4, Try.ntmps4
  go_upto_region 1 with fail
  clear hW0
  go_upto_region 2 with (first | (refine wpList_load_row (by rfl) _ _ (by rfl) _ (by rfl) 31 _ (0, 0) _ R0.out Try.underlying31 (by rfl) (info_cpu _) ?_) | (go_at_call 9; refine (HPd.out _).mono ?_; rintro e w1 ⟨rfl, hb⟩; have Bw1 : Hid (Below W0.heap.size W0 w1) := hb; clear hb))
  go_upto_region 11 with (go_at_call 11; refine (HFi.out _).mono ?_; rintro e w2 ⟨rfl, hb⟩; have Bw2 : Hid (Below w1.heap.size w1 w2) := hb; clear hb)
  have R2 : Hid (Row w2 w.heap.size (cpc k) 31) := (R0.out.cb Bw1.out).cb Bw2.out
  have B2 : Hid (Below w.heap.size w w2) := BB.out.trans ((Bw1.out.trans (Bw2.out.mono Bw1.out.size)).mono BB.out.size)
  clear R0 BB Bw1 Bw2
  go_upto_region 12 with (first | (refine wpList_load_row (by rfl) _ _ (by rfl) _ (by rfl) 31 _ (0, 0) _ R2.out Try.underlying31 (by rfl) (info_cpu _) ?_) | (go_at_call 12; refine (HPr.out _).mono ?_; rintro e w3 ⟨rfl, hb⟩; have Bw3 : Hid (Below w2.heap.size w2 w3) := hb; clear hb) | (refine wpList_store_last (by rfl) _ _ _ (by rfl) (by rfl) _ _ _ (by rfl) (by rfl) (by rfl) (info_cpu _) (by rw [cpc_size, cpc_size]) (cpc_ones _) ?_))
  refine go_onP (motive := fun W => Code.wp _ _ _ _ W) (Q := fun W => Row W w3.heap.size (cpc K) 31 ∧ Below w.heap.size w W ∧ w.heap.size ≤ w3.heap.size) ⟨Row.new w3 (cpc K) 31, (B2.out.trans (Bw3.out.mono B2.out.size)).alloc (Nat.le_trans B2.out.size Bw3.out.size) _, Nat.le_trans B2.out.size Bw3.out.size⟩ ?_
  clear R2 B2 Bw3 HFi HPr HPd hz
  generalize w3.heap.size = gp
  rintro W4 ⟨q0, c0, l0⟩
  have RP : Hid (Row W4 gp (cpc K) 31) := q0
  have BB : Hid (Below w.heap.size w W4) := c0
  have LL : Hid (w.heap.size ≤ gp) := l0
  have K2 := q0.cls.s2
  have f0 := q0.froz
  clear q0 c0 l0
  go_upto_region 13 with fail
  have Q := RP.out.put (i := 37) (.int .u64 (n64 v))
  rw [cpc_s2] at Q
  refine go_on1 (motive := fun W => Code.wp _ _ _ _ W) (a := w) (B := w.heap.size) (cs := cpc E) (row_cast Q (by rw [HD.out])) (below_put BB.out LL.out _) rfl ?_
  clear Q RP BB K2 f0 HD
  intro W5 q0 c0 t0
  have RE : Hid (Row W5 gp (cpc E) 31) := q0
  have BB : Hid (Below w.heap.size w W5) := c0
  clear q0 c0 t0
  go_wp2_with (first | (refine wpList_load_row (by rfl) _ _ (by rfl) _ (by rfl) 31 _ (0, 0) _ RE.out Try.underlying31 (by rfl) (info_cpu _) ?_) | (go_at_call 9; refine (HP2.out _).mono ?_; rintro e w6 ⟨rfl, hb⟩; have Bw6 : Hid (Below W5.heap.size W5 w6) := hb; clear hb))
  go_ret
  exact ⟨rfl, BB.out.trans (Bw6.out.mono BB.out.size)⟩
set_option maxRecDepth 100000 in
set_option maxHeartbeats 2000000 in
theorem torder_0 (hp : CPr) (hf : ∀ W, Calls Try.prog 11 #[] W fun e w' => e = .returned (.bool true) ∧ Below W.heap.size W w') (hpd : TPd) (k : Cp) (mip more en : BitVec 64) (hP : PD k mip = (0, false)) (w : World) :
    Calls Try.prog 4 #[.agg (cpc k), .int .u64 (n64 mip), .int .u64 (n64 more), .int .u64 (n64 en)] w fun e w' => e = .returned (.bool true) ∧ Below w.heap.size w w' := by
  have hz := zero_cpu
  obtain ⟨W0, hW0, r0, b0, s0⟩ := start1 w (cpc k) 31
  clear s0
  have HFi : Hid (∀ W, Calls Try.prog 11 #[] W fun e w' => e = .returned (.bool true) ∧ Below W.heap.size W w') := hf
  have HPd : Hid (∀ W, Calls Try.prog 9 #[.agg (cpc k), .int .u64 (n64 mip)] W fun e w' => e = .returned (.tuple #[.int .i64 0, .bool false]) ∧ Below W.heap.size W w') := fun W => by have h := hpd k mip W; rw [hP] at h; exact h
  have R0 : Hid (Row W0 w.heap.size (cpc k) 31) := r0.out
  have BB : Hid (Below w.heap.size w W0) := b0.out
  clear r0 b0 hp hf hpd hP
  go_enter Try.func4, Try.ntmps4
  go_upto_region 1 with fail
  clear hW0
  go_upto_region 2 with (first | (refine wpList_load_row (by rfl) _ _ (by rfl) _ (by rfl) 31 _ (0, 0) _ R0.out Try.underlying31 (by rfl) (info_cpu _) ?_) | (go_at_call 9; refine (HPd.out _).mono ?_; rintro e w1 ⟨rfl, hb⟩; have Bw1 : Hid (Below W0.heap.size W0 w1) := hb; clear hb))
  go_wp2_with (go_at_call 11; refine (HFi.out _).mono ?_; rintro e w2 ⟨rfl, hb⟩; have Bw2 : Hid (Below w1.heap.size w1 w2) := hb; clear hb)
  go_ret
  exact ⟨rfl, BB.out.trans ((Bw1.out.trans (Bw2.out.mono Bw1.out.size)).mono BB.out.size)⟩
theorem torder_walk (hp : CPr) (hpd : TPd) (hen : TEn) (hrt : TRt) (hwt : TWt) (hef : TEf) (k : Cp) (mip more en : BitVec 64) (w : World) :
    Calls Try.prog 4 #[.agg (cpc k), .int .u64 (n64 mip), .int .u64 (n64 more), .int .u64 (n64 en)] w fun e w' => e = .returned (.bool true) ∧ Below w.heap.size w w' := by
  have hf := fun W => first_c hpd hen hrt hwt hef W
  rcases pd_is k mip with h | h | h | h
  · exact torder_11 hp hf hpd k mip more en h w
  · exact torder_3 hp hf hpd k mip more en h w
  · exact torder_7 hp hf hpd k mip more en h w
  · exact torder_0 hp hf hpd k mip more en h w
end Go.Proofs.Ytnejdfkmnblfeaa
