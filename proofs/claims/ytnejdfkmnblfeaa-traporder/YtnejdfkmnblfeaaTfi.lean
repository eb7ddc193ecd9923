/-
  status, first of the laws.
-/
import Derived.Test.YtnejdfkmnblfeaaTla
import Derived.Test.YtnejdfkmnblfeaaPbm
namespace Go.Proofs.Ytnejdfkmnblfeaa
set_option linter.unusedVariables false
open Go.ChangeShapes Go.WideShapes Go.ChangeAt Go.RowKit Go.Deep
theorem bit_and (x : BitVec 64) (n : Nat) : (n64 (x >>> n &&& 1#64) == 1) = x.getLsbD n := by
  have h := n64_odd x n
  have e : n64 (x >>> n &&& 1#64) = n64 (x >>> n) % 2 := by
    unfold n64
    rw [BitVec.toNat_and, show (1#64).toNat = 2 ^ 1 - 1 from rfl, Nat.and_two_pow_sub_one_eq_mod]
    rfl
  rw [e]; exact h
set_option maxRecDepth 100000 in
set_option maxHeartbeats 1000000 in
theorem status_c (k : Cp) (n : Nat) (hn : n < 64) (w : World) : Calls Try.prog 18 #[.agg (cpc k), .int .u64 (n : Int)] w fun e w' => e = .returned (.bool ((k.s 0).getLsbD n)) ∧ Below w.heap.size w w' := by
  obtain ⟨W0, hW0, r0, b0, s0⟩ := start1 w (cpc k) 31
  clear s0
  have K0 := r0.out.cls.s0
  have q1 : n64 (k.s 0) / 2 ^ n = n64 (k.s 0 >>> n) := n64_shr _ _
  have q2 : bits .and .u64 (n64 (k.s 0 >>> n)) 1 = n64 (k.s 0 >>> n &&& 1#64) := n64_and _ 1#64
  have HQ : Hid ((n64 (k.s 0 >>> n &&& 1#64) == 1) = (k.s 0).getLsbD n) := bit_and _ _
  have hnb : (n : Int) < 64 := by omega
  generalize n64 (k.s 0 >>> n &&& 1#64) = u1 at q2 HQ
  generalize n64 (k.s 0 >>> n) = u2 at q1 q2
  generalize n64 (k.s 0) = u3 at K0 q1
  go_enter Try.func18, Try.ntmps18
  go_upto_region 1 with fail
  clear hW0
  go_wp2
  go_ret
  exact ⟨by rw [← HQ.out]; rfl, b0.out⟩
/-- The Cpu of first. -/
def cF : Cp := { cz with pc := 2147483664#64, s := upd (upd (upd cz.s 1 2147483905#64) 2 136#64) 0 8#64 }
def dF : Cp := ENc cF 9223372036854775815#64 0#64
theorem built_cF : Try.prog.built 31 [(0, .int .u64 2147483664), (5, .int .u64 2147483905), (6, .int .u64 136), (4, .int .u64 8)] = some (cpc cF) := by kernel_rfl
theorem wpList_build_cF {ops : Array Oper} {rest : List Oper} {o : Oper} {a : Act} {w : World} {Q : Exit → Act → World → Prop} (hgd : o.guard = none) (ho : o.op = .build 31 #[(0, .const (.int .u64 2147483664)), (5, .const (.int .u64 2147483905)), (6, .const (.int .u64 136)), (4, .const (.int .u64 8))])
    (h : wpList Try.prog ops Q rest (a.put o.dst (.agg (cpc cF))) w) : wpList Try.prog ops Q (o :: rest) a w := by
  refine wpList_build_tab hgd 31 _ ho (cpc cF) ?_ h
  have e : (#[(0, Operand.const (.int .u64 2147483664)), (5, .const (.int .u64 2147483905)), (6, .const (.int .u64 136)), (4, .const (.int .u64 8))].map fun (i, u) => (i, a.eval u)).toList = [(0, Value.int .u64 2147483664), (5, .int .u64 2147483905), (6, .int .u64 136), (4, .int .u64 8)] := by simp [Act.eval]
  rw [e]
  exact built_cF
theorem pd_cF : PD cF 128#64 = (7, true) := by decide +kernel
theorem dF_pc : n64 dF.pc = 2147483932 := by decide +kernel
theorem dF_md : dF.md = 3 := by decide +kernel
theorem dF_7 : n64 (dF.s 7) = 2147483664 := by decide +kernel
theorem dF_8 : n64 (dF.s 8) = 9223372036854775815 := by decide +kernel
theorem dF_0 : n64 (dF.s 0) = 8589934720 := by decide +kernel
theorem rt_dF : RTk dF = true ∧ n64 (RTc dF).pc = 2147483664 ∧ (RTc dF).md = 0 := by decide +kernel
theorem wt_dF : WTk dF = true ∧ (WTc dF).wt = true := by decide +kernel
theorem ef_dF : EF dF = 3 := by decide +kernel
set_option maxRecDepth 100000 in
set_option maxHeartbeats 2000000 in
theorem first_c (hpd : TPd) (hen : TEn) (hrt : TRt) (hwt : TWt) (hef : TEf) (w : World) : Calls Try.prog 11 #[] w fun e w' => e = .returned (.bool true) ∧ Below w.heap.size w w' := by
  have hz := zero_cpu
  have HP : Hid (∀ W, Calls Try.prog 9 #[.agg (cpc cF), .int .u64 128] W fun e w' => e = .returned (.tuple #[.int .i64 7, .bool true]) ∧ Below W.heap.size W w') := fun W => by have h := hpd cF 128#64 W; rw [pd_cF] at h; exact h
  have HE : Hid (∀ W, Calls Try.prog 13 #[.agg (cpc cF), .int .u64 9223372036854775815, .int .u64 0] W fun e w' => e = .returned (.agg (cpc dF)) ∧ Below W.heap.size W w') := fun W => hen cF 9223372036854775815#64 0#64 W
  have HR : Hid (∀ W, Calls Try.prog 14 #[.agg (cpc dF)] W fun e w' => e = .returned (.tuple #[.agg (cpc (RTc dF)), .bool true]) ∧ Below W.heap.size W w') := fun W => by have h := hrt dF W; rw [rt_dF.1] at h; exact h
  have HW : Hid (∀ W, Calls Try.prog 15 #[.agg (cpc dF)] W fun e w' => e = .returned (.tuple #[.agg (cpc (WTc dF)), .bool true]) ∧ Below W.heap.size W w') := fun W => by have h := hwt dF W; rw [wt_dF.1] at h; exact h
  have HF : Hid (∀ W, Calls Try.prog 17 #[.agg (cpc dF)] W fun e w' => e = .returned (.int .i64 3) ∧ Below W.heap.size W w') := fun W => by have h := hef dF W; rw [ef_dF] at h; exact h
  have V1 := dF_pc
  have V2 := dF_md
  have V3 := dF_7
  have V4 := dF_8
  have V5 := dF_0
  have V6 := rt_dF.2
  have V7 := wt_dF.2
  generalize RTc dF = rF at HR V6
  generalize WTc dF = wF at HW V7
  generalize dF = eF at HE HR HW HF V1 V2 V3 V4 V5
  obtain ⟨c9, hc9⟩ : ∃ c9, c9 = cF := ⟨_, rfl⟩
  clear hpd hen hrt hwt hef
  go_enter Try.func11, Try.ntmps11
  go_upto_region 2 with (first | (refine wpList_build_cF (by rfl) (by rfl) ?_) | (refine wpList_store_last (by rfl) _ _ _ (by rfl) (by rfl) _ _ _ (by rfl) (by rfl) (by rfl) (info_cpu _) (by rw [cpc_size, cpc_size]) (cpc_ones _) ?_))
  refine go_onP (motive := fun W => Code.wp _ _ _ _ W) (Q := fun W => Row W w.heap.size (cpc cF) 31 ∧ Below w.heap.size w W) ⟨Row.new w (cpc cF) 31, (Below.refl _ _).alloc (Nat.le_refl _) _⟩ ?_
  generalize cF = cf at HP HE ⊢
  clear hc9
  rintro W1 ⟨q1, c0⟩
  have R1 : Hid (Row W1 w.heap.size (cpc cf) 31) := q1
  have BB : Hid (Below w.heap.size w W1) := c0
  clear q1 c0
  go_upto_region 5 with (first | (refine wpList_load_row (by rfl) _ _ (by rfl) _ (by rfl) 31 _ (0, 0) _ R1.out Try.underlying31 (by rfl) (info_cpu _) ?_) | (go_at_call 9; refine (HP.out _).mono ?_; rintro e w2 ⟨rfl, hb⟩; have Bw2 : Hid (Below W1.heap.size W1 w2) := hb; clear hb))
  have R2 : Hid (Row w2 w.heap.size (cpc cf) 31) := R1.out.cb Bw2.out
  go_upto_region 6 with (first | (refine wpList_load_row (by rfl) _ _ (by rfl) _ (by rfl) 31 _ (0, 0) _ R2.out Try.underlying31 (by rfl) (info_cpu _) ?_) | (go_at_call 13; refine (HE.out _).mono ?_; rintro e w3 ⟨rfl, hb⟩; have Bw3 : Hid (Below w2.heap.size w2 w3) := hb; clear hb) | (refine wpList_store_last (by rfl) _ _ _ (by rfl) (by rfl) _ _ _ (by rfl) (by rfl) (by rfl) (info_cpu _) (by rw [cpc_size, cpc_size]) (cpc_ones _) ?_))
  refine go_onP (motive := fun W => Code.wp _ _ _ _ W) (Q := fun W => Row W w3.heap.size (cpc eF) 31 ∧ Below w.heap.size w W) ⟨Row.new w3 (cpc eF) 31, (BB.out.trans ((Bw2.out.trans (Bw3.out.mono Bw2.out.size)).mono BB.out.size)).alloc (Nat.le_trans BB.out.size (Nat.le_trans Bw2.out.size Bw3.out.size)) _⟩ ?_
  clear R1 R2 BB Bw2 Bw3 HP HE
  generalize w3.heap.size = gd
  rintro W4 ⟨q1, c0⟩
  have RD : Hid (Row W4 gd (cpc eF) 31) := q1
  have BB : Hid (Below w.heap.size w W4) := c0
  have K0 : W4.cell? ⟨gd, 0, none⟩ = some (.int .u64 2147483932) := by rw [← V1]; exact q1.cls.pc
  have K1 : W4.cell? ⟨gd, 33, none⟩ = some (.int .i64 3) := by rw [← V2]; exact q1.cls.md
  have K2 : W4.cell? ⟨gd, 42, none⟩ = some (.int .u64 2147483664) := by rw [← V3]; exact q1.cls.s7
  have K3 : W4.cell? ⟨gd, 43, none⟩ = some (.int .u64 9223372036854775815) := by rw [← V4]; exact q1.cls.s8
  have K4 : W4.cell? ⟨gd, 35, none⟩ = some (.int .u64 8589934720) := by rw [← V5]; exact q1.cls.s0
  clear q1 c0 V1 V2 V3 V4 V5
  go_upto_region 8 with fail
  clear K0 K1 K2 K3 K4
  go_upto_region 9 with (first | (refine wpList_load_row (by rfl) _ _ (by rfl) _ (by rfl) 31 _ (0, 0) _ RD.out Try.underlying31 (by rfl) (info_cpu _) ?_) | (go_at_call 14; refine (HR.out _).mono ?_; rintro e w5 ⟨rfl, hb⟩; have Bw5 : Hid (Below W4.heap.size W4 w5) := hb; clear hb) | (refine wpList_store_last (by rfl) _ _ _ (by rfl) (by rfl) _ _ _ (by rfl) (by rfl) (by rfl) (info_cpu _) (by rw [cpc_size, cpc_size]) (cpc_ones _) ?_))
  refine go_onP (motive := fun W => Code.wp _ _ _ _ W) (Q := fun W => Row W gd (cpc eF) 31 ∧ Row W w5.heap.size (cpc rF) 31 ∧ Below w.heap.size w W) ⟨RD.out.ca Bw5.out _, Row.new w5 (cpc rF) 31, (BB.out.trans (Bw5.out.mono BB.out.size)).alloc (Nat.le_trans BB.out.size Bw5.out.size) _⟩ ?_
  clear RD BB Bw5 HR
  generalize w5.heap.size = gr
  rintro W6 ⟨q1, q2, c0⟩
  have RD : Hid (Row W6 gd (cpc eF) 31) := q1
  have RR : Hid (Row W6 gr (cpc rF) 31) := q2
  have BB : Hid (Below w.heap.size w W6) := c0
  clear q1 q2 c0
  go_upto_region 10 with (first | (refine wpList_load_row (by rfl) _ _ (by rfl) _ (by rfl) 31 _ (0, 0) _ RD.out Try.underlying31 (by rfl) (info_cpu _) ?_) | (go_at_call 15; refine (HW.out _).mono ?_; rintro e w7 ⟨rfl, hb⟩; have Bw7 : Hid (Below W6.heap.size W6 w7) := hb; clear hb) | (refine wpList_store_last (by rfl) _ _ _ (by rfl) (by rfl) _ _ _ (by rfl) (by rfl) (by rfl) (info_cpu _) (by rw [cpc_size, cpc_size]) (cpc_ones _) ?_))
  refine go_onP (motive := fun W => Code.wp _ _ _ _ W) (Q := fun W => Row W gd (cpc eF) 31 ∧ Row W gr (cpc rF) 31 ∧ Row W w7.heap.size (cpc wF) 31 ∧ Below w.heap.size w W) ⟨RD.out.ca Bw7.out _, RR.out.ca Bw7.out _, Row.new w7 (cpc wF) 31, (BB.out.trans (Bw7.out.mono BB.out.size)).alloc (Nat.le_trans BB.out.size Bw7.out.size) _⟩ ?_
  clear RD RR BB Bw7 HW hz
  generalize w7.heap.size = gw
  rintro W8 ⟨q1, q2, q3, c0⟩
  have RD : Hid (Row W8 gd (cpc eF) 31) := q1
  have BB : Hid (Below w.heap.size w W8) := c0
  have K0 : W8.cell? ⟨gr, 0, none⟩ = some (.int .u64 2147483664) := by rw [← V6.1]; exact q2.cls.pc
  have K1 : W8.cell? ⟨gr, 33, none⟩ = some (.int .i64 0) := by rw [← V6.2]; exact q2.cls.md
  have K2 : W8.cell? ⟨gw, 34, none⟩ = some (.bool true) := by rw [← V7]; exact q3.cls.wt
  clear q1 q2 q3 c0 V6 V7
  go_wp2_with (first | (refine wpList_load_rowG (by rfl) _ _ (by rfl) _ (by rfl) 31 _ (0, 0) _ RD.out Try.underlying31 (by rfl) (info_cpu _) ?_) | (go_at_call 17; refine (HF.out _).mono ?_; rintro e w9 ⟨rfl, hb⟩; have Bw9 : Hid (Below W8.heap.size W8 w9) := hb; clear hb))
  go_ret
  exact ⟨rfl, BB.out.trans (Bw9.out.mono BB.out.size)⟩
end Go.Proofs.Ytnejdfkmnblfeaa
