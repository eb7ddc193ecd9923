/-
  Bup Bdw Bqt Bqs Bql Bqw.
-/
import Derived.Test.YtghiabdkgfhdbaaBld
import Derived.Test.YtghiabdkgfhdbaaBtl
namespace Go.Proofs.Ytghiabdkgfhdbaa
set_option linter.unusedVariables false
open Go.ChangeShapes Go.WideShapes Go.ChangeAt Go.RowKit Go.Deep
theorem set_apart {w : World} {b q j : Nat} {C D : Array Value} {T U : TypeId} {v : Value} (hb : w.heap[b]? = some (.cells C T (0, 0))) (hq : w.heap[q]? = some (.cells D U (0, 0))) (hne : T ≠ U ∨ C[0]? ≠ D[0]?) : (w.setCell ⟨b, j, none⟩ v).heap[q]? = some (.cells D U (0, 0)) := by
  rw [Below.heap_setCell w ⟨b, j, none⟩ v q (fun e => ?_)]
  · exact hq
  · have e' : q = b := e
    subst e'
    rw [hb] at hq
    cases hq
    rcases hne with h | h <;> exact h rfl
theorem own_apart_set {w : World} {B b j n : Nat} {C : Array Value} {T : TypeId} {v u : Value} {xs : List Value} (ho : w.ownsRow B 5 1 u n xs) (hb : w.heap[b]? = some (.cells C T (0, 0))) (hT : T ≠ 5) : (w.setCell ⟨b, j, none⟩ v).ownsRow B 5 1 u n xs :=
  ownsRow_setCell_other ho (fun e => own_ne_row ho hb hT _ e rfl) v
theorem exc_set (L : Lay) (w : World) (b j : Nat) (v : Value) (h : L.own b) : Exc L.own w (w.setCell ⟨b, j, none⟩ v) := (Exc.refl _ w).set b j v h
theorem PB.set_ext {B : Nat} {L : Lay} {S : St} {w : World} (h : PB B L S w) (x : Bool) : PB B L { S with ext := x } (w.setCell ⟨L.b, 6, none⟩ (.bool x)) :=
  ⟨heap_setCell_same w L.b 6 _ _ _ h.hb, set_apart h.hb h.hm (.inl (by decide)), set_apart h.hb h.hp (.inl (by decide)), set_apart h.hb h.hs (.inl (by decide)), set_apart h.hb h.hc (.inl (by decide)), set_apart h.hb h.hk (.inl (by decide)), set_apart h.hb h.hu (.inl (by decide)), set_apart h.hb h.hq (.inl (by decide)), own_apart_set h.wr h.hb (by decide), own_apart_set h.wi h.hb (by decide), own_apart_set h.wo h.hb (by decide), h.ri, h.ro, h.io, h.lb, h.lm, h.lp, h.ls, h.lc, h.lk, h.lu, h.lq⟩
theorem PB.set_soft {B : Nat} {L : Lay} {S : St} {w : World} (h : PB B L S w) (x : Bool) : PB B L { S with soft := x } (w.setCell ⟨L.b, 7, none⟩ (.bool x)) :=
  ⟨heap_setCell_same w L.b 7 _ _ _ h.hb, set_apart h.hb h.hm (.inl (by decide)), set_apart h.hb h.hp (.inl (by decide)), set_apart h.hb h.hs (.inl (by decide)), set_apart h.hb h.hc (.inl (by decide)), set_apart h.hb h.hk (.inl (by decide)), set_apart h.hb h.hu (.inl (by decide)), set_apart h.hb h.hq (.inl (by decide)), own_apart_set h.wr h.hb (by decide), own_apart_set h.wi h.hb (by decide), own_apart_set h.wo h.hb (by decide), h.ri, h.ro, h.io, h.lb, h.lm, h.lp, h.ls, h.lc, h.lk, h.lu, h.lq⟩
theorem PB.set_off {B : Nat} {L : Lay} {S : St} {w : World} (h : PB B L S w) (x : Int) : PB B L { S with off := x } (w.setCell ⟨L.pw, 0, none⟩ (.int .i64 x)) :=
  ⟨set_apart h.hp h.hb (.inl (by decide)), set_apart h.hp h.hm (.inl (by decide)), heap_setCell_same w L.pw 0 _ _ _ h.hp, set_apart h.hp h.hs (.inl (by decide)), set_apart h.hp h.hc (.inl (by decide)), set_apart h.hp h.hk (.inl (by decide)), set_apart h.hp h.hu (.inl (by decide)), set_apart h.hp h.hq (.inl (by decide)), own_apart_set h.wr h.hp (by decide), own_apart_set h.wi h.hp (by decide), own_apart_set h.wo h.hp (by decide), h.ri, h.ro, h.io, h.lb, h.lm, h.lp, h.ls, h.lc, h.lk, h.lu, h.lq⟩
theorem PB.set_code {B : Nat} {L : Lay} {S : St} {w : World} (h : PB B L S w) (x : Int) : PB B L { S with code := x } (w.setCell ⟨L.pw, 1, none⟩ (.int .i64 x)) :=
  ⟨set_apart h.hp h.hb (.inl (by decide)), set_apart h.hp h.hm (.inl (by decide)), heap_setCell_same w L.pw 1 _ _ _ h.hp, set_apart h.hp h.hs (.inl (by decide)), set_apart h.hp h.hc (.inl (by decide)), set_apart h.hp h.hk (.inl (by decide)), set_apart h.hp h.hu (.inl (by decide)), set_apart h.hp h.hq (.inl (by decide)), own_apart_set h.wr h.hp (by decide), own_apart_set h.wi h.hp (by decide), own_apart_set h.wo h.hp (by decide), h.ri, h.ro, h.io, h.lb, h.lm, h.lp, h.ls, h.lc, h.lk, h.lu, h.lq⟩
theorem PB.set_msip {B : Nat} {L : Lay} {S : St} {w : World} (h : PB B L S w) (x : Int) : PB B L { S with msip := x } (w.setCell ⟨L.sw, 0, none⟩ (.int .u32 x)) :=
  ⟨set_apart h.hs h.hb (.inl (by decide)), set_apart h.hs h.hm (.inl (by decide)), set_apart h.hs h.hp (.inl (by decide)), heap_setCell_same w L.sw 0 _ _ _ h.hs, set_apart h.hs h.hc (.inl (by decide)), set_apart h.hs h.hk (.inl (by decide)), set_apart h.hs h.hu (.inl (by decide)), set_apart h.hs h.hq (.inl (by decide)), own_apart_set h.wr h.hs (by decide), own_apart_set h.wi h.hs (by decide), own_apart_set h.wo h.hs (by decide), h.ri, h.ro, h.io, h.lb, h.lm, h.lp, h.ls, h.lc, h.lk, h.lu, h.lq⟩
theorem PB.set_cmp {B : Nat} {L : Lay} {S : St} {w : World} (h : PB B L S w) (x : Int) : PB B L { S with cmp := x } (w.setCell ⟨L.cm, 1, none⟩ (.int .u64 x)) :=
  ⟨set_apart h.hc h.hb (.inl (by decide)), set_apart h.hc h.hm (.inl (by decide)), set_apart h.hc h.hp (.inl (by decide)), set_apart h.hc h.hs (.inl (by decide)), heap_setCell_same w L.cm 1 _ _ _ h.hc, set_apart h.hc h.hk (.inr (by simp)), set_apart h.hc h.hu (.inl (by decide)), set_apart h.hc h.hq (.inl (by decide)), own_apart_set h.wr h.hc (by decide), own_apart_set h.wi h.hc (by decide), own_apart_set h.wo h.hc (by decide), h.ri, h.ro, h.io, h.lb, h.lm, h.lp, h.ls, h.lc, h.lk, h.lu, h.lq⟩
theorem PB.set_time {B : Nat} {L : Lay} {S : St} {w : World} (h : PB B L S w) (x : Int) : PB B L { S with time := x } (w.setCell ⟨L.ck, 1, none⟩ (.int .u64 x)) :=
  ⟨set_apart h.hk h.hb (.inl (by decide)), set_apart h.hk h.hm (.inl (by decide)), set_apart h.hk h.hp (.inl (by decide)), set_apart h.hk h.hs (.inl (by decide)), set_apart h.hk h.hc (.inr (by simp)), heap_setCell_same w L.ck 1 _ _ _ h.hk, set_apart h.hk h.hu (.inl (by decide)), set_apart h.hk h.hq (.inl (by decide)), own_apart_set h.wr h.hk (by decide), own_apart_set h.wi h.hk (by decide), own_apart_set h.wo h.hk (by decide), h.ri, h.ro, h.io, h.lb, h.lm, h.lp, h.ls, h.lc, h.lk, h.lu, h.lq⟩
theorem PB.set_ier {B : Nat} {L : Lay} {S : St} {w : World} (h : PB B L S w) (x : Int) : PB B L { S with ier := x } (w.setCell ⟨L.u, 0, none⟩ (.int .u8 x)) :=
  ⟨set_apart h.hu h.hb (.inl (by decide)), set_apart h.hu h.hm (.inl (by decide)), set_apart h.hu h.hp (.inl (by decide)), set_apart h.hu h.hs (.inl (by decide)), set_apart h.hu h.hc (.inl (by decide)), set_apart h.hu h.hk (.inl (by decide)), heap_setCell_same w L.u 0 _ _ _ h.hu, set_apart h.hu h.hq (.inl (by decide)), own_apart_set h.wr h.hu (by decide), own_apart_set h.wi h.hu (by decide), own_apart_set h.wo h.hu (by decide), h.ri, h.ro, h.io, h.lb, h.lm, h.lp, h.ls, h.lc, h.lk, h.lu, h.lq⟩
theorem PB.set_lcr {B : Nat} {L : Lay} {S : St} {w : World} (h : PB B L S w) (x : Int) : PB B L { S with lcr := x } (w.setCell ⟨L.u, 1, none⟩ (.int .u8 x)) :=
  ⟨set_apart h.hu h.hb (.inl (by decide)), set_apart h.hu h.hm (.inl (by decide)), set_apart h.hu h.hp (.inl (by decide)), set_apart h.hu h.hs (.inl (by decide)), set_apart h.hu h.hc (.inl (by decide)), set_apart h.hu h.hk (.inl (by decide)), heap_setCell_same w L.u 1 _ _ _ h.hu, set_apart h.hu h.hq (.inl (by decide)), own_apart_set h.wr h.hu (by decide), own_apart_set h.wi h.hu (by decide), own_apart_set h.wo h.hu (by decide), h.ri, h.ro, h.io, h.lb, h.lm, h.lp, h.ls, h.lc, h.lk, h.lu, h.lq⟩
theorem PB.set_mcr {B : Nat} {L : Lay} {S : St} {w : World} (h : PB B L S w) (x : Int) : PB B L { S with mcr := x } (w.setCell ⟨L.u, 2, none⟩ (.int .u8 x)) :=
  ⟨set_apart h.hu h.hb (.inl (by decide)), set_apart h.hu h.hm (.inl (by decide)), set_apart h.hu h.hp (.inl (by decide)), set_apart h.hu h.hs (.inl (by decide)), set_apart h.hu h.hc (.inl (by decide)), set_apart h.hu h.hk (.inl (by decide)), heap_setCell_same w L.u 2 _ _ _ h.hu, set_apart h.hu h.hq (.inl (by decide)), own_apart_set h.wr h.hu (by decide), own_apart_set h.wi h.hu (by decide), own_apart_set h.wo h.hu (by decide), h.ri, h.ro, h.io, h.lb, h.lm, h.lp, h.ls, h.lc, h.lk, h.lu, h.lq⟩
theorem PB.set_scr {B : Nat} {L : Lay} {S : St} {w : World} (h : PB B L S w) (x : Int) : PB B L { S with scr := x } (w.setCell ⟨L.u, 3, none⟩ (.int .u8 x)) :=
  ⟨set_apart h.hu h.hb (.inl (by decide)), set_apart h.hu h.hm (.inl (by decide)), set_apart h.hu h.hp (.inl (by decide)), set_apart h.hu h.hs (.inl (by decide)), set_apart h.hu h.hc (.inl (by decide)), set_apart h.hu h.hk (.inl (by decide)), heap_setCell_same w L.u 3 _ _ _ h.hu, set_apart h.hu h.hq (.inl (by decide)), own_apart_set h.wr h.hu (by decide), own_apart_set h.wi h.hu (by decide), own_apart_set h.wo h.hu (by decide), h.ri, h.ro, h.io, h.lb, h.lm, h.lp, h.ls, h.lc, h.lk, h.lu, h.lq⟩
theorem PB.set_ov {B : Nat} {L : Lay} {S : St} {w : World} (h : PB B L S w) (x : Bool) : PB B L { S with ov := x } (w.setCell ⟨L.q, 3, none⟩ (.bool x)) :=
  ⟨set_apart h.hq h.hb (.inl (by decide)), set_apart h.hq h.hm (.inl (by decide)), set_apart h.hq h.hp (.inl (by decide)), set_apart h.hq h.hs (.inl (by decide)), set_apart h.hq h.hc (.inl (by decide)), set_apart h.hq h.hk (.inl (by decide)), set_apart h.hq h.hu (.inl (by decide)), heap_setCell_same w L.q 3 _ _ _ h.hq, own_apart_set h.wr h.hq (by decide), own_apart_set h.wi h.hq (by decide), own_apart_set h.wo h.hq (by decide), h.ri, h.ro, h.io, h.lb, h.lm, h.lp, h.ls, h.lc, h.lk, h.lu, h.lq⟩
theorem mth_msip_load (a : Addr) (w : World) : (method 256 72 (.pointer (some a)) "anvil/bus.load").run Try.prog w = .ok (108, .pointer (some a)) w := by kernel_rfl
theorem mth_msip_store (a : Addr) (w : World) : (method 256 72 (.pointer (some a)) "anvil/bus.store").run Try.prog w = .ok (109, .pointer (some a)) w := by kernel_rfl
theorem mth_finisher_load (a : Addr) (w : World) : (method 256 71 (.pointer (some a)) "anvil/bus.load").run Try.prog w = .ok (105, .pointer (some a)) w := by kernel_rfl
theorem mth_finisher_store (a : Addr) (w : World) : (method 256 71 (.pointer (some a)) "anvil/bus.store").run Try.prog w = .ok (106, .pointer (some a)) w := by kernel_rfl
theorem mth_counter_load (a : Addr) (w : World) : (method 256 73 (.pointer (some a)) "anvil/bus.load").run Try.prog w = .ok (111, .pointer (some a)) w := by kernel_rfl
theorem mth_counter_store (a : Addr) (w : World) : (method 256 73 (.pointer (some a)) "anvil/bus.store").run Try.prog w = .ok (112, .pointer (some a)) w := by kernel_rfl
theorem mth_uart_load (a : Addr) (w : World) : (method 256 74 (.pointer (some a)) "anvil/bus.load").run Try.prog w = .ok (115, .pointer (some a)) w := by kernel_rfl
theorem mth_uart_store (a : Addr) (w : World) : (method 256 74 (.pointer (some a)) "anvil/bus.store").run Try.prog w = .ok (116, .pointer (some a)) w := by kernel_rfl
theorem msipLoad_c {B : Nat} {L : Lay} {S : St} (w : World) (h : PB B L S w) (a z : Int) (hm : 0 ≤ S.msip ∧ S.msip ≤ 4294967295) : Calls Try.prog 108 #[.pointer (some ⟨L.sw, 0, none⟩), .int .u64 a, .int .i64 z] w fun e w' => e = .returned (.int .u64 S.msip) ∧ Below w.heap.size w w' := by
  have s0 := h.cl.s0
  have e1 : IntKind.u64.wrap S.msip = S.msip := u64_small (by omega) (by omega)
  clear h
  go_enter Try.func108, Try.ntmps108
  go_wp2
  go_ret
  exact ⟨rfl, Below.refl _ _⟩
theorem finLoad_c {B : Nat} {L : Lay} {S : St} (w : World) (h : PB B L S w) (a z : Int) : Calls Try.prog 105 #[.pointer (some ⟨L.pw, 0, none⟩), .int .u64 a, .int .i64 z] w fun e w' => e = .returned (.int .u64 0) ∧ Below w.heap.size w w' := by
  clear h
  go_enter Try.func105, Try.ntmps105
  go_wp2
  go_ret
  exact ⟨rfl, Below.refl _ _⟩
end Go.Proofs.Ytghiabdkgfhdbaa
namespace Go.Proofs.Ytghiabdkgfhdbaa
set_option linter.unusedVariables false
open Go.ChangeShapes Go.WideShapes Go.ChangeAt Go.RowKit Go.Deep Go.MuLone
theorem and_u32_1 {v : Int} (h0 : 0 ≤ v) (h1 : v ≤ 4294967295) : bits .and .u32 v 1 = v % 2 := by
  have e : BitVec.ofInt 32 v = BitVec.ofNat 32 v.toNat := by
    apply BitVec.eq_of_toNat_eq
    rw [BitVec.toNat_ofInt, BitVec.toNat_ofNat]
    omega
  show IntKind.u32.wrap (((BitVec.ofInt 32 v &&& BitVec.ofInt 32 1).toNat : Nat) : Int) = _
  rw [e, show BitVec.ofInt 32 1 = 1#32 from rfl, BitVec.toNat_and, show (1#32).toNat = 1 from rfl, Nat.and_one_is_mod, BitVec.toNat_ofNat]
  show (((v.toNat % 2 ^ 32 % 2 : Nat) : Int)) % 4294967296 = _
  omega
theorem PB.own_sw {B : Nat} {L : Lay} {S : St} {w : World} (h : PB B L S w) : L.own L.sw := by unfold Lay.own; simp
theorem PB.own_pw {B : Nat} {L : Lay} {S : St} {w : World} (h : PB B L S w) : L.own L.pw := by unfold Lay.own; simp
theorem PB.own_q {B : Nat} {L : Lay} {S : St} {w : World} (h : PB B L S w) : L.own L.q := by unfold Lay.own; simp
theorem PB.own_u {B : Nat} {L : Lay} {S : St} {w : World} (h : PB B L S w) : L.own L.u := by unfold Lay.own; simp
theorem PB.own_b {B : Nat} {L : Lay} {S : St} {w : World} (h : PB B L S w) : L.own L.b := by unfold Lay.own; simp
theorem PB.own_cm {B : Nat} {L : Lay} {S : St} {w : World} (h : PB B L S w) : L.own L.cm := by unfold Lay.own; simp
theorem PB.own_ck {B : Nat} {L : Lay} {S : St} {w : World} (h : PB B L S w) : L.own L.ck := by unfold Lay.own; simp
theorem msipStore_c {B : Nat} {L : Lay} {S : St} (w : World) (h : PB B L S w) (a z v : Int) (hv : 0 ≤ v ∧ v ≤ 18446744073709551615) : Calls Try.prog 109 #[.pointer (some ⟨L.sw, 0, none⟩), .int .u64 a, .int .i64 z, .int .u64 v] w fun e w' => e = .returned (.tuple #[]) ∧ PB B L { S with msip := v % 2 } w' ∧ Exc L.own w w' := by
  have s0 := h.cl.s0
  have f0 : w.frozen? ⟨L.sw, 0, none⟩ = false := frozen_of_row w L.sw 0 _ _ h.hs
  have HP : Hid (PB B L { S with msip := v % 2 } (w.setCell ⟨L.sw, 0, none⟩ (.int .u32 (v % 2)))) := h.set_msip (v % 2)
  have HX : Hid (Exc L.own w (w.setCell ⟨L.sw, 0, none⟩ (.int .u32 (v % 2)))) := exc_set L w L.sw 0 _ h.own_sw
  have e1 : bits .and .u32 (v % 4294967296) 1 = v % 2 := by
    rw [and_u32_1 (by omega) (by omega)]; omega
  clear h
  go_enter Try.func109, Try.ntmps109
  go_wp2
  go_end0
  exact ⟨rfl, HP.out, HX.out⟩
/-- The power switch written. -/
def St.fin (S : St) (v : Int) : St := if S.off = 0 then (if v % 65536 = 21845 then { S with off := 1 } else if v % 65536 = 13107 then { S with off := 2, code := v / 65536 % 65536 } else S) else S
set_option maxHeartbeats 1000000 in
theorem finStore_c {B : Nat} {L : Lay} {S : St} (w : World) (h : PB B L S w) (a z v : Int) (hv : 0 ≤ v ∧ v ≤ 18446744073709551615) : Calls Try.prog 106 #[.pointer (some ⟨L.pw, 0, none⟩), .int .u64 a, .int .i64 z, .int .u64 v] w fun e w' => e = .returned (.tuple #[]) ∧ PB B L (S.fin v) w' ∧ Exc L.own w w' := by
  have p0 := h.cl.p0
  have p1 := h.cl.p1
  have f0 : w.frozen? ⟨L.pw, 0, none⟩ = false := frozen_of_row w L.pw 0 _ _ h.hp
  have f1 : w.frozen? ⟨L.pw, 1, none⟩ = false := frozen_of_row w L.pw 1 _ _ h.hp
  have HO : Hid (L.own L.pw) := h.own_pw
  have HP0 : Hid (PB B L S w) := h
  have e1 : IntKind.u16.wrap v = v % 65536 := rfl
  clear h
  by_cases h0 : S.off = 0
  · rw [h0] at p0
    by_cases h1 : v % 65536 = 21845
    · have q1 : (v % 65536 == 21845) = true := by simpa using h1
      have HE : Hid (S.fin v = { S with off := 1 }) := by unfold Hid St.fin; rw [if_pos h0, if_pos h1]
      go_enter Try.func106, Try.ntmps106
      go_wp2
      first | go_end0 | refine bodyPost_ret (results_none rfl _ _ _) rfl ?_
      rw [HE.out]
      exact ⟨rfl, HP0.out.set_off 1, exc_set L w L.pw 0 _ HO.out⟩
    · have q1 : (v % 65536 == 21845) = false := by simpa using h1
      by_cases h2 : v % 65536 = 13107
      · have q2 : (v % 65536 == 13107) = true := by simpa using h2
        have HE : Hid (S.fin v = { S with off := 2, code := v / 65536 % 65536 }) := by unfold Hid St.fin; rw [if_pos h0, if_neg h1, if_pos h2]
        have e2 : IntKind.u16.wrap (v / 65536) = v / 65536 % 65536 := rfl
        go_enter Try.func106, Try.ntmps106
        go_wp2
        first | go_end0 | refine bodyPost_ret (results_none rfl _ _ _) rfl ?_
        rw [HE.out]
        exact ⟨rfl, (HP0.out.set_off 2).set_code (v / 65536 % 65536), (exc_set L w L.pw 0 _ HO.out).trans (exc_set L _ L.pw 1 _ HO.out)⟩
      · have q2 : (v % 65536 == 13107) = false := by simpa using h2
        have HE : Hid (S.fin v = S) := by unfold Hid St.fin; rw [if_pos h0, if_neg h1, if_neg h2]
        go_enter Try.func106, Try.ntmps106
        go_wp2
        first | go_end0 | refine bodyPost_ret (results_none rfl _ _ _) rfl ?_
        rw [HE.out]
        exact ⟨rfl, HP0.out, Exc.refl _ _⟩
  · have q0 : (S.off != 0) = true := by simpa using h0
    have HE : Hid (S.fin v = S) := by unfold Hid St.fin; rw [if_neg h0]
    go_enter Try.func106, Try.ntmps106
    go_wp2
    first | go_end0 | refine bodyPost_ret (results_none rfl _ _ _) rfl ?_
    rw [HE.out]
    exact ⟨rfl, HP0.out, Exc.refl _ _⟩
/-- The lock taken and given back around a write: the first cell written twice, another in between. -/
theorem PB.locked {B : Nat} {L : Lay} {S : St} {w : World} (h : PB B L S w) : w.cell? ⟨L.q, 0, none⟩ = some (.int .i32 0) ∧ w.frozen? ⟨L.q, 0, none⟩ = false := ⟨cell_of_row w L.q 0 _ _ _ h.hq, frozen_of_row w L.q 0 _ _ h.hq⟩
theorem set_back {w : World} {q j : Nat} {C : Array Value} {T : TypeId} {x y v : Value} (hq : w.heap[q]? = some (.cells C T (0, 0))) (hx : C[0]? = some x) (hj : j ≠ 0) : ((w.setCell ⟨q, 0, none⟩ y).setCell ⟨q, j, none⟩ v).setCell ⟨q, 0, none⟩ x = w.setCell ⟨q, j, none⟩ v := by
  have hql : q < w.heap.size := (Array.getElem?_eq_some_iff.1 hq).1
  have e1 := heap_setCell_same w q 0 C T y hq
  have e2 := heap_setCell_same _ q j _ T v e1
  have e3 := heap_setCell_same _ q 0 _ T x e2
  have e4 := heap_setCell_same w q j C T v hq
  have hc : ((C.setIfInBounds 0 y).setIfInBounds j v).setIfInBounds 0 x = C.setIfInBounds j v := by
    apply Array.ext_getElem?
    intro i
    have h0 : 0 < C.size := (Array.getElem?_eq_some_iff.1 hx).1
    by_cases hi : i = 0
    · subst hi
      rw [Array.getElem?_setIfInBounds_ne hj, hx]
      simp [h0]
    · rw [Array.getElem?_setIfInBounds_ne (by omega)]
      by_cases hij : j = i
      · subst hij; simp [Array.getElem?_setIfInBounds]
      · rw [Array.getElem?_setIfInBounds_ne hij, Array.getElem?_setIfInBounds_ne (by omega), Array.getElem?_setIfInBounds_ne hij]
  have hh : (((w.setCell ⟨q, 0, none⟩ y).setCell ⟨q, j, none⟩ v).setCell ⟨q, 0, none⟩ x).heap = (w.setCell ⟨q, j, none⟩ v).heap := by
    apply Array.ext_getElem?
    intro i
    by_cases hi : i = q
    · subst hi; rw [e3, e4, hc]
    · rw [Below.heap_setCell _ ⟨q, 0, none⟩ x i hi, Below.heap_setCell _ ⟨q, j, none⟩ v i hi, Below.heap_setCell _ ⟨q, 0, none⟩ y i hi, Below.heap_setCell _ ⟨q, j, none⟩ v i hi]
  unfold World.setCell at hh ⊢
  simp only at hh ⊢
  rw [hh]
end Go.Proofs.Ytghiabdkgfhdbaa
namespace Go.Proofs.Ytghiabdkgfhdbaa
set_option linter.unusedVariables false
open Go.ChangeShapes Go.WideShapes Go.ChangeAt Go.RowKit Go.Deep Go.MuLone
set_option maxHeartbeats 1000000 in
theorem tell_c {B : Nat} {L : Lay} {S : St} (w : World) (h : PB B L S w) : Calls Try.prog 121 #[.pointer (some ⟨L.q, 0, none⟩)] w fun e w' => e = .returned (.tuple #[.bool (decide (0 < S.inp.length)), .bool S.ov]) ∧ PB B L { S with ov := false } w' ∧ Exc L.own w w' := by
  obtain ⟨c0, f0⟩ := h.locked
  obtain ⟨w1, hw1⟩ : ∃ w1, w1 = w.setCell ⟨L.q, 0, none⟩ (.int .i32 1) := ⟨_, rfl⟩
  have hq1 : w1.heap[L.q]? = some (.cells #[.int .i32 1, .int .u32 0, L.vi, .bool S.ov] 109 (0, 0)) := by rw [hw1]; exact heap_setCell_same w L.q 0 _ _ _ h.hq
  have d2 : w1.cell? ⟨L.q, 2, none⟩ = some L.vi := cell_of_row w1 L.q 2 _ _ _ hq1
  have d3 : w1.cell? ⟨L.q, 3, none⟩ = some (.bool S.ov) := cell_of_row w1 L.q 3 _ _ _ hq1
  have g3 : w1.frozen? ⟨L.q, 3, none⟩ = false := frozen_of_row w1 L.q 3 _ _ hq1
  have HLK := (lock_free muLib ⟨L.q, 0, none⟩ w c0 f0)
  rw [← hw1] at HLK
  have HQ2 : Hid ((w1.setCell ⟨L.q, 3, none⟩ (.bool false)).heap[L.q]? = some (.cells #[.int .i32 1, .int .u32 0, L.vi, .bool false] 109 (0, 0))) := heap_setCell_same w1 L.q 3 _ _ _ hq1
  have HW : Hid ((w1.setCell ⟨L.q, 3, none⟩ (.bool false)).setCell ⟨L.q, 0, none⟩ (.int .i32 0) = w.setCell ⟨L.q, 3, none⟩ (.bool false)) := by
    unfold Hid; rw [hw1]; exact set_back h.hq rfl (by decide)
  have HP : Hid (PB B L { S with ov := false } (w.setCell ⟨L.q, 3, none⟩ (.bool false))) := h.set_ov false
  have HX : Hid (Exc L.own w (w.setCell ⟨L.q, 3, none⟩ (.bool false))) := exc_set L w L.q 3 _ h.own_q
  obtain ⟨ai, ci, ei, _⟩ := Byt.of_own h.wi
  obtain ⟨b, hb⟩ : ∃ b, b = decide (0 < S.inp.length) := ⟨_, rfl⟩
  rw [← hb]
  have HE : Hid (b = decide (0 < S.inp.length)) := hb
  rw [ei] at d2
  clear hw1 hq1 hb h ei
  go_enter_defers Try.func121, Try.ntmps121
  go_wp2_with (go_at_call 51; refine HLK.mono ?_; rintro e w' ⟨rfl, rfl⟩)
  refine leaves_cons (f := 52) (args := #[.pointer (some ⟨L.q, 0, none⟩)]) (by simp) (by simp [go_sem]) ?_
  refine (unlock_deferred muLib ⟨L.q, 0, none⟩ .returning _ ?_ ?_).mono ?_
  · exact cell_of_row _ L.q 0 _ _ _ HQ2.out
  · exact frozen_of_row _ L.q 0 _ _ HQ2.out
  rintro e u' w3 ⟨rfl, rfl, hw3⟩
  refine ⟨_, results_tmp2 rfl _ _ _, by rw [HE.out]; rfl, ?_⟩
  rw [hw3, HW.out]
  exact ⟨HP.out, HX.out⟩
/-- The queue's list is another one. -/
theorem PB.set_vi {B : Nat} {L : Lay} {S : St} {w : World} (h : PB B L S w) (v : Value) (l : List Int) (ho : w.ownsRow B 5 1 v l.length (bv l)) (hr : ∀ g, L.vr.ownBlock = some g → v.ownBlock ≠ some g) (hv : ∀ g, v.ownBlock = some g → L.vo.ownBlock ≠ some g) :
    PB B { L with vi := v } { S with inp := l } (w.setCell ⟨L.q, 2, none⟩ v) :=
  ⟨set_apart h.hq h.hb (.inl (by decide)), set_apart h.hq h.hm (.inl (by decide)), set_apart h.hq h.hp (.inl (by decide)), set_apart h.hq h.hs (.inl (by decide)), set_apart h.hq h.hc (.inl (by decide)), set_apart h.hq h.hk (.inl (by decide)), set_apart h.hq h.hu (.inl (by decide)), heap_setCell_same w L.q 2 _ _ _ h.hq,
   own_apart_set h.wr h.hq (by decide), own_apart_set ho h.hq (by decide), own_apart_set h.wo h.hq (by decide), hr, h.ro, hv, h.lb, h.lm, h.lp, h.ls, h.lc, h.lk, h.lu, h.lq⟩
theorem PB.set_vo {B : Nat} {L : Lay} {S : St} {w : World} (h : PB B L S w) (v : Value) (l : List Int) (ho : w.ownsRow B 5 1 v l.length (bv l)) (hr : ∀ g, L.vr.ownBlock = some g → v.ownBlock ≠ some g) (hv : ∀ g, L.vi.ownBlock = some g → v.ownBlock ≠ some g) :
    PB B { L with vo := v } { S with out := l } (w.setCell ⟨L.u, 5, none⟩ v) :=
  ⟨set_apart h.hu h.hb (.inl (by decide)), set_apart h.hu h.hm (.inl (by decide)), set_apart h.hu h.hp (.inl (by decide)), set_apart h.hu h.hs (.inl (by decide)), set_apart h.hu h.hc (.inl (by decide)), set_apart h.hu h.hk (.inl (by decide)), heap_setCell_same w L.u 5 _ _ _ h.hu, set_apart h.hu h.hq (.inl (by decide)),
   own_apart_set h.wr h.hu (by decide), own_apart_set h.wi h.hu (by decide), own_apart_set ho h.hu (by decide), h.ri, hr, hv, h.lb, h.lm, h.lp, h.ls, h.lc, h.lk, h.lu, h.lq⟩
set_option maxHeartbeats 1000000 in
theorem empty_c {B : Nat} {L : Lay} {S : St} (w : World) (h : PB B L S w) : Calls Try.prog 98 #[.pointer (some ⟨L.q, 0, none⟩)] w fun e w' => e = .returned (.tuple #[]) ∧ PB B { L with vi := .slice none 0 0 } { S with inp := [] } w' ∧ Exc L.own w w' := by
  obtain ⟨c0, f0⟩ := h.locked
  obtain ⟨w1, hw1⟩ : ∃ w1, w1 = w.setCell ⟨L.q, 0, none⟩ (.int .i32 1) := ⟨_, rfl⟩
  have hq1 : w1.heap[L.q]? = some (.cells #[.int .i32 1, .int .u32 0, L.vi, .bool S.ov] 109 (0, 0)) := by rw [hw1]; exact heap_setCell_same w L.q 0 _ _ _ h.hq
  have d2 : w1.cell? ⟨L.q, 2, none⟩ = some L.vi := cell_of_row w1 L.q 2 _ _ _ hq1
  have g2 : w1.frozen? ⟨L.q, 2, none⟩ = false := frozen_of_row w1 L.q 2 _ _ hq1
  have HLK := (lock_free muLib ⟨L.q, 0, none⟩ w c0 f0)
  rw [← hw1] at HLK
  have HQ2 : Hid ((w1.setCell ⟨L.q, 2, none⟩ (.slice none 0 0)).heap[L.q]? = some (.cells #[.int .i32 1, .int .u32 0, .slice none 0 0, .bool S.ov] 109 (0, 0))) := heap_setCell_same w1 L.q 2 _ _ _ hq1
  have HW : Hid ((w1.setCell ⟨L.q, 2, none⟩ (.slice none 0 0)).setCell ⟨L.q, 0, none⟩ (.int .i32 0) = w.setCell ⟨L.q, 2, none⟩ (.slice none 0 0)) := by
    unfold Hid; rw [hw1]; exact set_back h.hq rfl (by decide)
  have HP : Hid (PB B { L with vi := .slice none 0 0 } { S with inp := [] } (w.setCell ⟨L.q, 2, none⟩ (.slice none 0 0))) := h.set_vi (.slice none 0 0) [] (World.ownsRow_nil _ _ _ _) (fun g hg e => by cases e) (fun g hg => by cases hg)
  have HX : Hid (Exc L.own w (w.setCell ⟨L.q, 2, none⟩ (.slice none 0 0))) := exc_set L w L.q 2 _ h.own_q
  clear hw1 hq1 h
  go_enter_defers Try.func98, Try.ntmps98
  go_wp2_with (go_at_call 51; refine HLK.mono ?_; rintro e w' ⟨rfl, rfl⟩)
  refine leaves_cons (f := 52) (args := #[.pointer (some ⟨L.q, 0, none⟩)]) (by simp) (by simp [go_sem]) ?_
  refine (unlock_deferred muLib ⟨L.q, 0, none⟩ .returning _ ?_ ?_).mono ?_
  · exact cell_of_row _ L.q 0 _ _ _ HQ2.out
  · exact frozen_of_row _ L.q 0 _ _ HQ2.out
  rintro e u' w3 ⟨rfl, rfl, hw3⟩
  refine ⟨_, results_none rfl _ _ _, rfl, ?_⟩
  rw [hw3, HW.out]
  exact ⟨HP.out, HX.out⟩
theorem hasRoom_c {B : Nat} {L : Lay} {S : St} (w : World) (h : PB B L S w) : Calls Try.prog 114 #[.pointer (some ⟨L.u, 0, none⟩)] w fun e w' => e = .returned (.bool (decide ((S.out.length : Int) < 4096))) ∧ w' = w := by
  have u5 := h.cl.u5
  obtain ⟨ao, co, eo, _⟩ := Byt.of_own h.wo
  rw [eo] at u5
  clear h eo
  go_enter Try.func114, Try.ntmps114
  go_wp2
  go_ret
  exact ⟨rfl, rfl⟩
theorem reason_c {B : Nat} {L : Lay} {S : St} (w : World) (h : PB B L S w) (hi : 0 ≤ S.ier ∧ S.ier ≤ 255) : Calls Try.prog 118 #[.pointer (some ⟨L.u, 0, none⟩)] w fun e w' => e = .returned (.int .u64 (if lineB S = true then 4 else 1)) ∧ Below w.heap.size w w' := by
  have HL := line_c w h hi
  cases hl : lineB S with
  | true =>
    rw [hl] at HL
    clear h
    go_enter Try.func118, Try.ntmps118
    go_wp2_with (go_at_call 56; refine HL.mono ?_; rintro e w1 ⟨rfl, hb1⟩)
    go_ret
    exact ⟨rfl, hb1⟩
  | false =>
    rw [hl] at HL
    clear h
    go_enter Try.func118, Try.ntmps118
    go_wp2_with (go_at_call 56; refine HL.mono ?_; rintro e w1 ⟨rfl, hb1⟩)
    go_ret
    exact ⟨rfl, hb1⟩
end Go.Proofs.Ytghiabdkgfhdbaa
namespace Go.Proofs.Ytghiabdkgfhdbaa
set_option linter.unusedVariables false
open Go.ChangeShapes Go.WideShapes Go.ChangeAt Go.RowKit Go.Deep Go.MuLone
/-- What the status register tells. -/
def statB (S : St) : Int := (if 0 < S.inp.length then 1 else 0) + (if S.ov then 2 else 0) + (if (S.out.length : Int) < 4096 then 96 else 0)
set_option maxHeartbeats 4000000 in
theorem status_c {B : Nat} {L : Lay} {S : St} (w : World) (h : PB B L S w) : Calls Try.prog 119 #[.pointer (some ⟨L.u, 0, none⟩)] w fun e w' => e = .returned (.int .u64 (statB S)) ∧ PB B L { S with ov := false } w' ∧ Exc L.own w w' := by
  have u4 := h.cl.u4
  have HT := tell_c w h
  have HR : Hid (∀ w1, PB B L { S with ov := false } w1 → Calls Try.prog 114 #[.pointer (some ⟨L.u, 0, none⟩)] w1 fun e w' => e = .returned (.bool (decide ((S.out.length : Int) < 4096))) ∧ w' = w1) := fun w1 h1 => hasRoom_c (S := { S with ov := false }) w1 h1
  have HE : Hid (statB S = (if decide (0 < S.inp.length) = true then 1 else 0) + (if S.ov = true then 2 else 0) + (if decide ((S.out.length : Int) < 4096) = true then 96 else 0)) := by unfold Hid statB; simp
  generalize statB S = r at HE ⊢
  generalize decide (0 < S.inp.length) = b1 at HT HE
  generalize decide ((S.out.length : Int) < 4096) = b3 at HR HE
  generalize hT : ({ S with ov := false } : St) = T at HT HR ⊢
  clear hT h
  generalize S.ov = b2 at HT HE
  cases b1 <;> cases b2 <;> cases b3
  all_goals
    go_enter Try.func119, Try.ntmps119
    go_wp2_with (first | (go_at_call 121; refine HT.mono ?_; rintro e w1 ⟨rfl, hp, hx⟩; have HP : Hid _ := hp; have HX : Hid _ := hx; clear hp hx) | (go_at_call 114; refine (HR.out _ HP.out).mono ?_; rintro e w2 ⟨rfl, hw⟩; have hw2 := hw.symm; subst hw2))
    go_ret
    exact ⟨by rw [HE.out]; rfl, HP.out, HX.out⟩
end Go.Proofs.Ytghiabdkgfhdbaa
namespace Go.Proofs.Ytghiabdkgfhdbaa
set_option linter.unusedVariables false
open Go.ChangeShapes Go.WideShapes Go.ChangeAt Go.RowKit Go.Deep Go.MuLone
theorem uload_1 {B : Nat} {L : Lay} {S : St} (w : World) (h : PB B L S w) (hi : 0 ≤ S.ier ∧ S.ier ≤ 255) (z : Int) : Calls Try.prog 115 #[.pointer (some ⟨L.u, 0, none⟩), .int .u64 268435457, .int .i64 z] w fun e w' => e = .returned (.int .u64 S.ier) ∧ w' = w := by
  have u0 := h.cl.u0
  have HW : Hid (IntKind.u64.wrap S.ier = S.ier) := u64_small hi.1 (by omega)
  clear h hi
  go_enter Try.func115, Try.ntmps115
  go_wp2
  go_ret
  exact ⟨by first | (rw [← HW.out]; rfl) | (show Ending.returned (.int .u64 (IntKind.u64.wrap S.ier)) = _; rw [HW.out]), rfl⟩
theorem uload_3 {B : Nat} {L : Lay} {S : St} (w : World) (h : PB B L S w) (hi : 0 ≤ S.lcr ∧ S.lcr ≤ 255) (z : Int) : Calls Try.prog 115 #[.pointer (some ⟨L.u, 0, none⟩), .int .u64 268435459, .int .i64 z] w fun e w' => e = .returned (.int .u64 S.lcr) ∧ w' = w := by
  have u1 := h.cl.u1
  have HW : Hid (IntKind.u64.wrap S.lcr = S.lcr) := u64_small hi.1 (by omega)
  clear h hi
  go_enter Try.func115, Try.ntmps115
  go_wp2
  go_ret
  exact ⟨by first | (rw [← HW.out]; rfl) | (show Ending.returned (.int .u64 (IntKind.u64.wrap S.lcr)) = _; rw [HW.out]), rfl⟩
theorem uload_4 {B : Nat} {L : Lay} {S : St} (w : World) (h : PB B L S w) (hi : 0 ≤ S.mcr ∧ S.mcr ≤ 255) (z : Int) : Calls Try.prog 115 #[.pointer (some ⟨L.u, 0, none⟩), .int .u64 268435460, .int .i64 z] w fun e w' => e = .returned (.int .u64 S.mcr) ∧ w' = w := by
  have u2 := h.cl.u2
  have HW : Hid (IntKind.u64.wrap S.mcr = S.mcr) := u64_small hi.1 (by omega)
  clear h hi
  go_enter Try.func115, Try.ntmps115
  go_wp2
  go_ret
  exact ⟨by first | (rw [← HW.out]; rfl) | (show Ending.returned (.int .u64 (IntKind.u64.wrap S.mcr)) = _; rw [HW.out]), rfl⟩
theorem uload_7 {B : Nat} {L : Lay} {S : St} (w : World) (h : PB B L S w) (hi : 0 ≤ S.scr ∧ S.scr ≤ 255) (z : Int) : Calls Try.prog 115 #[.pointer (some ⟨L.u, 0, none⟩), .int .u64 268435463, .int .i64 z] w fun e w' => e = .returned (.int .u64 S.scr) ∧ w' = w := by
  have u3 := h.cl.u3
  have HW : Hid (IntKind.u64.wrap S.scr = S.scr) := u64_small hi.1 (by omega)
  clear h hi
  go_enter Try.func115, Try.ntmps115
  go_wp2
  go_ret
  exact ⟨by first | (rw [← HW.out]; rfl) | (show Ending.returned (.int .u64 (IntKind.u64.wrap S.scr)) = _; rw [HW.out]), rfl⟩
theorem uload_6 (a : Option Addr) (w : World) (z : Int) : Calls Try.prog 115 #[.pointer a, .int .u64 268435462, .int .i64 z] w fun e w' => e = .returned (.int .u64 0) ∧ w' = w := by
  go_enter Try.func115, Try.ntmps115
  go_wp2
  go_ret
  exact ⟨rfl, rfl⟩
theorem uload_2 {B : Nat} {L : Lay} {S : St} (w : World) (h : PB B L S w) (hi : 0 ≤ S.ier ∧ S.ier ≤ 255) (z : Int) : Calls Try.prog 115 #[.pointer (some ⟨L.u, 0, none⟩), .int .u64 268435458, .int .i64 z] w fun e w' => e = .returned (.int .u64 (if lineB S = true then 4 else 1)) ∧ Below w.heap.size w w' := by
  have HR := reason_c w h hi
  generalize (if lineB S = true then (4 : Int) else 1) = r at HR ⊢
  clear h hi
  go_enter Try.func115, Try.ntmps115
  go_wp2_with (go_at_call 118; refine HR.mono ?_; rintro e w1 ⟨rfl, hb1⟩)
  go_ret
  exact ⟨rfl, hb1⟩
theorem uload_5 {B : Nat} {L : Lay} {S : St} (w : World) (h : PB B L S w) (z : Int) : Calls Try.prog 115 #[.pointer (some ⟨L.u, 0, none⟩), .int .u64 268435461, .int .i64 z] w fun e w' => e = .returned (.int .u64 (statB S)) ∧ PB B L { S with ov := false } w' ∧ Exc L.own w w' := by
  have HR := status_c w h
  generalize statB S = r at HR ⊢
  generalize ({ S with ov := false } : St) = T at HR ⊢
  clear h
  go_enter Try.func115, Try.ntmps115
  go_wp2_with (go_at_call 119; refine HR.mono ?_; rintro e w1 ⟨rfl, hp, hx⟩; have HP : Hid _ := hp; have HX : Hid _ := hx; clear hp hx)
  go_ret
  exact ⟨rfl, HP.out, HX.out⟩
end Go.Proofs.Ytghiabdkgfhdbaa
namespace Go.Proofs.Ytghiabdkgfhdbaa
set_option linter.unusedVariables false
open Go.ChangeShapes Go.WideShapes Go.ChangeAt Go.RowKit Go.Deep Go.MuLone
theorem ustore_3 {B : Nat} {L : Lay} {S : St} (w : World) (h : PB B L S w) (z v : Int) : Calls Try.prog 116 #[.pointer (some ⟨L.u, 0, none⟩), .int .u64 268435459, .int .i64 z, .int .u64 v] w fun e w' => e = .returned (.tuple #[]) ∧ PB B L { S with lcr := v % 256 } w' ∧ Exc L.own w w' := by
  have u1 := h.cl.u1
  have f1 : w.frozen? ⟨L.u, 1, none⟩ = false := frozen_of_row w L.u 1 _ _ h.hu
  have HP : Hid (PB B L { S with lcr := v % 256 } (w.setCell ⟨L.u, 1, none⟩ (.int .u8 (v % 256)))) := h.set_lcr (v % 256)
  have HX : Hid (Exc L.own w (w.setCell ⟨L.u, 1, none⟩ (.int .u8 (v % 256)))) := exc_set L w L.u 1 _ h.own_u
  clear h
  go_enter Try.func116, Try.ntmps116
  go_wp2
  go_end0
  exact ⟨rfl, HP.out, HX.out⟩
theorem ustore_7 {B : Nat} {L : Lay} {S : St} (w : World) (h : PB B L S w) (z v : Int) : Calls Try.prog 116 #[.pointer (some ⟨L.u, 0, none⟩), .int .u64 268435463, .int .i64 z, .int .u64 v] w fun e w' => e = .returned (.tuple #[]) ∧ PB B L { S with scr := v % 256 } w' ∧ Exc L.own w w' := by
  have u3 := h.cl.u3
  have f3 : w.frozen? ⟨L.u, 3, none⟩ = false := frozen_of_row w L.u 3 _ _ h.hu
  have HP : Hid (PB B L { S with scr := v % 256 } (w.setCell ⟨L.u, 3, none⟩ (.int .u8 (v % 256)))) := h.set_scr (v % 256)
  have HX : Hid (Exc L.own w (w.setCell ⟨L.u, 3, none⟩ (.int .u8 (v % 256)))) := exc_set L w L.u 3 _ h.own_u
  clear h
  go_enter Try.func116, Try.ntmps116
  go_wp2
  go_end0
  exact ⟨rfl, HP.out, HX.out⟩
theorem ustore_5 (a : Option Addr) (w : World) (z v : Int) : Calls Try.prog 116 #[.pointer a, .int .u64 268435461, .int .i64 z, .int .u64 v] w fun e w' => e = .returned (.tuple #[]) ∧ w' = w := by
  go_enter Try.func116, Try.ntmps116
  go_wp2
  go_end0
  exact ⟨rfl, rfl⟩
theorem ustore_6 (a : Option Addr) (w : World) (z v : Int) : Calls Try.prog 116 #[.pointer a, .int .u64 268435462, .int .i64 z, .int .u64 v] w fun e w' => e = .returned (.tuple #[]) ∧ w' = w := by
  go_enter Try.func116, Try.ntmps116
  go_wp2
  go_end0
  exact ⟨rfl, rfl⟩
theorem and_u8_15 {v : Int} (h0 : 0 ≤ v) (h1 : v ≤ 255) : bits .and .u8 v 15 = v % 16 := by
  have e : BitVec.ofInt 8 v = BitVec.ofNat 8 v.toNat := by
    apply BitVec.eq_of_toNat_eq
    rw [BitVec.toNat_ofInt, BitVec.toNat_ofNat]
    omega
  show IntKind.u8.wrap (((BitVec.ofInt 8 v &&& BitVec.ofInt 8 15).toNat : Nat) : Int) = _
  rw [e, show BitVec.ofInt 8 15 = 15#8 from rfl, BitVec.toNat_and, show (15#8).toNat = 2 ^ 4 - 1 from rfl, Nat.and_two_pow_sub_one_eq_mod, BitVec.toNat_ofNat]
  show (((v.toNat % 2 ^ 8 % 16 : Nat) : Int)) % 256 = _
  omega
theorem ustore_1 {B : Nat} {L : Lay} {S : St} (w : World) (h : PB B L S w) (z v : Int) : Calls Try.prog 116 #[.pointer (some ⟨L.u, 0, none⟩), .int .u64 268435457, .int .i64 z, .int .u64 v] w fun e w' => e = .returned (.tuple #[]) ∧ PB B L { S with ier := v % 16 } w' ∧ Exc L.own w w' := by
  have u0 := h.cl.u0
  have f0 : w.frozen? ⟨L.u, 0, none⟩ = false := frozen_of_row w L.u 0 _ _ h.hu
  have HP : Hid (PB B L { S with ier := v % 16 } (w.setCell ⟨L.u, 0, none⟩ (.int .u8 (v % 16)))) := h.set_ier (v % 16)
  have HX : Hid (Exc L.own w (w.setCell ⟨L.u, 0, none⟩ (.int .u8 (v % 16)))) := exc_set L w L.u 0 _ h.own_u
  have e1 : bits .and .u8 (v % 256) 15 = v % 16 := by
    rw [and_u8_15 (by omega) (by omega)]; omega
  clear h
  go_enter Try.func116, Try.ntmps116
  go_wp2
  go_end0
  exact ⟨rfl, HP.out, HX.out⟩
theorem and_u8_31 {v : Int} (h0 : 0 ≤ v) (h1 : v ≤ 255) : bits .and .u8 v 31 = v % 32 := by
  have e : BitVec.ofInt 8 v = BitVec.ofNat 8 v.toNat := by
    apply BitVec.eq_of_toNat_eq
    rw [BitVec.toNat_ofInt, BitVec.toNat_ofNat]
    omega
  show IntKind.u8.wrap (((BitVec.ofInt 8 v &&& BitVec.ofInt 8 31).toNat : Nat) : Int) = _
  rw [e, show BitVec.ofInt 8 31 = 31#8 from rfl, BitVec.toNat_and, show (31#8).toNat = 2 ^ 5 - 1 from rfl, Nat.and_two_pow_sub_one_eq_mod, BitVec.toNat_ofNat]
  show (((v.toNat % 2 ^ 8 % 32 : Nat) : Int)) % 256 = _
  omega
theorem ustore_4 {B : Nat} {L : Lay} {S : St} (w : World) (h : PB B L S w) (z v : Int) : Calls Try.prog 116 #[.pointer (some ⟨L.u, 0, none⟩), .int .u64 268435460, .int .i64 z, .int .u64 v] w fun e w' => e = .returned (.tuple #[]) ∧ PB B L { S with mcr := v % 32 } w' ∧ Exc L.own w w' := by
  have u2 := h.cl.u2
  have f2 : w.frozen? ⟨L.u, 2, none⟩ = false := frozen_of_row w L.u 2 _ _ h.hu
  have HP : Hid (PB B L { S with mcr := v % 32 } (w.setCell ⟨L.u, 2, none⟩ (.int .u8 (v % 32)))) := h.set_mcr (v % 32)
  have HX : Hid (Exc L.own w (w.setCell ⟨L.u, 2, none⟩ (.int .u8 (v % 32)))) := exc_set L w L.u 2 _ h.own_u
  have e1 : bits .and .u8 (v % 256) 31 = v % 32 := by
    rw [and_u8_31 (by omega) (by omega)]; omega
  clear h
  go_enter Try.func116, Try.ntmps116
  go_wp2
  go_end0
  exact ⟨rfl, HP.out, HX.out⟩
end Go.Proofs.Ytghiabdkgfhdbaa
