/-
  The console's registers, all of them: what a load tells and leaves, what a store leaves.
-/
import Derived.Test.YtghiabdkgfhdbaaBxb
import Derived.Test.YtghiabdkgfhdbaaBop
namespace Go.Proofs.Ytghiabdkgfhdbaa
set_option linter.unusedVariables false
open Go.ChangeShapes Go.WideShapes Go.ChangeAt Go.RowKit Go.Deep Go.MuLone
/-- A load of register r: its value, and the state behind it. -/
def St.tel (S : St) (r : Nat) : Int × St := match r with
  | 0 => (match S.inp with | [] => (0, S) | x :: xs => (x, { S with inp := xs }))
  | 1 => (S.ier, S)
  | 2 => ((if lineB S = true then 4 else 1), S)
  | 3 => (S.lcr, S)
  | 4 => (S.mcr, S)
  | 5 => (statB S, { S with ov := false })
  | 7 => (S.scr, S)
  | _ => (0, S)
/-- A store to register r. -/
def St.tak (S : St) (r : Nat) (v : Int) : St := match r with
  | 0 => S.sen (v % 256)
  | 1 => { S with ier := v % 16 }
  | 2 => if v / 2 % 2 = 1 then { S with inp := [] } else S
  | 3 => { S with lcr := v % 256 }
  | 4 => { S with mcr := v % 32 }
  | 7 => { S with scr := v % 256 }
  | _ => S
theorem and_u64_2 (x : BitVec 64) : bits .and .u64 (n64 x) 2 = 2 * (n64 x / 2 % 2) := by
  have h : bits .and .u64 (n64 x) 2 = n64 (x &&& 2#64) := n64_and x 2#64
  rw [h]
  unfold n64
  have h2 : (x &&& 2#64).toNat = 2 * (x.toNat / 2 % 2) := by
    rw [BitVec.toNat_and, show (2#64).toNat = 3 &&& 2 from rfl, ← Nat.and_assoc, show (3 : Nat) = 2 ^ 2 - 1 from rfl, Nat.and_two_pow_sub_one_eq_mod]
    have hm : x.toNat % 2 ^ 2 = 0 ∨ x.toNat % 2 ^ 2 = 1 ∨ x.toNat % 2 ^ 2 = 2 ∨ x.toNat % 2 ^ 2 = 3 := by omega
    rcases hm with e | e | e | e
    · rw [e]; show 0 = _; omega
    · rw [e]; show 0 = _; omega
    · rw [e]; show 2 = _; omega
    · rw [e]; show 2 = _; omega
  rw [h2]; omega
set_option maxHeartbeats 1000000 in
theorem uload_0 {B : Nat} {L : Lay} {S : St} (w : World) (h : PB B L S w) (h64 : S.inp.length ≤ 64) (hb : AllB S.inp) (z : Int) : Calls Try.prog 115 #[.pointer (some ⟨L.u, 0, none⟩), .int .u64 268435456, .int .i64 z] w fun e w' => e = .returned (.int .u64 (S.tel 0).1) ∧ ∃ L', PSt B L w L' (S.tel 0).2 w' := by
  have HT : Hid (0 ≤ (S.tel 0).1 ∧ (S.tel 0).1 ≤ 255 ∧ Calls Try.prog 117 #[.pointer (some ⟨L.q, 0, none⟩)] w fun e w' => e = .returned (.int .u8 (S.tel 0).1) ∧ ∃ L', PSt B L w L' (S.tel 0).2 w') := by
    cases hi : S.inp with
    | nil =>
      have e : S.tel 0 = (0, S) := by simp only [St.tel, hi]
      rw [e]
      exact ⟨Int.le_refl _, by show (0 : Int) ≤ 255; omega, take_none w h hi⟩
    | cons x xs =>
      have e : S.tel 0 = (x, { S with inp := xs }) := by simp only [St.tel, hi]
      rw [e]
      have hx := hb x (by rw [hi]; simp)
      exact ⟨hx.1, hx.2, take_some w h x xs hi (by rw [hi] at h64; simp at h64; omega)⟩
  generalize (S.tel 0).1 = v at HT ⊢
  generalize (S.tel 0).2 = T at HT ⊢
  have u4 := h.cl.u4
  have HW : Hid (IntKind.u64.wrap v = v) := u64_small HT.out.1 (by have := HT.out.2.1; omega)
  clear h hb h64
  go_enter Try.func115, Try.ntmps115
  go_wp2_with (go_at_call 117; refine HT.out.2.2.mono ?_; rintro e w1 ⟨rfl, hx⟩; have HX : Hid _ := hx; clear hx)
  go_ret
  exact ⟨by first | (rw [← HW.out]; rfl) | (show Ending.returned (.int .u64 (IntKind.u64.wrap v)) = _; rw [HW.out]), HX.out⟩
set_option maxHeartbeats 1000000 in
theorem ustore_0 {B : Nat} {L : Lay} {S : St} (w : World) (h : PB B L S w) (z v : Int) : Calls Try.prog 116 #[.pointer (some ⟨L.u, 0, none⟩), .int .u64 268435456, .int .i64 z, .int .u64 v] w fun e w' => e = .returned (.tuple #[]) ∧ ∃ L', PSt B L w L' (S.sen (v % 256)) w' := by
  have HS := send_c w h (v % 256)
  have HW : IntKind.u8.wrap v = v % 256 := by rw [IntKind.wrap_u8]
  generalize S.sen (v % 256) = T at HS ⊢
  generalize v % 256 = c at HS HW
  clear h
  go_enter Try.func116, Try.ntmps116
  go_wp2_with (go_at_call 120; refine HS.mono ?_; rintro e w1 ⟨rfl, hx⟩; have HX : Hid _ := hx; clear hx)
  go_end0
  exact ⟨rfl, HX.out⟩
set_option maxHeartbeats 1000000 in
theorem ustore_2 {B : Nat} {L : Lay} {S : St} (w : World) (h : PB B L S w) (z : Int) (x : BitVec 64) : Calls Try.prog 116 #[.pointer (some ⟨L.u, 0, none⟩), .int .u64 268435458, .int .i64 z, .int .u64 (n64 x)] w fun e w' => e = .returned (.tuple #[]) ∧ ∃ L', PSt B L w L' (S.tak 2 (n64 x)) w' := by
  have HS := empty_c w h
  have u4 := h.cl.u4
  have HP : Hid (PB B L S w) := h
  have e2 := and_u64_2 x
  by_cases hb : n64 x / 2 % 2 = 1
  · have HT : Hid (S.tak 2 (n64 x) = { S with inp := [] }) := by unfold Hid St.tak; simp only; rw [if_pos hb]
    generalize S.tak 2 (n64 x) = T at HT ⊢
    rw [hb] at e2
    have e3 : bits .and .u64 (n64 x) 2 = 2 := e2
    clear h hb e2
    go_enter Try.func116, Try.ntmps116
    go_wp2_with (go_at_call 98; refine HS.mono ?_; rintro e w1 ⟨rfl, hp, hx⟩; have HX : Hid _ := hx; have HP1 : Hid _ := hp; clear hx hp)
    go_end0
    refine ⟨rfl, { L with vi := .slice none 0 0 }, ?_⟩
    rw [HT.out]
    exact ⟨HP1.out, HX.out, fun k hk => .inl (by unfold Lay.own at hk ⊢; simp only at hk; rcases hk with e | e | e | e | e | e | e | e | e | e | e <;> first | (simp [e]; done) | (cases e)), rfl, rfl, rfl, rfl⟩
  · have HT : Hid (S.tak 2 (n64 x) = S) := by unfold Hid St.tak; simp only; rw [if_neg hb]
    generalize S.tak 2 (n64 x) = T at HT ⊢
    have e3 : bits .and .u64 (n64 x) 2 = 0 := by rw [e2]; have := n64_lo x; omega
    clear h hb e2 HS
    go_enter Try.func116, Try.ntmps116
    go_wp2
    go_end0
    refine ⟨rfl, L, ?_⟩
    rw [HT.out]
    exact .quiet HP.out (Below.refl _ _)
theorem reg_cases {r : Nat} (h : r < 8) : r = 0 ∨ r = 1 ∨ r = 2 ∨ r = 3 ∨ r = 4 ∨ r = 5 ∨ r = 6 ∨ r = 7 := by omega
/-- Every load of the console. -/
theorem uartLoad_c {B : Nat} {L : Lay} {S : St} (w : World) (h : PB B L S w) (hw : StW S) (h64 : S.inp.length ≤ 64) (r : Nat) (hr : r < 8) (z : Int) : Calls Try.prog 115 #[.pointer (some ⟨L.u, 0, none⟩), .int .u64 (268435456 + (r : Int)), .int .i64 z] w fun e w' => e = .returned (.int .u64 (S.tel r).1) ∧ ∃ L', PSt B L w L' (S.tel r).2 w' := by
  rcases reg_cases hr with rfl | rfl | rfl | rfl | rfl | rfl | rfl | rfl
  · exact uload_0 w h h64 hw.i z
  · exact (uload_1 w h hw.ier z).mono fun e w' ⟨he, hw'⟩ => ⟨he, L, by rw [hw']; exact .quiet h (Below.refl _ _)⟩
  · exact (uload_2 w h hw.ier z).mono fun e w' ⟨he, hb⟩ => ⟨he, L, .quiet h hb⟩
  · exact (uload_3 w h hw.lcr z).mono fun e w' ⟨he, hw'⟩ => ⟨he, L, by rw [hw']; exact .quiet h (Below.refl _ _)⟩
  · exact (uload_4 w h hw.mcr z).mono fun e w' ⟨he, hw'⟩ => ⟨he, L, by rw [hw']; exact .quiet h (Below.refl _ _)⟩
  · exact (uload_5 w h z).mono fun e w' ⟨he, hp, hx⟩ => ⟨he, L, .same hp hx⟩
  · exact (uload_6 _ w z).mono fun e w' ⟨he, hw'⟩ => ⟨he, L, by rw [hw']; exact .quiet h (Below.refl _ _)⟩
  · exact (uload_7 w h hw.scr z).mono fun e w' ⟨he, hw'⟩ => ⟨he, L, by rw [hw']; exact .quiet h (Below.refl _ _)⟩
/-- Every store to the console. -/
theorem uartStore_c {B : Nat} {L : Lay} {S : St} (w : World) (h : PB B L S w) (r : Nat) (hr : r < 8) (z : Int) (x : BitVec 64) : Calls Try.prog 116 #[.pointer (some ⟨L.u, 0, none⟩), .int .u64 (268435456 + (r : Int)), .int .i64 z, .int .u64 (n64 x)] w fun e w' => e = .returned (.tuple #[]) ∧ ∃ L', PSt B L w L' (S.tak r (n64 x)) w' := by
  rcases reg_cases hr with rfl | rfl | rfl | rfl | rfl | rfl | rfl | rfl
  · exact ustore_0 w h z (n64 x)
  · exact (ustore_1 w h z (n64 x)).mono fun e w' ⟨he, hp, hx⟩ => ⟨he, L, .same hp hx⟩
  · exact ustore_2 w h z x
  · exact (ustore_3 w h z (n64 x)).mono fun e w' ⟨he, hp, hx⟩ => ⟨he, L, .same hp hx⟩
  · exact (ustore_4 w h z (n64 x)).mono fun e w' ⟨he, hp, hx⟩ => ⟨he, L, .same hp hx⟩
  · exact (ustore_5 _ w z (n64 x)).mono fun e w' ⟨he, hw'⟩ => ⟨he, L, by rw [hw']; exact .quiet h (Below.refl _ _)⟩
  · exact (ustore_6 _ w z (n64 x)).mono fun e w' ⟨he, hw'⟩ => ⟨he, L, by rw [hw']; exact .quiet h (Below.refl _ _)⟩
  · exact (ustore_7 w h z (n64 x)).mono fun e w' ⟨he, hp, hx⟩ => ⟨he, L, .same hp hx⟩
end Go.Proofs.Ytghiabdkgfhdbaa
