/-
  ImageChecks: the walk.
-/
import Derived.Test.YtjjdpfmkbaaapaaDoorIcr
import Derived.Test.YtjjdpfmkbaaapaaDoorIty
import Derived.Deep.RegionHeld
namespace Go.Proofs.YtjjdpfmkbaaapaaDoor
set_option linter.unusedVariables false
open Go.ChangeShapes Go.WideShapes Go.ChangeAt Go.RowKit Go.Deep
theorem ff_congr {f g : Nat → Int} (n : Nat) : ∀ i, (∀ j, i ≤ j → j < i + n → f j = g j) → ff f n i = ff g n i := by
  induction n with
  | zero => intro i _; rfl
  | succ n ih =>
    intro i h
    have h0 := h i (Nat.le_refl _) (by omega)
    have h1 := ih (i + 1) (fun j h1 h2 => h j (by omega) (by omega))
    show (if f i = 0 then ff f n (i + 1) else f i) = (if g i = 0 then ff g n (i + 1) else g i)
    rw [h0, h1]
theorem pf_alike {L M : List Sg} (h : Alike L M) (i : Nat) (hi : i < L.length) : pf M i = pf L i := by
  have e1 : lastB (sg M i) = lastB (sg L i) := by unfold lastB; rw [h.a i hi, h.s i hi]
  have e2 : lastB (sg M (i - 1)) = lastB (sg L (i - 1)) := by unfold lastB; rw [h.a (i - 1) (by omega), h.s (i - 1) (by omega)]
  unfold pf
  rw [h.a i hi, h.s i hi, h.f i hi, h.n i hi, e1, e2]
theorem sk_alike {L M : List Sg} (h : Alike L M) (k : Nat) : k ≤ L.length → sk M k = sk L k := by
  induction k with
  | zero => intro _; show 64 + 56 * M.length = 64 + 56 * L.length; rw [h.len]
  | succ k ih =>
    intro hk
    show (if 0 < (sg M k).n then al (sk M k) + (sg M k).n else sk M k) = (if 0 < (sg L k).n then al (sk L k) + (sg L k).n else sk L k)
    rw [ih (by omega), h.n k (by omega)]
theorem ck_alike {L M : List Sg} (h : Alike L M) (E : BitVec 64) (N : List Sy) : ck E M N = ck E L N := by
  have e1 : ff (pf M) M.length 0 = ff (pf L) L.length 0 := by rw [h.len]; exact ff_congr _ 0 (fun j _ hj => pf_alike h j (by omega))
  have e2 : szz M N = szz L N := by unfold szz tabAt; rw [h.len, sk_alike h _ (Nat.le_refl _)]
  unfold ck
  rw [e1, e2, h.len]
theorem check_l (E : BitVec 64) {vs vn : Value} {L M : List Sg} {N : List Sy} (hal : Hid (Alike L M)) (hl : L.length ≤ 140737488355328) (hn : N.length ≤ 140737488355328) {w : World} (hi : Hid (Img w vs vn M N)) (hT : Hid (Tabs w)) (R : Int) (hR : Hid (R = ck E L N)) :
    Calls Tryd.prog 10 #[.agg #[.int .u64 (n64 E), vs, vn]] w fun e w' => e = .returned (.int .i64 R) ∧ Hid (Below w.heap.size w w') := by
  rw [hR.out, ← ck_alike hal.out]
  exact check_c E vs vn M N (by rw [hal.out.len]; exact hl) hn w hi.out hT
theorem rcheck_l (E : BitVec 64) {vs vn : Value} {L : List Sg} {N : List Sy} (hl : L.length ≤ 140737488355328) (hn : N.length ≤ 140737488355328) {w : World} (hi : Hid (Img w vs vn L N)) (hT : Hid (Tabs w)) (R : Int) (hR : Hid (R = ck E L N)) :
    Calls Tryd.prog 13 #[.agg #[.int .u64 (n64 E), vs, vn]] w fun e w' => e = .returned (.int .i64 R) ∧ Hid (Below w.heap.size w w') := by
  rw [hR.out]; exact rcheck_c E vs vn L N hl hn w hi.out hT
theorem num_c (z : Int) (w : World) : Calls Tryd.prog 7 #[.int .i64 z] w fun e w' => e = .returned (.int .i64 z) ∧ w = w' := by
  go_enter Tryd.func7, Tryd.ntmps7
  go_wp2
  go_ret
  exact ⟨rfl, rfl⟩
end Go.Proofs.YtjjdpfmkbaaapaaDoor
