/-
  Iwj.
-/
import Derived.Test.YtheeogbmljjbdaaGreatDoorN29
namespace Go.Proofs.YtheeogbmljjbdaaGreatDoor
set_option linter.unusedVariables false
open Go.ChangeShapes Go.WideShapes Go.ChangeAt Go.RowKit Go.Deep
set_option maxRecDepth 100000 in
set_option maxHeartbeats 400000 in
theorem section_c (p f n pos : Nat) (tx kd : BitVec 64) (fr to : Nat) (T : Nat → Int) (D : Nat → Prop) (w : World) (hp : Pen p f n pos w) (hF : Fil f n T D w) (hpf : ¬ p = f) (hn : pos + 40 ≤ n) (hnb : n ≤ 1000000) (hft : fr ≤ to) (ht : to ≤ 1000000)
    (hT1 : ∀ j, j < 2 → ∀ i, i < 4 → T (pos + 4 * j + i) = n64 ([tx, kd].getD j 0) / 2 ^ (8 * i) % 256)
    (hT2 : ∀ j, j < 4 → ∀ i, i < 8 → T (pos + 8 + 8 * j + i) = n64 ([0, 0, BitVec.ofNat 64 fr, BitVec.ofNat 64 (to - fr)].getD j 0) / 2 ^ (8 * i) % 256) :
    Calls Tryz.prog 80 #[.pointer (some ⟨p, 0, none⟩), .int .u64 (n64 tx), .int .u64 (n64 kd), .int .i64 fr, .int .i64 to] w fun e w' => e = .returned (.tuple #[]) ∧ Pen p f n (pos + 40) w' ∧ Fil f n T (fun i => D i ∨ (pos ≤ i ∧ i < pos + 40)) w' ∧ Kp p f w w' := by
  have HP : Hid (Pen p f n pos w ∧ Fil f n T D w ∧ ¬ p = f) := ⟨hp, hF, hpf⟩
  have HT1 : Hid (∀ j, j < 2 → ∀ i, i < 4 → T (pos + 4 * j + i) = n64 ([tx, kd].getD j 0) / 2 ^ (8 * i) % 256) := hT1
  have HT2 : Hid (∀ j, j < 4 → ∀ i, i < 8 → T (pos + 8 + 8 * j + i) = n64 ([0, 0, BitVec.ofNat 64 fr, BitVec.ofNat 64 (to - fr)].getD j 0) / 2 ^ (8 * i) % 256) := hT2
  have HC1 : Hid (∀ j, j < 2 → (#[Value.int .u64 (n64 tx), Value.int .u64 (n64 kd)] : Array Value)[j]? = some (.int .u64 (n64 ([tx, kd].getD j 0)))) := fun j hj => by
    rcases j with _ | _ | j
    · rfl
    · rfl
    · omega
  have HC2 : Hid (∀ j, j < 4 → (#[Value.int .u64 0, Value.int .u64 0, Value.int .u64 fr, Value.int .u64 ((to : Int) - fr)] : Array Value)[j]? = some (.int .u64 (n64 ([0, 0, BitVec.ofNat 64 fr, BitVec.ofNat 64 (to - fr)].getD j 0)))) := fun j hj => by
    have e1 : n64 (BitVec.ofNat 64 fr) = fr := by unfold n64; rw [BitVec.toNat_ofNat, Nat.mod_eq_of_lt (by omega)]
    have e2 : n64 (BitVec.ofNat 64 (to - fr)) = (to : Int) - fr := by unfold n64; rw [BitVec.toNat_ofNat, Nat.mod_eq_of_lt (by omega)]; omega
    rcases j with _ | _ | _ | _ | j
    · rfl
    · rfl
    · show some (Value.int .u64 (fr : Int)) = some (.int .u64 (n64 (BitVec.ofNat 64 fr)))
      rw [e1]
    · show some (Value.int .u64 ((to : Int) - fr)) = some (.int .u64 (n64 (BitVec.ofNat 64 (to - fr))))
      rw [e2]
    · omega
  have hI1 : (fr : Int) ≤ to := by omega
  have hI2 : (to : Int) ≤ 1000000 := by omega
  clear hp hF hpf hT1 hT2
  go_enter Tryz.func80, Tryz.ntmps80
  go_wp2_with (go_at_call 78; first | (have hpq := hp1; refine (put_v p f n (pos + 8) 8 4 8 [0, 0, BitVec.ofNat 64 fr, BitVec.ofNat 64 (to - fr)] _ T _ w1 hp1 hf1 HP.out.2.2 rfl rfl HC2.out (by omega) (by omega) hnb (by omega) HT2.out).mono ?_; rintro e w2 ⟨rfl, hp2, hf2, hk2⟩) | (refine (put_v p f n pos 4 2 4 [tx, kd] _ T D w HP.out.1 HP.out.2.1 HP.out.2.2 rfl rfl HC1.out (by omega) (by omega) hnb (by omega) HT1.out).mono ?_; rintro e w1 ⟨rfl, hp1, hf1, hk1⟩))
  --@CUT
  first | go_end0 | refine bodyPost_ret (results_none rfl _ _ _) rfl ?_
  refine ⟨rfl, hp2, hf2.set (fun i _ => ?_), hk1.trans hk2⟩
  constructor
  · rintro ((h | h) | h)
    · exact .inl h
    · exact .inr (by omega)
    · exact .inr (by omega)
  · rintro (h | h)
    · exact .inl (.inl h)
    · by_cases e : i < pos + 8
      · exact .inl (.inr (by omega))
      · exact .inr (by omega)
end Go.Proofs.YtheeogbmljjbdaaGreatDoor
