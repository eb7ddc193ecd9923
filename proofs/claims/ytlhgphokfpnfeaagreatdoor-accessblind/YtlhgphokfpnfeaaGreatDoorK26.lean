import Derived.Test.YtlhgphokfpnfeaaGreatDoorK24
import Derived.Test.YtlhgphokfpnfeaaGreatDoorK25
import Derived.Test.YtlhgphokfpnfeaaGreatDoorK06
namespace Go.Proofs.YtlhgphokfpnfeaaGreatDoor
set_option linter.unusedVariables false
open Go.ChangeShapes Go.WideShapes Go.ChangeAt Go.RowKit Go.Deep
theorem does_c {B : Nat} {L : Lay} {S : St} (w : World) (h : PB B L S w) (hs : Sok S) (hT : Tb w) (hB : 0 < B) (k : Cp) (a : Acd) :
    Calls Tryz.prog 14 #[.agg (cpc k), .pointer (some ⟨L.b, 0, none⟩), .agg (acc a)] w fun e w' => e = .returned (.agg (otc (DO S k a).1)) ∧ ∃ L', PSt B L w L' (DO S k a).2 w' := by
  by_cases hq : a.kd = 4 ∨ a.kd = 5 ∨ a.kd = 6
  · exact does_B w h hs hT hB k a hq
  exact does_A w h hs hT hB k a (fun e => hq (.inl e)) (fun e => hq (.inr (.inl e))) (fun e => hq (.inr (.inr e)))
end Go.Proofs.YtlhgphokfpnfeaaGreatDoor
namespace Go.Proofs.YtlhgphokfpnfeaaGreatDoor
set_option linter.unusedVariables false
open Go.ChangeShapes Go.WideShapes Go.ChangeAt Go.RowKit Go.Deep
set_option maxRecDepth 100000 in
set_option maxHeartbeats 2000000 in
theorem new_c (n : Nat) (w : World) (h : ramOk n = true) : Calls Tryz.prog 23 #[.int .i64 n] w fun e w' => ∃ L, e = .returned (.tuple #[.pointer (some ⟨L.b, 0, none⟩), .int .i64 0]) ∧ PB w.heap.size L (St.zero n) w' ∧ Below w.heap.size w w' := by
  have hC := isRamSize_c n
  rw [h] at hC
  have hn : n ≤ 65536 := by simp [ramOk] at h; omega
  obtain ⟨i0, hi, hz0, hz1, hz2⟩ := info_parts info5
  have HI : Hid (Tryz.prog.info? 5 = some i0) := hi
  have HZ0 : Hid (i0.zero = some (.int .u8 0)) := hz0
  have HZ1 : Hid (i0.size = 1) := hz1
  have HZ2 : Hid (i0.bytes = 1) := hz2
  clear hi hz0 hz1 hz2
  have HF : Hid (∀ w1, Byt w1 (.slice (some ⟨w.heap.size, 0, none⟩) n n) (List.replicate n 0) → Calls Tryz.prog 22 #[.agg #[.slice (some ⟨w.heap.size, 0, none⟩) n n, .int .u32 0, .int .u64 18446744073709551615, .int .u64 0, .bool false, .bool false, .int .u8 0, .int .u8 0, .int .u8 0, .int .u8 0, .bool false, .slice none 0 0, .slice none 0 0, .int .i64 0, .int .i64 0]] w1
      fun e w' => ∃ L, e = .returned (.tuple #[pt L.b, .int .i64 0]) ∧ PB w1.heap.size L (St.zero n) w' ∧ Below w1.heap.size w1 w') := fun w1 hb => by
    have := from_c (St.zero n) (some ⟨w.heap.size, 0, none⟩) none none n 0 0 w1 (St.zero_ok h) (by simpa [St.zero] using hb) (Byt.nil w1) (Byt.nil w1) (by simp [St.zero]; omega) (by simp [St.zero]) (by simp [St.zero])
    simpa [stc, St.zero] using this
  go_enter Tryz.func23, Tryz.ntmps23
  go_wp2_with (first | (go_at_call 44; refine (hC _).mono ?_; rintro e w1 ⟨rfl, hw⟩; have hw2 := hw.symm; subst hw2) | (at_make; refine wpList_make_full _ (by rfl) _ _ 32 (by rfl) w.heap.size 5 i0 (.int .u8 0) 1 Tryz.underlying32 HI.out HZ0.out HZ1.out _ _ _ _ n (by rfl) (by rfl) (by omega) (by omega) (by rw [HZ2.out]; omega) (by unfold maxLen; omega) (Nat.le_refl _) ?_; intro w1 hown hgrow; rw [show (Value.int .u8 0).cells = #[Value.int .u8 0] from rfl, made_bv] at hown; have HO : Hid _ := hown; have HB : Hid (Below w.heap.size w w1) := (Below.refl _ _).grown hgrow (Nat.le_refl _) (fun k hk => by cases hk); clear hown hgrow) | (go_at_call 22; refine (HF.out _ (Byt.of_own HO.out)).mono ?_; rintro e w2 ⟨L, rfl, hpb, hb2⟩; simp only [pt]; have HP : Hid _ := hpb; have HB2 : Hid _ := hb2; clear hpb hb2))
  go_ret2
  exact ⟨L, rfl, HP.out.le HB.out.size, HB.out.trans (HB2.out.mono HB.out.size)⟩
end Go.Proofs.YtlhgphokfpnfeaaGreatDoor
