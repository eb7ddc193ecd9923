import Derived.Test.YtddlmenfcbjoaaaGreatDoorK07
namespace Go.Proofs.YtddlmenfcbjoaaaGreatDoor
set_option linter.unusedVariables false
set_option maxRecDepth 100000
set_option maxHeartbeats 8000000
open Go.ChangeShapes Go.WideShapes Go.ChangeAt Go.RowKit Go.Deep _root_.Go.Proofs.Tryz
theorem new_c (n : Nat) (w : World) (h : gS n = true) : Calls prog 24 #[.int .i64 n] w fun e w' => ∃ L, e = .returned (.tuple #[.pointer (some ⟨L.b, 0, none⟩), .int .i64 0]) ∧ PB w.heap.size L (St.zero n) w' ∧ Below w.heap.size w w' := by
 have hC := nZ n
 rw [h] at hC
 have hn : n ≤ 65536 := by simp [gS] at h; omega
 obtain ⟨i0, hi, hz0, hz1, hz2⟩ := info_parts pZ
 have HI := hid hi
 have HZ0 := hid hz0
 have HZ1 := hid hz1
 have HZ2 := hid hz2
 clear hi hz0 hz1 hz2
 have HF : Hid (∀ w1, Byt w1 (.slice (some ⟨w.heap.size, 0, none⟩) n n) (List.replicate n 0) → Calls prog 21 #[.agg #[.slice (some ⟨w.heap.size, 0, none⟩) n n, .int .u32 0, .int .u64 18446744073709551615, .int .u64 0, .bool false, .bool false, .int .u8 0, .int .u8 0, .int .u8 0, .int .u8 0, .bool false, .slice none 0 0, .slice none 0 0, .int .i64 0, .int .i64 0]] w1
   fun e w' => ∃ L, e = .returned (.tuple #[pt L.b, .int .i64 0]) ∧ PB w1.heap.size L (St.zero n) w' ∧ Below w1.heap.size w1 w') := fun w1 hb => by
  have := IC (St.zero n) (some ⟨w.heap.size, 0, none⟩) none none n 0 0 w1 (St.zero_ok h) (by simpa [St.zero] using hb) (Byt.nil w1) (Byt.nil w1) (by simp [St.zero]; omega) (by simp [St.zero]) (by simp [St.zero])
  simpa [stc, St.zero] using this
 go_enter func24, ntmps24
 go_wp2_with (first | (go_at_call 39; refine (hC _).mono ?_; rintro e w1 ⟨rfl, hw⟩; have hw2 := hw.symm; subst hw2) | (at_make; refine wpList_make_full _ (by rfl) _ _ 32 (by rfl) w.heap.size 5 i0 (.int .u8 0) 1 underlying32 HI.out HZ0.out HZ1.out _ _ _ _ n (by rfl) (by rfl) (by omega) (by omega) (by rw [HZ2.out]; omega) (by unfold maxLen; omega) (ZqE _) ?_; intro w1 hown hgrow; rw [show (Value.int .u8 0).cells = #[Value.int .u8 0] from rfl, oZ] at hown; have HO : Hid _ := hown; have HB : Hid (Below w.heap.size w w1) := (ZqD _ _).grown hgrow (ZqE _) (fun k hk => by cases hk); clear hown hgrow) | (go_at_call 21; refine (HF.out _ (Byt.of_own HO.out)).mono ?_; rintro e w2 ⟨L, rfl, hpb, hb2⟩; simp only [pt]; have HP : Hid _ := hpb; have HB2 : Hid _ := hb2; clear hpb hb2))
 go_ret2
 exact ⟨L, rfl, HP.out.le HB.out.size, HB.out.trans (HB2.out.mono HB.out.size)⟩
end Go.Proofs.YtddlmenfcbjoaaaGreatDoor
