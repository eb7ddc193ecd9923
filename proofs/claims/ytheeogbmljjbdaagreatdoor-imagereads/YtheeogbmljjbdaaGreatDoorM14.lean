/-
  Inb.
-/
import Derived.Test.YtheeogbmljjbdaaGreatDoorM13
namespace Go.Proofs.YtheeogbmljjbdaaGreatDoor
set_option linter.unusedVariables false
open Go.RowKit Go.Shelf Go.Lib
theorem ret_boolI {a b : Bool} (h : a = b) : Ending.returned (.bool a) = .returned (.bool b) := by rw [h]
theorem okFrom_step {s : ByteArray} {b pos : Nat} (hp : pos < s.size) (hb : s.size ≤ pos + b) (h : okr s pos = true) :
    ∃ b', okFrom s b pos = okFrom s b' (pos + (Utf8.decode s pos).2) ∧ Lib.runeCountFrom s b pos = 1 + Lib.runeCountFrom s b' (pos + (Utf8.decode s pos).2) ∧ s.size ≤ pos + (Utf8.decode s pos).2 + b' := by
  have hw := Lib.decode_width_pos s pos hp
  cases b with
  | zero => omega
  | succ b => exact ⟨b, by simp [okFrom, hp, h], by simp [Lib.runeCountFrom, hp], by omega⟩
theorem okFrom_bad {s : ByteArray} {b pos : Nat} (hp : pos < s.size) (hb : s.size ≤ pos + b) (h : okr s pos = false) : okFrom s b pos = false := by
  cases b with
  | zero => omega
  | succ b => simp [okFrom, hp, h]
theorem count_pos {s : ByteArray} (h : 0 < s.size) : 1 ≤ Lib.runeCount s := by
  unfold Lib.runeCount
  obtain ⟨f, hf⟩ : ∃ f, s.size = f + 1 := ⟨s.size - 1, by omega⟩
  rw [hf]
  simp [Lib.runeCountFrom, h]
/-- What a walk over a text has seen. -/
structure Seen (s : ByteArray) (B K : Nat) (w wr : World) (pos b : Nat) : Prop where
  it : wr.heap[K]? = some (.stringIter s pos)
  ok : okFrom s b pos = okFrom s s.size 0
  room : s.size ≤ pos + b
  below : Below B w wr
structure Moved (s : ByteArray) (B K : Nat) (w W : World) (pos : Nat) : Prop where
  it : W.heap[K]? = some (.stringIter s pos)
  below : Below B w W
theorem Seen.moved {s : ByteArray} {B K : Nat} {w wr : World} {pos b pos' : Nat} (h : Seen s B K w wr pos b) (hK : B ≤ K) : Moved s B K w (wr.iterAt K s pos') pos' :=
  ⟨iterAt_heap wr K s pos pos' h.it, below_iterAt h.below hK s pos'⟩
theorem Moved.later {s : ByteArray} {B K : Nat} {w W W' : World} {pos : Nat} (h : Moved s B K w W pos) {C : Nat} (hb : Below C W W') (hC : C = W.heap.size) (hB : B ≤ W.heap.size) : Moved s B K w W' pos :=
  ⟨by rw [hb.block K (by rw [hC]; exact (Array.getElem?_eq_some_iff.1 h.it).1)]; exact h.it, h.below.trans (hb.mono (by omega))⟩
set_option maxHeartbeats 4000000 in
theorem isName_c (s : ByteArray) (hs : s.size ≤ 140737488355328) (w : World) (hT : Hid (Tabs w)) :
    Calls Tryz.prog 44 #[.string s] w fun e w' => e = .returned (.bool (nm s)) ∧ Below w.heap.size w w' := by
  obtain ⟨N, hN⟩ : ∃ N, N = nm s := ⟨_, rfl⟩
  rw [← hN]
  have HN : Hid (N = nm s) := hN
  clear hN
  obtain ⟨B, hB⟩ : ∃ B, B = w.heap.size := ⟨_, rfl⟩
  have HB0 : Hid (B = w.heap.size) := hB
  clear hB
  by_cases h0 : s.size = 0
  · have he : s = ⟨#[]⟩ := by cases s with | mk d => simp [ByteArray.size] at h0; simp [h0]
    have HF : Hid (N = false) := by
      unfold Hid; rw [HN.out, he]; rfl
    subst he
    clear h0 HN
    go_enter Tryz.func44, Tryz.ntmps44
    go_wp2
    go_ret
    exact ⟨ret_boolI HF.out.symm, Below.refl _ _⟩
  · have hne : ¬ s.toList = [] := by
      rw [ByteArray.toList_eq]; intro h; have := congrArg List.length h; rw [← Lib.size_eq] at this; exact h0 this
    have hne2 : s.toList.isEmpty = false := by rw [Bool.eq_false_iff]; intro h; exact hne (List.isEmpty_iff.1 h)
    obtain ⟨V, hV⟩ : ∃ V, V = Lib.validD s.data.toList := ⟨_, rfl⟩
    have HV : Hid (V = Lib.validD s.data.toList) := hV
    obtain ⟨C, hC⟩ : ∃ C : Int, C = Lib.runeCount s := ⟨_, rfl⟩
    have HC : Hid (C = Lib.runeCount s) := hC
    have H0 : Hid (¬ s.size = 0) := h0
    clear hV hC h0
    have cV := valid_c s w (by omega) hT.out V HV
    cases V with
    | false =>
      have HF : Hid (N = false) := by unfold Hid; rw [HN.out]; unfold nm; rw [← HV.out]; rfl
      go_enter Tryz.func44, Tryz.ntmps44
      go_wp2_with (go_at_call 70; refine cV.mono ?_; rintro e w1 ⟨rfl, hb⟩)
      go_ret
      exact ⟨ret_boolI HF.out.symm, hb.out⟩
    | true =>
      have cC := fun w' => count_c s w' (by omega) C HC
      by_cases h40 : 40 < C
      · have HF : Hid (N = false) := by
          unfold Hid; rw [HN.out]; unfold nm; rw [← HV.out]
          have : ¬ Lib.runeCount s ≤ 40 := by have := HC.out; omega
          simp [this]
        go_enter Tryz.func44, Tryz.ntmps44
        go_wp2_with (first | (go_at_call 70; refine cV.mono ?_; rintro e w1 ⟨rfl, hb⟩) | (go_at_call 71; refine (cC _).mono ?_; rintro e w2 ⟨rfl, hb2⟩))
        go_ret
        exact ⟨ret_boolI HF.out.symm, hb.out.trans (hb2.out.mono hb.out.size)⟩
      · have h40' : C ≤ 40 := by omega
        have HF : Hid (N = okFrom s s.size 0) := by
          unfold Hid; rw [HN.out]; unfold nm; rw [← HV.out]
          have h1 : Lib.runeCount s ≤ 40 := by have := HC.out; omega
          have h2 := count_pos (s := s) (by have := H0.out; omega)
          simp [h1, h2]
        clear h40
        go_enter Tryz.func44, Tryz.ntmps44
        go_wp2_with (first | (go_at_call 70; refine cV.mono ?_; rintro e w1 ⟨rfl, hb⟩) | (go_at_call 71; refine (cC _).mono ?_; rintro e w2 ⟨rfl, hb2⟩))
        have HB2 : Hid (Below B w w2) := by rw [HB0.out]; exact hb.out.trans (hb2.out.mono hb.out.size)
        have HBs : Hid (B ≤ w2.heap.size) := by unfold Hid; rw [HB0.out]; exact HB2.out.size
        clear hb hb2 cV cC
        obtain ⟨K, hK⟩ : ∃ K, K = w2.heap.size := ⟨_, rfl⟩
        have HK : Hid (K = w2.heap.size) := hK
        have HS : Hid (Seen s B K w (w2.iter s 0) 0 s.size) := by
          refine ⟨?_, rfl, by omega, HB2.out.alloc HBs.out _⟩
          rw [hK]; exact World.iter_heap w2 s 0
        rw [← hK]
        clear hK
        generalize w2.iter s 0 = w3 at *
        go_loopw [] (fun wr => ∃ pos b : Nat, Hid (Seen s B K w wr pos b)) (fun wr => s.size - wr.iterPos K)
        case atStart => exact ⟨0, s.size, HS⟩
        case round =>
          obtain ⟨pos, b, hs3⟩ := hrel
          clear HS
          by_cases hp : pos < s.size
          · have hnx : ∀ ty, (Instr.next (.pointer (some ⟨K, 0, none⟩)) true ty).run Tryz.prog wr = _ := fun ty => run_next_any_at wr K s pos ty hs3.out.it hp
            have hwd := Lib.decode_width_pos s pos hp
            have hmv := hs3.out.moved (pos' := pos + (Utf8.decode s pos).2) (by rw [HK.out]; exact HBs.out)
            have hrl := decode_le s pos
            have hip : wr.iterPos K = pos := iterPos_of hs3.out.it
            obtain ⟨r, hr⟩ : ∃ r : Int, r = ((Utf8.decode s pos).1 : Int) := ⟨_, rfl⟩
            obtain ⟨p', hp'⟩ : ∃ p', p' = pos + (Utf8.decode s pos).2 := ⟨_, rfl⟩
            obtain ⟨W2, hW2⟩ : ∃ W2, W2 = wr.iterAt K s (pos + (Utf8.decode s pos).2) := ⟨_, rfl⟩
            rw [← hr, ← hW2] at hnx
            rw [← hW2, ← hp'] at hmv
            have hrlo : -2147483648 ≤ r := by omega
            have hrhi : r ≤ 2147483647 := by omega
            obtain ⟨L, hL⟩ : ∃ L, L = isLetterU r := ⟨_, rfl⟩
            obtain ⟨Kr, hKr⟩ : ∃ Kr, Kr = rk L r := ⟨_, rfl⟩
            obtain ⟨D, hD⟩ : ∃ D, D = (decide (48 ≤ r) && decide (r ≤ 57)) := ⟨_, rfl⟩
            have hfk : fk r = (D || r == 36) := by unfold fk; rw [← hD]
            have hok : okr s pos = (Kr && !(pos == 0 && (D || r == 36))) := by unfold okr; rw [← hr, ← hL, ← hKr, hfk]
            have hBW : B ≤ W2.heap.size := Nat.le_trans (by rw [HB0.out]; exact Nat.le_refl _) hmv.below.size
            have hTW : Tabs W2 := hT.out.below hmv.below HB0.out
            have cR := rune_c r W2 hrlo hrhi hTW L Kr hL hKr
            have cD := fun w' => digit_c r w' D hD
            have HM : Hid (Moved s B K w W2 p') := hmv
            have HOK : Hid (okr s pos = (Kr && !(pos == 0 && (D || r == 36)))) := hok
            have HBW : Hid (B ≤ W2.heap.size) := hBW
            have HP' : Hid (p' = pos + (Utf8.decode s pos).2) := hp'
            have HIP : Hid (wr.iterPos K = pos) := hip
            have HWD : Hid (1 ≤ (Utf8.decode s pos).2) := hwd
            clear hr hp' hW2 hL hKr hD hfk hok hBW hTW hmv hip hwd hrl
            cases Kr with
            | false =>
              have HE : Hid (N = false) := by
                unfold Hid; rw [HF.out, ← hs3.out.ok]; exact okFrom_bad hp hs3.out.room (by rw [HOK.out]; rfl)
              go_wp2_with (first | (go_at_call 72; refine cR.mono ?_; rintro e W3 ⟨rfl, hb3⟩) | (go_at_call 73; refine (cD _).mono ?_; rintro e w' ⟨rfl, rfl⟩))
              go_ret
              have hB := HB0.out
              subst hB
              exact ⟨ret_boolI HE.out.symm, (HM.out.later hb3.out rfl HBW.out).below⟩
            | true =>
              by_cases hz : pos = 0
              · have hz1 : ((pos : Int) == 0) = true := by rw [hz]; rfl
                cases D with
                | true =>
                  have HE : Hid (N = false) := by
                    unfold Hid; rw [HF.out, ← hs3.out.ok]; exact okFrom_bad hp hs3.out.room (by rw [HOK.out]; simp [hz])
                  have hz2 := hz
                  clear hz
                  go_wp2_with (first | (go_at_call 72; refine cR.mono ?_; rintro e W3 ⟨rfl, hb3⟩) | (go_at_call 73; refine (cD _).mono ?_; rintro e w' ⟨rfl, rfl⟩))
                  go_ret
                  have hB := HB0.out
                  subst hB
                  exact ⟨ret_boolI HE.out.symm, (HM.out.later hb3.out rfl HBW.out).below⟩
                | false =>
                  by_cases h36 : r = 36
                  · have e36 : (r == 36) = true := by rw [h36]; rfl
                    have HE : Hid (N = false) := by
                      unfold Hid; rw [HF.out, ← hs3.out.ok]; exact okFrom_bad hp hs3.out.room (by rw [HOK.out, e36]; simp [hz])
                    clear h36
                    have hz2 := hz
                    clear hz
                    go_wp2_with (first | (go_at_call 72; refine cR.mono ?_; rintro e W3 ⟨rfl, hb3⟩) | (go_at_call 73; refine (cD _).mono ?_; rintro e w' ⟨rfl, rfl⟩))
                    go_ret
                    have hB := HB0.out
                    subst hB
                    exact ⟨ret_boolI HE.out.symm, (HM.out.later hb3.out rfl HBW.out).below⟩
                  · have e36 : (r == 36) = false := by simp [h36]
                    obtain ⟨b', s1, s2, s3⟩ := okFrom_step hp hs3.out.room (by rw [HOK.out, e36]; simp)
                    rw [← HP'.out] at s1 s2 s3
                    have HS1 : Hid (okFrom s b' p' = okFrom s s.size 0 ∧ s.size ≤ p' + b') := ⟨by rw [← s1]; exact hs3.out.ok, s3⟩
                    clear s1 s2 s3 h36
                    have hz2 := hz
                    clear hz
                    go_wp2_with (first | (go_at_call 72; refine cR.mono ?_; rintro e W3 ⟨rfl, hb3⟩) | (go_at_call 73; refine (cD _).mono ?_; rintro e w' ⟨rfl, rfl⟩))
                    have HM3 : Hid (Moved s B K w W3 p') := HM.out.later hb3.out rfl HBW.out
                    go_roundw
                    case rel => exact ⟨p', b', HM3.out.it, HS1.out.1, HS1.out.2, HM3.out.below⟩
                    case measure =>
                      rw [iterPos_of HM3.out.it, HIP.out, HP'.out]; have := HWD.out; omega
              · have hz1 : ((pos : Int) == 0) = false := by simp; exact hz
                obtain ⟨b', s1, s2, s3⟩ := okFrom_step hp hs3.out.room (by rw [HOK.out]; simp [hz])
                rw [← HP'.out] at s1 s2 s3
                have HS1 : Hid (okFrom s b' p' = okFrom s s.size 0 ∧ s.size ≤ p' + b') := ⟨by rw [← s1]; exact hs3.out.ok, s3⟩
                clear s1 s2 s3
                go_wp2_with (first | (go_at_call 72; refine cR.mono ?_; rintro e W3 ⟨rfl, hb3⟩) | (go_at_call 73; refine (cD _).mono ?_; rintro e w' ⟨rfl, rfl⟩))
                have HM3 : Hid (Moved s B K w W3 p') := HM.out.later hb3.out rfl HBW.out
                go_roundw
                case rel => exact ⟨p', b', HM3.out.it, HS1.out.1, HS1.out.2, HM3.out.below⟩
                case measure =>
                  rw [iterPos_of HM3.out.it, HIP.out, HP'.out]; have := HWD.out; omega
          · have hnx : ∀ ty, (Instr.next (.pointer (some ⟨K, 0, none⟩)) true ty).run Tryz.prog wr = _ := fun ty => run_next_end_at wr K s pos ty hs3.out.it hp
            have HE : Hid (N = true) := by unfold Hid; rw [HF.out, ← hs3.out.ok]; exact okFrom_end s b pos hp
            go_wp2
            go_ret
            have hB := HB0.out
            subst hB
            exact ⟨ret_boolI HE.out.symm, hs3.out.below⟩
end Go.Proofs.YtheeogbmljjbdaaGreatDoor
