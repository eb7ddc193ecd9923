/-
  Inc.
-/
import Derived.Test.YtheeogbmljjbdaaGreatDoorN09
namespace Go.Proofs.YtheeogbmljjbdaaGreatDoor
set_option linter.unusedVariables false
open Go.RowKit Go.Shelf Go.Lib
set_option maxHeartbeats 8000000 in
set_option maxRecDepth 100000 in
theorem rname_c (s : ByteArray) (hs : s.size ≤ 140737488355328) (w : World) (hT : Hid (Tabs w)) :
    Calls Tryz.prog 63 #[.string s] w fun e w' => e = .returned (.bool (nm s)) ∧ Below w.heap.size w w' := by
  obtain ⟨N, hN⟩ : ∃ N, N = nm s := ⟨_, rfl⟩
  rw [← hN]
  have HN : Hid (N = nm s) := hN
  clear hN
  obtain ⟨B, hB⟩ : ∃ B, B = w.heap.size := ⟨_, rfl⟩
  have HB0 : Hid (B = w.heap.size) := hB
  clear hB
  obtain ⟨V, hV⟩ : ∃ V, V = Lib.validD s.data.toList := ⟨_, rfl⟩
  have HV : Hid (V = Lib.validD s.data.toList) := hV
  clear hV
  have cV := valid_c s w (by omega) hT.out V HV
  cases V with
  | false =>
    have HF : Hid (N = false) := by unfold Hid; rw [HN.out]; unfold nm; rw [← HV.out]; rfl
    go_enter Tryz.func63, Tryz.ntmps63
    go_wp2_with (go_at_call 70; refine cV.mono ?_; rintro e w1 ⟨rfl, hb⟩)
    go_ret
    exact ⟨ret_boolI HF.out.symm, hb.out⟩
  | true =>
    have HF : Hid (N = (okFrom s s.size 0 && (decide (1 ≤ Lib.runeCount s) && decide (Lib.runeCount s ≤ 40)))) := by
      unfold Hid; rw [HN.out]; unfold nm; rw [← HV.out]; rfl
    go_enter Tryz.func63, Tryz.ntmps63
    go_wp2_with (go_at_call 70; refine cV.mono ?_; rintro e w2 ⟨rfl, hb⟩)
    have HB2 : Hid (Below B w w2) := by rw [HB0.out]; exact hb.out
    have HBs : Hid (B ≤ w2.heap.size) := by unfold Hid; rw [HB0.out]; exact HB2.out.size
    clear hb cV
    obtain ⟨K, hK⟩ : ∃ K, K = w2.heap.size := ⟨_, rfl⟩
    have HK : Hid (K = w2.heap.size) := hK
    have HS : Hid (Seen s B K w (w2.iter s 0) 0 s.size) := by
      refine ⟨?_, rfl, by omega, HB2.out.alloc HBs.out _⟩
      rw [hK]; exact World.iter_heap w2 s 0
    rw [← hK]
    clear hK
    generalize w2.iter s 0 = w3 at *
    go_loopw [3] (fun n wr => ∃ pos b acc : Nat, n = .int .i64 acc ∧ acc ≤ pos ∧ Hid (Seen s B K w wr pos b) ∧ Hid (acc + Lib.runeCountFrom s b pos = Lib.runeCount s)) (fun _ wr => s.size - wr.iterPos K)
    case atStart => exact ⟨0, s.size, 0, rfl, Nat.le_refl _, HS, by unfold Hid Lib.runeCount; omega⟩
    case round =>
      obtain ⟨pos, b, acc, rfl, hap, hs3, hac⟩ := hrel
      clear HS
      by_cases hp : pos < s.size
      · have hnx : ∀ ty, (Instr.next (.pointer (some ⟨K, 0, none⟩)) true ty).run Tryz.prog wr = _ := fun ty => run_next_any_at wr K s pos ty hs3.out.it hp
        have hwd := Lib.decode_width_pos s pos hp
        have hmv := hs3.out.moved (pos' := pos + (Utf8.decode s pos).2) (by rw [HK.out]; exact HBs.out)
        have hrl := decode_le s pos
        have hip : wr.iterPos K = pos := iterPos_of hs3.out.it
        obtain ⟨r, hr⟩ : ∃ r : Int, r = ((Utf8.decode s pos).1 : Int) := ⟨_, rfl⟩
        obtain ⟨p', hp'⟩ : ∃ p', p' = pos + (Utf8.decode s pos).2 := ⟨_, rfl⟩
        obtain ⟨W2, hW2⟩ : ∃ W2, W2 = wr.iterAt K s (pos + (Utf8.decode s pos).2) := ⟨_, rfl⟩
        rw [← hr, ← hW2] at hnx
        rw [← hW2, ← hp'] at hmv
        have hrlo : -2147483648 ≤ r := by omega
        have hrhi : r ≤ 2147483647 := by omega
        obtain ⟨L, hL⟩ : ∃ L, L = isLetterU r := ⟨_, rfl⟩
        have hok : okr s pos = (rk L r && !(pos == 0 && fk r)) := by unfold okr; rw [← hr, ← hL]
        have hBW : B ≤ W2.heap.size := Nat.le_trans (by rw [HB0.out]; exact Nat.le_refl _) hmv.below.size
        have hTW : Tabs W2 := hT.out.below hmv.below HB0.out
        have cL := letter_c r W2 hrlo hrhi hTW L hL
        have HM : Hid (Moved s B K w W2 p') := hmv
        have HOK : Hid (okr s pos = (rk L r && !(pos == 0 && fk r))) := hok
        have HBW : Hid (B ≤ W2.heap.size) := hBW
        have HP' : Hid (p' = pos + (Utf8.decode s pos).2) := hp'
        have HIP : Hid (wr.iterPos K = pos) := hip
        have HWD : Hid (1 ≤ (Utf8.decode s pos).2) := hwd
        have hacc : (acc : Int) < 140737488355329 := by omega
        clear hr hp' hW2 hL hok hBW hTW hmv hip hwd hrl
        by_cases hz : pos = 0
        · have hz1 : ((pos : Int) == 0) = true := by rw [hz]; rfl
          rcases cls r with ⟨h1, h2⟩ | rfl | rfl | rfl | ⟨h1, h2, h3⟩ | ⟨h1, h2⟩
          · have hd1 : decide (48 ≤ r) = true := decide_eq_true h1
            have hd2 : decide (r ≤ 57) = true := decide_eq_true h2
            have HE : Hid (N = false) := by
              unfold Hid; rw [HF.out, ← hs3.out.ok, okFrom_bad hp hs3.out.room (by rw [HOK.out]; simp [rk, fk, hz, h1, h2])]; rfl
            clear hp
            go_wp2_with (go_at_call 91; refine cL.mono ?_; rintro e W3 ⟨rfl, hb3⟩)
            go_ret
            have hB := HB0.out
            subst hB
            exact ⟨ret_boolI HE.out.symm, HM.out.below⟩
          · cases L with
            | true =>
              obtain ⟨b', s1, s2, s3⟩ := okFrom_step hp hs3.out.room (by rw [HOK.out]; simp [rk, fk, hz])
              rw [← HP'.out] at s1 s2 s3
              have HS1 : Hid (okFrom s b' p' = okFrom s s.size 0 ∧ s.size ≤ p' + b') := ⟨by rw [← s1]; exact hs3.out.ok, s3⟩
              have HA1 : Hid (acc + 1 + Lib.runeCountFrom s b' p' = Lib.runeCount s) := by unfold Hid; rw [← hac.out, s2]; omega
              have HAP : Hid (acc + 1 ≤ p') := by unfold Hid; rw [HP'.out]; have := HWD.out; omega
              have HPz : Hid (pos < s.size) := hp
              clear s1 s2 s3 hp
              go_wp2_with (go_at_call 91; refine cL.mono ?_; rintro e W3 ⟨rfl, hb3⟩)
              have HM3 : Hid (Moved s B K w W3 p') := HM.out.later hb3.out rfl HBW.out
              go_roundw
              case rel => exact ⟨p', b', acc + 1, by go_num, HAP.out, ⟨HM3.out.it, HS1.out.1, HS1.out.2, HM3.out.below⟩, HA1⟩
              case measure =>
                rw [iterPos_of HM3.out.it, HIP.out, HP'.out]; have := HWD.out; have := HPz.out; omega
            | false =>
              obtain ⟨b', s1, s2, s3⟩ := okFrom_step hp hs3.out.room (by rw [HOK.out]; simp [rk, fk, hz])
              rw [← HP'.out] at s1 s2 s3
              have HS1 : Hid (okFrom s b' p' = okFrom s s.size 0 ∧ s.size ≤ p' + b') := ⟨by rw [← s1]; exact hs3.out.ok, s3⟩
              have HA1 : Hid (acc + 1 + Lib.runeCountFrom s b' p' = Lib.runeCount s) := by unfold Hid; rw [← hac.out, s2]; omega
              have HAP : Hid (acc + 1 ≤ p') := by unfold Hid; rw [HP'.out]; have := HWD.out; omega
              have HPz : Hid (pos < s.size) := hp
              clear s1 s2 s3 hp
              go_wp2_with (go_at_call 91; refine cL.mono ?_; rintro e W3 ⟨rfl, hb3⟩)
              have HM3 : Hid (Moved s B K w W3 p') := HM.out.later hb3.out rfl HBW.out
              go_roundw
              case rel => exact ⟨p', b', acc + 1, by go_num, HAP.out, ⟨HM3.out.it, HS1.out.1, HS1.out.2, HM3.out.below⟩, HA1⟩
              case measure =>
                rw [iterPos_of HM3.out.it, HIP.out, HP'.out]; have := HWD.out; have := HPz.out; omega
          · cases L with
            | true =>
              obtain ⟨b', s1, s2, s3⟩ := okFrom_step hp hs3.out.room (by rw [HOK.out]; simp [rk, fk, hz])
              rw [← HP'.out] at s1 s2 s3
              have HS1 : Hid (okFrom s b' p' = okFrom s s.size 0 ∧ s.size ≤ p' + b') := ⟨by rw [← s1]; exact hs3.out.ok, s3⟩
              have HA1 : Hid (acc + 1 + Lib.runeCountFrom s b' p' = Lib.runeCount s) := by unfold Hid; rw [← hac.out, s2]; omega
              have HAP : Hid (acc + 1 ≤ p') := by unfold Hid; rw [HP'.out]; have := HWD.out; omega
              have HPz : Hid (pos < s.size) := hp
              clear s1 s2 s3 hp
              go_wp2_with (go_at_call 91; refine cL.mono ?_; rintro e W3 ⟨rfl, hb3⟩)
              have HM3 : Hid (Moved s B K w W3 p') := HM.out.later hb3.out rfl HBW.out
              go_roundw
              case rel => exact ⟨p', b', acc + 1, by go_num, HAP.out, ⟨HM3.out.it, HS1.out.1, HS1.out.2, HM3.out.below⟩, HA1⟩
              case measure =>
                rw [iterPos_of HM3.out.it, HIP.out, HP'.out]; have := HWD.out; have := HPz.out; omega
            | false =>
              obtain ⟨b', s1, s2, s3⟩ := okFrom_step hp hs3.out.room (by rw [HOK.out]; simp [rk, fk, hz])
              rw [← HP'.out] at s1 s2 s3
              have HS1 : Hid (okFrom s b' p' = okFrom s s.size 0 ∧ s.size ≤ p' + b') := ⟨by rw [← s1]; exact hs3.out.ok, s3⟩
              have HA1 : Hid (acc + 1 + Lib.runeCountFrom s b' p' = Lib.runeCount s) := by unfold Hid; rw [← hac.out, s2]; omega
              have HAP : Hid (acc + 1 ≤ p') := by unfold Hid; rw [HP'.out]; have := HWD.out; omega
              have HPz : Hid (pos < s.size) := hp
              clear s1 s2 s3 hp
              go_wp2_with (go_at_call 91; refine cL.mono ?_; rintro e W3 ⟨rfl, hb3⟩)
              have HM3 : Hid (Moved s B K w W3 p') := HM.out.later hb3.out rfl HBW.out
              go_roundw
              case rel => exact ⟨p', b', acc + 1, by go_num, HAP.out, ⟨HM3.out.it, HS1.out.1, HS1.out.2, HM3.out.below⟩, HA1⟩
              case measure =>
                rw [iterPos_of HM3.out.it, HIP.out, HP'.out]; have := HWD.out; have := HPz.out; omega
          · skip
            have HE : Hid (N = false) := by
              unfold Hid; rw [HF.out, ← hs3.out.ok, okFrom_bad hp hs3.out.room (by rw [HOK.out]; simp [rk, fk, hz])]; rfl
            clear hp
            go_wp2_with (go_at_call 91; refine cL.mono ?_; rintro e W3 ⟨rfl, hb3⟩)
            go_ret
            have hB := HB0.out
            subst hB
            exact ⟨ret_boolI HE.out.symm, HM.out.below⟩
          · have hd1 : decide (48 ≤ r) = false := decide_eq_false (by omega)
            have hd3 : ¬ 48 ≤ r := by omega
            have e36 : (r == 36) = false := by simp; omega
            have e95 : (r == 95) = false := by simp; omega
            have e46 : (r == 46) = false := by simp; omega
            cases L with
            | true =>
              obtain ⟨b', s1, s2, s3⟩ := okFrom_step hp hs3.out.room (by rw [HOK.out]; simp [rk, fk, hz, hd3, e36])
              rw [← HP'.out] at s1 s2 s3
              have HS1 : Hid (okFrom s b' p' = okFrom s s.size 0 ∧ s.size ≤ p' + b') := ⟨by rw [← s1]; exact hs3.out.ok, s3⟩
              have HA1 : Hid (acc + 1 + Lib.runeCountFrom s b' p' = Lib.runeCount s) := by unfold Hid; rw [← hac.out, s2]; omega
              have HAP : Hid (acc + 1 ≤ p') := by unfold Hid; rw [HP'.out]; have := HWD.out; omega
              have HPz : Hid (pos < s.size) := hp
              clear s1 s2 s3 hp
              go_wp2_with (go_at_call 91; refine cL.mono ?_; rintro e W3 ⟨rfl, hb3⟩)
              have HM3 : Hid (Moved s B K w W3 p') := HM.out.later hb3.out rfl HBW.out
              go_roundw
              case rel => exact ⟨p', b', acc + 1, by go_num, HAP.out, ⟨HM3.out.it, HS1.out.1, HS1.out.2, HM3.out.below⟩, HA1⟩
              case measure =>
                rw [iterPos_of HM3.out.it, HIP.out, HP'.out]; have := HWD.out; have := HPz.out; omega
            | false =>
              have HE : Hid (N = false) := by
                unfold Hid; rw [HF.out, ← hs3.out.ok, okFrom_bad hp hs3.out.room (by rw [HOK.out]; simp [rk, fk, hz, hd3, e36, e95, e46])]; rfl
              clear hp
              have b95 : (r != 95) = true := by simp; omega
              have b46 : (r != 46) = true := by simp; omega
              have b36 : (r != 36) = true := by simp; omega
              clear e95 e46 h2
              try clear h3
              go_wp2_with (go_at_call 91; refine cL.mono ?_; rintro e W3 ⟨rfl, hb3⟩)
              go_ret
              have hB := HB0.out
              subst hB
              exact ⟨ret_boolI HE.out.symm, (HM.out.later hb3.out rfl HBW.out).below⟩
          · have hd2 : decide (r ≤ 57) = false := decide_eq_false (by omega)
            have hd1 : 48 ≤ r := by omega
            have hd3 : ¬ r ≤ 57 := by omega
            have e36 : (r == 36) = false := by simp; omega
            have e95 : (r == 95) = false := by simp; omega
            have e46 : (r == 46) = false := by simp; omega
            cases L with
            | true =>
              obtain ⟨b', s1, s2, s3⟩ := okFrom_step hp hs3.out.room (by rw [HOK.out]; simp [rk, fk, hz, hd3, e36])
              rw [← HP'.out] at s1 s2 s3
              have HS1 : Hid (okFrom s b' p' = okFrom s s.size 0 ∧ s.size ≤ p' + b') := ⟨by rw [← s1]; exact hs3.out.ok, s3⟩
              have HA1 : Hid (acc + 1 + Lib.runeCountFrom s b' p' = Lib.runeCount s) := by unfold Hid; rw [← hac.out, s2]; omega
              have HAP : Hid (acc + 1 ≤ p') := by unfold Hid; rw [HP'.out]; have := HWD.out; omega
              have HPz : Hid (pos < s.size) := hp
              clear s1 s2 s3 hp
              go_wp2_with (go_at_call 91; refine cL.mono ?_; rintro e W3 ⟨rfl, hb3⟩)
              have HM3 : Hid (Moved s B K w W3 p') := HM.out.later hb3.out rfl HBW.out
              go_roundw
              case rel => exact ⟨p', b', acc + 1, by go_num, HAP.out, ⟨HM3.out.it, HS1.out.1, HS1.out.2, HM3.out.below⟩, HA1⟩
              case measure =>
                rw [iterPos_of HM3.out.it, HIP.out, HP'.out]; have := HWD.out; have := HPz.out; omega
            | false =>
              have HE : Hid (N = false) := by
                unfold Hid; rw [HF.out, ← hs3.out.ok, okFrom_bad hp hs3.out.room (by rw [HOK.out]; simp [rk, fk, hz, hd3, e36, e95, e46])]; rfl
              clear hp
              have b95 : (r != 95) = true := by simp; omega
              have b46 : (r != 46) = true := by simp; omega
              have b36 : (r != 36) = true := by simp; omega
              clear e95 e46 h2
              try clear h3
              go_wp2_with (go_at_call 91; refine cL.mono ?_; rintro e W3 ⟨rfl, hb3⟩)
              go_ret
              have hB := HB0.out
              subst hB
              exact ⟨ret_boolI HE.out.symm, (HM.out.later hb3.out rfl HBW.out).below⟩
        · have hz1 : ((pos : Int) == 0) = false := by simp; exact hz
          rcases cls r with ⟨h1, h2⟩ | rfl | rfl | rfl | ⟨h1, h2, h3⟩ | ⟨h1, h2⟩
          · have hd1 : decide (48 ≤ r) = true := decide_eq_true h1
            have hd2 : decide (r ≤ 57) = true := decide_eq_true h2
            obtain ⟨b', s1, s2, s3⟩ := okFrom_step hp hs3.out.room (by rw [HOK.out]; simp [rk, hz, h1, h2])
            rw [← HP'.out] at s1 s2 s3
            have HS1 : Hid (okFrom s b' p' = okFrom s s.size 0 ∧ s.size ≤ p' + b') := ⟨by rw [← s1]; exact hs3.out.ok, s3⟩
            have HA1 : Hid (acc + 1 + Lib.runeCountFrom s b' p' = Lib.runeCount s) := by unfold Hid; rw [← hac.out, s2]; omega
            have HAP : Hid (acc + 1 ≤ p') := by unfold Hid; rw [HP'.out]; have := HWD.out; omega
            have HPz : Hid (pos < s.size) := hp
            clear s1 s2 s3 hp
            go_wp2_with (go_at_call 91; refine cL.mono ?_; rintro e W3 ⟨rfl, hb3⟩)
            have HM3 : Hid (Moved s B K w W2 p') := HM.out
            go_roundw
            case rel => exact ⟨p', b', acc + 1, by go_num, HAP.out, ⟨HM3.out.it, HS1.out.1, HS1.out.2, HM3.out.below⟩, HA1⟩
            case measure =>
              rw [iterPos_of HM3.out.it, HIP.out, HP'.out]; have := HWD.out; have := HPz.out; omega
          · cases L with
            | true =>
              obtain ⟨b', s1, s2, s3⟩ := okFrom_step hp hs3.out.room (by rw [HOK.out]; simp [rk, fk])
              rw [← HP'.out] at s1 s2 s3
              have HS1 : Hid (okFrom s b' p' = okFrom s s.size 0 ∧ s.size ≤ p' + b') := ⟨by rw [← s1]; exact hs3.out.ok, s3⟩
              have HA1 : Hid (acc + 1 + Lib.runeCountFrom s b' p' = Lib.runeCount s) := by unfold Hid; rw [← hac.out, s2]; omega
              have HAP : Hid (acc + 1 ≤ p') := by unfold Hid; rw [HP'.out]; have := HWD.out; omega
              have HPz : Hid (pos < s.size) := hp
              clear s1 s2 s3 hp
              go_wp2_with (go_at_call 91; refine cL.mono ?_; rintro e W3 ⟨rfl, hb3⟩)
              have HM3 : Hid (Moved s B K w W3 p') := HM.out.later hb3.out rfl HBW.out
              go_roundw
              case rel => exact ⟨p', b', acc + 1, by go_num, HAP.out, ⟨HM3.out.it, HS1.out.1, HS1.out.2, HM3.out.below⟩, HA1⟩
              case measure =>
                rw [iterPos_of HM3.out.it, HIP.out, HP'.out]; have := HWD.out; have := HPz.out; omega
            | false =>
              obtain ⟨b', s1, s2, s3⟩ := okFrom_step hp hs3.out.room (by rw [HOK.out]; simp [rk, fk])
              rw [← HP'.out] at s1 s2 s3
              have HS1 : Hid (okFrom s b' p' = okFrom s s.size 0 ∧ s.size ≤ p' + b') := ⟨by rw [← s1]; exact hs3.out.ok, s3⟩
              have HA1 : Hid (acc + 1 + Lib.runeCountFrom s b' p' = Lib.runeCount s) := by unfold Hid; rw [← hac.out, s2]; omega
              have HAP : Hid (acc + 1 ≤ p') := by unfold Hid; rw [HP'.out]; have := HWD.out; omega
              have HPz : Hid (pos < s.size) := hp
              clear s1 s2 s3 hp
              go_wp2_with (go_at_call 91; refine cL.mono ?_; rintro e W3 ⟨rfl, hb3⟩)
              have HM3 : Hid (Moved s B K w W3 p') := HM.out.later hb3.out rfl HBW.out
              go_roundw
              case rel => exact ⟨p', b', acc + 1, by go_num, HAP.out, ⟨HM3.out.it, HS1.out.1, HS1.out.2, HM3.out.below⟩, HA1⟩
              case measure =>
                rw [iterPos_of HM3.out.it, HIP.out, HP'.out]; have := HWD.out; have := HPz.out; omega
          · cases L with
            | true =>
              obtain ⟨b', s1, s2, s3⟩ := okFrom_step hp hs3.out.room (by rw [HOK.out]; simp [rk, fk])
              rw [← HP'.out] at s1 s2 s3
              have HS1 : Hid (okFrom s b' p' = okFrom s s.size 0 ∧ s.size ≤ p' + b') := ⟨by rw [← s1]; exact hs3.out.ok, s3⟩
              have HA1 : Hid (acc + 1 + Lib.runeCountFrom s b' p' = Lib.runeCount s) := by unfold Hid; rw [← hac.out, s2]; omega
              have HAP : Hid (acc + 1 ≤ p') := by unfold Hid; rw [HP'.out]; have := HWD.out; omega
              have HPz : Hid (pos < s.size) := hp
              clear s1 s2 s3 hp
              go_wp2_with (go_at_call 91; refine cL.mono ?_; rintro e W3 ⟨rfl, hb3⟩)
              have HM3 : Hid (Moved s B K w W3 p') := HM.out.later hb3.out rfl HBW.out
              go_roundw
              case rel => exact ⟨p', b', acc + 1, by go_num, HAP.out, ⟨HM3.out.it, HS1.out.1, HS1.out.2, HM3.out.below⟩, HA1⟩
              case measure =>
                rw [iterPos_of HM3.out.it, HIP.out, HP'.out]; have := HWD.out; have := HPz.out; omega
            | false =>
              obtain ⟨b', s1, s2, s3⟩ := okFrom_step hp hs3.out.room (by rw [HOK.out]; simp [rk, fk])
              rw [← HP'.out] at s1 s2 s3
              have HS1 : Hid (okFrom s b' p' = okFrom s s.size 0 ∧ s.size ≤ p' + b') := ⟨by rw [← s1]; exact hs3.out.ok, s3⟩
              have HA1 : Hid (acc + 1 + Lib.runeCountFrom s b' p' = Lib.runeCount s) := by unfold Hid; rw [← hac.out, s2]; omega
              have HAP : Hid (acc + 1 ≤ p') := by unfold Hid; rw [HP'.out]; have := HWD.out; omega
              have HPz : Hid (pos < s.size) := hp
              clear s1 s2 s3 hp
              go_wp2_with (go_at_call 91; refine cL.mono ?_; rintro e W3 ⟨rfl, hb3⟩)
              have HM3 : Hid (Moved s B K w W3 p') := HM.out.later hb3.out rfl HBW.out
              go_roundw
              case rel => exact ⟨p', b', acc + 1, by go_num, HAP.out, ⟨HM3.out.it, HS1.out.1, HS1.out.2, HM3.out.below⟩, HA1⟩
              case measure =>
                rw [iterPos_of HM3.out.it, HIP.out, HP'.out]; have := HWD.out; have := HPz.out; omega
          · cases L with
            | true =>
              obtain ⟨b', s1, s2, s3⟩ := okFrom_step hp hs3.out.room (by rw [HOK.out]; simp [rk, fk, hz])
              rw [← HP'.out] at s1 s2 s3
              have HS1 : Hid (okFrom s b' p' = okFrom s s.size 0 ∧ s.size ≤ p' + b') := ⟨by rw [← s1]; exact hs3.out.ok, s3⟩
              have HA1 : Hid (acc + 1 + Lib.runeCountFrom s b' p' = Lib.runeCount s) := by unfold Hid; rw [← hac.out, s2]; omega
              have HAP : Hid (acc + 1 ≤ p') := by unfold Hid; rw [HP'.out]; have := HWD.out; omega
              have HPz : Hid (pos < s.size) := hp
              clear s1 s2 s3 hp
              go_wp2_with (go_at_call 91; refine cL.mono ?_; rintro e W3 ⟨rfl, hb3⟩)
              have HM3 : Hid (Moved s B K w W3 p') := HM.out.later hb3.out rfl HBW.out
              go_roundw
              case rel => exact ⟨p', b', acc + 1, by go_num, HAP.out, ⟨HM3.out.it, HS1.out.1, HS1.out.2, HM3.out.below⟩, HA1⟩
              case measure =>
                rw [iterPos_of HM3.out.it, HIP.out, HP'.out]; have := HWD.out; have := HPz.out; omega
            | false =>
              obtain ⟨b', s1, s2, s3⟩ := okFrom_step hp hs3.out.room (by rw [HOK.out]; simp [rk, fk, hz])
              rw [← HP'.out] at s1 s2 s3
              have HS1 : Hid (okFrom s b' p' = okFrom s s.size 0 ∧ s.size ≤ p' + b') := ⟨by rw [← s1]; exact hs3.out.ok, s3⟩
              have HA1 : Hid (acc + 1 + Lib.runeCountFrom s b' p' = Lib.runeCount s) := by unfold Hid; rw [← hac.out, s2]; omega
              have HAP : Hid (acc + 1 ≤ p') := by unfold Hid; rw [HP'.out]; have := HWD.out; omega
              have HPz : Hid (pos < s.size) := hp
              clear s1 s2 s3 hp
              go_wp2_with (go_at_call 91; refine cL.mono ?_; rintro e W3 ⟨rfl, hb3⟩)
              have HM3 : Hid (Moved s B K w W3 p') := HM.out.later hb3.out rfl HBW.out
              go_roundw
              case rel => exact ⟨p', b', acc + 1, by go_num, HAP.out, ⟨HM3.out.it, HS1.out.1, HS1.out.2, HM3.out.below⟩, HA1⟩
              case measure =>
                rw [iterPos_of HM3.out.it, HIP.out, HP'.out]; have := HWD.out; have := HPz.out; omega
          · have hd1 : decide (48 ≤ r) = false := decide_eq_false (by omega)
            have hd3 : ¬ 48 ≤ r := by omega
            have e36 : (r == 36) = false := by simp; omega
            have e95 : (r == 95) = false := by simp; omega
            have e46 : (r == 46) = false := by simp; omega
            cases L with
            | true =>
              obtain ⟨b', s1, s2, s3⟩ := okFrom_step hp hs3.out.room (by rw [HOK.out]; simp [rk, fk, hd3, e36])
              rw [← HP'.out] at s1 s2 s3
              have HS1 : Hid (okFrom s b' p' = okFrom s s.size 0 ∧ s.size ≤ p' + b') := ⟨by rw [← s1]; exact hs3.out.ok, s3⟩
              have HA1 : Hid (acc + 1 + Lib.runeCountFrom s b' p' = Lib.runeCount s) := by unfold Hid; rw [← hac.out, s2]; omega
              have HAP : Hid (acc + 1 ≤ p') := by unfold Hid; rw [HP'.out]; have := HWD.out; omega
              have HPz : Hid (pos < s.size) := hp
              clear s1 s2 s3 hp
              go_wp2_with (go_at_call 91; refine cL.mono ?_; rintro e W3 ⟨rfl, hb3⟩)
              have HM3 : Hid (Moved s B K w W3 p') := HM.out.later hb3.out rfl HBW.out
              go_roundw
              case rel => exact ⟨p', b', acc + 1, by go_num, HAP.out, ⟨HM3.out.it, HS1.out.1, HS1.out.2, HM3.out.below⟩, HA1⟩
              case measure =>
                rw [iterPos_of HM3.out.it, HIP.out, HP'.out]; have := HWD.out; have := HPz.out; omega
            | false =>
              have HE : Hid (N = false) := by
                unfold Hid; rw [HF.out, ← hs3.out.ok, okFrom_bad hp hs3.out.room (by rw [HOK.out]; simp [rk, fk, hd3, e36, e95, e46])]; rfl
              clear hp
              have b95 : (r != 95) = true := by simp; omega
              have b46 : (r != 46) = true := by simp; omega
              have b36 : (r != 36) = true := by simp; omega
              clear e95 e46 h2
              try clear h3
              go_wp2_with (go_at_call 91; refine cL.mono ?_; rintro e W3 ⟨rfl, hb3⟩)
              go_ret
              have hB := HB0.out
              subst hB
              exact ⟨ret_boolI HE.out.symm, (HM.out.later hb3.out rfl HBW.out).below⟩
          · have hd2 : decide (r ≤ 57) = false := decide_eq_false (by omega)
            have hd1 : 48 ≤ r := by omega
            have hd3 : ¬ r ≤ 57 := by omega
            have e36 : (r == 36) = false := by simp; omega
            have e95 : (r == 95) = false := by simp; omega
            have e46 : (r == 46) = false := by simp; omega
            cases L with
            | true =>
              obtain ⟨b', s1, s2, s3⟩ := okFrom_step hp hs3.out.room (by rw [HOK.out]; simp [rk, fk, hd3, e36])
              rw [← HP'.out] at s1 s2 s3
              have HS1 : Hid (okFrom s b' p' = okFrom s s.size 0 ∧ s.size ≤ p' + b') := ⟨by rw [← s1]; exact hs3.out.ok, s3⟩
              have HA1 : Hid (acc + 1 + Lib.runeCountFrom s b' p' = Lib.runeCount s) := by unfold Hid; rw [← hac.out, s2]; omega
              have HAP : Hid (acc + 1 ≤ p') := by unfold Hid; rw [HP'.out]; have := HWD.out; omega
              have HPz : Hid (pos < s.size) := hp
              clear s1 s2 s3 hp
              go_wp2_with (go_at_call 91; refine cL.mono ?_; rintro e W3 ⟨rfl, hb3⟩)
              have HM3 : Hid (Moved s B K w W3 p') := HM.out.later hb3.out rfl HBW.out
              go_roundw
              case rel => exact ⟨p', b', acc + 1, by go_num, HAP.out, ⟨HM3.out.it, HS1.out.1, HS1.out.2, HM3.out.below⟩, HA1⟩
              case measure =>
                rw [iterPos_of HM3.out.it, HIP.out, HP'.out]; have := HWD.out; have := HPz.out; omega
            | false =>
              have HE : Hid (N = false) := by
                unfold Hid; rw [HF.out, ← hs3.out.ok, okFrom_bad hp hs3.out.room (by rw [HOK.out]; simp [rk, fk, hd3, e36, e95, e46])]; rfl
              clear hp
              have b95 : (r != 95) = true := by simp; omega
              have b46 : (r != 46) = true := by simp; omega
              have b36 : (r != 36) = true := by simp; omega
              clear e95 e46 h2
              try clear h3
              go_wp2_with (go_at_call 91; refine cL.mono ?_; rintro e W3 ⟨rfl, hb3⟩)
              go_ret
              have hB := HB0.out
              subst hB
              exact ⟨ret_boolI HE.out.symm, (HM.out.later hb3.out rfl HBW.out).below⟩
      · have hnx : ∀ ty, (Instr.next (.pointer (some ⟨K, 0, none⟩)) true ty).run Tryz.prog wr = _ := fun ty => run_next_end_at wr K s pos ty hs3.out.it hp
        have hcnt : acc = Lib.runeCount s := by have := hac.out; rw [Lib.runeCountFrom_end s b pos hp] at this; omega
        have HE : Hid (N = (decide (1 ≤ acc) && decide (acc ≤ 40))) := by
          unfold Hid; rw [HF.out, ← hs3.out.ok, okFrom_end s b pos hp, hcnt]; rfl
        clear hcnt
        by_cases h1 : 1 ≤ acc
        · by_cases h2 : acc ≤ 40
          · have HE2 : Hid (N = true) := by unfold Hid; rw [HE.out]; simp [h1, h2]
            have g1 : (1 : Int) ≤ (acc : Int) := by omega
            have g2 : (acc : Int) ≤ 40 := by omega
            go_wp2
            go_ret
            have hB := HB0.out
            subst hB
            exact ⟨by simp [HE2.out], hs3.out.below⟩
          · have HE2 : Hid (N = false) := by unfold Hid; rw [HE.out]; simp [h2]
            have g1 : (1 : Int) ≤ (acc : Int) := by omega
            have g2 : (40 : Int) < (acc : Int) := by omega
            go_wp2
            go_ret
            have hB := HB0.out
            subst hB
            exact ⟨by simp [HE2.out]; omega, hs3.out.below⟩
        · have HE2 : Hid (N = false) := by unfold Hid; rw [HE.out]; simp [h1]
          have g1 : (acc : Int) < 1 := by omega
          go_wp2
          go_ret
          have hB := HB0.out
          subst hB
          exact ⟨by simp [HE2.out]; try omega, hs3.out.below⟩
end Go.Proofs.YtheeogbmljjbdaaGreatDoor
