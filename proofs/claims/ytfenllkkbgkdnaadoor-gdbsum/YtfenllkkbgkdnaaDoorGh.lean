/-
  Layer 17 (gdb): two hex digits: strconv.ParseUint of two bytes at base 16.
-/
import Derived.Test.YtfenllkkbgkdnaaDoorGd
import Derived.Test.YtfenllkkbgkdnaaDoorShelf
import Derived.Lib.ConvBytes
import Derived.Laws.Bits64
namespace Go.Proofs.YtfenllkkbgkdnaaDoor
set_option linter.unusedVariables false
set_option maxRecDepth 100000
open Go.ChangeShapes Go.WideShapes Go.ChangeAt Go.RowKit Go.Deep
/-- What a hex digit counts; -1: it is none. -/
def hv (c : Int) : Int := if 48 ≤ c ∧ c ≤ 57 then c - 48 else if 97 ≤ c ∧ c ≤ 102 then c - 87 else if 65 ≤ c ∧ c ≤ 70 then c - 55 else -1
theorem hv_dig {c : Int} (h : 48 ≤ c ∧ c ≤ 57) : hv c = c - 48 := by unfold hv; rw [if_pos h]
theorem hv_le (c : Int) : hv c ≤ 15 := by unfold hv; split <;> (try split) <;> (try split) <;> omega
def lwP (c : Int) : Bool := (decide (48 ≤ c) && decide (c ≤ 57)) || (if 0 ≤ hv c then decide (97 ≤ bits .or .u8 c 32) && decide (bits .or .u8 c 32 = hv c + 87) else decide (bits .or .u8 c 32 < 97) || decide (103 ≤ bits .or .u8 c 32))
theorem lw_all : ∀ c : Fin 256, lwP (c.val : Int) = true := by decide +kernel
theorem lw_at (c : Int) (h0 : 0 ≤ c) (h1 : c ≤ 255) (hd : ¬ (48 ≤ c ∧ c ≤ 57)) : (0 ≤ hv c → 97 ≤ bits .or .u8 c 32 ∧ bits .or .u8 c 32 = hv c + 87) ∧ (hv c < 0 → bits .or .u8 c 32 < 97 ∨ 103 ≤ bits .or .u8 c 32) := by
  have q := lw_all ⟨c.toNat, by omega⟩
  rw [show ((⟨c.toNat, by omega⟩ : Fin 256).val : Int) = c from by simp; omega] at q
  unfold lwP at q
  have hd2 : (decide (48 ≤ c) && decide (c ≤ 57)) = false := by simp; omega
  rw [hd2, Bool.false_or] at q
  by_cases h : 0 ≤ hv c
  · rw [if_pos h] at q
    simp at q
    exact ⟨fun _ => q, fun h2 => by omega⟩
  · rw [if_neg h] at q
    simp at q
    exact ⟨fun h2 => absurd h2 h, fun _ => q⟩
def okD (x y : Int) : Bool := decide (0 ≤ hv x) && decide (0 ≤ hv y)
def valD (x y : Int) : Int := if okD x y then hv x * 16 + hv y else 0
def errD (x y : Int) : Value := if okD x y then .nilIface else .iface 56 (.int .i64 2)
theorem low_c (c : Int) (w : World) : Calls Tryd.prog 26 #[.int .u8 c] w fun e w' => e = .returned (.int .u8 (bits .or .u8 c 32)) ∧ w' = w := by
  go_enter Tryd.func26, Tryd.ntmps26
  go_wp2
  go_ret
  exact ⟨rfl, rfl⟩
theorem bytesW_below (w : World) (s : ByteArray) : Below w.heap.size w (Lib.bytesWorld w 5 s) := Go.Joins.below_bytesWorld _ w _ s (Nat.le_refl _)
/-- The value of the first k digits. -/
def AccD (x y : Int) (k : Nat) (a : Int) : Prop := (k = 0 ∧ a = 0) ∨ (k = 1 ∧ a = hv x ∧ 0 ≤ hv x) ∨ (k = 2 ∧ a = hv x * 16 + hv y ∧ 0 ≤ hv x ∧ 0 ≤ hv y)
theorem AccD.at_ {x y : Int} {k : Nat} {a : Int} (h : AccD x y k a) (hk : k < 2) : (0 ≤ a ∧ a ≤ 15) ∧ (0 ≤ hv ([x, y].getD k 0) → AccD x y (k + 1) (a * 16 + hv ([x, y].getD k 0))) ∧ (hv ([x, y].getD k 0) < 0 → okD x y = false) := by
  have := hv_le x
  rcases h with ⟨rfl, rfl⟩ | ⟨rfl, rfl, h1⟩ | ⟨rfl, _, _⟩
  · refine ⟨by omega, fun h => .inr (.inl ⟨rfl, by simp, h⟩), fun h => ?_⟩
    have h2 : hv x < 0 := h
    unfold okD; simp; omega
  · refine ⟨by omega, fun h => .inr (.inr ⟨rfl, rfl, h1, h⟩), fun h => ?_⟩
    have h2 : hv y < 0 := h
    unfold okD; simp; omega
  · omega
set_option maxHeartbeats 4000000 in
theorem parse_c (x y : Int) (hx : 0 ≤ x ∧ x ≤ 255) (hy : 0 ≤ y ∧ y ≤ 255) (w : World) :
    Calls Tryd.prog 24 #[.string (strOfNums [x, y]), .int .i64 16, .int .i64 8] w fun e w' => e = .returned (.tuple #[.int .u64 (valD x y), errD x y]) ∧ Below w.heap.size w w' := by
  have hsz : (strOfNums [x, y]).size = 2 := strOfNums_size _
  have hemp : (strOfNums [x, y]).toList.isEmpty = false := by
    rw [← decide_eq_emptyBytes]
    exact decide_eq_false (fun h => by rw [h] at hsz; cases hsz)
  have hcv := Lib.run_convert_string_bytes (P := Tryd.prog) w 9 22 5 (strOfNums [x, y]) (u := .string) Tryd.underlying9 Tryd.underlying22 Tryd.underlying5
  have hB : ∀ j, j < (strOfNums [x, y]).size → (Lib.bytesWorld w 5 (strOfNums [x, y])).cell? ⟨w.heap.size, j, none⟩ = some (.int .u8 ((strOfNums [x, y]).data.toList.getD j 0).toNat) := fun j hj => Lib.bytesWorld_cell w 5 _ j hj
  have HBY : Hid (∀ k, k < 2 → (Lib.bytesWorld w 5 (strOfNums [x, y])).cell? ⟨w.heap.size, k, none⟩ = some (.int .u8 ([x, y].getD k 0))) := fun k hk => by
    rw [hB k (by rw [hsz]; exact hk), strOfNums_data]
    match k, hk with
    | 0, _ => simp; omega
    | 1, _ => simp; omega
  have HBL : Hid (Below w.heap.size w (Lib.bytesWorld w 5 (strOfNums [x, y]))) := bytesW_below w _
  have HBD : Hid (∀ k, k < 2 → 0 ≤ [x, y].getD k 0 ∧ [x, y].getD k 0 ≤ 255) := fun k hk => by
    match k, hk with
    | 0, _ => exact hx
    | 1, _ => exact hy
  have HBAD : Hid (okD x y = false → valD x y = 0 ∧ errD x y = .iface 56 (.int .i64 2)) := fun h => by unfold valD errD; rw [h]; exact ⟨rfl, rfl⟩
  have HGOOD : Hid (∀ a, AccD x y 2 a → valD x y = a ∧ errD x y = .nilIface) := fun a h => by
    rcases h with ⟨h, _⟩ | ⟨h, _⟩ | ⟨_, rfl, h1, h2⟩
    · cases h
    · cases h
    · have : okD x y = true := by unfold okD; simp; omega
      unfold valD errD; rw [this]; exact ⟨rfl, rfl⟩
  generalize valD x y = V at *
  generalize errD x y = R at *
  generalize Lib.bytesWorld w 5 (strOfNums [x, y]) = W1 at *
  generalize strOfNums [x, y] = s at *
  clear hB hx hy
  have HLW := Hid.mk' (fun c W => low_c c W)
  go_enter Tryd.func24, Tryd.ntmps24
  go_wp2
  go_loopw [12, 13, 101] (fun vu vn vi wr => ∃ (k : Nat) (a : Int), vu = .bool false ∧ vn = .int .u64 a ∧ vi = .int .i64 k ∧ k ≤ 2 ∧ Hid (AccD x y k a) ∧ Hid (wr = W1)) (fun _ _ vi _ => 2 - (intOf vi).toNat)
  case atStart => exact ⟨0, 0, rfl, rfl, rfl, by omega, .inl ⟨rfl, rfl⟩, rfl⟩
  case round =>
    obtain ⟨k, a, rfl, rfl, rfl, hk, hacc, hwr⟩ := hrel
    have hwe := hwr.out
    subst hwe
    by_cases hlt : k < 2
    · obtain ⟨⟨ha0, ha1⟩, hgo, hno⟩ := hacc.out.at_ hlt
      have hce := HBY.out k hlt
      obtain ⟨hc0, hc1⟩ := HBD.out k hlt
      have HG := Hid.mk' hgo
      have HNO := Hid.mk' hno
      generalize [x, y].getD k 0 = c at *
      have hlt2 : (k : Int) < 2 := by omega
      clear hgo hno hacc HBY HBD
      by_cases hdig : 48 ≤ c ∧ c ≤ 57
      · have HH : Hid (hv c = c - 48) := hv_dig hdig
        obtain ⟨hd0, hd1⟩ := hdig
        have HN := Hid.mk' (HG.out (by rw [HH.out]; omega))
        rw [HH.out] at HN
        have icut : a < 1152921504606846976 := by omega
        have iov : ¬ (255 : Int) < a * 16 + (c - 48) := by omega
        clear HG HNO HH
        go_wp2
        go_roundw
        case rel => exact ⟨k + 1, _, rfl, rfl, by go_num, by omega, HN, trivial⟩
        case measure => simp [intOf]; omega
      · obtain ⟨hl1, hl2⟩ := lw_at c hc0 hc1 hdig
        have HLC := Hid.mk' (fun W => low_c c W)
        have hv0 := bits_lo_u8 .or c 32
        have hv1 := bits_hi_u8 .or c 32
        by_cases hh : 0 ≤ hv c
        · obtain ⟨q1, q2⟩ := hl1 hh
          have HN := Hid.mk' (HG.out hh)
          have hle := hv_le c
          have n95 : (c == 95) = false := by
            have : c ≠ 95 := by rintro rfl; exact absurd hh (by decide)
            simp [this]
          generalize hv c = d at *
          generalize bits .or .u8 c 32 = L at *
          have q3 : L ≤ 102 := by omega
          have q4 : L ≤ 122 := by omega
          obtain rfl : d = L - 87 := by omega
          have icut : a < 1152921504606846976 := by omega
          have iov : ¬ (255 : Int) < a * 16 + (L - 87) := by omega
          have iov2 : ¬ (255 : Int) < a * 16 + (L - 97 + 10) := by omega
          have i16 : ¬ (16 : Int) ≤ L - 97 + 10 := by omega
          clear hl1 hl2 q2 HG HNO hh hle
          rcases (show c < 48 ∨ 57 < c by omega) with h48 | h57
          · have n48 : ¬ 48 ≤ c := by omega
            go_wp2_with (go_at_call 26; refine (HLC.out _).mono ?_; rintro e w5 ⟨rfl, hw5⟩; have hw6 := hw5.symm; subst hw6)
            go_roundw
            case rel => exact ⟨k + 1, _, rfl, (by first | rfl | (congr 1; omega)), by go_num, by omega, HN, trivial⟩
            case measure => simp [intOf]; omega
          · have n48 : 48 ≤ c := by omega
            have n57 : ¬ c ≤ 57 := by omega
            go_wp2_with (go_at_call 26; refine (HLC.out _).mono ?_; rintro e w5 ⟨rfl, hw5⟩; have hw6 := hw5.symm; subst hw6)
            go_roundw
            case rel => exact ⟨k + 1, _, rfl, (by first | rfl | (congr 1; omega)), by go_num, by omega, HN, trivial⟩
            case measure => simp [intOf]; omega
        · have HB2 := Hid.mk' (HBAD.out (HNO.out (by omega)))
          have q := hl2 (by omega)
          clear hl1 hl2 HG HNO hh HGOOD HBAD
          by_cases e95 : c = 95
          · subst e95
            have e127 : bits .or .u8 95 32 = 127 := by decide
            rw [e127] at HLC
            clear q hv0 hv1 hdig
            go_wp2_with (go_at_call 26; refine (HLC.out _).mono ?_; rintro e w5 ⟨rfl, hw5⟩; have hw6 := hw5.symm; subst hw6)
            go_ret2
            exact ⟨by rw [HB2.out.1, HB2.out.2]; rfl, HBL.out⟩
          · have n95 : (c == 95) = false := by simp [e95]
            generalize bits .or .u8 c 32 = L at *
            rcases (show L < 97 ∨ (97 ≤ L ∧ 103 ≤ L ∧ L ≤ 122) ∨ (97 ≤ L ∧ 122 < L) by omega) with r | r | r
            · have m1 : ¬ 97 ≤ L := by omega
              clear q
              rcases (show c < 48 ∨ 57 < c by omega) with h48 | h57
              · have n48 : ¬ 48 ≤ c := by omega
                go_wp2_with (go_at_call 26; refine (HLC.out _).mono ?_; rintro e w5 ⟨rfl, hw5⟩; have hw6 := hw5.symm; subst hw6)
                go_ret2
                exact ⟨by rw [HB2.out.1, HB2.out.2]; rfl, HBL.out⟩
              · have n48 : 48 ≤ c := by omega
                have n57 : ¬ c ≤ 57 := by omega
                go_wp2_with (go_at_call 26; refine (HLC.out _).mono ?_; rintro e w5 ⟨rfl, hw5⟩; have hw6 := hw5.symm; subst hw6)
                go_ret2
                exact ⟨by rw [HB2.out.1, HB2.out.2]; rfl, HBL.out⟩
            · obtain ⟨m1, m2, m3⟩ := r
              have i16 : (16 : Int) ≤ L - 97 + 10 := by omega
              clear q
              rcases (show c < 48 ∨ 57 < c by omega) with h48 | h57
              · have n48 : ¬ 48 ≤ c := by omega
                go_wp2_with (go_at_call 26; refine (HLC.out _).mono ?_; rintro e w5 ⟨rfl, hw5⟩; have hw6 := hw5.symm; subst hw6)
                go_ret2
                exact ⟨by rw [HB2.out.1, HB2.out.2]; rfl, HBL.out⟩
              · have n48 : 48 ≤ c := by omega
                have n57 : ¬ c ≤ 57 := by omega
                go_wp2_with (go_at_call 26; refine (HLC.out _).mono ?_; rintro e w5 ⟨rfl, hw5⟩; have hw6 := hw5.symm; subst hw6)
                go_ret2
                exact ⟨by rw [HB2.out.1, HB2.out.2]; rfl, HBL.out⟩
            · obtain ⟨m1, m2⟩ := r
              have m3 : ¬ L ≤ 122 := by omega
              clear q
              rcases (show c < 48 ∨ 57 < c by omega) with h48 | h57
              · have n48 : ¬ 48 ≤ c := by omega
                go_wp2_with (go_at_call 26; refine (HLC.out _).mono ?_; rintro e w5 ⟨rfl, hw5⟩; have hw6 := hw5.symm; subst hw6)
                go_ret2
                exact ⟨by rw [HB2.out.1, HB2.out.2]; rfl, HBL.out⟩
              · have n48 : 48 ≤ c := by omega
                have n57 : ¬ c ≤ 57 := by omega
                go_wp2_with (go_at_call 26; refine (HLC.out _).mono ?_; rintro e w5 ⟨rfl, hw5⟩; have hw6 := hw5.symm; subst hw6)
                go_ret2
                exact ⟨by rw [HB2.out.1, HB2.out.2]; rfl, HBL.out⟩
    · obtain rfl : k = 2 := by omega
      have HB2 := Hid.mk' (HGOOD.out _ hacc.out)
      rw [show ((2 : Nat) : Int) = (2 : Int) from rfl]
      clear HGOOD HBAD HBY HBD hacc hlt hk
      go_wp2
      go_ret2
      exact ⟨by rw [HB2.out.1, HB2.out.2]; rfl, HBL.out⟩
end Go.Proofs.YtfenllkkbgkdnaaDoor
