/-
  Numbers: digit, whole, Count of the program.
-/
import Derived.Test.YtechkhlibdkmpaaDoorSb
import Derived.Lib.OthersKept
import Derived.WalkSmall
import Derived.Lib.DecodeN
import Derived.Laws.RangeAny
import Derived.Lib.RuneCount
namespace Go.Proofs.YtechkhlibdkmpaaDoor
set_option linter.unusedVariables false
open Go.ChangeShapes Go.WideShapes Go.ChangeAt Go.RowKit Go.Deep Go.Shelf Go.Lib
/-- What a rune counts as a hex digit; 16: it is none. -/
def dgv (c : Nat) : Nat := if 48 ≤ c ∧ c ≤ 57 then c - 48 else if 97 ≤ c ∧ c ≤ 102 then c - 87 else if 65 ≤ c ∧ c ≤ 70 then c - 55 else 16
theorem dgv_le (c : Nat) : dgv c ≤ 16 := by unfold dgv; split <;> (try split) <;> (try split) <;> omega
theorem dgv_big (c : Nat) (h : 128 ≤ c) : dgv c = 16 := by unfold dgv; rw [if_neg (by omega), if_neg (by omega), if_neg (by omega)]
/-- The value of digits in a base, from v on. -/
def val (B : Nat) : List UInt8 → Nat → Option Nat
  | [], v => some v
  | c :: l, v => if dgv c.toNat < B ∧ v ≤ (18446744073709551615 - dgv c.toNat) / B then val B l (v * B + dgv c.toNat) else none
theorem decodeN_big (n b0 b1 b2 b3 : Nat) (h : ¬ b0 < 128) : 128 ≤ (Lib.decodeN n b0 b1 b2 b3).1 := by
  unfold Lib.decodeN
  rw [if_neg h]
  split
  · split
    · omega
    · show 128 ≤ 65533; omega
  · split
    · split
      · omega
      · show 128 ≤ 65533; omega
    · split
      · split
        · omega
        · show 128 ≤ 65533; omega
      · show 128 ≤ 65533; omega
theorem dec_dgv (s : ByteArray) (i : Nat) (h : i < s.size) : dgv (Utf8.decode s i).1 = dgv (s.get! i).toNat ∧ (dgv (s.get! i).toNat < 16 → (Utf8.decode s i).2 = 1) := by
  rw [Lib.decode_at]
  by_cases hb : (s.get! i).toNat < 128
  · have e : Lib.decodeN (s.size - i) (s.get! i).toNat (s.get! (i + 1)).toNat (s.get! (i + 2)).toNat (s.get! (i + 3)).toNat = ((s.get! i).toNat, 1) := by unfold Lib.decodeN; rw [if_pos hb]
    rw [e]
    exact ⟨rfl, fun _ => rfl⟩
  · rw [dgv_big _ (decodeN_big _ _ _ _ _ hb), dgv_big _ (by omega)]
    exact ⟨rfl, fun h => by omega⟩
theorem wrapV (z : Int) (h : 0 ≤ z ∧ z < 18446744073709551616) : IntKind.u64.wrap z = z := by
  have : IntKind.u64.wrap z = z % 18446744073709551616 := by first | rfl | (unfold IntKind.wrap; simp [IntKind.signed, IntKind.bits])
  rw [this]
  omega
set_option maxRecDepth 100000 in
set_option maxHeartbeats 2000000 in
theorem digit_c (r : Nat) (hr : r ≤ 2147483647) (w : World) : Calls Tryd.prog 34 #[.int .i32 r] w fun e w' => e = .returned (.int .u64 (dgv r)) ∧ w' = w := by
  obtain ⟨d, hd⟩ : ∃ d, d = dgv r := ⟨_, rfl⟩
  rw [← hd]
  unfold dgv at hd
  rcases (by omega : r < 48 ∨ (48 ≤ r ∧ r ≤ 57) ∨ (57 < r ∧ r < 65) ∨ (65 ≤ r ∧ r ≤ 70) ∨ (70 < r ∧ r < 97) ∨ (97 ≤ r ∧ r ≤ 102) ∨ 102 < r) with h | h | h | h | h | h | h
  · have p48 : ¬ ((48 : Int) ≤ r) := by omega
    have p97 : ¬ ((97 : Int) ≤ r) := by omega
    have p65 : ¬ ((65 : Int) ≤ r) := by omega
    rw [if_neg (by omega), if_neg (by omega), if_neg (by omega)] at hd
    have HD2 : Hid ((d : Int) = 16) := by unfold Hid; omega
    clear hd h
    go_enter Tryd.func34, Tryd.ntmps34
    go_wp2
    go_ret
    exact ⟨by rw [HD2.out]; rfl, rfl⟩
  · have p48 : (48 : Int) ≤ r := by omega
    have q48 : (r : Int) ≤ 57 := by omega
    rw [if_pos (by omega)] at hd
    have HD : Hid ((d : Int) = (r : Int) - 48) := by unfold Hid; omega
    obtain ⟨e0, he0⟩ : ∃ e0 : Nat, e0 = r - 48 := ⟨_, rfl⟩
    have he1 : (r : Int) - 48 = (e0 : Int) := by omega
    have he2 : (e0 : Int) ≤ 9 := by omega
    have HD2 : Hid ((d : Int) = (e0 : Int)) := by unfold Hid; omega
    clear he0
    clear hd h
    go_enter Tryd.func34, Tryd.ntmps34
    go_wp2
    go_ret
    exact ⟨by rw [HD2.out]; rfl, rfl⟩
  · have p48 : (48 : Int) ≤ r := by omega
    have q48 : ¬ ((r : Int) ≤ 57) := by omega
    have p97 : ¬ ((97 : Int) ≤ r) := by omega
    have p65 : ¬ ((65 : Int) ≤ r) := by omega
    rw [if_neg (by omega), if_neg (by omega), if_neg (by omega)] at hd
    have HD2 : Hid ((d : Int) = 16) := by unfold Hid; omega
    clear hd h
    go_enter Tryd.func34, Tryd.ntmps34
    go_wp2
    go_ret
    exact ⟨by rw [HD2.out]; rfl, rfl⟩
  · have p48 : (48 : Int) ≤ r := by omega
    have q48 : ¬ ((r : Int) ≤ 57) := by omega
    have p97 : ¬ ((97 : Int) ≤ r) := by omega
    have p65 : (65 : Int) ≤ r := by omega
    have q65 : (r : Int) ≤ 70 := by omega
    rw [if_neg (by omega), if_neg (by omega), if_pos (by omega)] at hd
    have HD : Hid ((d : Int) = (r : Int) - 55) := by unfold Hid; omega
    obtain ⟨e0, he0⟩ : ∃ e0 : Nat, e0 = r - 65 := ⟨_, rfl⟩
    have he1 : (r : Int) - 65 = (e0 : Int) := by omega
    have he2 : (e0 : Int) ≤ 5 := by omega
    have HD2 : Hid ((d : Int) = (e0 : Int) + 10) := by unfold Hid; omega
    clear he0
    clear hd h
    go_enter Tryd.func34, Tryd.ntmps34
    go_wp2
    go_ret
    exact ⟨by rw [HD2.out]; rfl, rfl⟩
  · have p48 : (48 : Int) ≤ r := by omega
    have q48 : ¬ ((r : Int) ≤ 57) := by omega
    have p97 : ¬ ((97 : Int) ≤ r) := by omega
    have p65 : (65 : Int) ≤ r := by omega
    have q65 : ¬ ((r : Int) ≤ 70) := by omega
    rw [if_neg (by omega), if_neg (by omega), if_neg (by omega)] at hd
    have HD2 : Hid ((d : Int) = 16) := by unfold Hid; omega
    clear hd h
    go_enter Tryd.func34, Tryd.ntmps34
    go_wp2
    go_ret
    exact ⟨by rw [HD2.out]; rfl, rfl⟩
  · have p48 : (48 : Int) ≤ r := by omega
    have q48 : ¬ ((r : Int) ≤ 57) := by omega
    have p97 : (97 : Int) ≤ r := by omega
    have q97 : (r : Int) ≤ 102 := by omega
    rw [if_neg (by omega), if_pos (by omega)] at hd
    have HD : Hid ((d : Int) = (r : Int) - 87) := by unfold Hid; omega
    obtain ⟨e0, he0⟩ : ∃ e0 : Nat, e0 = r - 97 := ⟨_, rfl⟩
    have he1 : (r : Int) - 97 = (e0 : Int) := by omega
    have he2 : (e0 : Int) ≤ 5 := by omega
    have HD2 : Hid ((d : Int) = (e0 : Int) + 10) := by unfold Hid; omega
    clear he0
    clear hd h
    go_enter Tryd.func34, Tryd.ntmps34
    go_wp2
    go_ret
    exact ⟨by rw [HD2.out]; rfl, rfl⟩
  · have p48 : (48 : Int) ≤ r := by omega
    have q48 : ¬ ((r : Int) ≤ 57) := by omega
    have p97 : (97 : Int) ≤ r := by omega
    have q97 : ¬ ((r : Int) ≤ 102) := by omega
    have p65 : (65 : Int) ≤ r := by omega
    have q65 : ¬ ((r : Int) ≤ 70) := by omega
    rw [if_neg (by omega), if_neg (by omega), if_neg (by omega)] at hd
    have HD2 : Hid ((d : Int) = 16) := by unfold Hid; omega
    clear hd h
    go_enter Tryd.func34, Tryd.ntmps34
    go_wp2
    go_ret
    exact ⟨by rw [HD2.out]; rfl, rfl⟩
/-- What whole answers. -/
def whV (B : Nat) (l : List UInt8) : Value := match val B l 0 with | some v => .tuple #[.int .u64 v, .bool (!l.isEmpty)] | none => .tuple #[.int .u64 0, .bool false]
theorem drop_get (s : ByteArray) (i : Nat) (h : i < s.size) : s.toList.drop i = s.get! i :: s.toList.drop (i + 1) := by
  rw [ByteArray.toList_eq]
  have hs : i < s.data.size := h
  have hl : i < s.data.toList.length := by rw [Array.length_toList]; exact hs
  have e : s.get! i = s.data[i] := by
    show s.data[i]! = _
    exact getElem!_pos s.data i hs
  rw [List.drop_eq_getElem_cons hl, e]
  rfl
structure It (s : ByteArray) (B0 K : Nat) (w wr : World) (pos : Nat) : Prop where
  it : wr.heap[K]? = some (.stringIter s pos)
  below : Below B0 w wr
theorem It.moved {s : ByteArray} {B0 K : Nat} {w wr : World} {pos pos' : Nat} (h : It s B0 K w wr pos) (hK : B0 ≤ K) : It s B0 K w (wr.iterAt K s pos') pos' :=
  ⟨iterAt_heap wr K s pos pos' h.it, below_iterAt h.below hK s pos'⟩
set_option maxRecDepth 100000 in
set_option maxHeartbeats 4000000 in
theorem whole_10 (s : ByteArray) (w : World) : Calls Tryd.prog 29 #[.string s, .int .u64 10] w fun e w' => e = .returned (whV 10 s.toList) ∧ Below w.heap.size w w' := by
  obtain ⟨R, hR⟩ : ∃ R, R = whV 10 s.toList := ⟨_, rfl⟩
  rw [← hR]
  have HR : Hid (R = whV 10 s.toList) := hR
  have HN : Hid (val 10 s.toList 0 = none → R = .tuple #[.int .u64 0, .bool false]) := fun h => by rw [HR.out]; unfold whV; rw [h]
  have HY : Hid (∀ v, val 10 s.toList 0 = some v → R = .tuple #[.int .u64 v, .bool (!s.toList.isEmpty)]) := fun v h => by rw [HR.out]; unfold whV; rw [h]
  have HQ : Hid (∀ b : Bool, (s.toList == ([] : List UInt8)) = b → s.toList.isEmpty = b) := fun b h => by cases hq : s.toList <;> rw [hq] at h <;> simpa using h
  clear hR
  obtain ⟨K, hK⟩ : ∃ K, K = w.heap.size := ⟨_, rfl⟩
  have HK : Hid (K = w.heap.size) := hK
  have HI : Hid (It s w.heap.size K w (w.iter s 0) 0) := ⟨by rw [hK]; exact World.iter_heap w s 0, (Below.refl _ _).alloc (Nat.le_refl _) _⟩
  go_enter Tryd.func29, Tryd.ntmps29
  go_wp2
  --@CUT1
  rw [← hK]
  clear hK
  generalize w.iter s 0 = w3 at HI ⊢
  go_loopw [6] (fun a wr => ∃ pos v : Nat, a = .int .u64 v ∧ v < 18446744073709551616 ∧ Hid (It s w.heap.size K w wr pos) ∧ Hid (pos ≤ s.size) ∧ Hid (val 10 (s.toList.drop pos) v = val 10 s.toList 0)) (fun _ wr => s.size - wr.iterPos K)
  case atStart => exact ⟨0, 0, rfl, by omega, HI, Nat.zero_le _, rfl⟩
  case round =>
    obtain ⟨pos, v, rfl, hv, hit, hps, hvl⟩ := hrel
    clear HI
    by_cases hp : pos < s.size
    · have hnx : ∀ ty, (Instr.next (.pointer (some ⟨K, 0, none⟩)) true ty).run Tryd.prog wr = _ := fun ty => run_next_any_at wr K s pos ty hit.out.it hp
      have hip : wr.iterPos K = pos := iterPos_of hit.out.it
      have hrl := decode_le s pos
      obtain ⟨e1, e2⟩ := dec_dgv s pos hp
      have hmv := hit.out.moved (pos' := pos + (Utf8.decode s pos).2) (by rw [HK.out]; exact Nat.le_refl _)
      have hdl := dgv_le (s.get! pos).toNat
      have hst : val 10 (s.toList.drop pos) v = if dgv (s.get! pos).toNat < 10 ∧ v ≤ (18446744073709551615 - dgv (s.get! pos).toNat) / 10 then val 10 (s.toList.drop (pos + 1)) (v * 10 + dgv (s.get! pos).toNat) else none := by rw [drop_get s pos hp]; rfl
      obtain ⟨r, hr⟩ : ∃ r : Nat, r = (Utf8.decode s pos).1 := ⟨_, rfl⟩
      obtain ⟨p', hp'⟩ : ∃ p', p' = pos + (Utf8.decode s pos).2 := ⟨_, rfl⟩
      obtain ⟨W2, hW2⟩ : ∃ W2, W2 = wr.iterAt K s (pos + (Utf8.decode s pos).2) := ⟨_, rfl⟩
      have hwd := Lib.decode_width_pos s pos hp
      rw [← hr, ← hW2] at hnx
      rw [← hW2, ← hp'] at hmv
      rw [← hr] at hrl
      have HD : Hid (∀ w : World, Calls Tryd.prog 34 #[.int .i32 r] w fun e w' => e = .returned (.int .u64 (dgv r)) ∧ w' = w) := digit_c r hrl
      rw [show dgv r = dgv (s.get! pos).toNat by rw [hr]; exact e1] at HD
      have HP1 : Hid (dgv (s.get! pos).toNat < 10 → p' = pos + 1) := fun h => by rw [hp', e2 (by omega)]
      have HM : Hid (It s w.heap.size K w W2 p') := hmv
      have HIP : Hid (wr.iterPos K = pos) := hip
      have HP0 : Hid (pos < p') := by unfold Hid; omega
      generalize dgv (s.get! pos).toNat = d at hdl hst HD HP1
      have HST : Hid (val 10 s.toList 0 = if d < 10 ∧ v ≤ (18446744073709551615 - d) / 10 then val 10 (s.toList.drop (pos + 1)) (v * 10 + d) else none) := hvl.out.symm.trans hst
      clear hr hp' hW2 hmv hip hrl e1 e2 hst hvl hwd
      obtain ⟨q, hq⟩ : ∃ q : Nat, q = (18446744073709551615 - d) / 10 := ⟨_, rfl⟩
      have hs1 : (18446744073709551615 : Int) - (d : Int) = ((18446744073709551615 - d : Nat) : Int) := by omega
      have hq1 : (18446744073709551615 - (d : Int)) / 10 = (q : Int) := by omega
      have hq2 : Int.tdiv (18446744073709551615 - (d : Int)) 10 = (q : Int) := by rw [Int.tdiv_eq_ediv_of_nonneg (by omega)]; omega
      have hqb : (q : Int) ≤ 18446744073709551615 := by omega
      clear hs1
      by_cases hd : d < 10
      · have hdI : ¬ ((10 : Int) ≤ d) := by omega
        by_cases hvq : v ≤ q
        · have hvI : ¬ ((q : Int) < v) := by omega
          obtain ⟨v2, hv2⟩ : ∃ v2 : Nat, v2 = v * 10 + d := ⟨_, rfl⟩
          have hv3 : v2 < 18446744073709551616 := by omega
          have hm1 : IntKind.u64.wrap ((v : Int) * 10) = (v : Int) * 10 := wrapV _ (by omega)
          have hm2 : IntKind.u64.wrap ((v : Int) * 10 + d) = (v2 : Int) := by rw [wrapV _ (by omega)]; omega
          have HV2 : Hid (val 10 (s.toList.drop p') v2 = val 10 s.toList 0) := by
            unfold Hid
            rw [HST.out, if_pos ⟨hd, by omega⟩, HP1.out hd, hv2]
          have HPS : Hid (p' ≤ s.size) := by unfold Hid; rw [HP1.out hd]; omega
          have HPL : Hid (pos < s.size) := hp
          clear hq hv2 hps hp
          --@CUT2_10
          go_wp2_with (first | (go_at_call 34; refine (HD.out _).mono ?_; rintro e w1 ⟨rfl, hw⟩; have hw2 := hw.symm; subst hw2))
          --@CUT3_10
          go_roundw
          · exact ⟨p', v2, rfl, hv3, HM.out, HPS.out, HV2.out⟩
          · rw [iterPos_of HM.out.it, HIP.out]; have := HP0.out; have := HPL.out; omega
        · have hvI : (q : Int) < v := by omega
          have HE : Hid (R = .tuple #[.int .u64 0, .bool false]) := HN.out (by rw [HST.out, if_neg (by omega)])
          clear hq hps hp
          go_wp2_with (first | (go_at_call 34; refine (HD.out _).mono ?_; rintro e w1 ⟨rfl, hw⟩; have hw2 := hw.symm; subst hw2))
          go_ret2
          exact ⟨by rw [HE.out]; rfl, HM.out.below⟩
      · have hdI : ((10 : Int) ≤ d) := by omega
        have HE : Hid (R = .tuple #[.int .u64 0, .bool false]) := HN.out (by rw [HST.out, if_neg (by omega)])
        clear hq hps hp
        go_wp2_with (first | (go_at_call 34; refine (HD.out _).mono ?_; rintro e w1 ⟨rfl, hw⟩; have hw2 := hw.symm; subst hw2))
        go_ret2
        exact ⟨by rw [HE.out]; rfl, HM.out.below⟩
    · have hnx : ∀ ty, (Instr.next (.pointer (some ⟨K, 0, none⟩)) true ty).run Tryd.prog wr = _ := fun ty => run_next_end_at wr K s pos ty hit.out.it hp
      have HE : Hid (R = .tuple #[.int .u64 v, .bool (!s.toList.isEmpty)]) := by
        have e : val 10 s.toList 0 = some v := by
          rw [← hvl.out, List.drop_eq_nil_of_le (by rw [ByteArray.toList_eq, Array.length_toList]; show s.size ≤ pos; omega)]
          rfl
        exact HY.out v e
      clear hps hvl hp
      --@CUT4_10
      cases hq : (s.toList == ([] : List UInt8))
      · have HE2 := HQ.out _ hq
        go_wp2
        go_ret2
        exact ⟨by rw [HE.out, HE2]; rfl, hit.out.below⟩
      · have HE2 := HQ.out _ hq
        go_wp2
        go_ret2
        exact ⟨by rw [HE.out, HE2]; rfl, hit.out.below⟩
set_option maxRecDepth 100000 in
set_option maxHeartbeats 4000000 in
theorem whole_16 (s : ByteArray) (w : World) : Calls Tryd.prog 29 #[.string s, .int .u64 16] w fun e w' => e = .returned (whV 16 s.toList) ∧ Below w.heap.size w w' := by
  obtain ⟨R, hR⟩ : ∃ R, R = whV 16 s.toList := ⟨_, rfl⟩
  rw [← hR]
  have HR : Hid (R = whV 16 s.toList) := hR
  have HN : Hid (val 16 s.toList 0 = none → R = .tuple #[.int .u64 0, .bool false]) := fun h => by rw [HR.out]; unfold whV; rw [h]
  have HY : Hid (∀ v, val 16 s.toList 0 = some v → R = .tuple #[.int .u64 v, .bool (!s.toList.isEmpty)]) := fun v h => by rw [HR.out]; unfold whV; rw [h]
  have HQ : Hid (∀ b : Bool, (s.toList == ([] : List UInt8)) = b → s.toList.isEmpty = b) := fun b h => by cases hq : s.toList <;> rw [hq] at h <;> simpa using h
  clear hR
  obtain ⟨K, hK⟩ : ∃ K, K = w.heap.size := ⟨_, rfl⟩
  have HK : Hid (K = w.heap.size) := hK
  have HI : Hid (It s w.heap.size K w (w.iter s 0) 0) := ⟨by rw [hK]; exact World.iter_heap w s 0, (Below.refl _ _).alloc (Nat.le_refl _) _⟩
  go_enter Tryd.func29, Tryd.ntmps29
  go_wp2
  --@CUT1
  rw [← hK]
  clear hK
  generalize w.iter s 0 = w3 at HI ⊢
  go_loopw [6] (fun a wr => ∃ pos v : Nat, a = .int .u64 v ∧ v < 18446744073709551616 ∧ Hid (It s w.heap.size K w wr pos) ∧ Hid (pos ≤ s.size) ∧ Hid (val 16 (s.toList.drop pos) v = val 16 s.toList 0)) (fun _ wr => s.size - wr.iterPos K)
  case atStart => exact ⟨0, 0, rfl, by omega, HI, Nat.zero_le _, rfl⟩
  case round =>
    obtain ⟨pos, v, rfl, hv, hit, hps, hvl⟩ := hrel
    clear HI
    by_cases hp : pos < s.size
    · have hnx : ∀ ty, (Instr.next (.pointer (some ⟨K, 0, none⟩)) true ty).run Tryd.prog wr = _ := fun ty => run_next_any_at wr K s pos ty hit.out.it hp
      have hip : wr.iterPos K = pos := iterPos_of hit.out.it
      have hrl := decode_le s pos
      obtain ⟨e1, e2⟩ := dec_dgv s pos hp
      have hmv := hit.out.moved (pos' := pos + (Utf8.decode s pos).2) (by rw [HK.out]; exact Nat.le_refl _)
      have hdl := dgv_le (s.get! pos).toNat
      have hst : val 16 (s.toList.drop pos) v = if dgv (s.get! pos).toNat < 16 ∧ v ≤ (18446744073709551615 - dgv (s.get! pos).toNat) / 16 then val 16 (s.toList.drop (pos + 1)) (v * 16 + dgv (s.get! pos).toNat) else none := by rw [drop_get s pos hp]; rfl
      obtain ⟨r, hr⟩ : ∃ r : Nat, r = (Utf8.decode s pos).1 := ⟨_, rfl⟩
      obtain ⟨p', hp'⟩ : ∃ p', p' = pos + (Utf8.decode s pos).2 := ⟨_, rfl⟩
      obtain ⟨W2, hW2⟩ : ∃ W2, W2 = wr.iterAt K s (pos + (Utf8.decode s pos).2) := ⟨_, rfl⟩
      have hwd := Lib.decode_width_pos s pos hp
      rw [← hr, ← hW2] at hnx
      rw [← hW2, ← hp'] at hmv
      rw [← hr] at hrl
      have HD : Hid (∀ w : World, Calls Tryd.prog 34 #[.int .i32 r] w fun e w' => e = .returned (.int .u64 (dgv r)) ∧ w' = w) := digit_c r hrl
      rw [show dgv r = dgv (s.get! pos).toNat by rw [hr]; exact e1] at HD
      have HP1 : Hid (dgv (s.get! pos).toNat < 16 → p' = pos + 1) := fun h => by rw [hp', e2 (by omega)]
      have HM : Hid (It s w.heap.size K w W2 p') := hmv
      have HIP : Hid (wr.iterPos K = pos) := hip
      have HP0 : Hid (pos < p') := by unfold Hid; omega
      generalize dgv (s.get! pos).toNat = d at hdl hst HD HP1
      have HST : Hid (val 16 s.toList 0 = if d < 16 ∧ v ≤ (18446744073709551615 - d) / 16 then val 16 (s.toList.drop (pos + 1)) (v * 16 + d) else none) := hvl.out.symm.trans hst
      clear hr hp' hW2 hmv hip hrl e1 e2 hst hvl hwd
      obtain ⟨q, hq⟩ : ∃ q : Nat, q = (18446744073709551615 - d) / 16 := ⟨_, rfl⟩
      have hs1 : (18446744073709551615 : Int) - (d : Int) = ((18446744073709551615 - d : Nat) : Int) := by omega
      have hq1 : (18446744073709551615 - (d : Int)) / 16 = (q : Int) := by omega
      have hq2 : Int.tdiv (18446744073709551615 - (d : Int)) 16 = (q : Int) := by rw [Int.tdiv_eq_ediv_of_nonneg (by omega)]; omega
      have hqb : (q : Int) ≤ 18446744073709551615 := by omega
      clear hs1
      by_cases hd : d < 16
      · have hdI : ¬ ((16 : Int) ≤ d) := by omega
        by_cases hvq : v ≤ q
        · have hvI : ¬ ((q : Int) < v) := by omega
          obtain ⟨v2, hv2⟩ : ∃ v2 : Nat, v2 = v * 16 + d := ⟨_, rfl⟩
          have hv3 : v2 < 18446744073709551616 := by omega
          have hm1 : IntKind.u64.wrap ((v : Int) * 16) = (v : Int) * 16 := wrapV _ (by omega)
          have hm2 : IntKind.u64.wrap ((v : Int) * 16 + d) = (v2 : Int) := by rw [wrapV _ (by omega)]; omega
          have HV2 : Hid (val 16 (s.toList.drop p') v2 = val 16 s.toList 0) := by
            unfold Hid
            rw [HST.out, if_pos ⟨hd, by omega⟩, HP1.out hd, hv2]
          have HPS : Hid (p' ≤ s.size) := by unfold Hid; rw [HP1.out hd]; omega
          have HPL : Hid (pos < s.size) := hp
          clear hq hv2 hps hp
          --@CUT2_16
          go_wp2_with (first | (go_at_call 34; refine (HD.out _).mono ?_; rintro e w1 ⟨rfl, hw⟩; have hw2 := hw.symm; subst hw2))
          --@CUT3_16
          go_roundw
          · exact ⟨p', v2, rfl, hv3, HM.out, HPS.out, HV2.out⟩
          · rw [iterPos_of HM.out.it, HIP.out]; have := HP0.out; have := HPL.out; omega
        · have hvI : (q : Int) < v := by omega
          have HE : Hid (R = .tuple #[.int .u64 0, .bool false]) := HN.out (by rw [HST.out, if_neg (by omega)])
          clear hq hps hp
          go_wp2_with (first | (go_at_call 34; refine (HD.out _).mono ?_; rintro e w1 ⟨rfl, hw⟩; have hw2 := hw.symm; subst hw2))
          go_ret2
          exact ⟨by rw [HE.out]; rfl, HM.out.below⟩
      · have hdI : ((16 : Int) ≤ d) := by omega
        have HE : Hid (R = .tuple #[.int .u64 0, .bool false]) := HN.out (by rw [HST.out, if_neg (by omega)])
        clear hq hps hp
        go_wp2_with (first | (go_at_call 34; refine (HD.out _).mono ?_; rintro e w1 ⟨rfl, hw⟩; have hw2 := hw.symm; subst hw2))
        go_ret2
        exact ⟨by rw [HE.out]; rfl, HM.out.below⟩
    · have hnx : ∀ ty, (Instr.next (.pointer (some ⟨K, 0, none⟩)) true ty).run Tryd.prog wr = _ := fun ty => run_next_end_at wr K s pos ty hit.out.it hp
      have HE : Hid (R = .tuple #[.int .u64 v, .bool (!s.toList.isEmpty)]) := by
        have e : val 16 s.toList 0 = some v := by
          rw [← hvl.out, List.drop_eq_nil_of_le (by rw [ByteArray.toList_eq, Array.length_toList]; show s.size ≤ pos; omega)]
          rfl
        exact HY.out v e
      clear hps hvl hp
      --@CUT4_16
      cases hq : (s.toList == ([] : List UInt8))
      · have HE2 := HQ.out _ hq
        go_wp2
        go_ret2
        exact ⟨by rw [HE.out, HE2]; rfl, hit.out.below⟩
      · have HE2 := HQ.out _ hq
        go_wp2
        go_ret2
        exact ⟨by rw [HE.out, HE2]; rfl, hit.out.below⟩
end Go.Proofs.YtechkhlibdkmpaaDoor
