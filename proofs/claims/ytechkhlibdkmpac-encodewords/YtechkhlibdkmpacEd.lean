/-
  The reference's one and reach.
-/
import Derived.Test.YtechkhlibdkmpacEc
import Derived.Laws.BytesArg
namespace Go.Proofs.Ytechkhlibdkmpac
set_option linter.unusedVariables false
open Go.ChangeShapes Go.WideShapes Go.ChangeAt Go.RowKit Go.Deep
def AllB (l : List Int) : Prop := ∀ x ∈ l, 0 ≤ x ∧ x ≤ 255
theorem str_get {l : List Int} (h : AllB l) (k : Nat) (hk : k < (strOfNums l).size) : ((((strOfNums l)[k]'hk).toNat : Nat) : Int) = l.getD k 0 := by
  have hl : k < l.length := by rw [strOfNums_size] at hk; exact hk
  have e : (strOfNums l)[k]'hk = UInt8.ofNat (l[k].toNat) := by
    show (strOfNums l).data[k]'hk = _
    simp [strOfNums]
  have hb := h l[k] (List.getElem_mem hl)
  rw [e]
  simp only [List.getD, List.getElem?_eq_getElem hl, Option.getD_some, UInt8.toNat_ofNat']
  omega
theorem any_at {l : List Int} {c : Int} {k : Nat} (hk : k < l.length) (he : l.getD k 0 = c) : isIn c l = true := by
  unfold isIn
  rw [List.any_eq_true]
  refine ⟨l[k], List.getElem_mem hk, ?_⟩
  simp only [List.getD, List.getElem?_eq_getElem hk, Option.getD_some] at he
  simp [he]
theorem any_no {l : List Int} {c : Int} (h : ∀ j, j < l.length → l.getD j 0 ≠ c) : isIn c l = false := by
  unfold isIn
  rw [Bool.eq_false_iff, ne_eq, List.any_eq_true]
  rintro ⟨x, hx, hc⟩
  obtain ⟨j, hj, rfl⟩ := List.getElem_of_mem hx
  have := h j hj
  simp only [List.getD, List.getElem?_eq_getElem hj, Option.getD_some] at this
  simp at hc
  exact this hc
set_option maxRecDepth 100000 in
set_option maxHeartbeats 4000000 in
theorem one_c (c : Int) (l : List Int) (w : World) (hc : 0 ≤ c ∧ c ≤ 255) (hl : AllB l) (hn : l.length ≤ 100) :
    Calls Try.prog 13 #[.int .u8 c, .string (strOfNums l)] w fun e w' => e = .returned (.bool (isIn c l)) ∧ w' = w := by
  have HA : Hid (∀ k, k < l.length → l.getD k 0 = c → isIn c l = true) := fun k hk he => any_at hk he
  have HN : Hid ((∀ j, j < l.length → l.getD j 0 ≠ c) → isIn c l = false) := fun h => any_no h
  obtain ⟨b, hb⟩ : ∃ b, b = isIn c l := ⟨_, rfl⟩
  rw [← hb] at HA HN ⊢
  clear hb
  obtain ⟨s, hs⟩ : ∃ s, s = strOfNums l := ⟨_, rfl⟩
  have hsz : s.size = l.length := by rw [hs]; exact strOfNums_size l
  have HG : Hid (∀ (k : Nat) (hk : k < s.size), (((s[k]'hk).toNat : Nat) : Int) = l.getD k 0) := by subst hs; exact fun k hk => str_get hl k hk
  rw [← hs]
  clear hs hl
  obtain ⟨n, hnn⟩ : ∃ n, n = l.length := ⟨_, rfl⟩
  rw [← hnn] at hsz hn HA HN
  clear hnn
  go_enter Try.func13, Try.ntmps13
  go_wp2
  go_loopw [5] (fun i wr => ∃ k : Nat, k ≤ n ∧ i = .int .i64 k ∧ Hid (∀ j, j < k → l.getD j 0 ≠ c) ∧ wr = w) (fun i _ => n - (intOf i).toNat)
  case atStart => exact ⟨0, Nat.zero_le _, rfl, (fun j hj => by omega), rfl⟩
  case round =>
    obtain ⟨k, hk, rfl, hno, hwr⟩ := hrel
    subst hwr
    by_cases hlt : k < n
    · have hlt2 : (k : Int) < (n : Int) := by omega
      have hks : k < s.size := by rw [hsz]; exact hlt
      have hg := HG.out k hks
      by_cases he : l.getD k 0 = c
      · have hbe : ((((s[k]'hks).toNat : Nat) : Int) == c) = true := by rw [hg, he]; simp
        have HB : Hid (b = true) := HA.out k hlt he
        clear hg he
        go_wp2
        go_ret
        exact ⟨by rw [HB.out]; rfl, rfl⟩
      · have hbe : ((((s[k]'hks).toNat : Nat) : Int) == c) = false := by rw [hg]; simpa using he
        have HN2 : Hid (∀ j, j < k + 1 → l.getD j 0 ≠ c) := fun j hj => by
          by_cases e : j = k
          · subst e; exact he
          · exact hno.out j (by omega)
        clear hg he
        go_wp2
        go_roundw
        all_goals first | exact ⟨k + 1, by omega, by go_num, HN2, trivial⟩ | (simp [intOf] <;> omega)
    · obtain rfl : k = n := by omega
      have hnl : ¬ (k : Int) < (k : Int) := by omega
      have HB : Hid (b = false) := HN.out hno.out
      go_wp2
      go_ret
      exact ⟨by rw [HB.out]; rfl, rfl⟩
end Go.Proofs.Ytechkhlibdkmpac
