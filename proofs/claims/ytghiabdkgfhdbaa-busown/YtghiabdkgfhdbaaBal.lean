/-
  Accesses at RAM's addresses, whether RAM has them or not; aligned; two stores that do not meet.
-/
import Derived.Test.YtghiabdkgfhdbaaBld
namespace Go.Proofs.Ytghiabdkgfhdbaa
set_option linter.unusedVariables false
open Go.ChangeShapes Go.WideShapes Go.ChangeAt Go.RowKit Go.Deep
def alg (a z : Int) : Bool := (z == 1 || z == 2 || z == 4 || z == 8) && a % z == 0
set_option maxRecDepth 100000 in
set_option maxHeartbeats 2000000 in
theorem aligned_c (a z : Int) (w : World) (ha : 0 ≤ a ∧ a ≤ 18446744073709551615) (hz : -9223372036854775808 ≤ z ∧ z ≤ 9223372036854775807) :
    Calls Try.prog 18 #[.int .u64 a, .int .i64 z] w fun e w' => e = .returned (.bool (alg a z)) ∧ w' = w := by
  obtain ⟨b, hb⟩ : ∃ b, b = alg a z := ⟨_, rfl⟩
  rw [← hb]
  have HE : Hid (b = ((z == 1 || z == 2 || z == 4 || z == 8) && a % z == 0)) := hb
  clear hb
  by_cases h1 : z = 1
  · subst h1
    have ht : a.tmod 1 = a % 1 := Int.tmod_eq_emod_of_nonneg ha.1
    have HX : Hid (b = (a % 1 == 0)) := by unfold Hid; rw [HE.out]; rfl
    clear HE
    go_enter Try.func18, Try.ntmps18
    go_wp2
    go_ret
    exact ⟨by rw [HX.out]; first | rfl | rw [ht]; rfl | simp, rfl⟩
  by_cases h2 : z = 2
  · subst h2
    have ht : a.tmod 2 = a % 2 := Int.tmod_eq_emod_of_nonneg ha.1
    have HX : Hid (b = (a % 2 == 0)) := by unfold Hid; rw [HE.out]; rfl
    clear HE
    go_enter Try.func18, Try.ntmps18
    go_wp2
    go_ret
    exact ⟨by rw [HX.out]; first | rfl | rw [ht]; rfl, rfl⟩
  by_cases h4 : z = 4
  · subst h4
    have ht : a.tmod 4 = a % 4 := Int.tmod_eq_emod_of_nonneg ha.1
    have HX : Hid (b = (a % 4 == 0)) := by unfold Hid; rw [HE.out]; rfl
    clear HE
    go_enter Try.func18, Try.ntmps18
    go_wp2
    go_ret
    exact ⟨by rw [HX.out]; first | rfl | rw [ht]; rfl, rfl⟩
  by_cases h8 : z = 8
  · subst h8
    have ht : a.tmod 8 = a % 8 := Int.tmod_eq_emod_of_nonneg ha.1
    have HX : Hid (b = (a % 8 == 0)) := by unfold Hid; rw [HE.out]; rfl
    clear HE
    go_enter Try.func18, Try.ntmps18
    go_wp2
    go_ret
    exact ⟨by rw [HX.out]; first | rfl | rw [ht]; rfl, rfl⟩
  have e1 : (z == 1) = false := by simpa using h1
  have e2 : (z == 2) = false := by simpa using h2
  have e4 : (z == 4) = false := by simpa using h4
  have e8 : (z == 8) = false := by simpa using h8
  have HX : Hid (b = false) := by unfold Hid; rw [HE.out, e1, e2, e4, e8]; rfl
  clear HE h1 h2 h4 h8
  go_enter Try.func18, Try.ntmps18
  go_wp2
  go_ret
  exact ⟨by rw [HX.out]; rfl, rfl⟩
theorem hasC_high {base a z : Int} (hb : base < 2000000000) (h : 2147483648 ≤ a) : hasC base a z = false := by
  have e1 : (a == base) = false := by simp; omega
  have e2 : (a == base + 4) = false := by simp; omega
  unfold hasC
  rw [e1, e2]
  split
  · rfl
  · split <;> rfl
/-- At RAM's addresses there is RAM or nothing. -/
theorem fnd_ram {n : Nat} {a z : Int} (h : 2147483648 ≤ a) : fnd n a z = if hasM n a z then 0 else 6 := by
  unfold fnd
  have hu : hasU a z = false := by simp [hasU]; omega
  have hc : hasC 33603576 a z = false := hasC_high (by decide) h
  have hk : hasC 33570816 a z = false := hasC_high (by decide) h
  have hs : hasS a z = false := by simp [hasS]; omega
  have hf : hasF a z = false := by simp [hasF]; omega
  simp [hu, hc, hk, hs, hf]
theorem hasM_at {n k : Nat} {z : Int} (h : hasM n (2147483648 + (k : Int)) z = true) : ∃ s : Nat, z = s ∧ k + s ≤ n ∧ 0 < s ∧ s ≤ 8 := by
  obtain ⟨k', s, h1, h2, h3, h4, h5⟩ := hasM_nat h
  exact ⟨s, h2, by omega, h4, h5⟩
/-- What a law's own words say of an access: RAM has it. -/
theorem hasM_fits {n k : Nat} {z : Int} (hk : k < n) (hn : n ≤ 65536) : hasM n (2147483648 + (k : Int)) z = (alg (2147483648 + (k : Int)) z && decide ((k : Int) + z ≤ n)) := by
  unfold hasM alg hld
  by_cases hz : z = 1 ∨ z = 2 ∨ z = 4 ∨ z = 8
  · rw [Bool.eq_iff_iff]
    simp only [Bool.and_eq_true, Bool.or_eq_true, beq_iff_eq, decide_eq_true_eq]
    constructor
    · rintro ⟨h1, h2, _⟩
      exact ⟨⟨h1, h2⟩, by omega⟩
    · rintro ⟨⟨h1, h2⟩, h3⟩
      exact ⟨h1, h2, by omega⟩
  · have e : (z == 1 || z == 2 || z == 4 || z == 8) = false := by simp; omega
    rw [e]
    rfl
/-- A state behind a store at RAM's k-th address. -/
def St.sto (S : St) (k : Nat) (z : Int) (N : Nat) : St := if hasM S.ram.length (2147483648 + (k : Int)) z then S.put k z.toNat N else S
def St.lod (S : St) (k : Nat) (z : Int) : Int := if hasM S.ram.length (2147483648 + (k : Int)) z then ((tk ((S.ram.drop k).take z.toNat) : Nat) : Int) else 0
theorem St.sto_len (S : St) (k : Nat) (z : Int) (N : Nat) : (S.sto k z N).ram.length = S.ram.length := by
  unfold St.sto
  split
  · rename_i h
    obtain ⟨s, rfl, h1, _, _⟩ := hasM_at h
    exact length_splice _ _ _ (by rw [ptL_length]; simpa using h1)
  · rfl
theorem St.sto_inp (S : St) (k : Nat) (z : Int) (N : Nat) : (S.sto k z N).inp = S.inp := by unfold St.sto; split <;> rfl
theorem St.sto_out (S : St) (k : Nat) (z : Int) (N : Nat) : (S.sto k z N).out = S.out := by unfold St.sto; split <;> rfl
theorem allB_splice {l cs : List Int} (k : Nat) (h : AllB l) (hc : AllB cs) : AllB (splice l k cs) := by
  intro x hx
  simp only [splice, List.mem_append] at hx
  rcases hx with hx | hx | hx
  · exact h x (List.mem_of_mem_take hx)
  · exact hc x hx
  · exact h x (List.mem_of_mem_drop hx)
theorem St.sto_all (S : St) (k : Nat) (z : Int) (N : Nat) (h : AllB S.ram) : AllB (S.sto k z N).ram := by
  unfold St.sto
  split
  · exact allB_splice k h (ptL_all _ _)
  · exact h
theorem take_splice {α : Type} (l cs : List α) (k : Nat) (h : k + cs.length ≤ l.length) : ((splice l k cs).drop k).take cs.length = cs := by
  unfold splice
  rw [List.drop_append_of_le_length (by simp; omega)]
  have e : (l.take k).drop k = [] := by simp
  rw [e, List.nil_append, List.take_left]
theorem St.lod_sto (S : St) (k : Nat) (z : Int) (N : Nat) : (S.sto k z N).lod k z = if hasM S.ram.length (2147483648 + (k : Int)) z then ((N % 256 ^ z.toNat : Nat) : Int) else 0 := by
  have hl := S.sto_len k z N
  unfold St.lod
  rw [hl]
  split
  · rename_i h
    obtain ⟨s, rfl, h1, h2, h3⟩ := hasM_at h
    have e : (S.sto k s N).ram = splice S.ram k (ptL N s) := by unfold St.sto; rw [if_pos h]; simp [St.put]
    have hp : k + (ptL N s).length ≤ S.ram.length := by rw [ptL_length]; exact h1
    have e2 := take_splice S.ram (ptL N s) k hp
    rw [ptL_length] at e2
    rw [e, Int.toNat_natCast, e2, tk, ptL_length, Nat.min_eq_left h3, tkN_pt N s s (Nat.le_refl _)]
  · rfl
theorem splice_get {α : Type} (l cs : List α) (k : Nat) (h : k + cs.length ≤ l.length) (j : Nat) : (splice l k cs)[j]? = if k ≤ j ∧ j < k + cs.length then cs[j - k]? else l[j]? := by
  unfold splice
  by_cases h1 : j < k
  · rw [if_neg (by omega), List.getElem?_append_left (by simp; omega), List.getElem?_take_of_lt h1]
  · rw [List.getElem?_append_right (by simp; omega)]
    have e : (l.take k).length = k := by simp; omega
    rw [e]
    by_cases h2 : j < k + cs.length
    · rw [if_pos ⟨by omega, h2⟩, List.getElem?_append_left (by omega)]
    · rw [if_neg (by omega), List.getElem?_append_right (by omega), List.getElem?_drop]
      congr 1
      omega
theorem splice_comm {α : Type} (l c d : List α) (k m : Nat) (hk : k + c.length ≤ l.length) (hm : m + d.length ≤ l.length) (h : k + c.length ≤ m ∨ m + d.length ≤ k) : splice (splice l k c) m d = splice (splice l m d) k c := by
  apply List.ext_getElem?
  intro j
  rw [splice_get _ _ _ (by rw [length_splice _ _ _ hk]; exact hm), splice_get _ _ _ hk, splice_get _ _ _ (by rw [length_splice _ _ _ hm]; exact hk), splice_get _ _ _ hm]
  by_cases h1 : m ≤ j ∧ j < m + d.length
  · rw [if_pos h1, if_neg (by omega), if_pos h1]
  · rw [if_neg h1, if_neg h1]
/-- Two stores whose bytes do not meet may change places. -/
theorem St.sto_comm (S : St) (k m : Nat) (z y : Int) (N M : Nat) (h : hasM S.ram.length (2147483648 + (k : Int)) z = true → hasM S.ram.length (2147483648 + (m : Int)) y = true → (k : Int) + z ≤ m ∨ (m : Int) + y ≤ k) :
    (S.sto k z N).sto m y M = (S.sto m y M).sto k z N := by
  have l1 := S.sto_len k z N
  have l2 := S.sto_len m y M
  unfold St.sto at l1 l2 ⊢
  rw [l1, l2]
  cases h1 : hasM S.ram.length (2147483648 + (k : Int)) z with
  | false => simp
  | true =>
    cases h2 : hasM S.ram.length (2147483648 + (m : Int)) y with
    | false => simp
    | true =>
      obtain ⟨s, rfl, p1, p2, p3⟩ := hasM_at h1
      obtain ⟨t, rfl, q1, q2, q3⟩ := hasM_at h2
      have ha := h h1 h2
      simp only [if_true, St.put, Int.toNat_natCast]
      rw [splice_comm S.ram (ptL N s) (ptL M t) k m (by rw [ptL_length]; exact p1) (by rw [ptL_length]; exact q1) (by rw [ptL_length, ptL_length]; omega)]
theorem store_any {B : Nat} {L : Lay} {S : St} (x : BitVec 64) (w : World) (h : PB B L S w) (hn : S.ram.length ≤ 65536) (k : Nat) (z : Int) (hk : k ≤ 200000) (hz : -9223372036854775808 ≤ z ∧ z ≤ 9223372036854775807) :
    Calls Try.prog 19 #[.pointer (some ⟨L.b, 0, none⟩), .int .u64 (2147483648 + (k : Int)), .int .i64 z, .int .u64 (n64 x)] w fun e w' => e = .returned (.bool (hasM S.ram.length (2147483648 + (k : Int)) z)) ∧ PB B L (S.sto k z x.toNat) w' ∧ Exc L.own w w' := by
  have hf := fnd_ram (n := S.ram.length) (a := 2147483648 + (k : Int)) (z := z) (by omega)
  unfold St.sto
  cases h1 : hasM S.ram.length (2147483648 + (k : Int)) z with
  | false =>
    rw [h1] at hf
    refine (store_none w h hn _ z (n64 x) (by omega) hz hf).mono ?_
    rintro e w' ⟨rfl, hb⟩
    exact ⟨rfl, h.later hb, Exc.of_below hb rfl⟩
  | true =>
    rw [h1] at hf
    obtain ⟨s, rfl, p1, p2, p3⟩ := hasM_at h1
    exact store_ram x w h hn k s p1 p2 p3 hf
theorem load_any {B : Nat} {L : Lay} {S : St} (w : World) (h : PB B L S w) (hr : AllB S.ram) (hn : S.ram.length ≤ 65536) (k : Nat) (z : Int) (hk : k ≤ 200000) (hz : -9223372036854775808 ≤ z ∧ z ≤ 9223372036854775807) :
    Calls Try.prog 17 #[.pointer (some ⟨L.b, 0, none⟩), .int .u64 (2147483648 + (k : Int)), .int .i64 z] w fun e w' => e = .returned (.tuple #[.int .u64 (S.lod k z), .bool (hasM S.ram.length (2147483648 + (k : Int)) z)]) ∧ Below w.heap.size w w' := by
  have hf := fnd_ram (n := S.ram.length) (a := 2147483648 + (k : Int)) (z := z) (by omega)
  unfold St.lod
  cases h1 : hasM S.ram.length (2147483648 + (k : Int)) z with
  | false =>
    rw [h1] at hf
    exact load_none w h hn _ z (by omega) hz hf
  | true =>
    rw [h1] at hf
    obtain ⟨s, rfl, p1, p2, p3⟩ := hasM_at h1
    exact load_ram w h hr hn k s p1 p2 p3 hf
end Go.Proofs.Ytghiabdkgfhdbaa
