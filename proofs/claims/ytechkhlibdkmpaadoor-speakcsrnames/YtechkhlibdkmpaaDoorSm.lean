/-
  CsrOf of the reference.
-/
import Derived.Test.YtechkhlibdkmpaaDoorSh
import Derived.Test.YtechkhlibdkmpaaDoorSk
import Derived.Test.YtechkhlibdkmpaaDoorSl
namespace Go.Proofs.YtechkhlibdkmpaaDoor
set_option linter.unusedVariables false
open Go.ChangeShapes Go.WideShapes Go.ChangeAt Go.RowKit Go.Deep Go.Shelf
/-- All CSRs that have names, with them. -/
def TK : List (Nat × List UInt8) := [(768, [109, 115, 116, 97, 116, 117, 115]), (769, [109, 105, 115, 97]), (772, [109, 105, 101]), (773, [109, 116, 118, 101, 99]), (774, [109, 99, 111, 117, 110, 116, 101, 114, 101, 110]), (778, [109, 101, 110, 118, 99, 102, 103]), (800, [109, 99, 111, 117, 110, 116, 105, 110, 104, 105, 98, 105, 116]), (832, [109, 115, 99, 114, 97, 116, 99, 104]), (833, [109, 101, 112, 99]), (834, [109, 99, 97, 117, 115, 101]), (835, [109, 116, 118, 97, 108]), (836, [109, 105, 112]), (928, [112, 109, 112, 99, 102, 103, 48]), (930, [112, 109, 112, 99, 102, 103, 50]), (2816, [109, 99, 121, 99, 108, 101]), (2818, [109, 105, 110, 115, 116, 114, 101, 116]), (3072, [99, 121, 99, 108, 101]), (3073, [116, 105, 109, 101]), (3074, [105, 110, 115, 116, 114, 101, 116]), (3857, [109, 118, 101, 110, 100, 111, 114, 105, 100]), (3858, [109, 97, 114, 99, 104, 105, 100]), (3859, [109, 105, 109, 112, 105, 100]), (3860, [109, 104, 97, 114, 116, 105, 100]), (3861, [109, 99, 111, 110, 102, 105, 103, 112, 116, 114]), (803, [109, 104, 112, 109, 101, 118, 101, 110, 116, 51]), (804, [109, 104, 112, 109, 101, 118, 101, 110, 116, 52]), (805, [109, 104, 112, 109, 101, 118, 101, 110, 116, 53]), (806, [109, 104, 112, 109, 101, 118, 101, 110, 116, 54]), (807, [109, 104, 112, 109, 101, 118, 101, 110, 116, 55]), (808, [109, 104, 112, 109, 101, 118, 101, 110, 116, 56]), (809, [109, 104, 112, 109, 101, 118, 101, 110, 116, 57]), (810, [109, 104, 112, 109, 101, 118, 101, 110, 116, 49, 48]), (811, [109, 104, 112, 109, 101, 118, 101, 110, 116, 49, 49]), (812, [109, 104, 112, 109, 101, 118, 101, 110, 116, 49, 50]), (813, [109, 104, 112, 109, 101, 118, 101, 110, 116, 49, 51]), (814, [109, 104, 112, 109, 101, 118, 101, 110, 116, 49, 52]), (815, [109, 104, 112, 109, 101, 118, 101, 110, 116, 49, 53]), (816, [109, 104, 112, 109, 101, 118, 101, 110, 116, 49, 54]), (817, [109, 104, 112, 109, 101, 118, 101, 110, 116, 49, 55]), (818, [109, 104, 112, 109, 101, 118, 101, 110, 116, 49, 56]), (819, [109, 104, 112, 109, 101, 118, 101, 110, 116, 49, 57]), (820, [109, 104, 112, 109, 101, 118, 101, 110, 116, 50, 48]), (821, [109, 104, 112, 109, 101, 118, 101, 110, 116, 50, 49]), (822, [109, 104, 112, 109, 101, 118, 101, 110, 116, 50, 50]), (823, [109, 104, 112, 109, 101, 118, 101, 110, 116, 50, 51]), (824, [109, 104, 112, 109, 101, 118, 101, 110, 116, 50, 52]), (825, [109, 104, 112, 109, 101, 118, 101, 110, 116, 50, 53]), (826, [109, 104, 112, 109, 101, 118, 101, 110, 116, 50, 54]), (827, [109, 104, 112, 109, 101, 118, 101, 110, 116, 50, 55]), (828, [109, 104, 112, 109, 101, 118, 101, 110, 116, 50, 56]), (829, [109, 104, 112, 109, 101, 118, 101, 110, 116, 50, 57]), (830, [109, 104, 112, 109, 101, 118, 101, 110, 116, 51, 48]), (831, [109, 104, 112, 109, 101, 118, 101, 110, 116, 51, 49]), (944, [112, 109, 112, 97, 100, 100, 114, 48]), (945, [112, 109, 112, 97, 100, 100, 114, 49]), (946, [112, 109, 112, 97, 100, 100, 114, 50]), (947, [112, 109, 112, 97, 100, 100, 114, 51]), (948, [112, 109, 112, 97, 100, 100, 114, 52]), (949, [112, 109, 112, 97, 100, 100, 114, 53]), (950, [112, 109, 112, 97, 100, 100, 114, 54]), (951, [112, 109, 112, 97, 100, 100, 114, 55]), (952, [112, 109, 112, 97, 100, 100, 114, 56]), (953, [112, 109, 112, 97, 100, 100, 114, 57]), (954, [112, 109, 112, 97, 100, 100, 114, 49, 48]), (955, [112, 109, 112, 97, 100, 100, 114, 49, 49]), (956, [112, 109, 112, 97, 100, 100, 114, 49, 50]), (957, [112, 109, 112, 97, 100, 100, 114, 49, 51]), (958, [112, 109, 112, 97, 100, 100, 114, 49, 52]), (959, [112, 109, 112, 97, 100, 100, 114, 49, 53]), (2819, [109, 104, 112, 109, 99, 111, 117, 110, 116, 101, 114, 51]), (2820, [109, 104, 112, 109, 99, 111, 117, 110, 116, 101, 114, 52]), (2821, [109, 104, 112, 109, 99, 111, 117, 110, 116, 101, 114, 53]), (2822, [109, 104, 112, 109, 99, 111, 117, 110, 116, 101, 114, 54]), (2823, [109, 104, 112, 109, 99, 111, 117, 110, 116, 101, 114, 55]), (2824, [109, 104, 112, 109, 99, 111, 117, 110, 116, 101, 114, 56]), (2825, [109, 104, 112, 109, 99, 111, 117, 110, 116, 101, 114, 57]), (2826, [109, 104, 112, 109, 99, 111, 117, 110, 116, 101, 114, 49, 48]), (2827, [109, 104, 112, 109, 99, 111, 117, 110, 116, 101, 114, 49, 49]), (2828, [109, 104, 112, 109, 99, 111, 117, 110, 116, 101, 114, 49, 50]), (2829, [109, 104, 112, 109, 99, 111, 117, 110, 116, 101, 114, 49, 51]), (2830, [109, 104, 112, 109, 99, 111, 117, 110, 116, 101, 114, 49, 52]), (2831, [109, 104, 112, 109, 99, 111, 117, 110, 116, 101, 114, 49, 53]), (2832, [109, 104, 112, 109, 99, 111, 117, 110, 116, 101, 114, 49, 54]), (2833, [109, 104, 112, 109, 99, 111, 117, 110, 116, 101, 114, 49, 55]), (2834, [109, 104, 112, 109, 99, 111, 117, 110, 116, 101, 114, 49, 56]), (2835, [109, 104, 112, 109, 99, 111, 117, 110, 116, 101, 114, 49, 57]), (2836, [109, 104, 112, 109, 99, 111, 117, 110, 116, 101, 114, 50, 48]), (2837, [109, 104, 112, 109, 99, 111, 117, 110, 116, 101, 114, 50, 49]), (2838, [109, 104, 112, 109, 99, 111, 117, 110, 116, 101, 114, 50, 50]), (2839, [109, 104, 112, 109, 99, 111, 117, 110, 116, 101, 114, 50, 51]), (2840, [109, 104, 112, 109, 99, 111, 117, 110, 116, 101, 114, 50, 52]), (2841, [109, 104, 112, 109, 99, 111, 117, 110, 116, 101, 114, 50, 53]), (2842, [109, 104, 112, 109, 99, 111, 117, 110, 116, 101, 114, 50, 54]), (2843, [109, 104, 112, 109, 99, 111, 117, 110, 116, 101, 114, 50, 55]), (2844, [109, 104, 112, 109, 99, 111, 117, 110, 116, 101, 114, 50, 56]), (2845, [109, 104, 112, 109, 99, 111, 117, 110, 116, 101, 114, 50, 57]), (2846, [109, 104, 112, 109, 99, 111, 117, 110, 116, 101, 114, 51, 48]), (2847, [109, 104, 112, 109, 99, 111, 117, 110, 116, 101, 114, 51, 49]), (3075, [104, 112, 109, 99, 111, 117, 110, 116, 101, 114, 51]), (3076, [104, 112, 109, 99, 111, 117, 110, 116, 101, 114, 52]), (3077, [104, 112, 109, 99, 111, 117, 110, 116, 101, 114, 53]), (3078, [104, 112, 109, 99, 111, 117, 110, 116, 101, 114, 54]), (3079, [104, 112, 109, 99, 111, 117, 110, 116, 101, 114, 55]), (3080, [104, 112, 109, 99, 111, 117, 110, 116, 101, 114, 56]), (3081, [104, 112, 109, 99, 111, 117, 110, 116, 101, 114, 57]), (3082, [104, 112, 109, 99, 111, 117, 110, 116, 101, 114, 49, 48]), (3083, [104, 112, 109, 99, 111, 117, 110, 116, 101, 114, 49, 49]), (3084, [104, 112, 109, 99, 111, 117, 110, 116, 101, 114, 49, 50]), (3085, [104, 112, 109, 99, 111, 117, 110, 116, 101, 114, 49, 51]), (3086, [104, 112, 109, 99, 111, 117, 110, 116, 101, 114, 49, 52]), (3087, [104, 112, 109, 99, 111, 117, 110, 116, 101, 114, 49, 53]), (3088, [104, 112, 109, 99, 111, 117, 110, 116, 101, 114, 49, 54]), (3089, [104, 112, 109, 99, 111, 117, 110, 116, 101, 114, 49, 55]), (3090, [104, 112, 109, 99, 111, 117, 110, 116, 101, 114, 49, 56]), (3091, [104, 112, 109, 99, 111, 117, 110, 116, 101, 114, 49, 57]), (3092, [104, 112, 109, 99, 111, 117, 110, 116, 101, 114, 50, 48]), (3093, [104, 112, 109, 99, 111, 117, 110, 116, 101, 114, 50, 49]), (3094, [104, 112, 109, 99, 111, 117, 110, 116, 101, 114, 50, 50]), (3095, [104, 112, 109, 99, 111, 117, 110, 116, 101, 114, 50, 51]), (3096, [104, 112, 109, 99, 111, 117, 110, 116, 101, 114, 50, 52]), (3097, [104, 112, 109, 99, 111, 117, 110, 116, 101, 114, 50, 53]), (3098, [104, 112, 109, 99, 111, 117, 110, 116, 101, 114, 50, 54]), (3099, [104, 112, 109, 99, 111, 117, 110, 116, 101, 114, 50, 55]), (3100, [104, 112, 109, 99, 111, 117, 110, 116, 101, 114, 50, 56]), (3101, [104, 112, 109, 99, 111, 117, 110, 116, 101, 114, 50, 57]), (3102, [104, 112, 109, 99, 111, 117, 110, 116, 101, 114, 51, 48]), (3103, [104, 112, 109, 99, 111, 117, 110, 116, 101, 114, 51, 49])]
def dl (k : Nat) : List UInt8 := if k < 10 then [UInt8.ofNat (48 + k)] else [UInt8.ofNat (48 + k / 10), UInt8.ofNat (48 + k % 10)]
theorem dec_dl (k : Nat) (h : k < 100) : (decS k).toList = dl k := by
  unfold dl
  split
  · rename_i h1
    rw [decS_small k h1, ByteArray.toList_eq]
  · rename_i h1
    rw [decS_big k h1, decS_small (k / 10) (by omega), ByteArray.toList_eq]
    rfl
def keyD (n : Nat) : Option (List UInt8) := match nmP n with | some l => some l | none => match ctP n with | some (l, k) => some (l ++ dl k) | none => none
theorem ctP_small (n : Nat) (l : List UInt8) (k : Nat) (h : ctP n = some (l, k)) : k < 100 := by
  unfold ctP at h
  simp only [Option.map_eq_some_iff, Prod.mk.injEq] at h
  obtain ⟨c, hc, _, h2⟩ := h
  have hm := List.mem_of_find?_eq_some hc
  have hp := List.find?_some hc
  unfold ctH at hp
  simp only [Bool.and_eq_true, decide_eq_true_eq] at hp
  have := List.all_eq_true.1 ctT_ok c hm
  simp only [Bool.and_eq_true, decide_eq_true_eq] at this
  omega
theorem key_eq (n : Nat) : keyL n = keyD n := by
  unfold keyL keyD
  cases nmP n with
  | some l => rfl
  | none =>
    cases hc : ctP n with
    | none => rfl
    | some p =>
      obtain ⟨l, k⟩ := p
      show some (l ++ (decS k).toList) = some (l ++ dl k)
      rw [dec_dl k (ctP_small n l k hc)]
set_option maxRecDepth 1000000 in
theorem tk_all : ((List.range 4096).all fun n => keyD n == (TK.find? fun p => p.1 == n).map (·.2)) = true := by decide +kernel
set_option maxRecDepth 1000000 in
theorem tk_one : (TK.all fun p => (TK.find? fun q => q.2 == p.2).map (·.1) == some p.1) = true := by decide +kernel
set_option maxRecDepth 1000000 in
theorem tk_num : (TK.all fun p => !(Lib.hasPrefix p.2 [48, 120]) && (val 10 p.2 0).isNone) = true := by decide +kernel
theorem key_mem {n : Nat} {l : List UInt8} (hn : n < 4096) (h : keyL n = some l) : (n, l) ∈ TK := by
  have := List.all_eq_true.1 tk_all n (by simpa using hn)
  rw [beq_iff_eq] at this
  rw [key_eq, this, Option.map_eq_some_iff] at h
  obtain ⟨p, hp, he⟩ := h
  have hm := List.mem_of_find?_eq_some hp
  have h1 := List.find?_some hp
  simp only [beq_iff_eq] at h1
  obtain ⟨a, b⟩ := p
  simp only at h1 he
  rw [← h1, ← he]
  exact hm
theorem key_uniq {n m : Nat} {l : List UInt8} (hn : n < 4096) (hm : m < 4096) (h1 : keyL n = some l) (h2 : keyL m = some l) : n = m := by
  have a := List.all_eq_true.1 tk_one _ (key_mem hn h1)
  have b := List.all_eq_true.1 tk_one _ (key_mem hm h2)
  rw [beq_iff_eq] at a b
  exact Option.some.inj (a.symm.trans b)
theorem key_count {n : Nat} {l : List UInt8} (hn : n < 4096) (h : keyL n = some l) : countV l = .tuple #[.int .u64 0, .bool false] := by
  have a := List.all_eq_true.1 tk_num _ (key_mem hn h)
  simp only [Bool.and_eq_true, Bool.not_eq_true', Option.isNone_iff_eq_none] at a
  unfold countV
  rw [if_neg (by rw [a.1]; simp)]
  unfold whV
  rw [a.2]
def ownB (n : Nat) : Bool := (ctR n).isSome || (nrT.any fun c => c.1 == n)
theorem own_key (n : Nat) (hn : n < 4096) : (ownB n = true → keyL n = some (csrS n).toList) ∧ (ownB n = false → keyL n = none) := by
  obtain ⟨e1, e2⟩ := agree_at n hn
  have hany : (nrT.any fun c => c.1 == n) = (nmR n).isSome := by
    unfold nmR
    rw [Option.isSome_map]
    cases h : nrT.find? fun c => c.1 == n with
    | none => rw [List.find?_eq_none] at h; rw [Option.isSome_none, List.any_eq_false]; exact h
    | some p => rw [Option.isSome_some, List.any_eq_true]; exact ⟨p, List.mem_of_find?_eq_some h, List.find?_some (p := fun c : Nat × List UInt8 => c.1 == n) h⟩
  unfold ownB keyL csrS
  rw [hany, e1, e2]
  cases nmR n with
  | some l => exact ⟨fun _ => by rw [bs_toList], fun h => by simp at h⟩
  | none =>
    cases ctR n with
    | some p =>
      obtain ⟨l, k⟩ := p
      exact ⟨fun _ => by rw [app_toList, bs_toList], fun h => by simp at h⟩
    | none => exact ⟨fun h => by simp at h, fun _ => rfl⟩
theorem pre_two (s : ByteArray) : Lib.hasPrefix s.toList [48, 120] = true ↔ (2 ≤ s.size ∧ (s.get! 0).toNat = 48 ∧ (s.get! 1).toNat = 120) := by
  by_cases h : 2 ≤ s.size
  · have e0 := drop_get s 0 (by omega)
    have e1 := drop_get s 1 (by omega)
    rw [List.drop_zero] at e0
    rw [e0, e1]
    unfold Lib.hasPrefix
    simp only [List.isPrefixOf, Bool.and_eq_true, beq_iff_eq, Bool.and_true]
    constructor
    · intro hh
      exact ⟨h, by rw [← hh.1]; rfl, by rw [← hh.2]; rfl⟩
    · intro hh
      exact ⟨(UInt8.toNat_inj.1 hh.2.1).symm, (UInt8.toNat_inj.1 hh.2.2).symm⟩
  · constructor
    · intro hh
      have := List.IsPrefix.length_le (List.isPrefixOf_iff_prefix.1 (show List.isPrefixOf [48, 120] s.toList = true from hh))
      rw [toList_len] at this
      exact absurd this h
    · intro hh
      exact absurd hh.1 h
/-- Number of a text without a sign. -/
theorem number_p (s : ByteArray) (hsz : s.size ≤ 140737488355328) (hm : ¬ (0 < s.size ∧ (s.get! 0).toNat = 45)) (w : World) : Calls Tryd.prog 25 #[.string s] w fun e w' => e = .returned (countV s.toList) ∧ Below w.heap.size w w' := by
  by_cases h0 : s.size = 0
  · have e : countV s.toList = whV 10 s.toList := if_neg (by rw [pre_two]; omega)
    rw [e]
    exact num_p0 s w hsz h0
  · have hm2 : ¬ (s.get! 0).toNat = 45 := fun h => hm ⟨by omega, h⟩
    by_cases h2 : 2 ≤ s.size
    · by_cases a0 : (s.get! 0).toNat = 48
      · by_cases a1 : (s.get! 1).toNat = 120
        · have e : countV s.toList = whV 16 (s.extract 2 s.size).toList := by
            rw [ext_drop]
            exact if_pos ((pre_two s).2 ⟨h2, a0, a1⟩)
          rw [e]
          by_cases h3 : s.size = 2
          · exact num_p4e s w hsz (by omega) hm2 h2 a0 a1 h3
          · exact num_p4 s w hsz (by omega) hm2 h2 a0 a1 (by omega)
        · have e : countV s.toList = whV 10 s.toList := if_neg (by rw [pre_two]; exact fun h => a1 h.2.2)
          rw [e]
          exact num_p3 s w hsz (by omega) hm2 h2 a0 a1
      · have e : countV s.toList = whV 10 s.toList := if_neg (by rw [pre_two]; exact fun h => a0 h.2.1)
        rw [e]
        exact num_p2 s w hsz (by omega) hm2 h2 a0
    · have e : countV s.toList = whV 10 s.toList := if_neg (by rw [pre_two]; omega)
      rw [e]
      exact num_p1 s w hsz (by omega) hm2 (by omega)
theorem number_m (s : ByteArray) (hsz : s.size ≤ 140737488355328) (h0 : 0 < s.size) (hm : (s.get! 0).toNat = 45) (w : World) : Calls Tryd.prog 25 #[.string s] w fun e w' => NumAns e ∧ Below w.heap.size w w' := by
  have ez := ext_size s 1
  by_cases h1 : s.size = 1
  · exact num_m0 s w hsz h0 hm h1
  · by_cases h2 : 2 ≤ (s.extract 1 s.size).size
    · by_cases a0 : ((s.extract 1 s.size).get! 0).toNat = 48
      · by_cases a1 : ((s.extract 1 s.size).get! 1).toNat = 120
        · by_cases h3 : (s.extract 1 s.size).size = 2
          · exact num_m4e s w hsz h0 hm h2 a0 a1 h3
          · exact num_m4 s w hsz h0 hm h2 a0 a1 (by omega)
        · exact num_m3 s w hsz h0 hm h2 a0 a1
      · exact num_m2 s w hsz h0 hm h2 a0
    · exact num_m1 s w hsz h0 hm (by omega)
theorem count_minus (s : ByteArray) (h0 : 0 < s.size) (hm : (s.get! 0).toNat = 45) : countV s.toList = .tuple #[.int .u64 0, .bool false] := by
  have hp : ¬ Lib.hasPrefix s.toList [48, 120] = true := by rw [pre_two]; omega
  unfold countV
  rw [if_neg hp]
  have e0 := drop_get s 0 h0
  rw [List.drop_zero] at e0
  unfold whV
  rw [e0]
  unfold val
  rw [hm]
  rfl
/-- The number's part of the answer. -/
def numE (s : ByteArray) (e : Ending) : Prop := ∃ (v : Nat) (b : Bool), countV s.toList = .tuple #[.int .u64 v, .bool b] ∧ ((b = true ∧ v < 4096 ∧ e = .returned (.tuple #[.int .i64 v, .bool true])) ∨ (¬ (b = true ∧ v < 4096) ∧ e = .returned (.tuple #[.int .i64 0, .bool false])))
end Go.Proofs.YtechkhlibdkmpaaDoor
