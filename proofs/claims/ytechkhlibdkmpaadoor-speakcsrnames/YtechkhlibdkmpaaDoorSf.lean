/-
  Hex of the program; a counted CSR's name; the tables of CSRs.
-/
import Derived.Test.YtechkhlibdkmpaaDoorSe
import Derived.Deep.RegionHeld3
namespace Go.Proofs.YtechkhlibdkmpaaDoor
set_option linter.unusedVariables false
open Go.ChangeShapes Go.WideShapes Go.ChangeAt Go.RowKit Go.Deep Go.Shelf
theorem ifmt_c (v : Nat) (hv : v < 4096) (w : World) (hT : Tz w) : Calls Tryd.prog 32 #[.int .u64 v, .int .i64 16] w fun e w' => e = .returned (.string (hx v)) ∧ Below w.heap.size w w' := by
  have H : Hid (Calls Tryd.prog 38 #[.slice none 0 0, .int .u64 v, .int .i64 16, .bool false, .bool false] w fun e w' => e = .returned (.tuple #[.slice none 0 0, .string (hx v)]) ∧ Below w.heap.size w w') := fbits_c v hv w hT
  generalize hx v = s at H
  clear hT
  go_enter Tryd.func32, Tryd.ntmps32
  go_wp2_with (first | (go_at_call 38; refine H.out.mono ?_; rintro e w1 ⟨rfl, hb⟩; have HB : Hid (Below w.heap.size w w1) := hb; clear hb))
  go_ret
  exact ⟨rfl, HB.out⟩
theorem fmt_c (v : Nat) (hv : v < 4096) (w : World) (hT : Tz w) : Calls Tryd.prog 27 #[.int .u64 v, .int .i64 16] w fun e w' => e = .returned (.string (hx v)) ∧ Below w.heap.size w w' := by
  have H : Hid (Calls Tryd.prog 32 #[.int .u64 v, .int .i64 16] w fun e w' => e = .returned (.string (hx v)) ∧ Below w.heap.size w w') := ifmt_c v hv w hT
  generalize hx v = s at H
  clear hT
  go_enter Tryd.func27, Tryd.ntmps27
  go_wp2_with (first | (go_at_call 32; refine H.out.mono ?_; rintro e w1 ⟨rfl, hb⟩; have HB : Hid (Below w.heap.size w w1) := hb; clear hb))
  go_ret
  exact ⟨rfl, HB.out⟩
theorem phex_c (v : Nat) (hv : v < 4096) (w : World) (hT : Tz w) : Calls Tryd.prog 21 #[.int .u64 v] w fun e w' => e = .returned (.string (⟨#[48, 120]⟩ ++ hx v)) ∧ Below w.heap.size w w' := by
  have H : Hid (Calls Tryd.prog 27 #[.int .u64 v, .int .i64 16] w fun e w' => e = .returned (.string (hx v)) ∧ Below w.heap.size w w') := fmt_c v hv w hT
  have hsz : ¬ (9223372036854775807 < 2 + (hx v).size) := by have := hx_size v; omega
  generalize hx v = s at H hsz
  clear hT
  go_enter Tryd.func21, Tryd.ntmps21
  go_wp2_with (first | (go_at_call 27; refine H.out.mono ?_; rintro e w1 ⟨rfl, hb⟩; have HB : Hid (Below w.heap.size w w1) := hb; clear hb))
  go_ret
  exact ⟨rfl, HB.out⟩
theorem decS_size2 (n : Nat) (h : n < 100) : (decS n).size ≤ 2 := by
  by_cases hs : n < 10
  · rw [decS_small n hs]; show 1 ≤ 2; omega
  · rw [decS_big n hs, decS_small (n / 10) (by omega)]; show 2 ≤ 2; omega
set_option maxRecDepth 100000 in
set_option maxHeartbeats 2000000 in
theorem name_c (a b c : Int) (s : ByteArray) (n : Nat) (hn : n < 100) (hs : s.size ≤ 100) (w : World) : Calls Tryd.prog 20 #[.agg #[.int .i64 a, .int .i64 b, .int .i64 c, .string s], .int .i64 n] w fun e w' => e = .returned (.string (s ++ decS n)) ∧ Below w.heap.size w w' := by
  have HI : Hid (∀ w : World, Calls Tryd.prog 16 #[.int .i64 n] w fun e w' => e = .returned (.string (decS n)) ∧ w' = w) := itoa_c n hn
  have hsz : ¬ (9223372036854775807 < s.size + (decS n).size) := by have := decS_size2 n hn; omega
  generalize decS n = d at HI hsz
  obtain ⟨W, hW⟩ : ∃ W, w.alloc (.cells #[.int .i64 a, .int .i64 b, .int .i64 c, .string s] 37) = W := ⟨_, rfl⟩
  have HBW : Hid (Below w.heap.size w W) := by unfold Hid; rw [← hW]; exact (Below.refl _ _).alloc (Nat.le_refl _) _
  have c3 : W.cell? ⟨w.heap.size, 3, none⟩ = some (.string s) := by rw [← hW]; exact cell_of_row _ w.heap.size 3 _ _ _ (heap_alloc_new w _)
  clear hn hs
  go_enter Tryd.func20, Tryd.ntmps20
  go_upto_region 1 with fail
  clear hW
  go_region_held3 (fun w' => w'.cell? ⟨w.heap.size, 3, none⟩ = some (.string s)) (exact c3) (first | (go_at_call 16; refine (HI.out _).mono ?_; rintro e w1 ⟨rfl, hw⟩; have hw2 := hw.symm; subst hw2))
  all_goals go_wp2
  all_goals go_ret
  all_goals exact ⟨by rfl, by first | exact HBW.out | exact Below.drew HBW.out⟩
def allocs (w : World) (os : List Obj) : World := os.foldl World.alloc w
theorem below_al (w : World) (o : Obj) : Below w.heap.size w (w.alloc o) := (Below.refl _ _).alloc (Nat.le_refl _) _
theorem allocs_below : ∀ (os : List Obj) (w : World), Below w.heap.size w (allocs w os)
  | [], w => Below.refl _ _
  | o :: os, w => (below_al w o).trans ((allocs_below os (w.alloc o)).mono (below_al w o).size)
theorem allocs_get : ∀ (os : List Obj) (w : World) (j : Nat), j < os.length → (allocs w os).heap[w.heap.size + j]? = os[j]?
  | [], w, j, h => by simp at h
  | o :: os, w, 0, h => by
    show (allocs (w.alloc o) os).heap[w.heap.size]? = some o
    rw [(allocs_below os (w.alloc o)).block _ (by simp)]
    exact heap_alloc_new w o
  | o :: os, w, j + 1, h => by
    have e : (w.alloc o).heap.size = w.heap.size + 1 := by simp
    have q := allocs_get os (w.alloc o) j (by simpa using h)
    rw [e] at q
    rw [show w.heap.size + (j + 1) = w.heap.size + 1 + j by omega]
    simpa [allocs] using q
def O_named (w : World) : List Obj := [.cells #[.string ⟨#[109, 115, 116, 97, 116, 117, 115]⟩, .string ⟨#[109, 105, 115, 97]⟩] 9, .cells #[.string ⟨#[109, 105, 101]⟩, .string ⟨#[109, 116, 118, 101, 99]⟩, .string ⟨#[109, 99, 111, 117, 110, 116, 101, 114, 101, 110]⟩] 9, .cells #[.string ⟨#[109, 101, 110, 118, 99, 102, 103]⟩] 9, .cells #[.string ⟨#[109, 99, 111, 117, 110, 116, 105, 110, 104, 105, 98, 105, 116]⟩] 9, .cells #[.string ⟨#[109, 115, 99, 114, 97, 116, 99, 104]⟩, .string ⟨#[109, 101, 112, 99]⟩, .string ⟨#[109, 99, 97, 117, 115, 101]⟩, .string ⟨#[109, 116, 118, 97, 108]⟩, .string ⟨#[109, 105, 112]⟩] 9, .cells #[.string ⟨#[112, 109, 112, 99, 102, 103, 48]⟩] 9, .cells #[.string ⟨#[112, 109, 112, 99, 102, 103, 50]⟩] 9, .cells #[.string ⟨#[109, 99, 121, 99, 108, 101]⟩] 9, .cells #[.string ⟨#[109, 105, 110, 115, 116, 114, 101, 116]⟩] 9, .cells #[.string ⟨#[99, 121, 99, 108, 101]⟩, .string ⟨#[116, 105, 109, 101]⟩, .string ⟨#[105, 110, 115, 116, 114, 101, 116]⟩] 9, .cells #[.string ⟨#[109, 118, 101, 110, 100, 111, 114, 105, 100]⟩, .string ⟨#[109, 97, 114, 99, 104, 105, 100]⟩, .string ⟨#[109, 105, 109, 112, 105, 100]⟩, .string ⟨#[109, 104, 97, 114, 116, 105, 100]⟩, .string ⟨#[109, 99, 111, 110, 102, 105, 103, 112, 116, 114]⟩] 9, .cells #[.int .i64 768, .slice (some ⟨w.heap.size, 0, none⟩) 2 2, .int .i64 772, .slice (some ⟨w.heap.size + 1, 0, none⟩) 3 3, .int .i64 778, .slice (some ⟨w.heap.size + 2, 0, none⟩) 1 1, .int .i64 800, .slice (some ⟨w.heap.size + 3, 0, none⟩) 1 1, .int .i64 832, .slice (some ⟨w.heap.size + 4, 0, none⟩) 5 5, .int .i64 928, .slice (some ⟨w.heap.size + 5, 0, none⟩) 1 1, .int .i64 930, .slice (some ⟨w.heap.size + 6, 0, none⟩) 1 1, .int .i64 2816, .slice (some ⟨w.heap.size + 7, 0, none⟩) 1 1, .int .i64 2818, .slice (some ⟨w.heap.size + 8, 0, none⟩) 1 1, .int .i64 3072, .slice (some ⟨w.heap.size + 9, 0, none⟩) 3 3, .int .i64 3857, .slice (some ⟨w.heap.size + 10, 0, none⟩) 5 5] 33]
set_option maxRecDepth 100000 in
set_option maxHeartbeats 4000000 in
theorem named_c (w : World) : Calls Tryd.prog 18 #[] w fun e w' => e = .returned (.slice (some ⟨w.heap.size + 11, 0, none⟩) 11 11) ∧ w' = allocs w (O_named w) := by
  go_enter Tryd.func18, Tryd.ntmps18
  go_wp2
  go_ret
  exact ⟨by first | rfl | simp, by first | rfl | (simp [allocs, O_named])⟩
def O_cnt : Obj := .cells #[.int .i64 803, .int .i64 3, .int .i64 31, .string ⟨#[109, 104, 112, 109, 101, 118, 101, 110, 116]⟩, .int .i64 944, .int .i64 0, .int .i64 15, .string ⟨#[112, 109, 112, 97, 100, 100, 114]⟩, .int .i64 2819, .int .i64 3, .int .i64 31, .string ⟨#[109, 104, 112, 109, 99, 111, 117, 110, 116, 101, 114]⟩, .int .i64 3075, .int .i64 3, .int .i64 31, .string ⟨#[104, 112, 109, 99, 111, 117, 110, 116, 101, 114]⟩] 37
set_option maxRecDepth 100000 in
set_option maxHeartbeats 4000000 in
theorem cnt_c (w : World) : Calls Tryd.prog 19 #[] w fun e w' => e = .returned (.slice (some ⟨w.heap.size, 0, none⟩) 4 4) ∧ w' = w.alloc O_cnt := by
  go_enter Tryd.func19, Tryd.ntmps19
  go_wp2
  go_ret
  exact ⟨by first | rfl | simp, by first | rfl | (simp [O_cnt])⟩
/-- The CSRs that have names of their own, and those that are counted, as the program has them. -/
def csT : List (Nat × List (List UInt8)) := [(768, [[109, 115, 116, 97, 116, 117, 115], [109, 105, 115, 97]]), (772, [[109, 105, 101], [109, 116, 118, 101, 99], [109, 99, 111, 117, 110, 116, 101, 114, 101, 110]]), (778, [[109, 101, 110, 118, 99, 102, 103]]), (800, [[109, 99, 111, 117, 110, 116, 105, 110, 104, 105, 98, 105, 116]]), (832, [[109, 115, 99, 114, 97, 116, 99, 104], [109, 101, 112, 99], [109, 99, 97, 117, 115, 101], [109, 116, 118, 97, 108], [109, 105, 112]]), (928, [[112, 109, 112, 99, 102, 103, 48]]), (930, [[112, 109, 112, 99, 102, 103, 50]]), (2816, [[109, 99, 121, 99, 108, 101]]), (2818, [[109, 105, 110, 115, 116, 114, 101, 116]]), (3072, [[99, 121, 99, 108, 101], [116, 105, 109, 101], [105, 110, 115, 116, 114, 101, 116]]), (3857, [[109, 118, 101, 110, 100, 111, 114, 105, 100], [109, 97, 114, 99, 104, 105, 100], [109, 105, 109, 112, 105, 100], [109, 104, 97, 114, 116, 105, 100], [109, 99, 111, 110, 102, 105, 103, 112, 116, 114]])]
def ctT : List (Nat × Nat × Nat × List UInt8) := [(803, 3, 31, [109, 104, 112, 109, 101, 118, 101, 110, 116]), (944, 0, 15, [112, 109, 112, 97, 100, 100, 114]), (2819, 3, 31, [109, 104, 112, 109, 99, 111, 117, 110, 116, 101, 114]), (3075, 3, 31, [104, 112, 109, 99, 111, 117, 110, 116, 101, 114])]
def bs (l : List UInt8) : ByteArray := ⟨l.toArray⟩
/-- The program's table of names in memory. -/
def Nmd (g h : Nat) (w : World) : Prop := ∀ k, k < 11 → w.cell? ⟨g, k * 2, none⟩ = some (.int .i64 (csT.getD k (0, [])).1) ∧ w.cell? ⟨g, k * 2 + 1, none⟩ = some (.slice (some ⟨h + k, 0, none⟩) (csT.getD k (0, [])).2.length (csT.getD k (0, [])).2.length) ∧ ∀ j, j < (csT.getD k (0, [])).2.length → w.cell? ⟨h + k, j, none⟩ = some (.string (bs ((csT.getD k (0, [])).2.getD j [])))
theorem named_n (w : World) : Calls Tryd.prog 18 #[] w fun e w' => ∃ g, e = .returned (.slice (some ⟨g, 0, none⟩) 11 11) ∧ w.heap.size ≤ g ∧ Nmd g w.heap.size w' ∧ Below w.heap.size w w' := (named_c w).mono fun e w' ⟨he, hw⟩ => by
  refine ⟨_, he, by omega, ?_, by rw [hw]; exact allocs_below _ _⟩
  have hg : ∀ j, j < 12 → w'.heap[w.heap.size + j]? = (O_named w)[j]? := fun j hj => by rw [hw]; exact allocs_get _ w j hj
  have r11 : w'.heap[w.heap.size + 11]? = some (.cells #[.int .i64 768, .slice (some ⟨w.heap.size, 0, none⟩) 2 2, .int .i64 772, .slice (some ⟨w.heap.size + 1, 0, none⟩) 3 3, .int .i64 778, .slice (some ⟨w.heap.size + 2, 0, none⟩) 1 1, .int .i64 800, .slice (some ⟨w.heap.size + 3, 0, none⟩) 1 1, .int .i64 832, .slice (some ⟨w.heap.size + 4, 0, none⟩) 5 5, .int .i64 928, .slice (some ⟨w.heap.size + 5, 0, none⟩) 1 1, .int .i64 930, .slice (some ⟨w.heap.size + 6, 0, none⟩) 1 1, .int .i64 2816, .slice (some ⟨w.heap.size + 7, 0, none⟩) 1 1, .int .i64 2818, .slice (some ⟨w.heap.size + 8, 0, none⟩) 1 1, .int .i64 3072, .slice (some ⟨w.heap.size + 9, 0, none⟩) 3 3, .int .i64 3857, .slice (some ⟨w.heap.size + 10, 0, none⟩) 5 5] 33 (0, 0)) := hg 11 (by omega)
  intro k hk
  match k, hk with
  | 0, _ =>
    have r : w'.heap[w.heap.size + 0]? = some (.cells #[.string ⟨#[109, 115, 116, 97, 116, 117, 115]⟩, .string ⟨#[109, 105, 115, 97]⟩] 9 (0, 0)) := hg 0 (by omega)
    refine ⟨cell_of_row w' _ 0 _ _ _ r11, cell_of_row w' _ 1 _ _ _ r11, fun j hj => ?_⟩
    match j, hj with
    | 0, _ => exact cell_of_row w' _ 0 _ _ _ r
    | 1, _ => exact cell_of_row w' _ 1 _ _ _ r
    | j + 2, hj => exact absurd hj (by show ¬ (j + 2 < 2); omega)
  | 1, _ =>
    have r : w'.heap[w.heap.size + 1]? = some (.cells #[.string ⟨#[109, 105, 101]⟩, .string ⟨#[109, 116, 118, 101, 99]⟩, .string ⟨#[109, 99, 111, 117, 110, 116, 101, 114, 101, 110]⟩] 9 (0, 0)) := hg 1 (by omega)
    refine ⟨cell_of_row w' _ 2 _ _ _ r11, cell_of_row w' _ 3 _ _ _ r11, fun j hj => ?_⟩
    match j, hj with
    | 0, _ => exact cell_of_row w' _ 0 _ _ _ r
    | 1, _ => exact cell_of_row w' _ 1 _ _ _ r
    | 2, _ => exact cell_of_row w' _ 2 _ _ _ r
    | j + 3, hj => exact absurd hj (by show ¬ (j + 3 < 3); omega)
  | 2, _ =>
    have r : w'.heap[w.heap.size + 2]? = some (.cells #[.string ⟨#[109, 101, 110, 118, 99, 102, 103]⟩] 9 (0, 0)) := hg 2 (by omega)
    refine ⟨cell_of_row w' _ 4 _ _ _ r11, cell_of_row w' _ 5 _ _ _ r11, fun j hj => ?_⟩
    match j, hj with
    | 0, _ => exact cell_of_row w' _ 0 _ _ _ r
    | j + 1, hj => exact absurd hj (by show ¬ (j + 1 < 1); omega)
  | 3, _ =>
    have r : w'.heap[w.heap.size + 3]? = some (.cells #[.string ⟨#[109, 99, 111, 117, 110, 116, 105, 110, 104, 105, 98, 105, 116]⟩] 9 (0, 0)) := hg 3 (by omega)
    refine ⟨cell_of_row w' _ 6 _ _ _ r11, cell_of_row w' _ 7 _ _ _ r11, fun j hj => ?_⟩
    match j, hj with
    | 0, _ => exact cell_of_row w' _ 0 _ _ _ r
    | j + 1, hj => exact absurd hj (by show ¬ (j + 1 < 1); omega)
  | 4, _ =>
    have r : w'.heap[w.heap.size + 4]? = some (.cells #[.string ⟨#[109, 115, 99, 114, 97, 116, 99, 104]⟩, .string ⟨#[109, 101, 112, 99]⟩, .string ⟨#[109, 99, 97, 117, 115, 101]⟩, .string ⟨#[109, 116, 118, 97, 108]⟩, .string ⟨#[109, 105, 112]⟩] 9 (0, 0)) := hg 4 (by omega)
    refine ⟨cell_of_row w' _ 8 _ _ _ r11, cell_of_row w' _ 9 _ _ _ r11, fun j hj => ?_⟩
    match j, hj with
    | 0, _ => exact cell_of_row w' _ 0 _ _ _ r
    | 1, _ => exact cell_of_row w' _ 1 _ _ _ r
    | 2, _ => exact cell_of_row w' _ 2 _ _ _ r
    | 3, _ => exact cell_of_row w' _ 3 _ _ _ r
    | 4, _ => exact cell_of_row w' _ 4 _ _ _ r
    | j + 5, hj => exact absurd hj (by show ¬ (j + 5 < 5); omega)
  | 5, _ =>
    have r : w'.heap[w.heap.size + 5]? = some (.cells #[.string ⟨#[112, 109, 112, 99, 102, 103, 48]⟩] 9 (0, 0)) := hg 5 (by omega)
    refine ⟨cell_of_row w' _ 10 _ _ _ r11, cell_of_row w' _ 11 _ _ _ r11, fun j hj => ?_⟩
    match j, hj with
    | 0, _ => exact cell_of_row w' _ 0 _ _ _ r
    | j + 1, hj => exact absurd hj (by show ¬ (j + 1 < 1); omega)
  | 6, _ =>
    have r : w'.heap[w.heap.size + 6]? = some (.cells #[.string ⟨#[112, 109, 112, 99, 102, 103, 50]⟩] 9 (0, 0)) := hg 6 (by omega)
    refine ⟨cell_of_row w' _ 12 _ _ _ r11, cell_of_row w' _ 13 _ _ _ r11, fun j hj => ?_⟩
    match j, hj with
    | 0, _ => exact cell_of_row w' _ 0 _ _ _ r
    | j + 1, hj => exact absurd hj (by show ¬ (j + 1 < 1); omega)
  | 7, _ =>
    have r : w'.heap[w.heap.size + 7]? = some (.cells #[.string ⟨#[109, 99, 121, 99, 108, 101]⟩] 9 (0, 0)) := hg 7 (by omega)
    refine ⟨cell_of_row w' _ 14 _ _ _ r11, cell_of_row w' _ 15 _ _ _ r11, fun j hj => ?_⟩
    match j, hj with
    | 0, _ => exact cell_of_row w' _ 0 _ _ _ r
    | j + 1, hj => exact absurd hj (by show ¬ (j + 1 < 1); omega)
  | 8, _ =>
    have r : w'.heap[w.heap.size + 8]? = some (.cells #[.string ⟨#[109, 105, 110, 115, 116, 114, 101, 116]⟩] 9 (0, 0)) := hg 8 (by omega)
    refine ⟨cell_of_row w' _ 16 _ _ _ r11, cell_of_row w' _ 17 _ _ _ r11, fun j hj => ?_⟩
    match j, hj with
    | 0, _ => exact cell_of_row w' _ 0 _ _ _ r
    | j + 1, hj => exact absurd hj (by show ¬ (j + 1 < 1); omega)
  | 9, _ =>
    have r : w'.heap[w.heap.size + 9]? = some (.cells #[.string ⟨#[99, 121, 99, 108, 101]⟩, .string ⟨#[116, 105, 109, 101]⟩, .string ⟨#[105, 110, 115, 116, 114, 101, 116]⟩] 9 (0, 0)) := hg 9 (by omega)
    refine ⟨cell_of_row w' _ 18 _ _ _ r11, cell_of_row w' _ 19 _ _ _ r11, fun j hj => ?_⟩
    match j, hj with
    | 0, _ => exact cell_of_row w' _ 0 _ _ _ r
    | 1, _ => exact cell_of_row w' _ 1 _ _ _ r
    | 2, _ => exact cell_of_row w' _ 2 _ _ _ r
    | j + 3, hj => exact absurd hj (by show ¬ (j + 3 < 3); omega)
  | 10, _ =>
    have r : w'.heap[w.heap.size + 10]? = some (.cells #[.string ⟨#[109, 118, 101, 110, 100, 111, 114, 105, 100]⟩, .string ⟨#[109, 97, 114, 99, 104, 105, 100]⟩, .string ⟨#[109, 105, 109, 112, 105, 100]⟩, .string ⟨#[109, 104, 97, 114, 116, 105, 100]⟩, .string ⟨#[109, 99, 111, 110, 102, 105, 103, 112, 116, 114]⟩] 9 (0, 0)) := hg 10 (by omega)
    refine ⟨cell_of_row w' _ 20 _ _ _ r11, cell_of_row w' _ 21 _ _ _ r11, fun j hj => ?_⟩
    match j, hj with
    | 0, _ => exact cell_of_row w' _ 0 _ _ _ r
    | 1, _ => exact cell_of_row w' _ 1 _ _ _ r
    | 2, _ => exact cell_of_row w' _ 2 _ _ _ r
    | 3, _ => exact cell_of_row w' _ 3 _ _ _ r
    | 4, _ => exact cell_of_row w' _ 4 _ _ _ r
    | j + 5, hj => exact absurd hj (by show ¬ (j + 5 < 5); omega)
  | k + 11, hk => exact absurd hk (by omega)
/-- The counted ones. -/
def Ctd (g : Nat) (w : World) : Prop := ∀ k, k < 4 → w.cell? ⟨g, k * 4, none⟩ = some (.int .i64 (ctT.getD k (0, 0, 0, [])).1) ∧ w.cell? ⟨g, k * 4 + 1, none⟩ = some (.int .i64 (ctT.getD k (0, 0, 0, [])).2.1) ∧ w.cell? ⟨g, k * 4 + 2, none⟩ = some (.int .i64 (ctT.getD k (0, 0, 0, [])).2.2.1) ∧ w.cell? ⟨g, k * 4 + 3, none⟩ = some (.string (bs (ctT.getD k (0, 0, 0, [])).2.2.2))
theorem cnt_n (w : World) : Calls Tryd.prog 19 #[] w fun e w' => ∃ g, e = .returned (.slice (some ⟨g, 0, none⟩) 4 4) ∧ w.heap.size ≤ g ∧ Ctd g w' ∧ Below w.heap.size w w' := (cnt_c w).mono fun e w' ⟨he, hw⟩ => by
  refine ⟨_, he, by omega, ?_, by rw [hw]; exact below_al _ _⟩
  have r : w'.heap[w.heap.size]? = some (.cells #[.int .i64 803, .int .i64 3, .int .i64 31, .string ⟨#[109, 104, 112, 109, 101, 118, 101, 110, 116]⟩, .int .i64 944, .int .i64 0, .int .i64 15, .string ⟨#[112, 109, 112, 97, 100, 100, 114]⟩, .int .i64 2819, .int .i64 3, .int .i64 31, .string ⟨#[109, 104, 112, 109, 99, 111, 117, 110, 116, 101, 114]⟩, .int .i64 3075, .int .i64 3, .int .i64 31, .string ⟨#[104, 112, 109, 99, 111, 117, 110, 116, 101, 114]⟩] 37 (0, 0)) := by rw [hw]; exact heap_alloc_new w _
  intro k hk
  match k, hk with
  | 0, _ => exact ⟨cell_of_row w' _ 0 _ _ _ r, cell_of_row w' _ 1 _ _ _ r, cell_of_row w' _ 2 _ _ _ r, cell_of_row w' _ 3 _ _ _ r⟩
  | 1, _ => exact ⟨cell_of_row w' _ 4 _ _ _ r, cell_of_row w' _ 5 _ _ _ r, cell_of_row w' _ 6 _ _ _ r, cell_of_row w' _ 7 _ _ _ r⟩
  | 2, _ => exact ⟨cell_of_row w' _ 8 _ _ _ r, cell_of_row w' _ 9 _ _ _ r, cell_of_row w' _ 10 _ _ _ r, cell_of_row w' _ 11 _ _ _ r⟩
  | 3, _ => exact ⟨cell_of_row w' _ 12 _ _ _ r, cell_of_row w' _ 13 _ _ _ r, cell_of_row w' _ 14 _ _ _ r, cell_of_row w' _ 15 _ _ _ r⟩
  | k + 4, hk => exact absurd hk (by omega)
end Go.Proofs.YtechkhlibdkmpaaDoor
