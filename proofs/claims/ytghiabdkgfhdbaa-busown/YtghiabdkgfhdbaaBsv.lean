/-
  State of the program's bus.
-/
import Derived.Test.YtghiabdkgfhdbaaBsu
namespace Go.Proofs.Ytghiabdkgfhdbaa
set_option linter.unusedVariables false
open Go.ChangeShapes Go.WideShapes Go.ChangeAt Go.RowKit Go.Deep Go.MuLone
theorem suSlot_tab : ∀ k, ((suTab[k]?).bind (·.1)).getD 0 = suSlot k
  | 0 => rfl
  | 1 => rfl
  | 2 => rfl
  | 3 => rfl
  | 4 => rfl
  | 5 => rfl
  | 6 => rfl
  | 7 => rfl
  | 8 => rfl
  | 9 => rfl
  | 10 => rfl
  | 11 => rfl
  | 12 => rfl
  | 13 => rfl
  | 14 => rfl
  | 15 => rfl
  | 16 => rfl
  | 17 => rfl
  | 18 => rfl
  | 19 => rfl
  | 20 => rfl
  | 21 => rfl
  | 22 => rfl
  | 23 => rfl
  | 24 => rfl
  | 25 => rfl
  | 26 => rfl
  | 27 => rfl
  | 28 => rfl
  | 29 => rfl
  | 30 => rfl
  | 31 => rfl
  | 32 => rfl
  | 33 => rfl
  | 34 => rfl
  | 35 => rfl
  | 36 => rfl
  | 37 => rfl
  | 38 => rfl
  | 39 => rfl
  | 40 => rfl
  | 41 => rfl
  | 42 => rfl
  | 43 => rfl
  | 44 => rfl
  | 45 => rfl
  | 46 => rfl
  | 47 => rfl
  | 48 => rfl
  | 49 => rfl
  | 50 => rfl
  | 51 => rfl
  | 52 => rfl
  | 53 => rfl
  | 54 => rfl
  | 55 => rfl
  | 56 => rfl
  | 57 => rfl
  | 58 => rfl
  | 59 => rfl
  | 60 => rfl
  | 61 => rfl
  | 62 => rfl
  | 63 => rfl
  | 64 => rfl
  | 65 => rfl
  | 66 => rfl
  | 67 => rfl
  | 68 => rfl
  | 69 => rfl
  | 70 => rfl
  | 71 => rfl
  | 72 => rfl
  | 73 => rfl
  | 74 => rfl
  | 75 => rfl
  | 76 => rfl
  | 77 => rfl
  | 78 => rfl
  | 79 => rfl
  | 80 => rfl
  | 81 => rfl
  | 82 => rfl
  | 83 => rfl
  | 84 => rfl
  | _ + 85 => rfl
theorem su_get {ops : Array Oper} (hsh : ops.toList.map shp = suTab.toList) {i : Nat} {o : Oper} (ho : ops[i]? = some o) : suTab[i]? = some (shp o) := by rw [← Array.getElem?_toList, ← hsh]; simp [ho]
theorem su_slot {ops : Array Oper} (hsh : ops.toList.map shp = suTab.toList) (a : Act) : leftBy ops a = fun k => a.eval (.tmp (suSlot k)) := by
  funext k
  unfold leftBy slotOf
  rw [← suSlot_tab k]
  have e : (ops[k]?).bind (·.dst) = (suTab[k]?).bind (·.1) := by
    rw [← Array.getElem?_toList (xs := suTab), ← hsh]
    cases h : ops[k]? with
    | none => simp [h]
    | some o => simp [h, shp]
  rw [e]
theorem su_step {B : Nat} {L : Lay} {S : St} {vr ui : Value} {g : Nat} {w0 W : World} {ops : Array Oper} {Q : Exit → Act → World → Prop} (H : SuIn B L S vr ui g w0 W) (hsh : ops.toList.map shp = suTab.toList) (a0 : Act)
    (h0 : a0.eval (.tmp 0) = .pointer (some ⟨L.b, 0, none⟩)) (h2 : a0.eval (.tmp 2) = .pointer (some ⟨g, 0, none⟩)) (h3 : a0.eval (.tmp 3) = ui) (h4 : a0.eval (.tmp 4) = .bool S.ov) (hap : apartB ops 0 = true ∧ apartB ops 2 = true ∧ apartB ops 3 = true ∧ apartB ops 4 = true) :
    ∀ i o, ops[i]? = some o → ∀ a w, (∀ k, apartB ops k = true → a.eval (.tmp k) = a0.eval (.tmp k)) → Exk (· = g) W w → (∀ k ∈ suNeed i, FK W.heap.size (suKd L S vr ui g k) ((k :: suNeed k).map (leftBy ops a)) w) →
      wpOp Try.prog ops Q i (frK ops suNeed [7, 68] (· = g) W.heap.size (suKd L S vr ui g) i o a w) a w := by
  intro i o ho a w hold hb hn
  have hl := su_slot hsh a
  have h0' := (hold 0 hap.1).trans h0
  have h2' := (hold 2 hap.2.1).trans h2
  have h3' := (hold 3 hap.2.2.1).trans h3
  have h4' := (hold 4 hap.2.2.2).trans h4
  have hg := su_get hsh ho
  match i, ho, hn, hg with
  | 0, ho, hn, hg => exact su_s0 H ho (Option.some.inj hg).symm a w h0' h2' h3' h4' hb hl hn
  | 1, ho, hn, hg => exact su_s1 H ho (Option.some.inj hg).symm a w h0' h2' h3' h4' hb hl hn
  | 2, ho, hn, hg => exact su_s2 H ho (Option.some.inj hg).symm a w h0' h2' h3' h4' hb hl hn
  | 3, ho, hn, hg => exact su_s3 H ho (Option.some.inj hg).symm a w h0' h2' h3' h4' hb hl hn
  | 4, ho, hn, hg => exact su_s4 H ho (Option.some.inj hg).symm a w h0' h2' h3' h4' hb hl hn
  | 5, ho, hn, hg => exact su_s5 H ho (Option.some.inj hg).symm a w h0' h2' h3' h4' hb hl hn
  | 6, ho, hn, hg => exact su_s6 H ho (Option.some.inj hg).symm a w h0' h2' h3' h4' hb hl hn
  | 7, ho, hn, hg => exact su_s7 H ho (Option.some.inj hg).symm a w h0' h2' h3' h4' hb hl hn
  | 8, ho, hn, hg => exact su_s8 H ho (Option.some.inj hg).symm a w h0' h2' h3' h4' hb hl hn
  | 9, ho, hn, hg => exact su_s9 H ho (Option.some.inj hg).symm a w h0' h2' h3' h4' hb hl hn
  | 10, ho, hn, hg => exact su_s10 H ho (Option.some.inj hg).symm a w h0' h2' h3' h4' hb hl hn
  | 11, ho, hn, hg => exact su_s11 H ho (Option.some.inj hg).symm a w h0' h2' h3' h4' hb hl hn
  | 12, ho, hn, hg => exact su_s12 H ho (Option.some.inj hg).symm a w h0' h2' h3' h4' hb hl hn
  | 13, ho, hn, hg => exact su_s13 H ho (Option.some.inj hg).symm a w h0' h2' h3' h4' hb hl hn
  | 14, ho, hn, hg => exact su_s14 H ho (Option.some.inj hg).symm a w h0' h2' h3' h4' hb hl hn
  | 15, ho, hn, hg => exact su_s15 H ho (Option.some.inj hg).symm a w h0' h2' h3' h4' hb hl hn
  | 16, ho, hn, hg => exact su_s16 H ho (Option.some.inj hg).symm a w h0' h2' h3' h4' hb hl hn
  | 17, ho, hn, hg => exact su_s17 H ho (Option.some.inj hg).symm a w h0' h2' h3' h4' hb hl hn
  | 18, ho, hn, hg => exact su_s18 H ho (Option.some.inj hg).symm a w h0' h2' h3' h4' hb hl hn
  | 19, ho, hn, hg => exact su_s19 H ho (Option.some.inj hg).symm a w h0' h2' h3' h4' hb hl hn
  | 20, ho, hn, hg => exact su_s20 H ho (Option.some.inj hg).symm a w h0' h2' h3' h4' hb hl hn
  | 21, ho, hn, hg => exact su_s21 H ho (Option.some.inj hg).symm a w h0' h2' h3' h4' hb hl hn
  | 22, ho, hn, hg => exact su_s22 H ho (Option.some.inj hg).symm a w h0' h2' h3' h4' hb hl hn
  | 23, ho, hn, hg => exact su_s23 H ho (Option.some.inj hg).symm a w h0' h2' h3' h4' hb hl hn
  | 24, ho, hn, hg => exact su_s24 H ho (Option.some.inj hg).symm a w h0' h2' h3' h4' hb hl hn
  | 25, ho, hn, hg => exact su_s25 H ho (Option.some.inj hg).symm a w h0' h2' h3' h4' hb hl hn
  | 26, ho, hn, hg => exact su_s26 H ho (Option.some.inj hg).symm a w h0' h2' h3' h4' hb hl hn
  | 27, ho, hn, hg => exact su_s27 H ho (Option.some.inj hg).symm a w h0' h2' h3' h4' hb hl hn
  | 28, ho, hn, hg => exact su_s28 H ho (Option.some.inj hg).symm a w h0' h2' h3' h4' hb hl hn
  | 29, ho, hn, hg => exact su_s29 H ho (Option.some.inj hg).symm a w h0' h2' h3' h4' hb hl hn
  | 30, ho, hn, hg => exact su_s30 H ho (Option.some.inj hg).symm a w h0' h2' h3' h4' hb hl hn
  | 31, ho, hn, hg => exact su_s31 H ho (Option.some.inj hg).symm a w h0' h2' h3' h4' hb hl hn
  | 32, ho, hn, hg => exact su_s32 H ho (Option.some.inj hg).symm a w h0' h2' h3' h4' hb hl hn
  | 33, ho, hn, hg => exact su_s33 H ho (Option.some.inj hg).symm a w h0' h2' h3' h4' hb hl hn
  | 34, ho, hn, hg => exact su_s34 H ho (Option.some.inj hg).symm a w h0' h2' h3' h4' hb hl hn
  | 35, ho, hn, hg => exact su_s35 H ho (Option.some.inj hg).symm a w h0' h2' h3' h4' hb hl hn
  | 36, ho, hn, hg => exact su_s36 H ho (Option.some.inj hg).symm a w h0' h2' h3' h4' hb hl hn
  | 37, ho, hn, hg => exact su_s37 H ho (Option.some.inj hg).symm a w h0' h2' h3' h4' hb hl hn
  | 38, ho, hn, hg => exact su_s38 H ho (Option.some.inj hg).symm a w h0' h2' h3' h4' hb hl hn
  | 39, ho, hn, hg => exact su_s39 H ho (Option.some.inj hg).symm a w h0' h2' h3' h4' hb hl hn
  | 40, ho, hn, hg => exact su_s40 H ho (Option.some.inj hg).symm a w h0' h2' h3' h4' hb hl hn
  | 41, ho, hn, hg => exact su_s41 H ho (Option.some.inj hg).symm a w h0' h2' h3' h4' hb hl hn
  | 42, ho, hn, hg => exact su_s42 H ho (Option.some.inj hg).symm a w h0' h2' h3' h4' hb hl hn
  | 43, ho, hn, hg => exact su_s43 H ho (Option.some.inj hg).symm a w h0' h2' h3' h4' hb hl hn
  | 44, ho, hn, hg => exact su_s44 H ho (Option.some.inj hg).symm a w h0' h2' h3' h4' hb hl hn
  | 45, ho, hn, hg => exact su_s45 H ho (Option.some.inj hg).symm a w h0' h2' h3' h4' hb hl hn
  | 46, ho, hn, hg => exact su_s46 H ho (Option.some.inj hg).symm a w h0' h2' h3' h4' hb hl hn
  | 47, ho, hn, hg => exact su_s47 H ho (Option.some.inj hg).symm a w h0' h2' h3' h4' hb hl hn
  | 48, ho, hn, hg => exact su_s48 H ho (Option.some.inj hg).symm a w h0' h2' h3' h4' hb hl hn
  | 49, ho, hn, hg => exact su_s49 H ho (Option.some.inj hg).symm a w h0' h2' h3' h4' hb hl hn
  | 50, ho, hn, hg => exact su_s50 H ho (Option.some.inj hg).symm a w h0' h2' h3' h4' hb hl hn
  | 51, ho, hn, hg => exact su_s51 H ho (Option.some.inj hg).symm a w h0' h2' h3' h4' hb hl hn
  | 52, ho, hn, hg => exact su_s52 H ho (Option.some.inj hg).symm a w h0' h2' h3' h4' hb hl hn
  | 53, ho, hn, hg => exact su_s53 H ho (Option.some.inj hg).symm a w h0' h2' h3' h4' hb hl hn
  | 54, ho, hn, hg => exact su_s54 H ho (Option.some.inj hg).symm a w h0' h2' h3' h4' hb hl hn
  | 55, ho, hn, hg => exact su_s55 H ho (Option.some.inj hg).symm a w h0' h2' h3' h4' hb hl hn
  | 56, ho, hn, hg => exact su_s56 H ho (Option.some.inj hg).symm a w h0' h2' h3' h4' hb hl hn
  | 57, ho, hn, hg => exact su_s57 H ho (Option.some.inj hg).symm a w h0' h2' h3' h4' hb hl hn
  | 58, ho, hn, hg => exact su_s58 H ho (Option.some.inj hg).symm a w h0' h2' h3' h4' hb hl hn
  | 59, ho, hn, hg => exact su_s59 H ho (Option.some.inj hg).symm a w h0' h2' h3' h4' hb hl hn
  | 60, ho, hn, hg => exact su_s60 H ho (Option.some.inj hg).symm a w h0' h2' h3' h4' hb hl hn
  | 61, ho, hn, hg => exact su_s61 H ho (Option.some.inj hg).symm a w h0' h2' h3' h4' hb hl hn
  | 62, ho, hn, hg => exact su_s62 H ho (Option.some.inj hg).symm a w h0' h2' h3' h4' hb hl hn
  | 63, ho, hn, hg => exact su_s63 H ho (Option.some.inj hg).symm a w h0' h2' h3' h4' hb hl hn
  | 64, ho, hn, hg => exact su_s64 H ho (Option.some.inj hg).symm a w h0' h2' h3' h4' hb hl hn
  | 65, ho, hn, hg => exact su_s65 H ho (Option.some.inj hg).symm a w h0' h2' h3' h4' hb hl hn
  | 66, ho, hn, hg => exact su_s66 H ho (Option.some.inj hg).symm a w h0' h2' h3' h4' hb hl hn
  | 67, ho, hn, hg => exact su_s67 H ho (Option.some.inj hg).symm a w h0' h2' h3' h4' hb hl hn
  | 68, ho, hn, hg => exact su_s68 H ho (Option.some.inj hg).symm a w h0' h2' h3' h4' hb hl hn
  | 69, ho, hn, hg => exact su_s69 H ho (Option.some.inj hg).symm a w h0' h2' h3' h4' hb hl hn
  | 70, ho, hn, hg => exact su_s70 H ho (Option.some.inj hg).symm a w h0' h2' h3' h4' hb hl hn
  | 71, ho, hn, hg => exact su_s71 H ho (Option.some.inj hg).symm a w h0' h2' h3' h4' hb hl hn
  | 72, ho, hn, hg => exact su_s72 H ho (Option.some.inj hg).symm a w h0' h2' h3' h4' hb hl hn
  | 73, ho, hn, hg => exact su_s73 H ho (Option.some.inj hg).symm a w h0' h2' h3' h4' hb hl hn
  | 74, ho, hn, hg => exact su_s74 H ho (Option.some.inj hg).symm a w h0' h2' h3' h4' hb hl hn
  | 75, ho, hn, hg => exact su_s75 H ho (Option.some.inj hg).symm a w h0' h2' h3' h4' hb hl hn
  | 76, ho, hn, hg => exact su_s76 H ho (Option.some.inj hg).symm a w h0' h2' h3' h4' hb hl hn
  | 77, ho, hn, hg => exact su_s77 H ho (Option.some.inj hg).symm a w h0' h2' h3' h4' hb hl hn
  | 78, ho, hn, hg => exact su_s78 H ho (Option.some.inj hg).symm a w h0' h2' h3' h4' hb hl hn
  | 79, ho, hn, hg => exact su_s79 H ho (Option.some.inj hg).symm a w h0' h2' h3' h4' hb hl hn
  | 80, ho, hn, hg => exact su_s80 H ho (Option.some.inj hg).symm a w h0' h2' h3' h4' hb hl hn
  | 81, ho, hn, hg => exact su_s81 H ho (Option.some.inj hg).symm a w h0' h2' h3' h4' hb hl hn
  | 82, ho, hn, hg => exact su_s82 H ho (Option.some.inj hg).symm a w h0' h2' h3' h4' hb hl hn
  | 83, ho, hn, hg => exact su_s83 H ho (Option.some.inj hg).symm a w h0' h2' h3' h4' hb hl hn
  | 84, ho, hn, hg => exact su_s84 H ho (Option.some.inj hg).symm a w h0' h2' h3' h4' hb hl hn
  | n + 85, ho, hn, hg => exact absurd (Array.getElem?_eq_some_iff.1 hg).1 (by show ¬ n + 85 < 85; omega)
theorem su_mem {L : Lay} {S : St} {vr ui : Value} {g : Nat} (j : Nat) (hj : j ≠ 84) : ∀ f, suKd L S vr ui g j ≠ .mem f := by
  intro f
  unfold suKd
  split <;> first | exact absurd rfl hj | simp
theorem su_fin : ∀ k, k < 85 → k ≠ 84 → k ∈ suNeed 84 := by decide
theorem su_end {L : Lay} {S : St} {vr ui : Value} {g : Nat} {W w : World} {ops : Array Oper} (hsh : ops.toList.map shp = suTab.toList) (a : Act) (hf : ∀ j, j < ops.size → FK W.heap.size (suKd L S vr ui g j) ((j :: suNeed j).map (leftBy ops a)) w)
    (hd : ∀ j ∈ [7, 68], ∀ k ∈ [7, 68], j ≠ k → j < ops.size → k < ops.size → ∀ g, (leftBy ops a j).ownBlock = some g → (leftBy ops a k).ownBlock ≠ some g) :
    ∃ ur uo, w.ownsRow W.heap.size 5 1 ur S.ram.length (bv S.ram) ∧ w.ownsRow W.heap.size 5 1 uo S.out.length (bv S.out) ∧ (∀ g, ur.ownBlock = some g → uo.ownBlock ≠ some g) ∧ w.heap[g]? = some (.cells (stc S ur ui uo) 26 (0, 0)) := by
  have hsz : ops.size = 85 := by have := congrArg List.length hsh; rw [List.length_map] at this; exact this
  rw [hsz, su_slot hsh a] at hf hd
  have h7 : w.ownsRow W.heap.size 5 1 (a.eval (.tmp 23)) S.ram.length (bv S.ram) := hf 7 (by decide)
  have h68 : w.ownsRow W.heap.size 5 1 (a.eval (.tmp 84)) S.out.length (bv S.out) := hf 68 (by decide)
  have h83 : a.eval (.tmp 99) = .agg (stc S (a.eval (.tmp 23)) ui (a.eval (.tmp 84))) := hf 83 (by decide)
  have x84 : ∃ cs, a.eval (.tmp 99) = .agg cs ∧ w.heap[g]? = some (.cells cs 26 (0, 0)) := hf 84 (by decide)
  obtain ⟨cs, e1, e2⟩ := x84
  rw [h83] at e1
  cases e1
  exact ⟨_, _, h7, h68, hd 7 (by decide) 68 (by decide) (by decide) (by decide) (by decide), e2⟩
set_option maxHeartbeats 2000000 in
theorem state_c {B : Nat} {L : Lay} {S : St} (w : World) (h : PB B L S w) (lr : S.ram.length ≤ 140737488355328) (li : S.inp.length ≤ 140737488355328) (lo : S.out.length ≤ 140737488355328) :
    Calls Try.prog 11 #[.pointer (some ⟨L.b, 0, none⟩)] w fun e w' => ∃ ur ui uo, e = .returned (.agg (stc S ur ui uo)) ∧ Sv w.heap.size S ur ui uo w' ∧ Below w.heap.size w w' := by
  obtain ⟨g, hg⟩ : ∃ g, g = w.heap.size := ⟨_, rfl⟩
  have HPB : Hid (PB B L S w) := h
  have HA : Hid (∀ o, PB B L S (w.alloc o)) := fun o => h.later ((Below.refl _ _).alloc (Nat.le_refl _) o)
  have HB0 : Hid (∀ o, Below w.heap.size w (w.alloc o)) := fun o => (Below.refl _ _).alloc (Nat.le_refl _) o
  have HAt : Hid (∀ o, (w.alloc o).heap[g]? = some o) := fun o => by rw [hg]; exact alloc_at w o
  have PCa : ∀ o, PC L S L.vr L.vi L.vo (w.alloc o) := fun o => (HA.out o).cl
  have hq := fun o => (HA.out o).hq
  have hwi := fun o => (HA.out o).wi
  have e5 := fun o => (PCa o).b5
  have e4 := fun o => (PCa o).u4
  have HL : Hid (∀ o, Calls Try.prog 27 #[.pointer (some ⟨L.q, 0, none⟩)] (w.alloc o) fun e w' => ∃ u, e = .returned (.tuple #[u, .bool S.ov]) ∧ w'.ownsRow (w.alloc o).heap.size 5 1 u S.inp.length (bv S.inp) ∧ Below (w.alloc o).heap.size (w.alloc o) w') := fun o => all_c (w.alloc o) (hq o) (hwi o) li
  have HG : Hid (g = w.heap.size) := hg
  have HLR : Hid (S.ram.length ≤ 140737488355328) := lr
  have HLO : Hid (S.out.length ≤ 140737488355328) := lo
  clear PCa hq hwi h hg lr li lo
  go_enter Try.func11, Try.ntmps11
  go_wp2_with (go_at_call 27; refine (HL.out _).mono ?_; rintro e w1 ⟨ui, rfl, hi1, hb1⟩)
  rename_i hK
  have hin : SuIn B L S L.vr ui g w w1 := by
    refine ⟨HPB.out, rfl, (HB0.out _).trans (hb1.mono (by simp)), HG.out, ?_, ?_, own_one hi1, HLR.out, HLO.out⟩
    · have := hb1.size; rw [HG.out]; simp at this; omega
    · refine ⟨_, (hb1.block g (by rw [HG.out]; simp)).trans (HAt.out _), rfl⟩
  have hgw := HG.out
  refine wp_region_bag (by kernel_rfl) suNeed (fun j => FK w1.heap.size (suKd L S L.vr ui g j)) [7, 68] (· = g) 84 w1 w1 _ (by kernel_rfl) (fun k hk hne _ => su_fin k hk hne) (fun j vs w w' hj h hb => FK.mono (fun k e => by rw [e]; exact hin.gl) (su_mem j hj) h hb) ?_ (Exk.refl _ _) (su_step hin (by rfl) _ rfl (by rw [hgw]; rfl) rfl rfl ⟨by rfl, by rfl, by rfl, by rfl⟩) ?_
  · intro j hj v vs w' hf g hg
    simp only [List.mem_cons, List.not_mem_nil, or_false] at hj
    rcases hj with rfl | rfl
    · exact (World.ownsRow.lt (show w'.ownsRow w1.heap.size 5 1 v S.ram.length (bv S.ram) from hf) g hg).2
    · exact (World.ownsRow.lt (show w'.ownsRow w1.heap.size 5 1 v S.out.length (bv S.out) from hf) g hg).2
  · intro a w2 hts hdf hold hx hf hdis
    obtain ⟨ur, uo, hr, ho, hro, hrow⟩ := su_end (by rfl) a hf hdis
    have ha2 : a.eval (.tmp 2) = .pointer (some ⟨g, 0, none⟩) := (hold 2 (by rfl)).trans (by rw [hgw]; rfl)
    refine hK a w2 ?_
    refine wp_ret (bodyPost_ret (v := .agg (stc S ur ui uo)) ?_ hdf ?_)
    · exact results_cell_row Try.results11 _ _ g 26 _ (0, 0) _ ha2 hrow Try.underlying26 (by rfl) stSize
    · have hw1 : w.heap.size ≤ w1.heap.size := hin.bl.size
      have hi2 : w2.ownsRow w.heap.size 5 1 ui S.inp.length (bv S.inp) := by
        refine own_exc (own_le hi1 (by simp)) hx.e (fun k hk e => ?_)
        have h1 := (hi1.lt k hk).1
        simp at h1
        have := HG.out
        omega
      refine ⟨ur, ui, uo, rfl, ⟨own_le hr hw1, hi2, own_le ho hw1, ?_, hro, own_apart hi1 ho (Nat.le_refl _)⟩, ?_⟩
      · intro k hk hk'
        exact own_apart hi1 hr (Nat.le_refl _) k hk' hk
      · exact hin.bl.trans (hx.e.below hw1 (fun k e => by rw [e, hgw]; exact Nat.le_refl _))
end Go.Proofs.Ytghiabdkgfhdbaa
