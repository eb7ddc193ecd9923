/-
  Inb Irj.
-/
import Derived.Test.YtopddflnahfomaaGreatDoorM10
import Derived.Test.YtopddflnahfomaaGreatDoorM09
namespace Go.Proofs.YtopddflnahfomaaGreatDoor
set_option linter.unusedVariables false
open Go.RowKit Go.Shelf Go.Lib
theorem ret_boolI {a b : Bool} (h : a = b) : Ending.returned (.bool a) = .returned (.bool b) := by rw [h]
theorem okFrom_step {s : ByteArray} {b pos : Nat} (hp : pos < s.size) (hb : s.size ≤ pos + b) (h : okr s pos = true) :
    ∃ b', okFrom s b pos = okFrom s b' (pos + (Utf8.decode s pos).2) ∧ Lib.runeCountFrom s b pos = 1 + Lib.runeCountFrom s b' (pos + (Utf8.decode s pos).2) ∧ s.size ≤ pos + (Utf8.decode s pos).2 + b' := by
  have hw := Lib.decode_width_pos s pos hp
  cases b with
  | zero => omega
  | succ b => exact ⟨b, by simp [okFrom, hp, h], by simp [Lib.runeCountFrom, hp], by omega⟩
theorem okFrom_bad {s : ByteArray} {b pos : Nat} (hp : pos < s.size) (hb : s.size ≤ pos + b) (h : okr s pos = false) : okFrom s b pos = false := by
  cases b with
  | zero => omega
  | succ b => simp [okFrom, hp, h]
theorem count_pos {s : ByteArray} (h : 0 < s.size) : 1 ≤ Lib.runeCount s := by
  unfold Lib.runeCount
  obtain ⟨f, hf⟩ : ∃ f, s.size = f + 1 := ⟨s.size - 1, by omega⟩
  rw [hf]
  simp [Lib.runeCountFrom, h]
/-- What a walk over a text has seen. -/
structure Seen (s : ByteArray) (B K : Nat) (w wr : World) (pos b : Nat) : Prop where
  it : wr.heap[K]? = some (.stringIter s pos)
  ok : okFrom s b pos = okFrom s s.size 0
  room : s.size ≤ pos + b
  below : Below B w wr
structure Moved (s : ByteArray) (B K : Nat) (w W : World) (pos : Nat) : Prop where
  it : W.heap[K]? = some (.stringIter s pos)
  below : Below B w W
theorem Seen.moved {s : ByteArray} {B K : Nat} {w wr : World} {pos b pos' : Nat} (h : Seen s B K w wr pos b) (hK : B ≤ K) : Moved s B K w (wr.iterAt K s pos') pos' :=
  ⟨iterAt_heap wr K s pos pos' h.it, below_iterAt h.below hK s pos'⟩
theorem Moved.later {s : ByteArray} {B K : Nat} {w W W' : World} {pos : Nat} (h : Moved s B K w W pos) {C : Nat} (hb : Below C W W') (hC : C = W.heap.size) (hB : B ≤ W.heap.size) : Moved s B K w W' pos :=
  ⟨by rw [hb.block K (by rw [hC]; exact (Array.getElem?_eq_some_iff.1 h.it).1)]; exact h.it, h.below.trans (hb.mono (by omega))⟩
set_option maxHeartbeats 4000000 in
theorem isName_c (s : ByteArray) (hs : s.size ≤ 140737488355328) (w : World) (hT : Hid (Tabs w)) :
    Calls Tryz.prog 36 #[.string s] w fun e w' => e = .returned (.bool (nm s)) ∧ Below w.heap.size w w' := by
  obtain ⟨N, hN⟩ : ∃ N, N = nm s := ⟨_, rfl⟩
  rw [← hN]
  have HN : Hid (N = nm s) := hN
  clear hN
  obtain ⟨B, hB⟩ : ∃ B, B = w.heap.size := ⟨_, rfl⟩
  have HB0 : Hid (B = w.heap.size) := hB
  clear hB
  by_cases h0 : s.size = 0
  · have he : s = ⟨#[]⟩ := by cases s with | mk d => simp [ByteArray.size] at h0; simp [h0]
    have HF : Hid (N = false) := by
      unfold Hid; rw [HN.out, he]; rfl
    subst he
    clear h0 HN
    go_enter Tryz.func36, Tryz.ntmps36
    go_wp2
    go_ret
    exact ⟨ret_boolI HF.out.symm, Below.refl _ _⟩
  · have hne : ¬ s.toList = [] := by
      rw [ByteArray.toList_eq]; intro h; have := congrArg List.length h; rw [← Lib.size_eq] at this; exact h0 this
    have hne2 : s.toList.isEmpty = false := by rw [Bool.eq_false_iff]; intro h; exact hne (List.isEmpty_iff.1 h)
    obtain ⟨V, hV⟩ : ∃ V, V = Lib.validD s.data.toList := ⟨_, rfl⟩
    have HV : Hid (V = Lib.validD s.data.toList) := hV
    obtain ⟨C, hC⟩ : ∃ C : Int, C = Lib.runeCount s := ⟨_, rfl⟩
    have HC : Hid (C = Lib.runeCount s) := hC
    have H0 : Hid (¬ s.size = 0) := h0
    clear hV hC h0
    have cV := valid_c s w (by omega) hT.out V HV
    cases V with
    | false =>
      have HF : Hid (N = false) := by unfold Hid; rw [HN.out]; unfold nm; rw [← HV.out]; rfl
      go_enter Tryz.func36, Tryz.ntmps36
      go_wp2_with (go_at_call 57; refine cV.mono ?_; rintro e w1 ⟨rfl, hb⟩)
      go_ret
      exact ⟨ret_boolI HF.out.symm, hb.out⟩
    | true =>
      have cC := fun w' => count_c s w' (by omega) C HC
      by_cases h40 : 40 < C
      · have HF : Hid (N = false) := by
          unfold Hid; rw [HN.out]; unfold nm; rw [← HV.out]
          have : ¬ Lib.runeCount s ≤ 40 := by have := HC.out; omega
          simp [this]
        go_enter Tryz.func36, Tryz.ntmps36
        go_wp2_with (first | (go_at_call 57; refine cV.mono ?_; rintro e w1 ⟨rfl, hb⟩) | (go_at_call 58; refine (cC _).mono ?_; rintro e w2 ⟨rfl, hb2⟩))
        go_ret
        exact ⟨ret_boolI HF.out.symm, hb.out.trans (hb2.out.mono hb.out.size)⟩
      · have h40' : C ≤ 40 := by omega
        have HF : Hid (N = okFrom s s.size 0) := by
          unfold Hid; rw [HN.out]; unfold nm; rw [← HV.out]
          have h1 : Lib.runeCount s ≤ 40 := by have := HC.out; omega
          have h2 := count_pos (s := s) (by have := H0.out; omega)
          simp [h1, h2]
        clear h40
        go_enter Tryz.func36, Tryz.ntmps36
        go_wp2_with (first | (go_at_call 57; refine cV.mono ?_; rintro e w1 ⟨rfl, hb⟩) | (go_at_call 58; refine (cC _).mono ?_; rintro e w2 ⟨rfl, hb2⟩))
        have HB2 : Hid (Below B w w2) := by rw [HB0.out]; exact hb.out.trans (hb2.out.mono hb.out.size)
        have HBs : Hid (B ≤ w2.heap.size) := by unfold Hid; rw [HB0.out]; exact HB2.out.size
        clear hb hb2 cV cC
        obtain ⟨K, hK⟩ : ∃ K, K = w2.heap.size := ⟨_, rfl⟩
        have HK : Hid (K = w2.heap.size) := hK
        have HS : Hid (Seen s B K w (w2.iter s 0) 0 s.size) := by
          refine ⟨?_, rfl, by omega, HB2.out.alloc HBs.out _⟩
          rw [hK]; exact World.iter_heap w2 s 0
        rw [← hK]
        clear hK
        generalize w2.iter s 0 = w3 at *
        go_loopw [] (fun wr => ∃ pos b : Nat, Hid (Seen s B K w wr pos b)) (fun wr => s.size - wr.iterPos K)
        case atStart => exact ⟨0, s.size, HS⟩
        case round =>
          obtain ⟨pos, b, hs3⟩ := hrel
          clear HS
          by_cases hp : pos < s.size
          · have hnx : ∀ ty, (Instr.next (.pointer (some ⟨K, 0, none⟩)) true ty).run Tryz.prog wr = _ := fun ty => run_next_any_at wr K s pos ty hs3.out.it hp
            have hwd := Lib.decode_width_pos s pos hp
            have hmv := hs3.out.moved (pos' := pos + (Utf8.decode s pos).2) (by rw [HK.out]; exact HBs.out)
            have hrl := decode_le s pos
            have hip : wr.iterPos K = pos := iterPos_of hs3.out.it
            obtain ⟨r, hr⟩ : ∃ r : Int, r = ((Utf8.decode s pos).1 : Int) := ⟨_, rfl⟩
            obtain ⟨p', hp'⟩ : ∃ p', p' = pos + (Utf8.decode s pos).2 := ⟨_, rfl⟩
            obtain ⟨W2, hW2⟩ : ∃ W2, W2 = wr.iterAt K s (pos + (Utf8.decode s pos).2) := ⟨_, rfl⟩
            rw [← hr, ← hW2] at hnx
            rw [← hW2, ← hp'] at hmv
            have hrlo : -2147483648 ≤ r := by omega
            have hrhi : r ≤ 2147483647 := by omega
            obtain ⟨L, hL⟩ : ∃ L, L = isLetterU r := ⟨_, rfl⟩
            obtain ⟨Kr, hKr⟩ : ∃ Kr, Kr = rk L r := ⟨_, rfl⟩
            obtain ⟨D, hD⟩ : ∃ D, D = (decide (48 ≤ r) && decide (r ≤ 57)) := ⟨_, rfl⟩
            have hfk : fk r = (D || r == 36) := by unfold fk; rw [← hD]
            have hok : okr s pos = (Kr && !(pos == 0 && (D || r == 36))) := by unfold okr; rw [← hr, ← hL, ← hKr, hfk]
            have hBW : B ≤ W2.heap.size := Nat.le_trans (by rw [HB0.out]; exact Nat.le_refl _) hmv.below.size
            have hTW : Tabs W2 := hT.out.below hmv.below HB0.out
            have cR := rune_c r W2 hrlo hrhi hTW L Kr hL hKr
            have cD := fun w' => digit_c r w' D hD
            have HM : Hid (Moved s B K w W2 p') := hmv
            have HOK : Hid (okr s pos = (Kr && !(pos == 0 && (D || r == 36)))) := hok
            have HBW : Hid (B ≤ W2.heap.size) := hBW
            have HP' : Hid (p' = pos + (Utf8.decode s pos).2) := hp'
            have HIP : Hid (wr.iterPos K = pos) := hip
            have HWD : Hid (1 ≤ (Utf8.decode s pos).2) := hwd
            clear hr hp' hW2 hL hKr hD hfk hok hBW hTW hmv hip hwd hrl
            cases Kr with
            | false =>
              have HE : Hid (N = false) := by
                unfold Hid; rw [HF.out, ← hs3.out.ok]; exact okFrom_bad hp hs3.out.room (by rw [HOK.out]; rfl)
              go_wp2_with (first | (go_at_call 59; refine cR.mono ?_; rintro e W3 ⟨rfl, hb3⟩) | (go_at_call 60; refine (cD _).mono ?_; rintro e w' ⟨rfl, rfl⟩))
              go_ret
              have hB := HB0.out
              subst hB
              exact ⟨ret_boolI HE.out.symm, (HM.out.later hb3.out rfl HBW.out).below⟩
            | true =>
              by_cases hz : pos = 0
              · have hz1 : ((pos : Int) == 0) = true := by rw [hz]; rfl
                cases D with
                | true =>
                  have HE : Hid (N = false) := by
                    unfold Hid; rw [HF.out, ← hs3.out.ok]; exact okFrom_bad hp hs3.out.room (by rw [HOK.out]; simp [hz])
                  have hz2 := hz
                  clear hz
                  go_wp2_with (first | (go_at_call 59; refine cR.mono ?_; rintro e W3 ⟨rfl, hb3⟩) | (go_at_call 60; refine (cD _).mono ?_; rintro e w' ⟨rfl, rfl⟩))
                  go_ret
                  have hB := HB0.out
                  subst hB
                  exact ⟨ret_boolI HE.out.symm, (HM.out.later hb3.out rfl HBW.out).below⟩
                | false =>
                  by_cases h36 : r = 36
                  · have e36 : (r == 36) = true := by rw [h36]; rfl
                    have HE : Hid (N = false) := by
                      unfold Hid; rw [HF.out, ← hs3.out.ok]; exact okFrom_bad hp hs3.out.room (by rw [HOK.out, e36]; simp [hz])
                    clear h36
                    have hz2 := hz
                    clear hz
                    go_wp2_with (first | (go_at_call 59; refine cR.mono ?_; rintro e W3 ⟨rfl, hb3⟩) | (go_at_call 60; refine (cD _).mono ?_; rintro e w' ⟨rfl, rfl⟩))
                    go_ret
                    have hB := HB0.out
                    subst hB
                    exact ⟨ret_boolI HE.out.symm, (HM.out.later hb3.out rfl HBW.out).below⟩
                  · have e36 : (r == 36) = false := by simp [h36]
                    obtain ⟨b', s1, s2, s3⟩ := okFrom_step hp hs3.out.room (by rw [HOK.out, e36]; simp)
                    rw [← HP'.out] at s1 s2 s3
                    have HS1 : Hid (okFrom s b' p' = okFrom s s.size 0 ∧ s.size ≤ p' + b') := ⟨by rw [← s1]; exact hs3.out.ok, s3⟩
                    clear s1 s2 s3 h36
                    have hz2 := hz
                    clear hz
                    go_wp2_with (first | (go_at_call 59; refine cR.mono ?_; rintro e W3 ⟨rfl, hb3⟩) | (go_at_call 60; refine (cD _).mono ?_; rintro e w' ⟨rfl, rfl⟩))
                    have HM3 : Hid (Moved s B K w W3 p') := HM.out.later hb3.out rfl HBW.out
                    go_roundw
                    case rel => exact ⟨p', b', HM3.out.it, HS1.out.1, HS1.out.2, HM3.out.below⟩
                    case measure =>
                      rw [iterPos_of HM3.out.it, HIP.out, HP'.out]; have := HWD.out; omega
              · have hz1 : ((pos : Int) == 0) = false := by simp; exact hz
                obtain ⟨b', s1, s2, s3⟩ := okFrom_step hp hs3.out.room (by rw [HOK.out]; simp [hz])
                rw [← HP'.out] at s1 s2 s3
                have HS1 : Hid (okFrom s b' p' = okFrom s s.size 0 ∧ s.size ≤ p' + b') := ⟨by rw [← s1]; exact hs3.out.ok, s3⟩
                clear s1 s2 s3
                go_wp2_with (first | (go_at_call 59; refine cR.mono ?_; rintro e W3 ⟨rfl, hb3⟩) | (go_at_call 60; refine (cD _).mono ?_; rintro e w' ⟨rfl, rfl⟩))
                have HM3 : Hid (Moved s B K w W3 p') := HM.out.later hb3.out rfl HBW.out
                go_roundw
                case rel => exact ⟨p', b', HM3.out.it, HS1.out.1, HS1.out.2, HM3.out.below⟩
                case measure =>
                  rw [iterPos_of HM3.out.it, HIP.out, HP'.out]; have := HWD.out; omega
          · have hnx : ∀ ty, (Instr.next (.pointer (some ⟨K, 0, none⟩)) true ty).run Tryz.prog wr = _ := fun ty => run_next_end_at wr K s pos ty hs3.out.it hp
            have HE : Hid (N = true) := by unfold Hid; rw [HF.out, ← hs3.out.ok]; exact okFrom_end s b pos hp
            go_wp2
            go_ret
            have hB := HB0.out
            subst hB
            exact ⟨ret_boolI HE.out.symm, hs3.out.below⟩
end Go.Proofs.YtopddflnahfomaaGreatDoor
namespace Go.Proofs.YtopddflnahfomaaGreatDoor
set_option linter.unusedVariables false
open Go.ChangeShapes Go.WideShapes Go.ChangeAt Go.RowKit Go.Deep
theorem wid4 (s : ByteArray) (i : Nat) : (Utf8.decode s i).2 ≤ 4 := by
  unfold Utf8.decode
  dsimp only
  repeat' split
  all_goals first | omega | (dsimp only; omega)
theorem runes_room (s : ByteArray) : ∀ f pos, s.size ≤ pos + f → s.size ≤ pos + 4 * Lib.runeCountFrom s f pos
  | 0, pos, h => by omega
  | f + 1, pos, h => by
    unfold Lib.runeCountFrom
    split
    · rename_i hp
      have h1 := Lib.decode_width_pos s pos hp
      have h4 := wid4 s pos
      have ih := runes_room s f (pos + (Utf8.decode s pos).2) (by omega)
      omega
    · omega
/-- A name has no more than 160 bytes. -/
theorem nm_room {s : ByteArray} (h : nm s = true) : s.size ≤ 160 := by
  unfold nm at h
  simp only [Bool.and_eq_true, decide_eq_true_eq] at h
  have q := runes_room s s.size 0 (by omega)
  have h4 := h.2.2.2
  unfold Lib.runeCount at h4
  omega
/-- The text from a place on, up to a byte 0. -/
def txT (T : List Int) (o : Nat) : List Int := (T.drop o).take (fz (T.drop o)).toNat
/-- An entry of the table: none: it has no text; some none: it is passed over; or its name. -/
def enE (b T : List Int) (y : Nat) : Option (Option Sy) :=
  if T.length ≤ vl b y 4 ∨ fz (T.drop (vl b y 4)) < 0 then none
  else if (b.getD (y + 4) 0).toNat % 16 = 3 ∨ (b.getD (y + 4) 0).toNat % 16 = 4 ∨ vl b (y + 6) 2 = 0 ∨ nm (strOfNums (txT T (vl b y 4))) = false then some none
  else some (some ⟨strOfNums (txT T (vl b y 4)), BitVec.ofNat 64 (vl b (y + 8) 8)⟩)
/-- One entry more. -/
def nmS (b T : List Int) (y : Nat) (r : List Sy × Flt) : List Sy × Flt :=
  if r.2.isSome then r else (enE b T y).elim (r.1, some (y, 25)) (fun o => o.elim r (fun x => if r.1.any (eqS x) then r else if r.1.length = 400 then (r.1, some (y, 2)) else (r.1 ++ [x], none)))
/-- The names of the first i entries behind the first one, and the first fault. -/
def nmL (b T : List Int) (A : Nat) : Nat → List Sy × Flt
  | 0 => ([], none)
  | i + 1 => nmS b T (A + 24 * (i + 1)) (nmL b T A i)
theorem nmL_succ (b T : List Int) (A i : Nat) : nmL b T A (i + 1) = nmS b T (A + 24 * (i + 1)) (nmL b T A i) := rfl
theorem nmL_bad {b T : List Int} {A i : Nat} {l : List Sy} (h : nmL b T A i = (l, none)) (he : enE b T (A + 24 * (i + 1)) = none) : nmL b T A (i + 1) = (l, some (A + 24 * (i + 1), 25)) := by
  rw [nmL_succ, h]; unfold nmS; rw [if_neg (by simp), he]; rfl
theorem nmL_pass {b T : List Int} {A i : Nat} {l : List Sy} (h : nmL b T A i = (l, none)) (he : enE b T (A + 24 * (i + 1)) = some none) : nmL b T A (i + 1) = (l, none) := by
  rw [nmL_succ, h]; unfold nmS; rw [if_neg (by simp), he]; rfl
theorem nmL_had {b T : List Int} {A i : Nat} {l : List Sy} {x : Sy} (h : nmL b T A i = (l, none)) (he : enE b T (A + 24 * (i + 1)) = some (some x)) (ha : l.any (eqS x) = true) : nmL b T A (i + 1) = (l, none) := by
  rw [nmL_succ, h]; unfold nmS; rw [if_neg (by simp), he]; simp only [Option.elim_some]; rw [if_pos ha]
theorem nmL_many {b T : List Int} {A i : Nat} {l : List Sy} {x : Sy} (h : nmL b T A i = (l, none)) (he : enE b T (A + 24 * (i + 1)) = some (some x)) (ha : l.any (eqS x) = false) (hm : l.length = 400) : nmL b T A (i + 1) = (l, some (A + 24 * (i + 1), 2)) := by
  rw [nmL_succ, h]; unfold nmS; rw [if_neg (by simp), he]; simp only [Option.elim_some]; rw [if_neg (by simp [ha]), if_pos hm]
theorem nmL_add {b T : List Int} {A i : Nat} {l : List Sy} {x : Sy} (h : nmL b T A i = (l, none)) (he : enE b T (A + 24 * (i + 1)) = some (some x)) (ha : l.any (eqS x) = false) (hm : ¬ l.length = 400) : nmL b T A (i + 1) = (l ++ [x], none) := by
  rw [nmL_succ, h]; unfold nmS; rw [if_neg (by simp), he]; simp only [Option.elim_some]; rw [if_neg (by simp [ha]), if_neg hm]
theorem nmL_stop {b T : List Int} {A i : Nat} {l : List Sy} {F : Nat × Nat} (h : nmL b T A i = (l, some F)) : ∀ n, i ≤ n → nmL b T A n = (l, some F) := by
  intro n hn
  induction n with
  | zero =>
    obtain rfl : i = 0 := by omega
    exact h
  | succ n ih =>
    by_cases e : i = n + 1
    · rw [← e]; exact h
    · rw [nmL_succ, ih (by omega)]; unfold nmS; rw [if_pos (by rfl)]
/-- What comes of one entry more, in four ways. -/
theorem nmL_cases {b T : List Int} {A i : Nat} {l : List Sy} {f : Flt} (h : nmL b T A i = (l, f)) : (∃ F, nmL b T A (i + 1) = (l, F)) ∨ (∃ x, l.any (eqS x) = false ∧ ¬ l.length = 400 ∧ nmL b T A (i + 1) = (l ++ [x], none)) := by
  cases f with
  | some F => exact .inl ⟨_, nmL_stop h _ (Nat.le_succ _)⟩
  | none =>
    cases he : enE b T (A + 24 * (i + 1)) with
    | none => exact .inl ⟨_, nmL_bad h he⟩
    | some o =>
      cases o with
      | none => exact .inl ⟨_, nmL_pass h he⟩
      | some x =>
        cases ha : l.any (eqS x) with
        | true => exact .inl ⟨_, nmL_had h he ha⟩
        | false =>
          by_cases hm : l.length = 400
          · exact .inl ⟨_, nmL_many h he ha hm⟩
          · exact .inr ⟨x, ha, hm, nmL_add h he ha hm⟩
theorem nmL_len (b T : List Int) (A : Nat) : ∀ i, (nmL b T A i).1.length ≤ 400
  | 0 => by simp [nmL]
  | i + 1 => by
    have ih := nmL_len b T A i
    obtain ⟨l, f, hf⟩ : ∃ l f, nmL b T A i = (l, f) := ⟨_, _, rfl⟩
    rw [hf] at ih
    rcases nmL_cases hf with ⟨F, q⟩ | ⟨x, _, h4, q⟩
    · rw [q]; exact ih
    · rw [q]; simp at ih ⊢; omega
theorem eqS_iff {x y : Sy} : eqS x y = true ↔ x = y := by
  unfold eqS
  rw [Bool.and_eq_true, beq_iff_eq, beq_iff_eq]
  constructor
  · rintro ⟨h1, h2⟩
    cases x with | mk s v =>
    cases y with | mk t u =>
    have e1 : s = t := by
      rw [ByteArray.toList_eq, ByteArray.toList_eq] at h1
      cases s with | mk sd =>
      cases t with | mk td =>
      have : sd = td := Array.toList_inj.1 h1
      rw [this]
    have e2 : v = u := by
      dsimp only [n64] at h2
      exact BitVec.eq_of_toNat_eq (by omega)
    rw [e1, e2]
  · rintro rfl; exact ⟨rfl, rfl⟩
/-- No name is kept twice. -/
theorem nmL_apart (b T : List Int) (A : Nat) : ∀ i, (nmL b T A i).1.Nodup
  | 0 => by simp [nmL]
  | i + 1 => by
    have ih := nmL_apart b T A i
    obtain ⟨l, f, hf⟩ : ∃ l f, nmL b T A i = (l, f) := ⟨_, _, rfl⟩
    rw [hf] at ih
    rcases nmL_cases hf with ⟨F, q⟩ | ⟨x, h1, _, q⟩
    · rw [q]; exact ih
    · rw [q]
      refine List.nodup_append.2 ⟨ih, List.nodup_cons.2 ⟨by simp, List.nodup_nil⟩, fun a ha y hy e => ?_⟩
      rw [List.mem_singleton.1 hy] at e
      rw [List.any_eq_false] at h1
      exact h1 a ha (eqS_iff.2 e.symm)
/-- Names in an image's order. -/
def nSrt (l : List Sy) : List Sy := l.mergeSort (fun x y => !ahS y x)
theorem ahS_anti {x y : Sy} (h1 : ahS x y = false) (h2 : ahS y x = false) : x = y := by
  rw [ahS_no] at h1 h2
  have hv : x.v.toNat = y.v.toNat := by omega
  have g1 : ¬ x.s.toList < y.s.toList := by rcases h1 with q | q; omega; exact q.2
  have g2 : ¬ y.s.toList < x.s.toList := by rcases h2 with q | q; omega; exact q.2
  rw [List.not_lt] at g1 g2
  have e := List.le_antisymm g2 g1
  refine eqS_iff.1 ?_
  unfold eqS
  rw [Bool.and_eq_true, beq_iff_eq, beq_iff_eq]
  exact ⟨e, by unfold n64; rw [hv]⟩
theorem ahS_total (x y : Sy) : ahS x y = false ∨ ahS y x = false := by
  rw [ahS_no, ahS_no]
  rcases Nat.lt_trichotomy x.v.toNat y.v.toNat with q | q | q
  · exact .inr (.inl q)
  · by_cases h : x.s.toList < y.s.toList
    · exact .inr (.inr ⟨q.symm, fun g => List.lt_irrefl _ (List.lt_trans h g)⟩)
    · exact .inl (.inr ⟨q, h⟩)
  · exact .inl (.inl q)
theorem ahS_trans {x y z : Sy} (h1 : ahS y x = false) (h2 : ahS z y = false) : ahS z x = false := by
  rw [ahS_no] at *
  rcases h1 with h1 | ⟨h1, g1⟩ <;> rcases h2 with h2 | ⟨h2, g2⟩
  · left; omega
  · left; omega
  · left; omega
  · refine .inr ⟨by omega, ?_⟩
    rw [List.not_lt] at *; exact List.le_trans g1 g2
theorem nSrt_pair (l : List Sy) : (nSrt l).Pairwise (fun x y => ahS y x = false) := by
  have q := List.pairwise_mergeSort (le := fun x y : Sy => !ahS y x) (fun a b c h1 h2 => by simp at *; exact ahS_trans h1 h2) (fun a b => by have := ahS_total b a; simp; exact this) l
  exact q.imp (fun h => by simpa using h)
/-- There is one such order. -/
theorem nSrt_unique {l l' : List Sy} (hp : l'.Perm l) (hs : l'.Pairwise (fun x y => ahS y x = false)) : l' = nSrt l :=
  List.Perm.eq_of_pairwise (le := fun x y => ahS y x = false) (fun a b ha hb h1 h2 => ahS_anti h2 h1) hs (nSrt_pair l) (hp.trans (List.mergeSort_perm _ _).symm)
/-- The faults of a table ahead of its entries. -/
def tbF (b : List Int) (P K H : Nat) : Flt :=
  if vl b (H + 56) 8 ≠ 24 then some (H + 56, 25) else if vl b (H + 32) 8 % 24 ≠ 0 then some (H + 32, 25) else if ¬ room b (vl b (H + 24) 8) (vl b (H + 32) 8) then some (H + 24, 20) else txF b P K H
/-- The names of a table, in the file's order, and its first fault. -/
def tnR (b : List Int) (P K H : Nat) : List Sy × Flt :=
  if (tbF b P K H).isSome then ([], tbF b P K H) else nmL b (txB b P H) (vl b (H + 24) 8) (vl b (H + 32) 8 / 24 - 1)
/-- The first section of r from i on that is a table. -/
def frT (b : List Int) (P : Nat) : Nat → Nat → Option Nat
  | 0, _ => none
  | r + 1, i => if vl b (P + 64 * i + 4) 4 = 2 then some i else frT b P r (i + 1)
/-- The names of a file, in its order, and the first fault of them. -/
def nsQ (b : List Int) (K P Z : Nat) : List Sy × Flt :=
  if K = 0 ∨ P = 0 then ([], none) else if Z ≠ 64 then ([], some (58, 22)) else if ¬ room b P (64 * K) then ([], some (40, 20))
  else (frT b P K 0).elim ([], none) (fun i => tnR b P K (P + 64 * i))
def nsR (b : List Int) : List Sy × Flt := nsQ b (vl b 60 2) (vl b 40 8) (vl b 58 2)
theorem tnR_len (b : List Int) (P K H : Nat) : (tnR b P K H).1.length ≤ 400 := by
  unfold tnR
  split
  · simp
  · exact nmL_len _ _ _ _
theorem tnR_apart (b : List Int) (P K H : Nat) : (tnR b P K H).1.Nodup := by
  unfold tnR
  split
  · simp
  · exact nmL_apart _ _ _ _
theorem ite_len {c : Prop} [Decidable c] {x y : List Sy × Flt} (hx : x.1.length ≤ 400) (hy : y.1.length ≤ 400) : (if c then x else y).1.length ≤ 400 := by split <;> assumption
theorem none_len (f : Flt) : (([], f) : List Sy × Flt).1.length ≤ 400 := Nat.zero_le _
theorem elim_len (b : List Int) (P K : Nat) (f : Option Nat) : (f.elim ([], none) (fun i => tnR b P K (P + 64 * i))).1.length ≤ 400 := by
  cases f with
  | none => rw [Option.elim_none]; exact none_len _
  | some i => rw [Option.elim_some]; exact tnR_len b P K (P + 64 * i)
theorem nsQ_len (b : List Int) (K P Z : Nat) : (nsQ b K P Z).1.length ≤ 400 := by
  unfold nsQ
  exact ite_len (none_len _) (ite_len (none_len _) (ite_len (none_len _) (elim_len b P K _)))
theorem nsR_len (b : List Int) : (nsR b).1.length ≤ 400 := by
  unfold nsR
  exact nsQ_len b _ _ _
end Go.Proofs.YtopddflnahfomaaGreatDoor
