/-
  Irj Irr.
-/
import Derived.Test.YtheeogbmljjbdaaGreatDoorM10
import Derived.Test.YtheeogbmljjbdaaGreatDoorM13
import Derived.Test.YtheeogbmljjbdaaGreatDoorM14
import Derived.Test.YtheeogbmljjbdaaGreatDoorM09
import Derived.Laws.BytesArg
namespace Go.Proofs.YtheeogbmljjbdaaGreatDoor
set_option linter.unusedVariables false
open Go.ChangeShapes Go.WideShapes Go.ChangeAt Go.RowKit Go.Deep
theorem wid4 (s : ByteArray) (i : Nat) : (Utf8.decode s i).2 ≤ 4 := by
  unfold Utf8.decode
  dsimp only
  repeat' split
  all_goals first | omega | (dsimp only; omega)
theorem runes_room (s : ByteArray) : ∀ f pos, s.size ≤ pos + f → s.size ≤ pos + 4 * Lib.runeCountFrom s f pos
  | 0, pos, h => by omega
  | f + 1, pos, h => by
    unfold Lib.runeCountFrom
    split
    · rename_i hp
      have h1 := Lib.decode_width_pos s pos hp
      have h4 := wid4 s pos
      have ih := runes_room s f (pos + (Utf8.decode s pos).2) (by omega)
      omega
    · omega
/-- A name has no more than 160 bytes. -/
theorem nm_room {s : ByteArray} (h : nm s = true) : s.size ≤ 160 := by
  unfold nm at h
  simp only [Bool.and_eq_true, decide_eq_true_eq] at h
  have q := runes_room s s.size 0 (by omega)
  have h4 := h.2.2.2
  unfold Lib.runeCount at h4
  omega
/-- The text from a place on, up to a byte 0. -/
def txT (T : List Int) (o : Nat) : List Int := (T.drop o).take (fz (T.drop o)).toNat
/-- An entry of the table: none: it has no text; some none: it is passed over; or its name. -/
def enE (b T : List Int) (y : Nat) : Option (Option Sy) :=
  if T.length ≤ vl b y 4 ∨ fz (T.drop (vl b y 4)) < 0 then none
  else if (b.getD (y + 4) 0).toNat % 16 = 3 ∨ (b.getD (y + 4) 0).toNat % 16 = 4 ∨ vl b (y + 6) 2 = 0 ∨ nm (strOfNums (txT T (vl b y 4))) = false then some none
  else some (some ⟨strOfNums (txT T (vl b y 4)), BitVec.ofNat 64 (vl b (y + 8) 8)⟩)
/-- One entry more. -/
def nmS (b T : List Int) (y : Nat) (r : List Sy × Flt) : List Sy × Flt :=
  if r.2.isSome then r else (enE b T y).elim (r.1, some (y, 25)) (fun o => o.elim r (fun x => if r.1.any (eqS x) then r else if r.1.length = 400 then (r.1, some (y, 2)) else (r.1 ++ [x], none)))
/-- The names of the first i entries behind the first one, and the first fault. -/
def nmL (b T : List Int) (A : Nat) : Nat → List Sy × Flt
  | 0 => ([], none)
  | i + 1 => nmS b T (A + 24 * (i + 1)) (nmL b T A i)
theorem nmL_succ (b T : List Int) (A i : Nat) : nmL b T A (i + 1) = nmS b T (A + 24 * (i + 1)) (nmL b T A i) := rfl
theorem nmL_bad {b T : List Int} {A i : Nat} {l : List Sy} (h : nmL b T A i = (l, none)) (he : enE b T (A + 24 * (i + 1)) = none) : nmL b T A (i + 1) = (l, some (A + 24 * (i + 1), 25)) := by
  rw [nmL_succ, h]; unfold nmS; rw [if_neg (by simp), he]; rfl
theorem nmL_pass {b T : List Int} {A i : Nat} {l : List Sy} (h : nmL b T A i = (l, none)) (he : enE b T (A + 24 * (i + 1)) = some none) : nmL b T A (i + 1) = (l, none) := by
  rw [nmL_succ, h]; unfold nmS; rw [if_neg (by simp), he]; rfl
theorem nmL_had {b T : List Int} {A i : Nat} {l : List Sy} {x : Sy} (h : nmL b T A i = (l, none)) (he : enE b T (A + 24 * (i + 1)) = some (some x)) (ha : l.any (eqS x) = true) : nmL b T A (i + 1) = (l, none) := by
  rw [nmL_succ, h]; unfold nmS; rw [if_neg (by simp), he]; simp only [Option.elim_some]; rw [if_pos ha]
theorem nmL_many {b T : List Int} {A i : Nat} {l : List Sy} {x : Sy} (h : nmL b T A i = (l, none)) (he : enE b T (A + 24 * (i + 1)) = some (some x)) (ha : l.any (eqS x) = false) (hm : l.length = 400) : nmL b T A (i + 1) = (l, some (A + 24 * (i + 1), 2)) := by
  rw [nmL_succ, h]; unfold nmS; rw [if_neg (by simp), he]; simp only [Option.elim_some]; rw [if_neg (by simp [ha]), if_pos hm]
theorem nmL_add {b T : List Int} {A i : Nat} {l : List Sy} {x : Sy} (h : nmL b T A i = (l, none)) (he : enE b T (A + 24 * (i + 1)) = some (some x)) (ha : l.any (eqS x) = false) (hm : ¬ l.length = 400) : nmL b T A (i + 1) = (l ++ [x], none) := by
  rw [nmL_succ, h]; unfold nmS; rw [if_neg (by simp), he]; simp only [Option.elim_some]; rw [if_neg (by simp [ha]), if_neg hm]
theorem nmL_stop {b T : List Int} {A i : Nat} {l : List Sy} {F : Nat × Nat} (h : nmL b T A i = (l, some F)) : ∀ n, i ≤ n → nmL b T A n = (l, some F) := by
  intro n hn
  induction n with
  | zero =>
    obtain rfl : i = 0 := by omega
    exact h
  | succ n ih =>
    by_cases e : i = n + 1
    · rw [← e]; exact h
    · rw [nmL_succ, ih (by omega)]; unfold nmS; rw [if_pos (by rfl)]
/-- What comes of one entry more, in four ways. -/
theorem nmL_cases {b T : List Int} {A i : Nat} {l : List Sy} {f : Flt} (h : nmL b T A i = (l, f)) : (∃ F, nmL b T A (i + 1) = (l, F)) ∨ (∃ x, l.any (eqS x) = false ∧ ¬ l.length = 400 ∧ nmL b T A (i + 1) = (l ++ [x], none)) := by
  cases f with
  | some F => exact .inl ⟨_, nmL_stop h _ (Nat.le_succ _)⟩
  | none =>
    cases he : enE b T (A + 24 * (i + 1)) with
    | none => exact .inl ⟨_, nmL_bad h he⟩
    | some o =>
      cases o with
      | none => exact .inl ⟨_, nmL_pass h he⟩
      | some x =>
        cases ha : l.any (eqS x) with
        | true => exact .inl ⟨_, nmL_had h he ha⟩
        | false =>
          by_cases hm : l.length = 400
          · exact .inl ⟨_, nmL_many h he ha hm⟩
          · exact .inr ⟨x, ha, hm, nmL_add h he ha hm⟩
theorem nmL_len (b T : List Int) (A : Nat) : ∀ i, (nmL b T A i).1.length ≤ 400
  | 0 => by simp [nmL]
  | i + 1 => by
    have ih := nmL_len b T A i
    obtain ⟨l, f, hf⟩ : ∃ l f, nmL b T A i = (l, f) := ⟨_, _, rfl⟩
    rw [hf] at ih
    rcases nmL_cases hf with ⟨F, q⟩ | ⟨x, _, h4, q⟩
    · rw [q]; exact ih
    · rw [q]; simp at ih ⊢; omega
theorem eqS_iff {x y : Sy} : eqS x y = true ↔ x = y := by
  unfold eqS
  rw [Bool.and_eq_true, beq_iff_eq, beq_iff_eq]
  constructor
  · rintro ⟨h1, h2⟩
    cases x with | mk s v =>
    cases y with | mk t u =>
    have e1 : s = t := by
      rw [ByteArray.toList_eq, ByteArray.toList_eq] at h1
      cases s with | mk sd =>
      cases t with | mk td =>
      have : sd = td := Array.toList_inj.1 h1
      rw [this]
    have e2 : v = u := by
      dsimp only [n64] at h2
      exact BitVec.eq_of_toNat_eq (by omega)
    rw [e1, e2]
  · rintro rfl; exact ⟨rfl, rfl⟩
/-- No name is kept twice. -/
theorem nmL_apart (b T : List Int) (A : Nat) : ∀ i, (nmL b T A i).1.Nodup
  | 0 => by simp [nmL]
  | i + 1 => by
    have ih := nmL_apart b T A i
    obtain ⟨l, f, hf⟩ : ∃ l f, nmL b T A i = (l, f) := ⟨_, _, rfl⟩
    rw [hf] at ih
    rcases nmL_cases hf with ⟨F, q⟩ | ⟨x, h1, _, q⟩
    · rw [q]; exact ih
    · rw [q]
      refine List.nodup_append.2 ⟨ih, List.nodup_cons.2 ⟨by simp, List.nodup_nil⟩, fun a ha y hy e => ?_⟩
      rw [List.mem_singleton.1 hy] at e
      rw [List.any_eq_false] at h1
      exact h1 a ha (eqS_iff.2 e.symm)
/-- Names in an image's order. -/
def nSrt (l : List Sy) : List Sy := l.mergeSort (fun x y => !ahS y x)
theorem ahS_anti {x y : Sy} (h1 : ahS x y = false) (h2 : ahS y x = false) : x = y := by
  rw [ahS_no] at h1 h2
  have hv : x.v.toNat = y.v.toNat := by omega
  have g1 : ¬ x.s.toList < y.s.toList := by rcases h1 with q | q; omega; exact q.2
  have g2 : ¬ y.s.toList < x.s.toList := by rcases h2 with q | q; omega; exact q.2
  rw [List.not_lt] at g1 g2
  have e := List.le_antisymm g2 g1
  refine eqS_iff.1 ?_
  unfold eqS
  rw [Bool.and_eq_true, beq_iff_eq, beq_iff_eq]
  exact ⟨e, by unfold n64; rw [hv]⟩
theorem ahS_total (x y : Sy) : ahS x y = false ∨ ahS y x = false := by
  rw [ahS_no, ahS_no]
  rcases Nat.lt_trichotomy x.v.toNat y.v.toNat with q | q | q
  · exact .inr (.inl q)
  · by_cases h : x.s.toList < y.s.toList
    · exact .inr (.inr ⟨q.symm, fun g => List.lt_irrefl _ (List.lt_trans h g)⟩)
    · exact .inl (.inr ⟨q, h⟩)
  · exact .inl (.inl q)
theorem ahS_trans {x y z : Sy} (h1 : ahS y x = false) (h2 : ahS z y = false) : ahS z x = false := by
  rw [ahS_no] at *
  rcases h1 with h1 | ⟨h1, g1⟩ <;> rcases h2 with h2 | ⟨h2, g2⟩
  · left; omega
  · left; omega
  · left; omega
  · refine .inr ⟨by omega, ?_⟩
    rw [List.not_lt] at *; exact List.le_trans g1 g2
theorem nSrt_pair (l : List Sy) : (nSrt l).Pairwise (fun x y => ahS y x = false) := by
  have q := List.pairwise_mergeSort (le := fun x y : Sy => !ahS y x) (fun a b c h1 h2 => by simp at *; exact ahS_trans h1 h2) (fun a b => by have := ahS_total b a; simp; exact this) l
  exact q.imp (fun h => by simpa using h)
/-- There is one such order. -/
theorem nSrt_unique {l l' : List Sy} (hp : l'.Perm l) (hs : l'.Pairwise (fun x y => ahS y x = false)) : l' = nSrt l :=
  List.Perm.eq_of_pairwise (le := fun x y => ahS y x = false) (fun a b ha hb h1 h2 => ahS_anti h2 h1) hs (nSrt_pair l) (hp.trans (List.mergeSort_perm _ _).symm)
/-- The faults of a table ahead of its entries. -/
def tbF (b : List Int) (P K H : Nat) : Flt :=
  if vl b (H + 56) 8 ≠ 24 then some (H + 56, 25) else if vl b (H + 32) 8 % 24 ≠ 0 then some (H + 32, 25) else if ¬ room b (vl b (H + 24) 8) (vl b (H + 32) 8) then some (H + 24, 20) else txF b P K H
/-- The names of a table, in the file's order, and its first fault. -/
def tnR (b : List Int) (P K H : Nat) : List Sy × Flt :=
  if (tbF b P K H).isSome then ([], tbF b P K H) else nmL b (txB b P H) (vl b (H + 24) 8) (vl b (H + 32) 8 / 24 - 1)
/-- The first section of r from i on that is a table. -/
def frT (b : List Int) (P : Nat) : Nat → Nat → Option Nat
  | 0, _ => none
  | r + 1, i => if vl b (P + 64 * i + 4) 4 = 2 then some i else frT b P r (i + 1)
/-- The names of a file, in its order, and the first fault of them. -/
def nsQ (b : List Int) (K P Z : Nat) : List Sy × Flt :=
  if K = 0 ∨ P = 0 then ([], none) else if Z ≠ 64 then ([], some (58, 22)) else if ¬ room b P (64 * K) then ([], some (40, 20))
  else (frT b P K 0).elim ([], none) (fun i => tnR b P K (P + 64 * i))
def nsR (b : List Int) : List Sy × Flt := nsQ b (vl b 60 2) (vl b 40 8) (vl b 58 2)
theorem tnR_len (b : List Int) (P K H : Nat) : (tnR b P K H).1.length ≤ 400 := by
  unfold tnR
  split
  · simp
  · exact nmL_len _ _ _ _
theorem tnR_apart (b : List Int) (P K H : Nat) : (tnR b P K H).1.Nodup := by
  unfold tnR
  split
  · simp
  · exact nmL_apart _ _ _ _
theorem ite_len {c : Prop} [Decidable c] {x y : List Sy × Flt} (hx : x.1.length ≤ 400) (hy : y.1.length ≤ 400) : (if c then x else y).1.length ≤ 400 := by split <;> assumption
theorem none_len (f : Flt) : (([], f) : List Sy × Flt).1.length ≤ 400 := Nat.zero_le _
theorem elim_len (b : List Int) (P K : Nat) (f : Option Nat) : (f.elim ([], none) (fun i => tnR b P K (P + 64 * i))).1.length ≤ 400 := by
  cases f with
  | none => rw [Option.elim_none]; exact none_len _
  | some i => rw [Option.elim_some]; exact tnR_len b P K (P + 64 * i)
theorem nsQ_len (b : List Int) (K P Z : Nat) : (nsQ b K P Z).1.length ≤ 400 := by
  unfold nsQ
  exact ite_len (none_len _) (ite_len (none_len _) (ite_len (none_len _) (elim_len b P K _)))
theorem nsR_len (b : List Int) : (nsR b).1.length ≤ 400 := by
  unfold nsR
  exact nsQ_len b _ _ _
end Go.Proofs.YtheeogbmljjbdaaGreatDoor
namespace Go.Proofs.YtheeogbmljjbdaaGreatDoor
set_option linter.unusedVariables false
open Go.ChangeShapes Go.WideShapes Go.ChangeAt Go.RowKit Go.Deep
theorem Byt.conv {w : World} {v : Value} {l : List Int} (h : Byt w v l) : (convert 31 9 v).run Tryz.prog w = .ok (.string (strOfNums l)) w := by
  obtain ⟨a, cap, rfl, h1, h1', h2⟩ := h
  by_cases hl : l = []
  · subst hl
    cases a with
    | none => exact run_convert_bytes_nil (P := Tryz.prog) w 31 5 Tryz.underlying31 Tryz.underlying5 _ _ _ Tryz.underlying9
    | some ad =>
      rw [run_convert_bytes_string w 31 9 5 _ _ _ Tryz.underlying31 Tryz.underlying5 Tryz.underlying9]
      exact run_bytesToString w ad 0 cap [] (by have := run_loadCells_list (P := Tryz.prog) w ad [] (fun j v hj => by simp at hj); simpa using this)
  · obtain ⟨g, off, rfl, h3, h4⟩ := h2 hl
    exact run_convert_bytes_arg w 31 5 Tryz.underlying31 Tryz.underlying5 g off l.length cap l rfl h4 _ Tryz.underlying9
theorem str_size (l : List Int) : (strOfNums l).size = l.length := by
  show ((l.map fun n => UInt8.ofNat n.toNat).toArray).size = _
  simp
/-- x[lo:], where something is behind lo. -/
theorem slice_lo (W : World) (g off len cap l : Nat) (hl : l < len) (hc : len ≤ cap) :
    (Instr.slice 31 (.slice (some ⟨g, off, none⟩) len cap) (some (.int .u64 (l : Int))) none none).run Tryz.prog W = .ok (.slice (some ⟨g, off + l, none⟩) (len - l) (cap - l)) W := by
  have he : Tryz.prog.elem 31 = 5 := by kernel_rfl
  have ht' : Tryz.prog.underlying 31 = some (.slice (Tryz.prog.elem 31)) := by rw [he]; exact Tryz.underlying31
  have hz : ∀ w, (Go.sizeOf 5).run Tryz.prog w = .ok 1 w := fun w => by kernel_rfl
  rw [run_slice_l W _ _ _ _ ht' .u64 _ (by omega) (by omega), he, hz]
  have e1 : ((l : Int)).toNat = l := by omega
  rw [e1]
  have e2 : ¬ cap = l := by omega
  simp [Result.andThen, sliced, e2, addAt]
theorem and_u8_15 {v : Int} (h0 : 0 ≤ v) (h1 : v ≤ 255) : bits .and .u8 v 15 = ((v.toNat % 16 : Nat) : Int) := by
  have : ∀ n : Nat, n < 256 → bits .and .u8 (n : Int) 15 = ((n % 16 : Nat) : Int) := by decide +kernel
  have q := this v.toNat (by omega)
  rw [show ((v.toNat : Nat) : Int) = v by omega] at q
  exact q
/-- A row and a slot handed back. -/
theorem results_rs {P : Program} {fn : Func} {p q : Tmp} {ty : TypeId} (h : fn.results = #[.cell p ty, .tmp q]) (tmps : Array Value) (w : World) (g : Nat) (t : TypeId) (cs : Array Value) (fr : Nat × Nat) (d : TypeDesc) (v : Value)
    (hp : tmps.getD p undef = .pointer (some ⟨g, 0, none⟩)) (hq : tmps.getD q undef = v) (hg : w.heap[g]? = some (.cells cs t fr))
    (hu : P.underlying ty = some d) (hd : (match d with | .struct _ | .array _ _ => true | _ => false) = true) (hi : (P.info? ty).map (·.size) = some cs.size) :
    (results fn tmps).run P w = .ok (.tuple #[.agg cs, v]) w := by
  have hp' : tmps[p]?.getD undef = .pointer (some ⟨g, 0, none⟩) := by simpa using hp
  have hq' : tmps[q]?.getD undef = v := by simpa using hq
  simp [results, h, hp', hq', asAddr, run_loadVar_row w g t ty cs fr d hg hu hd hi]
/-- A slot and a row handed back. -/
theorem results_sr {P : Program} {fn : Func} {p q : Tmp} {ty : TypeId} (h : fn.results = #[.tmp q, .cell p ty]) (tmps : Array Value) (w : World) (g : Nat) (t : TypeId) (cs : Array Value) (fr : Nat × Nat) (d : TypeDesc) (v : Value)
    (hp : tmps.getD p undef = .pointer (some ⟨g, 0, none⟩)) (hq : tmps.getD q undef = v) (hg : w.heap[g]? = some (.cells cs t fr))
    (hu : P.underlying ty = some d) (hd : (match d with | .struct _ | .array _ _ => true | _ => false) = true) (hi : (P.info? ty).map (·.size) = some cs.size) :
    (results fn tmps).run P w = .ok (.tuple #[v, .agg cs]) w := by
  have hp' : tmps[p]?.getD undef = .pointer (some ⟨g, 0, none⟩) := by simpa using hp
  have hq' : tmps[q]?.getD undef = v := by simpa using hq
  simp [results, h, hp', hq', asAddr, run_loadVar_row w g t ty cs fr d hg hu hd hi]
/-- Four slots and a row handed back. -/
theorem results_ssssr {P : Program} {fn : Func} {p q1 q2 q3 q4 : Tmp} {ty : TypeId} (h : fn.results = #[.tmp q1, .tmp q2, .tmp q3, .tmp q4, .cell p ty]) (tmps : Array Value) (w : World) (g : Nat) (t : TypeId) (cs : Array Value) (fr : Nat × Nat) (d : TypeDesc) (v1 v2 v3 v4 : Value)
    (hp : tmps.getD p undef = .pointer (some ⟨g, 0, none⟩)) (h1 : tmps.getD q1 undef = v1) (h2 : tmps.getD q2 undef = v2) (h3 : tmps.getD q3 undef = v3) (h4 : tmps.getD q4 undef = v4) (hg : w.heap[g]? = some (.cells cs t fr))
    (hu : P.underlying ty = some d) (hd : (match d with | .struct _ | .array _ _ => true | _ => false) = true) (hi : (P.info? ty).map (·.size) = some cs.size) :
    (results fn tmps).run P w = .ok (.tuple #[v1, v2, v3, v4, .agg cs]) w := by
  have hp' : tmps[p]?.getD undef = .pointer (some ⟨g, 0, none⟩) := by simpa using hp
  have h1' : tmps[q1]?.getD undef = v1 := by simpa using h1
  have h2' : tmps[q2]?.getD undef = v2 := by simpa using h2
  have h3' : tmps[q3]?.getD undef = v3 := by simpa using h3
  have h4' : tmps[q4]?.getD undef = v4 := by simpa using h4
  simp [results, h, hp', h1', h2', h3', h4', asAddr, run_loadVar_row w g t ty cs fr d hg hu hd hi]
/-- Two rows handed back. -/
theorem results_rr {P : Program} {fn : Func} {p q : Tmp} {ty tz : TypeId} (h : fn.results = #[.cell p ty, .cell q tz]) (tmps : Array Value) (w : World) (g g2 : Nat) (t t2 : TypeId) (cs cs2 : Array Value) (fr fr2 : Nat × Nat) (d d2 : TypeDesc)
    (hp : tmps.getD p undef = .pointer (some ⟨g, 0, none⟩)) (hq : tmps.getD q undef = .pointer (some ⟨g2, 0, none⟩)) (hg : w.heap[g]? = some (.cells cs t fr)) (hg2 : w.heap[g2]? = some (.cells cs2 t2 fr2))
    (hu : P.underlying ty = some d) (hd : (match d with | .struct _ | .array _ _ => true | _ => false) = true) (hi : (P.info? ty).map (·.size) = some cs.size)
    (hu2 : P.underlying tz = some d2) (hd2 : (match d2 with | .struct _ | .array _ _ => true | _ => false) = true) (hi2 : (P.info? tz).map (·.size) = some cs2.size) :
    (results fn tmps).run P w = .ok (.tuple #[.agg cs, .agg cs2]) w := by
  have hp' : tmps[p]?.getD undef = .pointer (some ⟨g, 0, none⟩) := by simpa using hp
  have hq' : tmps[q]?.getD undef = .pointer (some ⟨g2, 0, none⟩) := by simpa using hq
  simp [results, h, hp', hq', asAddr, run_loadVar_row w g t ty cs fr d hg hu hd hi, run_loadVar_row w g2 t2 tz cs2 fr2 d2 hg2 hu2 hd2 hi2]
theorem set2_at {w : World} {R : Nat} {o0 o1 : Value} {t : TypeId} (h : w.heap[R]? = some (.cells #[o0, o1] t (0, 0))) (a b : Value) : ((w.setCell ⟨R, 0, none⟩ a).setCell ⟨R, 1, none⟩ b).heap[R]? = some (.cells #[a, b] t (0, 0)) := by
  have h0 : (w.setCell ⟨R, 0, none⟩ a).heap[R]? = some (.cells #[a, o1] t (0, 0)) := heap_setCell_same w R 0 _ t a h
  exact heap_setCell_same _ R 1 _ t b h0
theorem size_sym : (Tryz.prog.info? 87).map (·.size) = some 2 := by kernel_rfl
theorem below_set2 {B R : Nat} {w w' : World} (h : Below B w w') (hR : B ≤ R) (a b : Value) : Below B w ((w'.setCell ⟨R, 0, none⟩ a).setCell ⟨R, 1, none⟩ b) := (h.setCell (p := ⟨R, 0, none⟩) hR _).setCell (p := ⟨R, 1, none⟩) hR _
end Go.Proofs.YtheeogbmljjbdaaGreatDoor
