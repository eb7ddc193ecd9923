/-
  Ga.
-/
import Derived.Test.YtfenllkkbgkdnaaDoorBya
import Derived.Test.YtfenllkkbgkdnaaDoorPbo
import Derived.Lib.OwnKind
import Derived.Lib.AppendStr
import Derived.Maps.AppendAt
import Derived.SizedLaws
import Derived.Deep.RegionLaw
import Derived.Deep.Cut
namespace Go.Proofs.YtfenllkkbgkdnaaDoor
set_option linter.unusedVariables false
set_option maxRecDepth 100000
open Go.ChangeShapes Go.WideShapes Go.ChangeAt Go.RowKit Go.Deep
theorem Hid.mk' {p : Prop} (h : p) : Hid p := h
theorem on_W {motive Q : World → Prop} {w : World} (h : Q w) (k : ∀ W, Q W → motive W) : motive w := k w h
theorem below_al (w : World) (o : Obj) : Below w.heap.size w (w.alloc o) := (Below.refl _ _).alloc (Nat.le_refl _) o
theorem map_add0 (a : Option Addr) : a.map (fun x => x.add 0) = a := by
  cases a with
  | none => rfl
  | some x => simp [Addr.add]
theorem bv_append (a b : List Int) : bv (a ++ b) = bv a ++ bv b := by simp [bv]
/-- What lies below B has stayed as it was, and so have all rows that are no bytes. -/
structure Fr (B : Nat) (w w' : World) : Prop where
  b : Below B w w'
  k : ∀ (g : Nat) (cur : Array Value) (t : TypeId) (z : Nat × Nat), t ≠ 5 → w.heap[g]? = some (Obj.cells cur t z) → w'.heap[g]? = some (Obj.cells cur t z)
theorem Fr.refl (B : Nat) (w : World) : Fr B w w := ⟨Below.refl _ _, fun _ _ _ _ _ h => h⟩
theorem Fr.trans {B : Nat} {w w' w'' : World} (h : Fr B w w') (k : Fr B w' w'') : Fr B w w'' := ⟨h.b.trans k.b, fun g cur t z ht hg => k.k g cur t z ht (h.k g cur t z ht hg)⟩
theorem Fr.alloc {B : Nat} {w w' : World} (h : Fr B w w') (hB : B ≤ w'.heap.size) (o : Obj) : Fr B w (w'.alloc o) :=
  ⟨h.b.alloc hB o, fun g cur t z ht hg => by
    have h1 := h.k g cur t z ht hg
    rw [Below.heap_alloc w' o g (Array.getElem?_eq_some_iff.1 h1).1]; exact h1⟩
theorem Fr.grown {B n : Nat} {w w' : World} {v : Value} {xs : List Value} (ho : w.ownsRow B 5 1 v n xs) (hB : B ≤ w.heap.size) (hg : w.grownBy w' v.ownBlock) : Fr B w w' :=
  ⟨(Below.refl _ _).grown hg hB (fun k hk => (ho.lt k hk).1), fun g cur t z ht h => by
    rw [hg.block g (Array.getElem?_eq_some_iff.1 h).1 (fun e => ?_)]
    · exact h
    · obtain ⟨c, fz, h2⟩ := Go.Lib.ownsRow_kind ho g e.symm
      rw [h] at h2
      simp at h2
      exact ht h2.2.1⟩
theorem Fr.of {B : Nat} {w w' : World} (h : Below w.heap.size w w') (hB : B ≤ w.heap.size) : Fr B w w' := ⟨h.mono hB, fun g cur t z ht hg => by
  rw [h.block g (Array.getElem?_eq_some_iff.1 hg).1]; exact hg⟩
theorem Row.fr {B g : Nat} {w w' : World} {cs : Array Value} {t : TypeId} (h : Row w g cs t) (hf : Fr B w w') (ht : t ≠ 5) : Row w' g cs t := hf.k g cs t (0, 0) ht h
/-- A list of bytes of one's own. -/
def Owb (B : Nat) (w : World) (v : Value) (l : List Int) : Prop := w.ownsRow B 5 1 v l.length (bv l)
/-- Some bytes appended, out of a new block. -/
theorem appN {ops : Array Oper} {rest : List Oper} {o : Oper} {a : Act} {w : World} {Q : Exit → Act → World → Prop} (hgd : o.guard = none) (s x : Operand) (ho : o.op = .call { callee := .builtin .append, args := #[s, x], argTypes := #[22, 22] })
    (B : Nat) (vb : Value) (lb m : List Int) (hs : a.eval s = vb) (hp : Owb B w vb lb) (h0 n : Nat) (hn : n = m.length) (hx : a.eval x = .slice (some ⟨h0, 0, none⟩) n n) (hh0 : h0 = w.heap.size) (hl : lb.length + m.length < 140737488355328) (hB : B ≤ w.heap.size)
    (h : ∀ v' w', Owb B w' v' (lb ++ m) → Fr B w w' → wpList Tryd.prog ops Q rest (a.put o.dst v') w') :
    wpList Tryd.prog ops Q (o :: rest) a (w.alloc (.cells (bv m).toArray 5)) := by
  subst hh0
  subst hn
  obtain ⟨i0, hi, hz0, hz1, hz2⟩ := info_parts info5
  refine wpList_append_own _ hgd s x 22 ho B 5 i0 (.int .u8 0) 1 1 Tryd.underlying22 hi hz0 hz1 hz2 rfl (by decide) vb lb.length (bv lb) hs (World.ownsRow.alloc hp _) ⟨w.heap.size, 0, none⟩ m.length m.length (bv m) hx (by simp [bv]) ?_ ?_ (by unfold maxLen; omega) (by omega) (by simp; omega) ?_
  · intro j u hj
    rw [addAt, Nat.zero_add, (Row.new w _ _).cell, List.getElem?_toArray]; exact hj
  · intro u hu; simp [bv] at hu; obtain ⟨q, _, rfl⟩ := hu; rfl
  · intro v' w' h1 h2 _
    have hg : w.grownBy w' vb.ownBlock := ⟨h2.os, h2.tape, h2.output, Nat.le_trans (by simp) h2.size, fun k hk hne => (h2.block k (by simp; omega) hne).trans (Below.heap_alloc w _ k hk)⟩
    exact h v' w' (by unfold Owb; simpa [bv] using h1) (Fr.grown hp hB hg)
/-- Bytes appended, wherever they lie. -/
theorem appY {ops : Array Oper} {rest : List Oper} {o : Oper} {a : Act} {w : World} {Q : Exit → Act → World → Prop} (hgd : o.guard = none) (s x : Operand) (ho : o.op = .call { callee := .builtin .append, args := #[s, x], argTypes := #[22, 22] })
    (B : Nat) (v u : Value) (m l : List Int) (hs : a.eval s = v) (hown : Owb B w v m) (hx : a.eval x = u) (hu : Byt w u l) (hl : m.length + l.length ≤ 140737488355328) (hB : B ≤ w.heap.size)
    (h : ∀ v' w', Owb B w' v' (m ++ l) → Fr B w w' → wpList Tryd.prog ops Q rest (a.put o.dst v') w') :
    wpList Tryd.prog ops Q (o :: rest) a w :=
  appL hgd s x ho B v u m l hs hown hx hu hl hB fun v' w' h1 h2 => h v' w' h1 (Fr.grown hown hB h2)
theorem owb_nil (B : Nat) (w : World) : Owb B w (.slice none 0 0) [] := ⟨by simp [bv], .inl ⟨rfl, rfl⟩⟩
section
variable (W : World) (a : Option Addr) (len cap : Nat)
theorem elemB : Tryd.prog.elem 22 = 5 := by kernel_rfl
theorem undB : Tryd.prog.underlying 22 = some (.slice (Tryd.prog.elem 22)) := by rw [elemB]; exact Tryd.underlying22
theorem sizeB (w : World) : (Go.sizeOf 5).run Tryd.prog w = .ok 1 w := by kernel_rfl
theorem sl_l (l : Nat) (h : l ≤ len) : (Instr.slice 22 (.slice a len cap) (some (.int .i64 (l : Int))) none none).run Tryd.prog W = .ok (.slice (if cap = l then a else a.map (fun x => x.add l)) (len - l) (cap - l)) W := by
  rw [run_slice_l W _ _ _ _ undB .i64 _ (by omega) (by omega), elemB, sizeB]
  simp [Result.andThen, sliced]
theorem sl_h (h : Nat) (h2 : h ≤ cap) : (Instr.slice 22 (.slice a len cap) none (some (.int .i64 (h : Int))) none).run Tryd.prog W = .ok (.slice (if cap = 0 then a else a.map (fun x => x.add 0)) h cap) W := by
  rw [run_slice_h W _ _ _ _ undB .i64 _ (by omega) (by omega), elemB, sizeB]
  simp [Result.andThen, sliced]
theorem sl_hm (h m : Nat) (h1 : h ≤ m) (h2 : m ≤ cap) : (Instr.slice 22 (.slice a len cap) none (some (.int .i64 (h : Int))) (some (.int .i64 (m : Int)))).run Tryd.prog W = .ok (.slice (if m = 0 then a else a.map (fun x => x.add 0)) h m) W := by
  rw [run_slice_hm W _ _ _ _ undB .i64 .i64 _ _ (by omega) (by omega) (by omega), elemB, sizeB]
  simp [Result.andThen, sliced]
theorem sl_lh (l h : Nat) (h0 : l ≤ h) (h2 : h ≤ cap) : (Instr.slice 22 (.slice a len cap) (some (.int .i64 (l : Int))) (some (.int .i64 (h : Int))) none).run Tryd.prog W = .ok (.slice (if cap = l then a else a.map (fun x => x.add l)) (h - l) (cap - l)) W := by
  rw [run_slice_lh W _ _ _ _ undB .i64 .i64 _ _ (by omega) (by omega) (by omega), elemB, sizeB]
  simp [Result.andThen, sliced]
theorem sl_lhm (l h m : Nat) (h0 : l ≤ h) (h1 : h ≤ m) (h2 : m ≤ cap) : (Instr.slice 22 (.slice a len cap) (some (.int .i64 (l : Int))) (some (.int .i64 (h : Int))) (some (.int .i64 (m : Int)))).run Tryd.prog W = .ok (.slice (if m = l then a else a.map (fun x => x.add l)) (h - l) (m - l)) W := by
  rw [run_slice_lhm W _ _ _ _ undB .i64 .i64 .i64 _ _ _ (by omega) (by omega) (by omega) (by omega), elemB, sizeB]
  simp [Result.andThen, sliced]
end
/-- A part of bytes in memory. -/
theorem Byt.cut {w : World} {a : Option Addr} {len cap : Nat} {b : List Int} (h : Byt w (.slice a len cap) b) (l e m : Nat) (h0 : l ≤ e) (h1 : e ≤ m) (h2 : m ≤ cap) (h3 : e ≤ b.length) : Byt w (.slice (if m = l then a else a.map (fun x => x.add l)) (e - l) (m - l)) ((b.drop l).take (e - l)) := by
  obtain ⟨a', cap', e', k1, k2, k3⟩ := h
  cases e'
  have hl : ((b.drop l).take (e - l)).length = e - l := by simp; omega
  refine ⟨if m = l then a else a.map (fun x => x.add l), m - l, by rw [hl], by rw [hl]; omega, fun he => ?_, fun hne => ?_⟩
  · by_cases e : m = l
    · omega
    · rw [if_neg e] at he
      have : a = none := by cases a <;> simp_all
      have := k2 this
      omega
  · have hn : l < e := by
      rcases Nat.lt_or_ge l e with q | q
      · exact q
      · rw [show e - l = 0 by omega] at hne; simp at hne
    obtain ⟨g, off, rfl, h4, h5⟩ := k3 (by intro e; rw [e] at h3; simp at h3; omega)
    rw [if_neg (by omega)]
    refine ⟨g, off + l, by simp [addAt], h4, fun j hj => ?_⟩
    rw [hl] at hj
    rw [Nat.add_assoc, h5 _ (by omega)]
    simp [hj]
theorem Byt.len {w : World} {v : Value} {b : List Int} (h : Byt w v b) : ∃ a cap, v = .slice a b.length cap ∧ b.length ≤ cap := by
  obtain ⟨a, cap, e, h1, _⟩ := h
  exact ⟨a, cap, e, h1⟩
section
variable {H : Type} {enc : TypeId × Value → H} {w : World} {base : Nat} {held : Bool}
theorem cellsU8 : Tryd.prog.cellsOf 5 = 1 := by kernel_rfl
theorem bytesU8 : Tryd.prog.bytesOf 5 = 1 := by kernel_rfl
/-- A list of bytes that came in. -/
theorem open_bytes {fuel : Nat} {v : Value} {y : DataW H × List MemPlace} (h : DataW.trod enc Tryd.prog w base (fun _ => true) held fuel 22 [v] = some y) (hz : ∀ q ∈ y.1.weights Tryd.prog 22, q ≤ reachBytes) :
    ∃ (l : List Int) (a : Option Addr) (c : Nat), v = .slice a l.length c ∧ Byt w (.slice a l.length c) l ∧ AllB l ∧ l.length ≤ 140737488351232 := by
  rcases open_ints Tryd.underlying22 Tryd.underlying5 cellsU8 h with ⟨e3, hy3⟩ | ⟨a, len, cap, zs, e3, _, hl, hm, hzl, hy3, hcell, hwz⟩
  · simp at e3
    subst e3
    exact ⟨[], none, 0, rfl, Byt.nil w, fun x hx => by simp at hx, by simp⟩
  · simp at e3
    subst e3
    simp only [if_true] at hzl
    have hw : (lits .u8 (zs.take len) : List (DataW H)).length + (lits .u8 (zs.drop len) : List (DataW H)).length ≤ reachBytes := by
      have hmem : ((lits .u8 (zs.take len) : List (DataW H)).length + (lits .u8 (zs.drop len) : List (DataW H)).length) * 1 ∈ y.1.weights Tryd.prog 22 := by
        rw [hy3]
        simp [DataW.weights, Tryd.underlying22, bytesU8]
      have := hz _ hmem
      omega
    simp [lits, reachBytes] at hw
    have hlen : (zs.take len).length = len := by simp; omega
    refine ⟨zs.take len, some a, cap, by rw [hlen], ?_, ?_, by rw [hlen]; omega⟩
    · refine ⟨some a, cap, rfl, by rw [hlen]; omega, fun e => (by cases e), fun hne => ?_⟩
      have hpos : 0 < len := by
        rcases Nat.eq_zero_or_pos len with e | e
        · subst e; simp at hne
        · exact e
      obtain ⟨b, off, spot⟩ := a
      have hc := hcell 0 (by omega)
      have hspot : spot = none := by simpa [Addr.add] using World.cell?_spot hc
      subst hspot
      refine ⟨b, off, rfl, World.block_lt_of_cell? w _ hc, fun j hj => ?_⟩
      have hj' : j < len := by rw [hlen] at hj; exact hj
      have hcj := hcell j (by omega)
      rw [addAt] at hcj
      rw [hcj]
      simp [List.getD, hj']
    · intro z hzm
      have := hwz z (List.mem_of_mem_take hzm)
      have hb8 := bounds_u8 this
      omega
end
/-- Bytes appended out of a new block: what else stays, and where the row lies then. -/
theorem appP {ops : Array Oper} {rest : List Oper} {o : Oper} {a : Act} {w : World} {Q : Exit → Act → World → Prop} (hgd : o.guard = none) (s x : Operand) (ho : o.op = .call { callee := .builtin .append, args := #[s, x], argTypes := #[22, 22] })
    (B : Nat) (vb : Value) (lb m : List Int) (hs : a.eval s = vb) (hp : Owb B w vb lb) (h0 n : Nat) (hn : n = m.length) (hx : a.eval x = .slice (some ⟨h0, 0, none⟩) n n) (hh0 : h0 = w.heap.size) (hl : lb.length + m.length < 140737488355328) (hB : B ≤ w.heap.size)
    (h : ∀ v' w', Owb B w' v' (lb ++ m) → Fr B w w' → Exc (fun k => vb.ownBlock = some k) w w' → (v'.ownBlock = vb.ownBlock ∨ ∀ k, v'.ownBlock = some k → w.heap.size ≤ k) → wpList Tryd.prog ops Q rest (a.put o.dst v') w') :
    wpList Tryd.prog ops Q (o :: rest) a (w.alloc (.cells (bv m).toArray 5)) := by
  subst hh0
  subst hn
  obtain ⟨i0, hi, hz0, hz1, hz2⟩ := info_parts info5
  refine wpList_append_own_at _ hgd s x 22 ho B 5 i0 (.int .u8 0) 1 1 Tryd.underlying22 hi hz0 hz1 hz2 rfl (by decide) vb lb.length (bv lb) hs (World.ownsRow.alloc hp _) ⟨w.heap.size, 0, none⟩ m.length m.length (bv m) hx (by simp [bv]) ?_ ?_ (by unfold maxLen; omega) (by omega) (by simp; omega) ?_
  · intro j u hj
    rw [addAt, Nat.zero_add, (Row.new w _ _).cell, List.getElem?_toArray]; exact hj
  · intro u hu; simp [bv] at hu; obtain ⟨q, _, rfl⟩ := hu; rfl
  · intro v' w' h1 h2 _ h4
    have hg : w.grownBy w' vb.ownBlock := ⟨h2.os, h2.tape, h2.output, Nat.le_trans (by simp) h2.size, fun k hk hne => (h2.block k (by simp; omega) hne).trans (Below.heap_alloc w _ k hk)⟩
    refine h v' w' (by unfold Owb; simpa [bv] using h1) (Fr.grown hp hB hg) ⟨hg.os, hg.tape, hg.output, hg.size, fun k hk hne => hg.block k hk (fun e => hne e.symm)⟩ ?_
    rcases h4 with e | e
    · exact .inl e
    · exact .inr (fun k hk => by rw [e] at hk; simp at hk; omega)
/-- A string's bytes appended. -/
theorem appT {ops : Array Oper} {rest : List Oper} {o : Oper} {a : Act} {w : World} {Q : Exit → Act → World → Prop} (hgd : o.guard = none) (s x : Operand) (ho : o.op = .call { callee := .builtin .append, args := #[s, x], argTypes := #[22, 9] })
    (B : Nat) (vb : Value) (lb m : List Int) (hs : a.eval s = vb) (hp : Owb B w vb lb) (hx : a.eval x = .string (strOfNums m)) (hm : AllB m) (hl : lb.length + m.length < 140737488355328) (hB : B ≤ w.heap.size)
    (h : ∀ v' w', Owb B w' v' (lb ++ m) → Fr B w w' → wpList Tryd.prog ops Q rest (a.put o.dst v') w') : wpList Tryd.prog ops Q (o :: rest) a w := by
  obtain ⟨i0, hi, hz0, hz1, hz2⟩ := info_parts info5
  have hsz : (strOfNums m).size = m.length := strOfNums_size m
  have hsc : Go.Lib.strCells (strOfNums m) = bv m := by
    unfold Go.Lib.strCells bv
    rw [strOfNums_data, List.map_map]
    refine List.map_congr_left fun z hz => ?_
    obtain ⟨h1, h2⟩ := hm z hz
    simp
    omega
  refine Go.Lib.wpList_append_own_string w hgd s x 22 9 ho B 5 i0 Tryd.underlying22 Tryd.underlying9 hi hz0 hz1 hz2 vb lb.length (bv lb) hs hp (strOfNums m) hx (by rw [hsz]; unfold maxLen; omega) (by rw [hsz]; omega) hB ?_
  intro v' w' h1 h2 _
  rw [hsz, hsc] at h1
  exact h v' w' (by unfold Owb; rw [List.length_append, bv_append]; exact h1) (Fr.grown hp hB h2)
end Go.Proofs.YtfenllkkbgkdnaaDoor
