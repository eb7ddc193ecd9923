/-
  Iwo Iwp.
-/
import Derived.Test.YtopddflnahfomaaGreatDoorM29
import Derived.Test.YtopddflnahfomaaGreatDoorM32
import Derived.Laws.CopyRow
import Derived.Laws.IdiomCopy
import Derived.Deep.RegionWith
import Derived.Deep.RegionLaw
namespace Go.Proofs.YtopddflnahfomaaGreatDoor
set_option linter.unusedVariables false
open Go.ChangeShapes Go.WideShapes Go.ChangeAt Go.RowKit Go.Deep
theorem mirror_c (z : Int) (h : 0 ≤ z ∧ z ≤ 7) (w : World) : Calls Tryz.prog 40 #[.int .i64 z] w fun e w' => e = .returned (.int .i64 ((fw z : Nat) : Int)) ∧ w' = w := by
  have h8 : z = 0 ∨ z = 1 ∨ z = 2 ∨ z = 3 ∨ z = 4 ∨ z = 5 ∨ z = 6 ∨ z = 7 := by omega
  clear h
  rcases h8 with rfl | rfl | rfl | rfl | rfl | rfl | rfl | rfl
  · go_enter Tryz.func40, Tryz.ntmps40
    go_wp2
    go_ret
    exact ⟨ret_int (by decide +kernel), rfl⟩
  · go_enter Tryz.func40, Tryz.ntmps40
    go_wp2
    go_ret
    exact ⟨ret_int (by decide +kernel), rfl⟩
  · go_enter Tryz.func40, Tryz.ntmps40
    go_wp2
    go_ret
    exact ⟨ret_int (by decide +kernel), rfl⟩
  · go_enter Tryz.func40, Tryz.ntmps40
    go_wp2
    go_ret
    exact ⟨ret_int (by decide +kernel), rfl⟩
  · go_enter Tryz.func40, Tryz.ntmps40
    go_wp2
    go_ret
    exact ⟨ret_int (by decide +kernel), rfl⟩
  · go_enter Tryz.func40, Tryz.ntmps40
    go_wp2
    go_ret
    exact ⟨ret_int (by decide +kernel), rfl⟩
  · go_enter Tryz.func40, Tryz.ntmps40
    go_wp2
    go_ret
    exact ⟨ret_int (by decide +kernel), rfl⟩
  · go_enter Tryz.func40, Tryz.ntmps40
    go_wp2
    go_ret
    exact ⟨ret_int (by decide +kernel), rfl⟩
theorem fw_lt (z : Int) : fw z < 8 := by unfold fw; omega
theorem Fil.rowL {f n : Nat} {T : Nat → Int} {D : Nat → Prop} {w : World} (h : Fil f n T D w) (pos : Nat) (l : List Int) (hn : pos + l.length ≤ n) (hT : Sub T pos l) :
    ∃ C : Array Value, C.size = n ∧ w.heap[f]? = some (.cells C 5 (0, 0)) ∧ Fil f n T (fun i => D i ∨ (pos ≤ i ∧ i < pos + l.length)) (w.setRow f (C.toList.take pos ++ bv l ++ C.toList.drop (pos + (bv l).length)).toArray) := by
  obtain ⟨C, hC, hr, hd⟩ := h
  have hbl : (bv l).length = l.length := by simp [bv]
  have htl : (C.toList.take pos).length = pos := by rw [List.length_take, Array.length_toList]; omega
  refine ⟨C, hC, hr, _, ?_, Go.setRow_heap w f C _ _ _ hr, fun i hi => ?_⟩
  · simp only [List.size_toArray, List.length_append, List.length_drop, Array.length_toList, htl, hbl]
    omega
  rw [hbl]
  have e1 : i < pos → ((C.toList.take pos ++ bv l ++ C.toList.drop (pos + l.length)).toArray)[i]? = C[i]? := fun h => by
    rw [List.getElem?_toArray, List.append_assoc, List.getElem?_append_left (by omega), List.getElem?_take, if_pos h, Array.getElem?_toList]
  have e3 : pos + l.length ≤ i → ((C.toList.take pos ++ bv l ++ C.toList.drop (pos + l.length)).toArray)[i]? = C[i]? := fun h => by
    rw [List.getElem?_toArray, List.getElem?_append_right (by rw [List.length_append, htl, hbl]; omega), List.length_append, htl, hbl, List.getElem?_drop, Array.getElem?_toList, show pos + l.length + (i - (pos + l.length)) = i by omega]
  by_cases h1 : i < pos
  · rw [e1 h1]
    exact ⟨fun h => (hd i hi).1 (h.resolve_right (by omega)), fun h => (hd i hi).2 (fun q => h (.inl q))⟩
  by_cases h2 : pos + l.length ≤ i
  · rw [e3 h2]
    exact ⟨fun h => (hd i hi).1 (h.resolve_right (by omega)), fun h => (hd i hi).2 (fun q => h (.inl q))⟩
  refine ⟨fun _ => ?_, fun h => absurd (Or.inr (by omega)) h⟩
  obtain ⟨k, rfl⟩ : ∃ k, i = pos + k := ⟨i - pos, by omega⟩
  have hk : k < l.length := by omega
  rw [List.getElem?_toArray, List.append_assoc, List.getElem?_append_right (by omega), htl, show pos + k - pos = k by omega, List.getElem?_append_left (by omega), hT k hk, bv_get l k hk]
theorem step_part {ops : Array Oper} {o : Oper} {a : Act} {w : World} {K : Act → World → Prop} {Q : Exit → Act → World → Prop} {E : Prop}
    (hg : o.guard = none) (d x : Operand) (hop : o.op = .call { callee := .builtin .copy, args := #[d, x], argTypes := #[29, 29] })
    (f n pos dl dc : Nat) (T : Nat → Int) (D : Nat → Prop) (v : Value) (l : List Int) (hd : a.eval d = .slice (some ⟨f, pos, none⟩) dl dc) (hx : a.eval x = v) (hv : Byt w v l)
    (hF : Fil f n T D w) (hl : l.length ≤ dl) (hn : pos + l.length ≤ n) (hT : Sub T pos l)
    (hK : ∀ w2, Fil f n T (fun i => D i ∨ (pos ≤ i ∧ i < pos + l.length)) w2 → Kp f f w w2 → K (a.put o.dst (goInt l.length)) w2) :
    if Region.wanted o (yielded ops a.tmps) = true then Oper.wp Tryz.prog o a w K Q else E := by
  have hw : Region.wanted o (yielded ops a.tmps) = true := by simp [Region.wanted, hg]
  rw [if_pos hw]
  have hs1 : ((Tryz.prog).info? 5).map (·.size) = some 1 := by kernel_rfl
  obtain ⟨ad, cap, rfl, hc, hc0, hcell⟩ := hv
  by_cases hnil : l = []
  · subst hnil
    have hrun := Go.run_copy_none (P := Tryz.prog) w 29 29 o.type 5 (some ⟨f, pos, none⟩) ad dl dc 0 cap Tryz.underlying29 hs1 (by simp)
    have hk := hK w (hF.set (fun i _ => ⟨.inl, fun h => h.elim id (fun h => by simp only [List.length_nil] at h; omega)⟩)) (Kp.refl _ _ _)
    unfold Oper.wp
    simp [execOp, hop, resolve, invoke, builtin, hd, hx, hrun, Result.andThen]
    exact hk
  · obtain ⟨g, off, rfl, hgs, hcells⟩ := hcell hnil
    obtain ⟨C, hC, hr, hf⟩ := hF.rowL pos l hn hT
    have hbl : (bv l).length = l.length := by simp [bv]
    have hrun := Go.run_copy_row (P := Tryz.prog) w 29 29 o.type 5 f pos dl dc ⟨g, off, none⟩ l.length cap C 5 (bv l) Tryz.underlying29 hs1 hr (by rw [hbl]; exact (Nat.min_eq_left hl).symm) (fun j v hj => by
      have hjl : j < l.length := by have := (List.getElem?_eq_some_iff.1 hj).1; rw [hbl] at this; exact this
      rw [bv_get l j hjl] at hj
      cases hj
      rw [addAt]
      exact hcells j hjl) (by rw [hbl]; omega) (fun v hv => by simp [bv] at hv; obtain ⟨q, _, rfl⟩ := hv; rfl)
    have hk := hK _ hf ⟨rfl, rfl, rfl, by simp, fun k _ _ h => Go.setRow_other w f k _ h⟩
    generalize (C.toList.take pos ++ bv l ++ C.toList.drop (pos + (bv l).length)).toArray = RR at hrun hk
    rw [hbl] at hrun
    unfold Oper.wp
    simp [execOp, hop, resolve, invoke, builtin, hd, hx, hrun, Result.andThen]
    exact hk
/-- Bytes were copied into the file behind the pen's back. -/
theorem Pn.data {f n : Nat} {T : Nat → Int} {X : List (Nat × Array Value × TypeId)} {w0 : World} {g : Nat} {D E : Nat → Prop} {b a : Nat} {R : List Int} {w w' : World} (h : Pn f n T X w0 g D b a R w) (hf : Fil f n T E w') (hk : Kp f f w w') (D' : Nat → Prop) (hE : ∀ i, i < n → (E i ↔ D' i ∨ (b ≤ i ∧ i < a))) : Pn f n T X w0 g D' b a R w' := by
  refine ⟨fun x hx => ?_, (hk.block _ (Array.getElem?_eq_some_iff.1 h.pen).1 h.gf h.gf).trans h.pen, hf.set hE, h.kp.trans hk, h.gl, h.fl, h.ba, h.rest⟩
  obtain ⟨h1, h2, h3⟩ := h.bx x hx
  exact ⟨h1, h2, (hk.block _ (Array.getElem?_eq_some_iff.1 h3).1 h2 h2).trans h3⟩
theorem sub_hd {T : Nat → Int} {p : Nat} {L : List Sg} {m : Nat} (h : Sub T p (hdL L m)) (k : Nat) (hk : k < m) : Sub T (p + 56 * k) (phL (sg L k) (plc L k)) := by
  induction m with
  | zero => omega
  | succ m ih =>
    by_cases e : k = m
    · subst e; exact h.right.at (by rw [hdL_length])
    · exact ih h.left (by omega)
theorem phL_eq (x : Sg) (p : Nat) : phL x p = nbs 4 [1, fw x.f] ++ (nbs 8 [p, x.a.toNat, x.a.toNat, x.n, x.s.toNat, 1] ++ []) := by
  simp only [phL, nbs, List.append_assoc, List.append_nil]
theorem pls_get (L : List Sg) (m k : Nat) (hk : k < m) : (pls L m)[k]? = some ((plc L k : Nat) : Int) := by
  induction m with
  | zero => omega
  | succ m ih =>
    have e : pls L (m + 1) = pls L m ++ [if 0 < (sg L m).n then ((al (sk L m) : Nat) : Int) else 0] := rfl
    rw [e]
    by_cases h : k = m
    · subst h
      rw [List.getElem?_append_right (by rw [pls_length]; exact Nat.le_refl _), pls_length, Nat.sub_self]
      unfold plc
      split <;> rfl
    · rw [List.getElem?_append_left (by rw [pls_length]; omega)]
      exact ih (by omega)
/-- Which places the first k parts' bytes take. -/
def DS (L : List Sg) (k i : Nat) : Prop := ∃ j, j < k ∧ plc L j ≤ i ∧ i < plc L j + (sg L j).n
theorem DS_succ (L : List Sg) (k i : Nat) : DS L (k + 1) i ↔ DS L k i ∨ (plc L k ≤ i ∧ i < plc L k + (sg L k).n) := by
  constructor
  · rintro ⟨j, hj, h⟩
    by_cases e : j = k
    · subst e; exact .inr h
    · exact .inl ⟨j, by omega, h⟩
  · rintro (⟨j, hj, h⟩ | h)
    · exact ⟨j, by omega, h⟩
    · exact ⟨k, by omega, h⟩
end Go.Proofs.YtopddflnahfomaaGreatDoor
namespace Go.Proofs.YtopddflnahfomaaGreatDoor
set_option linter.unusedVariables false
open Go.ChangeShapes Go.WideShapes Go.ChangeAt Go.RowKit Go.Deep
theorem Pn.drew {f n : Nat} {T : Nat → Int} {X : List (Nat × Array Value × TypeId)} {w0 : World} {g : Nat} {D : Nat → Prop} {b a : Nat} {R : List Int} {w : World} (h : Pn f n T X w0 g D b a R w) : Pn f n T X w0 g D b a R w.drew := ⟨h.bx, h.pen, h.fil.other rfl, h.kp.drew, h.gl, h.fl, h.ba, h.rest⟩
theorem or4 (a b c d : Prop) : (((a ∨ b) ∨ c) ∨ d ↔ (a ∨ (b ∨ d)) ∨ c) := by
  constructor
  · rintro (((h | h) | h) | h)
    · exact .inl (.inl h)
    · exact .inl (.inr (.inl h))
    · exact .inr h
    · exact .inl (.inr (.inr h))
  · rintro ((h | (h | h)) | h)
    · exact .inl (.inl (.inl h))
    · exact .inl (.inl (.inr h))
    · exact .inr h
    · exact .inl (.inr h)
theorem Pn.putd {f n : Nat} {T : Nat → Int} {X : List (Nat × Array Value × TypeId)} {w0 : World} {g : Nat} {D : Nat → Prop} {b a sz : Nat} {vs : List Nat} {R : List Int} {w : World} (h : Pn f n T X w0 g D b a (nbs sz vs ++ R) w)
    (szI : Int) (m : Nat) (cs : Array Value) (hsz : szI = sz) (hvm : vs.length = m) (hv : ∀ v, v ∈ vs → v < 18446744073709551616) (hcs : cs = (vs.map fun (v : Nat) => Value.int .u64 (v : Int)).toArray) (hs : 1 ≤ sz ∧ sz ≤ 8) (c : Nat) (hc : c = a + sz * m) (hn : c ≤ n) (hnb : n ≤ 1000000) (hm : m ≤ 100) :
    Calls Tryz.prog 39 #[.pointer (some ⟨g, 0, none⟩), .int .i64 szI, .slice (some ⟨w.heap.size, 0, none⟩) m m] (w.alloc (.cells cs 22)).drew fun e w' => e = .returned (.tuple #[]) ∧ Pn f n T X w0 g D b c R w' :=
  h.drew.put szI m cs hsz hvm hv hcs hs c hc hn hnb hm
set_option maxRecDepth 100000 in
set_option maxHeartbeats 16000000 in
theorem wparts_c (f n : Nat) (vs vd : Value) (L : List Sg) (Dt : Nat → List Int) (tb tx ow se sz : Nat) (T : Nat → Int) (D : Nat → Prop) (w1 w : World) (hw1 : f = w1.heap.size) (hb1 : Below f w1 w) (hS : Sgs w1 vs L) (hdt : Dta w1 L Dt) (Bd : Nat) (hd : w1.ownsRow Bd 3 1 vd L.length (iv (pls L L.length))) (hF : Fil f n T D w) (hnb : n ≤ 1000000) (hL : L.length ≤ 16) (hff : ∀ j, j < L.length → 0 ≤ (sg L j).f ∧ (sg L j).f ≤ 7) (hn : 64 + 56 * L.length ≤ n) (hpn : ∀ j, j < L.length → plc L j + (sg L j).n ≤ n ∧ plc L j < n)
    (hT0 : Sub T 64 (hdL L L.length)) (hT1 : ∀ j, j < L.length → Sub T (plc L j) (Dt j)) :
    Calls Tryz.prog 22 #[.slice (some ⟨f, 0, none⟩) n n, vs, .agg #[vd, .int .i64 tb, .int .i64 tx, .int .i64 ow, .int .i64 se, .int .i64 sz]] w fun e w' => e = .returned (.tuple #[]) ∧ Fil f n T (fun i => (D i ∨ DS L L.length i) ∨ (64 ≤ i ∧ i < 64 + 56 * L.length)) w' ∧ Kp f f w w' := by
  have HT0 : Hid (Sub T 64 (hdL L L.length)) := hT0
  have HT1 : Hid (∀ j, j < L.length → Sub T (plc L j) (Dt j)) := hT1
  have HPN : Hid (∀ j, j < L.length → plc L j + (sg L j).n ≤ n ∧ plc L j < n) := hpn
  have HFF : Hid (∀ j, j < L.length → 0 ≤ (sg L j).f ∧ (sg L j).f ≤ 7) := hff
  have HB : Hid (64 + 56 * L.length ≤ n ∧ n ≤ 1000000 ∧ L.length ≤ 16) := by unfold Hid; omega
  have hfl : f < w.heap.size := by obtain ⟨C, _, hr, _⟩ := hF; exact (Array.getElem?_eq_some_iff.1 hr).1
  have HW1 : Hid (f = w1.heap.size) := hw1
  have HB1 : Hid (Below f w1 w) := hb1
  have HS : Hid (Sgs w1 vs L) := hS
  have HDT : Hid (Dta w1 L Dt) := hdt
  have HD : Hid (w1.ownsRow Bd 3 1 vd L.length (iv (pls L L.length))) := hd
  obtain ⟨na, nc, rfl, _, _⟩ := hS
  have k1 : Hid (Pn f n T [(w.heap.size, #[vd, .int .i64 tb, .int .i64 tx, .int .i64 ow, .int .i64 se, .int .i64 sz], 50)] w (w.heap.size + 1) (fun i => D i ∨ DS L 0 i) 64 64 [] ((w.alloc (.cells #[vd, .int .i64 tb, .int .i64 tx, .int .i64 ow, .int .i64 se, .int .i64 sz] 50)).alloc (.cells #[.slice (some ⟨f, 0, none⟩) n n, .int .i64 64] 78))) := by
    refine Pn.start (hF.set (fun i _ => ⟨.inl, fun h => h.elim id (fun ⟨j, hj, _⟩ => absurd hj (Nat.not_lt_zero _))⟩)) ((Below.refl _ _).alloc (Nat.le_refl _) _) _ (by simp) (fun x hx => ?_) _ 64 rfl _ Sub.nil
    rcases List.mem_cons.1 hx with rfl | hx
    · exact ⟨by show w.heap.size < w.heap.size + 1; omega, by show ¬ w.heap.size = f; omega, heap_alloc_new w _⟩
    · exact absurd hx (List.not_mem_nil)
  have hI3 : (L.length : Int) ≤ 16 := by omega
  clear hF hT0 hT1 hw1 hb1 hfl hn hpn hff hdt hd
  go_enter Tryz.func22, Tryz.ntmps22
  go_wp2
  go_loopw [7, 13] (fun _ i wr => ∃ k : Nat, k ≤ L.length ∧ i = .int .i64 k ∧ ∃ A : Nat, Hid (A = 64 + 56 * k) ∧ Hid (Pn f n T [(w.heap.size, #[vd, .int .i64 tb, .int .i64 tx, .int .i64 ow, .int .i64 se, .int .i64 sz], 50)] w (w.heap.size + 1) (fun i => D i ∨ DS L k i) 64 A [] wr)) (fun _ i _ => L.length - (intOf i).toNat)
  case atStart => exact ⟨0, Nat.zero_le _, rfl, 64, rfl, k1⟩
  case round =>
    obtain ⟨k, hk, rfl, A, HE, hp⟩ := hrel
    clear k1
    by_cases hlt : k < L.length
    · skip
      have hltI : (k : Int) < (L.length : Int) := by omega
      have HBw : Hid (Below f w1 wr) := HB1.out.trans hp.out.below
      obtain ⟨_, _, he, _, hcc⟩ := HS.out.later HBw.out HW1.out
      cases he
      obtain ⟨g, off, rfl, hg, hcells⟩ := hcc (by intro e; rw [e] at hlt; exact absurd hlt (Nat.not_lt_zero _))
      obtain ⟨c0, c1, c2, c3⟩ := hcells k hlt
      clear hcells hcc hg
      have HDw := own_later HD.out HBw.out HW1.out
      obtain ⟨gd, cd, hvd⟩ : ∃ gd cd, vd = .slice (some ⟨gd, 0, none⟩) L.length cd := by
        rcases Go.Joins.ownsRow_forms HDw with ⟨h1, h2⟩ | ⟨g', c', h1⟩
        · omega
        · exact ⟨_, _, h1⟩
      have HVD : Hid (vd = .slice (some ⟨gd, 0, none⟩) L.length cd) := hvd
      have HP0 := pls_get L L.length k hlt
      have HPL := HPN.out k hlt
      have HFK := HFF.out k hlt
      have HSD := HT1.out k hlt
      have HSH := sub_hd HT0.out k hlt
      have HDK := HDT.out k hlt
      have HDS := DS_succ L k
      rw [phL_eq] at HSH
      obtain ⟨P, hP⟩ : ∃ P, P = plc L k := ⟨_, rfl⟩
      obtain ⟨x, hx⟩ : ∃ x, x = sg L k := ⟨_, rfl⟩
      rw [← hP] at HP0 HPL HSD HSH HDS
      rw [← hx] at c0 c1 c2 c3 HPL HFK HSH HDK HDS
      have hd0 : wr.cell? ⟨gd, k, none⟩ = some (.int .i64 (P : Int)) := by
        have h := HDw.cells (g := gd) (by rw [hvd]; rfl) k (.int .i64 (P : Int)) (by unfold iv; rw [List.getElem?_map, HP0]; rfl)
        rw [addAt, Nat.zero_add] at h
        exact h
      have HDC : Hid (gd < f ∧ wr.cell? ⟨gd, k, none⟩ = some (.int .i64 (P : Int))) := ⟨by have := (HD.out.lt gd (by rw [hvd]; rfl)).2; have := HW1.out; omega, hd0⟩
      have HDS' : Hid (∀ i, DS L (k + 1) i ↔ DS L k i ∨ (P ≤ i ∧ i < P + x.n)) := HDS
      have HSD' : Hid (Sub T P (Dt k)) := HSD
      have HDK' : Hid ((Dt k).length = x.n ∧ Byt w1 (.slice x.m x.n x.c) (Dt k)) := HDK
      have hfx := fw_lt x.f
      obtain ⟨F, hF⟩ : ∃ F, F = fw x.f := ⟨_, rfl⟩
      have cM : Hid (∀ w', Calls Tryz.prog 40 #[.int .i64 x.f] w' fun e w'' => e = .returned (.int .i64 (F : Int)) ∧ w' = w'') := fun w' => by rw [hF]; exact (mirror_c x.f HFK w').mono fun _ _ ⟨h1, h2⟩ => ⟨h1, h2.symm⟩
      rw [← hF] at hfx HSH
      have HB2 : Hid (A = 64 + 56 * k ∧ A + 56 ≤ n ∧ n ≤ 1000000 ∧ P + x.n ≤ n ∧ P < n ∧ F < 8 ∧ x.a.toNat < 18446744073709551616 ∧ x.s.toNat < 18446744073709551616) := by
        have := HE.out; have := HB.out; have := x.a.isLt; have := x.s.isLt
        unfold Hid
        omega
      have HSH' : Hid (Sub T A (nbs 4 [1, F] ++ (nbs 8 [P, x.a.toNat, x.a.toNat, x.n, x.s.toNat, 1] ++ []))) := HSH.at (by have := HB2.out; omega)
      have hI5 : (F : Int) ≤ 8 := by omega
      have hI6 : (P : Int) < n := by have := HB2.out; omega
      have hI7 : (P : Int) ≤ 1000000 := by have := HB2.out; omega
      have hI8 : (x.n : Int) ≤ 1000000 := by have := HB2.out; omega
      have hI9 : ¬ ((n : Int) = P) := by omega
      have hI10 : ¬ (n = P) := by omega
      have hI11 : (P : Int) ≤ n := by omega
      have hI12 : (n : Int) ≤ 1000000 := by omega
      clear HSH HSD HDS HDK HP0 HPL HFK hP hx hF HDw hd0 HE hvd hfx
      go_upto_region 5 with fail
      have k2 : Hid (Pn f n T [(wr.heap.size, #[.int .u64 (n64 x.a), .int .u64 (n64 x.s), .int .i64 x.f, .slice x.m x.n x.c], 42), (w.heap.size, #[vd, .int .i64 tb, .int .i64 tx, .int .i64 ow, .int .i64 se, .int .i64 sz], 50)] w (w.heap.size + 1) (fun i => D i ∨ DS L k i) 64 A (nbs 4 [1, F] ++ (nbs 8 [P, x.a.toNat, x.a.toNat, x.n, x.s.toNat, 1] ++ [])) (wr.alloc (.cells #[.int .u64 (n64 x.a), .int .u64 (n64 x.s), .int .i64 x.f, .slice x.m x.n x.c] 42))) :=
        hp.out.box _ _ _ (fun y hy => by
          rcases List.mem_cons.1 hy with rfl | hy
          · left; rfl
          · right; exact hy) _ HSH'.out
      obtain ⟨w2, hw2⟩ : ∃ w2, w2 = wr.alloc (.cells #[.int .u64 (n64 x.a), .int .u64 (n64 x.s), .int .i64 x.f, .slice x.m x.n x.c] 42) := ⟨_, rfl⟩
      rw [← hw2] at k2 ⊢
      have HDC2 : Hid (∀ w9, Below f w1 w9 → w9.cell? ⟨gd, k, none⟩ = some (.int .i64 (P : Int))) := fun w9 h9 => by
        have h0 := HDC.out.2
        have hgd := HDC.out.1
        rw [HBw.out.cell (show gd < f from hgd)] at h0
        rw [h9.cell (show gd < f from hgd)]
        exact h0
      clear hw2 c0 c1 c2 c3
      have t1 := cell_of_row w2 wr.heap.size 2 _ _ _ (k2.out.bx (wr.heap.size, #[.int .u64 (n64 x.a), .int .u64 (n64 x.s), .int .i64 x.f, .slice x.m x.n x.c], 42) (by simp)).2.2
      go_upto_region 6 with (first | (go_at_call 40; refine (cM.out _).mono ?_; rintro e w' ⟨rfl, rfl⟩) | (go_at_call 39; refine (k2.out.put 4 2 _ rfl rfl (by have := HB2.out; intro v hv; simp only [List.mem_cons, List.not_mem_nil, or_false] at hv; omega) rfl (by omega) (A + 8) (by omega) (by have := HB2.out; omega) hnb (by omega)).mono ?_; rintro e w3 ⟨rfl, h1⟩; have k3 : Hid (Pn f n T [(wr.heap.size, #[.int .u64 (n64 x.a), .int .u64 (n64 x.s), .int .i64 x.f, .slice x.m x.n x.c], 42), (w.heap.size, #[vd, .int .i64 tb, .int .i64 tx, .int .i64 ow, .int .i64 se, .int .i64 sz], 50)] w (w.heap.size + 1) (fun i => D i ∨ DS L k i) 64 (A + 8) (nbs 8 [P, x.a.toNat, x.a.toNat, x.n, x.s.toNat, 1] ++ []) w3) := h1; clear h1))
      have s1 := cell_of_row w3 wr.heap.size 0 _ _ _ (k3.out.bx (wr.heap.size, #[.int .u64 (n64 x.a), .int .u64 (n64 x.s), .int .i64 x.f, .slice x.m x.n x.c], 42) (by simp)).2.2
      have s2 := cell_of_row w3 wr.heap.size 1 _ _ _ (k3.out.bx (wr.heap.size, #[.int .u64 (n64 x.a), .int .u64 (n64 x.s), .int .i64 x.f, .slice x.m x.n x.c], 42) (by simp)).2.2
      have s3 := cell_of_row w3 wr.heap.size 3 _ _ _ (k3.out.bx (wr.heap.size, #[.int .u64 (n64 x.a), .int .u64 (n64 x.s), .int .i64 x.f, .slice x.m x.n x.c], 42) (by simp)).2.2
      have s4 : w3.cell? ⟨w.heap.size, 0, none⟩ = some (.slice (some ⟨gd, 0, none⟩) L.length cd) := by rw [← HVD.out]; exact cell_of_row w3 w.heap.size 0 _ _ _ (k3.out.bx (w.heap.size, #[vd, .int .i64 tb, .int .i64 tx, .int .i64 ow, .int .i64 se, .int .i64 sz], 50) (by simp)).2.2
      have s5 := HDC2.out w3 (HB1.out.trans k3.out.below)
      have HWP : Hid (IntKind.u64.wrap (P : Int) = (P : Int)) := by unfold Hid; rw [IntKind.wrap_u64]; omega
      have HWN : Hid (IntKind.u64.wrap (x.n : Int) = (x.n : Int)) := by unfold Hid; rw [IntKind.wrap_u64]; omega
      --@CUT6
      have HSC : Hid (∀ a R w9, Pn f n T [(wr.heap.size, #[.int .u64 (n64 x.a), .int .u64 (n64 x.s), .int .i64 x.f, .slice x.m x.n x.c], 42), (w.heap.size, #[vd, .int .i64 tb, .int .i64 tx, .int .i64 ow, .int .i64 se, .int .i64 sz], 50)] w (w.heap.size + 1) (fun i => D i ∨ DS L k i) 64 a R w9 → w9.cell? ⟨w.heap.size, 0, none⟩ = some (.slice (some ⟨gd, 0, none⟩) L.length cd) ∧ w9.cell? ⟨gd, k, none⟩ = some (.int .i64 (P : Int)) ∧ w9.cell? ⟨wr.heap.size, 0, none⟩ = some (.int .u64 (n64 x.a)) ∧ w9.cell? ⟨wr.heap.size, 1, none⟩ = some (.int .u64 (n64 x.s)) ∧ w9.cell? ⟨wr.heap.size, 3, none⟩ = some (.slice x.m x.n x.c)) := fun a R w9 h9 => ⟨by rw [← HVD.out]; exact cell_of_row w9 w.heap.size 0 _ _ _ (h9.bx (w.heap.size, #[vd, .int .i64 tb, .int .i64 tx, .int .i64 ow, .int .i64 se, .int .i64 sz], 50) (by simp)).2.2, HDC2.out w9 (HB1.out.trans h9.below), cell_of_row w9 wr.heap.size 0 _ _ _ (h9.bx (wr.heap.size, #[.int .u64 (n64 x.a), .int .u64 (n64 x.s), .int .i64 x.f, .slice x.m x.n x.c], 42) (by simp)).2.2, cell_of_row w9 wr.heap.size 1 _ _ _ (h9.bx (wr.heap.size, #[.int .u64 (n64 x.a), .int .u64 (n64 x.s), .int .i64 x.f, .slice x.m x.n x.c], 42) (by simp)).2.2, cell_of_row w9 wr.heap.size 3 _ _ _ (h9.bx (wr.heap.size, #[.int .u64 (n64 x.a), .int .u64 (n64 x.s), .int .i64 x.f, .slice x.m x.n x.c], 42) (by simp)).2.2⟩
      clear s1 s2 s3 s4 s5
      go_region_held3 (fun w' => w'.cell? ⟨w.heap.size, 0, none⟩ = some (.slice (some ⟨gd, 0, none⟩) L.length cd) ∧ w'.cell? ⟨gd, k, none⟩ = some (.int .i64 (P : Int)) ∧ w'.cell? ⟨wr.heap.size, 0, none⟩ = some (.int .u64 (n64 x.a)) ∧ w'.cell? ⟨wr.heap.size, 1, none⟩ = some (.int .u64 (n64 x.s)) ∧ w'.cell? ⟨wr.heap.size, 3, none⟩ = some (.slice x.m x.n x.c)) (first | exact HSC.out _ _ _ k3.out | exact HSC.out _ _ _ k3.out.drew | exact HSC.out _ _ _ (k3.out.box _ _ _ (fun y hy => Or.inr hy) _ k3.out.rest) | exact HSC.out _ _ _ (k3.out.box _ _ _ (fun y hy => Or.inr hy) _ k3.out.rest).drew | exact HSC.out _ _ _ k4.out) (first | (go_at_call 39; refine (k3.out.putd 8 6 _ rfl rfl (by have := HB2.out; intro v hv; simp only [List.mem_cons, List.not_mem_nil, or_false] at hv; omega) (by rw [HWP.out, HWN.out]; rfl) (by omega) (A + 56) (by omega) (by have := HB2.out; omega) hnb (by omega)).mono ?_; rintro e w4 ⟨rfl, h1⟩; have k4 : Hid (Pn f n T [(wr.heap.size, #[.int .u64 (n64 x.a), .int .u64 (n64 x.s), .int .i64 x.f, .slice x.m x.n x.c], 42), (w.heap.size, #[vd, .int .i64 tb, .int .i64 tx, .int .i64 ow, .int .i64 se, .int .i64 sz], 50)] w (w.heap.size + 1) (fun i => D i ∨ DS L k i) 64 (A + 56) [] w4) := h1; clear h1))
      --@CUT7
      obtain ⟨s1, s2, s3, s4, s5⟩ := HSC.out _ _ _ k4.out
      go_upto_region 7 with fail
      go_region_law (refine step_part rfl (.tmp 48) (.tmp 50) rfl f n P (n - P) (n - P) T (fun i => (D i ∨ DS L k i) ∨ (64 ≤ i ∧ i < A + 56)) (.slice x.m x.n x.c) (Dt k) (by simp [Act.eval, Act.put]) (by simp [Act.eval, Act.put]) (by first | exact HDK'.out.2.later (Below.drew (HB1.out.trans k4.out.below)) HW1.out | exact HDK'.out.2.later (HB1.out.trans k4.out.below) HW1.out) (by first | exact k4.out.drew.fil | exact k4.out.fil) (by rw [HDK'.out.1]; have := HB2.out; omega) (by rw [HDK'.out.1]; have := HB2.out; omega) HSD'.out ?_; intro w5 hf5 hk5; have k5 : Hid (Pn f n T [(wr.heap.size, #[.int .u64 (n64 x.a), .int .u64 (n64 x.s), .int .i64 x.f, .slice x.m x.n x.c], 42), (w.heap.size, #[vd, .int .i64 tb, .int .i64 tx, .int .i64 ow, .int .i64 se, .int .i64 sz], 50)] w (w.heap.size + 1) (fun i => D i ∨ DS L (k + 1) i) 64 (A + 56) [] w5) := (k4.out.drew.data hf5 hk5 _ (fun i _ => (by rw [HDS'.out i, HDK'.out.1]; exact or4 _ _ _ _))); clear hf5 hk5)
      --@CUT8
      all_goals
        clear k4 k3 k2 s1 s2 s3 s4 s5
        go_wp2
        go_roundw
        case rel => exact ⟨k + 1, by omega, by go_num, A + 56, (by have := HB2.out; unfold Hid; omega), k5.out.less _ (fun y hy => List.mem_cons_of_mem _ hy) [] Sub.nil⟩
        case measure => simp only [intOf]; omega
    · obtain rfl : k = L.length := by omega
      have hltI : ¬ ((L.length : Int) < L.length) := by omega
      go_wp2
      first | go_end0 | refine bodyPost_ret (results_none rfl _ _ _) rfl ?_
      have h1 := HE.out
      rw [h1] at hp
      exact ⟨rfl, hp.out.fil, hp.out.kp⟩
end Go.Proofs.YtopddflnahfomaaGreatDoor
