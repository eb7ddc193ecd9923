/-
  BusOwn: the walk.
-/
import Derived.Test.YtghiabdkgfhdbaaBoy
import Derived.BigRegion
import Derived.BigQuiet
import Derived.Deep.QuietTactic
import Derived.Deep.CutRange
namespace Go.Proofs.Ytghiabdkgfhdbaa
set_option linter.unusedVariables false
open Go.ChangeShapes Go.WideShapes Go.ChangeAt Go.RowKit Go.Deep Go.MuLone
theorem info22 : (Try.prog.info? 22).map (fun i => (i.zero, i.size, i.bytes)) = some (some (.slice none 0 0), 1, 24) := by kernel_rfl
/-- One list appended to a row of lists of the call's own. -/
theorem appS {ops : Array Oper} {rest : List Oper} {o : Oper} {a : Act} {w : World} {Q : Exit → Act → World → Prop} (hgd : o.guard = none) (s x : Operand) (ho : o.op = .call { callee := .builtin .append, args := #[s, x], argTypes := #[34, 34] })
    (B : Nat) (v : Value) (n : Nat) (l : List Value) (b : Value) (hb1 : b.oneCell' = true) (hs : a.eval s = v) (hown : w.ownsRow B 22 1 v n l) (hx : a.eval x = .slice (some ⟨w.heap.size, 0, none⟩) 1 1) (hl : n ≤ 1000) (hB : B ≤ w.heap.size)
    (h : ∀ v' w', w'.ownsRow B 22 1 v' (n + 1) (l ++ [b]) → w.grownBy w' v.ownBlock → wpList Try.prog ops Q rest (a.put o.dst v') w') :
    wpList Try.prog ops Q (o :: rest) a (w.alloc (.cells #[b] 22)) := by
  obtain ⟨i0, hi, hz0, hz1, hz2⟩ := info_parts info22
  refine wpList_append_own _ hgd s x 34 ho B 22 i0 (.slice none 0 0) 1 24 Try.underlying34 hi hz0 hz1 hz2 rfl (by decide) v n l hs (hown.alloc _) ⟨w.heap.size, 0, none⟩ 1 1 [b] hx rfl ?_ ?_ (by unfold maxLen; omega) (by omega) (by simp; omega) ?_
  · intro j u hj
    match j, hj with
    | 0, hj => simp at hj; subst hj; simp [Addr.add]
  · intro u hu; simp at hu; subst hu; exact hb1
  · intro v' w' h1 h2 _
    refine h v' w' h1 ?_
    exact ⟨h2.os, h2.tape, h2.output, Nat.le_trans (by simp) h2.size, fun k hk hne => (h2.block k (by simp; omega) hne).trans (Below.heap_alloc w _ k hk)⟩
theorem at0 {P t : List (Value × List Int)} {x : Value × List Int} {n : Nat} (h : P.length = n) : ((P ++ x :: t).map Prod.fst)[n]? = some x.1 := by subst h; simp
theorem at1 {P t : List (Value × List Int)} {a x : Value × List Int} {n : Nat} (h : P.length = n) : ((P ++ a :: x :: t).map Prod.fst)[n + 1]? = some x.1 := by
  have := at0 (P := P ++ [a]) (t := t) (x := x) (n := n + 1) (by simp [h])
  simpa using this
theorem at2 {P t : List (Value × List Int)} {a b x : Value × List Int} {n : Nat} (h : P.length = n) : ((P ++ a :: b :: x :: t).map Prod.fst)[n + 2]? = some x.1 := by
  have := at0 (P := P ++ [a, b]) (t := t) (x := x) (n := n + 2) (by simp [h])
  simpa using this
theorem Ow2.cells {B : Nat} {w0 : World} {L : Lay} {S : St} {M : Nat} {V : Nat → Value} {len : Nat → Nat} {l : Nat → List Int} {gl cl : Nat} {w : World} (h : Ow2 B w0 L S M V len l (.slice (some ⟨gl, 0, none⟩) 10 cl) w) (q : Nat) (hq : q < 10) : w.cell? ⟨gl, q, none⟩ = some (V q) := by
  obtain ⟨g, c, e, h1⟩ := h.at_
  cases e
  exact h1 q hq
theorem Ow3.cells {B : Nat} {w0 : World} {L : Lay} {S : St} {M N i : Nat} {V G : Nat → Value} {len : Nat → Nat} {gl cl : Nat} {vg : Value} {w : World} (h : Ow3 B w0 L S M N V len (.slice (some ⟨gl, 0, none⟩) 10 cl) i G vg w) (q : Nat) (hq : q < 10) : w.cell? ⟨gl, q, none⟩ = some (V q) := by
  obtain ⟨g, c, e, h1⟩ := h.at_
  cases e
  exact h1 q hq
theorem set_getD {l : List Int} {t n : Nat} {c : Int} (hl : l.length = n) (ht : t < n) (h : ∀ t', t' < t → l.getD t' 0 = c) : ∀ t', t' < t + 1 → (l.set t c).getD t' 0 = c := by
  intro t' ht'
  simp only [List.getD]
  by_cases e : t = t'
  · subst e; rw [List.getElem?_set_self (by omega)]; rfl
  · rw [List.getElem?_set_ne e]; exact h t' (by omega)
theorem mark_num (k : Nat) (hk : k < 10) : IntKind.u8.wrap (17 * ((k : Int) + 1)) = mkb k := by
  unfold mkb
  show (17 * ((k : Int) + 1)) % 256 = _
  omega
theorem pow_start {w1 w2 : World} {L : Lay} {S : St} (hp : PB w1.heap.size L S w2) (hb : Below w1.heap.size w1 w2) : Pow w1.heap.size w1 L S w2.heap.size [] 0 (.slice none 0 0) w2 :=
  ⟨hp, fun k hk => hp.own_hi k hk, ⟨fun x hx => by simp at hx, List.Pairwise.nil, fun x hx => by simp at hx⟩, World.ownsRow_nil _ _ _ _, hb, hb.size, Nat.le_refl _⟩
set_option maxRecDepth 100000 in
theorem busown_no (S : St) (ar ai ao : Option Addr) (cr ci co : Nat) (w : World) (hs : Bs S (.slice ar S.ram.length cr) (.slice ai S.inp.length ci) (.slice ao S.out.length co) w) (lr : S.ram.length ≤ 140737488355328) (li : S.inp.length ≤ 140737488355328) (lo : S.out.length ≤ 140737488355328) (hok : S.ok = false) (vO : Value) :
    Calls Try.prog 3 #[.agg (stoc S (.slice ar S.ram.length cr) (.slice ai S.inp.length ci) (.slice ao S.out.length co) vO)] w fun e w' => e = .returned (.bool true) ∧ Below w.heap.size w w' := by
  have HCB : Hid (∀ w1, Calls Try.prog 9 #[.agg (stc S (.slice ar S.ram.length cr) (.slice ai S.inp.length ci) (.slice ao S.out.length co))] w1 fun e w' => e = .returned (.bool false) ∧ Below w1.heap.size w1 w') := fun w1 => by rw [← hok]; exact rcanBe_c S ar ai ao cr ci co w1
  clear hok hs lr li lo
  unfold stoc
  unfold stc at HCB ⊢
  go_enter Try.func3, Try.ntmps3
  go_wp2_with (go_at_call 9; refine (HCB.out _).mono ?_; rintro e w1 ⟨rfl, hb1⟩; have HB1 : Hid (Below w.heap.size w w1) := box_below hb1; clear hb1)
  go_ret
  exact ⟨rfl, HB1.out⟩
set_option maxRecDepth 100000 in
set_option maxHeartbeats 8000000 in
theorem busown_y (S : St) (ar ai ao : Option Addr) (cr ci co : Nat) (w : World) (hs : Bs S (.slice ar S.ram.length cr) (.slice ai S.inp.length ci) (.slice ao S.out.length co) w) (lr : S.ram.length ≤ 140737488355328) (li : S.inp.length ≤ 140737488355328) (lo : S.out.length ≤ 140737488355328) (hok : S.ok = true) (hst : StW S) (aO : Option Addr) (cO : Nat) (O : List Cal) (hO : Cals w (.slice aO O.length cO) O) (hx : ∀ j, j < O.length → CalOk w (O.getD j cal0)) (hOl : O.length * 88 ≤ 140737488351232) :
    Calls Try.prog 3 #[.agg (stoc S (.slice ar S.ram.length cr) (.slice ai S.inp.length ci) (.slice ao S.out.length co) (.slice aO O.length cO))] w fun e w' => e = .returned (.bool true) ∧ Below w.heap.size w w' := by
  obtain ⟨W, hW⟩ : ∃ W, w.alloc (.cells (stoc S (.slice ar S.ram.length cr) (.slice ai S.inp.length ci) (.slice ao S.out.length co) (.slice aO O.length cO)) 29) = W := ⟨_, rfl⟩
  have hbW : Below w.heap.size w W := by rw [← hW]; exact below_al w _
  have hz : w.heap.size < W.heap.size := by rw [← hW]; simp
  have r1 : W.heap[w.heap.size]? = some (.cells (stoc S (.slice ar S.ram.length cr) (.slice ai S.inp.length ci) (.slice ao S.out.length co) (.slice aO O.length cO)) 29 (0, 0)) := by rw [← hW]; exact heap_alloc_new w _
  have h1 : Sok S := ⟨hok, hst⟩
  have hn := h1.n
  have HCB : Hid (Calls Try.prog 9 #[.agg (stc S (.slice ar S.ram.length cr) (.slice ai S.inp.length ci) (.slice ao S.out.length co))] W fun e w' => e = .returned (.bool true) ∧ Below W.heap.size W w') := by rw [← hok]; exact rcanBe_c S ar ai ao cr ci co W
  have HMD : Hid (∀ w1, Below W.heap.size W w1 → Calls Try.prog 10 #[.agg (stc S (.slice ar S.ram.length cr) (.slice ai S.inp.length ci) (.slice ao S.out.length co))] w1 fun e w' => ∃ L, e = .returned (.tuple #[.pointer (some ⟨Lay.b L, 0, none⟩), .bool true]) ∧ PB w1.heap.size L S w' ∧ Below w1.heap.size w1 w') := fun w1 hb => made_c S ar ai ao cr ci co w1 hok (hs.later (hbW.trans (hb.mono hbW.size))) lr li lo
  have HZ : Hid (∀ w', Below W.heap.size W w' → w'.cell? ⟨w.heap.size, 0, none⟩ = some (.slice ar S.ram.length cr) ∧ w'.cell? ⟨w.heap.size, 1, none⟩ = some (.int .u32 S.msip) ∧ w'.cell? ⟨w.heap.size, 2, none⟩ = some (.int .u64 S.cmp) ∧ w'.cell? ⟨w.heap.size, 3, none⟩ = some (.int .u64 S.time) ∧ w'.cell? ⟨w.heap.size, 4, none⟩ = some (.bool S.ext) ∧ w'.cell? ⟨w.heap.size, 5, none⟩ = some (.bool S.soft) ∧ w'.cell? ⟨w.heap.size, 6, none⟩ = some (.int .u8 S.ier) ∧ w'.cell? ⟨w.heap.size, 7, none⟩ = some (.int .u8 S.lcr) ∧ w'.cell? ⟨w.heap.size, 8, none⟩ = some (.int .u8 S.mcr) ∧ w'.cell? ⟨w.heap.size, 9, none⟩ = some (.int .u8 S.scr) ∧ w'.cell? ⟨w.heap.size, 10, none⟩ = some (.bool S.ov) ∧ w'.cell? ⟨w.heap.size, 11, none⟩ = some (.slice ai S.inp.length ci) ∧ w'.cell? ⟨w.heap.size, 12, none⟩ = some (.slice ao S.out.length co) ∧ w'.cell? ⟨w.heap.size, 13, none⟩ = some (.int .i64 S.off) ∧ w'.cell? ⟨w.heap.size, 14, none⟩ = some (.int .i64 S.code) ∧ w'.cell? ⟨w.heap.size, 15, none⟩ = some (.slice aO O.length cO)) := fun w' hb => ⟨(hb.cell hz).trans (cell_of_row W _ 0 _ _ _ r1), (hb.cell hz).trans (cell_of_row W _ 1 _ _ _ r1), (hb.cell hz).trans (cell_of_row W _ 2 _ _ _ r1), (hb.cell hz).trans (cell_of_row W _ 3 _ _ _ r1), (hb.cell hz).trans (cell_of_row W _ 4 _ _ _ r1), (hb.cell hz).trans (cell_of_row W _ 5 _ _ _ r1), (hb.cell hz).trans (cell_of_row W _ 6 _ _ _ r1), (hb.cell hz).trans (cell_of_row W _ 7 _ _ _ r1), (hb.cell hz).trans (cell_of_row W _ 8 _ _ _ r1), (hb.cell hz).trans (cell_of_row W _ 9 _ _ _ r1), (hb.cell hz).trans (cell_of_row W _ 10 _ _ _ r1), (hb.cell hz).trans (cell_of_row W _ 11 _ _ _ r1), (hb.cell hz).trans (cell_of_row W _ 12 _ _ _ r1), (hb.cell hz).trans (cell_of_row W _ 13 _ _ _ r1), (hb.cell hz).trans (cell_of_row W _ 14 _ _ _ r1), (hb.cell hz).trans (cell_of_row W _ 15 _ _ _ r1)⟩
  have HBS0 : Hid (∀ w', Below W.heap.size W w' → Bs S (.slice ar S.ram.length cr) (.slice ai S.inp.length ci) (.slice ao S.out.length co) w') := fun w' hb => hs.later (hbW.trans (hb.mono hbW.size))
  have HST : Hid (∀ B L w9, PB B L S w9 → Calls Try.prog 11 #[.pointer (some ⟨L.b, 0, none⟩)] w9 fun e w' => ∃ ur ui uo, e = .returned (.agg (stc S ur ui uo)) ∧ Sv w9.heap.size S ur ui uo w' ∧ Below w9.heap.size w9 w') := fun B L w9 h => state_c w9 h (by omega) (by omega) (by omega)
  have HPK : Hid (∀ B L w9, PB B L S w9 → Calls Try.prog 12 #[.pointer (some ⟨L.b, 0, none⟩), .int .u64 2147483648, .int .i64 S.ram.length] w9 fun e w' => ∃ u, e = .returned (.tuple #[u, .int .i64 0]) ∧ w'.ownsRow w9.heap.size 5 1 u S.ram.length (bv S.ram) ∧ Below w9.heap.size w9 w') := fun B L w9 h => by
    have q := peek_in w9 h (by omega) 0 S.ram.length (by omega) (by omega)
    rw [List.drop_zero, List.take_length] at q
    exact q
  have HOU : Hid (∀ B L w9, PB B L S w9 → Calls Try.prog 13 #[.pointer (some ⟨L.b, 0, none⟩)] w9 fun e w' => ∃ u, e = .returned u ∧ w'.ownsRow w9.heap.size 5 1 u S.out.length (bv S.out) ∧ Below w9.heap.size w9 w') := fun B L w9 h => output_c w9 h (by omega)
  have HSM : Hid (SameC S) := same_any S
  have HBW : Hid (Below w.heap.size w W) := hbW
  have HSO : Hid (Sok S) := h1
  have hr6 : S.ram.length ≤ 65536 := hn.1
  have ho6 : S.out.length ≤ 65536 := by omega
  clear hok hst hO hx hOl hs lr li lo hbW h1 hn
  obtain ⟨u0, u1, u2, u3, u4, u5, u6, u7, u8, u9, u10, u11, u12, u13, u14, u15⟩ := HZ.out W (Below.refl _ _)
  have hW2 : w.alloc (.cells #[.slice ar S.ram.length cr, .int .u32 S.msip, .int .u64 S.cmp, .int .u64 S.time, .bool S.ext, .bool S.soft, .int .u8 S.ier, .int .u8 S.lcr, .int .u8 S.mcr, .int .u8 S.scr, .bool S.ov, .slice ai S.inp.length ci, .slice ao S.out.length co, .int .i64 S.off, .int .i64 S.code, .slice aO O.length cO] 29) = W := hW
  clear hW r1 hz
  unfold stoc
  unfold stc at HCB HMD ⊢
  go_enter Try.func3, Try.ntmps3
  go_upto_region 1 with fail
  clear hW2
  go_upto_region 4 with (go_at_call 9; refine HCB.out.mono ?_; rintro e w1 ⟨rfl, hb1⟩; have HB1 : Hid (Below W.heap.size W w1) := hb1; clear hb1)
  clear u0 u1 u2 u3 u4 u5 u6 u7 u8 u9 u10 u11 u12 u13 u14 u15
  obtain ⟨u0, u1, u2, u3, u4, u5, u6, u7, u8, u9, u10, u11, u12, u13, u14, u15⟩ := HZ.out w1 HB1.out
  go_upto_region 7 with (go_at_call 10; refine (HMD.out w1 HB1.out).mono ?_; rintro e w2 ⟨L, rfl, hp, hb2⟩; have HP : Hid (PB w1.heap.size L S w2) := hp; have HB2 : Hid (Below w1.heap.size w1 w2) := hb2; have HB3 : Hid (Below W.heap.size W w2) := HB1.out.trans (hb2.mono HB1.out.size); clear hp hb2)
  clear u0 u1 u2 u3 u4 u5 u6 u7 u8 u9 u10 u11 u12 u13 u14 u15
  obtain ⟨u0, u1, u2, u3, u4, u5, u6, u7, u8, u9, u10, u11, u12, u13, u14, u15⟩ := HZ.out w2 HB3.out
  go_upto_region 10 with fail
  have HP0 : Hid (Pow w1.heap.size w1 L S w2.heap.size [] 0 (.slice none 0 0) w2) := pow_start HP.out HB2.out
  have HZ2 : Hid (∀ w', Below w1.heap.size w1 w' → w'.cell? ⟨w.heap.size, 0, none⟩ = some (.slice ar S.ram.length cr) ∧ w'.cell? ⟨w.heap.size, 1, none⟩ = some (.int .u32 S.msip) ∧ w'.cell? ⟨w.heap.size, 2, none⟩ = some (.int .u64 S.cmp) ∧ w'.cell? ⟨w.heap.size, 3, none⟩ = some (.int .u64 S.time) ∧ w'.cell? ⟨w.heap.size, 4, none⟩ = some (.bool S.ext) ∧ w'.cell? ⟨w.heap.size, 5, none⟩ = some (.bool S.soft) ∧ w'.cell? ⟨w.heap.size, 6, none⟩ = some (.int .u8 S.ier) ∧ w'.cell? ⟨w.heap.size, 7, none⟩ = some (.int .u8 S.lcr) ∧ w'.cell? ⟨w.heap.size, 8, none⟩ = some (.int .u8 S.mcr) ∧ w'.cell? ⟨w.heap.size, 9, none⟩ = some (.int .u8 S.scr) ∧ w'.cell? ⟨w.heap.size, 10, none⟩ = some (.bool S.ov) ∧ w'.cell? ⟨w.heap.size, 11, none⟩ = some (.slice ai S.inp.length ci) ∧ w'.cell? ⟨w.heap.size, 12, none⟩ = some (.slice ao S.out.length co) ∧ w'.cell? ⟨w.heap.size, 13, none⟩ = some (.int .i64 S.off) ∧ w'.cell? ⟨w.heap.size, 14, none⟩ = some (.int .i64 S.code) ∧ w'.cell? ⟨w.heap.size, 15, none⟩ = some (.slice aO O.length cO)) := fun w' hb => HZ.out w' (HB1.out.trans (hb.mono HB1.out.size))
  have HBS1 : Hid (∀ w', Below w1.heap.size w1 w' → Bs S (.slice ar S.ram.length cr) (.slice ai S.inp.length ci) (.slice ao S.out.length co) w') := fun w' hb => HBS0.out w' (HB1.out.trans (hb.mono HB1.out.size))
  have HBA : Hid (∀ w', Below w1.heap.size w1 w' → Below w.heap.size w w') := fun w' hb => HBW.out.trans ((HB1.out.trans (hb.mono HB1.out.size)).mono HBW.out.size)
  obtain ⟨M, hM⟩ : ∃ M, M = w2.heap.size := ⟨_, rfl⟩
  rw [← hM] at HP0
  clear u0 u1 u2 u3 u4 u5 u6 u7 u8 u9 u10 u11 u12 u13 u14 u15 HZ HBS0 HMD HCB HP HB2 HB3 hM
  have hnn : ((S.ram.length : Int) != (S.ram.length : Int)) = false := by simp
  --@CUT1
  go_loopw [7, 8] (fun vl t wr => ∃ (k : Nat) (P : List (Value × List Int)), k ≤ 2 ∧ t = .int .i64 k ∧ P.length = 5 * k ∧ Hid (Pow w1.heap.size w1 L S M P (5 * k) vl wr)) (fun _ t _ => 2 - (intOf t).toNat)
  case atStart => exact ⟨0, [], by omega, rfl, rfl, HP0⟩
  case round =>
    obtain ⟨k, P, hk, rfl, hPl, hst⟩ := hrel
    clear HP0
    by_cases hlt : k < 2
    · as_aux_lemma =>
        have hlt2 : (k : Int) < 2 := by omega
        go_upto_region 13 with (go_at_call 11; refine (HST.out _ _ _ hst.out.p).mono ?_; rintro e w3 ⟨ur, ui, uo, rfl, hsv, hb3⟩; obtain ⟨y1, z1, y2, z2, y3, z3, rfl, rfl, rfl⟩ := hsv.bs.forms; have HP3 : Hid _ := hst.out.three (by omega) hb3 hsv HSO.out; unfold stc; clear hsv hb3)
        --@CUT2
        obtain ⟨W3, hW3⟩ : ∃ W3, w3.alloc (.cells #[.slice y1 S.ram.length z1, .int .u32 S.msip, .int .u64 S.cmp, .int .u64 S.time, .bool S.ext, .bool S.soft, .int .u8 S.ier, .int .u8 S.lcr, .int .u8 S.mcr, .int .u8 S.scr, .bool S.ov, .slice y2 S.inp.length z2, .slice y3 S.out.length z3, .int .i64 S.off, .int .i64 S.code] 26) = W3 := ⟨_, rfl⟩
        have HP4 : Hid (Pow w1.heap.size w1 L S M (P ++ [(.slice y1 S.ram.length z1, S.ram), (.slice y2 S.inp.length z2, S.inp), (.slice y3 S.out.length z3, S.out)]) (5 * k) u7 W3) := by rw [← hW3]; exact HP3.out.later (below_al w3 _)
        have HR3 : Hid (W3.heap[w3.heap.size]? = some (.cells #[.slice y1 S.ram.length z1, .int .u32 S.msip, .int .u64 S.cmp, .int .u64 S.time, .bool S.ext, .bool S.soft, .int .u8 S.ier, .int .u8 S.lcr, .int .u8 S.mcr, .int .u8 S.scr, .bool S.ov, .slice y2 S.inp.length z2, .slice y3 S.out.length z3, .int .i64 S.off, .int .i64 S.code] 26 (0, 0))) := by unfold Hid; rw [← hW3]; exact heap_alloc_new w3 _
        rw [hW3]
        clear hW3 HP3 hst
        obtain ⟨gx, hgx⟩ : ∃ gx, gx = w3.heap.size := ⟨_, rfl⟩
        rw [← hgx] at HR3 ⊢
        clear hgx
        have c0 : W3.cell? ⟨gx, 0, none⟩ = some (.slice y1 S.ram.length z1) := cell_of_row W3 _ 0 _ _ _ HR3.out
        go_upto_region 14 with (at_builtin; refine appS (by rfl) _ _ (by rfl) M _ (5 * k) _ (.slice y1 S.ram.length z1) (by rfl) (by rfl) HP4.out.ls (by rfl) (by omega) HP4.out.hM ?_; intro v4 w4 ho hg; have HP5 : Hid _ := HP4.out.app (.slice y1 S.ram.length z1) (at0 hPl) ho hg; have HR4 : Hid _ := HP4.out.row hg HR3.out; clear ho hg)
        have c1 : w4.cell? ⟨gx, 11, none⟩ = some (.slice y2 S.inp.length z2) := cell_of_row w4 _ 11 _ _ _ HR4.out
        --@CUT3
        go_upto_region 15 with (at_builtin; refine appS (by rfl) _ _ (by rfl) M _ (5 * k + 1) _ (.slice y2 S.inp.length z2) (by rfl) (by rfl) HP5.out.ls (by rfl) (by omega) HP5.out.hM ?_; intro v5 w5 ho hg; have HP6 : Hid _ := HP5.out.app (.slice y2 S.inp.length z2) (at1 hPl) ho hg; have HR5 : Hid _ := HP5.out.row hg HR4.out; clear ho hg)
        have c2 : w5.cell? ⟨gx, 12, none⟩ = some (.slice y3 S.out.length z3) := cell_of_row w5 _ 12 _ _ _ HR5.out
        go_upto_region 16 with (at_builtin; refine appS (by rfl) _ _ (by rfl) M _ (5 * k + 1 + 1) _ (.slice y3 S.out.length z3) (by rfl) (by rfl) HP6.out.ls (by rfl) (by omega) HP6.out.hM ?_; intro v6 w6 ho hg; have HP7 : Hid _ := HP6.out.app (.slice y3 S.out.length z3) (at2 hPl) ho hg; clear ho hg)
        clear c0 c1 c2 HR3 HR4 HR5 HP4 HP5 HP6
        go_upto_region 19 with (go_at_call 12; refine (HPK.out _ _ _ HP7.out.p).mono ?_; rintro e w7 ⟨up, rfl, hop, hb7⟩; obtain ⟨a7, c7, e7, _⟩ := Byt.of_own hop; subst e7; have HP8 : Hid _ := HP7.out.one (by simp; omega) hb7 _ S.ram hop hr6; clear hop hb7)
        --@CUT4
        rw [List.append_assoc] at HP8
        have hP3 : (P ++ [((.slice y1 S.ram.length z1, S.ram) : Value × List Int), (.slice y2 S.inp.length z2, S.inp), (.slice y3 S.out.length z3, S.out)]).length = 5 * k + 1 + 1 + 1 := by simp; omega
        go_upto_region 20 with (at_builtin; refine appS (by rfl) _ _ (by rfl) M _ (5 * k + 1 + 1 + 1) _ (.slice a7 S.ram.length c7) (by rfl) (by rfl) HP8.out.ls (by rfl) (by omega) HP8.out.hM ?_; intro v8 w8 ho hg; have HP9 : Hid _ := HP8.out.app (.slice a7 S.ram.length c7) (by rw [← List.append_assoc]; exact at0 hP3) ho hg; clear ho hg)
        clear HP7 HP8
        go_upto_region 11 with (first | (go_at_call 13; refine (HOU.out _ _ _ HP9.out.p).mono ?_; rintro e w9 ⟨uq, rfl, hop, hb9⟩; obtain ⟨a9, c9, e9, _⟩ := Byt.of_own hop; subst e9; have HP10 : Hid _ := HP9.out.one (by simp; omega) hb9 _ S.out hop ho6; clear hop hb9) | (at_builtin; refine appS (by rfl) _ _ (by rfl) M _ (5 * k + 1 + 1 + 1 + 1) _ (.slice a9 S.out.length c9) (by rfl) (by rfl) HP10.out.ls (by rfl) (by omega) HP10.out.hM ?_; intro v10 w10 ho hg; have HP11 : Hid _ := HP10.out.app (.slice a9 S.out.length c9) (by rw [← List.append_assoc]; exact at0 (by simp; omega)) ho hg; clear ho hg))
        --@CUT5
        go_wp2
        go_roundw
        all_goals first | exact ⟨k + 1, _, by omega, by go_num, by simp; omega, HP11⟩ | (simp [intOf] <;> omega)
    · obtain rfl : k = 2 := by omega
      rw [show ((2 : Nat) : Int) = (2 : Int) from rfl]
      obtain ⟨V, len, l, ho2⟩ := hst.out.ow2 hPl
      obtain ⟨gl, cl, hvl, _⟩ := ho2.at_
      subst hvl
      have HO2 : Hid (Ow2 w1.heap.size w1 L S M V len l (.slice (some ⟨gl, 0, none⟩) 10 cl) wr) := ho2
      clear ho2 hst HPK HOU hPl hk hlt
      --@CUT6
      go_upto_region 22 with fail
      go_loopw [12] (fun i wr => ∃ (k : Nat) (l : Nat → List Int), k ≤ 10 ∧ i = .int .i64 k ∧ (∀ q, q < k → ∀ t, t < len q → (l q).getD t 0 = mkb q) ∧ Hid (Ow2 w1.heap.size w1 L S M V len l (.slice (some ⟨gl, 0, none⟩) 10 cl) wr)) (fun i _ => 10 - (intOf i).toNat)
      case atStart => exact ⟨0, l, by omega, rfl, fun q hq => by omega, HO2⟩
      case round =>
        obtain ⟨k, l, hk, rfl, hf, hst⟩ := hrel
        clear HO2
        by_cases hlt : k < 10
        · as_aux_lemma =>
            have hltq : (k : Int) < 10 := by omega
            obtain ⟨a, cp, hV⟩ := hst.out.form k hlt
            have hln : len k ≤ 65536 := hst.out.len k hlt
            have HF : Hid (∀ q, q < k → ∀ t, t < len q → (l q).getD t 0 = mkb q) := hf
            clear hf
            go_upto_region 25 with fail
            --@CUT7
            go_loopw [13] (fun j wr => ∃ (t : Nat) (l : Nat → List Int), t ≤ len k ∧ j = .int .i64 t ∧ Hid (∀ q, q < k → ∀ t, t < len q → (l q).getD t 0 = mkb q) ∧ Hid (∀ t', t' < t → (l k).getD t' 0 = mkb k) ∧ Hid (Ow2 w1.heap.size w1 L S M V len l (.slice (some ⟨gl, 0, none⟩) 10 cl) wr)) (fun j _ => len k - (intOf j).toNat)
            case atStart => exact ⟨0, l, by omega, rfl, HF, (fun t' ht => by omega), hst⟩
            case round =>
              obtain ⟨t, l2, ht, rfl, hf2, hf3, hst2⟩ := hrel
              clear hst HF
              have hcl : wr.cell? ⟨gl, k, none⟩ = some (.slice a (len k) cp) := by rw [← hV]; exact hst2.out.cells k hlt
              by_cases hltt : t < len k
              · have hltt2 : (t : Int) < (len k : Int) := by omega
                obtain ⟨g, cp2, hV2⟩ := hst2.out.sm k hlt (by omega)
                rw [hV] at hV2
                injection hV2 with e1 e2 e3
                subst e1
                have hce : wr.cell? ⟨g, t, none⟩ = some (.int .u8 ((l2 k).getD t 0)) := by
                  have ho := hst2.out.own k hlt
                  rw [hV] at ho
                  rw [ho.cellAt t (by omega), bv_get _ _ (by rw [hst2.out.ll k hlt]; exact hltt)]
                have hfr : wr.frozen? ⟨g, t, none⟩ = false := by
                  have ho := hst2.out.own k hlt
                  rw [hV] at ho
                  exact ho.frozenAt t
                have HN : Hid (Ow2 w1.heap.size w1 L S M V len (upd l2 k ((l2 k).set t (mkb k))) (.slice (some ⟨gl, 0, none⟩) 10 cl) (wr.setCell ⟨g, t, none⟩ (.int .u8 (17 * ((k : Int) + 1))))) := hst2.out.put k hlt t hltt (mkb k) hV
                have HN2 : Hid (∀ q, q < k → ∀ t', t' < len q → (upd l2 k ((l2 k).set t (mkb k)) q).getD t' 0 = mkb q) := fun q hq => by rw [upd_ne _ _ _ _ (by omega)]; exact hf2.out q hq
                have HN3 : Hid (∀ t', t' < t + 1 → (upd l2 k ((l2 k).set t (mkb k)) k).getD t' 0 = mkb k) := by unfold Hid; rw [upd_at]; exact set_getD (hst2.out.ll k hlt) hltt hf3.out
                generalize (l2 k).getD t 0 = zz at hce
                clear e2 e3 hf2 hf3 hst2
                --@CUT8
                go_wp2
                go_roundw
                all_goals first | exact ⟨t + 1, _, by omega, by go_num, HN2, HN3, HN⟩ | (simp [intOf] <;> omega)
              · obtain rfl : t = len k := by omega
                have hnl : ¬ (len k : Int) < (len k : Int) := by omega
                have HN2 : ∀ q, q < k + 1 → ∀ t, t < len q → (l2 q).getD t 0 = mkb q := fun q hq => by
                  by_cases e : q = k
                  · subst e; exact hf3.out
                  · exact hf2.out q (by omega)
                have HN4 : Hid (∀ q, q < k + 1 → ∀ t, t < len q → (l2 q).getD t 0 = mkb q) := HN2
                clear HN2 hf2 hf3
                go_wp2
                go_roundw
                all_goals first | exact ⟨k + 1, l2, by omega, by go_num, HN4.out, hst2⟩ | (simp [intOf] <;> omega)
        · obtain rfl : k = 10 := by omega
          rw [show ((10 : Nat) : Int) = (10 : Int) from rfl]
          obtain ⟨N, hN⟩ : ∃ N, N = wr.heap.size := ⟨_, rfl⟩
          have HO3 : Hid (Ow3 w1.heap.size w1 L S M N V len (.slice (some ⟨gl, 0, none⟩) 10 cl) 0 V (.slice none 0 0) wr) := by rw [hN]; exact hst.out.ow3 hf
          clear hst hf hN
          --@CUT9
          go_upto_region 30 with fail
          go_loopw [14, 15] (fun vg i wr => ∃ (k : Nat) (G : Nat → Value), k ≤ 10 ∧ i = .int .i64 k ∧ Hid (Ow3 w1.heap.size w1 L S M N V len (.slice (some ⟨gl, 0, none⟩) 10 cl) k G vg wr)) (fun _ i _ => 10 - (intOf i).toNat)
          case atStart => exact ⟨0, V, by omega, rfl, HO3⟩
          case round =>
            obtain ⟨k, G, hk, rfl, hst⟩ := hrel
            clear HO3
            by_cases hlt : k < 10
            · as_aux_lemma =>
                have hltr : (k : Int) < 10 := by omega
                obtain ⟨a, cp, hV, _⟩ := hst.out.old_ k hlt
                have hcl : wr.cell? ⟨gl, k, none⟩ = some (.slice a (len k) cp) := by rw [← hV]; exact hst.out.cells k hlt
                have hln : len k ≤ 65536 := hst.out.len k hlt
                have HS4 : Hid (Ow4 M V len k 0 (.slice a (len k) cp) wr wr) := by have h := hst.out.start hlt; rw [hV] at h; exact h
                have HMW : Hid (M ≤ wr.heap.size) := Nat.le_trans hst.out.hM hst.out.hN
                have HVB : Hid (∀ g, (V k).ownBlock = some g → g < wr.heap.size) := fun g hg => Nat.lt_of_lt_of_le (hst.out.vb k hlt g hg) hst.out.hN
                have HV0 : Hid (∀ g off n c, V k = .slice (some ⟨g, off, none⟩) n c → off = 0) := hst.out.vz k hlt
                clear hV
                go_upto_region 34 with fail
                obtain ⟨wa, hwa⟩ : ∃ wa, wa = wr := ⟨_, rfl⟩
                rw [← hwa] at HS4 HMW HVB hst ⊢
                clear hcl
                clear hwa
                --@CUT10
                go_loopw [16, 17] (fun gv j wr => ∃ t : Nat, t ≤ 64 ∧ j = .int .i64 t ∧ Hid (Ow4 M V len k t gv wa wr)) (fun _ j _ => 64 - (intOf j).toNat)
                case atStart => exact ⟨0, by omega, rfl, HS4⟩
                case round =>
                  obtain ⟨t, ht, rfl, hp4⟩ := hrel
                  clear HS4
                  by_cases hltt : t < 64
                  · have hltt2 : (t : Int) < 64 := by omega
                    --@CUT11
                    go_upto_region 35 with (at_builtin; refine appO (by rfl) _ _ (by rfl) M _ (len k + t) (List.replicate (len k + t) (mkb k)) (17 * ((k : Int) + 1)) (by rfl) (own_later hp4.out.own (below_al wr _) rfl) ⟨wr.heap.size, 0, none⟩ (by rfl) (by rfl) (by simp [World.cell?_alloc_new]) (by omega) (Nat.le_trans HMW.out (Nat.le_trans hp4.out.x.size (below_al wr _).size)) ?_; intro v8 w8 ho8 hx8 hbl8 hc8; have HP8 : Hid (Ow4 M V len k (t + 1) v8 wa w8) := hp4.out.next HMW.out HVB.out HV0.out (below_al wr _) ho8 hx8 hbl8 hc8; clear ho8 hx8 hbl8 hc8)
                    go_wp2
                    go_roundw
                    all_goals first | exact ⟨t + 1, by omega, by go_num, HP8⟩ | (simp [intOf] <;> omega)
                  · obtain rfl : t = 64 := by omega
                    rw [show ((64 : Nat) : Int) = (64 : Int) from rfl]
                    obtain ⟨a6, c6, e6, _⟩ := Byt.of_own hp4.out.own
                    rw [List.length_replicate] at e6
                    subst e6
                    have HGS : Hid (wr.ownsRow N 22 1 u14 k ((List.range k).map G)) := own_exc hst.out.gs hp4.out.x (fun g e q => by have := hst.out.vb k hlt g q; have := (hst.out.gs.lt g e).1; omega)
                    have HNW : Hid (N ≤ wr.heap.size) := Nat.le_trans hst.out.hN hp4.out.x.size
                    --@CUT12
                    go_upto_region 31 with (at_builtin; refine appS (by rfl) _ _ (by rfl) N _ k _ (.slice a6 (len k + 64) c6) (by rfl) (by rfl) HGS.out (by rfl) (by omega) HNW.out ?_; intro v9 w9 ho9 hg9; have HP9 : Hid (Ow3 w1.heap.size w1 L S M N V len (.slice (some ⟨gl, 0, none⟩) 10 cl) (k + 1) (upd G k (.slice a6 (len k + 64) c6)) v9 w9) := hst.out.next hlt hp4.out ho9 hg9; clear ho9 hg9)
                    go_wp2
                    go_roundw
                    all_goals first | exact ⟨k + 1, _, by omega, by go_num, HP9⟩ | (simp [intOf] <;> omega)
            · obtain rfl : k = 10 := by omega
              rw [show ((10 : Nat) : Int) = (10 : Int) from rfl]
              obtain ⟨gg, cg, hvg, hgc⟩ := hst.out.gt
              subst hvg
              have HG : Hid (∀ q, q < 10 → wr.cell? ⟨gg, q, none⟩ = some (G q)) := hgc
              clear hgc hlt
              obtain ⟨wz, hwz⟩ : ∃ wz, wz = wr := ⟨_, rfl⟩
              rw [← hwz] at hst HG ⊢
              clear hwz
              --@CUT13
              go_upto_region 39 with fail
              go_loopw [18] (fun i wr => ∃ k : Nat, k ≤ 10 ∧ i = .int .i64 k ∧ wr = wz) (fun i _ => 10 - (intOf i).toNat)
              case atStart => exact ⟨0, by omega, rfl, rfl⟩
              case round =>
                obtain ⟨k, hk, rfl, hwr⟩ := hrel
                subst hwr
                by_cases hlt : k < 10
                · have hlt2 : (k : Int) < 10 := by omega
                  obtain ⟨a, cp, hV, hVc⟩ := hst.out.old_ k hlt
                  obtain ⟨g, cp2, hG, hGc⟩ := hst.out.new_ k hlt
                  have hcl : wr.cell? ⟨gl, k, none⟩ = some (.slice a (len k) cp) := by rw [← hV]; exact hst.out.cells k hlt
                  have hcg : wr.cell? ⟨gg, k, none⟩ = some (.slice (some ⟨g, 0, none⟩) (len k + 64) cp2) := by rw [← hG]; exact HG.out k hlt
                  have hmm : (mkb k != 17 * ((k : Int) + 1)) = false := by unfold mkb; simp
                  have hln : len k ≤ 65536 := hst.out.len k hlt
                  have HVC : Hid _ := hVc
                  have HGC : Hid _ := hGc
                  have hmb : 0 ≤ mkb k ∧ mkb k ≤ 255 := by unfold mkb; omega
                  clear hV hG hVc hGc
                  generalize mkb k = mk at HVC HGC hmm hmb
                  go_upto_region 42 with fail
                  --@CUT14
                  go_loopw [19] (fun j wq => ∃ t : Nat, t ≤ len k + 64 ∧ j = .int .i64 t ∧ wq = wr) (fun j _ => len k + 64 - (intOf j).toNat)
                  case atStart => exact ⟨0, by omega, rfl, rfl⟩
                  case round =>
                    obtain ⟨t, ht, rfl, hwq⟩ := hrel
                    have hwq2 := hwq.symm
                    subst hwq2
                    by_cases hltt : t < len k + 64
                    · have hltt2 : (t : Int) < ((len k + 64 : Nat) : Int) := by omega
                      have hgt := HGC.out t hltt
                      by_cases hl3 : t < len k
                      · have hl32 : (t : Int) < (len k : Int) := by omega
                        obtain ⟨gv, ov, eav, hvt⟩ := HVC.out (by omega)
                        have hvt2 := hvt t hl3
                        rw [eav] at hcl
                        clear hvt eav
                        --@CUT15
                        go_wp2
                        go_roundw
                        all_goals first | exact ⟨t + 1, by omega, by go_num, trivial⟩ | (simp [intOf] <;> omega)
                      · have hl32 : ¬ (t : Int) < (len k : Int) := by omega
                        go_wp2
                        go_roundw
                        all_goals first | exact ⟨t + 1, by omega, by go_num, trivial⟩ | (simp [intOf] <;> omega)
                    · obtain rfl : t = len k + 64 := by omega
                      have hnl : ¬ ((len k + 64 : Nat) : Int) < ((len k + 64 : Nat) : Int) := by omega
                      go_wp2
                      go_roundw
                      all_goals first | exact ⟨k + 1, by omega, by go_num, trivial⟩ | (simp [intOf] <;> omega)
                · obtain rfl : k = 10 := by omega
                  rw [show ((10 : Nat) : Int) = (10 : Int) from rfl]
                  have HPB : Hid (PB w1.heap.size L S wr) := hst.out.p
                  have HBE : Hid (Below w1.heap.size w1 wr) := hst.out.be
                  have HLE : Hid (w1.heap.size ≤ wr.heap.size) := Nat.le_trans hst.out.le (Nat.le_trans hst.out.hM hst.out.hN)
                  clear hst HG hlt
                  have HCJ : Hid (∀ w', Below wr.heap.size wr w' → w'.cell? ⟨w.heap.size, 0, none⟩ = some (.slice ar S.ram.length cr) ∧ w'.cell? ⟨w.heap.size, 1, none⟩ = some (.int .u32 S.msip) ∧ w'.cell? ⟨w.heap.size, 2, none⟩ = some (.int .u64 S.cmp) ∧ w'.cell? ⟨w.heap.size, 3, none⟩ = some (.int .u64 S.time) ∧ w'.cell? ⟨w.heap.size, 4, none⟩ = some (.bool S.ext) ∧ w'.cell? ⟨w.heap.size, 5, none⟩ = some (.bool S.soft) ∧ w'.cell? ⟨w.heap.size, 6, none⟩ = some (.int .u8 S.ier) ∧ w'.cell? ⟨w.heap.size, 7, none⟩ = some (.int .u8 S.lcr) ∧ w'.cell? ⟨w.heap.size, 8, none⟩ = some (.int .u8 S.mcr) ∧ w'.cell? ⟨w.heap.size, 9, none⟩ = some (.int .u8 S.scr) ∧ w'.cell? ⟨w.heap.size, 10, none⟩ = some (.bool S.ov) ∧ w'.cell? ⟨w.heap.size, 11, none⟩ = some (.slice ai S.inp.length ci) ∧ w'.cell? ⟨w.heap.size, 12, none⟩ = some (.slice ao S.out.length co) ∧ w'.cell? ⟨w.heap.size, 13, none⟩ = some (.int .i64 S.off) ∧ w'.cell? ⟨w.heap.size, 14, none⟩ = some (.int .i64 S.code)) := fun w' hb => by
                    have q := HZ2.out w' (HBE.out.trans (hb.mono HLE.out))
                    exact ⟨q.1, q.2.1, q.2.2.1, q.2.2.2.1, q.2.2.2.2.1, q.2.2.2.2.2.1, q.2.2.2.2.2.2.1, q.2.2.2.2.2.2.2.1, q.2.2.2.2.2.2.2.2.1, q.2.2.2.2.2.2.2.2.2.1, q.2.2.2.2.2.2.2.2.2.2.1, q.2.2.2.2.2.2.2.2.2.2.2.1, q.2.2.2.2.2.2.2.2.2.2.2.2.1, q.2.2.2.2.2.2.2.2.2.2.2.2.2.1, q.2.2.2.2.2.2.2.2.2.2.2.2.2.2.1⟩
                  have HBT : Hid (∀ w', Below wr.heap.size wr w' → Bs S (.slice ar S.ram.length cr) (.slice ai S.inp.length ci) (.slice ao S.out.length co) w') := fun w' hb => HBS1.out w' (HBE.out.trans (hb.mono HLE.out))
                  have HSP : Hid (∀ w9 : World, Below wr.heap.size wr w9 → Calls Try.prog 11 #[.pointer (some ⟨L.b, 0, none⟩)] w9 fun e w' => ∃ ur ui uo, e = .returned (.agg (stc S ur ui uo)) ∧ Bs S ur ui uo w' ∧ Below w9.heap.size w9 w') := fun w9 hb => (HST.out _ _ _ (HPB.out.later hb)).mono fun e w' ⟨x, y, z, h1, h2, h3⟩ => ⟨x, y, z, h1, h2.bs, h3⟩
                  clear HZ2 HBS1 HST
                  go_upto_region 46 with fail
                  --@CUT16
                  go_region_held3 (fun w' => w'.cell? ⟨w.heap.size, 0, none⟩ = some (.slice ar S.ram.length cr) ∧ w'.cell? ⟨w.heap.size, 1, none⟩ = some (.int .u32 S.msip) ∧ w'.cell? ⟨w.heap.size, 2, none⟩ = some (.int .u64 S.cmp) ∧ w'.cell? ⟨w.heap.size, 3, none⟩ = some (.int .u64 S.time) ∧ w'.cell? ⟨w.heap.size, 4, none⟩ = some (.bool S.ext) ∧ w'.cell? ⟨w.heap.size, 5, none⟩ = some (.bool S.soft) ∧ w'.cell? ⟨w.heap.size, 6, none⟩ = some (.int .u8 S.ier) ∧ w'.cell? ⟨w.heap.size, 7, none⟩ = some (.int .u8 S.lcr) ∧ w'.cell? ⟨w.heap.size, 8, none⟩ = some (.int .u8 S.mcr) ∧ w'.cell? ⟨w.heap.size, 9, none⟩ = some (.int .u8 S.scr) ∧ w'.cell? ⟨w.heap.size, 10, none⟩ = some (.bool S.ov) ∧ w'.cell? ⟨w.heap.size, 11, none⟩ = some (.slice ai S.inp.length ci) ∧ w'.cell? ⟨w.heap.size, 12, none⟩ = some (.slice ao S.out.length co) ∧ w'.cell? ⟨w.heap.size, 13, none⟩ = some (.int .i64 S.off) ∧ w'.cell? ⟨w.heap.size, 14, none⟩ = some (.int .i64 S.code)) (first | exact HCJ.out _ (Below.refl _ _) | exact HCJ.out _ (Below.drew (Below.refl _ _)) | exact hcj2 | exact hcj1)
                    (first | (go_at_call 11; refine (HSP.out _ ?_).mono ?_; exact Below.drew (Below.refl _ _); rintro e w8 ⟨a1, a2, a3, rfl, hby, hb1⟩; have HB8 : Hid (Below wr.heap.size wr w8) := undrew hb1; have hcj1 := HCJ.out w8 HB8.out; have HY1 : Hid (Bs S a1 a2 a3 w8) := hby; clear hb1 hby) | (go_at_call 14; refine (HSM.out a1 a2 a3 (.slice ar S.ram.length cr) (.slice ai S.inp.length ci) (.slice ao S.out.length co) w8 HY1.out (HBT.out w8 HB8.out)).mono ?_; rintro e w9 ⟨rfl, hb9⟩; have HB9 : Hid (Below wr.heap.size wr w9) := HB8.out.trans (hb9.mono HB8.out.size); have hcj2 := HCJ.out w9 HB9.out; clear hb9))
                  all_goals go_wp2
                  all_goals go_ret
                  all_goals exact ⟨rfl, HBA.out _ (HBE.out.trans (HB9.out.mono HLE.out))⟩
end Go.Proofs.Ytghiabdkgfhdbaa
