/-
  Begin of the program's bus.
-/
import Derived.Test.YtghiabdkgfhdbaaBxf
import Derived.Test.YtghiabdkgfhdbaaBap
namespace Go.Proofs.Ytghiabdkgfhdbaa
set_option linter.unusedVariables false
open Go.ChangeShapes Go.WideShapes Go.ChangeAt Go.RowKit Go.Deep Go.MuLone
/-- What a world brings. -/
def St.beg (S : St) (t e s : Bool) (l : List Int) : St := if S.off = 0 then { S.joi l with ext := e, soft := s, time := if t = true then (S.time + 1) % 18446744073709551616 else S.time } else S
theorem Begin_off {B : Nat} {L : Lay} {S : St} (w : World) (h : PB B L S w) (t e s : Bool) (v : Value) (l : List Int) (ho : S.off ≠ 0) :
    Calls Try.prog 15 #[.pointer (some ⟨L.b, 0, none⟩), .agg #[.bool t, .bool e, .bool s, v]] w fun e' w' => e' = .returned (.tuple #[]) ∧ ∃ L', PSt B L w L' (S.beg t e s l) w' := by
  have HT : Hid (S.beg t e s l = S) := by unfold Hid St.beg; rw [if_neg ho]
  generalize S.beg t e s l = T at HT ⊢
  have HP : Hid (PB B L S w) := h
  obtain ⟨W, hW⟩ : ∃ W, w.alloc (.cells #[.bool t, .bool e, .bool s, v] 43) = W := ⟨_, rfl⟩
  have hb : Below w.heap.size w W := by rw [← hW]; exact (Below.refl _ _).alloc (Nat.le_refl _) _
  have b1 := (h.later hb).cl.b1
  have p0 := (h.later hb).cl.p0
  have HB : Hid (Below w.heap.size w W) := hb
  have ho2 : ¬ (S.off = 0) := ho
  have ho3 : (S.off == 0) = false := by simpa using ho
  clear h hb ho
  go_enter Try.func15, Try.ntmps15
  go_upto_region 1 with fail
  clear hW
  go_wp2
  first | go_end0 | refine bodyPost_ret (results_none rfl _ _ _) rfl ?_
  refine ⟨rfl, L, ?_⟩
  rw [HT.out]
  exact .quiet HP.out HB.out
set_option maxRecDepth 100000 in
set_option maxHeartbeats 4000000 in
theorem Begin_on {B : Nat} {L : Lay} {S : St} (w : World) (h : PB B L S w) (t e s : Bool) (v : Value) (l : List Int) (ho : S.off = 0) (hv : Byt w v l) (hl : l.length ≤ 140737488351232) (h64 : S.inp.length ≤ 64) (hap : ∀ g off n c, v = .slice (some ⟨g, off, none⟩) n c → ¬ L.own g) :
    Calls Try.prog 15 #[.pointer (some ⟨L.b, 0, none⟩), .agg #[.bool t, .bool e, .bool s, v]] w fun e' w' => e' = .returned (.tuple #[]) ∧ ∃ L', PSt B L w L' (S.beg t e s l) w' := by
  have HT : Hid (S.beg t e s l = { S.joi l with ext := e, soft := s, time := if t = true then (S.time + 1) % 18446744073709551616 else S.time }) := by unfold Hid St.beg; rw [if_pos ho]
  generalize S.beg t e s l = T at HT ⊢
  obtain ⟨W, hW⟩ : ∃ W, w.alloc (.cells #[.bool t, .bool e, .bool s, v] 43) = W := ⟨_, rfl⟩
  have hb : Below w.heap.size w W := by rw [← hW]; exact (Below.refl _ _).alloc (Nat.le_refl _) _
  have hbox : W.heap[w.heap.size]? = some (.cells #[.bool t, .bool e, .bool s, v] 43 (0, 0)) := by rw [← hW]; exact heap_alloc_new w _
  have h1 := h.later hb
  have b1 := h1.cl.b1
  have b5 := h1.cl.b5
  have p0 := h1.cl.p0
  have u4 := h1.cl.u4
  rw [ho] at p0
  have v3 : W.cell? ⟨w.heap.size, 3, none⟩ = some v := cell_of_row W _ 3 _ _ _ hbox
  have HB : Hid (Below w.heap.size w W) := hb
  have HJ : Hid (∀ w1, Below W.heap.size W w1 → Calls Try.prog 31 #[.pointer (some ⟨L.q, 0, none⟩), v] w1 fun e w' => e = .returned (.tuple #[]) ∧ ∃ L', PSt B L w1 L' (S.joi l) w') := fun w1 hb1 => by
    have hq : Below w.heap.size w w1 := hb.trans (hb1.mono hb.size)
    exact join_c w1 (h.later hq) v l (hv.later hq rfl) hl h64 (fun g off n c e2 => fun e3 => hap g off n c e2 (by rw [e3]; unfold Lay.own; simp))
  have HBX : Hid (∀ w1 w2 L', Below W.heap.size W w1 → PSt B L w1 L' (S.joi l) w2 → w2.heap[w.heap.size]? = some (.cells #[.bool t, .bool e, .bool s, v] 43 (0, 0)) ∧ PSt B L w L' (S.joi l) w2 ∧ w.heap.size < w2.heap.size) := fun w1 w2 L' hb1 hx => by
    have hlt : w.heap.size < W.heap.size := (Array.getElem?_eq_some_iff.1 hbox).1
    refine ⟨?_, hx.pre (hb.trans (hb1.mono hb.size)), Nat.lt_of_lt_of_le hlt (Nat.le_trans hb1.size hx.x.size)⟩
    rw [hx.x.block w.heap.size (Nat.lt_of_lt_of_le hlt hb1.size) (fun hk => by have := h.own_hi _ hk; omega), hb1.block _ hlt]
    exact hbox
  have HP : Hid (PB B L S w) := h
  obtain ⟨av, cv, ev, _⟩ := hv
  subst ev
  clear h hb hbox h1 hap
  go_enter Try.func15, Try.ntmps15
  go_upto_region 1 with fail
  clear hW
  go_upto_region 2 with fail
  go_region_held3 (fun w' => w'.cell? ⟨L.b, 5, none⟩ = some (.pointer (some ⟨L.u, 0, none⟩)) ∧ w'.cell? ⟨L.u, 4, none⟩ = some (.pointer (some ⟨L.q, 0, none⟩)) ∧ w'.cell? ⟨w.heap.size, 3, none⟩ = some (.slice av l.length cv)) (first | exact ⟨b5, u4, v3⟩ | exact HS2.out)
    (first | (go_at_call 31; refine (HJ.out _ (Below.drew (Below.refl _ _))).mono ?_; rintro e w2 ⟨rfl, L', hx⟩; obtain ⟨hx1, hx2, hx3⟩ := HBX.out _ w2 L' (Below.drew (Below.refl _ _)) hx; have HX : Hid (PSt B L w L' (S.joi l) w2) := hx2; have HBO : Hid (w2.heap[w.heap.size]? = some (.cells #[.bool t, .bool e, .bool s, .slice av l.length cv] 43 (0, 0))) := hx1; have HS2 : Hid (w2.cell? ⟨L.b, 5, none⟩ = some (.pointer (some ⟨L.u, 0, none⟩)) ∧ w2.cell? ⟨L.u, 4, none⟩ = some (.pointer (some ⟨L.q, 0, none⟩)) ∧ w2.cell? ⟨w.heap.size, 3, none⟩ = some (.slice av l.length cv)) := ⟨by rw [← hx2.b.1, ← hx2.b.2.1]; exact hx2.p.cl.b5, by rw [← hx2.b.2.1, ← hx2.b.2.2.1]; exact hx2.p.cl.u4, cell_of_row w2 _ 3 _ _ _ hx1⟩; clear hx hx1 hx2 hx3))
  have hb6 := HX.out.p.cl.b6
  have hb7 := HX.out.p.cl.b7
  have fb6 := frozen_of_row w2 L'.b 6 _ _ HX.out.p.hb
  have fb7 := frozen_of_row w2 L'.b 7 _ _ HX.out.p.hb
  have lb := (Array.getElem?_eq_some_iff.1 HX.out.p.hb).1
  rw [HX.out.b.1] at hb6 hb7 fb6 fb7
  have v0 := cell_of_row w2 _ 0 _ _ _ HBO.out
  have v1 := cell_of_row w2 _ 1 _ _ _ HBO.out
  have v2 := cell_of_row w2 _ 2 _ _ _ HBO.out
  have hne : ¬ L.b = w.heap.size := fun e2 => by
    have := HP.out.lt.b
    omega
  have hne2 : ¬ w.heap.size = L.b := fun e2 => hne e2.symm
  clear b1 b5 p0 u4 v3
  go_upto_region 3 with fail
  go_region
  have hp3 : PB B L' { S.joi l with ext := e, soft := s } ((w2.setCell ⟨L.b, 6, none⟩ (.bool e)).setCell ⟨L.b, 7, none⟩ (.bool s)) := by
    have := (HX.out.p.set_ext e).set_soft s
    rw [HX.out.b.1] at this
    exact this
  have hx3 : Exc L.own w ((w2.setCell ⟨L.b, 6, none⟩ (.bool e)).setCell ⟨L.b, 7, none⟩ (.bool s)) := (HX.out.x.set L.b 6 _ (by unfold Lay.own; simp)).set L.b 7 _ (by unfold Lay.own; simp)
  have hv0 : ((w2.setCell ⟨L.b, 6, none⟩ (.bool e)).setCell ⟨L.b, 7, none⟩ (.bool s)).cell? ⟨w.heap.size, 0, none⟩ = some (.bool t) := by
    rw [cell_of_row _ _ 0 _ _ _ ((Below.heap_setCell _ _ _ _ (fun e2 => hne2 e2)).trans ((Below.heap_setCell _ _ _ _ (fun e2 => hne2 e2)).trans HBO.out))]; rfl
  generalize (w2.setCell ⟨L.b, 6, none⟩ (.bool e)).setCell ⟨L.b, 7, none⟩ (.bool s) = X at hp3 hx3 hv0 ⊢
  have HX3 : Hid (PB B L' { S.joi l with ext := e, soft := s } X ∧ Exc L.own w X ∧ (∀ k, L'.own k → L.own k ∨ w.heap.size ≤ k) ∧ L'.b = L.b ∧ L'.u = L.u ∧ L'.q = L.q ∧ L'.ck = L.ck) := ⟨hp3, hx3, HX.out.o, HX.out.b⟩
  have b4 := hp3.cl.b4
  have k1 := hp3.cl.k1
  have fk := frozen_of_row X L'.ck 1 _ _ hp3.hk
  rw [HX.out.b.1, HX.out.b.2.2.2] at b4
  rw [HX.out.b.2.2.2] at k1 fk
  have ht : (S.joi l).time = S.time := rfl
  simp only [ht] at k1
  clear hb6 hb7 fb6 fb7 lb v0 v1 v2 hne hne2 hp3 hx3 HX HBO HS2 ht
  cases t with
  | true =>
    go_wp2
    first | go_end0 | refine bodyPost_ret (results_none rfl _ _ _) rfl ?_
    obtain ⟨q1, q2, q3, q4⟩ := HX3.out
    refine ⟨rfl, L', ?_⟩
    have hw : IntKind.u64.wrap (S.time + 1) = (S.time + 1) % 18446744073709551616 := by rw [IntKind.wrap_u64]
    rw [HT.out, hw]
    have q5 := q1.drew.set_time ((S.time + 1) % 18446744073709551616)
    rw [q4.2.2.2] at q5
    exact ⟨q5, (q2.trans ((Exc.of_below (Below.drew (Below.refl _ _)) rfl))).set L.ck 1 _ (by unfold Lay.own; simp), q3, q4⟩
  | false =>
    go_wp2
    first | go_end0 | refine bodyPost_ret (results_none rfl _ _ _) rfl ?_
    obtain ⟨q1, q2, q3, q4⟩ := HX3.out
    refine ⟨rfl, L', ?_⟩
    rw [HT.out]
    exact ⟨q1.drew, q2.trans (Exc.of_below (Below.drew (Below.refl _ _)) rfl), q3, q4⟩
end Go.Proofs.Ytghiabdkgfhdbaa
