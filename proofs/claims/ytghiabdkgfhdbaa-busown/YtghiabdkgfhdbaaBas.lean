/-
  asks of the laws: the calls that tell answer alike.
-/
import Derived.Test.YtghiabdkgfhdbaaBrp
import Derived.Test.YtghiabdkgfhdbaaBgo
import Derived.Test.YtghiabdkgfhdbaaBmk
import Derived.Test.YtghiabdkgfhdbaaBos
import Derived.Deep.RegionWith
namespace Go.Proofs.Ytghiabdkgfhdbaa
set_option linter.unusedVariables false
open Go.ChangeShapes Go.WideShapes Go.ChangeAt Go.RowKit Go.Deep
/-- The blocks of the document's bus. -/
def Rown (c : Nat) (vr vi vo : Value) (k : Nat) : Prop := k = c ∨ vr.ownBlock = some k ∨ vi.ownBlock = some k ∨ vo.ownBlock = some k
/-- Both buses, apart. -/
structure Tw (B M : Nat) (L : Lay) (c : Nat) (S : St) (vr vi vo : Value) (w : World) : Prop where
  p : PB B L S w
  r : RB M c S vr vi vo w
  ap : ∀ k, L.own k → ¬ Rown c vr vi vo k
theorem Two.tw {B M : Nat} {L : Lay} {c : Nat} {S : St} {vr vi vo : Value} {w : World} (h : Two B M L c S vr vi vo w) : Tw B M L c S vr vi vo w :=
  ⟨h.p, h.r, fun k hk hr => by
    have h1 : k < M := by
      have hl := h.lt
      unfold Lay.own at hk
      rcases hk with e | e | e | e | e | e | e | e | e | e | e
      · rw [e]; exact hl.b
      · rw [e]; exact hl.m
      · rw [e]; exact hl.pw
      · rw [e]; exact hl.sw
      · rw [e]; exact hl.cm
      · rw [e]; exact hl.ck
      · rw [e]; exact hl.u
      · rw [e]; exact hl.q
      · exact hl.vr _ e
      · exact hl.vi _ e
      · exact hl.vo _ e
    have h2 : M ≤ k := by
      rcases hr with e | e | e | e
      · rw [e]; exact h.r.l
      · exact (h.r.s.r.lt k e).1
      · exact (h.r.s.i.lt k e).1
      · exact (h.r.s.o.lt k e).1
    omega⟩
/-- What is known of both buses. -/
structure Okp (B M : Nat) (L : Lay) (c : Nat) (S : St) (vr vi vo : Value) (w : World) : Prop where
  t : Tw B M L c S vr vi vo w
  ok : S.ok = true
  st : StW S
theorem Okp.n {B M : Nat} {L : Lay} {c : Nat} {S : St} {vr vi vo : Value} {w : World} (h : Okp B M L c S vr vi vo w) : S.ram.length ≤ 65536 ∧ 8 ≤ S.ram.length ∧ S.inp.length ≤ 64 ∧ S.out.length ≤ 4096 := by
  have := h.ok
  simp only [St.ok, ramOk, Bool.and_eq_true, decide_eq_true_eq] at this
  omega
theorem Tw.later {B M : Nat} {L : Lay} {c : Nat} {S : St} {vr vi vo : Value} {w w' : World} (h : Tw B M L c S vr vi vo w) (hb : Below w.heap.size w w') : Tw B M L c S vr vi vo w' := ⟨h.p.later hb, h.r.later hb, h.ap⟩
theorem Okp.later {B M : Nat} {L : Lay} {c : Nat} {S : St} {vr vi vo : Value} {w w' : World} (h : Okp B M L c S vr vi vo w) (hb : Below w.heap.size w w') : Okp B M L c S vr vi vo w' := ⟨h.t.later hb, h.ok, h.st⟩
theorem Okp.drew {B M : Nat} {L : Lay} {c : Nat} {S : St} {vr vi vo : Value} {w : World} (h : Okp B M L c S vr vi vo w) : Okp B M L c S vr vi vo w.drew := h.later (Below.drew (Below.refl _ _))
theorem below2 (w : World) (o1 o2 : Obj) : Below w.heap.size w ((w.alloc o1).alloc o2) := (below_al w o1).trans ((below_al _ o2).mono (by simp))
theorem below3 {w w1 : World} {o1 o2 : Obj} (hb : Below ((w.alloc o1).alloc o2).heap.size ((w.alloc o1).alloc o2) w1) : Below w.heap.size w w1 := (below2 w o1 o2).trans (hb.mono (by simp; omega))
theorem undrew {w w1 : World} (hb : Below w.drew.heap.size w.drew w1) : Below w.heap.size w w1 := ⟨hb.os, hb.tape, hb.output, hb.size, hb.block⟩
set_option maxRecDepth 100000 in
set_option maxHeartbeats 4000000 in
theorem asks_4 {B M : Nat} {L : Lay} {c : Nat} {S : St} {vr vi vo : Value} (w : World) (h : Okp B M L c S vr vi vo w) (a n v : Int) (vb vw : Value) (t e s : Bool) (ha : 0 ≤ a ∧ a ≤ 18446744073709551615) (hn : -9223372036854775808 ≤ n ∧ n ≤ 9223372036854775807) :
    Calls Try.prog 22 #[.agg #[.pointer (some ⟨L.b, 0, none⟩), .pointer (some ⟨c, 0, none⟩)], .agg #[.int .i64 4, .int .u64 a, .int .i64 n, .int .u64 v, vb, .bool t, .bool e, .bool s, vw]] w fun e w' => e = .returned (.bool true) ∧ Below w.heap.size w w' := by
  obtain ⟨hn1, hn2, hn3, hn4⟩ := h.n
  have HG : Hid (∀ w', Below w.heap.size w w' → Okp B M L c S vr vi vo w') := fun w' hb => h.later hb
  have HP1 : Hid (∀ w1, Below w.heap.size w w1 → Calls Try.prog 33 #[.pointer (some ⟨L.b, 0, none⟩), .int .u64 a, .int .i64 n, .int .i64 (wrap64 v)] w1 fun e w' => e = .returned (.bool (decide (1 ≤ wrap64 v ∧ wrap64 v ≤ 3) && decide (fnd S.ram.length a n < 6))) ∧ Below w1.heap.size w1 w') := fun w1 hb => can_c w1 (h.later hb).t.p hn1 a n _ ha hn
  have HR1 : Hid (∀ w1, Below w.heap.size w w1 → Calls Try.prog 34 #[.pointer (some ⟨c, 0, none⟩), .int .u64 a, .int .i64 n, .int .i64 (wrap64 v)] w1 fun e w' => e = .returned (.bool (decide (1 ≤ wrap64 v ∧ wrap64 v ≤ 3) && decide (fnd S.ram.length a n < 6))) ∧ Below w1.heap.size w1 w') := fun w1 hb => (rcan_c w1 (h.later hb).t.r hn1 a n _ ha hn).mono fun e w' ⟨h1, h2⟩ => ⟨h1, by rw [h2]; exact Below.refl _ _⟩
  generalize (decide (1 ≤ wrap64 v ∧ wrap64 v ≤ 3) && decide (fnd S.ram.length a n < 6)) = q at HP1 HR1
  clear h
  go_enter Try.func22, Try.ntmps22
  go_wp2_with (first | (go_at_call 33; refine (HP1.out _ (below2 w _ _)).mono ?_; rintro e w1 ⟨rfl, hb1⟩; have HPR : Hid (Lies w.heap.size #[.pointer (some ⟨L.b, 0, none⟩), .pointer (some ⟨c, 0, none⟩)] 58 w1) := ((Lies.new w _ _).later (below_al _ _)).later hb1; have HOR : Hid (Lies (w.heap.size + 1) #[.int .i64 4, .int .u64 a, .int .i64 n, .int .u64 v, vb, .bool t, .bool e, .bool s, vw] 45 w1) := (Lies.new1 w _ _ _).later hb1; have p0 : w1.cell? ⟨w.heap.size, 0, none⟩ = some (.pointer (some ⟨L.b, 0, none⟩)) := Lies.cell HPR.out 0; have p1 : w1.cell? ⟨w.heap.size, 1, none⟩ = some (.pointer (some ⟨c, 0, none⟩)) := Lies.cell HPR.out 1; have o0 : w1.cell? ⟨w.heap.size + 1, 0, none⟩ = some (.int .i64 4) := Lies.cell HOR.out 0; have o1 : w1.cell? ⟨w.heap.size + 1, 1, none⟩ = some (.int .u64 a) := Lies.cell HOR.out 1; have o2 : w1.cell? ⟨w.heap.size + 1, 2, none⟩ = some (.int .i64 n) := Lies.cell HOR.out 2; have o3 : w1.cell? ⟨w.heap.size + 1, 3, none⟩ = some (.int .u64 v) := Lies.cell HOR.out 3; have HB1 : Hid _ := below3 hb1; clear hb1) | (go_at_call 34; refine (HR1.out _ HB1.out).mono ?_; rintro e w2 ⟨rfl, hb2⟩; have HB2 : Hid (Below w.heap.size w w2) := HB1.out.trans (hb2.mono HB1.out.size); clear hb2))
  go_ret
  exact ⟨rfl, HB2.out⟩
set_option maxRecDepth 100000 in
set_option maxHeartbeats 4000000 in
theorem asks_5 {B M : Nat} {L : Lay} {c : Nat} {S : St} {vr vi vo : Value} (w : World) (h : Okp B M L c S vr vi vo w) (a n v : Int) (vb vw : Value) (t e s : Bool) (ha : 0 ≤ a ∧ a ≤ 18446744073709551615) (hn : -9223372036854775808 ≤ n ∧ n ≤ 9223372036854775807) :
    Calls Try.prog 22 #[.agg #[.pointer (some ⟨L.b, 0, none⟩), .pointer (some ⟨c, 0, none⟩)], .agg #[.int .i64 5, .int .u64 a, .int .i64 n, .int .u64 v, vb, .bool t, .bool e, .bool s, vw]] w fun e w' => e = .returned (.bool true) ∧ Below w.heap.size w w' := by
  obtain ⟨hn1, hn2, hn3, hn4⟩ := h.n
  have HG : Hid (∀ w', Below w.heap.size w w' → Okp B M L c S vr vi vo w') := fun w' hb => h.later hb
  have HP1 : Hid (∀ w1, Below w.heap.size w w1 → Calls Try.prog 35 #[.pointer (some ⟨L.b, 0, none⟩), .int .u64 a, .int .i64 n] w1 fun e w' => e = .returned (.bool (decide (1 ≤ n) && hld S.ram.length a n)) ∧ Below w1.heap.size w1 w') := fun w1 hb => isRam_c w1 (h.later hb).t.p hn1 a n ha hn
  have HR1 : Hid (∀ w1, Below w.heap.size w w1 → Calls Try.prog 36 #[.pointer (some ⟨c, 0, none⟩), .int .u64 a, .int .i64 n] w1 fun e w' => e = .returned (.bool (decide (1 ≤ n) && hld S.ram.length a n)) ∧ Below w1.heap.size w1 w') := fun w1 hb => (risRam_c w1 (h.later hb).t.r hn1 a n ha hn).mono fun e w' ⟨h1, h2⟩ => ⟨h1, by rw [h2]; exact Below.refl _ _⟩
  generalize (decide (1 ≤ n) && hld S.ram.length a n) = q at HP1 HR1
  clear h
  go_enter Try.func22, Try.ntmps22
  go_wp2_with (first | (go_at_call 35; refine (HP1.out _ (below2 w _ _)).mono ?_; rintro e w1 ⟨rfl, hb1⟩; have HPR : Hid (Lies w.heap.size #[.pointer (some ⟨L.b, 0, none⟩), .pointer (some ⟨c, 0, none⟩)] 58 w1) := ((Lies.new w _ _).later (below_al _ _)).later hb1; have HOR : Hid (Lies (w.heap.size + 1) #[.int .i64 5, .int .u64 a, .int .i64 n, .int .u64 v, vb, .bool t, .bool e, .bool s, vw] 45 w1) := (Lies.new1 w _ _ _).later hb1; have p0 : w1.cell? ⟨w.heap.size, 0, none⟩ = some (.pointer (some ⟨L.b, 0, none⟩)) := Lies.cell HPR.out 0; have p1 : w1.cell? ⟨w.heap.size, 1, none⟩ = some (.pointer (some ⟨c, 0, none⟩)) := Lies.cell HPR.out 1; have o0 : w1.cell? ⟨w.heap.size + 1, 0, none⟩ = some (.int .i64 5) := Lies.cell HOR.out 0; have o1 : w1.cell? ⟨w.heap.size + 1, 1, none⟩ = some (.int .u64 a) := Lies.cell HOR.out 1; have o2 : w1.cell? ⟨w.heap.size + 1, 2, none⟩ = some (.int .i64 n) := Lies.cell HOR.out 2; have o3 : w1.cell? ⟨w.heap.size + 1, 3, none⟩ = some (.int .u64 v) := Lies.cell HOR.out 3; have HB1 : Hid _ := below3 hb1; clear hb1) | (go_at_call 36; refine (HR1.out _ HB1.out).mono ?_; rintro e w2 ⟨rfl, hb2⟩; have HB2 : Hid (Below w.heap.size w w2) := HB1.out.trans (hb2.mono HB1.out.size); clear hb2))
  go_ret
  exact ⟨rfl, HB2.out⟩
set_option maxRecDepth 100000 in
set_option maxHeartbeats 4000000 in
theorem asks_10 {B M : Nat} {L : Lay} {c : Nat} {S : St} {vr vi vo : Value} (w : World) (h : Okp B M L c S vr vi vo w) (a n v : Int) (vb vw : Value) (t e s : Bool) :
    Calls Try.prog 22 #[.agg #[.pointer (some ⟨L.b, 0, none⟩), .pointer (some ⟨c, 0, none⟩)], .agg #[.int .i64 10, .int .u64 a, .int .i64 n, .int .u64 v, vb, .bool t, .bool e, .bool s, vw]] w fun e w' => e = .returned (.bool true) ∧ Below w.heap.size w w' := by
  obtain ⟨hn1, hn2, hn3, hn4⟩ := h.n
  have HG : Hid (∀ w', Below w.heap.size w w' → Okp B M L c S vr vi vo w') := fun w' hb => h.later hb
  have HP1 : Hid (∀ w1, Below w.heap.size w w1 → Calls Try.prog 23 #[.pointer (some ⟨L.b, 0, none⟩)] w1 fun e w' => e = .returned (.tuple #[.int .i64 S.off, .int .i64 S.code]) ∧ Below w1.heap.size w1 w') := fun w1 hb => off_c w1 (h.later hb).t.p
  have HR1 : Hid (∀ w1, Below w.heap.size w w1 → Calls Try.prog 42 #[.pointer (some ⟨c, 0, none⟩)] w1 fun e w' => e = .returned (.tuple #[.int .i64 S.off, .int .i64 S.code]) ∧ Below w1.heap.size w1 w') := fun w1 hb => roff_c w1 (h.later hb).t.r
  clear h
  go_enter Try.func22, Try.ntmps22
  go_wp2_with (first | (go_at_call 23; refine (HP1.out _ (below2 w _ _)).mono ?_; rintro e w1 ⟨rfl, hb1⟩; have HPR : Hid (Lies w.heap.size #[.pointer (some ⟨L.b, 0, none⟩), .pointer (some ⟨c, 0, none⟩)] 58 w1) := ((Lies.new w _ _).later (below_al _ _)).later hb1; have HOR : Hid (Lies (w.heap.size + 1) #[.int .i64 10, .int .u64 a, .int .i64 n, .int .u64 v, vb, .bool t, .bool e, .bool s, vw] 45 w1) := (Lies.new1 w _ _ _).later hb1; have p0 : w1.cell? ⟨w.heap.size, 0, none⟩ = some (.pointer (some ⟨L.b, 0, none⟩)) := Lies.cell HPR.out 0; have p1 : w1.cell? ⟨w.heap.size, 1, none⟩ = some (.pointer (some ⟨c, 0, none⟩)) := Lies.cell HPR.out 1; have o0 : w1.cell? ⟨w.heap.size + 1, 0, none⟩ = some (.int .i64 10) := Lies.cell HOR.out 0; have o1 : w1.cell? ⟨w.heap.size + 1, 1, none⟩ = some (.int .u64 a) := Lies.cell HOR.out 1; have o2 : w1.cell? ⟨w.heap.size + 1, 2, none⟩ = some (.int .i64 n) := Lies.cell HOR.out 2; have o3 : w1.cell? ⟨w.heap.size + 1, 3, none⟩ = some (.int .u64 v) := Lies.cell HOR.out 3; have HB1 : Hid _ := below3 hb1; clear hb1) | (go_at_call 42; refine (HR1.out _ HB1.out).mono ?_; rintro e w2 ⟨rfl, hb2⟩; have HB2 : Hid (Below w.heap.size w w2) := HB1.out.trans (hb2.mono HB1.out.size); clear hb2))
  go_ret
  exact ⟨rfl, HB2.out⟩
/-- A list of bytes as an answer. -/
def AnsP (l : List Int) (z : Int) (ev : Ending) (w w' : World) : Prop := ∃ u, ev = .returned (.tuple #[u, .int .i64 z]) ∧ Byt w' u l ∧ Below w.heap.size w w'
theorem peeks {B M : Nat} {L : Lay} {c : Nat} {S : St} {vr vi vo : Value} {w : World} (h : Okp B M L c S vr vi vo w) (a n : Int) (ha : 0 ≤ a ∧ a ≤ 18446744073709551615) (hn : -9223372036854775808 ≤ n ∧ n ≤ 9223372036854775807) :
    ∃ (l : List Int) (z : Int), ∀ w1, Below w.heap.size w w1 → (Calls Try.prog 12 #[.pointer (some ⟨L.b, 0, none⟩), .int .u64 a, .int .i64 n] w1 fun e w' => AnsP l z e w1 w') ∧ (Calls Try.prog 37 #[.pointer (some ⟨c, 0, none⟩), .int .u64 a, .int .i64 n] w1 fun e w' => AnsP l z e w1 w') := by
  obtain ⟨hn1, _, _, _⟩ := h.n
  have nil : ∀ {f : FuncId} {args : Array Value} {w1 : World} {z : Int}, (Calls Try.prog f args w1 fun e w' => e = .returned (.tuple #[.slice none 0 0, .int .i64 z]) ∧ Below w1.heap.size w1 w') → Calls Try.prog f args w1 fun e w' => AnsP [] z e w1 w' := fun h => h.mono fun e w' ⟨h1, h2⟩ => ⟨_, h1, Byt.nil w', h2⟩
  rcases Int.lt_or_le n 0 with h1 | h1
  · exact ⟨[], 1, fun w1 hb => ⟨nil (peek_neg w1 (h.later hb).t.p a n h1), nil (rpeek_neg w1 (h.later hb).t.r a n h1)⟩⟩
  · by_cases h0 : n = 0
    · subst h0
      exact ⟨[], 0, fun w1 hb => ⟨nil (peek_zero w1 (h.later hb).t.p a), nil (rpeek_zero w1 (h.later hb).t.r a)⟩⟩
    · cases hq : hld S.ram.length a n with
      | false => exact ⟨[], 30, fun w1 hb => ⟨nil (peek_out w1 (h.later hb).t.p hn1 a n ha (by omega) hq), nil (rpeek_out w1 (h.later hb).t.r hn1 a n ha (by omega) hq)⟩⟩
      | true =>
        obtain ⟨k, s, rfl, rfl, hk, hs⟩ := hld_nat hq (by omega)
        refine ⟨(S.ram.drop k).take s, 0, fun w1 hb => ⟨(peek_in w1 (h.later hb).t.p hn1 k s hk hs).mono ?_, (rpeek_in w1 (h.later hb).t.r hn1 k s hk hs).mono ?_⟩⟩
        · rintro e w' ⟨u, h1, h2, h3⟩; exact ⟨u, h1, Byt.of_own h2, h3⟩
        · rintro e w' ⟨u, h1, h2, h3⟩; exact ⟨u, h1, Byt.of_own h2, h3⟩
set_option maxRecDepth 100000 in
set_option maxHeartbeats 4000000 in
theorem asks_6 {B M : Nat} {L : Lay} {c : Nat} {S : St} {vr vi vo : Value} (w : World) (h : Okp B M L c S vr vi vo w) (a n v : Int) (vb vw : Value) (t e s : Bool) (ha : 0 ≤ a ∧ a ≤ 18446744073709551615) (hn : -9223372036854775808 ≤ n ∧ n ≤ 9223372036854775807) :
    Calls Try.prog 22 #[.agg #[.pointer (some ⟨L.b, 0, none⟩), .pointer (some ⟨c, 0, none⟩)], .agg #[.int .i64 6, .int .u64 a, .int .i64 n, .int .u64 v, vb, .bool t, .bool e, .bool s, vw]] w fun e w' => e = .returned (.bool true) ∧ Below w.heap.size w w' := by
  obtain ⟨hn1, hn2, hn3, hn4⟩ := h.n
  have HG : Hid (∀ w', Below w.heap.size w w' → Okp B M L c S vr vi vo w') := fun w' hb => h.later hb
  obtain ⟨l, z, HPK⟩ := peeks h a n ha hn
  have HP1 : Hid (∀ w1, Below w.heap.size w w1 → Calls Try.prog 12 #[.pointer (some ⟨L.b, 0, none⟩), .int .u64 a, .int .i64 n] w1 fun e w' => AnsP l z e w1 w') := fun w1 hb => (HPK w1 hb).1
  have HR1 : Hid (∀ w1, Below w.heap.size w w1 → Calls Try.prog 37 #[.pointer (some ⟨c, 0, none⟩), .int .u64 a, .int .i64 n] w1 fun e w' => AnsP l z e w1 w') := fun w1 hb => (HPK w1 hb).2
  clear h HPK
  go_enter Try.func22, Try.ntmps22
  go_wp2_with (first | (go_at_call 12; refine (HP1.out _ (below2 w _ _)).mono ?_; rintro e w1 ⟨u, rfl, hby, hb1⟩; have HPR : Hid (Lies w.heap.size #[.pointer (some ⟨L.b, 0, none⟩), .pointer (some ⟨c, 0, none⟩)] 58 w1) := ((Lies.new w _ _).later (below_al _ _)).later hb1; have HOR : Hid (Lies (w.heap.size + 1) #[.int .i64 6, .int .u64 a, .int .i64 n, .int .u64 v, vb, .bool t, .bool e, .bool s, vw] 45 w1) := (Lies.new1 w _ _ _).later hb1; have p0 : w1.cell? ⟨w.heap.size, 0, none⟩ = some (.pointer (some ⟨L.b, 0, none⟩)) := Lies.cell HPR.out 0; have p1 : w1.cell? ⟨w.heap.size, 1, none⟩ = some (.pointer (some ⟨c, 0, none⟩)) := Lies.cell HPR.out 1; have o0 : w1.cell? ⟨w.heap.size + 1, 0, none⟩ = some (.int .i64 6) := Lies.cell HOR.out 0; have o1 : w1.cell? ⟨w.heap.size + 1, 1, none⟩ = some (.int .u64 a) := Lies.cell HOR.out 1; have o2 : w1.cell? ⟨w.heap.size + 1, 2, none⟩ = some (.int .i64 n) := Lies.cell HOR.out 2; have o3 : w1.cell? ⟨w.heap.size + 1, 3, none⟩ = some (.int .u64 v) := Lies.cell HOR.out 3; have HB1 : Hid _ := below3 hb1; have HY1 : Hid (Byt w1 u l) := hby; clear hb1 hby) | (go_at_call 37; refine (HR1.out _ HB1.out).mono ?_; rintro e w2 ⟨u2, rfl, hby2, hb2⟩; have HB2 : Hid (Below w.heap.size w w2) := HB1.out.trans (hb2.mono HB1.out.size); have hc1 := Byt.conv (Byt.later HY1.out hb2 rfl); have hc2 := Byt.conv hby2; obtain ⟨x1, y1, rfl, _⟩ := HY1.out; obtain ⟨x2, y2, rfl, _⟩ := hby2; generalize strOfNums l = sl at hc1 hc2; clear hb2))
  go_ret
  exact ⟨rfl, HB2.out⟩
set_option maxRecDepth 100000 in
set_option maxHeartbeats 4000000 in
theorem asks_8 {B M : Nat} {L : Lay} {c : Nat} {S : St} {vr vi vo : Value} (w : World) (h : Okp B M L c S vr vi vo w) (a n v : Int) (vb vw : Value) (t e s : Bool) :
    Calls Try.prog 22 #[.agg #[.pointer (some ⟨L.b, 0, none⟩), .pointer (some ⟨c, 0, none⟩)], .agg #[.int .i64 8, .int .u64 a, .int .i64 n, .int .u64 v, vb, .bool t, .bool e, .bool s, vw]] w fun e w' => e = .returned (.bool true) ∧ Below w.heap.size w w' := by
  obtain ⟨hn1, hn2, hn3, hn4⟩ := h.n
  have HG : Hid (∀ w', Below w.heap.size w w' → Okp B M L c S vr vi vo w') := fun w' hb => h.later hb
  have HP1 : Hid (∀ w1, Below w.heap.size w w1 → Calls Try.prog 38 #[.pointer (some ⟨L.b, 0, none⟩)] w1 fun e w' => e = .returned (.int .u64 (mipOf S)) ∧ Below w1.heap.size w1 w') := fun w1 hb => mip_c w1 (h.later hb).t.p (by have := h.st.ier; omega)
  have HR1 : Hid (∀ w1, Below w.heap.size w w1 → Calls Try.prog 39 #[.pointer (some ⟨c, 0, none⟩)] w1 fun e w' => e = .returned (.int .u64 (mipOf S)) ∧ Below w1.heap.size w1 w') := fun w1 hb => rmip_c w1 (h.later hb).t.r (by have := h.st.ier; omega)
  generalize mipOf S = q at HP1 HR1
  have HCJ : Hid (∀ w', Lies w.heap.size #[.pointer (some ⟨L.b, 0, none⟩), .pointer (some ⟨c, 0, none⟩)] 58 w' → w'.cell? ⟨w.heap.size, 0, none⟩ = some (.pointer (some ⟨L.b, 0, none⟩)) ∧ w'.cell? ⟨w.heap.size, 1, none⟩ = some (.pointer (some ⟨c, 0, none⟩))) := fun w' h => ⟨h.cell 0, h.cell 1⟩
  have HL0 : Hid (∀ o, Lies w.heap.size #[.pointer (some ⟨L.b, 0, none⟩), .pointer (some ⟨c, 0, none⟩)] 58 ((w.alloc (.cells #[.pointer (some ⟨L.b, 0, none⟩), .pointer (some ⟨c, 0, none⟩)] 58)).alloc o)) := fun o => (Lies.new w _ _).later (below_al _ _)
  clear h
  go_enter Try.func22, Try.ntmps22
  go_wp2
  go_region_held3 (fun w' => w'.cell? ⟨w.heap.size, 0, none⟩ = some (.pointer (some ⟨L.b, 0, none⟩)) ∧ w'.cell? ⟨w.heap.size, 1, none⟩ = some (.pointer (some ⟨c, 0, none⟩))) (first | exact HCJ.out _ (HL0.out _) | exact hcj2 | exact hcj1)
    (first | (go_at_call 38; refine (HP1.out _ ?_).mono ?_; exact (below2 w _ _).drew; rintro e w1 ⟨rfl, hb1⟩; have HB1 : Hid (Below w.heap.size w w1) := below3 (undrew hb1); have HP2 : Hid _ := (HL0.out _).later (undrew hb1); have hcj1 := HCJ.out w1 HP2.out; clear hb1) | (go_at_call 39; refine (HR1.out _ HB1.out).mono ?_; rintro e w2 ⟨rfl, hb2⟩; have HB2 : Hid (Below w.heap.size w w2) := HB1.out.trans (hb2.mono HB1.out.size); have hcj2 := HCJ.out w2 (Lies.later HP2.out hb2); clear hb2))
  all_goals go_wp2
  all_goals go_ret
  all_goals exact ⟨rfl, HB2.out⟩
set_option maxRecDepth 100000 in
set_option maxHeartbeats 4000000 in
theorem asks_9 {B M : Nat} {L : Lay} {c : Nat} {S : St} {vr vi vo : Value} (w : World) (h : Okp B M L c S vr vi vo w) (a n v : Int) (vb vw : Value) (t e s : Bool) :
    Calls Try.prog 22 #[.agg #[.pointer (some ⟨L.b, 0, none⟩), .pointer (some ⟨c, 0, none⟩)], .agg #[.int .i64 9, .int .u64 a, .int .i64 n, .int .u64 v, vb, .bool t, .bool e, .bool s, vw]] w fun e w' => e = .returned (.bool true) ∧ Below w.heap.size w w' := by
  obtain ⟨hn1, hn2, hn3, hn4⟩ := h.n
  have HG : Hid (∀ w', Below w.heap.size w w' → Okp B M L c S vr vi vo w') := fun w' hb => h.later hb
  have HP1 : Hid (∀ w1, Below w.heap.size w w1 → Calls Try.prog 40 #[.pointer (some ⟨L.b, 0, none⟩)] w1 fun e w' => e = .returned (.int .u64 (S.time)) ∧ Below w1.heap.size w1 w') := fun w1 hb => time_c w1 (h.later hb).t.p
  have HR1 : Hid (∀ w1, Below w.heap.size w w1 → Calls Try.prog 41 #[.pointer (some ⟨c, 0, none⟩)] w1 fun e w' => e = .returned (.int .u64 (S.time)) ∧ Below w1.heap.size w1 w') := fun w1 hb => rtime_c w1 (h.later hb).t.r
  generalize S.time = q at HP1 HR1
  have HCJ : Hid (∀ w', Lies w.heap.size #[.pointer (some ⟨L.b, 0, none⟩), .pointer (some ⟨c, 0, none⟩)] 58 w' → w'.cell? ⟨w.heap.size, 0, none⟩ = some (.pointer (some ⟨L.b, 0, none⟩)) ∧ w'.cell? ⟨w.heap.size, 1, none⟩ = some (.pointer (some ⟨c, 0, none⟩))) := fun w' h => ⟨h.cell 0, h.cell 1⟩
  have HL0 : Hid (∀ o, Lies w.heap.size #[.pointer (some ⟨L.b, 0, none⟩), .pointer (some ⟨c, 0, none⟩)] 58 ((w.alloc (.cells #[.pointer (some ⟨L.b, 0, none⟩), .pointer (some ⟨c, 0, none⟩)] 58)).alloc o)) := fun o => (Lies.new w _ _).later (below_al _ _)
  clear h
  go_enter Try.func22, Try.ntmps22
  go_wp2
  go_region_held3 (fun w' => w'.cell? ⟨w.heap.size, 0, none⟩ = some (.pointer (some ⟨L.b, 0, none⟩)) ∧ w'.cell? ⟨w.heap.size, 1, none⟩ = some (.pointer (some ⟨c, 0, none⟩))) (first | exact HCJ.out _ (HL0.out _) | exact hcj2 | exact hcj1)
    (first | (go_at_call 40; refine (HP1.out _ ?_).mono ?_; exact (below2 w _ _).drew; rintro e w1 ⟨rfl, hb1⟩; have HB1 : Hid (Below w.heap.size w w1) := below3 (undrew hb1); have HP2 : Hid _ := (HL0.out _).later (undrew hb1); have hcj1 := HCJ.out w1 HP2.out; clear hb1) | (go_at_call 41; refine (HR1.out _ HB1.out).mono ?_; rintro e w2 ⟨rfl, hb2⟩; have HB2 : Hid (Below w.heap.size w w2) := HB1.out.trans (hb2.mono HB1.out.size); have hcj2 := HCJ.out w2 (Lies.later HP2.out hb2); clear hb2))
  all_goals go_wp2
  all_goals go_ret
  all_goals exact ⟨rfl, HB2.out⟩
set_option maxRecDepth 100000 in
set_option maxHeartbeats 4000000 in
theorem asks_11 {B M : Nat} {L : Lay} {c : Nat} {S : St} {vr vi vo : Value} (w : World) (h : Okp B M L c S vr vi vo w) (a n v : Int) (vb vw : Value) (t e s : Bool) :
    Calls Try.prog 22 #[.agg #[.pointer (some ⟨L.b, 0, none⟩), .pointer (some ⟨c, 0, none⟩)], .agg #[.int .i64 11, .int .u64 a, .int .i64 n, .int .u64 v, vb, .bool t, .bool e, .bool s, vw]] w fun e w' => e = .returned (.bool true) ∧ Below w.heap.size w w' := by
  obtain ⟨hn1, hn2, hn3, hn4⟩ := h.n
  have HG : Hid (∀ w', Below w.heap.size w w' → Okp B M L c S vr vi vo w') := fun w' hb => h.later hb
  have HP1 : Hid (∀ w1, Below w.heap.size w w1 → Calls Try.prog 13 #[.pointer (some ⟨L.b, 0, none⟩)] w1 fun e w' => ∃ u, e = .returned u ∧ Byt w' u S.out ∧ Below w1.heap.size w1 w') := fun w1 hb => (output_c w1 (h.later hb).t.p (by omega)).mono fun e w' ⟨u, h1, h2, h3⟩ => ⟨u, h1, Byt.of_own h2, h3⟩
  have HR1 : Hid (∀ w1, Below w.heap.size w w1 → Calls Try.prog 43 #[.pointer (some ⟨c, 0, none⟩)] w1 fun e w' => ∃ u, e = .returned u ∧ Byt w' u S.out ∧ Below w1.heap.size w1 w') := fun w1 hb => (routput_c w1 (h.later hb).t.r (by omega)).mono fun e w' ⟨u, h1, h2, h3⟩ => ⟨u, h1, Byt.of_own h2, h3⟩
  have HCJ : Hid (∀ w', Lies w.heap.size #[.pointer (some ⟨L.b, 0, none⟩), .pointer (some ⟨c, 0, none⟩)] 58 w' → w'.cell? ⟨w.heap.size, 0, none⟩ = some (.pointer (some ⟨L.b, 0, none⟩)) ∧ w'.cell? ⟨w.heap.size, 1, none⟩ = some (.pointer (some ⟨c, 0, none⟩))) := fun w' h => ⟨h.cell 0, h.cell 1⟩
  have HL0 : Hid (∀ o, Lies w.heap.size #[.pointer (some ⟨L.b, 0, none⟩), .pointer (some ⟨c, 0, none⟩)] 58 ((w.alloc (.cells #[.pointer (some ⟨L.b, 0, none⟩), .pointer (some ⟨c, 0, none⟩)] 58)).alloc o)) := fun o => (Lies.new w _ _).later (below_al _ _)
  obtain ⟨l, hl⟩ : ∃ l, l = S.out := ⟨_, rfl⟩
  rw [← hl] at HP1 HR1
  obtain ⟨sl, hsl⟩ : ∃ sl, sl = strOfNums l := ⟨_, rfl⟩
  have HCV : Hid (∀ w1 u, Byt w1 u l → (convert 22 9 u).run Try.prog w1 = .ok (.string sl) w1) := fun w1 u hb => by rw [hsl]; exact Byt.conv hb
  clear h hl hsl
  go_enter Try.func22, Try.ntmps22
  go_wp2
  go_region_with (first | (go_at_call 13; refine (HP1.out _ ?_).mono ?_; exact (below2 w _ _).drew; rintro e w1 ⟨u, rfl, hby, hb1⟩; have HB1 : Hid (Below w.heap.size w w1) := below3 (undrew hb1); have HP2 : Hid _ := (HL0.out _).later (undrew hb1); obtain ⟨pa1, pb1⟩ := HCJ.out w1 HP2.out; have HY1 : Hid (Byt w1 u l) := hby; have hcv1 := HCV.out w1 u hby; clear hb1 hby) | (go_at_call 43; refine (HR1.out _ HB1.out).mono ?_; rintro e w2 ⟨u2, rfl, hby2, hb2⟩; have HB2 : Hid (Below w.heap.size w w2) := HB1.out.trans (hb2.mono HB1.out.size); obtain ⟨pa2, pb2⟩ := HCJ.out w2 (Lies.later HP2.out hb2); have hcv2 := HCV.out w2 u (Byt.later HY1.out hb2 rfl); have hcv3 := HCV.out w2 u2 hby2; clear hb2 hby2))
  all_goals go_wp2
  all_goals go_ret
  all_goals exact ⟨rfl, HB2.out⟩
set_option maxRecDepth 100000 in
set_option maxHeartbeats 4000000 in
theorem asks_12 {B M : Nat} {L : Lay} {c : Nat} {S : St} {vr vi vo : Value} (w : World) (h : Okp B M L c S vr vi vo w) (a n v : Int) (vb vw : Value) (t e s : Bool) :
    Calls Try.prog 22 #[.agg #[.pointer (some ⟨L.b, 0, none⟩), .pointer (some ⟨c, 0, none⟩)], .agg #[.int .i64 12, .int .u64 a, .int .i64 n, .int .u64 v, vb, .bool t, .bool e, .bool s, vw]] w fun e w' => e = .returned (.bool true) ∧ Below w.heap.size w w' := by
  obtain ⟨hn1, hn2, hn3, hn4⟩ := h.n
  have HG : Hid (∀ w', Below w.heap.size w w' → Okp B M L c S vr vi vo w') := fun w' hb => h.later hb
  have HP1 : Hid (∀ w1, Below w.heap.size w w1 → Calls Try.prog 11 #[.pointer (some ⟨L.b, 0, none⟩)] w1 fun e w' => ∃ ur ui uo, e = .returned (.agg (stc S ur ui uo)) ∧ Bs S ur ui uo w' ∧ Below w1.heap.size w1 w') := fun w1 hb => (state_c w1 (h.later hb).t.p (by omega) (by omega) (by omega)).mono fun e w' ⟨x, y, z, h1, h2, h3⟩ => ⟨x, y, z, h1, h2.bs, h3⟩
  have HR1 : Hid (∀ w1, Below w.heap.size w w1 → Calls Try.prog 44 #[.pointer (some ⟨c, 0, none⟩)] w1 fun e w' => ∃ ur ui uo, e = .returned (.agg (stc S ur ui uo)) ∧ Bs S ur ui uo w' ∧ Below w1.heap.size w1 w') := fun w1 hb => (rstate_c w1 (h.later hb).t.r (by omega) (by omega) (by omega)).mono fun e w' ⟨x, y, z, h1, h2, h3⟩ => ⟨x, y, z, h1, h2.bs, h3⟩
  have HSM : Hid (SameC S) := same_any S
  have HCJ : Hid (∀ w', Lies w.heap.size #[.pointer (some ⟨L.b, 0, none⟩), .pointer (some ⟨c, 0, none⟩)] 58 w' → w'.cell? ⟨w.heap.size, 0, none⟩ = some (.pointer (some ⟨L.b, 0, none⟩)) ∧ w'.cell? ⟨w.heap.size, 1, none⟩ = some (.pointer (some ⟨c, 0, none⟩))) := fun w' h => ⟨h.cell 0, h.cell 1⟩
  have HL0 : Hid (∀ o, Lies w.heap.size #[.pointer (some ⟨L.b, 0, none⟩), .pointer (some ⟨c, 0, none⟩)] 58 ((w.alloc (.cells #[.pointer (some ⟨L.b, 0, none⟩), .pointer (some ⟨c, 0, none⟩)] 58)).alloc o)) := fun o => (Lies.new w _ _).later (below_al _ _)
  clear h
  go_enter Try.func22, Try.ntmps22
  go_wp2
  go_region_held3 (fun w' => w'.cell? ⟨w.heap.size, 0, none⟩ = some (.pointer (some ⟨L.b, 0, none⟩)) ∧ w'.cell? ⟨w.heap.size, 1, none⟩ = some (.pointer (some ⟨c, 0, none⟩))) (first | exact HCJ.out _ (HL0.out _) | exact hcj3 | exact hcj2 | exact hcj1)
    (first | (go_at_call 11; refine (HP1.out _ ?_).mono ?_; exact (below2 w _ _).drew; rintro e w1 ⟨a1, a2, a3, rfl, hby, hb1⟩; have HB1 : Hid (Below w.heap.size w w1) := below3 (undrew hb1); have HP2 : Hid _ := (HL0.out _).later (undrew hb1); have hcj1 := HCJ.out w1 HP2.out; have HY1 : Hid (Bs S a1 a2 a3 w1) := hby; clear hb1 hby) | (go_at_call 44; refine (HR1.out _ HB1.out).mono ?_; rintro e w2 ⟨d1, d2, d3, rfl, hby2, hb2⟩; have HB2 : Hid (Below w.heap.size w w2) := HB1.out.trans (hb2.mono HB1.out.size); have HP3 : Hid _ := Lies.later HP2.out hb2; have hcj2 := HCJ.out w2 HP3.out; have HY2 : Hid (Bs S d1 d2 d3 w2) := hby2; have HY12 : Hid (Bs S a1 a2 a3 w2) := Bs.later HY1.out hb2; clear hb2 hby2) | (go_at_call 14; refine (HSM.out _ _ _ _ _ _ _ HY12.out HY2.out).mono ?_; rintro e w3 ⟨rfl, hb3⟩; have HB3 : Hid (Below w.heap.size w w3) := HB2.out.trans (hb3.mono HB2.out.size); have hcj3 := HCJ.out w3 (Lies.later HP3.out hb3); clear hb3))
  all_goals go_wp2
  all_goals go_ret
  all_goals exact ⟨rfl, HB3.out⟩
set_option maxRecDepth 100000 in
set_option maxHeartbeats 4000000 in
theorem asks_no {B M : Nat} {L : Lay} {c : Nat} {S : St} {vr vi vo : Value} (w : World) (h : Okp B M L c S vr vi vo w) (a n v : Int) (vb vw : Value) (t e s : Bool) (k : Int) (hk : k ≠ 4 ∧ k ≠ 5 ∧ k ≠ 6 ∧ k ≠ 8 ∧ k ≠ 9 ∧ k ≠ 10 ∧ k ≠ 11 ∧ k ≠ 12) :
    Calls Try.prog 22 #[.agg #[.pointer (some ⟨L.b, 0, none⟩), .pointer (some ⟨c, 0, none⟩)], .agg #[.int .i64 k, .int .u64 a, .int .i64 n, .int .u64 v, vb, .bool t, .bool e, .bool s, vw]] w fun e w' => e = .returned (.bool true) ∧ Below w.heap.size w w' := by
  have e4 : (k == 4) = false := by simp; omega
  have e5 : (k == 5) = false := by simp; omega
  have e6 : (k == 6) = false := by simp; omega
  have e8 : (k == 8) = false := by simp; omega
  have e9 : (k == 9) = false := by simp; omega
  have e10 : (k == 10) = false := by simp; omega
  have e11 : (k == 11) = false := by simp; omega
  have e12 : (k == 12) = false := by simp; omega
  have HB : Hid (∀ o1 o2, Below w.heap.size w ((w.alloc o1).alloc o2)) := fun o1 o2 => below2 w o1 o2
  clear h hk
  go_enter Try.func22, Try.ntmps22
  go_wp2
  go_ret
  exact ⟨rfl, HB.out _ _⟩
theorem asks_c {B M : Nat} {L : Lay} {c : Nat} {S : St} {vr vi vo : Value} (w : World) (h : Okp B M L c S vr vi vo w) (a n v : Int) (vb vw : Value) (t e s : Bool) (k : Int) (ha : 0 ≤ a ∧ a ≤ 18446744073709551615) (hn : -9223372036854775808 ≤ n ∧ n ≤ 9223372036854775807) :
    Calls Try.prog 22 #[.agg #[.pointer (some ⟨L.b, 0, none⟩), .pointer (some ⟨c, 0, none⟩)], .agg #[.int .i64 k, .int .u64 a, .int .i64 n, .int .u64 v, vb, .bool t, .bool e, .bool s, vw]] w fun e w' => e = .returned (.bool true) ∧ Below w.heap.size w w' := by
  by_cases h4 : k = 4
  · subst h4; exact asks_4 w h a n v vb vw t e s ha hn
  by_cases h5 : k = 5
  · subst h5; exact asks_5 w h a n v vb vw t e s ha hn
  by_cases h6 : k = 6
  · subst h6; exact asks_6 w h a n v vb vw t e s ha hn
  by_cases h8 : k = 8
  · subst h8; exact asks_8 w h a n v vb vw t e s
  by_cases h9 : k = 9
  · subst h9; exact asks_9 w h a n v vb vw t e s
  by_cases h10 : k = 10
  · subst h10; exact asks_10 w h a n v vb vw t e s
  by_cases h11 : k = 11
  · subst h11; exact asks_11 w h a n v vb vw t e s
  by_cases h12 : k = 12
  · subst h12; exact asks_12 w h a n v vb vw t e s
  exact asks_no w h a n v vb vw t e s k ⟨h4, h5, h6, h8, h9, h10, h11, h12⟩
end Go.Proofs.Ytghiabdkgfhdbaa
