/-
  BusQuiet: what a load leaves; a fresh reference asked.
-/
import Derived.Test.YtghiabdkgfhdbaaBoa
namespace Go.Proofs.Ytghiabdkgfhdbaa
set_option linter.unusedVariables false
open Go.ChangeShapes Go.WideShapes Go.ChangeAt Go.RowKit Go.Deep Go.MuLone
theorem fnd_4 {n : Nat} {a z : Int} (h : fnd n a z = 4) : hasS a z = true := by
  unfold fnd at h; repeat' split at h
  all_goals first | assumption | (exfalso; omega)
theorem fnd_5 {n : Nat} {a z : Int} (h : fnd n a z = 5) : hasF a z = true := by
  unfold fnd at h; repeat' split at h
  all_goals first | assumption | (exfalso; omega)
theorem hasC_num {base a z : Int} (h : hasC base a z = true) : base ≤ a ∧ a ≤ base + 4 := by
  unfold hasC at h
  split at h
  · simp only [Bool.or_eq_true, beq_iff_eq] at h; omega
  · split at h
    · simp only [beq_iff_eq] at h; omega
    · cases h
/-- A load takes just the byte that it tells, or just the overrun, or nothing. -/
theorem ld_cases (S : St) (a z : Int) :
    (a = 268435456 ∧ (S.ld a z).1.2 = true ∧ ∃ y ys, S.inp = y :: ys ∧ (S.ld a z).1.1 = y ∧ (S.ld a z).2 = { S with inp := ys }) ∨
    (a = 268435461 ∧ (S.ld a z).1.2 = true ∧ (S.ld a z).2 = { S with ov := false }) ∨
    ((S.ld a z).2 = S ∧ ((S.ld a z).1.2 = true → a = 268435456 → S.inp = []) ∧ ((S.ld a z).1.2 = true → a ≠ 268435461)) := by
  have hU : fnd S.ram.length a z = 1 → 268435456 ≤ a ∧ a < 268435464 := fun h => by
    have := fnd_1 h
    simp only [hasU, Bool.and_eq_true, decide_eq_true_eq] at this
    omega
  rcases fnd_cases S.ram.length a z with hf | hf | hf | hf | hf | hf | hf
  · obtain ⟨k, s, rfl, rfl, hks, hs, h8⟩ := hasM_nat (fnd_zero hf)
    exact .inr (.inr ⟨by simp only [St.ld, hf], fun _ e => by omega, fun _ e => by omega⟩)
  · have hb := hU hf
    obtain ⟨r, hr, rfl⟩ : ∃ r : Nat, r < 8 ∧ a = 268435456 + (r : Int) := ⟨(a - 268435456).toNat, by omega, by omega⟩
    have er : (268435456 + (r : Int) - 268435456).toNat = r := by omega
    have e : S.ld (268435456 + (r : Int)) z = (((S.tel r).1, true), (S.tel r).2) := by simp only [St.ld, hf, er]
    rcases reg_cases hr with rfl | rfl | rfl | rfl | rfl | rfl | rfl | rfl
    · cases hi : S.inp with
      | nil =>
        have e0 : S.tel 0 = (0, S) := by simp only [St.tel, hi]
        exact .inr (.inr ⟨by rw [e, e0], fun _ _ => rfl, fun _ e => by omega⟩)
      | cons y ys =>
        have e0 : S.tel 0 = (y, { S with inp := ys }) := by simp only [St.tel, hi]
        exact .inl ⟨by omega, by rw [e], y, ys, rfl, by rw [e, e0], by rw [e, e0]⟩
    · exact .inr (.inr ⟨by rw [e]; rfl, fun _ q => by omega, fun _ q => by omega⟩)
    · exact .inr (.inr ⟨by rw [e]; rfl, fun _ q => by omega, fun _ q => by omega⟩)
    · exact .inr (.inr ⟨by rw [e]; rfl, fun _ q => by omega, fun _ q => by omega⟩)
    · exact .inr (.inr ⟨by rw [e]; rfl, fun _ q => by omega, fun _ q => by omega⟩)
    · exact .inr (.inl ⟨by omega, by rw [e], by rw [e]; rfl⟩)
    · exact .inr (.inr ⟨by rw [e]; rfl, fun _ q => by omega, fun _ q => by omega⟩)
    · exact .inr (.inr ⟨by rw [e]; rfl, fun _ q => by omega, fun _ q => by omega⟩)
  · have hc := hasC_num (fnd_2 hf)
    exact .inr (.inr ⟨by simp only [St.ld, hf], fun _ e => by omega, fun _ e => by omega⟩)
  · have hc := hasC_num (fnd_3 hf)
    exact .inr (.inr ⟨by simp only [St.ld, hf], fun _ e => by omega, fun _ e => by omega⟩)
  · have hc := fnd_4 hf
    simp only [hasS, Bool.and_eq_true, beq_iff_eq] at hc
    exact .inr (.inr ⟨by simp only [St.ld, hf], fun _ e => by omega, fun _ e => by omega⟩)
  · have hc := fnd_5 hf
    simp only [hasF, Bool.and_eq_true, beq_iff_eq] at hc
    exact .inr (.inr ⟨by simp only [St.ld, hf], fun _ e => by omega, fun _ e => by omega⟩)
  · have hl : (S.ld a z).1.2 = false := by simp only [St.ld, hf]
    exact .inr (.inr ⟨by simp only [St.ld, hf], fun q _ => (by rw [hl] at q; cases q), fun q _ => (by rw [hl] at q; cases q)⟩)
section
variable {B : Nat} {w0 : World} {b c : Nat} {S : St} {ar ai ao vr vi vo : Value} {L : Lay}
/-- The program's bus and a reference made beside it, asked. -/
theorem quiet_asks {wr w2 W2 w3 : World} {x : Cal} (h : PB B L S wr) (hs : Sok S) (hle : B ≤ wr.heap.size) (hx : CalOk w0 x) (z1 : wr.heap.size ≤ W2.heap.size) (b1 : Below wr.heap.size wr W2) (s3 : Sv W2.heap.size S vr vi vo w3) (b3 : Below W2.heap.size W2 w3) :
    Calls Try.prog 22 #[.agg #[.pointer (some ⟨L.b, 0, none⟩), .pointer (some ⟨w3.heap.size, 0, none⟩)], .agg (calv x).toArray] ((w3.alloc (.cells (stc S vr vi vo) 56)).alloc (.cells #[.pointer (some ⟨L.b, 0, none⟩), .pointer (some ⟨w3.heap.size, 0, none⟩)] 58))
      fun e w' => e = .returned (.bool true) ∧ Below w3.heap.size w3 w' := by
  obtain ⟨W4, hW4⟩ : ∃ W4, (w3.alloc (.cells (stc S vr vi vo) 56)).alloc (.cells #[.pointer (some ⟨L.b, 0, none⟩), .pointer (some ⟨w3.heap.size, 0, none⟩)] 58) = W4 := ⟨_, rfl⟩
  rw [hW4]
  have z3 := b3.size
  have a3 : Below wr.heap.size wr w3 := b1.trans (b3.mono z1)
  have a4 : Below w3.heap.size w3 W4 := by rw [← hW4]; exact below2 w3 _ _
  have a5 : Below wr.heap.size wr W4 := a3.trans (a4.mono (by omega))
  have hO : ∀ k, L.own k → k < wr.heap.size := fun k hk => h.own_hi k hk
  have rc : W4.heap[w3.heap.size]? = some (.cells (stc S vr vi vo) 56 (0, 0)) := by rw [← hW4]; exact (Below.heap_alloc _ _ _ (by simp)).trans (heap_alloc_new w3 _)
  have hr : RB W2.heap.size w3.heap.size S vr vi vo W4 := ⟨rc, s3.later a4, z3⟩
  have hR : ∀ k, Rown w3.heap.size vr vi vo k → W2.heap.size ≤ k := fun k hk => (Rown_lt hr hk).1
  have okb : Okb B L w3.heap.size S vr vi vo W4 := ⟨⟨h.later a5, hr.le (by omega), fun k h1 h2 => by have := hO k h1; have := hR k h2; omega⟩, hs⟩
  refine (asks_c W4 okb.p x.a x.n x.v _ _ x.t x.e x.s x.k hx.a hx.n).mono ?_
  rintro e w' ⟨rfl, hb⟩
  exact ⟨rfl, a4.trans (hb.mono a4.size)⟩
end
section
variable {B N M : Nat} {L L' : Lay} {S T : St} {ar ai ao : Value} {w w' : World}
/-- Through a call on the program's bus: rows and lists of bytes that lie above what it owns. -/
theorem PSt.row_above (hs : PSt B L w L' T w') (hO : ∀ k, L.own k → k < N) {k : Nat} {C : Array Value} {U : TypeId} (hr : w.heap[k]? = some (.cells C U (0, 0))) (hk : N ≤ k) : w'.heap[k]? = some (.cells C U (0, 0)) :=
  (hs.x.block k (Array.getElem?_eq_some_iff.1 hr).1 (fun q => by have := hO k q; omega)).trans hr
theorem PSt.byt_above (hs : PSt B L w L' T w') (hO : ∀ k, L.own k → k < N) {v : Value} {l : List Int} {n : Nat} (h : w.ownsRow M 5 1 v n (bv l)) (hn : l.length = n) (hM : N ≤ M) : Byt w' v l := by
  subst hn
  refine Byt.excN (Byt.of_own h) hs.x (fun _ g off m c e q => ?_)
  have h1 := (own_byt_ge h g off m c e).1
  have h2 := hO g q
  omega
theorem PSt.bs_above (hs : PSt B L w L' T w') (hO : ∀ k, L.own k → k < N) (h : Sv M S ar ai ao w) (hM : N ≤ M) : Bs S ar ai ao w' :=
  ⟨hs.byt_above hO h.r rfl hM, hs.byt_above hO h.i rfl hM, hs.byt_above hO h.o rfl hM⟩
/-- A list's head and its tail. -/
theorem byt_tail {g off cap : Nat} {b : Int} {ys : List Int} (h : Byt w (.slice (some ⟨g, off, none⟩) (ys.length + 1) cap) (b :: ys)) : w.cell? ⟨g, off, none⟩ = some (.int .u8 b) ∧ Byt w (.slice (some ⟨g, off + 1, none⟩) ys.length (cap - 1)) ys := by
  obtain ⟨a, cap', e1, e2, e3, e4⟩ := h
  injection e1 with q1 q2 q3
  obtain ⟨g', off', ea, r1, r2⟩ := e4 (by simp)
  rw [ea] at q1
  injection q1 with q1
  injection q1 with p1 p2 p3
  subst p1 p2 q3
  have hl : (b :: ys).length = ys.length + 1 := rfl
  rw [hl] at e2
  refine ⟨by simpa using r2 0 (by simp), some ⟨g, off + 1, none⟩, cap - 1, rfl, by omega, fun e => (by cases e), fun hne => ⟨g, off + 1, rfl, r1, fun j hj => ?_⟩⟩
  have q := r2 (j + 1) (by simp; exact hj)
  simpa [Nat.add_assoc, Nat.add_comm 1 j] using q
end
end Go.Proofs.Ytghiabdkgfhdbaa
