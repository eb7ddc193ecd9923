/-
  BusOff: what stays off; a fresh reference beside the program's bus.
-/
import Derived.Test.YtghiabdkgfhdbaaBxy
import Derived.Test.YtghiabdkgfhdbaaBmd
namespace Go.Proofs.Ytghiabdkgfhdbaa
set_option linter.unusedVariables false
open Go.ChangeShapes Go.WideShapes Go.ChangeAt Go.RowKit Go.Deep Go.MuLone
theorem St.tel_off (S : St) (r : Nat) : (S.tel r).2.off = S.off ∧ (S.tel r).2.code = S.code := by
  unfold St.tel
  split
  · split <;> exact ⟨rfl, rfl⟩
  all_goals exact ⟨rfl, rfl⟩
theorem St.tak_off (S : St) (r : Nat) (v : Int) : (S.tak r v).off = S.off ∧ (S.tak r v).code = S.code := by
  unfold St.tak
  split
  · unfold St.sen; split <;> exact ⟨rfl, rfl⟩
  · exact ⟨rfl, rfl⟩
  · split <;> exact ⟨rfl, rfl⟩
  all_goals exact ⟨rfl, rfl⟩
theorem St.chg_off (S : St) (x : Cal) (h : S.off ≠ 0) : (S.chg x).off = S.off ∧ (S.chg x).code = S.code := by
  unfold St.chg
  split
  · unfold St.ld
    split
    · exact ⟨rfl, rfl⟩
    · exact St.tel_off _ _
    all_goals exact ⟨rfl, rfl⟩
  · split
    · unfold St.sto2
      split
      · exact ⟨rfl, rfl⟩
      · exact St.tak_off _ _ _
      · exact ⟨rfl, rfl⟩
      · exact ⟨rfl, rfl⟩
      · exact ⟨rfl, rfl⟩
      · have e : S.fin x.v = S := by unfold St.fin; rw [if_neg h]
        simp only [e]; exact ⟨trivial, trivial⟩
      · exact ⟨rfl, rfl⟩
    · split
      · unfold St.beg; rw [if_neg h]; exact ⟨rfl, rfl⟩
      · split
        · unfold St.pok; split <;> exact ⟨rfl, rfl⟩
        · exact ⟨rfl, rfl⟩
theorem St.chg_beg (S : St) (x : Cal) (h : S.off ≠ 0) (hk : x.k = 3) : S.chg x = S := by
  unfold St.chg St.beg
  rw [if_neg (by omega), if_neg (by omega), if_pos hk, if_neg h]
theorem sto2_fin (S : St) (v : Int) (hn : S.ram.length ≤ 65536) : S.sto2 1048576 4 v = (true, S.fin v) := by
  have hf : fnd S.ram.length 1048576 4 = 5 := by
    have h0 : hasM S.ram.length 1048576 4 = false := by
      cases h : hasM S.ram.length 1048576 4 with
      | false => rfl
      | true => obtain ⟨k, s, e, _⟩ := hasM_nat h; omega
    unfold fnd
    rw [h0]
    decide
  unfold St.sto2
  rw [hf]
  rfl
/-- The program's bus, off for good. -/
structure Pof (B : Nat) (w0 : World) (b : Nat) (o z : Int) (L : Lay) (S : St) (w : World) : Prop where
  p : PB B L S w
  e : L.b = b
  s : Sok S
  o : S.off = o
  z : S.code = z
  be : Below B w0 w
  le : B ≤ w.heap.size
/-- Behind the changes of a round: both buses, the round's rows. -/
structure Ofr (B : Nat) (w0 : World) (b c : Nat) (o z : Int) (kd : Int) (g1 g2 : Nat) (C1 : Array Value) (S0 : St) (ar ai ao : Value) (L : Lay) (S : St) (vr vi vo : Value) (w : World) : Prop where
  k : Okb B L c S vr vi vo w
  e : L.b = b
  o : S.off = o
  z : S.code = z
  be : Below B w0 w
  r1 : w.heap[g1]? = some (.cells C1 45 (0, 0))
  r2 : w.heap[g2]? = some (.cells (stc S0 ar ai ao) 26 (0, 0))
  r3 : w.heap[c + 1]? = some (.cells #[.pointer (some ⟨b, 0, none⟩), .pointer (some ⟨c, 0, none⟩)] 58 (0, 0))
  bs : Bs S0 ar ai ao w
  s3 : kd = 3 → S = S0
section
variable {B : Nat} {w0 : World} {b c gp : Nat} {o z k : Int} {g1 g2 : Nat} {C1 : Array Value} {S0 S : St} {ar ai ao vr vi vo : Value} {L : Lay} {w w' : World}
theorem Pof.later (h : Pof B w0 b o z L S w) (hb : Below w.heap.size w w') : Pof B w0 b o z L S w' := ⟨h.p.later hb, h.e, h.s, h.o, h.z, h.be.trans (hb.mono h.le), Nat.le_trans h.le hb.size⟩
theorem Ofr.later (h : Ofr B w0 b c o z k g1 g2 C1 S0 ar ai ao L S vr vi vo w) (hb : Below w.heap.size w w') : Ofr B w0 b c o z k g1 g2 C1 S0 ar ai ao L S vr vi vo w' :=
  ⟨h.k.later hb, h.e, h.o, h.z, h.be.trans (hb.mono (Nat.le_trans h.k.m.r.l (Nat.le_of_lt h.k.m.r.lt))), (hb.block _ (Array.getElem?_eq_some_iff.1 h.r1).1).trans h.r1, (hb.block _ (Array.getElem?_eq_some_iff.1 h.r2).1).trans h.r2, (hb.block _ (Array.getElem?_eq_some_iff.1 h.r3).1).trans h.r3, h.bs.later hb, h.s3⟩
theorem Ofr.pof (h : Ofr B w0 b c o z k g1 g2 C1 S0 ar ai ao L S vr vi vo w) : Pof B w0 b o z L S w := ⟨h.k.m.p, h.e, h.k.s, h.o, h.z, h.be, Nat.le_trans h.k.m.r.l (Nat.le_of_lt h.k.m.r.lt)⟩
theorem kept_own {L' : Lay} {ur ui uo : Value} {v : Value} {l : List Int} {M n : Nat} (kp : Kpd B L c vr vi vo w L' ur ui uo w') (h : w.ownsRow M 5 1 v n (bv l)) (hn : l.length = n) (hno : ∀ g, v.ownBlock = some g → ¬ L.own g ∧ ¬ Rown c vr vi vo g) : Byt w' v l := by
  subst hn
  obtain ⟨a, cap, e1, e2, e3, e4⟩ := Byt.of_own h
  refine ⟨a, cap, e1, e2, e3, fun hl => ?_⟩
  obtain ⟨g, off, ea, q1, q2⟩ := e4 hl
  have ho : v.ownBlock = some g := by rw [e1, ea]; rfl
  refine ⟨g, off, ea, Nat.lt_of_lt_of_le q1 kp.be.size, fun j hj => ?_⟩
  rw [World.cell?_of_block (w := w) (w' := w') (a := ⟨g, off + j, none⟩) (kp.x g q1 (hno g ho).1 (hno g ho).2)]
  exact q2 j hj
/-- A round's changes, on a reference made for it. -/
theorem off_changes {wr w1 w2 W2 w3 : World} {x : Cal} (h : Pof B w0 b o z L S wr) (ho : o ≠ 0) (hB : B = w0.heap.size) (hx : CalOk w0 x) (e1 : w1 = wr.alloc (.cells (calv x).toArray 45))
    (s2 : Sv w1.heap.size S ar ai ao w2) (b2 : Below w1.heap.size w1 w2) (eW : W2 = w2.alloc (.cells (stc S ar ai ao) 26)) (s3 : Sv W2.heap.size S vr vi vo w3) (b3 : Below W2.heap.size W2 w3) :
    Calls Try.prog 24 #[.agg #[.pointer (some ⟨b, 0, none⟩), .pointer (some ⟨w3.heap.size, 0, none⟩)], .agg (calv x).toArray] ((w3.alloc (.cells (stc S vr vi vo) 56)).alloc (.cells #[.pointer (some ⟨b, 0, none⟩), .pointer (some ⟨w3.heap.size, 0, none⟩)] 58))
      fun e w' => e = .returned (.bool true) ∧ ∃ L' S' ur ui uo, Ofr B w0 b w3.heap.size o z x.k wr.heap.size w2.heap.size (calv x).toArray S ar ai ao L' S' ur ui uo w' := by
  obtain ⟨W4, hW4⟩ : ∃ W4, (w3.alloc (.cells (stc S vr vi vo) 56)).alloc (.cells #[.pointer (some ⟨b, 0, none⟩), .pointer (some ⟨w3.heap.size, 0, none⟩)] 58) = W4 := ⟨_, rfl⟩
  rw [hW4]
  obtain rfl := h.e
  have z1 : w1.heap.size = wr.heap.size + 1 := by rw [e1]; simp
  have z2 := b2.size
  have zW : W2.heap.size = w2.heap.size + 1 := by rw [eW]; simp
  have z3 := b3.size
  have z4 : W4.heap.size = w3.heap.size + 2 := by rw [← hW4]; simp
  have a1 : Below wr.heap.size wr w1 := by rw [e1]; exact below_al wr _
  have a2 : Below wr.heap.size wr w2 := a1.trans (b2.mono (by omega))
  have aW : Below w2.heap.size w2 W2 := by rw [eW]; exact below_al w2 _
  have a3 : Below wr.heap.size wr w3 := (a2.trans (aW.mono (by omega))).trans (b3.mono (by omega))
  have a4 : Below w3.heap.size w3 W4 := by rw [← hW4]; exact below2 w3 _ _
  have a5 : Below wr.heap.size wr W4 := a3.trans (a4.mono (by omega))
  have c24 : Below w2.heap.size w2 W4 := (aW.trans (b3.mono (by omega))).trans (a4.mono (by omega))
  have hO : ∀ k, L.own k → k < wr.heap.size := fun k hk => h.p.own_hi k hk
  have rc : W4.heap[w3.heap.size]? = some (.cells (stc S vr vi vo) 56 (0, 0)) := by rw [← hW4]; exact (Below.heap_alloc _ _ _ (by simp)).trans (heap_alloc_new w3 _)
  have hr : RB W2.heap.size w3.heap.size S vr vi vo W4 := ⟨rc, s3.later a4, z3⟩
  have hR : ∀ k, Rown w3.heap.size vr vi vo k → W2.heap.size ≤ k := fun k hk => (Rown_lt hr hk).1
  have hle := h.le
  have okb : Okb B L w3.heap.size S vr vi vo W4 := ⟨⟨h.p.later a5, hr.le (by omega), fun k h1 h2 => by have := hO k h1; have := hR k h2; omega⟩, h.s⟩
  have r1 : w1.heap[wr.heap.size]? = some (.cells (calv x).toArray 45 (0, 0)) := by rw [e1]; exact heap_alloc_new wr _
  have r1' : W4.heap[wr.heap.size]? = some (.cells (calv x).toArray 45 (0, 0)) := (c24.block _ (by omega)).trans ((b2.block _ (by omega)).trans r1)
  have r2 : W2.heap[w2.heap.size]? = some (.cells (stc S ar ai ao) 26 (0, 0)) := by rw [eW]; exact heap_alloc_new w2 _
  have r2' : W4.heap[w2.heap.size]? = some (.cells (stc S ar ai ao) 26 (0, 0)) := (a4.block _ (by omega)).trans ((b3.block _ (by omega)).trans r2)
  have r3 : W4.heap[w3.heap.size + 1]? = some (.cells #[.pointer (some ⟨L.b, 0, none⟩), .pointer (some ⟨w3.heap.size, 0, none⟩)] 58 (0, 0)) := by rw [← hW4]; have := heap_alloc_new (w3.alloc (.cells (stc S vr vi vo) 56)) (.cells #[.pointer (some ⟨L.b, 0, none⟩), .pointer (some ⟨w3.heap.size, 0, none⟩)] 58); simpa using this
  refine (changes_c W4 w0 okb hB (h.be.trans (a5.mono hle)) x hx).mono ?_
  rintro e w' ⟨rfl, L', ur, ui, uo, hk, hlb, kp⟩
  have hof : S.off ≠ 0 := by rw [h.o]; exact ho
  obtain ⟨q1, q2⟩ := S.chg_off x hof
  have hno : ∀ k, wr.heap.size ≤ k → k < W2.heap.size → ¬ L.own k ∧ ¬ Rown w3.heap.size vr vi vo k := fun k h1 h2 => ⟨fun q => by have := hO k q; omega, fun q => by have := hR k q; omega⟩
  have s4 : Sv w1.heap.size S ar ai ao W4 := s2.later c24
  have hkeep : ∀ {v : Value} {l : List Int} {n : Nat}, w2.ownsRow w1.heap.size 5 1 v n (bv l) → W4.ownsRow w1.heap.size 5 1 v n (bv l) → l.length = n → Byt w' v l := fun h2 h4 hn => kept_own kp h4 hn (fun g hg => hno g (by have := (h2.lt g hg).1; omega) (by have := (h2.lt g hg).2; omega))
  refine ⟨rfl, L', S.chg x, ur, ui, uo, hk, hlb, by rw [q1]; exact h.o, by rw [q2]; exact h.z, (h.be.trans (a5.mono hle)).trans kp.be, ?_, ?_, ?_, ⟨hkeep s2.r s4.r rfl, hkeep s2.i s4.i rfl, hkeep s2.o s4.o rfl⟩, fun e => S.chg_beg x hof e⟩
  · exact (kp.x _ (by omega) (hno _ (Nat.le_refl _) (by omega)).1 (hno _ (Nat.le_refl _) (by omega)).2).trans r1'
  · exact (kp.x _ (by omega) (hno _ (by omega) (by omega)).1 (hno _ (by omega) (by omega)).2).trans r2'
  · refine (kp.x _ (by omega) (fun q => by have := hO _ q; omega) (fun q => ?_)).trans r3
    rcases q with q | q | q | q
    · omega
    · have := (s3.r.lt _ q).2; omega
    · have := (s3.i.lt _ q).2; omega
    · have := (s3.o.lt _ q).2; omega
theorem off_rows {wr w1 w2 W2 w3 W4 : World} {x : Cal} (e1 : w1 = wr.alloc (.cells (calv x).toArray 45)) (b2 : Below w1.heap.size w1 w2) (eW : W2 = w2.alloc (.cells (stc S ar ai ao) 26)) (b3 : Below W2.heap.size W2 w3)
    (hW4 : (w3.alloc (.cells (stc S vr vi vo) 56)).alloc (.cells #[.pointer (some ⟨b, 0, none⟩), .pointer (some ⟨w3.heap.size, 0, none⟩)] 58) = W4) :
    W4.heap[wr.heap.size]? = some (.cells (calv x).toArray 45 (0, 0)) ∧ W4.heap[w3.heap.size + 1]? = some (.cells #[.pointer (some ⟨b, 0, none⟩), .pointer (some ⟨w3.heap.size, 0, none⟩)] 58 (0, 0)) := by
  have z1 : w1.heap.size = wr.heap.size + 1 := by rw [e1]; simp
  have z2 := b2.size
  have zW : W2.heap.size = w2.heap.size + 1 := by rw [eW]; simp
  have z3 := b3.size
  have a4 : Below w3.heap.size w3 W4 := by rw [← hW4]; exact below2 w3 _ _
  have aW : Below w2.heap.size w2 W2 := by rw [eW]; exact below_al w2 _
  have r1 : w1.heap[wr.heap.size]? = some (.cells (calv x).toArray 45 (0, 0)) := by rw [e1]; exact heap_alloc_new wr _
  refine ⟨(a4.block _ (by omega)).trans ((b3.block _ (by omega)).trans ((aW.block _ (by omega)).trans ((b2.block _ (by omega)).trans r1))), ?_⟩
  rw [← hW4]
  have := heap_alloc_new (w3.alloc (.cells (stc S vr vi vo) 56)) (.cells #[.pointer (some ⟨b, 0, none⟩), .pointer (some ⟨w3.heap.size, 0, none⟩)] 58)
  simpa using this
end
end Go.Proofs.Ytghiabdkgfhdbaa
