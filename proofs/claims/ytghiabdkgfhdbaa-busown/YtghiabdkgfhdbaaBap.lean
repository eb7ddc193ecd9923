/-
  BusApart: what holds of both buses and the two calls while it runs.
-/
import Derived.Test.YtghiabdkgfhdbaaBal
import Derived.Test.YtghiabdkgfhdbaaBas
namespace Go.Proofs.Ytghiabdkgfhdbaa
set_option linter.unusedVariables false
open Go.ChangeShapes Go.WideShapes Go.ChangeAt Go.RowKit Go.Deep
theorem PB.own_lo {B : Nat} {L : Lay} {S : St} {w : World} (h : PB B L S w) (k : Nat) (hk : L.own k) : B ≤ k := by
  rcases hk with rfl | rfl | rfl | rfl | rfl | rfl | rfl | rfl | hk | hk | hk
  · exact h.lb
  · exact h.lm
  · exact h.lp
  · exact h.ls
  · exact h.lc
  · exact h.lk
  · exact h.lu
  · exact h.lq
  · exact (h.wr.lt k hk).1
  · exact (h.wi.lt k hk).1
  · exact (h.wo.lt k hk).1
theorem PB.own_hi {B : Nat} {L : Lay} {S : St} {w : World} (h : PB B L S w) (k : Nat) (hk : L.own k) : k < w.heap.size := by
  rcases hk with rfl | rfl | rfl | rfl | rfl | rfl | rfl | rfl | hk | hk | hk
  · exact (Array.getElem?_eq_some_iff.1 h.hb).1
  · exact (Array.getElem?_eq_some_iff.1 h.hm).1
  · exact (Array.getElem?_eq_some_iff.1 h.hp).1
  · exact (Array.getElem?_eq_some_iff.1 h.hs).1
  · exact (Array.getElem?_eq_some_iff.1 h.hc).1
  · exact (Array.getElem?_eq_some_iff.1 h.hk).1
  · exact (Array.getElem?_eq_some_iff.1 h.hu).1
  · exact (Array.getElem?_eq_some_iff.1 h.hq).1
  · exact (h.wr.lt k hk).2
  · exact (h.wi.lt k hk).2
  · exact (h.wo.lt k hk).2
theorem PB.exo {B : Nat} {L : Lay} {S : St} {w w' : World} {G : Nat → Prop} (h : PB B L S w) (hb : Exc G w w') (hG : ∀ k, L.own k → ¬ G k) : PB B L S w' := by
  have k : ∀ {g : Nat} {o : Obj}, L.own g → w.heap[g]? = some o → w'.heap[g]? = some o := fun {g o} hB hg => by rw [hb.block g (Array.getElem?_eq_some_iff.1 hg).1 (hG g hB)]; exact hg
  exact ⟨k (by unfold Lay.own; simp) h.hb, k (by unfold Lay.own; simp) h.hm, k (by unfold Lay.own; simp) h.hp, k (by unfold Lay.own; simp) h.hs, k (by unfold Lay.own; simp) h.hc, k (by unfold Lay.own; simp) h.hk, k (by unfold Lay.own; simp) h.hu, k (by unfold Lay.own; simp) h.hq,
    own_exc h.wr hb (fun g hg => hG g (by unfold Lay.own; simp [hg])), own_exc h.wi hb (fun g hg => hG g (by unfold Lay.own; simp [hg])), own_exc h.wo hb (fun g hg => hG g (by unfold Lay.own; simp [hg])), h.ri, h.ro, h.io, h.lb, h.lm, h.lp, h.ls, h.lc, h.lk, h.lu, h.lq⟩
/-- Two buses of the program, and two rows behind them. -/
structure Ap (w0 : World) (L1 L2 : Lay) (B2 M ga gb : Nat) (Ca Cb : Array Value) (S1 S2 : St) (w : World) : Prop where
  p1 : PB w0.heap.size L1 S1 w
  p2 : PB B2 L2 S2 w
  o1 : ∀ k, L1.own k → k < B2
  o2 : ∀ k, L2.own k → k < M
  b2 : w0.heap.size ≤ B2
  bm : B2 ≤ M
  ha : M ≤ ga
  hb : M ≤ gb
  la : Lies ga Ca 45 w
  lb : Lies gb Cb 45 w
  be : Below w0.heap.size w0 w
section
variable {w0 : World} {L1 L2 : Lay} {B2 M ga gb : Nat} {Ca Cb : Array Value} {S1 S2 : St} {w w' : World}
theorem Lies.exc {g : Nat} {C : Array Value} {T : TypeId} {G : Nat → Prop} (h : Lies g C T w) (hx : Exc G w w') (hg : ¬ G g) : Lies g C T w' := by
  unfold Lies at *; rw [hx.block g (Array.getElem?_eq_some_iff.1 h).1 hg]; exact h
theorem Ap.later (h : Ap w0 L1 L2 B2 M ga gb Ca Cb S1 S2 w) (hb : Below w.heap.size w w') : Ap w0 L1 L2 B2 M ga gb Ca Cb S1 S2 w' :=
  ⟨h.p1.later hb, h.p2.later hb, h.o1, h.o2, h.b2, h.bm, h.ha, h.hb, h.la.later hb, h.lb.later hb, h.be.trans (hb.mono h.be.size)⟩
theorem Ap.st1 {T : St} (h : Ap w0 L1 L2 B2 M ga gb Ca Cb S1 S2 w) (hp : PB w0.heap.size L1 T w') (hx : Exc L1.own w w') : Ap w0 L1 L2 B2 M ga gb Ca Cb T S2 w' :=
  ⟨hp, h.p2.exg hx h.o1, h.o1, h.o2, h.b2, h.bm, h.ha, h.hb, h.la.exc hx (fun e => by have := h.o1 _ e; have := h.ha; have := h.bm; omega), h.lb.exc hx (fun e => by have := h.o1 _ e; have := h.hb; have := h.bm; omega), h.be.trans (hx.below h.be.size (fun k hk => h.p1.own_lo k hk))⟩
theorem Ap.st2 {T : St} (h : Ap w0 L1 L2 B2 M ga gb Ca Cb S1 S2 w) (hp : PB B2 L2 T w') (hx : Exc L2.own w w') : Ap w0 L1 L2 B2 M ga gb Ca Cb S1 T w' :=
  ⟨h.p1.exo hx (fun k h1 h2 => by have := h.o1 k h1; have := h.p2.own_lo k h2; omega), hp, h.o1, h.o2, h.b2, h.bm, h.ha, h.hb, h.la.exc hx (fun e => by have := h.o2 _ e; have := h.ha; omega), h.lb.exc hx (fun e => by have := h.o2 _ e; have := h.hb; omega), h.be.trans (hx.below h.be.size (fun k hk => Nat.le_trans h.b2 (h.p2.own_lo k hk)))⟩
end
/-- What a call's row holds, its address in RAM. -/
def calr (x : Cal) (k : Nat) : Array Value := #[.int .i64 x.k, .int .u64 (2147483648 + (k : Int)), .int .i64 x.n, .int .u64 x.v, .slice x.ab x.b.length x.cb, .bool x.t, .bool x.e, .bool x.s, .slice x.ai x.i.length x.ci]
section
variable {w0 : World} {L1 L2 : Lay} {B2 M ga gb : Nat} {Ca Cb : Array Value} {S1 S2 : St} {w : World}
theorem Ap.store1 (h : Ap w0 L1 L2 B2 M ga gb Ca Cb S1 S2 w) (bx : BitVec 64) (hn : S1.ram.length ≤ 65536) (k : Nat) (z : Int) (hk : k ≤ 200000) (hz : -9223372036854775808 ≤ z ∧ z ≤ 9223372036854775807) :
    Calls Try.prog 19 #[.pointer (some ⟨L1.b, 0, none⟩), .int .u64 (2147483648 + (k : Int)), .int .i64 z, .int .u64 (n64 bx)] w fun e w' => e = .returned (.bool (hasM S1.ram.length (2147483648 + (k : Int)) z)) ∧ Ap w0 L1 L2 B2 M ga gb Ca Cb (S1.sto k z bx.toNat) S2 w' :=
  (store_any bx w h.p1 hn k z hk hz).mono (fun e w' ⟨he, hp, hx⟩ => ⟨he, h.st1 hp hx⟩)
theorem Ap.store2 (h : Ap w0 L1 L2 B2 M ga gb Ca Cb S1 S2 w) (bx : BitVec 64) (hn : S2.ram.length ≤ 65536) (k : Nat) (z : Int) (hk : k ≤ 200000) (hz : -9223372036854775808 ≤ z ∧ z ≤ 9223372036854775807) :
    Calls Try.prog 19 #[.pointer (some ⟨L2.b, 0, none⟩), .int .u64 (2147483648 + (k : Int)), .int .i64 z, .int .u64 (n64 bx)] w fun e w' => e = .returned (.bool (hasM S2.ram.length (2147483648 + (k : Int)) z)) ∧ Ap w0 L1 L2 B2 M ga gb Ca Cb S1 (S2.sto k z bx.toNat) w' :=
  (store_any bx w h.p2 hn k z hk hz).mono (fun e w' ⟨he, hp, hx⟩ => ⟨he, h.st2 hp hx⟩)
theorem Ap.load1 (h : Ap w0 L1 L2 B2 M ga gb Ca Cb S1 S2 w) (hr : AllB S1.ram) (hn : S1.ram.length ≤ 65536) (k : Nat) (z : Int) (hk : k ≤ 200000) (hz : -9223372036854775808 ≤ z ∧ z ≤ 9223372036854775807) :
    Calls Try.prog 17 #[.pointer (some ⟨L1.b, 0, none⟩), .int .u64 (2147483648 + (k : Int)), .int .i64 z] w fun e w' => e = .returned (.tuple #[.int .u64 (S1.lod k z), .bool (hasM S1.ram.length (2147483648 + (k : Int)) z)]) ∧ Ap w0 L1 L2 B2 M ga gb Ca Cb S1 S2 w' :=
  (load_any w h.p1 hr hn k z hk hz).mono (fun e w' ⟨he, hb⟩ => ⟨he, h.later hb⟩)
end
theorem rem_ram {a : Int} {n : Nat} (ha : 0 ≤ a) (h0 : 0 < n) (hn : n ≤ 65536) : ∃ k : Nat, k < n ∧ IntKind.u64.wrap (2147483648 + a.tmod (IntKind.u64.wrap (n : Int))) = 2147483648 + (k : Int) := by
  have e : IntKind.u64.wrap (n : Int) = n := u64_small (by omega) (by omega)
  have h1 : a % (n : Int) < n := Int.emod_lt_of_pos _ (by omega)
  have h2 : 0 ≤ a % (n : Int) := Int.emod_nonneg _ (by omega)
  refine ⟨(a % (n : Int)).toNat, by omega, ?_⟩
  rw [e, Int.tmod_eq_emod_of_nonneg ha, u64_small (by omega) (by omega)]
  omega
theorem Lies.far {w : World} {a b : Nat} {D : Array Value} {T : TypeId} (h : Lies b D T w) (hne : a ≠ b) (j : Nat) (v : Value) : Lies b D T (w.setCell ⟨a, j, none⟩ v) := by
  unfold Lies
  rw [Below.heap_setCell w ⟨a, j, none⟩ v b (fun e => hne e.symm)]
  exact h
theorem rows_two (w : World) (C D : Array Value) (T : TypeId) : Lies w.heap.size C T ((w.alloc (.cells C T)).alloc (.cells D T)).drew ∧ Lies (w.heap.size + 1) D T ((w.alloc (.cells C T)).alloc (.cells D T)).drew ∧ Below w.heap.size w ((w.alloc (.cells C T)).alloc (.cells D T)).drew :=
  ⟨(Lies.new w C T).later (Below.drew (below_al _ _)), Lies.new1 w _ D T, Below.drew ((below_al _ _).trans ((below_al _ _).mono (by simp)))⟩
theorem ap_start {w w1 w2 w3 wc : World} {L1 L2 : Lay} {S : St} {ga gb : Nat} {x y : Cal} (kx ky : Nat) (b1 : Below w.heap.size w w1) (b2 : Below w.heap.size w w2) (b3 : Below w.heap.size w w3) (h1 : PB w1.heap.size L1 S w2) (h2 : PB w2.heap.size L2 S w3) (h3 : PB w1.heap.size L1 S w3) (l3 : w2.heap.size ≤ w3.heap.size)
    (bw : Below w3.heap.size w3 wc) (ma : w3.heap.size ≤ ga) (mb : w3.heap.size ≤ gb) (hne : ga ≠ gb) (la : Lies ga (calv x).toArray 45 wc) (lb : Lies gb (calv y).toArray 45 wc) :
    Ap w L1 L2 w2.heap.size w3.heap.size ga gb (calr x kx) (calr y ky) S S ((wc.setCell ⟨ga, 1, none⟩ (.int .u64 (2147483648 + (kx : Int)))).setCell ⟨gb, 1, none⟩ (.int .u64 (2147483648 + (ky : Int)))) := by
  have hx : Exc (fun k => k = ga ∨ k = gb) wc ((wc.setCell ⟨ga, 1, none⟩ (.int .u64 (2147483648 + (kx : Int)))).setCell ⟨gb, 1, none⟩ (.int .u64 (2147483648 + (ky : Int)))) := ((Exc.refl _ wc).set ga 1 _ (.inl rfl)).set gb 1 _ (.inr rfl)
  have o1 : ∀ k, L1.own k → k < w2.heap.size := fun k hk => h1.own_hi k hk
  have o2 : ∀ k, L2.own k → k < w3.heap.size := fun k hk => h2.own_hi k hk
  refine ⟨((h3.later bw).exo hx (fun k hk e => ?_)).le b1.size, (h2.later bw).exo hx (fun k hk e => ?_), o1, o2, b2.size, l3, ma, mb, ?_, ?_, (b3.trans (bw.mono b3.size)).trans (hx.below (Nat.le_trans b3.size bw.size) (fun k hk => ?_))⟩
  · have := o1 k hk; rcases e with e | e <;> omega
  · have := o2 k hk; rcases e with e | e <;> omega
  · exact Lies.far (heap_setCell_same wc ga 1 _ _ _ la) (Ne.symm hne) 1 _
  · exact heap_setCell_same _ gb 1 _ _ _ (lb.far hne 1 _)
  · have := b3.size; rcases hk with e | e <;> omega
theorem alg_cases {a z : Int} (h : alg a z = true) : z = 1 ∨ z = 2 ∨ z = 4 ∨ z = 8 := by
  simp only [alg, Bool.and_eq_true, Bool.or_eq_true, beq_iff_eq] at h
  omega
theorem fits_num {n k : Nat} {a z : Int} (hk : k < n) (hn : n ≤ 65536) (h : alg a z = true) : decide (IntKind.u64.wrap (IntKind.u64.wrap (2147483648 + (k : Int) - 2147483648) + IntKind.u64.wrap z) ≤ IntKind.u64.wrap (n : Int)) = decide ((k : Int) + z ≤ n) := by
  have hz := alg_cases h
  rw [u64_small (z := (n : Int)) (by omega) (by omega), u64_small (z := z) (by omega) (by omega), u64_small (z := 2147483648 + (k : Int) - 2147483648) (by omega) (by omega), u64_small (by omega) (by omega)]
  congr 1
  rw [show (2147483648 + (k : Int) - 2147483648) = k by omega]
theorem lx_1 (b : BitVec 64) : (((b.toNat % 256 ^ (1 : Int).toNat : Nat) : Int) != (n64 b).tmod 256) = false := by
  rw [Int.tmod_eq_emod_of_nonneg (n64_lo b)]; show (((b.toNat % 256 : Nat) : Int) != (b.toNat : Int) % 256) = false; simp
theorem lx_2 (b : BitVec 64) : (((b.toNat % 256 ^ (2 : Int).toNat : Nat) : Int) != (n64 b).tmod 65536) = false := by
  rw [Int.tmod_eq_emod_of_nonneg (n64_lo b)]; show (((b.toNat % 65536 : Nat) : Int) != (b.toNat : Int) % 65536) = false; simp
theorem lx_4 (b : BitVec 64) : (((b.toNat % 256 ^ (4 : Int).toNat : Nat) : Int) != (n64 b).tmod 4294967296) = false := by
  rw [Int.tmod_eq_emod_of_nonneg (n64_lo b)]; show (((b.toNat % 4294967296 : Nat) : Int) != (b.toNat : Int) % 4294967296) = false; simp
theorem lx_8 (b : BitVec 64) : (((b.toNat % 256 ^ (8 : Int).toNat : Nat) : Int) != n64 b) = false := by
  show (((b.toNat % 18446744073709551616 : Nat) : Int) != (b.toNat : Int)) = false
  rw [Nat.mod_eq_of_lt b.isLt]; simp
theorem hasM_cases {n : Nat} {a z : Int} (h : hasM n a z = true) : z = 1 ∨ z = 2 ∨ z = 4 ∨ z = 8 := by
  simp only [hasM, Bool.and_eq_true, Bool.or_eq_true, beq_iff_eq] at h
  omega
theorem sum_num {k n : Nat} {z : Int} (hk : k < n) (hn : n ≤ 65536) (hz : z = 1 ∨ z = 2 ∨ z = 4 ∨ z = 8) : IntKind.u64.wrap (2147483648 + (k : Int) + IntKind.u64.wrap z) = 2147483648 + (k : Int) + z := by
  rw [u64_small (z := z) (by omega) (by omega), u64_small (by omega) (by omega)]
end Go.Proofs.Ytghiabdkgfhdbaa
