/-
  Irh.
-/
import Derived.Test.YtopddflnahfomaaGreatDoorM05
import Derived.Test.YtopddflnahfomaaGreatDoorM06
namespace Go.Proofs.YtopddflnahfomaaGreatDoor
set_option linter.unusedVariables false
set_option maxRecDepth 100000
open Go.ChangeShapes Go.WideShapes Go.ChangeAt Go.RowKit Go.Deep
theorem on_w {motive : World → Prop} {w : World} {Q : World → Prop} (hq : Q w) (h : ∀ W, Q W → motive W) : motive w := h w hq
theorem refuse_tI (y q : Nat) (qI : Int) (hq : qI = q) (w : World) : Calls Tryz.prog 27 #[.bool true, .int .i64 y, .int .i64 qI] w fun e w' => Pan w (q, y) e w' := by
  subst hq; exact refuse_t y q w
theorem store_rowI {P : Program} {ops : Array Oper} {rest : List Oper} {o : Oper} {a : Act} {w : World} {Q : Exit → Act → World → Prop} (hgd : o.guard = none) (t : TypeId) (x y : Operand) (ho : o.op = .store t x y) (hd : o.dst = none)
    (g : Nat) (c c' : Array Value) (hx : a.eval x = .pointer (some ⟨g, 0, none⟩)) (hy : a.eval y = .agg c') (hg : w.heap[g]? = some (.cells c t (0, 0))) (hi : (P.info? t).map (·.size) = some c'.size) (hs : c.size = c'.size) (h1 : c'.all (·.oneCell') = true)
    (h : wpList P ops Q rest a (w.setRow g c')) : wpList P ops Q (o :: rest) a w :=
  wpList_plain hgd fun _ hK => by
    unfold Oper.wp execOp
    simp only [ho, hx, hy, Instr.storeAt, Instr.sureAddr, Sem.run_bind, Sem.run_pure, Result.andThen_ok, run_storeVar_row w g t t c c' hg hi hs h1]
    simpa [Oper.upon, Act.put, hd] using hK _ _ h
theorem below_rowI {B g : Nat} {a w : World} (h : Below B a w) (hg : B ≤ g) (cs : Array Value) : Below B a (w.setRow g cs) := h.trans ⟨rfl, rfl, rfl, by simp, fun j hj => setRow_other _ _ _ _ (by omega)⟩
theorem seg_info {a b c d : Value} : (Tryz.prog.info? 42).map (·.size) = some (#[a, b, c, d] : Array Value).size := by kernel_rfl
theorem seg_same {a b c d e f g h : Value} : (#[a, b, c, d] : Array Value).size = (#[e, f, g, h] : Array Value).size := rfl
theorem seg_ones {k1 k2 k3 : IntKind} {a b c : Int} {m : Option Addr} {n q : Nat} : (#[.int k1 a, .int k2 b, .int k3 c, .slice m n q] : Array Value).all (·.oneCell') = true := by simp [Value.oneCell']
theorem own_ge {w w' : World} {B B' e size n : Nat} {v : Value} {xs : List Value} (h : w.ownsRow B e size v n xs) (hb : B' ≤ B) (hk : ∀ k, B ≤ k → w'.heap[k]? = w.heap[k]?) : w'.ownsRow B' e size v n xs := by
  refine ⟨h.1, ?_⟩
  rcases h.2 with h' | ⟨g, cap, cur, rfl, h1, h2, h3⟩
  · exact .inl h'
  · exact .inr ⟨g, cap, cur, rfl, Nat.le_trans hb h1, by rw [hk g h1]; exact h2, h3⟩
theorem own_slice {w : World} {B e size n : Nat} {v : Value} {xs : List Value} (h : w.ownsRow B e size v n xs) : ∃ m k c, v = .slice m k c := by
  rcases h.2 with ⟨rfl, _⟩ | ⟨g, cap, cur, rfl, _⟩
  · exact ⟨_, _, _, rfl⟩
  · exact ⟨_, _, _, rfl⟩
/-- Bytes of a list, from a place on. -/
theorem Byt.sub {w : World} {a : Option Addr} {cap p n : Nat} {b : List Int} (h : Byt w (.slice a b.length cap) b) (hp : p + n ≤ b.length) : Byt w (.slice (if cap = p then a else a.map (fun x => x.add p)) n (cap - p)) ((b.drop p).take n) := by
  obtain ⟨a', cap', e, h1, h2, h3⟩ := h
  cases e
  have hl : ((b.drop p).take n).length = n := by simp; omega
  refine ⟨if cap = p then a else a.map (fun x => x.add p), cap - p, by rw [hl], by rw [hl]; omega, fun he => ?_, fun hne => ?_⟩
  · by_cases e : cap = p
    · omega
    · rw [if_neg e] at he
      have : a = none := by cases a <;> simp_all
      have := h2 this
      omega
  · have hn : 0 < n := by
      rcases Nat.eq_zero_or_pos n with e | e
      · subst e; simp at hne
      · exact e
    obtain ⟨g, off, rfl, h4, h5⟩ := h3 (by intro e; rw [e] at hp; simp at hp; omega)
    rw [if_neg (by omega)]
    refine ⟨g, off + p, by simp [Addr.add], h4, fun j hj => ?_⟩
    rw [hl] at hj
    rw [Nat.add_assoc, h5 (p + j) (by omega)]
    congr 2
    rw [List.getD_eq_getElem?_getD, List.getD_eq_getElem?_getD, List.getElem?_take_of_lt hj, List.getElem?_drop]
theorem seg_set {a b c d e : Value} : (#[a, b, c, d] : Array Value).setIfInBounds 3 e = #[a, b, c, e] := rfl
theorem slice_I (W : World) (a : Option Addr) (len cap l n : Nat) (hI : Int) (hh : hI = (l : Int) + n) (hc : l + n ≤ cap) :
    (Instr.slice 29 (.slice a len cap) (some (.int .i64 (l : Int))) (some (.int .i64 hI)) none).run Tryz.prog W = .ok (.slice (if cap = l then a else a.map (fun x => x.add l)) n (cap - l)) W := by
  have he : Tryz.prog.elem 29 = 5 := by kernel_rfl
  have ht' : Tryz.prog.underlying 29 = some (.slice (Tryz.prog.elem 29)) := by rw [he]; exact Tryz.underlying29
  have hz : ∀ w, (Go.sizeOf 5).run Tryz.prog w = .ok 1 w := fun w => by kernel_rfl
  subst hh
  rw [run_slice_lh W _ _ _ _ ht' .i64 .i64 _ _ (by omega) (by omega) (by omega), he, hz]
  have e1 : ((l : Int)).toNat = l := by omega
  have e2 : ((l : Int) + n).toNat = l + n := by omega
  rw [e1, e2]
  simp [Result.andThen, sliced]
theorem passes_I (A S : Nat) (hA : A < 18446744073709551616) (hS : S < 18446744073709551616) (c : Bool) (hc : c = decide ((BitVec.ofNat 64 A + (BitVec.ofNat 64 S - 1#64)).toNat < (BitVec.ofNat 64 A).toNat)) (w : World) :
    Calls Tryz.prog 34 #[.int .u64 (A : Int), .int .u64 (S : Int)] w fun e w' => e = .returned (.bool c) ∧ w = w' := by
  rw [nat64 hA, nat64 hS]
  exact passes_c _ _ w c hc
/-- A part's first three cells, its bytes to come. -/
def ptc (x : Pt) (d : Value) : Array Value := #[.int .u64 (n64 (BitVec.ofNat 64 x.a)), .int .u64 (n64 (BitVec.ofNat 64 x.s)), .int .i64 (x.f : Int), d]
set_option maxHeartbeats 8000000 in
theorem part_c {b : List Int} (hB : AllB b) (hl : b.length ≤ 200000) (vb : Value) (h : Nat) (hh : h + 56 ≤ b.length) (vA : Value) (L : List Sg) (hL : L.length ≤ 16) (w : World) (hv : Byt w vb b) (hA : Sgs w vA L) :
    Calls Tryz.prog 50 #[.agg #[vb], .int .i64 h, vA] w fun e w' =>
      (ptF b h = none ∧ (∀ j, j < L.length → meetB (BitVec.ofNat 64 (ptAt b h).a) (BitVec.ofNat 64 (ptAt b h).s) (sg L j).a (sg L j).s = false) ∧ ∃ u, e = .returned (.agg (ptc (ptAt b h) u)) ∧ w'.ownsRow w.heap.size 5 1 u (ptAt b h).n (bv ((b.drop (ptAt b h).p).take (ptAt b h).n)) ∧ Below w.heap.size w w')
      ∨ (∃ F, ptF b h = some F ∧ Pan w F e w')
      ∨ (ptF b h = none ∧ (∃ j, j < L.length ∧ meetB (BitVec.ofNat 64 (ptAt b h).a) (BitVec.ofNat 64 (ptAt b h).s) (sg L j).a (sg L j).s = true) ∧ Pan w (h + 24, 24) e w') := by
  have HV : Hid (∀ w', Below w.heap.size w w' → Byt w' vb b) := fun w' hb => hv.later hb rfl
  have HS : Hid (∀ w', Below w.heap.size w w' → Sgs w' vA L) := fun w' hb => hA.later hb rfl
  have HB : Hid (AllB b) := hB
  obtain ⟨a, cap, rfl, hc, _, _⟩ := hv
  obtain ⟨ad, capA, rfl, _, _⟩ := hA
  obtain ⟨W1, hW1⟩ : ∃ W1, (w.alloc (.cells #[.slice a b.length cap] 54)).alloc (.cells #[.int .u64 0, .int .u64 0, .int .i64 0, .slice none 0 0] 42) = W1 := ⟨_, rfl⟩
  have HBL : Hid (Below w.heap.size w W1) := by rw [← hW1]; exact ((Below.refl _ _).alloc (Nat.le_refl _) _).alloc (by simp) _
  have hsz : Hid (W1.heap.size = w.heap.size + 2) := by unfold Hid; rw [← hW1]; simp
  have R3 : Hid (W1.heap[w.heap.size]? = some (.cells #[.slice a b.length cap] 54 (0, 0))) := by rw [← hW1]; exact heap_alloc2_old w _ _
  have R6 : Hid (W1.heap[w.heap.size + 1]? = some (.cells #[.int .u64 0, .int .u64 0, .int .i64 0, .slice none 0 0] 42 (0, 0))) := by rw [← hW1]; exact heap_alloc2_new w _ _
  have HC0 : Hid (∀ w', Below W1.heap.size W1 w' → w'.cell? ⟨w.heap.size, 0, none⟩ = some (.slice a b.length cap)) := fun w' hb => (hb.cell (by show w.heap.size < _; rw [hsz.out]; omega)).trans (cell_of_row W1 _ 0 _ _ _ R3.out)
  have c4 : Hid (∀ wx, Below W1.heap.size W1 wx → ∀ pI : Int, pI = ((h + 4 : Nat) : Int) → Calls Tryz.prog 47 #[.agg #[.slice a b.length cap], .int .i64 pI] wx fun e w' => e = .returned (.int .u64 ((vl b (h + 4) 4 : Nat) : Int)) ∧ Below wx.heap.size wx w') := fun wx hx pI hpI => word_c HB.out hl _ (h + 4) pI hpI (by omega) wx (HV.out _ (HBL.out.trans (hx.mono HBL.out.size)))
  have c3 : Hid (∀ wx, Below W1.heap.size W1 wx → ∀ pI : Int, pI = ((h + 32 : Nat) : Int) → Calls Tryz.prog 32 #[.agg #[.slice a b.length cap], .int .i64 pI] wx fun e w' => e = .returned (.int .u64 ((vl b (h + 32) 8 : Nat) : Int)) ∧ Below wx.heap.size wx w') := fun wx hx pI hpI => double_c HB.out hl _ (h + 32) pI hpI (by omega) wx (HV.out _ (HBL.out.trans (hx.mono HBL.out.size)))
  have cA : Hid (∀ wx, Below W1.heap.size W1 wx → ∀ pI : Int, pI = ((h + 24 : Nat) : Int) → Calls Tryz.prog 32 #[.agg #[.slice a b.length cap], .int .i64 pI] wx fun e w' => e = .returned (.int .u64 ((vl b (h + 24) 8 : Nat) : Int)) ∧ Below wx.heap.size wx w') := fun wx hx pI hpI => double_c HB.out hl _ (h + 24) pI hpI (by omega) wx (HV.out _ (HBL.out.trans (hx.mono HBL.out.size)))
  have cS : Hid (∀ wx, Below W1.heap.size W1 wx → ∀ pI : Int, pI = ((h + 40 : Nat) : Int) → Calls Tryz.prog 32 #[.agg #[.slice a b.length cap], .int .i64 pI] wx fun e w' => e = .returned (.int .u64 ((vl b (h + 40) 8 : Nat) : Int)) ∧ Below wx.heap.size wx w') := fun wx hx pI hpI => double_c HB.out hl _ (h + 40) pI hpI (by omega) wx (HV.out _ (HBL.out.trans (hx.mono HBL.out.size)))
  have hhI : (h : Int) + 56 ≤ b.length := by omega
  have hlI : (b.length : Int) ≤ 200000 := by omega
  have hhJ : (h : Int) ≤ 200000 := by omega
  have l4 := vl_lt8 hB (h + 4) 4 (by omega)
  have l3 := vl_lt8 hB (h + 32) 8 (by omega)
  have lA := vl_lt8 hB (h + 24) 8 (by omega)
  have lS := vl_lt8 hB (h + 40) 8 (by omega)
  have HF : Hid (ptF b h = if 7 < vl b (h + 4) 4 then some (h + 4, 23) else if vl b (h + 40) 8 < vl b (h + 32) 8 then some (h + 32, 23) else if ¬ room b (vl b (h + 8) 8) (vl b (h + 32) 8) then some (h + 8, 20)
  else if (BitVec.ofNat 64 (vl b (h + 24) 8) + (BitVec.ofNat 64 (vl b (h + 40) 8) - 1#64)).toNat < (BitVec.ofNat 64 (vl b (h + 24) 8)).toNat then some (h + 24, 23) else none) := rfl
  have HP : Hid (ptAt b h = ⟨vl b (h + 24) 8, vl b (h + 40) 8, fwN (vl b (h + 4) 4), vl b (h + 8) 8, vl b (h + 32) 8⟩) := rfl
  have c8 : Hid (∀ wx, Below W1.heap.size W1 wx → ∀ pI : Int, pI = ((h + 8 : Nat) : Int) → Calls Tryz.prog 48 #[.agg #[.slice a b.length cap], .int .i64 pI, .int .u64 ((vl b (h + 32) 8 : Nat) : Int)] wx fun e w' => (room b (vl b (h + 8) 8) (vl b (h + 32) 8) ∧ e = .returned (.int .i64 ((vl b (h + 8) 8 : Nat) : Int)) ∧ Below wx.heap.size wx w') ∨ (¬ room b (vl b (h + 8) 8) (vl b (h + 32) 8) ∧ Pan wx (h + 8, 20) e w')) := fun wx hx pI hpI => placeAt_c HB.out hl _ (h + 8) _ pI hpI (by omega) l3 wx (HV.out _ (HBL.out.trans (hx.mono HBL.out.size)))
  generalize ptF b h = FF at HF ⊢
  generalize ptAt b h = PT at HP ⊢
  generalize vl b (h + 4) 4 = N4 at c4 l4 HF HP
  generalize vl b (h + 32) 8 = N3 at c3 l3 HF HP c8
  generalize vl b (h + 24) 8 = NA at cA lA HF HP
  generalize vl b (h + 40) 8 = NS at cS lS HF HP
  generalize vl b (h + 8) 8 = N8 at HF HP c8
  clear hB
  have i4 : (N4 : Int) < 18446744073709551616 := by omega
  have i3 : (N3 : Int) < 18446744073709551616 := by omega
  have HW1 : Hid (Below W1.heap.size W1 W1) := Below.refl _ _
  go_enter Tryz.func50, Tryz.ntmps50
  go_upto_region 1 with fail
  have k1 := HC0.out W1 HW1.out
  clear hW1
  go_upto_region 2 with (go_at_call 47; refine (c4.out _ HW1.out _ (by first | omega | (rw [IntKind.wrap_i64]; omega))).mono ?_; rintro e w2 ⟨rfl, hb⟩; have Hw2 : Hid (Below W1.heap.size W1 w2) := HW1.out.trans (hb.mono (HW1.out).size); clear hb)
  by_cases g1 : 7 < N4
  · have g1I : (7 : Int) < N4 := by omega
    have HE : Hid (FF = some (h + 4, 23)) := by unfold Hid; rw [HF.out, if_pos g1]
    clear g1
    go_wp2_with (go_at_call 27; refine (refuse_tI 23 (h + 4) _ (by first | omega | (rw [IntKind.wrap_i64]; omega)) _).mono ?_; rintro e w9 ⟨g, rfl, p2, p3, p4⟩)
    exact ⟨rfl, .inr (.inl ⟨_, HE.out, Pan.later (HBL.out.trans (Hw2.out.mono HBL.out.size)) ⟨g, rfl, p2, p3, p4⟩⟩)⟩
  · have g1I : (N4 : Int) ≤ 7 := by omega
    have g1J : ¬ (7 : Int) < N4 := by omega
    have HG1 : Hid (¬ 7 < N4) := g1
    go_upto_region 3 with (go_at_call 27; refine (refuse_f _ _ _).mono ?_; rintro e w9 ⟨rfl, hw9⟩; subst hw9)
    have k2 := HC0.out w2 Hw2.out
    go_upto_region 4 with (go_at_call 32; refine (c3.out _ Hw2.out _ (by first | omega | (rw [IntKind.wrap_i64]; omega))).mono ?_; rintro e w3 ⟨rfl, hb⟩; have Hw3 : Hid (Below W1.heap.size W1 w3) := Hw2.out.trans (hb.mono (Hw2.out).size); clear hb)
    clear k1 k2
    have k3 := HC0.out w3 Hw3.out
    have hws : w.heap.size < w3.heap.size := by have := Hw3.out.size; rw [hsz.out] at this; omega
    have lk : ∀ q, ∀ x : LaterN w3 #[.int .u64 0, .int .u64 0, .int .i64 0, .slice none 0 0] 42 q, x.1.cell? ⟨w.heap.size, 0, none⟩ = some (.slice a b.length cap) := fun q x => laterN_at hws k3 q x
    have hB3 : ∀ q, ∀ x : LaterN w3 #[.int .u64 0, .int .u64 0, .int .i64 0, .slice none 0 0] 42 q, Below W1.heap.size W1 x.1 := fun q x => Hw3.out.trans (x.below.mono Hw3.out.size)
    have cM : Hid (∀ W, Calls Tryz.prog 40 #[.int .i64 (N4 : Int)] W fun e w' => e = .returned (.int .i64 ((fwN N4 : Nat) : Int)) ∧ Below W.heap.size W w') := fun W => (mirrorN_c N4 (by omega) W).mono fun e w' ⟨h1, h2⟩ => ⟨h1, by rw [h2]; exact Below.refl _ _⟩
    refine wp_region_later_mk 12 9 #[.int .u64 0, .int .u64 0, .int .i64 0, .slice none 0 0] 42 (by kernel_rfl) (by kernel_rfl) (by kernel_rfl) (by rfl) (fun w => by kernel_rfl) ?_
    apply Exists.intro
    refine ⟨fun q hq => ?_, ?_⟩
    · have lk1 := lk q
      simp only [List.take_succ_cons, List.take_zero]
      repeat (go_big_quiet_step (first | (go_at_call 32; first | exact calls_laterN (cA.out _ (hB3 _ _) _ (by first | omega | (rw [IntKind.wrap_i64]; omega))) | exact calls_laterN (cS.out _ (hB3 _ _) _ (by first | omega | (rw [IntKind.wrap_i64]; omega)))) | (go_at_call 40; exact calls_laterN (cM.out _))))
      exact wpQuiet_nil rfl
    · intro g4 w4 hg4 hr4 hb4
      have HR4 : Hid (w4.heap[g4]? = some (.cells #[.int .u64 0, .int .u64 0, .int .i64 0, .slice none 0 0] 42 (0, 0))) := hr4
      have HB4 : Hid (Below w3.heap.size w3 w4) := hb4
      have HG4 : Hid (w3.heap.size ≤ g4) := hg4
      clear hr4 hb4 hg4 lk hB3 k3 cM cA cS c3 c4
      simp only [List.drop_succ_cons, List.drop_zero, Act.put, List.setIfInBounds_toArray, List.set_cons_succ, List.set_cons_zero]
      refine store_rowI (by rfl) 42 (.tmp 9) (.tmp 37) (by rfl) (by rfl) g4 #[.int .u64 0, .int .u64 0, .int .i64 0, .slice none 0 0] #[.int .u64 (NA : Int), .int .u64 (NS : Int), .int .i64 ((fwN N4 : Nat) : Int), .slice none 0 0] (by rfl) (by rfl) HR4.out seg_info seg_same seg_ones ?_
      go_upto_region 5 with fail
      refine on_w (motive := fun W => Code.wp _ _ _ _ W) (Q := fun W => W.heap[g4]? = some (.cells #[.int .u64 (NA : Int), .int .u64 (NS : Int), .int .i64 ((fwN N4 : Nat) : Int), .slice none 0 0] 42 (0, 0)) ∧ Below w3.heap.size w3 W) ⟨setRow_heap _ _ _ _ _ _ HR4.out, below_rowI HB4.out HG4.out _⟩ ?_
      clear HR4 HB4
      rintro W5 ⟨q9, b9⟩
      have R9 : Hid (W5.heap[g4]? = some (.cells #[.int .u64 (NA : Int), .int .u64 (NS : Int), .int .i64 ((fwN N4 : Nat) : Int), .slice none 0 0] 42 (0, 0))) := q9
      have H5 : Hid (Below W1.heap.size W1 W5) := Hw3.out.trans (b9.mono Hw3.out.size)
      have L4 : Hid (g4 < W5.heap.size) := (Array.getElem?_eq_some_iff.1 q9).1
      clear q9 b9
      have HRw : Hid (∀ w', Below W5.heap.size W5 w' → w'.heap[g4]? = some (.cells #[.int .u64 (NA : Int), .int .u64 (NS : Int), .int .i64 ((fwN N4 : Nat) : Int), .slice none 0 0] 42 (0, 0))) := fun w' hb => (hb.block g4 L4.out).trans R9.out
      have q0 : W5.cell? ⟨g4, 0, none⟩ = some (.int .u64 (NA : Int)) := cell_of_row W5 _ 0 _ _ _ R9.out
      have q1 : W5.cell? ⟨g4, 1, none⟩ = some (.int .u64 (NS : Int)) := cell_of_row W5 _ 1 _ _ _ R9.out
      have iS : (NS : Int) < 18446744073709551616 := by omega
      have iA : (NA : Int) < 18446744073709551616 := by omega
      by_cases g2 : NS < N3
      · have g2I : (NS : Int) < N3 := by omega
        have HE : Hid (FF = some (h + 32, 23)) := by unfold Hid; rw [HF.out, if_neg HG1.out, if_pos g2]
        clear g2
        go_wp2_with (go_at_call 27; refine (refuse_tI 23 (h + 32) _ (by first | omega | (rw [IntKind.wrap_i64]; omega)) _).mono ?_; rintro e w9 ⟨g, rfl, p2, p3, p4⟩)
        exact ⟨rfl, .inr (.inl ⟨_, HE.out, Pan.later (HBL.out.trans (H5.out.mono HBL.out.size)) ⟨g, rfl, p2, p3, p4⟩⟩)⟩
      · have g2I : ¬ (NS : Int) < N3 := by omega
        have HG2 : Hid (¬ NS < N3) := g2
        clear g2
        go_upto_region 6 with (go_at_call 27; refine (refuse_f _ _ _).mono ?_; rintro e w9 ⟨rfl, hw9⟩; subst hw9)
        have k5 := HC0.out _ H5.out
        by_cases hrm : room b N8 N3
        · have HRM : Hid (room b N8 N3) := hrm
          have c8t : Hid (∀ wx, Below W1.heap.size W1 wx → ∀ pI : Int, pI = ((h + 8 : Nat) : Int) → Calls Tryz.prog 48 #[.agg #[.slice a b.length cap], .int .i64 pI, .int .u64 (N3 : Int)] wx fun e w' => e = .returned (.int .i64 (N8 : Int)) ∧ Below wx.heap.size wx w') := fun wx hx pI hpI => (c8.out wx hx pI hpI).mono fun e w' hq => hq.elim (fun h1 => h1.2) (fun h1 => absurd hrm h1.1)
          clear c8 hrm
          go_upto_region 7 with (go_at_call 48; refine (c8t.out _ H5.out _ (by first | omega | (rw [IntKind.wrap_i64]; omega))).mono ?_; rintro e w6 ⟨rfl, hb⟩; have H56 : Hid (Below W5.heap.size W5 w6) := hb; clear hb)
          clear q0 q1 k5
          have R6b := HRw.out w6 H56.out
          have z0 : w6.cell? ⟨g4, 0, none⟩ = some (.int .u64 (NA : Int)) := cell_of_row w6 _ 0 _ _ _ R6b
          have z1 : w6.cell? ⟨g4, 1, none⟩ = some (.int .u64 (NS : Int)) := cell_of_row w6 _ 1 _ _ _ R6b
          obtain ⟨cp, hcp⟩ : ∃ cp, cp = decide ((BitVec.ofNat 64 NA + (BitVec.ofNat 64 NS - 1#64)).toNat < (BitVec.ofNat 64 NA).toNat) := ⟨_, rfl⟩
          have HPS : Hid (∀ W, Calls Tryz.prog 34 #[.int .u64 (NA : Int), .int .u64 (NS : Int)] W fun e w' => e = .returned (.bool cp) ∧ W = w') := fun W => passes_I NA NS lA lS cp hcp W
          clear R6b
          cases cp with
          | true =>
            have HE : Hid (FF = some (h + 24, 23)) := by unfold Hid; rw [HF.out, if_neg HG1.out, if_neg HG2.out, if_neg (fun q => q HRM.out), if_pos (of_decide_eq_true hcp.symm)]
            clear hcp
            go_wp2_with (first | (go_at_call 34; refine (HPS.out _).mono ?_; rintro e w9 ⟨rfl, hw9⟩; subst hw9) | (go_at_call 27; refine (refuse_tI 23 (h + 24) _ (by first | omega | (rw [IntKind.wrap_i64]; omega)) _).mono ?_; rintro e w9 ⟨g, rfl, p2, p3, p4⟩))
            exact ⟨rfl, .inr (.inl ⟨_, HE.out, Pan.later (HBL.out.trans ((H5.out.trans (H56.out.mono H5.out.size)).mono HBL.out.size)) ⟨g, rfl, p2, p3, p4⟩⟩)⟩
          | false =>
            have HE : Hid (FF = none) := by unfold Hid; rw [HF.out, if_neg HG1.out, if_neg HG2.out, if_neg (fun q => q HRM.out), if_neg (of_decide_eq_false hcp.symm)]
            clear hcp
            go_upto_region 8 with (first | (go_at_call 34; refine (HPS.out _).mono ?_; rintro e w9 ⟨rfl, hw9⟩; subst hw9) | (go_at_call 27; refine (refuse_f _ _ _).mono ?_; rintro e w9 ⟨rfl, hw9⟩; subst hw9))
            clear z0 z1 HPS c8t
            have hLI : (L.length : Int) ≤ 16 := by omega
            have HM : Hid (∀ (x2 y2 : BitVec 64) (f2 : Int) (m2 : Option Addr) (n2 c2 : Nat) (W : World), Calls Tryz.prog 67 #[.agg #[.int .u64 (NA : Int), .int .u64 (NS : Int), .int .i64 ((fwN N4 : Nat) : Int), .slice none 0 0], .agg #[.int .u64 (n64 x2), .int .u64 (n64 y2), .int .i64 f2, .slice m2 n2 c2]] W fun e w' => e = .returned (.bool (meetB (BitVec.ofNat 64 NA) (BitVec.ofNat 64 NS) x2 y2)) ∧ Below W.heap.size W w') := fun x2 y2 f2 m2 n2 c2 W => by
              have q := meet_c (BitVec.ofNat 64 NA) (BitVec.ofNat 64 NS) x2 y2 ((fwN N4 : Nat) : Int) f2 none m2 0 n2 0 c2 W
              rw [← nat64 lA, ← nat64 lS] at q
              exact q
            have H6 : Hid (Below W1.heap.size W1 w6) := H5.out.trans (H56.out.mono H5.out.size)
            go_wp2
            go_loopw [60] (fun x wr => ∃ j : Nat, j ≤ L.length ∧ x = .int .i64 j ∧ Hid (Below w6.heap.size w6 wr) ∧ Hid (∀ i, i < j → meetB (BitVec.ofNat 64 NA) (BitVec.ofNat 64 NS) (sg L i).a (sg L i).s = false)) (fun x _ => L.length - (intOf x).toNat)
            case atStart => exact ⟨0, Nat.zero_le _, rfl, Below.refl _ _, fun i hi => absurd hi (Nat.not_lt_zero _)⟩
            case round =>
              obtain ⟨j, hj, rfl, hbw, hno⟩ := hrel
              by_cases hlt : j < L.length
              · have hlt2 : (j : Int) < L.length := by omega
                obtain ⟨ad2, cap2, e2, _, h2⟩ := HS.out wr (HBL.out.trans ((H6.out.trans (hbw.out.mono H6.out.size)).mono HBL.out.size))
                cases e2
                obtain ⟨gA, off, rfl, hgA, hcl⟩ := h2 (by intro e; rw [e] at hlt; simp at hlt)
                obtain ⟨x0, x1, x2, x3⟩ := hcl j hlt
                have HMj : Hid (∀ W, Calls Tryz.prog 67 #[.agg #[.int .u64 (NA : Int), .int .u64 (NS : Int), .int .i64 ((fwN N4 : Nat) : Int), .slice none 0 0], .agg #[.int .u64 (n64 (sg L j).a), .int .u64 (n64 (sg L j).s), .int .i64 (sg L j).f, .slice (sg L j).m (sg L j).n (sg L j).c]] W fun e w' => e = .returned (.bool (meetB (BitVec.ofNat 64 NA) (BitVec.ofNat 64 NS) (sg L j).a (sg L j).s)) ∧ Below W.heap.size W w') := fun W => HM.out _ _ _ _ _ _ W
                obtain ⟨bm, hbm⟩ : ∃ bm, bm = meetB (BitVec.ofNat 64 NA) (BitVec.ofNat 64 NS) (sg L j).a (sg L j).s := ⟨_, rfl⟩
                rw [← hbm] at HMj
                have HBM : Hid (bm = meetB (BitVec.ofNat 64 NA) (BitVec.ofNat 64 NS) (sg L j).a (sg L j).s) := hbm
                clear hbm hcl h2
                generalize n64 (sg L j).a = X0 at *
                generalize n64 (sg L j).s = X1 at *
                generalize (sg L j).f = X2 at *
                generalize (sg L j).m = X3 at *
                generalize (sg L j).n = X4 at *
                generalize (sg L j).c = X5 at *
                go_upto_region 11 with fail
                have Hbw0 : Hid (Below W5.heap.size W5 wr) := H56.out.trans (hbw.out.mono H56.out.size)
                refine on_w (motive := fun W => Code.wp _ _ _ _ W) (Q := fun W => W.heap[g4]? = some (.cells #[.int .u64 (NA : Int), .int .u64 (NS : Int), .int .i64 ((fwN N4 : Nat) : Int), .slice none 0 0] 42 (0, 0)) ∧ W.heap[wr.heap.size]? = some (.cells #[.int .u64 X0, .int .u64 X1, .int .i64 X2, .slice X3 X4 X5] 42 (0, 0)) ∧ Below w6.heap.size w6 W) ⟨by rw [((Below.refl wr.heap.size wr).alloc (Nat.le_refl _) _).block g4 (Nat.lt_of_lt_of_le L4.out Hbw0.out.size)]; exact HRw.out wr Hbw0.out, heap_alloc_new wr _, hbw.out.alloc hbw.out.size _⟩ ?_
                clear x0 x1 x2 x3 hbw Hbw0
                generalize wr.heap.size = g12
                rintro W7 ⟨s1, s2, s3⟩
                have B7 : Hid (Below w6.heap.size w6 W7) := s3
                have y0 : W7.cell? ⟨g4, 0, none⟩ = some (.int .u64 (NA : Int)) := cell_of_row W7 _ 0 _ _ _ s1
                have y1 : W7.cell? ⟨g4, 1, none⟩ = some (.int .u64 (NS : Int)) := cell_of_row W7 _ 1 _ _ _ s1
                have y2 : W7.cell? ⟨g4, 2, none⟩ = some (.int .i64 ((fwN N4 : Nat) : Int)) := cell_of_row W7 _ 2 _ _ _ s1
                have y3 : W7.cell? ⟨g4, 3, none⟩ = some (.slice none 0 0) := cell_of_row W7 _ 3 _ _ _ s1
                have t0 : W7.cell? ⟨g12, 0, none⟩ = some (.int .u64 X0) := cell_of_row W7 _ 0 _ _ _ s2
                have t1 : W7.cell? ⟨g12, 1, none⟩ = some (.int .u64 X1) := cell_of_row W7 _ 1 _ _ _ s2
                have t2 : W7.cell? ⟨g12, 2, none⟩ = some (.int .i64 X2) := cell_of_row W7 _ 2 _ _ _ s2
                have t3 : W7.cell? ⟨g12, 3, none⟩ = some (.slice X3 X4 X5) := cell_of_row W7 _ 3 _ _ _ s2
                clear s1 s2 s3
                cases bm with
                | true =>
                  go_wp2_with (first | (go_at_call 67; refine (HMj.out _).mono ?_; rintro e w8 ⟨rfl, hb⟩; have B8 : Hid (Below W7.heap.size W7 w8) := hb; clear hb) | (go_at_call 27; refine (refuse_tI 24 (h + 24) _ (by first | omega | (rw [IntKind.wrap_i64]; omega)) _).mono ?_; rintro e w9 ⟨g, rfl, p2, p3, p4⟩))
                  exact ⟨rfl, .inr (.inr ⟨HE.out, ⟨j, hlt, by rw [HP.out]; exact HBM.out.symm⟩, Pan.later (HBL.out.trans ((H6.out.trans ((B7.out.trans (B8.out.mono B7.out.size)).mono H6.out.size)).mono HBL.out.size)) ⟨g, rfl, p2, p3, p4⟩⟩)⟩
                | false =>
                  go_upto_region 12 with (first | (go_at_call 67; refine (HMj.out _).mono ?_; rintro e w8 ⟨rfl, hb⟩; have B8 : Hid (Below w6.heap.size w6 w8) := B7.out.trans (hb.mono B7.out.size); clear hb) | (go_at_call 27; refine (refuse_f _ _ _).mono ?_; rintro e w9 ⟨rfl, hw9⟩; subst hw9))
                  have HN2 : Hid (∀ i, i < j + 1 → meetB (BitVec.ofNat 64 NA) (BitVec.ofNat 64 NS) (sg L i).a (sg L i).s = false) := fun i hi => by
                    by_cases e : i = j
                    · rw [e]; exact HBM.out.symm
                    · exact hno.out i (by omega)
                  clear y0 y1 y2 y3 t0 t1 t2 t3 B7
                  go_wp2
                  go_roundw
                  case rel => exact ⟨j + 1, hlt, by go_num, B8, HN2⟩
                  case measure => simp [intOf]; omega
              · obtain rfl : j = L.length := by omega
                go_upto_region 13 with fail
                have H9 : Hid (Below W1.heap.size W1 wr) := H6.out.trans (hbw.out.mono H6.out.size)
                have k9 := HC0.out wr H9.out
                have hrm1 : (N8 : Int) + N3 ≤ b.length := by have := HRM.out; unfold room at this; omega
                have hsl : ∀ W, (Instr.slice 29 (.slice a b.length cap) (some (.int .i64 (N8 : Int))) (some (.int .i64 ((N8 : Int) + N3))) none).run Tryz.prog W = .ok (.slice (if cap = N8 then a else a.map (fun x => x.add N8)) N3 (cap - N8)) W := fun W => slice_I W a b.length cap N8 N3 _ rfl (by have := HRM.out; unfold room at this; omega)
                have HCL : Hid (∃ u, True) := ⟨undef, trivial⟩
                have hbY : Hid (Byt wr (.slice (if cap = N8 then a else a.map (fun x => x.add N8)) N3 (cap - N8)) ((b.drop N8).take N3)) := (HV.out wr (HBL.out.trans (H9.out.mono HBL.out.size))).sub (by have := HRM.out; unfold room at this; omega)
                have hlen : Hid (((b.drop N8).take N3).length = N3) := by unfold Hid; have := HRM.out; unfold room at this; simp; omega
                have Hr9 : Hid (Below W5.heap.size W5 wr) := H56.out.trans (hbw.out.mono H56.out.size)
                have hl3 : Hid (N3 ≤ 200000) := by unfold Hid; have := HRM.out; unfold room at this; omega
                go_upto_region 14 with (first | (go_at_call 68; refine (clone_c (by rw [hlen.out]; have := hl3.out; omega) _ wr hbY.out).mono ?_; rintro e w10 ⟨u, rfl, ho, hb⟩; have HO : Hid (w10.ownsRow wr.heap.size 5 1 u N3 (bv ((b.drop N8).take N3))) := (by have q := ho; rw [hlen.out] at q; exact q); have B10 : Hid (Below wr.heap.size wr w10) := hb; clear hb ho; obtain ⟨um, uk, uc, rfl⟩ := own_slice HO.out; have R10 := (B10.out.block g4 (Nat.lt_of_lt_of_le L4.out Hr9.out.size)).trans (HRw.out wr Hr9.out); have c3 : w10.cell? ⟨g4, 3, none⟩ = some (.slice none 0 0) := cell_of_row w10 _ 3 _ _ _ R10; have f3 : w10.frozen? ⟨g4, 3, none⟩ = false := frozen_of_row w10 g4 3 _ _ R10; have HR10 : Hid (w10.heap[g4]? = some (.cells #[.int .u64 (NA : Int), .int .u64 (NS : Int), .int .i64 ((fwN N4 : Nat) : Int), .slice none 0 0] 42 (0, 0))) := R10; clear R10))
                have hg4 : Hid (w.heap.size + 2 ≤ g4) := by unfold Hid; have := HG4.out; have := Hw3.out.size; rw [hsz.out] at this; omega
                refine on_w (motive := fun W => Code.wp _ _ _ _ W) (Q := fun W => W.heap[g4]? = some (.cells #[.int .u64 (NA : Int), .int .u64 (NS : Int), .int .i64 ((fwN N4 : Nat) : Int), .slice um uk uc] 42 (0, 0)) ∧ W.heap[w.heap.size + 1]? = some (.cells #[.int .u64 0, .int .u64 0, .int .i64 0, .slice none 0 0] 42 (0, 0)) ∧ Below w.heap.size w W ∧ ∀ k, wr.heap.size ≤ k → W.heap[k]? = w10.heap[k]?) ⟨by have q := heap_setCell_same w10 g4 3 _ _ (.slice um uk uc) HR10.out; rw [seg_set] at q; exact q, (heap_setCell_other w10 _ (w.heap.size + 1) _ (by have := hg4.out; show w.heap.size + 1 ≠ g4; omega)).trans ((B10.out.block _ (Nat.lt_of_lt_of_le (by rw [hsz.out]; omega) H9.out.size)).trans ((H9.out.block _ (by rw [hsz.out]; omega)).trans R6.out)), Below.setCell (HBL.out.trans ((H9.out.trans (B10.out.mono H9.out.size)).mono HBL.out.size)) (by have := hg4.out; show w.heap.size ≤ g4; omega) _, fun k hk => heap_setCell_other w10 _ k _ (by have := L4.out; have := Hr9.out.size; show k ≠ g4; omega)⟩ ?_
                clear c3 f3 HR10 k9
                rintro W11 ⟨s1, s2, s3, s4⟩
                obtain ⟨RW, hRW⟩ : ∃ RW : Array Value, RW = #[.int .u64 (NA : Int), .int .u64 (NS : Int), .int .i64 ((fwN N4 : Nat) : Int), .slice um uk uc] := ⟨_, rfl⟩
                have HRW : Hid (RW = #[.int .u64 (NA : Int), .int .u64 (NS : Int), .int .i64 ((fwN N4 : Nat) : Int), .slice um uk uc]) := hRW
                rw [← hRW] at s1
                clear hRW
                have S1 : Hid (W11.heap[g4]? = some (.cells RW 42 (0, 0))) := s1
                have S2 : Hid (W11.heap[w.heap.size + 1]? = some (.cells #[.int .u64 0, .int .u64 0, .int .i64 0, .slice none 0 0] 42 (0, 0))) := s2
                have S3 : Hid (Below w.heap.size w W11) := s3
                have S4 : Hid (∀ k, wr.heap.size ≤ k → W11.heap[k]? = w10.heap[k]?) := s4
                have I1 : Hid ((Tryz.prog.info? 42).map (·.size) = some RW.size) := by unfold Hid; rw [HRW.out]; exact seg_info
                have I2 : Hid ((#[.int .u64 0, .int .u64 0, .int .i64 0, .slice none 0 0] : Array Value).size = RW.size) := by unfold Hid; rw [HRW.out]; exact seg_same
                have I3 : Hid (RW.all (·.oneCell') = true) := by unfold Hid; rw [HRW.out]; exact seg_ones
                clear s1 s2 s3 s4
                have HEND : Hid ((FF = none ∧ (∀ j, j < L.length → meetB (BitVec.ofNat 64 PT.a) (BitVec.ofNat 64 PT.s) (sg L j).a (sg L j).s = false) ∧ ∃ u, Ending.returned (.agg RW) = .returned (.agg (ptc PT u)) ∧ (W11.setRow (w.heap.size + 1) RW).ownsRow w.heap.size 5 1 u PT.n (bv ((b.drop PT.p).take PT.n)) ∧ Below w.heap.size w (W11.setRow (w.heap.size + 1) RW))
      ∨ (∃ F, FF = some F ∧ Pan w F (Ending.returned (.agg RW)) (W11.setRow (w.heap.size + 1) RW))
      ∨ (FF = none ∧ (∃ j, j < L.length ∧ meetB (BitVec.ofNat 64 PT.a) (BitVec.ofNat 64 PT.s) (sg L j).a (sg L j).s = true) ∧ Pan w (h + 24, 24) (Ending.returned (.agg RW)) (W11.setRow (w.heap.size + 1) RW))) := by
                  unfold Hid
                  refine .inl ⟨HE.out, by rw [HP.out]; exact hno.out, .slice um uk uc, by rw [HP.out, HRW.out]; unfold ptc; rw [← nat64 lA, ← nat64 lS], ?_, below_rowI S3.out (by omega) _⟩
                  rw [HP.out]
                  refine own_ge HO.out (Nat.le_trans HBL.out.size H9.out.size) (fun k hk => ?_)
                  rw [setRow_other _ _ _ _ (by have := H9.out.size; rw [hsz.out] at this; omega)]
                  exact S4.out k hk
                go_wp2_with (first | (refine wpList_load_row (by rfl) _ _ (by rfl) _ (by rfl) 42 _ (0, 0) _ S1.out Tryz.underlying42 (by rfl) I1.out ?_) | (refine store_rowI (by rfl) 42 (.tmp 6) (.tmp 81) (by rfl) (by rfl) (w.heap.size + 1) _ RW (by rfl) (by rfl) S2.out I1.out I2.out I3.out ?_; refine wpList_nil ?_; apply_assumption; refine wp_ret ?_; refine bodyPost_ret (v := .agg RW) (results_cell_row Tryz.results50 _ _ (w.heap.size + 1) 42 _ (0, 0) _ (by rfl) (setRow_heap _ _ _ _ _ _ S2.out) Tryz.underlying42 (by rfl) I1.out) rfl ?_; exact HEND.out))
        · have HE : Hid (FF = some (h + 8, 20)) := by unfold Hid; rw [HF.out, if_neg HG1.out, if_neg HG2.out, if_pos hrm]
          have c8f : Hid (∀ wx, Below W1.heap.size W1 wx → ∀ pI : Int, pI = ((h + 8 : Nat) : Int) → Calls Tryz.prog 48 #[.agg #[.slice a b.length cap], .int .i64 pI, .int .u64 (N3 : Int)] wx fun e w' => Pan wx (h + 8, 20) e w') := fun wx hx pI hpI => (c8.out wx hx pI hpI).mono fun e w' hq => hq.elim (fun h1 => absurd h1.1 hrm) (fun h1 => h1.2)
          clear c8 hrm
          go_wp2_with (go_at_call 48; refine (c8f.out _ H5.out _ (by first | omega | (rw [IntKind.wrap_i64]; omega))).mono ?_; rintro e w9 ⟨g, rfl, p2, p3, p4⟩)
          exact ⟨rfl, .inr (.inl ⟨_, HE.out, Pan.later (HBL.out.trans (H5.out.mono HBL.out.size)) ⟨g, rfl, p2, p3, p4⟩⟩)⟩
end Go.Proofs.YtopddflnahfomaaGreatDoor
