import Derived.Test.YtddlmenfcbjoaaaGreatDoorK02
import Derived.Test.YtddlmenfcbjoaaaGreatDoorK14
import Derived.Test.YtddlmenfcbjoaaaGreatDoorK29
import Derived.Laws.EntriesVeiled
import Derived.Test.YtddlmenfcbjoaaaGreatDoorK13
import Derived.Maps.Own
import Derived.Maps.OwnSet
import Derived.Maps.Views
import Derived.Deep.Cut
namespace Go.Proofs.YtddlmenfcbjoaaaGreatDoor
set_option linter.unusedVariables false
set_option maxRecDepth 100000
set_option maxHeartbeats 8000000
open Go.ChangeShapes Go.WideShapes Go.ChangeAt Go.RowKit Go.Deep _root_.Go.Proofs.Tryz
def rgv (r t : Nat) (x : Value) : Value := .agg #[.func (.func r) #[x] #[], .func (.func t) #[x] #[]]
theorem jZ : (prog.info? 102).map (·.size) = some 2 := by kernel_rfl
theorem DZ (n : Int) (w : World) : Calls prog 83 #[.int .u64 n] w fun e w' => e = .returned (rgv 117 118 (.int .u64 n)) ∧ Below w.heap.size w w' := by
 go_enter func83, ntmps83
 go_wp2
 refine ZqH (v := rgv 117 118 (.int .u64 n)) ?_ rfl ⟨rfl, ?_⟩
 ·exact ZqM results83 _ _ (w.heap.size) 102 _ (0, 0) _ (by rfl) (heap_alloc_new w _) underlying102 (by rfl) jZ
 ·exact (ZqD _ _).alloc (ZqE _) _
theorem wQ (p : Addr) (w : World) : Calls prog 82 #[.agg #[.pointer (some p)]] w fun e w' => e = .returned (rgv 115 116 (.agg #[.pointer (some p)])) ∧ Below w.heap.size w w' := by
 go_enter func82, ntmps82
 go_wp2
 refine ZqH (v := rgv 115 116 (.agg #[.pointer (some p)])) ?_ rfl ⟨rfl, ?_⟩
 ·exact ZqM results82 _ _ (w.heap.size + 1) 102 _ (0, 0) _ (by rfl) (by simpa using heap_alloc_new (w.alloc _) _) underlying102 (by rfl) jZ
 ·exact ((ZqD _ _).alloc (ZqE _) _).alloc (by simp) _
theorem EF (p : Addr) (n : Int) (w : World) : Calls prog 84 #[.agg #[.pointer (some p), .int .u64 n]] w fun e w' => e = .returned (rgv 119 120 (.agg #[.pointer (some p), .int .u64 n])) ∧ Below w.heap.size w w' := by
 go_enter func84, ntmps84
 go_wp2
 refine ZqH (v := rgv 119 120 (.agg #[.pointer (some p), .int .u64 n])) ?_ rfl ⟨rfl, ?_⟩
 ·exact ZqM results84 _ _ (w.heap.size + 1) 102 _ (0, 0) _ (by rfl) (by simpa using heap_alloc_new (w.alloc _) _) underlying102 (by rfl) jZ
 ·exact ((ZqD _ _).alloc (ZqE _) _).alloc (by simp) _
theorem vF (p : Addr) (n : Int) (w : World) : Calls prog 85 #[.agg #[.pointer (some p), .int .i64 n]] w fun e w' => e = .returned (rgv 121 122 (.agg #[.pointer (some p), .int .i64 n])) ∧ Below w.heap.size w w' := by
 go_enter func85, ntmps85
 go_wp2
 refine ZqH (v := rgv 121 122 (.agg #[.pointer (some p), .int .i64 n])) ?_ rfl ⟨rfl, ?_⟩
 ·exact ZqM results85 _ _ (w.heap.size + 1) 102 _ (0, 0) _ (by rfl) (by simpa using heap_alloc_new (w.alloc _) _) underlying102 (by rfl) jZ
 ·exact ((ZqD _ _).alloc (ZqE _) _).alloc (by simp) _
theorem tE (p : Addr) (n : Int) (w : World) : Calls prog 86 #[.agg #[.pointer (some p), .int .i64 n]] w fun e w' => e = .returned (rgv 123 124 (.agg #[.pointer (some p), .int .i64 n])) ∧ Below w.heap.size w w' := by
 go_enter func86, ntmps86
 go_wp2
 refine ZqH (v := rgv 123 124 (.agg #[.pointer (some p), .int .i64 n])) ?_ rfl ⟨rfl, ?_⟩
 ·exact ZqM results86 _ _ (w.heap.size + 1) 102 _ (0, 0) _ (by rfl) (by simpa using heap_alloc_new (w.alloc _) _) underlying102 (by rfl) jZ
 ·exact ((ZqD _ _).alloc (ZqE _) _).alloc (by simp) _
def sxc (k : Cp) (m t : BitVec 64) : Array Value := cpc k ++ #[.int .u64 (n64 m), .int .u64 (n64 t)]
theorem dK (k : Cp) (m t : BitVec 64) : (sxc k m t).size = 84 := by simp [sxc, aE]
theorem jO (k : Cp) (m t : BitVec 64) : (sxc k m t).all (·.oneCell') = true := by
 rw [sxc, Array.all_append, aO]; simp [Value.oneCell']
theorem IM (cs d : Array Value) (o : Nat) (l : List Value) (h : o + l.length ≤ cs.size) : gQ (cs ++ d) o l = gQ cs o l ++ d := by
 apply Array.ext_getElem?
 intro j
 rw [lP _ _ _ _ (by simp; omega), Array.getElem?_append, Array.getElem?_append, IN, lP _ _ _ _ h]
 by_cases h1 : o ≤ j ∧ j < o + l.length
 ·rw [if_pos h1, if_pos (by omega), if_pos h1]
 ·rw [if_neg h1, if_neg h1]
theorem BK (k k' : Cp) (m t : BitVec 64) (o : Nat) (l : List Value) (h : o + l.length ≤ 82) (e : gQ (cpc k) o l = cpc k') : gQ (sxc k m t) o l = sxc k' m t := by
 rw [sxc, IM _ _ _ _ (by rw [aE]; exact h), e]; rfl
theorem stc_s (k : Cp) (m t : BitVec 64) (i : Nat) (hi : i < 12) (v : BitVec 64) : (sxc k m t).setIfInBounds (35 + i) (.int .u64 (n64 v)) = sxc { k with s := upd k.s i v } m t :=
 by have e := BK k { k with s := upd k.s i v } m t (35 + i) [.int .u64 (n64 v)] (by simp; omega) (by rw [gQ, gQ]; exact mQ k i hi v); rwa [gQ, gQ] at e
theorem RO (k : Cp) (m t : BitVec 64) (c : Nat → BitVec 8) (a : Nat → BitVec 64) : gQ (sxc k m t) 47 (pc c a).toList = sxc { k with c := c, a := a } m t :=
 BK k _ m t 47 _ (by rw [Array.length_toList, bK]; omega) (tJ k c a)
theorem Row.sxc {w : World} {g : Nat} {k : Cp} {m t : BitVec 64} {T : TypeId} (h : Row w g (sxc k m t) T) : At w g 0 k ∧ w.cell? ⟨g, 82, none⟩ = some (.int .u64 (n64 m)) ∧ w.cell? ⟨g, 83, none⟩ = some (.int .u64 (n64 t)) := by
 have q : ∀ j, 82 ≤ j → w.cell? ⟨g, j, none⟩ = #[Value.int .u64 (n64 m), .int .u64 (n64 t)][j - 82]? := fun j hj => by
  rw [h.cell]; unfold Go.Proofs.YtddlmenfcbjoaaaGreatDoor.sxc; rw [Array.getElem?_append_right (by rw [aE]; exact hj), aE]
 refine ⟨fun j hj => ?_, q 82 (by omega), q 83 (by omega)⟩
 rw [h.cell, ZqU]; unfold Go.Proofs.YtddlmenfcbjoaaaGreatDoor.sxc; rw [Array.getElem?_append_left (by rw [aE]; exact hj), bG _ _ hj]
def Sr (w : World) (g : Nat) (k : Cp) (m t : BitVec 64) : Prop := Row w g (Go.Proofs.YtddlmenfcbjoaaaGreatDoor.sxc k m t) 99
theorem Sr.lt {w : World} {g : Nat} {k : Cp} {m t : BitVec 64} (h : Sr w g k m t) : g < w.heap.size := Row.lt h
theorem Sr.s {w : World} {g : Nat} {k : Cp} {m t : BitVec 64} (h : Sr w g k m t) (i : Nat) (hi : i < 12) : w.cell? ⟨g, 35 + i, none⟩ = some (.int .u64 (n64 (k.s i))) := by
 have := (Row.sxc h).1 (35 + i) (by omega)
 rwa [ZqU, mR _ _ hi] at this
theorem Sr.a {w : World} {g : Nat} {k : Cp} {m t : BitVec 64} (h : Sr w g k m t) (i : Nat) (hi : i < 16) : w.cell? ⟨g, 63 + i, none⟩ = some (.int .u64 (n64 (k.a i))) := by
 have := (Row.sxc h).1 (47 + (16 + i)) (by omega)
 rwa [ZqU, gP _ _ (by omega), eF, if_neg (by omega), Nat.add_sub_cancel_left, ← Nat.add_assoc] at this
theorem Sr.p {w : World} {g : Nat} {k : Cp} {m t : BitVec 64} (h : Sr w g k m t) : ∀ j v, (pc k.c k.a)[j]? = some v → w.cell? ⟨g, 47 + j, none⟩ = some v := fun j v hv => by
 have := (Row.sxc h).1.pmp j v hv
 rwa [ZqU] at this
theorem Sr.later {w w' : World} {B g : Nat} {k : Cp} {m t : BitVec 64} (h : Sr w g k m t) (b : Below B w w') (hg : g < B) : Sr w' g k m t := Row.later h b hg
theorem Sr.old {w : World} {g : Nat} {k : Cp} {m t : BitVec 64} (h : Sr w g k m t) (o : Obj) : Sr (w.alloc o) g k m t := Row.old h h.lt o
theorem Sr.put {w : World} {g : Nat} {k : Cp} {m t : BitVec 64} (h : Sr w g k m t) (i : Nat) (hi : i < 12) (v : BitVec 64) : Sr (w.setCell ⟨g, 35 + i, none⟩ (.int .u64 (n64 v))) g { k with s := upd k.s i v } m t := by
 have := Row.put (i := 35 + i) h (.int .u64 (n64 v))
 rwa [stc_s _ _ _ _ hi] at this
theorem Sr.lay {w : World} {g : Nat} {k : Cp} {m t : BitVec 64} (h : Sr w g k m t) (c : Nat → BitVec 8) (a : Nat → BitVec 64) : Sr (w.setCells g 47 (pc c a).toList) g { k with c := c, a := a } m t := by
 have := Row.lay (pc c a).toList 47 h
 rwa [RO] at this
theorem yY (n : Int) (w : World) : Calls prog 117 #[.int .u64 n] w fun e w' => e = .returned (.int .u64 n) ∧ Below w.heap.size w w' := by
 go_enter func117, ntmps117
 go_wp2
 go_ret
 exact ⟨rfl, ZqD _ _⟩
theorem wU (n v : Int) (w : World) : Calls prog 118 #[.int .u64 n, .int .u64 v] w fun e w' => e = .returned (.tuple #[]) ∧ Below w.heap.size w w' := by
 go_enter func118, ntmps118
 go_wp2
 go_end0
 exact ⟨rfl, ZqD _ _⟩
theorem dL (g o : Nat) (n x : Int) (w : World) (hg : g < w.heap.size) (hc : w.cell? ⟨g, o, none⟩ = some (.int .u64 x)) : Calls prog 119 #[.agg #[.pointer (some ⟨g, o, none⟩), .int .u64 n]] w fun e w' => e = .returned (.int .u64 x) ∧ Below w.heap.size w w' := by
 have n1 : ¬ g = w.heap.size := by omega
 have n2 : ¬ w.heap.size = g := by omega
 go_enter func119, ntmps119
 go_wp2
 go_ret
 exact ⟨rfl, (ZqD _ _).alloc (ZqE _) _⟩
theorem uF (g o : Nat) (n x : Int) (w : World) (hg : g < w.heap.size) (hc : w.cell? ⟨g, o, none⟩ = some (.int .u64 x)) : Calls prog 115 #[.agg #[.pointer (some ⟨g, o, none⟩)]] w fun e w' => e = .returned (.int .u64 x) ∧ Below w.heap.size w w' := by
 have n1 : ¬ g = w.heap.size := by omega
 have n2 : ¬ w.heap.size = g := by omega
 go_enter func115, ntmps115
 go_wp2
 go_ret
 exact ⟨rfl, (ZqD _ _).alloc (ZqE _) _⟩
theorem cY (g i : Nat) (hi : i < 12) (n v : BitVec 64) (k : Cp) (m t : BitVec 64) (w : World) (h : Sr w g k m t) : Calls prog 120 #[.agg #[.pointer (some ⟨g, 35 + i, none⟩), .int .u64 (n64 n)], .int .u64 (n64 v)] w fun e w' => e = .returned (.tuple #[]) ∧ Sr w' g { k with s := upd k.s i (v &&& n) } m t ∧ Below g w w' := by
 obtain ⟨W0, hW0, r0, b0, s0⟩ := cT w #[.pointer (some ⟨g, 35 + i, none⟩), .int .u64 (n64 n)] 150
 have H1 : Hid (Sr W0 g k m t) := by unfold Hid; rw [← hW0]; exact h.old _
 have hlt : Hid (g < w.heap.size) := h.lt
 have hf := Row.froz H1.out (35 + i)
 have hcc := H1.out.s i hi
 have c0 : W0.cell? ⟨w.heap.size, 0, none⟩ = some (.pointer (some ⟨g, 35 + i, none⟩)) := r0.out.cell 0
 have c1 : W0.cell? ⟨w.heap.size, 1, none⟩ = some (.int .u64 (n64 n)) := r0.out.cell 1
 have b1 : bits .and .u64 (n64 v) (n64 n) = n64 (v &&& n) := cQ v n
 have HE : Hid (Sr (W0.setCell ⟨g, 35 + i, none⟩ (.int .u64 (n64 (v &&& n)))) g { k with s := upd k.s i (v &&& n) } m t) := H1.out.put i hi _
 generalize v &&& n = z at b1 HE ⊢
 generalize 35 + i = o at *
 clear s0 r0 h
 go_enter func120, ntmps120
 go_upto_region 1 with fail
 clear hW0
 go_wp2
 go_end0
 exact ⟨rfl, HE.out, aM (b0.out.mono (Nat.le_of_lt hlt.out)) (ZqE _) _⟩
theorem UV (x : BitVec 64) : bfB x <<< 11 &&& 6144#64 = x &&& 6144#64 := by unfold bfB; rw [← NN, BitVec.and_assoc, BitVec.and_self]
theorem rR (g : Nat) (v : BitVec 64) (k : Cp) (m t : BitVec 64) (w : World) (h : Sr w g k m t) : Calls prog 116 #[.agg #[.pointer (some ⟨g, 35, none⟩)], .int .u64 (n64 v)] w fun e w' => e = .returned (.tuple #[]) ∧ Sr w' g { k with s := upd k.s 0 (stB (stW (k.s 0) v)) } m t ∧ Below g w w' := by
 obtain ⟨W0, hW0, r0, b0, s0⟩ := cT w #[.pointer (some ⟨g, 35, none⟩)] 146
 have H1 : Hid (Sr W0 g k m t) := by unfold Hid; rw [← hW0]; exact h.old _
 have hlt : Hid (g < w.heap.size) := h.lt
 have hg0 : Hid (g < W0.heap.size) := by unfold Hid; have := h.lt; omega
 have hw0 : Hid (w.heap.size < W0.heap.size) := by unfold Hid; omega
 have hcc : W0.cell? ⟨g, 35, none⟩ = some (.int .u64 (n64 (k.s 0))) := H1.out.s 0 (by omega)
 have c0 : W0.cell? ⟨w.heap.size, 0, none⟩ = some (.pointer (some ⟨g, 35, none⟩)) := r0.out.cell 0
 have HN : Hid (∀ W, Calls prog 40 #[.int .u64 (n64 v)] W fun e w' => e = .returned (.bool (nm v)) ∧ w' = W) := oB v
 have HS : Hid (∀ x W, Calls prog 25 #[.int .u64 (n64 x)] W fun e w' => e = .returned (.int .u64 (n64 (stB x))) ∧ w' = W) := fun x W => kZ x W
 have := aS W0
 clear s0 r0 h
 unfold stW
 by_cases hq : mq v
 ·rw [if_pos hq]
  rw [show nm v = false by simp [nm, hq]] at HN
  have HB : Hid (∀ W, Calls prog 56 #[.int .u64 (n64 (k.s 0))] W fun e w' => e = .returned (.int .i64 (n64 (bfB (k.s 0)))) ∧ w' = W) := kT (k.s 0)
  have HB2 : Hid (∀ W, Calls prog 149 #[.int .u64 (n64 v), .int .i64 (n64 (bfB (k.s 0)))] W fun e w' => e = .returned (.int .u64 (n64 (v &&& ~~~6144#64 ||| k.s 0 &&& 6144#64))) ∧ w' = W) := fun W => by have q := kL v (bfB (k.s 0)) (TD _) W; rw [UV] at q; exact q
  clear hq
  generalize v &&& ~~~6144#64 ||| k.s 0 &&& 6144#64 = z at HB2 ⊢
  generalize n64 (bfB (k.s 0)) = z1 at HB HB2
  go_enter func116, ntmps116
  go_upto_region 1 with fail
  clear hW0
  go_upto_region 3 with (first | (go_at_call 40; refine (HN.out _).mono ?_; rintro e w1 ⟨rfl, hw1⟩; have hw2 := hw1.symm; subst hw2) | (go_at_call 56; refine (HB.out _).mono ?_; rintro e w1 ⟨rfl, hw1⟩; have hw2 := hw1.symm; subst hw2) | (go_at_call 149; refine (HB2.out _).mono ?_; rintro e w1 ⟨rfl, hw1⟩; have hw2 := hw1.symm; subst hw2))
  have L0 : ∀ x : bB W0, x.1.cell? ⟨w.heap.size, 0, none⟩ = some (.pointer (some ⟨g, 35, none⟩)) := cG hw0.out c0
  clear hcc c0 HN
  refine aQ (x0 := bB.start W0) 5 (by kernel_rfl) (by kernel_rfl) ?_
  simp only [List.take_succ_cons, List.take_zero, List.drop_succ_cons, List.drop_zero]
  repeat (go_big_quiet_step (first | (go_at_call 25; exact bL (HS.out _ _))))
  refine wpQuiet_nil ?_
  rintro w' ⟨x9, rfl⟩
  have H9 : Hid (Sr x9.1 g k m t) := H1.out.later x9.below hg0.out
  have hf := Row.froz H9.out 35
  have hcc : x9.1.cell? ⟨g, 35, none⟩ = some (.int .u64 (n64 (k.s 0))) := H9.out.s 0 (by omega)
  go_wp2
  go_end0
  exact ⟨rfl, H9.out.put 0 (by omega) _, aM ((b0.out.mono (Nat.le_of_lt hlt.out)).trans (x9.below.mono (Nat.le_of_lt hg0.out))) (ZqE _) _⟩
 ·rw [if_neg hq]
  rw [show nm v = true by simp [nm, hq]] at HN
  clear hq
  obtain ⟨z, hz⟩ : ∃ z, z = v := ⟨_, rfl⟩
  go_enter func116, ntmps116
  go_upto_region 1 with fail
  clear hW0
  go_upto_region 3 with (go_at_call 40; refine (HN.out _).mono ?_; rintro e w1 ⟨rfl, hw1⟩; have hw2 := hw1.symm; subst hw2)
  subst hz
  have L0 : ∀ x : bB W0, x.1.cell? ⟨w.heap.size, 0, none⟩ = some (.pointer (some ⟨g, 35, none⟩)) := cG hw0.out c0
  clear hcc c0 HN
  refine aQ (x0 := bB.start W0) 5 (by kernel_rfl) (by kernel_rfl) ?_
  simp only [List.take_succ_cons, List.take_zero, List.drop_succ_cons, List.drop_zero]
  repeat (go_big_quiet_step (first | (go_at_call 25; exact bL (HS.out _ _))))
  refine wpQuiet_nil ?_
  rintro w' ⟨x9, rfl⟩
  have H9 : Hid (Sr x9.1 g k m t) := H1.out.later x9.below hg0.out
  have hf := Row.froz H9.out 35
  have hcc : x9.1.cell? ⟨g, 35, none⟩ = some (.int .u64 (n64 (k.s 0))) := H9.out.s 0 (by omega)
  go_wp2
  go_end0
  exact ⟨rfl, H9.out.put 0 (by omega) _, aM ((b0.out.mono (Nat.le_of_lt hlt.out)).trans (x9.below.mono (Nat.le_of_lt hg0.out))) (ZqE _) _⟩
theorem mP (g : Nat) (n : Int) (k : Cp) (m t : BitVec 64) (w : World) (h : Sr w g k m t) : Calls prog 121 #[.agg #[.pointer (some ⟨g, 47, none⟩), .int .i64 n]] w fun e w' => e = .returned (.int .u64 (pO (PC k.c) n)) ∧ Below w.heap.size w w' := by
 obtain ⟨W0, hW0, r0, b0, s0⟩ := cT w #[.pointer (some ⟨g, 47, none⟩), .int .i64 n] 153
 have H1 : Hid (Sr W0 g k m t) := by unfold Hid; rw [← hW0]; exact h.old _
 have hlt : Hid (g < w.heap.size) := h.lt
 have hg0 : Hid (g < W0.heap.size) := by unfold Hid; have := h.lt; omega
 have hw0 : Hid (w.heap.size < W0.heap.size) := by unfold Hid; omega
 have := aS W0
 have L0 : ∀ x : bB W0, x.1.cell? ⟨w.heap.size, 0, none⟩ = some (.pointer (some ⟨g, 47, none⟩)) := cG hw0.out (r0.out.cell 0)
 have L1 : ∀ x : bB W0, x.1.cell? ⟨w.heap.size, 1, none⟩ = some (.int .i64 n) := cG hw0.out (r0.out.cell 1)
 have HL : Hid (∀ j v, (pc k.c k.a)[j]? = some v → W0.cell? ⟨g, 47 + j, none⟩ = some v) := H1.out.p
 have HC : Hid (∀ W, Calls prog 150 #[.agg (pc k.c k.a), .int .i64 n] W fun e w' => e = .returned (.int .u64 (pO (PC k.c) n)) ∧ Below W.heap.size W w') := Cfg_c k.c k.a n
 generalize pO (PC k.c) n = z at HC ⊢
 clear s0 r0 h
 go_enter func121, ntmps121
 go_upto_region 1 with fail
 clear hW0
 refine bN (x0 := bB.start W0) (by kernel_rfl) (by kernel_rfl) ?_
 repeat (first | (refine ZqN (by rfl) fun K hK => ?_; refine bD 27 _ (by rfl) g 47 (by rfl) (pc k.c k.a) _ hg0.out HL.out underlying27 (by rfl) (dU _ _) (hK _ ?_); clear hK K; simp only [Act.put, ZqA, ZqC, ZqB]) | (go_big_quiet_step (first | (go_at_call 150; exact bJ (HC.out _)))))
 refine wpQuiet_nil ?_
 rintro w' ⟨x9, rfl⟩
 go_wp2
 go_ret
 exact ⟨rfl, b0.out.trans (x9.below.mono (Nat.le_of_lt hw0.out))⟩
theorem lW (g : Nat) (n : Int) (v : BitVec 64) (k : Cp) (m t : BitVec 64) (w : World) (h : Sr w g k m t) : Calls prog 122 #[.agg #[.pointer (some ⟨g, 47, none⟩), .int .i64 n], .int .u64 (n64 v)] w fun e w' => e = .returned (.tuple #[]) ∧ Sr w' g { k with c := sR (PC k.c) n v, a := PA k.a } m t ∧ Below g w w' := by
 obtain ⟨W0, hW0, r0, b0, s0⟩ := cT w #[.pointer (some ⟨g, 47, none⟩), .int .i64 n] 153
 have H1 : Hid (Sr W0 g k m t) := by unfold Hid; rw [← hW0]; exact h.old _
 have hlt : Hid (g < w.heap.size) := h.lt
 have hg0 : Hid (g < W0.heap.size) := by unfold Hid; have := h.lt; omega
 have hw0 : Hid (w.heap.size < W0.heap.size) := by unfold Hid; omega
 have := aS W0
 have L0 : ∀ x : bB W0, x.1.cell? ⟨w.heap.size, 0, none⟩ = some (.pointer (some ⟨g, 47, none⟩)) := cG hw0.out (r0.out.cell 0)
 have L1 : ∀ x : bB W0, x.1.cell? ⟨w.heap.size, 1, none⟩ = some (.int .i64 n) := cG hw0.out (r0.out.cell 1)
 have HL : Hid (∀ j v, (pc k.c k.a)[j]? = some v → W0.cell? ⟨g, 47 + j, none⟩ = some v) := H1.out.p
 have HC : Hid (∀ W, Calls prog 151 #[.agg (pc k.c k.a), .int .i64 n, .int .u64 (n64 v)] W fun e w' => e = .returned (.agg (pc (sR (PC k.c) n v) (PA k.a))) ∧ Below W.heap.size W w') := ER k.c k.a n v
 generalize PA k.a = A9 at HC ⊢
 generalize sR (PC k.c) n v = C9 at HC ⊢
 clear s0 r0 h
 go_enter func122, ntmps122
 go_upto_region 1 with fail
 clear hW0
 refine aQ (x0 := bB.start W0) 11 (by kernel_rfl) (by kernel_rfl) ?_
 simp only [List.take_succ_cons, List.take_zero, List.drop_succ_cons, List.drop_zero]
 repeat (first | (refine ZqN (by rfl) fun K hK => ?_; refine bD 27 _ (by rfl) g 47 (by rfl) (pc k.c k.a) _ hg0.out HL.out underlying27 (by rfl) (dU _ _) (hK _ ?_); clear hK K; simp only [Act.put, ZqA, ZqC, ZqB]) | (go_big_quiet_step (first | (go_at_call 151; exact bJ (HC.out _)))))
 refine wpQuiet_nil ?_
 rintro w' ⟨x9, rfl⟩
 have H9 : Hid (Sr x9.1 g k m t) := H1.out.later x9.below hg0.out
 clear L0 L1 HL HC
 refine aX (by rfl) 27 _ _ (by rfl) (by rfl) g 47 (pc C9 A9) (by rfl) (by rfl) (Row.there H9.out (by rw [dK, bK]; omega)) (dU _ _) (gN _ _) ?_
 refine jB (motive := fun W => wpList _ _ _ _ _ W) (Q := fun W => Sr W g { k with c := C9, a := A9 } m t ∧ Below g w W) ⟨H9.out.lay C9 A9, cZ (ZqE _) _ _ ((b0.out.mono (Nat.le_of_lt hlt.out)).trans (x9.below.mono (Nat.le_of_lt hg0.out)))⟩ ?_
 clear H9
 rintro W9 ⟨q1, q2⟩
 have Q1 := hid q1
 have Q2 := hid q2
 clear q1 q2
 go_wp2
 go_end0
 exact ⟨rfl, Q1.out, Q2.out⟩
theorem pK (g : Nat) (n : Int) (v : BitVec 64) (k : Cp) (m t : BitVec 64) (w : World) (h : Sr w g k m t) : Calls prog 124 #[.agg #[.pointer (some ⟨g, 47, none⟩), .int .i64 n], .int .u64 (n64 v)] w fun e w' => e = .returned (.tuple #[]) ∧ Sr w' g { k with c := PC k.c, a := sA (PC k.c) (PA k.a) n v } m t ∧ Below g w w' := by
 obtain ⟨W0, hW0, r0, b0, s0⟩ := cT w #[.pointer (some ⟨g, 47, none⟩), .int .i64 n] 155
 have H1 : Hid (Sr W0 g k m t) := by unfold Hid; rw [← hW0]; exact h.old _
 have hlt : Hid (g < w.heap.size) := h.lt
 have hg0 : Hid (g < W0.heap.size) := by unfold Hid; have := h.lt; omega
 have hw0 : Hid (w.heap.size < W0.heap.size) := by unfold Hid; omega
 have := aS W0
 have L0 : ∀ x : bB W0, x.1.cell? ⟨w.heap.size, 0, none⟩ = some (.pointer (some ⟨g, 47, none⟩)) := cG hw0.out (r0.out.cell 0)
 have L1 : ∀ x : bB W0, x.1.cell? ⟨w.heap.size, 1, none⟩ = some (.int .i64 n) := cG hw0.out (r0.out.cell 1)
 have HL : Hid (∀ j v, (pc k.c k.a)[j]? = some v → W0.cell? ⟨g, 47 + j, none⟩ = some v) := H1.out.p
 have HC : Hid (∀ W, Calls prog 152 #[.agg (pc k.c k.a), .int .i64 n, .int .u64 (n64 v)] W fun e w' => e = .returned (.agg (pc (PC k.c) (sA (PC k.c) (PA k.a) n v))) ∧ Below W.heap.size W w') := BW k.c k.a n v
 generalize sA (PC k.c) (PA k.a) n v = A9 at HC ⊢
 generalize PC k.c = C9 at HC ⊢
 clear s0 r0 h
 go_enter func124, ntmps124
 go_upto_region 1 with fail
 clear hW0
 refine aQ (x0 := bB.start W0) 11 (by kernel_rfl) (by kernel_rfl) ?_
 simp only [List.take_succ_cons, List.take_zero, List.drop_succ_cons, List.drop_zero]
 repeat (first | (refine ZqN (by rfl) fun K hK => ?_; refine bD 27 _ (by rfl) g 47 (by rfl) (pc k.c k.a) _ hg0.out HL.out underlying27 (by rfl) (dU _ _) (hK _ ?_); clear hK K; simp only [Act.put, ZqA, ZqC, ZqB]) | (go_big_quiet_step (first | (go_at_call 152; exact bJ (HC.out _)))))
 refine wpQuiet_nil ?_
 rintro w' ⟨x9, rfl⟩
 have H9 : Hid (Sr x9.1 g k m t) := H1.out.later x9.below hg0.out
 clear L0 L1 HL HC
 refine aX (by rfl) 27 _ _ (by rfl) (by rfl) g 47 (pc C9 A9) (by rfl) (by rfl) (Row.there H9.out (by rw [dK, bK]; omega)) (dU _ _) (gN _ _) ?_
 refine jB (motive := fun W => wpList _ _ _ _ _ W) (Q := fun W => Sr W g { k with c := C9, a := A9 } m t ∧ Below g w W) ⟨H9.out.lay C9 A9, cZ (ZqE _) _ _ ((b0.out.mono (Nat.le_of_lt hlt.out)).trans (x9.below.mono (Nat.le_of_lt hg0.out)))⟩ ?_
 clear H9
 rintro W9 ⟨q1, q2⟩
 have Q1 := hid q1
 have Q2 := hid q2
 clear q1 q2
 go_wp2
 go_end0
 exact ⟨rfl, Q1.out, Q2.out⟩
theorem rO (g i : Nat) (hi : i < 16) (k : Cp) (m t : BitVec 64) (w : World) (h : Sr w g k m t) : Calls prog 123 #[.agg #[.pointer (some ⟨g, 47, none⟩), .int .i64 (i : Int)]] w fun e w' => e = .returned (.int .u64 (n64 (k.a i))) ∧ Below w.heap.size w w' := by
 obtain ⟨n, hn⟩ : ∃ n : Int, n = (i : Int) := ⟨_, rfl⟩
 rw [← hn]
 have hn1 : 0 ≤ n := by omega
 have hn2 : n < 16 := by omega
 obtain ⟨W0, hW0, r0, b0, s0⟩ := cT w #[.pointer (some ⟨g, 47, none⟩), .int .i64 n] 155
 have H1 : Hid (Sr W0 g k m t) := by unfold Hid; rw [← hW0]; exact h.old _
 have hlt : Hid (g < w.heap.size) := h.lt
 have hg0 : Hid (g < W0.heap.size) := by unfold Hid; have := h.lt; omega
 have hw0 : Hid (w.heap.size < W0.heap.size) := by unfold Hid; omega
 have := aS W0
 have L0 : ∀ x : bB W0, x.1.cell? ⟨w.heap.size, 0, none⟩ = some (.pointer (some ⟨g, 47, none⟩)) := cG hw0.out (r0.out.cell 0)
 have L1 : ∀ x : bB W0, x.1.cell? ⟨w.heap.size, 1, none⟩ = some (.int .i64 n) := cG hw0.out (r0.out.cell 1)
 have L2 : ∀ x : bB W0, x.1.cell? ⟨g, 63 + i, none⟩ = some (.int .u64 (n64 (k.a i))) := cG hg0.out (H1.out.a i hi)
 generalize k.a i = z at L2 ⊢
 clear s0 r0 h
 subst hn
 go_enter func123, ntmps123
 go_upto_region 1 with fail
 clear hW0
 refine bN (x0 := bB.start W0) (by kernel_rfl) (by kernel_rfl) ?_
 repeat (go_big_quiet_step (fail))
 refine wpQuiet_nil ?_
 rintro w' ⟨x9, rfl⟩
 go_wp2
 go_ret
 exact ⟨rfl, b0.out.trans (x9.below.mono (Nat.le_of_lt hw0.out))⟩
open Go.ChangeMaps Go.MapKept
def rdV (v : Value) : Option (DataW Value × List MemPlace) := some (.held v, [])
def rg0 : Value := .agg #[.nilFunc, .nilFunc]
def eK (T : Int → Option Value) (n : Int) (v : Value) : Int → Option Value := fun q => if q = n then some v else T q
def Mq (T : Int → Option Value) (b n : Nat) (w : World) : Prop :=
 ∃ D, w.ownsMap prog 3 rdV b n D ∧ ∀ q, (Lit.int .i64 q).wf = true → Maps.has D (.int .i64 q) = (T q).isSome ∧ D.atKey (.int .i64 q) (.held rg0) = .held ((T q).getD rg0)
theorem Mq.made (w : World) : Mq (fun _ => none) w.heap.size 0 (w.alloc (.map #[] 0)) := ⟨_, World.ownsMap_made w _ _ _, fun q _ => ⟨rfl, rfl⟩⟩
theorem Mq.update {T : Int → Option Value} {b n : Nat} {w : World} (h : Mq T b n w) (hn : n < 100000) (op : Int) (v : Value) (hop : (Lit.int .i64 op).wf = true) :
  ∃ w', (Instr.mapUpdate 104 (.map (some b)) (.int .i64 op) v).run prog w = .ok () w' ∧ Mq (eK T op v) b (n + 1) w' ∧ w.grownBy w' (some b) := by
 have hkk : WideAt.IsKeyLit (Lit.int .i64 op) := by first | trivial | exact rfl | simp [WideAt.IsKeyLit]
 obtain ⟨D, hD, hl⟩ := h
 obtain ⟨w', hrun, h1, h2⟩ := hD.update (Maps.int_keyed underlying3) underlying104 (by unfold maxLen; omega) (Maps.keyOf_int_mk underlying3 hop) (show rdV v = some (.held v, []) from rfl)
 refine ⟨w', hrun, ⟨_, h1, fun q hq => ?_⟩, h2⟩
 unfold eK
 by_cases e : q = op
 ·subst e
  rw [if_pos rfl]
  exact ⟨Maps.has_put_same hD.isMap hkk _, Maps.atKey_put_same hD.isMap hkk _ _⟩
 ·rw [if_neg e]
  have hne : (Lit.int .i64 q) ≠ Lit.int .i64 op := fun h => e (by injection h with _ h)
  rw [Maps.has_put_other hne, Maps.atKey_put_other hne]
  exact hl q hq
theorem lB (w : World) : (zeroValue 102).run prog w = .ok rg0 w := by kernel_rfl
theorem Mq.look {T : Int → Option Value} {b n : Nat} {w : World} (h : Mq T b n w) (op : Int) (hop : (Lit.int .i64 op).wf = true) :
  (Instr.lookup 104 (.map (some b)) (.int .i64 op) true).run prog w = .ok (.tuple #[(T op).getD rg0, .bool (T op).isSome]) w := by
 obtain ⟨D, hD, hl⟩ := h
 obtain ⟨v, ps, hrun, hv⟩ := hD.look_ok (Maps.int_keyed underlying3) underlying104 (lB w) (show rdV rg0 = some (.held rg0, []) from rfl) (Maps.keyOf_int_mk underlying3 hop)
 have q := hl op hop
 rw [q.2] at hv
 rw [q.1] at hrun
 injection hv with hv
 injection hv with hv
 injection hv with hv
 rw [hrun, hv]
theorem Mq.later {T : Int → Option Value} {b n : Nat} {w w' : World} (h : Mq T b n w) (hb : Below w.heap.size w w') : Mq T b n w' := by
 obtain ⟨D, ⟨es, ck, h1, h2⟩, hl⟩ := h
 exact ⟨D, ⟨es, ck, (hb.block _ (Array.getElem?_eq_some_iff.1 h1).1).trans h1, h2⟩, hl⟩
theorem Mq.row {T : Int → Option Value} {b n : Nat} {w : World} (h : Mq T b n w) : ∃ es ck, w.heap[b]? = some (.map es ck) := by
 obtain ⟨D, ⟨es, ck, hb, _⟩, _⟩ := h
 exact ⟨es, ck, hb⟩
structure Sg (w0 : World) (g : Nat) (k : Cp) (m t : BitVec 64) (T : Int → Option Value) (b n : Nat) (w : World) : Prop where
 mp : Mq T b n w
 sr : Sr w g k m t
 be : Below w0.heap.size w0 w
 lb : w0.heap.size ≤ b
section
variable {w0 w w' : World} {g b n : Nat} {k : Cp} {m t : BitVec 64} {T : Int → Option Value}
theorem Sg.later (h : Sg w0 g k m t T b n w) (hb : Below w.heap.size w w') : Sg w0 g k m t T b n w' :=
 ⟨h.mp.later hb, h.sr.later hb h.sr.lt, h.be.trans (hb.mono h.be.size), h.lb⟩
theorem pN {b : Nat} (hg : w.grownBy w' (some b)) (hb : ∃ es ck, w.heap[b]? = some (.map es ck)) (k : Nat) (C : Array Value) (U : TypeId) (hr : w.heap[k]? = some (Obj.cells C U (0, 0))) : w'.heap[k]? = some (Obj.cells C U (0, 0)) := by
 refine (hg.block k (Array.getElem?_eq_some_iff.1 hr).1 (fun e => ?_)).trans hr
 injection e with e
 subst e
 obtain ⟨es, ck, h⟩ := hb
 rw [hr] at h
 cases h
theorem Sg.put {T' : Int → Option Value} {n' : Nat} (h : Sg w0 g k m t T b n w) (hm : Mq T' b n' w') (hg : w.grownBy w' (some b)) : Sg w0 g k m t T' b n' w' :=
 ⟨hm, pN hg h.mp.row _ _ _ h.sr, h.be.grown hg h.be.size (fun k hk => by cases hk; exact h.lb), h.lb⟩
theorem bX {ops : Array Oper} {rest : List Oper} {o : Oper} {a : Act} {Q : Exit → Act → World → Prop} (hgd : o.guard = none) (x y z : Operand) (ho : o.op = .mapUpdate 104 x y z) (hd : o.dst = none)
  (h : Sg w0 g k m t T b n w) (hn : n < 100000) (q : Int) (v : Value) (hq : (Lit.int .i64 q).wf = true) (hx : a.eval x = .map (some b)) (hy : a.eval y = .int .i64 q) (hz : a.eval z = v)
  (hK : ∀ w', Sg w0 g k m t (eK T q v) b (n + 1) w' → wpList prog ops Q rest a w') : wpList prog ops Q (o :: rest) a w := by
 refine wpList_plain hgd fun K' hK' => ?_
 obtain ⟨w', hrun, r1, r2⟩ := h.mp.update hn q v hq
 unfold Oper.wp
 simp [execOp, ho, hx, hy, hz, hrun, Result.andThen]
 refine hK' _ _ ?_
 have := hK w' (h.put r1 r2)
 simpa [Oper.upon, Act.put, hd] using this
end
theorem mkMap (w : World) : (Instr.makeMap 104 (some (.int .i64 127))).run prog w = .ok (.map (some w.heap.size)) (w.alloc (.map #[] 0)) := by first | rfl | kernel_rfl | simp [Instr.makeMap]
theorem yX (n : Int) {w0 w : World} {g b N : Nat} {k : Cp} {m t : BitVec 64} {T : Int → Option Value} (h : Sg w0 g k m t T b N w) : Calls prog 83 #[.int .u64 n] w fun e w' => e = .returned (rgv 117 118 (.int .u64 n)) ∧ Sg w0 g k m t T b N w' :=
 (DZ n w).mono fun _ _ ⟨he, hb⟩ => ⟨he, h.later hb⟩
theorem staR (p : Addr) {w0 w : World} {g b N : Nat} {k : Cp} {m t : BitVec 64} {T : Int → Option Value} (h : Sg w0 g k m t T b N w) : Calls prog 82 #[.agg #[.pointer (some p)]] w fun e w' => e = .returned (rgv 115 116 (.agg #[.pointer (some p)])) ∧ Sg w0 g k m t T b N w' :=
 (wQ p w).mono fun _ _ ⟨he, hb⟩ => ⟨he, h.later hb⟩
theorem rK (p : Addr) (n : Int) {w0 w : World} {g b N : Nat} {k : Cp} {m t : BitVec 64} {T : Int → Option Value} (h : Sg w0 g k m t T b N w) : Calls prog 84 #[.agg #[.pointer (some p), .int .u64 n]] w fun e w' => e = .returned (rgv 119 120 (.agg #[.pointer (some p), .int .u64 n])) ∧ Sg w0 g k m t T b N w' :=
 (EF p n w).mono fun _ _ ⟨he, hb⟩ => ⟨he, h.later hb⟩
theorem TF (p : Addr) (n : Int) {w0 w : World} {g b N : Nat} {k : Cp} {m t : BitVec 64} {T : Int → Option Value} (h : Sg w0 g k m t T b N w) : Calls prog 85 #[.agg #[.pointer (some p), .int .i64 n]] w fun e w' => e = .returned (rgv 121 122 (.agg #[.pointer (some p), .int .i64 n])) ∧ Sg w0 g k m t T b N w' :=
 (vF p n w).mono fun _ _ ⟨he, hb⟩ => ⟨he, h.later hb⟩
theorem adrR (p : Addr) (n : Int) {w0 w : World} {g b N : Nat} {k : Cp} {m t : BitVec 64} {T : Int → Option Value} (h : Sg w0 g k m t T b N w) : Calls prog 86 #[.agg #[.pointer (some p), .int .i64 n]] w fun e w' => e = .returned (rgv 123 124 (.agg #[.pointer (some p), .int .i64 n])) ∧ Sg w0 g k m t T b N w' :=
 (tE p n w).mono fun _ _ ⟨he, hb⟩ => ⟨he, h.later hb⟩
open Go.ChangeMaps Go.MapKept
theorem Sg.c82 {w0 w : World} {g b n : Nat} {k : Cp} {m t : BitVec 64} {T : Int → Option Value} (h : Sg w0 g k m t T b n w) : w.cell? ⟨g, 82, none⟩ = some (.int .u64 (n64 m)) := (Row.sxc h.sr).2.1
theorem Sg.c83 {w0 w : World} {g b n : Nat} {k : Cp} {m t : BitVec 64} {T : Int → Option Value} (h : Sg w0 g k m t T b n w) : w.cell? ⟨g, 83, none⟩ = some (.int .u64 (n64 t)) := (Row.sxc h.sr).2.2
def TM (g : Nat) (m : BitVec 64) (T : Int → Option Value) : Int → Option Value := (eK (eK (eK (eK (eK (eK (eK (eK (eK (eK (eK (eK (eK T 768 (rgv 115 116 (.agg #[.pointer (some ⟨g, 35, none⟩)]))) 769 (rgv 117 118 (.int .u64 9223372036855828741))) 772 (rgv 119 120 (.agg #[.pointer (some ⟨g, 37, none⟩), .int .u64 2184]))) 773 (rgv 119 120 (.agg #[.pointer (some ⟨g, 36, none⟩), .int .u64 18446744073709551613]))) 774 (rgv 119 120 (.agg #[.pointer (some ⟨g, 38, none⟩), .int .u64 7]))) 778 (rgv 119 120 (.agg #[.pointer (some ⟨g, 40, none⟩), .int .u64 1]))) 800 (rgv 119 120 (.agg #[.pointer (some ⟨g, 39, none⟩), .int .u64 5]))) 832 (rgv 119 120 (.agg #[.pointer (some ⟨g, 41, none⟩), .int .u64 18446744073709551615]))) 833 (rgv 119 120 (.agg #[.pointer (some ⟨g, 42, none⟩), .int .u64 18446744073709551614]))) 834 (rgv 119 120 (.agg #[.pointer (some ⟨g, 43, none⟩), .int .u64 18446744073709551615]))) 835 (rgv 119 120 (.agg #[.pointer (some ⟨g, 44, none⟩), .int .u64 18446744073709551615]))) 836 (rgv 117 118 (.int .u64 (n64 (m &&& 2184#64))))) 3859 (rgv 117 118 (.int .u64 1)))
def TC (g : Nat) (k : Cp) (t : BitVec 64) (T : Int → Option Value) : Int → Option Value := (eK (eK (eK (eK (eK T 2816 (rgv 119 120 (.agg #[.pointer (some ⟨g, 45, none⟩), .int .u64 18446744073709551615]))) 2818 (rgv 119 120 (.agg #[.pointer (some ⟨g, 46, none⟩), .int .u64 18446744073709551615]))) 3072 (rgv 117 118 (.int .u64 (n64 (k.s 10))))) 3073 (rgv 117 118 (.int .u64 (n64 t)))) 3074 (rgv 117 118 (.int .u64 (n64 (k.s 11)))))
theorem tC {w0 w : World} {g b n : Nat} {k : Cp} {m t : BitVec 64} {T : Int → Option Value} (h : Sg w0 g k m t T b n w) (hn : n ≤ 1000) : Calls prog 50 #[.pointer (some ⟨g, 0, none⟩), .map (some b)] w fun e w' => e = .returned (.tuple #[]) ∧ Sg w0 g k m t (TM g m T) b (n + 13) w' := by
 have b1 : bits .and .u64 (n64 m) 2184 = n64 (m &&& 2184#64) := cQ m 2184#64
 obtain ⟨v0, hv0⟩ : ∃ v0, v0 = w := ⟨_, rfl⟩
 have H0 : Hid (Sg w0 g k m t T b n v0) := by rw [hv0]; exact h
 rw [← hv0]
 clear h hv0
 go_enter func50, ntmps50
 go_upto_region 1 with fail
 go_upto_region 2 with (first | (go_at_call 82; refine (staR _ H0.out).mono ?_; rintro e u0 ⟨rfl, hs⟩; have G0 := hid hs; clear hs) | (refine bX (by rfl) _ _ _ (by rfl) (by rfl) G0.out (by omega) 768 _ (by decide) (by rfl) (by rfl) (by rfl) ?_; intro v1 hs; have H1 := hid hs; clear hs))
 clear H0 G0
 go_upto_region 3 with (first | (go_at_call 83; refine (yX _ H1.out).mono ?_; rintro e u1 ⟨rfl, hs⟩; have G1 := hid hs; clear hs) | (refine bX (by rfl) _ _ _ (by rfl) (by rfl) G1.out (by omega) 769 _ (by decide) (by rfl) (by rfl) (by rfl) ?_; intro v2 hs; have H2 := hid hs; clear hs))
 clear H1 G1
 go_upto_region 4 with (first | (go_at_call 84; refine (rK _ _ H2.out).mono ?_; rintro e u2 ⟨rfl, hs⟩; have G2 := hid hs; clear hs) | (refine bX (by rfl) _ _ _ (by rfl) (by rfl) G2.out (by omega) 772 _ (by decide) (by rfl) (by rfl) (by rfl) ?_; intro v3 hs; have H3 := hid hs; clear hs))
 clear H2 G2
 go_upto_region 5 with (first | (go_at_call 84; refine (rK _ _ H3.out).mono ?_; rintro e u3 ⟨rfl, hs⟩; have G3 := hid hs; clear hs) | (refine bX (by rfl) _ _ _ (by rfl) (by rfl) G3.out (by omega) 773 _ (by decide) (by rfl) (by rfl) (by rfl) ?_; intro v4 hs; have H4 := hid hs; clear hs))
 clear H3 G3
 go_upto_region 6 with (first | (go_at_call 84; refine (rK _ _ H4.out).mono ?_; rintro e u4 ⟨rfl, hs⟩; have G4 := hid hs; clear hs) | (refine bX (by rfl) _ _ _ (by rfl) (by rfl) G4.out (by omega) 774 _ (by decide) (by rfl) (by rfl) (by rfl) ?_; intro v5 hs; have H5 := hid hs; clear hs))
 clear H4 G4
 go_upto_region 7 with (first | (go_at_call 84; refine (rK _ _ H5.out).mono ?_; rintro e u5 ⟨rfl, hs⟩; have G5 := hid hs; clear hs) | (refine bX (by rfl) _ _ _ (by rfl) (by rfl) G5.out (by omega) 778 _ (by decide) (by rfl) (by rfl) (by rfl) ?_; intro v6 hs; have H6 := hid hs; clear hs))
 clear H5 G5
 go_upto_region 8 with (first | (go_at_call 84; refine (rK _ _ H6.out).mono ?_; rintro e u6 ⟨rfl, hs⟩; have G6 := hid hs; clear hs) | (refine bX (by rfl) _ _ _ (by rfl) (by rfl) G6.out (by omega) 800 _ (by decide) (by rfl) (by rfl) (by rfl) ?_; intro v7 hs; have H7 := hid hs; clear hs))
 clear H6 G6
 go_upto_region 9 with (first | (go_at_call 84; refine (rK _ _ H7.out).mono ?_; rintro e u7 ⟨rfl, hs⟩; have G7 := hid hs; clear hs) | (refine bX (by rfl) _ _ _ (by rfl) (by rfl) G7.out (by omega) 832 _ (by decide) (by rfl) (by rfl) (by rfl) ?_; intro v8 hs; have H8 := hid hs; clear hs))
 clear H7 G7
 go_upto_region 10 with (first | (go_at_call 84; refine (rK _ _ H8.out).mono ?_; rintro e u8 ⟨rfl, hs⟩; have G8 := hid hs; clear hs) | (refine bX (by rfl) _ _ _ (by rfl) (by rfl) G8.out (by omega) 833 _ (by decide) (by rfl) (by rfl) (by rfl) ?_; intro v9 hs; have H9 := hid hs; clear hs))
 clear H8 G8
 go_upto_region 11 with (first | (go_at_call 84; refine (rK _ _ H9.out).mono ?_; rintro e u9 ⟨rfl, hs⟩; have G9 := hid hs; clear hs) | (refine bX (by rfl) _ _ _ (by rfl) (by rfl) G9.out (by omega) 834 _ (by decide) (by rfl) (by rfl) (by rfl) ?_; intro v10 hs; have H10 := hid hs; clear hs))
 clear H9 G9
 go_upto_region 12 with (first | (go_at_call 84; refine (rK _ _ H10.out).mono ?_; rintro e u10 ⟨rfl, hs⟩; have G10 := hid hs; clear hs) | (refine bX (by rfl) _ _ _ (by rfl) (by rfl) G10.out (by omega) 835 _ (by decide) (by rfl) (by rfl) (by rfl) ?_; intro v11 hs; have H11 := hid hs; clear hs))
 clear H10 G10
 have c9 := Sg.c82 H11.out
 go_upto_region 13 with (first | (go_at_call 83; refine (yX _ H11.out).mono ?_; rintro e u11 ⟨rfl, hs⟩; have G11 := hid hs; clear hs) | (refine bX (by rfl) _ _ _ (by rfl) (by rfl) G11.out (by omega) 836 _ (by decide) (by rfl) (by rfl) (by rfl) ?_; intro v12 hs; have H12 := hid hs; clear hs))
 clear H11 G11 c9
 go_wp2_with (first | (go_at_call 83; refine (yX _ H12.out).mono ?_; rintro e u12 ⟨rfl, hs⟩; have G12 := hid hs; clear hs) | (refine bX (by rfl) _ _ _ (by rfl) (by rfl) G12.out (by omega) 3859 _ (by decide) (by rfl) (by rfl) (by rfl) ?_; intro v13 hs; have H13 := hid hs; clear hs))
 clear H12 G12
 go_end0
 exact ⟨rfl, H13.out⟩
theorem rN {w0 w : World} {g b n : Nat} {k : Cp} {m t : BitVec 64} {T : Int → Option Value} (h : Sg w0 g k m t T b n w) (hn : n ≤ 1000) : Calls prog 52 #[.pointer (some ⟨g, 0, none⟩), .map (some b)] w fun e w' => e = .returned (.tuple #[]) ∧ Sg w0 g k m t (TC g k t T) b (n + 5) w' := by
 obtain ⟨v0, hv0⟩ : ∃ v0, v0 = w := ⟨_, rfl⟩
 have H0 : Hid (Sg w0 g k m t T b n v0) := by rw [hv0]; exact h
 rw [← hv0]
 clear h hv0
 go_enter func52, ntmps52
 go_upto_region 1 with fail
 go_upto_region 2 with (first | (go_at_call 84; refine (rK _ _ H0.out).mono ?_; rintro e u0 ⟨rfl, hs⟩; have G0 := hid hs; clear hs) | (refine bX (by rfl) _ _ _ (by rfl) (by rfl) G0.out (by omega) 2816 _ (by decide) (by rfl) (by rfl) (by rfl) ?_; intro v1 hs; have H1 := hid hs; clear hs))
 clear H0 G0
 go_upto_region 3 with (first | (go_at_call 84; refine (rK _ _ H1.out).mono ?_; rintro e u1 ⟨rfl, hs⟩; have G1 := hid hs; clear hs) | (refine bX (by rfl) _ _ _ (by rfl) (by rfl) G1.out (by omega) 2818 _ (by decide) (by rfl) (by rfl) (by rfl) ?_; intro v2 hs; have H2 := hid hs; clear hs))
 clear H1 G1
 have c9 := Sr.s (Sg.sr H2.out) 10 (by omega)
 go_upto_region 4 with (first | (go_at_call 83; refine (yX _ H2.out).mono ?_; rintro e u2 ⟨rfl, hs⟩; have G2 := hid hs; clear hs) | (refine bX (by rfl) _ _ _ (by rfl) (by rfl) G2.out (by omega) 3072 _ (by decide) (by rfl) (by rfl) (by rfl) ?_; intro v3 hs; have H3 := hid hs; clear hs))
 clear H2 G2 c9
 have c9 := Sg.c83 H3.out
 go_upto_region 5 with (first | (go_at_call 83; refine (yX _ H3.out).mono ?_; rintro e u3 ⟨rfl, hs⟩; have G3 := hid hs; clear hs) | (refine bX (by rfl) _ _ _ (by rfl) (by rfl) G3.out (by omega) 3073 _ (by decide) (by rfl) (by rfl) (by rfl) ?_; intro v4 hs; have H4 := hid hs; clear hs))
 clear H3 G3 c9
 have c9 := Sr.s (Sg.sr H4.out) 11 (by omega)
 go_wp2_with (first | (go_at_call 83; refine (yX _ H4.out).mono ?_; rintro e u4 ⟨rfl, hs⟩; have G4 := hid hs; clear hs) | (refine bX (by rfl) _ _ _ (by rfl) (by rfl) G4.out (by omega) 3074 _ (by decide) (by rfl) (by rfl) (by rfl) ?_; intro v5 hs; have H5 := hid hs; clear hs))
 clear H4 G4 c9
 go_end0
 exact ⟨rfl, H5.out⟩
def qU (g : Nat) (T : Int → Option Value) (j : Nat) : Int → Option Value := fun q => if 944 ≤ q ∧ q < 944 + (j : Int) then some (rgv 123 124 (.agg #[.pointer (some ⟨g, 47, none⟩), .int .i64 (q - 944)])) else T q
theorem tadr_0 (g : Nat) (T : Int → Option Value) : qU g T 0 = T := by
 funext q; unfold qU; rw [if_neg (by omega)]
theorem DU (g : Nat) (T : Int → Option Value) (j : Nat) : eK (qU g T j) (944 + (j : Int)) (rgv 123 124 (.agg #[.pointer (some ⟨g, 47, none⟩), .int .i64 (j : Int)])) = qU g T (j + 1) := by
 funext q; unfold eK qU
 by_cases e : q = 944 + (j : Int)
 ·rw [if_pos e, if_pos (by omega), e, show (944 + (j : Int) - 944) = (j : Int) by omega]
 ·rw [if_neg e]
  by_cases h : 944 ≤ q ∧ q < 944 + (j : Int)
  ·rw [if_pos h, if_pos (by omega)]
  ·rw [if_neg h, if_neg (by omega)]
def TP (g : Nat) (T : Int → Option Value) : Int → Option Value := qU g (eK (eK T 928 (rgv 121 122 (.agg #[.pointer (some ⟨g, 47, none⟩), .int .i64 0]))) 930 (rgv 121 122 (.agg #[.pointer (some ⟨g, 47, none⟩), .int .i64 2]))) 16
theorem oL {w0 w : World} {g b n : Nat} {k : Cp} {m t : BitVec 64} {T : Int → Option Value} (h : Sg w0 g k m t T b n w) (hn : n ≤ 1000) : Calls prog 51 #[.pointer (some ⟨g, 0, none⟩), .map (some b)] w fun e w' => e = .returned (.tuple #[]) ∧ Sg w0 g k m t (TP g T) b (n + 18) w' := by
 obtain ⟨v0, hv0⟩ : ∃ v0, v0 = w := ⟨_, rfl⟩
 have H0 : Hid (Sg w0 g k m t T b n v0) := by rw [hv0]; exact h
 rw [← hv0]
 clear h hv0
 go_enter func51, ntmps51
 go_upto_region 1 with fail
 go_upto_region 2 with (first | (go_at_call 85; refine (TF _ _ H0.out).mono ?_; rintro e u0 ⟨rfl, hs⟩; have G0 := hid hs; clear hs) | (refine bX (by rfl) _ _ _ (by rfl) (by rfl) G0.out (by omega) 928 _ (by decide) (by rfl) (by rfl) (by rfl) ?_; intro v1 hs; have H1 := hid hs; clear hs))
 clear H0 G0
 go_upto_region 3 with (first | (go_at_call 85; refine (TF _ _ H1.out).mono ?_; rintro e u1 ⟨rfl, hs⟩; have G1 := hid hs; clear hs) | (refine bX (by rfl) _ _ _ (by rfl) (by rfl) G1.out (by omega) 930 _ (by decide) (by rfl) (by rfl) (by rfl) ?_; intro v2 hs; have H2 := hid hs; clear hs))
 clear H1 G1
 obtain ⟨T2, hT2⟩ : ∃ T2, T2 = (eK (eK T 928 (rgv 121 122 (.agg #[.pointer (some ⟨g, 47, none⟩), .int .i64 0]))) 930 (rgv 121 122 (.agg #[.pointer (some ⟨g, 47, none⟩), .int .i64 2]))) := ⟨_, rfl⟩
 replace H2 : Hid (Sg w0 g k m t T2 b (n + 1 + 1) v2) := by rw [hT2]; exact H2
 have HT2 : Hid (TP g T = qU g T2 16) := by rw [hT2]; rfl
 clear hT2
 go_upto_region 4 with fail
 go_loopw [18] (fun i wr => ∃ j : Nat, j ≤ 16 ∧ i = .int .i64 j ∧ Hid (Sg w0 g k m t (qU g T2 j) b (n + 2 + j) wr)) (fun i _ => 16 - (intOf i).toNat)
 case atStart => exact ⟨0, by omega, rfl, by unfold Hid; rw [tadr_0]; exact H2.out⟩
 case round =>
  obtain ⟨j, hj, rfl, HJ⟩ := hrel
  clear H2
  by_cases hlt : j < 16
  ·have hlt2 : (j : Int) < 16 := by omega
   have hq : (Lit.int .i64 (944 + (j : Int))).wf = true := WalkArith.wf_i64 ⟨by omega, by omega⟩
   have HQ := hid hq
   clear hq
   go_wp2_with (first | (go_at_call 86; refine (adrR _ _ HJ.out).mono ?_; rintro e u1 ⟨rfl, hs⟩; have G1 := hid hs; clear hs) | (refine bX (by rfl) _ _ _ (by rfl) (by rfl) G1.out (by omega) (944 + (j : Int)) _ HQ.out (by rfl) (by rfl) (by rfl) ?_; intro u2 hs; have G2 : Hid (Sg w0 g k m t (qU g T2 (j + 1)) b (n + 2 + (j + 1)) u2) := (by unfold Hid; rw [← DU]; exact hs); clear hs))
   clear HJ G1 HQ
   go_roundw
   case rel => exact ⟨j + 1, hlt, by go_num, G2⟩
   case measure => simp [intOf]; omega
  ·obtain rfl : j = 16 := by omega
   rw [show ((16 : Nat) : Int) = (16 : Int) from rfl]
   go_wp2
   go_end0
   exact ⟨rfl, by rw [HT2.out]; exact HJ.out⟩
def idl : Value := rgv 117 118 (.int .u64 0)
def qW (T : Int → Option Value) (j : Nat) : Int → Option Value := fun q => if (803 ≤ q ∧ q < 803 + (j : Int)) ∨ (2819 ≤ q ∧ q < 2819 + (j : Int)) ∨ (3075 ≤ q ∧ q < 3075 + (j : Int)) then some idl else T q
theorem tidl_0 (T : Int → Option Value) : qW T 0 = T := by
 funext q; unfold qW; rw [if_neg (by omega)]
theorem DY (T : Int → Option Value) (j : Nat) : eK (eK (eK (qW T j) (803 + (j : Int)) idl) (2819 + (j : Int)) idl) (3075 + (j : Int)) idl = qW T (j + 1) := by
 funext q; unfold eK qW
 by_cases h : (803 ≤ q ∧ q < 803 + ((j + 1 : Nat) : Int)) ∨ (2819 ≤ q ∧ q < 2819 + ((j + 1 : Nat) : Int)) ∨ (3075 ≤ q ∧ q < 3075 + ((j + 1 : Nat) : Int))
 ·rw [if_pos h]
  split
  ·rfl
  split
  ·rfl
  split
  ·rfl
  rw [if_pos (by omega)]
 ·rw [if_neg h, if_neg (by omega), if_neg (by omega), if_neg (by omega), if_neg (by omega)]
def TI (T : Int → Option Value) : Int → Option Value := eK (eK (eK (eK (qW T 29) 3857 idl) 3858 idl) 3860 idl) 3861 idl
def idc : Array Value := #[.func (.func 117) #[.int .u64 0] #[], .func (.func 118) #[.int .u64 0] #[]]
theorem idlR {w0 w : World} {g b N : Nat} {k : Cp} {m t : BitVec 64} {T : Int → Option Value} (h : Sg w0 g k m t T b N w) : Calls prog 83 #[.int .u64 0] w fun e w' => e = .returned (.agg idc) ∧ Sg w0 g k m t T b N w' := yX 0 h
theorem PH : idc.all (·.oneCell') = true := by simp [idc, Value.oneCell']
theorem IJ : (prog.info? 102).map (·.size) = some idc.size := jZ
structure Si (w0 : World) (g gi : Nat) (k : Cp) (m t : BitVec 64) (T : Int → Option Value) (b n : Nat) (w : World) : Prop where
 sg : Sg w0 g k m t T b n w
 ri : Row w gi idc 102
section
variable {w0 w w' : World} {g gi b n : Nat} {k : Cp} {m t : BitVec 64} {T : Int → Option Value}
theorem eS {ops : Array Oper} {rest : List Oper} {o : Oper} {a : Act} {Q : Exit → Act → World → Prop} (hgd : o.guard = none) (x y z : Operand) (ho : o.op = .mapUpdate 104 x y z) (hd : o.dst = none)
  (h : Si w0 g gi k m t T b n w) (hn : n < 100000) (q : Int) (v : Value) (hq : (Lit.int .i64 q).wf = true) (hx : a.eval x = .map (some b)) (hy : a.eval y = .int .i64 q) (hz : a.eval z = v)
  (hK : ∀ w', Si w0 g gi k m t (eK T q v) b (n + 1) w' → wpList prog ops Q rest a w') : wpList prog ops Q (o :: rest) a w := by
 refine wpList_plain hgd fun K' hK' => ?_
 obtain ⟨w', hrun, r1, r2⟩ := h.sg.mp.update hn q v hq
 unfold Oper.wp
 simp [execOp, ho, hx, hy, hz, hrun, Result.andThen]
 refine hK' _ _ ?_
 have := hK w' ⟨h.sg.put r1 r2, pN r2 h.sg.mp.row _ _ _ h.ri⟩
 simpa [Oper.upon, Act.put, hd] using this
end
theorem dG {ops : Array Oper} {rest : List Oper} {o : Oper} {a : Act} {w : World} {gi : Nat} {Q : Exit → Act → World → Prop} (hgd : o.guard = none) (x : Operand) (ho : o.op = .load 102 x) (hx : a.eval x = .pointer (some ⟨gi, 0, none⟩)) (hr : Row w gi idc 102)
  (h : wpList prog ops Q rest (a.put o.dst idl) w) : wpList prog ops Q (o :: rest) a w :=
 wpList_load_row hgd _ _ ho _ hx 102 _ (0, 0) _ hr underlying102 (by rfl) jZ h
theorem BX {w0 w : World} {g b n : Nat} {k : Cp} {m t : BitVec 64} {T : Int → Option Value} (h : Sg w0 g k m t T b n w) (hn : n ≤ 1000) : Calls prog 53 #[.map (some b)] w fun e w' => e = .returned (.tuple #[]) ∧ Sg w0 g k m t (TI T) b (n + 91) w' := by
 have H0 := hid h
 have hz : ∀ w, (zeroValue 102).run prog w = .ok (.agg #[.nilFunc, .nilFunc]) w := lB
 clear h
 go_enter func53, ntmps53
 go_upto_region 1 with (first | (go_at_call 83; refine (idlR H0.out).mono ?_; rintro e u0 ⟨rfl, hs⟩; have G0 := hid hs; clear hs) | (refine cS (by rfl) _ _ _ (by rfl) (by rfl) u0 #[.nilFunc, .nilFunc] idc (by rfl) (by rfl) (by rfl) IJ (by rfl) PH ?_))
 refine jB (motive := fun W => Code.wp _ _ _ _ W) (Q := fun W => Si w0 g u0.heap.size k m t T b n W) ⟨G0.out.later ((ZqD _ _).alloc (ZqE _) _), Row.new u0 idc 102⟩ ?_
 clear H0 hz
 generalize u0.heap.size = gi
 intro v0 hs
 have H0 := hid hs
 clear hs G0
 go_upto_region 2 with fail
 go_loopw [5] (fun i wr => ∃ j : Nat, j ≤ 29 ∧ i = .int .i64 j ∧ Hid (Si w0 g gi k m t (qW T j) b (n + 3 * j) wr)) (fun i _ => 29 - (intOf i).toNat)
 case atStart => exact ⟨0, by omega, rfl, by unfold Hid; rw [tidl_0]; exact H0.out⟩
 case round =>
  obtain ⟨j, hj, rfl, HJ⟩ := hrel
  clear H0
  by_cases hlt : j < 29
  ·have hlt2 : (j : Int) < 29 := by omega
   have HQ1 : Hid ((Lit.int .i64 (803 + (j : Int))).wf = true) := WalkArith.wf_i64 ⟨by omega, by omega⟩
   have HQ2 : Hid ((Lit.int .i64 (2819 + (j : Int))).wf = true) := WalkArith.wf_i64 ⟨by omega, by omega⟩
   have HQ3 : Hid ((Lit.int .i64 (3075 + (j : Int))).wf = true) := WalkArith.wf_i64 ⟨by omega, by omega⟩
   go_upto_region 5 with (first | (refine dG (by rfl) _ (by rfl) (by rfl) (Si.ri HJ.out) ?_) | (refine eS (by rfl) _ _ _ (by rfl) (by rfl) HJ.out (by omega) (803 + (j : Int)) idl HQ1.out (by rfl) (by rfl) (by rfl) ?_; intro u1 hs; have G1 := hid hs; clear hs))
   clear HJ
   go_upto_region 6 with (first | (refine dG (by rfl) _ (by rfl) (by rfl) (Si.ri G1.out) ?_) | (refine eS (by rfl) _ _ _ (by rfl) (by rfl) G1.out (by omega) (2819 + (j : Int)) idl HQ2.out (by rfl) (by rfl) (by rfl) ?_; intro u2 hs; have G2 := hid hs; clear hs))
   clear G1
   go_wp2_with (first | (refine dG (by rfl) _ (by rfl) (by rfl) (Si.ri G2.out) ?_) | (refine eS (by rfl) _ _ _ (by rfl) (by rfl) G2.out (by omega) (3075 + (j : Int)) idl HQ3.out (by rfl) (by rfl) (by rfl) ?_; intro u3 hs; have G3 : Hid (Si w0 g gi k m t (qW T (j + 1)) b (n + 3 * (j + 1)) u3) := (by unfold Hid; rw [← DY]; exact hs); clear hs))
   clear G2 HQ1 HQ2 HQ3
   go_roundw
   case rel => exact ⟨j + 1, hlt, by go_num, G3⟩
   case measure => simp [intOf]; omega
  ·obtain rfl : j = 29 := by omega
   rw [show ((29 : Nat) : Int) = (29 : Int) from rfl]
   go_upto_region 9 with (first | (refine dG (by rfl) _ (by rfl) (by rfl) (Si.ri HJ.out) ?_) | (refine eS (by rfl) _ _ _ (by rfl) (by rfl) HJ.out (by omega) 3857 idl (by decide) (by rfl) (by rfl) (by rfl) ?_; intro u1 hs; have G1 := hid hs; clear hs))
   clear HJ
   go_upto_region 10 with (first | (refine dG (by rfl) _ (by rfl) (by rfl) (Si.ri G1.out) ?_) | (refine eS (by rfl) _ _ _ (by rfl) (by rfl) G1.out (by omega) 3858 idl (by decide) (by rfl) (by rfl) (by rfl) ?_; intro u2 hs; have G2 := hid hs; clear hs))
   clear G1
   go_upto_region 11 with (first | (refine dG (by rfl) _ (by rfl) (by rfl) (Si.ri G2.out) ?_) | (refine eS (by rfl) _ _ _ (by rfl) (by rfl) G2.out (by omega) 3860 idl (by decide) (by rfl) (by rfl) (by rfl) ?_; intro u3 hs; have G3 := hid hs; clear hs))
   clear G2
   go_wp2_with (first | (refine dG (by rfl) _ (by rfl) (by rfl) (Si.ri G3.out) ?_) | (refine eS (by rfl) _ _ _ (by rfl) (by rfl) G3.out (by omega) 3861 idl (by decide) (by rfl) (by rfl) (by rfl) ?_; intro u4 hs; have G4 := hid hs; clear hs))
   go_end0
   exact ⟨rfl, G4.out.sg⟩
def RT (g : Nat) (k : Cp) (m t : BitVec 64) : Int → Option Value := TI (TC g k t (TP g (TM g m (fun _ => none))))
theorem iX (g : Nat) (k : Cp) (m t : BitVec 64) (w : World) (h : Sr w g k m t) : Calls prog 36 #[.pointer (some ⟨g, 0, none⟩)] w fun e w' => ∃ b, e = .returned (.map (some b)) ∧ Mq (RT g k m t) b 127 w' ∧ Sr w' g k m t ∧ Below w.heap.size w w' := by
 have hmm := mkMap
 obtain ⟨W0, hW0⟩ : ∃ W0, w.alloc (.map #[] 0) = W0 := ⟨_, rfl⟩
 have H0 : Hid (Sg w g k m t (fun _ => none) w.heap.size 0 W0) := by rw [← hW0]; exact ⟨Mq.made w, h.old _, (ZqD _ _).alloc (ZqE _) _, ZqE _⟩
 obtain ⟨b, hb⟩ : ∃ b, b = w.heap.size := ⟨_, rfl⟩
 clear h
 go_enter func36, ntmps36
 go_upto_region 2 with fail
 clear hW0 hmm
 rw [← hb] at H0 ⊢
 clear hb
 go_upto_region 3 with (go_at_call 50; refine (tC H0.out (by omega)).mono ?_; rintro e u1 ⟨rfl, hs⟩; have H1 : Hid (Sg w g k m t (TM g m (fun _ => none)) b 13 u1) := hs; clear hs)
 clear H0
 go_upto_region 4 with (go_at_call 51; refine (oL H1.out (by omega)).mono ?_; rintro e u2 ⟨rfl, hs⟩; have H2 : Hid (Sg w g k m t (TP g (TM g m (fun _ => none))) b 31 u2) := hs; clear hs)
 clear H1
 go_upto_region 5 with (go_at_call 52; refine (rN H2.out (by omega)).mono ?_; rintro e u3 ⟨rfl, hs⟩; have H3 : Hid (Sg w g k m t (TC g k t (TP g (TM g m (fun _ => none)))) b 36 u3) := hs; clear hs)
 clear H2
 go_upto_region 6 with (go_at_call 53; refine (BX H3.out (by omega)).mono ?_; rintro e u4 ⟨rfl, hs⟩; have H4 := hid hs; clear hs)
 clear H3
 go_wp2
 go_ret
 exact ⟨b, rfl, H4.out.mp, H4.out.sr, H4.out.be⟩
def mo (n : Int) : Int := bits .and .i64 (n / 256) 3
def ki (n : Int) : Int := bits .and .i64 (n / 1024) 3
theorem vW (n : Int) (w : World) : Calls prog 49 #[.int .i64 n] w fun e w' => e = .returned (.int .i64 (mo n)) ∧ w' = w := by
 unfold mo
 go_enter func49, ntmps49
 go_wp2
 go_ret
 exact ⟨rfl, rfl⟩
theorem tU (n : Int) (w : World) : Calls prog 209 #[.int .i64 n] w fun e w' => e = .returned (.bool (ki n == 3)) ∧ w' = w := by
 unfold ki
 go_enter func209, ntmps209
 go_wp2
 go_ret
 exact ⟨rfl, rfl⟩
def cn (n : Int) : Bool := wi n 3072 3103
theorem vG (n : Int) (hi : I64 n) (w : World) : Calls prog 48 #[.int .i64 n] w fun e w' => e = .returned (.tuple #[.int .i64 (if cn n then n - 3072 else 0), .bool (cn n)]) ∧ w' = w := by
 unfold I64 at hi
 by_cases h : 3072 ≤ n ∧ n ≤ 3103
 ·have e : cn n = true := by simp [cn, wi, h]
  rw [e, if_pos rfl]
  go_enter func48, ntmps48
  go_wp2
  go_ret2
  exact ⟨rfl, rfl⟩
 ·have e : cn n = false := by simp only [cn, wi, decide_eq_false_iff_not]; exact h
  rw [e, if_neg (by decide)]
  clear e
  by_cases h2 : -9223372036854775808 + 3072 ≤ n
  ·by_cases h3 : n < 3072
   ·go_enter func48, ntmps48
    go_wp2
    go_ret2
    exact ⟨rfl, rfl⟩
   ·have h4 : 3104 ≤ n := by omega
    have h5 : ¬ n - 3072 < 0 := by omega
    have h6 : 32 ≤ n - 3072 := by omega
    go_enter func48, ntmps48
    go_wp2
    go_ret2
    exact ⟨rfl, rfl⟩
  ·have hw : IntKind.i64.wrap (n - 3072) = n - 3072 + 18446744073709551616 := by
    rw [IntKind.wrap_i64]; omega
   obtain ⟨z, hz⟩ : ∃ z, z = n - 3072 + 18446744073709551616 := ⟨_, rfl⟩
   rw [← hz] at hw
   have h5 : ¬ z < 0 := by omega
   have h6 : 32 ≤ z := by omega
   clear hz
   go_enter func48, ntmps48
   go_wp2
   go_ret2
   exact ⟨rfl, rfl⟩
def mr (k : Cp) (n : Int) : Bool := !(decide (k.md = 0) && cn n && decide (k.s 3 >>> (n - 3072).toNat &&& 1#64 = 0#64)) && decide (mo n ≤ k.md)
def mw (k : Cp) (n : Int) : Bool := decide (mo n ≤ k.md) && !(ki n == 3)
theorem Sr.md {w : World} {g : Nat} {k : Cp} {m t : BitVec 64} (h : Sr w g k m t) : w.cell? ⟨g, 33, none⟩ = some (.int .i64 k.md) := by
 have := (Row.sxc h).1 33 (by omega)
 rwa [ZqU] at this
theorem nL (g : Nat) (k : Cp) (m t : BitVec 64) (n : Int) (hi : I64 n) (w : World) (h : Sr w g k m t) : Calls prog 35 #[.pointer (some ⟨g, 0, none⟩), .int .i64 n] w fun e w' => e = .returned (.bool (mr k n)) ∧ Below w.heap.size w w' := by
 obtain ⟨d, hd⟩ : ∃ d, d = k.md := ⟨_, rfl⟩
 have c33 : w.cell? ⟨g, 33, none⟩ = some (.int .i64 d) := by rw [hd]; exact h.md
 have c38 : w.cell? ⟨g, 38, none⟩ = some (.int .u64 (n64 (k.s 3))) := h.s 3 (by omega)
 have HC : Hid (∀ W, Calls prog 48 #[.int .i64 n] W fun e w' => e = .returned (.tuple #[.int .i64 (if cn n then n - 3072 else 0), .bool (cn n)]) ∧ w' = W) := vG n hi
 have HM : Hid (∀ W, Calls prog 49 #[.int .i64 n] W fun e w' => e = .returned (.int .i64 (mo n)) ∧ w' = W) := vW n
 have := aS w
 have L33 : ∀ x : bB w, x.1.cell? ⟨g, 33, none⟩ = some (.int .i64 d) := cG h.lt c33
 unfold mr
 rw [← hd]
 clear h hd
 generalize mo n = q at HM ⊢
 cases hc : cn n with
 | false =>
  rw [hc, if_neg (by decide)] at HC
  rw [show (!(decide (d = 0) && false && decide (k.s 3 >>> (n - 3072).toNat &&& 1#64 = 0#64)) && decide (q ≤ d)) = decide (q ≤ d) by simp]
  clear hc
  by_cases h0 : d = 0
  ·have h0b : (d == 0) = true := by simp [h0]
   clear h0
   go_enter func35, ntmps35
   go_upto_region 4 with (go_at_call 48; refine (HC.out _).mono ?_; rintro e w1 ⟨rfl, hw1⟩; have hw2 := hw1.symm; subst hw2)
   refine bN (x0 := bB.start w) (by kernel_rfl) (by kernel_rfl) ?_
   repeat (go_big_quiet_step (first | (go_at_call 49; exact bL (HM.out _))))
   refine wpQuiet_nil ?_
   rintro w' ⟨x9, rfl⟩
   go_wp2
   go_ret
   exact ⟨rfl, x9.below⟩
  ·have h0b : (d == 0) = false := by simp [h0]
   clear h0
   go_enter func35, ntmps35
   go_upto_region 4 with (go_at_call 48; refine (HC.out _).mono ?_; rintro e w1 ⟨rfl, hw1⟩; have hw2 := hw1.symm; subst hw2)
   refine bN (x0 := bB.start w) (by kernel_rfl) (by kernel_rfl) ?_
   repeat (go_big_quiet_step (first | (go_at_call 49; exact bL (HM.out _))))
   refine wpQuiet_nil ?_
   rintro w' ⟨x9, rfl⟩
   go_wp2
   go_ret
   exact ⟨rfl, x9.below⟩
 | true =>
  rw [hc, if_pos rfl] at HC
  have hin : 3072 ≤ n ∧ n ≤ 3103 := by simpa [cn, wi] using hc
  clear hc
  by_cases h0 : d = 0
  ·have h0b : (d == 0) = true := by simp [h0]
   have hq1 : n64 (k.s 3) / 2 ^ (n - 3072).toNat = n64 (k.s 3 >>> (n - 3072).toNat) := kA _ _
   have hq2 : bits .and .u64 (n64 (k.s 3 >>> (n - 3072).toNat)) 1 = n64 (k.s 3 >>> (n - 3072).toNat &&& 1#64) := cQ _ 1#64
   by_cases hb : k.s 3 >>> (n - 3072).toNat &&& 1#64 = 0#64
   ·rw [show (!(decide (d = 0) && true && decide (k.s 3 >>> (n - 3072).toNat &&& 1#64 = 0#64)) && decide (q ≤ d)) = false by simp [h0, hb]]
    have hq3 : (n64 (k.s 3 >>> (n - 3072).toNat &&& 1#64) == 0) = true := by rw [hb]; rfl
    clear hb
    generalize n64 (k.s 3 >>> (n - 3072).toNat &&& 1#64) = u1 at hq2 hq3
    generalize k.s 3 >>> (n - 3072).toNat = u2 at hq1 hq2
    clear h0
    go_enter func35, ntmps35
    go_wp2_with (go_at_call 48; refine (HC.out _).mono ?_; rintro e w1 ⟨rfl, hw1⟩; have hw2 := hw1.symm; subst hw2)
    go_ret
    exact ⟨rfl, ZqD _ _⟩
   ·rw [show (!(decide (d = 0) && true && decide (k.s 3 >>> (n - 3072).toNat &&& 1#64 = 0#64)) && decide (q ≤ d)) = decide (q ≤ d) by simp [hb]]
    have hq3 : (n64 (k.s 3 >>> (n - 3072).toNat &&& 1#64) == 0) = false := YV hb
    clear hb
    generalize n64 (k.s 3 >>> (n - 3072).toNat &&& 1#64) = u1 at hq2 hq3
    generalize k.s 3 >>> (n - 3072).toNat = u2 at hq1 hq2
    clear h0
    go_enter func35, ntmps35
    go_upto_region 4 with (go_at_call 48; refine (HC.out _).mono ?_; rintro e w1 ⟨rfl, hw1⟩; have hw2 := hw1.symm; subst hw2)
    refine bN (x0 := bB.start w) (by kernel_rfl) (by kernel_rfl) ?_
    repeat (go_big_quiet_step (first | (go_at_call 49; exact bL (HM.out _))))
    refine wpQuiet_nil ?_
    rintro w' ⟨x9, rfl⟩
    go_wp2
    go_ret
    exact ⟨rfl, x9.below⟩
  ·have h0b : (d == 0) = false := by simp [h0]
   rw [show (!(decide (d = 0) && true && decide (k.s 3 >>> (n - 3072).toNat &&& 1#64 = 0#64)) && decide (q ≤ d)) = decide (q ≤ d) by simp [h0]]
   clear h0
   go_enter func35, ntmps35
   go_upto_region 4 with (go_at_call 48; refine (HC.out _).mono ?_; rintro e w1 ⟨rfl, hw1⟩; have hw2 := hw1.symm; subst hw2)
   refine bN (x0 := bB.start w) (by kernel_rfl) (by kernel_rfl) ?_
   repeat (go_big_quiet_step (first | (go_at_call 49; exact bL (HM.out _))))
   refine wpQuiet_nil ?_
   rintro w' ⟨x9, rfl⟩
   go_wp2
   go_ret
   exact ⟨rfl, x9.below⟩
theorem mG (g : Nat) (k : Cp) (m t : BitVec 64) (n : Int) (w : World) (h : Sr w g k m t) : Calls prog 170 #[.pointer (some ⟨g, 0, none⟩), .int .i64 n] w fun e w' => e = .returned (.bool (mw k n)) ∧ Below w.heap.size w w' := by
 have HM : Hid (∀ W, Calls prog 49 #[.int .i64 n] W fun e w' => e = .returned (.int .i64 (mo n)) ∧ w' = W) := vW n
 have HR : Hid (∀ W, Calls prog 209 #[.int .i64 n] W fun e w' => e = .returned (.bool (ki n == 3)) ∧ w' = W) := tU n
 have := aS w
 have L33 : ∀ x : bB w, x.1.cell? ⟨g, 33, none⟩ = some (.int .i64 k.md) := cG h.lt h.md
 unfold mw
 generalize mo n = q at HM ⊢
 generalize (ki n == 3) = r at HR ⊢
 generalize k.md = d at L33 ⊢
 clear h
 by_cases hq : q ≤ d
 ·rw [show (decide (q ≤ d) && !r) = !r by simp [hq]]
  have hqd : decide (q ≤ d) = true := by simp [hq]
  clear hq
  go_enter func170, ntmps170
  go_upto_region 1 with fail
  refine bN (x0 := bB.start w) (by kernel_rfl) (by kernel_rfl) ?_
  repeat (go_big_quiet_step (first | (go_at_call 49; exact bL (HM.out _)) | (go_at_call 209; exact bL (HR.out _))))
  refine wpQuiet_nil ?_
  rintro w' ⟨x9, rfl⟩
  go_wp2
  go_ret
  exact ⟨rfl, x9.below⟩
 ·rw [show (decide (q ≤ d) && !r) = false by simp [hq]]
  have hqd : decide (q ≤ d) = false := by simp [hq]
  clear hq
  go_enter func170, ntmps170
  go_upto_region 1 with fail
  refine bN (x0 := bB.start w) (by kernel_rfl) (by kernel_rfl) ?_
  repeat (go_big_quiet_step (first | (go_at_call 49; exact bL (HM.out _)) | (go_at_call 209; exact bL (HR.out _))))
  refine wpQuiet_nil ?_
  rintro w' ⟨x9, rfl⟩
  go_wp2
  go_ret
  exact ⟨rfl, x9.below⟩
theorem QL {s s' : Nat → BitVec 64} {j : Nat} (h : s j = s' j) : prS s j = prS s' j := by
 match j, h with
 | 0, h => show stB _ = stB _; rw [h]
 | 1, h => show _ &&& _ = _ &&& _; rw [h]
 | 2, h => show _ &&& _ = _ &&& _; rw [h]
 | 3, h => show _ &&& _ = _ &&& _; rw [h]
 | 4, h => show _ &&& _ = _ &&& _; rw [h]
 | 5, h => show _ &&& _ = _ &&& _; rw [h]
 | 6, h => exact h
 | 7, h => show _ &&& _ = _ &&& _; rw [h]
 | j + 8, h => exact h
theorem oK {k : Cp} (hk : PR k = k) (i : Nat) (v : BitVec 64) : PR { k with s := upd k.s i v } = { k with s := upd k.s i (prS (upd k.s i v) i) } := by
 have e : PR { k with s := upd k.s i v } = { PR k with s := prS (upd k.s i v) } := rfl
 have es : prS k.s = k.s := congrArg Cp.s hk
 have q : prS (upd k.s i v) = upd k.s i (prS (upd k.s i v) i) := by
  funext j
  by_cases h : j = i
  ·subst h; simp [upd]
  ·rw [show upd k.s i (prS (upd k.s i v) i) j = k.s j by simp [upd, h], QL (show upd k.s i v j = k.s j by simp [upd, h]), es]
 rw [e, hk, ← q]
theorem PC_sR (c : Nat → BitVec 8) (i : Int) (v : BitVec 64) : PC (sR (PC c) i v) = sR (PC c) i v := by
 have q : ∀ f, PC (sC (PC c) f v) = sC (PC c) f v := fun f => by
  funext j
  show pcl (sC (PC c) f v j) = _
  unfold sC
  split
  ·exact uA _
  ·exact uA _
 unfold sR
 split
 ·exact q 0
 split
 ·exact q 8
 ·exact EN c
theorem PA_sA (c : Nat → BitVec 8) (a : Nat → BitVec 64) (i : Int) (v : BitVec 64) : PA (sA c (PA a) i v) = sA c (PA a) i v := by
 unfold sA
 split
 ·exact EM a
 ·funext j
  show pad (upd _ _ _ j) = _
  unfold upd
  split
  ·exact gD _ _
  ·exact gD _ _
theorem PR_c {k : Cp} (hk : PR k = k) (i : Int) (v : BitVec 64) : PR { k with c := sR (PC k.c) i v, a := PA k.a } = { k with c := sR (PC k.c) i v, a := PA k.a } := by
 have e : PR { k with c := sR (PC k.c) i v, a := PA k.a } = { PR k with c := PC (sR (PC k.c) i v), a := PA (PA k.a) } := rfl
 rw [e, hk, PC_sR, EM]
theorem PR_a {k : Cp} (hk : PR k = k) (i : Int) (v : BitVec 64) : PR { k with c := PC k.c, a := sA (PC k.c) (PA k.a) i v } = { k with c := PC k.c, a := sA (PC k.c) (PA k.a) i v } := by
 have e : PR { k with c := PC k.c, a := sA (PC k.c) (PA k.a) i v } = { PR k with c := PC (PC k.c), a := PA (sA (PC k.c) (PA k.a) i v) } := rfl
 rw [e, hk, EN, PA_sA]
theorem kS (v : BitVec 64) : v &&& 18446744073709551615#64 = v := by
 rw [show (18446744073709551615#64) = BitVec.allOnes 64 by decide, BitVec.and_allOnes]
def Rgd (g : Nat) (k : Cp) (m t : BitVec 64) (n : Int) : Prop :=
 ∃ (r q : Nat) (x : Value), RT g k m t n = some (rgv r q x) ∧ (∀ w, (callFunc r #[x]).run prog w = .ok (.enter r #[x]) w) ∧ (∀ v w, (callFunc q #[x, v]).run prog w = .ok (.enter q #[x, v]) w) ∧
  (∀ W, Sr W g k m t → Calls prog r #[x] W fun e w' => e = .returned (.int .u64 (TO k m t n)) ∧ Below W.heap.size W w') ∧
  (∀ v W, Sr W g k m t → Calls prog q #[x, .int .u64 (n64 v)] W fun e w' => e = .returned (.tuple #[]) ∧ Sr w' g (PR (KW k n v)) m t ∧ Below g W w')
theorem QU (g : Nat) (k : Cp) (m t : BitVec 64) (hk : PR k = k) : Rgd g k m t 772 := by
 refine ⟨119, 120, .agg #[.pointer (some ⟨g, 37, none⟩), .int .u64 (n64 2184#64)], by rfl, fun w => by rfl, fun v w => by rfl, fun W h => ?_, fun v W h => ?_⟩
 ·exact dL g 37 _ _ W h.lt (h.s 2 (by omega))
 ·refine (cY g 2 (by omega) 2184#64 v k m t W h).mono fun e w' ⟨h1, h2, h3⟩ => ⟨h1, ?_, h3⟩
  rw [show PR (KW k 772 v) = _ from oK hk 2 v]
  exact h2
theorem QV (g : Nat) (k : Cp) (m t : BitVec 64) (hk : PR k = k) : Rgd g k m t 773 := by
 refine ⟨119, 120, .agg #[.pointer (some ⟨g, 36, none⟩), .int .u64 (n64 (~~~2#64))], by rfl, fun w => by rfl, fun v w => by rfl, fun W h => ?_, fun v W h => ?_⟩
 ·exact dL g 36 _ _ W h.lt (h.s 1 (by omega))
 ·refine (cY g 1 (by omega) (~~~2#64) v k m t W h).mono fun e w' ⟨h1, h2, h3⟩ => ⟨h1, ?_, h3⟩
  rw [show PR (KW k 773 v) = _ from oK hk 1 v]
  exact h2
theorem QW (g : Nat) (k : Cp) (m t : BitVec 64) (hk : PR k = k) : Rgd g k m t 774 := by
 refine ⟨119, 120, .agg #[.pointer (some ⟨g, 38, none⟩), .int .u64 (n64 7#64)], by rfl, fun w => by rfl, fun v w => by rfl, fun W h => ?_, fun v W h => ?_⟩
 ·exact dL g 38 _ _ W h.lt (h.s 3 (by omega))
 ·refine (cY g 3 (by omega) 7#64 v k m t W h).mono fun e w' ⟨h1, h2, h3⟩ => ⟨h1, ?_, h3⟩
  rw [show PR (KW k 774 v) = _ from oK hk 3 v]
  exact h2
theorem QX (g : Nat) (k : Cp) (m t : BitVec 64) (hk : PR k = k) : Rgd g k m t 778 := by
 refine ⟨119, 120, .agg #[.pointer (some ⟨g, 40, none⟩), .int .u64 (n64 1#64)], by rfl, fun w => by rfl, fun v w => by rfl, fun W h => ?_, fun v W h => ?_⟩
 ·exact dL g 40 _ _ W h.lt (h.s 5 (by omega))
 ·refine (cY g 5 (by omega) 1#64 v k m t W h).mono fun e w' ⟨h1, h2, h3⟩ => ⟨h1, ?_, h3⟩
  rw [show PR (KW k 778 v) = _ from oK hk 5 v]
  exact h2
theorem QY (g : Nat) (k : Cp) (m t : BitVec 64) (hk : PR k = k) : Rgd g k m t 800 := by
 refine ⟨119, 120, .agg #[.pointer (some ⟨g, 39, none⟩), .int .u64 (n64 5#64)], by rfl, fun w => by rfl, fun v w => by rfl, fun W h => ?_, fun v W h => ?_⟩
 ·exact dL g 39 _ _ W h.lt (h.s 4 (by omega))
 ·refine (cY g 4 (by omega) 5#64 v k m t W h).mono fun e w' ⟨h1, h2, h3⟩ => ⟨h1, ?_, h3⟩
  rw [show PR (KW k 800 v) = _ from oK hk 4 v]
  exact h2
theorem QZ (g : Nat) (k : Cp) (m t : BitVec 64) (hk : PR k = k) : Rgd g k m t 832 := by
 refine ⟨119, 120, .agg #[.pointer (some ⟨g, 41, none⟩), .int .u64 (n64 18446744073709551615#64)], by rfl, fun w => by rfl, fun v w => by rfl, fun W h => ?_, fun v W h => ?_⟩
 ·exact dL g 41 _ _ W h.lt (h.s 6 (by omega))
 ·refine (cY g 6 (by omega) 18446744073709551615#64 v k m t W h).mono fun e w' ⟨h1, h2, h3⟩ => ⟨h1, ?_, h3⟩
  rw [show PR (KW k 832 v) = _ from oK hk 6 v]
  rw [kS] at h2; exact h2
theorem RA (g : Nat) (k : Cp) (m t : BitVec 64) (hk : PR k = k) : Rgd g k m t 833 := by
 refine ⟨119, 120, .agg #[.pointer (some ⟨g, 42, none⟩), .int .u64 (n64 (~~~1#64))], by rfl, fun w => by rfl, fun v w => by rfl, fun W h => ?_, fun v W h => ?_⟩
 ·exact dL g 42 _ _ W h.lt (h.s 7 (by omega))
 ·refine (cY g 7 (by omega) (~~~1#64) v k m t W h).mono fun e w' ⟨h1, h2, h3⟩ => ⟨h1, ?_, h3⟩
  rw [show PR (KW k 833 v) = _ from oK hk 7 v]
  exact h2
theorem RB (g : Nat) (k : Cp) (m t : BitVec 64) (hk : PR k = k) : Rgd g k m t 834 := by
 refine ⟨119, 120, .agg #[.pointer (some ⟨g, 43, none⟩), .int .u64 (n64 18446744073709551615#64)], by rfl, fun w => by rfl, fun v w => by rfl, fun W h => ?_, fun v W h => ?_⟩
 ·exact dL g 43 _ _ W h.lt (h.s 8 (by omega))
 ·refine (cY g 8 (by omega) 18446744073709551615#64 v k m t W h).mono fun e w' ⟨h1, h2, h3⟩ => ⟨h1, ?_, h3⟩
  rw [show PR (KW k 834 v) = _ from oK hk 8 v]
  rw [kS] at h2; exact h2
theorem RC (g : Nat) (k : Cp) (m t : BitVec 64) (hk : PR k = k) : Rgd g k m t 835 := by
 refine ⟨119, 120, .agg #[.pointer (some ⟨g, 44, none⟩), .int .u64 (n64 18446744073709551615#64)], by rfl, fun w => by rfl, fun v w => by rfl, fun W h => ?_, fun v W h => ?_⟩
 ·exact dL g 44 _ _ W h.lt (h.s 9 (by omega))
 ·refine (cY g 9 (by omega) 18446744073709551615#64 v k m t W h).mono fun e w' ⟨h1, h2, h3⟩ => ⟨h1, ?_, h3⟩
  rw [show PR (KW k 835 v) = _ from oK hk 9 v]
  rw [kS] at h2; exact h2
theorem KQ (g : Nat) (k : Cp) (m t : BitVec 64) (hk : PR k = k) : Rgd g k m t 2816 := by
 refine ⟨119, 120, .agg #[.pointer (some ⟨g, 45, none⟩), .int .u64 (n64 18446744073709551615#64)], by rfl, fun w => by rfl, fun v w => by rfl, fun W h => ?_, fun v W h => ?_⟩
 ·exact dL g 45 _ _ W h.lt (h.s 10 (by omega))
 ·refine (cY g 10 (by omega) 18446744073709551615#64 v k m t W h).mono fun e w' ⟨h1, h2, h3⟩ => ⟨h1, ?_, h3⟩
  rw [show PR (KW k 2816 v) = _ from oK hk 10 v]
  rw [kS] at h2; exact h2
theorem KT (g : Nat) (k : Cp) (m t : BitVec 64) (hk : PR k = k) : Rgd g k m t 2818 := by
 refine ⟨119, 120, .agg #[.pointer (some ⟨g, 46, none⟩), .int .u64 (n64 18446744073709551615#64)], by rfl, fun w => by rfl, fun v w => by rfl, fun W h => ?_, fun v W h => ?_⟩
 ·exact dL g 46 _ _ W h.lt (h.s 11 (by omega))
 ·refine (cY g 11 (by omega) 18446744073709551615#64 v k m t W h).mono fun e w' ⟨h1, h2, h3⟩ => ⟨h1, ?_, h3⟩
  rw [show PR (KW k 2818 v) = _ from oK hk 11 v]
  rw [kS] at h2; exact h2
theorem QS (g : Nat) (k : Cp) (m t : BitVec 64) (hk : PR k = k) : Rgd g k m t 768 := by
 refine ⟨115, 116, .agg #[.pointer (some ⟨g, 35, none⟩)], by rfl, fun w => by rfl, fun v w => by rfl, fun W h => ?_, fun v W h => ?_⟩
 ·exact uF g 35 0 _ W h.lt (h.s 0 (by omega))
 ·refine (rR g v k m t W h).mono fun e w' ⟨h1, h2, h3⟩ => ⟨h1, ?_, h3⟩
  rw [show PR (KW k 768 v) = _ from oK hk 0 (stW (k.s 0) v)]
  exact h2
theorem RF (g : Nat) (k : Cp) (m t : BitVec 64) (hk : PR k = k) : Rgd g k m t 928 := by
 refine ⟨121, 122, .agg #[.pointer (some ⟨g, 47, none⟩), .int .i64 0], by rfl, fun w => by rfl, fun v w => by rfl, fun W h => ?_, fun v W h => ?_⟩
 ·have e : TO k m t 928 = pO (PC k.c) 0 := by
   unfold TO
   repeat rw [if_neg (by omega)]
   rw [if_pos rfl]
  rw [e]
  exact mP g 0 k m t W h
 ·have e : KW k 928 v = { k with c := sR (PC k.c) 0 v, a := PA k.a } := by
   unfold KW
   repeat rw [if_neg (by omega)]
   rw [if_pos rfl]
  rw [e, PR_c hk]
  exact lW g 0 v k m t W h
theorem RG (g : Nat) (k : Cp) (m t : BitVec 64) (hk : PR k = k) : Rgd g k m t 930 := by
 refine ⟨121, 122, .agg #[.pointer (some ⟨g, 47, none⟩), .int .i64 2], by rfl, fun w => by rfl, fun v w => by rfl, fun W h => ?_, fun v W h => ?_⟩
 ·have e : TO k m t 930 = pO (PC k.c) 2 := by
   unfold TO
   repeat rw [if_neg (by omega)]
   rw [if_pos rfl]
  rw [e]
  exact mP g 2 k m t W h
 ·have e : KW k 930 v = { k with c := sR (PC k.c) 2 v, a := PA k.a } := by
   unfold KW
   repeat rw [if_neg (by omega)]
   rw [if_pos rfl]
  rw [e, PR_c hk]
  exact lW g 2 v k m t W h
theorem iC {g : Nat} {k : Cp} {m t : BitVec 64} {n : Int} (hk : PR k = k) (z : Int) (hr : RT g k m t n = some (rgv 117 118 (.int .u64 z))) (ht : TO k m t n = z) (hw : ∀ v, KW k n v = k) : Rgd g k m t n := by
 refine ⟨117, 118, .int .u64 z, hr, fun w => by rfl, fun v w => by rfl, fun W h => ?_, fun v W h => ?_⟩
 ·rw [ht]; exact yY z W
 ·rw [hw v, hk]
  exact (wU z (n64 v) W).mono fun e w' ⟨h1, h2⟩ => ⟨h1, h.later h2 h.lt, h2.mono (Nat.le_of_lt h.lt)⟩
theorem QT (g : Nat) (k : Cp) (m t : BitVec 64) (hk : PR k = k) : Rgd g k m t 769 := iC hk 9223372036855828741 (by rfl) (by rfl) (fun v => by rfl)
theorem RE (g : Nat) (k : Cp) (m t : BitVec 64) (hk : PR k = k) : Rgd g k m t 836 := iC hk (n64 (m &&& 2184#64)) (by rfl) (by rfl) (fun v => by rfl)
theorem KY (g : Nat) (k : Cp) (m t : BitVec 64) (hk : PR k = k) : Rgd g k m t 3859 := iC hk 1 (by rfl) (by rfl) (fun v => by rfl)
theorem KU (g : Nat) (k : Cp) (m t : BitVec 64) (hk : PR k = k) : Rgd g k m t 3072 := iC hk (n64 (k.s 10)) (by rfl) (by rfl) (fun v => by rfl)
theorem KV (g : Nat) (k : Cp) (m t : BitVec 64) (hk : PR k = k) : Rgd g k m t 3073 := iC hk (n64 t) (by rfl) (by rfl) (fun v => by rfl)
theorem KX (g : Nat) (k : Cp) (m t : BitVec 64) (hk : PR k = k) : Rgd g k m t 3074 := iC hk (n64 (k.s 11)) (by rfl) (by rfl) (fun v => by rfl)
def nK (n : Int) : Prop := (803 ≤ n ∧ n ≤ 831) ∨ (2819 ≤ n ∧ n ≤ 2847) ∨ (3075 ≤ n ∧ n ≤ 3103) ∨ n = 3857 ∨ n = 3858 ∨ n = 3860 ∨ n = 3861
theorem NC (g : Nat) (k : Cp) (m t : BitVec 64) {n : Int} (h : nK n) : RT g k m t n = some idl := by
 unfold nK at h
 unfold RT TI
 unfold eK
 split
 ·rfl
 split
 ·rfl
 split
 ·rfl
 split
 ·rfl
 unfold qW
 rw [if_pos (by omega)]
theorem KZ (g : Nat) (k : Cp) (m t : BitVec 64) (hk : PR k = k) {n : Int} (h : nK n) : Rgd g k m t n := by
 refine iC hk 0 (NC g k m t h) ?_ (fun v => ?_)
 ·unfold nK at h
  unfold TO
  repeat rw [if_neg (by omega)]
 ·unfold nK at h
  unfold KW
  repeat rw [if_neg (by omega)]
theorem RT_in (g : Nat) (k : Cp) (m t : BitVec 64) (j : Nat) (hj : j < 16) : RT g k m t (944 + (j : Int)) = some (rgv 123 124 (.agg #[.pointer (some ⟨g, 47, none⟩), .int .i64 (j : Int)])) := by
 unfold RT TI TC TP qW qU eK
 try dsimp only
 repeat rw [if_neg (by omega)]
 rw [if_pos (by omega), show (944 + (j : Int) - 944) = (j : Int) by omega]
theorem ZF (g : Nat) (k : Cp) (m t : BitVec 64) (hk : PR k = k) (j : Nat) (hj : j < 16) : Rgd g k m t (944 + (j : Int)) := by
 refine ⟨123, 124, .agg #[.pointer (some ⟨g, 47, none⟩), .int .i64 (j : Int)], RT_in g k m t j hj, fun w => by rfl, fun v w => by rfl, fun W h => ?_, fun v W h => ?_⟩
 ·have e : TO k m t (944 + (j : Int)) = n64 (k.a j) := by
   unfold TO
   repeat rw [if_neg (by omega)]
   rw [if_pos (by omega), show (944 + (j : Int) - 944).toNat = j by omega]
  rw [e]
  exact rO g j hj k m t W h
 ·have e : KW k (944 + (j : Int)) v = { k with c := PC k.c, a := sA (PC k.c) (PA k.a) (j : Int) v } := by
   unfold KW
   repeat rw [if_neg (by omega)]
   rw [if_pos (by omega), show (944 + (j : Int) - 944) = (j : Int) by omega]
  rw [e, PR_a hk]
  exact pK g j v k m t W h
theorem AX (g : Nat) (k : Cp) (m t : BitVec 64) (hk : PR k = k) (n : Int) (hx : EX n = true) : Rgd g k m t n := by
 by_cases q768 : n = 768
 ·subst q768; exact QS g k m t hk
 by_cases q769 : n = 769
 ·subst q769; exact QT g k m t hk
 by_cases q772 : n = 772
 ·subst q772; exact QU g k m t hk
 by_cases q773 : n = 773
 ·subst q773; exact QV g k m t hk
 by_cases q774 : n = 774
 ·subst q774; exact QW g k m t hk
 by_cases q778 : n = 778
 ·subst q778; exact QX g k m t hk
 by_cases q800 : n = 800
 ·subst q800; exact QY g k m t hk
 by_cases q832 : n = 832
 ·subst q832; exact QZ g k m t hk
 by_cases q833 : n = 833
 ·subst q833; exact RA g k m t hk
 by_cases q834 : n = 834
 ·subst q834; exact RB g k m t hk
 by_cases q835 : n = 835
 ·subst q835; exact RC g k m t hk
 by_cases q836 : n = 836
 ·subst q836; exact RE g k m t hk
 by_cases q928 : n = 928
 ·subst q928; exact RF g k m t hk
 by_cases q930 : n = 930
 ·subst q930; exact RG g k m t hk
 by_cases q2816 : n = 2816
 ·subst q2816; exact KQ g k m t hk
 by_cases q2818 : n = 2818
 ·subst q2818; exact KT g k m t hk
 by_cases q3072 : n = 3072
 ·subst q3072; exact KU g k m t hk
 by_cases q3073 : n = 3073
 ·subst q3073; exact KV g k m t hk
 by_cases q3074 : n = 3074
 ·subst q3074; exact KX g k m t hk
 by_cases q3859 : n = 3859
 ·subst q3859; exact KY g k m t hk
 by_cases q : 944 ≤ n ∧ n ≤ 959
 ·rw [show n = 944 + ((n - 944).toNat : Int) by omega]; exact ZF g k m t hk _ (by omega)
 refine KZ g k m t hk ?_
 unfold nK
 simp only [EX, wi, Bool.or_eq_true, Bool.and_eq_true, decide_eq_true_iff] at hx
 omega
theorem zM (g : Nat) (k : Cp) (m t : BitVec 64) (n : Int) (hx : EX n = false) : RT g k m t n = none := by
 simp only [EX, wi, Bool.or_eq_false_iff, Bool.and_eq_false_iff, decide_eq_false_iff_not] at hx
 unfold RT TI TC TP TM qW qU eK
 try dsimp only
 repeat rw [if_neg (by omega)]
theorem lV (w : World) : (zeroValue 99).run prog w = .ok (.agg (sxc cz 0#64 0#64)) w := by kernel_rfl
theorem lN (k : Cp) (m t : BitVec 64) : (prog.info? 99).map (·.size) = some (sxc k m t).size := by rw [dK]; kernel_rfl
theorem FF (k : Cp) (m t : BitVec 64) : prog.built 99 [(0, .agg (cpc k)), (1, .int .u64 (n64 m)), (2, .int .u64 (n64 t))] = some (sxc k m t) := by kernel_rfl
theorem CG (k : Cp) : prog.built 99 [(0, .agg (cpc k))] = some (sxc k 0#64 0#64) := by kernel_rfl
theorem gX {ops : Array Oper} {rest : List Oper} {o : Oper} {a : Act} {w : World} {Q : Exit → Act → World → Prop} (hgd : o.guard = none) (x y z : Operand) (ho : o.op = .build 99 #[(0, x), (1, y), (2, z)]) (k : Cp) (m t : BitVec 64)
  (hx : a.eval x = .agg (cpc k)) (hy : a.eval y = .int .u64 (n64 m)) (hz : a.eval z = .int .u64 (n64 t)) (h : wpList prog ops Q rest (a.put o.dst (.agg (sxc k m t))) w) : wpList prog ops Q (o :: rest) a w := by
 refine aC hgd 99 _ ho (sxc k m t) ?_ h
 rw [show (#[(0, x), (1, y), (2, z)].map fun (i, u) => (i, a.eval u)).toList = [(0, a.eval x), (1, a.eval y), (2, a.eval z)] by simp, hx, hy, hz]
 exact FF k m t
theorem gL {ops : Array Oper} {rest : List Oper} {o : Oper} {a : Act} {w : World} {Q : Exit → Act → World → Prop} (hgd : o.guard = none) (x : Operand) (ho : o.op = .build 99 #[(0, x)]) (k : Cp)
  (hx : a.eval x = .agg (cpc k)) (h : wpList prog ops Q rest (a.put o.dst (.agg (sxc k 0#64 0#64))) w) : wpList prog ops Q (o :: rest) a w := by
 refine aC hgd 99 _ ho (sxc k 0#64 0#64) ?_ h
 rw [show (#[(0, x)].map fun (i, u) => (i, a.eval u)).toList = [(0, a.eval x)] by simp, hx]
 exact CG k
theorem UD {n : Int} (h : I64 n) : (Lit.int .i64 n).wf = true := WalkArith.wf_i64 h
theorem Mq.asked {g b N : Nat} {k : Cp} {m t : BitVec 64} {w : World} (h : Mq (RT g k m t) b N w) (n : Int) (hi : I64 n) {r q : Nat} {x : Value} (hr : RT g k m t n = some (rgv r q x)) :
  (Instr.lookup 104 (.map (some b)) (.int .i64 n) true).run prog w = .ok (.tuple #[.agg #[.func (.func r) #[x] #[], .func (.func q) #[x] #[]], .bool true]) w := by
 have := h.look n (UD hi)
 rw [hr] at this
 exact this
theorem Mq.askno {g b N : Nat} {k : Cp} {m t : BitVec 64} {w : World} (h : Mq (RT g k m t) b N w) (n : Int) (hi : I64 n) (hr : RT g k m t n = none) :
  (Instr.lookup 104 (.map (some b)) (.int .i64 n) true).run prog w = .ok (.tuple #[.agg #[.nilFunc, .nilFunc], .bool false]) w := by
 have := h.look n (UD hi)
 rw [hr] at this
 exact this
theorem TR {n : Int} (hx : EX n = true) : mo n = if wi n 3072 3103 = true then 0 else 3 := by
 have h := TB n hx
 unfold mo
 rw [and3 _ (by omega) (by omega)]
 cases hw : wi n 3072 3103 with
 | true => rw [if_pos rfl]; exact h.2.2.1 hw
 | false => rw [if_neg (by decide)]; exact h.2.2.2 hw
theorem RK_eq (k : Cp) (n : Int) : RK k n = (EX n && mr (PR k) n) := by
 unfold RK
 cases hx : EX n with
 | false => rfl
 | true =>
  rw [Bool.true_and, Bool.true_and]
  unfold mr cn
  rw [TR hx]
  rcases zL k with e | e <;> rw [e] <;> cases wi n 3072 3103 <;> simp
theorem WK_eq (k : Cp) (n : Int) : WK k n = (EX n && mw (PR k) n) := by
 unfold WK
 cases hx : EX n with
 | false => rfl
 | true =>
  rw [Bool.true_and, Bool.true_and]
  unfold mw ki
  have h := TB n hx
  have h2 := EX_hi n hx
  rw [TR hx, and3 (n / 1024) (by omega) (by omega)]
  by_cases h3 : n < 3072
  ·have h4 := h2.1 h3
   rw [h4.2]
   have h5 : (n / 1024 % 4 == 3) = false := by simp [h4.1]
   rw [h5]
   rcases zL k with e | e <;> rw [e] <;> simp [h3]
  ·have h4 := h2.2 h3
   have h5 : (n / 1024 % 4 == 3) = true := by simp [h4]
   rw [h5]
   simp [h3]
theorem UM (k : Cp) (m t : BitVec 64) (n : Int) (hi : I64 n) (hm : mr (PR k) n = false) (w : World) : Calls prog 14 #[.agg (cpc k), .int .u64 (n64 m), .int .u64 (n64 t), .int .i64 n] w fun e w' => e = .returned (.tuple #[.int .u64 0, .bool false]) ∧ Below w.heap.size w w' := by
 have hz := lV
 have hz2 : ∀ w, (zeroValue 102).run prog w = .ok (.agg #[.nilFunc, .nilFunc]) w := lB
 obtain ⟨W0, hW0, r0, b0, s0⟩ := cT w (cpc k) 31
 have HM := hid hm
 have HI := hid hi
 clear hm hi s0
 go_enter func14, ntmps14
 go_upto_region 1 with fail
 clear hW0
 go_upto_region 2 with (first | (refine wpList_load_row (by rfl) _ _ (by rfl) _ (by rfl) 31 _ (0, 0) _ r0.out underlying31 (by rfl) (aB _) ?_) | (go_at_call 10; refine (jF k _).mono ?_; rintro e w1 ⟨rfl, hb1⟩; have HB1 := hid hb1; clear hb1) | (refine gX (by rfl) _ _ _ (by rfl) (PR k) m t (by rfl) (by rfl) (by rfl) ?_) | (refine cS (by rfl) _ _ _ (by rfl) (by rfl) w1 (sxc cz 0#64 0#64) (sxc (PR k) m t) (by rfl) (by rfl) (by rfl) (lN _ _ _) (by rw [dK, dK]) (jO _ _ _) ?_))
 refine jB (motive := fun W => Code.wp _ _ _ _ W) (Q := fun W => Sr W w1.heap.size (PR k) m t ∧ Below w.heap.size w W) ⟨Row.new w1 (sxc (PR k) m t) 99, (b0.out.trans (HB1.out.mono b0.out.size)).alloc (ZqO b0.out.size HB1.out.size) _⟩ ?_
 clear r0 b0 HB1 hz
 generalize w1.heap.size = g
 rintro W2 ⟨q1, q2⟩
 have HS0 := hid q1
 have BB := hid q2
 clear q1 q2
 go_wp2_with (go_at_call 35; refine (nL g (PR k) m t n HI.out W2 HS0.out).mono ?_; rw [HM.out]; rintro e u1 ⟨rfl, hb⟩; have HB1 := hid hb; clear hb)
 go_ret2
 exact ⟨rfl, BB.out.trans (HB1.out.mono BB.out.size)⟩
theorem UN (k : Cp) (m t : BitVec 64) (n : Int) (hi : I64 n) (hm : mr (PR k) n = true) (hx : EX n = false) (w : World) : Calls prog 14 #[.agg (cpc k), .int .u64 (n64 m), .int .u64 (n64 t), .int .i64 n] w fun e w' => e = .returned (.tuple #[.int .u64 0, .bool false]) ∧ Below w.heap.size w w' := by
 have hz := lV
 have hz2 : ∀ w, (zeroValue 102).run prog w = .ok (.agg #[.nilFunc, .nilFunc]) w := lB
 obtain ⟨W0, hW0, r0, b0, s0⟩ := cT w (cpc k) 31
 have HM := hid hm
 have HI := hid hi
 have HX := hid hx
 clear hm hi hx s0
 go_enter func14, ntmps14
 go_upto_region 1 with fail
 clear hW0
 go_upto_region 2 with (first | (refine wpList_load_row (by rfl) _ _ (by rfl) _ (by rfl) 31 _ (0, 0) _ r0.out underlying31 (by rfl) (aB _) ?_) | (go_at_call 10; refine (jF k _).mono ?_; rintro e w1 ⟨rfl, hb1⟩; have HB1 := hid hb1; clear hb1) | (refine gX (by rfl) _ _ _ (by rfl) (PR k) m t (by rfl) (by rfl) (by rfl) ?_) | (refine cS (by rfl) _ _ _ (by rfl) (by rfl) w1 (sxc cz 0#64 0#64) (sxc (PR k) m t) (by rfl) (by rfl) (by rfl) (lN _ _ _) (by rw [dK, dK]) (jO _ _ _) ?_))
 refine jB (motive := fun W => Code.wp _ _ _ _ W) (Q := fun W => Sr W w1.heap.size (PR k) m t ∧ Below w.heap.size w W) ⟨Row.new w1 (sxc (PR k) m t) 99, (b0.out.trans (HB1.out.mono b0.out.size)).alloc (ZqO b0.out.size HB1.out.size) _⟩ ?_
 clear r0 b0 HB1 hz
 generalize w1.heap.size = g
 rintro W2 ⟨q1, q2⟩
 have HS0 := hid q1
 have BB := hid q2
 clear q1 q2
 go_upto_region 4 with (go_at_call 35; refine (nL g (PR k) m t n HI.out W2 HS0.out).mono ?_; rw [HM.out]; rintro e u1 ⟨rfl, hb⟩; have HB1 := hid hb; clear hb)
 have HS : Hid (Sr u1 g (PR k) m t) := HS0.out.later HB1.out HS0.out.lt
 have B1 : Hid (Below w.heap.size w u1) := BB.out.trans (HB1.out.mono BB.out.size)
 clear HS0 BB HB1 HM
 have HRT : Hid (RT g (PR k) m t n = none) := zM _ _ _ _ n HX.out
 go_wp2_with (go_at_call 36; refine (iX _ _ _ _ _ HS.out).mono ?_; rintro e u2 ⟨b, rfl, hm, hs, hb⟩; have hl := hm.askno n HI.out HRT.out; have HB2 := hid hb; clear hm hs hb)
 go_ret2
 exact ⟨rfl, (B1.out.trans (HB2.out.mono B1.out.size)).alloc (ZqO B1.out.size HB2.out.size) _⟩
theorem UO (k : Cp) (m t : BitVec 64) (n : Int) (hi : I64 n) (hm : mr (PR k) n = true) (hx : EX n = true) (w : World) : Calls prog 14 #[.agg (cpc k), .int .u64 (n64 m), .int .u64 (n64 t), .int .i64 n] w fun e w' => e = .returned (.tuple #[.int .u64 (TO (PR k) m t n), .bool true]) ∧ Below w.heap.size w w' := by
 have hz := lV
 have hz2 : ∀ w, (zeroValue 102).run prog w = .ok (.agg #[.nilFunc, .nilFunc]) w := lB
 obtain ⟨W0, hW0, r0, b0, s0⟩ := cT w (cpc k) 31
 have HM := hid hm
 have HI := hid hi
 have HX : Hid (∀ g, Rgd g (PR k) m t n) := fun g => AX g (PR k) m t (fR k) n hx
 obtain ⟨z, hzz⟩ : ∃ z, z = TO (PR k) m t n := ⟨_, rfl⟩
 have HZ := hid hzz
 rw [← hzz]
 clear hzz
 clear hm hi hx s0
 go_enter func14, ntmps14
 go_upto_region 1 with fail
 clear hW0
 go_upto_region 2 with (first | (refine wpList_load_row (by rfl) _ _ (by rfl) _ (by rfl) 31 _ (0, 0) _ r0.out underlying31 (by rfl) (aB _) ?_) | (go_at_call 10; refine (jF k _).mono ?_; rintro e w1 ⟨rfl, hb1⟩; have HB1 := hid hb1; clear hb1) | (refine gX (by rfl) _ _ _ (by rfl) (PR k) m t (by rfl) (by rfl) (by rfl) ?_) | (refine cS (by rfl) _ _ _ (by rfl) (by rfl) w1 (sxc cz 0#64 0#64) (sxc (PR k) m t) (by rfl) (by rfl) (by rfl) (lN _ _ _) (by rw [dK, dK]) (jO _ _ _) ?_))
 refine jB (motive := fun W => Code.wp _ _ _ _ W) (Q := fun W => Sr W w1.heap.size (PR k) m t ∧ Below w.heap.size w W) ⟨Row.new w1 (sxc (PR k) m t) 99, (b0.out.trans (HB1.out.mono b0.out.size)).alloc (ZqO b0.out.size HB1.out.size) _⟩ ?_
 clear r0 b0 HB1 hz
 generalize w1.heap.size = g
 rintro W2 ⟨q1, q2⟩
 have HS0 := hid q1
 have BB := hid q2
 clear q1 q2
 go_upto_region 4 with (go_at_call 35; refine (nL g (PR k) m t n HI.out W2 HS0.out).mono ?_; rw [HM.out]; rintro e u1 ⟨rfl, hb⟩; have HB1 := hid hb; clear hb)
 have HS : Hid (Sr u1 g (PR k) m t) := HS0.out.later HB1.out HS0.out.lt
 have B1 : Hid (Below w.heap.size w u1) := BB.out.trans (HB1.out.mono BB.out.size)
 clear HS0 BB HB1 HM
 obtain ⟨r, q, x, hrt, hcr, hcq, hrd, hwr⟩ := HX.out g
 have HRT := hid hrt
 have HRD : Hid (∀ W, Sr W g (PR k) m t → Calls prog r #[x] W fun e w' => e = .returned (.int .u64 z) ∧ Below W.heap.size W w') := fun W h => by rw [HZ.out]; exact hrd W h
 clear hrt hrd hwr hcq HX HZ
 go_upto_region 5 with (go_at_call 36; refine (iX _ _ _ _ _ HS.out).mono ?_; rintro e u2 ⟨b, rfl, hm, hs, hb⟩; have hl := hm.asked n HI.out HRT.out; have HS2 := hid hs; have HB2 := hid hb; clear hm hs hb)
 clear hl
 go_wp2_with fail
 refine (HRD.out _ (HS2.out.old _)).mono ?_
 rintro e u3 ⟨rfl, hb⟩
 have HB3 : Hid (Below _ _ u3) := hb
 clear hb
 go_wp2
 go_ret2
 exact ⟨rfl, ((B1.out.trans (HB2.out.mono B1.out.size)).alloc (ZqO B1.out.size HB2.out.size) _).trans (HB3.out.mono (by simp; have := B1.out.size; have := HB2.out.size; omega))⟩
theorem xF : CRd := fun k m t n hi W => by
 have e := RK_eq k n
 unfold RD
 cases hm : mr (PR k) n with
 | false =>
  rw [hm, Bool.and_false] at e
  rw [e, if_neg (by decide)]
  exact UM k m t n hi hm W
 | true =>
  rw [hm, Bool.and_true] at e
  rw [e]
  cases hx : EX n with
  | false => rw [if_neg (by decide)]; exact UN k m t n hi hm hx W
  | true => rw [if_pos rfl]; exact UO k m t n hi hm hx W
theorem NG (k : Cp) (n : Int) (v : BitVec 64) (hi : I64 n) (hm : mw (PR k) n = false) (w : World) : Calls prog 136 #[.agg (cpc k), .int .i64 n, .int .u64 (n64 v)] w fun e w' => e = .returned (.tuple #[.agg (cpc (PR k)), .bool false]) ∧ Below w.heap.size w w' := by
 have hz := lV
 have hzc := cC
 have hz2 : ∀ w, (zeroValue 102).run prog w = .ok (.agg #[.nilFunc, .nilFunc]) w := lB
 obtain ⟨W0, hW0, r0, r6, b0, s0⟩ := cN w (cpc k) (cpc cz) 31 31
 have HM := hid hm
 have HI := hid hi
 clear hm hi s0
 go_enter func136, ntmps136
 go_upto_region 1 with fail
 clear hW0 hzc
 go_upto_region 2 with (first | (refine wpList_load_row (by rfl) _ _ (by rfl) _ (by rfl) 31 _ (0, 0) _ r0.out underlying31 (by rfl) (aB _) ?_) | (go_at_call 10; refine (jF k _).mono ?_; rintro e w1 ⟨rfl, hb1⟩; have HB1 := hid hb1; clear hb1) | (refine gL (by rfl) _ (by rfl) (PR k) (by rfl) ?_) | (refine cS (by rfl) _ _ _ (by rfl) (by rfl) w1 (sxc cz 0#64 0#64) (sxc (PR k) 0#64 0#64) (by rfl) (by rfl) (by rfl) (lN _ _ _) (by rw [dK, dK]) (jO _ _ _) ?_))
 refine jB (motive := fun W => Code.wp _ _ _ _ W) (Q := fun W => Sr W w1.heap.size (PR k) 0#64 0#64 ∧ Row W (w.heap.size + 1) (cpc cz) 31 ∧ Below w.heap.size w W ∧ w.heap.size + 1 < w1.heap.size) ⟨Row.new w1 (sxc (PR k) 0#64 0#64) 99, r6.out.ca HB1.out _, (b0.out.trans (HB1.out.mono b0.out.size)).alloc (ZqO b0.out.size HB1.out.size) _, ZqS r6.out.lt HB1.out.size⟩ ?_
 clear r0 r6 b0 HB1 hz
 generalize w1.heap.size = g
 rintro W2 ⟨q1, q3, q2, q4⟩
 have HS0 := hid q1
 have R60 := hid q3
 have BB := hid q2
 have HG := hid q4
 clear q1 q2 q3 q4
 go_upto_region 3 with (go_at_call 170; refine (mG g (PR k) 0#64 0#64 n W2 HS0.out).mono ?_; rw [HM.out]; rintro e u1 ⟨rfl, hb⟩; have HB1 := hid hb; clear hb)
 have HS : Hid (Sr u1 g (PR k) 0#64 0#64) := HS0.out.later HB1.out HS0.out.lt
 have R6 : Hid (Row u1 (w.heap.size + 1) (cpc cz) 31) := R60.out.cb HB1.out
 have B1 : Hid (Below w.heap.size w u1) := BB.out.trans (HB1.out.mono BB.out.size)
 clear HS0 R60 BB HB1 HM
 go_wp2_with (first | (refine aY (by rfl) 31 _ (by rfl) g 0 (by rfl) (cpc (PR k)) _ (Row.sxc HS.out).1.agg underlying31 (by rfl) (aB _) ?_) | (refine aA (by rfl) _ _ _ (by rfl) (by rfl) _ _ _ (by rfl) (by rfl) R6.out (aB _) (by rw [aE, aE]) (aO _) ?_))
 refine ZqH (cE results136 _ _ (w.heap.size + 1) 31 _ (0, 0) _ _ (by rfl) (by rfl) (ZqW _ _ _ _ _ _ R6.out) underlying31 (by rfl) (aB _)) rfl ?_
 exact ⟨rfl, aW B1.out (by omega) _⟩
theorem NH (k : Cp) (n : Int) (v : BitVec 64) (hi : I64 n) (hm : mw (PR k) n = true) (hx : EX n = false) (w : World) : Calls prog 136 #[.agg (cpc k), .int .i64 n, .int .u64 (n64 v)] w fun e w' => e = .returned (.tuple #[.agg (cpc (PR k)), .bool false]) ∧ Below w.heap.size w w' := by
 have hz := lV
 have hzc := cC
 have hz2 : ∀ w, (zeroValue 102).run prog w = .ok (.agg #[.nilFunc, .nilFunc]) w := lB
 obtain ⟨W0, hW0, r0, r6, b0, s0⟩ := cN w (cpc k) (cpc cz) 31 31
 have HM := hid hm
 have HI := hid hi
 have HX := hid hx
 clear hm hi hx s0
 go_enter func136, ntmps136
 go_upto_region 1 with fail
 clear hW0 hzc
 go_upto_region 2 with (first | (refine wpList_load_row (by rfl) _ _ (by rfl) _ (by rfl) 31 _ (0, 0) _ r0.out underlying31 (by rfl) (aB _) ?_) | (go_at_call 10; refine (jF k _).mono ?_; rintro e w1 ⟨rfl, hb1⟩; have HB1 := hid hb1; clear hb1) | (refine gL (by rfl) _ (by rfl) (PR k) (by rfl) ?_) | (refine cS (by rfl) _ _ _ (by rfl) (by rfl) w1 (sxc cz 0#64 0#64) (sxc (PR k) 0#64 0#64) (by rfl) (by rfl) (by rfl) (lN _ _ _) (by rw [dK, dK]) (jO _ _ _) ?_))
 refine jB (motive := fun W => Code.wp _ _ _ _ W) (Q := fun W => Sr W w1.heap.size (PR k) 0#64 0#64 ∧ Row W (w.heap.size + 1) (cpc cz) 31 ∧ Below w.heap.size w W ∧ w.heap.size + 1 < w1.heap.size) ⟨Row.new w1 (sxc (PR k) 0#64 0#64) 99, r6.out.ca HB1.out _, (b0.out.trans (HB1.out.mono b0.out.size)).alloc (ZqO b0.out.size HB1.out.size) _, ZqS r6.out.lt HB1.out.size⟩ ?_
 clear r0 r6 b0 HB1 hz
 generalize w1.heap.size = g
 rintro W2 ⟨q1, q3, q2, q4⟩
 have HS0 := hid q1
 have R60 := hid q3
 have BB := hid q2
 have HG := hid q4
 clear q1 q2 q3 q4
 go_upto_region 4 with (go_at_call 170; refine (mG g (PR k) 0#64 0#64 n W2 HS0.out).mono ?_; rw [HM.out]; rintro e u1 ⟨rfl, hb⟩; have HB1 := hid hb; clear hb)
 have HS : Hid (Sr u1 g (PR k) 0#64 0#64) := HS0.out.later HB1.out HS0.out.lt
 have R6 : Hid (Row u1 (w.heap.size + 1) (cpc cz) 31) := R60.out.cb HB1.out
 have B1 : Hid (Below w.heap.size w u1) := BB.out.trans (HB1.out.mono BB.out.size)
 clear HS0 R60 BB HB1 HM
 have HRT : Hid (RT g (PR k) 0#64 0#64 n = none) := zM _ _ _ _ n HX.out
 go_upto_region 5 with (go_at_call 36; refine (iX _ _ _ _ _ HS.out).mono ?_; rintro e u2 ⟨b, rfl, hm, hs, hb⟩; have hl := hm.askno n HI.out HRT.out; have HS2 := hid hs; have HB2 := hid hb; clear hm hs hb)
 clear hl
 refine jB (motive := fun W => Code.wp _ _ _ _ W) (Q := fun W => Sr W g (PR k) 0#64 0#64 ∧ Row W (w.heap.size + 1) (cpc cz) 31 ∧ Below w.heap.size w W) ⟨HS2.out.old _, R6.out.ca HB2.out _, (B1.out.trans (HB2.out.mono B1.out.size)).alloc (ZqO B1.out.size HB2.out.size) _⟩ ?_
 clear HS R6 B1 HS2 HB2
 rintro W3 ⟨q1, q2, q3⟩
 have HS3 := hid q1
 have R63 := hid q2
 have B3 := hid q3
 clear q1 q2 q3
 go_wp2_with (first | (refine aY (by rfl) 31 _ (by rfl) g 0 (by rfl) (cpc (PR k)) _ (Row.sxc HS3.out).1.agg underlying31 (by rfl) (aB _) ?_) | (refine aA (by rfl) _ _ _ (by rfl) (by rfl) _ _ _ (by rfl) (by rfl) R63.out (aB _) (by rw [aE, aE]) (aO _) ?_))
 refine ZqH (cE results136 _ _ (w.heap.size + 1) 31 _ (0, 0) _ _ (by rfl) (by rfl) (ZqW _ _ _ _ _ _ R63.out) underlying31 (by rfl) (aB _)) rfl ?_
 exact ⟨rfl, aW B3.out (by omega) _⟩
theorem NJ (k : Cp) (n : Int) (v : BitVec 64) (hi : I64 n) (hm : mw (PR k) n = true) (hx : EX n = true) (w : World) : Calls prog 136 #[.agg (cpc k), .int .i64 n, .int .u64 (n64 v)] w fun e w' => e = .returned (.tuple #[.agg (cpc (PR (KW (PR k) n v))), .bool true]) ∧ Below w.heap.size w w' := by
 have hz := lV
 have hzc := cC
 have hz2 : ∀ w, (zeroValue 102).run prog w = .ok (.agg #[.nilFunc, .nilFunc]) w := lB
 obtain ⟨W0, hW0, r0, r6, b0, s0⟩ := cN w (cpc k) (cpc cz) 31 31
 have HM := hid hm
 have HI := hid hi
 have HX : Hid (∀ g, Rgd g (PR k) 0#64 0#64 n) := fun g => AX g (PR k) 0#64 0#64 (fR k) n hx
 clear hm hi hx s0
 go_enter func136, ntmps136
 go_upto_region 1 with fail
 clear hW0 hzc
 go_upto_region 2 with (first | (refine wpList_load_row (by rfl) _ _ (by rfl) _ (by rfl) 31 _ (0, 0) _ r0.out underlying31 (by rfl) (aB _) ?_) | (go_at_call 10; refine (jF k _).mono ?_; rintro e w1 ⟨rfl, hb1⟩; have HB1 := hid hb1; clear hb1) | (refine gL (by rfl) _ (by rfl) (PR k) (by rfl) ?_) | (refine cS (by rfl) _ _ _ (by rfl) (by rfl) w1 (sxc cz 0#64 0#64) (sxc (PR k) 0#64 0#64) (by rfl) (by rfl) (by rfl) (lN _ _ _) (by rw [dK, dK]) (jO _ _ _) ?_))
 refine jB (motive := fun W => Code.wp _ _ _ _ W) (Q := fun W => Sr W w1.heap.size (PR k) 0#64 0#64 ∧ Row W (w.heap.size + 1) (cpc cz) 31 ∧ Below w.heap.size w W ∧ w.heap.size + 1 < w1.heap.size) ⟨Row.new w1 (sxc (PR k) 0#64 0#64) 99, r6.out.ca HB1.out _, (b0.out.trans (HB1.out.mono b0.out.size)).alloc (ZqO b0.out.size HB1.out.size) _, ZqS r6.out.lt HB1.out.size⟩ ?_
 clear r0 r6 b0 HB1 hz
 generalize w1.heap.size = g
 rintro W2 ⟨q1, q3, q2, q4⟩
 have HS0 := hid q1
 have R60 := hid q3
 have BB := hid q2
 have HG := hid q4
 clear q1 q2 q3 q4
 go_upto_region 4 with (go_at_call 170; refine (mG g (PR k) 0#64 0#64 n W2 HS0.out).mono ?_; rw [HM.out]; rintro e u1 ⟨rfl, hb⟩; have HB1 := hid hb; clear hb)
 have HS : Hid (Sr u1 g (PR k) 0#64 0#64) := HS0.out.later HB1.out HS0.out.lt
 have R6 : Hid (Row u1 (w.heap.size + 1) (cpc cz) 31) := R60.out.cb HB1.out
 have B1 : Hid (Below w.heap.size w u1) := BB.out.trans (HB1.out.mono BB.out.size)
 clear HS0 R60 BB HB1 HM
 obtain ⟨r, q, x, hrt, hcr, hcq, hrd, hwr⟩ := HX.out g
 have HRT := hid hrt
 have HWR : Hid (∀ W, Sr W g (PR k) 0#64 0#64 → Calls prog q #[x, .int .u64 (n64 v)] W fun e w' => e = .returned (.tuple #[]) ∧ Sr w' g (PR (KW (PR k) n v)) 0#64 0#64 ∧ Below g W w') := fun W h => hwr v W h
 clear hrt hrd hwr hcr HX
 go_upto_region 5 with (go_at_call 36; refine (iX _ _ _ _ _ HS.out).mono ?_; rintro e u2 ⟨b, rfl, hm, hs, hb⟩; have hl := hm.asked n HI.out HRT.out; have HS2 := hid hs; have HB2 := hid hb; clear hm hs hb)
 clear hl
 go_upto_region 8 with (refine (HWR.out _ (HS2.out.old _)).mono ?_; rintro e u3 ⟨rfl, hs3, hb3⟩; have HS3 := hid hs3; have HB3 : Hid (Below g _ u3) := hb3; clear hs3 hb3)
 have R63 : Hid (Row u3 (w.heap.size + 1) (cpc cz) 31) := Row.later (R6.out.ca HB2.out _) HB3.out HG.out
 have B3 : Hid (Below w.heap.size w u3) := ((B1.out.trans (HB2.out.mono B1.out.size)).alloc (ZqO B1.out.size HB2.out.size) _).trans (HB3.out.mono (by have := HG.out; omega))
 clear HS R6 B1 HS2 HB2 HB3 HWR
 go_wp2_with (first | (refine aY (by rfl) 31 _ (by rfl) g 0 (by rfl) (cpc (PR (KW (PR k) n v))) _ (Row.sxc HS3.out).1.agg underlying31 (by rfl) (aB _) ?_) | (refine aA (by rfl) _ _ _ (by rfl) (by rfl) _ _ _ (by rfl) (by rfl) R63.out (aB _) (by rw [aE, aE]) (aO _) ?_))
 refine ZqH (cE results136 _ _ (w.heap.size + 1) 31 _ (0, 0) _ _ (by rfl) (by rfl) (ZqW _ _ _ _ _ _ R63.out) underlying31 (by rfl) (aB _)) rfl ?_
 exact ⟨rfl, aW B3.out (by omega) _⟩
theorem NI : CWr := fun k n v hi W => by
 have e := WK_eq k n
 unfold WR
 cases hm : mw (PR k) n with
 | false =>
  rw [hm, Bool.and_false] at e
  rw [e, if_neg (by decide)]
  exact NG k n v hi hm W
 | true =>
  rw [hm, Bool.and_true] at e
  rw [e]
  cases hx : EX n with
  | false => rw [if_neg (by decide)]; exact NH k n v hi hm hx W
  | true => rw [if_pos rfl]; exact NJ k n v hi hm hx W
end Go.Proofs.YtddlmenfcbjoaaaGreatDoor
