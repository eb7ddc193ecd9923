/-
  Hq Kg Kh Ki.
-/
import Derived.Test.YtgblpjkpeihpeaaM17
import Derived.Lib.OwnKind
import Derived.Test.YtgblpjkpeihpeaaM24
import Derived.Test.YtgblpjkpeihpeaaM29
import Derived.Lib.Bytes
namespace Go.Proofs.Ytgblpjkpeihpeaa
set_option linter.unusedVariables false
set_option maxRecDepth 100000
open Go.ChangeShapes Go.WideShapes Go.ChangeAt Go.RowKit Go.Deep
/-- What lies below B has stayed as it was, and so have all rows that are no bytes. -/
structure Fr (B : Nat) (w w' : World) : Prop where
  b : Below B w w'
  k : ∀ (g : Nat) (cur : Array Value) (t : TypeId) (z : Nat × Nat), t ≠ 5 → w.heap[g]? = some (Obj.cells cur t z) → w'.heap[g]? = some (Obj.cells cur t z)
theorem Fr.refl (B : Nat) (w : World) : Fr B w w := ⟨Below.refl _ _, fun _ _ _ _ _ h => h⟩
theorem Fr.trans {B : Nat} {w w' w'' : World} (h : Fr B w w') (k : Fr B w' w'') : Fr B w w'' := ⟨h.b.trans k.b, fun g cur t z ht hg => k.k g cur t z ht (h.k g cur t z ht hg)⟩
theorem Fr.alloc {B : Nat} {w w' : World} (h : Fr B w w') (hB : B ≤ w'.heap.size) (o : Obj) : Fr B w (w'.alloc o) :=
  ⟨h.b.alloc hB o, fun g cur t z ht hg => by
    have h1 := h.k g cur t z ht hg
    rw [Below.heap_alloc w' o g (Array.getElem?_eq_some_iff.1 h1).1]; exact h1⟩
theorem Fr.grown {B n : Nat} {w w' : World} {v : Value} {xs : List Value} (ho : w.ownsRow B 5 1 v n xs) (hB : B ≤ w.heap.size) (hg : w.grownBy w' v.ownBlock) : Fr B w w' :=
  ⟨(Below.refl _ _).grown hg hB (fun k hk => (ho.lt k hk).1), fun g cur t z ht h => by
    rw [hg.block g (Array.getElem?_eq_some_iff.1 h).1 (fun e => ?_)]
    · exact h
    · obtain ⟨c, fz, h2⟩ := Go.Lib.ownsRow_kind ho g e.symm
      rw [h] at h2
      simp at h2
      exact ht h2.2.1⟩
theorem Fr.of {B : Nat} {w w' : World} (h : Below w.heap.size w w') (hB : B ≤ w.heap.size) : Fr B w w' := ⟨h.mono hB, fun g cur t z ht hg => by
  rw [h.block g (Array.getElem?_eq_some_iff.1 hg).1]; exact hg⟩
theorem Row.fr {B g : Nat} {w w' : World} {cs : Array Value} {t : TypeId} (h : Row w g cs t) (hf : Fr B w w') (ht : t ≠ 5) : Row w' g cs t := hf.k g cs t (0, 0) ht h
/-- A list of bytes of one's own. -/
def Owb (B : Nat) (w : World) (v : Value) (l : List Int) : Prop := w.ownsRow B 5 1 v l.length (bv l)
/-- Some bytes appended, out of a new block. -/
theorem appN {ops : Array Oper} {rest : List Oper} {o : Oper} {a : Act} {w : World} {Q : Exit → Act → World → Prop} (hgd : o.guard = none) (s x : Operand) (ho : o.op = .call { callee := .builtin .append, args := #[s, x], argTypes := #[32, 32] })
    (B : Nat) (vb : Value) (lb m : List Int) (hs : a.eval s = vb) (hp : Owb B w vb lb) (h0 n : Nat) (hn : n = m.length) (hx : a.eval x = .slice (some ⟨h0, 0, none⟩) n n) (hh0 : h0 = w.heap.size) (hl : lb.length + m.length < 140737488355328) (hB : B ≤ w.heap.size)
    (h : ∀ v' w', Owb B w' v' (lb ++ m) → Fr B w w' → wpList Try.prog ops Q rest (a.put o.dst v') w') :
    wpList Try.prog ops Q (o :: rest) a (w.alloc (.cells (bv m).toArray 5)) := by
  subst hh0
  subst hn
  obtain ⟨i0, hi, hz0, hz1, hz2⟩ := info_parts info5
  refine wpList_append_own _ hgd s x 32 ho B 5 i0 (.int .u8 0) 1 1 Try.underlying32 hi hz0 hz1 hz2 rfl (by decide) vb lb.length (bv lb) hs (World.ownsRow.alloc hp _) ⟨w.heap.size, 0, none⟩ m.length m.length (bv m) hx (by simp [bv]) ?_ ?_ (by unfold maxLen; omega) (by omega) (by simp; omega) ?_
  · intro j u hj
    rw [addAt, Nat.zero_add, (Row.new w _ _).cell, List.getElem?_toArray]; exact hj
  · intro u hu; simp [bv] at hu; obtain ⟨q, _, rfl⟩ := hu; rfl
  · intro v' w' h1 h2 _
    have hg : w.grownBy w' vb.ownBlock := ⟨h2.os, h2.tape, h2.output, Nat.le_trans (by simp) h2.size, fun k hk hne => (h2.block k (by simp; omega) hne).trans (Below.heap_alloc w _ k hk)⟩
    exact h v' w' (by unfold Owb; simpa [bv] using h1) (Fr.grown hp hB hg)
/-- Bytes appended, wherever they lie. -/
theorem appY {ops : Array Oper} {rest : List Oper} {o : Oper} {a : Act} {w : World} {Q : Exit → Act → World → Prop} (hgd : o.guard = none) (s x : Operand) (ho : o.op = .call { callee := .builtin .append, args := #[s, x], argTypes := #[32, 32] })
    (B : Nat) (v u : Value) (m l : List Int) (hs : a.eval s = v) (hown : Owb B w v m) (hx : a.eval x = u) (hu : Byt w u l) (hl : m.length + l.length ≤ 140737488355328) (hB : B ≤ w.heap.size)
    (h : ∀ v' w', Owb B w' v' (m ++ l) → Fr B w w' → wpList Try.prog ops Q rest (a.put o.dst v') w') :
    wpList Try.prog ops Q (o :: rest) a w :=
  appL hgd s x ho B v u m l hs hown hx hu hl hB fun v' w' h1 h2 => h v' w' h1 (Fr.grown hown hB h2)
theorem qnum_fin {w wr : World} {B N k n : Nat} {v : Value} {lb : List Int} (hk : k = n) (hp : Owb B wr v (lb ++ ptL N k)) (hb : Fr B w wr) :
    ∃ u, Ending.returned v = .returned u ∧ Owb B wr u (lb ++ ptL N n) ∧ Fr B w wr := by
  subst hk
  exact ⟨v, rfl, hp, hb⟩
set_option maxHeartbeats 1000000 in
theorem qnum_c (B : Nat) (vb : Value) (lb : List Int) (N n : Nat) (w : World) (hp : Owb B w vb lb) (hN : N < 2 ^ 64) (hn : n ≤ 24) (hlb : lb.length < 140737488350000) (hB : B ≤ w.heap.size) :
    Calls Try.prog 33 #[vb, .int .u64 N, .int .i64 n] w fun e w' => ∃ v, e = .returned v ∧ Owb B w' v (lb ++ ptL N n) ∧ Fr B w w' := by
  have HP := Hid.mk' hp
  have HNB : Hid (N < 2 ^ 64) := hN
  have HL := Hid.mk' hlb
  have HBW : Hid (B ≤ w.heap.size) := hB
  clear hp hN hlb hB
  go_enter Try.func33, Try.ntmps33
  go_wp2
  go_loopw [0, 1, 7] (fun l v i wr => ∃ k : Nat, k ≤ n ∧ i = .int .i64 k ∧ v = .int .u64 ((N / 256 ^ k : Nat) : Int) ∧ Hid (Owb B wr l (lb ++ ptL N k)) ∧ Hid (Fr B w wr)) (fun _ _ i _ => n - (intOf i).toNat)
  case atStart => exact ⟨0, Nat.zero_le _, rfl, by simp, by simpa [ptL] using HP, Fr.refl _ _⟩
  case round =>
    obtain ⟨k, hk, rfl, rfl, hown, hbel⟩ := hrel
    by_cases hlt : k < n
    · have hz : (k : Int) < (n : Int) := by omega
      have HS : Hid (ptL N (k + 1) = ptL N k ++ [((N / 256 ^ k % 256 : Nat) : Int)]) := ptL_succ N k
      have HD : Hid (N / 256 ^ (k + 1) = N / 256 ^ k / 256) := by unfold Hid; rw [Nat.pow_succ, Nat.div_div_eq_div_mul]
      have hlen : (lb ++ ptL N k).length < 140737488355000 := by have := HL.out; rw [List.length_append, ptL_length]; omega
      have hM : N / 256 ^ k < 2 ^ 64 := Nat.lt_of_le_of_lt (Nat.div_le_self _ _) HNB.out
      obtain ⟨M, hM0⟩ : ∃ M, M = N / 256 ^ k := ⟨_, rfl⟩
      rw [← hM0] at hM ⊢
      have HM : Hid (M = N / 256 ^ k) := hM0
      clear hM0
      have hMi : ((M : Nat) : Int) < 18446744073709551616 := by omega
      clear hM
      have hBs : B ≤ wr.heap.size := Nat.le_trans HBW.out hbel.out.b.size
      go_wp2_with (at_builtin; refine appN (by rfl) _ _ (by rfl) B _ (lb ++ ptL N k) [(M : Int) % 256] (by rfl) hown.out _ 1 (by rfl) (by rfl) (by simp) (by have := hlen; simp at this ⊢; omega) hBs ?_; intro v' w1 hown1 hg1)
      have HG := Hid.mk' hg1
      have HO1 := hown1
      rw [show ((M : Int) % 256) = ((M % 256 : Nat) : Int) from rfl, HM.out, List.append_assoc, ← HS.out] at HO1
      have HO := Hid.mk' HO1
      clear HO1 hg1 hown1
      go_roundw
      case rel =>
        refine ⟨k + 1, by omega, by go_num, ?_, HO, ?_⟩
        · rw [HD.out, ← HM.out]; rfl
        · exact hbel.out.trans HG.out
      case measure => simp [intOf]; omega
    · have hkn : k = n := by omega
      have HK : Hid (k = n) := hkn
      have hz : (n : Int) ≤ (k : Int) := by omega
      clear hkn hlt
      go_wp2
      go_ret
      exact qnum_fin HK.out hown.out hbel.out
/-- Of a number that is a word. -/
theorem qnum_b (B : Nat) (vb : Value) (lb : List Int) (x : BitVec 64) (n : Nat) (w : World) (hp : Owb B w vb lb) (hn : n ≤ 24) (hlb : lb.length < 140737488350000) (hB : B ≤ w.heap.size) :
    Calls Try.prog 33 #[vb, .int .u64 (n64 x), .int .i64 n] w fun e w' => ∃ v, e = .returned v ∧ Owb B w' v (lb ++ ptL x.toNat n) ∧ Fr B w w' :=
  qnum_c B vb lb x.toNat n w hp x.isLt hn hlb hB
theorem qflag_c (B : Nat) (vb : Value) (lb : List Int) (b : Bool) (w : World) (hp : Owb B w vb lb) (hlb : lb.length < 140737488350000) (hB : B ≤ w.heap.size) :
    Calls Try.prog 53 #[vb, .bool b] w fun e w' => ∃ v, e = .returned v ∧ Owb B w' v (lb ++ [fl b]) ∧ Fr B w w' := by
  have HP := Hid.mk' hp
  clear hp
  cases b
  · go_enter Try.func53, Try.ntmps53
    go_wp2_with (at_builtin; refine appN (by rfl) _ _ (by rfl) B _ lb [0] (by rfl) HP.out _ 1 (by rfl) (by rfl) (by simp) (by simp; omega) hB ?_; intro v' w1 hown1 hg1; have HO := Hid.mk' hown1; have HG := Hid.mk' hg1; clear hown1 hg1)
    go_ret
    exact ⟨_, rfl, HO.out, HG.out⟩
  · go_enter Try.func53, Try.ntmps53
    go_wp2_with (at_builtin; refine appN (by rfl) _ _ (by rfl) B _ lb [1] (by rfl) HP.out _ 1 (by rfl) (by rfl) (by simp) (by simp; omega) hB ?_; intro v' w1 hown1 hg1; have HO := Hid.mk' hown1; have HG := Hid.mk' hg1; clear hown1 hg1)
    go_ret
    exact ⟨_, rfl, HO.out, HG.out⟩
theorem qhead_c (w : World) : Calls Try.prog 27 #[] w fun e w' => e = .returned (.slice (some ⟨w.heap.size, 0, none⟩) 8 8) ∧ Owb w.heap.size w' (.slice (some ⟨w.heap.size, 0, none⟩) 8 8) headB ∧ Below w.heap.size w w' := by
  have HO : Hid (Owb w.heap.size (w.alloc (.cells (bv headB).toArray 5)) (.slice (some ⟨w.heap.size, 0, none⟩) 8 8) headB) := ⟨by simp [bv, headB], .inr ⟨w.heap.size, 8, (bv headB).toArray, rfl, Nat.le_refl _, heap_alloc_new w _, by simp [headB], by unfold maxLen; omega, by simp [bv, headB], by simp [bv, headB]⟩⟩
  go_enter Try.func27, Try.ntmps27
  go_wp2
  go_ret
  exact ⟨rfl, HO.out, below_al _ _⟩
end Go.Proofs.Ytgblpjkpeihpeaa
namespace Go.Proofs.Ytgblpjkpeihpeaa
set_option linter.unusedVariables false
set_option maxRecDepth 100000
open Go.ChangeShapes Go.WideShapes Go.ChangeAt Go.RowKit Go.Deep
set_option maxHeartbeats 4000000 in
theorem rload_short {w : World} {a : Option Addr} {c : Nat} {l : List Int} (hb : Byt w (.slice a l.length c) l) (hl : l.length ≤ 140737488355328) (hh : l.length < 12) :
    Calls Try.prog 17 #[.slice a l.length c] w fun e w' => LoadP l w e w' := by
  have hz := zero_wh
  obtain ⟨W0, hW0, r0, b0, s0⟩ := start1 w whz 37
  have HB := Hid.mk' b0.out
  have HR := Hid.mk' r0.out
  have HHD := Hid.mk' (qhead_c W0)
  have HBB := Hid.mk' (hb.later b0.out rfl)
  clear hb
  have hE : ldH l = false := by unfold ldH; simp; omega
  have HE := Hid.mk' (show ldE l = 161 from by unfold ldE; rw [if_pos hE])
  have HV := Hid.mk' (show ldV l = (cz, zS) from by unfold ldV; rw [if_pos hE])
  have h1 : ((l.length : Nat) : Int) < 12 := by omega
  clear hE hh HBB
  generalize l.length = n at *
  have HRL : Hid (w.heap.size < W0.heap.size) := HR.out.lt
  have HWG : Hid (w.heap.size ≤ W0.heap.size) := HB.out.size
  go_enter Try.func17, Try.ntmps17
  go_upto_region 1 with fail
  clear hz hW0 r0 b0 s0
  go_upto_region 2 with (go_at_call 27; refine HHD.out.mono ?_; rintro e W1 ⟨rfl, hob, hbl⟩; have HOB := Hid.mk' hob; have HBL := Hid.mk' hbl; clear hob hbl)
  have HR1 := Hid.mk' (HR.out.later HBL.out HRL.out)
  have HB1 := Hid.mk' (HB.out.trans (HBL.out.mono HWG.out))
  have := later_nonempty W1
  refine wp_region_later (x0 := Later.start W1) (by kernel_rfl) (by kernel_rfl) ?_
  repeat (go_big_quiet_step (fail))
  refine wpQuiet_nil ?_
  rintro w' ⟨x9, rfl⟩
  have HR9 := Hid.mk' (HR1.out.later x9.below HR1.out.lt)
  have HB9 := Hid.mk' (HB1.out.trans (x9.below.mono HB1.out.size))
  have HI := Hid.mk' info_whz
  have HON := Hid.mk' whz_ones
  have HBW := Hid.mk' built_wh
  clear this
  go_wp2_with (first | (refine wpList_build_tab (by rfl) 37 _ (by rfl) whz HBW.out ?_) | (refine wpList_store_row (by rfl) _ _ _ (by rfl) (by rfl) _ _ _ (by rfl) (by rfl) HR9.out HI.out rfl HON.out ?_))
  refine bodyPost_ret (v := .tuple #[.agg whz, .int .i64 161]) (results_row_slot Try.results17 _ _ w.heap.size 37 _ (0, 0) _ _ (by rfl) (by rfl) (setRow_heap _ _ _ _ _ _ HR9.out) Try.underlying37 (by rfl) HI.out) rfl ?_
  exact LoadP.no HE.out HV.out (below_row HB9.out (Nat.le_refl _) _)
set_option maxHeartbeats 4000000 in
theorem rload_long {w : World} {a : Option Addr} {c : Nat} {l : List Int} (hb : Byt w (.slice a l.length c) l) (hl : l.length ≤ 140737488355328) (hh : 72000 < l.length) :
    Calls Try.prog 17 #[.slice a l.length c] w fun e w' => LoadP l w e w' := by
  have hz := zero_wh
  obtain ⟨W0, hW0, r0, b0, s0⟩ := start1 w whz 37
  have HB := Hid.mk' b0.out
  have HR := Hid.mk' r0.out
  have HHD := Hid.mk' (qhead_c W0)
  have HBB := Hid.mk' (hb.later b0.out rfl)
  clear hb
  have hE : ldH l = false := by unfold ldH; simp; omega
  have HE := Hid.mk' (show ldE l = 161 from by unfold ldE; rw [if_pos hE])
  have HV := Hid.mk' (show ldV l = (cz, zS) from by unfold ldV; rw [if_pos hE])
  have h1 : ¬ ((l.length : Nat) : Int) < 12 := by omega
  have h1b : decide (((l.length : Nat) : Int) < 12) = false := by simp [h1]
  have h2 : 72000 < ((l.length : Nat) : Int) := by omega
  have h2b : decide (72000 < ((l.length : Nat) : Int)) = true := by simp [h2]
  clear hE hh HBB
  generalize l.length = n at *
  have HRL : Hid (w.heap.size < W0.heap.size) := HR.out.lt
  have HWG : Hid (w.heap.size ≤ W0.heap.size) := HB.out.size
  go_enter Try.func17, Try.ntmps17
  go_upto_region 1 with fail
  clear hz hW0 r0 b0 s0
  go_upto_region 2 with (go_at_call 27; refine HHD.out.mono ?_; rintro e W1 ⟨rfl, hob, hbl⟩; have HOB := Hid.mk' hob; have HBL := Hid.mk' hbl; clear hob hbl)
  have HR1 := Hid.mk' (HR.out.later HBL.out HRL.out)
  have HB1 := Hid.mk' (HB.out.trans (HBL.out.mono HWG.out))
  have := later_nonempty W1
  refine wp_region_later (x0 := Later.start W1) (by kernel_rfl) (by kernel_rfl) ?_
  repeat (go_big_quiet_step (fail))
  refine wpQuiet_nil ?_
  rintro w' ⟨x9, rfl⟩
  have HR9 := Hid.mk' (HR1.out.later x9.below HR1.out.lt)
  have HB9 := Hid.mk' (HB1.out.trans (x9.below.mono HB1.out.size))
  have HI := Hid.mk' info_whz
  have HON := Hid.mk' whz_ones
  have HBW := Hid.mk' built_wh
  clear this
  go_wp2_with (first | (refine wpList_build_tab (by rfl) 37 _ (by rfl) whz HBW.out ?_) | (refine wpList_store_row (by rfl) _ _ _ (by rfl) (by rfl) _ _ _ (by rfl) (by rfl) HR9.out HI.out rfl HON.out ?_))
  refine bodyPost_ret (v := .tuple #[.agg whz, .int .i64 161]) (results_row_slot Try.results17 _ _ w.heap.size 37 _ (0, 0) _ _ (by rfl) (by rfl) (setRow_heap _ _ _ _ _ _ HR9.out) Try.underlying37 (by rfl) HI.out) rfl ?_
  exact LoadP.no HE.out HV.out (below_row HB9.out (Nat.le_refl _) _)
set_option maxHeartbeats 4000000 in
theorem rload_head {w : World} {a : Option Addr} {c : Nat} {l : List Int} (hb : Byt w (.slice a l.length c) l) (hl : l.length ≤ 140737488355328) (h12 : 12 ≤ l.length) (h72 : l.length ≤ 72000) (hh : ((strOfNums (l.take 8)).toList == [65, 78, 86, 73, 76, 83, 1, 90]) = false) :
    Calls Try.prog 17 #[.slice a l.length c] w fun e w' => LoadP l w e w' := by
  have hz := zero_wh
  obtain ⟨W0, hW0, r0, b0, s0⟩ := start1 w whz 37
  have HB := Hid.mk' b0.out
  have HR := Hid.mk' r0.out
  have HHD := Hid.mk' (qhead_c W0)
  have HBB := Hid.mk' (hb.later b0.out rfl)
  clear hb
  have hE : ldH l = false := by unfold ldH; simp only [hh, Bool.and_false]
  have HE := Hid.mk' (show ldE l = 161 from by unfold ldE; rw [if_pos hE])
  have HV := Hid.mk' (show ldV l = (cz, zS) from by unfold ldV; rw [if_pos hE])
  have h1 : ¬ ((l.length : Nat) : Int) < 12 := by omega
  have h1b : decide (((l.length : Nat) : Int) < 12) = false := by simp [h1]
  have h2 : ¬ 72000 < ((l.length : Nat) : Int) := by omega
  have h2b : decide (72000 < ((l.length : Nat) : Int)) = false := by simp [h2]
  obtain ⟨hcc, q1, q2, q3, q4⟩ := load_parts HBB.out h12
  have hs8 : ∀ W, (Instr.slice 32 (.slice a l.length c) none (some (.int .i64 ((8 : Nat) : Int))) none).run Try.prog W = .ok (.slice a 8 c) W := fun W => by
    have q := sl_h W a l.length c 8 (by omega)
    rw [if_neg (by omega), map_add0] at q; exact q
  rw [show ((8 : Nat) : Int) = 8 from rfl] at hs8
  have HQ1 := Hid.mk' q1
  have hsh : (strOfNums headB).toList = [65, 78, 86, 73, 76, 83, 1, 90] := by kernel_rfl
  clear hE q1 q2 q3 q4 hcc h12 h72 HBB
  have HRL : Hid (w.heap.size < W0.heap.size) := HR.out.lt
  have HWG : Hid (w.heap.size ≤ W0.heap.size) := HB.out.size
  generalize hs8l : strOfNums (l.take 8) = s8 at *
  generalize l.length = n at *
  go_enter Try.func17, Try.ntmps17
  go_upto_region 1 with fail
  clear hz hW0 r0 b0 s0
  go_upto_region 2 with (go_at_call 27; refine HHD.out.mono ?_; rintro e W1 ⟨rfl, hob, hbl⟩; have HOB := Hid.mk' hob; have HBL := Hid.mk' hbl; clear hob hbl)
  have HR1 := Hid.mk' (HR.out.later HBL.out HRL.out)
  have HB1 := Hid.mk' (HB.out.trans (HBL.out.mono HWG.out))
  have hcv : ∀ x : Later W1, (convert 32 9 (.slice a 8 c)).run Try.prog x.1 = .ok (.string s8) x.1 := fun x => by rw [← hs8l]; exact (HQ1.out.later (HBL.out.trans (x.below.mono HBL.out.size)) rfl).conv
  have hch : ∀ x : Later W1, (convert 32 9 (.slice (some ⟨W0.heap.size, 0, none⟩) 8 8)).run Try.prog x.1 = .ok (.string (strOfNums headB)) x.1 := fun x => ((Byt.of_own HOB.out).later x.below rfl).conv
  generalize strOfNums headB = sh at *
  clear hs8l
  have := later_nonempty W1
  refine wp_region_later (x0 := Later.start W1) (by kernel_rfl) (by kernel_rfl) ?_
  repeat (go_big_quiet_step (fail))
  refine wpQuiet_nil ?_
  rintro w' ⟨x9, rfl⟩
  have HR9 := Hid.mk' (HR1.out.later x9.below HR1.out.lt)
  have HB9 := Hid.mk' (HB1.out.trans (x9.below.mono HB1.out.size))
  have HI := Hid.mk' info_whz
  have HON := Hid.mk' whz_ones
  have HBW := Hid.mk' built_wh
  clear this
  clear hcv hch hs8
  go_wp2_with (first | (refine wpList_build_tab (by rfl) 37 _ (by rfl) whz HBW.out ?_) | (refine wpList_store_row (by rfl) _ _ _ (by rfl) (by rfl) _ _ _ (by rfl) (by rfl) HR9.out HI.out rfl HON.out ?_))
  refine bodyPost_ret (v := .tuple #[.agg whz, .int .i64 161]) (results_row_slot Try.results17 _ _ w.heap.size 37 _ (0, 0) _ _ (by rfl) (by rfl) (setRow_heap _ _ _ _ _ _ HR9.out) Try.underlying37 (by rfl) HI.out) rfl ?_
  exact LoadP.no HE.out HV.out (below_row HB9.out (Nat.le_refl _) _)
end Go.Proofs.Ytgblpjkpeihpeaa
namespace Go.Proofs.Ytgblpjkpeihpeaa
set_option linter.unusedVariables false
open Go.ChangeShapes Go.WideShapes Go.ChangeAt Go.RowKit Go.Deep
theorem str_back {l : List Int} (h : AllB l) : ((strOfNums l).data.toList).map (fun b => ((b.toNat : Nat) : Int)) = l := by
  rw [strOfNums_data, List.map_map]
  refine (List.map_congr_left (g := id) fun x hx => ?_).trans (List.map_id l)
  have hb := h x hx
  simp only [Function.comp, id, UInt8.toNat_ofNat']
  omega
theorem str_inj {A B : List Int} (hA : AllB A) (hB : AllB B) (h : (strOfNums A).toList = (strOfNums B).toList) : A = B := by
  rw [ByteArray.toList_eq, ByteArray.toList_eq] at h
  rw [← str_back hA, h, str_back hB]
theorem pt_of {M : List Int} (hM : AllB M) (h4 : M.length = 4) : ptL (tkN M 4) 4 = M := by
  apply List.ext_getElem?
  intro j
  by_cases hj : j < 4
  · have h1 := ptL_get (tkN M 4) 4 j hj
    have h2 := pt_tkN hM 4 j hj
    rw [h2] at h1
    have e1 : (ptL (tkN M 4) 4)[j]? = some ((ptL (tkN M 4) 4).getD j 0) := by simp [ptL_length, hj]
    have e2 : M[j]? = some (M.getD j 0) := by simp [h4, hj]
    rw [e1, e2, h1]
  · rw [List.getElem?_eq_none (by rw [ptL_length]; omega), List.getElem?_eq_none (by omega)]
theorem foot_eq {M : List Int} (hM : AllB M) (h4 : M.length = 4) (N : Nat) (hN : N < 4294967296) : ((strOfNums (ptL N 4)).toList == (strOfNums M).toList) = decide (((tk M : Nat) : Int) = (N : Int)) := by
  have ht : tk M = tkN M 4 := by unfold tk; rw [h4]; rfl
  rw [ht]
  by_cases e : tkN M 4 = N
  · rw [← e, pt_of hM h4]; simp
  · have e2 : ¬ (((tkN M 4 : Nat) : Int) = (N : Int)) := by omega
    rw [decide_eq_false e2, beq_eq_false_iff_ne]
    intro h
    have := str_inj (ptL_all N 4) hM h
    rw [← this, tkN_pt N 4 4 (Nat.le_refl _)] at e
    omega
end Go.Proofs.Ytgblpjkpeihpeaa
namespace Go.Proofs.Ytgblpjkpeihpeaa
set_option linter.unusedVariables false
set_option maxRecDepth 100000
open Go.ChangeShapes Go.WideShapes Go.ChangeAt Go.RowKit Go.Deep
set_option maxHeartbeats 4000000 in
theorem rload_sum {w : World} {a : Option Addr} {c : Nat} {l : List Int} (hb : Byt w (.slice a l.length c) l) (hl : l.length ≤ 140737488355328) (hall : AllB l) (h12 : 12 ≤ l.length) (h72 : l.length ≤ 72000) (hh : ((strOfNums (l.take 8)).toList == [65, 78, 86, 73, 76, 83, 1, 90]) = true) (hs : ldS l = false) :
    Calls Try.prog 17 #[.slice a l.length c] w fun e w' => LoadP l w e w' := by
  have hz := zero_wh
  obtain ⟨W0, hW0, r0, b0, s0⟩ := start1 w whz 37
  have HB := Hid.mk' b0.out
  have HR := Hid.mk' r0.out
  have HHD := Hid.mk' (qhead_c W0)
  have HBB := Hid.mk' (hb.later b0.out rfl)
  clear hb
  have hE : ldH l = true := by unfold ldH; simp only [hh, h12, h72, decide_true, Bool.and_self]
  have h1 : ¬ ((l.length : Nat) : Int) < 12 := by omega
  have h1b : decide (((l.length : Nat) : Int) < 12) = false := by simp [h1]
  have h2 : ¬ 72000 < ((l.length : Nat) : Int) := by omega
  have h2b : decide (72000 < ((l.length : Nat) : Int)) = false := by simp [h2]
  obtain ⟨hcc, q1, q2, q3, q4⟩ := load_parts HBB.out h12
  have hs8 : ∀ W, (Instr.slice 32 (.slice a l.length c) none (some (.int .i64 ((8 : Nat) : Int))) none).run Try.prog W = .ok (.slice a 8 c) W := fun W => by
    have q := sl_h W a l.length c 8 (by omega)
    rw [if_neg (by omega), map_add0] at q; exact q
  rw [show ((8 : Nat) : Int) = 8 from rfl] at hs8
  have hsn : ∀ W, (Instr.slice 32 (.slice a l.length c) none (some (.int .i64 ((l.length - 4 : Nat) : Int))) none).run Try.prog W = .ok (.slice a (l.length - 4) c) W := fun W => by
    have q := sl_h W a l.length c (l.length - 4) (by omega)
    rw [if_neg (by omega), map_add0] at q; exact q
  have hse : ∀ W, (Instr.slice 32 (.slice a l.length c) (some (.int .i64 ((l.length - 4 : Nat) : Int))) none none).run Try.prog W = .ok (.slice (a.map (fun x => x.add (l.length - 4))) (l.length - (l.length - 4)) (c - (l.length - 4))) W := fun W => by
    have q := sl_l W a l.length c (l.length - 4) (by omega)
    rw [if_neg (by omega)] at q; exact q
  rw [show ((l.length - 4 : Nat) : Int) = ((l.length : Nat) : Int) - 4 from by omega] at hsn hse
  have HQ1 := Hid.mk' q1
  have HQ3 := Hid.mk' q3
  have HQ2 : Hid (Byt W0 (.slice a (l.length - 4) c) (l.take (l.length - 4))) := (by
    have q := HBB.out.cut 0 (l.length - 4) c (Nat.zero_le _) (by omega) (Nat.le_refl _) (by omega)
    rw [if_neg (by omega), map_add0, List.drop_zero, Nat.sub_zero, Nat.sub_zero] at q
    exact q)
  have HFT := Hid.mk' (foot_eq (M := l.drop (l.length - 4)) (fun x hx => hall x (List.mem_of_mem_drop hx)) (by rw [List.length_drop]; omega) (sumB (l.take (l.length - 4))).toNat (by have := (sumB (l.take (l.length - 4))).isLt; omega))
  have hsh : (strOfNums headB).toList = [65, 78, 86, 73, 76, 83, 1, 90] := by kernel_rfl
  have hs' : decide (((tk (l.drop (l.length - 4)) : Nat) : Int) = (((sumB (l.take (l.length - 4))).toNat : Nat) : Int)) = false := hs
  rw [hs'] at HFT
  have HLL : Hid ((l.take (l.length - 4)).length ≤ 72000) := (by unfold Hid; rw [List.length_take]; omega)
  have HE := Hid.mk' (show ldE l = 160 from by unfold ldE; rw [hE, if_neg (by simp), if_pos hs])
  have HV := Hid.mk' (show ldV l = (cz, zS) from by unfold ldV; rw [hE, if_neg (by simp), if_pos hs])
  clear hE q1 q2 q3 q4 hcc hall HBB hs hs'
  have HRL : Hid (w.heap.size < W0.heap.size) := HR.out.lt
  have HWG : Hid (w.heap.size ≤ W0.heap.size) := HB.out.size
  generalize hs8l : strOfNums (l.take 8) = s8 at *
  generalize hLL : l.take (l.length - 4) = L at *
  generalize hMM : l.drop (l.length - 4) = M at *
  generalize (a.map (fun x => x.add (l.length - 4))) = aE at *
  generalize l.length = n at *
  go_enter Try.func17, Try.ntmps17
  go_upto_region 1 with fail
  clear hz hW0 r0 b0 s0
  go_upto_region 2 with (go_at_call 27; refine HHD.out.mono ?_; rintro e W1 ⟨rfl, hob, hbl⟩; have HOB := Hid.mk' hob; have HBL := Hid.mk' hbl; clear hob hbl)
  have HR1 := Hid.mk' (HR.out.later HBL.out HRL.out)
  have HB1 := Hid.mk' (HB.out.trans (HBL.out.mono HWG.out))
  have hcv : ∀ x : Later W1, (convert 32 9 (.slice a 8 c)).run Try.prog x.1 = .ok (.string s8) x.1 := fun x => by rw [← hs8l]; exact (HQ1.out.later (HBL.out.trans (x.below.mono HBL.out.size)) rfl).conv
  have hch : ∀ x : Later W1, (convert 32 9 (.slice (some ⟨W0.heap.size, 0, none⟩) 8 8)).run Try.prog x.1 = .ok (.string (strOfNums headB)) x.1 := fun x => ((Byt.of_own HOB.out).later x.below rfl).conv
  generalize strOfNums headB = sh at *
  have heqs : s8.toList = sh.toList := by rw [hsh]; simpa using hh
  clear hs8l
  have := later_nonempty W1
  refine wp_region_later (x0 := Later.start W1) (by kernel_rfl) (by kernel_rfl) ?_
  repeat (go_big_quiet_step (fail))
  refine wpQuiet_nil ?_
  rintro w' ⟨x9, rfl⟩
  have HR9 := Hid.mk' (HR1.out.later x9.below HR1.out.lt)
  have HB9 := Hid.mk' (HB1.out.trans (x9.below.mono HB1.out.size))
  have HI := Hid.mk' info_whz
  have HON := Hid.mk' whz_ones
  have HBW := Hid.mk' built_wh
  clear this
  have HX0 : Hid (Below W0.heap.size W0 x9.1) := HBL.out.trans (x9.below.mono HBL.out.size)
  clear hcv hch hs8 hh hsh heqs h1 h1b h2 h2b
  have HSM := Hid.mk' (rsum_c L _ x9.1 (HQ2.out.later HX0.out rfl) (by have := HLL.out; omega))
  have HNM : Hid (Calls Try.prog 33 #[.slice none 0 0, .int .u64 (n32 (sumB L)), .int .i64 ((4 : Nat) : Int)] x9.1 fun e w' => ∃ v, e = .returned v ∧ Owb x9.1.heap.size w' v ([] ++ ptL (sumB L).toNat 4) ∧ Fr x9.1.heap.size x9.1 w') := qnum_c x9.1.heap.size (.slice none 0 0) [] (sumB L).toNat 4 x9.1 ⟨by simp [bv], .inl ⟨rfl, rfl⟩⟩ (by have := (sumB L).isLt; omega) (by omega) (by simp) (Nat.le_refl _)
  have hr2 := n32_hiJ (sumB L)
  have hr3 := n32_loJ (sumB L)
  rw [List.nil_append] at HNM
  generalize n32 (sumB L) = SM at *
  generalize ptL (sumB L).toNat 4 = PT at *
  go_upto_region 7 with (first | (go_at_call 32; refine HSM.out.mono ?_; rintro e w5 ⟨rfl, hw5⟩; have hw6 := hw5.symm; subst hw6) | (go_at_call 33; refine HNM.out.mono ?_; rintro e W4 ⟨v, rfl, hov, hfr⟩; have HOV := Hid.mk' hov; have HFR := Hid.mk' hfr; clear hov hfr))
  have HX4 : Hid (Below W0.heap.size W0 W4) := HX0.out.trans (HFR.out.b.mono HX0.out.size)
  have hcv : ∀ x : Later W4, (convert 32 9 v).run Try.prog x.1 = .ok (.string (strOfNums PT)) x.1 := fun x => ((Byt.of_own HOV.out).later x.below rfl).conv
  have hce : ∀ x : Later W4, (convert 32 9 (.slice aE (n - (n - 4)) (c - (n - 4)))).run Try.prog x.1 = .ok (.string (strOfNums M)) x.1 := fun x => (HQ3.out.later (HX4.out.trans (x.below.mono HX4.out.size)) rfl).conv
  have hft := HFT.out
  generalize strOfNums PT = s1 at *
  generalize strOfNums M = s2 at *
  have := later_nonempty W4
  refine wp_region_later (x0 := Later.start W4) (by kernel_rfl) (by kernel_rfl) ?_
  repeat (go_big_quiet_step (fail))
  refine wpQuiet_nil ?_
  rintro w' ⟨x8, rfl⟩
  have HR8 := Hid.mk' ((HR9.out.later HFR.out.b HR9.out.lt).later x8.below (Nat.lt_of_lt_of_le HR9.out.lt HFR.out.b.size))
  have HB8 := Hid.mk' ((HB9.out.trans (HFR.out.b.mono HB9.out.size)).trans (x8.below.mono (HB9.out.trans (HFR.out.b.mono HB9.out.size)).size))
  have HX8 : Hid (Below W0.heap.size W0 x8.1) := HX4.out.trans (x8.below.mono HX4.out.size)
  clear this hcv hce hft hsn hse
  go_wp2_with (first | (refine wpList_build_tab (by rfl) 37 _ (by rfl) whz HBW.out ?_) | (refine wpList_store_row (by rfl) _ _ _ (by rfl) (by rfl) _ _ _ (by rfl) (by rfl) HR8.out HI.out rfl HON.out ?_))
  refine bodyPost_ret (v := .tuple #[.agg whz, .int .i64 160]) (results_row_slot Try.results17 _ _ w.heap.size 37 _ (0, 0) _ _ (by rfl) (by rfl) (setRow_heap _ _ _ _ _ _ HR8.out) Try.underlying37 (by rfl) HI.out) rfl ?_
  exact LoadP.no HE.out HV.out (below_row HB8.out (Nat.le_refl _) _)
end Go.Proofs.Ytgblpjkpeihpeaa
