/-
  Jl.
-/
import Derived.Test.YtgblpjkpeihpeaaM26
import Derived.Test.YtgblpjkpeihpeaaM15
import Derived.Test.YtgblpjkpeihpeaaM28
namespace Go.Proofs.Ytgblpjkpeihpeaa
set_option linter.unusedVariables false
set_option maxRecDepth 100000
open Go.ChangeShapes Go.WideShapes Go.ChangeAt Go.RowKit Go.Deep
/-- The length and the first bytes are a snapshot's. -/
def ldH (l : List Int) : Bool := decide (12 ≤ l.length) && decide (l.length ≤ 72000) && ((strOfNums (l.take 8)).toList == [65, 78, 86, 73, 76, 83, 1, 90])
/-- Its sum is right. -/
def ldS (l : List Int) : Bool := decide (((tk (l.drop (l.length - 4)) : Nat) : Int) = n32 (sumB (l.take (l.length - 4))))
/-- Can this whole be. -/
noncomputable def ldW (x : Cp × St) : Bool := @decide (cpc x.1 = cpc (PR x.1)) (Classical.propDecidable _) && x.2.ok
/-- What Load answers. -/
noncomputable def ldE (l : List Int) : Int :=
  if ldH l = false then 161 else if ldS l = false then 160 else
  match rdV (l.take (l.length - 4)) with
  | none => 161
  | some x => if ldW x then 0 else 162
noncomputable def ldV (l : List Int) : Cp × St :=
  if ldH l = false then (cz, zS) else if ldS l = false then (cz, zS) else
  match rdV (l.take (l.length - 4)) with
  | none => (cz, zS)
  | some x => if ldW x then x else (cz, zS)
def LoadP (l : List Int) (w : World) (e : Ending) (w' : World) : Prop :=
  ∃ (a0 a1 a2 : Option Addr) (n0 n1 n2 c0 c1 c2 : Nat), e = .returned (.tuple #[.agg (whc (ldV l).1 (ldV l).2 (.slice a0 n0 c0) (.slice a1 n1 c1) (.slice a2 n2 c2)), .int .i64 (ldE l)]) ∧ Bs (ldV l).2 (.slice a0 n0 c0) (.slice a1 n1 c1) (.slice a2 n2 c2) w' ∧
    ((∀ k, (Value.slice a0 n0 c0).ownBlock = some k → w.heap.size ≤ k) ∧ (∀ k, (Value.slice a1 n1 c1).ownBlock = some k → w.heap.size ≤ k) ∧ (∀ k, (Value.slice a2 n2 c2).ownBlock = some k → w.heap.size ≤ k)) ∧ Below w.heap.size w w'
theorem LoadP.no {l : List Int} {w : World} {n : Int} {w' : World} (h1 : ldE l = n) (h2 : ldV l = (cz, zS)) (hb : Below w.heap.size w w') : LoadP l w (.returned (.tuple #[.agg whz, .int .i64 n])) w' := by
  refine ⟨none, none, none, 0, 0, 0, 0, 0, 0, by rw [h1, h2]; rfl, by rw [h2]; exact ⟨Byt.nil _, Byt.nil _, Byt.nil _⟩, ⟨(fun k hk => by cases hk), (fun k hk => by cases hk), (fun k hk => by cases hk)⟩, hb⟩
theorem n32_hiJ (x : BitVec 32) : n32 x < 4294967296 := by unfold n32; have := x.isLt; omega
theorem n32_loJ (x : BitVec 32) : 0 ≤ n32 x := by unfold n32; omega
theorem map_add0 (a : Option Addr) : a.map (fun x => x.add 0) = a := by
  cases a with
  | none => rfl
  | some x => simp [Addr.add]
theorem load_parts {w : World} {a : Option Addr} {c : Nat} {l : List Int} (hb : Byt w (.slice a l.length c) l) (h12 : 12 ≤ l.length) :
    l.length ≤ c ∧ Byt w (.slice a 8 c) (l.take 8) ∧ Byt w (.slice a (l.length - 4) (l.length - 4)) (l.take (l.length - 4)) ∧ Byt w (.slice (a.map (fun x => x.add (l.length - 4))) (l.length - (l.length - 4)) (c - (l.length - 4))) (l.drop (l.length - 4)) ∧
      Byt w (.slice (if l.length - 4 = 8 then a else a.map (fun x => x.add 8)) (l.length - 4 - 8) (l.length - 4 - 8)) ((l.take (l.length - 4)).drop 8) := by
  have hcc : l.length ≤ c := by obtain ⟨a', c', e, h, _⟩ := hb; cases e; exact h
  have q1 := hb.cut 0 8 c (Nat.zero_le _) (by omega) (Nat.le_refl _) (by omega)
  have q2 := hb.cut 0 (l.length - 4) (l.length - 4) (Nat.zero_le _) (Nat.le_refl _) (by omega) (by omega)
  have q3 := hb.cut (l.length - 4) l.length c (by omega) (by omega) (Nat.le_refl _) (Nat.le_refl _)
  rw [if_neg (by omega), map_add0, List.drop_zero, Nat.sub_zero, Nat.sub_zero] at q1
  rw [if_neg (by omega), map_add0, List.drop_zero, Nat.sub_zero] at q2
  rw [if_neg (by omega), List.take_of_length_le (by simp)] at q3
  have hlt : (l.take (l.length - 4)).length = l.length - 4 := by simp
  have q4 := q2.cut 8 (l.length - 4) (l.length - 4) (by omega) (Nat.le_refl _) (Nat.le_refl _) (by omega)
  rw [List.take_of_length_le (by rw [List.length_drop]; omega)] at q4
  exact ⟨hcc, q1, q2, q3, q4⟩
theorem built_wh : Try.prog.built 37 [] = some whz := by kernel_rfl
theorem info_whz : (Try.prog.info? 37).map (·.size) = some whz.size := info_wh _ _ _ _ _
theorem whz_ones : whz.all (·.oneCell') = true := whc_ones _ _ _ _ _ _ _ _ _ _ _
set_option maxHeartbeats 4000000 in
theorem load_short {w : World} {a : Option Addr} {c : Nat} {l : List Int} (hb : Byt w (.slice a l.length c) l) (hl : l.length ≤ 140737488355328) (hh : l.length < 12) :
    Calls Try.prog 16 #[.slice a l.length c] w fun e w' => LoadP l w e w' := by
  have hz := zero_wh
  obtain ⟨W0, hW0, r0, b0, s0⟩ := start1 w whz 37
  have hE : ldH l = false := by unfold ldH; simp; omega
  have HE := Hid.mk' (show ldE l = 161 from by unfold ldE; rw [if_pos hE])
  have HV := Hid.mk' (show ldV l = (cz, zS) from by unfold ldV; rw [if_pos hE])
  have HB := Hid.mk' b0.out
  have HR := Hid.mk' r0.out
  have h1 : ((l.length : Nat) : Int) < 12 := by omega
  clear hE hb hh
  generalize l.length = n at *
  go_enter Try.func16, Try.ntmps16
  go_upto_region 1 with fail
  clear hz hW0 r0 b0 s0
  have HI := Hid.mk' info_whz
  have HON := Hid.mk' whz_ones
  have HBW := Hid.mk' built_wh
  go_wp2_with (first | (refine wpList_build_tab (by rfl) 37 _ (by rfl) whz HBW.out ?_) | (refine wpList_store_row (by rfl) _ _ _ (by rfl) (by rfl) _ _ _ (by rfl) (by rfl) HR.out HI.out rfl HON.out ?_))
  refine bodyPost_ret (v := .tuple #[.agg whz, .int .i64 161]) (results_row_slot Try.results16 _ _ w.heap.size 37 _ (0, 0) _ _ (by rfl) (by rfl) (setRow_heap _ _ _ _ _ _ HR.out) Try.underlying37 (by rfl) HI.out) rfl ?_
  exact LoadP.no HE.out HV.out (below_row HB.out (Nat.le_refl _) _)
--@REST
set_option maxHeartbeats 4000000 in
theorem load_long {w : World} {a : Option Addr} {c : Nat} {l : List Int} (hb : Byt w (.slice a l.length c) l) (hl : l.length ≤ 140737488355328) (hh : 72000 < l.length) :
    Calls Try.prog 16 #[.slice a l.length c] w fun e w' => LoadP l w e w' := by
  have hz := zero_wh
  obtain ⟨W0, hW0, r0, b0, s0⟩ := start1 w whz 37
  have HB := Hid.mk' b0.out
  have HR := Hid.mk' r0.out
  have hE : ldH l = false := by unfold ldH; simp; omega
  have HE := Hid.mk' (show ldE l = 161 from by unfold ldE; rw [if_pos hE])
  have HV := Hid.mk' (show ldV l = (cz, zS) from by unfold ldV; rw [if_pos hE])
  have h1 : ¬ ((l.length : Nat) : Int) < 12 := by omega
  have h2 : 72000 < ((l.length : Nat) : Int) := by omega
  clear hE hb hh
  generalize l.length = n at *
  go_enter Try.func16, Try.ntmps16
  go_upto_region 1 with fail
  clear hz hW0 r0 b0 s0
  have HI := Hid.mk' info_whz
  have HON := Hid.mk' whz_ones
  have HBW := Hid.mk' built_wh
  go_wp2_with (first | (refine wpList_build_tab (by rfl) 37 _ (by rfl) whz HBW.out ?_) | (refine wpList_store_row (by rfl) _ _ _ (by rfl) (by rfl) _ _ _ (by rfl) (by rfl) HR.out HI.out rfl HON.out ?_))
  refine bodyPost_ret (v := .tuple #[.agg whz, .int .i64 161]) (results_row_slot Try.results16 _ _ w.heap.size 37 _ (0, 0) _ _ (by rfl) (by rfl) (setRow_heap _ _ _ _ _ _ HR.out) Try.underlying37 (by rfl) HI.out) rfl ?_
  exact LoadP.no HE.out HV.out (below_row HB.out (Nat.le_refl _) _)
set_option maxHeartbeats 4000000 in
theorem load_head {w : World} {a : Option Addr} {c : Nat} {l : List Int} (hb : Byt w (.slice a l.length c) l) (hl : l.length ≤ 140737488355328) (h12 : 12 ≤ l.length) (h72 : l.length ≤ 72000) (hh : ((strOfNums (l.take 8)).toList == [65, 78, 86, 73, 76, 83, 1, 90]) = false) :
    Calls Try.prog 16 #[.slice a l.length c] w fun e w' => LoadP l w e w' := by
  have hz := zero_wh
  obtain ⟨W0, hW0, r0, b0, s0⟩ := start1 w whz 37
  have HB := Hid.mk' b0.out
  have HR := Hid.mk' r0.out
  have hE : ldH l = false := by unfold ldH; simp only [hh, Bool.and_false]
  have HE := Hid.mk' (show ldE l = 161 from by unfold ldE; rw [if_pos hE])
  have HV := Hid.mk' (show ldV l = (cz, zS) from by unfold ldV; rw [if_pos hE])
  have h1 : ¬ ((l.length : Nat) : Int) < 12 := by omega
  have h2 : ¬ 72000 < ((l.length : Nat) : Int) := by omega
  obtain ⟨hcc, q1, q2, q3, q4⟩ := load_parts (hb.later b0.out rfl) h12
  have hs8 := sl_h W0 a l.length c 8 (by omega)
  rw [show ((8 : Nat) : Int) = 8 from rfl, if_neg (by omega), map_add0] at hs8
  have hcv := q1.conv
  generalize strOfNums (l.take 8) = s8 at *
  clear hE hb q1 q2 q3 q4 hcc h12 h72
  generalize l.length = n at *
  go_enter Try.func16, Try.ntmps16
  go_upto_region 1 with fail
  clear hz hW0 r0 b0 s0
  have HI := Hid.mk' info_whz
  have HON := Hid.mk' whz_ones
  have HBW := Hid.mk' built_wh
  go_wp2_with (first | (refine wpList_build_tab (by rfl) 37 _ (by rfl) whz HBW.out ?_) | (refine wpList_store_row (by rfl) _ _ _ (by rfl) (by rfl) _ _ _ (by rfl) (by rfl) HR.out HI.out rfl HON.out ?_))
  refine bodyPost_ret (v := .tuple #[.agg whz, .int .i64 161]) (results_row_slot Try.results16 _ _ w.heap.size 37 _ (0, 0) _ _ (by rfl) (by rfl) (setRow_heap _ _ _ _ _ _ HR.out) Try.underlying37 (by rfl) HI.out) rfl ?_
  exact LoadP.no HE.out HV.out (below_row HB.out (Nat.le_refl _) _)
set_option maxHeartbeats 4000000 in
theorem load_sum {w : World} {a : Option Addr} {c : Nat} {l : List Int} (hb : Byt w (.slice a l.length c) l) (hl : l.length ≤ 140737488355328) (hall : AllB l) (h12 : 12 ≤ l.length) (h72 : l.length ≤ 72000) (hh : ((strOfNums (l.take 8)).toList == [65, 78, 86, 73, 76, 83, 1, 90]) = true) (hs : ldS l = false) :
    Calls Try.prog 16 #[.slice a l.length c] w fun e w' => LoadP l w e w' := by
  have hz := zero_wh
  obtain ⟨W0, hW0, r0, b0, s0⟩ := start1 w whz 37
  have HB := Hid.mk' b0.out
  have HR := Hid.mk' r0.out
  have hE : ldH l = true := by unfold ldH; simp only [hh, h12, h72, decide_true, Bool.and_self]
  have h1 : ¬ ((l.length : Nat) : Int) < 12 := by omega
  have h2 : ¬ 72000 < ((l.length : Nat) : Int) := by omega
  obtain ⟨hcc, q1, q2, q3, q4⟩ := load_parts (hb.later b0.out rfl) h12
  have hs8 := sl_h W0 a l.length c 8 (by omega)
  rw [show ((8 : Nat) : Int) = 8 from rfl, if_neg (by omega), map_add0] at hs8
  have hcv := q1.conv
  have HTK := Hid.mk' (take_short (fun x hx => hall x (List.mem_of_mem_drop hx)) (by rw [List.length_drop]; omega) (by rw [List.length_drop]; omega) _ W0 q3)
  have HSM := Hid.mk' (ssum_c (l.take (l.length - 4)) _ W0 q2 (by rw [List.length_take]; omega))
  have hn : (12 : Int) ≤ ((l.length : Nat) : Int) := by omega
  have hn2 : 12 ≤ l.length := h12
  have hn3 : l.length ≤ c := hcc
  have HE := Hid.mk' (show ldE l = 160 from by unfold ldE; rw [hE, if_neg (by simp), if_pos hs])
  have HV := Hid.mk' (show ldV l = (cz, zS) from by unfold ldV; rw [hE, if_neg (by simp), if_pos hs])
  unfold ldS at hs
  have hne : ¬ ((tk (l.drop (l.length - 4)) : Nat) : Int) = n32 (sumB (l.take (l.length - 4))) := by simpa using hs
  have hr2 := n32_hiJ (sumB (l.take (l.length - 4)))
  have hr3 := n32_loJ (sumB (l.take (l.length - 4)))
  generalize strOfNums (l.take 8) = s8 at *
  generalize tk (l.drop (l.length - 4)) = T at *
  generalize hsv : n32 (sumB (l.take (l.length - 4))) = M at *
  clear hE hb q1 q2 q3 q4 hs hsv hall hcc
  generalize l.length = n at *
  go_enter Try.func16, Try.ntmps16
  go_upto_region 1 with fail
  clear hz hW0 r0 b0 s0
  have HI := Hid.mk' info_whz
  have HON := Hid.mk' whz_ones
  have HBW := Hid.mk' built_wh
  go_upto_region 5 with fail
  go_upto_region 6 with (first | (go_at_call 35; refine HTK.out.mono ?_; rintro e w1 ⟨rfl, hw⟩; have hw2 := hw.symm; subst hw2) | (go_at_call 26; refine HSM.out.mono ?_; rintro e W1 ⟨rfl, hbs⟩; have HBS := Hid.mk' hbs; clear hbs))
  have HR := Hid.mk' (HR.out.later HBS.out HR.out.lt)
  have HB := Hid.mk' (HB.out.trans (HBS.out.mono HB.out.size))
  go_wp2_with (first | (refine wpList_build_tab (by rfl) 37 _ (by rfl) whz HBW.out ?_) | (refine wpList_store_row (by rfl) _ _ _ (by rfl) (by rfl) _ _ _ (by rfl) (by rfl) HR.out HI.out rfl HON.out ?_))
  refine bodyPost_ret (v := .tuple #[.agg whz, .int .i64 160]) (results_row_slot Try.results16 _ _ w.heap.size 37 _ (0, 0) _ _ (by rfl) (by rfl) (setRow_heap _ _ _ _ _ _ HR.out) Try.underlying37 (by rfl) HI.out) rfl ?_
  exact LoadP.no HE.out HV.out (below_row HB.out (Nat.le_refl _) _)
theorem load_own {w : World} {a : Option Addr} {c : Nat} {l : List Int} (hb : Byt w (.slice a l.length c) l) (h12 : 12 ≤ l.length) (p : Prop) [Decidable p] (n' c' : Nat) : ∀ k, (Value.slice (if p then a else a.map (fun x => x.add 8)) n' c').ownBlock = some k → k < w.heap.size := fun k hk => by
  rw [own_cut p a 8 n' c' l.length c] at hk
  obtain ⟨a', c', e, _, _, h⟩ := hb
  cases e
  obtain ⟨g, off, rfl, h3, _⟩ := h (fun e => by rw [e] at h12; simp at h12)
  cases hk
  exact h3
set_option maxRecDepth 100000 in
theorem quiet_neq_agg {W : World} {o : Oper} {a : Act} {K : Act → Prop} (t t2 : TypeId) (x y : Operand) (ho : o.op = .binOp .neq t x y t2) (u v : Array Value) (hx : a.eval x = .agg u) (hy : a.eval y = .agg v) (r : Bool) (he : ∀ w, (Op.equalIn 10000 t (.agg u) (.agg v)).run Try.prog w = .ok r w)
    (hg : ∀ w, (eqGuard .neq t x y (.agg u) (.agg v)).run Try.prog w = .ok () w) (s : Bool) (hs : (!r) = s) (hk : K (a.put o.dst (.bool s))) : o.quiet Try.prog a (fun w' => ∃ x : Later W, w' = x.1) K := by
  subst hs
  refine ⟨_, fun w hw => ?_, hk⟩
  have h1 := he w
  have h2 := hg w
  unfold Oper.quietAt execOp
  simp only [ho, hx, hy]
  go_simp
theorem eqG_cpuJ (x y : Operand) (u v : Array Value) (w : World) : (eqGuard .neq 31 x y (.agg u) (.agg v)).run Try.prog w = .ok () w := by kernel_rfl
theorem cmp_cpuJ (k k' : Cp) (r : Bool) (hr : r = true ↔ cpc k = cpc k') (w : World) : (Op.equalIn 10000 31 (.agg (cpc k)) (.agg (cpc k'))).run Try.prog w = .ok r w := by
  obtain ⟨r', h1, h2⟩ := cmp_cpu w 9996 k k'
  have e : r' = r := by
    cases r <;> cases r' <;> simp_all
  rw [← e]; exact h1
set_option maxHeartbeats 4000000 in
theorem load_rest {w : World} {a : Option Addr} {c : Nat} {l : List Int} (hb : Byt w (.slice a l.length c) l) (hl : l.length ≤ 140737488355328) (hall : AllB l) (h12 : 12 ≤ l.length) (h72 : l.length ≤ 72000) (hh : ((strOfNums (l.take 8)).toList == [65, 78, 86, 73, 76, 83, 1, 90]) = true) (hs : ldS l = true) :
    Calls Try.prog 16 #[.slice a l.length c] w fun e w' => LoadP l w e w' := by
  have hz := zero_wh
  obtain ⟨W0, hW0, r0, b0, s0⟩ := start1 w whz 37
  have HB := Hid.mk' b0.out
  have HR := Hid.mk' r0.out
  have hE : ldH l = true := by unfold ldH; simp only [hh, h12, h72, decide_true, Bool.and_self]
  have h1 : ¬ ((l.length : Nat) : Int) < 12 := by omega
  have h2 : ¬ 72000 < ((l.length : Nat) : Int) := by omega
  obtain ⟨hcc, q1, q2, q3, q4⟩ := load_parts (hb.later b0.out rfl) h12
  have hs8 := sl_h W0 a l.length c 8 (by omega)
  rw [show ((8 : Nat) : Int) = 8 from rfl, if_neg (by omega), map_add0] at hs8
  have hcv := q1.conv
  have HTK := Hid.mk' (take_short (fun x hx => hall x (List.mem_of_mem_drop hx)) (by rw [List.length_drop]; omega) (by rw [List.length_drop]; omega) _ W0 q3)
  have HSM := Hid.mk' (ssum_c (l.take (l.length - 4)) _ W0 q2 (by rw [List.length_take]; omega))
  have hn : (12 : Int) ≤ ((l.length : Nat) : Int) := by omega
  have hn2 : 12 ≤ l.length := h12
  have hn3 : l.length ≤ c := hcc
  have HO := Hid.mk' (load_own (hb.later b0.out rfl) h12 (l.length - 4 = 8) (l.length - 4 - 8) (l.length - 4 - 8))
  have hs7 : ∀ W, (Instr.slice 32 (.slice a (l.length - 4) (l.length - 4)) (some (.int .i64 ((8 : Nat) : Int))) none none).run Try.prog W = .ok (.slice (if l.length - 4 = 8 then a else a.map (fun x => x.add 8)) (l.length - 4 - 8) (l.length - 4 - 8)) W := fun W => sl_l W a (l.length - 4) (l.length - 4) 8 (by omega)
  rw [show ((8 : Nat) : Int) = 8 from rfl] at hs7
  generalize (if l.length - 4 = 8 then a else a.map (fun x => x.add 8)) = a7 at *
  have HRD : Hid (∀ W, Below W0.heap.size W0 W → Calls Try.prog 36 #[.slice a7 (l.length - 4 - 8) (l.length - 4 - 8)] W fun e w' => ReadP (l.take (l.length - 4)) W e w') := fun W hbw => read_c (by rw [List.length_drop, List.length_take]; omega) (q4.later hbw rfl) (fun x hx => hall x (List.mem_of_mem_take hx)) (by rw [List.length_take]; omega) (by omega) (fun k hk => Nat.lt_of_lt_of_le (HO.out k hk) hbw.size)
  have HEE : Hid (ldE l = match rdV (l.take (l.length - 4)) with | none => 161 | some x => if ldW x then 0 else 162) := (by unfold Hid ldE; rw [hE, if_neg (by simp), if_neg (by rw [hs]; simp)])
  have HVV : Hid (ldV l = match rdV (l.take (l.length - 4)) with | none => (cz, zS) | some x => if ldW x then x else (cz, zS)) := (by unfold Hid ldV; rw [hE, if_neg (by simp), if_neg (by rw [hs]; simp)])
  unfold ldS at hs
  have hne : ((tk (l.drop (l.length - 4)) : Nat) : Int) = n32 (sumB (l.take (l.length - 4))) := by simpa using hs
  rw [hne] at HTK
  have hr2 := n32_hiJ (sumB (l.take (l.length - 4)))
  have hr3 := n32_loJ (sumB (l.take (l.length - 4)))
  generalize strOfNums (l.take 8) = s8 at *
  generalize n32 (sumB (l.take (l.length - 4))) = M at *
  clear hE hb q1 q2 q3 q4 hs hne hall hcc HO
  generalize hL : l.take (l.length - 4) = L at *
  generalize hnn : l.length = n at *
  go_enter Try.func16, Try.ntmps16
  go_upto_region 1 with fail
  clear hW0 r0 b0 s0 hL hnn
  have HI := Hid.mk' info_whz
  have HON := Hid.mk' whz_ones
  have HBW := Hid.mk' built_wh
  go_upto_region 5 with fail
  go_upto_region 7 with (first | (go_at_call 35; refine HTK.out.mono ?_; rintro e w1 ⟨rfl, hw⟩; have hw2 := hw.symm; subst hw2) | (go_at_call 26; refine HSM.out.mono ?_; rintro e W1 ⟨rfl, hbs⟩; have HBS := Hid.mk' hbs; clear hbs))
  have HR := Hid.mk' (HR.out.later HBS.out HR.out.lt)
  have HB := Hid.mk' (HB.out.trans (HBS.out.mono HB.out.size))
  have HRX := Hid.mk' (HRD.out W1 HBS.out)
  clear HRD HBS HTK HSM
  go_upto_region 8 with (first | (go_at_call 36; refine HRX.out.mono ?_; rintro e V2 ⟨K, S, a0, a1, a2, n0, n1, n2, c0, c1, c2, ok, rfl, hbs, hown, hlen, hkk, hyes, hno, hbl⟩; have HBS := Hid.mk' hbs; have HOW := Hid.mk' hown; have HLN := Hid.mk' hlen; have HKK := Hid.mk' hkk; have HYS := Hid.mk' hyes; have HNO := Hid.mk' hno; have HBL := Hid.mk' hbl; clear hbs hown hlen hkk hyes hno hbl; have HIX := Hid.mk' (info_wh K S (.slice a0 n0 c0) (.slice a1 n1 c1) (.slice a2 n2 c2)); have HOX := Hid.mk' (whc_ones K S a0 a1 a2 n0 n1 n2 c0 c1 c2); have HZX := Hid.mk' (whz_size K S (.slice a0 n0 c0) (.slice a1 n1 c1) (.slice a2 n2 c2)); obtain ⟨cs, hcs⟩ : ∃ cs, cs = whc K S (.slice a0 n0 c0) (.slice a1 n1 c1) (.slice a2 n2 c2) := ⟨_, rfl⟩; rw [← hcs] at HIX HOX HZX ⊢; have HCS := Hid.mk' hcs; clear hcs) | (refine wpList_store_new (by rfl) 37 _ _ (by rfl) (by rfl) whz cs (by rfl) (by rfl) HIX.out HZX.out HOX.out ?_))
  obtain ⟨e0, e1, e2⟩ : n0 = S.ram.length ∧ n1 = S.inp.length ∧ n2 = S.out.length := (by
    obtain ⟨⟨_, _, q0, _⟩, ⟨_, _, q1, _⟩, ⟨_, _, q2, _⟩⟩ := HBS.out
    cases q0; cases q1; cases q2
    exact ⟨rfl, rfl, rfl⟩)
  subst e0 e1 e2
  have HRZ := Hid.mk' ((HR.out.later HBL.out HR.out.lt).old (Nat.lt_of_lt_of_le HR.out.lt HBL.out.size) (.cells cs 37))
  have HRC := Hid.mk' (Row.new V2 cs 37)
  have HBV := Hid.mk' (HB.out.trans ((HBL.out.trans (below_al V2 (.cells cs 37) |>.mono HBL.out.size)).mono HB.out.size))
  have HBT := Hid.mk' (HBS.out.later (below_al V2 (.cells cs 37)))
  have HLT : Hid (V2.heap.size < (V2.alloc (.cells cs 37)).heap.size) := (by unfold Hid; simp)
  have HWL : Hid (w.heap.size ≤ V2.heap.size) := Nat.le_trans HB.out.size HBL.out.size
  have HW1 : Hid (w.heap.size ≤ W1.heap.size) := HB.out.size
  have HWX : Hid (w.heap.size < W1.heap.size) := HR.out.lt
  generalize V2.heap.size = g9 at *
  generalize V2.alloc (.cells cs 37) = V3 at *
  clear HRX HR HB HBL HBS hh h1 h2 hs8 hcv hr2 hr3 hs7 HZX
  cases ok with
  | false =>
    have HE := Hid.mk' (show ldE l = 161 from by rw [HEE.out, HNO.out rfl])
    have HV := Hid.mk' (show ldV l = (cz, zS) from by rw [HVV.out, HNO.out rfl])
    have HR := Hid.mk' HRZ.out
    clear HEE HVV HNO HYS HRZ HRC HIX HOX HCS
    go_wp2_with (first | (refine wpList_build_tab (by rfl) 37 _ (by rfl) whz HBW.out ?_) | (refine wpList_store_row (by rfl) _ _ _ (by rfl) (by rfl) _ _ _ (by rfl) (by rfl) HR.out HI.out rfl HON.out ?_))
    refine bodyPost_ret (v := .tuple #[.agg whz, .int .i64 161]) (results_row_slot Try.results16 _ _ w.heap.size 37 _ (0, 0) _ _ (by rfl) (by rfl) (setRow_heap _ _ _ _ _ _ HR.out) Try.underlying37 (by rfl) HI.out) rfl ?_
    exact LoadP.no HE.out HV.out (below_row HBV.out (Nat.le_refl _) _)
  | true =>
    obtain ⟨K', hrd, hck⟩ := HYS.out rfl
    have HC2 : Hid (cs = whc K' S (.slice a0 S.ram.length c0) (.slice a1 S.inp.length c1) (.slice a2 S.out.length c2)) := (by unfold Hid; rw [HCS.out]; unfold whc; rw [hck])
    have HE2 : Hid (ldE l = if ldW (K', S) then 0 else 162) := (by unfold Hid; rw [HEE.out, hrd])
    have HV2 : Hid (ldV l = if ldW (K', S) then (K', S) else (cz, zS)) := (by unfold Hid; rw [HVV.out, hrd])
    have HCK : Hid (∀ j v, (cpc K')[j]? = some v → V3.cell? ⟨g9, 0 + j, none⟩ = some v) := fun j v h => (HRC.out.cell (0 + j)).trans (by rw [HC2.out]; exact whc_c K' S _ _ _ j v h)
    have HCC : Hid (∀ j v, cs[j]? = some v → V3.cell? ⟨g9, 0 + j, none⟩ = some v) := fun j v h => (HRC.out.cell (0 + j)).trans (by rw [Nat.zero_add]; exact h)
    have HIC := Hid.mk' (info_cpuJ K')
    have HPR := Hid.mk' (fun W => Pr_c K' W)
    have HCH : Hid (∀ x : Later V3, Calls Try.prog 7 #[.agg cs] x.1 fun e w' => e = .returned (.int .i64 (if S.ok then 0 else 162)) ∧ Below x.1.heap.size x.1 w') := fun x => by
      rw [HC2.out]
      exact schk_c K' S a0 a1 a2 c0 c1 c2 x.1 (HBT.out.later x.below) (by have := HLN.out.1; omega) (by have := HLN.out.2.1; omega) (by have := HLN.out.2.2; omega)
    have HEQ := Hid.mk' (cmp_cpuJ K' (PR K'))
    have HWW : Hid (ldW (K', S) = (@decide (cpc K' = cpc (PR K')) (Classical.propDecidable _) && S.ok)) := rfl
    have HEG := Hid.mk' (fun x y w => eqG_cpuJ x y (cpc K') (cpc (PR K')) w)
    have := later_nonempty V3
    clear HEE HVV HYS HNO HCS hrd hck HKK
    generalize cpc K' = CK at *
    generalize cpc (PR K') = CP at *
    go_upto_region 10 with fail
    by_cases hp : CK = CP
    · have HQ := Hid.mk' (HEQ.out true (by simp [hp]))
      cases hk : S.ok with
      | true =>
        rw [hk] at HCH HWW
        have HW2 : Hid (ldW (K', S) = true) := (by unfold Hid; rw [HWW.out]; simp [hp])
        clear HWW HEQ hp hk
        refine wp_region_later (x0 := Later.start V3) (by kernel_rfl) (by kernel_rfl) ?_
        repeat (first | (refine BigFrame.wpQuiet_want (by rfl) fun K hK => ?_; refine quiet_load_agg 31 _ (by rfl) g9 0 (by rfl) CK _ HLT.out HCK.out Try.underlying31 (by rfl) HIC.out (hK _ ?_); clear hK K; simp only [Act.put, List.setIfInBounds_toArray, List.set_cons_succ, List.set_cons_zero]) | (refine BigFrame.wpQuiet_want (by rfl) fun K hK => ?_; refine quiet_load_agg 37 _ (by rfl) g9 0 (by rfl) cs _ HLT.out HCC.out Try.underlying37 (by rfl) HIX.out (hK _ ?_); clear hK K; simp only [Act.put, List.setIfInBounds_toArray, List.set_cons_succ, List.set_cons_zero]) | (refine BigFrame.wpQuiet_want (by rfl) fun K hK => ?_; refine quiet_neq_agg 31 _ _ _ (by rfl) CK CP (by rfl) (by rfl) _ HQ.out (HEG.out _ _) false rfl (hK _ ?_); clear hK K; simp only [Act.put, List.setIfInBounds_toArray, List.set_cons_succ, List.set_cons_zero]) | (go_big_quiet_step (first | (go_at_call 22; exact calls_later (HPR.out _)) | (go_at_call 7; exact calls_later (HCH.out _)))))

        refine wpQuiet_nil ?_
        rintro w' ⟨x9, rfl⟩
        have HR := Hid.mk' (HRZ.out.later x9.below HRZ.out.lt)
        have HRD := Hid.mk' (HRC.out.later x9.below HRC.out.lt)
        have HBX := Hid.mk' (HBV.out.trans (x9.below.mono HBV.out.size))
        have HBY := Hid.mk' (HBT.out.later x9.below)
        clear HCK HCC HPR HCH HQ HEG HBT HBV this
        have HEE := Hid.mk' (show ldE l = 0 from by rw [HE2.out, HW2.out]; rfl)
        have HVV := Hid.mk' (show ldV l = (K', S) from by rw [HV2.out, HW2.out]; rfl)
        clear HE2 HV2 HW2 HRC HRZ
        have HZC : Hid (whz.size = cs.size) := (by unfold Hid; rw [HC2.out]; exact whz_size _ _ _ _ _)
        go_wp2_with (first | (refine wpList_load_row (by rfl) _ _ (by rfl) _ (by rfl) 37 _ (0, 0) _ HRD.out Try.underlying37 (by rfl) HIX.out ?_) | (refine wpList_store_row (by rfl) _ _ _ (by rfl) (by rfl) _ _ _ (by rfl) (by rfl) HR.out HIX.out HZC.out HOX.out ?_))
        refine bodyPost_ret (v := .tuple #[.agg cs, .int .i64 0]) (results_row_slot Try.results16 _ _ w.heap.size 37 _ (0, 0) _ _ (by rfl) (by rfl) (setRow_heap _ _ _ _ _ _ HR.out) Try.underlying37 (by rfl) HIX.out) rfl ?_
        refine ⟨a0, a1, a2, S.ram.length, S.inp.length, S.out.length, c0, c1, c2, by rw [HEE.out, HVV.out, HC2.out], ?_, ⟨fun k hk => Nat.le_trans HW1.out (HOW.out.1 k hk), fun k hk => Nat.le_trans HW1.out (HOW.out.2.1 k hk), fun k hk => Nat.le_trans HW1.out (HOW.out.2.2 k hk)⟩, below_row HBX.out (Nat.le_refl _) _⟩
        rw [HVV.out]
        have hlw : w.heap.size < W1.heap.size := HWX.out
        have hxe : Exc (· = w.heap.size) x9.1 (x9.1.setRow w.heap.size cs) := ⟨rfl, rfl, rfl, (by rw [size_row]; exact Nat.le_refl _), fun k hk hn => setRow_other _ _ _ _ hn⟩
        exact ⟨HBY.out.r.exc hxe (fun g off n c e hg => by have := HOW.out.1 g (by rw [e]; rfl); omega), HBY.out.i.exc hxe (fun g off n c e hg => by have := HOW.out.2.1 g (by rw [e]; rfl); omega), HBY.out.o.exc hxe (fun g off n c e hg => by have := HOW.out.2.2 g (by rw [e]; rfl); omega)⟩
      | false =>
        rw [hk] at HCH HWW
        have HW2 : Hid (ldW (K', S) = false) := (by unfold Hid; rw [HWW.out]; simp)
        clear HWW HEQ hp hk
        refine wp_region_later (x0 := Later.start V3) (by kernel_rfl) (by kernel_rfl) ?_
        repeat (first | (refine BigFrame.wpQuiet_want (by rfl) fun K hK => ?_; refine quiet_load_agg 31 _ (by rfl) g9 0 (by rfl) CK _ HLT.out HCK.out Try.underlying31 (by rfl) HIC.out (hK _ ?_); clear hK K; simp only [Act.put, List.setIfInBounds_toArray, List.set_cons_succ, List.set_cons_zero]) | (refine BigFrame.wpQuiet_want (by rfl) fun K hK => ?_; refine quiet_load_agg 37 _ (by rfl) g9 0 (by rfl) cs _ HLT.out HCC.out Try.underlying37 (by rfl) HIX.out (hK _ ?_); clear hK K; simp only [Act.put, List.setIfInBounds_toArray, List.set_cons_succ, List.set_cons_zero]) | (refine BigFrame.wpQuiet_want (by rfl) fun K hK => ?_; refine quiet_neq_agg 31 _ _ _ (by rfl) CK CP (by rfl) (by rfl) _ HQ.out (HEG.out _ _) false rfl (hK _ ?_); clear hK K; simp only [Act.put, List.setIfInBounds_toArray, List.set_cons_succ, List.set_cons_zero]) | (go_big_quiet_step (first | (go_at_call 22; exact calls_later (HPR.out _)) | (go_at_call 7; exact calls_later (HCH.out _)))))

        refine wpQuiet_nil ?_
        rintro w' ⟨x9, rfl⟩
        have HR := Hid.mk' (HRZ.out.later x9.below HRZ.out.lt)
        have HRD := Hid.mk' (HRC.out.later x9.below HRC.out.lt)
        have HBX := Hid.mk' (HBV.out.trans (x9.below.mono HBV.out.size))
        have HBY := Hid.mk' (HBT.out.later x9.below)
        clear HCK HCC HPR HCH HQ HEG HBT HBV this
        have HE := Hid.mk' (show ldE l = 162 from by rw [HE2.out, HW2.out]; rfl)
        have HV := Hid.mk' (show ldV l = (cz, zS) from by rw [HV2.out, HW2.out]; rfl)
        clear HE2 HV2 HW2 HRC HRZ HRD
        go_wp2_with (first | (refine wpList_build_tab (by rfl) 37 _ (by rfl) whz HBW.out ?_) | (refine wpList_store_row (by rfl) _ _ _ (by rfl) (by rfl) _ _ _ (by rfl) (by rfl) HR.out HI.out rfl HON.out ?_))
        refine bodyPost_ret (v := .tuple #[.agg whz, .int .i64 162]) (results_row_slot Try.results16 _ _ w.heap.size 37 _ (0, 0) _ _ (by rfl) (by rfl) (setRow_heap _ _ _ _ _ _ HR.out) Try.underlying37 (by rfl) HI.out) rfl ?_
        exact LoadP.no HE.out HV.out (below_row HBX.out (Nat.le_refl _) _)
    · have HQ := Hid.mk' (HEQ.out false (by simp [hp]))
      have HW2 : Hid (ldW (K', S) = false) := (by unfold Hid; rw [HWW.out]; simp [hp])
      clear HWW HEQ hp
      · skip
        refine wp_region_later (x0 := Later.start V3) (by kernel_rfl) (by kernel_rfl) ?_
        repeat (first | (refine BigFrame.wpQuiet_want (by rfl) fun K hK => ?_; refine quiet_load_agg 31 _ (by rfl) g9 0 (by rfl) CK _ HLT.out HCK.out Try.underlying31 (by rfl) HIC.out (hK _ ?_); clear hK K; simp only [Act.put, List.setIfInBounds_toArray, List.set_cons_succ, List.set_cons_zero]) | (refine BigFrame.wpQuiet_want (by rfl) fun K hK => ?_; refine quiet_load_agg 37 _ (by rfl) g9 0 (by rfl) cs _ HLT.out HCC.out Try.underlying37 (by rfl) HIX.out (hK _ ?_); clear hK K; simp only [Act.put, List.setIfInBounds_toArray, List.set_cons_succ, List.set_cons_zero]) | (refine BigFrame.wpQuiet_want (by rfl) fun K hK => ?_; refine quiet_neq_agg 31 _ _ _ (by rfl) CK CP (by rfl) (by rfl) _ HQ.out (HEG.out _ _) true rfl (hK _ ?_); clear hK K; simp only [Act.put, List.setIfInBounds_toArray, List.set_cons_succ, List.set_cons_zero]) | (go_big_quiet_step (first | (go_at_call 22; exact calls_later (HPR.out _)) | (go_at_call 7; exact calls_later (HCH.out _)))))

        refine wpQuiet_nil ?_
        rintro w' ⟨x9, rfl⟩
        have HR := Hid.mk' (HRZ.out.later x9.below HRZ.out.lt)
        have HRD := Hid.mk' (HRC.out.later x9.below HRC.out.lt)
        have HBX := Hid.mk' (HBV.out.trans (x9.below.mono HBV.out.size))
        have HBY := Hid.mk' (HBT.out.later x9.below)
        clear HCK HCC HPR HCH HQ HEG HBT HBV this
        have HE := Hid.mk' (show ldE l = 162 from by rw [HE2.out, HW2.out]; rfl)
        have HV := Hid.mk' (show ldV l = (cz, zS) from by rw [HV2.out, HW2.out]; rfl)
        clear HE2 HV2 HW2 HRC HRZ HRD
        go_wp2_with (first | (refine wpList_build_tab (by rfl) 37 _ (by rfl) whz HBW.out ?_) | (refine wpList_store_row (by rfl) _ _ _ (by rfl) (by rfl) _ _ _ (by rfl) (by rfl) HR.out HI.out rfl HON.out ?_))
        refine bodyPost_ret (v := .tuple #[.agg whz, .int .i64 162]) (results_row_slot Try.results16 _ _ w.heap.size 37 _ (0, 0) _ _ (by rfl) (by rfl) (setRow_heap _ _ _ _ _ _ HR.out) Try.underlying37 (by rfl) HI.out) rfl ?_
        exact LoadP.no HE.out HV.out (below_row HBX.out (Nat.le_refl _) _)
theorem pload_c {w : World} {a : Option Addr} {c : Nat} {l : List Int} (hb : Byt w (.slice a l.length c) l) (hl : l.length ≤ 140737488355328) (hall : AllB l) :
    Calls Try.prog 16 #[.slice a l.length c] w fun e w' => LoadP l w e w' := by
  by_cases h1 : l.length < 12
  · exact load_short hb hl h1
  by_cases h2 : 72000 < l.length
  · exact load_long hb hl h2
  cases h3 : ((strOfNums (l.take 8)).toList == [65, 78, 86, 73, 76, 83, 1, 90]) with
  | false => exact load_head hb hl (by omega) (by omega) h3
  | true =>
    cases h4 : ldS l with
    | false => exact load_sum hb hl hall (by omega) (by omega) h3 h4
    | true => exact load_rest hb hl hall (by omega) (by omega) h3 h4
end Go.Proofs.Ytgblpjkpeihpeaa
