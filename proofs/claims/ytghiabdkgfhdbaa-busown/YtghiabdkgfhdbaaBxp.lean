/-
  Bxn Bxo Bxp.
-/
import Derived.Test.YtghiabdkgfhdbaaBxm
import Derived.Test.YtghiabdkgfhdbaaBxg
import Derived.BigRegion
namespace Go.Proofs.Ytghiabdkgfhdbaa
set_option linter.unusedVariables false
open Go.ChangeShapes Go.WideShapes Go.ChangeAt Go.RowKit Go.Deep Go.MuLone
theorem rpoke_none {B c : Nat} {S : St} {vr vi vo : Value} (w : World) (h : RB B c S vr vi vo w) (a : Int) (v : Value) (hv : Byt w v []) :
    Calls Try.prog 48 #[.pointer (some ⟨c, 0, none⟩), .int .u64 a, v] w fun e w' => e = .returned (.int .i64 0) ∧ w' = w := by
  obtain ⟨av, cv, ev, _⟩ := hv
  subst ev
  clear h
  go_enter Try.func48, Try.ntmps48
  go_wp2
  go_ret
  exact ⟨rfl, rfl⟩
theorem rpoke_out {B c : Nat} {S : St} {vr vi vo : Value} (w : World) (h : RB B c S vr vi vo w) (hn : S.ram.length ≤ 65536) (a : Int) (ha : 0 ≤ a ∧ a ≤ 18446744073709551615) (v : Value) (l : List Int) (hv : Byt w v l) (h0 : 0 < l.length) (hl : l.length ≤ 140737488355328) (hf : hld S.ram.length a l.length = false) :
    Calls Try.prog 48 #[.pointer (some ⟨c, 0, none⟩), .int .u64 a, v] w fun e w' => e = .returned (.int .i64 30) ∧ w' = w := by
  have HH := risRam_c w h hn a l.length ha (by omega)
  rw [hf, Bool.and_false] at HH
  obtain ⟨av, cv, ev, _⟩ := hv
  subst ev
  have n0 : ¬ (l.length : Int) = 0 := by omega
  have n1 : ((l.length : Int) == 0) = false := by simpa using (show l ≠ [] by intro e; rw [e] at h0; simp at h0)
  clear h hf
  go_enter Try.func48, Try.ntmps48
  go_wp2_with (go_at_call 36; refine HH.mono ?_; rintro e w1 ⟨rfl, hww⟩; have hw2 := hww.symm; subst hw2)
  go_ret
  exact ⟨rfl, rfl⟩
theorem poke_step (S : St) (k j : Nat) (l : List Int) (hj : j < l.length) (h : k + j < S.ram.length) : { S with ram := (splice S.ram k (l.take j)).set (k + j) (l.getD j 0) } = { S with ram := splice S.ram k (l.take (j + 1)) } := by
  have hlen : (l.take j).length = j := by rw [List.length_take]; omega
  have e := splice_set S.ram k (l.take j) (l.getD j 0) (by rw [hlen]; exact h)
  rw [hlen, ← take_succ hj] at e
  rw [e]
set_option maxRecDepth 100000 in
set_option maxHeartbeats 4000000 in
theorem rpoke_in {B c : Nat} {S : St} {vr vi vo : Value} (w : World) (h : RB B c S vr vi vo w) (hn : S.ram.length ≤ 65536) (k : Nat) (v : Value) (l : List Int) (hv : Byt w v l) (h0 : 0 < l.length) (hk : k + l.length ≤ S.ram.length) (hap : ∀ g off n c', v = .slice (some ⟨g, off, none⟩) n c' → ¬ Rown c vr vi vo g) :
    Calls Try.prog 48 #[.pointer (some ⟨c, 0, none⟩), .int .u64 (2147483648 + (k : Int)), v] w fun e w' => e = .returned (.int .i64 0) ∧ RSt B c vr vi vo w vr vi vo { S with ram := splice S.ram k l } w' := by
  have HH := risRam_c w h hn (2147483648 + (k : Int)) l.length (by omega) (by omega)
  rw [show (decide ((1 : Int) ≤ (l.length : Int)) && hld S.ram.length (2147483648 + (k : Int)) l.length) = true by simp [hld]; omega] at HH
  have HBY : Hid (∀ w1, Exc (Rown c vr vi vo) w w1 → Byt w1 v l) := fun w1 hx => hv.exc hx hap
  obtain ⟨g, cap, ev⟩ := h.ram (by omega)
  have HV : Hid (vr = .slice (some ⟨g, 0, none⟩) S.ram.length cap) := ev
  have HLN : Hid (∀ j, j ≤ l.length → (splice S.ram k (l.take j)).length = S.ram.length) := fun j hj => splice_len _ _ _ (by rw [List.length_take]; omega)
  have HP : Hid (RB B c S vr vi vo w) := h
  have e1 : (2147483648 + (k : Int) - 2147483648) = k := by omega
  have e2 : IntKind.u64.wrap (k : Int) = k := u64_small (by omega) (by omega)
  obtain ⟨av, cv, eav, _⟩ := hv
  have hnil : l ≠ [] := fun e => by rw [e] at h0; simp at h0
  have HNE : Hid (l ≠ []) := hnil
  have n1 : ((l.length : Int) == 0) = false := by simpa using hnil
  subst eav
  clear h ev hap hnil
  go_enter Try.func48, Try.ntmps48
  go_wp2_with (go_at_call 36; refine HH.mono ?_; rintro e w1 ⟨rfl, hww⟩; have hw2 := hww.symm; subst hw2)
  go_loopw [8] (fun i wr => ∃ j : Nat, j ≤ l.length ∧ i = .int .i64 j ∧ Hid (RB B c { S with ram := splice S.ram k (l.take j) } vr vi vo wr) ∧ Hid (Exc (Rown c vr vi vo) w wr)) (fun i _ => l.length - (intOf i).toNat)
  case atStart => exact ⟨0, Nat.zero_le _, rfl, by unfold Hid; rw [show ({ S with ram := splice S.ram k (l.take 0) } : St) = S by unfold splice; simp]; exact HP.out, Exc.refl _ _⟩
  case round =>
    obtain ⟨j, hj, rfl, hrb, hex⟩ := hrel
    by_cases hlt : j < l.length
    · have hlt2 : (j : Int) < (l.length : Int) := by omega
      have hvl : vr = .slice (some ⟨g, 0, none⟩) (splice S.ram k (l.take j)).length cap := by rw [HLN.out j hj]; exact HV.out
      have c0 : wr.cell? ⟨c, 0, none⟩ = some (.slice (some ⟨g, 0, none⟩) S.ram.length cap) := by rw [← HV.out]; exact hrb.out.cell 0
      have hown := hrb.out.s.r
      rw [hvl] at hown
      have hc1 : ∃ u, wr.cell? ⟨g, k + j, none⟩ = some u := ⟨_, by rw [hown.cellAt (k + j) (by show _ < (splice S.ram k (l.take j)).length * 1; rw [HLN.out j hj]; omega), bv_get _ _ (by show _ < (splice S.ram k (l.take j)).length; rw [HLN.out j hj]; omega)]⟩
      obtain ⟨u, hc1⟩ := hc1
      have hf1 : wr.frozen? ⟨g, k + j, none⟩ = false := by
        rcases hown.2 with ⟨q0, _⟩ | ⟨g', cap', cur, ee, _, hrow, _⟩
        · cases q0
        · cases ee; exact frozen_of_row wr g (k + j) _ _ hrow
      obtain ⟨a2, c2, e3, _, _, h5⟩ := HBY.out wr hex.out
      obtain ⟨g2, off, ea, _, h6⟩ := h5 HNE.out
      have h7 := h6 j hlt
      cases e3
      subst ea
      have HB : Hid (RB B c { S with ram := splice S.ram k (l.take (j + 1)) } vr vi vo (wr.setCell ⟨g, k + j, none⟩ (.int .u8 (l.getD j 0)))) := by
        unfold Hid
        rw [← poke_step S k j l hlt (by omega)]
        exact hrb.out.byte hvl (k + j) (by show _ < (splice S.ram k (l.take j)).length; rw [HLN.out j hj]; omega) _
      have HX : Hid (Exc (Rown c vr vi vo) w (wr.setCell ⟨g, k + j, none⟩ (.int .u8 (l.getD j 0)))) := hex.out.set g (k + j) _ (.inr (.inl (by rw [HV.out]; rfl)))
      generalize l.getD j 0 = y at *
      have hkj : (k : Int) + j < (S.ram.length : Int) := by omega
      clear hown h5 h6 HBY
      go_upto_region 9 with fail
      go_region
      all_goals go_wp2
      all_goals go_roundw
      case rel => exact ⟨j + 1, by omega, by go_num, by unfold Hid; exact RB.later HB.out (Below.drew (Below.refl _ _)), by unfold Hid; exact HX.out.trans (Exc.of_below (Below.drew (Below.refl _ _)) rfl)⟩
      case measure => simp [intOf]; omega
    · obtain rfl : j = l.length := by omega
      have HE : Hid (RB B c { S with ram := splice S.ram k l } vr vi vo wr) := by
        have := hrb.out
        rw [List.take_length] at this
        exact this
      clear hlt hrb
      go_wp2
      go_ret
      exact ⟨rfl, .same HE.out hex.out⟩
end Go.Proofs.Ytghiabdkgfhdbaa
namespace Go.Proofs.Ytghiabdkgfhdbaa
set_option linter.unusedVariables false
open Go.ChangeShapes Go.WideShapes Go.ChangeAt Go.RowKit Go.Deep Go.MuLone
/-- append of bytes onto a row of one's own, in a region that draws. -/
theorem step_appA {ops : Array Oper} {o : Oper} {a : Act} {w : World} {K : Act → World → Prop} {Q : Exit → Act → World → Prop} {E : Prop} (hgd : o.guard = none) (s x : Operand) (ho : o.op = .call { callee := .builtin .append, args := #[s, x], argTypes := #[22, 22] })
    (B : Nat) (v : Value) (m : List Int) (hs : a.eval s = v) (hown : w.ownsRow B 5 1 v m.length (bv m)) (ad : Addr) (y : Int) (hx : a.eval x = .slice (some ad) 1 1) (hy : w.cell? ad = some (.int .u8 y)) (hl : m.length + 1 ≤ 140737488355328) (hB : B ≤ w.heap.size)
    (h : ∀ v' w', w'.ownsRow B 5 1 v' (m ++ [y]).length (bv (m ++ [y])) → w.grownBy w' v.ownBlock → (v'.ownBlock = v.ownBlock ∨ v'.ownBlock = some w.heap.size) → K (a.put o.dst v') w') :
    if Region.wanted o (yielded ops a.tmps) = true then Oper.wp Try.prog o a w K Q else E := by
  obtain ⟨i0, hi, hz0, hz1, hz2⟩ := info_parts info5
  have hw : Region.wanted o (yielded ops a.tmps) = true := by simp [Region.wanted, hgd]
  rw [if_pos hw]
  obtain ⟨v', w', hr, h2, h3, _, h5⟩ := run_append_own_at (P := Try.prog) w B 22 o.type 5 i0 (.int .u8 0) 1 1 Try.underlying22 hi hz0 hz1 hz2 rfl (by decide) v m.length (bv m) hown ad 1 1 [.int .u8 y] rfl (fun j u hj => by
    match j, hj with
    | 0, hj =>
      simp at hj
      subst hj
      have : ad.add 0 = ad := by unfold Addr.add; split <;> simp_all
      rw [this]; exact hy) (by intro u hu; simp at hu; rw [hu]; rfl) (by unfold maxLen; omega) (by omega) hB
  have h2' : w'.ownsRow B 5 1 v' (m ++ [y]).length (bv (m ++ [y])) := by
    have e : bv (m ++ [y]) = bv m ++ [.int .u8 y] := by simp [bv]
    rw [e, List.length_append]
    exact h2
  unfold Oper.wp
  simp [execOp, ho, resolve, invoke, builtin, hs, hx, hr, Result.andThen]
  exact h v' w' h2' h3 h5
theorem rBegin_off {B c : Nat} {S : St} {vr vi vo : Value} (w : World) (h : RB B c S vr vi vo w) (t e s : Bool) (v : Value) (l : List Int) (ho : S.off ≠ 0) :
    Calls Try.prog 47 #[.pointer (some ⟨c, 0, none⟩), .agg #[.bool t, .bool e, .bool s, v]] w fun e' w' => e' = .returned (.tuple #[]) ∧ RSt B c vr vi vo w vr vi vo (S.beg t e s l) w' := by
  have HT : Hid (S.beg t e s l = S) := by unfold Hid St.beg; rw [if_neg ho]
  generalize S.beg t e s l = T at HT ⊢
  have HP : Hid (RB B c S vr vi vo w) := h
  obtain ⟨W, hW⟩ : ∃ W, w.alloc (.cells #[.bool t, .bool e, .bool s, v] 43) = W := ⟨_, rfl⟩
  have hb : Below w.heap.size w W := by rw [← hW]; exact (Below.refl _ _).alloc (Nat.le_refl _) _
  have c13 : W.cell? ⟨c, 13, none⟩ = some (.int .i64 S.off) := (h.later hb).cell 13
  have HB : Hid (Below w.heap.size w W) := hb
  have ho3 : (S.off == 0) = false := by simpa using ho
  clear h hb
  go_enter Try.func47, Try.ntmps47
  go_upto_region 1 with fail
  clear hW
  go_wp2
  first | go_end0 | refine bodyPost_ret (results_none rfl _ _ _) rfl ?_
  refine ⟨rfl, ?_⟩
  rw [HT.out]
  exact .quiet HP.out HB.out
/-- One byte more. -/
theorem joi_in (S : St) (l : List Int) (j : Nat) (hj : j < l.length) (h : S.inp.length + j < 64) : S.joi (l.take (j + 1)) = { S.joi (l.take j) with inp := (S.joi (l.take j)).inp ++ [l.getD j 0] } ∧ (S.joi (l.take j)).inp.length = S.inp.length + j := by
  have e1 : (l.take j).length = j := by rw [List.length_take]; omega
  have e2 : (l.take (j + 1)).length = j + 1 := by rw [List.length_take]; omega
  unfold St.joi
  rw [List.take_of_length_le (l := l.take (j + 1)) (by omega), List.take_of_length_le (l := l.take j) (by omega), e1, e2, take_succ hj, decide_eq_false (show ¬ 64 < S.inp.length + (j + 1) by omega), decide_eq_false (show ¬ 64 < S.inp.length + j by omega)]
  refine ⟨?_, ?_⟩
  · simp only [List.append_assoc]
  · simp only [List.length_append, e1]
theorem joi_out (S : St) (l : List Int) (j : Nat) (hj : j < l.length) (h64 : S.inp.length ≤ 64) (h : ¬ S.inp.length + j < 64) : S.joi (l.take (j + 1)) = { S.joi (l.take j) with ov := true } ∧ (S.joi (l.take j)).inp.length = 64 := by
  have e1 : (l.take j).length = j := by rw [List.length_take]; omega
  have e2 : (l.take (j + 1)).length = j + 1 := by rw [List.length_take]; omega
  have e3 : (l.take (j + 1)).take (64 - S.inp.length) = (l.take j).take (64 - S.inp.length) := by
    rw [List.take_take, List.take_take]; congr 1; omega
  unfold St.joi
  rw [e3, e2, decide_eq_true (show 64 < S.inp.length + (j + 1) by omega), Bool.or_true]
  refine ⟨rfl, ?_⟩
  simp only [List.length_append, List.length_take]
  omega
theorem joi_nil (S : St) (h64 : S.inp.length ≤ 64) : S.joi ([] : List Int) = S := by
  unfold St.joi
  simp only [List.take_nil, List.append_nil, List.length_nil, Nat.add_zero]
  rw [decide_eq_false (by omega), Bool.or_false]
end Go.Proofs.Ytghiabdkgfhdbaa
namespace Go.Proofs.Ytghiabdkgfhdbaa
set_option linter.unusedVariables false
open Go.ChangeShapes Go.WideShapes Go.ChangeAt Go.RowKit Go.Deep Go.MuLone
theorem begin_app {B c : Nat} {T : St} {vr ui vo v' : Value} {wr w1 w2 : World} {y : Int} (h : RB B c T vr ui vo wr) (hb1 : Below wr.heap.size wr w1) (ho : w2.ownsRow B 5 1 v' (T.inp ++ [y]).length (bv (T.inp ++ [y]))) (hg : w1.grownBy w2 ui.ownBlock) (hl : v'.ownBlock = ui.ownBlock ∨ v'.ownBlock = some w1.heap.size) :
    w2.heap[c]? = some (.cells (stc T vr ui vo) 56 (0, 0)) ∧ RSt B c vr ui vo wr vr v' vo { T with inp := T.inp ++ [y] } (w2.setCell ⟨c, 11, none⟩ v') := by
  have hc1 : w1.heap[c]? = some (.cells (stc T vr ui vo) 56 (0, 0)) := (hb1.block c h.lt).trans h.h
  have hc2 : w2.heap[c]? = some (.cells (stc T vr ui vo) 56 (0, 0)) := (hg.block c (Array.getElem?_eq_some_iff.1 hc1).1 (fun e => own_ne_row h.s.i h.h (by decide) c e.symm rfl)).trans hc1
  have x1 : Exc (fun k => k = c ∨ ui.ownBlock = some k) wr w1 := Exc.of_below hb1 rfl
  have x2 : Exc (fun k => k = c ∨ ui.ownBlock = some k) w1 w2 := ⟨hg.os, hg.tape, hg.output, hg.size, fun k hk hne => hg.block k hk (fun e => hne (.inr e.symm))⟩
  refine ⟨hc2, h.inp ((x1.trans x2).set c 11 _ (.inl rfl)) v' (T.inp ++ [y]) rfl rfl rfl (heap_setCell_same w2 c 11 _ _ _ hc2) (own_apart_set ho hc2 (by decide)) (fun k hk => ?_)⟩
  rcases hl with e | e
  · exact .inl (by rw [← e]; exact hk)
  · right
    have e2 : k = w1.heap.size := by rw [hk] at e; exact Option.some.inj e
    rw [e2]; exact hb1.size
theorem Byt.excN {S : Nat → Prop} {w w' : World} {v : Value} {l : List Int} (h : Byt w v l) (he : Exc S w w') (hS : l ≠ [] → ∀ g off n c, v = .slice (some ⟨g, off, none⟩) n c → ¬ S g) : Byt w' v l := by
  by_cases hl : l = []
  · obtain ⟨a, cap, e1, e2, e3, _⟩ := h
    exact ⟨a, cap, e1, e2, e3, fun e => absurd hl e⟩
  · exact h.exc he (hS hl)
theorem RSt.drew {B c : Nat} {vr vi vo ur ui uo : Value} {S' : St} {w w' : World} (h : RSt B c vr vi vo w ur ui uo S' w') : RSt B c vr vi vo w ur ui uo S' w'.drew := h.post (Below.drew (Below.refl _ _))
set_option maxRecDepth 100000 in
set_option maxHeartbeats 8000000 in
theorem rBegin_on {B c : Nat} {S : St} {vr vi vo : Value} (w : World) (h : RB B c S vr vi vo w) (t e s : Bool) (v : Value) (l : List Int) (ho : S.off = 0) (hv : Byt w v l) (hl : l.length ≤ 140737488351232) (h64 : S.inp.length ≤ 64) (hap : l ≠ [] → ∀ g off n c', v = .slice (some ⟨g, off, none⟩) n c' → ¬ Rown c vr vi vo g) :
    Calls Try.prog 47 #[.pointer (some ⟨c, 0, none⟩), .agg #[.bool t, .bool e, .bool s, v]] w fun e' w' => e' = .returned (.tuple #[]) ∧ ∃ ui, RSt B c vr vi vo w vr ui vo (S.beg t e s l) w' := by
  have HT : Hid (S.beg t e s l = { S.joi l with ext := e, soft := s, time := if t = true then (S.time + 1) % 18446744073709551616 else S.time }) := by unfold Hid St.beg; rw [if_pos ho]
  generalize S.beg t e s l = T at HT ⊢
  have HN : Hid (S.joi ([] : List Int) = S) := joi_nil S h64
  have HI : Hid (∀ j, j < l.length → S.inp.length + j < 64 → S.joi (l.take (j + 1)) = { S.joi (l.take j) with inp := (S.joi (l.take j)).inp ++ [l.getD j 0] } ∧ (S.joi (l.take j)).inp.length = S.inp.length + j) := fun j hj hh => joi_in S l j hj hh
  have HO : Hid (∀ j, j < l.length → ¬ S.inp.length + j < 64 → S.joi (l.take (j + 1)) = { S.joi (l.take j) with ov := true } ∧ (S.joi (l.take j)).inp.length = 64) := fun j hj hh => joi_out S l j hj h64 hh
  obtain ⟨W, hW⟩ : ∃ W, w.alloc (.cells #[.bool t, .bool e, .bool s, v] 43) = W := ⟨_, rfl⟩
  have hb : Below w.heap.size w W := by rw [← hW]; exact (Below.refl _ _).alloc (Nat.le_refl _) _
  have hbox : W.heap[w.heap.size]? = some (.cells #[.bool t, .bool e, .bool s, v] 43 (0, 0)) := by rw [← hW]; exact heap_alloc_new w _
  have hnr : ¬ Rown c vr vi vo w.heap.size := fun hr => by
    have := h.lt
    rcases hr with q | q | q | q
    · omega
    · have := (h.s.r.lt _ q).2; omega
    · have := (h.s.i.lt _ q).2; omega
    · have := (h.s.o.lt _ q).2; omega
  have HBX : Hid (∀ w2, Exc (Rown c vr vi vo) W w2 → w2.heap[w.heap.size]? = some (.cells #[.bool t, .bool e, .bool s, v] 43 (0, 0)) ∧ Byt w2 v l) := fun w2 hx => by
    have hlt : w.heap.size < W.heap.size := (Array.getElem?_eq_some_iff.1 hbox).1
    exact ⟨(hx.block _ hlt hnr).trans hbox, (hv.later hb rfl).excN hx hap⟩
  have h1 := h.later hb
  have c13 : W.cell? ⟨c, 13, none⟩ = some (.int .i64 0) := by rw [← ho]; exact h1.cell 13
  have HB : Hid (Below w.heap.size w W) := hb
  have HP : Hid (RB B c S vr vi vo W) := h1
  obtain ⟨av, cv, ev, _⟩ := hv
  subst ev
  clear h hb hbox h1 hap hnr
  go_enter Try.func47, Try.ntmps47
  go_upto_region 1 with fail
  clear hW
  go_wp2
  go_loopw [5] (fun i wr => ∃ (j : Nat) (ui : Value), j ≤ l.length ∧ i = .int .i64 j ∧ Hid (RSt B c vr vi vo W vr ui vo (S.joi (l.take j)) wr)) (fun i _ => l.length - (intOf i).toNat)
  case atStart => exact ⟨0, vi, Nat.zero_le _, rfl, by unfold Hid; rw [List.take_zero, HN.out]; exact .quiet HP.out (Below.refl _ _)⟩
  case round =>
    clear c13
    obtain ⟨j, ui, hj, rfl, hst⟩ := hrel
    obtain ⟨hbx, hby⟩ := HBX.out wr hst.out.x
    have v3 : wr.cell? ⟨w.heap.size, 3, none⟩ = some (.slice av l.length cv) := cell_of_row wr _ 3 _ _ _ hbx
    obtain ⟨ai, ci, ei, _⟩ := Byt.of_own hst.out.r.s.i
    have c11 : wr.cell? ⟨c, 11, none⟩ = some (.slice ai (S.joi (l.take j)).inp.length ci) := by rw [← ei]; exact hst.out.r.cell 11
    by_cases hlt : j < l.length
    · have hlt2 : (j : Int) < (l.length : Int) := by omega
      by_cases hroom : S.inp.length + j < 64
      · obtain ⟨hnext, hlen⟩ := HI.out j hlt hroom
        have hne : l ≠ [] := fun e2 => by rw [e2] at hlt; simp at hlt
        obtain ⟨a2, c2, e3, _, _, h5⟩ := hby
        obtain ⟨g2, off, ea, _, h6⟩ := h5 hne
        have h7 := h6 j hlt
        cases e3
        subst ea
        have HNX : Hid (S.joi (l.take (j + 1)) = { S.joi (l.take j) with inp := (S.joi (l.take j)).inp ++ [l.getD j 0] }) := hnext
        generalize l.getD j 0 = y at *
        generalize hTT : S.joi (l.take j) = TT at *
        have hn64 : (TT.inp.length : Int) < 64 := by omega
        have HEI : Hid (ui = .slice ai TT.inp.length ci) := ei
        have HLL : Hid (TT.inp.length + 1 ≤ 140737488355328) := by unfold Hid; omega
        have HBW : Hid (B ≤ wr.heap.size) := Nat.le_trans hst.out.r.l (Nat.le_of_lt hst.out.r.lt)
        have HBS : Hid (∀ o, B ≤ (wr.alloc o).heap.size) := fun o => Nat.le_trans HBW.out (below_al wr o).size
        generalize hni : TT.inp.length = ni at c11 hn64 HEI
        have c11a : (wr.alloc (.cells #[.int .u8 y] 5)).cell? ⟨c, 11, none⟩ = some (.slice ai ni ci) := ((below_al wr _).cell hst.out.r.lt).trans c11
        clear hnext hlen hne h5 h6 ei hni hTT
        go_upto_region 7 with fail
        go_region_law (refine step_appA rfl (.tmp 31) (.tmp 37) rfl B ui TT.inp (by simp [Act.eval]; exact HEI.out.symm) (by exact hst.out.r.s.i.alloc _) ⟨wr.heap.size, 0, none⟩ y (by simp [Act.eval]) (by simp) HLL.out (HBS.out _) ?_; intro v' w2 ho hg hl2; obtain ⟨a9, c9, e9, _⟩ := Byt.of_own ho; obtain ⟨n9, hn9⟩ : ∃ n, n = (TT.inp ++ [y]).length := ⟨_, rfl⟩; rw [← hn9] at e9; clear hn9; subst e9; obtain ⟨hA1, hA2⟩ := begin_app hst.out.r (by first | exact Below.drew (below_al wr _) | exact below_al wr _) ho hg hl2; have d3 : w2.cell? ⟨c, 11, none⟩ = some ui := cell_of_row w2 c 11 _ _ _ hA1; have g3 := frozen_of_row w2 c 11 _ _ hA1; have HA : Hid (RSt B c vr ui vo wr vr (.slice a9 n9 c9) vo { TT with inp := TT.inp ++ [y] } (w2.setCell ⟨c, 11, none⟩ (.slice a9 n9 c9))) := hA2; clear ho hg hl2 hA1 hA2)
        all_goals go_wp2
        all_goals go_roundw
        all_goals first | exact ⟨j + 1, .slice a9 n9 c9, by omega, by go_num, by unfold Hid; rw [HNX.out]; first | exact hst.out.trans HA.out | exact (hst.out.trans HA.out).drew⟩ | (simp [intOf]; omega)
      · obtain ⟨hnext, hlen⟩ := HO.out j hlt hroom
        have HNX : Hid (S.joi (l.take (j + 1)) = { S.joi (l.take j) with ov := true }) := hnext
        have c10 : wr.cell? ⟨c, 10, none⟩ = some (.bool (S.joi (l.take j)).ov) := hst.out.r.cell 10
        have f10 := frozen_of_row wr c 10 _ _ hst.out.r.h
        have HA : Hid (RSt B c vr ui vo wr vr ui vo { S.joi (l.take j) with ov := true } (wr.setCell ⟨c, 10, none⟩ (.bool true))) := hst.out.r.put 10 _ rfl rfl rfl rfl
        rw [hlen] at c11
        generalize (S.joi (l.take j)).ov = ob at *
        clear hnext hlen hby ei hroom
        go_wp2
        go_roundw
        case rel => exact ⟨j + 1, ui, by omega, by go_num, by unfold Hid; rw [HNX.out]; exact hst.out.trans HA.out⟩
        case measure => simp [intOf]; omega
    · obtain rfl : j = l.length := by omega
      have HS : Hid (RSt B c vr vi vo W vr ui vo (S.joi l) wr) := by
        have := hst.out
        rw [List.take_length] at this
        exact this
      have v0 : wr.cell? ⟨w.heap.size, 0, none⟩ = some (.bool t) := cell_of_row wr _ 0 _ _ _ hbx
      have v1 : wr.cell? ⟨w.heap.size, 1, none⟩ = some (.bool e) := cell_of_row wr _ 1 _ _ _ hbx
      have v2 : wr.cell? ⟨w.heap.size, 2, none⟩ = some (.bool s) := cell_of_row wr _ 2 _ _ _ hbx
      have hne : ¬ c = w.heap.size := fun e2 => by
        have h9 := HS.out.r.h
        rw [e2, hbx] at h9
        simp at h9
      have hne2 : ¬ w.heap.size = c := fun e2 => hne e2.symm
      have k3 : wr.cell? ⟨c, 3, none⟩ = some (.int .u64 S.time) := HS.out.r.cell 3
      have k4 : wr.cell? ⟨c, 4, none⟩ = some (.bool (S.joi l).ext) := HS.out.r.cell 4
      have k5 : wr.cell? ⟨c, 5, none⟩ = some (.bool (S.joi l).soft) := HS.out.r.cell 5
      have f3 := frozen_of_row wr c 3 _ _ HS.out.r.h
      have f4 := frozen_of_row wr c 4 _ _ HS.out.r.h
      have f5 := frozen_of_row wr c 5 _ _ HS.out.r.h
      have HA : Hid (RSt B c vr vi vo W vr ui vo { S.joi l with ext := e, soft := s } ((wr.setCell ⟨c, 4, none⟩ (.bool e)).setCell ⟨c, 5, none⟩ (.bool s))) := HS.out.trans ((HS.out.r.put (T := { S.joi l with ext := e }) 4 (.bool e) rfl rfl rfl rfl).trans ((HS.out.r.put (T := { S.joi l with ext := e }) 4 (.bool e) rfl rfl rfl rfl).r.put 5 (.bool s) rfl rfl rfl rfl))
      clear hlt hst hby ei c11 HBX HI HO HN
      cases t with
      | true =>
        have HA2 : Hid (RSt B c vr vi vo W vr ui vo { S.joi l with ext := e, soft := s, time := (S.time + 1) % 18446744073709551616 } (((wr.setCell ⟨c, 4, none⟩ (.bool e)).setCell ⟨c, 5, none⟩ (.bool s)).setCell ⟨c, 3, none⟩ (.int .u64 ((S.time + 1) % 18446744073709551616)))) := HA.out.trans (HA.out.r.put 3 _ rfl rfl rfl rfl)
        have HW : Hid (IntKind.u64.wrap (S.time + 1) = (S.time + 1) % 18446744073709551616) := by unfold Hid; rw [IntKind.wrap_u64]
        generalize (S.joi l).ext = oe at *
        generalize (S.joi l).soft = os2 at *
        go_wp2
        first | go_end0 | refine bodyPost_ret (results_none rfl _ _ _) rfl ?_
        refine ⟨rfl, ui, ?_⟩
        rw [HT.out, HW.out]
        exact HA2.out.pre HB.out
      | false =>
        generalize (S.joi l).ext = oe at *
        generalize (S.joi l).soft = os2 at *
        go_wp2
        first | go_end0 | refine bodyPost_ret (results_none rfl _ _ _) rfl ?_
        refine ⟨rfl, ui, ?_⟩
        rw [HT.out]
        exact HA.out.pre HB.out
end Go.Proofs.Ytghiabdkgfhdbaa
