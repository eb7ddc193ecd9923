/-
  CsrStays: its walk.
-/
import Derived.Test.YtnnkeodiacdmaaaCmt
import Derived.Deep.RegionWith
import Derived.Deep.RegionHeld3
namespace Go.Proofs.Ytnnkeodiacdmaaa
set_option linter.unusedVariables false
open Go.ChangeShapes Go.WideShapes Go.ChangeAt Go.RowKit Go.Deep

set_option linter.unusedSimpArgs false
theorem wpO_store_new {P : Program} {o : Oper} {a : Act} {w : World} {K : Act → World → Prop} {Q : Exit → Act → World → Prop} (t : TypeId) (x y : Operand) (ho : o.op = .store t x y)
    (c c' : Array Value) (hx : a.eval x = .pointer (some ⟨w.heap.size, 0, none⟩)) (hy : a.eval y = .agg c') (hi : (P.info? t).map (·.size) = some c'.size) (hs : c.size = c'.size) (h1 : c'.all (·.oneCell') = true)
    (h : K (a.put o.dst undef) (w.alloc (.cells c' t))) : o.wp P a (w.alloc (.cells c t)) K Q := by
  unfold Oper.wp execOp
  simp only [ho, hx, hy, Sem.run_bind, run_storeAt_new w t c c' hi hs h1, Result.andThen_ok]
  exact h
theorem wpO_store_row {P : Program} {o : Oper} {a : Act} {w : World} {K : Act → World → Prop} {Q : Exit → Act → World → Prop} (t : TypeId) (x y : Operand) (ho : o.op = .store t x y)
    (g : Nat) (c c' : Array Value) (hx : a.eval x = .pointer (some ⟨g, 0, none⟩)) (hy : a.eval y = .agg c') (hg : Row w g c t) (hi : (P.info? t).map (·.size) = some c'.size) (hs : c.size = c'.size) (h1 : c'.all (·.oneCell') = true)
    (h : K (a.put o.dst undef) (w.setRow g c')) : o.wp P a w K Q := by
  unfold Oper.wp execOp
  simp only [ho, hx, hy, Instr.storeAt, Instr.sureAddr, Sem.run_bind, Sem.run_pure, Result.andThen_ok, run_storeVar_row w g t t c c' hg hi hs h1]
  exact h
theorem wpAnyH_takeD {P : Program} {md : Region.Mode} {ops : Array Oper} {Q : Exit → Act → World → Prop} {S : World → Prop} (i : Nat) (d : Option Tmp) {oi : Oper} {v : Value} {fuel : Nat} {listed : Array Bool} {a : Act} {w : World} (hi : ops[i]? = some oi) (hd : (ops[i]?).map (·.dst) = some d)
    (hs : Region.noSelect ops = true) (hf : Region.free md ops listed i = true) (hr : (Region.ready md ops listed).contains i = true) (hQ : ∀ c a w, Q (.panic c) (a.put oi.dst v) w → Q (.panic c) a w) (hy : YieldsIf P ops S oi v a) (hS : S w)
    (h : wpAnyH P md ops Q S fuel (listed.setIfInBounds i true) (a.put d v) w) : wpAnyH P md ops Q S (fuel + 1) listed a w := by
  rw [hi, Option.map_some] at hd
  injection hd with hd
  subst hd
  exact wpAnyH_take hi hs hf hr hQ hy hS h
/-- A whole row stored by the one operation that may come up. -/
theorem wpAnyH_store_row {P : Program} {md : Region.Mode} {ops : Array Oper} {Q : Exit → Act → World → Prop} {S : World → Prop} {fuel : Nat} {listed : Array Bool} {a : Act} {w : World} (i : Nat) (t : TypeId) (x y : Operand) (hr : Region.ready md ops listed = [i])
    (ho : (ops[i]?).map (fun o => (o.op, o.dst, o.guard)) = some (.store t x y, none, none)) (g : Nat) (c c' : Array Value) (hx : a.eval x = .pointer (some ⟨g, 0, none⟩)) (hy : a.eval y = .agg c') (hg : Row w g c t) (hi : (P.info? t).map (·.size) = some c'.size) (hs : c.size = c'.size) (h1 : c'.all (·.oneCell') = true)
    (hS : S (w.setRow g c')) (h : wpAnyH P md ops Q S fuel (listed.setIfInBounds i true) a (w.setRow g c')) : wpAnyH P md ops Q S (fuel + 1) listed a w := by
  cases e : ops[i]? with
  | none => rw [e] at ho; cases ho
  | some o =>
    rw [e] at ho
    simp only [Option.map_some, Option.some.injEq, Prod.mk.injEq] at ho
    refine wpAnyH_all hr (by simp) (fun j hj => ?_)
    obtain rfl : j = i := by simpa using hj
    refine wpOp_step e (fun K hK => ?_)
    rw [if_pos (by simp [Region.wanted, ho.2.2])]
    refine wpO_store_row t x y ho.1 g c c' hx hy hg hi hs h1 ?_
    refine hK _ _ ⟨hS, ?_⟩
    rw [ho.2.1]
    exact h
/-- The registers X of a Cpu, its reservation, as rows. -/
def xsv (k : Cp) : Array Value := (cpc k).extract 1 (1 + 32)
theorem xsv_size (k : Cp) : (xsv k).size = 32 := by simp [xsv, cpc_size]
theorem xs_at {w : World} {g : Nat} {k : Cp} {t : TypeId} (h : Row w g (cpc k) t) : True := trivial
theorem Row.xs {w : World} {g : Nat} {k k' : Cp} {t : TypeId} (h : Row w g (cpc k) t) (e : k.x = k'.x) : ∀ j v, (xsv k')[j]? = some v → w.cell? ⟨g, 1 + j, none⟩ = some v := fun j v hv => by
  by_cases hj : j < 32
  · rw [xsv, cpc_xs k' j hj] at hv
    have := h.cpu (1 + j) (by omega)
    rw [Nat.zero_add, cpcell_x _ _ hj, e] at this
    rw [this]; exact hv
  · rw [Array.getElem?_eq_none (by rw [xsv_size]; omega)] at hv; cases hv
theorem info_xs (k : Cp) : (Try.prog.info? 23).map (·.size) = some (xsv k).size := by rw [xsv_size]; kernel_rfl
def rsv (k : Cp) : Array Value := #[.bool k.rv, .int .u64 (n64 k.ra), .int .i64 k.rs]
theorem Row.rs {w : World} {g : Nat} {k k' : Cp} {t : TypeId} (h : Row w g (cpc k) t) (e1 : k.rv = k'.rv) (e2 : k.ra = k'.ra) (e3 : k.rs = k'.rs) : ∀ j v, (rsv k')[j]? = some v → w.cell? ⟨g, 79 + j, none⟩ = some v := fun j v hv => by
  match j, hv with
  | 0, hv => rw [h.cls.rv, e1]; simpa [rsv] using hv
  | 1, hv => rw [h.cls.ra, e2]; simpa [rsv] using hv
  | 2, hv => rw [h.cls.rs, e3]; simpa [rsv] using hv
  | j + 3, hv => simp [rsv] at hv
theorem info_rs (k : Cp) : (Try.prog.info? 29).map (·.size) = some (rsv k).size := by kernel_rfl
theorem eq_xs (w : World) (k : Cp) : (Op.equalIn 10000 23 (.agg (xsv k)) (.agg (xsv k))).run Try.prog w = .ok true w := by
  obtain ⟨r, hr, hi⟩ := cmp_xs w 9998 k k
  rw [show r = true from hi.2 (fun _ _ => rfl)] at hr
  exact hr
theorem eq_rs (w : World) (k : Cp) : (Op.equalIn 10000 29 (.agg (rsv k)) (.agg (rsv k))).run Try.prog w = .ok true w := by
  obtain ⟨r, hr, hi⟩ := cmp_res w 9998 k.rv k.rv k.ra k.ra k.rs k.rs
  rw [show r = true from hi.2 ⟨rfl, rfl, rfl, trivial⟩] at hr
  exact hr
theorem Row.drew {w : World} {g : Nat} {cs : Array Value} {t : TypeId} (h : Row w g cs t) : Row w.drew g cs t := h

set_option maxRecDepth 100000 in
set_option maxHeartbeats 4000000 in
theorem cstays_walk (hp : CPr) (hr : CRd) (hw : CWr) (k : Cp) (m t : BitVec 64) (vO : Value) (O : List Stp) (w : World) (hO : Stps w vO O) (hol : O.length * 24 ≤ 140737488351232) (hok : ∀ j, j < O.length → I64 (O.getD j stp0).i) :
    Calls Try.prog 7 #[.agg (runk k m t vO)] w fun e w' => e = .returned (.bool true) ∧ Below w.heap.size w w' := by
  obtain ⟨sa, cap, rfl, hcap, hsl⟩ := hO
  have HSL : Hid (O ≠ [] → ∃ g off, sa = some ⟨g, off, none⟩ ∧ g < w.heap.size ∧ ∀ j, j < O.length → ∀ c, c < 3 → w.cell? ⟨g, off + j * 3 + c, none⟩ = (stpv (O.getD j stp0))[c]?) := hsl
  clear hsl hcap
  have HLN : Hid (O.length < 5864062014718) := by show _ < _; omega
  have hz := zero_cpu
  obtain ⟨W0, hW0, r0, b0, s0⟩ := start1 w (runk k m t (.slice sa O.length cap)) 42
  have hlt0 : Hid (w.heap.size < W0.heap.size) := by unfold Hid; omega
  have HP : Hid CPr := hp
  have HWW : Hid CWr := hw
  have HOK : Hid (∀ j, j < O.length → I64 (O.getD j stp0).i) := hok
  have HLV : Hid (∀ W : World, Calls Try.prog 16 #[] W fun e w' => e = .returned (.bool true) ∧ Below W.heap.size W w') := live_c hr hw
  have HP0 : Hid (∀ W : World, Calls Try.prog 9 #[.agg (cpc k)] W fun e w' => e = .returned (.agg (cpc (PR k))) ∧ Below W.heap.size W w') := hp k
  have R0 : Hid (Row W0 w.heap.size (runk k m t (.slice sa O.length cap)) 42) := r0.out
  have B0 : Hid (Below w.heap.size w W0) := b0.out
  have HL : Hid (∀ j v, (cpc k)[j]? = some v → W0.cell? ⟨w.heap.size, 0 + j, none⟩ = some v) := r0.out.runk.1.agg
  clear s0 r0 b0 hp hr hw hol hok
  go_enter Try.func7, Try.ntmps7
  go_upto_region 1 with fail
  clear hW0
  go_upto_region 2 with (first | (refine wpList_load_agg (by rfl) 31 _ (by rfl) w.heap.size 0 (by rfl) (cpc k) _ HL.out Try.underlying31 (by rfl) (info_cpu _) ?_) | (go_at_call 9; refine (HP0.out _).mono ?_; rintro e w1 ⟨rfl, hb⟩; have Bw1 : Hid (Below W0.heap.size W0 w1) := hb; clear hb) | (refine wpList_store_last (by rfl) _ _ _ (by rfl) (by rfl) _ _ _ (by rfl) (by rfl) (by rfl) (info_cpu _) (by rw [cpc_size, cpc_size]) (cpc_ones _) ?_))
  refine go_onP (motive := fun W => Code.wp _ _ _ _ W) (Q := fun W => Row W w1.heap.size (cpc (PR k)) 31 ∧ Below W0.heap.size W0 W) ⟨Row.new w1 (cpc (PR k)) 31, Bw1.out.alloc Bw1.out.size _⟩ ?_
  have N1 : Hid (W0.heap.size ≤ w1.heap.size) := Bw1.out.size
  clear HL HP0 Bw1
  rintro W1 ⟨q1, c0⟩
  have Q1 : Hid (Row W1 w1.heap.size (cpc (PR k)) 31) := q1
  have BB : Hid (Below W0.heap.size W0 W1) := c0
  clear q1 c0
  go_upto_region 3 with (first | (refine wpList_load_row (by rfl) _ _ (by rfl) _ (by rfl) 31 _ (0, 0) _ Q1.out Try.underlying31 (by rfl) (info_cpu _) ?_) | (refine wpList_store_last (by rfl) _ _ _ (by rfl) (by rfl) _ _ _ (by rfl) (by rfl) (by rfl) (info_cpu _) (by rw [cpc_size, cpc_size]) (cpc_ones _) ?_))
  refine go_onP (motive := fun W => Code.wp _ _ _ _ W) (Q := fun W => Row W w1.heap.size (cpc (PR k)) 31 ∧ Row W W1.heap.size (cpc (PR k)) 31 ∧ Below W0.heap.size W0 W) ⟨Q1.out.old Q1.out.lt _, Row.new W1 (cpc (PR k)) 31, BB.out.alloc BB.out.size _⟩ ?_
  have HPQ : Hid (W0.heap.size ≤ w1.heap.size ∧ W0.heap.size ≤ W1.heap.size ∧ w1.heap.size ≠ W1.heap.size ∧ w.heap.size < W0.heap.size) := ⟨N1.out, BB.out.size, by have := Q1.out.lt; omega, hlt0.out⟩
  clear Q1 BB N1
  rintro W2 ⟨q1, q2, c0⟩
  have Q1 : Hid (Row W2 w1.heap.size (cpc (PR k)) 31) := q1
  have Q2 : Hid (Row W2 W1.heap.size (cpc (PR k)) 31) := q2
  have BB : Hid (Below W0.heap.size W0 W2) := c0
  clear q1 q2 c0
  generalize W1.heap.size = gq at *
  generalize w1.heap.size = gp at *
  have HPP : Hid (PR (PR k) = PR k) := PR_PR k
  generalize PR k = P0 at *
  go_wp2
  go_loopw [5] (fun x wr => ∃ j : Nat, j ≤ O.length ∧ x = .int .i64 j ∧ ∃ K : Cp, Hid (PR K = K) ∧ Hid (Sta K P0) ∧ Hid (Row wr gp (cpc K) 31) ∧ Hid (Row wr gq (cpc P0) 31) ∧ Hid (Below W0.heap.size W0 wr)) (fun x _ => O.length - (intOf x).toNat)
  case atStart => exact ⟨0, Nat.zero_le _, rfl, P0, HPP, Sta.refl P0, Q1, Q2, BB⟩
  case round =>
    clear Q1 Q2 BB
    obtain ⟨j, hj, rfl, K, hK, hS, g0, g1, gb⟩ := hrel
    obtain ⟨_, c1, c2, c3⟩ := (R0.out.cb gb.out).runk
    clear c1 c2
    have hL := HLN.out
    by_cases hlt : j < O.length
    · obtain ⟨gw, off, rfl, hgw, hcl⟩ := HSL.out (by intro e; rw [e] at hlt; simp at hlt)
      have hlt2 : (j : Int) < O.length := by omega
      have hb0 : Below w.heap.size w wr := B0.out.trans (gb.out.mono B0.out.size)
      have cw : ∀ q, q < 3 → wr.cell? ⟨gw, off + j * 3 + q, none⟩ = (stpv (O.getD j stp0))[q]? := fun q hq => (hb0.cell (p := ⟨gw, off + j * 3 + q, none⟩) hgw).trans (hcl j hlt q hq)
      obtain ⟨X, hX⟩ : ∃ X, X = O.getD j stp0 := ⟨_, rfl⟩
      have HI0 : Hid (I64 X.i) := by unfold Hid; rw [hX]; exact HOK.out j hlt
      rw [← hX] at cw
      clear hX hcl hb0
      obtain ⟨xi, xv, xd⟩ := X
      have HI : Hid (I64 xi) := HI0.out
      clear HI0
      have x0 : wr.cell? ⟨gw, off + j * 3, none⟩ = some (.int .i64 xi) := cw 0 (by omega)
      have x1 : wr.cell? ⟨gw, off + j * 3 + 1, none⟩ = some (.int .u64 (n64 xv)) := cw 1 (by omega)
      clear cw
      have HA : Hid (∀ W, Calls Try.prog 15 #[.agg (cpc K), .int .i64 xi, .int .u64 (n64 xv)] W fun e w' => e = .returned (.tuple #[.agg (cpc (WR K xi xv)), .bool (WK K xi)]) ∧ Below W.heap.size W w') := HWW.out K xi xv HI.out
      have F1 : Hid (PR (WR K xi xv) = WR K xi xv) := PR_WR K xi xv
      have F2 : Hid (Sta (WR K xi xv) P0) := by have h := WR_sta K xi xv; rw [hK.out] at h; exact h.trans hS.out
      have F3 : Hid (WK K xi = false → WR K xi xv = K) := fun h => (WR_no K xi xv h).trans hK.out
      have F4 : Hid (P0.md = 0 → WK K xi = false) := fun h => WK_u K xi (by rw [hK.out, hS.out.md]; exact h)
      generalize WR K xi xv = K' at HA F1 F2 F3
      generalize WK K xi = z2 at HA F3 F4
      go_upto_region 6 with fail
      go_cut [6, 7] from 19 to 35 (fun p q wx => ∃ g, p = .pointer (some ⟨g, 0, none⟩) ∧ q = .bool z2 ∧ wr.heap.size ≤ g ∧ Row wx g (cpc K') 31 ∧ Below wr.heap.size wr wx)
      case first =>
        have hl : ∀ w' : World, Below wr.heap.size wr w' → (Instr.loadAt 31 (.pointer (some ⟨gp, 0, none⟩))).run Try.prog w' = .ok (.agg (cpc K)) w' := fun w' hb => load_cpu w' gp 0 K (g0.out.later hb g0.out.lt).cpu
        have h84 : ∀ w' : World, Below wr.heap.size wr w' → w'.cell? ⟨w.heap.size, 84, none⟩ = some (.slice (some ⟨gw, off, none⟩) O.length cap) := fun w' hb => (hb.cell (p := ⟨w.heap.size, 84, none⟩) (by show w.heap.size < _; have := HPQ.out; have := gb.out.size; omega)).trans c3
        have hx0 : ∀ w' : World, Below wr.heap.size wr w' → w'.cell? ⟨gw, off + j * 3, none⟩ = some (.int .i64 xi) := fun w' hb => (hb.cell (p := ⟨gw, off + j * 3, none⟩) (by show gw < _; have := HPQ.out; have := gb.out.size; omega)).trans x0
        have hx1 : ∀ w' : World, Below wr.heap.size wr w' → w'.cell? ⟨gw, off + j * 3 + 1, none⟩ = some (.int .u64 (n64 xv)) := fun w' hb => (hb.cell (p := ⟨gw, off + j * 3 + 1, none⟩) (by show gw < _; have := HPQ.out; have := gb.out.size; omega)).trans x1
        clear c3 x0 x1
        have hS0 : Below wr.heap.size wr wr.drew := (Below.refl _ _).drew
        refine wp_region_held (S := fun w' => Below wr.heap.size wr w') (by kernel_rfl) ?_
        change wpAnyH _ _ _ _ _ _ _ _ wr.drew
        refine wpAnyH_takeD 0 (some 20) (v := .agg (cpc K)) rfl (by kernel_rfl) (by kernel_rfl) (by kernel_rfl) (by kernel_rfl) (fun _ _ _ h => h) (Or.inl ⟨by rfl, fun w9 hSw => ?_⟩) hS0 ?_
        · have q := hl w9 hSw
          unfold execOp
          show ((Instr.loadAt 31 (.pointer (some ⟨gp, 0, none⟩))) >>= fun v => pure (Next.value v)).run Try.prog w9 = _
          rw [Sem.run_bind, q]
          rfl
        try simp only [Act.put, List.setIfInBounds_toArray, List.set_cons_zero, List.set_cons_succ]
        refine wpAnyH_takeD 1 (some 21) (v := .pointer (some ⟨w.heap.size, 84, none⟩)) rfl (by kernel_rfl) (by kernel_rfl) (by kernel_rfl) (by kernel_rfl) (fun _ _ _ h => h) (Or.inl ⟨by rfl, ?_⟩) hS0 ?_
        · intro w9 hSw
          have q84 := h84 w9 hSw
          have q0 := hx0 w9 hSw
          have q1 := hx1 w9 hSw
          go_simp
        try simp only [Act.put, List.setIfInBounds_toArray, List.set_cons_zero, List.set_cons_succ]
        refine wpAnyH_takeD 2 (some 22) (v := .slice (some ⟨gw, off, none⟩) O.length cap) rfl (by kernel_rfl) (by kernel_rfl) (by kernel_rfl) (by kernel_rfl) (fun _ _ _ h => h) (Or.inl ⟨by rfl, ?_⟩) hS0 ?_
        · intro w9 hSw
          have q84 := h84 w9 hSw
          have q0 := hx0 w9 hSw
          have q1 := hx1 w9 hSw
          go_simp
        try simp only [Act.put, List.setIfInBounds_toArray, List.set_cons_zero, List.set_cons_succ]
        refine wpAnyH_takeD 3 (some 23) (v := .int .i64 (j : Int)) rfl (by kernel_rfl) (by kernel_rfl) (by kernel_rfl) (by kernel_rfl) (fun _ _ _ h => h) (Or.inl ⟨by rfl, ?_⟩) hS0 ?_
        · intro w9 hSw
          have q84 := h84 w9 hSw
          have q0 := hx0 w9 hSw
          have q1 := hx1 w9 hSw
          go_simp
        try simp only [Act.put, List.setIfInBounds_toArray, List.set_cons_zero, List.set_cons_succ]
        refine wpAnyH_takeD 4 (some 24) (v := .pointer (some ⟨gw, off + j * 3, none⟩)) rfl (by kernel_rfl) (by kernel_rfl) (by kernel_rfl) (by kernel_rfl) (fun _ _ _ h => h) (Or.inl ⟨by rfl, ?_⟩) hS0 ?_
        · intro w9 hSw
          have q84 := h84 w9 hSw
          have q0 := hx0 w9 hSw
          have q1 := hx1 w9 hSw
          go_simp
        try simp only [Act.put, List.setIfInBounds_toArray, List.set_cons_zero, List.set_cons_succ]
        refine wpAnyH_takeD 5 (some 25) (v := .pointer (some ⟨gw, off + j * 3, none⟩)) rfl (by kernel_rfl) (by kernel_rfl) (by kernel_rfl) (by kernel_rfl) (fun _ _ _ h => h) (Or.inl ⟨by rfl, ?_⟩) hS0 ?_
        · intro w9 hSw
          have q84 := h84 w9 hSw
          have q0 := hx0 w9 hSw
          have q1 := hx1 w9 hSw
          go_simp
        try simp only [Act.put, List.setIfInBounds_toArray, List.set_cons_zero, List.set_cons_succ]
        refine wpAnyH_takeD 6 (some 26) (v := .int .i64 xi) rfl (by kernel_rfl) (by kernel_rfl) (by kernel_rfl) (by kernel_rfl) (fun _ _ _ h => h) (Or.inl ⟨by rfl, ?_⟩) hS0 ?_
        · intro w9 hSw
          have q84 := h84 w9 hSw
          have q0 := hx0 w9 hSw
          have q1 := hx1 w9 hSw
          go_simp
        try simp only [Act.put, List.setIfInBounds_toArray, List.set_cons_zero, List.set_cons_succ]
        refine wpAnyH_takeD 7 (some 27) (v := .pointer (some ⟨w.heap.size, 84, none⟩)) rfl (by kernel_rfl) (by kernel_rfl) (by kernel_rfl) (by kernel_rfl) (fun _ _ _ h => h) (Or.inl ⟨by rfl, ?_⟩) hS0 ?_
        · intro w9 hSw
          have q84 := h84 w9 hSw
          have q0 := hx0 w9 hSw
          have q1 := hx1 w9 hSw
          go_simp
        try simp only [Act.put, List.setIfInBounds_toArray, List.set_cons_zero, List.set_cons_succ]
        refine wpAnyH_takeD 8 (some 28) (v := .slice (some ⟨gw, off, none⟩) O.length cap) rfl (by kernel_rfl) (by kernel_rfl) (by kernel_rfl) (by kernel_rfl) (fun _ _ _ h => h) (Or.inl ⟨by rfl, ?_⟩) hS0 ?_
        · intro w9 hSw
          have q84 := h84 w9 hSw
          have q0 := hx0 w9 hSw
          have q1 := hx1 w9 hSw
          go_simp
        try simp only [Act.put, List.setIfInBounds_toArray, List.set_cons_zero, List.set_cons_succ]
        refine wpAnyH_takeD 9 (some 29) (v := .int .i64 (j : Int)) rfl (by kernel_rfl) (by kernel_rfl) (by kernel_rfl) (by kernel_rfl) (fun _ _ _ h => h) (Or.inl ⟨by rfl, ?_⟩) hS0 ?_
        · intro w9 hSw
          have q84 := h84 w9 hSw
          have q0 := hx0 w9 hSw
          have q1 := hx1 w9 hSw
          go_simp
        try simp only [Act.put, List.setIfInBounds_toArray, List.set_cons_zero, List.set_cons_succ]
        refine wpAnyH_takeD 10 (some 30) (v := .pointer (some ⟨gw, off + j * 3, none⟩)) rfl (by kernel_rfl) (by kernel_rfl) (by kernel_rfl) (by kernel_rfl) (fun _ _ _ h => h) (Or.inl ⟨by rfl, ?_⟩) hS0 ?_
        · intro w9 hSw
          have q84 := h84 w9 hSw
          have q0 := hx0 w9 hSw
          have q1 := hx1 w9 hSw
          go_simp
        try simp only [Act.put, List.setIfInBounds_toArray, List.set_cons_zero, List.set_cons_succ]
        refine wpAnyH_takeD 11 (some 31) (v := .pointer (some ⟨gw, off + j * 3 + 1, none⟩)) rfl (by kernel_rfl) (by kernel_rfl) (by kernel_rfl) (by kernel_rfl) (fun _ _ _ h => h) (Or.inl ⟨by rfl, ?_⟩) hS0 ?_
        · intro w9 hSw
          have q84 := h84 w9 hSw
          have q0 := hx0 w9 hSw
          have q1 := hx1 w9 hSw
          go_simp
        try simp only [Act.put, List.setIfInBounds_toArray, List.set_cons_zero, List.set_cons_succ]
        refine wpAnyH_takeD 12 (some 32) (v := .int .u64 (n64 xv)) rfl (by kernel_rfl) (by kernel_rfl) (by kernel_rfl) (by kernel_rfl) (fun _ _ _ h => h) (Or.inl ⟨by rfl, ?_⟩) hS0 ?_
        · intro w9 hSw
          have q84 := h84 w9 hSw
          have q0 := hx0 w9 hSw
          have q1 := hx1 w9 hSw
          go_simp
        try simp only [Act.put, List.setIfInBounds_toArray, List.set_cons_zero, List.set_cons_succ]
        clear h84 hx0 hx1 hl
        refine wpAnyH_ready (rs := [13, 17]) (by kernel_rfl) (by simp) ?_
        refine AllReadyH.cons (o := _) rfl (fun KK hKK => ?_) ?_
        ·
          rw [if_pos (by rfl)]
          go_simp
          go_at_call 15
          refine (HA.out _).mono ?_
          rintro e w3 ⟨rfl, hb⟩
          have hS3 : Below wr.heap.size wr w3 := hS0.trans (hb.mono (Nat.le_refl _))
          clear hb
          refine hKK.out _ _ hS3 (fun _ => ?_)
          try simp only [Act.put, List.setIfInBounds_toArray, List.set_cons_zero, List.set_cons_succ]
          refine wpAnyH_takeD 14 (some 19) (v := .tuple #[.agg (cpc K'), .bool z2]) rfl (by kernel_rfl) (by kernel_rfl) (by kernel_rfl) (by kernel_rfl) (fun _ _ _ h => h) (Or.inl ⟨by rfl, fun w9 hSw => by go_simp⟩) hS3 ?_
          try simp only [Act.put, List.setIfInBounds_toArray, List.set_cons_zero, List.set_cons_succ]
          refine wpAnyH_takeD 15 (some 34) (v := .agg (cpc K')) rfl (by kernel_rfl) (by kernel_rfl) (by kernel_rfl) (by kernel_rfl) (fun _ _ _ h => h) (Or.inl ⟨by rfl, fun w9 hSw => by go_simp⟩) hS3 ?_
          try simp only [Act.put, List.setIfInBounds_toArray, List.set_cons_zero, List.set_cons_succ]
          refine wpAnyH_takeD 16 (some 35) (v := .bool z2) rfl (by kernel_rfl) (by kernel_rfl) (by kernel_rfl) (by kernel_rfl) (fun _ _ _ h => h) (Or.inl ⟨by rfl, fun w9 hSw => by go_simp⟩) hS3 ?_
          try simp only [Act.put, List.setIfInBounds_toArray, List.set_cons_zero, List.set_cons_succ]
          refine wpAnyH_ready (rs := [17]) (by kernel_rfl) (by simp) ?_
          refine AllReadyH.cons (o := _) rfl (fun KL hKL => ?_) AllReadyH.nil
          rw [if_pos (by rfl)]
          go_simp
          have hS4 : Below wr.heap.size wr (w3.alloc (.cells (cpc cz) 31)) := hS3.alloc hS3.size _
          refine hKL.out _ _ hS4 (fun _ => ?_)
          try simp only [Act.put, List.setIfInBounds_toArray, List.set_cons_zero, List.set_cons_succ]
          refine go_onP (motive := fun W => wpAnyH _ _ _ _ _ _ _ _ W) (Q := fun W => Row W w3.heap.size (cpc cz) 31 ∧ Below wr.heap.size wr W) ⟨Row.new w3 (cpc cz) 31, hS4⟩ ?_
          have hge : wr.heap.size ≤ w3.heap.size := hS3.size
          clear hS4 hS3 hKL hKK
          have HGE : Hid (wr.heap.size ≤ w3.heap.size) := hge
          clear hge
          rintro w4 ⟨hRw, hS4⟩
          have hS5 : Below wr.heap.size wr (w4.setRow w3.heap.size (cpc K')) := below_row hS4 HGE.out _
          refine wpAnyH_store_row 18 31 (.tmp 6) (.tmp 34) (by kernel_rfl) (by kernel_rfl) w3.heap.size (cpc cz) (cpc K') (by rfl) (by rfl) hRw (info_cpu _) (by rw [cpc_size, cpc_size]) (cpc_ones _) hS5 ?_
          try simp only [Act.put, List.setIfInBounds_toArray, List.set_cons_zero, List.set_cons_succ]
          refine wpAnyH_takeD 19 (some 7) (v := .bool z2) rfl (by kernel_rfl) (by kernel_rfl) (by kernel_rfl) (by kernel_rfl) (fun _ _ _ h => h) (Or.inl ⟨by rfl, fun w9 hSw => by go_simp⟩) hS5 ?_
          try simp only [Act.put, List.setIfInBounds_toArray, List.set_cons_zero, List.set_cons_succ]
          refine wpAnyH_done (by kernel_rfl) ?_ _
          go_wp2_with fail
          go_meet
          exact ⟨w3.heap.size, rfl, rfl, HGE.out, setRow_heap _ _ _ _ _ _ hRw, hS5⟩
        ·
          refine AllReadyH.cons (o := _) rfl (fun KK hKK => ?_) AllReadyH.nil
          rw [if_pos (by rfl)]
          go_simp
          have hS3 : Below wr.heap.size wr (wr.drew.alloc (.cells (cpc cz) 31)) := hS0.alloc (Nat.le_refl _) _
          refine hKK.out _ _ hS3 (fun _ => ?_)
          try simp only [Act.put, List.setIfInBounds_toArray, List.set_cons_zero, List.set_cons_succ]
          refine wpAnyH_ready (rs := [13]) (by kernel_rfl) (by simp) ?_
          refine AllReadyH.cons (o := _) rfl (fun KL hKL => ?_) AllReadyH.nil
          rw [if_pos (by rfl)]
          go_simp
          go_at_call 15
          refine (HA.out _).mono ?_
          rintro e w3 ⟨rfl, hb⟩
          have hS4 : Below wr.heap.size wr w3 := hS3.trans (hb.mono hS3.size)
          have hRw : Row w3 wr.heap.size (cpc cz) 31 := Row.later (show Row (wr.drew.alloc (.cells (cpc cz) 31)) wr.heap.size (cpc cz) 31 from Row.new wr.drew _ _) hb (by simp)
          clear hb
          refine hKL.out _ _ hS4 (fun _ => ?_)
          try simp only [Act.put, List.setIfInBounds_toArray, List.set_cons_zero, List.set_cons_succ]
          refine wpAnyH_takeD 14 (some 19) (v := .tuple #[.agg (cpc K'), .bool z2]) rfl (by kernel_rfl) (by kernel_rfl) (by kernel_rfl) (by kernel_rfl) (fun _ _ _ h => h) (Or.inl ⟨by rfl, fun w9 hSw => by go_simp⟩) hS4 ?_
          try simp only [Act.put, List.setIfInBounds_toArray, List.set_cons_zero, List.set_cons_succ]
          refine wpAnyH_takeD 15 (some 34) (v := .agg (cpc K')) rfl (by kernel_rfl) (by kernel_rfl) (by kernel_rfl) (by kernel_rfl) (fun _ _ _ h => h) (Or.inl ⟨by rfl, fun w9 hSw => by go_simp⟩) hS4 ?_
          try simp only [Act.put, List.setIfInBounds_toArray, List.set_cons_zero, List.set_cons_succ]
          refine wpAnyH_takeD 16 (some 35) (v := .bool z2) rfl (by kernel_rfl) (by kernel_rfl) (by kernel_rfl) (by kernel_rfl) (fun _ _ _ h => h) (Or.inl ⟨by rfl, fun w9 hSw => by go_simp⟩) hS4 ?_
          try simp only [Act.put, List.setIfInBounds_toArray, List.set_cons_zero, List.set_cons_succ]
          have hS5 : Below wr.heap.size wr (w3.setRow wr.heap.size (cpc K')) := below_row hS4 (Nat.le_refl _) _
          refine wpAnyH_store_row 18 31 (.tmp 6) (.tmp 34) (by kernel_rfl) (by kernel_rfl) wr.heap.size (cpc cz) (cpc K') (by rfl) (by rfl) hRw (info_cpu _) (by rw [cpc_size, cpc_size]) (cpc_ones _) hS5 ?_
          try simp only [Act.put, List.setIfInBounds_toArray, List.set_cons_zero, List.set_cons_succ]
          refine wpAnyH_takeD 19 (some 7) (v := .bool z2) rfl (by kernel_rfl) (by kernel_rfl) (by kernel_rfl) (by kernel_rfl) (fun _ _ _ h => h) (Or.inl ⟨by rfl, fun w9 hSw => by go_simp⟩) hS5 ?_
          try simp only [Act.put, List.setIfInBounds_toArray, List.set_cons_zero, List.set_cons_succ]
          refine wpAnyH_done (by kernel_rfl) ?_ _
          go_wp2_with fail
          go_meet
          exact ⟨wr.heap.size, rfl, rfl, Nat.le_refl _, setRow_heap _ _ _ _ _ _ hRw, hS5⟩
      case rest =>
        obtain ⟨g, rfl, rfl, hge, hr, hb⟩ := hcut
        have RD : Hid (Row wc g (cpc K') 31) := hr
        have RP : Hid (Row wc gp (cpc K) 31) := g0.out.cb hb
        have RQ : Hid (Row wc gq (cpc P0) 31) := g1.out.cb hb
        have BW : Hid (Below W0.heap.size W0 wc) := gb.out.trans (hb.mono gb.out.size)
        have NE : Hid (gp < g ∧ gq < g) := ⟨Nat.lt_of_lt_of_le g0.out.lt hge, Nat.lt_of_lt_of_le g1.out.lt hge⟩
        have hgd : Hid (g < wc.heap.size) := RD.out.lt
        have hgq : Hid (gq < wc.heap.size) := RQ.out.lt
        have HPr : Hid (∀ W, Calls Try.prog 9 #[.agg (cpc K')] W fun e w' => e = .returned (.agg (cpc K')) ∧ Below W.heap.size W w') := fun W => by
          have h := HP.out K' W
          rw [F1.out] at h
          exact h
        have heq : ∀ W, (Op.equalIn 10000 31 (.agg (cpc K')) (.agg (cpc K'))).run Try.prog W = .ok true W := fun W => eq_cpu W _
        have hex : ∀ W, (Op.equalIn 10000 23 (.agg (xsv K')) (.agg (xsv K'))).run Try.prog W = .ok true W := fun W => eq_xs W _
        have her : ∀ W, (Op.equalIn 10000 29 (.agg (rsv K')) (.agg (rsv K'))).run Try.prog W = .ok true W := fun W => eq_rs W _
        have HLD : Hid (∀ j v, (cpc K')[j]? = some v → wc.cell? ⟨g, 0 + j, none⟩ = some v) := RD.out.cpu.agg
        have HXD : Hid (∀ j v, (xsv K')[j]? = some v → wc.cell? ⟨g, 1 + j, none⟩ = some v) := RD.out.xs rfl
        have HXQ : Hid (∀ j v, (xsv K')[j]? = some v → wc.cell? ⟨gq, 1 + j, none⟩ = some v) := RQ.out.xs F2.out.x.symm
        have HRD : Hid (∀ j v, (rsv K')[j]? = some v → wc.cell? ⟨g, 79 + j, none⟩ = some v) := RD.out.rs rfl rfl rfl
        have HRQ : Hid (∀ j v, (rsv K')[j]? = some v → wc.cell? ⟨gq, 79 + j, none⟩ = some v) := RQ.out.rs F2.out.rv.symm F2.out.ra.symm F2.out.rs.symm
        have L0 : ∀ x : Later wc, x.1.cell? ⟨g, 0, none⟩ = some (.int .u64 (n64 K'.pc)) := later_at hgd.out RD.out.cls.pc
        have L1 : ∀ x : Later wc, x.1.cell? ⟨gq, 0, none⟩ = some (.int .u64 (n64 K'.pc)) := later_at hgq.out (by rw [F2.out.pc]; exact RQ.out.cls.pc)
        have L2 : ∀ x : Later wc, x.1.cell? ⟨g, 33, none⟩ = some (.int .i64 K'.md) := later_at hgd.out RD.out.cls.md
        have L3 : ∀ x : Later wc, x.1.cell? ⟨gq, 33, none⟩ = some (.int .i64 K'.md) := later_at hgq.out (by rw [F2.out.md]; exact RQ.out.cls.md)
        have L4 : ∀ x : Later wc, x.1.cell? ⟨g, 34, none⟩ = some (.bool K'.wt) := later_at hgd.out RD.out.cls.wt
        have L5 : ∀ x : Later wc, x.1.cell? ⟨gq, 34, none⟩ = some (.bool K'.wt) := later_at hgq.out (by rw [F2.out.wt]; exact RQ.out.cls.wt)
        have e1 : (n64 K'.pc != n64 K'.pc) = false := by simp
        have e2 : (K'.md != K'.md) = false := by simp
        have e3 : (K'.wt != K'.wt) = false := by simp
        have F5 : Hid (K'.md = 0 → z2 = false) := fun h => F4.out (by rw [← F2.out.md]; exact h)
        have hne := later_nonempty wc
        clear hr hb hge c3 x0 x1 HA g0 g1 gb HI F4
        go_upto_region 7 with fail
        refine wp_region_later (x0 := Later.start wc) (by kernel_rfl) (by kernel_rfl) ?_
        repeat (first | (refine BigFrame.wpQuiet_want (by rfl) fun K hK => ?_; refine quiet_load_agg 31 _ (by rfl) g 0 (by rfl) (cpc K') _ hgd.out HLD.out Try.underlying31 (by rfl) (info_cpu _) (hK _ ?_); clear hK K; simp only [Act.put, List.setIfInBounds_toArray, List.set_cons_succ, List.set_cons_zero]) | (refine BigFrame.wpQuiet_want (by rfl) fun K hK => ?_; refine quiet_load_agg 23 _ (by rfl) g 1 (by rfl) (xsv K') _ hgd.out HXD.out Try.underlying23 (by rfl) (info_xs _) (hK _ ?_); clear hK K; simp only [Act.put, List.setIfInBounds_toArray, List.set_cons_succ, List.set_cons_zero]) | (refine BigFrame.wpQuiet_want (by rfl) fun K hK => ?_; refine quiet_load_agg 23 _ (by rfl) gq 1 (by rfl) (xsv K') _ hgq.out HXQ.out Try.underlying23 (by rfl) (info_xs _) (hK _ ?_); clear hK K; simp only [Act.put, List.setIfInBounds_toArray, List.set_cons_succ, List.set_cons_zero]) | (refine BigFrame.wpQuiet_want (by rfl) fun K hK => ?_; refine quiet_load_agg 29 _ (by rfl) g 79 (by rfl) (rsv K') _ hgd.out HRD.out Try.underlying29 (by rfl) (info_rs _) (hK _ ?_); clear hK K; simp only [Act.put, List.setIfInBounds_toArray, List.set_cons_succ, List.set_cons_zero]) | (refine BigFrame.wpQuiet_want (by rfl) fun K hK => ?_; refine quiet_load_agg 29 _ (by rfl) gq 79 (by rfl) (rsv K') _ hgq.out HRQ.out Try.underlying29 (by rfl) (info_rs _) (hK _ ?_); clear hK K; simp only [Act.put, List.setIfInBounds_toArray, List.set_cons_succ, List.set_cons_zero]) | (go_big_quiet_step (first | (go_at_call 9; exact calls_later (HPr.out _)))))
        refine wpQuiet_nil ?_
        rintro w' ⟨x9, rfl⟩
        go_upto_region 9 with fail
        refine go_onP (motive := fun W => Code.wp _ _ _ _ W) (Q := fun W => Row W g (cpc K') 31 ∧ Row W gp (cpc K) 31 ∧ Row W gq (cpc P0) 31 ∧ Below W0.heap.size W0 W) ⟨RD.out.cb x9.below, RP.out.cb x9.below, RQ.out.cb x9.below, BW.out.trans (x9.below.mono BW.out.size)⟩ ?_
        clear RD RP RQ BW hgd hgq HPr hex her HLD HXD HXQ HRD HRQ L0 L1 L2 L3 L4 L5 e1 e2 e3 hne
        rintro W7 ⟨q1, q2, q3, c0⟩
        have RD : Hid (Row W7 g (cpc K') 31) := q1
        have RP : Hid (Row W7 gp (cpc K) 31) := q2
        have RQ : Hid (Row W7 gq (cpc P0) 31) := q3
        have BB : Hid (Below W0.heap.size W0 W7) := c0
        have cm : W7.cell? ⟨gq, 33, none⟩ = some (.int .i64 K'.md) := by rw [F2.out.md]; exact q3.cls.md
        clear q1 q2 q3 c0 heq
        cases z2 with
        | false =>
          have hKK : K' = K := F3.out rfl
          have RP2 : Hid (Row W7 gp (cpc K') 31) := by unfold Hid; rw [hKK]; exact RP.out
          have heq : ∀ W, (Op.equalIn 10000 31 (.agg (cpc K')) (.agg (cpc K'))).run Try.prog W = .ok true W := fun W => eq_cpu W _
          clear hKK F5 F3
          go_upto_region 11 with (first | (refine wpList_load_rowG (by rfl) _ _ (by rfl) _ (by rfl) 31 _ (0, 0) _ RD.out Try.underlying31 (by rfl) (info_cpu _) ?_) | (refine wpList_load_rowG (by rfl) _ _ (by rfl) _ (by rfl) 31 _ (0, 0) _ RP2.out Try.underlying31 (by rfl) (info_cpu _) ?_))
          clear heq RP2
          go_upto_region 13 with fail
          go_wp2_with (first | (refine wpList_load_row (by rfl) _ _ (by rfl) _ (by rfl) 31 _ (0, 0) _ RD.out Try.underlying31 (by rfl) (info_cpu _) ?_) | (refine wpList_store_row (by rfl) _ _ _ (by rfl) (by rfl) _ _ _ (by rfl) (by rfl) RP.out (info_cpu _) (by rw [cpc_size, cpc_size]) (cpc_ones _) ?_))
          go_roundw
          case rel => exact ⟨j + 1, hlt, by go_num, K', F1, F2, setRow_heap _ _ _ _ _ _ RP.out, row_apart RQ.out HPQ.out.2.2.1.symm _, below_row BB.out HPQ.out.1 _⟩
          case measure => simp [intOf]; omega
        | true =>
          have hmd : (K'.md == 0) = false := by
            rw [beq_eq_false_iff_ne]
            intro h
            exact absurd (F5.out h) (by decide)
          clear F5 F3
          go_upto_region 11 with fail
          go_upto_region 13 with fail
          go_wp2_with (first | (refine wpList_load_row (by rfl) _ _ (by rfl) _ (by rfl) 31 _ (0, 0) _ RD.out Try.underlying31 (by rfl) (info_cpu _) ?_) | (refine wpList_store_row (by rfl) _ _ _ (by rfl) (by rfl) _ _ _ (by rfl) (by rfl) RP.out (info_cpu _) (by rw [cpc_size, cpc_size]) (cpc_ones _) ?_))
          go_roundw
          case rel => exact ⟨j + 1, hlt, by go_num, K', F1, F2, setRow_heap _ _ _ _ _ _ RP.out, row_apart RQ.out HPQ.out.2.2.1.symm _, below_row BB.out HPQ.out.1 _⟩
          case measure => simp [intOf]; omega
    · have hj9 : ¬ (j : Int) < O.length := by omega
      go_wp2_with (go_at_call 16; refine (HLV.out _).mono ?_; rintro e w9 ⟨rfl, hb⟩; have B9 : Hid (Below wr.heap.size wr w9) := hb; clear hb)
      go_ret
      exact ⟨rfl, B0.out.trans ((gb.out.trans (B9.out.mono gb.out.size)).mono B0.out.size)⟩
end Go.Proofs.Ytnnkeodiacdmaaa
