/-
  CsrTells: its walk.
-/
import Derived.Test.YtnnkeodiacdmaaaCws
import Derived.Test.YtnnkeodiacdmaaaCmu
import Derived.Test.YtnnkeodiacdmaaaPbm
namespace Go.Proofs.Ytnnkeodiacdmaaa
set_option linter.unusedVariables false
open Go.ChangeShapes Go.WideShapes Go.ChangeAt Go.RowKit Go.Deep

set_option linter.unusedSimpArgs false
/-- A whole row loaded by the one operation that may come up. -/
theorem wpAnyH_load_row {P : Program} {md : Region.Mode} {ops : Array Oper} {Q : Exit → Act → World → Prop} {S : World → Prop} {fuel : Nat} {listed : Array Bool} {a : Act} {w : World} (i : Nat) (ty : TypeId) (x : Operand) (d : Tmp) (hr : Region.ready md ops listed = [i])
    (ho : (ops[i]?).map (fun o => (o.op, o.dst, o.guard)) = some (.load ty x, some d, none)) (g : Nat) (hx : a.eval x = .pointer (some ⟨g, 0, none⟩)) (t : TypeId) (cs : Array Value) (td : TypeDesc) (hg : Row w g cs t) (hu : P.underlying ty = some td) (hd : (match td with | .struct _ | .array _ _ => true | _ => false) = true)
    (hi : (P.info? ty).map (·.size) = some cs.size) (hS : S w) (h : wpAnyH P md ops Q S fuel (listed.setIfInBounds i true) (a.put (some d) (.agg cs)) w) : wpAnyH P md ops Q S (fuel + 1) listed a w := by
  cases e : ops[i]? with
  | none => rw [e] at ho; cases ho
  | some o =>
    rw [e] at ho
    simp only [Option.map_some, Option.some.injEq, Prod.mk.injEq] at ho
    refine wpAnyH_all hr (by simp) (fun j hj => ?_)
    obtain rfl : j = i := by simpa using hj
    refine wpOp_step e (fun K hK => ?_)
    rw [if_pos (by simp [Region.wanted, ho.2.2])]
    refine wp_load_row ty x ho.1 g hx t cs (0, 0) td hg hu hd hi ?_
    refine hK _ _ ⟨hS, ?_⟩
    rw [ho.2.1]
    exact h
theorem cell_row_other (w : World) (g : Nat) (cs : Array Value) (p : Addr) (h : p.block ≠ g) : (w.setRow g cs).cell? p = w.cell? p := World.cell?_of_block (setRow_other _ _ _ _ h)
/-- One number more has been looked at. -/
theorem seen_step {dv : Int → Bool} {i N : Int} {q : Bool} (hq : q = true ↔ ∃ n, Vn n ∧ n < i ∧ dv n = true) (hN : Vn N) (hg : ∀ n, Vn n → (n < N ↔ n < i)) : (q || dv N) = true ↔ ∃ n, Vn n ∧ n < N + 1 ∧ dv n = true := by
  rw [Bool.or_eq_true, hq]
  constructor
  · rintro (⟨n, h1, h2, h3⟩ | h)
    · exact ⟨n, h1, by have := (hg n h1).2 h2; omega, h3⟩
    · exact ⟨N, hN, by omega, h⟩
  · rintro ⟨n, h1, h2, h3⟩
    by_cases e : n = N
    · right; rw [← e]; exact h3
    · left; exact ⟨n, h1, (hg n h1).1 (by omega), h3⟩
/-- What is told apart. -/
def dvn (a b : Cp) (m t : BitVec 64) (n : Int) : Bool := RD a m t n != RD b m t n
theorem dvn_all {a b : Cp} (ha : PR a = a) (hb : PR b = b) (hm : a.md = 3) (hs : Sta b a) (m t : BitVec 64) {q r : Bool} (hq : q = true ↔ ∃ n, Vn n ∧ n < 3104 ∧ dvn a b m t n = true) (hr : r = true ↔ cpc a = cpc b) : (q == !r) = true := by
  have hm2 : b.md = 3 := hs.md.trans hm
  cases r with
  | true =>
    have e := hr.1 rfl
    cases q with
    | false => rfl
    | true =>
      obtain ⟨n, _, _, h⟩ := hq.1 rfl
      unfold dvn at h
      rw [RD_M ha hm, RD_M hb hm2, tells_same e] at h
      simp at h
  | false =>
    cases q with
    | true => rfl
    | false =>
      have e : cpc a = cpc b := by
        refine tells_all ha hb hs m t (fun n hn hx => ?_)
        by_cases h : TO a m t n = TO b m t n
        · exact h
        · exfalso
          have := hq.2 ⟨n, hn, by unfold Vn at hn; omega, by unfold dvn; rw [RD_M ha hm, RD_M hb hm2, hx]; simpa using h⟩
          cases this
      have := hr.2 e
      cases this
theorem cmp_fix (a b : Cp) : ∃ r : Bool, (r = true ↔ cpc a = cpc b) ∧ ∀ W, (Op.equalIn 10000 31 (.agg (cpc a)) (.agg (cpc b))).run Try.prog W = .ok r W := by
  by_cases h : cpc a = cpc b
  · refine ⟨true, by simp [h], fun W => ?_⟩
    obtain ⟨r, hr, hi⟩ := cmp_cpu W 9996 a b
    rw [hi.2 h] at hr
    exact hr
  · refine ⟨false, by simp [h], fun W => ?_⟩
    obtain ⟨r, hr, hi⟩ := cmp_cpu W 9996 a b
    cases r with
    | true => exact absurd (hi.1 rfl) h
    | false => exact hr

set_option maxRecDepth 100000 in
set_option maxHeartbeats 8000000 in
theorem ctells_walk (hp : CPr) (hr : CRd) (hw : CWr) (k : Cp) (m t : BitVec 64) (vO : Value) (O : List Stp) (k2 : Cp) (n2 : Int) (x2 m2 t2 : BitVec 64) (w : World) (hO : Stps w vO O) (hol : O.length * 24 ≤ 140737488351232) (hok : ∀ j, j < O.length → I64 (O.getD j stp0).i) :
    Calls Try.prog 8 #[.agg (runk k m t vO), .agg (akk k2 n2 x2 m2 t2)] w fun e w' => e = .returned (.bool true) ∧ Below w.heap.size w w' := by
  obtain ⟨sa, cap, rfl, hcap, hsl⟩ := hO
  have HSL : Hid (O ≠ [] → ∃ g off, sa = some ⟨g, off, none⟩ ∧ g < w.heap.size ∧ ∀ j, j < O.length → ∀ c, c < 3 → w.cell? ⟨g, off + j * 3 + c, none⟩ = (stpv (O.getD j stp0))[c]?) := hsl
  clear hsl hcap
  have HLN : Hid (O.length < 5864062014718) := by show _ < _; omega
  have hz := zero_cpu
  obtain ⟨W0, hW0, r0, r3, b0, s0⟩ := start2 w (runk k m t (.slice sa O.length cap)) (akk k2 n2 x2 m2 t2) 42 50
  have hlt0 : Hid (w.heap.size + 1 < W0.heap.size) := by unfold Hid; omega
  have HR : Hid CRd := hr
  have HWW : Hid CWr := hw
  have HOK : Hid (∀ j, j < O.length → I64 (O.getD j stp0).i) := hok
  have HLV : Hid (∀ W : World, Calls Try.prog 16 #[] W fun e w' => e = .returned (.bool true) ∧ Below W.heap.size W w') := live_c hr hw
  have HP0 : Hid (∀ W : World, Calls Try.prog 9 #[.agg (cpc k)] W fun e w' => e = .returned (.agg (cpc (PR k))) ∧ Below W.heap.size W w') := hp k
  have R0 : Hid (Row W0 w.heap.size (runk k m t (.slice sa O.length cap)) 42) := r0.out
  have R3 : Hid (Row W0 (w.heap.size + 1) (akk k2 n2 x2 m2 t2) 50) := r3.out
  have B0 : Hid (Below w.heap.size w W0) := b0.out
  have HL : Hid (∀ j v, (cpc k)[j]? = some v → W0.cell? ⟨w.heap.size, 0 + j, none⟩ = some v) := r0.out.runk.1.agg
  clear s0 r0 r3 b0 hp hr hw hol hok
  go_enter Try.func8, Try.ntmps8
  go_upto_region 1 with fail
  clear hW0
  go_upto_region 2 with (first | (refine wpList_load_agg (by rfl) 31 _ (by rfl) w.heap.size 0 (by rfl) (cpc k) _ HL.out Try.underlying31 (by rfl) (info_cpu _) ?_) | (go_at_call 9; refine (HP0.out _).mono ?_; rintro e w1 ⟨rfl, hb⟩; have Bw1 : Hid (Below W0.heap.size W0 w1) := hb; clear hb) | (refine wpList_store_last (by rfl) _ _ _ (by rfl) (by rfl) _ _ _ (by rfl) (by rfl) (by rfl) (info_cpu _) (by rw [cpc_size, cpc_size]) (cpc_ones _) ?_))
  refine go_onP (motive := fun W => Code.wp _ _ _ _ W) (Q := fun W => Row W w1.heap.size (cpc (PR k)) 31 ∧ Below W0.heap.size W0 W) ⟨Row.new w1 (cpc (PR k)) 31, Bw1.out.alloc Bw1.out.size _⟩ ?_
  have N1 : Hid (W0.heap.size ≤ w1.heap.size) := Bw1.out.size
  clear HL HP0 Bw1
  rintro W1 ⟨q1, c0⟩
  have Q1 : Hid (Row W1 w1.heap.size (cpc (PR k)) 31) := q1
  have BB : Hid (Below W0.heap.size W0 W1) := c0
  have cm := q1.cls.md
  have f1 := q1.froz
  clear q1 c0
  generalize w1.heap.size = gc at *
  go_upto_region 3 with fail
  refine go_onP (motive := fun W => Code.wp _ _ _ _ W) (Q := fun W => Row W gc (cpc (cMd k)) 31 ∧ Below W0.heap.size W0 W) ⟨row_cast (Q1.out.put (i := 33) (.int .i64 3)) (cpc_md (PR k) 3), below_put BB.out N1.out _⟩ ?_
  clear Q1 BB cm f1
  rintro W2 ⟨q1, c0⟩
  have Q1 : Hid (Row W2 gc (cpc (cMd k)) 31) := q1
  have BB : Hid (Below W0.heap.size W0 W2) := c0
  clear q1 c0
  have HCC : Hid (PR (cMd k) = cMd k) := cMd_pr k
  have HMD : Hid ((cMd k).md = 3) := rfl
  generalize cMd k = CC at *
  go_upto_region 4 with (first | (refine wpList_load_row (by rfl) _ _ (by rfl) _ (by rfl) 31 _ (0, 0) _ Q1.out Try.underlying31 (by rfl) (info_cpu _) ?_) | (refine wpList_store_last (by rfl) _ _ _ (by rfl) (by rfl) _ _ _ (by rfl) (by rfl) (by rfl) (info_cpu _) (by rw [cpc_size, cpc_size]) (cpc_ones _) ?_))
  refine go_onP (motive := fun W => Code.wp _ _ _ _ W) (Q := fun W => Row W gc (cpc CC) 31 ∧ Row W W2.heap.size (cpc CC) 31 ∧ Below W0.heap.size W0 W) ⟨Q1.out.old Q1.out.lt _, Row.new W2 (cpc CC) 31, BB.out.alloc BB.out.size _⟩ ?_
  have HPQ : Hid (W0.heap.size ≤ gc ∧ W0.heap.size ≤ W2.heap.size ∧ gc ≠ W2.heap.size ∧ w.heap.size + 1 < W0.heap.size) := ⟨N1.out, BB.out.size, by have := Q1.out.lt; omega, hlt0.out⟩
  clear Q1 BB N1 hz
  generalize W2.heap.size = gd at *
  rintro W3 ⟨q1, q2, c0⟩
  have Q1 : Hid (Row W3 gc (cpc CC) 31) := q1
  have Q2 : Hid (Row W3 gd (cpc CC) 31) := q2
  have BB : Hid (Below W0.heap.size W0 W3) := c0
  clear q1 q2 c0
  go_wp2
  go_loopw [7] (fun x wr => ∃ j : Nat, j ≤ O.length ∧ x = .int .i64 j ∧ ∃ K : Cp, Hid (PR K = K) ∧ Hid (Sta K CC) ∧ Hid (Row wr gc (cpc CC) 31) ∧ Hid (Row wr gd (cpc K) 31) ∧ Hid (Below W0.heap.size W0 wr)) (fun x _ => O.length - (intOf x).toNat)
  case atStart => exact ⟨0, Nat.zero_le _, rfl, CC, HCC, Sta.refl CC, Q1, Q2, BB⟩
  case round =>
    clear Q1 Q2 BB
    obtain ⟨j, hj, rfl, K, hK, hS, g0, g1, gb⟩ := hrel
    obtain ⟨_, c1, c2, c3⟩ := (R0.out.cb gb.out).runk
    clear c1 c2
    have hL := HLN.out
    by_cases hlt : j < O.length
    · as_aux_lemma =>
      obtain ⟨gw, off, rfl, hgw, hcl⟩ := HSL.out (by intro e; rw [e] at hlt; simp at hlt)
      have hlt2 : (j : Int) < O.length := by omega
      have hb0 : Below w.heap.size w wr := B0.out.trans (gb.out.mono B0.out.size)
      have cw : ∀ q, q < 3 → wr.cell? ⟨gw, off + j * 3 + q, none⟩ = (stpv (O.getD j stp0))[q]? := fun q hq => (hb0.cell (p := ⟨gw, off + j * 3 + q, none⟩) hgw).trans (hcl j hlt q hq)
      obtain ⟨X, hX⟩ : ∃ X, X = O.getD j stp0 := ⟨_, rfl⟩
      have HI0 : Hid (I64 X.i) := by unfold Hid; rw [hX]; exact HOK.out j hlt
      rw [← hX] at cw
      have HGW : Hid (gw < w.heap.size) := hgw
      clear hX hcl hb0 hgw
      obtain ⟨xi, xv, xd⟩ := X
      have HI : Hid (I64 xi) := HI0.out
      clear HI0
      have x0 : wr.cell? ⟨gw, off + j * 3, none⟩ = some (.int .i64 xi) := cw 0 (by omega)
      have x1 : wr.cell? ⟨gw, off + j * 3 + 1, none⟩ = some (.int .u64 (n64 xv)) := cw 1 (by omega)
      clear cw
      have HA : Hid (∀ W, Calls Try.prog 15 #[.agg (cpc K), .int .i64 xi, .int .u64 (n64 xv)] W fun e w' => e = .returned (.tuple #[.agg (cpc (WR K xi xv)), .bool (WK K xi)]) ∧ Below W.heap.size W w') := HWW.out K xi xv HI.out
      have F1 : Hid (PR (WR K xi xv) = WR K xi xv) := PR_WR K xi xv
      have F2 : Hid (Sta (WR K xi xv) CC) := by have h := WR_sta K xi xv; rw [hK.out] at h; exact h.trans hS.out
      generalize WR K xi xv = K' at HA F1 F2
      generalize WK K xi = z2 at HA
      go_upto_region 7 with fail
      · refine wp_region_held (S := fun w' => w'.cell? ⟨w.heap.size, 84, none⟩ = some (.slice (some ⟨gw, off, none⟩) O.length cap) ∧ w'.cell? ⟨gw, off + j * 3, none⟩ = some (.int .i64 xi) ∧ w'.cell? ⟨gw, off + j * 3 + 1, none⟩ = some (.int .u64 (n64 xv))) (by kernel_rfl) ?_
        change wpAnyH _ _ _ _ _ _ _ _ wr.drew
        have hS0 : wr.drew.cell? ⟨w.heap.size, 84, none⟩ = some (.slice (some ⟨gw, off, none⟩) O.length cap) ∧ wr.drew.cell? ⟨gw, off + j * 3, none⟩ = some (.int .i64 xi) ∧ wr.drew.cell? ⟨gw, off + j * 3 + 1, none⟩ = some (.int .u64 (n64 xv)) := ⟨c3, x0, x1⟩
        clear c3 x0 x1
        refine wpAnyH_takeD 1 (some 28) (v := .pointer (some ⟨w.heap.size, 84, none⟩)) rfl (by kernel_rfl) (by kernel_rfl) (by kernel_rfl) (by kernel_rfl) (fun _ _ _ h => h) (Or.inl ⟨by rfl, ?_⟩) hS0 ?_
        · intro w9 hSw
          obtain ⟨q84, q0, q1⟩ := hSw
          go_simp
        try simp only [Act.put, List.setIfInBounds_toArray, List.set_cons_zero, List.set_cons_succ]
        refine wpAnyH_takeD 2 (some 29) (v := .slice (some ⟨gw, off, none⟩) O.length cap) rfl (by kernel_rfl) (by kernel_rfl) (by kernel_rfl) (by kernel_rfl) (fun _ _ _ h => h) (Or.inl ⟨by rfl, ?_⟩) hS0 ?_
        · intro w9 hSw
          obtain ⟨q84, q0, q1⟩ := hSw
          go_simp
        try simp only [Act.put, List.setIfInBounds_toArray, List.set_cons_zero, List.set_cons_succ]
        refine wpAnyH_takeD 3 (some 30) (v := .int .i64 (j : Int)) rfl (by kernel_rfl) (by kernel_rfl) (by kernel_rfl) (by kernel_rfl) (fun _ _ _ h => h) (Or.inl ⟨by rfl, ?_⟩) hS0 ?_
        · intro w9 hSw
          obtain ⟨q84, q0, q1⟩ := hSw
          go_simp
        try simp only [Act.put, List.setIfInBounds_toArray, List.set_cons_zero, List.set_cons_succ]
        refine wpAnyH_takeD 4 (some 31) (v := .pointer (some ⟨gw, off + j * 3, none⟩)) rfl (by kernel_rfl) (by kernel_rfl) (by kernel_rfl) (by kernel_rfl) (fun _ _ _ h => h) (Or.inl ⟨by rfl, ?_⟩) hS0 ?_
        · intro w9 hSw
          obtain ⟨q84, q0, q1⟩ := hSw
          go_simp
        try simp only [Act.put, List.setIfInBounds_toArray, List.set_cons_zero, List.set_cons_succ]
        refine wpAnyH_takeD 5 (some 32) (v := .pointer (some ⟨gw, off + j * 3, none⟩)) rfl (by kernel_rfl) (by kernel_rfl) (by kernel_rfl) (by kernel_rfl) (fun _ _ _ h => h) (Or.inl ⟨by rfl, ?_⟩) hS0 ?_
        · intro w9 hSw
          obtain ⟨q84, q0, q1⟩ := hSw
          go_simp
        try simp only [Act.put, List.setIfInBounds_toArray, List.set_cons_zero, List.set_cons_succ]
        refine wpAnyH_takeD 6 (some 33) (v := .int .i64 xi) rfl (by kernel_rfl) (by kernel_rfl) (by kernel_rfl) (by kernel_rfl) (fun _ _ _ h => h) (Or.inl ⟨by rfl, ?_⟩) hS0 ?_
        · intro w9 hSw
          obtain ⟨q84, q0, q1⟩ := hSw
          go_simp
        try simp only [Act.put, List.setIfInBounds_toArray, List.set_cons_zero, List.set_cons_succ]
        refine wpAnyH_takeD 7 (some 34) (v := .pointer (some ⟨w.heap.size, 84, none⟩)) rfl (by kernel_rfl) (by kernel_rfl) (by kernel_rfl) (by kernel_rfl) (fun _ _ _ h => h) (Or.inl ⟨by rfl, ?_⟩) hS0 ?_
        · intro w9 hSw
          obtain ⟨q84, q0, q1⟩ := hSw
          go_simp
        try simp only [Act.put, List.setIfInBounds_toArray, List.set_cons_zero, List.set_cons_succ]
        refine wpAnyH_takeD 8 (some 35) (v := .slice (some ⟨gw, off, none⟩) O.length cap) rfl (by kernel_rfl) (by kernel_rfl) (by kernel_rfl) (by kernel_rfl) (fun _ _ _ h => h) (Or.inl ⟨by rfl, ?_⟩) hS0 ?_
        · intro w9 hSw
          obtain ⟨q84, q0, q1⟩ := hSw
          go_simp
        try simp only [Act.put, List.setIfInBounds_toArray, List.set_cons_zero, List.set_cons_succ]
        refine wpAnyH_takeD 9 (some 36) (v := .int .i64 (j : Int)) rfl (by kernel_rfl) (by kernel_rfl) (by kernel_rfl) (by kernel_rfl) (fun _ _ _ h => h) (Or.inl ⟨by rfl, ?_⟩) hS0 ?_
        · intro w9 hSw
          obtain ⟨q84, q0, q1⟩ := hSw
          go_simp
        try simp only [Act.put, List.setIfInBounds_toArray, List.set_cons_zero, List.set_cons_succ]
        refine wpAnyH_takeD 10 (some 37) (v := .pointer (some ⟨gw, off + j * 3, none⟩)) rfl (by kernel_rfl) (by kernel_rfl) (by kernel_rfl) (by kernel_rfl) (fun _ _ _ h => h) (Or.inl ⟨by rfl, ?_⟩) hS0 ?_
        · intro w9 hSw
          obtain ⟨q84, q0, q1⟩ := hSw
          go_simp
        try simp only [Act.put, List.setIfInBounds_toArray, List.set_cons_zero, List.set_cons_succ]
        refine wpAnyH_takeD 11 (some 38) (v := .pointer (some ⟨gw, off + j * 3 + 1, none⟩)) rfl (by kernel_rfl) (by kernel_rfl) (by kernel_rfl) (by kernel_rfl) (fun _ _ _ h => h) (Or.inl ⟨by rfl, ?_⟩) hS0 ?_
        · intro w9 hSw
          obtain ⟨q84, q0, q1⟩ := hSw
          go_simp
        try simp only [Act.put, List.setIfInBounds_toArray, List.set_cons_zero, List.set_cons_succ]
        refine wpAnyH_takeD 12 (some 39) (v := .int .u64 (n64 xv)) rfl (by kernel_rfl) (by kernel_rfl) (by kernel_rfl) (by kernel_rfl) (fun _ _ _ h => h) (Or.inl ⟨by rfl, ?_⟩) hS0 ?_
        · intro w9 hSw
          obtain ⟨q84, q0, q1⟩ := hSw
          go_simp
        try simp only [Act.put, List.setIfInBounds_toArray, List.set_cons_zero, List.set_cons_succ]
        refine wpAnyH_load_row 0 31 (.tmp 6) 27 (by kernel_rfl) (by kernel_rfl) gd (by rfl) 31 (cpc K) _ (show Row wr.drew gd (cpc K) 31 from g1.out) Try.underlying31 (by rfl) (info_cpu _) hS0 ?_
        try simp only [Act.put, List.setIfInBounds_toArray, List.set_cons_zero, List.set_cons_succ]
        refine wpAnyH_ready (rs := [13]) (by kernel_rfl) (by simp) ?_
        refine AllReadyH.cons (o := _) rfl (fun KK hKK => ?_) AllReadyH.nil
        rw [if_pos (by rfl)]
        go_simp
        go_at_call 15
        refine (HA.out _).mono ?_
        rintro e w3 ⟨rfl, hb⟩
        have hbb : Below wr.heap.size wr w3 := (Below.refl _ _).drew.trans (hb.mono (Nat.le_refl _))
        have hS3 : w3.cell? ⟨w.heap.size, 84, none⟩ = some (.slice (some ⟨gw, off, none⟩) O.length cap) ∧ w3.cell? ⟨gw, off + j * 3, none⟩ = some (.int .i64 xi) ∧ w3.cell? ⟨gw, off + j * 3 + 1, none⟩ = some (.int .u64 (n64 xv)) := by
          have hh := HPQ.out
          have hh2 := gb.out.size
          have hh3 := HGW.out
          exact ⟨(hbb.cell (p := ⟨w.heap.size, 84, none⟩) (by show w.heap.size < _; omega)).trans hS0.1, (hbb.cell (p := ⟨gw, off + j * 3, none⟩) (by show gw < _; omega)).trans hS0.2.1, (hbb.cell (p := ⟨gw, off + j * 3 + 1, none⟩) (by show gw < _; omega)).trans hS0.2.2⟩
        clear hb hS0
        refine hKK.out _ _ hS3 (fun _ => ?_)
        try simp only [Act.put, List.setIfInBounds_toArray, List.set_cons_zero, List.set_cons_succ]
        refine wpAnyH_takeD 14 (some 26) (v := .tuple #[.agg (cpc K'), .bool z2]) rfl (by kernel_rfl) (by kernel_rfl) (by kernel_rfl) (by kernel_rfl) (fun _ _ _ h => h) (Or.inl ⟨by rfl, fun w9 hSw => by go_simp⟩) hS3 ?_
        try simp only [Act.put, List.setIfInBounds_toArray, List.set_cons_zero, List.set_cons_succ]
        refine wpAnyH_takeD 15 (some 41) (v := .agg (cpc K')) rfl (by kernel_rfl) (by kernel_rfl) (by kernel_rfl) (by kernel_rfl) (fun _ _ _ h => h) (Or.inl ⟨by rfl, fun w9 hSw => by go_simp⟩) hS3 ?_
        try simp only [Act.put, List.setIfInBounds_toArray, List.set_cons_zero, List.set_cons_succ]
        refine wpAnyH_takeD 16 (some 42) (v := .bool z2) rfl (by kernel_rfl) (by kernel_rfl) (by kernel_rfl) (by kernel_rfl) (fun _ _ _ h => h) (Or.inl ⟨by rfl, fun w9 hSw => by go_simp⟩) hS3 ?_
        try simp only [Act.put, List.setIfInBounds_toArray, List.set_cons_zero, List.set_cons_succ]
        have hRw : Row w3 gd (cpc K) 31 := g1.out.cb hbb
        refine wpAnyH_store_row 17 31 (.tmp 6) (.tmp 41) (by kernel_rfl) (by kernel_rfl) gd (cpc K) (cpc K') (by rfl) (by rfl) hRw (info_cpu _) (by rw [cpc_size, cpc_size]) (cpc_ones _) (by
          have hh := HPQ.out
          have hh3 := HGW.out
          exact ⟨(cell_row_other w3 gd _ ⟨w.heap.size, 84, none⟩ (by show w.heap.size ≠ gd; omega)).trans hS3.1, (cell_row_other w3 gd _ ⟨gw, off + j * 3, none⟩ (by show gw ≠ gd; omega)).trans hS3.2.1, (cell_row_other w3 gd _ ⟨gw, off + j * 3 + 1, none⟩ (by show gw ≠ gd; omega)).trans hS3.2.2⟩) ?_
        refine go_onP (motive := fun W => wpAnyH _ _ _ _ _ _ _ _ W) (Q := fun W => Row W gc (cpc CC) 31 ∧ Row W gd (cpc K') 31 ∧ Below W0.heap.size W0 W) ⟨row_apart (g0.out.cb hbb) HPQ.out.2.2.1 _, setRow_heap _ _ _ _ _ _ hRw, below_row (gb.out.trans (hbb.mono gb.out.size)) HPQ.out.2.1 _⟩ ?_
        clear hRw hbb hS3 hKK
        rintro W5 ⟨q1, q2, c0⟩
        have Q1 : Hid (Row W5 gc (cpc CC) 31) := q1
        have Q2 : Hid (Row W5 gd (cpc K') 31) := q2
        have BB : Hid (Below W0.heap.size W0 W5) := c0
        clear q1 q2 c0 g0 g1 gb
        refine wpAnyH_done (by kernel_rfl) ?_ _
        go_wp2
        go_roundw
        case rel => exact ⟨j + 1, hlt, by go_num, K', F1, F2, Q1, Q2, BB⟩
        case measure => simp [intOf]; omega
    · as_aux_lemma =>
      have hj9 : ¬ (j : Int) < O.length := by omega
      obtain ⟨rb, hrb, hcmp⟩ := cmp_fix CC K
      have HRB : Hid (rb = true ↔ cpc CC = cpc K) := hrb
      clear hrb
      obtain ⟨dv, hdv⟩ : ∃ dv, dv = dvn CC K m2 t2 := ⟨_, rfl⟩
      have HDV : Hid (dv = dvn CC K m2 t2) := hdv
      clear hdv
      go_wp2
      clear c3 hj9
      go_loopw [8, 9] (fun b x wr => ∃ (i : Nat) (q : Bool), b = .bool q ∧ x = .int .i64 i ∧ ((768 ≤ i ∧ i ≤ 960) ∨ (2817 ≤ i ∧ i ≤ 2848) ∨ (3073 ≤ i ∧ i ≤ 3104)) ∧ Hid (q = true ↔ ∃ n : Int, Vn n ∧ n < (i : Int) ∧ dv n = true) ∧ Hid (Row wr gc (cpc CC) 31) ∧ Hid (Row wr gd (cpc K) 31) ∧ Hid (Below W0.heap.size W0 wr)) (fun _ x _ => 3104 - (intOf x).toNat)
      case atStart => exact ⟨768, false, rfl, rfl, by omega, ⟨fun h => (by cases h), fun ⟨n, h1, h2, _⟩ => (by unfold Vn at h1; omega)⟩, g0, g1, gb⟩
      case round =>
        clear g0 g1 gb
        obtain ⟨i, q, rfl, rfl, hi, hq, g0, g1, gb⟩ := hrel
        obtain ⟨_, _, _, d1, d2⟩ := (R3.out.cb gb.out).akk
        by_cases h9 : i = 3104
        · subst h9
          rw [show ((3104 : Nat) : Int) = (3104 : Int) from rfl]
          have HQ : Hid (q = true ↔ ∃ n : Int, Vn n ∧ n < 3104 ∧ dvn CC K m2 t2 n = true) := by have h := hq.out; rw [HDV.out] at h; exact h
          have HE : Hid ((q == !rb) = true) := dvn_all HCC.out hK.out HMD.out hS.out m2 t2 HQ.out HRB.out
          clear hq hi HQ d1 d2
          go_upto_region 19 with fail
          go_wp2_with (first | (go_at_call 16; refine (HLV.out _).mono ?_; rintro e w9 ⟨rfl, hb⟩; have B9 : Hid (Below wr.heap.size wr w9) := hb; have D0 : Hid (Row w9 gc (cpc CC) 31) := g0.out.cb hb; have D1 : Hid (Row w9 gd (cpc K) 31) := g1.out.cb hb; clear hb) | (refine wpList_load_rowG (by rfl) _ _ (by rfl) _ (by rfl) 31 _ (0, 0) _ D0.out Try.underlying31 (by rfl) (info_cpu _) ?_) | (refine wpList_load_rowG (by rfl) _ _ (by rfl) _ (by rfl) 31 _ (0, 0) _ D1.out Try.underlying31 (by rfl) (info_cpu _) ?_))
          go_ret
          exact ⟨by rw [← HE.out]; rfl, B0.out.trans ((gb.out.trans (B9.out.mono gb.out.size)).mono B0.out.size)⟩
        by_cases h1 : i = 960
        · subst h1
          rw [show ((960 : Nat) : Int) = (960 : Int) from rfl] at *
          have HN : Hid (I64 2816) := by unfold Hid I64; omega
          have HA : Hid (∀ W, Calls Try.prog 17 #[.agg (cpc CC), .int .u64 (n64 m2), .int .u64 (n64 t2), .int .i64 2816] W fun e w' => e = .returned (.tuple #[.int .u64 (RD CC m2 t2 2816), .bool (RK CC 2816)]) ∧ Below W.heap.size W w') := HR.out CC m2 t2 2816 HN.out
          have HB : Hid (∀ W, Calls Try.prog 17 #[.agg (cpc K), .int .u64 (n64 m2), .int .u64 (n64 t2), .int .i64 2816] W fun e w' => e = .returned (.tuple #[.int .u64 (RD K m2 t2 2816), .bool (RK K 2816)]) ∧ Below W.heap.size W w') := HR.out K m2 t2 2816 HN.out
          have HS : Hid ((q || (RD CC m2 t2 2816 != RD K m2 t2 2816)) = true ↔ ∃ n : Int, Vn n ∧ n < 2816 + 1 ∧ dv n = true) := by have h := seen_step (N := 2816) hq.out (by unfold Vn; omega) (fun n hn => by unfold Vn at hn; omega); rw [HDV.out] at h ⊢; exact h
          generalize RD CC m2 t2 2816 = z1 at HA HS
          generalize RD K m2 t2 2816 = z3 at HB HS
          generalize RK CC 2816 = z4 at HA
          generalize RK K 2816 = z5 at HB
          have HIX : Hid True := trivial
          clear hq hi HN
          go_upto_region 16 with fail
          go_upto_region 17 with (first | (refine wpList_load_row (by rfl) _ _ (by rfl) _ (by rfl) 31 _ (0, 0) _ g0.out Try.underlying31 (by rfl) (info_cpu _) ?_) | (go_at_call 17; refine (HA.out _).mono ?_; rintro e w3 ⟨rfl, hb⟩; have Bw3 : Hid (Below wr.heap.size wr w3) := hb; clear hb))
          clear d1 d2 HA
          obtain ⟨_, _, _, d1, d2⟩ := (R3.out.cb (gb.out.trans (Bw3.out.mono gb.out.size))).akk
          have E1 : Hid (Row w3 gd (cpc K) 31) := g1.out.cb Bw3.out
          go_upto_region 18 with (first | (refine wpList_load_row (by rfl) _ _ (by rfl) _ (by rfl) 31 _ (0, 0) _ E1.out Try.underlying31 (by rfl) (info_cpu _) ?_) | (go_at_call 17; refine (HB.out _).mono ?_; rintro e w4 ⟨rfl, hb⟩; have Bw4 : Hid (Below w3.heap.size w3 w4) := hb; clear hb))
          clear d1 d2 HB
          have D0 : Hid (Row w4 gc (cpc CC) 31) := (g0.out.cb Bw3.out).cb Bw4.out
          have D1 : Hid (Row w4 gd (cpc K) 31) := E1.out.cb Bw4.out
          have DB : Hid (Below W0.heap.size W0 w4) := gb.out.trans ((Bw3.out.trans (Bw4.out.mono Bw3.out.size)).mono gb.out.size)
          clear g0 g1 gb E1 Bw3 Bw4
          cases q with
          | true =>
            go_wp2
            go_roundw
            case rel => exact ⟨2817, true, rfl, by go_num, (by have := HIX.out; omega), HS, D0, D1, DB⟩
            case measure => simp [intOf]
          | false =>
            go_wp2
            go_roundw
            case rel => exact ⟨2817, (z1 != z3), rfl, by go_num, (by have := HIX.out; omega), HS, D0, D1, DB⟩
            case measure => simp [intOf]
        by_cases h2 : i = 2848
        · subst h2
          rw [show ((2848 : Nat) : Int) = (2848 : Int) from rfl] at *
          have HN : Hid (I64 3072) := by unfold Hid I64; omega
          have HA : Hid (∀ W, Calls Try.prog 17 #[.agg (cpc CC), .int .u64 (n64 m2), .int .u64 (n64 t2), .int .i64 3072] W fun e w' => e = .returned (.tuple #[.int .u64 (RD CC m2 t2 3072), .bool (RK CC 3072)]) ∧ Below W.heap.size W w') := HR.out CC m2 t2 3072 HN.out
          have HB : Hid (∀ W, Calls Try.prog 17 #[.agg (cpc K), .int .u64 (n64 m2), .int .u64 (n64 t2), .int .i64 3072] W fun e w' => e = .returned (.tuple #[.int .u64 (RD K m2 t2 3072), .bool (RK K 3072)]) ∧ Below W.heap.size W w') := HR.out K m2 t2 3072 HN.out
          have HS : Hid ((q || (RD CC m2 t2 3072 != RD K m2 t2 3072)) = true ↔ ∃ n : Int, Vn n ∧ n < 3072 + 1 ∧ dv n = true) := by have h := seen_step (N := 3072) hq.out (by unfold Vn; omega) (fun n hn => by unfold Vn at hn; omega); rw [HDV.out] at h ⊢; exact h
          generalize RD CC m2 t2 3072 = z1 at HA HS
          generalize RD K m2 t2 3072 = z3 at HB HS
          generalize RK CC 3072 = z4 at HA
          generalize RK K 3072 = z5 at HB
          have HIX : Hid True := trivial
          clear hq hi HN
          go_upto_region 16 with fail
          go_upto_region 17 with (first | (refine wpList_load_row (by rfl) _ _ (by rfl) _ (by rfl) 31 _ (0, 0) _ g0.out Try.underlying31 (by rfl) (info_cpu _) ?_) | (go_at_call 17; refine (HA.out _).mono ?_; rintro e w3 ⟨rfl, hb⟩; have Bw3 : Hid (Below wr.heap.size wr w3) := hb; clear hb))
          clear d1 d2 HA
          obtain ⟨_, _, _, d1, d2⟩ := (R3.out.cb (gb.out.trans (Bw3.out.mono gb.out.size))).akk
          have E1 : Hid (Row w3 gd (cpc K) 31) := g1.out.cb Bw3.out
          go_upto_region 18 with (first | (refine wpList_load_row (by rfl) _ _ (by rfl) _ (by rfl) 31 _ (0, 0) _ E1.out Try.underlying31 (by rfl) (info_cpu _) ?_) | (go_at_call 17; refine (HB.out _).mono ?_; rintro e w4 ⟨rfl, hb⟩; have Bw4 : Hid (Below w3.heap.size w3 w4) := hb; clear hb))
          clear d1 d2 HB
          have D0 : Hid (Row w4 gc (cpc CC) 31) := (g0.out.cb Bw3.out).cb Bw4.out
          have D1 : Hid (Row w4 gd (cpc K) 31) := E1.out.cb Bw4.out
          have DB : Hid (Below W0.heap.size W0 w4) := gb.out.trans ((Bw3.out.trans (Bw4.out.mono Bw3.out.size)).mono gb.out.size)
          clear g0 g1 gb E1 Bw3 Bw4
          cases q with
          | true =>
            go_wp2
            go_roundw
            case rel => exact ⟨3073, true, rfl, by go_num, (by have := HIX.out; omega), HS, D0, D1, DB⟩
            case measure => simp [intOf]
          | false =>
            go_wp2
            go_roundw
            case rel => exact ⟨3073, (z1 != z3), rfl, by go_num, (by have := HIX.out; omega), HS, D0, D1, DB⟩
            case measure => simp [intOf]
        have e1 : ((i : Int) == 960) = false := by rw [beq_eq_false_iff_ne]; omega
        have e2 : ((i : Int) == 2848) = false := by rw [beq_eq_false_iff_ne]; omega
        have e3 : (i : Int) < 3104 := by omega
        have HN : Hid (I64 (i : Int)) := by unfold Hid I64; omega
        have HA : Hid (∀ W, Calls Try.prog 17 #[.agg (cpc CC), .int .u64 (n64 m2), .int .u64 (n64 t2), .int .i64 (i : Int)] W fun e w' => e = .returned (.tuple #[.int .u64 (RD CC m2 t2 (i : Int)), .bool (RK CC (i : Int))]) ∧ Below W.heap.size W w') := HR.out CC m2 t2 (i : Int) HN.out
        have HB : Hid (∀ W, Calls Try.prog 17 #[.agg (cpc K), .int .u64 (n64 m2), .int .u64 (n64 t2), .int .i64 (i : Int)] W fun e w' => e = .returned (.tuple #[.int .u64 (RD K m2 t2 (i : Int)), .bool (RK K (i : Int))]) ∧ Below W.heap.size W w') := HR.out K m2 t2 (i : Int) HN.out
        have HS : Hid ((q || (RD CC m2 t2 (i : Int) != RD K m2 t2 (i : Int))) = true ↔ ∃ n : Int, Vn n ∧ n < (i : Int) + 1 ∧ dv n = true) := by have h := seen_step (N := (i : Int)) hq.out (by unfold Vn; omega) (fun n hn => by unfold Vn at hn; omega); rw [HDV.out] at h ⊢; exact h
        generalize RD CC m2 t2 (i : Int) = z1 at HA HS
        generalize RD K m2 t2 (i : Int) = z3 at HB HS
        generalize RK CC (i : Int) = z4 at HA
        generalize RK K (i : Int) = z5 at HB
        have HIX : Hid ((768 ≤ i ∧ i ≤ 960) ∨ (2817 ≤ i ∧ i ≤ 2848) ∨ (3073 ≤ i ∧ i ≤ 3104)) := hi
        clear hq hi HN
        go_upto_region 16 with fail
        go_upto_region 17 with (first | (refine wpList_load_row (by rfl) _ _ (by rfl) _ (by rfl) 31 _ (0, 0) _ g0.out Try.underlying31 (by rfl) (info_cpu _) ?_) | (go_at_call 17; refine (HA.out _).mono ?_; rintro e w3 ⟨rfl, hb⟩; have Bw3 : Hid (Below wr.heap.size wr w3) := hb; clear hb))
        clear d1 d2 HA
        obtain ⟨_, _, _, d1, d2⟩ := (R3.out.cb (gb.out.trans (Bw3.out.mono gb.out.size))).akk
        have E1 : Hid (Row w3 gd (cpc K) 31) := g1.out.cb Bw3.out
        go_upto_region 18 with (first | (refine wpList_load_row (by rfl) _ _ (by rfl) _ (by rfl) 31 _ (0, 0) _ E1.out Try.underlying31 (by rfl) (info_cpu _) ?_) | (go_at_call 17; refine (HB.out _).mono ?_; rintro e w4 ⟨rfl, hb⟩; have Bw4 : Hid (Below w3.heap.size w3 w4) := hb; clear hb))
        clear d1 d2 HB
        have D0 : Hid (Row w4 gc (cpc CC) 31) := (g0.out.cb Bw3.out).cb Bw4.out
        have D1 : Hid (Row w4 gd (cpc K) 31) := E1.out.cb Bw4.out
        have DB : Hid (Below W0.heap.size W0 w4) := gb.out.trans ((Bw3.out.trans (Bw4.out.mono Bw3.out.size)).mono gb.out.size)
        clear g0 g1 gb E1 Bw3 Bw4
        cases q with
        | true =>
          go_wp2
          go_roundw
          case rel => exact ⟨i + 1, true, rfl, by go_num, (by have := HIX.out; omega), (by have h := HS.out; unfold Hid; rw [show ((i + 1 : Nat) : Int) = (i : Int) + 1 by omega]; exact h), D0, D1, DB⟩
          case measure => simp [intOf]; omega
        | false =>
          go_wp2
          go_roundw
          case rel => exact ⟨i + 1, (z1 != z3), rfl, by go_num, (by have := HIX.out; omega), (by have h := HS.out; unfold Hid; rw [show ((i + 1 : Nat) : Int) = (i : Int) + 1 by omega]; exact h), D0, D1, DB⟩
          case measure => simp [intOf]; omega
end Go.Proofs.Ytnnkeodiacdmaaa
