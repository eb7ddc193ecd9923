/-
  Di.
-/
import Derived.Test.YthmjimmmkoeeoaaDoorM14
import Derived.Test.YthmjimmmkoeeoaaDoorM17
namespace Go.Proofs.YthmjimmmkoeeoaaDoor
set_option linter.unusedVariables false
set_option maxRecDepth 100000
open Go.ChangeShapes Go.WideShapes Go.ChangeAt Go.RowKit Go.Deep Go.Shelf
theorem wpList_allocZ1 {P : Program} {ops : Array Oper} {rest : List Oper} {o : Oper} {a : Act} {w : World} {Q : Exit → Act → World → Prop} (hgd : o.guard = none) (T : TypeId) (ho : o.op = .alloc T) (z : Array Value) (hz : ∀ w : World, (zeroValue T).run P w = .ok (.agg z) w)
    (h : wpList P ops Q rest (a.put o.dst (.pointer (some ⟨w.heap.size, 0, none⟩))) (w.alloc (.cells z T))) : wpList P ops Q (o :: rest) a w :=
  wpList_plain hgd fun _ hK => by
    have e : (execOp a.eval o).run P w = .ok (.value (.pointer (some ⟨w.heap.size, 0, none⟩))) (w.alloc (.cells z T)) := (by have hz' := hz w; generalize a.eval = ρ; simp [execOp, ho, go_sem, hz'])
    unfold Oper.wp
    rw [e]
    exact hK _ _ h
/-- A builder at b, in a block of type T, holds a text. -/
structure Bd (T : TypeId) (B b : Nat) (l : Tx) (w : World) : Prop where
  bld : Lib.IsBuilderF T 5 B b (Lib.byteCells l) w
  sz : B ≤ w.heap.size
theorem Bk.size {B b : Nat} {w w' : World} (h : Bk B b w w') : w.heap.size ≤ w'.heap.size := h.bel.size
theorem Bk.of_below {B b : Nat} {w w' : World} (hB : B ≤ w.heap.size) (h : Below w.heap.size w w') : Bk B b w w' :=
  ⟨h.mono hB, fun k o hk _ _ => by rw [h.block k (Array.getElem?_eq_some_iff.1 hk).1]; exact hk⟩
theorem BAF_later {T e : TypeId} {B b : Nat} {p : Value} {bs : List Value} {w w' : World} (h : Lib.BuilderAtF T e B b p bs w) (hb : Below w.heap.size w w') : Lib.BuilderAtF T e B b p bs w' := by
  have hlt := h.lt
  obtain ⟨hB, v, hbk, hown, hne⟩ := h
  refine ⟨hB, v, (hb.block b hlt).trans hbk, hown.kept (row := none) ⟨hb.os, hb.tape, hb.output, hb.size, fun k hk _ => hb.block k hk⟩ ?_, hne⟩
  cases hv : v.ownBlock with
  | none => exact .inl rfl
  | some x => exact .inr (by simp)
theorem Bd.later {T : TypeId} {B b : Nat} {l : Tx} {w w' : World} (h : Bd T B b l w) (hb : Below w.heap.size w w') : Bd T B b l w' :=
  ⟨h.bld.elim (fun x => .inl (BAF_later x hb)) (fun x => .inr (BAF_later x hb)), Nat.le_trans h.sz hb.size⟩
theorem Bd.ge {T : TypeId} {B b : Nat} {l : Tx} {w : World} (h : Bd T B b l w) : B ≤ b := h.bld.elim (fun x => x.1) (fun x => x.1)
theorem Bd.lt {T : TypeId} {B b : Nat} {l : Tx} {w : World} (h : Bd T B b l w) : b < w.heap.size := h.bld.elim (fun x => x.lt) (fun x => x.lt)
theorem Bd.fresh (T : TypeId) (w : World) : Bd T w.heap.size w.heap.size [] (w.alloc (.cells #[.pointer none, .slice none 0 0] T)) :=
  ⟨.inl ⟨Nat.le_refl _, .slice none 0 0, heap_alloc_new w _, ⟨rfl, .inl ⟨rfl, rfl⟩⟩, by simp [Value.ownBlock]⟩, by simp⟩
/-- A block that is no row of bytes stays. -/
theorem Bk.row {B b : Nat} {w w' : World} {g : Nat} {cs : Array Value} {t : TypeId} (h : Bk B b w w') (hr : Row w g cs t) (hne : g ≠ b) (ht : t ≠ 5) : Row w' g cs t :=
  h.oth g _ hr (fun e => hne (Option.some.inj e)) (fun c fz e => ht (by cases e; rfl))
theorem Bd.wb {T : TypeId} (hT : HoB T) {B b : Nat} {l : Tx} {w : World} (h : Bd T B b l w) (x : UInt8) (z : Int) (hz : z = (x.toNat : Int)) (hl : l.length ≤ 1000000000) :
    Calls Tryd.prog 65 #[.pointer (some ⟨b, 0, none⟩), .int .u8 z] w fun e w' => e = .returned .nilIface ∧ Bd T B b (l ++ [x]) w' ∧ Bk B b w w' := by
  subst hz
  refine (bwb_c hT B b _ _ w h.bld (by rw [Lib.byteCells_length]; omega) h.sz).mono ?_
  rintro e w' ⟨he, h1, h2⟩
  refine ⟨he, ⟨?_, Nat.le_trans h.sz h2.size⟩, h2⟩
  rw [Lib.byteCells_append]
  exact h1
theorem Bd.ws {T : TypeId} (hT : HoB T) {B b : Nat} {l : Tx} {w : World} (h : Bd T B b l w) (s : Tx) (S : ByteArray) (hS : S = tS s) (hl : l.length + s.length ≤ 1000000000) :
    Calls Tryd.prog 39 #[.pointer (some ⟨b, 0, none⟩), .string S] w fun e w' => (∃ u, e = .returned u) ∧ Bd T B b (l ++ s) w' ∧ Bk B b w w' := by
  subst hS
  refine (bws_c hT B b _ _ w h.bld (by rw [Lib.byteCells_length, tS_size]; omega) h.sz).mono ?_
  rintro e w' ⟨he, h1, h2⟩
  refine ⟨⟨_, he⟩, ⟨?_, Nat.le_trans h.sz h2.size⟩, h2⟩
  rw [Lib.byteCells_append]
  exact h1
theorem Bd.st {T : TypeId} {B b : Nat} {l : Tx} {w : World} (h : Bd T B b l w) (h0 : l ≠ []) :
    Calls Tryd.prog 27 #[.pointer (some ⟨b, 0, none⟩)] w fun e w' => e = .returned (.string (tS l)) ∧ Bk B b w w' := bst_s B b l w h.bld h0
theorem hIx : ∀ (n : Nat) (h : n < 16) (w : World), (Instr.index 9 (.string ⟨#[48, 49, 50, 51, 52, 53, 54, 55, 56, 57, 97, 98, 99, 100, 101, 102]⟩) (.int .u8 (n : Int))).run Tryd.prog w = .ok (.int .u8 ((hd n).toNat : Int)) w
  | 0, _, w => by kernel_rfl
  | 1, _, w => by kernel_rfl
  | 2, _, w => by kernel_rfl
  | 3, _, w => by kernel_rfl
  | 4, _, w => by kernel_rfl
  | 5, _, w => by kernel_rfl
  | 6, _, w => by kernel_rfl
  | 7, _, w => by kernel_rfl
  | 8, _, w => by kernel_rfl
  | 9, _, w => by kernel_rfl
  | 10, _, w => by kernel_rfl
  | 11, _, w => by kernel_rfl
  | 12, _, w => by kernel_rfl
  | 13, _, w => by kernel_rfl
  | 14, _, w => by kernel_rfl
  | 15, _, w => by kernel_rfl
  | n + 16, h, _ => absurd h (by omega)
theorem and15b (m : Nat) (h : m < 256) : bits .and .u8 (m : Int) 15 = ((m % 16 : Nat) : Int) := by
  have e : (m : Int) = n8 (BitVec.ofNat 8 m) := by unfold n8; rw [BitVec.toNat_ofNat, Nat.mod_eq_of_lt (by omega)]
  rw [e, show (15 : Int) = n8 15#8 from rfl, n8_and]
  unfold n8
  rw [BitVec.toNat_and, BitVec.toNat_ofNat, Nat.mod_eq_of_lt (by omega : m < 2 ^ 8), show (15#8).toNat = 2 ^ 4 - 1 from rfl, Nat.and_two_pow_sub_one_eq_mod]
theorem zero_bld (w : World) : (zeroValue 61).run Tryd.prog w = .ok (.agg #[.pointer none, .slice none 0 0]) w := by kernel_rfl
theorem take_snoc (d : List Int) (k : Nat) (h : k < d.length) : d.take (k + 1) = d.take k ++ [d.getD k 0] := by
  rw [List.take_succ_eq_append_getElem h]
  simp [List.getD, h]
theorem AllB.at {d : List Int} (h : AllB d) (k : Nat) (hk : k < d.length) : ∃ m : Nat, d.getD k 0 = (m : Int) ∧ m < 256 := by
  have := h (d.getD k 0) (by rw [List.getD_eq_getElem?_getD, List.getElem?_eq_getElem hk]; exact List.getElem_mem hk)
  exact ⟨(d.getD k 0).toNat, by omega, by omega⟩
set_option maxHeartbeats 4000000 in
theorem hexOf_c {d : List Int} (hA : AllB d) (h0 : d ≠ []) (hl : d.length ≤ 100000) (v : Value) (w : World) (hv : Byt w v d) : Calls Tryd.prog 48 #[v] w fun e w' => e = .returned (.string (tS (hxB d))) ∧ Below w.heap.size w w' := by
  obtain ⟨a, cap, rfl, hc, _, hcell⟩ := hv
  obtain ⟨g, off, rfl, hg, hcs⟩ := hcell h0
  have HA : Hid (AllB d) := hA
  have HC : Hid (∀ j, j < d.length → w.cell? ⟨g, off + j, none⟩ = some (.int .u8 (d.getD j 0))) := hcs
  have HG : Hid (g < w.heap.size) := hg
  obtain ⟨W0, hW0, r0, b0, s0⟩ := start1 w #[.pointer none, .slice none 0 0] 61
  have HF : Hid (Bd 61 w.heap.size w.heap.size [] W0) := by unfold Hid; rw [← hW0]; exact Bd.fresh _ w
  have H0 : Hid (d ≠ []) := h0
  obtain ⟨N, hN⟩ : ∃ N, N = d.length := ⟨_, rfl⟩
  rw [← hN] at hc hl ⊢
  have HN : Hid (N = d.length) := hN
  clear hA hcs hg s0 h0 hN r0
  go_enter Tryd.func48, Tryd.ntmps48
  go_upto_region 2 with (refine wpList_allocZ1 (by rfl) 61 (by rfl) #[.pointer none, .slice none 0 0] zero_bld ?_)
  rw [hW0]
  clear hW0
  go_upto_region 3 with fail
  go_loopw [5, 8] (fun _ i wr => ∃ k : Nat, k ≤ N ∧ i = .int .i64 k ∧ Hid (Bd 61 w.heap.size w.heap.size (hxB (d.take k)) wr) ∧ Hid (Below w.heap.size w wr)) (fun _ i _ => N - (intOf i).toNat)
  case atStart => exact ⟨0, Nat.zero_le _, rfl, HF, b0⟩
  case round =>
    obtain ⟨k, hk, rfl, HD, HB⟩ := hrel
    by_cases hlt : k < N
    · have hltI : (k : Int) < N := by omega
      obtain ⟨m, hm, hm2⟩ := HA.out.at k (by rw [← HN.out]; exact hlt)
      have c0 : wr.cell? ⟨g, off + k, none⟩ = some (.int .u8 (m : Int)) := by
        rw [HB.out.cell (p := ⟨g, off + k, none⟩) HG.out, HC.out k (by rw [← HN.out]; exact hlt), hm]
      have HL : Hid ((hxB (d.take k)).length ≤ 1000000) := by unfold Hid; rw [hxB_len, List.length_take]; omega
      have HNX : Hid (hxB (d.take (k + 1)) = hxB (d.take k) ++ [hd (m / 16)] ++ [hd (m % 16)]) := by
        unfold Hid; rw [take_snoc d k (by rw [← HN.out]; exact hlt), hxB_snoc, hm, b2, Int.toNat_natCast]; simp
      have ha := hIx (m / 16) (by omega)
      have hb := hIx (m % 16) (by omega)
      have hand := and15b m hm2
      obtain ⟨qa, hqa⟩ : ∃ qa, qa = m / 16 := ⟨_, rfl⟩
      obtain ⟨qb, hqb⟩ : ∃ qb, qb = m % 16 := ⟨_, rfl⟩
      have hsh : (m : Int) / 16 = (qa : Int) := by omega
      rw [← hqa] at ha HNX
      rw [← hqb] at hb hand HNX
      generalize hxB (d.take k) = l at HD HL HNX
      clear hm hqa hqb hlt
      --@U1
      go_wp2_with (first
        | (go_at_call 65; refine (HD.out.wb hob_b (hd qa) _ rfl (by have := HL.out; omega)).mono ?_; rintro e w1 ⟨rfl, h1, h2⟩; have HD1 : Hid (Bd 61 w.heap.size w.heap.size (l ++ [hd qa]) w1) := h1; have HK1 : Hid (Bk w.heap.size w.heap.size wr w1) := h2; clear h1 h2 HD)
        | (go_at_call 65; refine (HD1.out.wb hob_b (hd qb) _ rfl (by have := HL.out; simp only [List.length_append, List.length_cons, List.length_nil]; omega)).mono ?_; rintro e w2 ⟨rfl, h1, h2⟩; have HD2 : Hid (Bd 61 w.heap.size w.heap.size (l ++ [hd qa] ++ [hd qb]) w2) := h1; have HK2 : Hid (Bk w.heap.size w.heap.size w1 w2) := h2; clear h1 h2 HD1))
      --@U2
      go_roundw
      case rel => exact ⟨k + 1, by omega, by go_num, by unfold Hid; rw [HNX.out]; exact HD2.out, HB.out.trans (HK1.out.bel.trans HK2.out.bel)⟩
      case measure => simp [intOf]; omega
    · have hke : k = N := by omega
      subst hke
      have HD9 : Hid (Bd 61 w.heap.size w.heap.size (hxB d) wr) := by have := HD.out; rw [HN.out, List.take_length] at this; exact this
      have HNE : Hid (hxB d ≠ []) := fun e => by
        have := hxB_len d
        rw [e] at this
        exact H0.out (List.eq_nil_of_length_eq_zero (by simp at this; omega))
      clear HD
      go_wp2_with (go_at_call 27; refine (HD9.out.st HNE.out).mono ?_; rintro e w1 ⟨rfl, h2⟩; have HK1 : Hid (Bk w.heap.size w.heap.size wr w1) := h2; clear h2)
      go_ret
      exact ⟨rfl, HB.out.trans HK1.out.bel⟩
theorem plain_c (m : Nat) (w : World) : Calls Tryd.prog 78 #[.int .u8 (m : Int)] w fun e w' => e = .returned (.bool (decide (32 ≤ m) && decide (m ≤ 126))) ∧ w' = w := by
  obtain ⟨r, hr⟩ : ∃ r, r = (decide (32 ≤ m) && decide (m ≤ 126)) := ⟨_, rfl⟩
  rw [← hr]
  by_cases h1 : 32 ≤ m
  · have i1 : (32 : Int) ≤ (m : Int) := by omega
    have i1b : decide ((32 : Int) ≤ (m : Int)) = true := by simp; omega
    by_cases h2 : m ≤ 126
    · have i2 : (m : Int) ≤ 126 := by omega
      have HR : Hid (r = true) := by unfold Hid; rw [hr]; simp [h1, h2]
      clear hr h1 h2
      go_enter Tryd.func78, Tryd.ntmps78
      go_wp2
      go_ret
      exact ⟨by rw [HR.out]; rfl, rfl⟩
    · have i2 : ¬ (m : Int) ≤ 126 := by omega
      have HR : Hid (r = false) := by unfold Hid; rw [hr]; simp; omega
      clear hr h1 h2
      go_enter Tryd.func78, Tryd.ntmps78
      go_wp2
      go_ret
      exact ⟨by rw [HR.out]; rfl, rfl⟩
  · have i1 : ¬ (32 : Int) ≤ (m : Int) := by omega
    have i1b : decide ((32 : Int) ≤ (m : Int)) = false := by simp; omega
    have HR : Hid (r = false) := by unfold Hid; rw [hr]; simp; omega
    clear hr h1
    go_enter Tryd.func78, Tryd.ntmps78
    go_wp2
    go_ret
    exact ⟨by rw [HR.out]; rfl, rfl⟩
theorem byt_one (w : World) (z : Int) : Byt (w.alloc (.cells #[.int .u8 z] 5)) (.slice (some ⟨w.heap.size, 0, none⟩) 1 1) [z] :=
  ⟨some ⟨w.heap.size, 0, none⟩, 1, rfl, by simp, by simp, fun _ => ⟨w.heap.size, 0, rfl, by simp, fun j hj => by
    obtain rfl : j = 0 := by simpa using hj
    exact cell_of_row _ w.heap.size 0 _ _ _ (heap_alloc_new w _)⟩⟩
theorem qIx (w : World) : (Instr.index 9 (.string ⟨#[34]⟩) (.int .i64 0)).run Tryd.prog w = .ok (.int .u8 34) w := by kernel_rfl
set_option maxHeartbeats 8000000 in
theorem quoted_c {d : List Int} (hA : AllB d) (hl : d.length ≤ 1000) (v : Value) (w : World) (hv : Byt w v d) : Calls Tryd.prog 67 #[v] w fun e w' => e = .returned (.string (tS (qT d))) ∧ Below w.heap.size w w' := by
  obtain ⟨a, cap, rfl, hc, _, hcell⟩ := hv
  have HA : Hid (AllB d) := hA
  have HC : Hid (d ≠ [] → ∃ g off, a = some ⟨g, off, none⟩ ∧ g < w.heap.size ∧ ∀ j, j < d.length → w.cell? ⟨g, off + j, none⟩ = some (.int .u8 (d.getD j 0))) := hcell
  obtain ⟨W0, hW0, r0, b0, s0⟩ := start1 w #[.pointer none, .slice none 0 0] 61
  have HF : Hid (Bd 61 w.heap.size w.heap.size [] W0) := by unfold Hid; rw [← hW0]; exact Bd.fresh _ w
  obtain ⟨N, hN⟩ : ∃ N, N = d.length := ⟨_, rfl⟩
  rw [← hN] at hc hl ⊢
  have HN : Hid (N = d.length) := hN
  have hq := qIx
  clear hA hcell s0 hN r0
  go_enter Tryd.func67, Tryd.ntmps67
  go_upto_region 2 with (refine wpList_allocZ1 (by rfl) 61 (by rfl) #[.pointer none, .slice none 0 0] zero_bld ?_)
  rw [hW0]
  clear hW0
  go_upto_region 4 with (go_at_call 39; refine (HF.out.ws hob_b [34] _ rfl (by simp)).mono ?_; rintro e w1 ⟨⟨u, rfl⟩, h1, h2⟩; have HF1 : Hid (Bd 61 w.heap.size w.heap.size [34] w1) := h1; have HK0 : Hid (Bk w.heap.size w.heap.size W0 w1) := h2; clear h1 h2 HF)
  have HB1 : Hid (Below w.heap.size w w1) := b0.out.trans HK0.out.bel
  go_loopw [5, 9, 18] (fun _ i _ wr => ∃ k : Nat, k ≤ N ∧ i = .int .i64 k ∧ Hid (Bd 61 w.heap.size w.heap.size ([34] ++ qB (d.take k)) wr) ∧ Hid (Below w.heap.size w wr)) (fun _ i _ _ => N - (intOf i).toNat)
  case atStart => exact ⟨0, Nat.zero_le _, rfl, HF1, HB1⟩
  case round =>
    obtain ⟨k, hk, rfl, HD, HB⟩ := hrel
    clear HF1 HB1
    by_cases hlt : k < N
    · have hltI : (k : Int) < N := by omega
      obtain ⟨m, hm, hm2⟩ := HA.out.at k (by rw [← HN.out]; exact hlt)
      obtain ⟨g, off, rfl, hg, hcs⟩ := HC.out (by intro e; rw [e] at HN; have := HN.out; simp at this; omega)
      have c0 : wr.cell? ⟨g, off + k, none⟩ = some (.int .u8 (m : Int)) := by
        rw [HB.out.cell (p := ⟨g, off + k, none⟩) hg, hcs k (by rw [← HN.out]; exact hlt), hm]
      have HL : Hid (([34] ++ qB (d.take k)).length ≤ 10000) := by unfold Hid; have := qB_len (d.take k); simp only [List.length_append, List.length_cons, List.length_nil]; rw [List.length_take] at this; omega
      have HNX : Hid ([34] ++ qB (d.take (k + 1)) = ([34] ++ qB (d.take k)) ++ eB (m : Int)) := by
        unfold Hid; rw [take_snoc d k (by rw [← HN.out]; exact hlt), qB_snoc, hm]; simp
      generalize [34] ++ qB (d.take k) = l at HD HL HNX
      have HPL : Hid (∀ w', Calls Tryd.prog 78 #[.int .u8 (m : Int)] w' fun e w'' => e = .returned (.bool (decide (32 ≤ m) && decide (m ≤ 126))) ∧ w'' = w') := fun w' => plain_c m w'
      clear hm hcs hg hlt
      have hcs : (m = 34 ∨ m = 92) ∨ (m ≠ 34 ∧ m ≠ 92 ∧ m = 10) ∨ (m ≠ 34 ∧ m ≠ 92 ∧ m ≠ 10 ∧ 32 ≤ m ∧ m ≤ 126) ∨ (m ≠ 34 ∧ m ≠ 92 ∧ m ≠ 10 ∧ ¬ (32 ≤ m ∧ m ≤ 126)) := by omega
      have HM : Hid (((UInt8.ofNat m).toNat : Int) = (m : Int)) := by unfold Hid; rw [UInt8.toNat_ofNat']; omega
      rcases hcs with hcs | ⟨n1, n2, hcs⟩ | ⟨n1, n2, n3, p1, p2⟩ | ⟨n1, n2, n3, p⟩
      · have HE : Hid (eB (m : Int) = [92] ++ [UInt8.ofNat m]) := by unfold Hid eB; rw [if_pos (by omega), Int.toNat_natCast]; rfl
        rw [HE.out, ← List.append_assoc] at HNX
        have hq1 : ((m : Int) == 34) = true ∨ (((m : Int) == 34) = false ∧ ((m : Int) == 92) = true) := by
          rcases hcs with h | h
          · exact .inl (by subst h; rfl)
          · exact .inr (by subst h; exact ⟨rfl, rfl⟩)
        clear hcs HPL
        rcases hq1 with q1 | ⟨q1, q2⟩
        all_goals
          go_wp2_with (first
            | (go_at_call 65; refine (HD.out.wb hob_b 92 _ rfl (by have := HL.out; omega)).mono ?_; rintro e w1 ⟨rfl, h1, h2⟩; have HD1 : Hid (Bd 61 w.heap.size w.heap.size (l ++ [92]) w1) := h1; have HK1 : Hid (Bk w.heap.size w.heap.size wr w1) := h2; clear h1 h2 HD)
            | (go_at_call 65; refine (HD1.out.wb hob_b (UInt8.ofNat m) _ HM.out.symm (by have := HL.out; simp only [List.length_append, List.length_cons, List.length_nil]; omega)).mono ?_; rintro e w2 ⟨rfl, h1, h2⟩; have HD2 : Hid (Bd 61 w.heap.size w.heap.size (l ++ [92] ++ [UInt8.ofNat m]) w2) := h1; have HK2 : Hid (Bk w.heap.size w.heap.size w1 w2) := h2; clear h1 h2 HD1))
          go_roundw
          case rel => exact ⟨k + 1, by omega, by go_num, by unfold Hid; rw [HNX.out]; exact HD2.out, HB.out.trans (HK1.out.bel.trans HK2.out.bel)⟩
          case measure => simp [intOf]; omega
      · have HE : Hid (eB (m : Int) = [92, 110]) := by unfold Hid eB; rw [if_neg (by omega), if_pos (by omega)]
        rw [HE.out] at HNX
        have q1 : ((m : Int) == 34) = false := by rw [beq_eq_false_iff_ne]; omega
        have q2 : ((m : Int) == 92) = false := by rw [beq_eq_false_iff_ne]; omega
        have q3 : ((m : Int) == 10) = true := by rw [hcs]; rfl
        clear hcs HPL n1 n2
        go_wp2_with (go_at_call 39; refine (HD.out.ws hob_b [92, 110] _ rfl (by have := HL.out; simp only [List.length_cons, List.length_nil]; omega)).mono ?_; rintro e w1 ⟨⟨u, rfl⟩, h1, h2⟩; have HD1 : Hid (Bd 61 w.heap.size w.heap.size (l ++ [92, 110]) w1) := h1; have HK1 : Hid (Bk w.heap.size w.heap.size wr w1) := h2; clear h1 h2 HD)
        go_roundw
        case rel => exact ⟨k + 1, by omega, by go_num, by unfold Hid; rw [HNX.out]; exact HD1.out, HB.out.trans HK1.out.bel⟩
        case measure => simp [intOf]; omega
      · have HE : Hid (eB (m : Int) = [UInt8.ofNat m]) := by unfold Hid eB; rw [if_neg (by omega), if_neg (by omega), if_pos (by omega), Int.toNat_natCast]
        rw [HE.out] at HNX
        have q1 : ((m : Int) == 34) = false := by rw [beq_eq_false_iff_ne]; omega
        have q2 : ((m : Int) == 92) = false := by rw [beq_eq_false_iff_ne]; omega
        have q3 : ((m : Int) == 10) = false := by rw [beq_eq_false_iff_ne]; omega
        have HPB : Hid ((decide (32 ≤ m) && decide (m ≤ 126)) = true) := by unfold Hid; simp [p1, p2]
        rw [HPB.out] at HPL
        clear n1 n2 n3 p1 p2
        go_wp2_with (first
          | (go_at_call 78; refine (HPL.out _).mono ?_; rintro e w0 ⟨rfl, hw⟩; have hw2 := hw.symm; subst hw2)
          | (go_at_call 65; refine (HD.out.wb hob_b (UInt8.ofNat m) _ HM.out.symm (by have := HL.out; omega)).mono ?_; rintro e w1 ⟨rfl, h1, h2⟩; have HD1 : Hid (Bd 61 w.heap.size w.heap.size (l ++ [UInt8.ofNat m]) w1) := h1; have HK1 : Hid (Bk w.heap.size w.heap.size wr w1) := h2; clear h1 h2 HD))
        go_roundw
        case rel => exact ⟨k + 1, by omega, by go_num, by unfold Hid; rw [HNX.out]; exact HD1.out, HB.out.trans HK1.out.bel⟩
        case measure => simp [intOf]; omega
      · have HE : Hid (eB (m : Int) = [92, 120] ++ hxB [(m : Int)]) := by unfold Hid eB; rw [if_neg (by omega), if_neg (by omega), if_neg (by omega)]; simp [hxB]
        rw [HE.out, ← List.append_assoc] at HNX
        have q1 : ((m : Int) == 34) = false := by rw [beq_eq_false_iff_ne]; omega
        have q2 : ((m : Int) == 92) = false := by rw [beq_eq_false_iff_ne]; omega
        have q3 : ((m : Int) == 10) = false := by rw [beq_eq_false_iff_ne]; omega
        have HPB : Hid ((decide (32 ≤ m) && decide (m ≤ 126)) = false) := by unfold Hid; simp; omega
        rw [HPB.out] at HPL
        have HHX : Hid (∀ w' : World, Calls Tryd.prog 48 #[.slice (some ⟨w'.heap.size, 0, none⟩) 1 1] (w'.alloc (.cells #[.int .u8 (m : Int)] 5)) fun e w'' => e = .returned (.string (tS (hxB [(m : Int)]))) ∧ Below w'.heap.size w' w'') := fun w' => (hexOf_c (d := [(m : Int)]) (fun x hx => by simp at hx; omega) (by simp) (by simp) _ _ (byt_one w' m)).mono fun e w'' ⟨he, hb⟩ => ⟨he, bt (below_alc w' _) hb⟩
        have HXL : Hid ((hxB [(m : Int)]).length = 2) := by unfold Hid; rw [hxB_len]; rfl
        generalize hxB [(m : Int)] = hx at HHX HNX HXL
        clear n1 n2 n3 p HM HE
        go_wp2_with (first
          | (go_at_call 78; refine (HPL.out _).mono ?_; rintro e w0 ⟨rfl, hw⟩; have hw2 := hw.symm; subst hw2)
          | (go_at_call 48; refine (HHX.out _).mono ?_; rintro e w2 ⟨rfl, hb⟩; have HD2 : Hid (Bd 61 w.heap.size w.heap.size (l ++ [92, 120]) w2) := HD1.out.later hb; have HB2 : Hid (Below w1.heap.size w1 w2) := hb; clear hb HD1)
          | (go_at_call 39; refine (HD2.out.ws hob_b hx _ rfl (by have := HL.out; have := HXL.out; simp only [List.length_append, List.length_cons, List.length_nil]; omega)).mono ?_; rintro e w3 ⟨⟨u, rfl⟩, h1, h2⟩; have HD3 : Hid (Bd 61 w.heap.size w.heap.size (l ++ [92, 120] ++ hx) w3) := h1; have HK3 : Hid (Bk w.heap.size w.heap.size w2 w3) := h2; clear h1 h2 HD2)
          | (go_at_call 39; refine (HD.out.ws hob_b [92, 120] _ rfl (by have := HL.out; simp only [List.length_cons, List.length_nil]; omega)).mono ?_; rintro e w1 ⟨⟨u, rfl⟩, h1, h2⟩; have HD1 : Hid (Bd 61 w.heap.size w.heap.size (l ++ [92, 120]) w1) := h1; have HK1 : Hid (Bk w.heap.size w.heap.size wr w1) := h2; clear h1 h2 HD))
        go_roundw
        case rel => exact ⟨k + 1, by omega, by go_num, by unfold Hid; rw [HNX.out]; exact HD3.out, HB.out.trans (HK1.out.bel.trans ((HB2.out.mono (Nat.le_trans HB.out.size HK1.out.size)).trans HK3.out.bel))⟩
        case measure => simp [intOf]; omega
    · have hke : k = N := by omega
      subst hke
      have HD9 : Hid (Bd 61 w.heap.size w.heap.size ([34] ++ qB d) wr) := by have := HD.out; rw [HN.out, List.take_length] at this; exact this
      have HL : Hid (([34] ++ qB d).length ≤ 10000) := by unfold Hid; have := qB_len d; have := HN.out; simp only [List.length_append, List.length_cons, List.length_nil]; omega
      have HQ : Hid (qT d = [34] ++ qB d ++ [34]) := rfl
      clear HD
      generalize [34] ++ qB d = l at HD9 HL HQ
      go_wp2_with (first
        | (go_at_call 39; refine (HD9.out.ws hob_b [34] _ rfl (by have := HL.out; simp only [List.length_cons, List.length_nil]; omega)).mono ?_; rintro e w1 ⟨⟨u, rfl⟩, h1, h2⟩; have HD1 : Hid (Bd 61 w.heap.size w.heap.size (l ++ [34]) w1) := h1; have HK1 : Hid (Bk w.heap.size w.heap.size wr w1) := h2; clear h1 h2 HD9)
        | (go_at_call 27; refine (HD1.out.st (by simp)).mono ?_; rintro e w2 ⟨rfl, h2⟩; have HK2 : Hid (Bk w.heap.size w.heap.size w1 w2) := h2; clear h2))
      go_ret
      exact ⟨by rw [HQ.out]; rfl, HB.out.trans (HK1.out.bel.trans HK2.out.bel)⟩
end Go.Proofs.YthmjimmmkoeeoaaDoor
