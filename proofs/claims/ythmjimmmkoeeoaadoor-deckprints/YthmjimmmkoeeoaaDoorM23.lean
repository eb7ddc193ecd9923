/-
  Dm.
-/
import Derived.Test.YthmjimmmkoeeoaaDoorM22
namespace Go.Proofs.YthmjimmmkoeeoaaDoor
set_option linter.unusedVariables false
set_option maxRecDepth 100000
open Go.ChangeShapes Go.WideShapes Go.ChangeAt Go.RowKit Go.Deep Go.Shelf
theorem elemB : Tryd.prog.elem 44 = 5 := by kernel_rfl
theorem undB : Tryd.prog.underlying 44 = some (.slice (Tryd.prog.elem 44)) := by rw [elemB]; exact Tryd.underlying44
theorem sizeB (w : World) : (Go.sizeOf 5).run Tryd.prog w = .ok 1 w := by kernel_rfl
theorem sl_l (W : World) (a : Option Addr) (len cap : Nat) (l : Nat) (h : l ≤ len) : (Instr.slice 44 (.slice a len cap) (some (.int .i64 (l : Int))) none none).run Tryd.prog W = .ok (.slice (if cap = l then a else a.map (fun x => x.add l)) (len - l) (cap - l)) W := by
  rw [run_slice_l W _ _ _ _ undB .i64 _ (by omega) (by omega), elemB, sizeB]
  simp [Result.andThen, sliced]
theorem sl_h (W : World) (a : Option Addr) (len cap : Nat) (h : Nat) (h2 : h ≤ cap) : (Instr.slice 44 (.slice a len cap) none (some (.int .i64 (h : Int))) none).run Tryd.prog W = .ok (.slice (if cap = 0 then a else a.map (fun x => x.add 0)) h cap) W := by
  rw [run_slice_h W _ _ _ _ undB .i64 _ (by omega) (by omega), elemB, sizeB]
  simp [Result.andThen, sliced]
/-- A part of bytes in memory. -/
theorem Byt.cut {w : World} {a : Option Addr} {len cap : Nat} {b : List Int} (h : Byt w (.slice a len cap) b) (l e m : Nat) (h0 : l ≤ e) (h1 : e ≤ m) (h2 : m ≤ cap) (h3 : e ≤ b.length) : Byt w (.slice (if m = l then a else a.map (fun x => x.add l)) (e - l) (m - l)) ((b.drop l).take (e - l)) := by
  obtain ⟨a', cap', e', k1, k2, k3⟩ := h
  cases e'
  have hl : ((b.drop l).take (e - l)).length = e - l := by simp; omega
  refine ⟨if m = l then a else a.map (fun x => x.add l), m - l, by rw [hl], by rw [hl]; omega, fun he => ?_, fun hne => ?_⟩
  · by_cases e : m = l
    · omega
    · rw [if_neg e] at he
      have : a = none := by cases a <;> simp_all
      have := k2 this
      omega
  · have hn : l < e := by
      rcases Nat.lt_or_ge l e with q | q
      · exact q
      · rw [show e - l = 0 by omega] at hne; simp at hne
    obtain ⟨g, off, rfl, h4, h5⟩ := k3 (by intro e; rw [e] at h3; simp at h3; omega)
    rw [if_neg (by omega)]
    refine ⟨g, off + l, by simp [addAt], h4, fun j hj => ?_⟩
    rw [hl] at hj
    rw [Nat.add_assoc, h5 _ (by omega)]
    simp [hj]
/-- The head and the rest of bytes, as 'b[:q]' and 'b[q:]' make them. -/
theorem Byt.two {w : World} {a : Option Addr} {cap : Nat} {b : List Int} (h : Byt w (.slice a b.length cap) b) (q : Nat) (hq : q ≤ b.length) :
    ∃ u v, (∀ W, (Instr.slice 44 (.slice a b.length cap) none (some (.int .i64 (q : Int))) none).run Tryd.prog W = .ok u W) ∧ (∀ W, (Instr.slice 44 (.slice a b.length cap) (some (.int .i64 (q : Int))) none none).run Tryd.prog W = .ok v W) ∧ Byt w u (b.take q) ∧ Byt w v (b.drop q) := by
  have hc : b.length ≤ cap := by obtain ⟨a', cap', e', k1, _⟩ := h; cases e'; exact k1
  refine ⟨_, _, fun W => sl_h W a b.length cap q (by omega), fun W => sl_l W a b.length cap q hq, ?_, ?_⟩
  · have := h.cut 0 q cap (Nat.zero_le _) (by omega) (Nat.le_refl _) hq
    simpa using this
  · have := h.cut q b.length cap hq hc (Nat.le_refl _) (Nat.le_refl _)
    rw [show (b.drop q).take (b.length - q) = b.drop q from List.take_of_length_le (by simp)] at this
    exact this
theorem AllB.take {b : List Int} (h : AllB b) (n : Nat) : AllB (b.take n) := fun x hx => h x (List.mem_of_mem_take hx)
theorem AllB.drop {b : List Int} (h : AllB b) (n : Nat) : AllB (b.drop n) := fun x hx => h x (List.mem_of_mem_drop hx)
theorem add2_c {B b : Nat} {l : Tx} (x y : Tx) (w : World) (hP : Bd 63 B b l w) (hl : (jw [x, y]).length ≤ 1000000) (hl2 : l.length ≤ 100000000) :
    Calls Tryd.prog 20 #[.pointer (some ⟨b, 0, none⟩), .slice (some ⟨w.heap.size, 0, none⟩) 2 2] (w.alloc (.cells #[.string (tS x), .string (tS y)] 9)) fun e w' => e = .returned (.tuple #[]) ∧ Bd 63 B b (l ++ jw [x, y] ++ [10]) w' ∧ Bk B b w w' :=
  (add_c [x, y] w.heap.size 0 2 _ (hP.later (below_alc w (.cells #[.string (tS x), .string (tS y)] 9))) (bs2 w x y) (by simp) (by simp) (by simp) hl hl2).mono fun e w' ⟨h1, h2, h3⟩ => ⟨h1, h2, (Bk.of_below hP.sz (below_alc w _)).trans h3⟩
theorem add4_c {B b : Nat} {l : Tx} (x y z t : Tx) (w : World) (hP : Bd 63 B b l w) (hl : (jw [x, y, z, t]).length ≤ 1000000) (hl2 : l.length ≤ 100000000) :
    Calls Tryd.prog 20 #[.pointer (some ⟨b, 0, none⟩), .slice (some ⟨w.heap.size, 0, none⟩) 4 4] (w.alloc (.cells #[.string (tS x), .string (tS y), .string (tS z), .string (tS t)] 9)) fun e w' => e = .returned (.tuple #[]) ∧ Bd 63 B b (l ++ jw [x, y, z, t] ++ [10]) w' ∧ Bk B b w w' :=
  (add_c [x, y, z, t] w.heap.size 0 4 _ (hP.later (below_alc w (.cells #[.string (tS x), .string (tS y), .string (tS z), .string (tS t)] 9))) (bs4 w x y z t) (by simp) (by simp) (by simp) hl hl2).mono fun e w' ⟨h1, h2, h3⟩ => ⟨h1, h2, (Bk.of_below hP.sz (below_alc w _)).trans h3⟩
theorem dtT_len (d : List Int) : (dtT d).length = 5 + 2 * d.length := by unfold dtT; rw [jw2, hxB_len]; simp
theorem dtLs_len (n : Nat) : ∀ d : List Int, d.length ≤ n → (lnT (dtLs d)).length ≤ 8 * d.length := by
  induction n using Nat.strongRecOn with
  | _ n ih =>
    intro d hd
    by_cases h : d = []
    · subst h; simp [dtLs_nil, lnT]
    · have hp := List.length_pos_iff.2 h
      rw [dtLs_more h, lnT_cons, List.length_append, List.length_append, dtT_len]
      by_cases hn : n = 0
      · omega
      · have := ih (n - 1) (by omega) (d.drop 32) (by rw [List.length_drop]; omega)
        rw [List.length_drop] at this
        rw [List.length_take]
        simp only [List.length_cons, List.length_nil]
        omega
theorem flT_len (f : Int) : (flT f).length ≤ 3 := by
  unfold flT
  repeat' split
  all_goals simp
theorem ptH_len (p : Pt) (hs : p.s.toNat < 1000000) : (ptH p).length ≤ 40 := by
  unfold ptH; rw [jw4]; have := hxT_len p.a; have := dcL_len p.s.toNat 5 (by omega); have := flT_len p.f; simp only [List.length_cons, List.length_nil]; omega
theorem ptLs_len (p : Pt) (hs : p.s.toNat < 1000000) (hd : p.d.length ≤ 70000) : (lnT (ptLs p)).length ≤ 600000 := by
  unfold ptLs; rw [lnT_cons]; have := ptH_len p hs; have := dtLs_len _ p.d (Nat.le_refl _); simp only [List.length_append, List.length_cons, List.length_nil]; omega
theorem ptLs_eq (p : Pt) : lnT (ptLs p) = ptH p ++ [10] ++ lnT (dtLs p.d) := by unfold ptLs; rw [lnT_cons]
theorem take_min (b : List Int) : b.take (min 32 b.length) = b.take 32 := by
  rcases Nat.le_total 32 b.length with h | h
  · rw [Nat.min_eq_left h]
  · rw [Nat.min_eq_right h, List.take_length, List.take_of_length_le h]
theorem drop_min (b : List Int) : b.drop (min 32 b.length) = b.drop 32 := by
  rcases Nat.le_total 32 b.length with h | h
  · rw [Nat.min_eq_left h]
  · rw [Nat.min_eq_right h, List.drop_length, List.drop_of_length_le h]
set_option maxHeartbeats 4000000 in
theorem addPart_c {w0 : World} {b : Nat} {l : Tx} (p : Pt) (v : Value) (hv : Byt w0 v p.d) (hA : AllB p.d) (hf : 0 ≤ p.f ∧ p.f ≤ 7) (hs : p.s.toNat < 1000000) (hd : p.d.length ≤ 70000) (w : World) (hG : Gp w0) (h0 : Below w0.heap.size w0 w) (hP : Bd 63 w0.heap.size b l w) (hl : l.length ≤ 90000000) :
    Calls Tryd.prog 25 #[.pointer (some ⟨b, 0, none⟩), .agg #[.int .u64 (n64 p.a), .int .u64 (n64 p.s), .int .i64 p.f, v]] w fun e w' => e = .returned (.tuple #[]) ∧ Bd 63 w0.heap.size b (l ++ lnT (ptLs p)) w' ∧ Bk w0.heap.size b w w' := by
  obtain ⟨W0, hW0, r0, b0, s0⟩ := start1 w #[.int .u64 (n64 p.a), .int .u64 (n64 p.s), .int .i64 p.f, v] 46
  have HG : Hid (∀ w', Below w0.heap.size w0 w' → Gp w') := fun w' h => hG.base h
  have HP : Hid (Bd 63 w0.heap.size b l W0) := hP.later b0.out
  have HK : Hid (Bk w0.heap.size b w W0) := Bk.of_below hP.sz b0.out
  have H0 : Hid (Below w0.heap.size w0 w) := h0
  have HN : Hid (w.heap.size ≠ b) := by have := hP.lt; unfold Hid; omega
  have HL : Hid (l.length ≤ 90000000 ∧ (ptH p).length ≤ 40 ∧ p.d.length ≤ 70000 ∧ AllB p.d ∧ Byt w0 v p.d) := ⟨hl, ptH_len p hs, hd, hA, hv⟩
  have HTT : Hid ((l ++ lnT (ptLs p)).length ≤ 91000000) := by unfold Hid; have := ptLs_len p hs hd; rw [List.length_append]; omega
  have HEQ : Hid (l ++ lnT (ptLs p) = l ++ ptH p ++ [10] ++ lnT (dtLs p.d)) := by unfold Hid; rw [ptLs_eq]; simp
  have HH : Hid (jw [[112, 97, 114, 116], hxT p.a, dcL p.s.toNat, flT p.f] = ptH p) := rfl
  have := later_nonempty W0
  have HB0 : Hid (Below w0.heap.size w0 W0) := h0.trans (b0.out.mono h0.size)
  have c0 : ∀ x : Later W0, x.1.cell? ⟨w.heap.size, 0, none⟩ = some (.int .u64 (n64 p.a)) := later_atD (by omega) (r0.out.cell 0)
  have c1 : ∀ x : Later W0, x.1.cell? ⟨w.heap.size, 1, none⟩ = some (.int .u64 (n64 p.s)) := later_atD (by omega) (r0.out.cell 1)
  have c2 : ∀ x : Later W0, x.1.cell? ⟨w.heap.size, 2, none⟩ = some (.int .i64 p.f) := later_atD (by omega) (r0.out.cell 2)
  have c3 : Hid (∀ x : Later W0, Row x.1 w.heap.size #[.int .u64 (n64 p.a), .int .u64 (n64 p.s), .int .i64 p.f, v] 46) := fun x => r0.out.later x.below r0.out.lt
  have X1 : Hid (∀ x : Later W0, Calls Tryd.prog 22 #[.int .u64 (n64 p.a)] x.1 fun e w'' => e = .returned (.string (tS (hxT p.a))) ∧ Below x.1.heap.size x.1 w'') := fun x => phx_c _ x.1 (HG.out x.1 (HB0.out.trans (x.below.mono HB0.out.size))).1
  have X2 : Hid (∀ x : Later W0, Calls Tryd.prog 42 #[.int .u64 (n64 p.s), .int .i64 10] x.1 fun e w'' => e = .returned (.string (tS (dcL p.s.toNat))) ∧ Below x.1.heap.size x.1 w'') := fun x => fu10_c p.s.toNat (by omega) x.1 (HG.out x.1 (HB0.out.trans (x.below.mono HB0.out.size))).2
  have X3 : Hid (∀ x : Later W0, Calls Tryd.prog 47 #[.int .i64 p.f] x.1 fun e w'' => e = .returned (.string (tS (flT p.f))) ∧ w'' = x.1) := fun x => flags_c p.f hf x.1
  generalize l ++ lnT (ptLs p) = T at HTT HEQ ⊢
  have hHL : Hid ((jw [[112, 97, 114, 116], hxT p.a, dcL p.s.toNat, flT p.f]).length ≤ 1000000) := by unfold Hid; rw [HH.out]; have := HL.out.2.1; omega
  have HAD : Hid (∀ w', Bd 63 w0.heap.size b l w' → Calls Tryd.prog 20 #[.pointer (some ⟨b, 0, none⟩), .slice (some ⟨w'.heap.size, 0, none⟩) 4 4] (w'.alloc (.cells #[.string (tS [112, 97, 114, 116]), .string (tS (hxT p.a)), .string (tS (dcL p.s.toNat)), .string (tS (flT p.f))] 9)) fun e w'' => e = .returned (.tuple #[]) ∧ Bd 63 w0.heap.size b (l ++ ptH p ++ [10]) w'' ∧ Bk w0.heap.size b w' w'') := fun w' h => by rw [← HH.out]; exact add4_c _ _ _ _ w' h hHL.out (by have := HL.out.1; omega)
  generalize ptH p = ph at HL HEQ HAD
  generalize tS (hxT p.a) = s1 at X1 HAD
  generalize tS (dcL p.s.toNat) = s2 at X2 HAD
  generalize tS (flT p.f) = s3 at X3 HAD
  generalize p.d = pd at HL HEQ
  generalize n64 p.a = na at c0 c3 X1 hW0
  generalize n64 p.s = ns at c1 c3 X2 hW0
  generalize p.f = nf at c2 c3 X3 hW0
  clear hG hP h0 hl s0 hv hA hf hs hd hHL HH r0
  go_enter Tryd.func25, Tryd.ntmps25
  go_upto_region 1 with fail
  clear hW0
  refine wp_region_later_tail1 (x0 := Later.start W0) 10 (.pointer (some ⟨b, 0, none⟩)) (by kernel_rfl) (by kernel_rfl) (fun _ _ _ h => h) (.inl ⟨by rfl, fun w => by rfl⟩) ?_
  simp only [List.take_succ_cons, List.take_zero, List.drop_succ_cons, List.drop_zero, Act.put, List.setIfInBounds_toArray, List.set_cons_succ, List.set_cons_zero]
  --@U0
  repeat (go_big_quiet_step (first | (go_at_call 22; exact calls_later (X1.out _)) | (go_at_call 42; exact calls_later (X2.out _)) | (go_at_call 47; exact calls_later_same (X3.out _))))
  refine wpQuiet_nil ?_
  rintro w' ⟨x9, rfl⟩
  have HB9 : Hid (Below W0.heap.size W0 x9.1) := x9.below
  have HR9 : Hid (Row x9.1 w.heap.size #[.int .u64 na, .int .u64 ns, .int .i64 nf, v] 46) := c3.out x9
  have HP9 : Hid (Bd 63 w0.heap.size b l x9.1) := HP.out.later HB9.out
  have HK9 : Hid (Bk w0.heap.size b w x9.1) := HK.out.trans (Bk.of_below HP.out.sz HB9.out)
  generalize x9.1 = W9 at HB9 HR9 HP9 HK9 ⊢
  clear c0 c1 c2 c3 X1 X2 X3
  --@U1
  go_upto_region 2 with (go_at_call 20; refine (HAD.out _ HP9.out).mono ?_; rintro e w2 ⟨rfl, h1, h2⟩; have HP2 : Hid (Bd 63 w0.heap.size b (l ++ ph ++ [10]) w2) := h1; have HK2 : Hid (Bk w0.heap.size b w w2) := HK9.out.trans h2; have HR2 : Hid (Row w2 w.heap.size #[.int .u64 na, .int .u64 ns, .int .i64 nf, v] 46) := h2.row HR9.out HN.out (by decide); clear h1 h2)
  have k3 : w2.cell? ⟨w.heap.size, 3, none⟩ = some v := HR2.out.cell 3
  go_upto_region 3 with fail
  --@U2
  go_loopw [4, 5] (fun r _ wr => ∃ e : List Int, ∃ m : Tx, Hid (Byt w0 r e ∧ AllB e ∧ e.length ≤ 70000 ∧ m ++ lnT (dtLs e) = T ∧ Bd 63 w0.heap.size b m wr ∧ Bk w0.heap.size b w wr)) (fun r _ _ => match r with | .slice _ n _ => n | _ => 0)
  case atStart => exact ⟨pd, l ++ ph ++ [10], HL.out.2.2.2.2, HL.out.2.2.2.1, HL.out.2.2.1, HEQ.out.symm, HP2.out, HK2.out⟩
  case round =>
    obtain ⟨e, m, HE⟩ := hrel
    clear HP2 HK2 HR2 k3 HB9 HR9 HP9 HK9 HAD HEQ HL HK HP b0 HB0
    obtain ⟨ad, cap, e1, hc1, hc2, hc3⟩ := HE.out.1
    subst e1
    clear hc2 hc3
    have HML : Hid (m.length ≤ 91000000) := by unfold Hid; have := congrArg List.length HE.out.2.2.2.1; rw [List.length_append] at this; have := HTT.out; omega
    by_cases he : e = []
    · subst he
      have HF : Hid (m = T) := by unfold Hid; have := HE.out.2.2.2.1; rw [dtLs_nil, lnT_nil, List.append_nil] at this; exact this
      go_wp2
      go_end0
      exact ⟨rfl, by rw [← HF.out]; exact HE.out.2.2.2.2.1, HE.out.2.2.2.2.2⟩
    · have hp := List.length_pos_iff.2 he
      have hp0 : (0 : Int) < (e.length : Int) := by omega
      obtain ⟨u, v2, hu, hv2, hbu, hbv⟩ := HE.out.1.two (min 32 e.length) (Nat.min_le_right _ _)
      have hq : min (32 : Int) (e.length : Int) = ((min 32 e.length : Nat) : Int) := by omega
      have HEL : Hid (e.length ≤ 70000) := HE.out.2.2.1
      have HQ : Hid (0 < min 32 e.length ∧ min 32 e.length ≤ e.length) := ⟨by omega, Nat.min_le_right _ _⟩
      rw [take_min] at hbu
      rw [drop_min] at hbv
      have HBV : Hid (Byt w0 v2 (e.drop 32)) := hbv
      have HX : Hid (∀ w', Below w0.heap.size w0 w' → Calls Tryd.prog 48 #[u] w' fun en w'' => en = .returned (.string (tS (hxB (e.take 32)))) ∧ Below w'.heap.size w' w'') := fun w' hb => hexOf_c (HE.out.2.1.take 32) (by intro h; have := congrArg List.length h; rw [List.length_take, List.length_nil] at this; omega) (by rw [List.length_take]; omega) u w' (hbu.later hb rfl)
      have HNX : Hid (m ++ dtT (e.take 32) ++ [10] ++ lnT (dtLs (e.drop 32)) = T) := by unfold Hid; have := HE.out.2.2.2.1; rw [dtLs_more he, lnT_cons] at this; rw [← this]; simp
      have HAD : Hid (∀ w', Bd 63 w0.heap.size b m w' → Calls Tryd.prog 20 #[.pointer (some ⟨b, 0, none⟩), .slice (some ⟨w'.heap.size, 0, none⟩) 2 2] (w'.alloc (.cells #[.string (tS [100, 97, 116, 97]), .string (tS (hxB (e.take 32)))] 9)) fun en w'' => en = .returned (.tuple #[]) ∧ Bd 63 w0.heap.size b (m ++ dtT (e.take 32) ++ [10]) w'' ∧ Bk w0.heap.size b w' w'') := fun w' h => add2_c _ _ w' h (by have := dtT_len (e.take 32); unfold dtT at this; rw [this, List.length_take]; omega) (by have := HML.out; omega)
      have HD : Hid (Bd 63 w0.heap.size b m wr) := HE.out.2.2.2.2.1
      have HKr : Hid (Bk w0.heap.size b w wr) := HE.out.2.2.2.2.2
      have HAe : Hid (AllB (e.drop 32)) := HE.out.2.1.drop 32
      have HVL : Hid (∃ a2 c2, v2 = .slice a2 (e.drop 32).length c2) := by obtain ⟨a2, c2, q, _⟩ := hbv; exact ⟨a2, c2, q⟩
      generalize min 32 e.length = q at hq hu hv2 HQ
      generalize tS (hxB (e.take 32)) = s at HX HAD
      generalize m ++ dtT (e.take 32) ++ [10] = m2 at HNX HAD
      clear hbu hbv HE he hp
      --@U3
      go_wp2_with (first
        | (go_at_call 48; refine (HX.out _ (H0.out.trans HKr.out.bel)).mono ?_; rintro en w3 ⟨rfl, hb⟩; have HB3 : Hid (Below wr.heap.size wr w3) := hb; clear hb)
        | (go_at_call 20; refine (HAD.out _ (HD.out.later HB3.out)).mono ?_; rintro en w4 ⟨rfl, h1, h2⟩; have HP4 : Hid (Bd 63 w0.heap.size b m2 w4) := h1; have HK4 : Hid (Bk w0.heap.size b w w4) := HKr.out.trans ((Bk.of_below HD.out.sz HB3.out).trans h2); clear h1 h2))
      --@U4
      go_roundw
      case rel => exact ⟨e.drop 32, m2, HBV.out, HAe.out, by rw [List.length_drop]; have := HEL.out; omega, HNX.out, HP4.out, HK4.out⟩
      case measure =>
        obtain ⟨a2, c2, rfl⟩ := HVL.out
        show (e.drop 32).length < e.length
        rw [List.length_drop]; have := HQ.out; omega
end Go.Proofs.YthmjimmmkoeeoaaDoor
