/-
  Ka Kb Kc.
-/
import Derived.Test.YtgblpjkpeihpeaaM19
import Derived.Test.YtgblpjkpeihpeaaM12
namespace Go.Proofs.Ytgblpjkpeihpeaa
set_option linter.unusedVariables false
set_option maxRecDepth 100000
open Go.ChangeShapes Go.WideShapes Go.ChangeAt Go.RowKit Go.Deep
/-- The reference's reader: it is exact only while nothing is bad. -/
structure Rrd (B : Nat) (w : World) (g : Nat) (L : List Int) (q : Nat) (b : Bool) : Prop where
  bg : B ≤ g
  all : AllB L
  st : ∃ (a : Option Addr) (c : Nat) (p : Int), Row w g #[.slice a L.length c, .int .i64 p, .bool (bd b L q)] 77 ∧ Byt w (.slice a L.length c) L ∧ L.length ≤ 72000 ∧ (∀ k, (Value.slice a L.length c).ownBlock = some k → k < B) ∧ (bd b L q = false → p = (q : Int)) ∧ 0 ≤ p ∧ p ≤ 72000
theorem Rrd.exc {B : Nat} {w w' : World} {g : Nat} {L : List Int} {q : Nat} {b : Bool} (h : Rrd B w g L q b) {S : Nat → Prop} (hx : Exc S w w') (hg : ¬ S g) (hB : ∀ k, k < B → ¬ S k) : Rrd B w' g L q b := by
  obtain ⟨a, c, p, h1, h2, h3, h4, h5⟩ := h.st
  exact ⟨h.bg, h.all, a, c, p, (hx.block g h1.lt hg).trans h1, h2.exc hx (fun k off n' c' e => hB k (h4 k (by rw [e]; rfl))), h3, h4, h5⟩
theorem Rrd.later {B : Nat} {w w' : World} {g : Nat} {L : List Int} {q : Nat} {b : Bool} (h : Rrd B w g L q b) (hb : Below w.heap.size w w') : Rrd B w' g L q b :=
  h.exc (S := fun _ => False) (Exc.of_below hb rfl) id (fun _ _ => id)
/-- What take answers. -/
def TakP (B : Nat) (w : World) (g : Nat) (L : List Int) (q : Nat) (b : Bool) (n : Nat) (e : Ending) (w' : World) : Prop :=
  ∃ u M', e = .returned u ∧ Cut B w w' u M' ∧ M'.length = n ∧ AllB M' ∧ (bd b L (q + n) = false → M' = (L.drop q).take n) ∧ Rrd B w' g L (q + n) b ∧ Exc (· = g) w w'
theorem later_atK {W : World} {g j : Nat} {v : Value} (hg : g < W.heap.size) (h : W.cell? ⟨g, j, none⟩ = some v) : ∀ x : Later W, x.1.cell? ⟨g, j, none⟩ = some v := fun x => (later_cell x (by exact hg)).trans h
set_option maxHeartbeats 4000000 in
theorem take_c {B : Nat} {w : World} {g : Nat} {L : List Int} {q : Nat} {b : Bool} (h : Rrd B w g L q b) (n : Nat) (hn : n ≤ 70000) :
    Calls Try.prog 63 #[.pointer (some ⟨g, 0, none⟩), .int .i64 (n : Int)] w fun e w' => TakP B w g L q b n e w' := by
  obtain ⟨hbg, hall, a, c, p, hr, hby, h72, hown, hgood, hp0, hp1⟩ := h
  have hcap : L.length ≤ c := by obtain ⟨_, _, e, h1, _⟩ := hby; simp only [Value.slice.injEq] at e; omega
  have := later_nonempty w
  have l0 := later_atK hr.lt (hr.cell 0)
  have l1 := later_atK hr.lt (hr.cell 1)
  have l2 := later_atK hr.lt (hr.cell 2)
  have HR := Hid.mk' hr
  have HBY := Hid.mk' hby
  have HOW := Hid.mk' hown
  have HAL := Hid.mk' hall
  clear hr hby hown hall
  have h72' : ((L.length : Nat) : Int) ≤ 72000 := by omega
  cases hq : bd b L q with
  | true =>
    have HBT : Hid (bd b L (q + n) = true) := bd_of hq (by omega)
    rw [hq] at l2 HR
    clear hq hgood
    obtain ⟨i0, hi, hz0, hz1, hz2⟩ := info_parts info5
    have HI : Hid (Try.prog.info? 5 = some i0) := hi
    have HZ0 : Hid (i0.zero = some (.int .u8 0)) := hz0
    have HZ1 : Hid (i0.size = 1) := hz1
    have HZ2 : Hid (i0.bytes = 1) := hz2
    clear hi hz0 hz1 hz2
    go_enter Try.func63, Try.ntmps63
    go_upto_region 1 with fail
    refine wp_region_later (x0 := Later.start w) (by kernel_rfl) (by kernel_rfl) ?_
    repeat (go_big_quiet_step (fail))
    refine wpQuiet_nil ?_
    rintro w' ⟨x9, rfl⟩
    have HR9 := Hid.mk' (HR.out.later x9.below HR.out.lt)
    have HX9 : Hid (Exc (· = g) w x9.1) := Exc.of_below x9.below rfl
    have c2 := HR9.out.cell 2
    have f2 := HR9.out.froz 2
    clear l0 l1 l2 this
    go_upto_region 3 with fail
    refine on_W (motive := fun W => Code.wp _ _ _ _ W) (Q := fun W => Row W g #[.slice a L.length c, .int .i64 p, .bool true] 77 ∧ Exc (· = g) w W) ⟨HR9.out.put (i := 2) (.bool true), HX9.out.set g 2 _ rfl⟩ ?_
    rintro W1 ⟨p1, p2⟩
    have HR1 := Hid.mk' p1
    have HX1 := Hid.mk' p2
    clear p1 p2 c2 f2 HR9 HX9
    go_wp2_with (at_make; refine wpList_make_full _ (by rfl) _ _ 32 (by rfl) W1.heap.size 5 i0 (.int .u8 0) 1 Try.underlying32 HI.out HZ0.out HZ1.out _ _ _ _ n (by rfl) (by rfl) (by omega) (by omega) (by rw [HZ2.out]; omega) (by unfold maxLen; omega) (Nat.le_refl _) ?_; intro w1 hown hgrow)
    have HO := hown
    rw [show (Value.int .u8 0).cells = #[Value.int .u8 0] from rfl, made_bv] at HO
    have hbl : Below W1.heap.size W1 w1 := (Below.refl _ _).grown hgrow (Nat.le_refl _) (fun k hk => by cases hk)
    have HO2 := Hid.mk' HO
    have HBL := Hid.mk' hbl
    clear hown hgrow HO hbl
    go_wp2
    go_ret
    have hx : Exc (· = g) w w1 := HX1.out.trans (Exc.of_below HBL.out rfl)
    refine ⟨_, List.replicate n 0, rfl, ⟨Byt.of_own HO2.out, fun k hk => .inr (Nat.le_trans HX1.out.size (World.ownsRow.lt HO2.out k hk).1)⟩, by simp, allB_zero n, (fun e => by rw [HBT.out] at e; cases e), ⟨hbg, HAL.out, a, c, p, ?_, HBY.out.exc hx (fun k off n' c' e hk => by have := HOW.out k (by rw [e]; rfl); omega), h72, HOW.out, (fun e => by rw [HBT.out] at e; cases e), hp0, hp1⟩, hx⟩
    rw [HBT.out]
    exact HR1.out.later HBL.out HR1.out.lt
  | false =>
    have hpq := hgood hq
    have hql := bd_len hq
    subst hpq
    rw [hq] at l2 HR
    by_cases hlt : L.length < q + n
    · have HBT : Hid (bd b L (q + n) = true) := (by unfold Hid bd; simp [hlt])
      have hlt2 : ((L.length : Nat) : Int) - (q : Int) < (n : Int) := by omega
      obtain ⟨p, hpp⟩ : ∃ p : Int, p = (q : Int) := ⟨_, rfl⟩
      rw [← hpp] at l1 HR hlt2 hp0 hp1
      clear hq hgood hql
      obtain ⟨i0, hi, hz0, hz1, hz2⟩ := info_parts info5
      have HI : Hid (Try.prog.info? 5 = some i0) := hi
      have HZ0 : Hid (i0.zero = some (.int .u8 0)) := hz0
      have HZ1 : Hid (i0.size = 1) := hz1
      have HZ2 : Hid (i0.bytes = 1) := hz2
      clear hi hz0 hz1 hz2
      go_enter Try.func63, Try.ntmps63
      go_upto_region 1 with fail
      refine wp_region_later (x0 := Later.start w) (by kernel_rfl) (by kernel_rfl) ?_
      repeat (go_big_quiet_step (fail))
      refine wpQuiet_nil ?_
      rintro w' ⟨x9, rfl⟩
      have HR9 := Hid.mk' (HR.out.later x9.below HR.out.lt)
      have HX9 : Hid (Exc (· = g) w x9.1) := Exc.of_below x9.below rfl
      have c2 := HR9.out.cell 2
      have f2 := HR9.out.froz 2
      clear l0 l1 l2 this
      go_upto_region 3 with fail
      refine on_W (motive := fun W => Code.wp _ _ _ _ W) (Q := fun W => Row W g #[.slice a L.length c, .int .i64 p, .bool true] 77 ∧ Exc (· = g) w W) ⟨HR9.out.put (i := 2) (.bool true), HX9.out.set g 2 _ rfl⟩ ?_
      rintro W1 ⟨p1, p2⟩
      have HR1 := Hid.mk' p1
      have HX1 := Hid.mk' p2
      clear p1 p2 c2 f2 HR9 HX9
      go_wp2_with (at_make; refine wpList_make_full _ (by rfl) _ _ 32 (by rfl) W1.heap.size 5 i0 (.int .u8 0) 1 Try.underlying32 HI.out HZ0.out HZ1.out _ _ _ _ n (by rfl) (by rfl) (by omega) (by omega) (by rw [HZ2.out]; omega) (by unfold maxLen; omega) (Nat.le_refl _) ?_; intro w1 hown hgrow)
      have HO := hown
      rw [show (Value.int .u8 0).cells = #[Value.int .u8 0] from rfl, made_bv] at HO
      have hbl : Below W1.heap.size W1 w1 := (Below.refl _ _).grown hgrow (Nat.le_refl _) (fun k hk => by cases hk)
      have HO2 := Hid.mk' HO
      have HBL := Hid.mk' hbl
      clear hown hgrow HO hbl
      go_wp2
      go_ret
      have hx : Exc (· = g) w w1 := HX1.out.trans (Exc.of_below HBL.out rfl)
      refine ⟨_, List.replicate n 0, rfl, ⟨Byt.of_own HO2.out, fun k hk => .inr (Nat.le_trans HX1.out.size (World.ownsRow.lt HO2.out k hk).1)⟩, by simp, allB_zero n, (fun e => by rw [HBT.out] at e; cases e), ⟨hbg, HAL.out, a, c, p, ?_, HBY.out.exc hx (fun k off n' c' e hk => by have := HOW.out k (by rw [e]; rfl); omega), h72, HOW.out, (fun e => by rw [HBT.out] at e; cases e), hp0, hp1⟩, hx⟩
      rw [HBT.out]
      exact HR1.out.later HBL.out HR1.out.lt
    · have hle : q + n ≤ L.length := by omega
      have hle2 : ¬ ((L.length : Nat) : Int) - (q : Int) < (n : Int) := by omega
      have HBF : Hid (bd b L (q + n) = false) := (by
        unfold Hid
        unfold bd at hq ⊢
        simp only [Bool.or_eq_false_iff, decide_eq_false_iff_not] at hq ⊢
        exact ⟨hq.1, by omega⟩)
      have hsl : ∀ W, (Instr.slice 32 (.slice a L.length c) (some (.int .i64 (q : Int))) (some (.int .i64 ((q : Int) + (n : Int)))) none).run Try.prog W = .ok (.slice (if c = q then a else a.map (fun x => x.add q)) (q + n - q) (c - q)) W := fun W => sl_lh W a L.length c q (q + n) (by omega) (by omega)
      have HCU := Hid.mk' (HBY.out.cut q (q + n) c (by omega) (by omega) (Nat.le_refl _) hle)
      have HCO : Hid (∀ k, (Value.slice (if c = q then a else a.map (fun x => x.add q)) (q + n - q) (c - q)).ownBlock = some k → k < B) := fun k hk => HOW.out k ((own_cut _ _ _ _ _ _ _).symm.trans hk)
      rw [show q + n - q = n by omega] at HCU HCO hsl
      generalize (if c = q then a else a.map (fun x => x.add q)) = a5 at *
      have hq7 : (q : Int) ≤ 72000 := by omega
      clear hq hgood
      go_enter Try.func63, Try.ntmps63
      go_upto_region 1 with fail
      refine wp_region_later (x0 := Later.start w) (by kernel_rfl) (by kernel_rfl) ?_
      repeat (go_big_quiet_step (fail))
      refine wpQuiet_nil ?_
      rintro w' ⟨x9, rfl⟩
      have HR9 := Hid.mk' (HR.out.later x9.below HR.out.lt)
      have HX9 : Hid (Exc (· = g) w x9.1) := Exc.of_below x9.below rfl
      have c1 := HR9.out.cell 1
      have f1 := HR9.out.froz 1
      clear l0 l1 l2 this
      go_upto_region 5 with fail
      refine on_W (motive := fun W => Code.wp _ _ _ _ W) (Q := fun W => Row W g #[.slice a L.length c, .int .i64 ((q : Int) + (n : Int)), .bool false] 77 ∧ Exc (· = g) w W) ⟨HR9.out.put (i := 1) (.int .i64 ((q : Int) + (n : Int))), HX9.out.set g 1 _ rfl⟩ ?_
      rintro W1 ⟨p1, p2⟩
      have HR1 := Hid.mk' p1
      have HX1 := Hid.mk' p2
      have := later_nonempty W1
      have l0 := later_atK p1.lt (p1.cell 0)
      have l1 := later_atK p1.lt (p1.cell 1)
      clear p1 p2 c1 f1 HR9 HX9
      refine wp_region_later (x0 := Later.start W1) (by kernel_rfl) (by kernel_rfl) ?_
      repeat (go_big_quiet_step (fail))
      refine wpQuiet_nil ?_
      rintro w' ⟨x8, rfl⟩
      clear l0 l1 this hsl
      go_wp2
      go_ret
      have hx : Exc (· = g) w x8.1 := HX1.out.trans (Exc.of_below x8.below rfl)
      have hbx : ∀ {v : Value} {l : List Int}, Byt w v l → (∀ k, v.ownBlock = some k → k < B) → Byt x8.1 v l := fun {v l} h ho => h.exc hx (fun k off n' c' e hk => by have := ho k (by rw [e]; rfl); omega)
      refine ⟨.slice a5 n (c - q), (L.drop q).take n, rfl, ⟨hbx HCU.out HCO.out, fun k hk => .inl (HCO.out k hk)⟩, by simp; omega, allB_take (allB_drop HAL.out q) n, (fun _ => rfl), ⟨hbg, HAL.out, a, c, (q : Int) + (n : Int), ?_, hbx HBY.out HOW.out, h72, HOW.out, (fun _ => by simp), by omega, by omega⟩, hx⟩
      rw [HBF.out]
      exact HR1.out.later x8.below HR1.out.lt
end Go.Proofs.Ytgblpjkpeihpeaa
namespace Go.Proofs.Ytgblpjkpeihpeaa
set_option linter.unusedVariables false
set_option maxRecDepth 100000
open Go.ChangeShapes Go.WideShapes Go.ChangeAt Go.RowKit Go.Deep
def NumR (B : Nat) (w : World) (g : Nat) (L : List Int) (q : Nat) (b : Bool) (n : Nat) (e : Ending) (w' : World) : Prop :=
  ∃ N : Nat, e = .returned (u64V N) ∧ N < 256 ^ n ∧ (bd b L (q + n) = false → N = nv L q n) ∧ Rrd B w' g L (q + n) b ∧ Exc (· = g) w w'
theorem tkN_front (l : List Int) : ∀ m, tkN l (m + 1) = (l.getD 0 0).toNat + 256 * tkN (l.drop 1) m
  | 0 => by simp [tkN]
  | m + 1 => by
    rw [tkN, tkN_front l m, tkN]
    have e : (l.drop 1).getD m 0 = l.getD (m + 1) 0 := by simp
    rw [e, Nat.pow_succ, Nat.mul_add, Nat.add_assoc]
    congr 2
    rw [Nat.mul_comm 256, Nat.mul_assoc]
theorem tkN_top {M : List Int} {n k : Nat} (hk : 0 < k) (hkn : k ≤ n) : tkN (M.drop (k - 1)) (n - (k - 1)) = (M.getD (k - 1) 0).toNat + 256 * tkN (M.drop k) (n - k) := by
  rw [show n - (k - 1) = (n - k) + 1 by omega, tkN_front, List.drop_drop, show k - 1 + 1 = k by omega]
  congr 2
  simp [List.getElem?_drop]
theorem pow_7 {v k n : Nat} (h : v < 256 ^ (n - k)) (hk : 0 < k) (hn : n ≤ 8) : v < 72057594037927936 := by
  refine Nat.lt_of_lt_of_le h ?_
  rw [show (72057594037927936 : Nat) = 256 ^ 7 from rfl]
  exact Nat.pow_le_pow_right (by omega) (by omega)
set_option maxHeartbeats 2000000 in
theorem rnum_c {B : Nat} {w : World} {g : Nat} {L : List Int} {q : Nat} {b : Bool} (h : Rrd B w g L q b) (n : Nat) (h8 : n ≤ 8) :
    Calls Try.prog 60 #[.pointer (some ⟨g, 0, none⟩), .int .i64 (n : Int)] w fun e w' => NumR B w g L q b n e w' := by
  have HS := Hid.mk' (take_c h n (by omega))
  have h8' : (n : Int) ≤ 8 := by omega
  clear h
  go_enter Try.func60, Try.ntmps60
  go_wp2_with (go_at_call 63; refine HS.out.mono ?_; rintro e w1 ⟨u, M, rfl, hcut, hlen, hall, hgood, hprd, hexc⟩; obtain ⟨xa, xn, xc, rfl⟩ := hcut.1.sl; have HC := Hid.mk' hcut.1; have HL := Hid.mk' hlen; have HA := Hid.mk' hall; have HG := Hid.mk' hgood; have HP := Hid.mk' hprd; have HX := Hid.mk' hexc; clear hcut hlen hall hgood hprd hexc)
  have hxn : xn = n := by obtain ⟨_, _, e, _⟩ := HC.out; cases e; exact HL.out
  subst hxn
  go_loopw [6, 7] (fun s i wr => ∃ k : Nat, k ≤ xn ∧ i = .int .i64 ((k : Int) - 1) ∧ s = .int .u64 ((tkN (M.drop k) (xn - k) : Nat) : Int) ∧ wr = w1) (fun _ i _ => (intOf i + 1).toNat)
  case atStart => exact ⟨xn, Nat.le_refl _, by go_num, by simp [tkN], rfl⟩
  case round =>
    obtain ⟨k, hk, rfl, rfl, rfl⟩ := hrel
    have hvl := tkN_lt (l := M.drop k) (allB_drop HA.out k) (xn - k)
    by_cases hk0 : k = 0
    · subst hk0
      have HV := Hid.mk' hvl
      rw [List.drop_zero, Nat.sub_zero] at HV ⊢
      generalize hT : tkN M xn = T at *
      have HT := Hid.mk' hT
      clear hT hvl
      go_wp2
      go_ret
      refine ⟨T, rfl, HV.out, fun e => ?_, HP.out, HX.out⟩
      rw [← HT.out, HG.out e]
      unfold nv
      exact tkN_take _ _ _ (Nat.le_refl _)
    · obtain ⟨j, rfl⟩ : ∃ j, k = j + 1 := ⟨k - 1, by omega⟩
      have h7 := pow_7 hvl (by omega) h8
      have ht := tkN_top (M := M) (k := j + 1) (by omega) hk
      rw [show j + 1 - 1 = j by omega] at ht
      obtain ⟨_, cap, e, hc1, _, hcell⟩ := HC.out
      cases e
      obtain ⟨gg, off, rfl, hgl, hcc⟩ := hcell (fun e => by have h0 : M.length = 0 := List.length_eq_zero_iff.2 e; omega)
      have cS := hcc j (by omega)
      obtain ⟨hb0, hb1⟩ := getD_byte HA.out j
      have hkl : (j : Int) < ((M.length : Nat) : Int) := by omega
      have hkl2 : j < M.length := by omega
      rw [show (((j + 1 : Nat) : Int) - 1) = (j : Int) by omega]
      have HT := Hid.mk' ht
      generalize tkN (M.drop (j + 1)) (M.length - (j + 1)) = T at *
      have h7' : (T : Int) < 72057594037927936 := by omega
      generalize hx : M.getD j 0 = x at *
      have HGS := Hid.mk' (show (((x.toNat + 256 * T : Nat)) : Int) = (T : Int) * 256 + x from by omega)
      clear hx ht hvl hcc hcell
      generalize hML : M.length = m at *
      go_wp2
      exact ⟨⟨j, by omega, rfl, by rw [HT.out, HGS.out], trivial⟩, by simp only [intOf]; omega⟩
/-- A flag's answer. -/
def FlgR (B : Nat) (w : World) (g : Nat) (L : List Int) (q : Nat) (b : Bool) (e : Ending) (w' : World) : Prop :=
  ∃ f : Bool, e = .returned (.bool f) ∧ (bd (b || decide (1 < nv L q 1)) L (q + 1) = false → f = (nv L q 1 == 1)) ∧ Rrd B w' g L (q + 1) (b || decide (1 < nv L q 1)) ∧ Exc (· = g) w w'
theorem Rrd.turn {B : Nat} {w : World} {g : Nat} {L : List Int} {q : Nat} {b b' : Bool} (h : Rrd B w g L q b) (hc : bd b' L q = bd b L q) : Rrd B w g L q b' := by
  obtain ⟨hbg, hall, a, c, p, h1, h2, h3, h4, h5, h6⟩ := h
  exact ⟨hbg, hall, a, c, p, by rw [hc]; exact h1, h2, h3, h4, fun e => h5 (by rw [hc] at e; exact e), h6⟩
theorem Rrd.set {B : Nat} {w : World} {g : Nat} {L : List Int} {q : Nat} {b b' : Bool} {q' : Nat} (h : Rrd B w g L q b) (hc : bd b' L q' = true) : Rrd B (w.setCell ⟨g, 2, none⟩ (.bool true)) g L q' b' := by
  obtain ⟨hbg, hall, a, c, p, h1, h2, h3, h4, h5, h6⟩ := h
  refine ⟨hbg, hall, a, c, p, ?_, h2.exc ((Exc.refl (· = g) w).set g 2 _ rfl) (fun k off n' c' e => by have := h4 k (by rw [e]; rfl); intro q2; have q3 : k = g := q2; omega), h3, h4, (fun e => by rw [hc] at e; cases e), h6⟩
  rw [hc]; exact h1.put (i := 2) (.bool true)
set_option maxHeartbeats 1000000 in
theorem rflag_c {B : Nat} {w : World} {g : Nat} {L : List Int} {q : Nat} {b : Bool} (h : Rrd B w g L q b) :
    Calls Try.prog 61 #[.pointer (some ⟨g, 0, none⟩)] w fun e w' => FlgR B w g L q b e w' := by
  have HN := Hid.mk' (rnum_c h 1 (by omega))
  clear h
  go_enter Try.func61, Try.ntmps61
  go_upto_region 2 with (go_at_call 60; refine HN.out.mono ?_; rintro e w1 ⟨N, rfl, h1, h2, h3, h4⟩; have H1 := Hid.mk' h1; have H2 := Hid.mk' h2; have H3 := Hid.mk' h3; have H4 := Hid.mk' h4; have hb : (N : Int) < 256 := (by omega); clear h1 h2 h3 h4; unfold u64V)
  by_cases hN : 1 < N
  · have hN2 : (1 : Int) < (N : Int) := by omega
    have HBT : Hid (bd (b || decide (1 < nv L q 1)) L (q + 1) = true) := by
      unfold Hid
      rw [bd_more]
      cases e : bd b L (q + 1) with
      | true => rfl
      | false => rw [← H2.out e]; simp [hN]
    have hne : ¬ (N : Int) = 1 := by omega
    obtain ⟨_, _, a, c', p, hr, _⟩ := H3.out
    have c1 := hr.cell 2
    have f1 := hr.froz 2
    generalize bd b L (q + 1) = bb at *
    clear hr hN
    go_wp2
    go_ret
    exact ⟨_, rfl, (fun e => by rw [HBT.out] at e; cases e), H3.out.set HBT.out, H4.out.set g 2 _ rfl⟩
  · have hN2 : ¬ (1 : Int) < (N : Int) := by omega
    have HBE : Hid (bd (b || decide (1 < nv L q 1)) L (q + 1) = bd b L (q + 1)) := by
      unfold Hid
      rw [bd_more]
      cases e : bd b L (q + 1) with
      | true => rfl
      | false => rw [← H2.out e]; simp [hN]
    clear hN
    go_wp2
    go_ret
    refine ⟨_, rfl, (fun e => ?_), H3.out.turn HBE.out, H4.out⟩
    rw [HBE.out] at e
    have := H2.out e
    rw [← this]
    by_cases h1 : N = 1
    · subst h1; rfl
    · have e1 : (N == 1) = false := by simpa using h1
      rw [e1]
      simp
      omega
end Go.Proofs.Ytgblpjkpeihpeaa
namespace Go.Proofs.Ytgblpjkpeihpeaa
set_option linter.unusedVariables false
set_option maxRecDepth 100000
open Go.ChangeShapes Go.WideShapes Go.ChangeAt Go.RowKit Go.Deep
/-- A list's answer: new bytes. -/
def LstR (B : Nat) (w : World) (g : Nat) (L : List Int) (q : Nat) (b : Bool) (size most : Nat) (e : Ending) (w' : World) : Prop :=
  ∃ u M', e = .returned u ∧ (Byt w' u M' ∧ ∀ k, u.ownBlock = some k → w.heap.size ≤ k) ∧ M'.length ≤ most ∧ AllB M' ∧ (bd (b || decide (most < nv L q size)) L (q + size + nv L q size) = false → M' = (L.drop (q + size)).take (nv L q size)) ∧
    Rrd B w' g L (q + size + nv L q size) (b || decide (most < nv L q size)) ∧ Exc (· = g) w w'
theorem Rrd.step {B : Nat} {w : World} {g : Nat} {L : List Int} {q q' : Nat} {b b' : Bool} (h : Rrd B w g L q b) (hc : bd b' L q' = bd b L q) (hq : bd b L q = false → q' = q) : Rrd B w g L q' b' := by
  obtain ⟨hbg, hall, a, c, p, h1, h2, h3, h4, h5, h6⟩ := h
  exact ⟨hbg, hall, a, c, p, by rw [hc]; exact h1, h2, h3, h4, fun e => by rw [hc] at e; rw [hq e]; exact h5 e, h6⟩
set_option maxHeartbeats 4000000 in
theorem rlist_c {B : Nat} {w : World} {g : Nat} {L : List Int} {q : Nat} {b : Bool} (h : Rrd B w g L q b) (size most : Nat) (hs : size ≤ 2) (hm : most ≤ 65536) :
    Calls Try.prog 62 #[.pointer (some ⟨g, 0, none⟩), .int .i64 (size : Int), .int .i64 (most : Int)] w fun e w' => LstR B w g L q b size most e w' := by
  have HN := Hid.mk' (rnum_c h size (by omega))
  have hbg : B ≤ g := h.bg
  have hpw : 256 ^ size ≤ 65536 := by
    match size, hs with
    | 0, _ => decide
    | 1, _ => decide
    | 2, _ => decide
  clear h
  go_enter Try.func62, Try.ntmps62
  go_upto_region 2 with (go_at_call 60; refine HN.out.mono ?_; rintro e w1 ⟨N, rfl, h1, h2, h3, h4⟩; have H2 := Hid.mk' h2; have H3 := Hid.mk' h3; have H4 := Hid.mk' h4; have hb : (N : Int) < 65536 := (by omega); clear h1 h2 h3 h4; unfold u64V)
  by_cases hN : most < N
  · have hN2 : (most : Int) < (N : Int) := by omega
    have HBT : Hid (bd (b || decide (most < nv L q size)) L (q + size + nv L q size) = true) := by
      unfold Hid
      cases e : bd b L (q + size) with
      | true => rw [bd_more, bd_of e (by omega)]; rfl
      | false => rw [bd_more, ← H2.out e]; simp [hN]
    obtain ⟨_, _, a, c', p, hr, _⟩ := H3.out
    have c1 := hr.cell 2
    have f1 := hr.froz 2
    generalize bd b L (q + size) = bb at *
    clear hr hN hpw
    go_wp2
    go_ret
    exact ⟨_, [], rfl, ⟨Byt.nil _, fun k hk => by cases hk⟩, Nat.zero_le _, (fun x hx => by cases hx), (fun e => by rw [HBT.out] at e; cases e), H3.out.set HBT.out, H4.out.set g 2 _ rfl⟩
  · have hN2 : ¬ (most : Int) < (N : Int) := by omega
    have HBE : Hid (bd b L (q + size) = false → N = nv L q size) := H2.out
    have HSC := Hid.mk' (take_c H3.out N (by omega))
    have HX2 := Hid.mk' H4.out
    clear H2 H3 H4 hpw
    go_upto_region 6 with (go_at_call 63; refine HSC.out.mono ?_; rintro e w3 ⟨u, M', rfl, hcut, hlen, hall, hgood, hprd, hexc⟩; obtain ⟨xa, xn, xc, rfl⟩ := hcut.1.sl; have HC := Hid.mk' hcut; have HL := Hid.mk' hlen; have HA := Hid.mk' hall; have HG := Hid.mk' hgood; have HP := Hid.mk' hprd; have HX := Hid.mk' hexc; clear hcut hlen hall hgood hprd hexc)
    have HW : Hid ((w3.alloc (.cells #[] 5)).ownsRow w3.heap.size 5 1 (.slice (some ⟨w3.heap.size, 0, none⟩) 0 0) 0 (bv [])) := World.ownsRow_made w3 #[] 0 (Nat.le_refl _) (Nat.zero_le _) rfl
    have HBa : Hid (Byt (w3.alloc (.cells #[] 5)) (.slice xa xn xc) M') := HC.out.1.later (below_al _ _) rfl
    have e3 : Hid (Exc (· = g) w w3) := HX2.out.trans HX.out
    go_wp2_with (at_builtin; go_loud (refine appL (by rfl) _ _ (by rfl) w3.heap.size _ _ [] M' (by rfl) HW.out (by rfl) HBa.out (by have := HL.out; simp; omega) (by simp) ?_; intro v0 x0 hown hg; obtain ⟨xa0, ya0, za0, rfl⟩ := own_one hown; have HXX := Hid.mk' (((Below.refl w3.heap.size w3).alloc (Nat.le_refl _) (.cells #[] 5)).grown hg (by simp) (fun k hk => by cases hk; exact Nat.le_refl _)); have HO := Hid.mk' hown; clear hown hg))
    go_ret
    have hq : bd (b || decide (most < nv L q size)) L (q + size + nv L q size) = bd b L (q + size + N) := by
      cases e : bd b L (q + size) with
      | true => rw [bd_more, bd_of e (by omega), bd_of e (by omega)]; rfl
      | false => rw [bd_more, ← HBE.out e]; simp [hN]
    have hq2 : bd b L (q + size + N) = false → q + size + nv L q size = q + size + N := fun e => by rw [← HBE.out (bd_q (by omega) e)]
    refine ⟨_, M', rfl, ⟨by have := Byt.of_own HO.out; simpa using this, fun k hk => Nat.le_trans e3.out.size (World.ownsRow.lt HO.out k hk).1⟩, by rw [HL.out]; omega, HA.out, (fun e => ?_), (HP.out.later HXX.out).step hq hq2, e3.out.trans (Exc.of_below HXX.out rfl)⟩
    rw [hq] at e
    rw [HG.out e, ← HBE.out (bd_q (by omega) e)]
end Go.Proofs.Ytgblpjkpeihpeaa
