/-
  Layer 17 (gdb): a body as its bytes come; Unpack of the program.
-/
import Derived.Test.YtfenllkkbgkdnaaDoorGk
namespace Go.Proofs.YtfenllkkbgkdnaaDoor
set_option linter.unusedVariables false
set_option maxRecDepth 100000
open Go.ChangeShapes Go.WideShapes Go.ChangeAt Go.RowKit Go.Deep
def xv (c : Int) : Int := bits .xor .u8 c 32
/-- What a body stands for, byte by byte: is the next one to be turned; what came. -/
def stp (p : Bool × List Int) (c : Int) : Bool × List Int := if p.1 then (false, p.2 ++ [xv c]) else if c = 125 then (true, p.2) else (false, p.2 ++ [c])
def stF (m : List Int) : Bool × List Int := m.foldl stp (false, [])
theorem stF_app (m : List Int) (c : Int) : stF (m ++ [c]) = stp (stF m) c := by unfold stF; rw [List.foldl_append]; rfl
theorem smN_app (m : List Int) (c : Int) : smN (m ++ [c]) = (smN m + c) % 256 := by unfold smN; rw [List.sum_append]; simp
def bdc (s : Int) (v : Value) (h lg : Bool) : Array Value := #[.int .u8 s, v, .bool h, .bool lg]
/-- A body at block g, its bytes of one's own above B. -/
structure Bdr (B : Nat) (w : World) (g : Nat) (s : Int) (h lg : Bool) (b : List Int) : Prop where
  st : ∃ v, Row w g (bdc s v h lg) 37 ∧ Owb B w v b ∧ v.ownBlock ≠ some g
  bg : B ≤ g
theorem row_apart {B g : Nat} {w : World} {v : Value} {b : List Int} {cs : Array Value} (ho : Owb B w v b) (hr : Row w g cs 37) : v.ownBlock ≠ some g := fun e => by
  obtain ⟨c, fz, h2⟩ := Go.Lib.ownsRow_kind ho g e
  have h3 : w.heap[g]? = some (.cells cs 37 (0, 0)) := hr
  rw [h2] at h3
  simp at h3
theorem lenv {w : World} {B : Nat} {v : Value} {b : List Int} (h : Owb B w v b) : ∃ a c, v = .slice a b.length c := by
  obtain ⟨a, c, e, _⟩ := (Byt.of_own h).len
  exact ⟨a, c, e⟩
set_option maxHeartbeats 4000000 in
theorem keep_c {B g : Nat} {w : World} {s : Int} {h lg : Bool} {b : List Int} (hb : Bdr B w g s h lg b) (x : Int) (hB : B ≤ w.heap.size) (hl : b.length ≤ 1000) :
    Calls Tryd.prog 19 #[.pointer (some ⟨g, 0, none⟩), .int .u8 x] w fun e w' => e = .returned (.tuple #[]) ∧ Bdr B w' g s h (if b.length = 1000 then true else lg) (if b.length = 1000 then b else b ++ [x]) ∧ Below B w w' := by
  obtain ⟨v, hr, ho, hne⟩ := hb.st
  have hbg := hb.bg
  obtain ⟨av, cv, rfl⟩ := lenv ho
  have c1 : w.cell? ⟨g, 1, none⟩ = some (.slice av b.length cv) := hr.cell 1
  have f3 := hr.froz 3
  have c3 : w.cell? ⟨g, 3, none⟩ = some (.bool lg) := hr.cell 3
  have HR := Hid.mk' hr
  have HO := Hid.mk' ho
  by_cases hn : b.length = 1000
  · have HF : Hid (Bdr B (w.setCell ⟨g, 3, none⟩ (.bool true)) g s h (if b.length = 1000 then true else lg) (if b.length = 1000 then b else b ++ [x]) ∧ Below B w (w.setCell ⟨g, 3, none⟩ (.bool true))) := by
      rw [if_pos hn, if_pos hn]
      exact ⟨⟨⟨_, HR.out.put (i := 3) (.bool true), own_exc HO.out ((Exc.refl (· = g) w).set g 3 _ rfl) (fun k hk e => by have e2 : k = g := e; rw [e2] at hk; exact hne hk), hne⟩, hbg⟩, Below.setCell (Below.refl _ _) hbg _⟩
    have hq : ((b.length : Int) == 1000) = true := by simp; omega
    generalize b.length = n at *
    obtain rfl := hn
    clear ho hr hb
    go_enter Tryd.func19, Tryd.ntmps19
    go_wp2
    refine bodyPost_ret (results_none rfl _ _ _) rfl ?_
    exact ⟨rfl, HF.out⟩
  · have HF : Hid (∀ v' w1, Owb B w1 v' (b ++ [x]) → Fr B w w1 → Bdr B (w1.setCell ⟨g, 1, none⟩ v') g s h (if b.length = 1000 then true else lg) (if b.length = 1000 then b else b ++ [x]) ∧ Below B w (w1.setCell ⟨g, 1, none⟩ v')) := fun v' w1 ho1 hf1 => by
      rw [if_neg hn, if_neg hn]
      have hr1 : Row w1 g (bdc s (.slice av b.length cv) h lg) 37 := HR.out.fr hf1 (by decide)
      have hne1 := row_apart ho1 hr1
      exact ⟨⟨⟨v', hr1.put (i := 1) v', own_exc ho1 ((Exc.refl (· = g) w1).set g 1 _ rfl) (fun k hk e => by have e2 : k = g := e; rw [e2] at hk; exact hne1 hk), hne1⟩, hbg⟩, Below.setCell hf1.b hbg _⟩
    have HC : Hid (∀ w1, Fr B w w1 → w1.cell? ⟨g, 1, none⟩ = some (.slice av b.length cv) ∧ w1.frozen? ⟨g, 1, none⟩ = false) := fun w1 hf1 => by
      have hr1 : Row w1 g (bdc s (.slice av b.length cv) h lg) 37 := HR.out.fr hf1 (by decide)
      exact ⟨hr1.cell 1, hr1.froz 1⟩
    have hq : ((b.length : Int) == 1000) = false := by simp; omega
    have HN : Hid (b.length ≤ 1000) := hl
    have HBW := Hid.mk' hB
    obtain ⟨n, hn'⟩ : ∃ n, n = b.length := ⟨_, rfl⟩
    have HNN := Hid.mk' hn'
    rw [if_neg hn, if_neg hn]
    rw [if_neg hn, if_neg hn] at HF
    rw [← hn'] at c1 hq HC
    clear ho hr hb hn hl hn' c3 f3
    have hf1' := HR.out.froz 1
    go_enter Tryd.func19, Tryd.ntmps19
    go_wp2_with (at_builtin; refine appN (by rfl) _ _ (by rfl) B _ b [x] (by simp [Act.eval, HNN.out]) HO.out _ 1 (by rfl) (by rfl) (by simp) (by have := HN.out; simp; omega) HBW.out ?_; intro v' w1 ho1 hf1; obtain ⟨d1, e1⟩ := HC.out w1 hf1; have HE := Hid.mk' (HF.out v' w1 ho1 hf1); obtain ⟨a9, c9, e9⟩ := lenv ho1; obtain ⟨n9, hn9⟩ : ∃ n, n = (b ++ [x]).length := ⟨_, rfl⟩; rw [← hn9] at e9; clear hn9; subst e9; clear ho1 hf1)
    go_end0
    exact ⟨rfl, HE.out⟩
theorem xv_bd (c : Int) : 0 ≤ xv c ∧ xv c ≤ 255 := ⟨bits_lo_u8 .xor c 32, bits_hi_u8 .xor c 32⟩
/-- A body that has taken the bytes m. -/
def Bdm (B : Nat) (w : World) (g : Nat) (m : List Int) : Prop := Bdr B w g (smN m) (stF m).1 (decide (1000 < (stF m).2.length)) ((stF m).2.take 1000)
theorem take_grow (o : List Int) (x : Int) : (if (o.take 1000).length = 1000 then o.take 1000 else o.take 1000 ++ [x]) = (o ++ [x]).take 1000 ∧ (if (o.take 1000).length = 1000 then true else decide (1000 < o.length)) = decide (1000 < (o ++ [x]).length) := by
  rw [List.length_take, List.length_append]
  by_cases h : 1000 ≤ o.length
  · rw [if_pos (by omega), if_pos (by omega), List.take_append_of_le_length h]
    exact ⟨rfl, by simp; omega⟩
  · rw [if_neg (by omega), if_neg (by omega), List.take_of_length_le (by omega), List.take_of_length_le (by simp; omega)]
    refine ⟨rfl, ?_⟩
    rw [show decide (1000 < o.length) = false by simp; omega, eq_comm]
    simp
    omega
theorem Bdr.set0 {B g : Nat} {w : World} {s : Int} {h lg : Bool} {b : List Int} (hb : Bdr B w g s h lg b) (s' : Int) : Bdr B (w.setCell ⟨g, 0, none⟩ (.int .u8 s')) g s' h lg b := by
  obtain ⟨⟨v, h1, h2, h3⟩, h4⟩ := hb
  exact ⟨⟨v, h1.put (i := 0) (.int .u8 s'), own_exc h2 ((Exc.refl (· = g) w).set g 0 _ rfl) (fun k hk e => by have e2 : k = g := e; rw [e2] at hk; exact h3 hk), h3⟩, h4⟩
theorem Bdr.set2 {B g : Nat} {w : World} {s : Int} {h lg : Bool} {b : List Int} (hb : Bdr B w g s h lg b) (h' : Bool) : Bdr B (w.setCell ⟨g, 2, none⟩ (.bool h')) g s h' lg b := by
  obtain ⟨⟨v, h1, h2, h3⟩, h4⟩ := hb
  exact ⟨⟨v, h1.put (i := 2) (.bool h'), own_exc h2 ((Exc.refl (· = g) w).set g 2 _ rfl) (fun k hk e => by have e2 : k = g := e; rw [e2] at hk; exact h3 hk), h3⟩, h4⟩
theorem Bdr.cells {B g : Nat} {w : World} {s : Int} {h lg : Bool} {b : List Int} (hb : Bdr B w g s h lg b) : (w.cell? ⟨g, 0, none⟩ = some (.int .u8 s) ∧ w.cell? ⟨g, 2, none⟩ = some (.bool h) ∧ w.cell? ⟨g, 3, none⟩ = some (.bool lg)) ∧ ∀ i, w.frozen? ⟨g, i, none⟩ = false := by
  obtain ⟨⟨v, h1, h2, h3⟩, h4⟩ := hb
  exact ⟨⟨h1.cell 0, h1.cell 2, h1.cell 3⟩, h1.froz⟩
set_option maxHeartbeats 4000000 in
theorem join_c {B g : Nat} {w : World} {m : List Int} (hb : Bdm B w g m) (c : Int) (hc : 0 ≤ c ∧ c ≤ 255) (hB : B ≤ w.heap.size) :
    Calls Tryd.prog 12 #[.pointer (some ⟨g, 0, none⟩), .int .u8 c] w fun e w' => e = .returned (.tuple #[]) ∧ Bdm B w' g (m ++ [c]) ∧ Below B w w' := by
  have hbg := hb.bg
  have hgl : g < w.heap.size := by obtain ⟨v, h1, _⟩ := hb.st; exact h1.lt
  have HS := Hid.mk' (Bdr.set0 hb ((smN m + c) % 256))
  have HK : Hid (∀ W x s h lg b, Bdr B W g s h lg b → w.heap.size ≤ W.heap.size → b.length ≤ 1000 → Calls Tryd.prog 19 #[.pointer (some ⟨g, 0, none⟩), .int .u8 x] W fun e w' => e = .returned (.tuple #[]) ∧ Bdr B w' g s h (if b.length = 1000 then true else lg) (if b.length = 1000 then b else b ++ [x]) ∧ Below B W w') := fun W x s h lg b h1 h2 h3 => keep_c h1 x (Nat.le_trans hB h2) h3
  obtain ⟨⟨c0, c2, c3⟩, fz⟩ := Bdr.cells hb
  have f0 := fz 0
  obtain ⟨⟨d0, d2, d3⟩, gz⟩ := Bdr.cells HS.out
  have g2 := gz 2
  have HB0 : Hid (Below B w (w.setCell ⟨g, 0, none⟩ (.int .u8 ((smN m + c) % 256)))) := Below.setCell (Below.refl _ _) hbg _
  have HW0 : Hid (w.heap.size ≤ (w.setCell ⟨g, 0, none⟩ (.int .u8 ((smN m + c) % 256))).heap.size) := (by unfold Hid; simp)
  have HM : Hid (∀ W, Bdr B W g ((smN m + c) % 256) (stp (stF m) c).1 (decide (1000 < (stp (stF m) c).2.length)) ((stp (stF m) c).2.take 1000) → Bdm B W g (m ++ [c])) := fun W h => by unfold Bdm; rw [stF_app, smN_app]; exact h
  obtain ⟨sb0, sb1⟩ := smN_bd m
  have HTL : Hid (((stF m).2.take 1000).length ≤ 1000) := (by unfold Hid; rw [List.length_take]; omega)
  generalize hst : stF m = st at *
  obtain ⟨hf, o⟩ := st
  generalize smN m = sm at *
  clear hb fz gz hst
  cases hf with
  | true =>
    have HGO : Hid (∀ W, Bdr B W g ((sm + c) % 256) false (if (o.take 1000).length = 1000 then true else decide (1000 < o.length)) (if (o.take 1000).length = 1000 then o.take 1000 else o.take 1000 ++ [xv c]) → Bdm B W g (m ++ [c])) := fun W h => by
      obtain ⟨q1, q2⟩ := take_grow o (xv c)
      rw [q1, q2] at h
      exact HM.out W h
    have HKX : Hid (Calls Tryd.prog 19 #[.pointer (some ⟨g, 0, none⟩), .int .u8 (bits .xor .u8 c 32)] ((w.setCell ⟨g, 0, none⟩ (.int .u8 ((sm + c) % 256))).setCell ⟨g, 2, none⟩ (.bool false)) fun e w' => e = .returned (.tuple #[]) ∧ Bdr B w' g ((sm + c) % 256) false (if (o.take 1000).length = 1000 then true else decide (1000 < o.length)) (if (o.take 1000).length = 1000 then o.take 1000 else o.take 1000 ++ [xv c]) ∧ Below B ((w.setCell ⟨g, 0, none⟩ (.int .u8 ((sm + c) % 256))).setCell ⟨g, 2, none⟩ (.bool false)) w') := HK.out _ _ _ _ _ _ (HS.out.set2 false) (by simp) HTL.out
    have HB1 : Hid (Below B w ((w.setCell ⟨g, 0, none⟩ (.int .u8 ((sm + c) % 256))).setCell ⟨g, 2, none⟩ (.bool false))) := Below.setCell HB0.out hbg _
    clear HM HS HK
    go_enter Tryd.func12, Tryd.ntmps12
    go_wp2_with (go_at_call 19; refine HKX.out.mono ?_; rintro e W1 ⟨rfl, h1, h2⟩; have HE1 := Hid.mk' (HGO.out _ h1); have HE2 := Hid.mk' (HB1.out.trans h2); clear h1 h2)
    go_end0
    exact ⟨rfl, HE1.out, HE2.out⟩
  | false =>
    by_cases h125 : c = 125
    · subst h125
      have HE : Hid (Bdm B ((w.setCell ⟨g, 0, none⟩ (.int .u8 ((sm + 125) % 256))).setCell ⟨g, 2, none⟩ (.bool true)) g (m ++ [125])) := HM.out _ (HS.out.set2 true)
      have HB1 : Hid (Below B w ((w.setCell ⟨g, 0, none⟩ (.int .u8 ((sm + 125) % 256))).setCell ⟨g, 2, none⟩ (.bool true))) := Below.setCell HB0.out hbg _
      clear HM HS HK
      go_enter Tryd.func12, Tryd.ntmps12
      go_wp2
      go_end0
      exact ⟨rfl, HE.out, HB1.out⟩
    · have HGO : Hid (∀ W, Bdr B W g ((sm + c) % 256) false (if (o.take 1000).length = 1000 then true else decide (1000 < o.length)) (if (o.take 1000).length = 1000 then o.take 1000 else o.take 1000 ++ [c]) → Bdm B W g (m ++ [c])) := fun W h => by
        obtain ⟨q1, q2⟩ := take_grow o c
        rw [q1, q2] at h
        refine HM.out W ?_
        unfold stp
        rw [if_neg (by simp), if_neg h125]
        exact h
      have HKX : Hid (Calls Tryd.prog 19 #[.pointer (some ⟨g, 0, none⟩), .int .u8 c] (w.setCell ⟨g, 0, none⟩ (.int .u8 ((sm + c) % 256))) fun e w' => e = .returned (.tuple #[]) ∧ Bdr B w' g ((sm + c) % 256) false (if (o.take 1000).length = 1000 then true else decide (1000 < o.length)) (if (o.take 1000).length = 1000 then o.take 1000 else o.take 1000 ++ [c]) ∧ Below B (w.setCell ⟨g, 0, none⟩ (.int .u8 ((sm + c) % 256))) w') := HK.out _ _ _ _ _ _ HS.out (by simp) HTL.out
      have r125 : (c == 125) = false := by simp [h125]
      clear HM HS HK h125
      go_enter Tryd.func12, Tryd.ntmps12
      go_wp2_with (go_at_call 19; refine HKX.out.mono ?_; rintro e W1 ⟨rfl, h1, h2⟩; have HE1 := Hid.mk' (HGO.out _ h1); have HE2 := Hid.mk' (HB0.out.trans h2); clear h1 h2)
      go_end0
      exact ⟨rfl, HE1.out, HE2.out⟩
def plE (m : List Int) : Int := if (stF m).1 then 1 else if 1000 < (stF m).2.length then 3 else 0
def plB (m : List Int) : List Int := if (stF m).1 then [] else if 1000 < (stF m).2.length then [] else (stF m).2
set_option maxHeartbeats 4000000 in
theorem payload_c {B g : Nat} {w : World} {m : List Int} (hb : Bdm B w g m) :
    Calls Tryd.prog 13 #[.pointer (some ⟨g, 0, none⟩)] w fun e w' => (∃ u, e = .returned (.tuple #[u, .int .i64 (plE m)]) ∧ Byt w u (plB m)) ∧ w' = w := by
  obtain ⟨⟨c0, c2, c3⟩, fz⟩ := Bdr.cells hb
  obtain ⟨v, h1, h2, h3⟩ := hb.st
  have c1 : w.cell? ⟨g, 1, none⟩ = some v := h1.cell 1
  obtain ⟨av, cv, rfl⟩ := lenv h2
  have HY := Hid.mk' (Byt.of_own h2)
  unfold plE plB
  generalize (stF m).1 = hf at *
  generalize (stF m).2 = o at *
  clear hb fz h1 h2 h3
  cases hf with
  | true =>
    rw [if_pos rfl, if_pos rfl]
    clear HY
    generalize (List.take 1000 o).length = n at *
    go_enter Tryd.func13, Tryd.ntmps13
    go_wp2
    go_ret2
    exact ⟨⟨_, rfl, Byt.nil _⟩, rfl⟩
  | false =>
    simp only [Bool.false_eq_true, if_false]
    by_cases hl : 1000 < o.length
    · simp only [hl, if_true]
      have c3' : w.cell? ⟨g, 3, none⟩ = some (.bool true) := by rw [c3]; simp [hl]
      clear HY c3 hl
      generalize (List.take 1000 o).length = n at *
      go_enter Tryd.func13, Tryd.ntmps13
      go_wp2
      go_ret2
      exact ⟨⟨_, rfl, Byt.nil _⟩, rfl⟩
    · simp only [hl, if_false]
      have c3' : w.cell? ⟨g, 3, none⟩ = some (.bool false) := by rw [c3]; simp; omega
      rw [List.take_of_length_le (by omega)] at HY
      have c1' : w.cell? ⟨g, 1, none⟩ = some (.slice av (o.take 1000).length cv) := c1
      rw [List.take_of_length_le (by omega)] at c1'
      clear c3 hl c1
      obtain ⟨n, hn⟩ : ∃ n, n = o.length := ⟨_, rfl⟩
      rw [← hn] at c1' HY
      clear hn
      go_enter Tryd.func13, Tryd.ntmps13
      go_wp2
      go_ret2
      exact ⟨⟨_, rfl, HY.out⟩, rfl⟩
end Go.Proofs.YtfenllkkbgkdnaaDoor
