/-
  Dk.
-/
import Derived.Test.YthmjimmmkoeeoaaDoorM15
import Derived.Test.YthmjimmmkoeeoaaDoorM20
namespace Go.Proofs.YthmjimmmkoeeoaaDoor
set_option linter.unusedVariables false
set_option maxRecDepth 100000
open Go.ChangeShapes Go.WideShapes Go.ChangeAt Go.RowKit Go.Deep Go.Shelf
/-- Elements of four cells in memory, wherever they lie. -/
def Ls4 {α : Type} (E : World → α → Array Value → Prop) (z : α) (w : World) (v : Value) (l : List α) : Prop :=
  ∃ a cap, v = .slice a l.length cap ∧ l.length ≤ cap ∧ (a = none → cap = 0) ∧ (l ≠ [] → ∃ g off, a = some ⟨g, off, none⟩ ∧ g < w.heap.size ∧ ∀ j, j < l.length → ∃ cs, E w (l.getD j z) cs ∧ cs.size = 4 ∧ ∀ i u, cs[i]? = some u → w.cell? ⟨g, off + j * 4 + i, none⟩ = some u)
theorem Ls4.later {α : Type} {E : World → α → Array Value → Prop} {z : α} (hE : ∀ w w' x cs, E w x cs → Below w.heap.size w w' → E w' x cs) {w w' : World} {v : Value} {l : List α} (h : Ls4 E z w v l) (hb : Below w.heap.size w w') : Ls4 E z w' v l := by
  obtain ⟨a, cap, rfl, h1, h1', h2⟩ := h
  refine ⟨a, cap, rfl, h1, h1', fun hn => ?_⟩
  obtain ⟨g, off, rfl, h3, h4⟩ := h2 hn
  refine ⟨g, off, rfl, Nat.lt_of_lt_of_le h3 hb.size, fun j hj => ?_⟩
  obtain ⟨cs, e1, e2, e3⟩ := h4 j hj
  exact ⟨cs, hE _ _ _ _ e1 hb, e2, fun i u hu => by rw [hb.cell h3]; exact e3 i u hu⟩
def sgE (w : World) (p : Pt) (cs : Array Value) : Prop := ∃ v, cs = #[.int .u64 (n64 p.a), .int .u64 (n64 p.s), .int .i64 p.f, v] ∧ Byt w v p.d ∧ AllB p.d
def wdE (w : World) (x : Wd) (cs : Array Value) : Prop := ∃ v, cs = #[.bool x.t, .bool x.e, .bool x.s, v] ∧ Byt w v x.i ∧ AllB x.i
theorem sgE.later (w w' : World) (p : Pt) (cs : Array Value) (h : sgE w p cs) (hb : Below w.heap.size w w') : sgE w' p cs := by
  obtain ⟨v, rfl, h1, h2⟩ := h; exact ⟨v, rfl, h1.later hb rfl, h2⟩
theorem wdE.later (w w' : World) (p : Wd) (cs : Array Value) (h : wdE w p cs) (hb : Below w.heap.size w w') : wdE w' p cs := by
  obtain ⟨v, rfl, h1, h2⟩ := h; exact ⟨v, rfl, h1.later hb rfl, h2⟩
def pt0 : Pt := ⟨0#64, 0#64, 0, []⟩
def wd0 : Wd := ⟨false, false, false, []⟩
abbrev Pts (w : World) (v : Value) (l : List Pt) : Prop := Ls4 sgE pt0 w v l
abbrev Wds (w : World) (v : Value) (l : List Wd) : Prop := Ls4 wdE wd0 w v l
theorem Pts.later {w w' : World} {v : Value} {l : List Pt} (h : Pts w v l) (hb : Below w.heap.size w w') : Pts w' v l := Ls4.later sgE.later h hb
theorem Wds.later {w w' : World} {v : Value} {l : List Wd} (h : Wds w v l) (hb : Below w.heap.size w w') : Wds w' v l := Ls4.later wdE.later h hb
theorem info_sg (a b c d : Value) : (Tryd.prog.info? 46).map (·.size) = some (#[a, b, c, d] : Array Value).size := by show _ = some 4; kernel_rfl
theorem info_wd (a b c d : Value) : (Tryd.prog.info? 48).map (·.size) = some (#[a, b, c, d] : Array Value).size := by show _ = some 4; kernel_rfl
/-- A deck's 86 cells. -/
def dkc (r : Int) (K : Cp) (m : BitVec 64) (v u : Value) : Array Value := #[.int .i64 r] ++ (cpc K ++ #[.int .u64 (n64 m), v, u])
theorem dkc_size (r : Int) (K : Cp) (m : BitVec 64) (v u : Value) : (dkc r K m v u).size = 86 := by unfold dkc; rw [Array.size_append, Array.size_append, cpc_size]; rfl
theorem dkc_r (r : Int) (K : Cp) (m : BitVec 64) (v u : Value) : (dkc r K m v u)[0]? = some (.int .i64 r) := by
  unfold dkc; rw [Array.getElem?_append_left (by show 0 < 1; omega)]; rfl
theorem dkc_hi (r : Int) (K : Cp) (m : BitVec 64) (v u : Value) (j : Nat) : (dkc r K m v u)[1 + j]? = (cpc K ++ #[.int .u64 (n64 m), v, u])[j]? := by
  unfold dkc
  rw [Array.getElem?_append_right (by show 1 ≤ 1 + j; omega)]; congr 1; show 1 + j - 1 = j; omega
theorem dkc_c (r : Int) (K : Cp) (m : BitVec 64) (v u : Value) (j : Nat) (x : Value) (h : (cpc K)[j]? = some x) : (dkc r K m v u)[1 + j]? = some x := by
  have hj : j < (cpc K).size := (Array.getElem?_eq_some_iff.1 h).1
  rw [dkc_hi, Array.getElem?_append_left hj]
  exact h
theorem dkc_e (r : Int) (K : Cp) (m : BitVec 64) (v u : Value) (j : Nat) : (dkc r K m v u)[83 + j]? = (#[.int .u64 (n64 m), v, u] : Array Value)[j]? := by
  rw [show 83 + j = 1 + (82 + j) by omega, dkc_hi, Array.getElem?_append_right (by rw [cpc_size]; omega), cpc_size, Nat.add_sub_cancel_left]
theorem info_dk (r : Int) (K : Cp) (m : BitVec 64) (v u : Value) : (Tryd.prog.info? 35).map (·.size) = some (dkc r K m v u).size := by rw [dkc_size]; kernel_rfl
/-- A line on a page. -/
theorem lnT_snoc (L : List Tx) (a : Tx) : lnT (L ++ [a]) = lnT L ++ a ++ [10] := by rw [lnT_append, lnT_one]; simp
theorem Gp.base {w0 w : World} (h : Gp w0) (b : Below w0.heap.size w0 w) : Gp w := h.next b
theorem Bd.base {T : TypeId} {w0 : World} {b : Nat} {l : Tx} {w : World} (h : Bd T w0.heap.size b l w) {w' : World} (hb : Below w.heap.size w w') : Bd T w0.heap.size b l w' := h.later hb
theorem str_ne {a : Tx} (h : a ≠ []) : (tS a == (⟨#[]⟩ : ByteArray)) = false := by
  show (a.toArray == #[]) = false
  rw [beq_eq_false_iff_ne]; exact fun e => h (by simpa using congrArg Array.toList e)
theorem str_ne2 {a : Tx} (h : a ≠ []) : (tS a).toList.isEmpty = false := by
  rw [Lib.toList_data, tS_list]; cases a with | nil => exact absurd rfl h | cons _ _ => rfl
set_option maxHeartbeats 2000000 in
theorem add_c {B b : Nat} {l : Tx} (xs : List Tx) (g o c : Nat) (w : World) (hP : Bd 63 B b l w) (hc : ∀ (j : Nat) x, xs[j]? = some x → w.cell? ⟨g, o + j, none⟩ = some (.string (tS x))) (hg : g < w.heap.size) (hn : xs.length ≤ 1000) (hcap : xs.length ≤ c) (hl : (jw xs).length ≤ 1000000) (hl2 : l.length ≤ 100000000) :
    Calls Tryd.prog 20 #[.pointer (some ⟨b, 0, none⟩), .slice (some ⟨g, o, none⟩) xs.length c] w fun e w' => e = .returned (.tuple #[]) ∧ Bd 63 B b (l ++ jw xs ++ [10]) w' ∧ Bk B b w w' := by
  have HJ : Hid (∀ w', Below w.heap.size w w' → Calls Tryd.prog 40 #[.slice (some ⟨g, o, none⟩) xs.length c] w' fun e w'' => e = .returned (.string (tS (jw xs))) ∧ Below w'.heap.size w' w'') := fun w' hb => joined_c xs g o c w' (fun j x hx => (hb.cell (p := ⟨g, o + j, none⟩) hg).trans (hc j x hx)) (Nat.lt_of_lt_of_le hg hb.size) hn hcap hl
  have HP : Hid (Bd 63 B b l w) := hP
  have HL : Hid ((jw xs).length ≤ 1000000 ∧ l.length ≤ 100000000) := ⟨hl, hl2⟩
  generalize jw xs = t at HJ HL ⊢
  obtain ⟨s, hs⟩ : ∃ s, s = tS t := ⟨_, rfl⟩
  rw [← hs] at HJ
  have HS : Hid (s = tS t) := hs
  have HB0 : Hid (Below w.heap.size w w.drew) := (Below.refl _ _).drew
  clear hs hc hl hl2 hP hn hcap hg
  go_enter Tryd.func20, Tryd.ntmps20
  go_upto_region 0 with fail
  --@U1
  go_region_with (first
    | (go_at_call 40; refine (HJ.out _ HB0.out).mono ?_; rintro e w1 ⟨rfl, hb⟩; have HB1 : Hid (Below w.heap.size w w1) := HB0.out.trans hb; clear hb)
    | (go_at_call 39; refine ((HP.out.later HB1.out).ws hob_p t _ HS.out (by have := HL.out; omega)).mono ?_; rintro e w2 ⟨⟨u, rfl⟩, h1, h2⟩; have HP2 : Hid (Bd 63 B b (l ++ t) w2) := h1; have HK2 : Hid (Bk B b w w2) := (Bk.of_below HP.out.sz HB1.out).trans h2; clear h1 h2))
  --@U2
  all_goals go_wp2_with (go_at_call 39; refine (HP2.out.ws hob_p [10] _ rfl (by have := HL.out; simp only [List.length_append, List.length_cons, List.length_nil]; omega)).mono ?_; rintro e w3 ⟨⟨u3, rfl⟩, h1, h2⟩; have HP3 : Hid (Bd 63 B b (l ++ t ++ [10]) w3) := h1; have HK3 : Hid (Bk B b w w3) := HK2.out.trans h2; clear h1 h2)
  all_goals go_end0
  all_goals exact ⟨rfl, HP3.out, HK3.out⟩
/-- A line of one word. -/
theorem add1_c {B b : Nat} {l : Tx} (x : Tx) (w : World) (hP : Bd 63 B b l w) (hl : x.length ≤ 1000000) (hl2 : l.length ≤ 100000000) :
    Calls Tryd.prog 20 #[.pointer (some ⟨b, 0, none⟩), .slice (some ⟨w.heap.size, 0, none⟩) 1 1] (w.alloc (.cells #[.string (tS x)] 9)) fun e w' => e = .returned (.tuple #[]) ∧ Bd 63 B b (l ++ x ++ [10]) w' ∧ Bk B b w w' := by
  have := add_c [x] w.heap.size 0 1 _ (hP.later (below_alc w (.cells #[.string (tS x)] 9))) (bs1 w x) (by simp) (by simp) (by simp) (by rw [jw_one]; exact hl) hl2
  rw [jw_one] at this
  exact this.mono fun e w' ⟨h1, h2, h3⟩ => ⟨h1, h2, (Bk.of_below hP.sz (below_alc w _)).trans h3⟩
theorem cpuT_len (k : Cp) (hr : 0 ≤ k.rs ∧ k.rs < 1000) (p : Nat) : (cpuT k p).length ≤ 100 := by
  have h0 := hxT_len k.pc
  unfold cpuT
  split
  · unfold pcT; rw [jw2]; simp only [List.length_cons, List.length_nil]; omega
  split
  · unfold mdT; rw [jw2]; split <;> simp
  split
  · unfold wtT; split <;> simp
  split
  · rename_i h1 h2 h3 h4
    unfold rgT; split
    · simp
    · rw [jw3]; have := hxT_len (k.x (p - 3)); have := rgN_len (p - 3) (by omega); simp only [List.length_cons, List.length_nil]; omega
  split
  · unfold csT; split
    · simp
    · rw [jw3]; have := hxT_len (k.s (p - 35)); have := csN_len (p - 35) (by omega); simp only [List.length_cons, List.length_nil]; omega
  split
  · unfold enT; split
    · simp
    · rw [jw4]; have := hxT_len (k.a (p - 47)); have := hxT_len ((k.c (p - 47)).setWidth 64); have := dcL_len (p - 47) 2 (by omega); simp only [List.length_cons, List.length_nil]; omega
  split
  · unfold rsT; split
    · rw [jw3]; have := hxT_len k.ra; have := dcL_len k.rs.toNat 2 (by omega); simp only [List.length_cons, List.length_nil]; omega
    · simp
  · simp
theorem lnT_len (L : List Tx) (m : Nat) (h : ∀ x ∈ L, x.length ≤ m) : (lnT L).length ≤ (m + 1) * L.length := by
  induction L with
  | nil => simp [lnT]
  | cons a r ih =>
    rw [lnT_cons]
    have h1 := h a (by simp)
    have h2 := ih (fun x hx => h x (by simp [hx]))
    simp only [List.length_append, List.length_cons, List.length_nil, Nat.mul_add, Nat.mul_one] at *
    omega
theorem cpuU_len (k : Cp) (hr : 0 ≤ k.rs ∧ k.rs < 1000) (n : Nat) : (lnT (cpuU k n)).length ≤ 101 * n := by
  induction n with
  | zero => simp [cpuU_zero, lnT]
  | succ n ih =>
    have h := cpuT_len k hr n
    rw [cpuU_succ, lnT_append, List.length_append]
    by_cases e : cpuT k n = []
    · rw [e, oneL_nil, lnT_nil]; simp; omega
    · rw [oneL_some e, lnT_one]; simp; omega
set_option maxHeartbeats 4000000 in
theorem addCpu_c {w0 : World} {b : Nat} {l : Tx} (k : Cp) (hr : 0 ≤ k.rs ∧ k.rs < 1000) (w : World) (hG : Gp w0) (h0 : Below w0.heap.size w0 w) (hP : Bd 63 w0.heap.size b l w) (hl : l.length ≤ 10000000) :
    Calls Tryd.prog 23 #[.pointer (some ⟨b, 0, none⟩), .agg (cpc k)] w fun e w' => e = .returned (.tuple #[]) ∧ Bd 63 w0.heap.size b (l ++ lnT (cpuLs k)) w' ∧ Bk w0.heap.size b w w' := by
  obtain ⟨W0, hW0, r0, b0, s0⟩ := start1 w (cpc k) 31
  have HG : Hid (∀ w', Below w0.heap.size w0 w' → Gp w') := fun w' h => hG.base h
  have HP : Hid (Bd 63 w0.heap.size b l W0) := hP.later b0.out
  have HK : Hid (Bk w0.heap.size b w W0) := Bk.of_below hP.sz b0.out
  have H0 : Hid (Below w0.heap.size w0 w) := h0
  have HR : Hid (Row W0 w.heap.size (cpc k) 31) := r0.out
  have HN : Hid (w.heap.size ≠ b) := by have := hP.lt; unfold Hid; omega
  have HL : Hid (l.length ≤ 10000000 ∧ (0 ≤ k.rs ∧ k.rs < 1000)) := ⟨hl, hr⟩
  clear hG hP h0 hl hr s0
  go_enter Tryd.func23, Tryd.ntmps23
  go_upto_region 1 with fail
  clear hW0
  go_upto_region 2 with fail
  go_loopw [6] (fun i wr => ∃ p : Nat, p ≤ 64 ∧ i = .int .i64 p ∧ Hid (Bd 63 w0.heap.size b (l ++ lnT (cpuU k p)) wr) ∧ Hid (Bk w0.heap.size b w wr) ∧ Hid (Row wr w.heap.size (cpc k) 31)) (fun i _ => 64 - (intOf i).toNat)
  case atStart => exact ⟨0, by omega, rfl, by unfold Hid; rw [cpuU_zero, lnT_nil, List.append_nil]; exact HP.out, HK, HR⟩
  case round =>
    obtain ⟨p, hp, rfl, HD, HKr, HRr⟩ := hrel
    clear HP HK HR r0 b0
    by_cases hlt : p < 64
    · have hltI : (p : Int) < 64 := by omega
      have HC : Hid (∀ j v, (cpc k)[j]? = some v → wr.cell? ⟨w.heap.size, 0 + j, none⟩ = some v) := fun j v h => by rw [Nat.zero_add, HRr.out.cell]; exact h
      have HGw : Hid (Below w0.heap.size w0 wr) := H0.out.trans HKr.out.bel
      have HCL : Hid (Calls Tryd.prog 43 #[.agg (cpc k), .int .i64 p] wr fun e w' => e = .returned (.string (tS (cpuT k p))) ∧ Below wr.heap.size wr w') := cpuLine_c k HL.out.2 p hlt wr (HG.out _ HGw.out)
      have HLL : Hid ((l ++ lnT (cpuU k p)).length ≤ 20000000) := by unfold Hid; have := cpuU_len k HL.out.2 p; have := HL.out.1; rw [List.length_append]; omega
      have HTL : Hid ((cpuT k p).length ≤ 1000000) := by unfold Hid; have := cpuT_len k HL.out.2 p; omega
      have HNX : Hid (l ++ lnT (cpuU k (p + 1)) = l ++ lnT (cpuU k p) ++ lnT (oneL (cpuT k p))) := by unfold Hid; rw [cpuU_succ, lnT_append, List.append_assoc]
      have HPP : Hid (p + 1 ≤ 64) := hlt
      generalize l ++ lnT (cpuU k p) = m at HD HLL HNX
      generalize cpuT k p = t at HCL HTL HNX
      clear hlt hp
      by_cases ht : t = []
      · subst ht
        go_wp2_with (first
          | (refine wpList_load_agg (by rfl) 31 _ (by rfl) w.heap.size 0 (by rfl) (cpc k) _ HC.out Tryd.underlying31 (by rfl) (info_cpu _) ?_)
          | (go_at_call 43; rw [tS_nil] at HCL; refine HCL.out.mono ?_; rintro e w1 ⟨rfl, hb⟩; have HB1 : Hid (Below wr.heap.size wr w1) := hb; clear hb))
        go_roundw
        case rel => exact ⟨p + 1, HPP.out, by go_num, by unfold Hid; rw [HNX.out, oneL_nil, lnT_nil, List.append_nil]; exact HD.out.later HB1.out, HKr.out.trans (Bk.of_below HD.out.sz HB1.out), HRr.out.later HB1.out HRr.out.lt⟩
        case measure => have := HPP.out; simp [intOf]; omega
      · have hne := str_ne ht
        have HS1 : Hid (lnT (oneL t) = t ++ [10]) := by unfold Hid; rw [oneL_some ht, lnT_one]
        have HAD : Hid (∀ w', Bd 63 w0.heap.size b m w' → Calls Tryd.prog 20 #[.pointer (some ⟨b, 0, none⟩), .slice (some ⟨w'.heap.size, 0, none⟩) 1 1] (w'.alloc (.cells #[.string (tS t)] 9)) fun e w'' => e = .returned (.tuple #[]) ∧ Bd 63 w0.heap.size b (m ++ t ++ [10]) w'' ∧ Bk w0.heap.size b w' w'') := fun w' h => add1_c t w' h HTL.out (by have := HLL.out; omega)
        have hne2 := str_ne2 ht
        generalize tS t = s at HCL HAD hne hne2
        go_wp2_with (first
          | (refine wpList_load_agg (by rfl) 31 _ (by rfl) w.heap.size 0 (by rfl) (cpc k) _ HC.out Tryd.underlying31 (by rfl) (info_cpu _) ?_)
          | (go_at_call 43; refine HCL.out.mono ?_; rintro e w1 ⟨rfl, hb⟩; have HB1 : Hid (Below wr.heap.size wr w1) := hb; clear hb)
          | (go_at_call 20; refine (HAD.out _ (HD.out.later HB1.out)).mono ?_; rintro e w2 ⟨rfl, h1, h2⟩; have HP2 : Hid (Bd 63 w0.heap.size b (m ++ t ++ [10]) w2) := h1; have HK2 : Hid (Bk w0.heap.size b wr w2) := (Bk.of_below HD.out.sz HB1.out).trans h2; clear h1 h2))
        go_roundw
        case rel => exact ⟨p + 1, HPP.out, by go_num, by unfold Hid; rw [HNX.out, HS1.out, ← List.append_assoc]; exact HP2.out, HKr.out.trans HK2.out, HK2.out.row HRr.out HN.out (by decide)⟩
        case measure => have := HPP.out; simp [intOf]; omega
    · have hpe : p = 64 := by omega
      subst hpe
      go_wp2
      go_end0
      exact ⟨rfl, HD.out, HKr.out⟩
end Go.Proofs.YthmjimmmkoeeoaaDoor
