/-
  Layer 17 (gdb): Unpack of the program.
-/
import Derived.Test.YtfenllkkbgkdnaaDoorGl
namespace Go.Proofs.YtfenllkkbgkdnaaDoor
set_option linter.unusedVariables false
set_option maxRecDepth 100000
open Go.ChangeShapes Go.WideShapes Go.ChangeAt Go.RowKit Go.Deep
def isP (l : List Int) : Bool := frm l && okD (dgA l) (dgB l)
/-- Unpack's number and bytes. -/
def upE (l : List Int) : Int := if isP l = false then 1 else if valD (dgA l) (dgB l) = smN (bdy l) then plE (bdy l) else 160
def upB (l : List Int) : List Int := if isP l = false then [] else if valD (dgA l) (dgB l) = smN (bdy l) then plB (bdy l) else []
theorem zero_body (w : World) : (zeroValue 37).run Tryd.prog w = .ok (.agg #[.int .u8 0, .slice none 0 0, .bool false, .bool false]) w := by kernel_rfl
theorem up_no {l : List Int} (h : isP l = false) : upE l = 1 ∧ upB l = [] := by unfold upE upB; rw [if_pos h, if_pos h]; exact ⟨rfl, rfl⟩
theorem up_sum {l : List Int} (h : isP l = true) (h2 : ¬ valD (dgA l) (dgB l) = smN (bdy l)) : upE l = 160 ∧ upB l = [] := by unfold upE upB; simp [h, h2]
theorem up_go {l : List Int} (h : isP l = true) (h2 : valD (dgA l) (dgB l) = smN (bdy l)) : upE l = plE (bdy l) ∧ upB l = plB (bdy l) := by unfold upE upB; simp [h, h2]
theorem Bdm.new (w : World) : Bdm w.heap.size (w.alloc (.cells #[.int .u8 0, .slice none 0 0, .bool false, .bool false] 37)) w.heap.size [] := ⟨⟨.slice none 0 0, Row.new w _ _, owb_nil _ _, (fun h => by cases h)⟩, Nat.le_refl _⟩
set_option maxHeartbeats 4000000 in
theorem unp_c (l : List Int) (a : Option Addr) (c : Nat) (w : World) (hv : Byt w (.slice a l.length c) l) (hall : AllB l) (hlb : l.length ≤ 140737488355328) (hE : Es w) :
    Calls Tryd.prog 7 #[.slice a l.length c] w fun e w' => ∃ u, e = .returned (.tuple #[u, .int .i64 (upE l)]) ∧ Byt w' u (upB l) ∧ Below w.heap.size w w' := by
  have HC := Hid.mk' (cut_c l a c w hv hall hlb hE)
  unfold CutP at HC
  have HMA : Hid (AllB (bdy l)) := fun z hz => hall z (List.mem_of_mem_drop (List.mem_of_mem_take hz))
  have HML : Hid ((bdy l).length ≤ 140737488355328) := (by unfold Hid bdy; rw [List.length_take, List.length_drop]; omega)
  have HNO : Hid (isP l = false → upE l = 1 ∧ upB l = []) := up_no
  have HSU : Hid (isP l = true → ¬ valD (dgA l) (dgB l) = smN (bdy l) → upE l = 160 ∧ upB l = []) := up_sum
  have HGO : Hid (isP l = true → valD (dgA l) (dgB l) = smN (bdy l) → upE l = plE (bdy l) ∧ upB l = plB (bdy l)) := up_go
  have HVB := Hid.mk' (valD_bd (dgA l) (dgB l))
  change Hid (Calls _ _ _ _ fun e w' => ∃ u s b, _ ∧ b = isP l ∧ _) at HC
  generalize isP l = fb at *
  generalize valD (dgA l) (dgB l) = vs at *
  generalize bdy l = m at *
  generalize upE l = E at *
  generalize upB l = R at *
  generalize l.length = nl at *
  clear hv hall hE hlb
  have hz := zero_body
  go_enter Tryd.func7, Tryd.ntmps7
  go_upto_region 2 with (go_at_call 11; refine HC.out.mono ?_; rintro e W1 ⟨u, s, b, rfl, hb, hy, hbl⟩; have HB1 := Hid.mk' hbl; have HY := Hid.mk' hy; clear hbl hy)
  subst hb
  cases b with
  | false =>
    obtain ⟨rfl, rfl⟩ := HNO.out rfl
    clear HC HNO HSU HGO HY
    go_wp2
    go_ret2
    exact ⟨.slice none 0 0, rfl, Byt.nil _, HB1.out⟩
  | true =>
    obtain ⟨hby, hvs, hown⟩ := HY.out rfl
    subst hvs
    replace HSU := Hid.mk' (HSU.out rfl)
    replace HGO := Hid.mk' (HGO.out rfl)
    obtain ⟨aV, cV, rfl, hcV⟩ := hby.len
    have HVY := Hid.mk' hby
    obtain ⟨B, hB⟩ : ∃ B, B = W1.heap.size := ⟨_, rfl⟩
    have HN0 := Hid.mk' (Bdm.new W1)
    have HA0 := Hid.mk' (below_al W1 (.cells #[.int .u8 0, .slice none 0 0, .bool false, .bool false] 37))
    have HBE := Hid.mk' hB
    rw [← hB] at HN0 HA0
    have HNN : Hid (∀ W, Below B W1 W → Byt W (.slice aV m.length cV) m) := fun W h => HVY.out.later h HBE.out
    obtain ⟨n, hn⟩ : ∃ n, n = m.length := ⟨_, rfl⟩
    have HNL := Hid.mk' hn
    rw [← hn] at HNN HML ⊢
    clear HC HNO HY hown hby HVY hcV hn
    go_upto_region 5 with fail
    rw [← hB]
    refine on_W (motive := fun W => Code.wp _ _ _ _ W) (Q := fun W => Bdm B W B [] ∧ Below B W1 W) ⟨HN0.out, HA0.out⟩ ?_
    clear HN0 HA0 hB hz
    rintro W2 ⟨p1, p2⟩
    have HP2 := Hid.mk' p1
    have HL2 := Hid.mk' p2
    clear p1 p2
    go_wp2
    go_loopw [20] (fun i wr => ∃ k : Nat, k ≤ n ∧ i = .int .i64 k ∧ Hid (Bdm B wr B (m.take k)) ∧ Hid (Below B W1 wr)) (fun i _ => n - (intOf i).toNat)
    case atStart => exact ⟨0, Nat.zero_le _, rfl, HP2, HL2⟩
    case round =>
      obtain ⟨k, hk, rfl, hbd, hbl⟩ := hrel
      by_cases hlt : k < n
      · have hlm : k < m.length := by rw [← HNL.out]; exact hlt
        obtain ⟨a', c', e', _, _, hcl⟩ := HNN.out wr hbl.out
        obtain ⟨gl, off, rfl, hgl, hcell⟩ := hcl (by intro e; rw [e] at hlm; simp at hlm)
        simp only [Value.slice.injEq] at e'
        obtain ⟨rfl, -, rfl⟩ := e'
        have hlt2 : (k : Int) < (n : Int) := by omega
        have hkb : (k : Int) < 140737488355328 := by have := HML.out; omega
        have hce : wr.cell? ⟨gl, off + k, none⟩ = some (.int .u8 (m.getD k 0)) := hcell k hlm
        have HT : Hid (m.take (k + 1) = m.take k ++ [m.getD k 0]) := take_succ' hlm
        obtain ⟨cb0, cb1⟩ : 0 ≤ m.getD k 0 ∧ m.getD k 0 ≤ 255 := HMA.out _ (by rw [List.getD_eq_getElem?_getD, List.getElem?_eq_getElem hlm]; simp)
        have HJ := Hid.mk' (join_c hbd.out (m.getD k 0) ⟨cb0, cb1⟩ (by rw [HBE.out]; exact hbl.out.size))
        rw [← HT.out] at HJ
        generalize m.getD k 0 = z at *
        clear hcell hcl HP2 HL2 HSU HGO hbd
        go_wp2_with (go_at_call 12; refine HJ.out.mono ?_; rintro e w3 ⟨rfl, h1, h2⟩; have HJ1 := Hid.mk' h1; have HJ2 := Hid.mk' (hbl.out.trans h2); clear h1 h2)
        go_roundw
        case rel => exact ⟨k + 1, by omega, by go_num, HJ1, HJ2⟩
        case measure => simp [intOf]; omega
      · have hkn : k = n := by omega
        have hz : ¬ (k : Int) < (n : Int) := by omega
        have HBD : Hid (Bdm B wr B m) := (by have q := hbd.out; rw [hkn, HNL.out, List.take_length] at q; exact q)
        obtain ⟨⟨c0, -, -⟩, -⟩ := Bdr.cells HBD.out
        have HPY := Hid.mk' (payload_c HBD.out)
        have HBF : Hid (Below w.heap.size w wr) := HB1.out.trans (hbl.out.mono (by rw [HBE.out]; exact HB1.out.size))
        clear hkn hlt hbd HP2 HL2 HBD HNN
        by_cases hs : s = smN m
        · obtain ⟨hE1, hR1⟩ := HGO.out hs
          rw [← hE1, ← hR1] at HPY
          rw [← hs] at c0
          clear HGO HSU hs hE1 hR1
          go_wp2_with (go_at_call 13; refine HPY.out.mono ?_; rintro e w3 ⟨⟨u, rfl, h1⟩, hw5⟩; have hw6 := hw5.symm; subst hw6; have HU := Hid.mk' h1; clear h1)
          go_ret2
          exact ⟨u, rfl, HU.out, HBF.out⟩
        · obtain ⟨rfl, rfl⟩ := HSU.out hs
          have hs2 : (smN m != s) = true := by simp; exact fun h => hs h.symm
          generalize smN m = sm at *
          clear HGO HSU hs HPY
          go_wp2
          go_ret2
          exact ⟨.slice none 0 0, rfl, Byt.nil _, HBF.out⟩
end Go.Proofs.YtfenllkkbgkdnaaDoor
