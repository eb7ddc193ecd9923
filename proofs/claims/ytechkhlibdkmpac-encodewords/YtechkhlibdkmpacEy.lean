/-
  EncodeWords: each kind's words; Encode of the program.
-/
import Derived.Test.YtechkhlibdkmpacEx
namespace Go.Proofs.Ytechkhlibdkmpac
set_option linter.unusedVariables false
open Go.ChangeShapes Go.WideShapes Go.ChangeAt Go.RowKit Go.Deep
theorem z7 : BitVec.ofInt 32 0 <<< 7 = 0#32 := by decide
theorem z15 : BitVec.ofInt 32 0 <<< 15 = 0#32 := by decide
theorem z20 : BitVec.ofInt 32 0 <<< 20 = 0#32 := by decide
theorem b26 : (1#32 <<< 26) = 67108864#32 := by decide
theorem b25 : (1#32 <<< 25) = 33554432#32 := by decide
theorem lyB_nil (v : Int) : lyB [] v = 0#32 := rfl
theorem wi_if (b : Bool) (m : BitVec 32) : wi (if b then m else 0#32) m := by
  unfold wi
  cases b
  · exact BitVec.zero_and
  · exact BitVec.and_self
theorem wd_U (x : Ins) (FB : BitVec 32) (code f3 top : Int) (hb : FB = BitVec.ofInt 32 code) (hw : wi FB 127#32) (hd : 0 ≤ x.rd ∧ x.rd < 32) (hs : x.rs1 = 0) (ht : x.rs2 = 0) (ha : x.aq = false) (hr : x.rl = false) (hu : x.imm.tmod 4096 = 0) :
    FB ||| (lyB [⟨4, 0, 7⟩] x.rd ||| lyB [] x.rs1 ||| lyB [] x.rs2 ||| lyB [⟨31, 12, 12⟩] x.imm) ||| (if x.aq then 67108864#32 else 0#32) ||| (if x.rl then 33554432#32 else 0#32) = BitVec.ofInt 32 code + (BitVec.ofInt 32 x.imm &&& 4294963200#32) + BitVec.ofInt 32 x.rd <<< 7 + BitVec.ofInt 32 x.rs1 <<< 15 + BitVec.ofInt 32 x.rs2 <<< 20 := by
  have eD : lyB [⟨4, 0, 7⟩] x.rd = pkB x.rd 4 0 7 := by
    show 0#32 ||| pkB x.rd 4 0 7 = _
    rw [BitVec.zero_or]
  have eM : lyB [⟨31, 12, 12⟩] x.imm = pkB x.imm 31 12 12 := by
    show 0#32 ||| pkB x.imm 31 12 12 = _
    rw [BitVec.zero_or]
  rw [ha, hr]
  rw [eD, eM]
  simp only [lyB_nil]
  simp only [Bool.false_eq_true, if_false]
  rw [all_add hw (wi_pk x.rd 4 0 7) wi_0 wi_0 (wi_pk x.imm 31 12 12) wi_0 wi_0 (by decide) (by decide) (by decide) (by decide) (by decide) (by decide)]
  rw [reg7 x.rd hd]
  rw [hs, z15]
  rw [ht, z20]
  rw [upU x.imm hu]
  rw [hb]
  simp only [BitVec.add_zero]
  generalize BitVec.ofInt 32 x.rd <<< 7 = g0
  generalize (BitVec.ofInt 32 x.imm &&& 4294963200#32) = g1
  generalize BitVec.ofInt 32 code = g2
  clear hb hw
  ac_rfl
theorem wd_J (x : Ins) (FB : BitVec 32) (code f3 top : Int) (hb : FB = BitVec.ofInt 32 code) (hw : wi FB 127#32) (hd : 0 ≤ x.rd ∧ x.rd < 32) (hs : x.rs1 = 0) (ht : x.rs2 = 0) (ha : x.aq = false) (hr : x.rl = false) :
    FB ||| (lyB [⟨4, 0, 7⟩] x.rd ||| lyB [] x.rs1 ||| lyB [] x.rs2 ||| lyB [⟨20, 20, 31⟩, ⟨19, 12, 12⟩, ⟨11, 11, 20⟩, ⟨10, 1, 21⟩] x.imm) ||| (if x.aq then 67108864#32 else 0#32) ||| (if x.rl then 33554432#32 else 0#32) = BitVec.ofInt 32 code + (pkB x.imm 20 20 31 + pkB x.imm 10 1 21 + pkB x.imm 11 11 20 + pkB x.imm 19 12 12) + BitVec.ofInt 32 x.rd <<< 7 + BitVec.ofInt 32 x.rs1 <<< 15 + BitVec.ofInt 32 x.rs2 <<< 20 := by
  have eD : lyB [⟨4, 0, 7⟩] x.rd = pkB x.rd 4 0 7 := by
    show 0#32 ||| pkB x.rd 4 0 7 = _
    rw [BitVec.zero_or]
  have eM : lyB [⟨20, 20, 31⟩, ⟨19, 12, 12⟩, ⟨11, 11, 20⟩, ⟨10, 1, 21⟩] x.imm = pkB x.imm 20 20 31 ||| pkB x.imm 19 12 12 ||| pkB x.imm 11 11 20 ||| pkB x.imm 10 1 21 := by
    show 0#32 ||| pkB x.imm 20 20 31 ||| pkB x.imm 19 12 12 ||| pkB x.imm 11 11 20 ||| pkB x.imm 10 1 21 = _
    rw [BitVec.zero_or]
  rw [ha, hr]
  rw [eD, eM]
  simp only [lyB_nil]
  simp only [Bool.false_eq_true, if_false]
  rw [all_add hw (wi_pk x.rd 4 0 7) wi_0 wi_0 (wi_or (wi_or (wi_or (wi_pk x.imm 20 20 31) (wi_pk x.imm 19 12 12)) (wi_pk x.imm 11 11 20)) (wi_pk x.imm 10 1 21)) wi_0 wi_0 (by decide) (by decide) (by decide) (by decide) (by decide) (by decide)]
  rw [four_add (wi_pk x.imm 20 20 31) (wi_pk x.imm 19 12 12) (wi_pk x.imm 11 11 20) (wi_pk x.imm 10 1 21) (by decide) (by decide) (by decide)]
  rw [reg7 x.rd hd]
  rw [hs, z15]
  rw [ht, z20]
  rw [hb]
  simp only [BitVec.add_zero]
  generalize BitVec.ofInt 32 x.rd <<< 7 = g0
  generalize pkB x.imm 20 20 31 = g1
  generalize pkB x.imm 19 12 12 = g2
  generalize pkB x.imm 11 11 20 = g3
  generalize pkB x.imm 10 1 21 = g4
  generalize BitVec.ofInt 32 code = g5
  clear hb hw
  ac_rfl
theorem wd_I (x : Ins) (FB : BitVec 32) (code f3 top : Int) (hb : FB = BitVec.ofInt 32 code + BitVec.ofInt 32 f3 <<< 12) (hw : wi FB 28799#32) (hd : 0 ≤ x.rd ∧ x.rd < 32) (hs : 0 ≤ x.rs1 ∧ x.rs1 < 32) (ht : x.rs2 = 0) (ha : x.aq = false) (hr : x.rl = false) :
    FB ||| (lyB [⟨4, 0, 7⟩] x.rd ||| lyB [⟨4, 0, 15⟩] x.rs1 ||| lyB [] x.rs2 ||| lyB [⟨11, 0, 20⟩] x.imm) ||| (if x.aq then 67108864#32 else 0#32) ||| (if x.rl then 33554432#32 else 0#32) = BitVec.ofInt 32 code + pkB x.imm 11 0 20 + BitVec.ofInt 32 f3 <<< 12 + BitVec.ofInt 32 x.rd <<< 7 + BitVec.ofInt 32 x.rs1 <<< 15 + BitVec.ofInt 32 x.rs2 <<< 20 := by
  have eD : lyB [⟨4, 0, 7⟩] x.rd = pkB x.rd 4 0 7 := by
    show 0#32 ||| pkB x.rd 4 0 7 = _
    rw [BitVec.zero_or]
  have eS : lyB [⟨4, 0, 15⟩] x.rs1 = pkB x.rs1 4 0 15 := by
    show 0#32 ||| pkB x.rs1 4 0 15 = _
    rw [BitVec.zero_or]
  have eM : lyB [⟨11, 0, 20⟩] x.imm = pkB x.imm 11 0 20 := by
    show 0#32 ||| pkB x.imm 11 0 20 = _
    rw [BitVec.zero_or]
  rw [ha, hr]
  rw [eD, eS, eM]
  simp only [lyB_nil]
  simp only [Bool.false_eq_true, if_false]
  rw [all_add hw (wi_pk x.rd 4 0 7) (wi_pk x.rs1 4 0 15) wi_0 (wi_pk x.imm 11 0 20) wi_0 wi_0 (by decide) (by decide) (by decide) (by decide) (by decide) (by decide)]
  rw [reg7 x.rd hd]
  rw [reg15 x.rs1 hs]
  rw [ht, z20]
  rw [hb]
  simp only [BitVec.add_zero]
  generalize BitVec.ofInt 32 f3 <<< 12 = g0
  generalize BitVec.ofInt 32 x.rd <<< 7 = g1
  generalize BitVec.ofInt 32 x.rs1 <<< 15 = g2
  generalize pkB x.imm 11 0 20 = g3
  generalize BitVec.ofInt 32 code = g4
  clear hb hw
  ac_rfl
theorem wd_B (x : Ins) (FB : BitVec 32) (code f3 top : Int) (hb : FB = BitVec.ofInt 32 code + BitVec.ofInt 32 f3 <<< 12) (hw : wi FB 28799#32) (hd : x.rd = 0) (hs : 0 ≤ x.rs1 ∧ x.rs1 < 32) (ht : 0 ≤ x.rs2 ∧ x.rs2 < 32) (ha : x.aq = false) (hr : x.rl = false) :
    FB ||| (lyB [] x.rd ||| lyB [⟨4, 0, 15⟩] x.rs1 ||| lyB [⟨4, 0, 20⟩] x.rs2 ||| lyB [⟨12, 12, 31⟩, ⟨11, 11, 7⟩, ⟨10, 5, 25⟩, ⟨4, 1, 8⟩] x.imm) ||| (if x.aq then 67108864#32 else 0#32) ||| (if x.rl then 33554432#32 else 0#32) = BitVec.ofInt 32 code + (pkB x.imm 12 12 31 + pkB x.imm 10 5 25 + pkB x.imm 4 1 8 + pkB x.imm 11 11 7) + BitVec.ofInt 32 f3 <<< 12 + BitVec.ofInt 32 x.rd <<< 7 + BitVec.ofInt 32 x.rs1 <<< 15 + BitVec.ofInt 32 x.rs2 <<< 20 := by
  have eS : lyB [⟨4, 0, 15⟩] x.rs1 = pkB x.rs1 4 0 15 := by
    show 0#32 ||| pkB x.rs1 4 0 15 = _
    rw [BitVec.zero_or]
  have eT : lyB [⟨4, 0, 20⟩] x.rs2 = pkB x.rs2 4 0 20 := by
    show 0#32 ||| pkB x.rs2 4 0 20 = _
    rw [BitVec.zero_or]
  have eM : lyB [⟨12, 12, 31⟩, ⟨11, 11, 7⟩, ⟨10, 5, 25⟩, ⟨4, 1, 8⟩] x.imm = pkB x.imm 12 12 31 ||| pkB x.imm 11 11 7 ||| pkB x.imm 10 5 25 ||| pkB x.imm 4 1 8 := by
    show 0#32 ||| pkB x.imm 12 12 31 ||| pkB x.imm 11 11 7 ||| pkB x.imm 10 5 25 ||| pkB x.imm 4 1 8 = _
    rw [BitVec.zero_or]
  rw [ha, hr]
  rw [eS, eT, eM]
  simp only [lyB_nil]
  simp only [Bool.false_eq_true, if_false]
  rw [all_add hw wi_0 (wi_pk x.rs1 4 0 15) (wi_pk x.rs2 4 0 20) (wi_or (wi_or (wi_or (wi_pk x.imm 12 12 31) (wi_pk x.imm 11 11 7)) (wi_pk x.imm 10 5 25)) (wi_pk x.imm 4 1 8)) wi_0 wi_0 (by decide) (by decide) (by decide) (by decide) (by decide) (by decide)]
  rw [four_add (wi_pk x.imm 12 12 31) (wi_pk x.imm 11 11 7) (wi_pk x.imm 10 5 25) (wi_pk x.imm 4 1 8) (by decide) (by decide) (by decide)]
  rw [hd, z7]
  rw [reg15 x.rs1 hs]
  rw [reg20 x.rs2 ht]
  rw [hb]
  simp only [BitVec.add_zero, BitVec.zero_add]
  generalize BitVec.ofInt 32 f3 <<< 12 = g0
  generalize BitVec.ofInt 32 x.rs1 <<< 15 = g1
  generalize BitVec.ofInt 32 x.rs2 <<< 20 = g2
  generalize pkB x.imm 12 12 31 = g3
  generalize pkB x.imm 11 11 7 = g4
  generalize pkB x.imm 10 5 25 = g5
  generalize pkB x.imm 4 1 8 = g6
  generalize BitVec.ofInt 32 code = g7
  clear hb hw
  ac_rfl
theorem wd_S (x : Ins) (FB : BitVec 32) (code f3 top : Int) (hb : FB = BitVec.ofInt 32 code + BitVec.ofInt 32 f3 <<< 12) (hw : wi FB 28799#32) (hd : x.rd = 0) (hs : 0 ≤ x.rs1 ∧ x.rs1 < 32) (ht : 0 ≤ x.rs2 ∧ x.rs2 < 32) (ha : x.aq = false) (hr : x.rl = false) :
    FB ||| (lyB [] x.rd ||| lyB [⟨4, 0, 15⟩] x.rs1 ||| lyB [⟨4, 0, 20⟩] x.rs2 ||| lyB [⟨11, 5, 25⟩, ⟨4, 0, 7⟩] x.imm) ||| (if x.aq then 67108864#32 else 0#32) ||| (if x.rl then 33554432#32 else 0#32) = BitVec.ofInt 32 code + (pkB x.imm 11 5 25 + pkB x.imm 4 0 7) + BitVec.ofInt 32 f3 <<< 12 + BitVec.ofInt 32 x.rd <<< 7 + BitVec.ofInt 32 x.rs1 <<< 15 + BitVec.ofInt 32 x.rs2 <<< 20 := by
  have eS : lyB [⟨4, 0, 15⟩] x.rs1 = pkB x.rs1 4 0 15 := by
    show 0#32 ||| pkB x.rs1 4 0 15 = _
    rw [BitVec.zero_or]
  have eT : lyB [⟨4, 0, 20⟩] x.rs2 = pkB x.rs2 4 0 20 := by
    show 0#32 ||| pkB x.rs2 4 0 20 = _
    rw [BitVec.zero_or]
  have eM : lyB [⟨11, 5, 25⟩, ⟨4, 0, 7⟩] x.imm = pkB x.imm 11 5 25 ||| pkB x.imm 4 0 7 := by
    show 0#32 ||| pkB x.imm 11 5 25 ||| pkB x.imm 4 0 7 = _
    rw [BitVec.zero_or]
  rw [ha, hr]
  rw [eS, eT, eM]
  simp only [lyB_nil]
  simp only [Bool.false_eq_true, if_false]
  rw [all_add hw wi_0 (wi_pk x.rs1 4 0 15) (wi_pk x.rs2 4 0 20) (wi_or (wi_pk x.imm 11 5 25) (wi_pk x.imm 4 0 7)) wi_0 wi_0 (by decide) (by decide) (by decide) (by decide) (by decide) (by decide)]
  rw [or_add (wi_pk x.imm 11 5 25) (wi_pk x.imm 4 0 7) (by decide)]
  rw [hd, z7]
  rw [reg15 x.rs1 hs]
  rw [reg20 x.rs2 ht]
  rw [hb]
  simp only [BitVec.add_zero, BitVec.zero_add]
  generalize BitVec.ofInt 32 f3 <<< 12 = g0
  generalize BitVec.ofInt 32 x.rs1 <<< 15 = g1
  generalize BitVec.ofInt 32 x.rs2 <<< 20 = g2
  generalize pkB x.imm 11 5 25 = g3
  generalize pkB x.imm 4 0 7 = g4
  generalize BitVec.ofInt 32 code = g5
  clear hb hw
  ac_rfl
theorem wd_N (x : Ins) (FB : BitVec 32) (code f3 top : Int) (hb : FB = BitVec.ofInt 32 code + BitVec.ofInt 32 f3 <<< 12) (hw : wi FB 28799#32) (hd : 0 ≤ x.rd ∧ x.rd < 32) (hs : 0 ≤ x.rs1 ∧ x.rs1 < 32) (ht : x.rs2 = 0) (ha : x.aq = false) (hr : x.rl = false) :
    FB ||| (lyB [⟨4, 0, 7⟩] x.rd ||| lyB [⟨4, 0, 15⟩] x.rs1 ||| lyB [] x.rs2 ||| lyB [⟨11, 0, 20⟩] x.imm) ||| (if x.aq then 67108864#32 else 0#32) ||| (if x.rl then 33554432#32 else 0#32) = BitVec.ofInt 32 code + pkB x.imm 11 0 20 + BitVec.ofInt 32 f3 <<< 12 + BitVec.ofInt 32 x.rd <<< 7 + BitVec.ofInt 32 x.rs1 <<< 15 + BitVec.ofInt 32 x.rs2 <<< 20 := by
  have eD : lyB [⟨4, 0, 7⟩] x.rd = pkB x.rd 4 0 7 := by
    show 0#32 ||| pkB x.rd 4 0 7 = _
    rw [BitVec.zero_or]
  have eS : lyB [⟨4, 0, 15⟩] x.rs1 = pkB x.rs1 4 0 15 := by
    show 0#32 ||| pkB x.rs1 4 0 15 = _
    rw [BitVec.zero_or]
  have eM : lyB [⟨11, 0, 20⟩] x.imm = pkB x.imm 11 0 20 := by
    show 0#32 ||| pkB x.imm 11 0 20 = _
    rw [BitVec.zero_or]
  rw [ha, hr]
  rw [eD, eS, eM]
  simp only [lyB_nil]
  simp only [Bool.false_eq_true, if_false]
  rw [all_add hw (wi_pk x.rd 4 0 7) (wi_pk x.rs1 4 0 15) wi_0 (wi_pk x.imm 11 0 20) wi_0 wi_0 (by decide) (by decide) (by decide) (by decide) (by decide) (by decide)]
  rw [reg7 x.rd hd]
  rw [reg15 x.rs1 hs]
  rw [ht, z20]
  rw [hb]
  simp only [BitVec.add_zero]
  generalize BitVec.ofInt 32 f3 <<< 12 = g0
  generalize BitVec.ofInt 32 x.rd <<< 7 = g1
  generalize BitVec.ofInt 32 x.rs1 <<< 15 = g2
  generalize pkB x.imm 11 0 20 = g3
  generalize BitVec.ofInt 32 code = g4
  clear hb hw
  ac_rfl
theorem wd_H (x : Ins) (FB : BitVec 32) (code f3 top : Int) (hb : FB = BitVec.ofInt 32 code + BitVec.ofInt 32 f3 <<< 12 + BitVec.ofInt 32 top <<< 26) (hw : wi FB 4227887231#32) (hd : 0 ≤ x.rd ∧ x.rd < 32) (hs : 0 ≤ x.rs1 ∧ x.rs1 < 32) (ht : x.rs2 = 0) (ha : x.aq = false) (hr : x.rl = false) :
    FB ||| (lyB [⟨4, 0, 7⟩] x.rd ||| lyB [⟨4, 0, 15⟩] x.rs1 ||| lyB [] x.rs2 ||| lyB [⟨5, 0, 20⟩] x.imm) ||| (if x.aq then 67108864#32 else 0#32) ||| (if x.rl then 33554432#32 else 0#32) = BitVec.ofInt 32 code + (BitVec.ofInt 32 top <<< 26 + pkB x.imm 5 0 20) + BitVec.ofInt 32 f3 <<< 12 + BitVec.ofInt 32 x.rd <<< 7 + BitVec.ofInt 32 x.rs1 <<< 15 + BitVec.ofInt 32 x.rs2 <<< 20 := by
  have eD : lyB [⟨4, 0, 7⟩] x.rd = pkB x.rd 4 0 7 := by
    show 0#32 ||| pkB x.rd 4 0 7 = _
    rw [BitVec.zero_or]
  have eS : lyB [⟨4, 0, 15⟩] x.rs1 = pkB x.rs1 4 0 15 := by
    show 0#32 ||| pkB x.rs1 4 0 15 = _
    rw [BitVec.zero_or]
  have eM : lyB [⟨5, 0, 20⟩] x.imm = pkB x.imm 5 0 20 := by
    show 0#32 ||| pkB x.imm 5 0 20 = _
    rw [BitVec.zero_or]
  rw [ha, hr]
  rw [eD, eS, eM]
  simp only [lyB_nil]
  simp only [Bool.false_eq_true, if_false]
  rw [all_add hw (wi_pk x.rd 4 0 7) (wi_pk x.rs1 4 0 15) wi_0 (wi_pk x.imm 5 0 20) wi_0 wi_0 (by decide) (by decide) (by decide) (by decide) (by decide) (by decide)]
  rw [reg7 x.rd hd]
  rw [reg15 x.rs1 hs]
  rw [ht, z20]
  rw [hb]
  simp only [BitVec.add_zero]
  generalize BitVec.ofInt 32 top <<< 26 = g0
  generalize BitVec.ofInt 32 f3 <<< 12 = g1
  generalize BitVec.ofInt 32 x.rd <<< 7 = g2
  generalize BitVec.ofInt 32 x.rs1 <<< 15 = g3
  generalize pkB x.imm 5 0 20 = g4
  generalize BitVec.ofInt 32 code = g5
  clear hb hw
  ac_rfl
theorem wd_W (x : Ins) (FB : BitVec 32) (code f3 top : Int) (hb : FB = BitVec.ofInt 32 code + BitVec.ofInt 32 f3 <<< 12 + BitVec.ofInt 32 top <<< 25) (hw : wi FB 4261441663#32) (hd : 0 ≤ x.rd ∧ x.rd < 32) (hs : 0 ≤ x.rs1 ∧ x.rs1 < 32) (ht : x.rs2 = 0) (ha : x.aq = false) (hr : x.rl = false) :
    FB ||| (lyB [⟨4, 0, 7⟩] x.rd ||| lyB [⟨4, 0, 15⟩] x.rs1 ||| lyB [] x.rs2 ||| lyB [⟨4, 0, 20⟩] x.imm) ||| (if x.aq then 67108864#32 else 0#32) ||| (if x.rl then 33554432#32 else 0#32) = BitVec.ofInt 32 code + (BitVec.ofInt 32 top <<< 25 + pkB x.imm 4 0 20) + BitVec.ofInt 32 f3 <<< 12 + BitVec.ofInt 32 x.rd <<< 7 + BitVec.ofInt 32 x.rs1 <<< 15 + BitVec.ofInt 32 x.rs2 <<< 20 := by
  have eD : lyB [⟨4, 0, 7⟩] x.rd = pkB x.rd 4 0 7 := by
    show 0#32 ||| pkB x.rd 4 0 7 = _
    rw [BitVec.zero_or]
  have eS : lyB [⟨4, 0, 15⟩] x.rs1 = pkB x.rs1 4 0 15 := by
    show 0#32 ||| pkB x.rs1 4 0 15 = _
    rw [BitVec.zero_or]
  have eM : lyB [⟨4, 0, 20⟩] x.imm = pkB x.imm 4 0 20 := by
    show 0#32 ||| pkB x.imm 4 0 20 = _
    rw [BitVec.zero_or]
  rw [ha, hr]
  rw [eD, eS, eM]
  simp only [lyB_nil]
  simp only [Bool.false_eq_true, if_false]
  rw [all_add hw (wi_pk x.rd 4 0 7) (wi_pk x.rs1 4 0 15) wi_0 (wi_pk x.imm 4 0 20) wi_0 wi_0 (by decide) (by decide) (by decide) (by decide) (by decide) (by decide)]
  rw [reg7 x.rd hd]
  rw [reg15 x.rs1 hs]
  rw [ht, z20]
  rw [hb]
  simp only [BitVec.add_zero]
  generalize BitVec.ofInt 32 top <<< 25 = g0
  generalize BitVec.ofInt 32 f3 <<< 12 = g1
  generalize BitVec.ofInt 32 x.rd <<< 7 = g2
  generalize BitVec.ofInt 32 x.rs1 <<< 15 = g3
  generalize pkB x.imm 4 0 20 = g4
  generalize BitVec.ofInt 32 code = g5
  clear hb hw
  ac_rfl
theorem wd_R (x : Ins) (FB : BitVec 32) (code f3 top : Int) (hb : FB = BitVec.ofInt 32 code + BitVec.ofInt 32 f3 <<< 12 + BitVec.ofInt 32 top <<< 25) (hw : wi FB 4261441663#32) (hd : 0 ≤ x.rd ∧ x.rd < 32) (hs : 0 ≤ x.rs1 ∧ x.rs1 < 32) (ht : 0 ≤ x.rs2 ∧ x.rs2 < 32) (ha : x.aq = false) (hr : x.rl = false) :
    FB ||| (lyB [⟨4, 0, 7⟩] x.rd ||| lyB [⟨4, 0, 15⟩] x.rs1 ||| lyB [⟨4, 0, 20⟩] x.rs2 ||| lyB [] x.imm) ||| (if x.aq then 67108864#32 else 0#32) ||| (if x.rl then 33554432#32 else 0#32) = BitVec.ofInt 32 code + (BitVec.ofInt 32 top <<< 25) + BitVec.ofInt 32 f3 <<< 12 + BitVec.ofInt 32 x.rd <<< 7 + BitVec.ofInt 32 x.rs1 <<< 15 + BitVec.ofInt 32 x.rs2 <<< 20 := by
  have eD : lyB [⟨4, 0, 7⟩] x.rd = pkB x.rd 4 0 7 := by
    show 0#32 ||| pkB x.rd 4 0 7 = _
    rw [BitVec.zero_or]
  have eS : lyB [⟨4, 0, 15⟩] x.rs1 = pkB x.rs1 4 0 15 := by
    show 0#32 ||| pkB x.rs1 4 0 15 = _
    rw [BitVec.zero_or]
  have eT : lyB [⟨4, 0, 20⟩] x.rs2 = pkB x.rs2 4 0 20 := by
    show 0#32 ||| pkB x.rs2 4 0 20 = _
    rw [BitVec.zero_or]
  rw [ha, hr]
  rw [eD, eS, eT]
  simp only [lyB_nil]
  simp only [Bool.false_eq_true, if_false]
  rw [all_add hw (wi_pk x.rd 4 0 7) (wi_pk x.rs1 4 0 15) (wi_pk x.rs2 4 0 20) wi_0 wi_0 wi_0 (by decide) (by decide) (by decide) (by decide) (by decide) (by decide)]
  rw [reg7 x.rd hd]
  rw [reg15 x.rs1 hs]
  rw [reg20 x.rs2 ht]
  rw [hb]
  simp only [BitVec.add_zero]
  generalize BitVec.ofInt 32 top <<< 25 = g0
  generalize BitVec.ofInt 32 f3 <<< 12 = g1
  generalize BitVec.ofInt 32 x.rd <<< 7 = g2
  generalize BitVec.ofInt 32 x.rs1 <<< 15 = g3
  generalize BitVec.ofInt 32 x.rs2 <<< 20 = g4
  generalize BitVec.ofInt 32 code = g5
  clear hb hw
  ac_rfl
theorem wd_A (x : Ins) (FB : BitVec 32) (code f3 top : Int) (hb : FB = BitVec.ofInt 32 code + BitVec.ofInt 32 f3 <<< 12 + BitVec.ofInt 32 top <<< 27) (hw : wi FB 4160778367#32) (hd : 0 ≤ x.rd ∧ x.rd < 32) (hs : 0 ≤ x.rs1 ∧ x.rs1 < 32) (ht : 0 ≤ x.rs2 ∧ x.rs2 < 32) :
    FB ||| (lyB [⟨4, 0, 7⟩] x.rd ||| lyB [⟨4, 0, 15⟩] x.rs1 ||| lyB [⟨4, 0, 20⟩] x.rs2 ||| lyB [] x.imm) ||| (if x.aq then 67108864#32 else 0#32) ||| (if x.rl then 33554432#32 else 0#32) = BitVec.ofInt 32 code + (BitVec.ofInt 32 top <<< 27 + (if x.aq then 1#32 <<< 26 else 0#32) + (if x.rl then 1#32 <<< 25 else 0#32)) + BitVec.ofInt 32 f3 <<< 12 + BitVec.ofInt 32 x.rd <<< 7 + BitVec.ofInt 32 x.rs1 <<< 15 + BitVec.ofInt 32 x.rs2 <<< 20 := by
  have eD : lyB [⟨4, 0, 7⟩] x.rd = pkB x.rd 4 0 7 := by
    show 0#32 ||| pkB x.rd 4 0 7 = _
    rw [BitVec.zero_or]
  have eS : lyB [⟨4, 0, 15⟩] x.rs1 = pkB x.rs1 4 0 15 := by
    show 0#32 ||| pkB x.rs1 4 0 15 = _
    rw [BitVec.zero_or]
  have eT : lyB [⟨4, 0, 20⟩] x.rs2 = pkB x.rs2 4 0 20 := by
    show 0#32 ||| pkB x.rs2 4 0 20 = _
    rw [BitVec.zero_or]
  rw [eD, eS, eT]
  simp only [lyB_nil]
  rw [all_add hw (wi_pk x.rd 4 0 7) (wi_pk x.rs1 4 0 15) (wi_pk x.rs2 4 0 20) wi_0 (wi_if x.aq 67108864#32) (wi_if x.rl 33554432#32) (by decide) (by decide) (by decide) (by decide) (by decide) (by decide)]
  rw [reg7 x.rd hd]
  rw [reg15 x.rs1 hs]
  rw [reg20 x.rs2 ht]
  rw [hb]
  rw [b26, b25]
  simp only [BitVec.add_zero]
  generalize BitVec.ofInt 32 top <<< 27 = g0
  generalize BitVec.ofInt 32 f3 <<< 12 = g1
  generalize BitVec.ofInt 32 x.rd <<< 7 = g2
  generalize BitVec.ofInt 32 x.rs1 <<< 15 = g3
  generalize BitVec.ofInt 32 x.rs2 <<< 20 = g4
  generalize BitVec.ofInt 32 code = g5
  generalize (if x.aq then 67108864#32 else 0#32 : BitVec 32) = g6
  generalize (if x.rl then 33554432#32 else 0#32 : BitVec 32) = g7
  clear hb hw
  ac_rfl
theorem wd_L (x : Ins) (FB : BitVec 32) (code f3 top : Int) (hb : FB = BitVec.ofInt 32 code + BitVec.ofInt 32 f3 <<< 12 + BitVec.ofInt 32 top <<< 27) (hw : wi FB 4160778367#32) (hd : 0 ≤ x.rd ∧ x.rd < 32) (hs : 0 ≤ x.rs1 ∧ x.rs1 < 32) (ht : x.rs2 = 0) :
    FB ||| (lyB [⟨4, 0, 7⟩] x.rd ||| lyB [⟨4, 0, 15⟩] x.rs1 ||| lyB [] x.rs2 ||| lyB [] x.imm) ||| (if x.aq then 67108864#32 else 0#32) ||| (if x.rl then 33554432#32 else 0#32) = BitVec.ofInt 32 code + (BitVec.ofInt 32 top <<< 27 + (if x.aq then 1#32 <<< 26 else 0#32) + (if x.rl then 1#32 <<< 25 else 0#32)) + BitVec.ofInt 32 f3 <<< 12 + BitVec.ofInt 32 x.rd <<< 7 + BitVec.ofInt 32 x.rs1 <<< 15 + BitVec.ofInt 32 x.rs2 <<< 20 := by
  have eD : lyB [⟨4, 0, 7⟩] x.rd = pkB x.rd 4 0 7 := by
    show 0#32 ||| pkB x.rd 4 0 7 = _
    rw [BitVec.zero_or]
  have eS : lyB [⟨4, 0, 15⟩] x.rs1 = pkB x.rs1 4 0 15 := by
    show 0#32 ||| pkB x.rs1 4 0 15 = _
    rw [BitVec.zero_or]
  rw [eD, eS]
  simp only [lyB_nil]
  rw [all_add hw (wi_pk x.rd 4 0 7) (wi_pk x.rs1 4 0 15) wi_0 wi_0 (wi_if x.aq 67108864#32) (wi_if x.rl 33554432#32) (by decide) (by decide) (by decide) (by decide) (by decide) (by decide)]
  rw [reg7 x.rd hd]
  rw [reg15 x.rs1 hs]
  rw [ht, z20]
  rw [hb]
  rw [b26, b25]
  simp only [BitVec.add_zero]
  generalize BitVec.ofInt 32 top <<< 27 = g0
  generalize BitVec.ofInt 32 f3 <<< 12 = g1
  generalize BitVec.ofInt 32 x.rd <<< 7 = g2
  generalize BitVec.ofInt 32 x.rs1 <<< 15 = g3
  generalize BitVec.ofInt 32 code = g4
  generalize (if x.aq then 67108864#32 else 0#32 : BitVec 32) = g5
  generalize (if x.rl then 33554432#32 else 0#32 : BitVec 32) = g6
  clear hb hw
  ac_rfl
theorem wd_Z (x : Ins) (FB : BitVec 32) (code f3 top : Int) (hb : FB = BitVec.ofInt 32 top) (hw : wi FB 4294967295#32) (hd : x.rd = 0) (hs : x.rs1 = 0) (ht : x.rs2 = 0) (ha : x.aq = false) (hr : x.rl = false) :
    FB ||| (lyB [] x.rd ||| lyB [] x.rs1 ||| lyB [] x.rs2 ||| lyB [] x.imm) ||| (if x.aq then 67108864#32 else 0#32) ||| (if x.rl then 33554432#32 else 0#32) = BitVec.ofInt 32 top := by
  rw [ha, hr]
  simp only [lyB_nil]
  simp only [Bool.false_eq_true, if_false]
  rw [all_add hw wi_0 wi_0 wi_0 wi_0 wi_0 wi_0 (by decide) (by decide) (by decide) (by decide) (by decide) (by decide)]
  rw [hb]
  simp only [BitVec.add_zero]
set_option maxRecDepth 100000 in
set_option maxHeartbeats 4000000 in
theorem penc_bad (x : Ins) (w : World) (hx : InsOk x) (rc : Int) (hrc : rck x = rc) (h0 : rc ≠ 0) : Calls Try.prog 8 #[.agg (insv x)] w fun e w' => e = .returned (.tuple #[.int .u32 0, .int .i64 rc]) ∧ Below w.heap.size w w' := by
  obtain ⟨z, v, hf, hv⟩ := frow_form x
  have HF : Hid (∀ w : World, Calls Try.prog 10 #[.agg #[.int .i64 x.op, .int .i64 x.rd, .int .i64 x.rs1, .int .i64 x.rs2, .int .i64 x.imm, .bool x.aq, .bool x.rl, .int .i64 x.len, .int .u32 x.raw]] w fun e w' => e = .returned (.tuple #[.agg #[.int .u32 z, v], .int .i64 rc]) ∧ Below w.heap.size w w') := fun w => hrc ▸ hf ▸ formOf_c x w hx
  obtain ⟨W, hW⟩ : ∃ W, w.alloc (.cells #[.int .i64 x.op, .int .i64 x.rd, .int .i64 x.rs1, .int .i64 x.rs2, .int .i64 x.imm, .bool x.aq, .bool x.rl, .int .i64 x.len, .int .u32 x.raw] 24) = W := ⟨_, rfl⟩
  have HBW : Hid (Below w.heap.size w W) := by unfold Hid; rw [← hW]; exact below_al w _
  have K1 : Hid (W.heap[w.heap.size]? = some (.cells #[.int .i64 x.op, .int .i64 x.rd, .int .i64 x.rs1, .int .i64 x.rs2, .int .i64 x.imm, .bool x.aq, .bool x.rl, .int .i64 x.len, .int .u32 x.raw] 24 (0, 0))) := by unfold Hid; rw [← hW]; exact heap_alloc_new w _
  have hq : (rc == 0) = false := by simpa using h0
  clear hf hx hrc
  unfold insv
  go_enter Try.func8, Try.ntmps8
  go_upto_region 1 with fail
  clear hW
  go_wp2_with (first | (refine wpList_load_row (by rfl) _ _ (by rfl) _ (by rfl) 24 _ (0, 0) _ K1.out Try.underlying24 (by rfl) insSize ?_) | (go_at_call 10; refine (HF.out _).mono ?_; rintro e w2 ⟨rfl, hb⟩; have HB2 : Hid (Below W.heap.size W w2) := hb; clear hb) | (refine wpList_store_new (w := w2) (by rfl) 36 _ _ (by rfl) (by rfl) _ #[.int .u32 z, v] (by rfl) (by rfl) formSize2 (by rfl) (formAll _ _ hv) ?_))
  go_ret2
  exact ⟨rfl, HBW.out.trans ((HB2.out.trans ((below_al w2 _).mono HB2.out.size)).mono HBW.out.size)⟩
set_option maxRecDepth 100000 in
set_option maxHeartbeats 4000000 in
theorem penc_ok (x : Ins) (w : World) (hx : InsOk x) (hrc : rck x = 0) (FB : BitVec 32) (f : Nat) (hrow : frow x = #[.int .u32 (n32 FB), .func (.func f) #[] #[]]) (R : BitVec 32)
    (hL : ∀ w : World, Calls Try.prog 15 #[.agg #[.int .u32 (n32 FB), .func (.func f) #[] #[]], .agg #[.int .i64 x.op, .int .i64 x.rd, .int .i64 x.rs1, .int .i64 x.rs2, .int .i64 x.imm, .bool x.aq, .bool x.rl, .int .i64 x.len, .int .u32 x.raw]] w fun e w' => e = .returned (.int .u32 (n32 R)) ∧ Below w.heap.size w w') : Calls Try.prog 8 #[.agg (insv x)] w fun e w' => e = .returned (.tuple #[.int .u32 (n32 R), .int .i64 0]) ∧ Below w.heap.size w w' := by
  have HF : Hid (∀ w : World, Calls Try.prog 10 #[.agg #[.int .i64 x.op, .int .i64 x.rd, .int .i64 x.rs1, .int .i64 x.rs2, .int .i64 x.imm, .bool x.aq, .bool x.rl, .int .i64 x.len, .int .u32 x.raw]] w fun e w' => e = .returned (.tuple #[.agg #[.int .u32 (n32 FB), .func (.func f) #[] #[]], .int .i64 0]) ∧ Below w.heap.size w w') := fun w => (formOf_c x w hx).mono fun e w' ⟨he, hb⟩ => ⟨by rw [he, hrow, hrc], hb⟩
  have HL : Hid (∀ w : World, Calls Try.prog 15 #[.agg #[.int .u32 (n32 FB), .func (.func f) #[] #[]], .agg #[.int .i64 x.op, .int .i64 x.rd, .int .i64 x.rs1, .int .i64 x.rs2, .int .i64 x.imm, .bool x.aq, .bool x.rl, .int .i64 x.len, .int .u32 x.raw]] w fun e w' => e = .returned (.int .u32 (n32 R)) ∧ Below w.heap.size w w') := hL
  obtain ⟨W, hW⟩ : ∃ W, w.alloc (.cells #[.int .i64 x.op, .int .i64 x.rd, .int .i64 x.rs1, .int .i64 x.rs2, .int .i64 x.imm, .bool x.aq, .bool x.rl, .int .i64 x.len, .int .u32 x.raw] 24) = W := ⟨_, rfl⟩
  have HBW : Hid (Below w.heap.size w W) := by unfold Hid; rw [← hW]; exact below_al w _
  have K1 : Hid (W.heap[w.heap.size]? = some (.cells #[.int .i64 x.op, .int .i64 x.rd, .int .i64 x.rs1, .int .i64 x.rs2, .int .i64 x.imm, .bool x.aq, .bool x.rl, .int .i64 x.len, .int .u32 x.raw] 24 (0, 0))) := by unfold Hid; rw [← hW]; exact heap_alloc_new w _
  clear hrow hx hrc hL
  unfold insv
  go_enter Try.func8, Try.ntmps8
  go_upto_region 1 with fail
  clear hW
  go_upto_region 2 with (first | (refine wpList_load_row (by rfl) _ _ (by rfl) _ (by rfl) 24 _ (0, 0) _ K1.out Try.underlying24 (by rfl) insSize ?_) | (go_at_call 10; refine (HF.out _).mono ?_; rintro e w2 ⟨rfl, hb⟩; have HB2 : Hid (Below W.heap.size W w2) := hb; clear hb) | (refine wpList_store_new (w := w2) (by rfl) 36 _ _ (by rfl) (by rfl) _ #[.int .u32 (n32 FB), .func (.func f) #[] #[]] (by rfl) (by rfl) formSize2 (by rfl) (formAll _ _ rfl) ?_))
  generalize hW4 : w2.alloc (.cells #[.int .u32 (n32 FB), .func (.func f) #[] #[]] 36) = W4
  have h24 : Below w2.heap.size w2 W4 := by rw [← hW4]; exact below_al w2 _
  have HB4 : Hid (Below W.heap.size W W4) := HB2.out.trans (h24.mono HB2.out.size)
  have KR : Hid (W4.heap[w2.heap.size]? = some (.cells #[.int .u32 (n32 FB), .func (.func f) #[] #[]] 36 (0, 0))) := by unfold Hid; rw [← hW4]; exact heap_alloc_new w2 _
  have K1b : Hid (W4.heap[w.heap.size]? = some (.cells #[.int .i64 x.op, .int .i64 x.rd, .int .i64 x.rs1, .int .i64 x.rs2, .int .i64 x.imm, .bool x.aq, .bool x.rl, .int .i64 x.len, .int .u32 x.raw] 24 (0, 0))) := (HB4.out.block _ (Array.getElem?_eq_some_iff.1 K1.out).1).trans K1.out
  clear hW4 h24
  generalize w2.heap.size = s2 at *
  go_wp2_with (first | (refine wpList_load_row (by rfl) _ _ (by rfl) _ (by rfl) 24 _ (0, 0) _ K1b.out Try.underlying24 (by rfl) insSize ?_) | (refine wpList_load_row (by rfl) _ _ (by rfl) _ (by rfl) 36 _ (0, 0) _ KR.out Try.underlying36 (by rfl) formSize2 ?_) | (go_at_call 15; refine (HL.out _).mono ?_; rintro e w5 ⟨rfl, hb⟩; have HB5 : Hid (Below W4.heap.size W4 w5) := hb; clear hb))
  go_ret2
  exact ⟨rfl, HBW.out.trans ((HB4.out.trans (HB5.out.mono HB4.out.size)).mono HBW.out.size)⟩
end Go.Proofs.Ytechkhlibdkmpac
