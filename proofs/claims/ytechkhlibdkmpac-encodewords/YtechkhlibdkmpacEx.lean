/-
  EncodeWords: the equations.
-/
import Derived.Test.YtechkhlibdkmpacEv
import Derived.Test.YtechkhlibdkmpacEw
namespace Go.Proofs.Ytechkhlibdkmpac
set_option linter.unusedVariables false
open Go.ChangeShapes Go.WideShapes Go.ChangeAt Go.RowKit Go.Deep
def wi (x A : BitVec 32) : Prop := x &&& A = x
theorem or_add {x y A B : BitVec 32} (hx : wi x A) (hy : wi y B) (h : A &&& B = 0#32) : x ||| y = x + y := by
  refine (BitVec.add_eq_or_of_and_eq_zero x y ?_).symm
  have h1 : x &&& y = (x &&& A) &&& (y &&& B) := by rw [hx, hy]
  have h2 : (x &&& A) &&& (y &&& B) = (x &&& y) &&& (A &&& B) := by ac_rfl
  rw [h1, h2, h, BitVec.and_zero]
theorem wi_or {x y A B : BitVec 32} (hx : wi x A) (hy : wi y B) : wi (x ||| y) (A ||| B) := by
  unfold wi at *
  apply BitVec.eq_of_getLsbD_eq
  intro i hi
  have h1 := congrArg (fun z : BitVec 32 => z.getLsbD i) hx
  have h2 := congrArg (fun z : BitVec 32 => z.getLsbD i) hy
  simp only [BitVec.getLsbD_and] at h1 h2
  simp only [BitVec.getLsbD_and, BitVec.getLsbD_or]
  rw [← h1, ← h2]
  cases x.getLsbD i <;> cases y.getLsbD i <;> cases A.getLsbD i <;> cases B.getLsbD i <;> rfl
theorem wi_pk (v : Int) (hi lo pt : Nat) : wi (pkB v hi lo pt) (BitVec.ofNat 32 (2 ^ (hi - lo + 1) - 1) <<< pt) := by
  unfold wi pkB
  rw [BitVec.shiftLeft_and_distrib, BitVec.and_assoc, BitVec.and_self]
theorem wi_0 : wi 0#32 0#32 := rfl
theorem reg7 (r : Int) (h : 0 ≤ r ∧ r < 32) : pkB r 4 0 7 = BitVec.ofInt 32 r <<< 7 := by
  obtain ⟨n, rfl⟩ := Int.eq_ofNat_of_zero_le h.1
  have : ∀ n : Fin 32, pkB (n.val : Int) 4 0 7 = BitVec.ofInt 32 (n.val : Int) <<< 7 := by decide +kernel
  exact this ⟨n, by omega⟩
theorem reg15 (r : Int) (h : 0 ≤ r ∧ r < 32) : pkB r 4 0 15 = BitVec.ofInt 32 r <<< 15 := by
  obtain ⟨n, rfl⟩ := Int.eq_ofNat_of_zero_le h.1
  have : ∀ n : Fin 32, pkB (n.val : Int) 4 0 15 = BitVec.ofInt 32 (n.val : Int) <<< 15 := by decide +kernel
  exact this ⟨n, by omega⟩
theorem reg20 (r : Int) (h : 0 ≤ r ∧ r < 32) : pkB r 4 0 20 = BitVec.ofInt 32 r <<< 20 := by
  obtain ⟨n, rfl⟩ := Int.eq_ofNat_of_zero_le h.1
  have : ∀ n : Fin 32, pkB (n.val : Int) 4 0 20 = BitVec.ofInt 32 (n.val : Int) <<< 20 := by decide +kernel
  exact this ⟨n, by omega⟩
theorem upU (v : Int) (h : v.tmod 4096 = 0) : pkB v 31 12 12 = BitVec.ofInt 32 v &&& 4294963200#32 := by
  have ht := Int.mul_tdiv_add_tmod v 4096
  obtain ⟨q, hq⟩ : ∃ q, q = v.tdiv 4096 := ⟨_, rfl⟩
  have hv : v = 4096 * q := by rw [hq]; omega
  subst hv
  unfold pkB
  have e1 : (4096 * q) / ((2 ^ 12 : Nat) : Int) = q := by
    show 4096 * q / 4096 = q
    omega
  have e2 : BitVec.ofInt 32 (4096 * q) = BitVec.ofInt 32 q <<< 12 := by
    apply BitVec.eq_of_toNat_eq
    rw [BitVec.toNat_shiftLeft, Nat.shiftLeft_eq, BitVec.toNat_ofInt, BitVec.toNat_ofInt]
    show ((4096 * q) % 4294967296).toNat = (q % 4294967296).toNat * 4096 % 4294967296
    omega
  rw [e1, e2, BitVec.shiftLeft_and_distrib]
  rfl
/-- Seven parts that share no bit are a sum. -/
theorem all_add {F D S T M Q R a b c d e f g : BitVec 32} (hF : wi F a) (hD : wi D b) (hS : wi S c) (hT : wi T d) (hM : wi M e) (hQ : wi Q f) (hR : wi R g)
    (h1 : b &&& c = 0#32) (h2 : (b ||| c) &&& d = 0#32) (h3 : (b ||| c ||| d) &&& e = 0#32) (h4 : a &&& (b ||| c ||| d ||| e) = 0#32) (h5 : (a ||| (b ||| c ||| d ||| e)) &&& f = 0#32) (h6 : (a ||| (b ||| c ||| d ||| e) ||| f) &&& g = 0#32) :
    F ||| (D ||| S ||| T ||| M) ||| Q ||| R = F + (D + S + T + M) + Q + R := by
  have w1 := wi_or hD hS
  have w2 := wi_or w1 hT
  have w3 := wi_or w2 hM
  have w4 := wi_or hF w3
  have w5 := wi_or w4 hQ
  rw [or_add w5 hR h6, or_add w4 hQ h5, or_add hF w3 h4, or_add w2 hM h3, or_add w1 hT h2, or_add hD hS h1]
theorem four_add {p q r s a b c d : BitVec 32} (hp : wi p a) (hq : wi q b) (hr : wi r c) (hs : wi s d) (h1 : a &&& b = 0#32) (h2 : (a ||| b) &&& c = 0#32) (h3 : (a ||| b ||| c) &&& d = 0#32) : p ||| q ||| r ||| s = p + q + r + s := by
  have w1 := wi_or hp hq
  have w2 := wi_or w1 hr
  rw [or_add w2 hs h3, or_add w1 hr h2, or_add hp hq h1]
/-- The bits that tell an operation, as the reference has them. -/
def fbase (f : Fm) : BitVec 32 := if f.kind = 90 then BitVec.ofInt 32 f.top else if f.kind = 85 ∨ f.kind = 74 then BitVec.ofInt 32 f.code else if f.kind = 72 then BitVec.ofInt 32 f.code + BitVec.ofInt 32 f.f3 <<< 12 + BitVec.ofInt 32 f.top <<< 26 else if f.kind = 87 ∨ f.kind = 82 then BitVec.ofInt 32 f.code + BitVec.ofInt 32 f.f3 <<< 12 + BitVec.ofInt 32 f.top <<< 25 else if f.kind = 76 ∨ f.kind = 65 then BitVec.ofInt 32 f.code + BitVec.ofInt 32 f.f3 <<< 12 + BitVec.ofInt 32 f.top <<< 27 else BitVec.ofInt 32 f.code + BitVec.ofInt 32 f.f3 <<< 12
def fmask (k : Int) : BitVec 32 := if k = 90 then 4294967295#32 else if k = 85 ∨ k = 74 then 127#32 else if k = 72 then 4227887231#32 else if k = 87 ∨ k = 82 then 4261441663#32 else if k = 76 ∨ k = 65 then 4160778367#32 else 28799#32
def fbOk (n : Nat) : Bool := n == 0 || (match lk TB n with | some (fb, _) => decide (0 ≤ fb) && (decide (fb < 4294967296) && (BitVec.ofInt 32 fb == fbase (fmOf n) && BitVec.ofInt 32 fb &&& fmask (fmOf n).kind == BitVec.ofInt 32 fb)) | none => false)
set_option maxRecDepth 100000 in
theorem fb_all : ((List.range 97).all fbOk) = true := by decide +kernel
theorem fb_in (op : Int) (h : 1 ≤ op ∧ op ≤ 96) (fb : Int) (f : Nat) (hl : lk TB op = some (fb, f)) : fb = n32 (BitVec.ofInt 32 fb) ∧ BitVec.ofInt 32 fb = fbase (fmOf op) ∧ wi (BitVec.ofInt 32 fb) (fmask (fmOf op).kind) := by
  obtain ⟨n, rfl⟩ := Int.eq_ofNat_of_zero_le (show 0 ≤ op by omega)
  have := List.all_eq_true.1 fb_all n (by simp; omega)
  unfold fbOk at this
  have hn : (n == 0) = false := by simp; omega
  rw [hn, hl] at this
  simp only [Bool.false_or, Bool.and_eq_true, decide_eq_true_eq, beq_iff_eq] at this
  obtain ⟨h0, h1, h2, h3⟩ := this
  refine ⟨?_, h2, h3⟩
  rw [← mod32]
  omega
end Go.Proofs.Ytechkhlibdkmpac
