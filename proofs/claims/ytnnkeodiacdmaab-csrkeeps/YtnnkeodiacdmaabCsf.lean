/-
  The map of the registers is filled.
-/
import Derived.Test.YtnnkeodiacdmaabCse
import Derived.Deep.Cut
namespace Go.Proofs.Ytnnkeodiacdmaab
set_option linter.unusedVariables false
set_option maxRecDepth 100000
open Go.ChangeShapes Go.WideShapes Go.ChangeAt Go.RowKit Go.Deep
open Go.ChangeMaps Go.MapKept
theorem Sg.c82 {w0 w : World} {g b n : Nat} {k : Cp} {m t : BitVec 64} {T : Int → Option Value} (h : Sg w0 g k m t T b n w) : w.cell? ⟨g, 82, none⟩ = some (.int .u64 (n64 m)) := (Row.stc h.sr).2.1
theorem Sg.c83 {w0 w : World} {g b n : Nat} {k : Cp} {m t : BitVec 64} {T : Int → Option Value} (h : Sg w0 g k m t T b n w) : w.cell? ⟨g, 83, none⟩ = some (.int .u64 (n64 t)) := (Row.stc h.sr).2.2
def TM (g : Nat) (m : BitVec 64) (T : Int → Option Value) : Int → Option Value := (tset (tset (tset (tset (tset (tset (tset (tset (tset (tset (tset (tset (tset T 768 (rgv 51 52 (.agg #[.pointer (some ⟨g, 35, none⟩)]))) 769 (rgv 53 54 (.int .u64 9223372036855828741))) 772 (rgv 55 56 (.agg #[.pointer (some ⟨g, 37, none⟩), .int .u64 2184]))) 773 (rgv 55 56 (.agg #[.pointer (some ⟨g, 36, none⟩), .int .u64 18446744073709551613]))) 774 (rgv 55 56 (.agg #[.pointer (some ⟨g, 38, none⟩), .int .u64 7]))) 778 (rgv 55 56 (.agg #[.pointer (some ⟨g, 40, none⟩), .int .u64 1]))) 800 (rgv 55 56 (.agg #[.pointer (some ⟨g, 39, none⟩), .int .u64 5]))) 832 (rgv 55 56 (.agg #[.pointer (some ⟨g, 41, none⟩), .int .u64 18446744073709551615]))) 833 (rgv 55 56 (.agg #[.pointer (some ⟨g, 42, none⟩), .int .u64 18446744073709551614]))) 834 (rgv 55 56 (.agg #[.pointer (some ⟨g, 43, none⟩), .int .u64 18446744073709551615]))) 835 (rgv 55 56 (.agg #[.pointer (some ⟨g, 44, none⟩), .int .u64 18446744073709551615]))) 836 (rgv 53 54 (.int .u64 (n64 (m &&& 2184#64))))) 3859 (rgv 53 54 (.int .u64 1)))
def TC (g : Nat) (k : Cp) (t : BitVec 64) (T : Int → Option Value) : Int → Option Value := (tset (tset (tset (tset (tset T 2816 (rgv 55 56 (.agg #[.pointer (some ⟨g, 45, none⟩), .int .u64 18446744073709551615]))) 2818 (rgv 55 56 (.agg #[.pointer (some ⟨g, 46, none⟩), .int .u64 18446744073709551615]))) 3072 (rgv 53 54 (.int .u64 (n64 (k.s 10))))) 3073 (rgv 53 54 (.int .u64 (n64 t)))) 3074 (rgv 53 54 (.int .u64 (n64 (k.s 11)))))
set_option maxRecDepth 100000 in
set_option maxHeartbeats 2000000 in
theorem addMachine_c {w0 w : World} {g b n : Nat} {k : Cp} {m t : BitVec 64} {T : Int → Option Value} (h : Sg w0 g k m t T b n w) (hn : n ≤ 1000) : Calls Try.prog 34 #[.pointer (some ⟨g, 0, none⟩), .map (some b)] w fun e w' => e = .returned (.tuple #[]) ∧ Sg w0 g k m t (TM g m T) b (n + 13) w' := by
  have b1 : bits .and .u64 (n64 m) 2184 = n64 (m &&& 2184#64) := n64_and m 2184#64
  obtain ⟨v0, hv0⟩ : ∃ v0, v0 = w := ⟨_, rfl⟩
  have H0 : Hid (Sg w0 g k m t T b n v0) := by rw [hv0]; exact h
  rw [← hv0]
  clear h hv0
  go_enter Try.func34, Try.ntmps34
  go_upto_region 1 with fail
  go_upto_region 2 with (first | (go_at_call 45; refine (staR _ H0.out).mono ?_; rintro e u0 ⟨rfl, hs⟩; have G0 : Hid (Sg w0 g k m t T b n u0) := hs; clear hs) | (refine wpList_put (by rfl) _ _ _ (by rfl) (by rfl) G0.out (by omega) 768 _ (by decide) (by rfl) (by rfl) (by rfl) ?_; intro v1 hs; have H1 : Hid (Sg w0 g k m t (tset T 768 (rgv 51 52 (.agg #[.pointer (some ⟨g, 35, none⟩)]))) b (n + 1) v1) := hs; clear hs))
  clear H0 G0
  go_upto_region 3 with (first | (go_at_call 46; refine (tldR _ H1.out).mono ?_; rintro e u1 ⟨rfl, hs⟩; have G1 : Hid (Sg w0 g k m t (tset T 768 (rgv 51 52 (.agg #[.pointer (some ⟨g, 35, none⟩)]))) b (n + 1) u1) := hs; clear hs) | (refine wpList_put (by rfl) _ _ _ (by rfl) (by rfl) G1.out (by omega) 769 _ (by decide) (by rfl) (by rfl) (by rfl) ?_; intro v2 hs; have H2 : Hid (Sg w0 g k m t (tset (tset T 768 (rgv 51 52 (.agg #[.pointer (some ⟨g, 35, none⟩)]))) 769 (rgv 53 54 (.int .u64 9223372036855828741))) b (n + 2) v2) := hs; clear hs))
  clear H1 G1
  go_upto_region 4 with (first | (go_at_call 47; refine (wrdR _ _ H2.out).mono ?_; rintro e u2 ⟨rfl, hs⟩; have G2 : Hid (Sg w0 g k m t (tset (tset T 768 (rgv 51 52 (.agg #[.pointer (some ⟨g, 35, none⟩)]))) 769 (rgv 53 54 (.int .u64 9223372036855828741))) b (n + 2) u2) := hs; clear hs) | (refine wpList_put (by rfl) _ _ _ (by rfl) (by rfl) G2.out (by omega) 772 _ (by decide) (by rfl) (by rfl) (by rfl) ?_; intro v3 hs; have H3 : Hid (Sg w0 g k m t (tset (tset (tset T 768 (rgv 51 52 (.agg #[.pointer (some ⟨g, 35, none⟩)]))) 769 (rgv 53 54 (.int .u64 9223372036855828741))) 772 (rgv 55 56 (.agg #[.pointer (some ⟨g, 37, none⟩), .int .u64 2184]))) b (n + 3) v3) := hs; clear hs))
  clear H2 G2
  go_upto_region 5 with (first | (go_at_call 47; refine (wrdR _ _ H3.out).mono ?_; rintro e u3 ⟨rfl, hs⟩; have G3 : Hid (Sg w0 g k m t (tset (tset (tset T 768 (rgv 51 52 (.agg #[.pointer (some ⟨g, 35, none⟩)]))) 769 (rgv 53 54 (.int .u64 9223372036855828741))) 772 (rgv 55 56 (.agg #[.pointer (some ⟨g, 37, none⟩), .int .u64 2184]))) b (n + 3) u3) := hs; clear hs) | (refine wpList_put (by rfl) _ _ _ (by rfl) (by rfl) G3.out (by omega) 773 _ (by decide) (by rfl) (by rfl) (by rfl) ?_; intro v4 hs; have H4 : Hid (Sg w0 g k m t (tset (tset (tset (tset T 768 (rgv 51 52 (.agg #[.pointer (some ⟨g, 35, none⟩)]))) 769 (rgv 53 54 (.int .u64 9223372036855828741))) 772 (rgv 55 56 (.agg #[.pointer (some ⟨g, 37, none⟩), .int .u64 2184]))) 773 (rgv 55 56 (.agg #[.pointer (some ⟨g, 36, none⟩), .int .u64 18446744073709551613]))) b (n + 4) v4) := hs; clear hs))
  clear H3 G3
  go_upto_region 6 with (first | (go_at_call 47; refine (wrdR _ _ H4.out).mono ?_; rintro e u4 ⟨rfl, hs⟩; have G4 : Hid (Sg w0 g k m t (tset (tset (tset (tset T 768 (rgv 51 52 (.agg #[.pointer (some ⟨g, 35, none⟩)]))) 769 (rgv 53 54 (.int .u64 9223372036855828741))) 772 (rgv 55 56 (.agg #[.pointer (some ⟨g, 37, none⟩), .int .u64 2184]))) 773 (rgv 55 56 (.agg #[.pointer (some ⟨g, 36, none⟩), .int .u64 18446744073709551613]))) b (n + 4) u4) := hs; clear hs) | (refine wpList_put (by rfl) _ _ _ (by rfl) (by rfl) G4.out (by omega) 774 _ (by decide) (by rfl) (by rfl) (by rfl) ?_; intro v5 hs; have H5 : Hid (Sg w0 g k m t (tset (tset (tset (tset (tset T 768 (rgv 51 52 (.agg #[.pointer (some ⟨g, 35, none⟩)]))) 769 (rgv 53 54 (.int .u64 9223372036855828741))) 772 (rgv 55 56 (.agg #[.pointer (some ⟨g, 37, none⟩), .int .u64 2184]))) 773 (rgv 55 56 (.agg #[.pointer (some ⟨g, 36, none⟩), .int .u64 18446744073709551613]))) 774 (rgv 55 56 (.agg #[.pointer (some ⟨g, 38, none⟩), .int .u64 7]))) b (n + 5) v5) := hs; clear hs))
  clear H4 G4
  go_upto_region 7 with (first | (go_at_call 47; refine (wrdR _ _ H5.out).mono ?_; rintro e u5 ⟨rfl, hs⟩; have G5 : Hid (Sg w0 g k m t (tset (tset (tset (tset (tset T 768 (rgv 51 52 (.agg #[.pointer (some ⟨g, 35, none⟩)]))) 769 (rgv 53 54 (.int .u64 9223372036855828741))) 772 (rgv 55 56 (.agg #[.pointer (some ⟨g, 37, none⟩), .int .u64 2184]))) 773 (rgv 55 56 (.agg #[.pointer (some ⟨g, 36, none⟩), .int .u64 18446744073709551613]))) 774 (rgv 55 56 (.agg #[.pointer (some ⟨g, 38, none⟩), .int .u64 7]))) b (n + 5) u5) := hs; clear hs) | (refine wpList_put (by rfl) _ _ _ (by rfl) (by rfl) G5.out (by omega) 778 _ (by decide) (by rfl) (by rfl) (by rfl) ?_; intro v6 hs; have H6 : Hid (Sg w0 g k m t (tset (tset (tset (tset (tset (tset T 768 (rgv 51 52 (.agg #[.pointer (some ⟨g, 35, none⟩)]))) 769 (rgv 53 54 (.int .u64 9223372036855828741))) 772 (rgv 55 56 (.agg #[.pointer (some ⟨g, 37, none⟩), .int .u64 2184]))) 773 (rgv 55 56 (.agg #[.pointer (some ⟨g, 36, none⟩), .int .u64 18446744073709551613]))) 774 (rgv 55 56 (.agg #[.pointer (some ⟨g, 38, none⟩), .int .u64 7]))) 778 (rgv 55 56 (.agg #[.pointer (some ⟨g, 40, none⟩), .int .u64 1]))) b (n + 6) v6) := hs; clear hs))
  clear H5 G5
  go_upto_region 8 with (first | (go_at_call 47; refine (wrdR _ _ H6.out).mono ?_; rintro e u6 ⟨rfl, hs⟩; have G6 : Hid (Sg w0 g k m t (tset (tset (tset (tset (tset (tset T 768 (rgv 51 52 (.agg #[.pointer (some ⟨g, 35, none⟩)]))) 769 (rgv 53 54 (.int .u64 9223372036855828741))) 772 (rgv 55 56 (.agg #[.pointer (some ⟨g, 37, none⟩), .int .u64 2184]))) 773 (rgv 55 56 (.agg #[.pointer (some ⟨g, 36, none⟩), .int .u64 18446744073709551613]))) 774 (rgv 55 56 (.agg #[.pointer (some ⟨g, 38, none⟩), .int .u64 7]))) 778 (rgv 55 56 (.agg #[.pointer (some ⟨g, 40, none⟩), .int .u64 1]))) b (n + 6) u6) := hs; clear hs) | (refine wpList_put (by rfl) _ _ _ (by rfl) (by rfl) G6.out (by omega) 800 _ (by decide) (by rfl) (by rfl) (by rfl) ?_; intro v7 hs; have H7 : Hid (Sg w0 g k m t (tset (tset (tset (tset (tset (tset (tset T 768 (rgv 51 52 (.agg #[.pointer (some ⟨g, 35, none⟩)]))) 769 (rgv 53 54 (.int .u64 9223372036855828741))) 772 (rgv 55 56 (.agg #[.pointer (some ⟨g, 37, none⟩), .int .u64 2184]))) 773 (rgv 55 56 (.agg #[.pointer (some ⟨g, 36, none⟩), .int .u64 18446744073709551613]))) 774 (rgv 55 56 (.agg #[.pointer (some ⟨g, 38, none⟩), .int .u64 7]))) 778 (rgv 55 56 (.agg #[.pointer (some ⟨g, 40, none⟩), .int .u64 1]))) 800 (rgv 55 56 (.agg #[.pointer (some ⟨g, 39, none⟩), .int .u64 5]))) b (n + 7) v7) := hs; clear hs))
  clear H6 G6
  go_upto_region 9 with (first | (go_at_call 47; refine (wrdR _ _ H7.out).mono ?_; rintro e u7 ⟨rfl, hs⟩; have G7 : Hid (Sg w0 g k m t (tset (tset (tset (tset (tset (tset (tset T 768 (rgv 51 52 (.agg #[.pointer (some ⟨g, 35, none⟩)]))) 769 (rgv 53 54 (.int .u64 9223372036855828741))) 772 (rgv 55 56 (.agg #[.pointer (some ⟨g, 37, none⟩), .int .u64 2184]))) 773 (rgv 55 56 (.agg #[.pointer (some ⟨g, 36, none⟩), .int .u64 18446744073709551613]))) 774 (rgv 55 56 (.agg #[.pointer (some ⟨g, 38, none⟩), .int .u64 7]))) 778 (rgv 55 56 (.agg #[.pointer (some ⟨g, 40, none⟩), .int .u64 1]))) 800 (rgv 55 56 (.agg #[.pointer (some ⟨g, 39, none⟩), .int .u64 5]))) b (n + 7) u7) := hs; clear hs) | (refine wpList_put (by rfl) _ _ _ (by rfl) (by rfl) G7.out (by omega) 832 _ (by decide) (by rfl) (by rfl) (by rfl) ?_; intro v8 hs; have H8 : Hid (Sg w0 g k m t (tset (tset (tset (tset (tset (tset (tset (tset T 768 (rgv 51 52 (.agg #[.pointer (some ⟨g, 35, none⟩)]))) 769 (rgv 53 54 (.int .u64 9223372036855828741))) 772 (rgv 55 56 (.agg #[.pointer (some ⟨g, 37, none⟩), .int .u64 2184]))) 773 (rgv 55 56 (.agg #[.pointer (some ⟨g, 36, none⟩), .int .u64 18446744073709551613]))) 774 (rgv 55 56 (.agg #[.pointer (some ⟨g, 38, none⟩), .int .u64 7]))) 778 (rgv 55 56 (.agg #[.pointer (some ⟨g, 40, none⟩), .int .u64 1]))) 800 (rgv 55 56 (.agg #[.pointer (some ⟨g, 39, none⟩), .int .u64 5]))) 832 (rgv 55 56 (.agg #[.pointer (some ⟨g, 41, none⟩), .int .u64 18446744073709551615]))) b (n + 8) v8) := hs; clear hs))
  clear H7 G7
  go_upto_region 10 with (first | (go_at_call 47; refine (wrdR _ _ H8.out).mono ?_; rintro e u8 ⟨rfl, hs⟩; have G8 : Hid (Sg w0 g k m t (tset (tset (tset (tset (tset (tset (tset (tset T 768 (rgv 51 52 (.agg #[.pointer (some ⟨g, 35, none⟩)]))) 769 (rgv 53 54 (.int .u64 9223372036855828741))) 772 (rgv 55 56 (.agg #[.pointer (some ⟨g, 37, none⟩), .int .u64 2184]))) 773 (rgv 55 56 (.agg #[.pointer (some ⟨g, 36, none⟩), .int .u64 18446744073709551613]))) 774 (rgv 55 56 (.agg #[.pointer (some ⟨g, 38, none⟩), .int .u64 7]))) 778 (rgv 55 56 (.agg #[.pointer (some ⟨g, 40, none⟩), .int .u64 1]))) 800 (rgv 55 56 (.agg #[.pointer (some ⟨g, 39, none⟩), .int .u64 5]))) 832 (rgv 55 56 (.agg #[.pointer (some ⟨g, 41, none⟩), .int .u64 18446744073709551615]))) b (n + 8) u8) := hs; clear hs) | (refine wpList_put (by rfl) _ _ _ (by rfl) (by rfl) G8.out (by omega) 833 _ (by decide) (by rfl) (by rfl) (by rfl) ?_; intro v9 hs; have H9 : Hid (Sg w0 g k m t (tset (tset (tset (tset (tset (tset (tset (tset (tset T 768 (rgv 51 52 (.agg #[.pointer (some ⟨g, 35, none⟩)]))) 769 (rgv 53 54 (.int .u64 9223372036855828741))) 772 (rgv 55 56 (.agg #[.pointer (some ⟨g, 37, none⟩), .int .u64 2184]))) 773 (rgv 55 56 (.agg #[.pointer (some ⟨g, 36, none⟩), .int .u64 18446744073709551613]))) 774 (rgv 55 56 (.agg #[.pointer (some ⟨g, 38, none⟩), .int .u64 7]))) 778 (rgv 55 56 (.agg #[.pointer (some ⟨g, 40, none⟩), .int .u64 1]))) 800 (rgv 55 56 (.agg #[.pointer (some ⟨g, 39, none⟩), .int .u64 5]))) 832 (rgv 55 56 (.agg #[.pointer (some ⟨g, 41, none⟩), .int .u64 18446744073709551615]))) 833 (rgv 55 56 (.agg #[.pointer (some ⟨g, 42, none⟩), .int .u64 18446744073709551614]))) b (n + 9) v9) := hs; clear hs))
  clear H8 G8
  go_upto_region 11 with (first | (go_at_call 47; refine (wrdR _ _ H9.out).mono ?_; rintro e u9 ⟨rfl, hs⟩; have G9 : Hid (Sg w0 g k m t (tset (tset (tset (tset (tset (tset (tset (tset (tset T 768 (rgv 51 52 (.agg #[.pointer (some ⟨g, 35, none⟩)]))) 769 (rgv 53 54 (.int .u64 9223372036855828741))) 772 (rgv 55 56 (.agg #[.pointer (some ⟨g, 37, none⟩), .int .u64 2184]))) 773 (rgv 55 56 (.agg #[.pointer (some ⟨g, 36, none⟩), .int .u64 18446744073709551613]))) 774 (rgv 55 56 (.agg #[.pointer (some ⟨g, 38, none⟩), .int .u64 7]))) 778 (rgv 55 56 (.agg #[.pointer (some ⟨g, 40, none⟩), .int .u64 1]))) 800 (rgv 55 56 (.agg #[.pointer (some ⟨g, 39, none⟩), .int .u64 5]))) 832 (rgv 55 56 (.agg #[.pointer (some ⟨g, 41, none⟩), .int .u64 18446744073709551615]))) 833 (rgv 55 56 (.agg #[.pointer (some ⟨g, 42, none⟩), .int .u64 18446744073709551614]))) b (n + 9) u9) := hs; clear hs) | (refine wpList_put (by rfl) _ _ _ (by rfl) (by rfl) G9.out (by omega) 834 _ (by decide) (by rfl) (by rfl) (by rfl) ?_; intro v10 hs; have H10 : Hid (Sg w0 g k m t (tset (tset (tset (tset (tset (tset (tset (tset (tset (tset T 768 (rgv 51 52 (.agg #[.pointer (some ⟨g, 35, none⟩)]))) 769 (rgv 53 54 (.int .u64 9223372036855828741))) 772 (rgv 55 56 (.agg #[.pointer (some ⟨g, 37, none⟩), .int .u64 2184]))) 773 (rgv 55 56 (.agg #[.pointer (some ⟨g, 36, none⟩), .int .u64 18446744073709551613]))) 774 (rgv 55 56 (.agg #[.pointer (some ⟨g, 38, none⟩), .int .u64 7]))) 778 (rgv 55 56 (.agg #[.pointer (some ⟨g, 40, none⟩), .int .u64 1]))) 800 (rgv 55 56 (.agg #[.pointer (some ⟨g, 39, none⟩), .int .u64 5]))) 832 (rgv 55 56 (.agg #[.pointer (some ⟨g, 41, none⟩), .int .u64 18446744073709551615]))) 833 (rgv 55 56 (.agg #[.pointer (some ⟨g, 42, none⟩), .int .u64 18446744073709551614]))) 834 (rgv 55 56 (.agg #[.pointer (some ⟨g, 43, none⟩), .int .u64 18446744073709551615]))) b (n + 10) v10) := hs; clear hs))
  clear H9 G9
  go_upto_region 12 with (first | (go_at_call 47; refine (wrdR _ _ H10.out).mono ?_; rintro e u10 ⟨rfl, hs⟩; have G10 : Hid (Sg w0 g k m t (tset (tset (tset (tset (tset (tset (tset (tset (tset (tset T 768 (rgv 51 52 (.agg #[.pointer (some ⟨g, 35, none⟩)]))) 769 (rgv 53 54 (.int .u64 9223372036855828741))) 772 (rgv 55 56 (.agg #[.pointer (some ⟨g, 37, none⟩), .int .u64 2184]))) 773 (rgv 55 56 (.agg #[.pointer (some ⟨g, 36, none⟩), .int .u64 18446744073709551613]))) 774 (rgv 55 56 (.agg #[.pointer (some ⟨g, 38, none⟩), .int .u64 7]))) 778 (rgv 55 56 (.agg #[.pointer (some ⟨g, 40, none⟩), .int .u64 1]))) 800 (rgv 55 56 (.agg #[.pointer (some ⟨g, 39, none⟩), .int .u64 5]))) 832 (rgv 55 56 (.agg #[.pointer (some ⟨g, 41, none⟩), .int .u64 18446744073709551615]))) 833 (rgv 55 56 (.agg #[.pointer (some ⟨g, 42, none⟩), .int .u64 18446744073709551614]))) 834 (rgv 55 56 (.agg #[.pointer (some ⟨g, 43, none⟩), .int .u64 18446744073709551615]))) b (n + 10) u10) := hs; clear hs) | (refine wpList_put (by rfl) _ _ _ (by rfl) (by rfl) G10.out (by omega) 835 _ (by decide) (by rfl) (by rfl) (by rfl) ?_; intro v11 hs; have H11 : Hid (Sg w0 g k m t (tset (tset (tset (tset (tset (tset (tset (tset (tset (tset (tset T 768 (rgv 51 52 (.agg #[.pointer (some ⟨g, 35, none⟩)]))) 769 (rgv 53 54 (.int .u64 9223372036855828741))) 772 (rgv 55 56 (.agg #[.pointer (some ⟨g, 37, none⟩), .int .u64 2184]))) 773 (rgv 55 56 (.agg #[.pointer (some ⟨g, 36, none⟩), .int .u64 18446744073709551613]))) 774 (rgv 55 56 (.agg #[.pointer (some ⟨g, 38, none⟩), .int .u64 7]))) 778 (rgv 55 56 (.agg #[.pointer (some ⟨g, 40, none⟩), .int .u64 1]))) 800 (rgv 55 56 (.agg #[.pointer (some ⟨g, 39, none⟩), .int .u64 5]))) 832 (rgv 55 56 (.agg #[.pointer (some ⟨g, 41, none⟩), .int .u64 18446744073709551615]))) 833 (rgv 55 56 (.agg #[.pointer (some ⟨g, 42, none⟩), .int .u64 18446744073709551614]))) 834 (rgv 55 56 (.agg #[.pointer (some ⟨g, 43, none⟩), .int .u64 18446744073709551615]))) 835 (rgv 55 56 (.agg #[.pointer (some ⟨g, 44, none⟩), .int .u64 18446744073709551615]))) b (n + 11) v11) := hs; clear hs))
  clear H10 G10
  have c9 := Sg.c82 H11.out
  go_upto_region 13 with (first | (go_at_call 46; refine (tldR _ H11.out).mono ?_; rintro e u11 ⟨rfl, hs⟩; have G11 : Hid (Sg w0 g k m t (tset (tset (tset (tset (tset (tset (tset (tset (tset (tset (tset T 768 (rgv 51 52 (.agg #[.pointer (some ⟨g, 35, none⟩)]))) 769 (rgv 53 54 (.int .u64 9223372036855828741))) 772 (rgv 55 56 (.agg #[.pointer (some ⟨g, 37, none⟩), .int .u64 2184]))) 773 (rgv 55 56 (.agg #[.pointer (some ⟨g, 36, none⟩), .int .u64 18446744073709551613]))) 774 (rgv 55 56 (.agg #[.pointer (some ⟨g, 38, none⟩), .int .u64 7]))) 778 (rgv 55 56 (.agg #[.pointer (some ⟨g, 40, none⟩), .int .u64 1]))) 800 (rgv 55 56 (.agg #[.pointer (some ⟨g, 39, none⟩), .int .u64 5]))) 832 (rgv 55 56 (.agg #[.pointer (some ⟨g, 41, none⟩), .int .u64 18446744073709551615]))) 833 (rgv 55 56 (.agg #[.pointer (some ⟨g, 42, none⟩), .int .u64 18446744073709551614]))) 834 (rgv 55 56 (.agg #[.pointer (some ⟨g, 43, none⟩), .int .u64 18446744073709551615]))) 835 (rgv 55 56 (.agg #[.pointer (some ⟨g, 44, none⟩), .int .u64 18446744073709551615]))) b (n + 11) u11) := hs; clear hs) | (refine wpList_put (by rfl) _ _ _ (by rfl) (by rfl) G11.out (by omega) 836 _ (by decide) (by rfl) (by rfl) (by rfl) ?_; intro v12 hs; have H12 : Hid (Sg w0 g k m t (tset (tset (tset (tset (tset (tset (tset (tset (tset (tset (tset (tset T 768 (rgv 51 52 (.agg #[.pointer (some ⟨g, 35, none⟩)]))) 769 (rgv 53 54 (.int .u64 9223372036855828741))) 772 (rgv 55 56 (.agg #[.pointer (some ⟨g, 37, none⟩), .int .u64 2184]))) 773 (rgv 55 56 (.agg #[.pointer (some ⟨g, 36, none⟩), .int .u64 18446744073709551613]))) 774 (rgv 55 56 (.agg #[.pointer (some ⟨g, 38, none⟩), .int .u64 7]))) 778 (rgv 55 56 (.agg #[.pointer (some ⟨g, 40, none⟩), .int .u64 1]))) 800 (rgv 55 56 (.agg #[.pointer (some ⟨g, 39, none⟩), .int .u64 5]))) 832 (rgv 55 56 (.agg #[.pointer (some ⟨g, 41, none⟩), .int .u64 18446744073709551615]))) 833 (rgv 55 56 (.agg #[.pointer (some ⟨g, 42, none⟩), .int .u64 18446744073709551614]))) 834 (rgv 55 56 (.agg #[.pointer (some ⟨g, 43, none⟩), .int .u64 18446744073709551615]))) 835 (rgv 55 56 (.agg #[.pointer (some ⟨g, 44, none⟩), .int .u64 18446744073709551615]))) 836 (rgv 53 54 (.int .u64 (n64 (m &&& 2184#64))))) b (n + 12) v12) := hs; clear hs))
  clear H11 G11 c9
  go_wp2_with (first | (go_at_call 46; refine (tldR _ H12.out).mono ?_; rintro e u12 ⟨rfl, hs⟩; have G12 : Hid (Sg w0 g k m t (tset (tset (tset (tset (tset (tset (tset (tset (tset (tset (tset (tset T 768 (rgv 51 52 (.agg #[.pointer (some ⟨g, 35, none⟩)]))) 769 (rgv 53 54 (.int .u64 9223372036855828741))) 772 (rgv 55 56 (.agg #[.pointer (some ⟨g, 37, none⟩), .int .u64 2184]))) 773 (rgv 55 56 (.agg #[.pointer (some ⟨g, 36, none⟩), .int .u64 18446744073709551613]))) 774 (rgv 55 56 (.agg #[.pointer (some ⟨g, 38, none⟩), .int .u64 7]))) 778 (rgv 55 56 (.agg #[.pointer (some ⟨g, 40, none⟩), .int .u64 1]))) 800 (rgv 55 56 (.agg #[.pointer (some ⟨g, 39, none⟩), .int .u64 5]))) 832 (rgv 55 56 (.agg #[.pointer (some ⟨g, 41, none⟩), .int .u64 18446744073709551615]))) 833 (rgv 55 56 (.agg #[.pointer (some ⟨g, 42, none⟩), .int .u64 18446744073709551614]))) 834 (rgv 55 56 (.agg #[.pointer (some ⟨g, 43, none⟩), .int .u64 18446744073709551615]))) 835 (rgv 55 56 (.agg #[.pointer (some ⟨g, 44, none⟩), .int .u64 18446744073709551615]))) 836 (rgv 53 54 (.int .u64 (n64 (m &&& 2184#64))))) b (n + 12) u12) := hs; clear hs) | (refine wpList_put (by rfl) _ _ _ (by rfl) (by rfl) G12.out (by omega) 3859 _ (by decide) (by rfl) (by rfl) (by rfl) ?_; intro v13 hs; have H13 : Hid (Sg w0 g k m t (tset (tset (tset (tset (tset (tset (tset (tset (tset (tset (tset (tset (tset T 768 (rgv 51 52 (.agg #[.pointer (some ⟨g, 35, none⟩)]))) 769 (rgv 53 54 (.int .u64 9223372036855828741))) 772 (rgv 55 56 (.agg #[.pointer (some ⟨g, 37, none⟩), .int .u64 2184]))) 773 (rgv 55 56 (.agg #[.pointer (some ⟨g, 36, none⟩), .int .u64 18446744073709551613]))) 774 (rgv 55 56 (.agg #[.pointer (some ⟨g, 38, none⟩), .int .u64 7]))) 778 (rgv 55 56 (.agg #[.pointer (some ⟨g, 40, none⟩), .int .u64 1]))) 800 (rgv 55 56 (.agg #[.pointer (some ⟨g, 39, none⟩), .int .u64 5]))) 832 (rgv 55 56 (.agg #[.pointer (some ⟨g, 41, none⟩), .int .u64 18446744073709551615]))) 833 (rgv 55 56 (.agg #[.pointer (some ⟨g, 42, none⟩), .int .u64 18446744073709551614]))) 834 (rgv 55 56 (.agg #[.pointer (some ⟨g, 43, none⟩), .int .u64 18446744073709551615]))) 835 (rgv 55 56 (.agg #[.pointer (some ⟨g, 44, none⟩), .int .u64 18446744073709551615]))) 836 (rgv 53 54 (.int .u64 (n64 (m &&& 2184#64))))) 3859 (rgv 53 54 (.int .u64 1))) b (n + 13) v13) := hs; clear hs))
  clear H12 G12
  go_end0
  exact ⟨rfl, H13.out⟩
set_option maxRecDepth 100000 in
set_option maxHeartbeats 2000000 in
theorem addCounters_c {w0 w : World} {g b n : Nat} {k : Cp} {m t : BitVec 64} {T : Int → Option Value} (h : Sg w0 g k m t T b n w) (hn : n ≤ 1000) : Calls Try.prog 36 #[.pointer (some ⟨g, 0, none⟩), .map (some b)] w fun e w' => e = .returned (.tuple #[]) ∧ Sg w0 g k m t (TC g k t T) b (n + 5) w' := by
  obtain ⟨v0, hv0⟩ : ∃ v0, v0 = w := ⟨_, rfl⟩
  have H0 : Hid (Sg w0 g k m t T b n v0) := by rw [hv0]; exact h
  rw [← hv0]
  clear h hv0
  go_enter Try.func36, Try.ntmps36
  go_upto_region 1 with fail
  go_upto_region 2 with (first | (go_at_call 47; refine (wrdR _ _ H0.out).mono ?_; rintro e u0 ⟨rfl, hs⟩; have G0 : Hid (Sg w0 g k m t T b n u0) := hs; clear hs) | (refine wpList_put (by rfl) _ _ _ (by rfl) (by rfl) G0.out (by omega) 2816 _ (by decide) (by rfl) (by rfl) (by rfl) ?_; intro v1 hs; have H1 : Hid (Sg w0 g k m t (tset T 2816 (rgv 55 56 (.agg #[.pointer (some ⟨g, 45, none⟩), .int .u64 18446744073709551615]))) b (n + 1) v1) := hs; clear hs))
  clear H0 G0
  go_upto_region 3 with (first | (go_at_call 47; refine (wrdR _ _ H1.out).mono ?_; rintro e u1 ⟨rfl, hs⟩; have G1 : Hid (Sg w0 g k m t (tset T 2816 (rgv 55 56 (.agg #[.pointer (some ⟨g, 45, none⟩), .int .u64 18446744073709551615]))) b (n + 1) u1) := hs; clear hs) | (refine wpList_put (by rfl) _ _ _ (by rfl) (by rfl) G1.out (by omega) 2818 _ (by decide) (by rfl) (by rfl) (by rfl) ?_; intro v2 hs; have H2 : Hid (Sg w0 g k m t (tset (tset T 2816 (rgv 55 56 (.agg #[.pointer (some ⟨g, 45, none⟩), .int .u64 18446744073709551615]))) 2818 (rgv 55 56 (.agg #[.pointer (some ⟨g, 46, none⟩), .int .u64 18446744073709551615]))) b (n + 2) v2) := hs; clear hs))
  clear H1 G1
  have c9 := Sr.s (Sg.sr H2.out) 10 (by omega)
  go_upto_region 4 with (first | (go_at_call 46; refine (tldR _ H2.out).mono ?_; rintro e u2 ⟨rfl, hs⟩; have G2 : Hid (Sg w0 g k m t (tset (tset T 2816 (rgv 55 56 (.agg #[.pointer (some ⟨g, 45, none⟩), .int .u64 18446744073709551615]))) 2818 (rgv 55 56 (.agg #[.pointer (some ⟨g, 46, none⟩), .int .u64 18446744073709551615]))) b (n + 2) u2) := hs; clear hs) | (refine wpList_put (by rfl) _ _ _ (by rfl) (by rfl) G2.out (by omega) 3072 _ (by decide) (by rfl) (by rfl) (by rfl) ?_; intro v3 hs; have H3 : Hid (Sg w0 g k m t (tset (tset (tset T 2816 (rgv 55 56 (.agg #[.pointer (some ⟨g, 45, none⟩), .int .u64 18446744073709551615]))) 2818 (rgv 55 56 (.agg #[.pointer (some ⟨g, 46, none⟩), .int .u64 18446744073709551615]))) 3072 (rgv 53 54 (.int .u64 (n64 (k.s 10))))) b (n + 3) v3) := hs; clear hs))
  clear H2 G2 c9
  have c9 := Sg.c83 H3.out
  go_upto_region 5 with (first | (go_at_call 46; refine (tldR _ H3.out).mono ?_; rintro e u3 ⟨rfl, hs⟩; have G3 : Hid (Sg w0 g k m t (tset (tset (tset T 2816 (rgv 55 56 (.agg #[.pointer (some ⟨g, 45, none⟩), .int .u64 18446744073709551615]))) 2818 (rgv 55 56 (.agg #[.pointer (some ⟨g, 46, none⟩), .int .u64 18446744073709551615]))) 3072 (rgv 53 54 (.int .u64 (n64 (k.s 10))))) b (n + 3) u3) := hs; clear hs) | (refine wpList_put (by rfl) _ _ _ (by rfl) (by rfl) G3.out (by omega) 3073 _ (by decide) (by rfl) (by rfl) (by rfl) ?_; intro v4 hs; have H4 : Hid (Sg w0 g k m t (tset (tset (tset (tset T 2816 (rgv 55 56 (.agg #[.pointer (some ⟨g, 45, none⟩), .int .u64 18446744073709551615]))) 2818 (rgv 55 56 (.agg #[.pointer (some ⟨g, 46, none⟩), .int .u64 18446744073709551615]))) 3072 (rgv 53 54 (.int .u64 (n64 (k.s 10))))) 3073 (rgv 53 54 (.int .u64 (n64 t)))) b (n + 4) v4) := hs; clear hs))
  clear H3 G3 c9
  have c9 := Sr.s (Sg.sr H4.out) 11 (by omega)
  go_wp2_with (first | (go_at_call 46; refine (tldR _ H4.out).mono ?_; rintro e u4 ⟨rfl, hs⟩; have G4 : Hid (Sg w0 g k m t (tset (tset (tset (tset T 2816 (rgv 55 56 (.agg #[.pointer (some ⟨g, 45, none⟩), .int .u64 18446744073709551615]))) 2818 (rgv 55 56 (.agg #[.pointer (some ⟨g, 46, none⟩), .int .u64 18446744073709551615]))) 3072 (rgv 53 54 (.int .u64 (n64 (k.s 10))))) 3073 (rgv 53 54 (.int .u64 (n64 t)))) b (n + 4) u4) := hs; clear hs) | (refine wpList_put (by rfl) _ _ _ (by rfl) (by rfl) G4.out (by omega) 3074 _ (by decide) (by rfl) (by rfl) (by rfl) ?_; intro v5 hs; have H5 : Hid (Sg w0 g k m t (tset (tset (tset (tset (tset T 2816 (rgv 55 56 (.agg #[.pointer (some ⟨g, 45, none⟩), .int .u64 18446744073709551615]))) 2818 (rgv 55 56 (.agg #[.pointer (some ⟨g, 46, none⟩), .int .u64 18446744073709551615]))) 3072 (rgv 53 54 (.int .u64 (n64 (k.s 10))))) 3073 (rgv 53 54 (.int .u64 (n64 t)))) 3074 (rgv 53 54 (.int .u64 (n64 (k.s 11))))) b (n + 5) v5) := hs; clear hs))
  clear H4 G4 c9
  go_end0
  exact ⟨rfl, H5.out⟩
/-- The first j addresses. -/
def tadr (g : Nat) (T : Int → Option Value) (j : Nat) : Int → Option Value := fun q => if 944 ≤ q ∧ q < 944 + (j : Int) then some (rgv 59 60 (.agg #[.pointer (some ⟨g, 47, none⟩), .int .i64 (q - 944)])) else T q
theorem tadr_0 (g : Nat) (T : Int → Option Value) : tadr g T 0 = T := by
  funext q; unfold tadr; rw [if_neg (by omega)]
theorem tadr_succ (g : Nat) (T : Int → Option Value) (j : Nat) : tset (tadr g T j) (944 + (j : Int)) (rgv 59 60 (.agg #[.pointer (some ⟨g, 47, none⟩), .int .i64 (j : Int)])) = tadr g T (j + 1) := by
  funext q; unfold tset tadr
  by_cases e : q = 944 + (j : Int)
  · rw [if_pos e, if_pos (by omega), e, show (944 + (j : Int) - 944) = (j : Int) by omega]
  · rw [if_neg e]
    by_cases h : 944 ≤ q ∧ q < 944 + (j : Int)
    · rw [if_pos h, if_pos (by omega)]
    · rw [if_neg h, if_neg (by omega)]
def TP (g : Nat) (T : Int → Option Value) : Int → Option Value := tadr g (tset (tset T 928 (rgv 57 58 (.agg #[.pointer (some ⟨g, 47, none⟩), .int .i64 0]))) 930 (rgv 57 58 (.agg #[.pointer (some ⟨g, 47, none⟩), .int .i64 2]))) 16
set_option maxRecDepth 100000 in
set_option maxHeartbeats 2000000 in
theorem addProtection_c {w0 w : World} {g b n : Nat} {k : Cp} {m t : BitVec 64} {T : Int → Option Value} (h : Sg w0 g k m t T b n w) (hn : n ≤ 1000) : Calls Try.prog 35 #[.pointer (some ⟨g, 0, none⟩), .map (some b)] w fun e w' => e = .returned (.tuple #[]) ∧ Sg w0 g k m t (TP g T) b (n + 18) w' := by
  obtain ⟨v0, hv0⟩ : ∃ v0, v0 = w := ⟨_, rfl⟩
  have H0 : Hid (Sg w0 g k m t T b n v0) := by rw [hv0]; exact h
  rw [← hv0]
  clear h hv0
  go_enter Try.func35, Try.ntmps35
  go_upto_region 1 with fail
  go_upto_region 2 with (first | (go_at_call 48; refine (cfgRg _ _ H0.out).mono ?_; rintro e u0 ⟨rfl, hs⟩; have G0 : Hid (Sg w0 g k m t T b n u0) := hs; clear hs) | (refine wpList_put (by rfl) _ _ _ (by rfl) (by rfl) G0.out (by omega) 928 _ (by decide) (by rfl) (by rfl) (by rfl) ?_; intro v1 hs; have H1 : Hid (Sg w0 g k m t (tset T 928 (rgv 57 58 (.agg #[.pointer (some ⟨g, 47, none⟩), .int .i64 0]))) b (n + 1) v1) := hs; clear hs))
  clear H0 G0
  go_upto_region 3 with (first | (go_at_call 48; refine (cfgRg _ _ H1.out).mono ?_; rintro e u1 ⟨rfl, hs⟩; have G1 : Hid (Sg w0 g k m t (tset T 928 (rgv 57 58 (.agg #[.pointer (some ⟨g, 47, none⟩), .int .i64 0]))) b (n + 1) u1) := hs; clear hs) | (refine wpList_put (by rfl) _ _ _ (by rfl) (by rfl) G1.out (by omega) 930 _ (by decide) (by rfl) (by rfl) (by rfl) ?_; intro v2 hs; have H2 : Hid (Sg w0 g k m t (tset (tset T 928 (rgv 57 58 (.agg #[.pointer (some ⟨g, 47, none⟩), .int .i64 0]))) 930 (rgv 57 58 (.agg #[.pointer (some ⟨g, 47, none⟩), .int .i64 2]))) b (n + 2) v2) := hs; clear hs))
  clear H1 G1
  obtain ⟨T2, hT2⟩ : ∃ T2, T2 = (tset (tset T 928 (rgv 57 58 (.agg #[.pointer (some ⟨g, 47, none⟩), .int .i64 0]))) 930 (rgv 57 58 (.agg #[.pointer (some ⟨g, 47, none⟩), .int .i64 2]))) := ⟨_, rfl⟩
  rw [← hT2] at H2
  have HT2 : Hid (TP g T = tadr g T2 16) := by rw [hT2]; rfl
  clear hT2
  go_upto_region 4 with fail
  go_loopw [18] (fun i wr => ∃ j : Nat, j ≤ 16 ∧ i = .int .i64 j ∧ Hid (Sg w0 g k m t (tadr g T2 j) b (n + 2 + j) wr)) (fun i _ => 16 - (intOf i).toNat)
  case atStart => exact ⟨0, by omega, rfl, by unfold Hid; rw [tadr_0]; exact H2.out⟩
  case round =>
    obtain ⟨j, hj, rfl, HJ⟩ := hrel
    clear H2
    by_cases hlt : j < 16
    · have hlt2 : (j : Int) < 16 := by omega
      have hq : (Lit.int .i64 (944 + (j : Int))).wf = true := WalkArith.wf_i64 ⟨by omega, by omega⟩
      have HQ : Hid ((Lit.int .i64 (944 + (j : Int))).wf = true) := hq
      clear hq
      go_wp2_with (first | (go_at_call 49; refine (adrR _ _ HJ.out).mono ?_; rintro e u1 ⟨rfl, hs⟩; have G1 : Hid (Sg w0 g k m t (tadr g T2 j) b (n + 2 + j) u1) := hs; clear hs) | (refine wpList_put (by rfl) _ _ _ (by rfl) (by rfl) G1.out (by omega) (944 + (j : Int)) _ HQ.out (by rfl) (by rfl) (by rfl) ?_; intro u2 hs; have G2 : Hid (Sg w0 g k m t (tadr g T2 (j + 1)) b (n + 2 + (j + 1)) u2) := (by unfold Hid; rw [← tadr_succ]; exact hs); clear hs))
      clear HJ G1 HQ
      go_roundw
      case rel => exact ⟨j + 1, hlt, by go_num, G2⟩
      case measure => simp [intOf]; omega
    · obtain rfl : j = 16 := by omega
      rw [show ((16 : Nat) : Int) = (16 : Int) from rfl]
      go_wp2
      go_end0
      exact ⟨rfl, by rw [HT2.out]; exact HJ.out⟩
/-- The register that is 0 always. -/
def idl : Value := rgv 53 54 (.int .u64 0)
def tidl (T : Int → Option Value) (j : Nat) : Int → Option Value := fun q => if (803 ≤ q ∧ q < 803 + (j : Int)) ∨ (2819 ≤ q ∧ q < 2819 + (j : Int)) ∨ (3075 ≤ q ∧ q < 3075 + (j : Int)) then some idl else T q
theorem tidl_0 (T : Int → Option Value) : tidl T 0 = T := by
  funext q; unfold tidl; rw [if_neg (by omega)]
theorem tidl_succ (T : Int → Option Value) (j : Nat) : tset (tset (tset (tidl T j) (803 + (j : Int)) idl) (2819 + (j : Int)) idl) (3075 + (j : Int)) idl = tidl T (j + 1) := by
  funext q; unfold tset tidl
  by_cases h : (803 ≤ q ∧ q < 803 + ((j + 1 : Nat) : Int)) ∨ (2819 ≤ q ∧ q < 2819 + ((j + 1 : Nat) : Int)) ∨ (3075 ≤ q ∧ q < 3075 + ((j + 1 : Nat) : Int))
  · rw [if_pos h]
    split
    · rfl
    split
    · rfl
    split
    · rfl
    rw [if_pos (by omega)]
  · rw [if_neg h, if_neg (by omega), if_neg (by omega), if_neg (by omega), if_neg (by omega)]
def TI (T : Int → Option Value) : Int → Option Value := tset (tset (tset (tset (tidl T 29) 3857 idl) 3858 idl) 3860 idl) 3861 idl
/-- The cells of the idle register. -/
def idc : Array Value := #[.func (.func 53) #[.int .u64 0] #[], .func (.func 54) #[.int .u64 0] #[]]
theorem idlR {w0 w : World} {g b N : Nat} {k : Cp} {m t : BitVec 64} {T : Int → Option Value} (h : Sg w0 g k m t T b N w) : Calls Try.prog 46 #[.int .u64 0] w fun e w' => e = .returned (.agg idc) ∧ Sg w0 g k m t T b N w' := tldR 0 h
theorem idc_one : idc.all (·.oneCell') = true := by simp [idc, Value.oneCell']
theorem idc_info : (Try.prog.info? 59).map (·.size) = some idc.size := info_rg
structure Si (w0 : World) (g gi : Nat) (k : Cp) (m t : BitVec 64) (T : Int → Option Value) (b n : Nat) (w : World) : Prop where
  sg : Sg w0 g k m t T b n w
  ri : Row w gi idc 59
section
variable {w0 w w' : World} {g gi b n : Nat} {k : Cp} {m t : BitVec 64} {T : Int → Option Value}
theorem wpList_puti {ops : Array Oper} {rest : List Oper} {o : Oper} {a : Act} {Q : Exit → Act → World → Prop} (hgd : o.guard = none) (x y z : Operand) (ho : o.op = .mapUpdate 61 x y z) (hd : o.dst = none)
    (h : Si w0 g gi k m t T b n w) (hn : n < 100000) (q : Int) (v : Value) (hq : (Lit.int .i64 q).wf = true) (hx : a.eval x = .map (some b)) (hy : a.eval y = .int .i64 q) (hz : a.eval z = v)
    (hK : ∀ w', Si w0 g gi k m t (tset T q v) b (n + 1) w' → wpList Try.prog ops Q rest a w') : wpList Try.prog ops Q (o :: rest) a w := by
  refine wpList_plain hgd fun K' hK' => ?_
  obtain ⟨w', hrun, r1, r2⟩ := h.sg.mp.update hn q v hq
  unfold Oper.wp
  simp [execOp, ho, hx, hy, hz, hrun, Result.andThen]
  refine hK' _ _ ?_
  have := hK w' ⟨h.sg.put r1 r2, cells_keep r2 h.sg.mp.row _ _ _ h.ri⟩
  simpa [Oper.upon, Act.put, hd] using this
end
theorem wpList_load_idl {ops : Array Oper} {rest : List Oper} {o : Oper} {a : Act} {w : World} {gi : Nat} {Q : Exit → Act → World → Prop} (hgd : o.guard = none) (x : Operand) (ho : o.op = .load 59 x) (hx : a.eval x = .pointer (some ⟨gi, 0, none⟩)) (hr : Row w gi idc 59)
    (h : wpList Try.prog ops Q rest (a.put o.dst idl) w) : wpList Try.prog ops Q (o :: rest) a w :=
  wpList_load_row hgd _ _ ho _ hx 59 _ (0, 0) _ hr Try.underlying59 (by rfl) info_rg h
set_option maxRecDepth 100000 in
set_option maxHeartbeats 2000000 in
theorem addIdle_c {w0 w : World} {g b n : Nat} {k : Cp} {m t : BitVec 64} {T : Int → Option Value} (h : Sg w0 g k m t T b n w) (hn : n ≤ 1000) : Calls Try.prog 37 #[.map (some b)] w fun e w' => e = .returned (.tuple #[]) ∧ Sg w0 g k m t (TI T) b (n + 91) w' := by
  have H0 : Hid (Sg w0 g k m t T b n w) := h
  have hz : ∀ w, (zeroValue 59).run Try.prog w = .ok (.agg #[.nilFunc, .nilFunc]) w := rgZero
  clear h
  go_enter Try.func37, Try.ntmps37
  go_upto_region 1 with (first | (go_at_call 46; refine (idlR H0.out).mono ?_; rintro e u0 ⟨rfl, hs⟩; have G0 : Hid (Sg w0 g k m t T b n u0) := hs; clear hs) | (refine wpList_store_last (by rfl) _ _ _ (by rfl) (by rfl) u0 #[.nilFunc, .nilFunc] idc (by rfl) (by rfl) (by rfl) idc_info (by rfl) idc_one ?_))
  refine go_onP (motive := fun W => Code.wp _ _ _ _ W) (Q := fun W => Si w0 g u0.heap.size k m t T b n W) ⟨G0.out.later ((Below.refl _ _).alloc (Nat.le_refl _) _), Row.new u0 idc 59⟩ ?_
  clear H0 hz
  generalize u0.heap.size = gi
  intro v0 hs
  have H0 : Hid (Si w0 g gi k m t T b n v0) := hs
  clear hs G0
  go_upto_region 2 with fail
  go_loopw [5] (fun i wr => ∃ j : Nat, j ≤ 29 ∧ i = .int .i64 j ∧ Hid (Si w0 g gi k m t (tidl T j) b (n + 3 * j) wr)) (fun i _ => 29 - (intOf i).toNat)
  case atStart => exact ⟨0, by omega, rfl, by unfold Hid; rw [tidl_0]; exact H0.out⟩
  case round =>
    obtain ⟨j, hj, rfl, HJ⟩ := hrel
    clear H0
    by_cases hlt : j < 29
    · have hlt2 : (j : Int) < 29 := by omega
      have HQ1 : Hid ((Lit.int .i64 (803 + (j : Int))).wf = true) := WalkArith.wf_i64 ⟨by omega, by omega⟩
      have HQ2 : Hid ((Lit.int .i64 (2819 + (j : Int))).wf = true) := WalkArith.wf_i64 ⟨by omega, by omega⟩
      have HQ3 : Hid ((Lit.int .i64 (3075 + (j : Int))).wf = true) := WalkArith.wf_i64 ⟨by omega, by omega⟩
      go_upto_region 5 with (first | (refine wpList_load_idl (by rfl) _ (by rfl) (by rfl) (Si.ri HJ.out) ?_) | (refine wpList_puti (by rfl) _ _ _ (by rfl) (by rfl) HJ.out (by omega) (803 + (j : Int)) idl HQ1.out (by rfl) (by rfl) (by rfl) ?_; intro u1 hs; have G1 : Hid (Si w0 g gi k m t (tset (tidl T j) (803 + (j : Int)) idl) b (n + 3 * j + 1) u1) := hs; clear hs))
      clear HJ
      go_upto_region 6 with (first | (refine wpList_load_idl (by rfl) _ (by rfl) (by rfl) (Si.ri G1.out) ?_) | (refine wpList_puti (by rfl) _ _ _ (by rfl) (by rfl) G1.out (by omega) (2819 + (j : Int)) idl HQ2.out (by rfl) (by rfl) (by rfl) ?_; intro u2 hs; have G2 : Hid (Si w0 g gi k m t (tset (tset (tidl T j) (803 + (j : Int)) idl) (2819 + (j : Int)) idl) b (n + 3 * j + 2) u2) := hs; clear hs))
      clear G1
      go_wp2_with (first | (refine wpList_load_idl (by rfl) _ (by rfl) (by rfl) (Si.ri G2.out) ?_) | (refine wpList_puti (by rfl) _ _ _ (by rfl) (by rfl) G2.out (by omega) (3075 + (j : Int)) idl HQ3.out (by rfl) (by rfl) (by rfl) ?_; intro u3 hs; have G3 : Hid (Si w0 g gi k m t (tidl T (j + 1)) b (n + 3 * (j + 1)) u3) := (by unfold Hid; rw [← tidl_succ]; exact hs); clear hs))
      clear G2 HQ1 HQ2 HQ3
      go_roundw
      case rel => exact ⟨j + 1, hlt, by go_num, G3⟩
      case measure => simp [intOf]; omega
    · obtain rfl : j = 29 := by omega
      rw [show ((29 : Nat) : Int) = (29 : Int) from rfl]
      go_upto_region 9 with (first | (refine wpList_load_idl (by rfl) _ (by rfl) (by rfl) (Si.ri HJ.out) ?_) | (refine wpList_puti (by rfl) _ _ _ (by rfl) (by rfl) HJ.out (by omega) 3857 idl (by decide) (by rfl) (by rfl) (by rfl) ?_; intro u1 hs; have G1 : Hid (Si w0 g gi k m t (tset (tidl T 29) 3857 idl) b (n + 88) u1) := hs; clear hs))
      clear HJ
      go_upto_region 10 with (first | (refine wpList_load_idl (by rfl) _ (by rfl) (by rfl) (Si.ri G1.out) ?_) | (refine wpList_puti (by rfl) _ _ _ (by rfl) (by rfl) G1.out (by omega) 3858 idl (by decide) (by rfl) (by rfl) (by rfl) ?_; intro u2 hs; have G2 : Hid (Si w0 g gi k m t (tset (tset (tidl T 29) 3857 idl) 3858 idl) b (n + 89) u2) := hs; clear hs))
      clear G1
      go_upto_region 11 with (first | (refine wpList_load_idl (by rfl) _ (by rfl) (by rfl) (Si.ri G2.out) ?_) | (refine wpList_puti (by rfl) _ _ _ (by rfl) (by rfl) G2.out (by omega) 3860 idl (by decide) (by rfl) (by rfl) (by rfl) ?_; intro u3 hs; have G3 : Hid (Si w0 g gi k m t (tset (tset (tset (tidl T 29) 3857 idl) 3858 idl) 3860 idl) b (n + 90) u3) := hs; clear hs))
      clear G2
      go_wp2_with (first | (refine wpList_load_idl (by rfl) _ (by rfl) (by rfl) (Si.ri G3.out) ?_) | (refine wpList_puti (by rfl) _ _ _ (by rfl) (by rfl) G3.out (by omega) 3861 idl (by decide) (by rfl) (by rfl) (by rfl) ?_; intro u4 hs; have G4 : Hid (Si w0 g gi k m t (TI T) b (n + 91) u4) := hs; clear hs))
      go_end0
      exact ⟨rfl, G4.out.sg⟩
/-- All registers. -/
def RT (g : Nat) (k : Cp) (m t : BitVec 64) : Int → Option Value := TI (TC g k t (TP g (TM g m (fun _ => none))))
set_option maxRecDepth 100000 in
set_option maxHeartbeats 1000000 in
theorem registers_c (g : Nat) (k : Cp) (m t : BitVec 64) (w : World) (h : Sr w g k m t) : Calls Try.prog 21 #[.pointer (some ⟨g, 0, none⟩)] w fun e w' => ∃ b, e = .returned (.map (some b)) ∧ Mq (RT g k m t) b 127 w' ∧ Sr w' g k m t ∧ Below w.heap.size w w' := by
  have hmm := mkMap
  obtain ⟨W0, hW0⟩ : ∃ W0, w.alloc (.map #[] 0) = W0 := ⟨_, rfl⟩
  have H0 : Hid (Sg w g k m t (fun _ => none) w.heap.size 0 W0) := by rw [← hW0]; exact ⟨Mq.made w, h.old _, (Below.refl _ _).alloc (Nat.le_refl _) _, Nat.le_refl _⟩
  obtain ⟨b, hb⟩ : ∃ b, b = w.heap.size := ⟨_, rfl⟩
  clear h
  go_enter Try.func21, Try.ntmps21
  go_upto_region 2 with fail
  clear hW0 hmm
  rw [← hb] at H0 ⊢
  clear hb
  go_upto_region 3 with (go_at_call 34; refine (addMachine_c H0.out (by omega)).mono ?_; rintro e u1 ⟨rfl, hs⟩; have H1 : Hid (Sg w g k m t (TM g m (fun _ => none)) b 13 u1) := hs; clear hs)
  clear H0
  go_upto_region 4 with (go_at_call 35; refine (addProtection_c H1.out (by omega)).mono ?_; rintro e u2 ⟨rfl, hs⟩; have H2 : Hid (Sg w g k m t (TP g (TM g m (fun _ => none))) b 31 u2) := hs; clear hs)
  clear H1
  go_upto_region 5 with (go_at_call 36; refine (addCounters_c H2.out (by omega)).mono ?_; rintro e u3 ⟨rfl, hs⟩; have H3 : Hid (Sg w g k m t (TC g k t (TP g (TM g m (fun _ => none)))) b 36 u3) := hs; clear hs)
  clear H2
  go_upto_region 6 with (go_at_call 37; refine (addIdle_c H3.out (by omega)).mono ?_; rintro e u4 ⟨rfl, hs⟩; have H4 : Hid (Sg w g k m t (RT g k m t) b 127 u4) := hs; clear hs)
  clear H3
  go_wp2
  go_ret
  exact ⟨b, rfl, H4.out.mp, H4.out.sr, H4.out.be⟩
end Go.Proofs.Ytnnkeodiacdmaab
