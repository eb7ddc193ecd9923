/-
  Load and Store of the program's bus: where nothing is, and RAM.
-/
import Derived.Test.YtghiabdkgfhdbaaBms
namespace Go.Proofs.Ytghiabdkgfhdbaa
set_option linter.unusedVariables false
open Go.ChangeShapes Go.WideShapes Go.ChangeAt Go.RowKit Go.Deep
theorem mth_memory_load (a : Addr) (w : World) : (method 256 70 (.pointer (some a)) "anvil/bus.load").run Try.prog w = .ok (100, .pointer (some a)) w := by kernel_rfl
theorem mth_memory_store (a : Addr) (w : World) : (method 256 70 (.pointer (some a)) "anvil/bus.store").run Try.prog w = .ok (101, .pointer (some a)) w := by kernel_rfl
theorem hasM_nat {n : Nat} {a z : Int} (h : hasM n a z = true) : ∃ k s : Nat, a = 2147483648 + (k : Int) ∧ z = s ∧ k + s ≤ n ∧ 0 < s ∧ s ≤ 8 := by
  simp only [hasM, hld, Bool.and_eq_true, Bool.or_eq_true, beq_iff_eq, decide_eq_true_eq] at h
  refine ⟨(a - 2147483648).toNat, z.toNat, ?_, ?_, ?_, ?_, ?_⟩ <;> omega
theorem fnd_zero {n : Nat} {a z : Int} (h : fnd n a z = 0) : hasM n a z = true := by
  unfold fnd at h
  split at h
  · assumption
  · exfalso
    repeat' (split at h)
    all_goals omega
theorem PB.ram {B : Nat} {L : Lay} {S : St} {w : World} (h : PB B L S w) (h0 : 0 < S.ram.length) : ∃ g cap, L.vr = .slice (some ⟨g, 0, none⟩) S.ram.length cap := Go.Joins.ownsRow_form h.wr h0
theorem load_none {B : Nat} {L : Lay} {S : St} (w : World) (h : PB B L S w) (hn : S.ram.length ≤ 65536) (a z : Int) (ha : 0 ≤ a ∧ a ≤ 18446744073709551615) (hz : -9223372036854775808 ≤ z ∧ z ≤ 9223372036854775807) (hf : fnd S.ram.length a z = 6) :
    Calls Try.prog 17 #[.pointer (some ⟨L.b, 0, none⟩), .int .u64 a, .int .i64 z] w fun e w' => e = .returned (.tuple #[.int .u64 0, .bool false]) ∧ Below w.heap.size w w' := by
  have HF := find_c w h hn a z ha hz
  rw [hf] at HF
  simp only [show dvOf L 6 = .nilIface from rfl, show decide (6 < 6) = false from rfl] at HF
  clear h hf
  go_enter Try.func17, Try.ntmps17
  go_wp2_with (go_at_call 32; refine HF.mono ?_; rintro e w1 ⟨rfl, hb1⟩)
  go_ret2
  exact ⟨rfl, hb1⟩
theorem store_none {B : Nat} {L : Lay} {S : St} (w : World) (h : PB B L S w) (hn : S.ram.length ≤ 65536) (a z v : Int) (ha : 0 ≤ a ∧ a ≤ 18446744073709551615) (hz : -9223372036854775808 ≤ z ∧ z ≤ 9223372036854775807) (hf : fnd S.ram.length a z = 6) :
    Calls Try.prog 19 #[.pointer (some ⟨L.b, 0, none⟩), .int .u64 a, .int .i64 z, .int .u64 v] w fun e w' => e = .returned (.bool false) ∧ Below w.heap.size w w' := by
  have HF := find_c w h hn a z ha hz
  rw [hf] at HF
  simp only [show dvOf L 6 = .nilIface from rfl, show decide (6 < 6) = false from rfl] at HF
  clear h hf
  go_enter Try.func19, Try.ntmps19
  go_wp2_with (go_at_call 32; refine HF.mono ?_; rintro e w1 ⟨rfl, hb1⟩)
  go_ret
  exact ⟨rfl, hb1⟩
theorem load_ram {B : Nat} {L : Lay} {S : St} (w : World) (h : PB B L S w) (hr : AllB S.ram) (hn : S.ram.length ≤ 65536) (k s : Nat) (hk : k + s ≤ S.ram.length) (hs : 0 < s) (h8 : s ≤ 8) (hf : fnd S.ram.length (2147483648 + (k : Int)) s = 0) :
    Calls Try.prog 17 #[.pointer (some ⟨L.b, 0, none⟩), .int .u64 (2147483648 + (k : Int)), .int .i64 s] w fun e w' => e = .returned (.tuple #[.int .u64 ((tk ((S.ram.drop k).take s) : Nat) : Int), .bool true]) ∧ Below w.heap.size w w' := by
  have HF := find_c w h hn (2147483648 + (k : Int)) s (by omega) (by omega)
  rw [hf] at HF
  simp only [show dvOf L 0 = .iface 70 (.pointer (some ⟨L.m, 0, none⟩)) from rfl, show decide (0 < 6) = true from rfl] at HF
  obtain ⟨g, cap, er⟩ := h.ram (by omega)
  have HL : Hid (∀ w1, Below w.heap.size w w1 → Calls Try.prog 100 #[.pointer (some ⟨L.m, 0, none⟩), .int .u64 (2147483648 + (k : Int)), .int .i64 s] w1 fun e w' => e = .returned (.int .u64 ((tk ((S.ram.drop k).take s) : Nat) : Int)) ∧ w' = w1) := fun w1 hb => by
    have h1 := h.later hb
    exact memLoad_c w1 (by rw [← er]; exact h1.cl.m0) (by rw [← er]; exact h1.wr) hr hn hk hs
  have hmt := mth_memory_load
  generalize ((tk ((S.ram.drop k).take s) : Nat) : Int) = t at HL ⊢
  clear h hf er
  go_enter Try.func17, Try.ntmps17
  go_wp2_with (first | (go_at_call 32; refine HF.mono ?_; rintro e w1 ⟨rfl, hb1⟩) | (go_at_call 100; refine (HL.out _ hb1).mono ?_; rintro e w2 ⟨rfl, hw⟩; have hw2 := hw.symm; subst hw2))
  go_ret2
  exact ⟨rfl, hb1⟩
/-- RAM's bytes from k on are those of a number. -/
def St.put (S : St) (k s N : Nat) : St := { S with ram := splice S.ram k (ptL N s) }
theorem PB.store {B : Nat} {L : Lay} {S : St} {w w' : World} {g : Nat} (h : PB B L S w) (hg : L.vr.ownBlock = some g) (l : List Int) (hl : l.length = S.ram.length) (ho : w'.ownsRow B 5 1 L.vr S.ram.length (bv l)) (he : Exc (· = g) w w') : PB B L { S with ram := l } w' := by
  have hk := Go.Lib.ownsRow_kind h.wr g hg
  obtain ⟨c, fz, hrow⟩ := hk
  have k : ∀ {b : Nat} {C : Array Value} {T : TypeId}, T ≠ 5 → w.heap[b]? = some (.cells C T (0, 0)) → w'.heap[b]? = some (.cells C T (0, 0)) := fun {b C T} hT hb => by
    rw [he.block b (Array.getElem?_eq_some_iff.1 hb).1 (fun e => ?_)]
    · exact hb
    · subst e
      rw [hrow] at hb
      simp at hb
      exact hT hb.2.1.symm
  have ki : w'.ownsRow B 5 1 L.vi S.inp.length (bv S.inp) := own_exc h.wi he (fun q hq e => h.ri g hg (by rw [hq, e]))
  have ko : w'.ownsRow B 5 1 L.vo S.out.length (bv S.out) := own_exc h.wo he (fun q hq e => h.ro g hg (by rw [hq, e]))
  exact ⟨k (by decide) h.hb, k (by decide) h.hm, k (by decide) h.hp, k (by decide) h.hs, k (by decide) h.hc, k (by decide) h.hk, k (by decide) h.hu, k (by decide) h.hq, by show w'.ownsRow B _ 1 L.vr l.length (bv l); rw [hl]; exact ho, ki, ko, h.ri, h.ro, h.io, h.lb, h.lm, h.lp, h.ls, h.lc, h.lk, h.lu, h.lq⟩
/-- The blocks that a bus of the program may write. -/
def Lay.own (L : Lay) (k : Nat) : Prop := k = L.b ∨ k = L.m ∨ k = L.pw ∨ k = L.sw ∨ k = L.cm ∨ k = L.ck ∨ k = L.u ∨ k = L.q ∨ L.vr.ownBlock = some k ∨ L.vi.ownBlock = some k ∨ L.vo.ownBlock = some k
theorem store_ram {B : Nat} {L : Lay} {S : St} (x : BitVec 64) (w : World) (h : PB B L S w) (hn : S.ram.length ≤ 65536) (k s : Nat) (hk : k + s ≤ S.ram.length) (hs : 0 < s) (h8 : s ≤ 8) (hf : fnd S.ram.length (2147483648 + (k : Int)) s = 0) :
    Calls Try.prog 19 #[.pointer (some ⟨L.b, 0, none⟩), .int .u64 (2147483648 + (k : Int)), .int .i64 s, .int .u64 (n64 x)] w fun e w' => e = .returned (.bool true) ∧ PB B L (S.put k s x.toNat) w' ∧ Exc L.own w w' := by
  have HF := find_c w h hn (2147483648 + (k : Int)) s (by omega) (by omega)
  rw [hf] at HF
  simp only [show dvOf L 0 = .iface 70 (.pointer (some ⟨L.m, 0, none⟩)) from rfl, show decide (0 < 6) = true from rfl] at HF
  obtain ⟨g, cap, er⟩ := h.ram (by omega)
  have HL : Hid (∀ w1, Below w.heap.size w w1 → Calls Try.prog 101 #[.pointer (some ⟨L.m, 0, none⟩), .int .u64 (2147483648 + (k : Int)), .int .i64 s, .int .u64 (n64 x)] w1 fun e w' => e = .returned (.tuple #[]) ∧ PB B L (S.put k s x.toNat) w' ∧ Exc L.own w w') := fun w1 hb => by
    have h1 := h.later hb
    refine (memStore_c x w1 (by rw [← er]; exact h1.cl.m0) (by rw [← er]; exact h1.wr) hn hk hs h8).mono ?_
    rintro e w' ⟨rfl, ho, he⟩
    have hg : L.vr.ownBlock = some g := by rw [er]; rfl
    refine ⟨rfl, h1.store hg _ (length_splice _ _ _ (by rw [ptL_length]; exact hk)) (by rw [er]; exact ho) he, ?_⟩
    exact (Exc.of_below hb rfl).trans (he.mono (fun q hq => by rw [hq]; unfold Lay.own; simp [hg]))
  have hmt := mth_memory_store
  clear h hf er
  go_enter Try.func19, Try.ntmps19
  go_wp2_with (first | (go_at_call 32; refine HF.mono ?_; rintro e w1 ⟨rfl, hb1⟩) | (go_at_call 101; refine (HL.out _ hb1).mono ?_; rintro e w2 ⟨rfl, hpb, hex⟩; have HP : Hid _ := hpb; have HX : Hid _ := hex; clear hpb hex))
  go_ret
  exact ⟨rfl, HP.out, HX.out⟩
end Go.Proofs.Ytghiabdkgfhdbaa
