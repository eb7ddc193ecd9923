/-
  Layer 16 (save): pages, of the program and of the reference.
-/
import Derived.Test.YtnlkamfoopikhaaHg
namespace Go.Proofs.Ytnlkamfoopikhaa
set_option linter.unusedVariables false
set_option maxRecDepth 100000
open Go.ChangeShapes Go.WideShapes Go.ChangeAt Go.RowKit Go.Deep
/-- How many pages; a page; is it blank. -/
def pgN (n : Nat) : Nat := (n + 255) / 256
def pgE (n i : Nat) : Nat := min (256 * i + 256) n
def pgL (r : List Int) (i : Nat) : List Int := (r.drop (256 * i)).take (pgE r.length i - 256 * i)
def blk (l : List Int) : Bool := l.all (· == 0)
theorem pgL_length (r : List Int) (i : Nat) : (pgL r i).length = pgE r.length i - 256 * i := by simp [pgL, pgE]; omega
theorem blk_take (l : List Int) (k : Nat) (h : k < l.length) : blk (l.take (k + 1)) = (blk (l.take k) && (l.getD k 0 == 0)) := by
  unfold blk
  rw [List.take_add_one, List.all_append]; simp [h]
theorem pgN_lt {n i : Nat} (h : i < pgN n) : 256 * i < n := by unfold pgN at h; omega
theorem spages_c (n : Nat) (hn : n ≤ 65536) (w : World) : Calls Try.prog 47 #[.int .i64 (n : Int)] w fun e w' => e = .returned (.int .i64 (pgN n : Nat)) ∧ w' = w := by
  have h1 : (n : Int) ≤ 65536 := by omega
  have h2 : Hid (((n : Int) + 256 - 1) / 256 = ((pgN n : Nat) : Int)) := by
    unfold Hid pgN; omega
  go_enter Try.func47, Try.ntmps47
  go_wp2
  go_ret
  exact ⟨by rw [← h2.out]; rfl, rfl⟩
theorem rpages_c (n : Nat) (hn : n ≤ 65536) (w : World) : Calls Try.prog 54 #[.int .i64 (n : Int)] w fun e w' => e = .returned (.int .i64 (pgN n : Nat)) ∧ w' = w := by
  have h1 : (n : Int) ≤ 65536 := by omega
  have h2 : Hid (((n : Int) + 255) / 256 = ((pgN n : Nat) : Int)) := by
    unfold Hid pgN; omega
  go_enter Try.func54, Try.ntmps54
  go_wp2
  go_ret
  exact ⟨by rw [← h2.out]; rfl, rfl⟩
/-- Where a part of a slice begins. -/
def cad (a : Option Addr) (p m : Nat) : Option Addr := if m = p then a else a.map (fun x => x.add p)
theorem spage_c (a : Option Addr) (n cap i : Nat) (hc : n ≤ cap) (hn : n ≤ 65536) (hi : i < pgN n) (w : World) :
    Calls Try.prog 48 #[.slice a n cap, .int .i64 (i : Int)] w fun e w' => e = .returned (.slice (cad a (256 * i) (pgE n i)) (pgE n i - 256 * i) (pgE n i - 256 * i)) ∧ w' = w := by
  have hlt := pgN_lt hi
  obtain ⟨p, hp⟩ : ∃ p, p = 256 * i := ⟨_, rfl⟩
  have h1 : (i : Int) * 256 = (p : Int) := by omega
  have h0 : (i : Int) ≤ 256 := by omega
  have hE : Hid (min (p + 256) n = pgE n i) := by unfold Hid pgE; rw [hp]
  have h2 : (p : Int) ≤ 65536 := by omega
  rw [← hp] at hlt ⊢
  obtain ⟨q, hq⟩ : ∃ q, q = pgE n i := ⟨_, rfl⟩
  rw [← hq] at hE ⊢
  clear hp hq hi
  have e1 : p ≤ q := by have := hE.out; omega
  have e2 : q ≤ n := by have := hE.out; omega
  have hsl := sl_lhm w a n cap p q q e1 (Nat.le_refl _) (by omega)
  rw [show (if q = p then a else a.map (fun x => x.add p)) = cad a p q from rfl] at hsl
  generalize cad a p q = ad at *
  by_cases hle : p + 256 ≤ n
  · have e3 : Hid (q = p + 256) := by have := hE.out; unfold Hid; omega
    have h4 : ¬ (n : Int) < (p : Int) + 256 := by omega
    have h5 : (p : Int) + 256 = (q : Int) := by have := e3.out; omega
    have h6 : ¬ (n : Int) < (q : Int) := by omega
    clear e1 e2 hle hE
    go_enter Try.func48, Try.ntmps48
    go_wp2
    go_ret
    exact ⟨rfl, rfl⟩
  · have e3 : q = n := by have := hE.out; omega
    subst e3
    have h4 : (q : Int) < (p : Int) + 256 := by omega
    clear e1 e2 hle hE
    go_enter Try.func48, Try.ntmps48
    go_wp2
    go_ret
    exact ⟨rfl, rfl⟩
theorem rpage_c (a : Option Addr) (n cap i : Nat) (hc : n ≤ cap) (hn : n ≤ 65536) (hi : i < pgN n) (w : World) :
    Calls Try.prog 55 #[.slice a n cap, .int .i64 (i : Int)] w fun e w' => e = .returned (.slice (cad a (256 * i) cap) (pgE n i - 256 * i) (cap - 256 * i)) ∧ w' = w := by
  have hlt := pgN_lt hi
  obtain ⟨p, hp⟩ : ∃ p, p = 256 * i := ⟨_, rfl⟩
  have h1 : (256 : Int) * (i : Int) = (p : Int) := by omega
  have h0 : (i : Int) ≤ 256 := by omega
  have hE : Hid (min (p + 256) n = pgE n i) := by unfold Hid pgE; rw [hp]
  have h2 : (p : Int) ≤ 65536 := by omega
  rw [← hp] at hlt ⊢
  obtain ⟨q, hq⟩ : ∃ q, q = pgE n i := ⟨_, rfl⟩
  rw [← hq] at hE ⊢
  clear hp hq hi
  have e1 : p ≤ q := by have := hE.out; omega
  have e2 : q ≤ n := by have := hE.out; omega
  have hsl := sl_lh w a n cap p q e1 (by omega)
  rw [show (if cap = p then a else a.map (fun x => x.add p)) = cad a p cap from rfl] at hsl
  generalize cad a p cap = ad at *
  by_cases hle : p + 256 ≤ n
  · have e3 : Hid (q = p + 256) := by have := hE.out; unfold Hid; omega
    have h4 : ¬ (n : Int) < (p : Int) + 256 := by omega
    have h5 : (p : Int) + 256 = (q : Int) := by have := e3.out; omega
    have h6 : ¬ (n : Int) < (q : Int) := by omega
    clear e1 e2 hle hE
    go_enter Try.func55, Try.ntmps55
    go_wp2
    go_ret
    exact ⟨rfl, rfl⟩
  · have e3 : q = n := by have := hE.out; omega
    subst e3
    have h4 : (q : Int) < (p : Int) + 256 := by omega
    clear e1 e2 hle hE
    go_enter Try.func55, Try.ntmps55
    go_wp2
    go_ret
    exact ⟨rfl, rfl⟩
theorem Byt.page {w : World} {a : Option Addr} {cap : Nat} {r : List Int} (h : Byt w (.slice a r.length cap) r) (i : Nat) (hi : i < pgN r.length) (m : Nat) (hm : pgE r.length i ≤ m) (hm2 : m ≤ cap) : Byt w (.slice (cad a (256 * i) m) (pgE r.length i - 256 * i) (m - 256 * i)) (pgL r i) := by
  have hlt := pgN_lt hi
  exact h.cut (256 * i) (pgE r.length i) m (by unfold pgE; omega) hm hm2 (by unfold pgE; omega)
set_option maxHeartbeats 1000000 in
theorem sblank_c (l : List Int) (v : Value) (w : World) (hv : Byt w v l) (hl : l.length ≤ 140737488355328) :
    Calls Try.prog 49 #[v] w fun e w' => e = .returned (.bool (blk l)) ∧ w' = w := by
  obtain ⟨a, cap, rfl, hc, _, hr⟩ := hv
  have HR : Hid (l ≠ [] → ∃ g off, a = some ⟨g, off, none⟩ ∧ g < w.heap.size ∧ ∀ j, j < l.length → w.cell? ⟨g, off + j, none⟩ = some (.int .u8 (l.getD j 0))) := hr
  clear hr
  go_enter Try.func49, Try.ntmps49
  go_wp2
  go_loopw [7] (fun i wr => ∃ k : Nat, k ≤ l.length ∧ i = .int .i64 k ∧ Hid (blk (l.take k) = true) ∧ wr = w) (fun i _ => l.length - (intOf i).toNat)
  case atStart => exact ⟨0, Nat.zero_le _, rfl, rfl, rfl⟩
  case round =>
    obtain ⟨k, hk, rfl, hbk, hwr⟩ := hrel
    subst hwr
    by_cases hlt : k < l.length
    · obtain ⟨gl, off, rfl, hgl, hcell⟩ := HR.out (by intro e; rw [e] at hlt; simp at hlt)
      have hlt2 : (k : Int) < (l.length : Int) := by omega
      have hce : wr.cell? ⟨gl, off + k, none⟩ = some (.int .u8 (l.getD k 0)) := hcell k hlt
      have HBT : Hid (blk (l.take (k + 1)) = (blk (l.take k) && (l.getD k 0 == 0))) := blk_take l k hlt
      have HNB : Hid (l.getD k 0 ≠ 0 → blk l = false) := fun hne => by
        unfold blk
        rw [List.all_eq_false]
        exact ⟨l.getD k 0, by simp [hlt], by simpa using hne⟩
      obtain ⟨b, hb⟩ : ∃ b, b = l.getD k 0 := ⟨_, rfl⟩
      rw [← hb] at HBT HNB hce
      clear hb hcell
      by_cases h0 : b = 0
      · subst h0
        go_wp2
        go_roundw
        case rel => exact ⟨k + 1, by omega, by go_num, by unfold Hid; rw [HBT.out, hbk.out]; rfl, trivial⟩
        case measure => simp [intOf]; omega
      · have h1 : (b != 0) = true := by simpa using h0
        have HF := Hid.mk' (HNB.out h0)
        clear HNB h0
        go_wp2
        go_ret
        exact ⟨by rw [HF.out]; rfl, rfl⟩
    · have hkn : k = l.length := by omega
      have HF : Hid (blk l = true) := by have := hbk.out; rw [hkn, List.take_length] at this; exact this
      have hz2 : ¬ (k : Int) < (l.length : Int) := by omega
      clear hkn hlt
      go_wp2
      go_ret
      exact ⟨by rw [HF.out]; rfl, rfl⟩
set_option maxHeartbeats 1000000 in
theorem rblank_c (l : List Int) (v : Value) (w : World) (hv : Byt w v l) (hl : l.length ≤ 140737488355328) :
    Calls Try.prog 56 #[v] w fun e w' => e = .returned (.bool (blk l)) ∧ w' = w := by
  obtain ⟨a, cap, rfl, hc, _, hr⟩ := hv
  have HR : Hid (l ≠ [] → ∃ g off, a = some ⟨g, off, none⟩ ∧ g < w.heap.size ∧ ∀ j, j < l.length → w.cell? ⟨g, off + j, none⟩ = some (.int .u8 (l.getD j 0))) := hr
  clear hr
  go_enter Try.func56, Try.ntmps56
  go_wp2
  go_loopw [3] (fun i wr => ∃ k : Nat, k ≤ l.length ∧ i = .int .i64 k ∧ Hid (blk (l.take k) = true) ∧ wr = w) (fun i _ => l.length - (intOf i).toNat)
  case atStart => exact ⟨0, Nat.zero_le _, rfl, rfl, rfl⟩
  case round =>
    obtain ⟨k, hk, rfl, hbk, hwr⟩ := hrel
    subst hwr
    by_cases hlt : k < l.length
    · obtain ⟨gl, off, rfl, hgl, hcell⟩ := HR.out (by intro e; rw [e] at hlt; simp at hlt)
      have hlt2 : (k : Int) < (l.length : Int) := by omega
      have hce : wr.cell? ⟨gl, off + k, none⟩ = some (.int .u8 (l.getD k 0)) := hcell k hlt
      have HBT : Hid (blk (l.take (k + 1)) = (blk (l.take k) && (l.getD k 0 == 0))) := blk_take l k hlt
      have HNB : Hid (l.getD k 0 ≠ 0 → blk l = false) := fun hne => by
        unfold blk
        rw [List.all_eq_false]
        exact ⟨l.getD k 0, by simp [hlt], by simpa using hne⟩
      obtain ⟨b, hb⟩ : ∃ b, b = l.getD k 0 := ⟨_, rfl⟩
      rw [← hb] at HBT HNB hce
      clear hb hcell
      by_cases h0 : b = 0
      · subst h0
        go_wp2
        go_roundw
        case rel => exact ⟨k + 1, by omega, by go_num, by unfold Hid; rw [HBT.out, hbk.out]; rfl, trivial⟩
        case measure => simp [intOf]; omega
      · have h1 : (b != 0) = true := by simpa using h0
        have HF := Hid.mk' (HNB.out h0)
        clear HNB h0
        go_wp2
        go_ret
        exact ⟨by rw [HF.out]; rfl, rfl⟩
    · have hkn : k = l.length := by omega
      have HF : Hid (blk l = true) := by have := hbk.out; rw [hkn, List.take_length] at this; exact this
      have hz2 : ¬ (k : Int) < (l.length : Int) := by omega
      clear hkn hlt
      go_wp2
      go_ret
      exact ⟨by rw [HF.out]; rfl, rfl⟩
end Go.Proofs.Ytnlkamfoopikhaa
