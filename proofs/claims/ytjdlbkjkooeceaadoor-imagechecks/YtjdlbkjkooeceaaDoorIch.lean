/-
  ImageChecks: the walk.
-/
import Derived.Test.YtjdlbkjkooeceaaDoorIcr
import Derived.Test.YtjdlbkjkooeceaaDoorIty
import Derived.Deep.RegionHeld
namespace Go.Proofs.YtjdlbkjkooeceaaDoor
set_option linter.unusedVariables false
open Go.ChangeShapes Go.WideShapes Go.ChangeAt Go.RowKit Go.Deep
theorem ff_congr {f g : Nat → Int} (n : Nat) : ∀ i, (∀ j, i ≤ j → j < i + n → f j = g j) → ff f n i = ff g n i := by
  induction n with
  | zero => intro i _; rfl
  | succ n ih =>
    intro i h
    have h0 := h i (Nat.le_refl _) (by omega)
    have h1 := ih (i + 1) (fun j h1 h2 => h j (by omega) (by omega))
    show (if f i = 0 then ff f n (i + 1) else f i) = (if g i = 0 then ff g n (i + 1) else g i)
    rw [h0, h1]
theorem pf_alike {L M : List Sg} (h : Alike L M) (i : Nat) (hi : i < L.length) : pf M i = pf L i := by
  have e1 : lastB (sg M i) = lastB (sg L i) := by unfold lastB; rw [h.a i hi, h.s i hi]
  have e2 : lastB (sg M (i - 1)) = lastB (sg L (i - 1)) := by unfold lastB; rw [h.a (i - 1) (by omega), h.s (i - 1) (by omega)]
  unfold pf
  rw [h.a i hi, h.s i hi, h.f i hi, h.n i hi, e1, e2]
theorem sk_alike {L M : List Sg} (h : Alike L M) (k : Nat) : k ≤ L.length → sk M k = sk L k := by
  induction k with
  | zero => intro _; show 64 + 56 * M.length = 64 + 56 * L.length; rw [h.len]
  | succ k ih =>
    intro hk
    show (if 0 < (sg M k).n then al (sk M k) + (sg M k).n else sk M k) = (if 0 < (sg L k).n then al (sk L k) + (sg L k).n else sk L k)
    rw [ih (by omega), h.n k (by omega)]
theorem ck_alike {L M : List Sg} (h : Alike L M) (E : BitVec 64) (N : List Sy) : ck E M N = ck E L N := by
  have e1 : ff (pf M) M.length 0 = ff (pf L) L.length 0 := by rw [h.len]; exact ff_congr _ 0 (fun j _ hj => pf_alike h j (by omega))
  have e2 : szz M N = szz L N := by unfold szz tabAt; rw [h.len, sk_alike h _ (Nat.le_refl _)]
  unfold ck
  rw [e1, e2, h.len]
theorem check_l (E : BitVec 64) {vs vn : Value} {L M : List Sg} {N : List Sy} (hal : Hid (Alike L M)) (hl : L.length ≤ 140737488355328) (hn : N.length ≤ 140737488355328) {w : World} (hi : Hid (Img w vs vn M N)) (hT : Hid (Tabs w)) (R : Int) (hR : Hid (R = ck E L N)) :
    Calls Tryd.prog 6 #[.agg #[.int .u64 (n64 E), vs, vn]] w fun e w' => e = .returned (.int .i64 R) ∧ Hid (Below w.heap.size w w') := by
  rw [hR.out, ← ck_alike hal.out]
  exact check_c E vs vn M N (by rw [hal.out.len]; exact hl) hn w hi.out hT
theorem rcheck_l (E : BitVec 64) {vs vn : Value} {L : List Sg} {N : List Sy} (hl : L.length ≤ 140737488355328) (hn : N.length ≤ 140737488355328) {w : World} (hi : Hid (Img w vs vn L N)) (hT : Hid (Tabs w)) (R : Int) (hR : Hid (R = ck E L N)) :
    Calls Tryd.prog 8 #[.agg #[.int .u64 (n64 E), vs, vn]] w fun e w' => e = .returned (.int .i64 R) ∧ Hid (Below w.heap.size w w') := by
  rw [hR.out]; exact rcheck_c E vs vn L N hl hn w hi.out hT
theorem num_c (z : Int) (w : World) : Calls Tryd.prog 5 #[.int .i64 z] w fun e w' => e = .returned (.int .i64 z) ∧ w = w' := by
  go_enter Tryd.func5, Tryd.ntmps5
  go_wp2
  go_ret
  exact ⟨rfl, rfl⟩
set_option maxHeartbeats 8000000 in
theorem checks_walk (E : BitVec 64) (vs vn : Value) (L : List Sg) (N : List Sy) (hL : L.length * 48 ≤ 140737488355280) (hN : N.length * 24 ≤ 140737488355328) (w : World) (hi : Img w vs vn L N)
    (hd : Hid (∀ j, j < L.length → ∃ l, l.length = (sg L j).n ∧ Byt w (.slice (sg L j).m (sg L j).n (sg L j).c) l)) (hnil : Hid (∀ c k, vn = .slice none k c → k = 0 ∧ c = 0)) (hT : Hid (Tabs w)) :
    Calls Tryd.prog 3 #[.agg #[.int .u64 (n64 E), vs, vn]] w fun e w' => e = .returned (.bool true) ∧ Below w.heap.size w w' := by
  have HI : Hid (Img w vs vn L N) := hi
  obtain ⟨sa, sc, rfl, _, _⟩ := hi.segs
  obtain ⟨na, nc, rfl, _, _⟩ := hi.syms
  clear hi
  obtain ⟨R, hR⟩ : ∃ R, R = ck E L N := ⟨_, rfl⟩
  have HR : Hid (R = ck E L N) := hR
  clear hR
  have hl : L.length ≤ 140737488355328 := by omega
  have hn : N.length ≤ 140737488355328 := by omega
  go_enter Tryd.func3, Tryd.ntmps3
  go_wp2_with fail
  have HB1 : Hid (Below w.heap.size w (w.alloc (.cells #[.int .u64 (n64 E), .slice sa L.length sc, .slice na N.length nc] 26))) := (Below.refl _ _).alloc (Nat.le_refl _) _
  have k0 : (w.alloc (.cells #[.int .u64 (n64 E), .slice sa L.length sc, .slice na N.length nc] 26)).cell? ⟨w.heap.size, 0, none⟩ = some (.int .u64 (n64 E)) := by simp
  have k1 : (w.alloc (.cells #[.int .u64 (n64 E), .slice sa L.length sc, .slice na N.length nc] 26)).cell? ⟨w.heap.size, 1, none⟩ = some (.slice sa L.length sc) := by simp
  have k2 : (w.alloc (.cells #[.int .u64 (n64 E), .slice sa L.length sc, .slice na N.length nc] 26)).cell? ⟨w.heap.size, 2, none⟩ = some (.slice na N.length nc) := by simp
  have HLt : Hid (w.heap.size < (w.alloc (.cells #[.int .u64 (n64 E), .slice sa L.length sc, .slice na N.length nc] 26)).heap.size) := by unfold Hid; simp
  generalize w.alloc (.cells #[.int .u64 (n64 E), .slice sa L.length sc, .slice na N.length nc] 26) = w1 at *
  obtain ⟨Mb, hMb⟩ : ∃ Mb, Mb = w.heap.size := ⟨_, rfl⟩
  rw [← hMb] at k0 k1 k2 HLt ⊢
  have HMb : Hid (Mb = w.heap.size) := hMb
  clear hMb
  have HBd : Hid (Below w.heap.size w w1.drew) := HB1.out.drew
  have HId : Hid (Img w1.drew (.slice sa L.length sc) (.slice na N.length nc) L N) := HI.out.later HBd.out rfl
  have Hdd : Hid (∀ j, j < L.length → ∃ l, l.length = (sg L j).n ∧ Byt w1.drew (.slice (sg L j).m (sg L j).n (sg L j).c) l) := fun j hj => by obtain ⟨l, h1, h2⟩ := hd.out j hj; exact ⟨l, h1, h2.later HBd.out rfl⟩
  have HC0 : Hid (∀ w', Below w1.drew.heap.size w1.drew w' → w'.cell? ⟨Mb, 0, none⟩ = some (.int .u64 (n64 E)) ∧ w'.cell? ⟨Mb, 1, none⟩ = some (.slice sa L.length sc) ∧ w'.cell? ⟨Mb, 2, none⟩ = some (.slice na N.length nc)) := fun w' hb => ⟨(hb.cell (by exact HLt.out)).trans k0, (hb.cell (by exact HLt.out)).trans k1, (hb.cell (by exact HLt.out)).trans k2⟩
  go_region_held (fun w' => w'.cell? ⟨Mb, 0, none⟩ = some (.int .u64 (n64 E)) ∧ w'.cell? ⟨Mb, 1, none⟩ = some (.slice sa L.length sc) ∧ w'.cell? ⟨Mb, 2, none⟩ = some (.slice na N.length nc)) (go_keep)
    (first
      | (go_at_call 7; refine (twin_c E _ _ L N hL hN _ HId.out Hdd hnil).mono ?_; rintro e w2 ⟨vs', vn', M, rfl, hal, him, hb2⟩; have q2 := HC0.out w2 hb2.out; have HB2 : Hid (Below w.heap.size w w2) := HBd.out.trans (hb2.out.mono HBd.out.size); have HT2 : Hid (Tabs w2) := hT.out.below HB2.out rfl)
      | (go_at_call 6; refine (check_l E hal hl hn him HT2 R HR).mono ?_; rintro e w3 ⟨rfl, hb3⟩; have q3 := HC0.out w3 (hb2.out.trans (hb3.out.mono hb2.out.size)); have HB3 : Hid (Below w.heap.size w w3) := HB2.out.trans (hb3.out.mono HB2.out.size); have HT3 : Hid (Tabs w3) := hT.out.below HB3.out rfl; have HI3 : Hid (Img w3 (.slice sa L.length sc) (.slice na N.length nc) L N) := HI.out.later HB3.out rfl)
      | (go_at_call 5; refine (num_c _ _).mono ?_; rintro e w' ⟨rfl, rfl⟩)
      | (go_at_call 8; refine (rcheck_l E hl hn HI3 HT3 R HR).mono ?_; rintro e w4 ⟨rfl, hb4⟩; have q4 := HC0.out w4 ((hb2.out.trans (hb3.out.mono hb2.out.size)).trans (hb4.out.mono (Nat.le_trans hb2.out.size hb3.out.size)))))
  all_goals go_wp2
  all_goals go_ret
  all_goals exact ⟨by simp, HB3.out.trans (hb4.out.mono HB3.out.size)⟩
end Go.Proofs.YtjdlbkjkooeceaaDoor
