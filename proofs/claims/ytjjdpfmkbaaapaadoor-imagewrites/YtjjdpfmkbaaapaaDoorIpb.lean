/-
  Names in memory; how long a file is: size of the reference.
-/
import Derived.Test.YtjjdpfmkbaaapaaDoorIpa
import Derived.Test.YtjjdpfmkbaaapaaDoorIsa
import Derived.WalkSmall
import Derived.StillTailTactics
namespace Go.Proofs.YtjjdpfmkbaaapaaDoor
set_option linter.unusedVariables false
open Go.ChangeShapes Go.WideShapes Go.ChangeAt Go.RowKit Go.Deep
/-- A name as it lies in memory. -/
structure Sy where
  s : ByteArray
  v : BitVec 64
def syz : Sy := ⟨⟨#[]⟩, 0⟩
def sy (N : List Sy) (j : Nat) : Sy := N.getD j syz
def Sys (w : World) (v : Value) (N : List Sy) : Prop :=
  ∃ ad cap, v = .slice ad N.length cap ∧ N.length ≤ cap ∧ (N ≠ [] → ∃ g off, ad = some ⟨g, off, none⟩ ∧ g < w.heap.size ∧ ∀ j, j < N.length →
    w.cell? ⟨g, off + j * 2, none⟩ = some (.string (sy N j).s) ∧ w.cell? ⟨g, off + j * 2 + 1, none⟩ = some (.int .u64 (n64 (sy N j).v)))
theorem Sys.later {w w' : World} {v : Value} {N : List Sy} (h : Sys w v N) {B : Nat} (hb : Below B w w') (hB : B = w.heap.size) : Sys w' v N := by
  obtain ⟨ad, cap, rfl, h1, h2⟩ := h
  refine ⟨ad, cap, rfl, h1, fun hne => ?_⟩
  obtain ⟨g, off, rfl, h3, h4⟩ := h2 hne
  refine ⟨g, off, rfl, Nat.lt_of_lt_of_le h3 hb.size, fun j hj => ?_⟩
  obtain ⟨c0, c1⟩ := h4 j hj
  rw [hb.cell (by rw [hB]; exact h3), hb.cell (by rw [hB]; exact h3)]
  exact ⟨c0, c1⟩
/-- Where the file ends behind the first k parts. -/
def sk (L : List Sg) : Nat → Nat
  | 0 => 64 + 56 * L.length
  | k + 1 => if 0 < (sg L k).n then al (sk L k) + (sg L k).n else sk L k
/-- How many bytes the first k texts take. -/
def nk (N : List Sy) : Nat → Nat
  | 0 => 0
  | k + 1 => nk N k + ((sy N k).s.size + 1)
def tabAt (L : List Sg) : Nat := al (sk L L.length)
def szz (L : List Sg) (N : List Sy) : Nat := if N.length = 0 then sk L L.length else al (tabAt L + 24 + 24 * N.length + 1 + nk N N.length + 27) + 256
theorem sk_le {L : List Sg} (M : Nat) (hb : ∀ j, j < L.length → (sg L j).n ≤ M) (k : Nat) : k ≤ L.length → sk L k ≤ 64 + 56 * L.length + k * (M + 8) := by
  induction k with
  | zero =>
    intro _
    have e : sk L 0 = 64 + 56 * L.length := rfl
    rw [e]; omega
  | succ k ih =>
    intro hk
    have ih := ih (by omega)
    have h := hb k (by omega)
    have ha := al_hi (sk L k)
    have e : sk L (k + 1) = if 0 < (sg L k).n then al (sk L k) + (sg L k).n else sk L k := rfl
    rw [e, Nat.add_mul, Nat.one_mul]
    split <;> omega
theorem nk_le {N : List Sy} (M : Nat) (hb : ∀ j, j < N.length → (sy N j).s.size ≤ M) (k : Nat) : k ≤ N.length → nk N k ≤ k * (M + 1) := by
  induction k with
  | zero => intro _; exact Nat.zero_le _
  | succ k ih =>
    intro hk
    have ih := ih (by omega)
    have h := hb k (by omega)
    have e : nk N (k + 1) = nk N k + ((sy N k).s.size + 1) := rfl
    rw [e, Nat.add_mul, Nat.one_mul]
    omega
/-- An image as it is handed over. -/
structure Img (w : World) (vs vn : Value) (L : List Sg) (N : List Sy) : Prop where
  segs : Sgs w vs L
  syms : Sys w vn N
  lens : ∀ j, j < L.length → (sg L j).n ≤ 140737488355328
  texts : ∀ j, j < N.length → (sy N j).s.size ≤ 140737488355328
set_option maxHeartbeats 4000000 in
theorem size_c (E : BitVec 64) (vs vn : Value) (L : List Sg) (N : List Sy) (hL : L.length ≤ 16) (hN : N.length ≤ 400) (w : World) (hi : Img w vs vn L N) :
    Calls Tryd.prog 14 #[.agg #[.int .u64 (n64 E), vs, vn]] w fun e w' => e = .returned (.int .i64 ((szz L N : Nat) : Int)) ∧ Below w.heap.size w w' := by
  have HI : Hid (Img w vs vn L N) := hi
  obtain ⟨B, hB⟩ : ∃ B, B = w.heap.size := ⟨_, rfl⟩
  have HB0 : Hid (B = w.heap.size) := hB
  clear hB
  obtain ⟨sa, sc, rfl, _, _⟩ := hi.segs
  obtain ⟨na, nc, rfl, _, _⟩ := hi.syms
  clear hi
  have cU := fun (n : Nat) (hn : n ≤ 1152921504606846976) w' => up_c n hn w'
  go_enter Tryd.func14, Tryd.ntmps14
  go_wp2
  have m1 : (w.alloc (.cells #[.int .u64 (n64 E), .slice sa L.length sc, .slice na N.length nc] 26)).cell? ⟨w.heap.size, 1, none⟩ = some (.slice sa L.length sc) := by simp
  have m2 : (w.alloc (.cells #[.int .u64 (n64 E), .slice sa L.length sc, .slice na N.length nc] 26)).cell? ⟨w.heap.size, 2, none⟩ = some (.slice na N.length nc) := by simp
  have HB1 : Hid (Below B w (w.alloc (.cells #[.int .u64 (n64 E), .slice sa L.length sc, .slice na N.length nc] 26))) := (Below.refl _ _).alloc (by rw [HB0.out]; exact Nat.le_refl _) _
  have HI1 : Hid (Img (w.alloc (.cells #[.int .u64 (n64 E), .slice sa L.length sc, .slice na N.length nc] 26)) (.slice sa L.length sc) (.slice na N.length nc) L N) := ⟨HI.out.segs.later HB1.out HB0.out, HI.out.syms.later HB1.out HB0.out, HI.out.lens, HI.out.texts⟩
  obtain ⟨M, hM⟩ : ∃ M, M = w.heap.size := ⟨_, rfl⟩
  rw [← hM] at m1 m2 ⊢
  have HMlt : Hid (M < (w.alloc (.cells #[.int .u64 (n64 E), .slice sa L.length sc, .slice na N.length nc] 26)).heap.size) := by unfold Hid; rw [hM]; simp
  clear hM
  have HM1 : Hid ((w.alloc (.cells #[.int .u64 (n64 E), .slice sa L.length sc, .slice na N.length nc] 26)).cell? ⟨M, 1, none⟩ = some (.slice sa L.length sc)) := m1
  have HM2 : Hid ((w.alloc (.cells #[.int .u64 (n64 E), .slice sa L.length sc, .slice na N.length nc] 26)).cell? ⟨M, 2, none⟩ = some (.slice na N.length nc)) := m2
  clear m1 m2
  generalize w.alloc (.cells #[.int .u64 (n64 E), .slice sa L.length sc, .slice na N.length nc] 26) = w1 at *
  go_loopw [3, 4] (fun n i wr => ∃ k : Nat, k ≤ L.length ∧ i = .int .i64 k ∧ n = .int .i64 ((sk L k : Nat) : Int) ∧ Hid (Below w1.heap.size w1 wr)) (fun _ i _ => L.length - (intOf i).toNat)
  case atStart => exact ⟨0, Nat.zero_le _, rfl, by simp [sk], Below.refl _ _⟩
  case round =>
    obtain ⟨k, hk, rfl, rfl, hbel⟩ := hrel
    have m1 : wr.cell? ⟨M, 1, none⟩ = some (.slice sa L.length sc) := by rw [hbel.out.cell (by exact HMlt.out)]; exact HM1.out
    have m2 : wr.cell? ⟨M, 2, none⟩ = some (.slice na N.length nc) := by rw [hbel.out.cell (by exact HMlt.out)]; exact HM2.out
    have hsk := sk_le _ HI.out.lens k hk
    by_cases hlt : k < L.length
    · have hlt2 : (k : Int) < (L.length : Int) := by omega
      have hn := HI.out.lens k hlt
      obtain ⟨_, _, he, _, hcc⟩ := HI1.out.segs.later hbel.out rfl
      cases he
      obtain ⟨g, off, rfl, hg, hcells⟩ := hcc (by intro e; have := congrArg List.length e; simp only [List.length_nil] at this; omega)
      obtain ⟨_, _, _, c3⟩ := hcells k hlt
      clear hcells hcc
      obtain ⟨x, hx⟩ : ∃ x, x = sg L k := ⟨_, rfl⟩
      rw [← hx] at c3 hn
      obtain ⟨S, hS⟩ : ∃ S, S = sk L k := ⟨_, rfl⟩
      rw [← hS] at hsk ⊢
      have HX : Hid (x = sg L k) := hx
      have HS : Hid (S = sk L k) := hS
      clear hx hS
      have hS2 : S ≤ 3000000000000000 := by omega
      by_cases hn0 : 0 < x.n
      · have hn0' : (0 : Int) < (x.n : Int) := by omega
        have HK : Hid (sk L (k + 1) = al S + x.n) := by unfold Hid; rw [sk, ← HX.out, if_pos hn0, HS.out]
        have ha := al_hi S
        obtain ⟨A, hA⟩ : ∃ A, A = al S := ⟨_, rfl⟩
        have cA : Hid (∀ w', Calls Tryd.prog 16 #[.int .i64 (S : Int)] w' fun e w'' => e = .returned (.int .i64 (A : Int)) ∧ w'' = w') := fun w' => by rw [hA]; exact up_c S (by omega) w'
        rw [← hA] at ha
        have HAA : Hid (A = al S) := hA
        clear hA hsk
        go_wp2_with fail
        go_quiet ((go_at_call 16; exact Calls.quiet_of_same (cA.out _)))
        have HB2 : Hid (Below w1.heap.size w1 (wr.drewN nq)) := below_drewN hbel.out _
        clear m1 m2 c3 hbel hg
        generalize wr.drewN nq = w3 at *
        go_wp2
        go_roundw
        case rel => exact ⟨k + 1, by omega, by go_num, by rw [HK.out, ← HAA.out]; go_num, HB2⟩
        case measure => simp [intOf]; omega
      · have hn0' : ¬ (0 : Int) < (x.n : Int) := by omega
        have HK : Hid (sk L (k + 1) = S) := by unfold Hid; rw [sk, ← HX.out, if_neg hn0, HS.out]
        clear hn0 hsk
        go_wp2
        go_roundw
        case rel => exact ⟨k + 1, by omega, by go_num, by rw [HK.out], hbel⟩
        case measure => simp [intOf]; omega
    · have hkl : k = L.length := by omega
      have hle : (L.length : Int) ≤ (k : Int) := by omega
      obtain ⟨S, hS⟩ : ∃ S, S = sk L k := ⟨_, rfl⟩
      rw [← hS] at hsk ⊢
      have HS : Hid (S = sk L L.length) := by rw [← hkl]; exact hS
      clear hS hkl hlt
      have hS2 : S ≤ 3000000000000000 := by omega
      by_cases hN0 : N.length = 0
      · have hN0' : ((N.length : Int) == 0) = true := by rw [hN0]; rfl
        have HZ : Hid (szz L N = S) := by unfold Hid szz; rw [if_pos hN0, HS.out]
        clear hsk
        have hN0'' := hN0
        clear hN0
        go_wp2
        go_ret
        have hB := HB0.out
        subst hB
        exact ⟨ret_int (by rw [HZ.out]), HB1.out.trans (hbel.out.mono HB1.out.size)⟩
      · have hN0' : ((N.length : Int) == 0) = false := by simp; intro h; apply hN0; rw [h]; rfl
        have ha := al_hi S
        obtain ⟨A, hA⟩ : ∃ A, A = al S := ⟨_, rfl⟩
        have cA : Hid (∀ w', Calls Tryd.prog 16 #[.int .i64 (S : Int)] w' fun e w'' => e = .returned (.int .i64 (A : Int)) ∧ w'' = w') := fun w' => by rw [hA]; exact up_c S (by omega) w'
        rw [← hA] at ha
        have HAA : Hid (A = al S) := hA
        have HN0 : Hid (¬ N.length = 0) := hN0
        clear hA hsk hN0
        go_wp2_with fail
        go_quiet ((go_at_call 16; exact Calls.quiet_of_same (cA.out _)))
        have HB2 : Hid (Below w1.heap.size w1 (wr.drewN nq)) := below_drewN hbel.out _
        clear m1 m2 hbel
        generalize wr.drewN nq = w2 at *
        go_wp2
        go_loopw [3, 5] (fun n i wr => ∃ k : Nat, k ≤ N.length ∧ i = .int .i64 k ∧ n = .int .i64 ((A + 24 + 24 * N.length + 1 + nk N k : Nat) : Int) ∧ wr = w2) (fun _ i _ => N.length - (intOf i).toNat)
        case atStart => exact ⟨0, Nat.zero_le _, rfl, by simp [nk], rfl⟩
        case round =>
          obtain ⟨q, hq, rfl, rfl, rfl⟩ := hrel
          have m2 : wr.cell? ⟨M, 2, none⟩ = some (.slice na N.length nc) := by rw [HB2.out.cell (by exact HMlt.out)]; exact HM2.out
          have hnk := nk_le _ HI.out.texts q hq
          obtain ⟨T, hT⟩ : ∃ T, T = nk N q := ⟨_, rfl⟩
          rw [← hT] at hnk ⊢
          have HTT : Hid (T = nk N q) := hT
          clear hT
          have hT2 : T ≤ 60000000000000000 := by omega
          clear hnk
          by_cases hlt : q < N.length
          · have hlt2 : (q : Int) < (N.length : Int) := by omega
            have hn := HI.out.texts q hlt
            obtain ⟨_, _, he, _, hcc⟩ := HI1.out.syms.later HB2.out rfl
            cases he
            obtain ⟨g, off, rfl, hg, hcells⟩ := hcc (by intro e; have := congrArg List.length e; simp only [List.length_nil] at this; omega)
            obtain ⟨c0, _⟩ := hcells q hlt
            clear hcells hcc
            obtain ⟨y, hy⟩ : ∃ y, y = sy N q := ⟨_, rfl⟩
            rw [← hy] at c0 hn
            have HY : Hid (nk N (q + 1) = T + (y.s.size + 1)) := by unfold Hid; rw [HTT.out, hy]; rfl
            clear hy
            go_wp2
            go_roundw
            case rel => exact ⟨q + 1, by omega, by go_num, by rw [HY.out]; go_num, trivial⟩
            case measure => simp [intOf]; omega
          · have hqn : q = N.length := by omega
            have hle : (N.length : Int) ≤ (q : Int) := by omega
            have HZ : Hid (szz L N = al (A + 24 + 24 * N.length + 1 + T + 27) + 256) := by
              unfold Hid szz tabAt; rw [if_neg HN0.out, HAA.out, HS.out, HTT.out, hqn]
            clear hqn hlt
            obtain ⟨U, hU⟩ : ∃ U, U = A + 24 + 24 * N.length + 1 + T + 27 := ⟨_, rfl⟩
            have hUi : ((A : Int) + 24 + 24 * (N.length : Int) + 1 + (T : Int) + 27) = (U : Int) := by omega
            rw [← hU] at HZ
            have hU2 : U ≤ 70000000000000000 := by omega
            have HU : Hid (U = A + 24 + 24 * N.length + 1 + T + 27) := hU
            have ha2 := al_hi U
            obtain ⟨A2, hA2⟩ : ∃ A2, A2 = al U := ⟨_, rfl⟩
            have cA2 : Hid (∀ w', Calls Tryd.prog 16 #[.int .i64 (U : Int)] w' fun e w'' => e = .returned (.int .i64 (A2 : Int)) ∧ w' = w'') := fun w' => by rw [hA2]; exact (up_c U (by omega) w').mono fun _ _ ⟨h1, h2⟩ => ⟨h1, h2.symm⟩
            rw [← hA2] at ha2 HZ
            clear hA2 hU
            go_wp2_with (go_at_call 16; refine (cA2.out _).mono ?_; rintro e w' ⟨rfl, rfl⟩)
            go_ret
            have hB := HB0.out
            subst hB
            exact ⟨ret_int (by rw [HZ.out]; go_num), HB1.out.trans (HB2.out.mono HB1.out.size)⟩
end Go.Proofs.YtjjdpfmkbaaapaaDoor
