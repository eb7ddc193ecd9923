/-
  Du.
-/
import Derived.Test.YthmjimmmkoeeoaaDoorM30
namespace Go.Proofs.YthmjimmmkoeeoaaDoor
set_option linter.unusedVariables false
set_option maxRecDepth 100000
open Go.ChangeShapes Go.WideShapes Go.ChangeAt Go.RowKit Go.Deep Go.Shelf
set_option maxHeartbeats 4000000 in
theorem rbd_c {d : List Int} (hA : AllB d) (hl : d.length ≤ 100000) (v : Value) (w : World) (hv : Byt w v d) : Calls Tryd.prog 35 #[v] w fun e w' => e = .returned (.string (tS (hxB d))) ∧ Below w.heap.size w w' := by
  obtain ⟨a, cap, rfl, hc, _, hcell⟩ := hv
  have HA : Hid (AllB d) := hA
  have HC : Hid (d ≠ [] → ∃ g off, a = some ⟨g, off, none⟩ ∧ g < w.heap.size ∧ ∀ j, j < d.length → w.cell? ⟨g, off + j, none⟩ = some (.int .u8 (d.getD j 0))) := hcell
  obtain ⟨N, hN⟩ : ∃ N, N = d.length := ⟨_, rfl⟩
  rw [← hN] at hc hl ⊢
  have HN : Hid (N = d.length) := hN
  clear hA hcell hN
  go_enter Tryd.func35, Tryd.ntmps35
  go_upto_region 3 with fail
  go_loopw [3, 4] (fun s i wr => ∃ k : Nat, k ≤ N ∧ s = .string (tS (hxB (d.take k))) ∧ i = .int .i64 k ∧ Hid (Below w.heap.size w wr)) (fun _ i _ => N - (intOf i).toNat)
  case atStart => exact ⟨0, Nat.zero_le _, rfl, rfl, Below.refl _ _⟩
  case round =>
    obtain ⟨k, hk, rfl, rfl, HB⟩ := hrel
    by_cases hlt : k < N
    · have hltI : (k : Int) < N := by omega
      obtain ⟨m, hm, hm2⟩ := HA.out.at k (by rw [← HN.out]; exact hlt)
      obtain ⟨g, off, rfl, hg, hcs⟩ := HC.out (by intro e; rw [e] at HN; have := HN.out; simp at this; omega)
      have c0 : wr.cell? ⟨g, off + k, none⟩ = some (.int .u8 (m : Int)) := by
        rw [HB.out.cell (p := ⟨g, off + k, none⟩) hg, hcs k (by rw [← HN.out]; exact hlt), hm]
      have hls : (tS (hxB (d.take k))).size ≤ 200000 := by rw [tS_size, hxB_len, List.length_take]; omega
      have hw1 : IntKind.u64.wrap (m : Int) = m := wrapU _ (by omega)
      have HD : Hid (∀ w', Calls Tryd.prog 53 #[.int .u64 (m : Int), .int .i64 2] w' fun e w'' => e = .returned (.string (tS (b2 (m : Int)))) ∧ Below w'.heap.size w' w'') := fun w' => rdig_c (m : Int) (by omega) w'
      have HNX : Hid (Value.string (tS (hxB (d.take k)) ++ tS (b2 (m : Int))) = .string (tS (hxB (d.take (k + 1))))) := by
        unfold Hid; rw [take_snoc d k (by rw [← HN.out]; exact hlt), hxB_snoc, hm, tS_append]
      have hbs : (tS (b2 (m : Int))).size ≤ 2 := by rw [tS_size]; simp [b2]
      generalize tS (hxB (d.take k)) = s at hls HNX
      generalize tS (b2 (m : Int)) = t at HD HNX hbs
      have HKN : Hid (k + 1 ≤ N) := hlt
      clear hm hcs hg hlt
      go_wp2_with (go_at_call 53; refine (HD.out _).mono ?_; rintro e w1 ⟨rfl, hb⟩; have HB1 : Hid (Below w.heap.size w w1) := HB.out.trans (hb.mono HB.out.size); clear hb)
      go_roundw
      case rel => exact ⟨k + 1, HKN.out, HNX.out, by go_num, HB1⟩
      case measure => have := HKN.out; simp [intOf]; omega
    · have hke : k = N := by omega
      have HE : Hid (tS (hxB (d.take k)) = tS (hxB d)) := by unfold Hid; rw [hke, HN.out, List.take_length]
      generalize tS (hxB (d.take k)) = s at HE
      go_wp2
      go_ret
      exact ⟨by rw [← HE.out]; rfl, HB.out⟩
set_option maxHeartbeats 8000000 in
theorem rquote_c {d : List Int} (hA : AllB d) (hl : d.length ≤ 1000) (v : Value) (w : World) (hv : Byt w v d) : Calls Tryd.prog 36 #[v] w fun e w' => e = .returned (.string (tS (qT d))) ∧ Below w.heap.size w w' := by
  obtain ⟨a, cap, rfl, hc, _, hcell⟩ := hv
  have HA : Hid (AllB d) := hA
  have HC : Hid (d ≠ [] → ∃ g off, a = some ⟨g, off, none⟩ ∧ g < w.heap.size ∧ ∀ j, j < d.length → w.cell? ⟨g, off + j, none⟩ = some (.int .u8 (d.getD j 0))) := hcell
  obtain ⟨N, hN⟩ : ∃ N, N = d.length := ⟨_, rfl⟩
  rw [← hN] at hc hl ⊢
  have HN : Hid (N = d.length) := hN
  clear hA hcell hN
  go_enter Tryd.func36, Tryd.ntmps36
  go_upto_region 3 with fail
  go_loopw [3, 4] (fun s i wr => ∃ k : Nat, k ≤ N ∧ s = .string (tS ([34] ++ qB (d.take k))) ∧ i = .int .i64 k ∧ Hid (Below w.heap.size w wr)) (fun _ i _ => N - (intOf i).toNat)
  case atStart => exact ⟨0, Nat.zero_le _, rfl, rfl, Below.refl _ _⟩
  case round =>
    obtain ⟨k, hk, rfl, rfl, HB⟩ := hrel
    by_cases hlt : k < N
    · have hltI : (k : Int) < N := by omega
      obtain ⟨m, hm, hm2⟩ := HA.out.at k (by rw [← HN.out]; exact hlt)
      obtain ⟨g, off, rfl, hg, hcs⟩ := HC.out (by intro e; rw [e] at HN; have := HN.out; simp at this; omega)
      have c0 : wr.cell? ⟨g, off + k, none⟩ = some (.int .u8 (m : Int)) := by
        rw [HB.out.cell (p := ⟨g, off + k, none⟩) hg, hcs k (by rw [← HN.out]; exact hlt), hm]
      have hls : (tS ([34] ++ qB (d.take k))).size ≤ 10000 := by rw [tS_size]; have := qB_len (d.take k); simp only [List.length_append, List.length_cons, List.length_nil]; rw [List.length_take] at this; omega
      have HNX : Hid (∀ x : ByteArray, x = tS (eB (m : Int)) → Value.string (tS ([34] ++ qB (d.take k)) ++ x) = .string (tS ([34] ++ qB (d.take (k + 1))))) := fun x hx => by
        rw [hx, tS_append, take_snoc d k (by rw [← HN.out]; exact hlt), qB_snoc, hm, List.append_assoc]
      generalize tS ([34] ++ qB (d.take k)) = s at hls HNX
      have HKN : Hid (k + 1 ≤ N) := hlt
      clear hm hcs hg hlt
      have hcs : (m = 34 ∨ m = 92) ∨ (m ≠ 34 ∧ m ≠ 92 ∧ m = 10) ∨ (m ≠ 34 ∧ m ≠ 92 ∧ m ≠ 10 ∧ 32 ≤ m ∧ m ≤ 126) ∨ (m ≠ 34 ∧ m ≠ 92 ∧ m ≠ 10 ∧ ¬ (32 ≤ m ∧ m ≤ 126)) := by omega
      have hcv : ∀ w : World, (convert 44 9 (.slice (some ⟨w.heap.size, 0, none⟩) 1 1)).run Tryd.prog (w.alloc (.cells #[.int .u8 (m : Int)] 5)) = .ok (.string ⟨#[UInt8.ofNat m]⟩) (w.alloc (.cells #[.int .u8 (m : Int)] 5)) := fun w => by have := conv1 w (m : Int); rw [Int.toNat_natCast] at this; exact this
      have HBA : Hid (Below w.heap.size w (wr.alloc (.cells #[.int .u8 (m : Int)] 5))) := HB.out.alloc HB.out.size _
      rcases hcs with hcs | ⟨n1, n2, hcs⟩ | ⟨n1, n2, n3, p1, p2⟩ | ⟨n1, n2, n3, p⟩
      · have HE : Hid (Value.string (s ++ ⟨#[92]⟩ ++ ⟨#[UInt8.ofNat m]⟩) = Value.string (s ++ tS (eB (m : Int)))) := by
          unfold Hid eB; rw [if_pos (by omega), Int.toNat_natCast, ByteArray.append_assoc]; congr 2
        have HF : Hid (Value.string (s ++ ⟨#[92]⟩ ++ ⟨#[UInt8.ofNat m]⟩) = .string (tS ([34] ++ qB (d.take (k + 1))))) := HE.out.trans (HNX.out _ rfl)
        have hq1 : ((m : Int) == 34) = true ∨ (((m : Int) == 34) = false ∧ ((m : Int) == 92) = true) := by
          rcases hcs with h | h
          · exact .inl (by subst h; rfl)
          · exact .inr (by subst h; exact ⟨rfl, rfl⟩)
        have hz : (⟨#[UInt8.ofNat m]⟩ : ByteArray).size ≤ 1 := Nat.le_refl _
        generalize (⟨#[UInt8.ofNat m]⟩ : ByteArray) = bm at hcv HF hz
        clear hcs HNX HE
        rcases hq1 with q1 | ⟨q1, q2⟩
        all_goals
          go_wp2
          go_roundw
          case rel => exact ⟨k + 1, HKN.out, HF.out, by go_num, HBA⟩
          case measure => have := HKN.out; simp [intOf]; omega
      · have HF : Hid (Value.string (s ++ ⟨#[92, 110]⟩) = .string (tS ([34] ++ qB (d.take (k + 1))))) := HNX.out _ (by unfold eB; rw [if_neg (by omega), if_pos (by omega)]; rfl)
        have q1 : ((m : Int) == 34) = false := by rw [beq_eq_false_iff_ne]; omega
        have q2 : ((m : Int) == 92) = false := by rw [beq_eq_false_iff_ne]; omega
        have q3 : ((m : Int) == 10) = true := by rw [hcs]; rfl
        clear hcs n1 n2 HNX hcv
        go_wp2
        go_roundw
        case rel => exact ⟨k + 1, HKN.out, HF.out, by go_num, HB⟩
        case measure => have := HKN.out; simp [intOf]; omega
      · have HF : Hid (Value.string (s ++ ⟨#[UInt8.ofNat m]⟩) = .string (tS ([34] ++ qB (d.take (k + 1))))) := HNX.out _ (by unfold eB; rw [if_neg (by omega), if_neg (by omega), if_pos (by omega), Int.toNat_natCast]; rfl)
        have q1 : ((m : Int) == 34) = false := by rw [beq_eq_false_iff_ne]; omega
        have q2 : ((m : Int) == 92) = false := by rw [beq_eq_false_iff_ne]; omega
        have q3 : ((m : Int) == 10) = false := by rw [beq_eq_false_iff_ne]; omega
        have g1 : ¬ (m : Int) < 32 := by omega
        have g2 : ¬ (126 : Int) < (m : Int) := by omega
        have hz : (⟨#[UInt8.ofNat m]⟩ : ByteArray).size ≤ 1 := Nat.le_refl _
        generalize (⟨#[UInt8.ofNat m]⟩ : ByteArray) = bm at hcv HF hz
        clear n1 n2 n3 p1 p2 HNX
        go_wp2
        go_roundw
        case rel => exact ⟨k + 1, HKN.out, HF.out, by go_num, HBA⟩
        case measure => have := HKN.out; simp [intOf]; omega
      · have HF : Hid (Value.string (s ++ ⟨#[92, 120]⟩ ++ tS (b2 (m : Int))) = .string (tS ([34] ++ qB (d.take (k + 1))))) := by
          unfold Hid; rw [← HNX.out _ rfl]; unfold eB; rw [if_neg (by omega), if_neg (by omega), if_neg (by omega), ByteArray.append_assoc]; congr 2
        have q1 : ((m : Int) == 34) = false := by rw [beq_eq_false_iff_ne]; omega
        have q2 : ((m : Int) == 92) = false := by rw [beq_eq_false_iff_ne]; omega
        have q3 : ((m : Int) == 10) = false := by rw [beq_eq_false_iff_ne]; omega
        have hw1 : IntKind.u64.wrap (m : Int) = m := wrapU _ (by omega)
        have hbs : (tS (b2 (m : Int))).size ≤ 2 := by rw [tS_size]; simp [b2]
        have HD : Hid (∀ w', Calls Tryd.prog 53 #[.int .u64 (m : Int), .int .i64 2] w' fun e w'' => e = .returned (.string (tS (b2 (m : Int)))) ∧ Below w'.heap.size w' w'') := fun w' => rdig_c (m : Int) (by omega) w'
        generalize tS (b2 (m : Int)) = t at HD HF hbs
        have hq : (m : Int) < 32 ∨ (¬ (m : Int) < 32 ∧ (126 : Int) < (m : Int)) := by omega
        clear n1 n2 n3 p HNX hcv
        rcases hq with g1 | ⟨g1, g2⟩
        all_goals
          go_wp2_with (go_at_call 53; refine (HD.out _).mono ?_; rintro e w1 ⟨rfl, hb⟩; have HB1 : Hid (Below w.heap.size w w1) := HB.out.trans (hb.mono HB.out.size); clear hb)
          go_roundw
          case rel => exact ⟨k + 1, HKN.out, HF.out, by go_num, HB1⟩
          case measure => have := HKN.out; simp [intOf]; omega
    · have hke : k = N := by omega
      have hls : (tS ([34] ++ qB (d.take k))).size ≤ 10000 := by rw [tS_size]; have := qB_len (d.take k); simp only [List.length_append, List.length_cons, List.length_nil]; rw [List.length_take] at this; omega
      have HE : Hid (tS ([34] ++ qB (d.take k)) ++ ⟨#[34]⟩ = tS (qT d)) := by unfold Hid; rw [hke, HN.out, List.take_length]; exact tS_append _ [34]
      generalize tS ([34] ++ qB (d.take k)) = s at HE hls
      go_wp2
      go_ret
      exact ⟨by rw [← HE.out]; rfl, HB.out⟩
set_option maxHeartbeats 8000000 in
theorem rwords_c (t e s : Bool) (i : List Int) (hA : AllB i) (hl : i.length ≤ 1000) (v : Value) (w : World) (hv : Byt w v i) : Calls Tryd.prog 16 #[.agg #[.bool t, .bool e, .bool s, v]] w fun en w' => en = .returned (.string (tS (wdX ⟨t, e, s, i⟩))) ∧ Below w.heap.size w w' := by
  have HQ : Hid (∀ w', Below w.heap.size w w' → Calls Tryd.prog 36 #[v] w' fun en w'' => en = .returned (.string (tS (qT i))) ∧ Below w'.heap.size w' w'') := fun w' hb => rquote_c hA hl v w' (hv.later hb rfl)
  obtain ⟨ad, cap, rfl, hc1, hc2, hc3⟩ := hv
  obtain ⟨W0, hW0, r0, b0, s0⟩ := start1 w #[.bool t, .bool e, .bool s, .slice ad i.length cap] 48
  have k0 := r0.out.cell 0
  have k1 := r0.out.cell 1
  have k2 := r0.out.cell 2
  have k3 := r0.out.cell 3
  have hqs : (tS (qT i)).size ≤ 5000 := by rw [tS_size]; have := qT_len i; omega
  clear s0 hc1 hc2 hc3 hA
  by_cases hi : i = []
  · subst hi
    simp only [List.length_nil] at hW0 k3
    cases t <;> cases e <;> cases s
    all_goals
      go_enter Tryd.func16, Tryd.ntmps16
      go_upto_region 2 with fail
      clear hW0
      go_wp2
      go_ret
      exact ⟨rfl, b0.out⟩
  · have hln : (0 : Int) < (i.length : Int) := by have := List.length_pos_iff.2 hi; omega
    have HX : Hid (wdX ⟨t, e, s, i⟩ = ((if t then [32, 116, 105, 99, 107] else []) ++ (if e then [32, 101, 120, 116] else []) ++ (if s then [32, 115, 111, 102, 116] else []) ++ [32, 105, 110, 112, 117, 116, 32]) ++ qT i) := by unfold Hid wdX; simp only [if_neg hi]; simp
    have HX2 : Hid (tS (wdX ⟨t, e, s, i⟩) = tS ((if t then [32, 116, 105, 99, 107] else []) ++ (if e then [32, 101, 120, 116] else []) ++ (if s then [32, 115, 111, 102, 116] else []) ++ [32, 105, 110, 112, 117, 116, 32]) ++ tS (qT i)) := by unfold Hid; rw [HX.out, tS_append]
    generalize tS (wdX ⟨t, e, s, i⟩) = R at HX2 ⊢
    generalize tS (qT i) = q at HQ HX2 hqs
    clear HX hi
    cases t <;> cases e <;> cases s
    all_goals
      go_enter Tryd.func16, Tryd.ntmps16
      go_upto_region 2 with fail
      clear hW0
      go_wp2_with (go_at_call 36; refine (HQ.out _ b0.out).mono ?_; rintro en w1 ⟨rfl, hb⟩; have HB1 : Hid (Below W0.heap.size W0 w1) := hb; clear hb)
      go_ret
      exact ⟨by rw [HX2.out]; rfl, b0.out.trans (HB1.out.mono b0.out.size)⟩
def flTab : Array Value := #[.string ⟨#[45]⟩, .string ⟨#[114]⟩, .string ⟨#[119]⟩, .string ⟨#[114, 119]⟩, .string ⟨#[120]⟩, .string ⟨#[114, 120]⟩, .string ⟨#[119, 120]⟩, .string ⟨#[114, 119, 120]⟩]
def flZ : Array Value := #[.string ⟨#[]⟩, .string ⟨#[]⟩, .string ⟨#[]⟩, .string ⟨#[]⟩, .string ⟨#[]⟩, .string ⟨#[]⟩, .string ⟨#[]⟩, .string ⟨#[]⟩]
theorem zero_fl (w : World) : (zeroValue 79).run Tryd.prog w = .ok (.agg flZ) w := by kernel_rfl
theorem info_fl : (Tryd.prog.info? 79).map (·.size) = some flTab.size := by kernel_rfl
theorem ones_fl : flTab.all (·.oneCell') = true := by simp [flTab, Value.oneCell']
theorem flTab_at (n : Nat) (h : n < 8) : flTab[n]? = some (.string (tS (flT n))) := by
  match n, h with
  | 0, _ => rfl
  | 1, _ => rfl
  | 2, _ => rfl
  | 3, _ => rfl
  | 4, _ => rfl
  | 5, _ => rfl
  | 6, _ => rfl
  | 7, _ => rfl
theorem dtLs_cnt (n : Nat) : ∀ d : List Int, d.length ≤ n → (dtLs d).length ≤ d.length := by
  induction n using Nat.strongRecOn with
  | _ n ih =>
    intro d hd
    by_cases h : d = []
    · subst h; simp [dtLs_nil]
    · have hp := List.length_pos_iff.2 h
      rw [dtLs_more h, List.length_cons]
      have := ih (n - 1) (by omega) (d.drop 32) (by rw [List.length_drop]; omega)
      rw [List.length_drop] at this
      omega
set_option maxHeartbeats 8000000 in
theorem rpart_c (p : Pt) (v : Value) (w : World) (hv : Byt w v p.d) (hA : AllB p.d) (hf : 0 ≤ p.f ∧ p.f ≤ 7) (hs : p.s.toNat < 1000000) (hd : p.d.length ≤ 70000) : Calls Tryd.prog 15 #[.agg #[.int .u64 (n64 p.a), .int .u64 (n64 p.s), .int .i64 p.f, v]] w fun e w' => ∃ u, e = .returned u ∧ w'.ownsRow w.heap.size 9 1 u (ptLs p).length (stv (ptLs p)) ∧ Below w.heap.size w w' := by
  obtain ⟨W0, hW0, r0, b0, s0⟩ := start1 w #[.int .u64 (n64 p.a), .int .u64 (n64 p.s), .int .i64 p.f, v] 46
  obtain ⟨W1, hW1, r1, b1, s1⟩ := start1 W0 flTab 79
  obtain ⟨fn, hfn⟩ := Int.eq_ofNat_of_zero_le hf.1
  have hf8 : fn < 8 := by omega
  have HB1 : Hid (Below w.heap.size w W1) := b0.out.trans (b1.out.mono b0.out.size)
  have HLS : Hid (w.heap.size ≤ W1.heap.size) := HB1.out.size
  have R0 := r0.out.later b1.out r0.out.lt
  have := later_nonempty W1
  have c0 : ∀ x : Later W1, x.1.cell? ⟨w.heap.size, 0, none⟩ = some (.int .u64 (n64 p.a)) := later_atD R0.lt (R0.cell 0)
  have c1 : ∀ x : Later W1, x.1.cell? ⟨w.heap.size, 1, none⟩ = some (.int .u64 (n64 p.s)) := later_atD R0.lt (R0.cell 1)
  have c2 : ∀ x : Later W1, x.1.cell? ⟨w.heap.size, 2, none⟩ = some (.int .i64 fn) := by rw [← hfn]; exact later_atD R0.lt (R0.cell 2)
  have c3 : Hid (∀ w', Below W1.heap.size W1 w' → w'.cell? ⟨w.heap.size, 3, none⟩ = some v) := fun w' hb => (hb.cell (p := ⟨w.heap.size, 3, none⟩) R0.lt).trans (R0.cell 3)
  have cf : ∀ x : Later W1, x.1.cell? ⟨W0.heap.size, fn, none⟩ = some (.string (tS (flT p.f))) := later_atD r1.out.lt (by rw [hfn, r1.out.cell]; exact flTab_at fn hf8)
  have hfI : (fn : Int) < 8 := by omega
  have HO : Hid (W1.ownsRow W1.heap.size 9 1 (.slice none 0 0) ([] : List Tx).length (stv [])) := own_nilW _ _
  obtain ⟨ln, hln⟩ : ∃ ln, ln = ptH p := ⟨_, rfl⟩
  have HLN : Hid (ln = [112, 97, 114, 116, 32] ++ hxT p.a ++ [32] ++ dcL p.s.toNat ++ [32] ++ flT p.f) := by unfold Hid; rw [hln]; unfold ptH; rw [jw_cons, jw_cons, jw_cons, jw_one]; simp
  have HPL : Hid ([ln] ++ dtLs p.d = ptLs p) := by unfold Hid ptLs; rw [hln]; rfl
  have hs0 : (tS (hxT p.a)).size ≤ 200 := by rw [tS_size]; have := hxT_len p.a; omega
  have hs1 : (tS (dcL p.s.toNat)).size ≤ 200 := by rw [tS_size]; have := dcL_len p.s.toNat 5 (by omega); omega
  have hs2 : (tS (flT p.f)).size ≤ 200 := by rw [tS_size]; have := flT_len p.f; omega
  have HEQ : Hid ((((((⟨#[112, 97, 114, 116, 32]⟩ : ByteArray) ++ tS (hxT p.a)) ++ ⟨#[32]⟩) ++ tS (dcL p.s.toNat)) ++ ⟨#[32]⟩) ++ tS (flT p.f) = tS ln) := by unfold Hid; rw [HLN.out]; simp only [← tS_append]; rfl
  have X1 : Hid (∀ x : Later W1, Calls Tryd.prog 12 #[.int .u64 (n64 p.a)] x.1 fun e w'' => e = .returned (.string (tS (hxT p.a))) ∧ Below x.1.heap.size x.1 w'') := fun x => rhx_c _ x.1
  have X2 : Hid (∀ x : Later W1, Calls Tryd.prog 11 #[.int .i64 (n64 p.s)] x.1 fun e w'' => e = .returned (.string (tS (dcL p.s.toNat))) ∧ Below x.1.heap.size x.1 w'') := fun x => rdec_c p.s.toNat (by omega) x.1
  have hw1 : IntKind.i64.wrap (n64 p.s) = n64 p.s := wrapI _ (by unfold n64; omega)
  have HV : Hid (Byt W1 v p.d ∧ AllB p.d ∧ p.d.length ≤ 70000) := ⟨hv.later HB1.out rfl, hA, hd⟩
  have HCN : Hid ((ptLs p).length ≤ 80000) := by unfold Hid ptLs; rw [List.length_cons]; have := dtLs_cnt _ p.d (Nat.le_refl _); omega
  clear hln R0 r1 hfn hf8 hf hs hd hv hA b1 s0 s1 HLN
  generalize ptLs p = PL at HPL HCN ⊢
  generalize tS (hxT p.a) = x1 at hs0 HEQ X1
  generalize tS (dcL p.s.toNat) = x2 at hs1 HEQ X2
  generalize tS (flT p.f) = x3 at hs2 HEQ cf
  generalize n64 p.a = na at *
  generalize n64 p.s = ns at *
  generalize p.d = pd at *
  go_enter Tryd.func15, Tryd.ntmps15
  go_upto_region 1 with fail
  clear hW0
  go_upto_region 2 with (first
    | (refine wpList_build_tab (by rfl) 79 _ (by rfl) flTab (by kernel_rfl) ?_)
    | (refine wpList_allocZ1 (by rfl) 79 (by rfl) flZ zero_fl ?_)
    | (refine wpList_store_new (by rfl) 79 _ _ (by rfl) (by rfl) flZ flTab (by rfl) (by rfl) info_fl (by rfl) ones_fl ?_))
  try rw [hW1]
  clear hW1
  --@U1
  go_upto_region 3 with fail
  refine wp_region_later_tail1 (x0 := Later.start W1) 17 (.slice none 0 0) (by kernel_rfl) (by kernel_rfl) (fun _ _ _ h => h) (.inl ⟨by rfl, fun w => by rfl⟩) ?_
  simp only [List.take_succ_cons, List.take_zero, List.drop_succ_cons, List.drop_zero, Act.put, List.setIfInBounds_toArray, List.set_cons_succ, List.set_cons_zero]
  repeat (go_big_quiet_step (first | (go_at_call 12; exact calls_later (X1.out _)) | (go_at_call 11; exact calls_later (X2.out _))))
  refine wpQuiet_nil ?_
  rintro w' ⟨x9, rfl⟩
  have HO9 : Hid (x9.1.ownsRow W1.heap.size 9 1 (.slice none 0 0) ([] : List Tx).length (stv [])) := own_nilW _ _
  have HB9 : Hid (Below W1.heap.size W1 x9.1) := x9.below
  generalize x9.1 = W9 at HO9 HB9 ⊢
  clear c0 c1 c2 cf X1 X2 hs0 hs1 hs2 HO
  --@U2
  go_upto_region 4 with (at_builtin; refine appW (by rfl) _ _ (by rfl) W1.heap.size _ ([] : List Tx) (by rfl) (ownW_al HO9.out _) [ln] _ 0 1 (by rfl) (bs1e _ HEQ.out) (by simp) (by have := HB9.out.size; simp; omega) ?_; intro v2 w2 h1 h2 h3; have HO2 : Hid (w2.ownsRow W1.heap.size 9 1 v2 ([] ++ [ln]).length (stv ([] ++ [ln]))) := h1; have HB2 : Hid (Below W1.heap.size W1 w2) := ((HB9.out).alloc (HB9.out).size _).trans h2; clear h1 h2 h3)
  rw [List.nil_append] at HO2
  have k3 := c3.out w2 HB2.out
  go_upto_region 5 with fail
  --@U3
  go_loopw [4, 5] (fun o b wr => ∃ e : List Int, ∃ M : List Tx, Hid (Byt W1 b e ∧ AllB e ∧ e.length ≤ 70000) ∧ Hid (M ++ dtLs e = PL) ∧ Hid (wr.ownsRow W1.heap.size 9 1 o M.length (stv M)) ∧ Hid (Below W1.heap.size W1 wr)) (fun _ b _ => match b with | .slice _ n _ => n | _ => 0)
  case atStart => exact ⟨pd, [ln], HV, HPL, HO2, HB2⟩
  case round =>
    obtain ⟨e, M, HE, HM, HOr, HBr⟩ := hrel
    clear HO2 HB2 k3 HO9 HB9 HV HPL HEQ
    obtain ⟨ad, cap, e1, hc1, hc2, hc3⟩ := HE.out.1
    subst e1
    clear hc2 hc3
    by_cases he : e = []
    · subst he
      have HF : Hid (M = PL) := by unfold Hid; have := HM.out; rw [dtLs_nil, List.append_nil] at this; exact this
      go_wp2
      go_ret
      exact ⟨_, rfl, by rw [← HF.out]; exact own_le HOr.out HLS.out, HB1.out.trans (HBr.out.mono HLS.out)⟩
    · have hp := List.length_pos_iff.2 he
      have hp0 : (0 : Int) < (e.length : Int) := by omega
      obtain ⟨u, v2, hu, hv2, hbu, hbv⟩ := HE.out.1.two (min 32 e.length) (Nat.min_le_right _ _)
      have hq : min (e.length : Int) (32 : Int) = ((min 32 e.length : Nat) : Int) := by omega
      have HEL : Hid (e.length ≤ 70000) := HE.out.2.2
      have HQ : Hid (0 < min 32 e.length ∧ min 32 e.length ≤ e.length) := ⟨by omega, Nat.min_le_right _ _⟩
      rw [take_min] at hbu
      rw [drop_min] at hbv
      have HBV : Hid (Byt W1 v2 (e.drop 32)) := hbv
      have HX : Hid (∀ w', Below W1.heap.size W1 w' → Calls Tryd.prog 35 #[u] w' fun en w'' => en = .returned (.string (tS (hxB (e.take 32)))) ∧ Below w'.heap.size w' w'') := fun w' hb => rbd_c (HE.out.2.1.take 32) (by rw [List.length_take]; omega) u w' (hbu.later hb rfl)
      have HNX : Hid (M ++ [dtT (e.take 32)] ++ dtLs (e.drop 32) = PL) := by unfold Hid; have := HM.out; rw [dtLs_more he] at this; rw [← this]; simp
      have HAe : Hid (AllB (e.drop 32)) := HE.out.2.1.drop 32
      have HVL : Hid (∃ a2 c2, v2 = .slice a2 (e.drop 32).length c2) := by obtain ⟨a2, c2, q, _⟩ := hbv; exact ⟨a2, c2, q⟩
      have HML : Hid (M.length ≤ 80000) := by unfold Hid; have := congrArg List.length HM.out; rw [List.length_append] at this; have := HCN.out; omega
      have HEQ2 : Hid ((⟨#[100, 97, 116, 97, 32]⟩ : ByteArray) ++ tS (hxB (e.take 32)) = tS (dtT (e.take 32))) := by unfold Hid dtT; rw [jw_cons, jw_one]; exact tS_append [100, 97, 116, 97, 32] _
      have hxs : (tS (hxB (e.take 32))).size ≤ 64 := by rw [tS_size, hxB_len, List.length_take]; omega
      generalize min 32 e.length = q at hq hu hv2 HQ
      generalize tS (hxB (e.take 32)) = s at HX HEQ2 hxs
      generalize dtT (e.take 32) = tl at HNX HEQ2
      clear hbu hbv HE he hp
      --@U4
      go_wp2_with (first
        | (go_at_call 35; refine (HX.out _ HBr.out).mono ?_; rintro en w3 ⟨rfl, hb⟩; have HB3 : Hid (Below W1.heap.size W1 w3) := HBr.out.trans (hb.mono HBr.out.size); have HO3 : Hid (w3.ownsRow W1.heap.size 9 1 u4 M.length (stv M)) := ownW_later HOr.out hb; clear hb)
        | (at_builtin; refine appW (by rfl) _ _ (by rfl) W1.heap.size _ M (by rfl) (ownW_al HO3.out _) [tl] _ 0 1 (by rfl) (bs1e _ HEQ2.out) (by have := HML.out; simp; omega) (by have := HB3.out.size; simp; omega) ?_; intro v4 w4 h1 h2 h3; have HO4 : Hid (w4.ownsRow W1.heap.size 9 1 v4 (M ++ [tl]).length (stv (M ++ [tl]))) := h1; have HB4 : Hid (Below W1.heap.size W1 w4) := ((HB3.out).alloc (HB3.out).size _).trans h2; clear h1 h2 h3))
      go_roundw
      case rel => exact ⟨e.drop 32, M ++ [tl], ⟨HBV.out, HAe.out, by rw [List.length_drop]; have := HEL.out; omega⟩, HNX, HO4, HB4⟩
      case measure =>
        obtain ⟨a2, c2, rfl⟩ := HVL.out
        show (e.drop 32).length < e.length
        rw [List.length_drop]; have := HQ.out; omega
end Go.Proofs.YthmjimmmkoeeoaaDoor
