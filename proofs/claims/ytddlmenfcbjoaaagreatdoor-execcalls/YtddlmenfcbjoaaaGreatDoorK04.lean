import Derived.Test.YtddlmenfcbjoaaaGreatDoorK01
import Derived.Test.YtddlmenfcbjoaaaGreatDoorK02
import Derived.Laws.AppendOwnNone
import Derived.Laws.BytesArg
import Derived.ArgAppend
import Derived.Lib.OwnKind
import Derived.Lib.SmallJoins
import Derived.Lib.SliceRun
import Derived.Conc.MuLone
import Derived.Deep.RegionHeld3
namespace Go.Proofs.YtddlmenfcbjoaaaGreatDoor
set_option linter.unusedVariables false
set_option maxRecDepth 100000
set_option maxHeartbeats 8000000
open Go.ChangeShapes Go.WideShapes Go.ChangeAt Go.RowKit Go.Deep _root_.Go.Proofs.Tryz
theorem pZ : (prog.info? 5).map (fun i => (i.zero, i.size, i.bytes)) = some (some (.int .u8 0), 1, 1) := by kernel_rfl
def bv (l : List Int) : List Value := l.map (Value.int .u8)
theorem bY (l : List Int) : (bv l).length = l.length := by simp [bv]
theorem FG (l : List Int) (k : Nat) (z : Int) : (bv l).set k (.int .u8 z) = bv (l.set k z) := by simp [bv, List.map_set]
theorem jU (l : List Int) (k : Nat) (h : k < l.length) : (bv l)[k]? = some (.int .u8 (l.getD k 0)) := by simp [bv, h]
theorem oZ (n : Nat) : (madeCells #[Value.int .u8 0] (n * 1)).toList = bv (List.replicate n 0) := by
 rw [Nat.mul_one, toList_madeCells_one]; simp [bv]
theorem zN (g off j : Nat) : (⟨g, off, none⟩ : Addr).add j = ⟨g, off + j, none⟩ := by unfold Addr.add; split <;> simp_all
def fQ (l : List Int) : Prop := ∀ x ∈ l, 0 ≤ x ∧ x ≤ 255
def Byt (w : World) (v : Value) (l : List Int) : Prop :=
 ∃ a cap, v = .slice a l.length cap ∧ l.length ≤ cap ∧ (a = none → cap = 0) ∧ (l ≠ [] → ∃ g off, a = some ⟨g, off, none⟩ ∧ g < w.heap.size ∧ ∀ j, j < l.length → w.cell? ⟨g, off + j, none⟩ = some (.int .u8 (l.getD j 0)))
theorem Byt.later {w w' : World} {v : Value} {l : List Int} (h : Byt w v l) {B : Nat} (hb : Below B w w') (hB : B = w.heap.size) : Byt w' v l := by
 obtain ⟨a, cap, rfl, h1, h1', h2⟩ := h
 refine ⟨a, cap, rfl, h1, h1', fun hn => ?_⟩
 obtain ⟨g, off, rfl, h3, h4⟩ := h2 hn
 exact ⟨g, off, rfl, ZqS h3 hb.size, fun j hj => by rw [hb.cell (by rw [hB]; exact h3)]; exact h4 j hj⟩
theorem Byt.conv {w : World} {v : Value} {l : List Int} (h : Byt w v l) : (convert 32 9 v).run prog w = .ok (.string (strOfNums l)) w := by
 obtain ⟨a, cap, rfl, h1, h1', h2⟩ := h
 by_cases hl : l = []
 ·subst hl
  cases a with
  | none => exact run_convert_bytes_nil (P := prog) w 32 5 underlying32 underlying5 _ _ _ underlying9
  | some ad =>
   rw [run_convert_bytes_string w 32 9 5 _ _ _ underlying32 underlying5 underlying9]
   exact run_bytesToString w ad 0 cap [] (by have := run_loadCells_list (P := prog) w ad [] (fun j v hj => by simp at hj); simpa using this)
 ·obtain ⟨g, off, rfl, h3, h4⟩ := h2 hl
  exact run_convert_bytes_arg w 32 5 underlying32 underlying5 g off l.length cap l rfl h4 _ underlying9
theorem Byt.nil (w : World) : Byt w (.slice none 0 0) [] := ⟨none, 0, rfl, ZqE _, fun _ => rfl, fun hn => absurd rfl hn⟩
theorem Byt.of_own {w : World} {B n : Nat} {v : Value} {l : List Int} (h : w.ownsRow B 5 1 v n (bv l)) : Byt w v l := by
 have hlen := h.1
 rw [bY, Nat.mul_one] at hlen
 rcases Go.Joins.ownsRow_forms h with ⟨rfl, h0⟩ | ⟨g, cap, rfl⟩
 ·have hl0 : l = [] := List.eq_nil_of_length_eq_zero (by omega)
  subst hl0
  exact Byt.nil w
 ·have hcap : n ≤ cap := by
   rcases h.2 with ⟨h', _⟩ | ⟨g', cap', cur, h', _, _, hn, _⟩
   ·simp at h'
   ·simp only [Value.slice.injEq] at h'; obtain ⟨_, _, rfl⟩ := h'; exact hn
  subst hlen
  exact ⟨some ⟨g, 0, none⟩, cap, rfl, by omega, (fun e => by cases e), fun hne => ⟨g, 0, rfl, (h.lt g rfl).2, fun j hj => by rw [ZqU, h.cellAt j (by omega), jU _ _ hj]⟩⟩
theorem eJ {S : Nat → Prop} {w w' : World} {B e size n : Nat} {v : Value} {xs : List Value} (h : w.ownsRow B e size v n xs) (he : Exc S w w') (hS : ∀ k, v.ownBlock = some k → ¬ S k) : w'.ownsRow B e size v n xs := by
 have hl := h.lt
 refine ⟨h.1, ?_⟩
 rcases h.2 with h' | ⟨g, cap, cur, rfl, h1, h2, h3⟩
 ·exact .inl h'
 ·exact .inr ⟨g, cap, cur, rfl, h1, by rw [he.block g (hl g rfl).2 (hS g rfl)]; exact h2, h3⟩
theorem fL {w w' : World} {B e size n : Nat} {v : Value} {xs : List Value} (h : w.ownsRow B e size v n xs) {B' : Nat} (hb : Below B' w w') (hB : B' = w.heap.size) : w'.ownsRow B e size v n xs := by
 have hl := h.lt
 refine ⟨h.1, ?_⟩
 rcases h.2 with h' | ⟨g, cap, cur, rfl, h1, h2, h3⟩
 ·exact .inl h'
 ·exact .inr ⟨g, cap, cur, rfl, h1, by rw [hb.block g (by rw [hB]; exact (hl g rfl).2)]; exact h2, h3⟩
theorem gW {w : World} {B B' e size n : Nat} {v : Value} {xs : List Value} (h : w.ownsRow B e size v n xs) (hb : B' ≤ B) : w.ownsRow B' e size v n xs := by
 refine ⟨h.1, ?_⟩
 rcases h.2 with h' | ⟨g, cap, cur, rfl, h1, h2, h3⟩
 ·exact .inl h'
 ·exact .inr ⟨g, cap, cur, rfl, ZqO hb h1, h2, h3⟩
theorem NO {ops : Array Oper} {rest : List Oper} {o : Oper} {a : Act} {w : World} {Q : Exit → Act → World → Prop} (hgd : o.guard = none) (s x : Operand) (ho : o.op = .call { callee := .builtin .append, args := #[s, x], argTypes := #[32, 32] })
  (B : Nat) (v u : Value) (m l : List Int) (hs : a.eval s = v) (hown : w.ownsRow B 5 1 v m.length (bv m)) (hx : a.eval x = u) (hu : Byt w u l) (hl : m.length + l.length ≤ 140737488355328) (hB : B ≤ w.heap.size)
  (h : ∀ v' w', w'.ownsRow B 5 1 v' (m ++ l).length (bv (m ++ l)) → w.grownBy w' v.ownBlock → wpList prog ops Q rest (a.put o.dst v') w') :
  wpList prog ops Q (o :: rest) a w := by
 obtain ⟨i0, hi, hz0, hz1, hz2⟩ := info_parts pZ
 obtain ⟨ao, cap, rfl, h1, h1', h2⟩ := hu
 cases ao with
 | none =>
  have hc := h1' rfl
  have hl0 : l = [] := List.eq_nil_of_length_eq_zero (by omega)
  subst hl0; subst hc
  refine wpList_append_own_none hgd s x 32 ho B 5 i0 1 underlying32 hi v m.length (bv m) hs hown hx ?_
  exact h _ _ (by simpa using hown) (World.grownBy.refl _ _)
 | some ad =>
  refine wpList_append_own _ hgd s x 32 ho B 5 i0 (.int .u8 0) 1 1 underlying32 hi hz0 hz1 hz2 rfl (by decide) v m.length (bv m) hs hown ad l.length cap (bv l) hx (by simp [bv]) ?_ ?_ (by unfold maxLen; omega) (by omega) hB ?_
  ·intro j w2 hj
   have hjl : j < l.length := by have := (List.getElem?_eq_some_iff.1 hj).1; simpa [bv] using this
   obtain ⟨g, off, he, h3, h4⟩ := h2 (by intro e; rw [e] at hjl; simp at hjl)
   cases he
   rw [jU _ _ hjl] at hj
   cases hj
   rw [zN]
   exact h4 j hjl
  ·intro w2 hw2; simp [bv] at hw2; obtain ⟨q, _, rfl⟩ := hw2; rfl
  ·intro v' w' g1 g2 g3
   exact h v' w' (by simpa [bv] using g1) g2
theorem oU {l : List Int} (hl : l.length ≤ 140737488355328) (v : Value) (w : World) (hv : Byt w v l) :
  Calls prog 32 #[v] w fun e w' => ∃ u, e = .returned u ∧ w'.ownsRow w.heap.size 5 1 u l.length (bv l) ∧ Below w.heap.size w w' := by
 have HV := hid hv
 obtain ⟨ao, cap, rfl, h1, h1', h2⟩ := hv
 have qT : ∀ (w : World) (a : Option Addr) (n c n' c' : Nat), (binOp .eql 32 (.slice a n c) (.slice none n' c')).run prog w = .ok (.bool a.isNone) w := fun w a n c n' c' => Lib.run_eql_slice_nil w _ _ a n c n' c' underlying32
 have HW : Hid ((w.alloc (.cells #[] 5)).ownsRow w.heap.size 5 1 (.slice (some ⟨w.heap.size, 0, none⟩) 0 0) 0 (bv [])) := World.ownsRow_made w #[] 0 (ZqE _) (Nat.zero_le _) rfl
 have HB : Hid (Below w.heap.size w (w.alloc (.cells #[] 5))) := (ZqD _ _).alloc (ZqE _) _
 have HV2 : Hid (Byt (w.alloc (.cells #[] 5)) (.slice ao l.length cap) l) := HV.out.later HB.out rfl
 clear h2
 cases ao with
 | none =>
  have hc := h1' rfl
  have hl0 : l = [] := List.eq_nil_of_length_eq_zero (by omega)
  subst hl0
  clear HV HW HB HV2
  go_enter func32, ntmps32
  go_wp2
  go_ret
  exact ⟨_, rfl, World.ownsRow_nil _ _ _ _, ZqD _ _⟩
 | some ad =>
  go_enter func32, ntmps32
  go_wp2_with (at_builtin; refine NO (by rfl) _ _ (by rfl) w.heap.size _ _ [] l (by rfl) HW.out (by rfl) HV2.out (by simpa using hl) (by simp) ?_; intro v' w1 hown1 hg1)
  have HO : Hid (w1.ownsRow w.heap.size 5 1 v' l.length (bv l)) := hown1
  have HG : Hid (Below w.heap.size w w1) := Below.grown HB.out hg1 (by simp) (fun k hk => (HW.out.lt k hk).1)
  clear hown1 hg1 HW HV2 HB
  go_wp2
  go_ret
  exact ⟨_, rfl, HO.out, HG.out⟩
structure St where
 ram : List Int
 msip : Int
 cmp : Int
 time : Int
 ext : Bool
 soft : Bool
 ier : Int
 lcr : Int
 mcr : Int
 scr : Int
 ov : Bool
 inp : List Int
 out : List Int
 off : Int
 code : Int
def stc (S : St) (vr vi vo : Value) : Array Value := #[vr, .int .u32 S.msip, .int .u64 S.cmp, .int .u64 S.time, .bool S.ext, .bool S.soft, .int .u8 S.ier, .int .u8 S.lcr, .int .u8 S.mcr, .int .u8 S.scr, .bool S.ov, vi, vo, .int .i64 S.off, .int .i64 S.code]
def gS (n : Nat) : Bool := decide (8 ≤ (n : Int)) && decide ((n : Int) ≤ 65536) && ((n : Int) % 8 == 0)
def fM (off code : Int) : Bool := if off = 0 ∨ off = 1 then code == 0 else if off = 2 then decide (0 ≤ code) && decide (code ≤ 65535) else false
def St.ok (S : St) : Bool := gS S.ram.length && decide (S.msip ≤ 1) && decide (S.ier ≤ 15) && decide (S.mcr ≤ 31) && decide ((S.inp.length : Int) ≤ 64) && decide ((S.out.length : Int) ≤ 4096) && fM S.off S.code
theorem nZ (n : Nat) (w : World) : Calls prog 39 #[.int .i64 n] w fun e w' => e = .returned (.bool (gS n)) ∧ w' = w := by
 unfold gS
 by_cases h1 : 8 ≤ (n : Int)
 ·by_cases h2 : (n : Int) ≤ 65536
  ·have hm : (n : Int).tmod 8 = (n : Int) % 8 := Int.tmod_eq_emod_of_nonneg (by omega)
   go_enter func39, ntmps39
   go_wp2
   go_ret
   simp [h1, h2]
  ·have h2' : (65536 : Int) < n := by omega
   go_enter func39, ntmps39
   go_wp2
   go_ret
   simp
   omega
 ·have h1' : (n : Int) < 8 := by omega
  go_enter func39, ntmps39
  go_wp2
  go_ret
  simp
  omega
theorem CW (off code : Int) (w : World) : Calls prog 55 #[.int .i64 off, .int .i64 code] w fun e w' => e = .returned (.bool (fM off code)) ∧ w' = w := by
 unfold fM
 by_cases h0 : off = 0
 ·subst h0
  go_enter func55, ntmps55
  go_wp2
  go_ret
  simp
 ·by_cases h1 : off = 1
  ·subst h1
   go_enter func55, ntmps55
   go_wp2
   go_ret
   simp
  ·by_cases h2 : off = 2
   ·subst h2
    by_cases h3 : 0 ≤ code
    ·go_enter func55, ntmps55
     go_wp2
     go_ret
     simp
    ·have h3' : code < 0 := by omega
     go_enter func55, ntmps55
     go_wp2
     go_ret
     simp
     omega
   ·have e0 : (off == 0) = false := by simpa using h0
    have e1 : (off == 1) = false := by simpa using h1
    have e2 : (off == 2) = false := by simpa using h2
    go_enter func55, ntmps55
    go_wp2
    go_ret
    simp
theorem OF (S : St) (ar ai ao : Option Addr) (cr ci co : Nat) (w : World) :
  Calls prog 38 #[.agg (stc S (.slice ar S.ram.length cr) (.slice ai S.inp.length ci) (.slice ao S.out.length co))] w fun e w' => e = .returned (.bool S.ok) ∧ Below w.heap.size w w' := by
 have HB : Hid (∀ o, Below w.heap.size w (w.alloc o)) := fun o => (ZqD _ _).alloc (ZqE _) o
 obtain ⟨b, hb⟩ : ∃ b, b = S.ok := ⟨_, rfl⟩
 rw [← hb]
 have HK := hid hb
 clear hb
 unfold stc
 generalize hr : gS S.ram.length = r
 generalize hp : fM S.off S.code = p
 have hR := nZ S.ram.length
 have hP := CW S.off S.code
 rw [hr] at hR
 rw [hp] at hP
 have HE : Hid (b = (r && decide (S.msip ≤ 1) && decide (S.ier ≤ 15) && decide (S.mcr ≤ 31) && decide ((S.inp.length : Int) ≤ 64) && decide ((S.out.length : Int) ≤ 4096) && p)) := by
  unfold Hid; rw [HK.out, St.ok, hr, hp]
 clear HK hr hp
 cases r with
 | false =>
  go_enter func38, ntmps38
  go_wp2_with (go_at_call 39; refine (hR _).mono ?_; rintro e w' ⟨rfl, rfl⟩)
  go_ret
  exact ⟨by rw [HE.out]; rfl, HB.out _⟩
 | true =>
  -- the rest
  rcases Int.lt_or_le 1 S.msip with g0 | h0
  ·have HX : Hid (b = false) := by unfold Hid; rw [HE.out]; simp [show ¬ S.msip ≤ 1 by omega]
   clear HE
   go_enter func38, ntmps38
   go_wp2_with (first | (go_at_call 39; refine (hR _).mono ?_; rintro e w' ⟨rfl, rfl⟩) | (go_at_call 55; refine (hP _).mono ?_; rintro e w' ⟨rfl, rfl⟩))
   go_ret
   exact ⟨by cases HX.out; rfl, HB.out _⟩
  rcases Int.lt_or_le 15 S.ier with g1 | h1
  ·have HX : Hid (b = false) := by unfold Hid; rw [HE.out]; simp [show ¬ S.ier ≤ 15 by omega]
   clear HE
   go_enter func38, ntmps38
   go_wp2_with (first | (go_at_call 39; refine (hR _).mono ?_; rintro e w' ⟨rfl, rfl⟩) | (go_at_call 55; refine (hP _).mono ?_; rintro e w' ⟨rfl, rfl⟩))
   go_ret
   exact ⟨by cases HX.out; rfl, HB.out _⟩
  rcases Int.lt_or_le 31 S.mcr with g2 | h2
  ·have HX : Hid (b = false) := by unfold Hid; rw [HE.out]; simp [show ¬ S.mcr ≤ 31 by omega]
   clear HE
   go_enter func38, ntmps38
   go_wp2_with (first | (go_at_call 39; refine (hR _).mono ?_; rintro e w' ⟨rfl, rfl⟩) | (go_at_call 55; refine (hP _).mono ?_; rintro e w' ⟨rfl, rfl⟩))
   go_ret
   exact ⟨by cases HX.out; rfl, HB.out _⟩
  rcases Int.lt_or_le 64 (S.inp.length : Int) with g3 | h3
  ·have HX : Hid (b = false) := by unfold Hid; rw [HE.out]; simp [show ¬ (S.inp.length : Int) ≤ 64 by omega]
   clear HE
   go_enter func38, ntmps38
   go_wp2_with (first | (go_at_call 39; refine (hR _).mono ?_; rintro e w' ⟨rfl, rfl⟩) | (go_at_call 55; refine (hP _).mono ?_; rintro e w' ⟨rfl, rfl⟩))
   go_ret
   exact ⟨by cases HX.out; rfl, HB.out _⟩
  rcases Int.lt_or_le 4096 (S.out.length : Int) with g4 | h4
  ·have HX : Hid (b = false) := by unfold Hid; rw [HE.out]; simp [show ¬ (S.out.length : Int) ≤ 4096 by omega]
   clear HE
   go_enter func38, ntmps38
   go_wp2_with (first | (go_at_call 39; refine (hR _).mono ?_; rintro e w' ⟨rfl, rfl⟩) | (go_at_call 55; refine (hP _).mono ?_; rintro e w' ⟨rfl, rfl⟩))
   go_ret
   exact ⟨by cases HX.out; rfl, HB.out _⟩
  have HX : Hid (b = p) := by unfold Hid; rw [HE.out]; simp [h0, h1, h2, h3, h4]
  clear HE
  go_enter func38, ntmps38
  go_wp2_with (first | (go_at_call 39; refine (hR _).mono ?_; rintro e w' ⟨rfl, rfl⟩) | (go_at_call 55; refine (hP _).mono ?_; rintro e w' ⟨rfl, rfl⟩))
  go_ret
  exact ⟨by cases HX.out; rfl, HB.out _⟩
inductive Kd where
 | con (c : Value)
 | own (l : List Int)
 | agg (f : List Value → Array Value)
 | box (f : List Value → Array Value) (t : TypeId)
 | same
 | mem (f : List Value → World → Prop)
def FK (B : Nat) : Kd → List Value → World → Prop
 | .con c, v :: _, _ => v = c
 | .own l, v :: _, w => w.ownsRow B 5 1 v l.length (bv l)
 | .agg f, v :: vs, _ => v = .agg (f vs)
 | .box f t, v :: vs, w => ∃ g, v = .pointer (some ⟨g, 0, none⟩) ∧ B ≤ g ∧ w.heap[g]? = some (.cells (f vs) t (0, 0))
 | .same, v :: vs, _ => v = vs.getD 0 undef
 | .mem f, _ :: vs, w => f vs w
 | _, [], _ => False
theorem FK.mono {B : Nat} {G : Nat → Prop} {k : Kd} {vs : List Value} {w w' : World} (hG : ∀ k, G k → k < B) (hm : ∀ f, k ≠ .mem f) (h : FK B k vs w) (hx : Exk G w w') : FK B k vs w' := by
 have hb := hx.e
 cases vs with
 | nil => cases k <;> exact h
 | cons v vs =>
  cases k with
  | con c => exact h
  | own l => exact eJ h hb (fun k hk hg => by have := (World.ownsRow.lt h k hk).1; have := hG k hg; omega)
  | agg f => exact h
  | same => exact h
  | mem f => exact absurd rfl (hm f)
  | box f t =>
   obtain ⟨g, h1, h2, h3⟩ := h
   exact ⟨g, h1, h2, by rw [hb.block g (Array.getElem?_eq_some_iff.1 h3).1 (fun hg => by have := hG g hg; omega)]; exact h3⟩
def kX : Nat → List Nat
 | 1 => [0] | 2 => [1] | 3 => [2] | 4 => [3, 2]
 | 6 => [5] | 8 => [7] | 9 => [6, 8] | 10 => [9]
 | 12 => [11] | 13 => [12] | 14 => [13]
 | 16 => [15] | 17 => [16] | 18 => [17]
 | 20 => [19] | 21 => [20] | 22 => [21]
 | 24 => [23] | 26 => [25] | 28 => [27] | 30 => [29]
 | 32 => [31] | 33 => [32] | 35 => [34] | 36 => [33, 35] | 37 => [36, 33]
 | 39 => [38] | 40 => [39] | 41 => [37, 40, 24, 26, 28, 30] | 42 => [41, 37, 40]
 | 44 => [43] | 46 => [45] | 47 => [4, 10, 14, 18, 22, 42, 44, 46] | 48 => [47, 4, 10, 14, 18, 22, 42] | 49 => [48]
 | _ => []
def vO (S : St) (vr vi vo : Value) (p : Nat) : Nat → Kd
 | 0 => .con (.pointer (some ⟨p, 0, none⟩)) | 1 => .con vr | 2 => .own S.ram | 3 => .agg (fun vs => #[vs.getD 0 undef]) | 4 => .box (fun vs => #[vs.getD 1 undef]) 89
 | 5 => .con (.pointer (some ⟨p, 13, none⟩)) | 6 => .con (.int .i64 S.off) | 7 => .con (.pointer (some ⟨p, 14, none⟩)) | 8 => .con (.int .i64 S.code) | 9 => .con (.agg #[.int .i64 S.off, .int .i64 S.code]) | 10 => .box (fun _ => #[.int .i64 S.off, .int .i64 S.code]) 96
 | 11 => .con (.pointer (some ⟨p, 1, none⟩)) | 12 => .con (.int .u32 S.msip) | 13 => .con (.agg #[.int .u32 S.msip]) | 14 => .box (fun _ => #[.int .u32 S.msip]) 91
 | 15 => .con (.pointer (some ⟨p, 2, none⟩)) | 16 => .con (.int .u64 S.cmp) | 17 => .con (.agg #[.int .u64 33570816, .int .u64 S.cmp]) | 18 => .box (fun _ => #[.int .u64 33570816, .int .u64 S.cmp]) 93
 | 19 => .con (.pointer (some ⟨p, 3, none⟩)) | 20 => .con (.int .u64 S.time) | 21 => .con (.agg #[.int .u64 33603576, .int .u64 S.time]) | 22 => .box (fun _ => #[.int .u64 33603576, .int .u64 S.time]) 93
 | 23 => .con (.pointer (some ⟨p, 6, none⟩)) | 24 => .con (.int .u8 S.ier) | 25 => .con (.pointer (some ⟨p, 7, none⟩)) | 26 => .con (.int .u8 S.lcr)
 | 27 => .con (.pointer (some ⟨p, 8, none⟩)) | 28 => .con (.int .u8 S.mcr) | 29 => .con (.pointer (some ⟨p, 9, none⟩)) | 30 => .con (.int .u8 S.scr)
 | 31 => .con (.pointer (some ⟨p, 11, none⟩)) | 32 => .con vi | 33 => .own S.inp | 34 => .con (.pointer (some ⟨p, 10, none⟩)) | 35 => .con (.bool S.ov)
 | 36 => .agg (fun vs => #[.int .i32 0, .int .u32 0, vs.getD 0 undef, .bool S.ov]) | 37 => .box (fun vs => #[.int .i32 0, .int .u32 0, vs.getD 1 undef, .bool S.ov]) 113
 | 38 => .con (.pointer (some ⟨p, 12, none⟩)) | 39 => .con vo | 40 => .own S.out
 | 41 => .agg (fun vs => #[.int .u8 S.ier, .int .u8 S.lcr, .int .u8 S.mcr, .int .u8 S.scr, vs.getD 0 undef, vs.getD 1 undef])
 | 42 => .box (fun vs => #[.int .u8 S.ier, .int .u8 S.lcr, .int .u8 S.mcr, .int .u8 S.scr, vs.getD 1 undef, vs.getD 2 undef]) 78
 | 43 => .con (.pointer (some ⟨p, 4, none⟩)) | 44 => .con (.bool S.ext) | 45 => .con (.pointer (some ⟨p, 5, none⟩)) | 46 => .con (.bool S.soft)
 | 47 => .agg (fun vs => #[vs.getD 0 undef, vs.getD 1 undef, vs.getD 2 undef, vs.getD 3 undef, vs.getD 4 undef, vs.getD 5 undef, .bool S.ext, .bool S.soft])
 | 48 => .box (fun vs => #[vs.getD 1 undef, vs.getD 2 undef, vs.getD 3 undef, vs.getD 4 undef, vs.getD 5 undef, vs.getD 6 undef, .bool S.ext, .bool S.soft]) 85
 | 49 => .same | _ => .con (.int .i64 0)
def nX : Array (Option Tmp × Op × Option (Nat × Bool)) := #[
 (some 7, .fieldAddr 35 (.tmp 1) 0, none),
 (some 8, .load 32 (.tmp 7), none),
 (some 9, .call { callee := .value (.func 32), args := #[.tmp 8], argTypes := #[32] }, none),
 (some 10, .build 89 #[(0, .tmp 9)], none),
 (some 11, .box 89 (.tmp 10), none),
 (some 12, .fieldAddr 35 (.tmp 1) 13, none),
 (some 13, .load 3 (.tmp 12), none),
 (some 14, .fieldAddr 35 (.tmp 1) 14, none),
 (some 15, .load 3 (.tmp 14), none),
 (some 16, .build 96 #[(0, .tmp 13), (1, .tmp 15)], none),
 (some 17, .box 96 (.tmp 16), none),
 (some 18, .fieldAddr 35 (.tmp 1) 1, none),
 (some 19, .load 33 (.tmp 18), none),
 (some 20, .build 91 #[(0, .tmp 19)], none),
 (some 21, .box 91 (.tmp 20), none),
 (some 22, .fieldAddr 35 (.tmp 1) 2, none),
 (some 23, .load 22 (.tmp 22), none),
 (some 24, .build 93 #[(0, .const (.int .u64 33570816)), (1, .tmp 23)], none),
 (some 25, .box 93 (.tmp 24), none),
 (some 26, .fieldAddr 35 (.tmp 1) 3, none),
 (some 27, .load 22 (.tmp 26), none),
 (some 28, .build 93 #[(0, .const (.int .u64 33603576)), (1, .tmp 27)], none),
 (some 29, .box 93 (.tmp 28), none),
 (some 30, .fieldAddr 35 (.tmp 1) 6, none),
 (some 31, .load 5 (.tmp 30), none),
 (some 32, .fieldAddr 35 (.tmp 1) 7, none),
 (some 33, .load 5 (.tmp 32), none),
 (some 34, .fieldAddr 35 (.tmp 1) 8, none),
 (some 35, .load 5 (.tmp 34), none),
 (some 36, .fieldAddr 35 (.tmp 1) 9, none),
 (some 37, .load 5 (.tmp 36), none),
 (some 38, .fieldAddr 35 (.tmp 1) 11, none),
 (some 39, .load 32 (.tmp 38), none),
 (some 40, .call { callee := .value (.func 32), args := #[.tmp 39], argTypes := #[32] }, none),
 (some 41, .fieldAddr 35 (.tmp 1) 10, none),
 (some 42, .load 4 (.tmp 41), none),
 (some 43, .build 113 #[(1, .tmp 40), (2, .tmp 42)], none),
 (some 44, .box 113 (.tmp 43), none),
 (some 45, .fieldAddr 35 (.tmp 1) 12, none),
 (some 46, .load 32 (.tmp 45), none),
 (some 47, .call { callee := .value (.func 32), args := #[.tmp 46], argTypes := #[32] }, none),
 (some 48, .build 78 #[(0, .tmp 31), (1, .tmp 33), (2, .tmp 35), (3, .tmp 37), (4, .tmp 44), (5, .tmp 47)], none),
 (some 49, .box 78 (.tmp 48), none),
 (some 50, .fieldAddr 35 (.tmp 1) 4, none),
 (some 51, .load 4 (.tmp 50), none),
 (some 52, .fieldAddr 35 (.tmp 1) 5, none),
 (some 53, .load 4 (.tmp 52), none),
 (some 54, .build 85 #[(0, .tmp 11), (1, .tmp 17), (2, .tmp 21), (3, .tmp 25), (4, .tmp 29), (5, .tmp 49), (6, .tmp 51), (7, .tmp 53)], none),
 (some 55, .box 85 (.tmp 54), none),
 (some 2, .assign (.tmp 55), none),
 (some 3, .assign (.const (.int .i64 0)), none)]
def xS : Nat → Nat
 | 0 => 7  | 1 => 8  | 2 => 9  | 3 => 10  | 4 => 11  | 5 => 12  | 6 => 13  | 7 => 14  | 8 => 15  | 9 => 16  | 10 => 17  | 11 => 18  | 12 => 19  | 13 => 20  | 14 => 21  | 15 => 22  | 16 => 23  | 17 => 24  | 18 => 25  | 19 => 26  | 20 => 27  | 21 => 28  | 22 => 29  | 23 => 30  | 24 => 31  | 25 => 32  | 26 => 33  | 27 => 34  | 28 => 35  | 29 => 36  | 30 => 37  | 31 => 38  | 32 => 39  | 33 => 40  | 34 => 41  | 35 => 42  | 36 => 43  | 37 => 44  | 38 => 45  | 39 => 46  | 40 => 47  | 41 => 48  | 42 => 49  | 43 => 50  | 44 => 51  | 45 => 52  | 46 => 53  | 47 => 54  | 48 => 55  | 49 => 2  | 50 => 3 | _ => 0
def shp (o : Oper) : Option Tmp × Op × Option (Nat × Bool) := (o.dst, o.op, o.guard)
theorem eU {P : Program} {ops : Array Oper} {Q : Exit → Act → World → Prop} {i : Nat} {o : Oper} (ho : ops[i]? = some o) (hg : o.guard = none) {K : Act → World → Prop} {a : Act} {w : World} (h : o.wp P a w K Q) : wpOp P ops Q i K a w := by
 unfold wpOp
 simp only [ho]
 rw [if_pos (by simp [Region.wanted, hg])]
 exact .inl h
def frK (ops : Array Oper) (need : Nat → List Nat) (cs : List Nat) (G : Nat → Prop) (B : Nat) (kd : Nat → Kd) (i : Nat) (o : Oper) (a : Act) (w : World) : Act → World → Prop := fun a' w' => ∃ v, a' = a.put o.dst v ∧ Exk G w w' ∧ (∀ v', o.dst = none ∨ v' = v → FK B (kd i) (v' :: (need i).map (bH ops a)) w') ∧ (i ∈ cs → o.dst ≠ none ∧ ∀ g, v.ownBlock = some g → w.heap.size ≤ g)
theorem aJ {P : Program} {ops : Array Oper} {Q : Exit → Act → World → Prop} {need : Nat → List Nat} {cs : List Nat} {G : Nat → Prop} {B : Nat} {kd : Nat → Kd} {i : Nat} {o : Oper} (ho : ops[i]? = some o) {d : Tmp} {op : Op} (hd : shp o = (some d, op, none)) {a : Act} {w w' : World} (v : Value) (hr : (execOp a.eval o).run P w = .ok (.value v) w')
  (hb : Below w.heap.size w w') (hf : FK B (kd i) (v :: (need i).map (bH ops a)) w') (hn : i ∉ cs) : wpOp P ops Q i (frK ops need cs G B kd i o a w) a w := by
 refine eU ho (congrArg (fun x => x.2.2) hd) ?_
 unfold Oper.wp
 rw [hr]
 refine ⟨v, rfl, Exk.of_below hb rfl, fun v' h => ?_, fun h => absurd h hn⟩
 rcases h with h | h
 ·rw [show o.dst = some d from congrArg (fun x => x.1) hd] at h; cases h
 ·rw [h]; exact hf
theorem nC {P : Program} {ops : Array Oper} {Q : Exit → Act → World → Prop} {need : Nat → List Nat} {cs : List Nat} {G : Nat → Prop} {B : Nat} {kd : Nat → Kd} {i : Nat} {o : Oper} (ho : ops[i]? = some o) {d : Tmp} {op : Op} (hd : shp o = (some d, op, none)) {a : Act} {w : World} {f : FuncId} {args : Array Value} (hr : (execOp a.eval o).run P w = .ok (.enter f args) w)
  (hc : Calls P f args w fun e w' => ∃ u, e = .returned u ∧ Below w.heap.size w w' ∧ FK B (kd i) (u :: (need i).map (bH ops a)) w' ∧ ∀ g, u.ownBlock = some g → w.heap.size ≤ g) : wpOp P ops Q i (frK ops need cs G B kd i o a w) a w := by
 refine eU ho (congrArg (fun x => x.2.2) hd) ?_
 unfold Oper.wp
 rw [hr]
 refine Calls.mono hc ?_
 have hdn : o.dst = some d := congrArg (fun x => x.1) hd
 rintro e w' ⟨u, rfl, h1, h2, h3⟩
 refine ⟨u, rfl, Exk.of_below h1 rfl, fun v' h => ?_, fun _ => ⟨by rw [hdn]; simp, h3⟩⟩
 rcases h with h | h
 ·rw [hdn] at h; cases h
 ·rw [h]; exact h2
structure MY (S : St) (vr vi vo : Value) (p : Nat) (W : World) : Prop where
 lt : p < W.heap.size
 cell : ∀ j, W.cell? ⟨p, j, none⟩ = (stc S vr vi vo)[j]?
 r : Byt W vr S.ram
 i : Byt W vi S.inp
 o : Byt W vo S.out
 lr : S.ram.length ≤ 140737488355328
 li : S.inp.length ≤ 140737488355328
 lo : S.out.length ≤ 140737488355328
theorem eQ (w : World) (o : Obj) : (w.alloc o).heap[w.heap.size]? = some o := by
 show (w.heap.push o)[w.heap.size]? = some o
 simp
theorem nP {w : World} {B n : Nat} {v : Value} {xs : List Value} (h : w.ownsRow B 5 1 v n xs) : ∀ g, v.ownBlock = some g → B ≤ g := fun g hg => (h.lt g hg).1
theorem tQ {S : St} {vr vi vo : Value} {p : Nat} {W w : World} {l : List Int} {v : Value} (hb : Below W.heap.size W w) (hv : Byt W v l) (hl : l.length ≤ 140737488355328) {B : Nat} (hB : B = W.heap.size) {vs : List Value} :
  Calls prog 32 #[v] w fun e w' => ∃ u, e = .returned u ∧ Below w.heap.size w w' ∧ FK B (.own l) (u :: vs) w' ∧ ∀ g, u.ownBlock = some g → w.heap.size ≤ g := by
 refine (oU hl v w (hv.later hb rfl)).mono ?_
 rintro e w' ⟨u, rfl, h1, h2⟩
 exact ⟨u, rfl, h2, gW h1 (by rw [hB]; exact hb.size), nP h1⟩
theorem eI {S : St} {vr vi vo : Value} {p : Nat} {W w : World} (H : MY S vr vi vo p W) (hb : Below W.heap.size W w) (j : Nat) : w.cell? ⟨p, j, none⟩ = (stc S vr vi vo)[j]? := by rw [hb.cell H.lt]; exact H.cell j
theorem eV {w : World} {B n : Nat} {v : Value} {xs : List Value} (h : w.ownsRow B 5 1 v n xs) : ∃ a n' c, v = .slice a n' c := by
 rcases Go.Joins.ownsRow_forms h with ⟨rfl, _⟩ | ⟨g, cap, rfl⟩
 ·exact ⟨_, _, _, rfl⟩
 ·exact ⟨_, _, _, rfl⟩
def FrG (i : Nat) (sh : Option Tmp × Op × Option (Nat × Bool)) : Prop := ∀ {S : St} {vr vi vo : Value} {p : Nat} {W : World} {ops : Array Oper} {Q : Exit → Act → World → Prop} (_ : MY S vr vi vo p W) {o : Oper} (_ : ops[i]? = some o) (_ : shp o = sh) (a : Act) (w : World)
  (_ : a.eval (.tmp 1) = .pointer (some ⟨p, 0, none⟩)) (_ : Exk (fun _ => False) W w) (_ : bH ops a = fun k => a.eval (.tmp (xS k))) (_ : ∀ k ∈ kX i, FK W.heap.size (vO S vr vi vo p k) ((k :: kX k).map (bH ops a)) w),
  wpOp prog ops Q i (frK ops kX [2, 33, 40] (fun _ => False) W.heap.size (vO S vr vi vo p) i o a w) a w
theorem fr_s0 : FrG 0 (some 7, .fieldAddr 35 (.tmp 1) 0, none) := by
 intro S vr vi vo p W ops Q H o ho hd a w h1 hx hl hn
 have hop : o.op = .fieldAddr 35 (.tmp 1) 0 := congrArg (fun x => x.2.1) hd
 have hb : Below W.heap.size W w := hx.e.below (ZqE _) (fun _ h => h.elim)
 refine aJ ho hd (.pointer (some ⟨p, 0, none⟩)) ?_ (ZqD _ _) rfl (by decide)
 clear hd hn hl ho
 generalize a.eval = ρ at *
 simp [execOp, hop, h1, go_sem]
theorem fr_s1 : FrG 1 (some 8, .load 32 (.tmp 7), none) := by
 intro S vr vi vo p W ops Q H o ho hd a w h1 hx hl hn
 have hop : o.op = .load 32 (.tmp 7) := congrArg (fun x => x.2.1) hd
 have hb : Below W.heap.size W w := hx.e.below (ZqE _) (fun _ h => h.elim)
 have q0 : a.eval (.tmp 7) = .pointer (some ⟨p, 0, none⟩) := by
  have h := hn 0 (by decide)
  rw [hl] at h
  exact h
 have hc : w.cell? ⟨p, 0, none⟩ = some (vr) := eI H hb 0
 refine aJ ho hd (vr) ?_ (ZqD _ _) rfl (by decide)
 clear hd hn hl ho h1
 generalize a.eval = ρ at *
 simp [execOp, hop, q0, hc, go_sem]
theorem fr_s2 : FrG 2 (some 9, .call { callee := .value (.func 32), args := #[.tmp 8], argTypes := #[32] }, none) := by
 intro S vr vi vo p W ops Q H o ho hd a w h1 hx hl hn
 have hop : o.op = .call { callee := .value (.func 32), args := #[.tmp 8], argTypes := #[32] } := congrArg (fun x => x.2.1) hd
 have hb : Below W.heap.size W w := hx.e.below (ZqE _) (fun _ h => h.elim)
 have q1 : a.eval (.tmp 8) = vr := by
  have h := hn 1 (by decide)
  rw [hl] at h
  exact h
 have hf : a.eval (.func 32) = .func (.func 32) #[] #[] := rfl
 refine nC ho hd (f := 32) (args := #[vr]) ?_ (tQ (S := S) (vr := vr) (vi := vi) (vo := vo) (p := p) hb H.r H.lr rfl)
 clear hd hn hl ho h1
 generalize a.eval = ρ at *
 simp [execOp, hop, q1, hf, go_sem]
theorem fr_s3 : FrG 3 (some 10, .build 89 #[(0, .tmp 9)], none) := by
 intro S vr vi vo p W ops Q H o ho hd a w h1 hx hl hn
 have hop : o.op = .build 89 #[(0, .tmp 9)] := congrArg (fun x => x.2.1) hd
 have hb : Below W.heap.size W w := hx.e.below (ZqE _) (fun _ h => h.elim)
 have q2 : w.ownsRow W.heap.size 5 1 (a.eval (.tmp 9)) S.ram.length (bv S.ram) := by
  have h := hn 2 (by decide)
  rw [hl] at h
  exact h
 obtain ⟨x, y, z, hu⟩ := eV q2
 refine aJ ho hd (.agg #[a.eval (.tmp 9)]) ?_ (ZqD _ _) ?_ (by decide)
 ·clear hd hn hl ho h1 q2
  generalize a.eval = ρ at *
  simp [execOp, hop, hu, go_sem]
 ·rw [hl]; rfl
theorem fr_s4 : FrG 4 (some 11, .box 89 (.tmp 10), none) := by
 intro S vr vi vo p W ops Q H o ho hd a w h1 hx hl hn
 have hop : o.op = .box 89 (.tmp 10) := congrArg (fun x => x.2.1) hd
 have hb : Below W.heap.size W w := hx.e.below (ZqE _) (fun _ h => h.elim)
 have q3 : a.eval (.tmp 10) = .agg #[a.eval (.tmp 9)] := by
  have h := hn 3 (by decide)
  rw [hl] at h
  exact h
 have q2 : w.ownsRow W.heap.size 5 1 (a.eval (.tmp 9)) S.ram.length (bv S.ram) := by
  have h := hn 2 (by decide)
  rw [hl] at h
  exact h
 refine aJ ho hd (w' := w.alloc (.cells #[a.eval (.tmp 9)] 89)) (.pointer (some ⟨w.heap.size, 0, none⟩)) ?_ ((ZqD _ _).alloc (ZqE _) _) ?_ (by decide)
 ·clear hn hl ho h1
  clear q2 hd
  generalize a.eval = ρ at *
  simp [execOp, hop, q3, go_sem]
 ·rw [hl]; exact ⟨w.heap.size, rfl, hb.size, eQ _ _⟩
theorem fr_s5 : FrG 5 (some 12, .fieldAddr 35 (.tmp 1) 13, none) := by
 intro S vr vi vo p W ops Q H o ho hd a w h1 hx hl hn
 have hop : o.op = .fieldAddr 35 (.tmp 1) 13 := congrArg (fun x => x.2.1) hd
 have hb : Below W.heap.size W w := hx.e.below (ZqE _) (fun _ h => h.elim)
 refine aJ ho hd (.pointer (some ⟨p, 13, none⟩)) ?_ (ZqD _ _) rfl (by decide)
 clear hd hn hl ho
 generalize a.eval = ρ at *
 simp [execOp, hop, h1, go_sem]
theorem fr_s6 : FrG 6 (some 13, .load 3 (.tmp 12), none) := by
 intro S vr vi vo p W ops Q H o ho hd a w h1 hx hl hn
 have hop : o.op = .load 3 (.tmp 12) := congrArg (fun x => x.2.1) hd
 have hb : Below W.heap.size W w := hx.e.below (ZqE _) (fun _ h => h.elim)
 have q5 : a.eval (.tmp 12) = .pointer (some ⟨p, 13, none⟩) := by
  have h := hn 5 (by decide)
  rw [hl] at h
  exact h
 have hc : w.cell? ⟨p, 13, none⟩ = some (.int .i64 S.off) := eI H hb 13
 refine aJ ho hd (.int .i64 S.off) ?_ (ZqD _ _) rfl (by decide)
 clear hd hn hl ho h1
 generalize a.eval = ρ at *
 simp [execOp, hop, q5, hc, go_sem]
theorem fr_s7 : FrG 7 (some 14, .fieldAddr 35 (.tmp 1) 14, none) := by
 intro S vr vi vo p W ops Q H o ho hd a w h1 hx hl hn
 have hop : o.op = .fieldAddr 35 (.tmp 1) 14 := congrArg (fun x => x.2.1) hd
 have hb : Below W.heap.size W w := hx.e.below (ZqE _) (fun _ h => h.elim)
 refine aJ ho hd (.pointer (some ⟨p, 14, none⟩)) ?_ (ZqD _ _) rfl (by decide)
 clear hd hn hl ho
 generalize a.eval = ρ at *
 simp [execOp, hop, h1, go_sem]
theorem fr_s8 : FrG 8 (some 15, .load 3 (.tmp 14), none) := by
 intro S vr vi vo p W ops Q H o ho hd a w h1 hx hl hn
 have hop : o.op = .load 3 (.tmp 14) := congrArg (fun x => x.2.1) hd
 have hb : Below W.heap.size W w := hx.e.below (ZqE _) (fun _ h => h.elim)
 have q7 : a.eval (.tmp 14) = .pointer (some ⟨p, 14, none⟩) := by
  have h := hn 7 (by decide)
  rw [hl] at h
  exact h
 have hc : w.cell? ⟨p, 14, none⟩ = some (.int .i64 S.code) := eI H hb 14
 refine aJ ho hd (.int .i64 S.code) ?_ (ZqD _ _) rfl (by decide)
 clear hd hn hl ho h1
 generalize a.eval = ρ at *
 simp [execOp, hop, q7, hc, go_sem]
theorem fr_s9 : FrG 9 (some 16, .build 96 #[(0, .tmp 13), (1, .tmp 15)], none) := by
 intro S vr vi vo p W ops Q H o ho hd a w h1 hx hl hn
 have hop : o.op = .build 96 #[(0, .tmp 13), (1, .tmp 15)] := congrArg (fun x => x.2.1) hd
 have hb : Below W.heap.size W w := hx.e.below (ZqE _) (fun _ h => h.elim)
 have q6 : a.eval (.tmp 13) = .int .i64 S.off := by
  have h := hn 6 (by decide)
  rw [hl] at h
  exact h
 have q8 : a.eval (.tmp 15) = .int .i64 S.code := by
  have h := hn 8 (by decide)
  rw [hl] at h
  exact h
 refine aJ ho hd (.agg #[.int .i64 S.off, .int .i64 S.code]) ?_ (ZqD _ _) rfl (by decide)
 clear hd hn hl ho h1
 generalize a.eval = ρ at *
 simp [execOp, hop, q6, q8, go_sem]
theorem WN : FrG 10 (some 17, .box 96 (.tmp 16), none) := by
 intro S vr vi vo p W ops Q H o ho hd a w h1 hx hl hn
 have hop : o.op = .box 96 (.tmp 16) := congrArg (fun x => x.2.1) hd
 have hb : Below W.heap.size W w := hx.e.below (ZqE _) (fun _ h => h.elim)
 have q9 : a.eval (.tmp 16) = .agg #[.int .i64 S.off, .int .i64 S.code] := by
  have h := hn 9 (by decide)
  rw [hl] at h
  exact h
 refine aJ ho hd (w' := w.alloc (.cells #[.int .i64 S.off, .int .i64 S.code] 96)) (.pointer (some ⟨w.heap.size, 0, none⟩)) ?_ ((ZqD _ _).alloc (ZqE _) _) ?_ (by decide)
 ·clear hn hl ho h1
  clear hd
  generalize a.eval = ρ at *
  simp [execOp, hop, q9, go_sem]
 ·rw [hl]; exact ⟨w.heap.size, rfl, hb.size, eQ _ _⟩
theorem WO : FrG 11 (some 18, .fieldAddr 35 (.tmp 1) 1, none) := by
 intro S vr vi vo p W ops Q H o ho hd a w h1 hx hl hn
 have hop : o.op = .fieldAddr 35 (.tmp 1) 1 := congrArg (fun x => x.2.1) hd
 have hb : Below W.heap.size W w := hx.e.below (ZqE _) (fun _ h => h.elim)
 refine aJ ho hd (.pointer (some ⟨p, 1, none⟩)) ?_ (ZqD _ _) rfl (by decide)
 clear hd hn hl ho
 generalize a.eval = ρ at *
 simp [execOp, hop, h1, go_sem]
theorem WP : FrG 12 (some 19, .load 33 (.tmp 18), none) := by
 intro S vr vi vo p W ops Q H o ho hd a w h1 hx hl hn
 have hop : o.op = .load 33 (.tmp 18) := congrArg (fun x => x.2.1) hd
 have hb : Below W.heap.size W w := hx.e.below (ZqE _) (fun _ h => h.elim)
 have q11 : a.eval (.tmp 18) = .pointer (some ⟨p, 1, none⟩) := by
  have h := hn 11 (by decide)
  rw [hl] at h
  exact h
 have hc : w.cell? ⟨p, 1, none⟩ = some (.int .u32 S.msip) := eI H hb 1
 refine aJ ho hd (.int .u32 S.msip) ?_ (ZqD _ _) rfl (by decide)
 clear hd hn hl ho h1
 generalize a.eval = ρ at *
 simp [execOp, hop, q11, hc, go_sem]
theorem WQ : FrG 13 (some 20, .build 91 #[(0, .tmp 19)], none) := by
 intro S vr vi vo p W ops Q H o ho hd a w h1 hx hl hn
 have hop : o.op = .build 91 #[(0, .tmp 19)] := congrArg (fun x => x.2.1) hd
 have hb : Below W.heap.size W w := hx.e.below (ZqE _) (fun _ h => h.elim)
 have q12 : a.eval (.tmp 19) = .int .u32 S.msip := by
  have h := hn 12 (by decide)
  rw [hl] at h
  exact h
 refine aJ ho hd (.agg #[.int .u32 S.msip]) ?_ (ZqD _ _) rfl (by decide)
 clear hd hn hl ho h1
 generalize a.eval = ρ at *
 simp [execOp, hop, q12, go_sem]
theorem WS : FrG 14 (some 21, .box 91 (.tmp 20), none) := by
 intro S vr vi vo p W ops Q H o ho hd a w h1 hx hl hn
 have hop : o.op = .box 91 (.tmp 20) := congrArg (fun x => x.2.1) hd
 have hb : Below W.heap.size W w := hx.e.below (ZqE _) (fun _ h => h.elim)
 have q13 : a.eval (.tmp 20) = .agg #[.int .u32 S.msip] := by
  have h := hn 13 (by decide)
  rw [hl] at h
  exact h
 refine aJ ho hd (w' := w.alloc (.cells #[.int .u32 S.msip] 91)) (.pointer (some ⟨w.heap.size, 0, none⟩)) ?_ ((ZqD _ _).alloc (ZqE _) _) ?_ (by decide)
 ·clear hn hl ho h1
  clear hd
  generalize a.eval = ρ at *
  simp [execOp, hop, q13, go_sem]
 ·rw [hl]; exact ⟨w.heap.size, rfl, hb.size, eQ _ _⟩
theorem WU : FrG 15 (some 22, .fieldAddr 35 (.tmp 1) 2, none) := by
 intro S vr vi vo p W ops Q H o ho hd a w h1 hx hl hn
 have hop : o.op = .fieldAddr 35 (.tmp 1) 2 := congrArg (fun x => x.2.1) hd
 have hb : Below W.heap.size W w := hx.e.below (ZqE _) (fun _ h => h.elim)
 refine aJ ho hd (.pointer (some ⟨p, 2, none⟩)) ?_ (ZqD _ _) rfl (by decide)
 clear hd hn hl ho
 generalize a.eval = ρ at *
 simp [execOp, hop, h1, go_sem]
theorem WV : FrG 16 (some 23, .load 22 (.tmp 22), none) := by
 intro S vr vi vo p W ops Q H o ho hd a w h1 hx hl hn
 have hop : o.op = .load 22 (.tmp 22) := congrArg (fun x => x.2.1) hd
 have hb : Below W.heap.size W w := hx.e.below (ZqE _) (fun _ h => h.elim)
 have q15 : a.eval (.tmp 22) = .pointer (some ⟨p, 2, none⟩) := by
  have h := hn 15 (by decide)
  rw [hl] at h
  exact h
 have hc : w.cell? ⟨p, 2, none⟩ = some (.int .u64 S.cmp) := eI H hb 2
 refine aJ ho hd (.int .u64 S.cmp) ?_ (ZqD _ _) rfl (by decide)
 clear hd hn hl ho h1
 generalize a.eval = ρ at *
 simp [execOp, hop, q15, hc, go_sem]
theorem WW : FrG 17 (some 24, .build 93 #[(0, .const (.int .u64 33570816)), (1, .tmp 23)], none) := by
 intro S vr vi vo p W ops Q H o ho hd a w h1 hx hl hn
 have hop : o.op = .build 93 #[(0, .const (.int .u64 33570816)), (1, .tmp 23)] := congrArg (fun x => x.2.1) hd
 have hb : Below W.heap.size W w := hx.e.below (ZqE _) (fun _ h => h.elim)
 have q16 : a.eval (.tmp 23) = .int .u64 S.cmp := by
  have h := hn 16 (by decide)
  rw [hl] at h
  exact h
 have hf : a.eval (.const (.int .u64 33570816)) = .int .u64 33570816 := rfl
 refine aJ ho hd (.agg #[.int .u64 33570816, .int .u64 S.cmp]) ?_ (ZqD _ _) rfl (by decide)
 clear hd hn hl ho h1
 generalize a.eval = ρ at *
 simp [execOp, hop, hf, q16, go_sem]
theorem WX : FrG 18 (some 25, .box 93 (.tmp 24), none) := by
 intro S vr vi vo p W ops Q H o ho hd a w h1 hx hl hn
 have hop : o.op = .box 93 (.tmp 24) := congrArg (fun x => x.2.1) hd
 have hb : Below W.heap.size W w := hx.e.below (ZqE _) (fun _ h => h.elim)
 have q17 : a.eval (.tmp 24) = .agg #[.int .u64 33570816, .int .u64 S.cmp] := by
  have h := hn 17 (by decide)
  rw [hl] at h
  exact h
 refine aJ ho hd (w' := w.alloc (.cells #[.int .u64 33570816, .int .u64 S.cmp] 93)) (.pointer (some ⟨w.heap.size, 0, none⟩)) ?_ ((ZqD _ _).alloc (ZqE _) _) ?_ (by decide)
 ·clear hn hl ho h1
  clear hd
  generalize a.eval = ρ at *
  simp [execOp, hop, q17, go_sem]
 ·rw [hl]; exact ⟨w.heap.size, rfl, hb.size, eQ _ _⟩
theorem WY : FrG 19 (some 26, .fieldAddr 35 (.tmp 1) 3, none) := by
 intro S vr vi vo p W ops Q H o ho hd a w h1 hx hl hn
 have hop : o.op = .fieldAddr 35 (.tmp 1) 3 := congrArg (fun x => x.2.1) hd
 have hb : Below W.heap.size W w := hx.e.below (ZqE _) (fun _ h => h.elim)
 refine aJ ho hd (.pointer (some ⟨p, 3, none⟩)) ?_ (ZqD _ _) rfl (by decide)
 clear hd hn hl ho
 generalize a.eval = ρ at *
 simp [execOp, hop, h1, go_sem]
theorem WZ : FrG 20 (some 27, .load 22 (.tmp 26), none) := by
 intro S vr vi vo p W ops Q H o ho hd a w h1 hx hl hn
 have hop : o.op = .load 22 (.tmp 26) := congrArg (fun x => x.2.1) hd
 have hb : Below W.heap.size W w := hx.e.below (ZqE _) (fun _ h => h.elim)
 have q19 : a.eval (.tmp 26) = .pointer (some ⟨p, 3, none⟩) := by
  have h := hn 19 (by decide)
  rw [hl] at h
  exact h
 have hc : w.cell? ⟨p, 3, none⟩ = some (.int .u64 S.time) := eI H hb 3
 refine aJ ho hd (.int .u64 S.time) ?_ (ZqD _ _) rfl (by decide)
 clear hd hn hl ho h1
 generalize a.eval = ρ at *
 simp [execOp, hop, q19, hc, go_sem]
theorem XA : FrG 21 (some 28, .build 93 #[(0, .const (.int .u64 33603576)), (1, .tmp 27)], none) := by
 intro S vr vi vo p W ops Q H o ho hd a w h1 hx hl hn
 have hop : o.op = .build 93 #[(0, .const (.int .u64 33603576)), (1, .tmp 27)] := congrArg (fun x => x.2.1) hd
 have hb : Below W.heap.size W w := hx.e.below (ZqE _) (fun _ h => h.elim)
 have q20 : a.eval (.tmp 27) = .int .u64 S.time := by
  have h := hn 20 (by decide)
  rw [hl] at h
  exact h
 have hf : a.eval (.const (.int .u64 33603576)) = .int .u64 33603576 := rfl
 refine aJ ho hd (.agg #[.int .u64 33603576, .int .u64 S.time]) ?_ (ZqD _ _) rfl (by decide)
 clear hd hn hl ho h1
 generalize a.eval = ρ at *
 simp [execOp, hop, hf, q20, go_sem]
theorem XB : FrG 22 (some 29, .box 93 (.tmp 28), none) := by
 intro S vr vi vo p W ops Q H o ho hd a w h1 hx hl hn
 have hop : o.op = .box 93 (.tmp 28) := congrArg (fun x => x.2.1) hd
 have hb : Below W.heap.size W w := hx.e.below (ZqE _) (fun _ h => h.elim)
 have q21 : a.eval (.tmp 28) = .agg #[.int .u64 33603576, .int .u64 S.time] := by
  have h := hn 21 (by decide)
  rw [hl] at h
  exact h
 refine aJ ho hd (w' := w.alloc (.cells #[.int .u64 33603576, .int .u64 S.time] 93)) (.pointer (some ⟨w.heap.size, 0, none⟩)) ?_ ((ZqD _ _).alloc (ZqE _) _) ?_ (by decide)
 ·clear hn hl ho h1
  clear hd
  generalize a.eval = ρ at *
  simp [execOp, hop, q21, go_sem]
 ·rw [hl]; exact ⟨w.heap.size, rfl, hb.size, eQ _ _⟩
theorem XC : FrG 23 (some 30, .fieldAddr 35 (.tmp 1) 6, none) := by
 intro S vr vi vo p W ops Q H o ho hd a w h1 hx hl hn
 have hop : o.op = .fieldAddr 35 (.tmp 1) 6 := congrArg (fun x => x.2.1) hd
 have hb : Below W.heap.size W w := hx.e.below (ZqE _) (fun _ h => h.elim)
 refine aJ ho hd (.pointer (some ⟨p, 6, none⟩)) ?_ (ZqD _ _) rfl (by decide)
 clear hd hn hl ho
 generalize a.eval = ρ at *
 simp [execOp, hop, h1, go_sem]
theorem XD : FrG 24 (some 31, .load 5 (.tmp 30), none) := by
 intro S vr vi vo p W ops Q H o ho hd a w h1 hx hl hn
 have hop : o.op = .load 5 (.tmp 30) := congrArg (fun x => x.2.1) hd
 have hb : Below W.heap.size W w := hx.e.below (ZqE _) (fun _ h => h.elim)
 have q23 : a.eval (.tmp 30) = .pointer (some ⟨p, 6, none⟩) := by
  have h := hn 23 (by decide)
  rw [hl] at h
  exact h
 have hc : w.cell? ⟨p, 6, none⟩ = some (.int .u8 S.ier) := eI H hb 6
 refine aJ ho hd (.int .u8 S.ier) ?_ (ZqD _ _) rfl (by decide)
 clear hd hn hl ho h1
 generalize a.eval = ρ at *
 simp [execOp, hop, q23, hc, go_sem]
theorem XE : FrG 25 (some 32, .fieldAddr 35 (.tmp 1) 7, none) := by
 intro S vr vi vo p W ops Q H o ho hd a w h1 hx hl hn
 have hop : o.op = .fieldAddr 35 (.tmp 1) 7 := congrArg (fun x => x.2.1) hd
 have hb : Below W.heap.size W w := hx.e.below (ZqE _) (fun _ h => h.elim)
 refine aJ ho hd (.pointer (some ⟨p, 7, none⟩)) ?_ (ZqD _ _) rfl (by decide)
 clear hd hn hl ho
 generalize a.eval = ρ at *
 simp [execOp, hop, h1, go_sem]
theorem XF : FrG 26 (some 33, .load 5 (.tmp 32), none) := by
 intro S vr vi vo p W ops Q H o ho hd a w h1 hx hl hn
 have hop : o.op = .load 5 (.tmp 32) := congrArg (fun x => x.2.1) hd
 have hb : Below W.heap.size W w := hx.e.below (ZqE _) (fun _ h => h.elim)
 have q25 : a.eval (.tmp 32) = .pointer (some ⟨p, 7, none⟩) := by
  have h := hn 25 (by decide)
  rw [hl] at h
  exact h
 have hc : w.cell? ⟨p, 7, none⟩ = some (.int .u8 S.lcr) := eI H hb 7
 refine aJ ho hd (.int .u8 S.lcr) ?_ (ZqD _ _) rfl (by decide)
 clear hd hn hl ho h1
 generalize a.eval = ρ at *
 simp [execOp, hop, q25, hc, go_sem]
theorem XG : FrG 27 (some 34, .fieldAddr 35 (.tmp 1) 8, none) := by
 intro S vr vi vo p W ops Q H o ho hd a w h1 hx hl hn
 have hop : o.op = .fieldAddr 35 (.tmp 1) 8 := congrArg (fun x => x.2.1) hd
 have hb : Below W.heap.size W w := hx.e.below (ZqE _) (fun _ h => h.elim)
 refine aJ ho hd (.pointer (some ⟨p, 8, none⟩)) ?_ (ZqD _ _) rfl (by decide)
 clear hd hn hl ho
 generalize a.eval = ρ at *
 simp [execOp, hop, h1, go_sem]
theorem XH : FrG 28 (some 35, .load 5 (.tmp 34), none) := by
 intro S vr vi vo p W ops Q H o ho hd a w h1 hx hl hn
 have hop : o.op = .load 5 (.tmp 34) := congrArg (fun x => x.2.1) hd
 have hb : Below W.heap.size W w := hx.e.below (ZqE _) (fun _ h => h.elim)
 have q27 : a.eval (.tmp 34) = .pointer (some ⟨p, 8, none⟩) := by
  have h := hn 27 (by decide)
  rw [hl] at h
  exact h
 have hc : w.cell? ⟨p, 8, none⟩ = some (.int .u8 S.mcr) := eI H hb 8
 refine aJ ho hd (.int .u8 S.mcr) ?_ (ZqD _ _) rfl (by decide)
 clear hd hn hl ho h1
 generalize a.eval = ρ at *
 simp [execOp, hop, q27, hc, go_sem]
theorem XI : FrG 29 (some 36, .fieldAddr 35 (.tmp 1) 9, none) := by
 intro S vr vi vo p W ops Q H o ho hd a w h1 hx hl hn
 have hop : o.op = .fieldAddr 35 (.tmp 1) 9 := congrArg (fun x => x.2.1) hd
 have hb : Below W.heap.size W w := hx.e.below (ZqE _) (fun _ h => h.elim)
 refine aJ ho hd (.pointer (some ⟨p, 9, none⟩)) ?_ (ZqD _ _) rfl (by decide)
 clear hd hn hl ho
 generalize a.eval = ρ at *
 simp [execOp, hop, h1, go_sem]
theorem XJ : FrG 30 (some 37, .load 5 (.tmp 36), none) := by
 intro S vr vi vo p W ops Q H o ho hd a w h1 hx hl hn
 have hop : o.op = .load 5 (.tmp 36) := congrArg (fun x => x.2.1) hd
 have hb : Below W.heap.size W w := hx.e.below (ZqE _) (fun _ h => h.elim)
 have q29 : a.eval (.tmp 36) = .pointer (some ⟨p, 9, none⟩) := by
  have h := hn 29 (by decide)
  rw [hl] at h
  exact h
 have hc : w.cell? ⟨p, 9, none⟩ = some (.int .u8 S.scr) := eI H hb 9
 refine aJ ho hd (.int .u8 S.scr) ?_ (ZqD _ _) rfl (by decide)
 clear hd hn hl ho h1
 generalize a.eval = ρ at *
 simp [execOp, hop, q29, hc, go_sem]
theorem XK : FrG 31 (some 38, .fieldAddr 35 (.tmp 1) 11, none) := by
 intro S vr vi vo p W ops Q H o ho hd a w h1 hx hl hn
 have hop : o.op = .fieldAddr 35 (.tmp 1) 11 := congrArg (fun x => x.2.1) hd
 have hb : Below W.heap.size W w := hx.e.below (ZqE _) (fun _ h => h.elim)
 refine aJ ho hd (.pointer (some ⟨p, 11, none⟩)) ?_ (ZqD _ _) rfl (by decide)
 clear hd hn hl ho
 generalize a.eval = ρ at *
 simp [execOp, hop, h1, go_sem]
theorem XL : FrG 32 (some 39, .load 32 (.tmp 38), none) := by
 intro S vr vi vo p W ops Q H o ho hd a w h1 hx hl hn
 have hop : o.op = .load 32 (.tmp 38) := congrArg (fun x => x.2.1) hd
 have hb : Below W.heap.size W w := hx.e.below (ZqE _) (fun _ h => h.elim)
 have q31 : a.eval (.tmp 38) = .pointer (some ⟨p, 11, none⟩) := by
  have h := hn 31 (by decide)
  rw [hl] at h
  exact h
 have hc : w.cell? ⟨p, 11, none⟩ = some (vi) := eI H hb 11
 refine aJ ho hd (vi) ?_ (ZqD _ _) rfl (by decide)
 clear hd hn hl ho h1
 generalize a.eval = ρ at *
 simp [execOp, hop, q31, hc, go_sem]
theorem XM : FrG 33 (some 40, .call { callee := .value (.func 32), args := #[.tmp 39], argTypes := #[32] }, none) := by
 intro S vr vi vo p W ops Q H o ho hd a w h1 hx hl hn
 have hop : o.op = .call { callee := .value (.func 32), args := #[.tmp 39], argTypes := #[32] } := congrArg (fun x => x.2.1) hd
 have hb : Below W.heap.size W w := hx.e.below (ZqE _) (fun _ h => h.elim)
 have q32 : a.eval (.tmp 39) = vi := by
  have h := hn 32 (by decide)
  rw [hl] at h
  exact h
 have hf : a.eval (.func 32) = .func (.func 32) #[] #[] := rfl
 refine nC ho hd (f := 32) (args := #[vi]) ?_ (tQ (S := S) (vr := vr) (vi := vi) (vo := vo) (p := p) hb H.i H.li rfl)
 clear hd hn hl ho h1
 generalize a.eval = ρ at *
 simp [execOp, hop, q32, hf, go_sem]
theorem XN : FrG 34 (some 41, .fieldAddr 35 (.tmp 1) 10, none) := by
 intro S vr vi vo p W ops Q H o ho hd a w h1 hx hl hn
 have hop : o.op = .fieldAddr 35 (.tmp 1) 10 := congrArg (fun x => x.2.1) hd
 have hb : Below W.heap.size W w := hx.e.below (ZqE _) (fun _ h => h.elim)
 refine aJ ho hd (.pointer (some ⟨p, 10, none⟩)) ?_ (ZqD _ _) rfl (by decide)
 clear hd hn hl ho
 generalize a.eval = ρ at *
 simp [execOp, hop, h1, go_sem]
theorem XO : FrG 35 (some 42, .load 4 (.tmp 41), none) := by
 intro S vr vi vo p W ops Q H o ho hd a w h1 hx hl hn
 have hop : o.op = .load 4 (.tmp 41) := congrArg (fun x => x.2.1) hd
 have hb : Below W.heap.size W w := hx.e.below (ZqE _) (fun _ h => h.elim)
 have q34 : a.eval (.tmp 41) = .pointer (some ⟨p, 10, none⟩) := by
  have h := hn 34 (by decide)
  rw [hl] at h
  exact h
 have hc : w.cell? ⟨p, 10, none⟩ = some (.bool S.ov) := eI H hb 10
 refine aJ ho hd (.bool S.ov) ?_ (ZqD _ _) rfl (by decide)
 clear hd hn hl ho h1
 generalize a.eval = ρ at *
 simp [execOp, hop, q34, hc, go_sem]
theorem XP : FrG 36 (some 43, .build 113 #[(1, .tmp 40), (2, .tmp 42)], none) := by
 intro S vr vi vo p W ops Q H o ho hd a w h1 hx hl hn
 have hop : o.op = .build 113 #[(1, .tmp 40), (2, .tmp 42)] := congrArg (fun x => x.2.1) hd
 have hb : Below W.heap.size W w := hx.e.below (ZqE _) (fun _ h => h.elim)
 have q33 : w.ownsRow W.heap.size 5 1 (a.eval (.tmp 40)) S.inp.length (bv S.inp) := by
  have h := hn 33 (by decide)
  rw [hl] at h
  exact h
 have q35 : a.eval (.tmp 42) = .bool S.ov := by
  have h := hn 35 (by decide)
  rw [hl] at h
  exact h
 obtain ⟨x, y, z, hu⟩ := eV q33
 refine aJ ho hd (.agg #[.int .i32 0, .int .u32 0, a.eval (.tmp 40), .bool S.ov]) ?_ (ZqD _ _) ?_ (by decide)
 ·clear hd hn hl ho h1 q33
  generalize a.eval = ρ at *
  simp [execOp, hop, hu, q35, go_sem]
 ·rw [hl]; rfl
theorem XQ : FrG 37 (some 44, .box 113 (.tmp 43), none) := by
 intro S vr vi vo p W ops Q H o ho hd a w h1 hx hl hn
 have hop : o.op = .box 113 (.tmp 43) := congrArg (fun x => x.2.1) hd
 have hb : Below W.heap.size W w := hx.e.below (ZqE _) (fun _ h => h.elim)
 have q36 : a.eval (.tmp 43) = .agg #[.int .i32 0, .int .u32 0, a.eval (.tmp 40), .bool S.ov] := by
  have h := hn 36 (by decide)
  rw [hl] at h
  exact h
 have q33 : w.ownsRow W.heap.size 5 1 (a.eval (.tmp 40)) S.inp.length (bv S.inp) := by
  have h := hn 33 (by decide)
  rw [hl] at h
  exact h
 refine aJ ho hd (w' := w.alloc (.cells #[.int .i32 0, .int .u32 0, a.eval (.tmp 40), .bool S.ov] 113)) (.pointer (some ⟨w.heap.size, 0, none⟩)) ?_ ((ZqD _ _).alloc (ZqE _) _) ?_ (by decide)
 ·clear hn hl ho h1
  clear q33 hd
  generalize a.eval = ρ at *
  simp [execOp, hop, q36, go_sem]
 ·rw [hl]; exact ⟨w.heap.size, rfl, hb.size, eQ _ _⟩
theorem XR : FrG 38 (some 45, .fieldAddr 35 (.tmp 1) 12, none) := by
 intro S vr vi vo p W ops Q H o ho hd a w h1 hx hl hn
 have hop : o.op = .fieldAddr 35 (.tmp 1) 12 := congrArg (fun x => x.2.1) hd
 have hb : Below W.heap.size W w := hx.e.below (ZqE _) (fun _ h => h.elim)
 refine aJ ho hd (.pointer (some ⟨p, 12, none⟩)) ?_ (ZqD _ _) rfl (by decide)
 clear hd hn hl ho
 generalize a.eval = ρ at *
 simp [execOp, hop, h1, go_sem]
theorem XS : FrG 39 (some 46, .load 32 (.tmp 45), none) := by
 intro S vr vi vo p W ops Q H o ho hd a w h1 hx hl hn
 have hop : o.op = .load 32 (.tmp 45) := congrArg (fun x => x.2.1) hd
 have hb : Below W.heap.size W w := hx.e.below (ZqE _) (fun _ h => h.elim)
 have q38 : a.eval (.tmp 45) = .pointer (some ⟨p, 12, none⟩) := by
  have h := hn 38 (by decide)
  rw [hl] at h
  exact h
 have hc : w.cell? ⟨p, 12, none⟩ = some (vo) := eI H hb 12
 refine aJ ho hd (vo) ?_ (ZqD _ _) rfl (by decide)
 clear hd hn hl ho h1
 generalize a.eval = ρ at *
 simp [execOp, hop, q38, hc, go_sem]
theorem XT : FrG 40 (some 47, .call { callee := .value (.func 32), args := #[.tmp 46], argTypes := #[32] }, none) := by
 intro S vr vi vo p W ops Q H o ho hd a w h1 hx hl hn
 have hop : o.op = .call { callee := .value (.func 32), args := #[.tmp 46], argTypes := #[32] } := congrArg (fun x => x.2.1) hd
 have hb : Below W.heap.size W w := hx.e.below (ZqE _) (fun _ h => h.elim)
 have q39 : a.eval (.tmp 46) = vo := by
  have h := hn 39 (by decide)
  rw [hl] at h
  exact h
 have hf : a.eval (.func 32) = .func (.func 32) #[] #[] := rfl
 refine nC ho hd (f := 32) (args := #[vo]) ?_ (tQ (S := S) (vr := vr) (vi := vi) (vo := vo) (p := p) hb H.o H.lo rfl)
 clear hd hn hl ho h1
 generalize a.eval = ρ at *
 simp [execOp, hop, q39, hf, go_sem]
theorem XU : FrG 41 (some 48, .build 78 #[(0, .tmp 31), (1, .tmp 33), (2, .tmp 35), (3, .tmp 37), (4, .tmp 44), (5, .tmp 47)], none) := by
 intro S vr vi vo p W ops Q H o ho hd a w h1 hx hl hn
 have hop : o.op = .build 78 #[(0, .tmp 31), (1, .tmp 33), (2, .tmp 35), (3, .tmp 37), (4, .tmp 44), (5, .tmp 47)] := congrArg (fun x => x.2.1) hd
 have hb : Below W.heap.size W w := hx.e.below (ZqE _) (fun _ h => h.elim)
 have q37 : ∃ g, a.eval (.tmp 44) = .pointer (some ⟨g, 0, none⟩) ∧ W.heap.size ≤ g ∧ w.heap[g]? = some (.cells #[.int .i32 0, .int .u32 0, a.eval (.tmp 40), .bool S.ov] 113 (0, 0)) := by
  have h := hn 37 (by decide)
  rw [hl] at h
  exact h
 have q40 : w.ownsRow W.heap.size 5 1 (a.eval (.tmp 47)) S.out.length (bv S.out) := by
  have h := hn 40 (by decide)
  rw [hl] at h
  exact h
 have q24 : a.eval (.tmp 31) = .int .u8 S.ier := by
  have h := hn 24 (by decide)
  rw [hl] at h
  exact h
 have q26 : a.eval (.tmp 33) = .int .u8 S.lcr := by
  have h := hn 26 (by decide)
  rw [hl] at h
  exact h
 have q28 : a.eval (.tmp 35) = .int .u8 S.mcr := by
  have h := hn 28 (by decide)
  rw [hl] at h
  exact h
 have q30 : a.eval (.tmp 37) = .int .u8 S.scr := by
  have h := hn 30 (by decide)
  rw [hl] at h
  exact h
 obtain ⟨x, y, z, hu⟩ := eV q40
 obtain ⟨g, hp, _, _⟩ := q37
 refine aJ ho hd (.agg #[.int .u8 S.ier, .int .u8 S.lcr, .int .u8 S.mcr, .int .u8 S.scr, a.eval (.tmp 44), a.eval (.tmp 47)]) ?_ (ZqD _ _) ?_ (by decide)
 ·clear hd hn hl ho h1 q40
  generalize a.eval = ρ at *
  simp [execOp, hop, hu, hp, q24, q26, q28, q30, go_sem]
 ·rw [hl]; rfl
theorem XV : FrG 42 (some 49, .box 78 (.tmp 48), none) := by
 intro S vr vi vo p W ops Q H o ho hd a w h1 hx hl hn
 have hop : o.op = .box 78 (.tmp 48) := congrArg (fun x => x.2.1) hd
 have hb : Below W.heap.size W w := hx.e.below (ZqE _) (fun _ h => h.elim)
 have q41 : a.eval (.tmp 48) = .agg #[.int .u8 S.ier, .int .u8 S.lcr, .int .u8 S.mcr, .int .u8 S.scr, a.eval (.tmp 44), a.eval (.tmp 47)] := by
  have h := hn 41 (by decide)
  rw [hl] at h
  exact h
 have q37 : ∃ g, a.eval (.tmp 44) = .pointer (some ⟨g, 0, none⟩) ∧ W.heap.size ≤ g ∧ w.heap[g]? = some (.cells #[.int .i32 0, .int .u32 0, a.eval (.tmp 40), .bool S.ov] 113 (0, 0)) := by
  have h := hn 37 (by decide)
  rw [hl] at h
  exact h
 have q40 : w.ownsRow W.heap.size 5 1 (a.eval (.tmp 47)) S.out.length (bv S.out) := by
  have h := hn 40 (by decide)
  rw [hl] at h
  exact h
 refine aJ ho hd (w' := w.alloc (.cells #[.int .u8 S.ier, .int .u8 S.lcr, .int .u8 S.mcr, .int .u8 S.scr, a.eval (.tmp 44), a.eval (.tmp 47)] 78)) (.pointer (some ⟨w.heap.size, 0, none⟩)) ?_ ((ZqD _ _).alloc (ZqE _) _) ?_ (by decide)
 ·clear hn hl ho h1
  clear q37 q40 hd
  generalize a.eval = ρ at *
  simp [execOp, hop, q41, go_sem]
 ·rw [hl]; exact ⟨w.heap.size, rfl, hb.size, eQ _ _⟩
theorem XW : FrG 43 (some 50, .fieldAddr 35 (.tmp 1) 4, none) := by
 intro S vr vi vo p W ops Q H o ho hd a w h1 hx hl hn
 have hop : o.op = .fieldAddr 35 (.tmp 1) 4 := congrArg (fun x => x.2.1) hd
 have hb : Below W.heap.size W w := hx.e.below (ZqE _) (fun _ h => h.elim)
 refine aJ ho hd (.pointer (some ⟨p, 4, none⟩)) ?_ (ZqD _ _) rfl (by decide)
 clear hd hn hl ho
 generalize a.eval = ρ at *
 simp [execOp, hop, h1, go_sem]
theorem XX : FrG 44 (some 51, .load 4 (.tmp 50), none) := by
 intro S vr vi vo p W ops Q H o ho hd a w h1 hx hl hn
 have hop : o.op = .load 4 (.tmp 50) := congrArg (fun x => x.2.1) hd
 have hb : Below W.heap.size W w := hx.e.below (ZqE _) (fun _ h => h.elim)
 have q43 : a.eval (.tmp 50) = .pointer (some ⟨p, 4, none⟩) := by
  have h := hn 43 (by decide)
  rw [hl] at h
  exact h
 have hc : w.cell? ⟨p, 4, none⟩ = some (.bool S.ext) := eI H hb 4
 refine aJ ho hd (.bool S.ext) ?_ (ZqD _ _) rfl (by decide)
 clear hd hn hl ho h1
 generalize a.eval = ρ at *
 simp [execOp, hop, q43, hc, go_sem]
theorem XY : FrG 45 (some 52, .fieldAddr 35 (.tmp 1) 5, none) := by
 intro S vr vi vo p W ops Q H o ho hd a w h1 hx hl hn
 have hop : o.op = .fieldAddr 35 (.tmp 1) 5 := congrArg (fun x => x.2.1) hd
 have hb : Below W.heap.size W w := hx.e.below (ZqE _) (fun _ h => h.elim)
 refine aJ ho hd (.pointer (some ⟨p, 5, none⟩)) ?_ (ZqD _ _) rfl (by decide)
 clear hd hn hl ho
 generalize a.eval = ρ at *
 simp [execOp, hop, h1, go_sem]
theorem XZ : FrG 46 (some 53, .load 4 (.tmp 52), none) := by
 intro S vr vi vo p W ops Q H o ho hd a w h1 hx hl hn
 have hop : o.op = .load 4 (.tmp 52) := congrArg (fun x => x.2.1) hd
 have hb : Below W.heap.size W w := hx.e.below (ZqE _) (fun _ h => h.elim)
 have q45 : a.eval (.tmp 52) = .pointer (some ⟨p, 5, none⟩) := by
  have h := hn 45 (by decide)
  rw [hl] at h
  exact h
 have hc : w.cell? ⟨p, 5, none⟩ = some (.bool S.soft) := eI H hb 5
 refine aJ ho hd (.bool S.soft) ?_ (ZqD _ _) rfl (by decide)
 clear hd hn hl ho h1
 generalize a.eval = ρ at *
 simp [execOp, hop, q45, hc, go_sem]
theorem YA : FrG 47 (some 54, .build 85 #[(0, .tmp 11), (1, .tmp 17), (2, .tmp 21), (3, .tmp 25), (4, .tmp 29), (5, .tmp 49), (6, .tmp 51), (7, .tmp 53)], none) := by
 intro S vr vi vo p W ops Q H o ho hd a w h1 hx hl hn
 have hop : o.op = .build 85 #[(0, .tmp 11), (1, .tmp 17), (2, .tmp 21), (3, .tmp 25), (4, .tmp 29), (5, .tmp 49), (6, .tmp 51), (7, .tmp 53)] := congrArg (fun x => x.2.1) hd
 have hb : Below W.heap.size W w := hx.e.below (ZqE _) (fun _ h => h.elim)
 have q4 : ∃ g, a.eval (.tmp 11) = .pointer (some ⟨g, 0, none⟩) ∧ W.heap.size ≤ g ∧ w.heap[g]? = some (.cells #[a.eval (.tmp 9)] 89 (0, 0)) := by
  have h := hn 4 (by decide)
  rw [hl] at h
  exact h
 have q10 : ∃ g, a.eval (.tmp 17) = .pointer (some ⟨g, 0, none⟩) ∧ W.heap.size ≤ g ∧ w.heap[g]? = some (.cells #[.int .i64 S.off, .int .i64 S.code] 96 (0, 0)) := by
  have h := hn 10 (by decide)
  rw [hl] at h
  exact h
 have q14 : ∃ g, a.eval (.tmp 21) = .pointer (some ⟨g, 0, none⟩) ∧ W.heap.size ≤ g ∧ w.heap[g]? = some (.cells #[.int .u32 S.msip] 91 (0, 0)) := by
  have h := hn 14 (by decide)
  rw [hl] at h
  exact h
 have q18 : ∃ g, a.eval (.tmp 25) = .pointer (some ⟨g, 0, none⟩) ∧ W.heap.size ≤ g ∧ w.heap[g]? = some (.cells #[.int .u64 33570816, .int .u64 S.cmp] 93 (0, 0)) := by
  have h := hn 18 (by decide)
  rw [hl] at h
  exact h
 have q22 : ∃ g, a.eval (.tmp 29) = .pointer (some ⟨g, 0, none⟩) ∧ W.heap.size ≤ g ∧ w.heap[g]? = some (.cells #[.int .u64 33603576, .int .u64 S.time] 93 (0, 0)) := by
  have h := hn 22 (by decide)
  rw [hl] at h
  exact h
 have q42 : ∃ g, a.eval (.tmp 49) = .pointer (some ⟨g, 0, none⟩) ∧ W.heap.size ≤ g ∧ w.heap[g]? = some (.cells #[.int .u8 S.ier, .int .u8 S.lcr, .int .u8 S.mcr, .int .u8 S.scr, a.eval (.tmp 44), a.eval (.tmp 47)] 78 (0, 0)) := by
  have h := hn 42 (by decide)
  rw [hl] at h
  exact h
 have q44 : a.eval (.tmp 51) = .bool S.ext := by
  have h := hn 44 (by decide)
  rw [hl] at h
  exact h
 have q46 : a.eval (.tmp 53) = .bool S.soft := by
  have h := hn 46 (by decide)
  rw [hl] at h
  exact h
 obtain ⟨g4, p4, _, _⟩ := q4
 obtain ⟨g10, p10, _, _⟩ := q10
 obtain ⟨g14, p14, _, _⟩ := q14
 obtain ⟨g18, p18, _, _⟩ := q18
 obtain ⟨g22, p22, _, _⟩ := q22
 obtain ⟨g42, p42, _, _⟩ := q42
 refine aJ ho hd (.agg #[a.eval (.tmp 11), a.eval (.tmp 17), a.eval (.tmp 21), a.eval (.tmp 25), a.eval (.tmp 29), a.eval (.tmp 49), .bool S.ext, .bool S.soft]) ?_ (ZqD _ _) ?_ (by decide)
 ·clear hd hn hl ho h1
  generalize a.eval = ρ at *
  simp [execOp, hop, p4, p10, p14, p18, p22, p42, q44, q46, go_sem]
 ·rw [hl]; rfl
theorem YB : FrG 48 (some 55, .box 85 (.tmp 54), none) := by
 intro S vr vi vo p W ops Q H o ho hd a w h1 hx hl hn
 have hop : o.op = .box 85 (.tmp 54) := congrArg (fun x => x.2.1) hd
 have hb : Below W.heap.size W w := hx.e.below (ZqE _) (fun _ h => h.elim)
 have q47 : a.eval (.tmp 54) = .agg #[a.eval (.tmp 11), a.eval (.tmp 17), a.eval (.tmp 21), a.eval (.tmp 25), a.eval (.tmp 29), a.eval (.tmp 49), .bool S.ext, .bool S.soft] := by
  have h := hn 47 (by decide)
  rw [hl] at h
  exact h
 have q4 : ∃ g, a.eval (.tmp 11) = .pointer (some ⟨g, 0, none⟩) ∧ W.heap.size ≤ g ∧ w.heap[g]? = some (.cells #[a.eval (.tmp 9)] 89 (0, 0)) := by
  have h := hn 4 (by decide)
  rw [hl] at h
  exact h
 have q10 : ∃ g, a.eval (.tmp 17) = .pointer (some ⟨g, 0, none⟩) ∧ W.heap.size ≤ g ∧ w.heap[g]? = some (.cells #[.int .i64 S.off, .int .i64 S.code] 96 (0, 0)) := by
  have h := hn 10 (by decide)
  rw [hl] at h
  exact h
 have q14 : ∃ g, a.eval (.tmp 21) = .pointer (some ⟨g, 0, none⟩) ∧ W.heap.size ≤ g ∧ w.heap[g]? = some (.cells #[.int .u32 S.msip] 91 (0, 0)) := by
  have h := hn 14 (by decide)
  rw [hl] at h
  exact h
 have q18 : ∃ g, a.eval (.tmp 25) = .pointer (some ⟨g, 0, none⟩) ∧ W.heap.size ≤ g ∧ w.heap[g]? = some (.cells #[.int .u64 33570816, .int .u64 S.cmp] 93 (0, 0)) := by
  have h := hn 18 (by decide)
  rw [hl] at h
  exact h
 have q22 : ∃ g, a.eval (.tmp 29) = .pointer (some ⟨g, 0, none⟩) ∧ W.heap.size ≤ g ∧ w.heap[g]? = some (.cells #[.int .u64 33603576, .int .u64 S.time] 93 (0, 0)) := by
  have h := hn 22 (by decide)
  rw [hl] at h
  exact h
 have q42 : ∃ g, a.eval (.tmp 49) = .pointer (some ⟨g, 0, none⟩) ∧ W.heap.size ≤ g ∧ w.heap[g]? = some (.cells #[.int .u8 S.ier, .int .u8 S.lcr, .int .u8 S.mcr, .int .u8 S.scr, a.eval (.tmp 44), a.eval (.tmp 47)] 78 (0, 0)) := by
  have h := hn 42 (by decide)
  rw [hl] at h
  exact h
 refine aJ ho hd (w' := w.alloc (.cells #[a.eval (.tmp 11), a.eval (.tmp 17), a.eval (.tmp 21), a.eval (.tmp 25), a.eval (.tmp 29), a.eval (.tmp 49), .bool S.ext, .bool S.soft] 85)) (.pointer (some ⟨w.heap.size, 0, none⟩)) ?_ ((ZqD _ _).alloc (ZqE _) _) ?_ (by decide)
 ·clear hn hl ho h1
  clear q4 q10 q14 q18 q22 q42 hd
  generalize a.eval = ρ at *
  simp [execOp, hop, q47, go_sem]
 ·rw [hl]; exact ⟨w.heap.size, rfl, hb.size, eQ _ _⟩
theorem YC : FrG 49 (some 2, .assign (.tmp 55), none) := by
 intro S vr vi vo p W ops Q H o ho hd a w h1 hx hl hn
 have hop : o.op = .assign (.tmp 55) := congrArg (fun x => x.2.1) hd
 have hb : Below W.heap.size W w := hx.e.below (ZqE _) (fun _ h => h.elim)
 have q48 : ∃ g, a.eval (.tmp 55) = .pointer (some ⟨g, 0, none⟩) ∧ W.heap.size ≤ g ∧ w.heap[g]? = some (.cells #[a.eval (.tmp 11), a.eval (.tmp 17), a.eval (.tmp 21), a.eval (.tmp 25), a.eval (.tmp 29), a.eval (.tmp 49), .bool S.ext, .bool S.soft] 85 (0, 0)) := by
  have h := hn 48 (by decide)
  rw [hl] at h
  exact h
 obtain ⟨g, hp, hB, hh⟩ := q48
 refine aJ ho hd (.pointer (some ⟨g, 0, none⟩)) ?_ (ZqD _ _) ?_ (by decide)
 ·clear hd hn hl ho h1
  generalize a.eval = ρ at *
  simp [execOp, hop, hp, go_sem]
 ·rw [hl]; exact hp.symm
theorem YD : FrG 50 (some 3, .assign (.const (.int .i64 0)), none) := by
 intro S vr vi vo p W ops Q H o ho hd a w h1 hx hl hn
 have hop : o.op = .assign (.const (.int .i64 0)) := congrArg (fun x => x.2.1) hd
 have hb : Below W.heap.size W w := hx.e.below (ZqE _) (fun _ h => h.elim)
 have hf : a.eval (.const (.int .i64 0)) = .int .i64 0 := rfl
 refine aJ ho hd (.int .i64 0) ?_ (ZqD _ _) rfl (by decide)
 clear hd hn hl ho h1
 generalize a.eval = ρ at *
 simp [execOp, hop, hf, go_sem]
theorem xT : ∀ k, ((nX[k]?).bind (·.1)).getD 0 = xS k
 | 0 => rfl
 | 1 => rfl
 | 2 => rfl
 | 3 => rfl
 | 4 => rfl
 | 5 => rfl
 | 6 => rfl
 | 7 => rfl
 | 8 => rfl
 | 9 => rfl
 | 10 => rfl
 | 11 => rfl
 | 12 => rfl
 | 13 => rfl
 | 14 => rfl
 | 15 => rfl
 | 16 => rfl
 | 17 => rfl
 | 18 => rfl
 | 19 => rfl
 | 20 => rfl
 | 21 => rfl
 | 22 => rfl
 | 23 => rfl
 | 24 => rfl
 | 25 => rfl
 | 26 => rfl
 | 27 => rfl
 | 28 => rfl
 | 29 => rfl
 | 30 => rfl
 | 31 => rfl
 | 32 => rfl
 | 33 => rfl
 | 34 => rfl
 | 35 => rfl
 | 36 => rfl
 | 37 => rfl
 | 38 => rfl
 | 39 => rfl
 | 40 => rfl
 | 41 => rfl
 | 42 => rfl
 | 43 => rfl
 | 44 => rfl
 | 45 => rfl
 | 46 => rfl
 | 47 => rfl
 | 48 => rfl
 | 49 => rfl
 | 50 => rfl
 | _ + 51 => rfl
theorem WL {ops : Array Oper} (hsh : ops.toList.map shp = nX.toList) {i : Nat} {o : Oper} (ho : ops[i]? = some o) : nX[i]? = some (shp o) := by rw [← Array.getElem?_toList, ← hsh]; simp [ho]
theorem AG {ops : Array Oper} (hsh : ops.toList.map shp = nX.toList) (a : Act) : bH ops a = fun k => a.eval (.tmp (xS k)) := by
 funext k
 unfold bH kH
 rw [← xT k]
 have e : (ops[k]?).bind (·.dst) = (nX[k]?).bind (·.1) := by
  rw [← Array.getElem?_toList (xs := nX), ← hsh]
  cases h : ops[k]? with
  | none => simp [h]
  | some o => simp [h, shp]
 rw [e]
theorem PF {S : St} {vr vi vo : Value} {p : Nat} {W : World} {ops : Array Oper} {Q : Exit → Act → World → Prop} (H : MY S vr vi vo p W) (hsh : ops.toList.map shp = nX.toList) (a0 : Act) (h1 : a0.eval (.tmp 1) = .pointer (some ⟨p, 0, none⟩)) (hap : eG ops 1 = true) :
  ∀ i o, ops[i]? = some o → ∀ a w, (∀ k, eG ops k = true → a.eval (.tmp k) = a0.eval (.tmp k)) → Exk (fun _ => False) W w → (∀ k ∈ kX i, FK W.heap.size (vO S vr vi vo p k) ((k :: kX k).map (bH ops a)) w) →
   wpOp prog ops Q i (frK ops kX [2, 33, 40] (fun _ => False) W.heap.size (vO S vr vi vo p) i o a w) a w := by
 intro i o ho a w hold hb hn
 have hl := AG hsh a
 have h1' : a.eval (.tmp 1) = .pointer (some ⟨p, 0, none⟩) := (hold 1 hap).trans h1
 have hg := WL hsh ho
 match i, ho, hn, hg with
 | 0, ho, hn, hg => exact fr_s0 H ho (ZqF hg).symm a w h1' hb hl hn
 | 1, ho, hn, hg => exact fr_s1 H ho (ZqF hg).symm a w h1' hb hl hn
 | 2, ho, hn, hg => exact fr_s2 H ho (ZqF hg).symm a w h1' hb hl hn
 | 3, ho, hn, hg => exact fr_s3 H ho (ZqF hg).symm a w h1' hb hl hn
 | 4, ho, hn, hg => exact fr_s4 H ho (ZqF hg).symm a w h1' hb hl hn
 | 5, ho, hn, hg => exact fr_s5 H ho (ZqF hg).symm a w h1' hb hl hn
 | 6, ho, hn, hg => exact fr_s6 H ho (ZqF hg).symm a w h1' hb hl hn
 | 7, ho, hn, hg => exact fr_s7 H ho (ZqF hg).symm a w h1' hb hl hn
 | 8, ho, hn, hg => exact fr_s8 H ho (ZqF hg).symm a w h1' hb hl hn
 | 9, ho, hn, hg => exact fr_s9 H ho (ZqF hg).symm a w h1' hb hl hn
 | 10, ho, hn, hg => exact WN H ho (ZqF hg).symm a w h1' hb hl hn
 | 11, ho, hn, hg => exact WO H ho (ZqF hg).symm a w h1' hb hl hn
 | 12, ho, hn, hg => exact WP H ho (ZqF hg).symm a w h1' hb hl hn
 | 13, ho, hn, hg => exact WQ H ho (ZqF hg).symm a w h1' hb hl hn
 | 14, ho, hn, hg => exact WS H ho (ZqF hg).symm a w h1' hb hl hn
 | 15, ho, hn, hg => exact WU H ho (ZqF hg).symm a w h1' hb hl hn
 | 16, ho, hn, hg => exact WV H ho (ZqF hg).symm a w h1' hb hl hn
 | 17, ho, hn, hg => exact WW H ho (ZqF hg).symm a w h1' hb hl hn
 | 18, ho, hn, hg => exact WX H ho (ZqF hg).symm a w h1' hb hl hn
 | 19, ho, hn, hg => exact WY H ho (ZqF hg).symm a w h1' hb hl hn
 | 20, ho, hn, hg => exact WZ H ho (ZqF hg).symm a w h1' hb hl hn
 | 21, ho, hn, hg => exact XA H ho (ZqF hg).symm a w h1' hb hl hn
 | 22, ho, hn, hg => exact XB H ho (ZqF hg).symm a w h1' hb hl hn
 | 23, ho, hn, hg => exact XC H ho (ZqF hg).symm a w h1' hb hl hn
 | 24, ho, hn, hg => exact XD H ho (ZqF hg).symm a w h1' hb hl hn
 | 25, ho, hn, hg => exact XE H ho (ZqF hg).symm a w h1' hb hl hn
 | 26, ho, hn, hg => exact XF H ho (ZqF hg).symm a w h1' hb hl hn
 | 27, ho, hn, hg => exact XG H ho (ZqF hg).symm a w h1' hb hl hn
 | 28, ho, hn, hg => exact XH H ho (ZqF hg).symm a w h1' hb hl hn
 | 29, ho, hn, hg => exact XI H ho (ZqF hg).symm a w h1' hb hl hn
 | 30, ho, hn, hg => exact XJ H ho (ZqF hg).symm a w h1' hb hl hn
 | 31, ho, hn, hg => exact XK H ho (ZqF hg).symm a w h1' hb hl hn
 | 32, ho, hn, hg => exact XL H ho (ZqF hg).symm a w h1' hb hl hn
 | 33, ho, hn, hg => exact XM H ho (ZqF hg).symm a w h1' hb hl hn
 | 34, ho, hn, hg => exact XN H ho (ZqF hg).symm a w h1' hb hl hn
 | 35, ho, hn, hg => exact XO H ho (ZqF hg).symm a w h1' hb hl hn
 | 36, ho, hn, hg => exact XP H ho (ZqF hg).symm a w h1' hb hl hn
 | 37, ho, hn, hg => exact XQ H ho (ZqF hg).symm a w h1' hb hl hn
 | 38, ho, hn, hg => exact XR H ho (ZqF hg).symm a w h1' hb hl hn
 | 39, ho, hn, hg => exact XS H ho (ZqF hg).symm a w h1' hb hl hn
 | 40, ho, hn, hg => exact XT H ho (ZqF hg).symm a w h1' hb hl hn
 | 41, ho, hn, hg => exact XU H ho (ZqF hg).symm a w h1' hb hl hn
 | 42, ho, hn, hg => exact XV H ho (ZqF hg).symm a w h1' hb hl hn
 | 43, ho, hn, hg => exact XW H ho (ZqF hg).symm a w h1' hb hl hn
 | 44, ho, hn, hg => exact XX H ho (ZqF hg).symm a w h1' hb hl hn
 | 45, ho, hn, hg => exact XY H ho (ZqF hg).symm a w h1' hb hl hn
 | 46, ho, hn, hg => exact XZ H ho (ZqF hg).symm a w h1' hb hl hn
 | 47, ho, hn, hg => exact YA H ho (ZqF hg).symm a w h1' hb hl hn
 | 48, ho, hn, hg => exact YB H ho (ZqF hg).symm a w h1' hb hl hn
 | 49, ho, hn, hg => exact YC H ho (ZqF hg).symm a w h1' hb hl hn
 | 50, ho, hn, hg => exact YD H ho (ZqF hg).symm a w h1' hb hl hn
 | n + 51, ho, hn, hg => exact absurd (Array.getElem?_eq_some_iff.1 hg).1 (by show ¬ n + 51 < 51; omega)
structure Lay where
 b : Nat
 m : Nat
 pw : Nat
 sw : Nat
 cm : Nat
 ck : Nat
 u : Nat
 q : Nat
 vr : Value
 vi : Value
 vo : Value
def pt (g : Nat) : Value := .pointer (some ⟨g, 0, none⟩)
structure PB (B : Nat) (L : Lay) (S : St) (w : World) : Prop where
 hb : w.heap[L.b]? = some (.cells #[pt L.m, pt L.pw, pt L.sw, pt L.cm, pt L.ck, pt L.u, .bool S.ext, .bool S.soft] 85 (0, 0))
 hm : w.heap[L.m]? = some (.cells #[L.vr] 89 (0, 0))
 hp : w.heap[L.pw]? = some (.cells #[.int .i64 S.off, .int .i64 S.code] 96 (0, 0))
 hs : w.heap[L.sw]? = some (.cells #[.int .u32 S.msip] 91 (0, 0))
 hc : w.heap[L.cm]? = some (.cells #[.int .u64 33570816, .int .u64 S.cmp] 93 (0, 0))
 hk : w.heap[L.ck]? = some (.cells #[.int .u64 33603576, .int .u64 S.time] 93 (0, 0))
 hu : w.heap[L.u]? = some (.cells #[.int .u8 S.ier, .int .u8 S.lcr, .int .u8 S.mcr, .int .u8 S.scr, pt L.q, L.vo] 78 (0, 0))
 hq : w.heap[L.q]? = some (.cells #[.int .i32 0, .int .u32 0, L.vi, .bool S.ov] 113 (0, 0))
 wr : w.ownsRow B 5 1 L.vr S.ram.length (bv S.ram)
 wi : w.ownsRow B 5 1 L.vi S.inp.length (bv S.inp)
 wo : w.ownsRow B 5 1 L.vo S.out.length (bv S.out)
 ri : ∀ g, L.vr.ownBlock = some g → L.vi.ownBlock ≠ some g
 ro : ∀ g, L.vr.ownBlock = some g → L.vo.ownBlock ≠ some g
 io : ∀ g, L.vi.ownBlock = some g → L.vo.ownBlock ≠ some g
 lb : B ≤ L.b
 lm : B ≤ L.m
 lp : B ≤ L.pw
 ls : B ≤ L.sw
 lc : B ≤ L.cm
 lk : B ≤ L.ck
 lu : B ≤ L.u
 lq : B ≤ L.q
theorem PB.le {B B' : Nat} {L : Lay} {S : St} {w : World} (h : PB B L S w) (hB : B' ≤ B) : PB B' L S w :=
 ⟨h.hb, h.hm, h.hp, h.hs, h.hc, h.hk, h.hu, h.hq, gW h.wr hB, gW h.wi hB, gW h.wo hB, h.ri, h.ro, h.io, ZqO hB h.lb, ZqO hB h.lm, ZqO hB h.lp, ZqO hB h.ls, ZqO hB h.lc, ZqO hB h.lk, ZqO hB h.lu, ZqO hB h.lq⟩
theorem WJ {S : St} {vr vi vo : Value} {p : Nat} {W w : World} {ops : Array Oper} (hsh : ops.toList.map shp = nX.toList) (a : Act) (hf : ∀ j, j < ops.size → FK W.heap.size (vO S vr vi vo p j) ((j :: kX j).map (bH ops a)) w)
  (hd : ∀ j ∈ [2, 33, 40], ∀ k ∈ [2, 33, 40], j ≠ k → j < ops.size → k < ops.size → ∀ g, (bH ops a j).ownBlock = some g → (bH ops a k).ownBlock ≠ some g) :
  ∃ L, a.eval (.tmp 2) = pt L.b ∧ a.eval (.tmp 3) = .int .i64 0 ∧ PB W.heap.size L S w := by
 have hsz : ops.size = 51 := by have := congrArg List.length hsh; rw [List.length_map] at this; exact this
 rw [hsz, AG hsh a] at hf hd
 have h2 : w.ownsRow W.heap.size 5 1 (a.eval (.tmp 9)) S.ram.length (bv S.ram) := hf 2 (by decide)
 have h33 : w.ownsRow W.heap.size 5 1 (a.eval (.tmp 40)) S.inp.length (bv S.inp) := hf 33 (by decide)
 have h40 : w.ownsRow W.heap.size 5 1 (a.eval (.tmp 47)) S.out.length (bv S.out) := hf 40 (by decide)
 have x4 : ∃ g, a.eval (.tmp 11) = .pointer (some ⟨g, 0, none⟩) ∧ W.heap.size ≤ g ∧ w.heap[g]? = some (.cells #[a.eval (.tmp 9)] 89 (0, 0)) := hf 4 (by decide)
 obtain ⟨m, e4, l4, h4⟩ := x4
 have x10 : ∃ g, a.eval (.tmp 17) = .pointer (some ⟨g, 0, none⟩) ∧ W.heap.size ≤ g ∧ w.heap[g]? = some (.cells #[.int .i64 S.off, .int .i64 S.code] 96 (0, 0)) := hf 10 (by decide)
 obtain ⟨pw, e10, l10, h10⟩ := x10
 have x14 : ∃ g, a.eval (.tmp 21) = .pointer (some ⟨g, 0, none⟩) ∧ W.heap.size ≤ g ∧ w.heap[g]? = some (.cells #[.int .u32 S.msip] 91 (0, 0)) := hf 14 (by decide)
 obtain ⟨sw, e14, l14, h14⟩ := x14
 have x18 : ∃ g, a.eval (.tmp 25) = .pointer (some ⟨g, 0, none⟩) ∧ W.heap.size ≤ g ∧ w.heap[g]? = some (.cells #[.int .u64 33570816, .int .u64 S.cmp] 93 (0, 0)) := hf 18 (by decide)
 obtain ⟨cm, e18, l18, h18⟩ := x18
 have x22 : ∃ g, a.eval (.tmp 29) = .pointer (some ⟨g, 0, none⟩) ∧ W.heap.size ≤ g ∧ w.heap[g]? = some (.cells #[.int .u64 33603576, .int .u64 S.time] 93 (0, 0)) := hf 22 (by decide)
 obtain ⟨ck, e22, l22, h22⟩ := x22
 have x37 : ∃ g, a.eval (.tmp 44) = .pointer (some ⟨g, 0, none⟩) ∧ W.heap.size ≤ g ∧ w.heap[g]? = some (.cells #[.int .i32 0, .int .u32 0, a.eval (.tmp 40), .bool S.ov] 113 (0, 0)) := hf 37 (by decide)
 obtain ⟨q, e37, l37, h37⟩ := x37
 have x42 : ∃ g, a.eval (.tmp 49) = .pointer (some ⟨g, 0, none⟩) ∧ W.heap.size ≤ g ∧ w.heap[g]? = some (.cells #[.int .u8 S.ier, .int .u8 S.lcr, .int .u8 S.mcr, .int .u8 S.scr, a.eval (.tmp 44), a.eval (.tmp 47)] 78 (0, 0)) := hf 42 (by decide)
 obtain ⟨u, e42, l42, h42⟩ := x42
 have x48 : ∃ g, a.eval (.tmp 55) = .pointer (some ⟨g, 0, none⟩) ∧ W.heap.size ≤ g ∧ w.heap[g]? = some (.cells #[a.eval (.tmp 11), a.eval (.tmp 17), a.eval (.tmp 21), a.eval (.tmp 25), a.eval (.tmp 29), a.eval (.tmp 49), .bool S.ext, .bool S.soft] 85 (0, 0)) := hf 48 (by decide)
 obtain ⟨b, e48, l48, h48⟩ := x48
 have h49 : a.eval (.tmp 2) = a.eval (.tmp 55) := hf 49 (by decide)
 have h50 : a.eval (.tmp 3) = .int .i64 0 := hf 50 (by decide)
 rw [e4, e10, e14, e18, e22, e42] at h48
 rw [e37] at h42
 exact ⟨⟨b, m, pw, sw, cm, ck, u, q, a.eval (.tmp 9), a.eval (.tmp 40), a.eval (.tmp 47)⟩, h49.trans e48, h50,
  h48, h4, h10, h14, h18, h22, h42, h37, h2, h33, h40, hd 2 (by decide) 33 (by decide) (by decide) (by decide) (by decide), hd 2 (by decide) 40 (by decide) (by decide) (by decide) (by decide), hd 33 (by decide) 40 (by decide) (by decide) (by decide) (by decide), l48, l4, l10, l14, l18, l22, l42, l37⟩
theorem WM {S : St} {vr vi vo : Value} {p : Nat} (j : Nat) : ∀ f, vO S vr vi vo p j ≠ .mem f := by
 intro f
 unfold vO
 split <;> simp
theorem IC (S : St) (ar ai ao : Option Addr) (cr ci co : Nat) (w : World) (hok : S.ok = true) (hr : Byt w (.slice ar S.ram.length cr) S.ram) (hi : Byt w (.slice ai S.inp.length ci) S.inp) (ho : Byt w (.slice ao S.out.length co) S.out)
  (lr : S.ram.length ≤ 140737488355328) (li : S.inp.length ≤ 140737488355328) (lo : S.out.length ≤ 140737488355328) :
  Calls prog 21 #[.agg (stc S (.slice ar S.ram.length cr) (.slice ai S.inp.length ci) (.slice ao S.out.length co))] w fun e w' => ∃ L, e = .returned (.tuple #[pt L.b, .int .i64 0]) ∧ PB w.heap.size L S w' ∧ Below w.heap.size w w' := by
 have hC := OF S ar ai ao cr ci co
 rw [hok] at hC
 have HIN : Hid (∀ w1, Below (w.alloc (.cells (stc S (.slice ar S.ram.length cr) (.slice ai S.inp.length ci) (.slice ao S.out.length co)) 35)).heap.size (w.alloc (.cells (stc S (.slice ar S.ram.length cr) (.slice ai S.inp.length ci) (.slice ao S.out.length co)) 35)) w1 →
   MY S (.slice ar S.ram.length cr) (.slice ai S.inp.length ci) (.slice ao S.out.length co) w.heap.size w1 ∧ Below w.heap.size w w1) := by
  intro w1 hb
  have hb0 : Below w.heap.size w w1 := ((ZqD _ _).alloc (ZqE _) _).trans (hb.mono (by simp))
  refine ⟨⟨?_, fun j => ?_, hr.later hb0 rfl, hi.later hb0 rfl, ho.later hb0 rfl, lr, li, lo⟩, hb0⟩
  ·have := hb.size; simp at this; omega
  ·rw [hb.cell (by simp)]
   rw [ZqP _ _ _ _ _ _ (eQ w _)]
 clear hr hi ho
 unfold stc at hC HIN ⊢
 go_enter func21, ntmps21
 go_wp2_with (go_at_call 38; refine (hC _).mono ?_; rintro e w1 ⟨rfl, hb1⟩)
 obtain ⟨hin, hbel⟩ := HIN.out w1 hb1
 rename_i hK
 refine mA (by kernel_rfl) kX (fun j => FK w1.heap.size (vO S (.slice ar S.ram.length cr) (.slice ai S.inp.length ci) (.slice ao S.out.length co) w.heap.size j)) [2, 33, 40] (fun _ => False) 51 w1 w1 _ (by kernel_rfl) (fun k _ _ h => absurd h (Nat.lt_irrefl 51)) (fun j vs w w' _ h hb => FK.mono (fun _ h => h.elim) (WM j) h hb) ?_ (Exk.refl _ _) (PF hin (by rfl) _ rfl (by rfl)) ?_
 ·intro j hj v vs w' hf g hg
  simp only [List.mem_cons, List.not_mem_nil, or_false] at hj
  rcases hj with rfl | rfl | rfl
  ·exact (World.ownsRow.lt (show w'.ownsRow w1.heap.size 5 1 v S.ram.length (bv S.ram) from hf) g hg).2
  ·exact (World.ownsRow.lt (show w'.ownsRow w1.heap.size 5 1 v S.inp.length (bv S.inp) from hf) g hg).2
  ·exact (World.ownsRow.lt (show w'.ownsRow w1.heap.size 5 1 v S.out.length (bv S.out) from hf) g hg).2
 ·intro a w2 hts hdf hold hb2 hf hdis
  have hb2 : Below w1.heap.size w1 w2 := hb2.e.below (ZqE _) (fun _ h => h.elim)
  obtain ⟨L, e2, e3, hPB⟩ := WJ (by rfl) a hf hdis
  refine hK a w2 ?_
  refine wp_ret (ZqH (v := .tuple #[pt L.b, .int .i64 0]) ?_ hdf ?_)
  ·rw [← e2, ← e3]
   have e := results_tmp2 (fn := Tryz.f21) (t := 2) (u := 3) rfl a.tmps prog w2
   rw [e]
   simp [Act.eval]
  ·exact ⟨L, rfl, hPB.le hbel.size, hbel.trans (hb2.mono hbel.size)⟩
end Go.Proofs.YtddlmenfcbjoaaaGreatDoor
namespace Go.Proofs.YtddlmenfcbjoaaaGreatDoor
set_option linter.unusedVariables false
set_option maxRecDepth 100000
set_option maxHeartbeats 8000000
open Go.ChangeShapes Go.WideShapes Go.ChangeAt Go.RowKit Go.Deep Go.MuLone _root_.Go.Proofs.Tryz
theorem dQ {w : World} {B n T : Nat} {v : Value} {xs : List Value} {q : Nat} {cs : Array Value} {fr : Nat × Nat} (h : w.ownsRow B 5 1 v n xs) (hq : w.heap[q]? = some (.cells cs T fr)) (hT : T ≠ 5) : ∀ g, v.ownBlock = some g → g ≠ q := by
 intro g hg e
 subst e
 obtain ⟨c, fz, h1⟩ := Go.Lib.ownsRow_kind h g hg
 rw [hq] at h1
 simp at h1
 exact hT h1.2.1
theorem qN {v : Value} {g off n c : Nat} (h : v = .slice (some ⟨g, off, none⟩) n c) : v.ownBlock = some g := by subst h; rfl
theorem mC {w w1 w2 w3 : World} {q : Nat} {x y : Value} {cs : Array Value} {T : TypeId} (hq : w.heap[q]? = some (.cells cs T (0, 0))) (hx : cs[0]? = some x) (h1 : w1 = w.setCell ⟨q, 0, none⟩ y) (h2 : Below w1.heap.size w1 w2) (h3 : w3 = w2.setCell ⟨q, 0, none⟩ x) : Below w.heap.size w w3 := by
 subst h1 h3
 have hql : q < w.heap.size := (Array.getElem?_eq_some_iff.1 hq).1
 have hsz : (w.setCell ⟨q, 0, none⟩ y).heap.size = w.heap.size := by simp [World.setCell]
 have e1 : (w.setCell ⟨q, 0, none⟩ y).heap[q]? = some (.cells (cs.setIfInBounds 0 y) T (0, 0)) := ZqQ w q 0 cs T y hq
 have e2 : w2.heap[q]? = some (.cells (cs.setIfInBounds 0 y) T (0, 0)) := by rw [h2.block q (by rw [hsz]; exact hql)]; exact e1
 refine ⟨h2.os, h2.tape, h2.output, ?_, fun k hk => ?_⟩
 ·have := h2.size; rw [hsz] at this; simpa [World.setCell] using this
 ·by_cases e : k = q
  ·subst e
   rw [ZqQ w2 k 0 _ T x e2, hq]
   congr 2
   apply Array.ext_getElem?
   intro i
   by_cases hi : i = 0
   ·subst hi
    have : 0 < cs.size := (Array.getElem?_eq_some_iff.1 hx).1
    rw [hx]
    simp [this]
   ·rw [Array.getElem?_setIfInBounds_ne (by omega), Array.getElem?_setIfInBounds_ne (by omega)]
  ·rw [Below.heap_setCell w2 ⟨q, 0, none⟩ x k e, h2.block k (by rw [hsz]; exact hk), Below.heap_setCell w ⟨q, 0, none⟩ y k e]
theorem all_c {B q : Nat} {vi : Value} {inp : List Int} {ov : Bool} (w : World) (hq : w.heap[q]? = some (.cells #[.int .i32 0, .int .u32 0, vi, .bool ov] 113 (0, 0))) (hv : w.ownsRow B 5 1 vi inp.length (bv inp)) (hl : inp.length ≤ 140737488355328) :
  Calls prog 31 #[.pointer (some ⟨q, 0, none⟩)] w fun e w' => ∃ u, e = .returned (.tuple #[u, .bool ov]) ∧ w'.ownsRow w.heap.size 5 1 u inp.length (bv inp) ∧ Below w.heap.size w w' := by
 have hne := dQ hv hq (by decide)
 have c0 : w.cell? ⟨q, 0, none⟩ = some (.int .i32 0) := ZqP w q 0 _ _ _ hq
 have f0 : w.frozen? ⟨q, 0, none⟩ = false := frozen_of_row w q 0 _ _ hq
 obtain ⟨w1, hw1⟩ : ∃ w1, w1 = w.setCell ⟨q, 0, none⟩ (.int .i32 1) := ⟨_, rfl⟩
 have hq1 : w1.heap[q]? = some (.cells #[.int .i32 1, .int .u32 0, vi, .bool ov] 113 (0, 0)) := by rw [hw1]; exact ZqQ w q 0 _ _ _ hq
 have hv1 : w1.ownsRow B 5 1 vi inp.length (bv inp) := by
  rw [hw1]
  exact ownsRow_setCell_other hv (fun e => hne _ e rfl) _
 have d2 : w1.cell? ⟨q, 2, none⟩ = some vi := ZqP w1 q 2 _ _ _ hq1
 have d3 : w1.cell? ⟨q, 3, none⟩ = some (.bool ov) := ZqP w1 q 3 _ _ _ hq1
 have HLK := (lock_free kQ ⟨q, 0, none⟩ w c0 f0)
 rw [← hw1] at HLK
 have HS : Hid (w1.heap.size = w.heap.size) := by unfold Hid; rw [hw1]; simp [World.setCell]
 have HBY : Hid (Byt w1 vi inp) := Byt.of_own hv1
 have HQ1 := hid hq1
 have HQ := hid hq
 have HW1 := hid hw1
 have HC := fun w' (h : Byt w' vi inp) => oU hl vi w' h
 obtain ⟨ai, ni, ci, rfl⟩ := eV hv
 clear hne hw1 hq1 hv1 hq hv hl
 go_enter_defers func31, ntmps31
 go_wp2_with (go_at_call 46; refine HLK.mono ?_; rintro e w' ⟨rfl, rfl⟩)
 go_region_held3 (fun w' => w'.cell? ⟨q, 2, none⟩ = some (.slice ai ni ci) ∧ w'.cell? ⟨q, 3, none⟩ = some (.bool ov)) (first | exact ⟨d2, d3⟩ | exact ⟨hc2, hc3⟩)
  (first | (go_at_call 32; refine (HC _ ?_).mono ?_; exact HBY.out; rintro e w2 ⟨u, rfl, hown, hbel⟩; have hc2 : w2.cell? ⟨q, 2, none⟩ = some (.slice ai ni ci) := (hbel.cell (Array.getElem?_eq_some_iff.1 HQ1.out).1).trans d2; have hc3 : w2.cell? ⟨q, 3, none⟩ = some (.bool ov) := (hbel.cell (Array.getElem?_eq_some_iff.1 HQ1.out).1).trans d3))
 have hql : q < w'.heap.size := (Array.getElem?_eq_some_iff.1 HQ1.out).1
 have HQ2 : Hid (w2.heap[q]? = some (.cells #[.int .i32 1, .int .u32 0, .slice ai ni ci, .bool ov] 113 (0, 0))) := (hbel.block q hql).trans HQ1.out
 have HO := hid hown
 have HB2 : Hid (Below w'.heap.size w' w2) := ⟨hbel.os, hbel.tape, hbel.output, hbel.size, hbel.block⟩
 clear hown hbel hc2 hc3 HLK HC d2 d3 HBY
 go_wp2
 refine leaves_cons (f := 47) (args := #[.pointer (some ⟨q, 0, none⟩)]) (by simp) (by simp [go_sem]) ?_
 refine (unlock_deferred kQ ⟨q, 0, none⟩ .returning _ ?_ ?_).mono ?_
 ·exact ZqP w2 q 0 _ _ _ HQ2.out
 ·exact frozen_of_row w2 q 0 _ _ HQ2.out
 rintro e u' w3 ⟨rfl, rfl, rfl⟩
 refine ⟨_, results_tmp2 rfl _ _ _, u, rfl, ?_, mC HQ.out rfl HW1.out HB2.out rfl⟩
 rw [← HS.out]
 exact ownsRow_setCell_other HO.out (fun e => by have h1 : w'.heap.size ≤ q := (HO.out.lt _ e).1; omega) _
theorem JW {B : Nat} {L : Lay} {S : St} (w : World) (h : PB B L S w) (hl : S.out.length ≤ 140737488355328) :
  Calls prog 33 #[.pointer (some ⟨L.b, 0, none⟩)] w fun e w' => ∃ u, e = .returned u ∧ w'.ownsRow w.heap.size 5 1 u S.out.length (bv S.out) ∧ Below w.heap.size w w' := by
 have c5 : w.cell? ⟨L.b, 5, none⟩ = some (.pointer (some ⟨L.u, 0, none⟩)) := ZqP w L.b 5 _ _ _ h.hb
 have d5 : w.cell? ⟨L.u, 5, none⟩ = some L.vo := ZqP w L.u 5 _ _ _ h.hu
 have HC := oU hl L.vo w (Byt.of_own h.wo)
 obtain ⟨ao, no, co, e⟩ := eV h.wo
 rw [e] at HC d5
 clear h e
 go_enter func33, ntmps33
 go_wp2_with (go_at_call 32; refine HC.mono ?_; rintro e w2 ⟨u, rfl, hown, hbel⟩)
 go_ret
 exact ⟨u, rfl, hown, hbel⟩
theorem PB.later {B : Nat} {L : Lay} {S : St} {w w' : World} (h : PB B L S w) (hb : Below w.heap.size w w') : PB B L S w' := by
 have k : ∀ {g : Nat} {o : Obj}, w.heap[g]? = some o → w'.heap[g]? = some o := fun {g o} hg => by rw [hb.block g (Array.getElem?_eq_some_iff.1 hg).1]; exact hg
 exact ⟨k h.hb, k h.hm, k h.hp, k h.hs, k h.hc, k h.hk, k h.hu, k h.hq, fL h.wr hb rfl, fL h.wi hb rfl, fL h.wo hb rfl, h.ri, h.ro, h.io, h.lb, h.lm, h.lp, h.ls, h.lc, h.lk, h.lu, h.lq⟩
structure PCb (L : Lay) (S : St) (vr vi vo : Value) (w : World) : Prop where
 b0 : w.cell? ⟨L.b, 0, none⟩ = some (.pointer (some ⟨L.m, 0, none⟩))
 b1 : w.cell? ⟨L.b, 1, none⟩ = some (.pointer (some ⟨L.pw, 0, none⟩))
 b2 : w.cell? ⟨L.b, 2, none⟩ = some (.pointer (some ⟨L.sw, 0, none⟩))
 b3 : w.cell? ⟨L.b, 3, none⟩ = some (.pointer (some ⟨L.cm, 0, none⟩))
 b4 : w.cell? ⟨L.b, 4, none⟩ = some (.pointer (some ⟨L.ck, 0, none⟩))
 b5 : w.cell? ⟨L.b, 5, none⟩ = some (.pointer (some ⟨L.u, 0, none⟩))
 b6 : w.cell? ⟨L.b, 6, none⟩ = some (.bool S.ext)
 b7 : w.cell? ⟨L.b, 7, none⟩ = some (.bool S.soft)
 m0 : w.cell? ⟨L.m, 0, none⟩ = some vr
 p0 : w.cell? ⟨L.pw, 0, none⟩ = some (.int .i64 S.off)
 p1 : w.cell? ⟨L.pw, 1, none⟩ = some (.int .i64 S.code)
 s0 : w.cell? ⟨L.sw, 0, none⟩ = some (.int .u32 S.msip)
 c0 : w.cell? ⟨L.cm, 0, none⟩ = some (.int .u64 33570816)
 c1 : w.cell? ⟨L.cm, 1, none⟩ = some (.int .u64 S.cmp)
 k0 : w.cell? ⟨L.ck, 0, none⟩ = some (.int .u64 33603576)
 k1 : w.cell? ⟨L.ck, 1, none⟩ = some (.int .u64 S.time)
 u0 : w.cell? ⟨L.u, 0, none⟩ = some (.int .u8 S.ier)
 u1 : w.cell? ⟨L.u, 1, none⟩ = some (.int .u8 S.lcr)
 u2 : w.cell? ⟨L.u, 2, none⟩ = some (.int .u8 S.mcr)
 u3 : w.cell? ⟨L.u, 3, none⟩ = some (.int .u8 S.scr)
 u4 : w.cell? ⟨L.u, 4, none⟩ = some (.pointer (some ⟨L.q, 0, none⟩))
 u5 : w.cell? ⟨L.u, 5, none⟩ = some vo
 q2 : w.cell? ⟨L.q, 2, none⟩ = some vi
 q3 : w.cell? ⟨L.q, 3, none⟩ = some (.bool S.ov)
theorem PB.cl {B : Nat} {L : Lay} {S : St} {w : World} (h : PB B L S w) : PCb L S L.vr L.vi L.vo w :=
 ⟨ZqP w L.b 0 _ _ _ h.hb, ZqP w L.b 1 _ _ _ h.hb, ZqP w L.b 2 _ _ _ h.hb, ZqP w L.b 3 _ _ _ h.hb, ZqP w L.b 4 _ _ _ h.hb, ZqP w L.b 5 _ _ _ h.hb, ZqP w L.b 6 _ _ _ h.hb, ZqP w L.b 7 _ _ _ h.hb,
  ZqP w L.m 0 _ _ _ h.hm, ZqP w L.pw 0 _ _ _ h.hp, ZqP w L.pw 1 _ _ _ h.hp, ZqP w L.sw 0 _ _ _ h.hs, ZqP w L.cm 0 _ _ _ h.hc, ZqP w L.cm 1 _ _ _ h.hc, ZqP w L.ck 0 _ _ _ h.hk, ZqP w L.ck 1 _ _ _ h.hk,
  ZqP w L.u 0 _ _ _ h.hu, ZqP w L.u 1 _ _ _ h.hu, ZqP w L.u 2 _ _ _ h.hu, ZqP w L.u 3 _ _ _ h.hu, ZqP w L.u 4 _ _ _ h.hu, ZqP w L.u 5 _ _ _ h.hu, ZqP w L.q 2 _ _ _ h.hq, ZqP w L.q 3 _ _ _ h.hq⟩
structure Sv (B : Nat) (S : St) (ur ui uo : Value) (w : World) : Prop where
 r : w.ownsRow B 5 1 ur S.ram.length (bv S.ram)
 i : w.ownsRow B 5 1 ui S.inp.length (bv S.inp)
 o : w.ownsRow B 5 1 uo S.out.length (bv S.out)
 ri : ∀ g, ur.ownBlock = some g → ui.ownBlock ≠ some g
 ro : ∀ g, ur.ownBlock = some g → uo.ownBlock ≠ some g
 io : ∀ g, ui.ownBlock = some g → uo.ownBlock ≠ some g
theorem sQ {w w' : World} {B B' n n' : Nat} {v v' : Value} {xs xs' : List Value} (h : w.ownsRow B 5 1 v n xs) (h' : w'.ownsRow B' 5 1 v' n' xs') (hB : w.heap.size ≤ B') : ∀ g, v.ownBlock = some g → v'.ownBlock ≠ some g := fun g hg hg' => by
 have h1 := (h.lt g hg).2
 have h2 := (h'.lt g hg').1
 omega
theorem PB.exc {B : Nat} {L : Lay} {S : St} {w w' : World} {G : Nat → Prop} (h : PB B L S w) (hb : Exc G w w') (hG : ∀ k, k < w.heap.size → ¬ G k) : PB B L S w' := by
 have k : ∀ {g : Nat} {o : Obj}, w.heap[g]? = some o → w'.heap[g]? = some o := fun {g o} hg => by have hl := (Array.getElem?_eq_some_iff.1 hg).1; rw [hb.block g hl (hG g hl)]; exact hg
 exact ⟨k h.hb, k h.hm, k h.hp, k h.hs, k h.hc, k h.hk, k h.hu, k h.hq, eJ h.wr hb (fun k hk => hG k (h.wr.lt k hk).2), eJ h.wi hb (fun k hk => hG k (h.wi.lt k hk).2), eJ h.wo hb (fun k hk => hG k (h.wo.lt k hk).2), h.ri, h.ro, h.io, h.lb, h.lm, h.lp, h.ls, h.lc, h.lk, h.lu, h.lq⟩
theorem LE : (prog.info? 35).map (·.size) = some 15 := by kernel_rfl
theorem wP (S : St) {ar ai ao : Option Addr} {nr ni no cr ci co : Nat} : (stc S (.slice ar nr cr) (.slice ai ni ci) (.slice ao no co)).all (·.oneCell') = true := by
 unfold stc
 simp [Value.oneCell']
end Go.Proofs.YtddlmenfcbjoaaaGreatDoor
