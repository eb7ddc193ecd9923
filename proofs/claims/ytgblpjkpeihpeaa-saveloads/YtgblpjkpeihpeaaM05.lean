/-
  Bfs Lck Bst.
-/
import Derived.Test.YtgblpjkpeihpeaaM04
import Derived.Test.YtgblpjkpeihpeaaProg
import Derived.Conc.RwLib
import Derived.Conc.MuData
import Derived.KernelRfl
import Derived.Conc.MuLone
import Derived.Deep.RegionHeld3
namespace Go.Proofs.Ytgblpjkpeihpeaa
set_option linter.unusedVariables false
open Go.ChangeShapes Go.WideShapes Go.ChangeAt Go.RowKit Go.Deep
theorem frSlot_tab : ∀ k, ((frTab[k]?).bind (·.1)).getD 0 = frSlot k
  | 0 => rfl
  | 1 => rfl
  | 2 => rfl
  | 3 => rfl
  | 4 => rfl
  | 5 => rfl
  | 6 => rfl
  | 7 => rfl
  | 8 => rfl
  | 9 => rfl
  | 10 => rfl
  | 11 => rfl
  | 12 => rfl
  | 13 => rfl
  | 14 => rfl
  | 15 => rfl
  | 16 => rfl
  | 17 => rfl
  | 18 => rfl
  | 19 => rfl
  | 20 => rfl
  | 21 => rfl
  | 22 => rfl
  | 23 => rfl
  | 24 => rfl
  | 25 => rfl
  | 26 => rfl
  | 27 => rfl
  | 28 => rfl
  | 29 => rfl
  | 30 => rfl
  | 31 => rfl
  | 32 => rfl
  | 33 => rfl
  | 34 => rfl
  | 35 => rfl
  | 36 => rfl
  | 37 => rfl
  | 38 => rfl
  | 39 => rfl
  | 40 => rfl
  | 41 => rfl
  | 42 => rfl
  | 43 => rfl
  | 44 => rfl
  | 45 => rfl
  | 46 => rfl
  | 47 => rfl
  | 48 => rfl
  | 49 => rfl
  | 50 => rfl
  | _ + 51 => rfl
theorem fr_get {ops : Array Oper} (hsh : ops.toList.map shp = frTab.toList) {i : Nat} {o : Oper} (ho : ops[i]? = some o) : frTab[i]? = some (shp o) := by rw [← Array.getElem?_toList, ← hsh]; simp [ho]
theorem fr_slot {ops : Array Oper} (hsh : ops.toList.map shp = frTab.toList) (a : Act) : leftBy ops a = fun k => a.eval (.tmp (frSlot k)) := by
  funext k
  unfold leftBy slotOf
  rw [← frSlot_tab k]
  have e : (ops[k]?).bind (·.dst) = (frTab[k]?).bind (·.1) := by
    rw [← Array.getElem?_toList (xs := frTab), ← hsh]
    cases h : ops[k]? with
    | none => simp [h]
    | some o => simp [h, shp]
  rw [e]
theorem fr_step {S : St} {vr vi vo : Value} {p : Nat} {W : World} {ops : Array Oper} {Q : Exit → Act → World → Prop} (H : FrIn S vr vi vo p W) (hsh : ops.toList.map shp = frTab.toList) (a0 : Act) (h1 : a0.eval (.tmp 1) = .pointer (some ⟨p, 0, none⟩)) (hap : apartB ops 1 = true) :
    ∀ i o, ops[i]? = some o → ∀ a w, (∀ k, apartB ops k = true → a.eval (.tmp k) = a0.eval (.tmp k)) → Exk (fun _ => False) W w → (∀ k ∈ frNeed i, FK W.heap.size (frKd S vr vi vo p k) ((k :: frNeed k).map (leftBy ops a)) w) →
      wpOp Try.prog ops Q i (frK ops frNeed [2, 33, 40] (fun _ => False) W.heap.size (frKd S vr vi vo p) i o a w) a w := by
  intro i o ho a w hold hb hn
  have hl := fr_slot hsh a
  have h1' : a.eval (.tmp 1) = .pointer (some ⟨p, 0, none⟩) := (hold 1 hap).trans h1
  have hg := fr_get hsh ho
  match i, ho, hn, hg with
  | 0, ho, hn, hg => exact fr_s0 H ho (Option.some.inj hg).symm a w h1' hb hl hn
  | 1, ho, hn, hg => exact fr_s1 H ho (Option.some.inj hg).symm a w h1' hb hl hn
  | 2, ho, hn, hg => exact fr_s2 H ho (Option.some.inj hg).symm a w h1' hb hl hn
  | 3, ho, hn, hg => exact fr_s3 H ho (Option.some.inj hg).symm a w h1' hb hl hn
  | 4, ho, hn, hg => exact fr_s4 H ho (Option.some.inj hg).symm a w h1' hb hl hn
  | 5, ho, hn, hg => exact fr_s5 H ho (Option.some.inj hg).symm a w h1' hb hl hn
  | 6, ho, hn, hg => exact fr_s6 H ho (Option.some.inj hg).symm a w h1' hb hl hn
  | 7, ho, hn, hg => exact fr_s7 H ho (Option.some.inj hg).symm a w h1' hb hl hn
  | 8, ho, hn, hg => exact fr_s8 H ho (Option.some.inj hg).symm a w h1' hb hl hn
  | 9, ho, hn, hg => exact fr_s9 H ho (Option.some.inj hg).symm a w h1' hb hl hn
  | 10, ho, hn, hg => exact fr_s10 H ho (Option.some.inj hg).symm a w h1' hb hl hn
  | 11, ho, hn, hg => exact fr_s11 H ho (Option.some.inj hg).symm a w h1' hb hl hn
  | 12, ho, hn, hg => exact fr_s12 H ho (Option.some.inj hg).symm a w h1' hb hl hn
  | 13, ho, hn, hg => exact fr_s13 H ho (Option.some.inj hg).symm a w h1' hb hl hn
  | 14, ho, hn, hg => exact fr_s14 H ho (Option.some.inj hg).symm a w h1' hb hl hn
  | 15, ho, hn, hg => exact fr_s15 H ho (Option.some.inj hg).symm a w h1' hb hl hn
  | 16, ho, hn, hg => exact fr_s16 H ho (Option.some.inj hg).symm a w h1' hb hl hn
  | 17, ho, hn, hg => exact fr_s17 H ho (Option.some.inj hg).symm a w h1' hb hl hn
  | 18, ho, hn, hg => exact fr_s18 H ho (Option.some.inj hg).symm a w h1' hb hl hn
  | 19, ho, hn, hg => exact fr_s19 H ho (Option.some.inj hg).symm a w h1' hb hl hn
  | 20, ho, hn, hg => exact fr_s20 H ho (Option.some.inj hg).symm a w h1' hb hl hn
  | 21, ho, hn, hg => exact fr_s21 H ho (Option.some.inj hg).symm a w h1' hb hl hn
  | 22, ho, hn, hg => exact fr_s22 H ho (Option.some.inj hg).symm a w h1' hb hl hn
  | 23, ho, hn, hg => exact fr_s23 H ho (Option.some.inj hg).symm a w h1' hb hl hn
  | 24, ho, hn, hg => exact fr_s24 H ho (Option.some.inj hg).symm a w h1' hb hl hn
  | 25, ho, hn, hg => exact fr_s25 H ho (Option.some.inj hg).symm a w h1' hb hl hn
  | 26, ho, hn, hg => exact fr_s26 H ho (Option.some.inj hg).symm a w h1' hb hl hn
  | 27, ho, hn, hg => exact fr_s27 H ho (Option.some.inj hg).symm a w h1' hb hl hn
  | 28, ho, hn, hg => exact fr_s28 H ho (Option.some.inj hg).symm a w h1' hb hl hn
  | 29, ho, hn, hg => exact fr_s29 H ho (Option.some.inj hg).symm a w h1' hb hl hn
  | 30, ho, hn, hg => exact fr_s30 H ho (Option.some.inj hg).symm a w h1' hb hl hn
  | 31, ho, hn, hg => exact fr_s31 H ho (Option.some.inj hg).symm a w h1' hb hl hn
  | 32, ho, hn, hg => exact fr_s32 H ho (Option.some.inj hg).symm a w h1' hb hl hn
  | 33, ho, hn, hg => exact fr_s33 H ho (Option.some.inj hg).symm a w h1' hb hl hn
  | 34, ho, hn, hg => exact fr_s34 H ho (Option.some.inj hg).symm a w h1' hb hl hn
  | 35, ho, hn, hg => exact fr_s35 H ho (Option.some.inj hg).symm a w h1' hb hl hn
  | 36, ho, hn, hg => exact fr_s36 H ho (Option.some.inj hg).symm a w h1' hb hl hn
  | 37, ho, hn, hg => exact fr_s37 H ho (Option.some.inj hg).symm a w h1' hb hl hn
  | 38, ho, hn, hg => exact fr_s38 H ho (Option.some.inj hg).symm a w h1' hb hl hn
  | 39, ho, hn, hg => exact fr_s39 H ho (Option.some.inj hg).symm a w h1' hb hl hn
  | 40, ho, hn, hg => exact fr_s40 H ho (Option.some.inj hg).symm a w h1' hb hl hn
  | 41, ho, hn, hg => exact fr_s41 H ho (Option.some.inj hg).symm a w h1' hb hl hn
  | 42, ho, hn, hg => exact fr_s42 H ho (Option.some.inj hg).symm a w h1' hb hl hn
  | 43, ho, hn, hg => exact fr_s43 H ho (Option.some.inj hg).symm a w h1' hb hl hn
  | 44, ho, hn, hg => exact fr_s44 H ho (Option.some.inj hg).symm a w h1' hb hl hn
  | 45, ho, hn, hg => exact fr_s45 H ho (Option.some.inj hg).symm a w h1' hb hl hn
  | 46, ho, hn, hg => exact fr_s46 H ho (Option.some.inj hg).symm a w h1' hb hl hn
  | 47, ho, hn, hg => exact fr_s47 H ho (Option.some.inj hg).symm a w h1' hb hl hn
  | 48, ho, hn, hg => exact fr_s48 H ho (Option.some.inj hg).symm a w h1' hb hl hn
  | 49, ho, hn, hg => exact fr_s49 H ho (Option.some.inj hg).symm a w h1' hb hl hn
  | 50, ho, hn, hg => exact fr_s50 H ho (Option.some.inj hg).symm a w h1' hb hl hn
  | n + 51, ho, hn, hg => exact absurd (Array.getElem?_eq_some_iff.1 hg).1 (by show ¬ n + 51 < 51; omega)
/-- Where a bus of the program lies. -/
structure Lay where
  b : Nat
  m : Nat
  pw : Nat
  sw : Nat
  cm : Nat
  ck : Nat
  u : Nat
  q : Nat
  vr : Value
  vi : Value
  vo : Value
def pt (g : Nat) : Value := .pointer (some ⟨g, 0, none⟩)
/-- A bus of the program that keeps S lies there, in blocks from B on. -/
structure PB (B : Nat) (L : Lay) (S : St) (w : World) : Prop where
  hb : w.heap[L.b]? = some (.cells #[pt L.m, pt L.pw, pt L.sw, pt L.cm, pt L.ck, pt L.u, .bool S.ext, .bool S.soft] 105 (0, 0))
  hm : w.heap[L.m]? = some (.cells #[L.vr] 82 (0, 0))
  hp : w.heap[L.pw]? = some (.cells #[.int .i64 S.off, .int .i64 S.code] 85 (0, 0))
  hs : w.heap[L.sw]? = some (.cells #[.int .u32 S.msip] 88 (0, 0))
  hc : w.heap[L.cm]? = some (.cells #[.int .u64 33570816, .int .u64 S.cmp] 91 (0, 0))
  hk : w.heap[L.ck]? = some (.cells #[.int .u64 33603576, .int .u64 S.time] 91 (0, 0))
  hu : w.heap[L.u]? = some (.cells #[.int .u8 S.ier, .int .u8 S.lcr, .int .u8 S.mcr, .int .u8 S.scr, pt L.q, L.vo] 103 (0, 0))
  hq : w.heap[L.q]? = some (.cells #[.int .i32 0, .int .u32 0, L.vi, .bool S.ov] 101 (0, 0))
  wr : w.ownsRow B 5 1 L.vr S.ram.length (bv S.ram)
  wi : w.ownsRow B 5 1 L.vi S.inp.length (bv S.inp)
  wo : w.ownsRow B 5 1 L.vo S.out.length (bv S.out)
  ri : ∀ g, L.vr.ownBlock = some g → L.vi.ownBlock ≠ some g
  ro : ∀ g, L.vr.ownBlock = some g → L.vo.ownBlock ≠ some g
  io : ∀ g, L.vi.ownBlock = some g → L.vo.ownBlock ≠ some g
  lb : B ≤ L.b
  lm : B ≤ L.m
  lp : B ≤ L.pw
  ls : B ≤ L.sw
  lc : B ≤ L.cm
  lk : B ≤ L.ck
  lu : B ≤ L.u
  lq : B ≤ L.q
theorem PB.le {B B' : Nat} {L : Lay} {S : St} {w : World} (h : PB B L S w) (hB : B' ≤ B) : PB B' L S w :=
  ⟨h.hb, h.hm, h.hp, h.hs, h.hc, h.hk, h.hu, h.hq, own_le h.wr hB, own_le h.wi hB, own_le h.wo hB, h.ri, h.ro, h.io, Nat.le_trans hB h.lb, Nat.le_trans hB h.lm, Nat.le_trans hB h.lp, Nat.le_trans hB h.ls, Nat.le_trans hB h.lc, Nat.le_trans hB h.lk, Nat.le_trans hB h.lu, Nat.le_trans hB h.lq⟩
theorem fr_end {S : St} {vr vi vo : Value} {p : Nat} {W w : World} {ops : Array Oper} (hsh : ops.toList.map shp = frTab.toList) (a : Act) (hf : ∀ j, j < ops.size → FK W.heap.size (frKd S vr vi vo p j) ((j :: frNeed j).map (leftBy ops a)) w)
    (hd : ∀ j ∈ [2, 33, 40], ∀ k ∈ [2, 33, 40], j ≠ k → j < ops.size → k < ops.size → ∀ g, (leftBy ops a j).ownBlock = some g → (leftBy ops a k).ownBlock ≠ some g) :
    ∃ L, a.eval (.tmp 2) = pt L.b ∧ a.eval (.tmp 3) = .int .i64 0 ∧ PB W.heap.size L S w := by
  have hsz : ops.size = 51 := by have := congrArg List.length hsh; rw [List.length_map] at this; exact this
  rw [hsz, fr_slot hsh a] at hf hd
  have h2 : w.ownsRow W.heap.size 5 1 (a.eval (.tmp 9)) S.ram.length (bv S.ram) := hf 2 (by decide)
  have h33 : w.ownsRow W.heap.size 5 1 (a.eval (.tmp 40)) S.inp.length (bv S.inp) := hf 33 (by decide)
  have h40 : w.ownsRow W.heap.size 5 1 (a.eval (.tmp 47)) S.out.length (bv S.out) := hf 40 (by decide)
  have x4 : ∃ g, a.eval (.tmp 11) = .pointer (some ⟨g, 0, none⟩) ∧ W.heap.size ≤ g ∧ w.heap[g]? = some (.cells #[a.eval (.tmp 9)] 82 (0, 0)) := hf 4 (by decide)
  obtain ⟨m, e4, l4, h4⟩ := x4
  have x10 : ∃ g, a.eval (.tmp 17) = .pointer (some ⟨g, 0, none⟩) ∧ W.heap.size ≤ g ∧ w.heap[g]? = some (.cells #[.int .i64 S.off, .int .i64 S.code] 85 (0, 0)) := hf 10 (by decide)
  obtain ⟨pw, e10, l10, h10⟩ := x10
  have x14 : ∃ g, a.eval (.tmp 21) = .pointer (some ⟨g, 0, none⟩) ∧ W.heap.size ≤ g ∧ w.heap[g]? = some (.cells #[.int .u32 S.msip] 88 (0, 0)) := hf 14 (by decide)
  obtain ⟨sw, e14, l14, h14⟩ := x14
  have x18 : ∃ g, a.eval (.tmp 25) = .pointer (some ⟨g, 0, none⟩) ∧ W.heap.size ≤ g ∧ w.heap[g]? = some (.cells #[.int .u64 33570816, .int .u64 S.cmp] 91 (0, 0)) := hf 18 (by decide)
  obtain ⟨cm, e18, l18, h18⟩ := x18
  have x22 : ∃ g, a.eval (.tmp 29) = .pointer (some ⟨g, 0, none⟩) ∧ W.heap.size ≤ g ∧ w.heap[g]? = some (.cells #[.int .u64 33603576, .int .u64 S.time] 91 (0, 0)) := hf 22 (by decide)
  obtain ⟨ck, e22, l22, h22⟩ := x22
  have x37 : ∃ g, a.eval (.tmp 44) = .pointer (some ⟨g, 0, none⟩) ∧ W.heap.size ≤ g ∧ w.heap[g]? = some (.cells #[.int .i32 0, .int .u32 0, a.eval (.tmp 40), .bool S.ov] 101 (0, 0)) := hf 37 (by decide)
  obtain ⟨q, e37, l37, h37⟩ := x37
  have x42 : ∃ g, a.eval (.tmp 49) = .pointer (some ⟨g, 0, none⟩) ∧ W.heap.size ≤ g ∧ w.heap[g]? = some (.cells #[.int .u8 S.ier, .int .u8 S.lcr, .int .u8 S.mcr, .int .u8 S.scr, a.eval (.tmp 44), a.eval (.tmp 47)] 103 (0, 0)) := hf 42 (by decide)
  obtain ⟨u, e42, l42, h42⟩ := x42
  have x48 : ∃ g, a.eval (.tmp 55) = .pointer (some ⟨g, 0, none⟩) ∧ W.heap.size ≤ g ∧ w.heap[g]? = some (.cells #[a.eval (.tmp 11), a.eval (.tmp 17), a.eval (.tmp 21), a.eval (.tmp 25), a.eval (.tmp 29), a.eval (.tmp 49), .bool S.ext, .bool S.soft] 105 (0, 0)) := hf 48 (by decide)
  obtain ⟨b, e48, l48, h48⟩ := x48
  have h49 : a.eval (.tmp 2) = a.eval (.tmp 55) := hf 49 (by decide)
  have h50 : a.eval (.tmp 3) = .int .i64 0 := hf 50 (by decide)
  rw [e4, e10, e14, e18, e22, e42] at h48
  rw [e37] at h42
  exact ⟨⟨b, m, pw, sw, cm, ck, u, q, a.eval (.tmp 9), a.eval (.tmp 40), a.eval (.tmp 47)⟩, h49.trans e48, h50,
    h48, h4, h10, h14, h18, h22, h42, h37, h2, h33, h40, hd 2 (by decide) 33 (by decide) (by decide) (by decide) (by decide), hd 2 (by decide) 40 (by decide) (by decide) (by decide) (by decide), hd 33 (by decide) 40 (by decide) (by decide) (by decide) (by decide), l48, l4, l10, l14, l18, l22, l42, l37⟩
theorem fr_mem {S : St} {vr vi vo : Value} {p : Nat} (j : Nat) : ∀ f, frKd S vr vi vo p j ≠ .mem f := by
  intro f
  unfold frKd
  split <;> simp
set_option maxHeartbeats 1000000 in
theorem from_c (S : St) (ar ai ao : Option Addr) (cr ci co : Nat) (w : World) (hok : S.ok = true) (hr : Byt w (.slice ar S.ram.length cr) S.ram) (hi : Byt w (.slice ai S.inp.length ci) S.inp) (ho : Byt w (.slice ao S.out.length co) S.out)
    (lr : S.ram.length ≤ 140737488355328) (li : S.inp.length ≤ 140737488355328) (lo : S.out.length ≤ 140737488355328) :
    Calls Try.prog 18 #[.agg (stc S (.slice ar S.ram.length cr) (.slice ai S.inp.length ci) (.slice ao S.out.length co))] w fun e w' => ∃ L, e = .returned (.tuple #[pt L.b, .int .i64 0]) ∧ PB w.heap.size L S w' ∧ Below w.heap.size w w' := by
  have hC := canBe_c S ar ai ao cr ci co
  rw [hok] at hC
  have HIN : Hid (∀ w1, Below (w.alloc (.cells (stc S (.slice ar S.ram.length cr) (.slice ai S.inp.length ci) (.slice ao S.out.length co)) 35)).heap.size (w.alloc (.cells (stc S (.slice ar S.ram.length cr) (.slice ai S.inp.length ci) (.slice ao S.out.length co)) 35)) w1 →
      FrIn S (.slice ar S.ram.length cr) (.slice ai S.inp.length ci) (.slice ao S.out.length co) w.heap.size w1 ∧ Below w.heap.size w w1) := by
    intro w1 hb
    have hb0 : Below w.heap.size w w1 := ((Below.refl _ _).alloc (Nat.le_refl _) _).trans (hb.mono (by simp))
    refine ⟨⟨?_, fun j => ?_, hr.later hb0 rfl, hi.later hb0 rfl, ho.later hb0 rfl, lr, li, lo⟩, hb0⟩
    · have := hb.size; simp at this; omega
    · rw [hb.cell (by simp)]
      rw [cell_of_row _ _ _ _ _ _ (alloc_at w _)]
  clear hr hi ho
  unfold stc at hC HIN ⊢
  go_enter Try.func18, Try.ntmps18
  go_wp2_with (go_at_call 40; refine (hC _).mono ?_; rintro e w1 ⟨rfl, hb1⟩)
  obtain ⟨hin, hbel⟩ := HIN.out w1 hb1
  rename_i hK
  refine wp_region_bag (by kernel_rfl) frNeed (fun j => FK w1.heap.size (frKd S (.slice ar S.ram.length cr) (.slice ai S.inp.length ci) (.slice ao S.out.length co) w.heap.size j)) [2, 33, 40] (fun _ => False) 51 w1 w1 _ (by kernel_rfl) (fun k _ _ h => absurd h (Nat.lt_irrefl 51)) (fun j vs w w' _ h hb => FK.mono (fun _ h => h.elim) (fr_mem j) h hb) ?_ (Exk.refl _ _) (fr_step hin (by rfl) _ rfl (by rfl)) ?_
  · intro j hj v vs w' hf g hg
    simp only [List.mem_cons, List.not_mem_nil, or_false] at hj
    rcases hj with rfl | rfl | rfl
    · exact (World.ownsRow.lt (show w'.ownsRow w1.heap.size 5 1 v S.ram.length (bv S.ram) from hf) g hg).2
    · exact (World.ownsRow.lt (show w'.ownsRow w1.heap.size 5 1 v S.inp.length (bv S.inp) from hf) g hg).2
    · exact (World.ownsRow.lt (show w'.ownsRow w1.heap.size 5 1 v S.out.length (bv S.out) from hf) g hg).2
  · intro a w2 hts hdf hold hb2 hf hdis
    have hb2 : Below w1.heap.size w1 w2 := hb2.e.below (Nat.le_refl _) (fun _ h => h.elim)
    obtain ⟨L, e2, e3, hPB⟩ := fr_end (by rfl) a hf hdis
    refine hK a w2 ?_
    refine wp_ret (bodyPost_ret (v := .tuple #[pt L.b, .int .i64 0]) ?_ hdf ?_)
    · rw [← e2, ← e3]
      have e := results_tmp2 (fn := Try.f18) (t := 2) (u := 3) rfl a.tmps Try.prog w2
      rw [e]
      simp [Act.eval]
    · exact ⟨L, rfl, hPB.le hbel.size, hbel.trans (hb2.mono hbel.size)⟩
end Go.Proofs.Ytgblpjkpeihpeaa

namespace Go.Proofs.Ytgblpjkpeihpeaa
set_option linter.unusedVariables false
open Go.ChangeShapes Go.WideShapes Go.ChangeAt Go.RowKit Go.Deep Go.MuLone
theorem own_ne_row {w : World} {B n T : Nat} {v : Value} {xs : List Value} {q : Nat} {cs : Array Value} {fr : Nat × Nat} (h : w.ownsRow B 5 1 v n xs) (hq : w.heap[q]? = some (.cells cs T fr)) (hT : T ≠ 5) : ∀ g, v.ownBlock = some g → g ≠ q := by
  intro g hg e
  subst e
  obtain ⟨c, fz, h1⟩ := Go.Lib.ownsRow_kind h g hg
  rw [hq] at h1
  simp at h1
  exact hT h1.2.1
theorem ownBlock_slice {v : Value} {g off n c : Nat} (h : v = .slice (some ⟨g, off, none⟩) n c) : v.ownBlock = some g := by subst h; rfl
/-- The first cell of a row written and written back. -/
theorem below_back {w w1 w2 w3 : World} {q : Nat} {x y : Value} {cs : Array Value} {T : TypeId} (hq : w.heap[q]? = some (.cells cs T (0, 0))) (hx : cs[0]? = some x) (h1 : w1 = w.setCell ⟨q, 0, none⟩ y) (h2 : Below w1.heap.size w1 w2) (h3 : w3 = w2.setCell ⟨q, 0, none⟩ x) : Below w.heap.size w w3 := by
  subst h1 h3
  have hql : q < w.heap.size := (Array.getElem?_eq_some_iff.1 hq).1
  have hsz : (w.setCell ⟨q, 0, none⟩ y).heap.size = w.heap.size := by simp [World.setCell]
  have e1 : (w.setCell ⟨q, 0, none⟩ y).heap[q]? = some (.cells (cs.setIfInBounds 0 y) T (0, 0)) := heap_setCell_same w q 0 cs T y hq
  have e2 : w2.heap[q]? = some (.cells (cs.setIfInBounds 0 y) T (0, 0)) := by rw [h2.block q (by rw [hsz]; exact hql)]; exact e1
  refine ⟨h2.os, h2.tape, h2.output, ?_, fun k hk => ?_⟩
  · have := h2.size; rw [hsz] at this; simpa [World.setCell] using this
  · by_cases e : k = q
    · subst e
      rw [heap_setCell_same w2 k 0 _ T x e2, hq]
      congr 2
      apply Array.ext_getElem?
      intro i
      by_cases hi : i = 0
      · subst hi
        have : 0 < cs.size := (Array.getElem?_eq_some_iff.1 hx).1
        rw [hx]
        simp [this]
      · rw [Array.getElem?_setIfInBounds_ne (by omega), Array.getElem?_setIfInBounds_ne (by omega)]
    · rw [Below.heap_setCell w2 ⟨q, 0, none⟩ x k e, h2.block k (by rw [hsz]; exact hk), Below.heap_setCell w ⟨q, 0, none⟩ y k e]
theorem PB.later {B : Nat} {L : Lay} {S : St} {w w' : World} (h : PB B L S w) (hb : Below w.heap.size w w') : PB B L S w' := by
  have k : ∀ {g : Nat} {o : Obj}, w.heap[g]? = some o → w'.heap[g]? = some o := fun {g o} hg => by rw [hb.block g (Array.getElem?_eq_some_iff.1 hg).1]; exact hg
  exact ⟨k h.hb, k h.hm, k h.hp, k h.hs, k h.hc, k h.hk, k h.hu, k h.hq, own_later h.wr hb rfl, own_later h.wi hb rfl, own_later h.wo hb rfl, h.ri, h.ro, h.io, h.lb, h.lm, h.lp, h.ls, h.lc, h.lk, h.lu, h.lq⟩
/-- The cells of a bus. -/
structure PCb (L : Lay) (S : St) (vr vi vo : Value) (w : World) : Prop where
  b0 : w.cell? ⟨L.b, 0, none⟩ = some (.pointer (some ⟨L.m, 0, none⟩))
  b1 : w.cell? ⟨L.b, 1, none⟩ = some (.pointer (some ⟨L.pw, 0, none⟩))
  b2 : w.cell? ⟨L.b, 2, none⟩ = some (.pointer (some ⟨L.sw, 0, none⟩))
  b3 : w.cell? ⟨L.b, 3, none⟩ = some (.pointer (some ⟨L.cm, 0, none⟩))
  b4 : w.cell? ⟨L.b, 4, none⟩ = some (.pointer (some ⟨L.ck, 0, none⟩))
  b5 : w.cell? ⟨L.b, 5, none⟩ = some (.pointer (some ⟨L.u, 0, none⟩))
  b6 : w.cell? ⟨L.b, 6, none⟩ = some (.bool S.ext)
  b7 : w.cell? ⟨L.b, 7, none⟩ = some (.bool S.soft)
  m0 : w.cell? ⟨L.m, 0, none⟩ = some vr
  p0 : w.cell? ⟨L.pw, 0, none⟩ = some (.int .i64 S.off)
  p1 : w.cell? ⟨L.pw, 1, none⟩ = some (.int .i64 S.code)
  s0 : w.cell? ⟨L.sw, 0, none⟩ = some (.int .u32 S.msip)
  c0 : w.cell? ⟨L.cm, 0, none⟩ = some (.int .u64 33570816)
  c1 : w.cell? ⟨L.cm, 1, none⟩ = some (.int .u64 S.cmp)
  k0 : w.cell? ⟨L.ck, 0, none⟩ = some (.int .u64 33603576)
  k1 : w.cell? ⟨L.ck, 1, none⟩ = some (.int .u64 S.time)
  u0 : w.cell? ⟨L.u, 0, none⟩ = some (.int .u8 S.ier)
  u1 : w.cell? ⟨L.u, 1, none⟩ = some (.int .u8 S.lcr)
  u2 : w.cell? ⟨L.u, 2, none⟩ = some (.int .u8 S.mcr)
  u3 : w.cell? ⟨L.u, 3, none⟩ = some (.int .u8 S.scr)
  u4 : w.cell? ⟨L.u, 4, none⟩ = some (.pointer (some ⟨L.q, 0, none⟩))
  u5 : w.cell? ⟨L.u, 5, none⟩ = some vo
  q2 : w.cell? ⟨L.q, 2, none⟩ = some vi
  q3 : w.cell? ⟨L.q, 3, none⟩ = some (.bool S.ov)
theorem PB.cl {B : Nat} {L : Lay} {S : St} {w : World} (h : PB B L S w) : PCb L S L.vr L.vi L.vo w :=
  ⟨cell_of_row w L.b 0 _ _ _ h.hb, cell_of_row w L.b 1 _ _ _ h.hb, cell_of_row w L.b 2 _ _ _ h.hb, cell_of_row w L.b 3 _ _ _ h.hb, cell_of_row w L.b 4 _ _ _ h.hb, cell_of_row w L.b 5 _ _ _ h.hb, cell_of_row w L.b 6 _ _ _ h.hb, cell_of_row w L.b 7 _ _ _ h.hb,
   cell_of_row w L.m 0 _ _ _ h.hm, cell_of_row w L.pw 0 _ _ _ h.hp, cell_of_row w L.pw 1 _ _ _ h.hp, cell_of_row w L.sw 0 _ _ _ h.hs, cell_of_row w L.cm 0 _ _ _ h.hc, cell_of_row w L.cm 1 _ _ _ h.hc, cell_of_row w L.ck 0 _ _ _ h.hk, cell_of_row w L.ck 1 _ _ _ h.hk,
   cell_of_row w L.u 0 _ _ _ h.hu, cell_of_row w L.u 1 _ _ _ h.hu, cell_of_row w L.u 2 _ _ _ h.hu, cell_of_row w L.u 3 _ _ _ h.hu, cell_of_row w L.u 4 _ _ _ h.hu, cell_of_row w L.u 5 _ _ _ h.hu, cell_of_row w L.q 2 _ _ _ h.hq, cell_of_row w L.q 3 _ _ _ h.hq⟩
/-- A state as new memory. -/
structure Sv (B : Nat) (S : St) (ur ui uo : Value) (w : World) : Prop where
  r : w.ownsRow B 5 1 ur S.ram.length (bv S.ram)
  i : w.ownsRow B 5 1 ui S.inp.length (bv S.inp)
  o : w.ownsRow B 5 1 uo S.out.length (bv S.out)
  ri : ∀ g, ur.ownBlock = some g → ui.ownBlock ≠ some g
  ro : ∀ g, ur.ownBlock = some g → uo.ownBlock ≠ some g
  io : ∀ g, ui.ownBlock = some g → uo.ownBlock ≠ some g
theorem own_apart {w w' : World} {B B' n n' : Nat} {v v' : Value} {xs xs' : List Value} (h : w.ownsRow B 5 1 v n xs) (h' : w'.ownsRow B' 5 1 v' n' xs') (hB : w.heap.size ≤ B') : ∀ g, v.ownBlock = some g → v'.ownBlock ≠ some g := fun g hg hg' => by
  have h1 := (h.lt g hg).2
  have h2 := (h'.lt g hg').1
  omega
theorem PB.exc {B : Nat} {L : Lay} {S : St} {w w' : World} {G : Nat → Prop} (h : PB B L S w) (hb : Exc G w w') (hG : ∀ k, k < w.heap.size → ¬ G k) : PB B L S w' := by
  have k : ∀ {g : Nat} {o : Obj}, w.heap[g]? = some o → w'.heap[g]? = some o := fun {g o} hg => by have hl := (Array.getElem?_eq_some_iff.1 hg).1; rw [hb.block g hl (hG g hl)]; exact hg
  exact ⟨k h.hb, k h.hm, k h.hp, k h.hs, k h.hc, k h.hk, k h.hu, k h.hq, own_exc h.wr hb (fun k hk => hG k (h.wr.lt k hk).2), own_exc h.wi hb (fun k hk => hG k (h.wi.lt k hk).2), own_exc h.wo hb (fun k hk => hG k (h.wo.lt k hk).2), h.ri, h.ro, h.io, h.lb, h.lm, h.lp, h.ls, h.lc, h.lk, h.lu, h.lq⟩
theorem stSize : (Try.prog.info? 35).map (·.size) = some 15 := by kernel_rfl
theorem stOne (S : St) {ar ai ao : Option Addr} {nr ni no cr ci co : Nat} : (stc S (.slice ar nr cr) (.slice ai ni ci) (.slice ao no co)).all (·.oneCell') = true := by
  unfold stc
  simp [Value.oneCell']
end Go.Proofs.Ytgblpjkpeihpeaa
