import Derived.Test.YtddlmenfcbjoaaaGreatDoorK22
namespace Go.Proofs.YtddlmenfcbjoaaaGreatDoor
set_option linter.unusedVariables false
set_option maxRecDepth 100000
set_option maxHeartbeats 8000000
open Go.ChangeShapes Go.WideShapes Go.ChangeAt Go.RowKit Go.Deep _root_.Go.Proofs.Tryz
theorem mF {g : Nat} {w : World} {k : Wk} (h : Row w g (wkc k) 74) (c : Cp) : w.there g 82 (cpc c).size := h.there (by rw [aE, iG]; omega)
theorem ML {B g n n2 s : Nat} {L : Lay} {S : St} {w : World} {k : Wk} (h : Pre B L S w g k) (h1 : k.i.r1 = (n : Int)) (hn : n < 32) (h2 : k.i.r2 = (n2 : Int)) (hn2 : n2 < 32) (hsz : k.sz = (s : Int)) (hs1 : 0 < s) (hs8 : s ≤ 8) :
  Calls prog 65 #[.pointer (some ⟨g, 0, none⟩)] w fun e w' => Ret B L w g (PL S (wS L.b (PR k.k) (k.p.x n + iB k.i.im)) s (some fun _ => k.p.x n2)).t (PL S (wS L.b (PR k.k) (k.p.x n + iB k.i.im)) s (some fun _ => k.p.x n2)).S ({ k with k := stK (PR k.k) (PL S (wS L.b (PR k.k) (k.p.x n + iB k.i.im)) s (some fun _ => k.p.x n2)) (k.p.x n + iB k.i.im) s, d := { k.d with me := 2, ad := k.p.x n + iB k.i.im, sz := (s : Int), da := loV (k.p.x n2) s } }) (.tuple #[]) e w' := by
 have HF : Hid (∀ W, Row W g (wkc k) 74 → Calls prog 90 #[.pointer (some ⟨g, 0, none⟩)] W fun e w' => e = .returned (.int .u64 (n64 (k.p.x n))) ∧ Below W.heap.size W w') := fun W h => dX h h1 hn
 have HS : Hid (∀ W, Row W g (wkc k) 74 → Calls prog 92 #[.pointer (some ⟨g, 0, none⟩)] W fun e w' => e = .returned (.int .u64 (n64 (k.p.x n2))) ∧ Below W.heap.size W w') := fun W h => fO h h2 hn2
 have HI : Hid (∀ W, Row W g (wkc k) 74 → Calls prog 88 #[.pointer (some ⟨g, 0, none⟩)] W fun e w' => e = .returned (.int .u64 (n64 (iB k.i.im))) ∧ w' = W) := fun W h => dO h
 have e1 : IntKind.u64.wrap (n64 (k.p.x n) + n64 (iB k.i.im)) = n64 (k.p.x n + iB k.i.im) := dA _ _
 have HL : Hid (∀ W L1, PB B L1 S W → L1.b = L.b → Tb W → Calls prog 95 #[.agg (cpc k.k), .pointer (some ⟨L.b, 0, none⟩), .int .u64 (n64 (k.p.x n + iB k.i.im)), .int .i64 (s : Int), .int .u64 (n64 (k.p.x n2))] W fun e w' => e = .returned (.tuple #[.agg (cpc (stK (PR k.k) (PL S (wS L.b (PR k.k) (k.p.x n + iB k.i.im)) s (some fun _ => k.p.x n2)) (k.p.x n + iB k.i.im) s)), .agg (tpc (PL S (wS L.b (PR k.k) (k.p.x n + iB k.i.im)) s (some fun _ => k.p.x n2)).t)]) ∧ ∃ L', PSt B L1 W L' (PL S (wS L.b (PR k.k) (k.p.x n + iB k.i.im)) s (some fun _ => k.p.x n2)).S w') := fun W L1 hp hb ht => by
  have q := EW W hp h.s ht h.hB k.k (k.p.x n + iB k.i.im) s (k.p.x n2)
  rw [hb] at q
  exact q
 have HP := hid h
 obtain ⟨c, hc⟩ : ∃ c, c = (stK (PR k.k) (PL S (wS L.b (PR k.k) (k.p.x n + iB k.i.im)) s (some fun _ => k.p.x n2)) (k.p.x n + iB k.i.im) s) := ⟨_, rfl⟩
 rw [← hc] at HL ⊢
 clear hc
 generalize PL S (wS L.b (PR k.k) (k.p.x n + iB k.i.im)) s (some fun _ => k.p.x n2) = m at HL ⊢
 generalize k.p.x n + iB k.i.im = ad at e1 HL ⊢
 clear h
 go_enter func65, ntmps65
 go_upto_region 1 with (first | (go_at_call 90; refine (HF.out _ HP.out.r).mono ?_; rintro e w1 ⟨rfl, hb⟩; have HB := hid hb; clear hb) | (go_at_call 88; refine (HI.out _ (HP.out.later HB.out).r).mono ?_; rintro e w2 ⟨rfl, hw⟩; have hw2 := hw.symm; subst hw2))
 have HP1 : Hid (Pre B L S w1 g k) := HP.out.later HB.out
 have hbb := HP1.out.bb
 have hlt : g < w1.heap.size := HP1.out.r.lt
 have HC : Hid (∀ w9 L9, Jw B L w1 S m.S g (wkc k) 74 L9 false w9 → Calls prog 95 #[.agg (cpc k.k), .pointer (some ⟨L.b, 0, none⟩), .int .u64 (n64 ad), .int .i64 (s : Int), .int .u64 (n64 (k.p.x n2))] w9 fun e w' => e = .returned (.tuple #[.agg (cpc c), .agg (tpc m.t)]) ∧ ∃ L', Jw B L w1 S m.S g (wkc k) 74 L' true w' ∧ Fr L9 w9 L' w') := fun w9 L9 hJ => by
  refine (HL.out w9 L9 hJ.p.p hJ.p.b.1 (hJ.p.tb HP1.out.t HP1.out.hB HP1.out.p)).mono ?_
  rintro e w' ⟨rfl, L', hp⟩
  exact ⟨rfl, L', hJ.call hp⟩
 refine dH (by kernel_rfl) (fun i => ([[], [0], [1], [2], [], [4], [5], [6], [], [], [9], [10], [11], [], [13], [3, 7, 8, 12, 14], [15], [16], [16], [], [], [19, 17], [20, 18]] : List (List Nat)).getD i []) (fun i => ([some (.pointer (some ⟨g, 0, none⟩)), some (.pointer (some ⟨g, 0, none⟩)), some (.pointer (some ⟨g, 82, none⟩)), some (.agg (cpc k.k)), some (.pointer (some ⟨g, 0, none⟩)), some (.pointer (some ⟨g, 0, none⟩)), some (.pointer (some ⟨g, 164, none⟩)), some (.pointer (some ⟨L.b, 0, none⟩)), some (.int .u64 (n64 ad)), some (.pointer (some ⟨g, 0, none⟩)), some (.pointer (some ⟨g, 0, none⟩)), some (.pointer (some ⟨g, 174, none⟩)), some (.int .i64 (s : Int)), some (.pointer (some ⟨g, 0, none⟩)), some (.int .u64 (n64 (k.p.x n2))), some (.tuple #[.agg (cpc c), .agg (tpc m.t)]), some (.tuple #[.agg (cpc c), .agg (tpc m.t)]), some (.agg (cpc c)), some (.agg (tpc m.t)), none, none, none, none] : List (Option Value)).getD i none) [⟨19, 21, 17, 31, cpc cz, cpc c⟩, ⟨20, 22, 18, 42, tpc tN, tpc m.t⟩] 15 w1.heap.size (Jw B L w1 S m.S g (wkc k) 74) _ w1 (by kernel_rfl) (by kernel_rfl) ?_ L (⟨(PSt.refl HP1.out.p).post (ZqD _ _).drew, HP1.out.r.later (ZqD _ _).drew HP1.out.r.lt, HP1.out.n⟩) rfl (by decide) ?_ (fun L b w w' h hb => h.later hb) (fun L b w q cs h hq hb => h.put hlt hq hb cs) (fun L b w q h hq => h.own hq) (hO ⟨?_, ?_, ?_, ?_, ?_, ?_, ?_, ?_, ?_, ?_, ?_, ?_, ?_, ?_, ?_, ?_, ?_, ?_, ?_, ?_, ?_, ?_, ?_, trivial⟩) ?_
 ·intro p hp q hq e
  rcases List.mem_cons.1 hp with rfl | hp
  ·rcases List.mem_cons.1 hq with rfl | hq
   ·rfl
   ·rw [List.mem_singleton.1 hq] at e; exact absurd (show (19 : Nat) = 20 from e) (by decide)
  ·rw [List.mem_singleton.1 hp] at e ⊢
   rcases List.mem_cons.1 hq with rfl | hq
   ·exact absurd (show (20 : Nat) = 19 from e) (by decide)
   ·rw [List.mem_singleton.1 hq]
 ·intro q hq
  rcases List.mem_cons.1 hq with rfl | hq
  ·exact ⟨(by show 19 < _; decide), (by show 21 < _; decide)⟩
  ·rw [List.mem_singleton.1 hq]
   exact ⟨(by show 20 < _; decide), (by show 22 < _; decide)⟩
 ·exact opn_old _ (.pointer (some ⟨g, 0, none⟩)) 0 rfl rfl (by simp) rfl (by decide) (by kernel_rfl) rfl (fun ρ w9 L9 b9 q hJ => by simp [execOp, q, go_sem])
 ·exact opn_new _ _ 11 0 rfl rfl (by simp) rfl (by decide) (by decide) rfl (fun _ => rfl) (fun ρ w9 L9 b9 q hJ => by simp [execOp, q, go_sem])
 ·exact opn_new _ _ 12 1 rfl rfl (by simp) rfl (by decide) (by decide) rfl (fun _ => rfl) (fun ρ w9 L9 b9 q hJ => by simp [execOp, q, go_sem])
 ·exact opn_new _ _ 13 2 rfl rfl (by simp) rfl (by decide) (by decide) rfl (fun _ => rfl) (fun ρ w9 L9 b9 q hJ => by have hl := iU (P := prog) 31 g 82 (cpc k.k) _ w9 hJ.r.kls.kk underlying31 (by rfl) (aB _); simp only [execOp, q]; exact hl)
 ·exact opn_old _ (.pointer (some ⟨g, 0, none⟩)) 0 rfl rfl (by simp) rfl (by decide) (by kernel_rfl) rfl (fun ρ w9 L9 b9 q hJ => by simp [execOp, q, go_sem])
 ·exact opn_new _ _ 15 4 rfl rfl (by simp) rfl (by decide) (by decide) rfl (fun _ => rfl) (fun ρ w9 L9 b9 q hJ => by simp [execOp, q, go_sem])
 ·exact opn_new _ _ 16 5 rfl rfl (by simp) rfl (by decide) (by decide) rfl (fun _ => rfl) (fun ρ w9 L9 b9 q hJ => by simp [execOp, q, go_sem])
 ·exact opn_new _ _ 17 6 rfl rfl (by simp) rfl (by decide) (by decide) rfl (fun _ => rfl) (fun ρ w9 L9 b9 q hJ => by have hl := hJ.r.kls.b; rw [hbb] at hl; simp [execOp, q, hl, go_sem])
 ·exact opn_old _ (.int .u64 (n64 ad)) 2 rfl rfl (by simp) rfl (by decide) (by kernel_rfl) rfl (fun ρ w9 L9 b9 q hJ => by simp [execOp, q, go_sem])
 ·exact opn_old _ (.pointer (some ⟨g, 0, none⟩)) 0 rfl rfl (by simp) rfl (by decide) (by kernel_rfl) rfl (fun ρ w9 L9 b9 q hJ => by simp [execOp, q, go_sem])
 ·exact opn_new _ _ 20 9 rfl rfl (by simp) rfl (by decide) (by decide) rfl (fun _ => rfl) (fun ρ w9 L9 b9 q hJ => by simp [execOp, q, go_sem])
 ·exact opn_new _ _ 21 10 rfl rfl (by simp) rfl (by decide) (by decide) rfl (fun _ => rfl) (fun ρ w9 L9 b9 q hJ => by simp [execOp, q, go_sem])
 ·exact opn_new _ _ 22 11 rfl rfl (by simp) rfl (by decide) (by decide) rfl (fun _ => rfl) (fun ρ w9 L9 b9 q hJ => by have hl := hJ.r.kls.sz; rw [hsz] at hl; simp [execOp, q, hl, go_sem])
 ·exact opn_old _ (.pointer (some ⟨g, 0, none⟩)) 0 rfl rfl (by simp) rfl (by decide) (by kernel_rfl) rfl (fun ρ w9 L9 b9 q hJ => by simp [execOp, q, go_sem])
 ·refine gH (.int .u64 (n64 (k.p.x n2))) 92 #[.pointer (some ⟨g, 0, none⟩)] rfl rfl (by simp) rfl (by decide) (fun a w9 L9 b9 ho hn hJ => ?_) (fun w9 L9 b9 hJ => ?_)
  ·
   have q0 : a.eval (.tmp 24) = .pointer (some ⟨g, 0, none⟩) := hn 13 (by decide) _ rfl
   have hf : a.eval (.func 92) = .func (.func 92) #[] #[] := rfl
   clear ho hn
   generalize a.eval = ρ at *
   simp [execOp, q0, hf, go_sem]
  ·exact HS.out w9 hJ.r
 ·refine iA (.tuple #[.agg (cpc c), .agg (tpc m.t)]) 95 #[.agg (cpc k.k), .pointer (some ⟨L.b, 0, none⟩), .int .u64 (n64 ad), .int .i64 (s : Int), .int .u64 (n64 (k.p.x n2))] rfl rfl (by simp) rfl rfl (fun a w9 L9 ho hn hJ => ?_) (fun w9 L9 hJ => ?_)
  ·
   have q0 : a.eval (.tmp 14) = .agg (cpc k.k) := hn 3 (by decide) _ rfl
   have q1 : a.eval (.tmp 18) = .pointer (some ⟨L.b, 0, none⟩) := hn 7 (by decide) _ rfl
   have q2 : a.eval (.tmp 19) = .int .u64 (n64 ad) := hn 8 (by decide) _ rfl
   have q3 : a.eval (.tmp 23) = .int .i64 (s : Int) := hn 12 (by decide) _ rfl
   have q4 : a.eval (.tmp 25) = .int .u64 (n64 (k.p.x n2)) := hn 14 (by decide) _ rfl
   have hf : a.eval (.func 95) = .func (.func 95) #[] #[] := rfl
   clear ho hn
   generalize a.eval = ρ at *
   simp [execOp, q0, q1, q2, q3, q4, hf, go_sem]
  ·
   exact HC.out w9 L9 hJ
 ·exact opn_new _ _ 26 15 rfl rfl (by simp) rfl (by decide) (by decide) rfl (fun _ => rfl) (fun ρ w9 L9 b9 q hJ => by simp [execOp, q, go_sem])
 ·exact opn_new _ _ 10 16 rfl rfl (by simp) rfl (by decide) (by decide) rfl (fun _ => rfl) (fun ρ w9 L9 b9 q hJ => by simp [execOp, q, go_sem])
 ·exact opn_new _ _ 10 16 rfl rfl (by simp) rfl (by decide) (by decide) rfl (fun _ => rfl) (fun ρ w9 L9 b9 q hJ => by simp [execOp, q, go_sem])
 ·refine eM ⟨19, 21, 17, 31, cpc cz, cpc c⟩ rfl rfl (by simp) (by simp) rfl (fun a w9 => ?_)
  have hz := cC w9
  generalize a.eval = ρ
  simp [execOp, go_sem, hz, ptr]
 ·refine eM ⟨20, 22, 18, 42, tpc tN, tpc m.t⟩ rfl rfl (by simp) (by simp) rfl (fun a w9 => ?_)
  have hz := bU w9
  generalize a.eval = ρ
  simp [execOp, go_sem, hz, ptr]
 ·exact dE ⟨19, 21, 17, 31, cpc cz, cpc c⟩ (.tmp 3) (.tmp 27) rfl rfl rfl (by simp) rfl rfl ⟨(by show (19 : Nat) ∈ [19, 17]; decide), (by show (17 : Nat) ∈ [19, 17]; decide)⟩ rfl (fun a => rfl) (fun a => rfl) (aB _) (by rw [aE, aE]) (aO _)
 ·exact dE ⟨20, 22, 18, 42, tpc tN, tpc m.t⟩ (.tmp 4) (.tmp 28) rfl rfl rfl (by simp) rfl rfl ⟨(by show (20 : Nat) ∈ [20, 18]; decide), (by show (18 : Nat) ∈ [20, 18]; decide)⟩ rfl (fun a => rfl) (fun a => rfl) (aD _) (bC _ _) (aN _)
 ·intro W9 L9 pg hJ hrow hdis
  have hr1 := (hrow _ (List.mem_cons_self ..)).1
  have hr2 := (hrow _ (List.mem_cons_of_mem _ (List.mem_cons_self ..))).1
  simp only [dW, Act.put, List.getD_cons_zero, List.getD_cons_succ, Option.getD_some, Option.getD_none, ZqA, ZqB, ZqC]
  simp only [Nat.reduceAdd, ptr]
  simp only at hr1 hr2
  generalize pg 19 = gc at hr1 ⊢
  generalize pg 20 = gt at hr2 ⊢
  have HG : Hid (Row W9 gc (cpc c) 31) := hr1
  have HT : Hid (Row W9 gt (tpc m.t) 42) := hr2
  have HJ : Hid (Jw B L w1 S m.S g (wkc k) 74 L9 true W9) := hJ
  have HSZ := hid hsz
  clear hbb hsz hrow hdis hJ hr1 hr2 HC HL HF HS HI
  have HB1 : Hid (Bst B L w g L9 m.S W9) := (Bst.later HP.out.p HB.out).trans HP.out.r.lt (Bst.of_pst HJ.out.p)
  cases ht : m.t.is with
  | true =>
   go_wp2_with (first | (refine wpList_load_row (by rfl) _ _ (by rfl) _ (by rfl) 42 _ (0, 0) _ HT.out underlying42 (by rfl) (aD _) ?_) | (go_at_call 96; refine (nD _ m.t ht _).mono ?_))
   rintro e w' hp
   obtain ⟨rfl, hb⟩ := hp
   exact ⟨rfl, L9, HB1.out.trans HP.out.r.lt (Bst.later HB1.out.p hb), HJ.out.n, .inl ⟨ht, rfl⟩⟩
  | false =>
   go_upto_region 4 with (first | (refine wpList_load_row (by rfl) _ _ (by rfl) _ (by rfl) 42 _ (0, 0) _ HT.out underlying42 (by rfl) (aD _) ?_) | (go_at_call 96; refine (nE _ m.t ht _).mono ?_; rintro e w4 ⟨rfl, hb4⟩; have HB4 := hid hb4; have HK4 : Hid (Mk g W9 w4 k) := Mk.later HJ.out.r hb4; have HG4 : Hid (Row w4 gc (cpc c) 31) := HG.out.later hb4 HG.out.lt; clear hb4) | (refine wpList_load_row (by rfl) _ _ (by rfl) _ (by rfl) 31 _ (0, 0) _ HG4.out underlying31 (by rfl) (aB _) ?_) | (refine aX (by rfl) 31 _ _ (by rfl) (by rfl) g 82 (cpc c) (by rfl) (by rfl) (mF HK4.out.r c) (aB _) (aO _) ?_))
   refine kB (motive := fun W => Code.wp _ _ _ _ W) (Q := fun W => Mk g W9 W { k with k := c }) (HK4.out.row c) ?_
   clear HK4 HG4 HB4 HT HG
   rintro W6 m6
   have HK6 := hid m6
   clear m6
   have HF6 : Hid (∀ W, Row W g (wkc { k with k := c }) 74 → Calls prog 90 #[.pointer (some ⟨g, 0, none⟩)] W fun e w' => e = .returned (.int .u64 (n64 (k.p.x n))) ∧ Below W.heap.size W w') := fun W h => dX (k := { k with k := c }) h h1 hn
   have HS6 : Hid (∀ W, Row W g (wkc { k with k := c }) 74 → Calls prog 92 #[.pointer (some ⟨g, 0, none⟩)] W fun e w' => e = .returned (.int .u64 (n64 (k.p.x n2))) ∧ Below W.heap.size W w') := fun W h => fO (k := { k with k := c }) h h2 hn2
   go_wp2_with (first | (go_at_call 92; refine (HS6.out _ HK6.out.r).mono ?_; rintro e w6 ⟨rfl, hb6⟩; have HK6' := Hid.mk' (HK6.out.trans (Mk.later HK6.out.r hb6)); clear HK6 hb6; have HK6 := HK6'; clear HK6') | (go_at_call 97; refine (nF HK6.out.r HSZ.out hs1 hs8 2 (ad) (k.p.x n2)).mono ?_; rintro e w7 ⟨rfl, hm7⟩; have HK7 := Hid.mk' hm7; clear hm7))
   first | go_end0 | refine ZqH (results_none rfl _ _ _) rfl ?_
   exact ⟨L9, HB1.out.trans HP.out.r.lt (Bst.of_mk HB1.out.p HJ.out.n (HK6.out.x.trans HK7.out.x)), HJ.out.n, .inr ⟨ht, rfl, HK7.out.r⟩⟩
theorem zD {B g n s : Nat} {L : Lay} {S : St} {w : World} {k : Wk} (h : Pre B L S w g k) (h1 : k.i.r1 = (n : Int)) (hn : n < 32) (hrd : 0 ≤ k.i.rd ∧ k.i.rd < 32) (hsz : k.sz = (s : Int)) (hs1 : 0 < s) (hs8 : s ≤ 8) :
  Calls prog 76 #[.pointer (some ⟨g, 0, none⟩)] w fun e w' => Ret B L w g (AT S (wL L.b (PR k.k) (k.p.x n)) s none).t (AT S (wL L.b (PR k.k) (k.p.x n)) s none).S (ptK { k with k := rsK (PR k.k) (AT S (wL L.b (PR k.k) (k.p.x n)) s none) (k.p.x n) s, d := { k.d with me := 1, ad := k.p.x n, sz := (s : Int), da := loV 0#64 s } } (exV (AT S (wL L.b (PR k.k) (k.p.x n)) s none).old s)) (.tuple #[]) e w' := by
 have HF : Hid (∀ W, Row W g (wkc k) 74 → Calls prog 90 #[.pointer (some ⟨g, 0, none⟩)] W fun e w' => e = .returned (.int .u64 (n64 (k.p.x n))) ∧ Below W.heap.size W w') := fun W h => dX h h1 hn
 have HL : Hid (∀ W L1, PB B L1 S W → L1.b = L.b → Tb W → Calls prog 104 #[.agg (cpc k.k), .pointer (some ⟨L.b, 0, none⟩), .int .u64 (n64 (k.p.x n)), .int .i64 (s : Int)] W fun e w' => e = .returned (.tuple #[.int .u64 (n64 (AT S (wL L.b (PR k.k) (k.p.x n)) s none).old), .agg (cpc (rsK (PR k.k) (AT S (wL L.b (PR k.k) (k.p.x n)) s none) (k.p.x n) s)), .agg (tpc (AT S (wL L.b (PR k.k) (k.p.x n)) s none).t)]) ∧ ∃ L', PSt B L1 W L' (AT S (wL L.b (PR k.k) (k.p.x n)) s none).S w') := fun W L1 hp hb ht => by
  have q := xH W hp h.s ht h.hB k.k (k.p.x n) s
  rw [hb] at q
  exact q
 have HP := hid h
 obtain ⟨c, hc⟩ : ∃ c, c = (rsK (PR k.k) (AT S (wL L.b (PR k.k) (k.p.x n)) s none) (k.p.x n) s) := ⟨_, rfl⟩
 rw [← hc] at HL ⊢
 clear hc
 generalize AT S (wL L.b (PR k.k) (k.p.x n)) s none = m at HL ⊢
 clear h
 go_enter func76, ntmps76
 obtain ⟨w1, hw1⟩ : ∃ w1, w1 = w := ⟨w, rfl⟩
 have HB : Hid (Below w.heap.size w w1) := by rw [hw1]; exact ZqD _ _
 go_upto_region 0 with fail
 rw [← hw1]
 have HP1 : Hid (Pre B L S w1 g k) := HP.out.later HB.out
 have hbb := HP1.out.bb
 have hlt : g < w1.heap.size := HP1.out.r.lt
 have HC : Hid (∀ w9 L9, Jw B L w1 S m.S g (wkc k) 74 L9 false w9 → Calls prog 104 #[.agg (cpc k.k), .pointer (some ⟨L.b, 0, none⟩), .int .u64 (n64 (k.p.x n)), .int .i64 (s : Int)] w9 fun e w' => e = .returned (.tuple #[.int .u64 (n64 m.old), .agg (cpc c), .agg (tpc m.t)]) ∧ ∃ L', Jw B L w1 S m.S g (wkc k) 74 L' true w' ∧ Fr L9 w9 L' w') := fun w9 L9 hJ => by
  refine (HL.out w9 L9 hJ.p.p hJ.p.b.1 (hJ.p.tb HP1.out.t HP1.out.hB HP1.out.p)).mono ?_
  rintro e w' ⟨rfl, L', hp⟩
  exact ⟨rfl, L', hJ.call hp⟩
 refine dH (by kernel_rfl) (fun i => ([[], [0], [1], [2], [], [4], [5], [6], [], [8], [], [10], [11], [12], [3, 7, 9, 13], [14], [15], [15], [15], [], [], [16], [19, 17], [20, 18]] : List (List Nat)).getD i []) (fun i => ([some (.pointer (some ⟨g, 0, none⟩)), some (.pointer (some ⟨g, 0, none⟩)), some (.pointer (some ⟨g, 82, none⟩)), some (.agg (cpc k.k)), some (.pointer (some ⟨g, 0, none⟩)), some (.pointer (some ⟨g, 0, none⟩)), some (.pointer (some ⟨g, 164, none⟩)), some (.pointer (some ⟨L.b, 0, none⟩)), some (.pointer (some ⟨g, 0, none⟩)), some (.int .u64 (n64 (k.p.x n))), some (.pointer (some ⟨g, 0, none⟩)), some (.pointer (some ⟨g, 0, none⟩)), some (.pointer (some ⟨g, 174, none⟩)), some (.int .i64 (s : Int)), some (.tuple #[.int .u64 (n64 m.old), .agg (cpc c), .agg (tpc m.t)]), some (.tuple #[.int .u64 (n64 m.old), .agg (cpc c), .agg (tpc m.t)]), some (.int .u64 (n64 m.old)), some (.agg (cpc c)), some (.agg (tpc m.t)), none, none, some (.int .u64 (n64 m.old)), none, none] : List (Option Value)).getD i none) [⟨19, 22, 17, 31, cpc cz, cpc c⟩, ⟨20, 23, 18, 42, tpc tN, tpc m.t⟩] 14 w1.heap.size (Jw B L w1 S m.S g (wkc k) 74) _ w1 (by kernel_rfl) (by kernel_rfl) ?_ L (⟨(PSt.refl HP1.out.p).post (ZqD _ _).drew, HP1.out.r.later (ZqD _ _).drew HP1.out.r.lt, HP1.out.n⟩) rfl (by decide) ?_ (fun L b w w' h hb => h.later hb) (fun L b w q cs h hq hb => h.put hlt hq hb cs) (fun L b w q h hq => h.own hq) (hO ⟨?_, ?_, ?_, ?_, ?_, ?_, ?_, ?_, ?_, ?_, ?_, ?_, ?_, ?_, ?_, ?_, ?_, ?_, ?_, ?_, ?_, ?_, ?_, ?_, trivial⟩) ?_
 ·intro p hp q hq e
  rcases List.mem_cons.1 hp with rfl | hp
  ·rcases List.mem_cons.1 hq with rfl | hq
   ·rfl
   ·rw [List.mem_singleton.1 hq] at e; exact absurd (show (19 : Nat) = 20 from e) (by decide)
  ·rw [List.mem_singleton.1 hp] at e ⊢
   rcases List.mem_cons.1 hq with rfl | hq
   ·exact absurd (show (20 : Nat) = 19 from e) (by decide)
   ·rw [List.mem_singleton.1 hq]
 ·intro q hq
  rcases List.mem_cons.1 hq with rfl | hq
  ·exact ⟨(by show 19 < _; decide), (by show 22 < _; decide)⟩
  ·rw [List.mem_singleton.1 hq]
   exact ⟨(by show 20 < _; decide), (by show 23 < _; decide)⟩
 ·exact opn_old _ (.pointer (some ⟨g, 0, none⟩)) 0 rfl rfl (by simp) rfl (by decide) (by kernel_rfl) rfl (fun ρ w9 L9 b9 q hJ => by simp [execOp, q, go_sem])
 ·exact opn_new _ _ 6 0 rfl rfl (by simp) rfl (by decide) (by decide) rfl (fun _ => rfl) (fun ρ w9 L9 b9 q hJ => by simp [execOp, q, go_sem])
 ·exact opn_new _ _ 7 1 rfl rfl (by simp) rfl (by decide) (by decide) rfl (fun _ => rfl) (fun ρ w9 L9 b9 q hJ => by simp [execOp, q, go_sem])
 ·exact opn_new _ _ 8 2 rfl rfl (by simp) rfl (by decide) (by decide) rfl (fun _ => rfl) (fun ρ w9 L9 b9 q hJ => by have hl := iU (P := prog) 31 g 82 (cpc k.k) _ w9 hJ.r.kls.kk underlying31 (by rfl) (aB _); simp only [execOp, q]; exact hl)
 ·exact opn_old _ (.pointer (some ⟨g, 0, none⟩)) 0 rfl rfl (by simp) rfl (by decide) (by kernel_rfl) rfl (fun ρ w9 L9 b9 q hJ => by simp [execOp, q, go_sem])
 ·exact opn_new _ _ 10 4 rfl rfl (by simp) rfl (by decide) (by decide) rfl (fun _ => rfl) (fun ρ w9 L9 b9 q hJ => by simp [execOp, q, go_sem])
 ·exact opn_new _ _ 11 5 rfl rfl (by simp) rfl (by decide) (by decide) rfl (fun _ => rfl) (fun ρ w9 L9 b9 q hJ => by simp [execOp, q, go_sem])
 ·exact opn_new _ _ 12 6 rfl rfl (by simp) rfl (by decide) (by decide) rfl (fun _ => rfl) (fun ρ w9 L9 b9 q hJ => by have hl := hJ.r.kls.b; rw [hbb] at hl; simp [execOp, q, hl, go_sem])
 ·exact opn_old _ (.pointer (some ⟨g, 0, none⟩)) 0 rfl rfl (by simp) rfl (by decide) (by kernel_rfl) rfl (fun ρ w9 L9 b9 q hJ => by simp [execOp, q, go_sem])
 ·refine gH (.int .u64 (n64 (k.p.x n))) 90 #[.pointer (some ⟨g, 0, none⟩)] rfl rfl (by simp) rfl (by decide) (fun a w9 L9 b9 ho hn hJ => ?_) (fun w9 L9 b9 hJ => ?_)
  ·
   have q0 : a.eval (.tmp 14) = .pointer (some ⟨g, 0, none⟩) := hn 8 (by decide) _ rfl
   have hf : a.eval (.func 90) = .func (.func 90) #[] #[] := rfl
   clear ho hn
   generalize a.eval = ρ at *
   simp [execOp, q0, hf, go_sem]
  ·exact HF.out w9 hJ.r
 ·exact opn_old _ (.pointer (some ⟨g, 0, none⟩)) 0 rfl rfl (by simp) rfl (by decide) (by kernel_rfl) rfl (fun ρ w9 L9 b9 q hJ => by simp [execOp, q, go_sem])
 ·exact opn_new _ _ 16 10 rfl rfl (by simp) rfl (by decide) (by decide) rfl (fun _ => rfl) (fun ρ w9 L9 b9 q hJ => by simp [execOp, q, go_sem])
 ·exact opn_new _ _ 17 11 rfl rfl (by simp) rfl (by decide) (by decide) rfl (fun _ => rfl) (fun ρ w9 L9 b9 q hJ => by simp [execOp, q, go_sem])
 ·exact opn_new _ _ 18 12 rfl rfl (by simp) rfl (by decide) (by decide) rfl (fun _ => rfl) (fun ρ w9 L9 b9 q hJ => by have hl := hJ.r.kls.sz; rw [hsz] at hl; simp [execOp, q, hl, go_sem])
 ·refine iA (.tuple #[.int .u64 (n64 m.old), .agg (cpc c), .agg (tpc m.t)]) 104 #[.agg (cpc k.k), .pointer (some ⟨L.b, 0, none⟩), .int .u64 (n64 (k.p.x n)), .int .i64 (s : Int)] rfl rfl (by simp) rfl rfl (fun a w9 L9 ho hn hJ => ?_) (fun w9 L9 hJ => ?_)
  ·
   have q0 : a.eval (.tmp 9) = .agg (cpc k.k) := hn 3 (by decide) _ rfl
   have q1 : a.eval (.tmp 13) = .pointer (some ⟨L.b, 0, none⟩) := hn 7 (by decide) _ rfl
   have q2 : a.eval (.tmp 15) = .int .u64 (n64 (k.p.x n)) := hn 9 (by decide) _ rfl
   have q3 : a.eval (.tmp 19) = .int .i64 (s : Int) := hn 13 (by decide) _ rfl
   have hf : a.eval (.func 104) = .func (.func 104) #[] #[] := rfl
   clear ho hn
   generalize a.eval = ρ at *
   simp [execOp, q0, q1, q2, q3, hf, go_sem]
  ·
   exact HC.out w9 L9 hJ
 ·exact opn_new _ _ 20 14 rfl rfl (by simp) rfl (by decide) (by decide) rfl (fun _ => rfl) (fun ρ w9 L9 b9 q hJ => by simp [execOp, q, go_sem])
 ·exact opn_new _ _ 5 15 rfl rfl (by simp) rfl (by decide) (by decide) rfl (fun _ => rfl) (fun ρ w9 L9 b9 q hJ => by simp [execOp, q, go_sem])
 ·exact opn_new _ _ 5 15 rfl rfl (by simp) rfl (by decide) (by decide) rfl (fun _ => rfl) (fun ρ w9 L9 b9 q hJ => by simp [execOp, q, go_sem])
 ·exact opn_new _ _ 5 15 rfl rfl (by simp) rfl (by decide) (by decide) rfl (fun _ => rfl) (fun ρ w9 L9 b9 q hJ => by simp [execOp, q, go_sem])
 ·refine eM ⟨19, 22, 17, 31, cpc cz, cpc c⟩ rfl rfl (by simp) (by simp) rfl (fun a w9 => ?_)
  have hz := cC w9
  generalize a.eval = ρ
  simp [execOp, go_sem, hz, ptr]
 ·refine eM ⟨20, 23, 18, 42, tpc tN, tpc m.t⟩ rfl rfl (by simp) (by simp) rfl (fun a w9 => ?_)
  have hz := bU w9
  generalize a.eval = ρ
  simp [execOp, go_sem, hz, ptr]
 ·exact opn_new _ _ 21 16 rfl rfl (by simp) rfl (by decide) (by decide) rfl (fun _ => rfl) (fun ρ w9 L9 b9 q hJ => by simp [execOp, q, go_sem])
 ·exact dE ⟨19, 22, 17, 31, cpc cz, cpc c⟩ (.tmp 3) (.tmp 22) rfl rfl rfl (by simp) rfl rfl ⟨(by show (19 : Nat) ∈ [19, 17]; decide), (by show (17 : Nat) ∈ [19, 17]; decide)⟩ rfl (fun a => rfl) (fun a => rfl) (aB _) (by rw [aE, aE]) (aO _)
 ·exact dE ⟨20, 23, 18, 42, tpc tN, tpc m.t⟩ (.tmp 4) (.tmp 23) rfl rfl rfl (by simp) rfl rfl ⟨(by show (20 : Nat) ∈ [20, 18]; decide), (by show (18 : Nat) ∈ [20, 18]; decide)⟩ rfl (fun a => rfl) (fun a => rfl) (aD _) (bC _ _) (aN _)
 ·intro W9 L9 pg hJ hrow hdis
  have hr1 := (hrow _ (List.mem_cons_self ..)).1
  have hr2 := (hrow _ (List.mem_cons_of_mem _ (List.mem_cons_self ..))).1
  simp only [dW, Act.put, List.getD_cons_zero, List.getD_cons_succ, Option.getD_some, Option.getD_none, ZqA, ZqB, ZqC]
  simp only [Nat.reduceAdd, ptr]
  simp only at hr1 hr2
  generalize pg 19 = gc at hr1 ⊢
  generalize pg 20 = gt at hr2 ⊢
  have HG : Hid (Row W9 gc (cpc c) 31) := hr1
  have HT : Hid (Row W9 gt (tpc m.t) 42) := hr2
  have HJ : Hid (Jw B L w1 S m.S g (wkc k) 74 L9 true W9) := hJ
  have HSZ := hid hsz
  clear hbb hsz hrow hdis hJ hr1 hr2 HC HL HF
  have HB1 : Hid (Bst B L w g L9 m.S W9) := (Bst.later HP.out.p HB.out).trans HP.out.r.lt (Bst.of_pst HJ.out.p)
  cases ht : m.t.is with
  | true =>
   go_wp2_with (first | (refine wpList_load_row (by rfl) _ _ (by rfl) _ (by rfl) 42 _ (0, 0) _ HT.out underlying42 (by rfl) (aD _) ?_) | (go_at_call 96; refine (nD _ m.t ht _).mono ?_))
   rintro e w' hp
   obtain ⟨rfl, hb⟩ := hp
   exact ⟨rfl, L9, HB1.out.trans HP.out.r.lt (Bst.later HB1.out.p hb), HJ.out.n, .inl ⟨ht, rfl⟩⟩
  | false =>
   go_upto_region 3 with (first | (refine wpList_load_row (by rfl) _ _ (by rfl) _ (by rfl) 42 _ (0, 0) _ HT.out underlying42 (by rfl) (aD _) ?_) | (go_at_call 96; refine (nE _ m.t ht _).mono ?_; rintro e w4 ⟨rfl, hb4⟩; have HB4 := hid hb4; have HK4 : Hid (Mk g W9 w4 k) := Mk.later HJ.out.r hb4; have HG4 : Hid (Row w4 gc (cpc c) 31) := HG.out.later hb4 HG.out.lt; clear hb4) | (refine wpList_load_row (by rfl) _ _ (by rfl) _ (by rfl) 31 _ (0, 0) _ HG4.out underlying31 (by rfl) (aB _) ?_) | (refine aX (by rfl) 31 _ _ (by rfl) (by rfl) g 82 (cpc c) (by rfl) (by rfl) (mF HK4.out.r c) (aB _) (aO _) ?_))
   refine kB (motive := fun W => Code.wp _ _ _ _ W) (Q := fun W => Mk g W9 W { k with k := c }) (HK4.out.row c) ?_
   clear HK4 HG4 HB4 HT HG
   rintro W6 m6
   have HK6 := hid m6
   clear m6
   have HF6 : Hid (∀ W, Row W g (wkc { k with k := c }) 74 → Calls prog 90 #[.pointer (some ⟨g, 0, none⟩)] W fun e w' => e = .returned (.int .u64 (n64 (k.p.x n))) ∧ Below W.heap.size W w') := fun W h => dX (k := { k with k := c }) h h1 hn
   go_wp2_with (first | (go_at_call 90; refine (HF6.out _ HK6.out.r).mono ?_; rintro e w6 ⟨rfl, hb6⟩; have HK6' := Hid.mk' (HK6.out.trans (Mk.later HK6.out.r hb6)); clear HK6 hb6; have HK6 := HK6'; clear HK6') | (go_at_call 97; refine (nF HK6.out.r HSZ.out hs1 hs8 1 (k.p.x n) (0#64)).mono ?_; rintro e w7 ⟨rfl, hm7⟩; have HK7 := Hid.mk' hm7; clear hm7) | (go_at_call 93; refine (lE HK7.out.r HSZ.out hs1 hs8 m.old).mono ?_; rintro e w8 ⟨rfl, hw8⟩; have hw82 := hw8.symm; subst hw82) | (go_at_call 87; refine (fJ HK7.out.r _ hrd).mono ?_; rintro e w10 ⟨rfl, hm10⟩; have HK10 := Hid.mk' hm10; clear hm10))
   first | go_end0 | refine ZqH (results_none rfl _ _ _) rfl ?_
   exact ⟨L9, HB1.out.trans HP.out.r.lt (Bst.of_mk HB1.out.p HJ.out.n ((HK6.out.x.trans HK7.out.x).trans HK10.out.x)), HJ.out.n, .inr ⟨ht, rfl, HK10.out.r⟩⟩
theorem SH {B g n n2 s : Nat} {L : Lay} {S : St} {w : World} {k : Wk} (h : Pre B L S w g k) (h1 : k.i.r1 = (n : Int)) (hn : n < 32) (h2 : k.i.r2 = (n2 : Int)) (hn2 : n2 < 32) (hrd : 0 ≤ k.i.rd ∧ k.i.rd < 32) (hsz : k.sz = (s : Int)) (hs1 : 0 < s) (hs8 : s ≤ 8) :
  Calls prog 77 #[.pointer (some ⟨g, 0, none⟩)] w fun e w' => Ret B L w g (AT S (wS L.b (PR k.k) (k.p.x n)) s (if hel (PR k.k) (k.p.x n) s = true then some (fun _ => k.p.x n2) else none)).t (AT S (wS L.b (PR k.k) (k.p.x n)) s (if hel (PR k.k) (k.p.x n) s = true then some (fun _ => k.p.x n2) else none)).S (if (!(AT S (wS L.b (PR k.k) (k.p.x n)) s (if hel (PR k.k) (k.p.x n) s = true then some (fun _ => k.p.x n2) else none)).t.is && hel (PR k.k) (k.p.x n) s) = true then ptK { k with k := if (AT S (wS L.b (PR k.k) (k.p.x n)) s (if hel (PR k.k) (k.p.x n) s = true then some (fun _ => k.p.x n2) else none)).t.is = true then PR k.k else nores (PR k.k), d := { k.d with me := 2, ad := k.p.x n, sz := (s : Int), da := loV (k.p.x n2) s } } 0#64 else ptK { k with k := if (AT S (wS L.b (PR k.k) (k.p.x n)) s (if hel (PR k.k) (k.p.x n) s = true then some (fun _ => k.p.x n2) else none)).t.is = true then PR k.k else nores (PR k.k) } 1#64) (.tuple #[]) e w' := by
 have HF : Hid (∀ W, Row W g (wkc k) 74 → Calls prog 90 #[.pointer (some ⟨g, 0, none⟩)] W fun e w' => e = .returned (.int .u64 (n64 (k.p.x n))) ∧ Below W.heap.size W w') := fun W h => dX h h1 hn
 have HS : Hid (∀ W, Row W g (wkc k) 74 → Calls prog 92 #[.pointer (some ⟨g, 0, none⟩)] W fun e w' => e = .returned (.int .u64 (n64 (k.p.x n2))) ∧ Below W.heap.size W w') := fun W h => fO h h2 hn2
 have HL : Hid (∀ W L1, PB B L1 S W → L1.b = L.b → Tb W → Calls prog 105 #[.agg (cpc k.k), .pointer (some ⟨L.b, 0, none⟩), .int .u64 (n64 (k.p.x n)), .int .i64 (s : Int), .int .u64 (n64 (k.p.x n2))] W fun e w' => e = .returned (.tuple #[.bool (!(AT S (wS L.b (PR k.k) (k.p.x n)) s (if hel (PR k.k) (k.p.x n) s = true then some (fun _ => k.p.x n2) else none)).t.is && hel (PR k.k) (k.p.x n) s), .agg (cpc (if (AT S (wS L.b (PR k.k) (k.p.x n)) s (if hel (PR k.k) (k.p.x n) s = true then some (fun _ => k.p.x n2) else none)).t.is = true then PR k.k else nores (PR k.k))), .agg (tpc (AT S (wS L.b (PR k.k) (k.p.x n)) s (if hel (PR k.k) (k.p.x n) s = true then some (fun _ => k.p.x n2) else none)).t)]) ∧ ∃ L', PSt B L1 W L' (AT S (wS L.b (PR k.k) (k.p.x n)) s (if hel (PR k.k) (k.p.x n) s = true then some (fun _ => k.p.x n2) else none)).S w') := fun W L1 hp hb ht => by
  have q := NK W hp h.s ht h.hB k.k (k.p.x n) s (k.p.x n2)
  rw [hb] at q
  exact q
 have HP := hid h
 obtain ⟨sd, hsd⟩ : ∃ sd, sd = (!(AT S (wS L.b (PR k.k) (k.p.x n)) s (if hel (PR k.k) (k.p.x n) s = true then some (fun _ => k.p.x n2) else none)).t.is && hel (PR k.k) (k.p.x n) s) := ⟨_, rfl⟩
 rw [← hsd] at HL ⊢
 clear hsd
 obtain ⟨c, hc⟩ : ∃ c, c = (if (AT S (wS L.b (PR k.k) (k.p.x n)) s (if hel (PR k.k) (k.p.x n) s = true then some (fun _ => k.p.x n2) else none)).t.is = true then PR k.k else nores (PR k.k)) := ⟨_, rfl⟩
 rw [← hc] at HL ⊢
 clear hc
 generalize AT S (wS L.b (PR k.k) (k.p.x n)) s (if hel (PR k.k) (k.p.x n) s = true then some (fun _ => k.p.x n2) else none) = m at HL ⊢
 clear h
 go_enter func77, ntmps77
 obtain ⟨w1, hw1⟩ : ∃ w1, w1 = w := ⟨w, rfl⟩
 have HB : Hid (Below w.heap.size w w1) := by rw [hw1]; exact ZqD _ _
 go_upto_region 0 with fail
 rw [← hw1]
 have HP1 : Hid (Pre B L S w1 g k) := HP.out.later HB.out
 have hbb := HP1.out.bb
 have hlt : g < w1.heap.size := HP1.out.r.lt
 have HC : Hid (∀ w9 L9, Jw B L w1 S m.S g (wkc k) 74 L9 false w9 → Calls prog 105 #[.agg (cpc k.k), .pointer (some ⟨L.b, 0, none⟩), .int .u64 (n64 (k.p.x n)), .int .i64 (s : Int), .int .u64 (n64 (k.p.x n2))] w9 fun e w' => e = .returned (.tuple #[.bool sd, .agg (cpc c), .agg (tpc m.t)]) ∧ ∃ L', Jw B L w1 S m.S g (wkc k) 74 L' true w' ∧ Fr L9 w9 L' w') := fun w9 L9 hJ => by
  refine (HL.out w9 L9 hJ.p.p hJ.p.b.1 (hJ.p.tb HP1.out.t HP1.out.hB HP1.out.p)).mono ?_
  rintro e w' ⟨rfl, L', hp⟩
  exact ⟨rfl, L', hJ.call hp⟩
 refine dH (by kernel_rfl) (fun i => ([[], [0], [1], [2], [], [4], [5], [6], [], [8], [], [10], [11], [12], [], [14], [3, 7, 9, 13, 15], [16], [17], [17], [17], [], [], [18], [21, 19], [22, 20]] : List (List Nat)).getD i []) (fun i => ([some (.pointer (some ⟨g, 0, none⟩)), some (.pointer (some ⟨g, 0, none⟩)), some (.pointer (some ⟨g, 82, none⟩)), some (.agg (cpc k.k)), some (.pointer (some ⟨g, 0, none⟩)), some (.pointer (some ⟨g, 0, none⟩)), some (.pointer (some ⟨g, 164, none⟩)), some (.pointer (some ⟨L.b, 0, none⟩)), some (.pointer (some ⟨g, 0, none⟩)), some (.int .u64 (n64 (k.p.x n))), some (.pointer (some ⟨g, 0, none⟩)), some (.pointer (some ⟨g, 0, none⟩)), some (.pointer (some ⟨g, 174, none⟩)), some (.int .i64 (s : Int)), some (.pointer (some ⟨g, 0, none⟩)), some (.int .u64 (n64 (k.p.x n2))), some (.tuple #[.bool sd, .agg (cpc c), .agg (tpc m.t)]), some (.tuple #[.bool sd, .agg (cpc c), .agg (tpc m.t)]), some (.bool sd), some (.agg (cpc c)), some (.agg (tpc m.t)), none, none, some (.bool sd), none, none] : List (Option Value)).getD i none) [⟨21, 24, 19, 31, cpc cz, cpc c⟩, ⟨22, 25, 20, 42, tpc tN, tpc m.t⟩] 16 w1.heap.size (Jw B L w1 S m.S g (wkc k) 74) _ w1 (by kernel_rfl) (by kernel_rfl) ?_ L (⟨(PSt.refl HP1.out.p).post (ZqD _ _).drew, HP1.out.r.later (ZqD _ _).drew HP1.out.r.lt, HP1.out.n⟩) rfl (by decide) ?_ (fun L b w w' h hb => h.later hb) (fun L b w q cs h hq hb => h.put hlt hq hb cs) (fun L b w q h hq => h.own hq) (hO ⟨?_, ?_, ?_, ?_, ?_, ?_, ?_, ?_, ?_, ?_, ?_, ?_, ?_, ?_, ?_, ?_, ?_, ?_, ?_, ?_, ?_, ?_, ?_, ?_, ?_, ?_, trivial⟩) ?_
 ·intro p hp q hq e
  rcases List.mem_cons.1 hp with rfl | hp
  ·rcases List.mem_cons.1 hq with rfl | hq
   ·rfl
   ·rw [List.mem_singleton.1 hq] at e; exact absurd (show (21 : Nat) = 22 from e) (by decide)
  ·rw [List.mem_singleton.1 hp] at e ⊢
   rcases List.mem_cons.1 hq with rfl | hq
   ·exact absurd (show (22 : Nat) = 21 from e) (by decide)
   ·rw [List.mem_singleton.1 hq]
 ·intro q hq
  rcases List.mem_cons.1 hq with rfl | hq
  ·exact ⟨(by show 21 < _; decide), (by show 24 < _; decide)⟩
  ·rw [List.mem_singleton.1 hq]
   exact ⟨(by show 22 < _; decide), (by show 25 < _; decide)⟩
 ·exact opn_old _ (.pointer (some ⟨g, 0, none⟩)) 0 rfl rfl (by simp) rfl (by decide) (by kernel_rfl) rfl (fun ρ w9 L9 b9 q hJ => by simp [execOp, q, go_sem])
 ·exact opn_new _ _ 6 0 rfl rfl (by simp) rfl (by decide) (by decide) rfl (fun _ => rfl) (fun ρ w9 L9 b9 q hJ => by simp [execOp, q, go_sem])
 ·exact opn_new _ _ 7 1 rfl rfl (by simp) rfl (by decide) (by decide) rfl (fun _ => rfl) (fun ρ w9 L9 b9 q hJ => by simp [execOp, q, go_sem])
 ·exact opn_new _ _ 8 2 rfl rfl (by simp) rfl (by decide) (by decide) rfl (fun _ => rfl) (fun ρ w9 L9 b9 q hJ => by have hl := iU (P := prog) 31 g 82 (cpc k.k) _ w9 hJ.r.kls.kk underlying31 (by rfl) (aB _); simp only [execOp, q]; exact hl)
 ·exact opn_old _ (.pointer (some ⟨g, 0, none⟩)) 0 rfl rfl (by simp) rfl (by decide) (by kernel_rfl) rfl (fun ρ w9 L9 b9 q hJ => by simp [execOp, q, go_sem])
 ·exact opn_new _ _ 10 4 rfl rfl (by simp) rfl (by decide) (by decide) rfl (fun _ => rfl) (fun ρ w9 L9 b9 q hJ => by simp [execOp, q, go_sem])
 ·exact opn_new _ _ 11 5 rfl rfl (by simp) rfl (by decide) (by decide) rfl (fun _ => rfl) (fun ρ w9 L9 b9 q hJ => by simp [execOp, q, go_sem])
 ·exact opn_new _ _ 12 6 rfl rfl (by simp) rfl (by decide) (by decide) rfl (fun _ => rfl) (fun ρ w9 L9 b9 q hJ => by have hl := hJ.r.kls.b; rw [hbb] at hl; simp [execOp, q, hl, go_sem])
 ·exact opn_old _ (.pointer (some ⟨g, 0, none⟩)) 0 rfl rfl (by simp) rfl (by decide) (by kernel_rfl) rfl (fun ρ w9 L9 b9 q hJ => by simp [execOp, q, go_sem])
 ·refine gH (.int .u64 (n64 (k.p.x n))) 90 #[.pointer (some ⟨g, 0, none⟩)] rfl rfl (by simp) rfl (by decide) (fun a w9 L9 b9 ho hn hJ => ?_) (fun w9 L9 b9 hJ => ?_)
  ·
   have q0 : a.eval (.tmp 14) = .pointer (some ⟨g, 0, none⟩) := hn 8 (by decide) _ rfl
   have hf : a.eval (.func 90) = .func (.func 90) #[] #[] := rfl
   clear ho hn
   generalize a.eval = ρ at *
   simp [execOp, q0, hf, go_sem]
  ·exact HF.out w9 hJ.r
 ·exact opn_old _ (.pointer (some ⟨g, 0, none⟩)) 0 rfl rfl (by simp) rfl (by decide) (by kernel_rfl) rfl (fun ρ w9 L9 b9 q hJ => by simp [execOp, q, go_sem])
 ·exact opn_new _ _ 16 10 rfl rfl (by simp) rfl (by decide) (by decide) rfl (fun _ => rfl) (fun ρ w9 L9 b9 q hJ => by simp [execOp, q, go_sem])
 ·exact opn_new _ _ 17 11 rfl rfl (by simp) rfl (by decide) (by decide) rfl (fun _ => rfl) (fun ρ w9 L9 b9 q hJ => by simp [execOp, q, go_sem])
 ·exact opn_new _ _ 18 12 rfl rfl (by simp) rfl (by decide) (by decide) rfl (fun _ => rfl) (fun ρ w9 L9 b9 q hJ => by have hl := hJ.r.kls.sz; rw [hsz] at hl; simp [execOp, q, hl, go_sem])
 ·exact opn_old _ (.pointer (some ⟨g, 0, none⟩)) 0 rfl rfl (by simp) rfl (by decide) (by kernel_rfl) rfl (fun ρ w9 L9 b9 q hJ => by simp [execOp, q, go_sem])
 ·refine gH (.int .u64 (n64 (k.p.x n2))) 92 #[.pointer (some ⟨g, 0, none⟩)] rfl rfl (by simp) rfl (by decide) (fun a w9 L9 b9 ho hn hJ => ?_) (fun w9 L9 b9 hJ => ?_)
  ·
   have q0 : a.eval (.tmp 20) = .pointer (some ⟨g, 0, none⟩) := hn 14 (by decide) _ rfl
   have hf : a.eval (.func 92) = .func (.func 92) #[] #[] := rfl
   clear ho hn
   generalize a.eval = ρ at *
   simp [execOp, q0, hf, go_sem]
  ·exact HS.out w9 hJ.r
 ·refine iA (.tuple #[.bool sd, .agg (cpc c), .agg (tpc m.t)]) 105 #[.agg (cpc k.k), .pointer (some ⟨L.b, 0, none⟩), .int .u64 (n64 (k.p.x n)), .int .i64 (s : Int), .int .u64 (n64 (k.p.x n2))] rfl rfl (by simp) rfl rfl (fun a w9 L9 ho hn hJ => ?_) (fun w9 L9 hJ => ?_)
  ·
   have q0 : a.eval (.tmp 9) = .agg (cpc k.k) := hn 3 (by decide) _ rfl
   have q1 : a.eval (.tmp 13) = .pointer (some ⟨L.b, 0, none⟩) := hn 7 (by decide) _ rfl
   have q2 : a.eval (.tmp 15) = .int .u64 (n64 (k.p.x n)) := hn 9 (by decide) _ rfl
   have q3 : a.eval (.tmp 19) = .int .i64 (s : Int) := hn 13 (by decide) _ rfl
   have q4 : a.eval (.tmp 21) = .int .u64 (n64 (k.p.x n2)) := hn 15 (by decide) _ rfl
   have hf : a.eval (.func 105) = .func (.func 105) #[] #[] := rfl
   clear ho hn
   generalize a.eval = ρ at *
   simp [execOp, q0, q1, q2, q3, q4, hf, go_sem]
  ·
   exact HC.out w9 L9 hJ
 ·exact opn_new _ _ 22 16 rfl rfl (by simp) rfl (by decide) (by decide) rfl (fun _ => rfl) (fun ρ w9 L9 b9 q hJ => by simp [execOp, q, go_sem])
 ·exact opn_new _ _ 5 17 rfl rfl (by simp) rfl (by decide) (by decide) rfl (fun _ => rfl) (fun ρ w9 L9 b9 q hJ => by simp [execOp, q, go_sem])
 ·exact opn_new _ _ 5 17 rfl rfl (by simp) rfl (by decide) (by decide) rfl (fun _ => rfl) (fun ρ w9 L9 b9 q hJ => by simp [execOp, q, go_sem])
 ·exact opn_new _ _ 5 17 rfl rfl (by simp) rfl (by decide) (by decide) rfl (fun _ => rfl) (fun ρ w9 L9 b9 q hJ => by simp [execOp, q, go_sem])
 ·refine eM ⟨21, 24, 19, 31, cpc cz, cpc c⟩ rfl rfl (by simp) (by simp) rfl (fun a w9 => ?_)
  have hz := cC w9
  generalize a.eval = ρ
  simp [execOp, go_sem, hz, ptr]
 ·refine eM ⟨22, 25, 20, 42, tpc tN, tpc m.t⟩ rfl rfl (by simp) (by simp) rfl (fun a w9 => ?_)
  have hz := bU w9
  generalize a.eval = ρ
  simp [execOp, go_sem, hz, ptr]
 ·exact opn_new _ _ 23 18 rfl rfl (by simp) rfl (by decide) (by decide) rfl (fun _ => rfl) (fun ρ w9 L9 b9 q hJ => by simp [execOp, q, go_sem])
 ·exact dE ⟨21, 24, 19, 31, cpc cz, cpc c⟩ (.tmp 3) (.tmp 24) rfl rfl rfl (by simp) rfl rfl ⟨(by show (21 : Nat) ∈ [21, 19]; decide), (by show (19 : Nat) ∈ [21, 19]; decide)⟩ rfl (fun a => rfl) (fun a => rfl) (aB _) (by rw [aE, aE]) (aO _)
 ·exact dE ⟨22, 25, 20, 42, tpc tN, tpc m.t⟩ (.tmp 4) (.tmp 25) rfl rfl rfl (by simp) rfl rfl ⟨(by show (22 : Nat) ∈ [22, 20]; decide), (by show (20 : Nat) ∈ [22, 20]; decide)⟩ rfl (fun a => rfl) (fun a => rfl) (aD _) (bC _ _) (aN _)
 ·intro W9 L9 pg hJ hrow hdis
  have hr1 := (hrow _ (List.mem_cons_self ..)).1
  have hr2 := (hrow _ (List.mem_cons_of_mem _ (List.mem_cons_self ..))).1
  simp only [dW, Act.put, List.getD_cons_zero, List.getD_cons_succ, Option.getD_some, Option.getD_none, ZqA, ZqB, ZqC]
  simp only [Nat.reduceAdd, ptr]
  simp only at hr1 hr2
  generalize pg 21 = gc at hr1 ⊢
  generalize pg 22 = gt at hr2 ⊢
  have HG : Hid (Row W9 gc (cpc c) 31) := hr1
  have HT : Hid (Row W9 gt (tpc m.t) 42) := hr2
  have HJ : Hid (Jw B L w1 S m.S g (wkc k) 74 L9 true W9) := hJ
  have HSZ := hid hsz
  clear hbb hsz hrow hdis hJ hr1 hr2 HC HL HF HS
  have HB1 : Hid (Bst B L w g L9 m.S W9) := (Bst.later HP.out.p HB.out).trans HP.out.r.lt (Bst.of_pst HJ.out.p)
  cases ht : m.t.is with
  | true =>
   go_wp2_with (first | (refine wpList_load_row (by rfl) _ _ (by rfl) _ (by rfl) 42 _ (0, 0) _ HT.out underlying42 (by rfl) (aD _) ?_) | (go_at_call 96; refine (nD _ m.t ht _).mono ?_))
   rintro e w' hp
   obtain ⟨rfl, hb⟩ := hp
   exact ⟨rfl, L9, HB1.out.trans HP.out.r.lt (Bst.later HB1.out.p hb), HJ.out.n, .inl ⟨ht, rfl⟩⟩
  | false =>
   go_upto_region 3 with (first | (refine wpList_load_row (by rfl) _ _ (by rfl) _ (by rfl) 42 _ (0, 0) _ HT.out underlying42 (by rfl) (aD _) ?_) | (go_at_call 96; refine (nE _ m.t ht _).mono ?_; rintro e w4 ⟨rfl, hb4⟩; have HB4 := hid hb4; have HK4 : Hid (Mk g W9 w4 k) := Mk.later HJ.out.r hb4; have HG4 : Hid (Row w4 gc (cpc c) 31) := HG.out.later hb4 HG.out.lt; clear hb4) | (refine wpList_load_row (by rfl) _ _ (by rfl) _ (by rfl) 31 _ (0, 0) _ HG4.out underlying31 (by rfl) (aB _) ?_) | (refine aX (by rfl) 31 _ _ (by rfl) (by rfl) g 82 (cpc c) (by rfl) (by rfl) (mF HK4.out.r c) (aB _) (aO _) ?_))
   refine kB (motive := fun W => Code.wp _ _ _ _ W) (Q := fun W => Mk g W9 W { k with k := c }) (HK4.out.row c) ?_
   clear HK4 HG4 HB4 HT HG
   rintro W6 m6
   have HK6 := hid m6
   clear m6
   have HF6 : Hid (∀ W, Row W g (wkc { k with k := c }) 74 → Calls prog 90 #[.pointer (some ⟨g, 0, none⟩)] W fun e w' => e = .returned (.int .u64 (n64 (k.p.x n))) ∧ Below W.heap.size W w') := fun W h => dX (k := { k with k := c }) h h1 hn
   have HS6 : Hid (∀ W, Row W g (wkc { k with k := c }) 74 → Calls prog 92 #[.pointer (some ⟨g, 0, none⟩)] W fun e w' => e = .returned (.int .u64 (n64 (k.p.x n2))) ∧ Below W.heap.size W w') := fun W h => fO (k := { k with k := c }) h h2 hn2
   cases sd with
   | true =>
    go_wp2_with (first | (go_at_call 90; refine (HF6.out _ HK6.out.r).mono ?_; rintro e w6 ⟨rfl, hb6⟩; have HK6' := Hid.mk' (HK6.out.trans (Mk.later HK6.out.r hb6)); clear HK6 hb6; have HK6 := HK6'; clear HK6') | (go_at_call 92; refine (HS6.out _ HK6.out.r).mono ?_; rintro e w6 ⟨rfl, hb6⟩; have HK6' := Hid.mk' (HK6.out.trans (Mk.later HK6.out.r hb6)); clear HK6 hb6; have HK6 := HK6'; clear HK6') | (go_at_call 97; refine (nF HK6.out.r HSZ.out hs1 hs8 2 (k.p.x n) (k.p.x n2)).mono ?_; rintro e w7 ⟨rfl, hm7⟩; have HK7 := Hid.mk' hm7; clear hm7) | (go_at_call 87; refine (fJ HK7.out.r 0#64 hrd).mono ?_; rintro e w10 ⟨rfl, hm10⟩; have HK10 := Hid.mk' hm10; clear hm10))
    first | go_end0 | refine ZqH (results_none rfl _ _ _) rfl ?_
    exact ⟨L9, HB1.out.trans HP.out.r.lt (Bst.of_mk HB1.out.p HJ.out.n ((HK6.out.x.trans HK7.out.x).trans HK10.out.x)), HJ.out.n, .inr ⟨ht, rfl, HK10.out.r⟩⟩
   | false =>
    go_wp2_with (first | (go_at_call 87; refine (fJ HK6.out.r 1#64 hrd).mono ?_; rintro e w10 ⟨rfl, hm10⟩; have HK10 := Hid.mk' hm10; clear hm10))
    first | go_end0 | refine ZqH (results_none rfl _ _ _) rfl ?_
    exact ⟨L9, HB1.out.trans HP.out.r.lt (Bst.of_mk HB1.out.p HJ.out.n (HK6.out.x.trans HK10.out.x)), HJ.out.n, .inr ⟨ht, rfl, HK10.out.r⟩⟩
theorem vamo_c {B g n n2 s : Nat} {L : Lay} {S : St} {w : World} {k : Wk} (h : Pre B L S w g k) (h1 : k.i.r1 = (n : Int)) (hn : n < 32) (h2 : k.i.r2 = (n2 : Int)) (hn2 : n2 < 32) (hrd : 0 ≤ k.i.rd ∧ k.i.rd < 32) (hsz : k.sz = (s : Int)) (hs1 : 0 < s) (hs8 : s ≤ 8) :
  Calls prog 78 #[.pointer (some ⟨g, 0, none⟩)] w fun e w' => Ret B L w g (AM S (PR k.k) L.b k.i.op (k.p.x n) (k.p.x n2)).t (AM S (PR k.k) L.b k.i.op (k.p.x n) (k.p.x n2)).S (ptK { k with k := stK (PR k.k) (AM S (PR k.k) L.b k.i.op (k.p.x n) (k.p.x n2)) (k.p.x n) (dP k.i.op), d := { k.d with me := 3, ad := k.p.x n, sz := (s : Int), da := loV (AM S (PR k.k) L.b k.i.op (k.p.x n) (k.p.x n2)).st s } } (exV (AM S (PR k.k) L.b k.i.op (k.p.x n) (k.p.x n2)).old s)) (.tuple #[]) e w' := by
 have HF : Hid (∀ W, Row W g (wkc k) 74 → Calls prog 90 #[.pointer (some ⟨g, 0, none⟩)] W fun e w' => e = .returned (.int .u64 (n64 (k.p.x n))) ∧ Below W.heap.size W w') := fun W h => dX h h1 hn
 have HS : Hid (∀ W, Row W g (wkc k) 74 → Calls prog 92 #[.pointer (some ⟨g, 0, none⟩)] W fun e w' => e = .returned (.int .u64 (n64 (k.p.x n2))) ∧ Below W.heap.size W w') := fun W h => fO h h2 hn2
 have HL : Hid (∀ W L1, PB B L1 S W → L1.b = L.b → Tb W → Calls prog 106 #[.agg (cpc k.k), .pointer (some ⟨L.b, 0, none⟩), .int .i64 k.i.op, .int .u64 (n64 (k.p.x n)), .int .u64 (n64 (k.p.x n2))] W fun e w' => e = .returned (.tuple #[.int .u64 (n64 (AM S (PR k.k) L.b k.i.op (k.p.x n) (k.p.x n2)).old), .int .u64 (n64 (AM S (PR k.k) L.b k.i.op (k.p.x n) (k.p.x n2)).st), .agg (cpc (stK (PR k.k) (AM S (PR k.k) L.b k.i.op (k.p.x n) (k.p.x n2)) (k.p.x n) (dP k.i.op))), .agg (tpc (AM S (PR k.k) L.b k.i.op (k.p.x n) (k.p.x n2)).t)]) ∧ ∃ L', PSt B L1 W L' (AM S (PR k.k) L.b k.i.op (k.p.x n) (k.p.x n2)).S w') := fun W L1 hp hb ht => by
  have q := UQ W hp h.s ht h.hB k.k k.i.op (k.p.x n) (k.p.x n2)
  rw [hb] at q
  exact q
 have HP := hid h
 obtain ⟨c, hc⟩ : ∃ c, c = (stK (PR k.k) (AM S (PR k.k) L.b k.i.op (k.p.x n) (k.p.x n2)) (k.p.x n) (dP k.i.op)) := ⟨_, rfl⟩
 rw [← hc] at HL ⊢
 clear hc
 generalize AM S (PR k.k) L.b k.i.op (k.p.x n) (k.p.x n2) = m at HL ⊢
 clear h
 go_enter func78, ntmps78
 obtain ⟨w1, hw1⟩ : ∃ w1, w1 = w := ⟨w, rfl⟩
 have HB : Hid (Below w.heap.size w w1) := by rw [hw1]; exact ZqD _ _
 go_upto_region 0 with fail
 rw [← hw1]
 have HP1 : Hid (Pre B L S w1 g k) := HP.out.later HB.out
 have hbb := HP1.out.bb
 have hlt : g < w1.heap.size := HP1.out.r.lt
 have HC : Hid (∀ w9 L9, Jw B L w1 S m.S g (wkc k) 74 L9 false w9 → Calls prog 106 #[.agg (cpc k.k), .pointer (some ⟨L.b, 0, none⟩), .int .i64 k.i.op, .int .u64 (n64 (k.p.x n)), .int .u64 (n64 (k.p.x n2))] w9 fun e w' => e = .returned (.tuple #[.int .u64 (n64 m.old), .int .u64 (n64 m.st), .agg (cpc c), .agg (tpc m.t)]) ∧ ∃ L', Jw B L w1 S m.S g (wkc k) 74 L' true w' ∧ Fr L9 w9 L' w') := fun w9 L9 hJ => by
  refine (HL.out w9 L9 hJ.p.p hJ.p.b.1 (hJ.p.tb HP1.out.t HP1.out.hB HP1.out.p)).mono ?_
  rintro e w' ⟨rfl, L', hp⟩
  exact ⟨rfl, L', hJ.call hp⟩
 refine dH (by kernel_rfl) (fun i => ([[], [0], [1], [2], [], [4], [5], [6], [], [8], [9], [10], [11], [], [13], [], [15], [3, 7, 12, 14, 16], [17], [18], [18], [18], [18], [], [], [19], [20], [23, 21], [24, 22]] : List (List Nat)).getD i []) (fun i => ([some (.pointer (some ⟨g, 0, none⟩)), some (.pointer (some ⟨g, 0, none⟩)), some (.pointer (some ⟨g, 82, none⟩)), some (.agg (cpc k.k)), some (.pointer (some ⟨g, 0, none⟩)), some (.pointer (some ⟨g, 0, none⟩)), some (.pointer (some ⟨g, 164, none⟩)), some (.pointer (some ⟨L.b, 0, none⟩)), some (.pointer (some ⟨g, 0, none⟩)), some (.pointer (some ⟨g, 0, none⟩)), some (.pointer (some ⟨g, 165, none⟩)), some (.pointer (some ⟨g, 165, none⟩)), some (.int .i64 k.i.op), some (.pointer (some ⟨g, 0, none⟩)), some (.int .u64 (n64 (k.p.x n))), some (.pointer (some ⟨g, 0, none⟩)), some (.int .u64 (n64 (k.p.x n2))), some (.tuple #[.int .u64 (n64 m.old), .int .u64 (n64 m.st), .agg (cpc c), .agg (tpc m.t)]), some (.tuple #[.int .u64 (n64 m.old), .int .u64 (n64 m.st), .agg (cpc c), .agg (tpc m.t)]), some (.int .u64 (n64 m.old)), some (.int .u64 (n64 m.st)), some (.agg (cpc c)), some (.agg (tpc m.t)), none, none, some (.int .u64 (n64 m.old)), some (.int .u64 (n64 m.st)), none, none] : List (Option Value)).getD i none) [⟨23, 27, 21, 31, cpc cz, cpc c⟩, ⟨24, 28, 22, 42, tpc tN, tpc m.t⟩] 17 w1.heap.size (Jw B L w1 S m.S g (wkc k) 74) _ w1 (by kernel_rfl) (by kernel_rfl) ?_ L (⟨(PSt.refl HP1.out.p).post (ZqD _ _).drew, HP1.out.r.later (ZqD _ _).drew HP1.out.r.lt, HP1.out.n⟩) rfl (by decide) ?_ (fun L b w w' h hb => h.later hb) (fun L b w q cs h hq hb => h.put hlt hq hb cs) (fun L b w q h hq => h.own hq) (hO ⟨?_, ?_, ?_, ?_, ?_, ?_, ?_, ?_, ?_, ?_, ?_, ?_, ?_, ?_, ?_, ?_, ?_, ?_, ?_, ?_, ?_, ?_, ?_, ?_, ?_, ?_, ?_, ?_, ?_, trivial⟩) ?_
 ·intro p hp q hq e
  rcases List.mem_cons.1 hp with rfl | hp
  ·rcases List.mem_cons.1 hq with rfl | hq
   ·rfl
   ·rw [List.mem_singleton.1 hq] at e; exact absurd (show (23 : Nat) = 24 from e) (by decide)
  ·rw [List.mem_singleton.1 hp] at e ⊢
   rcases List.mem_cons.1 hq with rfl | hq
   ·exact absurd (show (24 : Nat) = 23 from e) (by decide)
   ·rw [List.mem_singleton.1 hq]
 ·intro q hq
  rcases List.mem_cons.1 hq with rfl | hq
  ·exact ⟨(by show 23 < _; decide), (by show 27 < _; decide)⟩
  ·rw [List.mem_singleton.1 hq]
   exact ⟨(by show 24 < _; decide), (by show 28 < _; decide)⟩
 ·exact opn_old _ (.pointer (some ⟨g, 0, none⟩)) 0 rfl rfl (by simp) rfl (by decide) (by kernel_rfl) rfl (fun ρ w9 L9 b9 q hJ => by simp [execOp, q, go_sem])
 ·exact opn_new _ _ 7 0 rfl rfl (by simp) rfl (by decide) (by decide) rfl (fun _ => rfl) (fun ρ w9 L9 b9 q hJ => by simp [execOp, q, go_sem])
 ·exact opn_new _ _ 8 1 rfl rfl (by simp) rfl (by decide) (by decide) rfl (fun _ => rfl) (fun ρ w9 L9 b9 q hJ => by simp [execOp, q, go_sem])
 ·exact opn_new _ _ 9 2 rfl rfl (by simp) rfl (by decide) (by decide) rfl (fun _ => rfl) (fun ρ w9 L9 b9 q hJ => by have hl := iU (P := prog) 31 g 82 (cpc k.k) _ w9 hJ.r.kls.kk underlying31 (by rfl) (aB _); simp only [execOp, q]; exact hl)
 ·exact opn_old _ (.pointer (some ⟨g, 0, none⟩)) 0 rfl rfl (by simp) rfl (by decide) (by kernel_rfl) rfl (fun ρ w9 L9 b9 q hJ => by simp [execOp, q, go_sem])
 ·exact opn_new _ _ 11 4 rfl rfl (by simp) rfl (by decide) (by decide) rfl (fun _ => rfl) (fun ρ w9 L9 b9 q hJ => by simp [execOp, q, go_sem])
 ·exact opn_new _ _ 12 5 rfl rfl (by simp) rfl (by decide) (by decide) rfl (fun _ => rfl) (fun ρ w9 L9 b9 q hJ => by simp [execOp, q, go_sem])
 ·exact opn_new _ _ 13 6 rfl rfl (by simp) rfl (by decide) (by decide) rfl (fun _ => rfl) (fun ρ w9 L9 b9 q hJ => by have hl := hJ.r.kls.b; rw [hbb] at hl; simp [execOp, q, hl, go_sem])
 ·exact opn_old _ (.pointer (some ⟨g, 0, none⟩)) 0 rfl rfl (by simp) rfl (by decide) (by kernel_rfl) rfl (fun ρ w9 L9 b9 q hJ => by simp [execOp, q, go_sem])
 ·exact opn_new _ _ 15 8 rfl rfl (by simp) rfl (by decide) (by decide) rfl (fun _ => rfl) (fun ρ w9 L9 b9 q hJ => by simp [execOp, q, go_sem])
 ·exact opn_new _ _ 16 9 rfl rfl (by simp) rfl (by decide) (by decide) rfl (fun _ => rfl) (fun ρ w9 L9 b9 q hJ => by simp [execOp, q, go_sem])
 ·exact opn_new _ _ 17 10 rfl rfl (by simp) rfl (by decide) (by decide) rfl (fun _ => rfl) (fun ρ w9 L9 b9 q hJ => by simp [execOp, q, go_sem])
 ·exact opn_new _ _ 18 11 rfl rfl (by simp) rfl (by decide) (by decide) rfl (fun _ => rfl) (fun ρ w9 L9 b9 q hJ => by have hl := hJ.r.kls.op; simp [execOp, q, hl, go_sem])
 ·exact opn_old _ (.pointer (some ⟨g, 0, none⟩)) 0 rfl rfl (by simp) rfl (by decide) (by kernel_rfl) rfl (fun ρ w9 L9 b9 q hJ => by simp [execOp, q, go_sem])
 ·refine gH (.int .u64 (n64 (k.p.x n))) 90 #[.pointer (some ⟨g, 0, none⟩)] rfl rfl (by simp) rfl (by decide) (fun a w9 L9 b9 ho hn hJ => ?_) (fun w9 L9 b9 hJ => ?_)
  ·
   have q0 : a.eval (.tmp 20) = .pointer (some ⟨g, 0, none⟩) := hn 13 (by decide) _ rfl
   have hf : a.eval (.func 90) = .func (.func 90) #[] #[] := rfl
   clear ho hn
   generalize a.eval = ρ at *
   simp [execOp, q0, hf, go_sem]
  ·exact HF.out w9 hJ.r
 ·exact opn_old _ (.pointer (some ⟨g, 0, none⟩)) 0 rfl rfl (by simp) rfl (by decide) (by kernel_rfl) rfl (fun ρ w9 L9 b9 q hJ => by simp [execOp, q, go_sem])
 ·refine gH (.int .u64 (n64 (k.p.x n2))) 92 #[.pointer (some ⟨g, 0, none⟩)] rfl rfl (by simp) rfl (by decide) (fun a w9 L9 b9 ho hn hJ => ?_) (fun w9 L9 b9 hJ => ?_)
  ·
   have q0 : a.eval (.tmp 22) = .pointer (some ⟨g, 0, none⟩) := hn 15 (by decide) _ rfl
   have hf : a.eval (.func 92) = .func (.func 92) #[] #[] := rfl
   clear ho hn
   generalize a.eval = ρ at *
   simp [execOp, q0, hf, go_sem]
  ·exact HS.out w9 hJ.r
 ·refine iA (.tuple #[.int .u64 (n64 m.old), .int .u64 (n64 m.st), .agg (cpc c), .agg (tpc m.t)]) 106 #[.agg (cpc k.k), .pointer (some ⟨L.b, 0, none⟩), .int .i64 k.i.op, .int .u64 (n64 (k.p.x n)), .int .u64 (n64 (k.p.x n2))] rfl rfl (by simp) rfl rfl (fun a w9 L9 ho hn hJ => ?_) (fun w9 L9 hJ => ?_)
  ·
   have q0 : a.eval (.tmp 10) = .agg (cpc k.k) := hn 3 (by decide) _ rfl
   have q1 : a.eval (.tmp 14) = .pointer (some ⟨L.b, 0, none⟩) := hn 7 (by decide) _ rfl
   have q2 : a.eval (.tmp 19) = .int .i64 k.i.op := hn 12 (by decide) _ rfl
   have q3 : a.eval (.tmp 21) = .int .u64 (n64 (k.p.x n)) := hn 14 (by decide) _ rfl
   have q4 : a.eval (.tmp 23) = .int .u64 (n64 (k.p.x n2)) := hn 16 (by decide) _ rfl
   have hf : a.eval (.func 106) = .func (.func 106) #[] #[] := rfl
   clear ho hn
   generalize a.eval = ρ at *
   simp [execOp, q0, q1, q2, q3, q4, hf, go_sem]
  ·
   exact HC.out w9 L9 hJ
 ·exact opn_new _ _ 24 17 rfl rfl (by simp) rfl (by decide) (by decide) rfl (fun _ => rfl) (fun ρ w9 L9 b9 q hJ => by simp [execOp, q, go_sem])
 ·exact opn_new _ _ 6 18 rfl rfl (by simp) rfl (by decide) (by decide) rfl (fun _ => rfl) (fun ρ w9 L9 b9 q hJ => by simp [execOp, q, go_sem])
 ·exact opn_new _ _ 6 18 rfl rfl (by simp) rfl (by decide) (by decide) rfl (fun _ => rfl) (fun ρ w9 L9 b9 q hJ => by simp [execOp, q, go_sem])
 ·exact opn_new _ _ 6 18 rfl rfl (by simp) rfl (by decide) (by decide) rfl (fun _ => rfl) (fun ρ w9 L9 b9 q hJ => by simp [execOp, q, go_sem])
 ·exact opn_new _ _ 6 18 rfl rfl (by simp) rfl (by decide) (by decide) rfl (fun _ => rfl) (fun ρ w9 L9 b9 q hJ => by simp [execOp, q, go_sem])
 ·refine eM ⟨23, 27, 21, 31, cpc cz, cpc c⟩ rfl rfl (by simp) (by simp) rfl (fun a w9 => ?_)
  have hz := cC w9
  generalize a.eval = ρ
  simp [execOp, go_sem, hz, ptr]
 ·refine eM ⟨24, 28, 22, 42, tpc tN, tpc m.t⟩ rfl rfl (by simp) (by simp) rfl (fun a w9 => ?_)
  have hz := bU w9
  generalize a.eval = ρ
  simp [execOp, go_sem, hz, ptr]
 ·exact opn_new _ _ 25 19 rfl rfl (by simp) rfl (by decide) (by decide) rfl (fun _ => rfl) (fun ρ w9 L9 b9 q hJ => by simp [execOp, q, go_sem])
 ·exact opn_new _ _ 26 20 rfl rfl (by simp) rfl (by decide) (by decide) rfl (fun _ => rfl) (fun ρ w9 L9 b9 q hJ => by simp [execOp, q, go_sem])
 ·exact dE ⟨23, 27, 21, 31, cpc cz, cpc c⟩ (.tmp 4) (.tmp 27) rfl rfl rfl (by simp) rfl rfl ⟨(by show (23 : Nat) ∈ [23, 21]; decide), (by show (21 : Nat) ∈ [23, 21]; decide)⟩ rfl (fun a => rfl) (fun a => rfl) (aB _) (by rw [aE, aE]) (aO _)
 ·exact dE ⟨24, 28, 22, 42, tpc tN, tpc m.t⟩ (.tmp 5) (.tmp 28) rfl rfl rfl (by simp) rfl rfl ⟨(by show (24 : Nat) ∈ [24, 22]; decide), (by show (22 : Nat) ∈ [24, 22]; decide)⟩ rfl (fun a => rfl) (fun a => rfl) (aD _) (bC _ _) (aN _)
 ·intro W9 L9 pg hJ hrow hdis
  have hr1 := (hrow _ (List.mem_cons_self ..)).1
  have hr2 := (hrow _ (List.mem_cons_of_mem _ (List.mem_cons_self ..))).1
  simp only [dW, Act.put, List.getD_cons_zero, List.getD_cons_succ, Option.getD_some, Option.getD_none, ZqA, ZqB, ZqC]
  simp only [Nat.reduceAdd, ptr]
  simp only at hr1 hr2
  generalize pg 23 = gc at hr1 ⊢
  generalize pg 24 = gt at hr2 ⊢
  have HG : Hid (Row W9 gc (cpc c) 31) := hr1
  have HT : Hid (Row W9 gt (tpc m.t) 42) := hr2
  have HJ : Hid (Jw B L w1 S m.S g (wkc k) 74 L9 true W9) := hJ
  have HSZ := hid hsz
  clear hbb hsz hrow hdis hJ hr1 hr2 HC HL HF HS
  have HB1 : Hid (Bst B L w g L9 m.S W9) := (Bst.later HP.out.p HB.out).trans HP.out.r.lt (Bst.of_pst HJ.out.p)
  cases ht : m.t.is with
  | true =>
   go_wp2_with (first | (refine wpList_load_row (by rfl) _ _ (by rfl) _ (by rfl) 42 _ (0, 0) _ HT.out underlying42 (by rfl) (aD _) ?_) | (go_at_call 96; refine (nD _ m.t ht _).mono ?_))
   rintro e w' hp
   obtain ⟨rfl, hb⟩ := hp
   exact ⟨rfl, L9, HB1.out.trans HP.out.r.lt (Bst.later HB1.out.p hb), HJ.out.n, .inl ⟨ht, rfl⟩⟩
  | false =>
   go_upto_region 3 with (first | (refine wpList_load_row (by rfl) _ _ (by rfl) _ (by rfl) 42 _ (0, 0) _ HT.out underlying42 (by rfl) (aD _) ?_) | (go_at_call 96; refine (nE _ m.t ht _).mono ?_; rintro e w4 ⟨rfl, hb4⟩; have HB4 := hid hb4; have HK4 : Hid (Mk g W9 w4 k) := Mk.later HJ.out.r hb4; have HG4 : Hid (Row w4 gc (cpc c) 31) := HG.out.later hb4 HG.out.lt; clear hb4) | (refine wpList_load_row (by rfl) _ _ (by rfl) _ (by rfl) 31 _ (0, 0) _ HG4.out underlying31 (by rfl) (aB _) ?_) | (refine aX (by rfl) 31 _ _ (by rfl) (by rfl) g 82 (cpc c) (by rfl) (by rfl) (mF HK4.out.r c) (aB _) (aO _) ?_))
   refine kB (motive := fun W => Code.wp _ _ _ _ W) (Q := fun W => Mk g W9 W { k with k := c }) (HK4.out.row c) ?_
   clear HK4 HG4 HB4 HT HG
   rintro W6 m6
   have HK6 := hid m6
   clear m6
   have HF6 : Hid (∀ W, Row W g (wkc { k with k := c }) 74 → Calls prog 90 #[.pointer (some ⟨g, 0, none⟩)] W fun e w' => e = .returned (.int .u64 (n64 (k.p.x n))) ∧ Below W.heap.size W w') := fun W h => dX (k := { k with k := c }) h h1 hn
   have HS6 : Hid (∀ W, Row W g (wkc { k with k := c }) 74 → Calls prog 92 #[.pointer (some ⟨g, 0, none⟩)] W fun e w' => e = .returned (.int .u64 (n64 (k.p.x n2))) ∧ Below W.heap.size W w') := fun W h => fO (k := { k with k := c }) h h2 hn2
   go_wp2_with (first | (go_at_call 90; refine (HF6.out _ HK6.out.r).mono ?_; rintro e w6 ⟨rfl, hb6⟩; have HK6' := Hid.mk' (HK6.out.trans (Mk.later HK6.out.r hb6)); clear HK6 hb6; have HK6 := HK6'; clear HK6') | (go_at_call 97; refine (nF HK6.out.r HSZ.out hs1 hs8 3 (k.p.x n) (m.st)).mono ?_; rintro e w7 ⟨rfl, hm7⟩; have HK7 := Hid.mk' hm7; clear hm7) | (go_at_call 93; refine (lE HK7.out.r HSZ.out hs1 hs8 m.old).mono ?_; rintro e w8 ⟨rfl, hw8⟩; have hw82 := hw8.symm; subst hw82) | (go_at_call 87; refine (fJ HK7.out.r _ hrd).mono ?_; rintro e w10 ⟨rfl, hm10⟩; have HK10 := Hid.mk' hm10; clear hm10))
   first | go_end0 | refine ZqH (results_none rfl _ _ _) rfl ?_
   exact ⟨L9, HB1.out.trans HP.out.r.lt (Bst.of_mk HB1.out.p HJ.out.n ((HK6.out.x.trans HK7.out.x).trans HK10.out.x)), HJ.out.n, .inr ⟨ht, rfl, HK10.out.r⟩⟩
end Go.Proofs.YtddlmenfcbjoaaaGreatDoor
