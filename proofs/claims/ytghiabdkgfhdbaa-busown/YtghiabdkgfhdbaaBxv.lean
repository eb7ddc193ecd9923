/-
  Bxq Bxr Bxs Bxt Bxu Bxv.
-/
import Derived.Test.YtghiabdkgfhdbaaBxp
namespace Go.Proofs.Ytghiabdkgfhdbaa
set_option linter.unusedVariables false
open Go.ChangeShapes Go.WideShapes Go.ChangeAt Go.RowKit Go.Deep Go.MuLone
/-- Both buses, in states that may differ, apart. -/
structure Md (B : Nat) (L : Lay) (c : Nat) (S T : St) (vr vi vo : Value) (w : World) : Prop where
  p : PB B L S w
  r : RB B c T vr vi vo w
  ap : ∀ k, L.own k → ¬ Rown c vr vi vo k
/-- Blocks from N on, and those below B, are as they were. -/
def Kp (B N : Nat) (w w' : World) : Prop := ∀ k, (N ≤ k ∨ k < B) → k < w.heap.size → w'.heap[k]? = w.heap[k]?
theorem Rown_lt {B c : Nat} {S : St} {vr vi vo : Value} {w : World} (h : RB B c S vr vi vo w) {k : Nat} (hk : Rown c vr vi vo k) : B ≤ k ∧ k < w.heap.size := by
  rcases hk with e | e | e | e
  · rw [e]; exact ⟨h.l, h.lt⟩
  · exact h.s.r.lt k e
  · exact h.s.i.lt k e
  · exact h.s.o.lt k e
theorem RB.exo {B c : Nat} {S : St} {vr vi vo : Value} {w w' : World} {G : Nat → Prop} (h : RB B c S vr vi vo w) (hb : Exc G w w') (hG : ∀ k, Rown c vr vi vo k → ¬ G k) : RB B c S vr vi vo w' :=
  ⟨(hb.block c h.lt (hG c (.inl rfl))).trans h.h, ⟨own_exc h.s.r hb (fun k hk => hG k (.inr (.inl hk))), own_exc h.s.i hb (fun k hk => hG k (.inr (.inr (.inl hk)))), own_exc h.s.o hb (fun k hk => hG k (.inr (.inr (.inr hk)))), h.s.ri, h.s.ro, h.s.io⟩, h.l⟩
section
variable {B N c : Nat} {L L' : Lay} {S T S' : St} {vr vi vo ur ui uo : Value} {w w' w2 : World}
theorem Md.later (h : Md B L c S T vr vi vo w) (hb : Below w.heap.size w w') : Md B L c S T vr vi vo w' := ⟨h.p.later hb, h.r.later hb, h.ap⟩
theorem Md.stepP (h : Md B L c S T vr vi vo w) (hs : PSt B L w L' S' w') : Md B L' c S' T vr vi vo w' := by
  refine ⟨hs.p, h.r.exo hs.x (fun k hk ho => h.ap k ho hk), fun k hk hr => ?_⟩
  rcases hs.o k hk with e | e
  · exact h.ap k e hr
  · have := (Rown_lt h.r hr).2; omega
theorem Md.stepR (h : Md B L c S T vr vi vo w) (hs : RSt B c vr vi vo w ur ui uo S' w') : Md B L c S S' ur ui uo w' := by
  refine ⟨h.p.exo hs.x (fun k hk ho => h.ap k hk ho), hs.r, fun k hk hr => ?_⟩
  rcases hs.o k hr with e | e
  · exact h.ap k hk e
  · have := h.p.own_hi k hk; omega
theorem PSt.keep (h : Md B L c S T vr vi vo w) (hs : PSt B L w L' S' w') (hN : ∀ k, L.own k → k < N) : Kp B N w w' := fun k hk hlt => hs.x.block k hlt (fun ho => by
  rcases hk with e | e
  · have := hN k ho; omega
  · have := h.p.own_lo k ho; omega)
theorem RSt.keep (h : Md B L c S T vr vi vo w) (hs : RSt B c vr vi vo w ur ui uo S' w') (hN : ∀ k, Rown c vr vi vo k → k < N) : Kp B N w w' := fun k hk hlt => hs.x.block k hlt (fun ho => by
  rcases hk with e | e
  · have := hN k ho; omega
  · have := (Rown_lt h.r ho).1; omega)
theorem PSt.below (h : Md B L c S T vr vi vo w) (hs : PSt B L w L' S' w') : Below B w w' := hs.x.below (Nat.le_trans h.r.l (Nat.le_of_lt h.r.lt)) (fun k hk => h.p.own_lo k hk)
theorem RSt.below (h : Md B L c S T vr vi vo w) (hs : RSt B c vr vi vo w ur ui uo S' w') : Below B w w' := hs.x.below (Nat.le_trans h.r.l (Nat.le_of_lt h.r.lt)) (fun k hk => (Rown_lt h.r hk).1)
theorem Kp.trans (h1 : Kp B N w w') (hs : w.heap.size ≤ w'.heap.size) (h2 : Kp B N w' w2) : Kp B N w w2 := fun k hk hlt => (h2 k hk (Nat.lt_of_lt_of_le hlt hs)).trans (h1 k hk hlt)
theorem Kp.of_below (h : Below w.heap.size w w') : Kp B N w w' := fun k _ hlt => h.block k hlt
theorem Kp.row {k : Nat} {C : Array Value} {U : TypeId} (h : Kp B N w w') (hr : w.heap[k]? = some (.cells C U (0, 0))) (hk : N ≤ k ∨ k < B) : w'.heap[k]? = some (.cells C U (0, 0)) := (h k hk (Array.getElem?_eq_some_iff.1 hr).1).trans hr
theorem Kp.byt {v : Value} {l : List Int} (h : Kp B N w w') (hs : w.heap.size ≤ w'.heap.size) (hb : Byt w v l) (hk : l ≠ [] → ∀ g off n c, v = .slice (some ⟨g, off, none⟩) n c → N ≤ g ∨ g < B) : Byt w' v l := by
  obtain ⟨a, cap, e1, e2, e3, e4⟩ := hb
  refine ⟨a, cap, e1, e2, e3, fun hl => ?_⟩
  obtain ⟨g, off, ea, q1, q2⟩ := e4 hl
  refine ⟨g, off, ea, Nat.lt_of_lt_of_le q1 hs, fun j hj => ?_⟩
  rw [World.cell?_of_block (w := w) (w' := w') (a := ⟨g, off + j, none⟩) (h g (hk hl g off l.length cap (by rw [e1, ea])) q1)]
  exact q2 j hj
theorem own_byt_ge {v : Value} {l : List Int} {n M : Nat} (h : w.ownsRow M 5 1 v n (bv l)) : ∀ g off m c, v = .slice (some ⟨g, off, none⟩) m c → M ≤ g ∧ g < w.heap.size := fun g off m c e => h.lt g (ownBlock_slice e)
theorem byt_lt {v : Value} {l : List Int} (h : Byt w v l) (hl : l ≠ []) : ∀ g off n c, v = .slice (some ⟨g, off, none⟩) n c → g < w.heap.size := fun g off n c e => by
  obtain ⟨a, cap, e1, _, _, e4⟩ := h
  obtain ⟨g', off', ea, q1, _⟩ := e4 hl
  rw [e1, ea] at e
  cases e
  exact q1
end
/-- What Poke leaves. -/
def St.pok (S : St) (a : Int) (l : List Int) : St := if l ≠ [] ∧ hld S.ram.length a l.length = true then { S with ram := splice S.ram (a - 2147483648).toNat l } else S
/-- What a call leaves. -/
def St.chg (S : St) (x : Cal) : St := if x.k = 1 then (S.ld x.a x.n).2 else if x.k = 2 then (S.sto2 x.a x.n x.v).2 else if x.k = 3 then S.beg x.t x.e x.s x.i else if x.k = 7 then S.pok x.a x.b else S
/-- A state that can be, its numbers in their bounds. -/
structure Sok (S : St) : Prop where
  ok : S.ok = true
  st : StW S
theorem Sok.n {S : St} (h : Sok S) : S.ram.length ≤ 65536 ∧ 8 ≤ S.ram.length ∧ S.inp.length ≤ 64 ∧ S.out.length ≤ 4096 ∧ S.msip ≤ 1 ∧ S.ier ≤ 15 ∧ S.mcr ≤ 31 := by
  have := h.ok
  simp only [St.ok, ramOk, Bool.and_eq_true, decide_eq_true_eq] at this
  omega
theorem Sok.mk' {S T : St} (h : Sok S) (hr : T.ram.length = S.ram.length) (ha : AllB T.ram) (hi : T.inp.length ≤ 64 ∧ AllB T.inp) (ho : T.out.length ≤ 4096 ∧ AllB T.out) (h1 : 0 ≤ T.msip ∧ T.msip ≤ 1) (h2 : 0 ≤ T.cmp ∧ T.cmp ≤ 18446744073709551615) (h3 : 0 ≤ T.time ∧ T.time ≤ 18446744073709551615)
    (h4 : 0 ≤ T.ier ∧ T.ier ≤ 15) (h5 : 0 ≤ T.lcr ∧ T.lcr ≤ 255) (h6 : 0 ≤ T.mcr ∧ T.mcr ≤ 31) (h7 : 0 ≤ T.scr ∧ T.scr ≤ 255) (h8 : powOk T.off T.code = true) : Sok T := by
  have hk := h.ok
  simp only [St.ok, Bool.and_eq_true, decide_eq_true_eq] at hk
  refine ⟨?_, ⟨ha, hi.2, ho.2, ⟨h1.1, by omega⟩, h2, h3, ⟨h4.1, by omega⟩, h5, ⟨h6.1, by omega⟩, h7, ?_, ?_⟩⟩
  · simp only [St.ok, Bool.and_eq_true, decide_eq_true_eq, hr]
    exact ⟨⟨⟨⟨⟨⟨hk.1.1.1.1.1.1, h1.2⟩, h4.2⟩, h6.2⟩, by omega⟩, by omega⟩, h8⟩
  · unfold powOk at h8
    split at h8
    · omega
    · split at h8
      · omega
      · cases h8
  · unfold powOk at h8
    split at h8
    · have : T.code = 0 := by simpa using h8
      omega
    · split at h8
      · simp only [Bool.and_eq_true, decide_eq_true_eq] at h8; omega
      · cases h8
theorem Sok.pow {S : St} (h : Sok S) : powOk S.off S.code = true := by
  have hk := h.ok
  simp only [St.ok, Bool.and_eq_true] at hk
  exact hk.2
/-- But for the fields named. -/
theorem Sok.but {S T : St} (h : Sok S) (hr : T.ram = S.ram) (hi : T.inp.length ≤ 64 ∧ AllB T.inp) (ho : T.out.length ≤ 4096 ∧ AllB T.out) (h1 : 0 ≤ T.msip ∧ T.msip ≤ 1) (h2 : 0 ≤ T.cmp ∧ T.cmp ≤ 18446744073709551615) (h3 : 0 ≤ T.time ∧ T.time ≤ 18446744073709551615)
    (h4 : 0 ≤ T.ier ∧ T.ier ≤ 15) (h5 : 0 ≤ T.lcr ∧ T.lcr ≤ 255) (h6 : 0 ≤ T.mcr ∧ T.mcr ≤ 31) (h7 : 0 ≤ T.scr ∧ T.scr ≤ 255) (h8 : powOk T.off T.code = true) : Sok T := h.mk' (by rw [hr]) (by rw [hr]; exact h.st.r) hi ho h1 h2 h3 h4 h5 h6 h7 h8
theorem ctrW_ok {N base a z v : Int} (hN : 0 ≤ N ∧ N ≤ 18446744073709551615) (hv : 0 ≤ v ∧ v ≤ 18446744073709551615) : 0 ≤ ctrW N base a z v ∧ ctrW N base a z v ≤ 18446744073709551615 := by
  unfold ctrW
  split
  · exact hv
  · split <;> omega
section
variable {S : St} (h : Sok S)
include h
theorem Sok.bi : S.inp.length ≤ 64 ∧ AllB S.inp := ⟨h.n.2.2.1, h.st.i⟩
theorem Sok.bo : S.out.length ≤ 4096 ∧ AllB S.out := ⟨h.n.2.2.2.1, h.st.o⟩
theorem Sok.bm : 0 ≤ S.msip ∧ S.msip ≤ 1 := ⟨h.st.msip.1, h.n.2.2.2.2.1⟩
theorem Sok.be : 0 ≤ S.ier ∧ S.ier ≤ 15 := ⟨h.st.ier.1, h.n.2.2.2.2.2.1⟩
theorem Sok.bc : 0 ≤ S.mcr ∧ S.mcr ≤ 31 := ⟨h.st.mcr.1, h.n.2.2.2.2.2.2⟩
theorem Sok.tel (r : Nat) : Sok (S.tel r).2 := by
  have hb := h.bi
  have hd : ∀ q : Nat, 8 ≤ q → S.tel q = (0, S) := fun q hq => by
    match q, hq with
    | q + 8, _ => rfl
  by_cases hr : r < 8
  · rcases reg_cases hr with rfl | rfl | rfl | rfl | rfl | rfl | rfl | rfl
    · cases hi : S.inp with
      | nil => have e : S.tel 0 = (0, S) := by simp only [St.tel, hi]
               rw [e]; exact h
      | cons x xs =>
        have e : S.tel 0 = (x, { S with inp := xs }) := by simp only [St.tel, hi]
        rw [e]
        rw [hi] at hb
        exact h.but rfl ⟨by have := hb.1; simp at this; show xs.length ≤ 64; omega, fun y hy => hb.2 y (List.mem_cons_of_mem _ hy)⟩ h.bo h.bm h.st.cmp h.st.time h.be h.st.lcr h.bc h.st.scr h.pow
    · exact h
    · exact h
    · exact h
    · exact h
    · exact h.but rfl h.bi h.bo h.bm h.st.cmp h.st.time h.be h.st.lcr h.bc h.st.scr h.pow
    · exact h
    · exact h
  · rw [hd r (by omega)]; exact h
theorem Sok.sen (c : Int) (hc : 0 ≤ c ∧ c ≤ 255) : Sok (S.sen c) := by
  unfold St.sen
  split
  · refine h.but rfl h.bi ⟨?_, ?_⟩ h.bm h.st.cmp h.st.time h.be h.st.lcr h.bc h.st.scr h.pow
    · simp only [List.length_append, List.length_cons, List.length_nil]; omega
    · intro y hy
      rcases List.mem_append.1 hy with q | q
      · exact h.st.o y q
      · simp at q; rw [q]; exact hc
  · exact h
theorem Sok.tak (r : Nat) (v : Int) (hv : 0 ≤ v) : Sok (S.tak r v) := by
  have hd : ∀ q : Nat, 8 ≤ q → S.tak q v = S := fun q hq => by
    match q, hq with
    | q + 8, _ => rfl
  by_cases hr : r < 8
  · rcases reg_cases hr with rfl | rfl | rfl | rfl | rfl | rfl | rfl | rfl
    · exact h.sen _ (by omega)
    · exact h.but rfl h.bi h.bo h.bm h.st.cmp h.st.time (by show 0 ≤ v % 16 ∧ v % 16 ≤ 15; omega) h.st.lcr h.bc h.st.scr h.pow
    · show Sok (if v / 2 % 2 = 1 then { S with inp := [] } else S)
      split
      · exact h.but rfl ⟨by simp, fun y hy => by cases hy⟩ h.bo h.bm h.st.cmp h.st.time h.be h.st.lcr h.bc h.st.scr h.pow
      · exact h
    · exact h.but rfl h.bi h.bo h.bm h.st.cmp h.st.time h.be (by show 0 ≤ v % 256 ∧ v % 256 ≤ 255; omega) h.bc h.st.scr h.pow
    · exact h.but rfl h.bi h.bo h.bm h.st.cmp h.st.time h.be h.st.lcr (by show 0 ≤ v % 32 ∧ v % 32 ≤ 31; omega) h.st.scr h.pow
    · exact h
    · exact h
    · exact h.but rfl h.bi h.bo h.bm h.st.cmp h.st.time h.be h.st.lcr h.bc (by show 0 ≤ v % 256 ∧ v % 256 ≤ 255; omega) h.pow
  · rw [hd r (by omega)]; exact h
theorem Sok.fin (v : Int) : Sok (S.fin v) := by
  unfold St.fin
  split
  · rename_i h0
    have hp := h.pow
    rw [h0] at hp
    split
    · refine h.but rfl h.bi h.bo h.bm h.st.cmp h.st.time h.be h.st.lcr h.bc h.st.scr ?_
      show powOk 1 S.code = true
      exact hp
    · split
      · refine h.but rfl h.bi h.bo h.bm h.st.cmp h.st.time h.be h.st.lcr h.bc h.st.scr ?_
        show powOk 2 (v / 65536 % 65536) = true
        unfold powOk
        rw [if_neg (by omega), if_pos rfl, decide_eq_true (by omega), decide_eq_true (by omega)]; rfl
      · exact h
  · exact h
theorem Sok.ram (k : Nat) (cs : List Int) (hk : k + cs.length ≤ S.ram.length) (hc : AllB cs) : Sok { S with ram := splice S.ram k cs } :=
  h.mk' (splice_len _ _ _ hk) (allB_splice k h.st.r hc) h.bi h.bo h.bm h.st.cmp h.st.time h.be h.st.lcr h.bc h.st.scr h.pow
theorem Sok.ld (a z : Int) : Sok (S.ld a z).2 := by
  rcases fnd_cases S.ram.length a z with hf | hf | hf | hf | hf | hf | hf
  all_goals simp only [St.ld, hf]
  all_goals first | exact h | exact h.tel _
theorem Sok.sto2 (a z v : Int) (hv : 0 ≤ v ∧ v ≤ 18446744073709551615) : Sok (S.sto2 a z v).2 := by
  rcases fnd_cases S.ram.length a z with hf | hf | hf | hf | hf | hf | hf
  · obtain ⟨k, s, rfl, rfl, hks, hs, h8⟩ := hasM_nat (fnd_zero hf)
    have e : S.sto2 (2147483648 + (k : Int)) s v = (true, S.put k s v.toNat) := by
      unfold St.sto2; rw [hf]; simp only; rw [show (2147483648 + (k : Int) - 2147483648).toNat = k by omega]; rfl
    rw [e]
    exact h.ram k (ptL v.toNat s) (by rw [ptL_length]; exact hks) (ptL_all _ _)
  · simp only [St.sto2, hf]; exact h.tak _ v hv.1
  · simp only [St.sto2, hf]; exact h.but rfl h.bi h.bo h.bm h.st.cmp (ctrW_ok h.st.time hv) h.be h.st.lcr h.bc h.st.scr h.pow
  · simp only [St.sto2, hf]; exact h.but rfl h.bi h.bo h.bm (ctrW_ok h.st.cmp hv) h.st.time h.be h.st.lcr h.bc h.st.scr h.pow
  · simp only [St.sto2, hf]; exact h.but rfl h.bi h.bo (by show 0 ≤ v % 2 ∧ v % 2 ≤ 1; omega) h.st.cmp h.st.time h.be h.st.lcr h.bc h.st.scr h.pow
  · simp only [St.sto2, hf]; exact h.fin v
  · simp only [St.sto2, hf]; exact h
theorem Sok.joi (l : List Int) (hl : AllB l) : (S.joi l).inp.length ≤ 64 ∧ AllB (S.joi l).inp := by
  have hb := h.bi
  unfold St.joi
  refine ⟨?_, ?_⟩
  · simp only [List.length_append, List.length_take]; omega
  · intro y hy
    rcases List.mem_append.1 hy with q | q
    · exact hb.2 y q
    · exact hl y (List.mem_of_mem_take q)
theorem Sok.beg (t e s : Bool) (l : List Int) (hl : AllB l) : Sok (S.beg t e s l) := by
  unfold St.beg
  split
  · refine h.but rfl (h.joi l hl) h.bo h.bm h.st.cmp ?_ h.be h.st.lcr h.bc h.st.scr h.pow
    show 0 ≤ (if t = true then (S.time + 1) % 18446744073709551616 else S.time) ∧ (if t = true then (S.time + 1) % 18446744073709551616 else S.time) ≤ 18446744073709551615
    have := h.st.time
    split <;> omega
  · exact h
theorem Sok.pok (a : Int) (l : List Int) (hl : AllB l) : Sok (S.pok a l) := by
  unfold St.pok
  split
  · rename_i hh
    have h2 := hh.2
    simp only [hld, Bool.and_eq_true, decide_eq_true_eq] at h2
    exact h.ram _ l (by omega) hl
  · exact h
end
theorem Sok.chg {S : St} (h : Sok S) {w0 : World} {x : Cal} (hx : CalOk w0 x) : Sok (S.chg x) := by
  unfold St.chg
  split
  · exact h.ld _ _
  · split
    · exact h.sto2 _ _ _ hx.v
    · split
      · exact h.beg _ _ _ _ hx.ia
      · split
        · exact h.pok _ _ hx.ba
        · exact h
end Go.Proofs.Ytghiabdkgfhdbaa
namespace Go.Proofs.Ytghiabdkgfhdbaa
set_option linter.unusedVariables false
open Go.ChangeShapes Go.WideShapes Go.ChangeAt Go.RowKit Go.Deep Go.MuLone
/-- What is known of both buses between two calls. -/
structure Okb (B : Nat) (L : Lay) (c : Nat) (S : St) (vr vi vo : Value) (w : World) : Prop where
  m : Md B L c S S vr vi vo w
  s : Sok S
/-- What a call keeps: every block that neither bus owns. -/
structure Kpd (B : Nat) (L : Lay) (c : Nat) (vr vi vo : Value) (w : World) (L' : Lay) (ur ui uo : Value) (w' : World) : Prop where
  be : Below B w w'
  x : ∀ k, k < w.heap.size → ¬ L.own k → ¬ Rown c vr vi vo k → w'.heap[k]? = w.heap[k]?
  o : ∀ k, k < w.heap.size → (L'.own k ∨ Rown c ur ui uo k) → (L.own k ∨ Rown c vr vi vo k)
section
variable {B c : Nat} {L L' : Lay} {S T : St} {vr vi vo ur ui uo : Value} {w W w1 w2 w3 : World}
theorem Kpd.n (hbW : Below w.heap.size w W) (hbe : Below B w W) : Kpd B L c vr vi vo w L vr vi vo W := ⟨hbe, fun k hk _ _ => hbW.block k hk, fun k _ h => h⟩
theorem Kpd.p (hbW : Below w.heap.size w W) (hq : Below W.heap.size W w1) (hs : PSt B L w1 L' T w2) (hbe : Below B w w2) : Kpd B L c vr vi vo w L' vr vi vo w2 :=
  ⟨hbe, fun k hk h1 _ => ((hs.x.block k (Nat.lt_of_lt_of_le hk (Nat.le_trans hbW.size hq.size)) h1).trans (hq.block k (Nat.lt_of_lt_of_le hk hbW.size))).trans (hbW.block k hk), fun k hk h => by
    rcases h with h | h
    · rcases hs.o k h with q | q
      · exact .inl q
      · have := hbW.size; have := hq.size; omega
    · exact .inr h⟩
theorem Kpd.r (h : Kpd B L c vr vi vo w L' vr vi vo w2) (hm : Md B L' c T S vr vi vo w2) (hs : RSt B c vr vi vo w2 ur ui uo T w3) : Kpd B L c vr vi vo w L' ur ui uo w3 :=
  ⟨h.be.trans (hs.below hm), fun k hk h1 h2 => (hs.x.block k (Nat.lt_of_lt_of_le hk h.be.size) h2).trans (h.x k hk h1 h2), fun k hk q => by
    rcases q with q | q
    · exact h.o k hk (.inl q)
    · rcases hs.o k q with q | q
      · exact h.o k hk (.inr q)
      · have := h.be.size; omega⟩
end
/-- Behind a call. -/
def Chd (B : Nat) (L : Lay) (c : Nat) (vr vi vo : Value) (T : St) (w w' : World) : Prop := ∃ L' ur ui uo, Okb B L' c T ur ui uo w' ∧ L'.b = L.b ∧ Kpd B L c vr vi vo w L' ur ui uo w'
theorem own_N {B c : Nat} {L : Lay} {S T : St} {vr vi vo : Value} {w : World} (h : Md B L c S T vr vi vo w) : (∀ k, L.own k → k < w.heap.size) ∧ (∀ k, Rown c vr vi vo k → k < w.heap.size) := ⟨fun k hk => h.p.own_hi k hk, fun k hk => (Rown_lt h.r hk).2⟩
set_option maxRecDepth 100000 in
set_option maxHeartbeats 4000000 in
theorem changes_1 {B c : Nat} {L : Lay} {S : St} {vr vi vo : Value} (w w0 : World) (h : Okb B L c S vr vi vo w) (hB : B = w0.heap.size) (hb0 : Below B w0 w) (x : Cal) (hx : CalOk w0 x) :
    Calls Try.prog 24 #[.agg #[.pointer (some ⟨L.b, 0, none⟩), .pointer (some ⟨c, 0, none⟩)], .agg #[.int .i64 1, .int .u64 x.a, .int .i64 x.n, .int .u64 x.v, .slice x.ab x.b.length x.cb, .bool x.t, .bool x.e, .bool x.s, .slice x.ai x.i.length x.ci]] w fun e w' => e = .returned (.bool true) ∧ Chd B L c vr vi vo ((S.ld x.a x.n).2) w w' := by
  obtain ⟨W, hW⟩ : ∃ W, (w.alloc (.cells #[.pointer (some ⟨L.b, 0, none⟩), .pointer (some ⟨c, 0, none⟩)] 58)).alloc (.cells #[.int .i64 1, .int .u64 x.a, .int .i64 x.n, .int .u64 x.v, .slice x.ab x.b.length x.cb, .bool x.t, .bool x.e, .bool x.s, .slice x.ai x.i.length x.ci] 45) = W := ⟨_, rfl⟩
  have hbW : Below w.heap.size w W := by rw [← hW]; exact below2 w _ _
  have r1 : W.heap[w.heap.size]? = some (.cells #[.pointer (some ⟨L.b, 0, none⟩), .pointer (some ⟨c, 0, none⟩)] 58 (0, 0)) := by rw [← hW]; exact (Below.heap_alloc _ _ _ (by simp)).trans (heap_alloc_new w _)
  have r2 : W.heap[w.heap.size + 1]? = some (.cells #[.int .i64 1, .int .u64 x.a, .int .i64 x.n, .int .u64 x.v, .slice x.ab x.b.length x.cb, .bool x.t, .bool x.e, .bool x.s, .slice x.ai x.i.length x.ci] 45 (0, 0)) := by rw [← hW]; have := heap_alloc_new (w.alloc (.cells #[.pointer (some ⟨L.b, 0, none⟩), .pointer (some ⟨c, 0, none⟩)] 58)) (.cells #[.int .i64 1, .int .u64 x.a, .int .i64 x.n, .int .u64 x.v, .slice x.ab x.b.length x.cb, .bool x.t, .bool x.e, .bool x.s, .slice x.ai x.i.length x.ci] 45); simpa using this
  have hM := h.m.later hbW
  have hn := h.s.n
  have hO := own_N h.m
  have HBW : Hid (Below B w W) := hbW.mono (Nat.le_trans h.m.r.l (Nat.le_of_lt h.m.r.lt))
  have HSO : Hid (Sok S) := h.s
  have HP : Hid (Calls Try.prog 17 #[.pointer (some ⟨L.b, 0, none⟩), .int .u64 x.a, .int .i64 x.n] W fun e w' => e = .returned (.tuple #[.int .u64 (S.ld x.a x.n).1.1, .bool (S.ld x.a x.n).1.2]) ∧ ∃ L', PSt B L W L' (S.ld x.a x.n).2 w') := Load_c W hM.p hn.1 x.a x.n hx.a hx.n h.s.st hn.2.2.1
  have HR : Hid (∀ w2 L', Md B L' c (S.ld x.a x.n).2 S vr vi vo w2 → Calls Try.prog 45 #[.pointer (some ⟨c, 0, none⟩), .int .u64 x.a, .int .i64 x.n] w2 fun e w' => e = .returned (.tuple #[.int .u64 (S.ld x.a x.n).1.1, .bool (S.ld x.a x.n).1.2]) ∧ ∃ ur ui uo, RSt B c vr vi vo w2 ur ui uo (S.ld x.a x.n).2 w') := fun w2 L' hm => rLoad_c w2 hm.r hn.1 x.a x.n hx.a hx.n h.s.st hn.2.2.1
  have HT2 : Hid (Sok (S.ld x.a x.n).2) := h.s.ld x.a x.n
  have HK : Hid (∀ L' w2, PSt B L W L' (S.ld x.a x.n).2 w2 → Md B L' c (S.ld x.a x.n).2 S vr vi vo w2 ∧ Kpd B L c vr vi vo w L' vr vi vo w2 ∧ L'.b = L.b ∧ w2.cell? ⟨w.heap.size, 1, none⟩ = some (.pointer (some ⟨c, 0, none⟩)) ∧ w2.cell? ⟨w.heap.size + 1, 1, none⟩ = some (.int .u64 x.a) ∧ w2.cell? ⟨w.heap.size + 1, 2, none⟩ = some (.int .i64 x.n)) := fun L' w2 hs => by
    have hk := hs.keep (N := w.heap.size) hM hO.1
    have k1 := hk.row r1 (.inl (Nat.le_refl _))
    have k2 := hk.row r2 (.inl (Nat.le_succ _))
    exact ⟨hM.stepP hs, Kpd.p hbW (Below.refl _ _) hs (HBW.out.trans (hs.below hM)), hs.b.1, cell_of_row w2 _ 1 _ _ _ k1, cell_of_row w2 _ 1 _ _ _ k2, cell_of_row w2 _ 2 _ _ _ k2⟩
  generalize (S.ld x.a x.n).1.1 = y at HP HR
  generalize (S.ld x.a x.n).1.2 = bl at HP HR
  generalize (S.ld x.a x.n).2 = T at HP HR HT2 HK ⊢
  have hyy : (y == y) = true := by simp
  have hbb : (bl == bl) = true := by simp
  have b0 : W.cell? ⟨w.heap.size, 0, none⟩ = some (.pointer (some ⟨L.b, 0, none⟩)) := cell_of_row W _ 0 _ _ _ r1
  have o0 : W.cell? ⟨w.heap.size + 1, 0, none⟩ = some (.int .i64 1) := cell_of_row W _ 0 _ _ _ r2
  have o1 : W.cell? ⟨w.heap.size + 1, 1, none⟩ = some (.int .u64 x.a) := cell_of_row W _ 1 _ _ _ r2
  have o2 : W.cell? ⟨w.heap.size + 1, 2, none⟩ = some (.int .i64 x.n) := cell_of_row W _ 2 _ _ _ r2
  have o3 : W.cell? ⟨w.heap.size + 1, 3, none⟩ = some (.int .u64 x.v) := cell_of_row W _ 3 _ _ _ r2
  clear h hB hb0 hx hbW r1 r2 hM hn hO
  go_enter Try.func24, Try.ntmps24
  go_upto_region 1 with fail
  clear hW
  go_wp2_with (first | (go_at_call 17; refine HP.out.mono ?_; rintro e w2 ⟨rfl, L', hs⟩; obtain ⟨hm2, hb2, hlb, p1, q1, q2⟩ := HK.out L' w2 hs; have HM2 : Hid _ := hm2; have HB2 : Hid _ := hb2; have HLB : Hid _ := hlb; clear hs hm2 hb2 hlb) | (go_at_call 45; refine (HR.out w2 L' HM2.out).mono ?_; rintro e w3 ⟨rfl, ur, ui, uo, hs⟩; have HS3 : Hid _ := hs; clear hs))
  go_ret
  exact ⟨rfl, L', ur, ui, uo, ⟨HM2.out.stepR HS3.out, HT2.out⟩, HLB.out, HB2.out.r HM2.out HS3.out⟩
set_option maxRecDepth 100000 in
set_option maxHeartbeats 4000000 in
theorem changes_2 {B c : Nat} {L : Lay} {S : St} {vr vi vo : Value} (w w0 : World) (h : Okb B L c S vr vi vo w) (hB : B = w0.heap.size) (hb0 : Below B w0 w) (x : Cal) (hx : CalOk w0 x) :
    Calls Try.prog 24 #[.agg #[.pointer (some ⟨L.b, 0, none⟩), .pointer (some ⟨c, 0, none⟩)], .agg #[.int .i64 2, .int .u64 x.a, .int .i64 x.n, .int .u64 x.v, .slice x.ab x.b.length x.cb, .bool x.t, .bool x.e, .bool x.s, .slice x.ai x.i.length x.ci]] w fun e w' => e = .returned (.bool true) ∧ Chd B L c vr vi vo ((S.sto2 x.a x.n x.v).2) w w' := by
  obtain ⟨W, hW⟩ : ∃ W, (w.alloc (.cells #[.pointer (some ⟨L.b, 0, none⟩), .pointer (some ⟨c, 0, none⟩)] 58)).alloc (.cells #[.int .i64 2, .int .u64 x.a, .int .i64 x.n, .int .u64 x.v, .slice x.ab x.b.length x.cb, .bool x.t, .bool x.e, .bool x.s, .slice x.ai x.i.length x.ci] 45) = W := ⟨_, rfl⟩
  have hbW : Below w.heap.size w W := by rw [← hW]; exact below2 w _ _
  have r1 : W.heap[w.heap.size]? = some (.cells #[.pointer (some ⟨L.b, 0, none⟩), .pointer (some ⟨c, 0, none⟩)] 58 (0, 0)) := by rw [← hW]; exact (Below.heap_alloc _ _ _ (by simp)).trans (heap_alloc_new w _)
  have r2 : W.heap[w.heap.size + 1]? = some (.cells #[.int .i64 2, .int .u64 x.a, .int .i64 x.n, .int .u64 x.v, .slice x.ab x.b.length x.cb, .bool x.t, .bool x.e, .bool x.s, .slice x.ai x.i.length x.ci] 45 (0, 0)) := by rw [← hW]; have := heap_alloc_new (w.alloc (.cells #[.pointer (some ⟨L.b, 0, none⟩), .pointer (some ⟨c, 0, none⟩)] 58)) (.cells #[.int .i64 2, .int .u64 x.a, .int .i64 x.n, .int .u64 x.v, .slice x.ab x.b.length x.cb, .bool x.t, .bool x.e, .bool x.s, .slice x.ai x.i.length x.ci] 45); simpa using this
  have hM := h.m.later hbW
  have hn := h.s.n
  have hO := own_N h.m
  have HBW : Hid (Below B w W) := hbW.mono (Nat.le_trans h.m.r.l (Nat.le_of_lt h.m.r.lt))
  have HSO : Hid (Sok S) := h.s
  obtain ⟨y0, hy0⟩ := n64_of (n := x.v) (WalkArith.wf_u64 hx.v)
  have HP : Hid (Calls Try.prog 19 #[.pointer (some ⟨L.b, 0, none⟩), .int .u64 x.a, .int .i64 x.n, .int .u64 x.v] W fun e w' => e = .returned (.bool (S.sto2 x.a x.n x.v).1) ∧ ∃ L', PSt B L W L' (S.sto2 x.a x.n x.v).2 w') := (by rw [hy0]; exact Store_c W hM.p hn.1 x.a x.n hx.a hx.n h.s.st y0)
  have HR : Hid (∀ w2 L', Md B L' c (S.sto2 x.a x.n x.v).2 S vr vi vo w2 → Calls Try.prog 46 #[.pointer (some ⟨c, 0, none⟩), .int .u64 x.a, .int .i64 x.n, .int .u64 x.v] w2 fun e w' => e = .returned (.bool (S.sto2 x.a x.n x.v).1) ∧ ∃ ur ui uo, RSt B c vr vi vo w2 ur ui uo (S.sto2 x.a x.n x.v).2 w') := fun w2 L' hm => rStore_c w2 hm.r hn.1 x.a x.n hx.a hx.n h.s.st x.v hx.v
  have HT2 : Hid (Sok (S.sto2 x.a x.n x.v).2) := h.s.sto2 x.a x.n x.v hx.v
  have HK : Hid (∀ L' w2, PSt B L W L' (S.sto2 x.a x.n x.v).2 w2 → Md B L' c (S.sto2 x.a x.n x.v).2 S vr vi vo w2 ∧ Kpd B L c vr vi vo w L' vr vi vo w2 ∧ L'.b = L.b ∧ w2.cell? ⟨w.heap.size, 1, none⟩ = some (.pointer (some ⟨c, 0, none⟩)) ∧ w2.cell? ⟨w.heap.size + 1, 1, none⟩ = some (.int .u64 x.a) ∧ w2.cell? ⟨w.heap.size + 1, 2, none⟩ = some (.int .i64 x.n) ∧ w2.cell? ⟨w.heap.size + 1, 3, none⟩ = some (.int .u64 x.v)) := fun L' w2 hs => by
    have hk := hs.keep (N := w.heap.size) hM hO.1
    have k1 := hk.row r1 (.inl (Nat.le_refl _))
    have k2 := hk.row r2 (.inl (Nat.le_succ _))
    exact ⟨hM.stepP hs, Kpd.p hbW (Below.refl _ _) hs (HBW.out.trans (hs.below hM)), hs.b.1, cell_of_row w2 _ 1 _ _ _ k1, cell_of_row w2 _ 1 _ _ _ k2, cell_of_row w2 _ 2 _ _ _ k2, cell_of_row w2 _ 3 _ _ _ k2⟩
  generalize (S.sto2 x.a x.n x.v).1 = bl at HP HR
  generalize (S.sto2 x.a x.n x.v).2 = T at HP HR HT2 HK ⊢
  have hbb : (bl == bl) = true := by simp
  have b0 : W.cell? ⟨w.heap.size, 0, none⟩ = some (.pointer (some ⟨L.b, 0, none⟩)) := cell_of_row W _ 0 _ _ _ r1
  have o0 : W.cell? ⟨w.heap.size + 1, 0, none⟩ = some (.int .i64 2) := cell_of_row W _ 0 _ _ _ r2
  have o1 : W.cell? ⟨w.heap.size + 1, 1, none⟩ = some (.int .u64 x.a) := cell_of_row W _ 1 _ _ _ r2
  have o2 : W.cell? ⟨w.heap.size + 1, 2, none⟩ = some (.int .i64 x.n) := cell_of_row W _ 2 _ _ _ r2
  have o3 : W.cell? ⟨w.heap.size + 1, 3, none⟩ = some (.int .u64 x.v) := cell_of_row W _ 3 _ _ _ r2
  clear h hB hb0 hx hbW r1 r2 hM hn hO hy0
  go_enter Try.func24, Try.ntmps24
  go_upto_region 1 with fail
  clear hW
  go_wp2_with (first | (go_at_call 19; refine HP.out.mono ?_; rintro e w2 ⟨rfl, L', hs⟩; obtain ⟨hm2, hb2, hlb, p1, q1, q2, q3⟩ := HK.out L' w2 hs; have HM2 : Hid _ := hm2; have HB2 : Hid _ := hb2; have HLB : Hid _ := hlb; clear hs hm2 hb2 hlb) | (go_at_call 46; refine (HR.out w2 L' HM2.out).mono ?_; rintro e w3 ⟨rfl, ur, ui, uo, hs⟩; have HS3 : Hid _ := hs; clear hs))
  go_ret
  exact ⟨rfl, L', ur, ui, uo, ⟨HM2.out.stepR HS3.out, HT2.out⟩, HLB.out, HB2.out.r HM2.out HS3.out⟩
end Go.Proofs.Ytghiabdkgfhdbaa
namespace Go.Proofs.Ytghiabdkgfhdbaa
set_option linter.unusedVariables false
open Go.ChangeShapes Go.WideShapes Go.ChangeAt Go.RowKit Go.Deep Go.MuLone
theorem worldSize : (Try.prog.info? 43).map (·.size) = some 4 := by kernel_rfl
set_option maxRecDepth 100000 in
set_option maxHeartbeats 2000000 in
theorem world_c (t e s : Bool) (v : Value) (l : List Int) (w : World) (hv : Byt w v l) (hl : l.length ≤ 140737488351232) :
    Calls Try.prog 16 #[.agg #[.bool t, .bool e, .bool s, v]] w fun e' w' => ∃ a9 n9 c9, e' = .returned (.agg #[.bool t, .bool e, .bool s, .slice a9 n9 c9]) ∧ w'.ownsRow w.heap.size 5 1 (.slice a9 n9 c9) l.length (bv l) ∧ Below w.heap.size w w' := by
  obtain ⟨W, hW⟩ : ∃ W, (w.alloc (.cells #[.bool t, .bool e, .bool s, v] 43)).alloc (.cells #[.bool false, .bool false, .bool false, .slice none 0 0] 43) = W := ⟨_, rfl⟩
  have hb : Below w.heap.size w W := by rw [← hW]; exact below2 w _ _
  have r1 : W.heap[w.heap.size]? = some (.cells #[.bool t, .bool e, .bool s, v] 43 (0, 0)) := by rw [← hW]; exact (Below.heap_alloc _ _ _ (by simp)).trans (heap_alloc_new w _)
  have r2 : W.heap[w.heap.size + 1]? = some (.cells #[.bool false, .bool false, .bool false, .slice none 0 0] 43 (0, 0)) := by rw [← hW]; have := heap_alloc_new (w.alloc (.cells #[.bool t, .bool e, .bool s, v] 43)) (.cells #[.bool false, .bool false, .bool false, .slice none 0 0] 43); simpa using this
  have HBY : Hid (Byt W v l) := hv.later hb rfl
  have HR1 : Hid (W.heap[w.heap.size]? = some (.cells #[.bool t, .bool e, .bool s, v] 43 (0, 0))) := r1
  have HR2 : Hid (W.heap[w.heap.size + 1]? = some (.cells #[.bool false, .bool false, .bool false, .slice none 0 0] 43 (0, 0))) := r2
  have HB : Hid (Below w.heap.size w W) := hb
  have HLL : Hid (([] : List Int).length + l.length ≤ 140737488355328) := by unfold Hid; show 0 + l.length ≤ _; omega
  obtain ⟨av, cv, ev, _⟩ := hv
  subst ev
  have o3 : W.cell? ⟨w.heap.size, 3, none⟩ = some (.slice av l.length cv) := cell_of_row W _ 3 _ _ _ r1
  clear hb r1 r2
  go_enter Try.func16, Try.ntmps16
  go_upto_region 1 with fail
  clear hW
  go_wp2_with (at_builtin; refine appA (by rfl) _ _ (by rfl) w.heap.size (.slice none 0 0) _ [] l (by rfl) (World.ownsRow_nil _ _ _ _) (by rfl) HBY.out HLL.out HB.out.size ?_; intro v' w2 ho hg hl2; obtain ⟨a9, c9, e9, _⟩ := Byt.of_own ho; obtain ⟨n9, hn9⟩ : ∃ n, n = l.length := ⟨_, rfl⟩; have e9' : v' = .slice a9 n9 c9 := (by rw [hn9]; exact e9); clear hn9 e9; subst e9'; have HO : Hid (w2.ownsRow w.heap.size 5 1 (.slice a9 n9 c9) l.length (bv l)) := ho; have HG : Hid (World.grownBy W w2 none) := hg; have k1 : w2.heap[w.heap.size]? = some (.cells #[.bool t, .bool e, .bool s, .slice av l.length cv] 43 (0, 0)) := (HG.out.block _ (Array.getElem?_eq_some_iff.1 HR1.out).1 (fun e => by cases e)).trans HR1.out; have k2 : w2.heap[w.heap.size + 1]? = some (.cells #[.bool false, .bool false, .bool false, .slice none 0 0] 43 (0, 0)) := (HG.out.block _ (Array.getElem?_eq_some_iff.1 HR2.out).1 (fun e => by cases e)).trans HR2.out; have HK1 : Hid _ := k1; have HK2 : Hid _ := k2; have d0 := cell_of_row w2 _ 0 _ _ _ k1; have d1 := cell_of_row w2 _ 1 _ _ _ k1; have d2 := cell_of_row w2 _ 2 _ _ _ k1; have d3 := cell_of_row w2 _ 3 _ _ _ k1; have g3 := frozen_of_row w2 _ 3 _ _ k1; have e0 := cell_of_row w2 _ 0 _ _ _ k2; have e1 := cell_of_row w2 _ 1 _ _ _ k2; have e2 := cell_of_row w2 _ 2 _ _ _ k2; have e3 := cell_of_row w2 _ 3 _ _ _ k2; have f0 := frozen_of_row w2 _ 0 _ _ k2; have f1 := frozen_of_row w2 _ 1 _ _ k2; have f2 := frozen_of_row w2 _ 2 _ _ k2; have f3 := frozen_of_row w2 _ 3 _ _ k2; clear ho hg hl2 k1 k2)
  have k1 : w2.heap[w.heap.size]? = some (.cells #[.bool t, .bool e, .bool s, .slice av l.length cv] 43 (0, 0)) := HK1.out
  have k2 : w2.heap[w.heap.size + 1]? = some (.cells #[.bool false, .bool false, .bool false, .slice none 0 0] 43 (0, 0)) := HK2.out
  have q1 := (heap_setCell_other w2 ⟨w.heap.size, 3, none⟩ (w.heap.size + 1) (.slice a9 n9 c9) (by show w.heap.size + 1 ≠ w.heap.size; omega)).trans k2
  have q2 := heap_setCell_same _ (w.heap.size + 1) 0 _ _ (.bool t) q1
  have q3 := heap_setCell_same _ (w.heap.size + 1) 1 _ _ (.bool e) q2
  have q4 := heap_setCell_same _ (w.heap.size + 1) 2 _ _ (.bool s) q3
  have q5 := heap_setCell_same _ (w.heap.size + 1) 3 _ _ (.slice a9 n9 c9) q4
  have p1 := own_apart_set (j := 3) (v := .slice a9 n9 c9) HO.out k1 (by decide)
  have p2 := own_apart_set (j := 0) (v := .bool t) p1 q1 (by decide)
  have p3 := own_apart_set (j := 1) (v := .bool e) p2 q2 (by decide)
  have p4 := own_apart_set (j := 2) (v := .bool s) p3 q3 (by decide)
  have p5 := own_apart_set (j := 3) (v := .slice a9 n9 c9) p4 q4 (by decide)
  have hb2 : Below w.heap.size w w2 := HB.out.trans ⟨HG.out.os, HG.out.tape, HG.out.output, HG.out.size, fun k hk => HG.out.block k (Nat.lt_of_lt_of_le hk HB.out.size) (fun e => by cases e)⟩
  have hb3 := Below.setCell (Below.setCell (Below.setCell (Below.setCell (Below.setCell hb2 (p := ⟨w.heap.size, 3, none⟩) (Nat.le_refl _) (.slice a9 n9 c9)) (p := ⟨w.heap.size + 1, 0, none⟩) (Nat.le_succ _) (.bool t)) (p := ⟨w.heap.size + 1, 1, none⟩) (Nat.le_succ _) (.bool e)) (p := ⟨w.heap.size + 1, 2, none⟩) (Nat.le_succ _) (.bool s)) (p := ⟨w.heap.size + 1, 3, none⟩) (Nat.le_succ _) (.slice a9 n9 c9)
  refine bodyPost_ret (v := .agg #[.bool t, .bool e, .bool s, .slice a9 n9 c9]) (results_cell_row Try.results16 _ _ (w.heap.size + 1) 43 _ (0, 0) _ (by rfl) q5 Try.underlying43 (by rfl) worldSize) rfl ?_
  exact ⟨a9, n9, c9, rfl, p5, hb3⟩
end Go.Proofs.Ytghiabdkgfhdbaa
namespace Go.Proofs.Ytghiabdkgfhdbaa
set_option linter.unusedVariables false
open Go.ChangeShapes Go.WideShapes Go.ChangeAt Go.RowKit Go.Deep Go.MuLone
theorem Begin_c {B : Nat} {L : Lay} {S : St} (w : World) (h : PB B L S w) (t e s : Bool) (v : Value) (l : List Int) (hv : Byt w v l) (hl : l.length ≤ 140737488351232) (h64 : S.inp.length ≤ 64) (hap : ∀ g off n c, v = .slice (some ⟨g, off, none⟩) n c → ¬ L.own g) :
    Calls Try.prog 15 #[.pointer (some ⟨L.b, 0, none⟩), .agg #[.bool t, .bool e, .bool s, v]] w fun e' w' => e' = .returned (.tuple #[]) ∧ ∃ L', PSt B L w L' (S.beg t e s l) w' := by
  by_cases ho : S.off = 0
  · exact Begin_on w h t e s v l ho hv hl h64 hap
  · exact Begin_off w h t e s v l ho
theorem rBegin_c {B c : Nat} {S : St} {vr vi vo : Value} (w : World) (h : RB B c S vr vi vo w) (t e s : Bool) (v : Value) (l : List Int) (hv : Byt w v l) (hl : l.length ≤ 140737488351232) (h64 : S.inp.length ≤ 64) (hap : l ≠ [] → ∀ g off n c', v = .slice (some ⟨g, off, none⟩) n c' → ¬ Rown c vr vi vo g) :
    Calls Try.prog 47 #[.pointer (some ⟨c, 0, none⟩), .agg #[.bool t, .bool e, .bool s, v]] w fun e' w' => e' = .returned (.tuple #[]) ∧ ∃ ur ui uo, RSt B c vr vi vo w ur ui uo (S.beg t e s l) w' := by
  by_cases ho : S.off = 0
  · exact (rBegin_on w h t e s v l ho hv hl h64 hap).mono fun e' w' ⟨he, ui, hs⟩ => ⟨he, vr, ui, vo, hs⟩
  · exact (rBegin_off w h t e s v l ho).mono fun e' w' ⟨he, hs⟩ => ⟨he, vr, vi, vo, hs⟩
/-- What Poke answers. -/
def pokE (S : St) (a : Int) (l : List Int) : Int := if l = [] ∨ hld S.ram.length a l.length = true then 0 else 30
theorem Poke_c {B : Nat} {L : Lay} {S : St} (w : World) (h : PB B L S w) (hn : S.ram.length ≤ 65536) (a : Int) (ha : 0 ≤ a ∧ a ≤ 18446744073709551615) (v : Value) (l : List Int) (hv : Byt w v l) (hl : l.length ≤ 140737488351232) :
    Calls Try.prog 20 #[.pointer (some ⟨L.b, 0, none⟩), .int .u64 a, v] w fun e w' => e = .returned (.int .i64 (pokE S a l)) ∧ ∃ L', PSt B L w L' (S.pok a l) w' := by
  by_cases h0 : l = []
  · subst h0
    have e1 : pokE S a [] = 0 := by simp [pokE]
    have e2 : S.pok a [] = S := by simp [St.pok]
    rw [e1, e2]
    exact (poke_none w h a v hv).mono fun e w' ⟨he, hb⟩ => ⟨he, L, .quiet h hb⟩
  · have hp : 0 < l.length := by cases l with | nil => exact absurd rfl h0 | cons => simp
    by_cases hf : hld S.ram.length a l.length = true
    · have hh := hf
      simp only [hld, Bool.and_eq_true, decide_eq_true_eq] at hh
      obtain ⟨k, rfl⟩ : ∃ k : Nat, a = 2147483648 + (k : Int) := ⟨(a - 2147483648).toNat, by omega⟩
      have e1 : pokE S (2147483648 + (k : Int)) l = 0 := by unfold pokE; rw [if_pos (.inr hf)]
      have e2 : S.pok (2147483648 + (k : Int)) l = { S with ram := splice S.ram k l } := by
        unfold St.pok; rw [if_pos ⟨h0, hf⟩, show (2147483648 + (k : Int) - 2147483648).toNat = k by omega]
      rw [e1, e2]
      exact (poke_in w h hn k v l hv hp (by omega)).mono fun e w' ⟨he, hb, hx⟩ => ⟨he, L, .same hb hx⟩
    · have hf2 : hld S.ram.length a l.length = false := by simpa using hf
      have e1 : pokE S a l = 30 := by unfold pokE; rw [if_neg (by rintro (q | q); exact h0 q; exact hf q)]
      have e2 : S.pok a l = S := by unfold St.pok; rw [if_neg (fun q => hf q.2)]
      rw [e1, e2]
      exact (poke_out w h hn a v l hv hp (by omega) ha hf2).mono fun e w' ⟨he, hb⟩ => ⟨he, L, .quiet h hb⟩
theorem rPoke_c {B c : Nat} {S : St} {vr vi vo : Value} (w : World) (h : RB B c S vr vi vo w) (hn : S.ram.length ≤ 65536) (a : Int) (ha : 0 ≤ a ∧ a ≤ 18446744073709551615) (v : Value) (l : List Int) (hv : Byt w v l) (hl : l.length ≤ 140737488351232) (hap : l ≠ [] → ∀ g off n c', v = .slice (some ⟨g, off, none⟩) n c' → ¬ Rown c vr vi vo g) :
    Calls Try.prog 48 #[.pointer (some ⟨c, 0, none⟩), .int .u64 a, v] w fun e w' => e = .returned (.int .i64 (pokE S a l)) ∧ ∃ ur ui uo, RSt B c vr vi vo w ur ui uo (S.pok a l) w' := by
  by_cases h0 : l = []
  · subst h0
    have e1 : pokE S a [] = 0 := by simp [pokE]
    have e2 : S.pok a [] = S := by simp [St.pok]
    rw [e1, e2]
    exact (rpoke_none w h a v hv).mono fun e w' ⟨he, hb⟩ => ⟨he, vr, vi, vo, by rw [hb]; exact .quiet h (Below.refl _ _)⟩
  · have hp : 0 < l.length := by cases l with | nil => exact absurd rfl h0 | cons => simp
    by_cases hf : hld S.ram.length a l.length = true
    · have hh := hf
      simp only [hld, Bool.and_eq_true, decide_eq_true_eq] at hh
      obtain ⟨k, rfl⟩ : ∃ k : Nat, a = 2147483648 + (k : Int) := ⟨(a - 2147483648).toNat, by omega⟩
      have e1 : pokE S (2147483648 + (k : Int)) l = 0 := by unfold pokE; rw [if_pos (.inr hf)]
      have e2 : S.pok (2147483648 + (k : Int)) l = { S with ram := splice S.ram k l } := by
        unfold St.pok; rw [if_pos ⟨h0, hf⟩, show (2147483648 + (k : Int) - 2147483648).toNat = k by omega]
      rw [e1, e2]
      exact (rpoke_in w h hn k v l hv hp (by omega) (hap h0)).mono fun e w' ⟨he, hs⟩ => ⟨he, vr, vi, vo, hs⟩
    · have hf2 : hld S.ram.length a l.length = false := by simpa using hf
      have e1 : pokE S a l = 30 := by unfold pokE; rw [if_neg (by rintro (q | q); exact h0 q; exact hf q)]
      have e2 : S.pok a l = S := by unfold St.pok; rw [if_neg (fun q => hf q.2)]
      rw [e1, e2]
      exact (rpoke_out w h hn a ha v l hv hp (by omega) hf2).mono fun e w' ⟨he, hb⟩ => ⟨he, vr, vi, vo, by rw [hb]; exact .quiet h (Below.refl _ _)⟩
set_option maxRecDepth 100000 in
set_option maxHeartbeats 4000000 in
theorem changes_no {B c : Nat} {L : Lay} {S : St} {vr vi vo : Value} (w w0 : World) (h : Okb B L c S vr vi vo w) (hB : B = w0.heap.size) (hb0 : Below B w0 w) (x : Cal) (hx : CalOk w0 x) (hk : x.k ≠ 1 ∧ x.k ≠ 2 ∧ x.k ≠ 3 ∧ x.k ≠ 7) :
    Calls Try.prog 24 #[.agg #[.pointer (some ⟨L.b, 0, none⟩), .pointer (some ⟨c, 0, none⟩)], .agg #[.int .i64 x.k, .int .u64 x.a, .int .i64 x.n, .int .u64 x.v, .slice x.ab x.b.length x.cb, .bool x.t, .bool x.e, .bool x.s, .slice x.ai x.i.length x.ci]] w fun e w' => e = .returned (.bool true) ∧ Chd B L c vr vi vo (S) w w' := by
  obtain ⟨W, hW⟩ : ∃ W, (w.alloc (.cells #[.pointer (some ⟨L.b, 0, none⟩), .pointer (some ⟨c, 0, none⟩)] 58)).alloc (.cells #[.int .i64 x.k, .int .u64 x.a, .int .i64 x.n, .int .u64 x.v, .slice x.ab x.b.length x.cb, .bool x.t, .bool x.e, .bool x.s, .slice x.ai x.i.length x.ci] 45) = W := ⟨_, rfl⟩
  have hbW : Below w.heap.size w W := by rw [← hW]; exact below2 w _ _
  have r1 : W.heap[w.heap.size]? = some (.cells #[.pointer (some ⟨L.b, 0, none⟩), .pointer (some ⟨c, 0, none⟩)] 58 (0, 0)) := by rw [← hW]; exact (Below.heap_alloc _ _ _ (by simp)).trans (heap_alloc_new w _)
  have r2 : W.heap[w.heap.size + 1]? = some (.cells #[.int .i64 x.k, .int .u64 x.a, .int .i64 x.n, .int .u64 x.v, .slice x.ab x.b.length x.cb, .bool x.t, .bool x.e, .bool x.s, .slice x.ai x.i.length x.ci] 45 (0, 0)) := by rw [← hW]; have := heap_alloc_new (w.alloc (.cells #[.pointer (some ⟨L.b, 0, none⟩), .pointer (some ⟨c, 0, none⟩)] 58)) (.cells #[.int .i64 x.k, .int .u64 x.a, .int .i64 x.n, .int .u64 x.v, .slice x.ab x.b.length x.cb, .bool x.t, .bool x.e, .bool x.s, .slice x.ai x.i.length x.ci] 45); simpa using this
  have hM := h.m.later hbW
  have hn := h.s.n
  have hO := own_N h.m
  have HBW : Hid (Below B w W) := hbW.mono (Nat.le_trans h.m.r.l (Nat.le_of_lt h.m.r.lt))
  have HSO : Hid (Sok S) := h.s
  have o0 : W.cell? ⟨w.heap.size + 1, 0, none⟩ = some (.int .i64 x.k) := cell_of_row W _ 0 _ _ _ r2
  have HM : Hid (Md B L c S S vr vi vo W) := hM
  have HKN : Hid (Kpd B L c vr vi vo w L vr vi vo W) := Kpd.n hbW HBW.out
  obtain ⟨k1, k2, k3, k7⟩ := hk
  clear h hB hb0 hx hbW r1 r2 hM hn hO
  go_enter Try.func24, Try.ntmps24
  go_upto_region 1 with fail
  clear hW
  go_wp2
  go_ret
  exact ⟨rfl, L, vr, vi, vo, ⟨HM.out, HSO.out⟩, rfl, HKN.out⟩
set_option maxRecDepth 100000 in
set_option maxHeartbeats 4000000 in
theorem changes_7 {B c : Nat} {L : Lay} {S : St} {vr vi vo : Value} (w w0 : World) (h : Okb B L c S vr vi vo w) (hB : B = w0.heap.size) (hb0 : Below B w0 w) (x : Cal) (hx : CalOk w0 x) :
    Calls Try.prog 24 #[.agg #[.pointer (some ⟨L.b, 0, none⟩), .pointer (some ⟨c, 0, none⟩)], .agg #[.int .i64 7, .int .u64 x.a, .int .i64 x.n, .int .u64 x.v, .slice x.ab x.b.length x.cb, .bool x.t, .bool x.e, .bool x.s, .slice x.ai x.i.length x.ci]] w fun e w' => e = .returned (.bool true) ∧ Chd B L c vr vi vo (S.pok x.a x.b) w w' := by
  obtain ⟨W, hW⟩ : ∃ W, (w.alloc (.cells #[.pointer (some ⟨L.b, 0, none⟩), .pointer (some ⟨c, 0, none⟩)] 58)).alloc (.cells #[.int .i64 7, .int .u64 x.a, .int .i64 x.n, .int .u64 x.v, .slice x.ab x.b.length x.cb, .bool x.t, .bool x.e, .bool x.s, .slice x.ai x.i.length x.ci] 45) = W := ⟨_, rfl⟩
  have hbW : Below w.heap.size w W := by rw [← hW]; exact below2 w _ _
  have r1 : W.heap[w.heap.size]? = some (.cells #[.pointer (some ⟨L.b, 0, none⟩), .pointer (some ⟨c, 0, none⟩)] 58 (0, 0)) := by rw [← hW]; exact (Below.heap_alloc _ _ _ (by simp)).trans (heap_alloc_new w _)
  have r2 : W.heap[w.heap.size + 1]? = some (.cells #[.int .i64 7, .int .u64 x.a, .int .i64 x.n, .int .u64 x.v, .slice x.ab x.b.length x.cb, .bool x.t, .bool x.e, .bool x.s, .slice x.ai x.i.length x.ci] 45 (0, 0)) := by rw [← hW]; have := heap_alloc_new (w.alloc (.cells #[.pointer (some ⟨L.b, 0, none⟩), .pointer (some ⟨c, 0, none⟩)] 58)) (.cells #[.int .i64 7, .int .u64 x.a, .int .i64 x.n, .int .u64 x.v, .slice x.ab x.b.length x.cb, .bool x.t, .bool x.e, .bool x.s, .slice x.ai x.i.length x.ci] 45); simpa using this
  have hM := h.m.later hbW
  have hn := h.s.n
  have hO := own_N h.m
  have HBW : Hid (Below B w W) := hbW.mono (Nat.le_trans h.m.r.l (Nat.le_of_lt h.m.r.lt))
  have HSO : Hid (Sok S) := h.s
  have hbx : Below B w0 W := hb0.trans HBW.out
  have HBY : Hid (∀ w1, Below B w0 w1 → Byt w1 (.slice x.ab x.b.length x.cb) x.b) := fun w1 hq => hx.b.later (B := B) hq hB
  have HLL : Hid (([] : List Int).length + x.b.length ≤ 140737488355328) := by unfold Hid; have := hx.bl; show 0 + x.b.length ≤ _; omega
  have HZ : Hid (w.heap.size ≤ W.heap.size) := hbW.size
  have HBX : Hid (Below B w0 W) := hbx
  have HP : Hid (∀ w1 v, Below W.heap.size W w1 → Byt w1 v x.b → Calls Try.prog 20 #[.pointer (some ⟨L.b, 0, none⟩), .int .u64 x.a, v] w1 fun e w' => e = .returned (.int .i64 (pokE S x.a x.b)) ∧ ∃ L', PSt B L w1 L' (S.pok x.a x.b) w') := fun w1 v hq hv => Poke_c w1 (hM.p.later hq) hn.1 x.a hx.a v x.b hv hx.bl
  have HR : Hid (∀ w2 L', Md B L' c (S.pok x.a x.b) S vr vi vo w2 → Below B w0 w2 → Calls Try.prog 48 #[.pointer (some ⟨c, 0, none⟩), .int .u64 x.a, .slice x.ab x.b.length x.cb] w2 fun e w' => e = .returned (.int .i64 (pokE S x.a x.b)) ∧ ∃ ur ui uo, RSt B c vr vi vo w2 ur ui uo (S.pok x.a x.b) w') := fun w2 L' hm hq => rPoke_c w2 hm.r hn.1 x.a hx.a _ x.b (HBY.out w2 hq) hx.bl (fun hne g off n c' e hr => by
    have h1 := byt_lt hx.b hne g off n c' e
    have h2 := (Rown_lt hm.r hr).1
    omega)
  have HT2 : Hid (Sok (S.pok x.a x.b)) := h.s.pok x.a x.b hx.ba
  have HK : Hid (∀ w1 v L' w2, Below W.heap.size W w1 → w1.ownsRow w.heap.size 5 1 v x.b.length (bv x.b) → PSt B L w1 L' (S.pok x.a x.b) w2 → Md B L' c (S.pok x.a x.b) S vr vi vo w2 ∧ Kpd B L c vr vi vo w L' vr vi vo w2 ∧ L'.b = L.b ∧ Below B w0 w2 ∧ (w2.cell? ⟨w.heap.size, 1, none⟩ = some (.pointer (some ⟨c, 0, none⟩)) ∧ w2.cell? ⟨w.heap.size + 1, 1, none⟩ = some (.int .u64 x.a) ∧ w2.cell? ⟨w.heap.size + 1, 4, none⟩ = some (.slice x.ab x.b.length x.cb)) ∧ w2.heap[w.heap.size + 1]? = some (.cells #[.int .i64 7, .int .u64 x.a, .int .i64 x.n, .int .u64 x.v, .slice x.ab x.b.length x.cb, .bool x.t, .bool x.e, .bool x.s, .slice x.ai x.i.length x.ci] 45 (0, 0)) ∧ Byt w2 v x.b) := fun w1 v L' w2 hq ho hs => by
    have hm1 := hM.later hq
    have hk := hs.keep (N := w.heap.size) hm1 hO.1
    have k1 := hk.row ((hq.block _ (Array.getElem?_eq_some_iff.1 r1).1).trans r1) (.inl (Nat.le_refl _))
    have k2 := hk.row ((hq.block _ (Array.getElem?_eq_some_iff.1 r2).1).trans r2) (.inl (Nat.le_succ _))
    have b1 : Below B W w1 := hq.mono (Nat.le_trans hM.r.l (Nat.le_of_lt hM.r.lt))
    have b2 : Below B W w2 := b1.trans (hs.below hm1)
    exact ⟨hm1.stepP hs, Kpd.p hbW hq hs (HBW.out.trans b2), hs.b.1, hbx.trans b2, ⟨cell_of_row w2 _ 1 _ _ _ k1, cell_of_row w2 _ 1 _ _ _ k2, cell_of_row w2 _ 4 _ _ _ k2⟩, k2, hk.byt hs.x.size (Byt.of_own ho) (fun _ g off n c' e => .inl (own_byt_ge ho g off n c' e).1)⟩
  have HK3 : Hid (∀ L' w2 v ur ui uo w3, Md B L' c (S.pok x.a x.b) S vr vi vo w2 → w2.heap[w.heap.size + 1]? = some (.cells #[.int .i64 7, .int .u64 x.a, .int .i64 x.n, .int .u64 x.v, .slice x.ab x.b.length x.cb, .bool x.t, .bool x.e, .bool x.s, .slice x.ai x.i.length x.ci] 45 (0, 0)) → Byt w2 v x.b → (∀ g off n c', v = .slice (some ⟨g, off, none⟩) n c' → w.heap.size ≤ g) → RSt B c vr vi vo w2 ur ui uo (S.pok x.a x.b) w3 → w3.cell? ⟨w.heap.size + 1, 4, none⟩ = some (.slice x.ab x.b.length x.cb) ∧ Byt w3 v x.b) := fun L' w2 v ur ui uo w3 hm k2 hv hge hs => by
    have hk := hs.keep (N := w.heap.size) hm hO.2
    exact ⟨cell_of_row w3 _ 4 _ _ _ (hk.row k2 (.inl (Nat.le_succ _))), hk.byt hs.x.size hv (fun _ g off n c' e => .inl (hge g off n c' e))⟩
  have hcv : ∀ {w' : World} {v : Value} {l : List Int}, Byt w' v l → (convert 22 9 v).run Try.prog w' = .ok (.string (strOfNums l)) w' := fun hq => hq.conv
  have HCV : Hid (∀ (w' : World) (v : Value) (l : List Int), Byt w' v l → (convert 22 9 v).run Try.prog w' = .ok (.string (strOfNums l)) w') := fun w' v l hq => hq.conv
  generalize pokE S x.a x.b = pe at HP HR
  generalize S.pok x.a x.b = T at HP HR HT2 HK HK3 ⊢
  have hpe : (pe == pe) = true := by simp
  have b0 : W.cell? ⟨w.heap.size, 0, none⟩ = some (.pointer (some ⟨L.b, 0, none⟩)) := cell_of_row W _ 0 _ _ _ r1
  have o0 : W.cell? ⟨w.heap.size + 1, 0, none⟩ = some (.int .i64 7) := cell_of_row W _ 0 _ _ _ r2
  have o4 : W.cell? ⟨w.heap.size + 1, 4, none⟩ = some (.slice x.ab x.b.length x.cb) := cell_of_row W _ 4 _ _ _ r2
  have HC : Hid (∀ w1, Below W.heap.size W w1 → w1.cell? ⟨w.heap.size, 0, none⟩ = some (.pointer (some ⟨L.b, 0, none⟩)) ∧ w1.cell? ⟨w.heap.size + 1, 1, none⟩ = some (.int .u64 x.a)) := fun w1 hq => ⟨cell_of_row w1 _ 0 _ _ _ ((hq.block _ (Array.getElem?_eq_some_iff.1 r1).1).trans r1), cell_of_row w1 _ 1 _ _ _ ((hq.block _ (Array.getElem?_eq_some_iff.1 r2).1).trans r2)⟩
  clear h hB hb0 hx hbW r1 r2 hM hn hO hbx hcv
  go_enter Try.func24, Try.ntmps24
  go_upto_region 1 with fail
  clear hW
  go_wp2_with (first | (go_at_call 20; refine (HP.out w1 _ HQ1.out (Byt.of_own HO.out)).mono ?_; rintro e w2 ⟨rfl, L', hs⟩; obtain ⟨hm2, hb2, hlb, hb3, ⟨p1, q1, q4⟩, k2, hv2⟩ := HK.out w1 _ L' w2 HQ1.out HO.out hs; have HM2 : Hid _ := hm2; have HB2 : Hid _ := hb2; have HLB : Hid _ := hlb; have HB3 : Hid _ := hb3; have HK2 : Hid _ := k2; have HV2 : Hid _ := hv2; clear hs hm2 hb2 hlb hb3 k2 hv2) | (go_at_call 48; refine (HR.out w2 L' HM2.out HB3.out).mono ?_; rintro e w3 ⟨rfl, ur, ui, uo, hs⟩; obtain ⟨q5, hv3⟩ := HK3.out L' w2 _ ur ui uo w3 HM2.out HK2.out HV2.out (fun g off n c' e => (own_byt_ge HO.out g off n c' e).1) hs; have c1 := HCV.out w3 _ _ hv3; have c2 := HCV.out w3 _ _ (HBY.out w3 (HB3.out.trans (hs.below HM2.out))); have HS3 : Hid _ := hs; clear hs hv3) | (at_builtin; refine appA (by rfl) _ _ (by rfl) w.heap.size (.slice none 0 0) _ [] x.b (by rfl) (World.ownsRow_nil _ _ _ _) (by rfl) (HBY.out W HBX.out) HLL.out HZ.out ?_; intro v' w1 ho hg hl2; obtain ⟨a9, c9, e9, _⟩ := Byt.of_own ho; obtain ⟨n9, hn9⟩ : ∃ n, n = x.b.length := ⟨_, rfl⟩; have e9' : v' = .slice a9 n9 c9 := (by rw [hn9]; exact e9); clear hn9 e9; subst e9'; have HO : Hid (w1.ownsRow w.heap.size 5 1 (.slice a9 n9 c9) x.b.length (bv x.b)) := ho; have HQ1 : Hid (Below W.heap.size W w1) := below_nil hg; obtain ⟨d0, d1⟩ := HC.out w1 HQ1.out; clear ho hg hl2))
  go_ret
  exact ⟨rfl, L', ur, ui, uo, ⟨HM2.out.stepR HS3.out, HT2.out⟩, HLB.out, HB2.out.r HM2.out HS3.out⟩
end Go.Proofs.Ytghiabdkgfhdbaa
namespace Go.Proofs.Ytghiabdkgfhdbaa
set_option linter.unusedVariables false
open Go.ChangeShapes Go.WideShapes Go.ChangeAt Go.RowKit Go.Deep Go.MuLone
set_option maxRecDepth 100000 in
set_option maxHeartbeats 4000000 in
theorem changes_3 {B c : Nat} {L : Lay} {S : St} {vr vi vo : Value} (w w0 : World) (h : Okb B L c S vr vi vo w) (hB : B = w0.heap.size) (hb0 : Below B w0 w) (x : Cal) (hx : CalOk w0 x) :
    Calls Try.prog 24 #[.agg #[.pointer (some ⟨L.b, 0, none⟩), .pointer (some ⟨c, 0, none⟩)], .agg #[.int .i64 3, .int .u64 x.a, .int .i64 x.n, .int .u64 x.v, .slice x.ab x.b.length x.cb, .bool x.t, .bool x.e, .bool x.s, .slice x.ai x.i.length x.ci]] w fun e w' => e = .returned (.bool true) ∧ Chd B L c vr vi vo (S.beg x.t x.e x.s x.i) w w' := by
  obtain ⟨W, hW⟩ : ∃ W, (w.alloc (.cells #[.pointer (some ⟨L.b, 0, none⟩), .pointer (some ⟨c, 0, none⟩)] 58)).alloc (.cells #[.int .i64 3, .int .u64 x.a, .int .i64 x.n, .int .u64 x.v, .slice x.ab x.b.length x.cb, .bool x.t, .bool x.e, .bool x.s, .slice x.ai x.i.length x.ci] 45) = W := ⟨_, rfl⟩
  have hbW : Below w.heap.size w W := by rw [← hW]; exact below2 w _ _
  have r1 : W.heap[w.heap.size]? = some (.cells #[.pointer (some ⟨L.b, 0, none⟩), .pointer (some ⟨c, 0, none⟩)] 58 (0, 0)) := by rw [← hW]; exact (Below.heap_alloc _ _ _ (by simp)).trans (heap_alloc_new w _)
  have r2 : W.heap[w.heap.size + 1]? = some (.cells #[.int .i64 3, .int .u64 x.a, .int .i64 x.n, .int .u64 x.v, .slice x.ab x.b.length x.cb, .bool x.t, .bool x.e, .bool x.s, .slice x.ai x.i.length x.ci] 45 (0, 0)) := by rw [← hW]; have := heap_alloc_new (w.alloc (.cells #[.pointer (some ⟨L.b, 0, none⟩), .pointer (some ⟨c, 0, none⟩)] 58)) (.cells #[.int .i64 3, .int .u64 x.a, .int .i64 x.n, .int .u64 x.v, .slice x.ab x.b.length x.cb, .bool x.t, .bool x.e, .bool x.s, .slice x.ai x.i.length x.ci] 45); simpa using this
  have hM := h.m.later hbW
  have hn := h.s.n
  have hO := own_N h.m
  have HBW : Hid (Below B w W) := hbW.mono (Nat.le_trans h.m.r.l (Nat.le_of_lt h.m.r.lt))
  have HSO : Hid (Sok S) := h.s
  have hbx : Below B w0 W := hb0.trans HBW.out
  have HBY : Hid (∀ w1, Below B w0 w1 → Byt w1 (.slice x.ai x.i.length x.ci) x.i) := fun w1 hq => hx.i.later (B := B) hq hB
  have HWC : Hid (Calls Try.prog 16 #[.agg #[.bool x.t, .bool x.e, .bool x.s, .slice x.ai x.i.length x.ci]] W fun e' w' => ∃ a9 n9 c9, e' = .returned (.agg #[.bool x.t, .bool x.e, .bool x.s, .slice a9 n9 c9]) ∧ w'.ownsRow W.heap.size 5 1 (.slice a9 n9 c9) x.i.length (bv x.i) ∧ Below W.heap.size W w') := world_c x.t x.e x.s _ x.i W (HBY.out W hbx) hx.il
  have HP : Hid (∀ w1 v, Below W.heap.size W w1 → w1.ownsRow W.heap.size 5 1 v x.i.length (bv x.i) → Calls Try.prog 15 #[.pointer (some ⟨L.b, 0, none⟩), .agg #[.bool x.t, .bool x.e, .bool x.s, v]] w1 fun e w' => e = .returned (.tuple #[]) ∧ ∃ L', PSt B L w1 L' (S.beg x.t x.e x.s x.i) w') := fun w1 v hq hv => Begin_c w1 (hM.p.later hq) x.t x.e x.s v x.i (Byt.of_own hv) hx.il hn.2.2.1 (fun g off n c' e ho => by
    have h1 := (own_byt_ge hv g off n c' e).1
    have h2 := hO.1 g ho
    have h3 := hbW.size
    omega)
  have HR : Hid (∀ w2 L', Md B L' c (S.beg x.t x.e x.s x.i) S vr vi vo w2 → Below B w0 w2 → Calls Try.prog 47 #[.pointer (some ⟨c, 0, none⟩), .agg #[.bool x.t, .bool x.e, .bool x.s, .slice x.ai x.i.length x.ci]] w2 fun e w' => e = .returned (.tuple #[]) ∧ ∃ ur ui uo, RSt B c vr vi vo w2 ur ui uo (S.beg x.t x.e x.s x.i) w') := fun w2 L' hm hq => rBegin_c w2 hm.r x.t x.e x.s _ x.i (HBY.out w2 hq) hx.il hn.2.2.1 (fun hne g off n c' e hr => by
    have h1 := byt_lt hx.i hne g off n c' e
    have h2 := (Rown_lt hm.r hr).1
    omega)
  have HT2 : Hid (Sok (S.beg x.t x.e x.s x.i)) := h.s.beg x.t x.e x.s x.i hx.ia
  have HCV : Hid (∀ (w' : World) (v : Value) (l : List Int), Byt w' v l → (convert 22 9 v).run Try.prog w' = .ok (.string (strOfNums l)) w') := fun w' v l hq => hq.conv
  have HK : Hid (∀ w1 v g L' w2, Below W.heap.size W w1 → W.heap.size ≤ g → w1.heap[g]? = some (.cells #[.bool x.t, .bool x.e, .bool x.s, v] 43 (0, 0)) → w1.ownsRow W.heap.size 5 1 v x.i.length (bv x.i) → PSt B L w1 L' (S.beg x.t x.e x.s x.i) w2 → Md B L' c (S.beg x.t x.e x.s x.i) S vr vi vo w2 ∧ Kpd B L c vr vi vo w L' vr vi vo w2 ∧ L'.b = L.b ∧ Below B w0 w2 ∧ w2.heap[w.heap.size]? = some (.cells #[.pointer (some ⟨L.b, 0, none⟩), .pointer (some ⟨c, 0, none⟩)] 58 (0, 0)) ∧ w2.heap[w.heap.size + 1]? = some (.cells #[.int .i64 3, .int .u64 x.a, .int .i64 x.n, .int .u64 x.v, .slice x.ab x.b.length x.cb, .bool x.t, .bool x.e, .bool x.s, .slice x.ai x.i.length x.ci] 45 (0, 0)) ∧ w2.heap[g]? = some (.cells #[.bool x.t, .bool x.e, .bool x.s, v] 43 (0, 0)) ∧ Byt w2 v x.i) := fun w1 v g L' w2 hq hg hr3 ho hs => by
    have hm1 := hM.later hq
    have hk := hs.keep (N := w.heap.size) hm1 hO.1
    have k1 := hk.row ((hq.block _ (Array.getElem?_eq_some_iff.1 r1).1).trans r1) (.inl (Nat.le_refl _))
    have k2 := hk.row ((hq.block _ (Array.getElem?_eq_some_iff.1 r2).1).trans r2) (.inl (Nat.le_succ _))
    have k3 := hk.row hr3 (.inl (Nat.le_trans hbW.size hg))
    have b1 : Below B W w1 := hq.mono (Nat.le_trans hM.r.l (Nat.le_of_lt hM.r.lt))
    have b2 : Below B W w2 := b1.trans (hs.below hm1)
    exact ⟨hm1.stepP hs, Kpd.p hbW hq hs (HBW.out.trans b2), hs.b.1, hbx.trans b2, k1, k2, k3, hk.byt hs.x.size (Byt.of_own ho) (fun _ g off n c' e => .inl (Nat.le_trans hbW.size (own_byt_ge ho g off n c' e).1))⟩
  have HK3 : Hid (∀ L' w2 v g ur ui uo w3, Md B L' c (S.beg x.t x.e x.s x.i) S vr vi vo w2 → W.heap.size ≤ g → w2.heap[w.heap.size + 1]? = some (.cells #[.int .i64 3, .int .u64 x.a, .int .i64 x.n, .int .u64 x.v, .slice x.ab x.b.length x.cb, .bool x.t, .bool x.e, .bool x.s, .slice x.ai x.i.length x.ci] 45 (0, 0)) → w2.heap[g]? = some (.cells #[.bool x.t, .bool x.e, .bool x.s, v] 43 (0, 0)) → Byt w2 v x.i → (∀ g off n c', v = .slice (some ⟨g, off, none⟩) n c' → W.heap.size ≤ g) → RSt B c vr vi vo w2 ur ui uo (S.beg x.t x.e x.s x.i) w3 → w3.cell? ⟨w.heap.size + 1, 8, none⟩ = some (.slice x.ai x.i.length x.ci) ∧ w3.cell? ⟨g, 3, none⟩ = some v ∧ Byt w3 v x.i) := fun L' w2 v g ur ui uo w3 hm hg k2 k3 hv hge hs => by
    have hk := hs.keep (N := w.heap.size) hm hO.2
    exact ⟨cell_of_row w3 _ 8 _ _ _ (hk.row k2 (.inl (Nat.le_succ _))), cell_of_row w3 _ 3 _ _ _ (hk.row k3 (.inl (Nat.le_trans hbW.size hg))), hk.byt hs.x.size hv (fun _ g off n c' e => .inl (Nat.le_trans hbW.size (hge g off n c' e)))⟩
  generalize S.beg x.t x.e x.s x.i = T at HP HR HT2 HK HK3 ⊢
  have b0 : W.cell? ⟨w.heap.size, 0, none⟩ = some (.pointer (some ⟨L.b, 0, none⟩)) := cell_of_row W _ 0 _ _ _ r1
  have o0 : W.cell? ⟨w.heap.size + 1, 0, none⟩ = some (.int .i64 3) := cell_of_row W _ 0 _ _ _ r2
  have o5 : W.cell? ⟨w.heap.size + 1, 5, none⟩ = some (.bool x.t) := cell_of_row W _ 5 _ _ _ r2
  have o6 : W.cell? ⟨w.heap.size + 1, 6, none⟩ = some (.bool x.e) := cell_of_row W _ 6 _ _ _ r2
  have o7 : W.cell? ⟨w.heap.size + 1, 7, none⟩ = some (.bool x.s) := cell_of_row W _ 7 _ _ _ r2
  have o8 : W.cell? ⟨w.heap.size + 1, 8, none⟩ = some (.slice x.ai x.i.length x.ci) := cell_of_row W _ 8 _ _ _ r2
  have HR1 : Hid (W.heap[w.heap.size]? = some (.cells #[.pointer (some ⟨L.b, 0, none⟩), .pointer (some ⟨c, 0, none⟩)] 58 (0, 0))) := r1
  have HR2 : Hid (W.heap[w.heap.size + 1]? = some (.cells #[.int .i64 3, .int .u64 x.a, .int .i64 x.n, .int .u64 x.v, .slice x.ab x.b.length x.cb, .bool x.t, .bool x.e, .bool x.s, .slice x.ai x.i.length x.ci] 45 (0, 0))) := r2
  clear h hB hb0 hx hbW r1 r2 hM hn hO hbx
  go_enter Try.func24, Try.ntmps24
  go_upto_region 1 with fail
  clear hW
  go_upto_region 12 with (go_at_call 16; refine HWC.out.mono ?_; rintro e w1 ⟨a9, n9, c9, rfl, ho, hb1⟩; have HO : Hid _ := ho; have HB1 : Hid _ := hb1; clear ho hb1)
  obtain ⟨V, hV⟩ : ∃ V, w1.alloc (.cells #[.bool x.t, .bool x.e, .bool x.s, .slice a9 n9 c9] 43) = V := ⟨_, rfl⟩
  have r3 : V.heap[w1.heap.size]? = some (.cells #[.bool x.t, .bool x.e, .bool x.s, .slice a9 n9 c9] 43 (0, 0)) := by rw [← hV]; exact heap_alloc_new w1 _
  have hv1 : Below W.heap.size W V := by rw [← hV]; exact HB1.out.alloc HB1.out.size _
  have HOV : Hid (V.ownsRow W.heap.size 5 1 (.slice a9 n9 c9) x.i.length (bv x.i)) := by rw [← hV]; have ho : w1.ownsRow W.heap.size 5 1 (.slice a9 n9 c9) x.i.length (bv x.i) := HO.out; exact ho.alloc _
  have HVB : Hid (Below W.heap.size W V) := hv1
  have HGZ : Hid (W.heap.size ≤ w1.heap.size) := HB1.out.size
  have HR3 : Hid (V.heap[w1.heap.size]? = some (.cells #[.bool x.t, .bool x.e, .bool x.s, .slice a9 n9 c9] 43 (0, 0))) := r3
  have b0' : V.cell? ⟨w.heap.size, 0, none⟩ = some (.pointer (some ⟨L.b, 0, none⟩)) := cell_of_row V _ 0 _ _ _ ((hv1.block _ (Array.getElem?_eq_some_iff.1 HR1.out).1).trans HR1.out)
  have d0 : V.cell? ⟨w1.heap.size, 0, none⟩ = some (.bool x.t) := cell_of_row V _ 0 _ _ _ r3
  have d1 : V.cell? ⟨w1.heap.size, 1, none⟩ = some (.bool x.e) := cell_of_row V _ 1 _ _ _ r3
  have d2 : V.cell? ⟨w1.heap.size, 2, none⟩ = some (.bool x.s) := cell_of_row V _ 2 _ _ _ r3
  have d3 : V.cell? ⟨w1.heap.size, 3, none⟩ = some (.slice a9 n9 c9) := cell_of_row V _ 3 _ _ _ r3
  generalize w1.heap.size = gw at *
  rw [hV]
  clear hV HO HB1 r3 hv1 b0 o0 o5 o6 o7 o8
  go_wp2_with (first | (go_at_call 15; refine (HP.out V _ HVB.out HOV.out).mono ?_; rintro e w2 ⟨rfl, L', hs⟩; obtain ⟨hm2, hb2, hlb, hb3, k1, k2, k3, hv2⟩ := HK.out V _ gw L' w2 HVB.out HGZ.out HR3.out HOV.out hs; have p1 : w2.cell? ⟨w.heap.size, 1, none⟩ = some (.pointer (some ⟨c, 0, none⟩)) := cell_of_row w2 _ 1 _ _ _ k1; have q5 : w2.cell? ⟨w.heap.size + 1, 5, none⟩ = some (.bool x.t) := cell_of_row w2 _ 5 _ _ _ k2; have q6 : w2.cell? ⟨w.heap.size + 1, 6, none⟩ = some (.bool x.e) := cell_of_row w2 _ 6 _ _ _ k2; have q7 : w2.cell? ⟨w.heap.size + 1, 7, none⟩ = some (.bool x.s) := cell_of_row w2 _ 7 _ _ _ k2; have q8 : w2.cell? ⟨w.heap.size + 1, 8, none⟩ = some (.slice x.ai x.i.length x.ci) := cell_of_row w2 _ 8 _ _ _ k2; have HM2 : Hid _ := hm2; have HB2 : Hid _ := hb2; have HLB : Hid _ := hlb; have HB3 : Hid _ := hb3; have HK2 : Hid _ := k2; have HKG : Hid _ := k3; have HV2 : Hid _ := hv2; clear hs hm2 hb2 hlb hb3 k1 k2 k3 hv2) | (go_at_call 47; refine (HR.out w2 L' HM2.out HB3.out).mono ?_; rintro e w3 ⟨rfl, ur, ui, uo, hs⟩; obtain ⟨q9, q10, hv3⟩ := HK3.out L' w2 _ gw ur ui uo w3 HM2.out HGZ.out HK2.out HKG.out HV2.out (fun g off n c' e => (own_byt_ge HOV.out g off n c' e).1) hs; have c1 := HCV.out w3 _ _ hv3; have c2 := HCV.out w3 _ _ (HBY.out w3 (HB3.out.trans (hs.below HM2.out))); have HS3 : Hid _ := hs; clear hs hv3))
  go_ret
  exact ⟨rfl, L', ur, ui, uo, ⟨HM2.out.stepR HS3.out, HT2.out⟩, HLB.out, HB2.out.r HM2.out HS3.out⟩
theorem changes_c {B c : Nat} {L : Lay} {S : St} {vr vi vo : Value} (w w0 : World) (h : Okb B L c S vr vi vo w) (hB : B = w0.heap.size) (hb0 : Below B w0 w) (x : Cal) (hx : CalOk w0 x) :
    Calls Try.prog 24 #[.agg #[.pointer (some ⟨L.b, 0, none⟩), .pointer (some ⟨c, 0, none⟩)], .agg (calv x).toArray] w fun e w' => e = .returned (.bool true) ∧ Chd B L c vr vi vo (S.chg x) w w' := by
  have hv : ∀ k : Int, x.k = k → (calv x).toArray = #[.int .i64 k, .int .u64 x.a, .int .i64 x.n, .int .u64 x.v, .slice x.ab x.b.length x.cb, .bool x.t, .bool x.e, .bool x.s, .slice x.ai x.i.length x.ci] := fun k e => by rw [← e]; rfl
  by_cases k1 : x.k = 1
  · have e : S.chg x = (S.ld x.a x.n).2 := by unfold St.chg; rw [if_pos k1]
    rw [e, hv 1 k1]; exact changes_1 w w0 h hB hb0 x hx
  by_cases k2 : x.k = 2
  · have e : S.chg x = (S.sto2 x.a x.n x.v).2 := by unfold St.chg; rw [if_neg k1, if_pos k2]
    rw [e, hv 2 k2]; exact changes_2 w w0 h hB hb0 x hx
  by_cases k3 : x.k = 3
  · have e : S.chg x = S.beg x.t x.e x.s x.i := by unfold St.chg; rw [if_neg k1, if_neg k2, if_pos k3]
    rw [e, hv 3 k3]; exact changes_3 w w0 h hB hb0 x hx
  by_cases k7 : x.k = 7
  · have e : S.chg x = S.pok x.a x.b := by unfold St.chg; rw [if_neg k1, if_neg k2, if_neg k3, if_pos k7]
    rw [e, hv 7 k7]; exact changes_7 w w0 h hB hb0 x hx
  · have e : S.chg x = S := by unfold St.chg; rw [if_neg k1, if_neg k2, if_neg k3, if_neg k7]
    rw [e, hv x.k rfl]; exact changes_no w w0 h hB hb0 x hx ⟨k1, k2, k3, k7⟩
/-- Both buses asked, and what begins them. -/
theorem Okb.p {B c : Nat} {L : Lay} {S : St} {vr vi vo : Value} {w : World} (h : Okb B L c S vr vi vo w) : Okp B B L c S vr vi vo w := ⟨⟨h.m.p, h.m.r, h.m.ap⟩, h.s.ok, h.s.st⟩
theorem Okb.later {B c : Nat} {L : Lay} {S : St} {vr vi vo : Value} {w w' : World} (h : Okb B L c S vr vi vo w) (hb : Below w.heap.size w w') : Okb B L c S vr vi vo w' := ⟨h.m.later hb, h.s⟩
theorem RB.le {B M c : Nat} {S : St} {vr vi vo : Value} {w : World} (h : RB M c S vr vi vo w) (hb : B ≤ M) : RB B c S vr vi vo w := ⟨h.h, ⟨own_le h.s.r hb, own_le h.s.i hb, own_le h.s.o hb, h.s.ri, h.s.ro, h.s.io⟩, Nat.le_trans hb h.l⟩
theorem Two.okb {B M c : Nat} {L : Lay} {S : St} {vr vi vo : Value} {w : World} (h : Two B M L c S vr vi vo w) (hb : B ≤ M) (ho : S.ok = true) (hs : StW S) : Okb B L c S vr vi vo w := ⟨⟨h.tw.p, h.tw.r.le hb, h.tw.ap⟩, ⟨ho, hs⟩⟩
end Go.Proofs.Ytghiabdkgfhdbaa
namespace Go.Proofs.Ytghiabdkgfhdbaa
set_option linter.unusedVariables false
open Go.ChangeShapes Go.WideShapes Go.ChangeAt Go.RowKit Go.Deep Go.MuLone
structure Pl (B : Nat) (w0 : World) (b c gp : Nat) (L : Lay) (S : St) (vr vi vo : Value) (w : World) : Prop where
  k : Okb B L c S vr vi vo w
  e : L.b = b
  be : Below B w0 w
  g : w.heap[gp]? = some (.cells #[.pointer (some ⟨b, 0, none⟩), .pointer (some ⟨c, 0, none⟩)] 58 (0, 0))
  n1 : ¬ L.own gp
  n2 : ¬ Rown c vr vi vo gp
/-- Both buses, the row that names them, and all from before. -/
def Pls (B : Nat) (w0 : World) (b c gp : Nat) (w : World) : Prop := ∃ L S vr vi vo, Pl B w0 b c gp L S vr vi vo w
theorem CalOk.later {w w' : World} {x : Cal} (h : CalOk w x) (hb : Below w.heap.size w w') : CalOk w' x := ⟨h.b.later hb rfl, h.ba, h.bl, h.i.later hb rfl, h.ia, h.il, h.k, h.a, h.n, h.v⟩
section
variable {B : Nat} {w0 : World} {b c gp : Nat} {L : Lay} {S : St} {vr vi vo : Value} {w w1 w' : World}
theorem Pl.later (h : Pl B w0 b c gp L S vr vi vo w) (hb : Below w.heap.size w w') : Pl B w0 b c gp L S vr vi vo w' :=
  ⟨h.k.later hb, h.e, h.be.trans (hb.mono (Nat.le_trans h.k.m.r.l (Nat.le_of_lt h.k.m.r.lt))), (hb.block _ (Array.getElem?_eq_some_iff.1 h.g).1).trans h.g, h.n1, h.n2⟩
theorem Pls.later (h : Pls B w0 b c gp w) (hb : Below w.heap.size w w') : Pls B w0 b c gp w' := by
  obtain ⟨L, S, vr, vi, vo, h⟩ := h
  exact ⟨L, S, vr, vi, vo, h.later hb⟩
theorem Pls.below (h : Pls B w0 b c gp w) : Below B w0 w := by
  obtain ⟨L, S, vr, vi, vo, h⟩ := h
  exact h.be
theorem Pls.row (h : Pls B w0 b c gp w) : w.heap[gp]? = some (.cells #[.pointer (some ⟨b, 0, none⟩), .pointer (some ⟨c, 0, none⟩)] 58 (0, 0)) := by
  obtain ⟨L, S, vr, vi, vo, h⟩ := h
  exact h.g
theorem Pls.chg (h : Pls B w0 b c gp w) (hB : B = w0.heap.size) (hb : Below w.heap.size w w1) (x : Cal) (hx : CalOk w0 x) (g : Nat) (hge : w.heap.size ≤ g) {C : Array Value} {T : TypeId} (hg : w1.heap[g]? = some (.cells C T (0, 0))) :
    Calls Try.prog 24 #[.agg #[.pointer (some ⟨b, 0, none⟩), .pointer (some ⟨c, 0, none⟩)], .agg (calv x).toArray] w1 fun e w' => e = .returned (.bool true) ∧ Pls B w0 b c gp w' ∧ w'.heap[g]? = some (.cells C T (0, 0)) := by
  obtain ⟨L, S, vr, vi, vo, h⟩ := h
  have h1 := h.later hb
  obtain rfl := h.e
  refine (changes_c w1 w0 h1.k hB h1.be x hx).mono ?_
  rintro e w' ⟨rfl, L', ur, ui, uo, hk, hlb, kp⟩
  have hO := own_N h.k.m
  have lg := (Array.getElem?_eq_some_iff.1 h1.g).1
  have hno : ¬ (L'.own gp ∨ Rown c ur ui uo gp) := fun q => (kp.o gp lg q).elim h1.n1 h1.n2
  refine ⟨rfl, ⟨L', S.chg x, ur, ui, uo, hk, hlb, h1.be.trans kp.be, (kp.x gp lg h1.n1 h1.n2).trans h1.g, fun q => hno (.inl q), fun q => hno (.inr q)⟩, ?_⟩
  exact (kp.x g (Array.getElem?_eq_some_iff.1 hg).1 (fun q => by have := hO.1 g q; omega) (fun q => by have := hO.2 g q; omega)).trans hg
theorem Pls.ask (h : Pls B w0 b c gp w) (x : Cal) (hx : CalOk w0 x) :
    Calls Try.prog 22 #[.agg #[.pointer (some ⟨b, 0, none⟩), .pointer (some ⟨c, 0, none⟩)], .agg (calv x).toArray] w fun e w' => e = .returned (.bool true) ∧ Pls B w0 b c gp w' ∧ Below w.heap.size w w' := by
  have h0 := h
  obtain ⟨L, S, vr, vi, vo, h⟩ := h
  obtain rfl := h.e
  refine (asks_c w h.k.p x.a x.n x.v _ _ x.t x.e x.s x.k hx.a hx.n).mono ?_
  rintro e w' ⟨rfl, hb⟩
  exact ⟨rfl, h0.later hb, hb⟩
/-- What both tell of themselves. -/
theorem Pls.sta (h : Pls B w0 b c gp w) : ∃ S, (∀ w1, Below w.heap.size w w1 → Calls Try.prog 11 #[.pointer (some ⟨b, 0, none⟩)] w1 fun e w' => ∃ ur ui uo, e = .returned (.agg (stc S ur ui uo)) ∧ Bs S ur ui uo w' ∧ Below w1.heap.size w1 w') ∧
    (∀ w1, Below w.heap.size w w1 → Calls Try.prog 44 #[.pointer (some ⟨c, 0, none⟩)] w1 fun e w' => ∃ ur ui uo, e = .returned (.agg (stc S ur ui uo)) ∧ Bs S ur ui uo w' ∧ Below w1.heap.size w1 w') := by
  obtain ⟨L, S, vr, vi, vo, h⟩ := h
  obtain rfl := h.e
  obtain ⟨hn1, hn2, hn3, hn4, _⟩ := h.k.s.n
  exact ⟨S, fun w1 hb => (state_c w1 (h.k.later hb).m.p (by omega) (by omega) (by omega)).mono fun e w' ⟨x, y, z, h1, h2, h3⟩ => ⟨x, y, z, h1, h2.bs, h3⟩, fun w1 hb => (rstate_c w1 (h.k.later hb).m.r (by omega) (by omega) (by omega)).mono fun e w' ⟨x, y, z, h1, h2, h3⟩ => ⟨x, y, z, h1, h2.bs, h3⟩⟩
theorem pls_start {M : Nat} (h : Two w0.heap.size M L c S vr vi vo w) (hb : Below w0.heap.size w0 w) (ho : S.ok = true) (hs : StW S) : Pls w0.heap.size w0 L.b c w.heap.size (w.alloc (.cells #[.pointer (some ⟨L.b, 0, none⟩), .pointer (some ⟨c, 0, none⟩)] 58)) := by
  have hk := h.okb h.le ho hs
  have hO := own_N hk.m
  exact ⟨L, S, vr, vi, vo, hk.later (below_al _ _), rfl, hb.alloc hb.size _, heap_alloc_new w _, fun q => by have := hO.1 _ q; omega, fun q => by have := hO.2 _ q; omega⟩
end
end Go.Proofs.Ytghiabdkgfhdbaa
