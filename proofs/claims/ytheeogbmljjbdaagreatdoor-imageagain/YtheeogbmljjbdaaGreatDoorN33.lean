/-
  Iwk Iwl Iwm.
-/
import Derived.Test.YtheeogbmljjbdaaGreatDoorN30
import Derived.Test.YtheeogbmljjbdaaGreatDoorN32
import Derived.Deep.Cut
namespace Go.Proofs.YtheeogbmljjbdaaGreatDoor
set_option linter.unusedVariables false
open Go.ChangeShapes Go.WideShapes Go.ChangeAt Go.RowKit Go.Deep
theorem getD_left (a b : List Int) (i : Nat) (h : i < a.length) : (a ++ b).getD i 0 = a.getD i 0 := by
  rw [List.getD_eq_getElem?_getD, List.getD_eq_getElem?_getD, List.getElem?_append_left h]
theorem getD_right (a b : List Int) (i : Nat) (h : a.length ≤ i) : (a ++ b).getD i 0 = b.getD (i - a.length) 0 := by
  rw [List.getD_eq_getElem?_getD, List.getD_eq_getElem?_getD, List.getElem?_append_right h]
/-- A list stands in T from a place on. -/
def Sub (T : Nat → Int) (pos : Nat) (l : List Int) : Prop := ∀ i, i < l.length → T (pos + i) = l.getD i 0
theorem Sub.left {T : Nat → Int} {pos : Nat} {a b : List Int} (h : Sub T pos (a ++ b)) : Sub T pos a := fun i hi => by
  rw [h i (by rw [List.length_append]; omega), getD_left _ _ _ hi]
theorem Sub.right {T : Nat → Int} {pos : Nat} {a b : List Int} (h : Sub T pos (a ++ b)) : Sub T (pos + a.length) b := fun i hi => by
  rw [Nat.add_assoc, h (a.length + i) (by rw [List.length_append]; omega), getD_right _ _ _ (by omega), show a.length + i - a.length = i by omega]
theorem Sub.at {T : Nat → Int} {pos q : Nat} {l : List Int} (h : Sub T pos l) (e : pos = q) : Sub T q l := e ▸ h
theorem Sub.nil {T : Nat → Int} {pos : Nat} : Sub T pos [] := fun i hi => absurd hi (Nat.not_lt_zero _)
/-- Numbers of sz bytes each. -/
def nbs (sz : Nat) : List Nat → List Int
  | [] => []
  | v :: r => ptL v sz ++ nbs sz r
theorem nbs_length (sz : Nat) (vs : List Nat) : (nbs sz vs).length = sz * vs.length := by
  induction vs with
  | nil => rfl
  | cons v r ih => simp only [nbs, List.length_append, ptL_length, ih, List.length_cons, Nat.mul_succ]; omega
theorem nbs_get (sz : Nat) (vs : List Nat) (j i : Nat) (hj : j < vs.length) (hi : i < sz) : (nbs sz vs).getD (sz * j + i) 0 = ((vs.getD j 0 / 256 ^ i % 256 : Nat) : Int) := by
  induction vs generalizing j with
  | nil => exact absurd hj (Nat.not_lt_zero _)
  | cons v r ih =>
    cases j with
    | zero =>
      rw [nbs, Nat.mul_zero, Nat.zero_add, getD_left _ _ _ (by rw [ptL_length]; exact hi), ptL_get _ _ _ hi]
      rfl
    | succ j =>
      rw [nbs, getD_right _ _ _ (by rw [ptL_length, Nat.mul_succ]; omega), ptL_length, show sz * (j + 1) + i - sz = sz * j + i by rw [Nat.mul_succ]; omega, ih j (by simpa using hj)]
      rfl
theorem sub_nbs {T : Nat → Int} {pos sz : Nat} {vs : List Nat} (h : Sub T pos (nbs sz vs)) (j : Nat) (hj : j < vs.length) (i : Nat) (hi : i < sz) : T (pos + sz * j + i) = ((vs.getD j 0 / 256 ^ i % 256 : Nat) : Int) := by
  have h1 : sz * j + i < sz * vs.length := by
    have := Nat.mul_le_mul_left sz (show j + 1 ≤ vs.length by omega)
    rw [Nat.mul_succ] at this
    omega
  rw [Nat.add_assoc, h (sz * j + i) (by rw [nbs_length]; exact h1), nbs_get sz vs j i hj hi]
theorem n64_nat (v : Nat) (h : v < 18446744073709551616) : n64 (BitVec.ofNat 64 v) = (v : Int) := by unfold n64; rw [BitVec.toNat_ofNat, Nat.mod_eq_of_lt (by omega)]
theorem map_getD (vs : List Nat) (j : Nat) (hj : j < vs.length) : (vs.map (BitVec.ofNat 64)).getD j 0 = BitVec.ofNat 64 (vs.getD j 0) := by
  simp [List.getD_eq_getElem?_getD, List.getElem?_map, List.getElem?_eq_getElem hj]
theorem byte_of (v i : Nat) : ((v / 256 ^ i % 256 : Nat) : Int) = (v : Int) / 2 ^ (8 * i) % 256 := by
  rw [show (256 : Nat) ^ i = 2 ^ (8 * i) by rw [Nat.pow_mul]]
  simp
theorem Fil.wide {f n : Nat} {T : Nat → Int} {D D' : Nat → Prop} {w : World} (h : Fil f n T D w) (h1 : ∀ i, i < n → D i → D' i) (h2 : ∀ i, i < n → D' i → ¬ D i → T i = 0) : Fil f n T D' w := by
  obtain ⟨C, hC, hr, hd⟩ := h
  refine ⟨C, hC, hr, fun i hi => ⟨fun q => ?_, fun q => (hd i hi).2 (fun z => q (h1 i hi z))⟩⟩
  by_cases e : D i
  · exact (hd i hi).1 e
  · rw [(hd i hi).2 e, h2 i hi q e]
/-- A pen in hand: it has written from b up to a, and has R still to write; the rows of X stay. -/
structure Pn (f n : Nat) (T : Nat → Int) (X : List (Nat × Array Value × TypeId)) (w0 : World) (g : Nat) (D : Nat → Prop) (b a : Nat) (R : List Int) (w : World) : Prop where
  bx : ∀ x, x ∈ X → ¬ x.1 = g ∧ ¬ x.1 = f ∧ w.heap[x.1]? = some (.cells x.2.1 x.2.2 (0, 0))
  pen : Pen g f n a w
  fil : Fil f n T (fun i => D i ∨ (b ≤ i ∧ i < a)) w
  kp : Kp f f w0 w
  gl : w0.heap.size ≤ g
  fl : f < w0.heap.size
  ba : b ≤ a
  rest : Sub T a R
theorem Pn.gf {f n : Nat} {T : Nat → Int} {X : List (Nat × Array Value × TypeId)} {w0 : World} {g : Nat} {D : Nat → Prop} {b a : Nat} {R : List Int} {w : World} (h : Pn f n T X w0 g D b a R w) : ¬ g = f := by
  have := h.gl
  have := h.fl
  omega
theorem Kp.fresh {p f : Nat} {w0 w w' : World} (h : Kp f f w0 w) (k : Kp p f w w') (hp : w0.heap.size ≤ p) : Kp f f w0 w' := ⟨k.os.trans h.os, k.tape.trans h.tape, k.output.trans h.output, Nat.le_trans h.size k.size, fun q h1 h2 h3 => (k.block q (Nat.lt_of_lt_of_le h1 h.size) (by omega) h2).trans (h.block q h1 h2 h3)⟩
theorem Pn.next {f n : Nat} {T : Nat → Int} {X : List (Nat × Array Value × TypeId)} {w0 : World} {g : Nat} {D : Nat → Prop} {b a c : Nat} {R R' : List Int} {w w' : World} (h : Pn f n T X w0 g D b a R w) (hp : Pen g f n c w') (hac : a ≤ c) (hf : Fil f n T (fun i => (D i ∨ (b ≤ i ∧ i < a)) ∨ (a ≤ i ∧ i < c)) w') (hk : Kp g f w w') (hr : Sub T c R') : Pn f n T X w0 g D b c R' w' := by
  refine ⟨fun x hx => ?_, hp, hf.set (fun i _ => ?_), h.kp.fresh hk h.gl, h.gl, h.fl, Nat.le_trans h.ba hac, hr⟩
  · obtain ⟨h1, h2, h3⟩ := h.bx x hx
    exact ⟨h1, h2, (hk.block _ (Array.getElem?_eq_some_iff.1 h3).1 h1 h2).trans h3⟩
  · have := h.ba
    constructor
    · rintro ((h | h) | h)
      · exact .inl h
      · exact .inr (by omega)
      · exact .inr (by omega)
    · rintro (h | h)
      · exact .inl (.inl h)
      · by_cases e : i < a
        · exact .inl (.inr (by omega))
        · exact .inr (by omega)
theorem Pn.put {f n : Nat} {T : Nat → Int} {X : List (Nat × Array Value × TypeId)} {w0 : World} {g : Nat} {D : Nat → Prop} {b a sz : Nat} {vs : List Nat} {R : List Int} {w : World} (h : Pn f n T X w0 g D b a (nbs sz vs ++ R) w)
    (szI : Int) (m : Nat) (cs : Array Value) (hsz : szI = sz) (hvm : vs.length = m) (hv : ∀ v, v ∈ vs → v < 18446744073709551616) (hcs : cs = (vs.map fun (v : Nat) => Value.int .u64 (v : Int)).toArray) (hs : 1 ≤ sz ∧ sz ≤ 8) (c : Nat) (hc : c = a + sz * m) (hn : c ≤ n) (hnb : n ≤ 1000000) (hm : m ≤ 100) :
    Calls Tryz.prog 78 #[.pointer (some ⟨g, 0, none⟩), .int .i64 szI, .slice (some ⟨w.heap.size, 0, none⟩) m m] (w.alloc (.cells cs 22)) fun e w' => e = .returned (.tuple #[]) ∧ Pn f n T X w0 g D b c R w' := by
  subst hcs hvm hc
  refine (put_v g f n a sz vs.length szI (vs.map (BitVec.ofNat 64)) _ T _ w h.pen h.fil h.gf hsz (by simp) (fun j hj => ?_) hs hn hnb hm (fun j hj i hi => ?_)).mono ?_
  · rw [map_getD vs j hj, n64_nat _ (hv _ (by rw [List.getD_eq_getElem?_getD, List.getElem?_eq_getElem hj]; exact List.getElem_mem hj))]
    simp [List.getD_eq_getElem?_getD, hj]
  · rw [sub_nbs h.rest.left j hj i hi, map_getD vs j hj, n64_nat _ (hv _ (by rw [List.getD_eq_getElem?_getD, List.getElem?_eq_getElem hj]; exact List.getElem_mem hj)), byte_of]
  · rintro e w' ⟨rfl, h1, h2, h3⟩
    exact ⟨rfl, h.next h1 (by omega) h2 h3 (h.rest.right.at (by rw [nbs_length]))⟩
theorem sb_get (t : ByteArray) (i : Nat) (hi : i < t.size) : (sb t).getD i 0 = ((t[i]'hi).toNat : Int) := by
  have h2 : i < t.data.toList.length := by rw [← Go.Lib.size_eq]; exact hi
  unfold sb
  rw [List.getD_eq_getElem?_getD, List.getElem?_map, List.getElem?_eq_getElem h2]
  rfl
theorem Pn.text {f n : Nat} {T : Nat → Int} {X : List (Nat × Array Value × TypeId)} {w0 : World} {g : Nat} {D : Nat → Prop} {b a : Nat} {t : ByteArray} {R : List Int} {w : World} (h : Pn f n T X w0 g D b a (sb t ++ R) w)
    (c : Nat) (hc : c = a + t.size) (hn : c < n) (hnb : n ≤ 1000000) :
    Calls Tryz.prog 77 #[.pointer (some ⟨g, 0, none⟩), .string t] w fun e w' => e = .returned (.tuple #[]) ∧ Pn f n T X w0 g D b c R w' := by
  subst hc
  refine (text_c g f n a t T _ w h.pen h.fil h.gf hn hnb (fun i hi => ?_)).mono ?_
  · rw [h.rest.left i (by rw [sb_length]; exact hi), sb_get t i hi]
  · rintro e w' ⟨rfl, h1, h2, h3⟩
    exact ⟨rfl, h.next h1 (by omega) h2 h3 (h.rest.right.at (by rw [sb_length]))⟩
theorem Pn.sect {f n : Nat} {T : Nat → Int} {X : List (Nat × Array Value × TypeId)} {w0 : World} {g : Nat} {D : Nat → Prop} {b a tx kd fr sz : Nat} {R : List Int} {w : World} (h : Pn f n T X w0 g D b a (nbs 4 [tx, kd] ++ (nbs 8 [0, 0, fr, sz] ++ R)) w)
    (txI kdI frI toI : Int) (h1 : txI = tx) (h2 : kdI = kd) (h3 : frI = fr) (h4 : toI = (fr + sz : Nat)) (hb : tx < 1000000 ∧ kd < 1000000) (hto : fr + sz ≤ 1000000) (c : Nat) (hc : c = a + 40) (hn : c ≤ n) (hnb : n ≤ 1000000) :
    Calls Tryz.prog 80 #[.pointer (some ⟨g, 0, none⟩), .int .u64 txI, .int .u64 kdI, .int .i64 frI, .int .i64 toI] w fun e w' => e = .returned (.tuple #[]) ∧ Pn f n T X w0 g D b c R w' := by
  subst h1 h2 h3 h4 hc
  have e1 := n64_nat tx (by omega)
  have e2 := n64_nat kd (by omega)
  have q := section_c g f n a (BitVec.ofNat 64 tx) (BitVec.ofNat 64 kd) fr (fr + sz) T _ w h.pen h.fil h.gf hn hnb (by omega) hto (fun j hj i hi => ?_) (fun j hj i hi => ?_)
  · rw [e1, e2] at q
    refine q.mono ?_
    rintro e w' ⟨rfl, h1, h2, h3⟩
    exact ⟨rfl, h.next h1 (by omega) h2 h3 (h.rest.right.right.at (by rw [nbs_length, nbs_length]; simp))⟩
  · rw [sub_nbs h.rest.left j hj i hi, byte_of]
    rcases j with _ | _ | j
    · show _ = n64 (BitVec.ofNat 64 tx) / _ % 256
      rw [e1]
      rfl
    · show _ = n64 (BitVec.ofNat 64 kd) / _ % 256
      rw [e2]
      rfl
    · omega
  · have hR : Sub T (a + 8) (nbs 8 [0, 0, fr, sz]) := h.rest.right.left.at (by rw [nbs_length]; rfl)
    rw [sub_nbs hR j hj i hi, byte_of, show fr + sz - fr = sz by omega]
    rcases j with _ | _ | _ | _ | j
    · rfl
    · rfl
    · show _ = n64 (BitVec.ofNat 64 fr) / _ % 256
      rw [n64_nat fr (by omega)]
      rfl
    · show _ = n64 (BitVec.ofNat 64 sz) / _ % 256
      rw [n64_nat sz (by omega)]
      rfl
    · omega
/-- Another pen is taken in hand. -/
theorem Pn.fresh {f n : Nat} {T : Nat → Int} {X : List (Nat × Array Value × TypeId)} {w0 : World} {g : Nat} {D : Nat → Prop} {b a : Nat} {R : List Int} {w : World} (h : Pn f n T X w0 g D b a R w) (hX : ∀ x, x ∈ X → x.1 < w.heap.size) (bI : Int) (c : Nat) (hb : bI = (c : Int)) (R' : List Int) (hR : Sub T c R') :
    Pn f n T ((g, #[.slice (some ⟨f, 0, none⟩) n n, .int .i64 a], 140) :: X) w0 w.heap.size (fun i => D i ∨ (b ≤ i ∧ i < a)) c c R' (w.alloc (.cells #[.slice (some ⟨f, 0, none⟩) n n, .int .i64 bI] 140)) := by
  subst hb
  have hb : Below w.heap.size w (w.alloc (.cells #[.slice (some ⟨f, 0, none⟩) n n, .int .i64 (c : Int)] 140)) := (Below.refl _ _).alloc (Nat.le_refl _) _
  have hgs : g < w.heap.size := (Array.getElem?_eq_some_iff.1 h.pen).1
  have hfs : f < w.heap.size := Nat.lt_of_lt_of_le h.fl h.kp.size
  refine ⟨fun x hx => ?_, heap_alloc_new w _, (h.fil.other (hb.5 _ hfs)).set (fun i _ => ⟨.inl, fun h => h.elim id (fun h => by omega)⟩), ⟨hb.os.trans h.kp.os, hb.tape.trans h.kp.tape, hb.output.trans h.kp.output, Nat.le_trans h.kp.size hb.size, fun k q1 q2 q3 => (hb.5 k (Nat.lt_of_lt_of_le q1 h.kp.size)).trans (h.kp.block k q1 q2 q3)⟩, h.kp.size, h.fl, Nat.le_refl _, hR⟩
  rcases List.mem_cons.1 hx with rfl | hx
  · exact ⟨by show ¬ g = w.heap.size; omega, h.gf, (hb.5 _ hgs).trans h.pen⟩
  · obtain ⟨h1, h2, h3⟩ := h.bx x hx
    exact ⟨by have := hX x hx; omega, h2, (hb.5 _ (hX x hx)).trans h3⟩
/-- The first pen. -/
theorem Pn.start {f n : Nat} {T : Nat → Int} {X : List (Nat × Array Value × TypeId)} {w0 w : World} {D : Nat → Prop} (hF : Fil f n T D w0) (hk : Below w0.heap.size w0 w) (g : Nat) (hg : g = w.heap.size) (hX : ∀ x, x ∈ X → x.1 < g ∧ ¬ x.1 = f ∧ w.heap[x.1]? = some (.cells x.2.1 x.2.2 (0, 0))) (bI : Int) (c : Nat) (hb : bI = (c : Int)) (R : List Int) (hR : Sub T c R) :
    Pn f n T X w0 g D c c R (w.alloc (.cells #[.slice (some ⟨f, 0, none⟩) n n, .int .i64 bI] 140)) := by
  subst hb hg
  have hfs : f < w0.heap.size := by obtain ⟨C, _, hr, _⟩ := hF; exact (Array.getElem?_eq_some_iff.1 hr).1
  have hb : Below w.heap.size w (w.alloc (.cells #[.slice (some ⟨f, 0, none⟩) n n, .int .i64 (c : Int)] 140)) := (Below.refl _ _).alloc (Nat.le_refl _) _
  have hs := hk.size
  have hbt := hk.trans (hb.mono hs)
  refine ⟨fun x hx => ?_, heap_alloc_new w _, (hF.other (hbt.5 _ hfs)).set (fun i _ => ⟨.inl, fun h => h.elim id (fun h => by omega)⟩), ⟨hbt.os, hbt.tape, hbt.output, hbt.size, fun k q1 q2 q3 => hbt.5 k q1⟩, hs, hfs, Nat.le_refl _, hR⟩
  obtain ⟨h1, h2, h3⟩ := hX x hx
  exact ⟨by omega, h2, (hb.5 _ h1).trans h3⟩
end Go.Proofs.YtheeogbmljjbdaaGreatDoor
namespace Go.Proofs.YtheeogbmljjbdaaGreatDoor
set_option linter.unusedVariables false
open Go.ChangeShapes Go.WideShapes Go.ChangeAt Go.RowKit Go.Deep
/-- The three sections' headers. -/
def secR (tb l1 tx l2 ow : Nat) : List Int := nbs 4 [1, 2] ++ (nbs 8 [0, 0, tb, l1] ++ (nbs 4 [2, 1] ++ (nbs 8 [8, 24] ++ (nbs 4 [9, 3] ++ (nbs 8 [0, 0, tx, l2] ++ (nbs 4 [0, 0] ++ (nbs 8 [1, 0] ++ (nbs 4 [17, 3] ++ (nbs 8 [0, 0, ow, 27] ++ (nbs 4 [0, 0] ++ (nbs 8 [1, 0] ++ [])))))))))))
theorem secR_eq (tb l1 tx l2 ow : Nat) : secR tb l1 tx l2 ow = secL 1 2 tb l1 2 1 8 24 ++ (secL 9 3 tx l2 0 0 1 0 ++ secL 17 3 ow 27 0 0 1 0) := by
  simp only [secR, secL, nbs, List.append_assoc, List.append_nil]
set_option maxRecDepth 100000 in
set_option maxHeartbeats 2000000 in
theorem wsec_c (f n : Nat) (vd : Value) (tb tx ow se sz l1 l2 : Nat) (T : Nat → Int) (D : Nat → Prop) (w : World) (hF : Fil f n T D w) (hnb : n ≤ 1000000) (hx : tx = tb + l1) (ho : ow = tx + l2) (hb : ow + 27 < n ∧ se + 256 ≤ n)
    (hT0 : Sub T ow (sb ownT)) (hT1 : Sub T (se + 64) (secR tb l1 tx l2 ow)) :
    Calls Tryz.prog 50 #[.slice (some ⟨f, 0, none⟩) n n, .agg #[vd, .int .i64 tb, .int .i64 tx, .int .i64 ow, .int .i64 se, .int .i64 sz]] w fun e w' => e = .returned (.tuple #[]) ∧ Fil f n T (fun i => (D i ∨ (ow ≤ i ∧ i < ow + 27)) ∨ (se + 64 ≤ i ∧ i < se + 256)) w' ∧ Kp f f w w' := by
  obtain ⟨oe, hoe⟩ : ∃ oe, oe = ow + 27 := ⟨_, rfl⟩
  obtain ⟨s1, hs1⟩ : ∃ s1, s1 = se + 64 := ⟨_, rfl⟩
  obtain ⟨s2, hs2⟩ : ∃ s2, s2 = s1 + 64 := ⟨_, rfl⟩
  obtain ⟨s3, hs3⟩ : ∃ s3, s3 = s2 + 64 := ⟨_, rfl⟩
  rw [← hs1] at hT1
  have HS1I : (se : Int) + 64 = s1 := by omega
  have HT1 : Hid (Sub T s1 (secR tb l1 tx l2 ow)) := hT1
  have HB : Hid (tx = tb + l1 ∧ ow = tx + l2 ∧ oe = ow + 27 ∧ s1 = se + 64 ∧ s2 = s1 + 64 ∧ s3 = s2 + 64 ∧ ow + 27 < n ∧ s1 + 192 ≤ n ∧ oe ≤ 1000000 ∧ tx ≤ 1000000 ∧ ow ≤ 1000000 ∧ n ≤ 1000000) := by unfold Hid; omega
  have hfl : f < w.heap.size := by obtain ⟨C, _, hr, _⟩ := hF; exact (Array.getElem?_eq_some_iff.1 hr).1
  have k0 : Hid (Pn f n T [(w.heap.size, #[vd, .int .i64 tb, .int .i64 tx, .int .i64 ow, .int .i64 se, .int .i64 sz], 58)] w (w.heap.size + 1) D ow ow (sb ownT ++ []) ((w.alloc (.cells #[vd, .int .i64 tb, .int .i64 tx, .int .i64 ow, .int .i64 se, .int .i64 sz] 58)).alloc (.cells #[.slice (some ⟨f, 0, none⟩) n n, .int .i64 ow] 140))) := by
    refine Pn.start hF ((Below.refl _ _).alloc (Nat.le_refl _) _) _ (by simp) (fun x hx => ?_) _ ow rfl _ (by rw [List.append_nil]; exact hT0)
    rcases List.mem_cons.1 hx with rfl | hx
    · exact ⟨by show w.heap.size < w.heap.size + 1; omega, by show ¬ w.heap.size = f; omega, heap_alloc_new w _⟩
    · exact absurd hx (List.not_mem_nil)
  have hI1 : (s1 : Int) ≤ 1000000 := by omega
  have hI2 : (oe : Int) ≤ 1000000 := by omega
  have hI3 : (se : Int) ≤ 1000000 := by omega
  have hI4 : (ow : Int) ≤ 1000000 := by omega
  clear hF hT0 hT1 hx ho hb hoe hs1 hs2 hs3 hfl
  go_enter Tryz.func50, Tryz.ntmps50
  go_upto_region 3 with (go_at_call 77; refine (k0.out.text oe (by have := HB.out; rw [ownT_size]; omega) (by have := HB.out; omega) hnb).mono ?_; rintro e w1 ⟨rfl, h1⟩; have k1 : Hid (Pn f n T [(w.heap.size, #[vd, .int .i64 tb, .int .i64 tx, .int .i64 ow, .int .i64 se, .int .i64 sz], 58)] w (w.heap.size + 1) D ow oe [] w1) := h1; clear h1; have HGL : Hid (w.heap.size + 1 < w1.heap.size) := (Array.getElem?_eq_some_iff.1 k1.out.pen).1; have hne1 : ¬ w.heap.size = w1.heap.size := (by have := HGL.out; omega); have hne2 : ¬ w.heap.size + 1 = w1.heap.size := (by have := HGL.out; omega); have b1d := cell_of_row w1 w.heap.size 4 _ _ _ (k1.out.bx (w.heap.size, #[vd, .int .i64 tb, .int .i64 tx, .int .i64 ow, .int .i64 se, .int .i64 sz], 58) (by simp)).2.2)
  have k2 : Hid (Pn f n T [(w.heap.size + 1, #[.slice (some ⟨f, 0, none⟩) n n, .int .i64 oe], 140), (w.heap.size, #[vd, .int .i64 tb, .int .i64 tx, .int .i64 ow, .int .i64 se, .int .i64 sz], 58)] w w1.heap.size (fun i => D i ∨ (ow ≤ i ∧ i < oe)) s1 s1 (nbs 4 [1, 2] ++ (nbs 8 [0, 0, tb, l1] ++ (nbs 4 [2, 1] ++ (nbs 8 [8, 24] ++ (nbs 4 [9, 3] ++ (nbs 8 [0, 0, tx, l2] ++ (nbs 4 [0, 0] ++ (nbs 8 [1, 0] ++ (nbs 4 [17, 3] ++ (nbs 8 [0, 0, ow, 27] ++ (nbs 4 [0, 0] ++ (nbs 8 [1, 0] ++ [])))))))))))) (w1.alloc (.cells #[.slice (some ⟨f, 0, none⟩) n n, .int .i64 (s1 : Int)] 140))) := k1.out.fresh (fun x hx => by
    have := HGL.out
    rcases List.mem_cons.1 hx with rfl | hx
    · show w.heap.size < _; omega
    · exact absurd hx (List.not_mem_nil)) _ s1 rfl _ HT1.out
  have bb2 := (k2.out.bx (w.heap.size, #[vd, .int .i64 tb, .int .i64 tx, .int .i64 ow, .int .i64 se, .int .i64 sz], 58) (by simp)).2.2
  have b2a := cell_of_row (w1.alloc (.cells #[.slice (some ⟨f, 0, none⟩) n n, .int .i64 (s1 : Int)] 140)) w.heap.size 1 _ _ _ bb2
  have b2b := cell_of_row (w1.alloc (.cells #[.slice (some ⟨f, 0, none⟩) n n, .int .i64 (s1 : Int)] 140)) w.heap.size 2 _ _ _ bb2
  have b2c := cell_of_row (w1.alloc (.cells #[.slice (some ⟨f, 0, none⟩) n n, .int .i64 (s1 : Int)] 140)) w.heap.size 3 _ _ _ bb2
  have o2 := cell_of_row (w1.alloc (.cells #[.slice (some ⟨f, 0, none⟩) n n, .int .i64 (s1 : Int)] 140)) (w.heap.size + 1) 1 _ _ _ (k2.out.bx (w.heap.size + 1, #[.slice (some ⟨f, 0, none⟩) n n, .int .i64 oe], 140) (by simp)).2.2
  clear bb2
  go_upto_region 4 with fail
  go_upto_region 5 with (go_at_call 80; refine (k2.out.sect 1 2 _ _ rfl rfl rfl (by have := HB.out; omega) (by omega) (by have := HB.out; omega) (s1 + 40) (by have := HB.out; omega) (by have := HB.out; omega) hnb).mono ?_; rintro e w3 ⟨rfl, h1⟩; have k3 : Hid (Pn f n T [(w.heap.size + 1, #[.slice (some ⟨f, 0, none⟩) n n, .int .i64 oe], 140), (w.heap.size, #[vd, .int .i64 tb, .int .i64 tx, .int .i64 ow, .int .i64 se, .int .i64 sz], 58)] w w1.heap.size (fun i => D i ∨ (ow ≤ i ∧ i < oe)) s1 (s1 + 40) (nbs 4 [2, 1] ++ (nbs 8 [8, 24] ++ (nbs 4 [9, 3] ++ (nbs 8 [0, 0, tx, l2] ++ (nbs 4 [0, 0] ++ (nbs 8 [1, 0] ++ (nbs 4 [17, 3] ++ (nbs 8 [0, 0, ow, 27] ++ (nbs 4 [0, 0] ++ (nbs 8 [1, 0] ++ [])))))))))) w3) := h1; clear h1; have bb3 := (k3.out.bx (w.heap.size, #[vd, .int .i64 tb, .int .i64 tx, .int .i64 ow, .int .i64 se, .int .i64 sz], 58) (by simp)).2.2; have b3a := cell_of_row w3 w.heap.size 1 _ _ _ bb3; have b3b := cell_of_row w3 w.heap.size 2 _ _ _ bb3; have b3c := cell_of_row w3 w.heap.size 3 _ _ _ bb3; have o3 := cell_of_row w3 (w.heap.size + 1) 1 _ _ _ (k3.out.bx (w.heap.size + 1, #[.slice (some ⟨f, 0, none⟩) n n, .int .i64 oe], 140) (by simp)).2.2; clear bb3)
  go_upto_region 6 with (go_at_call 78; refine (k3.out.put 4 2 _ rfl rfl (by decide) rfl (by omega) (s1 + 48) (by have := HB.out; omega) (by have := HB.out; omega) hnb (by omega)).mono ?_; rintro e w4 ⟨rfl, h1⟩; have k4 : Hid (Pn f n T [(w.heap.size + 1, #[.slice (some ⟨f, 0, none⟩) n n, .int .i64 oe], 140), (w.heap.size, #[vd, .int .i64 tb, .int .i64 tx, .int .i64 ow, .int .i64 se, .int .i64 sz], 58)] w w1.heap.size (fun i => D i ∨ (ow ≤ i ∧ i < oe)) s1 (s1 + 48) (nbs 8 [8, 24] ++ (nbs 4 [9, 3] ++ (nbs 8 [0, 0, tx, l2] ++ (nbs 4 [0, 0] ++ (nbs 8 [1, 0] ++ (nbs 4 [17, 3] ++ (nbs 8 [0, 0, ow, 27] ++ (nbs 4 [0, 0] ++ (nbs 8 [1, 0] ++ []))))))))) w4) := h1; clear h1; have bb4 := (k4.out.bx (w.heap.size, #[vd, .int .i64 tb, .int .i64 tx, .int .i64 ow, .int .i64 se, .int .i64 sz], 58) (by simp)).2.2; have b4a := cell_of_row w4 w.heap.size 1 _ _ _ bb4; have b4b := cell_of_row w4 w.heap.size 2 _ _ _ bb4; have b4c := cell_of_row w4 w.heap.size 3 _ _ _ bb4; have o4 := cell_of_row w4 (w.heap.size + 1) 1 _ _ _ (k4.out.bx (w.heap.size + 1, #[.slice (some ⟨f, 0, none⟩) n n, .int .i64 oe], 140) (by simp)).2.2; clear bb4)
  go_upto_region 7 with (go_at_call 78; refine (k4.out.put 8 2 _ rfl rfl (by decide) rfl (by omega) (s2) (by have := HB.out; omega) (by have := HB.out; omega) hnb (by omega)).mono ?_; rintro e w5 ⟨rfl, h1⟩; have k5 : Hid (Pn f n T [(w.heap.size + 1, #[.slice (some ⟨f, 0, none⟩) n n, .int .i64 oe], 140), (w.heap.size, #[vd, .int .i64 tb, .int .i64 tx, .int .i64 ow, .int .i64 se, .int .i64 sz], 58)] w w1.heap.size (fun i => D i ∨ (ow ≤ i ∧ i < oe)) s1 (s2) (nbs 4 [9, 3] ++ (nbs 8 [0, 0, tx, l2] ++ (nbs 4 [0, 0] ++ (nbs 8 [1, 0] ++ (nbs 4 [17, 3] ++ (nbs 8 [0, 0, ow, 27] ++ (nbs 4 [0, 0] ++ (nbs 8 [1, 0] ++ [])))))))) w5) := h1; clear h1; have bb5 := (k5.out.bx (w.heap.size, #[vd, .int .i64 tb, .int .i64 tx, .int .i64 ow, .int .i64 se, .int .i64 sz], 58) (by simp)).2.2; have b5a := cell_of_row w5 w.heap.size 1 _ _ _ bb5; have b5b := cell_of_row w5 w.heap.size 2 _ _ _ bb5; have b5c := cell_of_row w5 w.heap.size 3 _ _ _ bb5; have o5 := cell_of_row w5 (w.heap.size + 1) 1 _ _ _ (k5.out.bx (w.heap.size + 1, #[.slice (some ⟨f, 0, none⟩) n n, .int .i64 oe], 140) (by simp)).2.2; clear bb5)
  go_upto_region 8 with (go_at_call 80; refine (k5.out.sect 9 3 _ _ rfl rfl rfl (by have := HB.out; omega) (by omega) (by have := HB.out; omega) (s2 + 40) (by have := HB.out; omega) (by have := HB.out; omega) hnb).mono ?_; rintro e w6 ⟨rfl, h1⟩; have k6 : Hid (Pn f n T [(w.heap.size + 1, #[.slice (some ⟨f, 0, none⟩) n n, .int .i64 oe], 140), (w.heap.size, #[vd, .int .i64 tb, .int .i64 tx, .int .i64 ow, .int .i64 se, .int .i64 sz], 58)] w w1.heap.size (fun i => D i ∨ (ow ≤ i ∧ i < oe)) s1 (s2 + 40) (nbs 4 [0, 0] ++ (nbs 8 [1, 0] ++ (nbs 4 [17, 3] ++ (nbs 8 [0, 0, ow, 27] ++ (nbs 4 [0, 0] ++ (nbs 8 [1, 0] ++ [])))))) w6) := h1; clear h1; have bb6 := (k6.out.bx (w.heap.size, #[vd, .int .i64 tb, .int .i64 tx, .int .i64 ow, .int .i64 se, .int .i64 sz], 58) (by simp)).2.2; have b6a := cell_of_row w6 w.heap.size 1 _ _ _ bb6; have b6b := cell_of_row w6 w.heap.size 2 _ _ _ bb6; have b6c := cell_of_row w6 w.heap.size 3 _ _ _ bb6; have o6 := cell_of_row w6 (w.heap.size + 1) 1 _ _ _ (k6.out.bx (w.heap.size + 1, #[.slice (some ⟨f, 0, none⟩) n n, .int .i64 oe], 140) (by simp)).2.2; clear bb6)
  go_upto_region 9 with (go_at_call 78; refine (k6.out.put 4 2 _ rfl rfl (by decide) rfl (by omega) (s2 + 48) (by have := HB.out; omega) (by have := HB.out; omega) hnb (by omega)).mono ?_; rintro e w7 ⟨rfl, h1⟩; have k7 : Hid (Pn f n T [(w.heap.size + 1, #[.slice (some ⟨f, 0, none⟩) n n, .int .i64 oe], 140), (w.heap.size, #[vd, .int .i64 tb, .int .i64 tx, .int .i64 ow, .int .i64 se, .int .i64 sz], 58)] w w1.heap.size (fun i => D i ∨ (ow ≤ i ∧ i < oe)) s1 (s2 + 48) (nbs 8 [1, 0] ++ (nbs 4 [17, 3] ++ (nbs 8 [0, 0, ow, 27] ++ (nbs 4 [0, 0] ++ (nbs 8 [1, 0] ++ []))))) w7) := h1; clear h1; have bb7 := (k7.out.bx (w.heap.size, #[vd, .int .i64 tb, .int .i64 tx, .int .i64 ow, .int .i64 se, .int .i64 sz], 58) (by simp)).2.2; have b7a := cell_of_row w7 w.heap.size 1 _ _ _ bb7; have b7b := cell_of_row w7 w.heap.size 2 _ _ _ bb7; have b7c := cell_of_row w7 w.heap.size 3 _ _ _ bb7; have o7 := cell_of_row w7 (w.heap.size + 1) 1 _ _ _ (k7.out.bx (w.heap.size + 1, #[.slice (some ⟨f, 0, none⟩) n n, .int .i64 oe], 140) (by simp)).2.2; clear bb7)
  go_upto_region 10 with (go_at_call 78; refine (k7.out.put 8 2 _ rfl rfl (by decide) rfl (by omega) (s3) (by have := HB.out; omega) (by have := HB.out; omega) hnb (by omega)).mono ?_; rintro e w8 ⟨rfl, h1⟩; have k8 : Hid (Pn f n T [(w.heap.size + 1, #[.slice (some ⟨f, 0, none⟩) n n, .int .i64 oe], 140), (w.heap.size, #[vd, .int .i64 tb, .int .i64 tx, .int .i64 ow, .int .i64 se, .int .i64 sz], 58)] w w1.heap.size (fun i => D i ∨ (ow ≤ i ∧ i < oe)) s1 (s3) (nbs 4 [17, 3] ++ (nbs 8 [0, 0, ow, 27] ++ (nbs 4 [0, 0] ++ (nbs 8 [1, 0] ++ [])))) w8) := h1; clear h1; have bb8 := (k8.out.bx (w.heap.size, #[vd, .int .i64 tb, .int .i64 tx, .int .i64 ow, .int .i64 se, .int .i64 sz], 58) (by simp)).2.2; have b8a := cell_of_row w8 w.heap.size 1 _ _ _ bb8; have b8b := cell_of_row w8 w.heap.size 2 _ _ _ bb8; have b8c := cell_of_row w8 w.heap.size 3 _ _ _ bb8; have o8 := cell_of_row w8 (w.heap.size + 1) 1 _ _ _ (k8.out.bx (w.heap.size + 1, #[.slice (some ⟨f, 0, none⟩) n n, .int .i64 oe], 140) (by simp)).2.2; clear bb8)
  go_upto_region 11 with (go_at_call 80; refine (k8.out.sect 17 3 _ _ rfl rfl rfl (by have := HB.out; omega) (by omega) (by have := HB.out; omega) (s3 + 40) (by have := HB.out; omega) (by have := HB.out; omega) hnb).mono ?_; rintro e w9 ⟨rfl, h1⟩; have k9 : Hid (Pn f n T [(w.heap.size + 1, #[.slice (some ⟨f, 0, none⟩) n n, .int .i64 oe], 140), (w.heap.size, #[vd, .int .i64 tb, .int .i64 tx, .int .i64 ow, .int .i64 se, .int .i64 sz], 58)] w w1.heap.size (fun i => D i ∨ (ow ≤ i ∧ i < oe)) s1 (s3 + 40) (nbs 4 [0, 0] ++ (nbs 8 [1, 0] ++ [])) w9) := h1; clear h1; have bb9 := (k9.out.bx (w.heap.size, #[vd, .int .i64 tb, .int .i64 tx, .int .i64 ow, .int .i64 se, .int .i64 sz], 58) (by simp)).2.2; have b9a := cell_of_row w9 w.heap.size 1 _ _ _ bb9; have b9b := cell_of_row w9 w.heap.size 2 _ _ _ bb9; have b9c := cell_of_row w9 w.heap.size 3 _ _ _ bb9; have o9 := cell_of_row w9 (w.heap.size + 1) 1 _ _ _ (k9.out.bx (w.heap.size + 1, #[.slice (some ⟨f, 0, none⟩) n n, .int .i64 oe], 140) (by simp)).2.2; clear bb9)
  go_upto_region 12 with (go_at_call 78; refine (k9.out.put 4 2 _ rfl rfl (by decide) rfl (by omega) (s3 + 48) (by have := HB.out; omega) (by have := HB.out; omega) hnb (by omega)).mono ?_; rintro e w10 ⟨rfl, h1⟩; have k10 : Hid (Pn f n T [(w.heap.size + 1, #[.slice (some ⟨f, 0, none⟩) n n, .int .i64 oe], 140), (w.heap.size, #[vd, .int .i64 tb, .int .i64 tx, .int .i64 ow, .int .i64 se, .int .i64 sz], 58)] w w1.heap.size (fun i => D i ∨ (ow ≤ i ∧ i < oe)) s1 (s3 + 48) (nbs 8 [1, 0] ++ []) w10) := h1; clear h1; have bb10 := (k10.out.bx (w.heap.size, #[vd, .int .i64 tb, .int .i64 tx, .int .i64 ow, .int .i64 se, .int .i64 sz], 58) (by simp)).2.2; have b10a := cell_of_row w10 w.heap.size 1 _ _ _ bb10; have b10b := cell_of_row w10 w.heap.size 2 _ _ _ bb10; have b10c := cell_of_row w10 w.heap.size 3 _ _ _ bb10; have o10 := cell_of_row w10 (w.heap.size + 1) 1 _ _ _ (k10.out.bx (w.heap.size + 1, #[.slice (some ⟨f, 0, none⟩) n n, .int .i64 oe], 140) (by simp)).2.2; clear bb10)
  go_wp2_with (go_at_call 78; refine (k10.out.put 8 2 _ rfl rfl (by decide) rfl (by omega) (s3 + 64) (by have := HB.out; omega) (by have := HB.out; omega) hnb (by omega)).mono ?_; rintro e w11 ⟨rfl, h1⟩; have k11 : Hid (Pn f n T [(w.heap.size + 1, #[.slice (some ⟨f, 0, none⟩) n n, .int .i64 oe], 140), (w.heap.size, #[vd, .int .i64 tb, .int .i64 tx, .int .i64 ow, .int .i64 se, .int .i64 sz], 58)] w w1.heap.size (fun i => D i ∨ (ow ≤ i ∧ i < oe)) s1 (s3 + 64) ([]) w11) := h1; clear h1; have bb11 := (k11.out.bx (w.heap.size, #[vd, .int .i64 tb, .int .i64 tx, .int .i64 ow, .int .i64 se, .int .i64 sz], 58) (by simp)).2.2; have b11a := cell_of_row w11 w.heap.size 1 _ _ _ bb11; have b11b := cell_of_row w11 w.heap.size 2 _ _ _ bb11; have b11c := cell_of_row w11 w.heap.size 3 _ _ _ bb11; have o11 := cell_of_row w11 (w.heap.size + 1) 1 _ _ _ (k11.out.bx (w.heap.size + 1, #[.slice (some ⟨f, 0, none⟩) n n, .int .i64 oe], 140) (by simp)).2.2; clear bb11)
  --@CUT
  first | go_end0 | refine bodyPost_ret (results_none rfl _ _ _) rfl ?_
  have hse := HB.out
  refine ⟨rfl, k11.out.fil.set (fun i _ => ?_), k11.out.kp⟩
  have e1 : oe = ow + 27 := by omega
  have e2 : s3 + 64 = se + 256 := by omega
  have e3 : s1 = se + 64 := by omega
  rw [e1, e2, e3]
end Go.Proofs.YtheeogbmljjbdaaGreatDoor
namespace Go.Proofs.YtheeogbmljjbdaaGreatDoor
set_option linter.unusedVariables false
open Go.ChangeShapes Go.WideShapes Go.ChangeAt Go.RowKit Go.Deep
theorem zs_get (m i : Nat) : (zs m).getD i 0 = 0 := by
  unfold zs
  rw [List.getD_eq_getElem?_getD, List.getElem?_replicate]
  split <;> rfl
theorem Pn.jump {f n : Nat} {T : Nat → Int} {X : List (Nat × Array Value × TypeId)} {w0 : World} {g : Nat} {D : Nat → Prop} {b a m : Nat} {R : List Int} {w : World} (h : Pn f n T X w0 g D b a (zs m ++ R) w) (cI : Int) (c : Nat) (hI : cI = (c : Int)) (hc : c = a + m) : Pn f n T X w0 g D b c R (w.setCell ⟨g, 1, none⟩ (.int .i64 cI)) := by
  subst hI hc
  have hf : Fil f n T (fun i => (D i ∨ (b ≤ i ∧ i < a)) ∨ (a ≤ i ∧ i < a + m)) (w.setCell ⟨g, 1, none⟩ (.int .i64 ((a + m : Nat) : Int))) :=
    (h.fil.other (setCell_other w g 1 _ f (fun e => h.gf e.symm))).wide (fun i _ q => .inl q) (fun i _ q nq => by
      have q := q.resolve_left nq
      have e := h.rest.left (i - a) (by rw [zs_length]; omega)
      rw [zs_get, show a + (i - a) = i by omega] at e
      exact e)
  exact h.next h.pen.move (by omega) hf (setCell_kp g f w g 1 _ (.inl rfl)) (h.rest.right.at (by rw [zs_length]))
/-- How every file begins. -/
def idT : ByteArray := ⟨#[127, 69, 76, 70, 2, 1, 1]⟩
theorem idT_size : idT.size = 7 := rfl
/-- A file's head. -/
def headR (E se ml c t : Nat) : List Int := sb idT ++ (zs 9 ++ (nbs 2 [2, 243] ++ (nbs 4 [1] ++ (nbs 8 [E, 64, se] ++ (nbs 4 [1] ++ (nbs 2 [64, 56, ml, 64, c, t] ++ []))))))
set_option maxRecDepth 100000 in
set_option maxHeartbeats 2000000 in
theorem whead_a (f n : Nat) (E : BitVec 64) (sa na : Option Addr) (ml sc nl nc : Nat) (vd : Value) (tb tx ow se sz : Nat) (T : Nat → Int) (D : Nat → Prop) (w : World) (hF : Fil f n T D w) (hnb : n ≤ 1000000) (hn : 64 ≤ n) (hm : ml ≤ 16) (hnl : 0 < nl) (hs : se ≤ 1000000)
    (hT : Sub T 0 (headR E.toNat se ml 4 3)) :
    Calls Tryz.prog 47 #[.slice (some ⟨f, 0, none⟩) n n, .agg #[.int .u64 (n64 E), .slice sa ml sc, .slice na nl nc], .agg #[vd, .int .i64 tb, .int .i64 tx, .int .i64 ow, .int .i64 se, .int .i64 sz]] w fun e w' => e = .returned (.tuple #[]) ∧ Fil f n T (fun i => D i ∨ (0 ≤ i ∧ i < 64)) w' ∧ Kp f f w w' := by
  have hfl : f < w.heap.size := by obtain ⟨C, _, hr, _⟩ := hF; exact (Array.getElem?_eq_some_iff.1 hr).1
  have k0 : Hid (Pn f n T [(w.heap.size + 1, #[vd, .int .i64 tb, .int .i64 tx, .int .i64 ow, .int .i64 se, .int .i64 sz], 58), (w.heap.size, #[.int .u64 (n64 E), .slice sa ml sc, .slice na nl nc], 26)] w (w.heap.size + 1 + 1) D 0 0 (sb idT ++ (zs 9 ++ (nbs 2 [2, 243] ++ (nbs 4 [1] ++ (nbs 8 [E.toNat, 64, se] ++ (nbs 4 [1] ++ (nbs 2 [64, 56, ml, 64, 4, 3] ++ []))))))) (((w.alloc (.cells #[.int .u64 (n64 E), .slice sa ml sc, .slice na nl nc] 26)).alloc (.cells #[vd, .int .i64 tb, .int .i64 tx, .int .i64 ow, .int .i64 se, .int .i64 sz] 58)).alloc (.cells #[.slice (some ⟨f, 0, none⟩) n n, .int .i64 0] 140))) := by
    refine Pn.start hF (((Below.refl _ _).alloc (Nat.le_refl _) _).alloc (by simp) _) _ (by simp) (fun x hx => ?_) 0 0 rfl _ hT
    rcases List.mem_cons.1 hx with rfl | hx
    · exact ⟨by show w.heap.size + 1 < w.heap.size + 1 + 1; omega, by show ¬ w.heap.size + 1 = f; omega, heap_alloc2_new w _ _⟩
    · rcases List.mem_cons.1 hx with rfl | hx
      · exact ⟨by show w.heap.size < w.heap.size + 1 + 1; omega, by show ¬ w.heap.size = f; omega, heap_alloc2_old w _ _⟩
      · exact absurd hx (List.not_mem_nil)
  have HB : Hid (64 ≤ n ∧ ml ≤ 16 ∧ se ≤ 1000000 ∧ E.toNat < 18446744073709551616) := ⟨hn, hm, hs, E.isLt⟩
  have hI1 : (se : Int) ≤ 1000000 := by omega
  have hI2 : (ml : Int) ≤ 16 := by omega
  have hI3 : (0 : Int) < nl := by omega
  clear hF hT hm hs hn hfl
  go_enter Tryz.func47, Tryz.ntmps47
  go_upto_region 6 with (go_at_call 77; refine (k0.out.text 7 (by rw [idT_size]) (by have := HB.out; omega) hnb).mono ?_; rintro e w1 ⟨rfl, h1⟩; have k1 : Hid (Pn f n T [(w.heap.size + 1, #[vd, .int .i64 tb, .int .i64 tx, .int .i64 ow, .int .i64 se, .int .i64 sz], 58), (w.heap.size, #[.int .u64 (n64 E), .slice sa ml sc, .slice na nl nc], 26)] w (w.heap.size + 1 + 1) D 0 7 (zs 9 ++ (nbs 2 [2, 243] ++ (nbs 4 [1] ++ (nbs 8 [E.toNat, 64, se] ++ (nbs 4 [1] ++ (nbs 2 [64, 56, ml, 64, 4, 3] ++ [])))))) w1) := h1; clear h1; obtain ⟨p1, q1⟩ := k1.out.pen.c1)
  have k2 : Hid (Pn f n T [(w.heap.size + 1, #[vd, .int .i64 tb, .int .i64 tx, .int .i64 ow, .int .i64 se, .int .i64 sz], 58), (w.heap.size, #[.int .u64 (n64 E), .slice sa ml sc, .slice na nl nc], 26)] w (w.heap.size + 1 + 1) D 0 16 (nbs 2 [2, 243] ++ (nbs 4 [1] ++ (nbs 8 [E.toNat, 64, se] ++ (nbs 4 [1] ++ (nbs 2 [64, 56, ml, 64, 4, 3] ++ []))))) (w1.setCell ⟨w.heap.size + 1 + 1, 1, none⟩ (.int .i64 16))) := k1.out.jump 16 16 rfl rfl
  go_upto_region 7 with fail
  obtain ⟨w2, hw2⟩ : ∃ w2, w2 = w1.setCell ⟨w.heap.size + 1 + 1, 1, none⟩ (.int .i64 16) := ⟨_, rfl⟩
  rw [← hw2] at k2 ⊢
  clear hw2 p1 q1
  go_upto_region 8 with (go_at_call 78; refine (k2.out.put 2 2 _ rfl rfl (by decide) rfl (by omega) 20 rfl (by have := HB.out; omega) hnb (by omega)).mono ?_; rintro e w3 ⟨rfl, h1⟩; have k3 : Hid (Pn f n T [(w.heap.size + 1, #[vd, .int .i64 tb, .int .i64 tx, .int .i64 ow, .int .i64 se, .int .i64 sz], 58), (w.heap.size, #[.int .u64 (n64 E), .slice sa ml sc, .slice na nl nc], 26)] w (w.heap.size + 1 + 1) D 0 20 (nbs 4 [1] ++ (nbs 8 [E.toNat, 64, se] ++ (nbs 4 [1] ++ (nbs 2 [64, 56, ml, 64, 4, 3] ++ [])))) w3) := h1; clear h1)
  go_upto_region 9 with (go_at_call 78; refine (k3.out.put 4 1 _ rfl rfl (by decide) rfl (by omega) 24 rfl (by have := HB.out; omega) hnb (by omega)).mono ?_; rintro e w4 ⟨rfl, h1⟩; have k4 : Hid (Pn f n T [(w.heap.size + 1, #[vd, .int .i64 tb, .int .i64 tx, .int .i64 ow, .int .i64 se, .int .i64 sz], 58), (w.heap.size, #[.int .u64 (n64 E), .slice sa ml sc, .slice na nl nc], 26)] w (w.heap.size + 1 + 1) D 0 24 (nbs 8 [E.toNat, 64, se] ++ (nbs 4 [1] ++ (nbs 2 [64, 56, ml, 64, 4, 3] ++ []))) w4) := h1; clear h1; have c1 := cell_of_row w4 (w.heap.size) 0 _ _ _ (k4.out.bx (w.heap.size, #[.int .u64 (n64 E), .slice sa ml sc, .slice na nl nc], 26) (by simp)).2.2; have c2 := cell_of_row w4 (w.heap.size + 1) 4 _ _ _ (k4.out.bx (w.heap.size + 1, #[vd, .int .i64 tb, .int .i64 tx, .int .i64 ow, .int .i64 se, .int .i64 sz], 58) (by simp)).2.2)
  go_upto_region 10 with (go_at_call 78; refine (k4.out.put 8 3 _ rfl rfl (by have := HB.out; intro v hv; simp only [List.mem_cons, List.not_mem_nil, or_false] at hv; omega) rfl (by omega) 48 rfl (by have := HB.out; omega) hnb (by omega)).mono ?_; rintro e w5 ⟨rfl, h1⟩; have k5 : Hid (Pn f n T [(w.heap.size + 1, #[vd, .int .i64 tb, .int .i64 tx, .int .i64 ow, .int .i64 se, .int .i64 sz], 58), (w.heap.size, #[.int .u64 (n64 E), .slice sa ml sc, .slice na nl nc], 26)] w (w.heap.size + 1 + 1) D 0 48 (nbs 4 [1] ++ (nbs 2 [64, 56, ml, 64, 4, 3] ++ [])) w5) := h1; clear h1)
  go_upto_region 11 with (go_at_call 78; refine (k5.out.put 4 1 _ rfl rfl (by decide) rfl (by omega) 52 rfl (by have := HB.out; omega) hnb (by omega)).mono ?_; rintro e w6 ⟨rfl, h1⟩; have k6 : Hid (Pn f n T [(w.heap.size + 1, #[vd, .int .i64 tb, .int .i64 tx, .int .i64 ow, .int .i64 se, .int .i64 sz], 58), (w.heap.size, #[.int .u64 (n64 E), .slice sa ml sc, .slice na nl nc], 26)] w (w.heap.size + 1 + 1) D 0 52 (nbs 2 [64, 56, ml, 64, 4, 3] ++ []) w6) := h1; clear h1; have c3 := cell_of_row w6 (w.heap.size) 1 _ _ _ (k6.out.bx (w.heap.size, #[.int .u64 (n64 E), .slice sa ml sc, .slice na nl nc], 26) (by simp)).2.2)
  go_wp2_with (go_at_call 78; refine (k6.out.put 2 6 _ rfl rfl (by have := HB.out; intro v hv; simp only [List.mem_cons, List.not_mem_nil, or_false] at hv; omega) rfl (by omega) 64 rfl (by have := HB.out; omega) hnb (by omega)).mono ?_; rintro e w7 ⟨rfl, h1⟩; have k7 : Hid (Pn f n T [(w.heap.size + 1, #[vd, .int .i64 tb, .int .i64 tx, .int .i64 ow, .int .i64 se, .int .i64 sz], 58), (w.heap.size, #[.int .u64 (n64 E), .slice sa ml sc, .slice na nl nc], 26)] w (w.heap.size + 1 + 1) D 0 64 ([]) w7) := h1; clear h1)
  --@CUT
  first | go_end0 | refine bodyPost_ret (results_none rfl _ _ _) rfl ?_
  exact ⟨rfl, k7.out.fil, k7.out.kp⟩
set_option maxRecDepth 100000 in
set_option maxHeartbeats 2000000 in
theorem whead_z (f n : Nat) (E : BitVec 64) (sa na : Option Addr) (ml sc nl nc : Nat) (vd : Value) (tb tx ow se sz : Nat) (T : Nat → Int) (D : Nat → Prop) (w : World) (hF : Fil f n T D w) (hnb : n ≤ 1000000) (hn : 64 ≤ n) (hm : ml ≤ 16) (hnl : nl = 0) (hs : se ≤ 1000000)
    (hT : Sub T 0 (headR E.toNat se ml 0 0)) :
    Calls Tryz.prog 47 #[.slice (some ⟨f, 0, none⟩) n n, .agg #[.int .u64 (n64 E), .slice sa ml sc, .slice na nl nc], .agg #[vd, .int .i64 tb, .int .i64 tx, .int .i64 ow, .int .i64 se, .int .i64 sz]] w fun e w' => e = .returned (.tuple #[]) ∧ Fil f n T (fun i => D i ∨ (0 ≤ i ∧ i < 64)) w' ∧ Kp f f w w' := by
  have hfl : f < w.heap.size := by obtain ⟨C, _, hr, _⟩ := hF; exact (Array.getElem?_eq_some_iff.1 hr).1
  have k0 : Hid (Pn f n T [(w.heap.size + 1, #[vd, .int .i64 tb, .int .i64 tx, .int .i64 ow, .int .i64 se, .int .i64 sz], 58), (w.heap.size, #[.int .u64 (n64 E), .slice sa ml sc, .slice na nl nc], 26)] w (w.heap.size + 1 + 1) D 0 0 (sb idT ++ (zs 9 ++ (nbs 2 [2, 243] ++ (nbs 4 [1] ++ (nbs 8 [E.toNat, 64, se] ++ (nbs 4 [1] ++ (nbs 2 [64, 56, ml, 64, 0, 0] ++ []))))))) (((w.alloc (.cells #[.int .u64 (n64 E), .slice sa ml sc, .slice na nl nc] 26)).alloc (.cells #[vd, .int .i64 tb, .int .i64 tx, .int .i64 ow, .int .i64 se, .int .i64 sz] 58)).alloc (.cells #[.slice (some ⟨f, 0, none⟩) n n, .int .i64 0] 140))) := by
    refine Pn.start hF (((Below.refl _ _).alloc (Nat.le_refl _) _).alloc (by simp) _) _ (by simp) (fun x hx => ?_) 0 0 rfl _ hT
    rcases List.mem_cons.1 hx with rfl | hx
    · exact ⟨by show w.heap.size + 1 < w.heap.size + 1 + 1; omega, by show ¬ w.heap.size + 1 = f; omega, heap_alloc2_new w _ _⟩
    · rcases List.mem_cons.1 hx with rfl | hx
      · exact ⟨by show w.heap.size < w.heap.size + 1 + 1; omega, by show ¬ w.heap.size = f; omega, heap_alloc2_old w _ _⟩
      · exact absurd hx (List.not_mem_nil)
  have HB : Hid (64 ≤ n ∧ ml ≤ 16 ∧ se ≤ 1000000 ∧ E.toNat < 18446744073709551616) := ⟨hn, hm, hs, E.isLt⟩
  have hI1 : (se : Int) ≤ 1000000 := by omega
  have hI2 : (ml : Int) ≤ 16 := by omega
  have hI3 : ¬ (0 : Int) < nl := by omega
  clear hnl
  clear hF hT hm hs hn hfl
  go_enter Tryz.func47, Tryz.ntmps47
  go_upto_region 6 with (go_at_call 77; refine (k0.out.text 7 (by rw [idT_size]) (by have := HB.out; omega) hnb).mono ?_; rintro e w1 ⟨rfl, h1⟩; have k1 : Hid (Pn f n T [(w.heap.size + 1, #[vd, .int .i64 tb, .int .i64 tx, .int .i64 ow, .int .i64 se, .int .i64 sz], 58), (w.heap.size, #[.int .u64 (n64 E), .slice sa ml sc, .slice na nl nc], 26)] w (w.heap.size + 1 + 1) D 0 7 (zs 9 ++ (nbs 2 [2, 243] ++ (nbs 4 [1] ++ (nbs 8 [E.toNat, 64, se] ++ (nbs 4 [1] ++ (nbs 2 [64, 56, ml, 64, 0, 0] ++ [])))))) w1) := h1; clear h1; obtain ⟨p1, q1⟩ := k1.out.pen.c1)
  have k2 : Hid (Pn f n T [(w.heap.size + 1, #[vd, .int .i64 tb, .int .i64 tx, .int .i64 ow, .int .i64 se, .int .i64 sz], 58), (w.heap.size, #[.int .u64 (n64 E), .slice sa ml sc, .slice na nl nc], 26)] w (w.heap.size + 1 + 1) D 0 16 (nbs 2 [2, 243] ++ (nbs 4 [1] ++ (nbs 8 [E.toNat, 64, se] ++ (nbs 4 [1] ++ (nbs 2 [64, 56, ml, 64, 0, 0] ++ []))))) (w1.setCell ⟨w.heap.size + 1 + 1, 1, none⟩ (.int .i64 16))) := k1.out.jump 16 16 rfl rfl
  go_upto_region 7 with fail
  obtain ⟨w2, hw2⟩ : ∃ w2, w2 = w1.setCell ⟨w.heap.size + 1 + 1, 1, none⟩ (.int .i64 16) := ⟨_, rfl⟩
  rw [← hw2] at k2 ⊢
  clear hw2 p1 q1
  go_upto_region 8 with (go_at_call 78; refine (k2.out.put 2 2 _ rfl rfl (by decide) rfl (by omega) 20 rfl (by have := HB.out; omega) hnb (by omega)).mono ?_; rintro e w3 ⟨rfl, h1⟩; have k3 : Hid (Pn f n T [(w.heap.size + 1, #[vd, .int .i64 tb, .int .i64 tx, .int .i64 ow, .int .i64 se, .int .i64 sz], 58), (w.heap.size, #[.int .u64 (n64 E), .slice sa ml sc, .slice na nl nc], 26)] w (w.heap.size + 1 + 1) D 0 20 (nbs 4 [1] ++ (nbs 8 [E.toNat, 64, se] ++ (nbs 4 [1] ++ (nbs 2 [64, 56, ml, 64, 0, 0] ++ [])))) w3) := h1; clear h1)
  go_upto_region 9 with (go_at_call 78; refine (k3.out.put 4 1 _ rfl rfl (by decide) rfl (by omega) 24 rfl (by have := HB.out; omega) hnb (by omega)).mono ?_; rintro e w4 ⟨rfl, h1⟩; have k4 : Hid (Pn f n T [(w.heap.size + 1, #[vd, .int .i64 tb, .int .i64 tx, .int .i64 ow, .int .i64 se, .int .i64 sz], 58), (w.heap.size, #[.int .u64 (n64 E), .slice sa ml sc, .slice na nl nc], 26)] w (w.heap.size + 1 + 1) D 0 24 (nbs 8 [E.toNat, 64, se] ++ (nbs 4 [1] ++ (nbs 2 [64, 56, ml, 64, 0, 0] ++ []))) w4) := h1; clear h1; have c1 := cell_of_row w4 (w.heap.size) 0 _ _ _ (k4.out.bx (w.heap.size, #[.int .u64 (n64 E), .slice sa ml sc, .slice na nl nc], 26) (by simp)).2.2; have c2 := cell_of_row w4 (w.heap.size + 1) 4 _ _ _ (k4.out.bx (w.heap.size + 1, #[vd, .int .i64 tb, .int .i64 tx, .int .i64 ow, .int .i64 se, .int .i64 sz], 58) (by simp)).2.2)
  go_upto_region 10 with (go_at_call 78; refine (k4.out.put 8 3 _ rfl rfl (by have := HB.out; intro v hv; simp only [List.mem_cons, List.not_mem_nil, or_false] at hv; omega) rfl (by omega) 48 rfl (by have := HB.out; omega) hnb (by omega)).mono ?_; rintro e w5 ⟨rfl, h1⟩; have k5 : Hid (Pn f n T [(w.heap.size + 1, #[vd, .int .i64 tb, .int .i64 tx, .int .i64 ow, .int .i64 se, .int .i64 sz], 58), (w.heap.size, #[.int .u64 (n64 E), .slice sa ml sc, .slice na nl nc], 26)] w (w.heap.size + 1 + 1) D 0 48 (nbs 4 [1] ++ (nbs 2 [64, 56, ml, 64, 0, 0] ++ [])) w5) := h1; clear h1)
  go_upto_region 11 with (go_at_call 78; refine (k5.out.put 4 1 _ rfl rfl (by decide) rfl (by omega) 52 rfl (by have := HB.out; omega) hnb (by omega)).mono ?_; rintro e w6 ⟨rfl, h1⟩; have k6 : Hid (Pn f n T [(w.heap.size + 1, #[vd, .int .i64 tb, .int .i64 tx, .int .i64 ow, .int .i64 se, .int .i64 sz], 58), (w.heap.size, #[.int .u64 (n64 E), .slice sa ml sc, .slice na nl nc], 26)] w (w.heap.size + 1 + 1) D 0 52 (nbs 2 [64, 56, ml, 64, 0, 0] ++ []) w6) := h1; clear h1; have c3 := cell_of_row w6 (w.heap.size) 1 _ _ _ (k6.out.bx (w.heap.size, #[.int .u64 (n64 E), .slice sa ml sc, .slice na nl nc], 26) (by simp)).2.2)
  go_wp2_with (go_at_call 78; refine (k6.out.put 2 6 _ rfl rfl (by have := HB.out; intro v hv; simp only [List.mem_cons, List.not_mem_nil, or_false] at hv; omega) rfl (by omega) 64 rfl (by have := HB.out; omega) hnb (by omega)).mono ?_; rintro e w7 ⟨rfl, h1⟩; have k7 : Hid (Pn f n T [(w.heap.size + 1, #[vd, .int .i64 tb, .int .i64 tx, .int .i64 ow, .int .i64 se, .int .i64 sz], 58), (w.heap.size, #[.int .u64 (n64 E), .slice sa ml sc, .slice na nl nc], 26)] w (w.heap.size + 1 + 1) D 0 64 ([]) w7) := h1; clear h1)
  --@CUT
  first | go_end0 | refine bodyPost_ret (results_none rfl _ _ _) rfl ?_
  exact ⟨rfl, k7.out.fil, k7.out.kp⟩
end Go.Proofs.YtheeogbmljjbdaaGreatDoor
