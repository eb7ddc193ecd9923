/-
  Izh.
-/
import Derived.Test.YtopddflnahfomaaGreatDoorM42
namespace Go.Proofs.YtopddflnahfomaaGreatDoor
set_option linter.unusedVariables false
set_option maxRecDepth 100000
open Go.ChangeShapes Go.WideShapes Go.ChangeAt Go.RowKit Go.Deep
theorem plc_alike {L M : List Sg} (h : Alike L M) (k : Nat) (hk : k < L.length) : plc M k = plc L k := by
  unfold plc
  rw [h.n k hk, sk_alike h k (by omega)]
theorem hdL_alike {L M : List Sg} (h : Alike L M) (k : Nat) (hk : k ≤ L.length) : hdL M k = hdL L k := by
  induction k with
  | zero => rfl
  | succ k ih =>
    show hdL M k ++ phL (sg M k) (plc M k) = hdL L k ++ phL (sg L k) (plc L k)
    rw [ih (by omega), plc_alike h k (by omega)]
    unfold phL
    rw [h.a k (by omega), h.s k (by omega), h.f k (by omega), h.n k (by omega)]
theorem daL_alike {L M : List Sg} {D : Nat → List Int} (h : Alike L M) (k : Nat) (hk : k ≤ L.length) : daL M D k = daL L D k := by
  induction k with
  | zero => rfl
  | succ k ih =>
    show (daL M D k ++ if 0 < (sg M k).n then zs (al (sk M k) - sk M k) ++ D k else []) = (daL L D k ++ if 0 < (sg L k).n then zs (al (sk L k) - sk L k) ++ D k else [])
    rw [ih (by omega), h.n k (by omega), sk_alike h k (by omega)]
theorem ans_alike {L M : List Sg} {D : Nat → List Int} (h : Alike L M) (E : BitVec 64) (N : List Sy) : ans E M N D = ans E L N D := by
  have e1 : tabAt M = tabAt L := by unfold tabAt; rw [h.len, sk_alike h _ (Nat.le_refl _)]
  have e2 : szz M N = szz L N := by unfold szz; rw [e1, h.len, sk_alike h _ (Nat.le_refl _)]
  unfold ans fl flZ flA
  rw [ck_alike h, h.len, hdL_alike h _ (Nat.le_refl _), daL_alike h _ (Nat.le_refl _), e2, e1, sk_alike h _ (Nat.le_refl _)]
theorem allB_nil : AllB [] := fun x hx => by cases hx
theorem allB_app {a b : List Int} (ha : AllB a) (hb : AllB b) : AllB (a ++ b) := fun x hx => (List.mem_append.1 hx).elim (ha x) (hb x)
theorem allB_pt (N n : Nat) : AllB (ptL N n) := fun x hx => by
  unfold ptL at hx
  obtain ⟨j, _, rfl⟩ := List.mem_map.1 hx
  generalize N / 256 ^ j = m
  omega
theorem allB_zs (n : Nat) : AllB (zs n) := fun x hx => by
  have := List.eq_of_mem_replicate hx
  omega
theorem allB_sb (s : ByteArray) : AllB (sb s) := fun x hx => by
  unfold sb at hx
  obtain ⟨b, _, rfl⟩ := List.mem_map.1 hx
  have := b.toNat_lt
  omega
theorem allB_id : AllB idL := allB_of (by kernel_rfl)
theorem allB_0 : AllB [0] := allB_of (by kernel_rfl)
theorem allB_head (E a b c d : Nat) : AllB (headL E a b c d) := by
  unfold headL
  repeat' (first | exact allB_pt _ _ | exact allB_id | refine allB_app ?_ ?_)
theorem allB_hd (L : List Sg) : ∀ k, AllB (hdL L k)
  | 0 => allB_nil
  | k + 1 => allB_app (allB_hd L k) (by unfold phL; repeat' (first | exact allB_pt _ _ | refine allB_app ?_ ?_))
theorem allB_da {L : List Sg} {D : Nat → List Int} (hD : ∀ j, j < L.length → AllB (D j)) : ∀ k, k ≤ L.length → AllB (daL L D k)
  | 0, _ => allB_nil
  | k + 1, h => by
    rw [daL]
    refine allB_app (allB_da hD k (by omega)) ?_
    split
    · exact allB_app (allB_zs _) (hD k (by omega))
    · exact allB_nil
theorem allB_tb (N : List Sy) : ∀ k, AllB (tbL N k)
  | 0 => allB_nil
  | k + 1 => allB_app (allB_tb N k) (by unfold entL; repeat' (first | exact allB_pt _ _ | refine allB_app ?_ ?_))
theorem allB_tx (N : List Sy) : ∀ k, AllB (txL N k)
  | 0 => allB_0
  | k + 1 => allB_app (allB_tx N k) (allB_app (allB_sb _) allB_0)
theorem allB_sec (a b c d e f g h : Nat) : AllB (secL a b c d e f g h) := by
  unfold secL
  repeat' (first | exact allB_pt _ _ | refine allB_app ?_ ?_)
theorem allB_fl (E : Nat) (L : List Sg) (N : List Sy) (D : Nat → List Int) (hD : ∀ j, j < L.length → AllB (D j)) : AllB (fl E L N D) := by
  unfold fl
  split
  · unfold flZ
    exact allB_app (allB_head _ _ _ _ _) (allB_app (allB_hd _ _) (allB_da hD _ (Nat.le_refl _)))
  · unfold flA symL
    exact allB_app (allB_head _ _ _ _ _) (allB_app (allB_hd _ _) (allB_app (allB_da hD _ (Nat.le_refl _)) (allB_app (allB_zs _) (allB_app (allB_pt _ _) (allB_app (allB_tb _ _) (allB_app (allB_tx _ _) (allB_app (allB_sb _) (allB_app (allB_zs _) (allB_app (allB_sec _ _ _ _ _ _ _ _) (allB_app (allB_sec _ _ _ _ _ _ _ _) (allB_app (allB_sec _ _ _ _ _ _ _ _) (allB_sec _ _ _ _ _ _ _ _))))))))))))
theorem ptsL_get (L : List Sg) (j : Nat) (h : j < L.length) : (ptsL L L.length).getD j ptz = ptS L j := by
  unfold ptsL
  rw [List.getD_eq_getElem?_getD, List.getElem?_map, List.getElem?_range h]
  rfl
theorem ptsL_len (L : List Sg) : (ptsL L L.length).length = L.length := by simp [ptsL]
/-- What Read made of a file of an image is the image. -/
theorem rd_alike {b : List Int} {E : BitVec 64} {L : List Sg} {N : List Sy} {D : Nat → List Int} (h : Nd b E.toNat L N D) (hc : ck E L N = 0) {B : Nat} {w : World} {u v : Value} {L' : List Sg} (hi : ImO b B w u v L') : Alike L L' ∧ Dta w L' D ∧ Imq w u v L' N := by
  obtain ⟨_, _, hp, hn⟩ := nd_rd h hc
  obtain ⟨_, _, _, hpf, _, _⟩ := ck_all hc
  have hd := hi.data
  rw [hp] at hd
  have hl : L'.length = L.length := by rw [hd.len, ptsL_len]
  have at' : ∀ j, j < L.length → SgPt b B w (sg L' j) (ptS L j) := fun j hj => by
    have q := hd.at j (by omega)
    rw [ptsL_get L j hj] at q
    exact q
  refine ⟨⟨hl, fun j hj => ?_, fun j hj => ?_, fun j hj => ?_, fun j hj => ?_⟩, fun j hj => ?_, ?_⟩
  · exact (at' j hj).1.trans (ofN _)
  · exact (at' j hj).2.1.trans (ofN _)
  · have e : (sg L' j).f = (((sg L j).f.toNat : Nat) : Int) := (at' j hj).2.2.1
    have := (pf_ok (hpf j hj)).f
    omega
  · exact own_n (at' j hj).2.2.2
  · have hj' : j < L.length := by omega
    have q := (at' j hj').2.2.2
    have e : (b.drop (ptS L j).p).take (ptS L j).n = D j := h.da j hj'
    rw [e] at q
    refine ⟨?_, Byt.of_own q⟩
    have z := q.1
    rw [bv_len, Nat.mul_one] at z
    rw [own_n q]
    exact z
  · have q := hi.imq
    rw [hn] at q
    exact q
/-- An image that came in. -/
structure Arg (w : World) (vs vn : Value) (L : List Sg) (N : List Sy) (D : Nat → List Int) : Prop where
  im : Img w vs vn L N
  da : Dta w L D
  by' : ∀ j, j < L.length → AllB (D j)
  nil : ∀ c k, vn = .slice none k c → k = 0 ∧ c = 0
  nL : L.length * 48 ≤ 140737488355280
  nN : N.length * 24 ≤ 140737488355328
theorem Arg.later {w w' : World} {vs vn : Value} {L : List Sg} {N : List Sy} {D : Nat → List Int} (h : Arg w vs vn L N D) (hb : Below w.heap.size w w') : Arg w' vs vn L N D := ⟨h.im.later hb rfl, h.da.later hb, h.by', h.nil, h.nL, h.nN⟩
theorem Arg.twin {w : World} {vs vn : Value} {L : List Sg} {N : List Sy} {D : Nat → List Int} (h : Arg w vs vn L N D) (E : BitVec 64) :
    Calls Tryz.prog 7 #[.agg #[.int .u64 (n64 E), vs, vn]] w fun e w' => ∃ a1 a2 a3 b1 b2 b3 M, e = .returned (.agg #[.int .u64 (n64 E), .slice a1 a2 a3, .slice b1 b2 b3]) ∧ Alike L M ∧ Img w' (.slice a1 a2 a3) (.slice b1 b2 b3) M N ∧ Dta w' M D ∧ Below w.heap.size w w' := by
  refine (twin_d E vs vn L N h.nL h.nN w h.im D h.da h.nil).mono ?_
  rintro e w' ⟨vs', vn', M, rfl, ha, hi, hb, hd, ho⟩
  have ha := ha.out
  have hi := hi.out
  obtain ⟨a1, a3, rfl, _⟩ := hi.segs
  obtain ⟨b1, b3, rfl, _⟩ := hi.syms
  refine ⟨a1, _, a3, b1, _, b3, M, rfl, ha, hi, fun j hj => ?_, hb.out⟩
  have hj' : j < L.length := by rw [← ha.len]; exact hj
  exact ⟨(h.da j hj').1.trans (ha.n j hj').symm, Byt.of_own (hd.out j hj')⟩
theorem fl_alike' {L M : List Sg} {D : Nat → List Int} (h : Alike L M) (E : BitVec 64) (N : List Sy) (hc : ck E L N = 0) : fl E.toNat M N D = fl E.toNat L N D := by
  have q : ans E M N D = ans E L N D := ans_alike h E N
  unfold ans at q
  rw [if_pos ((ck_alike h E N).trans hc), if_pos hc] at q
  exact q
/-- Write of a twin. -/
theorem Arg.write {w0 w : World} {vs vn : Value} {L M : List Sg} {N : List Sy} {D : Nat → List Int} (h : Arg w0 vs vn L N D) (E : BitVec 64) {us un : Value} (ha : Alike L M) (hi : Img w us un M N) (hd : Dta w M D) (hT : Tabs w) (R : Int) (hR : R = ck E L N) :
    Calls Tryz.prog 6 #[.agg #[.int .u64 (n64 E), us, un]] w fun e w' => ∃ a n cap, e = .returned (.tuple #[.slice a n cap, .int .i64 R]) ∧ n = (ans E L N D).length ∧ Byt w' (.slice a n cap) (ans E L N D) ∧ From w.heap.size (.slice a n cap) ∧ Below w.heap.size w w' := by
  have h1 := h.nL
  have h2 := h.nN
  refine (pwrite E us un M N D (by rw [ha.len]; omega) (by omega) w hi hd hT R (hR.trans (ck_alike ha E N).symm)).mono ?_
  rintro e w' ⟨v, rfl, hv, hf, hb⟩
  rw [ans_alike ha E N] at hv
  have hv' := hv
  obtain ⟨a, cap, rfl, _⟩ := hv'
  exact ⟨a, _, cap, rfl, rfl, hv, hf, hb⟩
/-- Read of a file of an image. -/
theorem nd_read {b : List Int} {E : BitVec 64} {L : List Sg} {N : List Sy} {D : Nat → List Int} (h : Nd b E.toNat L N D) (hc : ck E L N = 0) (hB : AllB b) (vb : Value) (w : World) (hv : Byt w vb b) (hT : Tabs w) (hE : EtW w) :
    Calls Tryz.prog 9 #[vb] w fun e w' => ∃ um un uc vm vn vc L', e = .returned (.tuple #[.agg #[.int .u64 (n64 E), .slice um un uc, .slice vm vn vc], .nilIface]) ∧ Alike L L' ∧ Dta w' L' D ∧ Imq w' (.slice um un uc) (.slice vm vn vc) L' N ∧ Below w.heap.size w w' := by
  obtain ⟨_, _, _, _, _, hz⟩ := ck_all hc
  have hlen := h.len
  obtain ⟨hr, he, _, _⟩ := nd_rd h hc
  refine (read_c hB (by omega) vb w hv hT hE).mono ?_
  rintro e w' (⟨_, u, v, L', rfl, hi, hb⟩ | ⟨F, g, hF, _⟩)
  · obtain ⟨q1, q2, q3⟩ := rd_alike h hc hi
    obtain ⟨um, un, uc, rfl⟩ := own_slice hi.segs
    obtain ⟨vm, vn, vc, rfl⟩ := own_slice hi.syms
    exact ⟨um, un, uc, vm, vn, vc, L', by rw [he]; rfl, q1, q2, q3, hb⟩
  · rw [hr] at hF; cases hF
/-- An image and what Read made of its file. -/
theorem Arg.alike {w : World} {vs vn : Value} {L L' : List Sg} {N : List Sy} {D : Nat → List Int} (h : Arg w vs vn L N D) (E : BitVec 64) {u v : Value} (ha : Alike L L') (hd : Dta w L' D) (hi : Imq w u v L' N) :
    Calls Tryz.prog 10 #[.agg #[.int .u64 (n64 E), u, v], .agg #[.int .u64 (n64 E), vs, vn]] w fun e w' => e = .returned (.bool true) ∧ Below w.heap.size w w' := by
  have h1 := h.nL
  have h2 := h.nN
  exact alike_c E u v vs vn L L' N D (by omega) (by omega) w hi ⟨h.im.segs, h.im.syms⟩ ha hd h.da
/-- The file of an image that Check takes. -/
theorem Arg.nd {w : World} {vs vn : Value} {L : List Sg} {N : List Sy} {D : Nat → List Int} (h : Arg w vs vn L N D) (E : BitVec 64) (hc : ck E L N = 0) : Nd (ans E L N D) E.toNat L N D ∧ AllB (ans E L N D) ∧ (ans E L N D).length ≤ 200000 := by
  obtain ⟨_, hL, hN, hp, _, hz⟩ := ck_all hc
  have e : ans E L N D = fl E.toNat L N D := by unfold ans; rw [if_pos hc]
  have q := nd_fl (E := E) (D := D) (fun j hj => (h.da j hj).1) hL hN hz (fun j hj => (pf_ok (hp j hj)).f)
  rw [e]
  exact ⟨q, allB_fl _ _ _ _ h.by', by rw [q.len]; exact hz⟩
theorem ans_no {E : BitVec 64} {L : List Sg} {N : List Sy} {D : Nat → List Int} (h : ¬ ck E L N = 0) : ans E L N D = [] := by unfold ans; rw [if_neg h]
end Go.Proofs.YtopddflnahfomaaGreatDoor
