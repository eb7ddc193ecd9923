/-
  pad and section of the reference.
-/
import Derived.Test.YtjjdpfmkbaaapaaDoorIwa
import Derived.Test.YtjjdpfmkbaaapaaDoorIpa
namespace Go.Proofs.YtjjdpfmkbaaapaaDoor
set_option linter.unusedVariables false
open Go.ChangeShapes Go.WideShapes Go.ChangeAt Go.RowKit Go.Deep
def zs (n : Nat) : List Int := List.replicate n 0
theorem zs_length (n : Nat) : (zs n).length = n := by simp [zs]
theorem zs_succ (n : Nat) : zs (n + 1) = zs n ++ [0] := by simp [zs, List.replicate_succ']
theorem lenInt_own {B : Nat} {w : World} {v : Value} {l : List Int} (h : w.ownsRow B 5 1 v l.length (bv l)) : ∃ a c, v = .slice a l.length c := by
  rcases h.2 with ⟨h1, h2⟩ | ⟨g, cap, cur, h1, _⟩
  · exact ⟨none, 0, by rw [h1, h2]⟩
  · exact ⟨_, cap, h1⟩
theorem pad_fin {w wr : World} {B k n : Nat} {v vt : Value} {lb lt : List Int} (hk : k = n) (hp : Pr B wr v (lb ++ zs k) vt lt) (hb : Fr B w wr) :
    ∃ u, Ending.returned v = .returned u ∧ Pr B wr u (lb ++ zs n) vt lt ∧ Fr B w wr := by
  subst hk
  exact ⟨v, rfl, hp, hb⟩
set_option maxHeartbeats 1000000 in
theorem rpad_c (B : Nat) (vb vt : Value) (lb lt : List Int) (w : World) (hp : Pr B w vb lb vt lt) (hlb : lb.length < 900000) (hB : B ≤ w.heap.size) :
    Calls Tryd.prog 17 #[vb] w fun e w' => ∃ v, e = .returned v ∧ Pr B w' v (lb ++ zs (al lb.length - lb.length)) vt lt ∧ Fr B w w' := by
  have HP : Hid (Pr B w vb lb vt lt) := hp
  have HL : Hid (lb.length < 900000) := hlb
  have HBW : Hid (B ≤ w.heap.size) := hB
  obtain ⟨n, hn⟩ : ∃ n, n = al lb.length - lb.length := ⟨_, rfl⟩
  rw [← hn]
  have HN : Hid (n = al lb.length - lb.length) := hn
  have hn7 : n ≤ 7 := by have := al_hi lb.length; omega
  clear hp hlb hB hn
  go_enter Tryd.func17, Tryd.ntmps17
  go_wp2
  go_loopw [0] (fun l wr => ∃ k : Nat, k ≤ n ∧ (∃ a c, l = .slice a (lb ++ zs k).length c) ∧ Hid (Pr B wr l (lb ++ zs k) vt lt) ∧ Hid (Fr B w wr)) (fun l _ => match l with | .slice _ m _ => lb.length + n - m | _ => 0)
  case atStart => exact ⟨0, Nat.zero_le _, by obtain ⟨a, c, h⟩ := lenInt_own HP.out.b; exact ⟨a, c, by simpa [zs] using h⟩, by simpa [zs] using HP, Fr.refl _ _⟩
  case round =>
    obtain ⟨k, hk, ⟨a, c, rfl⟩, hown, hbel⟩ := hrel
    have hle : (lb ++ zs k).length = lb.length + k := by rw [List.length_append, zs_length]
    obtain ⟨m, hm⟩ : ∃ m, m = (lb ++ zs k).length := ⟨_, rfl⟩
    rw [← hm] at hown ⊢
    have HM : Hid (m = lb.length + k) := hm.trans hle
    have HM' : Hid (m = (lb ++ zs k).length) := hm
    clear hm hle
    have hmb : m < 1000000 := by have := HM.out; have := HL.out; omega
    by_cases hlt : k < n
    · have h8 : ((m : Int) % 8 != 0) = true := by
        have h1 := HM.out; have h2 := HN.out
        unfold al at h2
        simp; omega
      have hlen : (lb ++ zs k).length < 1000000 := by rw [← HM'.out]; exact hmb
      have hBs : B ≤ wr.heap.size := Nat.le_trans HBW.out hbel.out.b.size
      have HS : Hid (zs (k + 1) = zs k ++ [0]) := zs_succ k
      go_wp2_with (at_builtin; refine appPb (by rfl) _ _ (by rfl) B _ vt (lb ++ zs k) lt _ (by rfl) hown.out _ (by rfl) (by simp) hlen hBs ?_; intro v' w1 hown1 hg1)
      have HG : Hid (Fr B wr w1) := hg1
      have HO1 := hown1
      rw [List.append_assoc, ← HS.out] at HO1
      have HO : Hid (Pr B w1 v' (lb ++ zs (k + 1)) vt lt) := HO1
      clear HO1 hg1 hown1
      have HV := lenInt_own HO.out.b
      obtain ⟨a', c', rfl⟩ := HV
      go_roundw
      case rel => exact ⟨k + 1, by omega, ⟨_, _, rfl⟩, HO, hbel.out.trans HG.out⟩
      case measure => simp only [List.length_append, zs_length]; have := HM.out; omega
    · have hkn : k = n := by omega
      have HK : Hid (k = n) := hkn
      have h8 : ((m : Int) % 8 != 0) = false := by
        have h1 := HM.out; have h2 := HN.out
        unfold al at h2
        simp; omega
      clear hkn hlt
      go_wp2
      go_ret
      exact pad_fin HK.out hown.out hbel.out
/-- A section header of 64 bytes. -/
def secL (name kind at_ size link info align entry : Nat) : List Int :=
  ptL name 4 ++ (ptL kind 4 ++ (ptL 0 8 ++ (ptL 0 8 ++ (ptL at_ 8 ++ (ptL size 8 ++ (ptL link 4 ++ (ptL info 4 ++ (ptL align 8 ++ ptL entry 8))))))))
theorem secL_length (name kind at_ size link info align entry : Nat) : (secL name kind at_ size link info align entry).length = 64 := by simp [secL, ptL_length]
set_option maxHeartbeats 4000000 in
theorem rsec_c (B : Nat) (vb vt : Value) (lb lt : List Int) (name kind at_ size link info align entry : Nat) (w : World) (hp : Pr B w vb lb vt lt) (hlb : lb.length < 800000) (hB : B ≤ w.heap.size)
    (h1 : name ≤ 1000000) (h2 : kind ≤ 1000000) (h3 : at_ ≤ 1000000) (h4 : size ≤ 1000000) (h5 : link ≤ 1000000) (h6 : info ≤ 1000000) (h7 : align ≤ 1000000) (h8 : entry ≤ 1000000) :
    Calls Tryd.prog 31 #[vb, .int .u64 name, .int .u64 kind, .int .i64 at_, .int .i64 size, .int .u64 link, .int .u64 info, .int .u64 align, .int .u64 entry] w fun e w' => ∃ v, e = .returned v ∧ Pr B w' v (lb ++ secL name kind at_ size link info align entry) vt lt ∧ Fr B w w' := by
  have hpc : Hid (Pr B w vb lb vt lt) := hp
  have hbc : Hid (Fr B w w) := Fr.refl _ _
  have HBW : Hid (B ≤ w.heap.size) := hB
  have HL : Hid (lb.length < 800000) := hlb
  clear hp hlb hB
  go_enter Tryd.func31, Tryd.ntmps31
  go_wp2_with (go_at_call 15; go_loud (refine (rnum_z B _ vt _ lt _ _ _ hpc.out (by omega) (by omega) (by omega) (by omega) (by have := HL.out; (try simp only [List.length_append, ptL_length]); omega) (Nat.le_trans HBW.out hbc.out.b.size)).mono ?_; rintro e w' ⟨v, rfl, hpn, hbn⟩; have hpc : Hid (Pr B w' v _ vt lt) := hpn; have hbc : Hid (Fr B w w') := hbc.out.trans hbn; clear hpn hbn))
  go_ret
  refine ⟨_, rfl, ?_, hbc.out⟩
  have := hpc.out
  simp only [List.append_assoc] at this
  exact this
end Go.Proofs.YtjjdpfmkbaaapaaDoor
