/-
  Dy.
-/
import Derived.Test.YthmjimmmkoeeoaaDoorM34
namespace Go.Proofs.YthmjimmmkoeeoaaDoor
set_option linter.unusedVariables false
set_option maxRecDepth 100000
open Go.ChangeShapes Go.WideShapes Go.ChangeAt Go.RowKit Go.Deep Go.Shelf
theorem set4 {a b c d e : Value} : (#[a, b, c, d] : Array Value).setIfInBounds 3 e = #[a, b, c, e] := rfl
set_option maxHeartbeats 16000000 in
theorem copied_c (r : Int) (K : Cp) (mt : BitVec 64) (ps : List Pt) (ws : List Wd) (v u : Value) (w : World) (hv : Pts w v ps) (hu : Wds w u ws) (hn : ps.length ≤ 2932031007400) (hm : ws.length ≤ 4398046511000) (hd : ∀ p ∈ ps, p.d.length ≤ 140737488355328) (hi : ∀ x ∈ ws, x.i.length ≤ 140737488355328) :
    Calls Tryd.prog 4 #[.agg (dkc r K mt v u)] w fun e w' => ∃ v' u', e = .returned (.agg (dkc r K mt v' u')) ∧ Pts w' v' ps ∧ Wds w' u' ws ∧ Below w.heap.size w w' := by
  obtain ⟨W0, hW0, r0, b0, s0⟩ := start1 w (dkc r K mt v u) 35
  obtain ⟨W1, hW1, r1, b1, s1⟩ := start1 W0 dkZ 35
  obtain ⟨W2, hW2, r2, b2, s2⟩ := start1 W1 (dkc r K mt v u) 35
  have HV : Hid (Pts W0 v ps) := hv.later b0.out
  have HU : Hid (Wds W0 u ws) := hu.later b0.out
  have HDL : Hid (∀ j, j < ps.length → (ps.getD j pt0).d.length ≤ 140737488355328) := fun j hj => AllB.getD hd j hj
  have HIL : Hid (∀ j, j < ws.length → (ws.getD j wd0).i.length ≤ 140737488355328) := fun j hj => hi _ (by rw [List.getD_eq_getElem?_getD, List.getElem?_eq_getElem hj]; exact List.getElem_mem hj)
  have HAD : Hid (∀ j, j < ps.length → AllB (ps.getD j pt0).d) := fun j hj => by obtain ⟨_, _, _, _, _, _, hcs⟩ := hv.at j hj; obtain ⟨_, _, _, h⟩ := hcs j hj; exact h
  have HAI : Hid (∀ j, j < ws.length → AllB (ws.getD j wd0).i) := fun j hj => by obtain ⟨_, _, _, _, _, _, hcs⟩ := hu.at j hj; obtain ⟨_, _, _, h⟩ := hcs j hj; exact h
  have HNM : Hid (ps.length ≤ 2932031007400 ∧ ws.length ≤ 4398046511000) := ⟨hn, hm⟩
  have hvo : v.oneCell' = true := by obtain ⟨a, c, rfl, _⟩ := hv; rfl
  have huo : u.oneCell' = true := by obtain ⟨a, c, rfl, _⟩ := hu; rfl
  have hls : w.heap.size < W0.heap.size := by omega
  have hg3 : W1.heap.size = W0.heap.size + 1 := s1
  have hW2s : W2.heap.size = W0.heap.size + 2 := by omega
  have HC : Hid (∀ w', Below W0.heap.size W0 w' → w'.cell? ⟨w.heap.size, 84, none⟩ = some v ∧ w'.cell? ⟨w.heap.size, 85, none⟩ = some u) := fun w' hb => ⟨(hb.cell (p := ⟨w.heap.size, 84, none⟩) hls).trans ((r0.out.cell (83 + 1)).trans ((dkc_e ..).trans rfl)), (hb.cell (p := ⟨w.heap.size, 85, none⟩) hls).trans ((r0.out.cell (83 + 2)).trans ((dkc_e ..).trans rfl))⟩
  have HB2 : Hid (Below W0.heap.size W0 W2) := b1.out.trans (b2.out.mono b1.out.size)
  have R1 : Hid (Row W2 W0.heap.size dkZ 35) := r1.out.later b2.out r1.out.lt
  have R2 : Hid (Row W2 W1.heap.size (dkc r K mt v u) 35) := r2.out
  have HW1 : Below W0.heap.size W0 W1 := b1.out
  have HCD : Hid (∀ i y, (dkc r K mt v u)[i]? = some y → W1.cell? ⟨w.heap.size, 0 + i, none⟩ = some y) := fun i y h => by rw [Nat.zero_add]; exact ((HW1.cell (p := ⟨w.heap.size, i, none⟩) hls).trans (r0.out.cell i)).trans h
  have HID := info_dk r K mt v u
  have HOD := ones_dk r K mt v u hvo huo
  have HZS : dkZ.size = (dkc r K mt v u).size := by unfold dkZ; rw [dkc_size, dkc_size]
  have HQ2 : Hid (∀ x y : Value, Row ((W2.setCell ⟨W1.heap.size, 84, none⟩ x).setCell ⟨W1.heap.size, 85, none⟩ y) W1.heap.size (dkc r K mt x y) 35) := fun x y => by
    have q := (R2.out.put (i := 84) x).put (i := 85) y
    rw [dkc_v, dkc_u] at q
    exact q
  have RT := R2.out.cell (83 + 1)
  have RT2 := R2.out.cell (83 + 2)
  have t84 : W2.cell? ⟨W1.heap.size, 84, none⟩ = some v := RT.trans ((dkc_e ..).trans rfl)
  have t85 : W2.cell? ⟨W1.heap.size, 85, none⟩ = some u := RT2.trans ((dkc_e ..).trans rfl)
  have f84 := R2.out.froz 84
  have f85 := R2.out.froz 85
  have zd := zero_dk
  have RP := R2.out.put (i := 84) (.slice none 0 0)
  rw [dkc_v] at RP
  have t85b : (W2.setCell ⟨W1.heap.size, 84, none⟩ (.slice none 0 0)).cell? ⟨W1.heap.size, 85, none⟩ = some u := (RP.cell (83 + 2)).trans ((dkc_e ..).trans rfl)
  have f85b : (W2.setCell ⟨W1.heap.size, 84, none⟩ (.slice none 0 0)).frozen? ⟨W1.heap.size, 85, none⟩ = false := RP.froz 85
  generalize hDC : dkc r K mt v u = DC at hW0 hW2 HCD HID HOD HZS ⊢
  have HSZ : Hid (W1.heap.size = W0.heap.size + 1 ∧ W2.heap.size = W0.heap.size + 2 ∧ w.heap.size < W0.heap.size) := ⟨hg3, hW2s, hls⟩
  clear hDC r0 r1 r2 hv hu hd hi hn hm RT RT2 RP s0 s1 s2 hg3 hW2s hls
  go_enter Tryd.func4, Tryd.ntmps4
  go_upto_region 1 with (refine wpList_allocZ1 (by rfl) 35 (by rfl) dkZ zero_dk ?_)
  clear hW0
  try rw [hW1]
  clear hW1 zd
  --@U1
  go_upto_region 2 with (first
    | (refine wpList_allocZ1 (by rfl) 35 (by rfl) dkZ zero_dk ?_)
    | (refine wpList_store_new (by rfl) 35 _ _ (by rfl) (by rfl) dkZ DC (by rfl) (by rfl) HID HZS HOD ?_)
    | (refine wpList_load_agg (by rfl) 35 _ (by rfl) w.heap.size 0 (by rfl) DC _ HCD.out Tryd.underlying35 (by rfl) HID ?_))
  try rw [hW2]
  clear hW2
  --@U2
  go_upto_region 5 with fail
  --@U3
  have HR3 : Hid (Row ((W2.setCell ⟨W1.heap.size, 84, none⟩ (.slice none 0 0)).setCell ⟨W1.heap.size, 85, none⟩ (.slice none 0 0)) W1.heap.size (dkc r K mt (.slice none 0 0) (.slice none 0 0)) 35) := HQ2.out _ _
  have HR1 : Hid (Row ((W2.setCell ⟨W1.heap.size, 84, none⟩ (.slice none 0 0)).setCell ⟨W1.heap.size, 85, none⟩ (.slice none 0 0)) W0.heap.size dkZ 35) := (R1.out.other (by have := HSZ.out; omega) _).other (by have := HSZ.out; omega) _
  have HB3 : Hid (Below W0.heap.size W0 ((W2.setCell ⟨W1.heap.size, 84, none⟩ (.slice none 0 0)).setCell ⟨W1.heap.size, 85, none⟩ (.slice none 0 0))) := Below.setCell (Below.setCell HB2.out (by have := HSZ.out; show W0.heap.size ≤ W1.heap.size; omega) _) (by have := HSZ.out; show W0.heap.size ≤ W1.heap.size; omega) _
  have HS3 : Hid (W2.heap.size ≤ ((W2.setCell ⟨W1.heap.size, 84, none⟩ (.slice none 0 0)).setCell ⟨W1.heap.size, 85, none⟩ (.slice none 0 0)).heap.size) := by unfold Hid; simp [World.setCell]
  generalize ((W2.setCell ⟨W1.heap.size, 84, none⟩ (.slice none 0 0)).setCell ⟨W1.heap.size, 85, none⟩ (.slice none 0 0)) = W3 at HR3 HR1 HB3 HS3 ⊢
  clear HB2 R1 R2 HCD HID HOD HZS HQ2 t84 t85 f84 f85 t85b f85b HW1 hvo huo
  obtain ⟨va, vc, rfl, _, _, _⟩ := HV.out
  obtain ⟨ua, uc, rfl, _, _, _⟩ := HU.out
  obtain ⟨N, hN⟩ : ∃ N, N = ps.length := ⟨_, rfl⟩
  obtain ⟨M, hM⟩ : ∃ M, M = ws.length := ⟨_, rfl⟩
  have HN : Hid (N = ps.length) := hN
  have HM : Hid (M = ws.length) := hM
  rw [← hN, ← hM] at HC
  clear hN hM
  go_loopw [4, 5] (fun i _ wr => ∃ q : Nat, ∃ vv : Value, q ≤ N ∧ i = .int .i64 q ∧ Hid (CpSg W2.heap.size wr vv (ps.take q)) ∧ Hid (Row wr W1.heap.size (dkc r K mt vv (.slice none 0 0)) 35) ∧ Hid (Row wr W0.heap.size dkZ 35) ∧ Hid (Below W0.heap.size W0 wr) ∧ Hid (W2.heap.size ≤ wr.heap.size)) (fun i _ _ => N - (intOf i).toNat)
  case atStart => exact ⟨0, .slice none 0 0, Nat.zero_le _, rfl, Cpy.nil _, HR3, HR1, HB3, HS3⟩
  case round =>
    obtain ⟨q, vv, hq, rfl, HCp, HR3r, HR1r, HBr, HSr⟩ := hrel
    clear HR3 HR1 HB3 HS3
    obtain ⟨c84, c85⟩ := HC.out wr HBr.out
    have hN1 : N ≤ 2932031007400 := by rw [HN.out]; exact HNM.out.1
    by_cases hlt : q < N
    · have hltI : (q : Int) < N := by omega
      obtain ⟨g, off, cap2, e1, hc2, hg, hcs⟩ := HV.out.at q (by rw [← HN.out]; exact hlt)
      cases e1
      obtain ⟨uk, hck, hbk, hak⟩ := hcs q (by rw [← HN.out]; exact hlt)
      have HTK : Hid (ps.take (q + 1) = ps.take q ++ [ps.getD q pt0]) := take_pt ps q (by rw [← HN.out]; exact hlt)
      have HLD : Hid ((ps.getD q pt0).d.length ≤ 140737488355328) := HDL.out q (by rw [← HN.out]; exact hlt)
      have HLT : Hid ((ps.take q).length ≤ 2932031007400) := by unfold Hid; rw [List.length_take]; omega
      generalize ps.getD q pt0 = p at hck hbk hak HTK HLD
      have HBK : Hid (Byt wr uk p.d) := hbk.later HBr.out rfl
      obtain ⟨ad, cd, rfl, _, _, _⟩ := hbk
      have HCK : Hid (∀ i y, (#[.int .u64 (n64 p.a), .int .u64 (n64 p.s), .int .i64 p.f, .slice ad p.d.length cd] : Array Value)[i]? = some y → wr.cell? ⟨g, off + q * 4 + i, none⟩ = some y) := fun i y h => (HBr.out.cell (p := ⟨g, off + q * 4 + i, none⟩) hg).trans (hck i y h)
      obtain ⟨WA, hWA, rA, bA, sA⟩ := start1 wr #[.int .u64 (n64 p.a), .int .u64 (n64 p.s), .int .i64 p.f, .slice ad p.d.length cd] 46
      have HRA : Hid (Row WA wr.heap.size #[.int .u64 (n64 p.a), .int .u64 (n64 p.s), .int .i64 p.f, .slice ad p.d.length cd] 46) := rA
      have HBA : Hid (Below wr.heap.size wr WA) := bA
      have a3 : WA.cell? ⟨wr.heap.size, 3, none⟩ = some (.slice ad p.d.length cd) := rA.out.cell 3
      have HKN : Hid (q + 1 ≤ N) := hlt
      clear hck hak hg hcs hc2 rA bA sA
      go_upto_region 8 with (first
        | (refine wpList_allocZ1 (by rfl) 46 (by rfl) #[.int .u64 0, .int .u64 0, .int .i64 0, .slice none 0 0] zero_sg ?_)
        | (refine wpList_store_new (by rfl) 46 _ _ (by rfl) (by rfl) #[.int .u64 0, .int .u64 0, .int .i64 0, .slice none 0 0] #[.int .u64 (n64 p.a), .int .u64 (n64 p.s), .int .i64 p.f, .slice ad p.d.length cd] (by rfl) (by rfl) (info_sg _ _ _ _) (by rfl) (ones4 (by rfl) (by rfl) (by rfl) (by rfl)) ?_)
        | (refine wpList_load_agg (by rfl) 46 _ (by rfl) g (off + q * 4) (by rfl) #[.int .u64 (n64 p.a), .int .u64 (n64 p.s), .int .i64 p.f, .slice ad p.d.length cd] _ HCK.out Tryd.underlying46 (by rfl) (info_sg _ _ _ _) ?_))
      try rw [hWA]
      clear hWA
      --Tryd0
      go_upto_region 9 with (at_builtin; refine appL (by rfl) _ _ (by rfl) WA.heap.size (.slice none 0 0) (.slice ad p.d.length cd) [] p.d (by rfl) ⟨rfl, .inl ⟨rfl, rfl⟩⟩ (by rfl) (HBK.out.later HBA.out rfl) (by have := HLD.out; simp; omega) (Nat.le_refl _) ?_; intro v5 w5 h1 h2; obtain ⟨a5, m5, c5, rfl⟩ : ∃ a n c, v5 = Value.slice a n c := (by rcases h1.2 with ⟨e, _⟩ | ⟨_, _, _, e, _⟩ <;> exact ⟨_, _, _, e⟩); have HO5 : Hid (w5.ownsRow WA.heap.size 5 1 (.slice a5 m5 c5) p.d.length (bv p.d)) := h1; have HB5 : Hid (Below WA.heap.size WA w5) := (Below.refl _ _).grown h2 (Nat.le_refl _) (fun k hk => by simp [Value.ownBlock] at hk); have HR5 : Hid (Row w5 wr.heap.size #[.int .u64 (n64 p.a), .int .u64 (n64 p.s), .int .i64 p.f, .slice ad p.d.length cd] 46) := HRA.out.later HB5.out HRA.out.lt; have e3 : w5.cell? ⟨wr.heap.size, 3, none⟩ = some (.slice ad p.d.length cd) := HR5.out.cell 3; have f3 : w5.frozen? ⟨wr.heap.size, 3, none⟩ = false := HR5.out.froz 3; clear h1 h2)
      clear a3 e3 f3
      have hv5 : (Value.slice a5 m5 c5).oneCell' = true := rfl
      have HB05 : Hid (Below wr.heap.size wr w5) := HBA.out.trans (HB5.out.mono HBA.out.size)
      have HR6 : Hid (Row (w5.setCell ⟨wr.heap.size, 3, none⟩ (.slice a5 m5 c5)) wr.heap.size #[.int .u64 (n64 p.a), .int .u64 (n64 p.s), .int .i64 p.f, .slice a5 m5 c5] 46) := by have := HR5.out.put (i := 3) (.slice a5 m5 c5); rw [set4] at this; exact this
      have HB06 : Hid (Below wr.heap.size wr (w5.setCell ⟨wr.heap.size, 3, none⟩ (.slice a5 m5 c5))) := Below.setCell HB05.out (Nat.le_refl _) _
      have HS6 : Hid (w5.heap.size = (w5.setCell ⟨wr.heap.size, 3, none⟩ (.slice a5 m5 c5)).heap.size) := by unfold Hid; simp [World.setCell]
      have HO6 : Hid ((w5.setCell ⟨wr.heap.size, 3, none⟩ (.slice a5 m5 c5)).ownsRow WA.heap.size 5 1 (.slice a5 m5 c5) p.d.length (bv p.d)) := own_set HO5.out (by have := HRA.out.lt; omega)
      generalize w5.setCell ⟨wr.heap.size, 3, none⟩ (.slice a5 m5 c5) = W6 at HR6 HB06 HS6 HO6 ⊢
      clear HB05 HR5 HO5
      have HG3 : Hid (W1.heap.size < wr.heap.size) := HR3r.out.lt
      have HR36 : Hid (Row W6 W1.heap.size (dkc r K mt vv (.slice none 0 0)) 35) := HR3r.out.later HB06.out HR3r.out.lt
      have HR16 : Hid (Row W6 W0.heap.size dkZ 35) := HR1r.out.later HB06.out HR1r.out.lt
      have HCp6 : Hid (CpSg W2.heap.size W6 vv (ps.take q)) := Cpy.later HCp.out HB06.out
      have HS26 : Hid (W2.heap.size ≤ W6.heap.size) := Nat.le_trans HSr.out HB06.out.size
      have HO26 : Hid (W6.ownsRow W2.heap.size 5 1 (.slice a5 m5 c5) p.d.length (bv p.d)) := own_le HO6.out (Nat.le_trans HSr.out HBA.out.size)
      have HB6 : Hid (Below W0.heap.size W0 W6) := HBr.out.trans (HB06.out.mono HBr.out.size)
      have d84 : W6.cell? ⟨W1.heap.size, 84, none⟩ = some vv := (HR36.out.cell (83 + 1)).trans ((dkc_e ..).trans rfl)
      have HCA : Hid (∀ i y, (#[.int .u64 (n64 p.a), .int .u64 (n64 p.s), .int .i64 p.f, .slice a5 m5 c5] : Array Value)[i]? = some y → W6.cell? ⟨wr.heap.size, 0 + i, none⟩ = some y) := fun i y h => by rw [Nat.zero_add]; exact (HR6.out.cell i).trans h
      clear HCp HR3r HR1r HBr HSr HBK HCK HRA HBA HB5 HO6 HB06 HS6 c84 c85
      --@B0
      go_wp2_with (first
        | (at_builtin; refine appSg (by rfl) _ _ (by rfl) W2.heap.size vv (ps.take q) p (by rfl) (Cpy.later HCp6.out (below_alc W6 _)) W6.heap.size (.slice a5 m5 c5) (by rfl) (heap_alloc_new W6 _) hv5 (own_later HO26.out (below_alc W6 _) rfl) HLT.out (by have := HS26.out; simp; omega) ?_; intro v8 w8 h1 h2 h3; obtain ⟨a8, m8, c8, rfl⟩ : ∃ a n c, v8 = Value.slice a n c := (by obtain ⟨_, _, ho, _⟩ := h1; rcases ho.2 with ⟨e, _⟩ | ⟨_, _, _, e, _⟩ <;> exact ⟨_, _, _, e⟩); have HCp8 : Hid (CpSg W2.heap.size w8 (.slice a8 m8 c8) (ps.take q ++ [p])) := h1; have HB8 : Hid (Below W0.heap.size W0 w8) := (HB6.out.alloc HB6.out.size _).trans (h2.mono (by have := HSZ.out; omega)); have HR38 : Hid (Row w8 W1.heap.size (dkc r K mt vv (.slice none 0 0)) 35) := h3.row (HR36.out.old HR36.out.lt _) (by decide); have HR18 : Hid (Row w8 W0.heap.size dkZ 35) := h3.row (HR16.out.old HR16.out.lt _) (by decide); have HS8 : Hid (W2.heap.size ≤ w8.heap.size) := Nat.le_trans HS26.out (Nat.le_trans (by simp) h2.size); have x84 : w8.cell? ⟨W1.heap.size, 84, none⟩ = some vv := (HR38.out.cell (83 + 1)).trans ((dkc_e ..).trans rfl); have y84 : w8.frozen? ⟨W1.heap.size, 84, none⟩ = false := HR38.out.froz 84; clear h1 h2 h3)
        | (refine wpList_load_agg (by rfl) 46 _ (by rfl) wr.heap.size 0 (by rfl) #[.int .u64 (n64 p.a), .int .u64 (n64 p.s), .int .i64 p.f, .slice a5 m5 c5] _ HCA.out Tryd.underlying46 (by rfl) (info_sg _ _ _ _) ?_))
      have HR9 : Hid (Row (w8.setCell ⟨W1.heap.size, 84, none⟩ (.slice a8 m8 c8)) W1.heap.size (dkc r K mt (.slice a8 m8 c8) (.slice none 0 0)) 35) := by have := HR38.out.put (i := 84) (.slice a8 m8 c8); rw [dkc_v] at this; exact this
      have HR19 : Hid (Row (w8.setCell ⟨W1.heap.size, 84, none⟩ (.slice a8 m8 c8)) W0.heap.size dkZ 35) := HR18.out.other (by have := HSZ.out; omega) _
      have HB9 : Hid (Below W0.heap.size W0 (w8.setCell ⟨W1.heap.size, 84, none⟩ (.slice a8 m8 c8))) := Below.setCell HB8.out (by have := HSZ.out; show W0.heap.size ≤ W1.heap.size; omega) _
      have HCp9 : Hid (CpSg W2.heap.size (w8.setCell ⟨W1.heap.size, 84, none⟩ (.slice a8 m8 c8)) (.slice a8 m8 c8) (ps.take (q + 1))) := by unfold Hid; rw [HTK.out]; exact Cpy.set HCp8.out (by have := HSZ.out; omega)
      have HS9 : Hid (W2.heap.size ≤ (w8.setCell ⟨W1.heap.size, 84, none⟩ (.slice a8 m8 c8)).heap.size) := by unfold Hid; have := HS8.out; simpa [World.setCell] using this
      go_roundw
      case rel => exact ⟨q + 1, (.slice a8 m8 c8), HKN.out, by go_num, HCp9, HR9, HR19, HB9, HS9⟩
      case measure => have := HKN.out; simp [intOf]; omega
    · have hqe : q = N := by omega
      have HCpX : Hid (CpSg W2.heap.size wr vv ps) := by unfold Hid; have := HCp.out; rw [hqe, HN.out, List.take_length] at this; exact this
      have hqI : ¬ (q : Int) < (N : Int) := by omega
      clear hqe hlt hq HCp
      rename World => wq
      go_upto_region 11 with fail
      have HR3 : Hid (Row wq W1.heap.size (dkc r K mt vv (.slice none 0 0)) 35) := HR3r
      have HR1 := HR1r
      have HB3 := HBr
      have HS3 := HSr
      have HPs := HCpX
      clear HR3r HR1r HBr HSr HCpX c84 c85 hqI
      generalize vv = vP at HR3 HPs
      go_loopw [6, 7] (fun i _ wr => ∃ q : Nat, ∃ vv : Value, q ≤ M ∧ i = .int .i64 q ∧ Hid (CpWd W2.heap.size wr vv (ws.take q)) ∧ Hid (Row wr W1.heap.size (dkc r K mt vP vv) 35) ∧ Hid (Row wr W0.heap.size dkZ 35) ∧ Hid (Below W0.heap.size W0 wr) ∧ Hid (W2.heap.size ≤ wr.heap.size) ∧ Hid (CpSg W2.heap.size wr vP ps)) (fun i _ _ => M - (intOf i).toNat)
      case atStart => exact ⟨0, .slice none 0 0, Nat.zero_le _, rfl, Cpy.nil _, HR3, HR1, HB3, HS3, HPs⟩
      case round =>
        obtain ⟨q, vv, hq, rfl, HCp, HR3r, HR1r, HBr, HSr, HPk⟩ := hrel
        clear HR3 HR1 HB3 HS3 HPs
        obtain ⟨c84, c85⟩ := HC.out wr HBr.out
        have hN1 : M ≤ 4398046511000 := by rw [HM.out]; exact HNM.out.2
        by_cases hlt : q < M
        · have hltI : (q : Int) < M := by omega
          obtain ⟨g, off, cap2, e1, hc2, hg, hcs⟩ := HU.out.at q (by rw [← HM.out]; exact hlt)
          cases e1
          obtain ⟨uk, hck, hbk, hak⟩ := hcs q (by rw [← HM.out]; exact hlt)
          have HTK : Hid (ws.take (q + 1) = ws.take q ++ [ws.getD q wd0]) := take_wd ws q (by rw [← HM.out]; exact hlt)
          have HLD : Hid ((ws.getD q wd0).i.length ≤ 140737488355328) := HIL.out q (by rw [← HM.out]; exact hlt)
          have HLT : Hid ((ws.take q).length ≤ 4398046511000) := by unfold Hid; rw [List.length_take]; omega
          generalize ws.getD q wd0 = p at hck hbk hak HTK HLD
          have HBK : Hid (Byt wr uk p.i) := hbk.later HBr.out rfl
          obtain ⟨ad, cd, rfl, _, _, _⟩ := hbk
          have HCK : Hid (∀ i y, (#[.bool p.t, .bool p.e, .bool p.s, .slice ad p.i.length cd] : Array Value)[i]? = some y → wr.cell? ⟨g, off + q * 4 + i, none⟩ = some y) := fun i y h => (HBr.out.cell (p := ⟨g, off + q * 4 + i, none⟩) hg).trans (hck i y h)
          obtain ⟨WA, hWA, rA, bA, sA⟩ := start1 wr #[.bool p.t, .bool p.e, .bool p.s, .slice ad p.i.length cd] 48
          have HRA : Hid (Row WA wr.heap.size #[.bool p.t, .bool p.e, .bool p.s, .slice ad p.i.length cd] 48) := rA
          have HBA : Hid (Below wr.heap.size wr WA) := bA
          have a3 : WA.cell? ⟨wr.heap.size, 3, none⟩ = some (.slice ad p.i.length cd) := rA.out.cell 3
          have HKN : Hid (q + 1 ≤ M) := hlt
          clear hck hak hg hcs hc2 rA bA sA
          go_upto_region 14 with (first
            | (refine wpList_allocZ1 (by rfl) 48 (by rfl) #[.bool false, .bool false, .bool false, .slice none 0 0] zero_wd ?_)
            | (refine wpList_store_new (by rfl) 48 _ _ (by rfl) (by rfl) #[.bool false, .bool false, .bool false, .slice none 0 0] #[.bool p.t, .bool p.e, .bool p.s, .slice ad p.i.length cd] (by rfl) (by rfl) (info_wd _ _ _ _) (by rfl) (ones4 (by rfl) (by rfl) (by rfl) (by rfl)) ?_)
            | (refine wpList_load_agg (by rfl) 48 _ (by rfl) g (off + q * 4) (by rfl) #[.bool p.t, .bool p.e, .bool p.s, .slice ad p.i.length cd] _ HCK.out Tryd.underlying48 (by rfl) (info_wd _ _ _ _) ?_))
          try rw [hWA]
          clear hWA
          --Tryd1
          go_upto_region 15 with (at_builtin; refine appL (by rfl) _ _ (by rfl) WA.heap.size (.slice none 0 0) (.slice ad p.i.length cd) [] p.i (by rfl) ⟨rfl, .inl ⟨rfl, rfl⟩⟩ (by rfl) (HBK.out.later HBA.out rfl) (by have := HLD.out; simp; omega) (Nat.le_refl _) ?_; intro v5 w5 h1 h2; obtain ⟨a5, m5, c5, rfl⟩ : ∃ a n c, v5 = Value.slice a n c := (by rcases h1.2 with ⟨e, _⟩ | ⟨_, _, _, e, _⟩ <;> exact ⟨_, _, _, e⟩); have HO5 : Hid (w5.ownsRow WA.heap.size 5 1 (.slice a5 m5 c5) p.i.length (bv p.i)) := h1; have HB5 : Hid (Below WA.heap.size WA w5) := (Below.refl _ _).grown h2 (Nat.le_refl _) (fun k hk => by simp [Value.ownBlock] at hk); have HR5 : Hid (Row w5 wr.heap.size #[.bool p.t, .bool p.e, .bool p.s, .slice ad p.i.length cd] 48) := HRA.out.later HB5.out HRA.out.lt; have e3 : w5.cell? ⟨wr.heap.size, 3, none⟩ = some (.slice ad p.i.length cd) := HR5.out.cell 3; have f3 : w5.frozen? ⟨wr.heap.size, 3, none⟩ = false := HR5.out.froz 3; clear h1 h2)
          clear a3 e3 f3
          have hv5 : (Value.slice a5 m5 c5).oneCell' = true := rfl
          have HB05 : Hid (Below wr.heap.size wr w5) := HBA.out.trans (HB5.out.mono HBA.out.size)
          have HR6 : Hid (Row (w5.setCell ⟨wr.heap.size, 3, none⟩ (.slice a5 m5 c5)) wr.heap.size #[.bool p.t, .bool p.e, .bool p.s, .slice a5 m5 c5] 48) := by have := HR5.out.put (i := 3) (.slice a5 m5 c5); rw [set4] at this; exact this
          have HB06 : Hid (Below wr.heap.size wr (w5.setCell ⟨wr.heap.size, 3, none⟩ (.slice a5 m5 c5))) := Below.setCell HB05.out (Nat.le_refl _) _
          have HS6 : Hid (w5.heap.size = (w5.setCell ⟨wr.heap.size, 3, none⟩ (.slice a5 m5 c5)).heap.size) := by unfold Hid; simp [World.setCell]
          have HO6 : Hid ((w5.setCell ⟨wr.heap.size, 3, none⟩ (.slice a5 m5 c5)).ownsRow WA.heap.size 5 1 (.slice a5 m5 c5) p.i.length (bv p.i)) := own_set HO5.out (by have := HRA.out.lt; omega)
          generalize w5.setCell ⟨wr.heap.size, 3, none⟩ (.slice a5 m5 c5) = W6 at HR6 HB06 HS6 HO6 ⊢
          clear HB05 HR5 HO5
          have HG3 : Hid (W1.heap.size < wr.heap.size) := HR3r.out.lt
          have HR36 : Hid (Row W6 W1.heap.size (dkc r K mt vP vv) 35) := HR3r.out.later HB06.out HR3r.out.lt
          have HR16 : Hid (Row W6 W0.heap.size dkZ 35) := HR1r.out.later HB06.out HR1r.out.lt
          have HCp6 : Hid (CpWd W2.heap.size W6 vv (ws.take q)) := Cpy.later HCp.out HB06.out
          have HS26 : Hid (W2.heap.size ≤ W6.heap.size) := Nat.le_trans HSr.out HB06.out.size
          have HO26 : Hid (W6.ownsRow W2.heap.size 5 1 (.slice a5 m5 c5) p.i.length (bv p.i)) := own_le HO6.out (Nat.le_trans HSr.out HBA.out.size)
          have HB6 : Hid (Below W0.heap.size W0 W6) := HBr.out.trans (HB06.out.mono HBr.out.size)
          have HPk6 : Hid (CpSg W2.heap.size W6 vP ps) := Cpy.later HPk.out HB06.out
          have d84 : W6.cell? ⟨W1.heap.size, 85, none⟩ = some vv := (HR36.out.cell (83 + 2)).trans ((dkc_e ..).trans rfl)
          have HCA : Hid (∀ i y, (#[.bool p.t, .bool p.e, .bool p.s, .slice a5 m5 c5] : Array Value)[i]? = some y → W6.cell? ⟨wr.heap.size, 0 + i, none⟩ = some y) := fun i y h => by rw [Nat.zero_add]; exact (HR6.out.cell i).trans h
          clear HCp HR3r HR1r HBr HSr HBK HCK HRA HBA HB5 HO6 HB06 HS6 c84 c85 HPk
          --@B1
          go_wp2_with (first
            | (at_builtin; refine appWd (by rfl) _ _ (by rfl) W2.heap.size vv (ws.take q) p (by rfl) (Cpy.later HCp6.out (below_alc W6 _)) W6.heap.size (.slice a5 m5 c5) (by rfl) (heap_alloc_new W6 _) hv5 (own_later HO26.out (below_alc W6 _) rfl) HLT.out (by have := HS26.out; simp; omega) ?_; intro v8 w8 h1 h2 h3; obtain ⟨a8, m8, c8, rfl⟩ : ∃ a n c, v8 = Value.slice a n c := (by obtain ⟨_, _, ho, _⟩ := h1; rcases ho.2 with ⟨e, _⟩ | ⟨_, _, _, e, _⟩ <;> exact ⟨_, _, _, e⟩); have HCp8 : Hid (CpWd W2.heap.size w8 (.slice a8 m8 c8) (ws.take q ++ [p])) := h1; have HB8 : Hid (Below W0.heap.size W0 w8) := (HB6.out.alloc HB6.out.size _).trans (h2.mono (by have := HSZ.out; omega)); have HR38 : Hid (Row w8 W1.heap.size (dkc r K mt vP vv) 35) := h3.row (HR36.out.old HR36.out.lt _) (by decide); have HR18 : Hid (Row w8 W0.heap.size dkZ 35) := h3.row (HR16.out.old HR16.out.lt _) (by decide); have HS8 : Hid (W2.heap.size ≤ w8.heap.size) := Nat.le_trans HS26.out (Nat.le_trans (by simp) h2.size); have x84 : w8.cell? ⟨W1.heap.size, 85, none⟩ = some vv := (HR38.out.cell (83 + 2)).trans ((dkc_e ..).trans rfl); have y84 : w8.frozen? ⟨W1.heap.size, 85, none⟩ = false := HR38.out.froz 85; have HPk8 : Hid (CpSg W2.heap.size w8 vP ps) := Cpy.kept (Cpy.later HPk6.out (below_alc W6 _)) 48 (by decide) (by decide) h3; clear h1 h2 h3)
            | (refine wpList_load_agg (by rfl) 48 _ (by rfl) wr.heap.size 0 (by rfl) #[.bool p.t, .bool p.e, .bool p.s, .slice a5 m5 c5] _ HCA.out Tryd.underlying48 (by rfl) (info_wd _ _ _ _) ?_))
          have HR9 : Hid (Row (w8.setCell ⟨W1.heap.size, 85, none⟩ (.slice a8 m8 c8)) W1.heap.size (dkc r K mt vP (.slice a8 m8 c8)) 35) := by have := HR38.out.put (i := 85) (.slice a8 m8 c8); rw [dkc_u] at this; exact this
          have HR19 : Hid (Row (w8.setCell ⟨W1.heap.size, 85, none⟩ (.slice a8 m8 c8)) W0.heap.size dkZ 35) := HR18.out.other (by have := HSZ.out; omega) _
          have HB9 : Hid (Below W0.heap.size W0 (w8.setCell ⟨W1.heap.size, 85, none⟩ (.slice a8 m8 c8))) := Below.setCell HB8.out (by have := HSZ.out; show W0.heap.size ≤ W1.heap.size; omega) _
          have HCp9 : Hid (CpWd W2.heap.size (w8.setCell ⟨W1.heap.size, 85, none⟩ (.slice a8 m8 c8)) (.slice a8 m8 c8) (ws.take (q + 1))) := by unfold Hid; rw [HTK.out]; exact Cpy.set HCp8.out (by have := HSZ.out; omega)
          have HS9 : Hid (W2.heap.size ≤ (w8.setCell ⟨W1.heap.size, 85, none⟩ (.slice a8 m8 c8)).heap.size) := by unfold Hid; have := HS8.out; simpa [World.setCell] using this
          have HPk9 : Hid (CpSg W2.heap.size (w8.setCell ⟨W1.heap.size, 85, none⟩ (.slice a8 m8 c8)) vP ps) := Cpy.set HPk8.out (by have := HSZ.out; omega)
          go_roundw
          case rel => exact ⟨q + 1, (.slice a8 m8 c8), HKN.out, by go_num, HCp9, HR9, HR19, HB9, HS9, HPk9⟩
          case measure => have := HKN.out; simp [intOf]; omega
        · have hqe : q = M := by omega
          have HCpX : Hid (CpWd W2.heap.size wr vv ws) := by unfold Hid; have := HCp.out; rw [hqe, HM.out, List.take_length] at this; exact this
          have hqI : ¬ (q : Int) < (M : Int) := by omega
          clear hqe hlt hq HCp
          have hvo : vP.oneCell' = true := by obtain ⟨_, _, ho, _⟩ := HPk.out; rcases ho.2 with ⟨rfl, _⟩ | ⟨_, _, _, rfl, _⟩ <;> rfl
          have huo : vv.oneCell' = true := by obtain ⟨_, _, ho, _⟩ := HCpX.out; rcases ho.2 with ⟨rfl, _⟩ | ⟨_, _, _, rfl, _⟩ <;> rfl
          have HOD := ones_dk r K mt vP vv hvo huo
          have HID := info_dk r K mt vP vv
          have HZS : dkZ.size = (dkc r K mt vP vv).size := by unfold dkZ; rw [dkc_size, dkc_size]
          have HCD : Hid (∀ i y, (dkc r K mt vP vv)[i]? = some y → wr.cell? ⟨W1.heap.size, 0 + i, none⟩ = some y) := fun i y h => by rw [Nat.zero_add]; exact (HR3r.out.cell i).trans h
          have HFIN : Hid (Pts (wr.setRow W0.heap.size (dkc r K mt vP vv)) vP ps ∧ Wds (wr.setRow W0.heap.size (dkc r K mt vP vv)) vv ws ∧ Below w.heap.size w (wr.setRow W0.heap.size (dkc r K mt vP vv)) ∧ (wr.setRow W0.heap.size (dkc r K mt vP vv)).heap[W0.heap.size]? = some (.cells (dkc r K mt vP vv) 35 (0, 0))) :=
            ⟨CpSg.ls (Cpy.row HPk.out (by have := HSZ.out; omega) _) (fun j hj => HAD.out j hj), CpWd.ls (Cpy.row HCpX.out (by have := HSZ.out; omega) _) (fun j hj => HAI.out j hj), below_row (b0.out.trans (HBr.out.mono b0.out.size)) (by have := HSZ.out; omega) _, setRow_heap _ _ _ _ _ _ HR1r.out⟩
          have HRW : Hid (wr.heap[W0.heap.size]? = some (.cells dkZ 35 (0, 0))) := HR1r.out
          have HEX : Hid (∀ e : Ending, e = .returned (.agg (dkc r K mt vP vv)) → ∃ v' u', e = .returned (.agg (dkc r K mt v' u')) ∧ Pts (wr.setRow W0.heap.size (dkc r K mt vP vv)) v' ps ∧ Wds (wr.setRow W0.heap.size (dkc r K mt vP vv)) u' ws ∧ Below w.heap.size w (wr.setRow W0.heap.size (dkc r K mt vP vv))) := fun e he => ⟨vP, vv, he, HFIN.out.1, HFIN.out.2.1, HFIN.out.2.2.1⟩
          have HHP : Hid ((wr.setRow W0.heap.size (dkc r K mt vP vv)).heap[W0.heap.size]? = some (.cells (dkc r K mt vP vv) 35 (0, 0))) := HFIN.out.2.2.2
          clear HPk HCpX HFIN HR3r HR1r
          generalize dkc r K mt vP vv = DR at *
          --@Z
          go_wp2_with (first
            | (refine wpList_store_row (by rfl) 35 _ _ (by rfl) (by rfl) W0.heap.size dkZ DR (by rfl) (by rfl) HRW.out HID HZS HOD ?_)
            | (refine wpList_load_agg (by rfl) 35 _ (by rfl) W1.heap.size 0 (by rfl) DR _ HCD.out Tryd.underlying35 (by rfl) HID ?_))
          exact bodyPost_ret (v := .agg DR) (results_cell_row Tryd.results4 _ _ W0.heap.size 35 DR (0, 0) _ (by rfl) HHP.out Tryd.underlying35 (by rfl) HID) rfl (HEX.out _ rfl)
end Go.Proofs.YthmjimmmkoeeoaaDoor
