/- What is proved here: what the model's EventPair answers, for every pair of at most 1048576 things each. -/
import Derived.Test.YtdbnmkffinhdjaaGreatLV36
import Derived.Test.YtdbnmkffinhdjaaGreatP16IEvQ
namespace Go.Proofs.YtdbnmkffinhdjaaGreat
open Go.ChangeShapes Go.WideShapes Go.ChangeAt Go.RowKit Go.Deep Go.Sort
set_option linter.unusedVariables false
set_option linter.unusedSimpArgs false
set_option maxRecDepth 100000
set_option maxHeartbeats 25600000

theorem specEv (P : PrV) (nd : Int) (k1 p1 : Int) (xA : Option Addr) (xm xd : Nat) (a : NA) (E : World → Prop) (b0 b1 : Nat) (col : Nat → Nat) (w : World) (ho : PrOw w b0 b1 col P) (hl : PrL P) (hN : ∃ g, P.aN = some ⟨g, 0, none⟩) (hc : P.cN = P.nN) (hW : SomW P.VW) (hM : SomM P.VM) (h1 : ∃ g, P.a1 = some ⟨g, 0, none⟩) (h2 : ∃ g, P.a2 = some ⟨g, 0, none⟩) (hA : prF P = 0 → (nd = 0 ∨ nd = 1) → ∃ v, P.VN[nd.toNat]? = some v ∧ (a.z = 0 → a.Good) ∧ NfE 29 k1 [.agg #[.int .i64 k1, .int .i64 p1, .slice xA xm xd]] E v a) (hE : ∀ X, New w X → E X) :
    Calls Tryz.prog 7 #[.agg #[.int .i64 P.sa, .int .i64 P.si, .int .i64 P.ho, .int .i64 P.nx, .slice P.a1 P.n1 P.c1, .slice P.a2 P.n2 P.c2, .slice P.aN P.nN P.cN, .slice P.aW P.nW P.cW, .slice P.aM P.nM P.cM, .slice P.aS P.nS P.cS], .int .i64 nd, .agg #[.int .i64 k1, .int .i64 p1, .slice xA xm xd]] w fun e w' => ∃ z R col', e = .returned (.agg #[.int .i64 z, .slice none 0 0, .int .i64 R.sa, .int .i64 R.si, .int .i64 R.ho, .int .i64 R.nx, .slice R.a1 R.n1 R.c1, .slice R.a2 R.n2 R.c2, .slice R.aN R.nN R.cN, .slice R.aW R.nW R.cW, .slice R.aM R.nM R.cM, .slice R.aS R.nS R.cS]) ∧ GoR P nd a z R ∧ PrOw w' w.heap.size w'.heap.size col' R ∧ New w w' := by
  have hw : New w (((w.alloc (.cells #[.int .i64 P.sa, .int .i64 P.si, .int .i64 P.ho, .int .i64 P.nx, .slice P.a1 P.n1 P.c1, .slice P.a2 P.n2 P.c2, .slice P.aN P.nN P.cN, .slice P.aW P.nW P.cW, .slice P.aM P.nM P.cM, .slice P.aS P.nS P.cS] 47)).alloc (.cells #[.int .i64 k1, .int .i64 p1, .slice xA xm xd] 52)).alloc (.cells #[.int .i64 0, .slice none 0 0, .int .i64 0, .int .i64 0, .int .i64 0, .int .i64 0, .slice none 0 0, .slice none 0 0, .slice none 0 0, .slice none 0 0, .slice none 0 0, .slice none 0 0] 49)) := (((New.refl w).alloc _).alloc _).alloc _
  have bP : Blk (((w.alloc (.cells #[.int .i64 P.sa, .int .i64 P.si, .int .i64 P.ho, .int .i64 P.nx, .slice P.a1 P.n1 P.c1, .slice P.a2 P.n2 P.c2, .slice P.aN P.nN P.cN, .slice P.aW P.nW P.cW, .slice P.aM P.nM P.cM, .slice P.aS P.nS P.cS] 47)).alloc (.cells #[.int .i64 k1, .int .i64 p1, .slice xA xm xd] 52)).alloc (.cells #[.int .i64 0, .slice none 0 0, .int .i64 0, .int .i64 0, .int .i64 0, .int .i64 0, .slice none 0 0, .slice none 0 0, .slice none 0 0, .slice none 0 0, .slice none 0 0, .slice none 0 0] 49)) w.heap.size 47 #[.int .i64 P.sa, .int .i64 P.si, .int .i64 P.ho, .int .i64 P.nx, .slice P.a1 P.n1 P.c1, .slice P.a2 P.n2 P.c2, .slice P.aN P.nN P.cN, .slice P.aW P.nW P.cW, .slice P.aM P.nM P.cM, .slice P.aS P.nS P.cS] := ((Blk.mk _ _ _ _ rfl).alloc _).alloc _
  have bE : Blk (((w.alloc (.cells #[.int .i64 P.sa, .int .i64 P.si, .int .i64 P.ho, .int .i64 P.nx, .slice P.a1 P.n1 P.c1, .slice P.a2 P.n2 P.c2, .slice P.aN P.nN P.cN, .slice P.aW P.nW P.cW, .slice P.aM P.nM P.cM, .slice P.aS P.nS P.cS] 47)).alloc (.cells #[.int .i64 k1, .int .i64 p1, .slice xA xm xd] 52)).alloc (.cells #[.int .i64 0, .slice none 0 0, .int .i64 0, .int .i64 0, .int .i64 0, .int .i64 0, .slice none 0 0, .slice none 0 0, .slice none 0 0, .slice none 0 0, .slice none 0 0, .slice none 0 0] 49)) (w.heap.size + 1) 52 #[.int .i64 k1, .int .i64 p1, .slice xA xm xd] := (Blk.mk _ _ _ _ (by simp)).alloc _
  have bR : Blk (((w.alloc (.cells #[.int .i64 P.sa, .int .i64 P.si, .int .i64 P.ho, .int .i64 P.nx, .slice P.a1 P.n1 P.c1, .slice P.a2 P.n2 P.c2, .slice P.aN P.nN P.cN, .slice P.aW P.nW P.cW, .slice P.aM P.nM P.cM, .slice P.aS P.nS P.cS] 47)).alloc (.cells #[.int .i64 k1, .int .i64 p1, .slice xA xm xd] 52)).alloc (.cells #[.int .i64 0, .slice none 0 0, .int .i64 0, .int .i64 0, .int .i64 0, .int .i64 0, .slice none 0 0, .slice none 0 0, .slice none 0 0, .slice none 0 0, .slice none 0 0, .slice none 0 0] 49)) (w.heap.size + 2) 49 #[.int .i64 0, .slice none 0 0, .int .i64 0, .int .i64 0, .int .i64 0, .int .i64 0, .slice none 0 0, .slice none 0 0, .slice none 0 0, .slice none 0 0, .slice none 0 0, .slice none 0 0] := Blk.mk _ _ _ _ (by simp)
  have s0 : Hid ((((w.alloc (.cells #[.int .i64 P.sa, .int .i64 P.si, .int .i64 P.ho, .int .i64 P.nx, .slice P.a1 P.n1 P.c1, .slice P.a2 P.n2 P.c2, .slice P.aN P.nN P.cN, .slice P.aW P.nW P.cW, .slice P.aM P.nM P.cM, .slice P.aS P.nS P.cS] 47)).alloc (.cells #[.int .i64 k1, .int .i64 p1, .slice xA xm xd] 52)).alloc (.cells #[.int .i64 0, .slice none 0 0, .int .i64 0, .int .i64 0, .int .i64 0, .int .i64 0, .slice none 0 0, .slice none 0 0, .slice none 0 0, .slice none 0 0, .slice none 0 0, .slice none 0 0] 49)).heap.size = w.heap.size + 3) := by unfold Hid; simp
  have HPe : Hid (∀ X, New w X → Blk X w.heap.size 47 #[.int .i64 P.sa, .int .i64 P.si, .int .i64 P.ho, .int .i64 P.nx, .slice P.a1 P.n1 P.c1, .slice P.a2 P.n2 P.c2, .slice P.aN P.nN P.cN, .slice P.aW P.nW P.cW, .slice P.aM P.nM P.cM, .slice P.aS P.nS P.cS] → Calls Tryz.prog 26 #[.pointer (some ⟨w.heap.size, 0, none⟩), .int .i64 nd] X fun e w' => e = .returned (.int .i64 (nodF P nd)) ∧ New X w') := fun X hX hb => l14Node16 w.heap.size P nd X hb ((ho.pat hl hN hc hW).new hX) hl
  have HOf : Hid (∀ (k : Nat) (A S : Option Addr) (c cs : Nat) (U : List EkV) (Ms : List MlV) (bx by' : Nat) (X : World), New w X → k < P.nN → by' ≤ X.heap.size → bx ≤ by' → NrOw X bx by' A a.L.length c U S a.M.length cs Ms → U.map EkV.r = a.L → Ms.map MlV.m = a.M → (a.z = 0 → a.Good) → Calls Tryz.prog 28 #[.agg #[.int .i64 P.sa, .int .i64 P.si, .int .i64 P.ho, .int .i64 P.nx, .slice P.a1 P.n1 P.c1, .slice P.a2 P.n2 P.c2, .slice P.aN P.nN P.cN, .slice P.aW P.nW P.cW, .slice P.aM P.nM P.cM, .slice P.aS P.nS P.cS], .int .i64 (k : Int), .agg #[.int .i64 a.z, .int .i64 a.id, .bool a.up, .int .i64 a.ro, .int .i64 a.ep, .slice A a.L.length c, .int .i64 a.su, .int .i64 a.ma, .int .i64 a.ot, .int .i64 a.co, .slice S a.M.length cs]] X fun e w' => ∃ z R col', e = .returned (.agg #[.int .i64 z, .slice none 0 0, .int .i64 R.sa, .int .i64 R.si, .int .i64 R.ho, .int .i64 R.nx, .slice R.a1 R.n1 R.c1, .slice R.a2 R.n2 R.c2, .slice R.aN R.nN R.cN, .slice R.aW R.nW R.cW, .slice R.aM R.nM R.cM, .slice R.aS R.nS R.cS]) ∧ GoS P k a z R ∧ PrOw w' bx w'.heap.size col' R ∧ New X w') := fun k A S c cs U Ms bx by' X hX q1 q2 q3 q4 q5 q6 q7 => l14Of16 k P a A S c cs U Ms b0 b1 bx by' col X (ho.new hX) hl hW hM h1 h2 q1 q2 q3 q4 q5 q6 q7
  have HO : Hid (PrOw w b0 b1 col P) := ho
  have HL : Hid (PrL P) := hl
  have HA : Hid (prF P = 0 → (nd = 0 ∨ nd = 1) → ∃ v, P.VN[nd.toNat]? = some v ∧ (a.z = 0 → a.Good) ∧ NfE 29 k1 [.agg #[.int .i64 k1, .int .i64 p1, .slice xA xm xd]] E v a) := hA
  have HE : Hid (∀ X, New w X → E X) := hE
  have hvP : Hid (nodF P nd = if prF P = 0 then (if nd = 0 ∨ nd = 1 then 0 else 3) else prF P) := rfl
  clear ho hl hN hc hW hM h1 h2 hA hE
  have cP := bP.cells
  go_enter Tryz.func7, Tryz.ntmps7
  go_wp2_with fail
  refine (HPe.out _ hw bP).mono ?_
  rintro e w1 ⟨rfl, hn1⟩
  have S0 := s0.out
  have n1 := hw.trans hn1
  have z1 := hn1.size
  have p0 := bP.new hn1
  have pb1 := bR.new hn1
  have pE := bE.new hn1
  clear cP bP bR bE hw hn1
  by_cases hv : nodF P nd = 0
  case neg =>
    have hvb : (nodF P nd != 0) = true := by simp [hv]
    have HV : Hid (¬ nodF P nd = 0) := hv
    generalize hq : nodF P nd = zq at *
    go_wp2_with fail
    refine (l14Bad16 zq _).mono ?_
    rintro e w2 ⟨rfl, hn2⟩
    have n2 := n1.trans hn2
    have z2 := hn2.size
    have r1 := pb1.new hn2
    have c1 := r1.cells
    have f1 := r1.frees
    go_wp2
    refine bodyPost_ret (v := .agg #[.int .i64 zq, .slice none 0 0, .int .i64 zPr.sa, .int .i64 zPr.si, .int .i64 zPr.ho, .int .i64 zPr.nx, .slice zPr.a1 zPr.n1 zPr.c1, .slice zPr.a2 zPr.n2 zPr.c2, .slice zPr.aN zPr.nN zPr.cN, .slice zPr.aW zPr.nW zPr.cW, .slice zPr.aM zPr.nM zPr.cM, .slice zPr.aS zPr.nS zPr.cS]) (by simp [results, Tryz.results7, go_sem, c1, zPr]) rfl ?_
    refine ⟨zq, zPr, col, rfl, ?_, zPr_ow _ _ _ _, new12 n2 (by omega) _ _ _ _ _ _ _ _ _ _ _ _ ⟩
    have h1 := hvP.out
    by_cases hp : prF P = 0
    · rw [if_pos hp] at h1
      by_cases h3 : nd = 0 ∨ nd = 1
      · rw [if_pos h3] at h1; exact absurd h1 HV.out
      · rw [if_neg h3] at h1; exact .inr (.inl ⟨hp, h3, h1, rfl⟩)
    · rw [if_neg hp] at h1; exact .inl ⟨hp, h1, rfl⟩
  have hk0 : prF P = 0 ∧ (nd = 0 ∨ nd = 1) := by
    have h1 := hvP.out
    rw [hv] at h1
    by_cases hp : prF P = 0
    · rw [if_pos hp] at h1
      by_cases h3 : nd = 0 ∨ nd = 1
      · exact ⟨hp, h3⟩
      · rw [if_neg h3] at h1; omega
    · rw [if_neg hp] at h1; exact absurd h1.symm hp
  obtain ⟨k, rfl⟩ : ∃ k : Nat, nd = k := ⟨nd.toNat, by have := hk0.2; omega⟩
  obtain ⟨v, hvk, hG, hF⟩ := HA.out hk0.1 hk0.2
  have HVK : Hid (P.VN[k]? = some v) := hvk
  have HK : Hid (prF P = 0 ∧ ((k : Int) = 0 ∨ (k : Int) = 1)) := hk0
  have HG : Hid (a.z = 0 → a.Good) := hG
  have HF0 : Hid (NfE 29 k1 [.agg #[.int .i64 k1, .int .i64 p1, .slice xA xm xd]] E v a) := hF
  have hkN : k < P.nN := by rw [← HL.out.lN]; exact (List.getElem?_eq_some_iff.1 hvk).1
  have hki : (k : Int) < (P.nN : Int) := by omega
  have hkz : (0 : Int) ≤ (k : Int) := by omega
  obtain ⟨g, ea, hcs, lgv, nlv, fiv⟩ := (HO.out.new n1).node HVK.out HL.out.lN
  have EA : Hid (P.aN = some ⟨g, 0, none⟩) := ea
  rw [hv]
  clear hvk hG hF hk0 HA hv hvP HPe ea
  have cE := pE.cells
  by_cases hk2 : k1 = 2
  case pos =>
    have hkb : (k1 == 2) = true := by simp [hk2]
    have hz := HF0.out.2 hk2
    have HK2 : Hid (a.z = 1) := hz
    clear hz hk2
    go_wp2_with fail
    refine (l14Bad16 1 _).mono ?_
    rintro e w2 ⟨rfl, hn2⟩
    have n2 := n1.trans hn2
    have z2 := hn2.size
    have r1 := pb1.new hn2
    have c1 := r1.cells
    have f1 := r1.frees
    go_wp2
    refine bodyPost_ret (v := .agg #[.int .i64 1, .slice none 0 0, .int .i64 zPr.sa, .int .i64 zPr.si, .int .i64 zPr.ho, .int .i64 zPr.nx, .slice zPr.a1 zPr.n1 zPr.c1, .slice zPr.a2 zPr.n2 zPr.c2, .slice zPr.aN zPr.nN zPr.cN, .slice zPr.aW zPr.nW zPr.cW, .slice zPr.aM zPr.nM zPr.cM, .slice zPr.aS zPr.nS zPr.cS]) (by simp [results, Tryz.results7, go_sem, c1, zPr]) rfl ?_
    exact ⟨1, zPr, col, rfl, .inr (.inr (.inl ⟨HK.out.1, HK.out.2, by rw [HK2.out]; decide, HK2.out.symm, rfl⟩)), zPr_ow _ _ _ _, new12 n2 (by omega) _ _ _ _ _ _ _ _ _ _ _ _ ⟩
  have hkb : (k1 == 2) = false := by simp [hk2]
  have HF : Hid (NfC 29 [.agg #[.int .i64 k1, .int .i64 p1, .slice xA xm xd]] E v a) := HF0.out.1 hk2
  clear hk2 HF0
  go_upto_region 6 with fail
  clear cE hkb
  have HE5 : Hid (∀ X, Turn (fun x => x = w.heap.size + 2) w1 X → Blk X (w.heap.size + 1) 52 #[.int .i64 k1, .int .i64 p1, .slice xA xm xd]) := fun X hX => pE.turn hX (by omega)
  have EAR : Hid (g < w.heap.size) := by
    have h1 := HO.out.oN
    rcases h1 with ⟨e, -⟩ | ⟨g', Pf, Qf, e, q⟩
    · have := EA.out; rw [e] at this; cases this
    · have h2 := EA.out
      rw [e] at h2
      cases h2
      have h3 := q.row.2
      rcases h3 with ⟨e3, -⟩ | ⟨g3, c3, cur, e3, -, hg3, -⟩
      · cases e3
      · cases e3; exact (Array.getElem?_eq_some_iff.1 hg3).1
  have HB : Hid (∀ X, Turn (fun x => x = w.heap.size + 2) w1 X → Blk X w.heap.size 47 #[.int .i64 P.sa, .int .i64 P.si, .int .i64 P.ho, .int .i64 P.nx, .slice P.a1 P.n1 P.c1, .slice P.a2 P.n2 P.c2, .slice P.aN P.nN P.cN, .slice P.aW P.nW P.cW, .slice P.aM P.nM P.cM, .slice P.aS P.nS P.cS]) := fun X hX => p0.turn hX (by omega)
  have HC0 : Hid (∀ X, Turn (fun x => x = w.heap.size + 2) w1 X → X.cell? ⟨g, k * 9, none⟩ = some (.int .i64 v.id)) := fun X hX => by
    have h0 : w1.cell? ⟨g, k * 9, none⟩ = some (.int .i64 v.id) := hcs 0 (by omega)
    exact (World.cell?_of_block (hX.block g (World.block_lt_of_cell? w1 _ h0) (by have := EAR.out; omega))).trans h0
  have HC1 : Hid (∀ X, Turn (fun x => x = w.heap.size + 2) w1 X → X.cell? ⟨g, k * 9 + 1, none⟩ = some (.bool v.up)) := fun X hX => by
    have h0 : w1.cell? ⟨g, k * 9 + 1, none⟩ = some (.bool v.up) := hcs 1 (by omega)
    exact (World.cell?_of_block (hX.block g (World.block_lt_of_cell? w1 _ h0) (by have := EAR.out; omega))).trans h0
  have HC2 : Hid (∀ X, Turn (fun x => x = w.heap.size + 2) w1 X → X.cell? ⟨g, k * 9 + 2, none⟩ = some (.int .i64 v.ro)) := fun X hX => by
    have h0 : w1.cell? ⟨g, k * 9 + 2, none⟩ = some (.int .i64 v.ro) := hcs 2 (by omega)
    exact (World.cell?_of_block (hX.block g (World.block_lt_of_cell? w1 _ h0) (by have := EAR.out; omega))).trans h0
  have HC3 : Hid (∀ X, Turn (fun x => x = w.heap.size + 2) w1 X → X.cell? ⟨g, k * 9 + 3, none⟩ = some (.int .i64 v.ep)) := fun X hX => by
    have h0 : w1.cell? ⟨g, k * 9 + 3, none⟩ = some (.int .i64 v.ep) := hcs 3 (by omega)
    exact (World.cell?_of_block (hX.block g (World.block_lt_of_cell? w1 _ h0) (by have := EAR.out; omega))).trans h0
  have HC4 : Hid (∀ X, Turn (fun x => x = w.heap.size + 2) w1 X → X.cell? ⟨g, k * 9 + 4, none⟩ = some (.slice v.A v.V.length v.c)) := fun X hX => by
    have h0 : w1.cell? ⟨g, k * 9 + 4, none⟩ = some (.slice v.A v.V.length v.c) := hcs 4 (by omega)
    exact (World.cell?_of_block (hX.block g (World.block_lt_of_cell? w1 _ h0) (by have := EAR.out; omega))).trans h0
  have HC5 : Hid (∀ X, Turn (fun x => x = w.heap.size + 2) w1 X → X.cell? ⟨g, k * 9 + 5, none⟩ = some (.int .i64 v.su)) := fun X hX => by
    have h0 : w1.cell? ⟨g, k * 9 + 5, none⟩ = some (.int .i64 v.su) := hcs 5 (by omega)
    exact (World.cell?_of_block (hX.block g (World.block_lt_of_cell? w1 _ h0) (by have := EAR.out; omega))).trans h0
  have HC6 : Hid (∀ X, Turn (fun x => x = w.heap.size + 2) w1 X → X.cell? ⟨g, k * 9 + 6, none⟩ = some (.int .i64 v.ma)) := fun X hX => by
    have h0 : w1.cell? ⟨g, k * 9 + 6, none⟩ = some (.int .i64 v.ma) := hcs 6 (by omega)
    exact (World.cell?_of_block (hX.block g (World.block_lt_of_cell? w1 _ h0) (by have := EAR.out; omega))).trans h0
  have HC7 : Hid (∀ X, Turn (fun x => x = w.heap.size + 2) w1 X → X.cell? ⟨g, k * 9 + 7, none⟩ = some (.int .i64 v.ot)) := fun X hX => by
    have h0 : w1.cell? ⟨g, k * 9 + 7, none⟩ = some (.int .i64 v.ot) := hcs 7 (by omega)
    exact (World.cell?_of_block (hX.block g (World.block_lt_of_cell? w1 _ h0) (by have := EAR.out; omega))).trans h0
  have HC8 : Hid (∀ X, Turn (fun x => x = w.heap.size + 2) w1 X → X.cell? ⟨g, k * 9 + 8, none⟩ = some (.int .i64 v.co)) := fun X hX => by
    have h0 : w1.cell? ⟨g, k * 9 + 8, none⟩ = some (.int .i64 v.co) := hcs 8 (by omega)
    exact (World.cell?_of_block (hX.block g (World.block_lt_of_cell? w1 _ h0) (by have := EAR.out; omega))).trans h0
  clear hcs p0
  refine hw_start (n := 11) (S := fun X => Turn (fun x => x = w.heap.size + 2) w1 X) rfl (by kernel_rfl) ((New.refl w1).drew.turn) (fun hH => ?_)
  have nv0 : New w1 w1.drew := (New.refl w1).drew
  generalize w1.drew = v0 at *
  refine' hw_t 0 (some 18) _ rfl rfl nv0.turn ?hy12 ?rest12
  case hy12 =>
    intro X hX
    have c0 := (HB.out X hX).cells
    go_simp
    try rfl
  simp only [Act.put, pA9, pB9, pC9]
  refine' hw_t 1 (some 19) _ rfl rfl nv0.turn ?hy13 ?rest13
  case hy13 =>
    intro X hX
    go_simp
    try rfl
  simp only [Act.put, pA9, pB9, pC9]
  refine' hw_t 2 (some 20) _ rfl rfl nv0.turn ?hy14 ?rest14
  case hy14 =>
    intro X hX
    go_simp
    try rfl
  simp only [Act.put, pA9, pB9, pC9]
  refine' hw_t 3 (some 21) _ rfl rfl nv0.turn ?hy15 ?rest15
  case hy15 =>
    intro X hX
    have g6 : X.cell? ⟨w.heap.size, 6, none⟩ = some (.slice (some ⟨g, 0, none⟩) P.nN P.cN) := by have h := (HB.out X hX).cells 6; rw [h, ← EA.out]; rfl
    go_simp
    try rfl
  simp only [Act.put, pA9, pB9, pC9]
  refine' hw_t 4 (some 22) _ rfl rfl nv0.turn ?hy16 ?rest16
  case hy16 =>
    intro X hX
    go_simp
    try rfl
  simp only [Act.put, pA9, pB9, pC9]
  refine' hw_t 5 (some 23) _ rfl rfl nv0.turn ?hy17 ?rest17
  case hy17 =>
    intro X hX
    go_simp
    try rfl
  simp only [Act.put, pA9, pB9, pC9]
  refine' hw_t 6 (some 24) _ rfl rfl nv0.turn ?hy18 ?rest18
  case hy18 =>
    intro X hX
    have q0 := HC0.out X hX
    have q1 := HC1.out X hX
    have q2 := HC2.out X hX
    have q3 := HC3.out X hX
    have q4 := HC4.out X hX
    have q5 := HC5.out X hX
    have q6 := HC6.out X hX
    have q7 := HC7.out X hX
    have q8 := HC8.out X hX
    go_simp
    try rfl
  simp only [Act.put, pA9, pB9, pC9]
  refine' hw_t 7 (some 25) _ rfl rfl nv0.turn ?hy19 ?rest19
  case hy19 =>
    intro X hX
    have cE := (HE5.out X hX).cells
    go_simp
    try rfl
  simp only [Act.put, pA9, pB9, pC9]
  refine hw_call 8 (some 26) rfl rfl (by kernel_rfl) (by rfl) (fun K hK => ?_)
  go_simp
  refine (HF.out v.A v.c v.V v0 (lgv.new nv0) nlv fiv rfl (HE.out _ (n1.trans nv0))).mono ?_
  rintro e v2 ⟨A, c, U, S, cs, Ms, rfl, hU, hM, hO, hn2⟩
  have nv2 := nv0.trans hn2
  refine hK.out _ _ nv2.turn (fun _ => ?_)
  simp only [Act.put, pA9, pB9, pC9]
  refine hw_call 9 (some 27) rfl rfl (by kernel_rfl) (by rfl) (fun K hK => ?_)
  go_simp
  refine (HOf.out k A S c cs U Ms v0.heap.size v2.heap.size v2 (n1.trans nv2) hkN (Nat.le_refl _) hn2.size hO hU hM HG.out).mono ?_
  rintro e v3 ⟨z, R, col', rfl, hR, o3, hn3⟩
  have nv3 := nv2.trans hn3
  refine hK.out _ _ nv3.turn (fun _ => ?_)
  simp only [Act.put, pA9, pB9, pC9]
  refine hw_call 10 none rfl rfl (by kernel_rfl) (by rfl) (fun K hK => ?_)
  have r3 := pb1.new nv3
  have c1 := r3.cells
  have f1 := r3.frees
  go_simp
  have t12 := set12t (S := fun x => x = w.heap.size + 2) v3 (w.heap.size + 2) rfl (.int .i64 z) (.slice none 0 0) (.int .i64 R.sa) (.int .i64 R.si) (.int .i64 R.ho) (.int .i64 R.nx) (.slice R.a1 R.n1 R.c1) (.slice R.a2 R.n2 R.c2) (.slice R.aN R.nN R.cN) (.slice R.aW R.nW R.cW) (.slice R.aM R.nM R.cM) (.slice R.aS R.nS R.cS)
  refine hK.out undef _ (Turn.trans nv3.turn t12 (fun _ _ h => h)) (fun _ => ?_)
  try simp only [Act.put, pA9, pB9, pC9]
  refine wpAnyH_done (by kernel_rfl) ?_ _
  go_wp2
  refine bodyPost_ret (v := .agg #[.int .i64 z, .slice none 0 0, .int .i64 R.sa, .int .i64 R.si, .int .i64 R.ho, .int .i64 R.nx, .slice R.a1 R.n1 R.c1, .slice R.a2 R.n2 R.c2, .slice R.aN R.nN R.cN, .slice R.aW R.nW R.cW, .slice R.aM R.nM R.cM, .slice R.aS R.nS R.cS]) (by simp [results, Tryz.results7, go_sem, c1]) rfl ?_
  have hRR : GoR P (k : Int) a z R := by
    rcases hR with ⟨q1, q2, q3⟩ | ⟨q1, q2, q3⟩
    · exact .inr (.inr (.inl ⟨HK.out.1, HK.out.2, q1, q2, q3⟩))
    · exact .inr (.inr (.inr ⟨HK.out.1, HK.out.2, q1, q2, q3⟩))
  have zv0 := nv0.size
  have n3 := n1.trans nv3
  exact ⟨z, R, col', rfl, hRR, fin12 o3 (by omega) (by omega) (Nat.le_refl _) _ _ _ _ _ _ _ _ _ _ _ _ , new12 n3 (by omega) _ _ _ _ _ _ _ _ _ _ _ _ ⟩

end Go.Proofs.YtdbnmkffinhdjaaGreat
