/- What is proved here: what the model's l14Peer and SayPair answer, for every pair of at most 1048576 things each. -/
import Derived.Test.YtebkdaddndlmoaaGreatLS34
import Derived.Test.YtebkdaddndlmoaaGreatLS27
import Derived.Test.YtebkdaddndlmoaaGreatLS39
namespace Go.Proofs.YtebkdaddndlmoaaGreat
open Go.ChangeShapes Go.WideShapes Go.ChangeAt Go.RowKit Go.Deep Go.Sort
set_option linter.unusedVariables false
set_option linter.unusedSimpArgs false
set_option maxRecDepth 100000


def peF (P : PrV) (pe : Int) : Int := if prF P = 0 then (if 0 ≤ pe ∧ pe ≤ 2 then 0 else 3) else prF P
set_option maxHeartbeats 3200000 in
theorem l14Peer16 (B : Nat) (P : PrV) (pe : Int) (w : World) (hb : Blk w B 44 #[.int .i64 P.sa, .int .i64 P.si, .int .i64 P.ho, .int .i64 P.nx, .slice P.a1 P.n1 P.c1, .slice P.a2 P.n2 P.c2, .slice P.aN P.nN P.cN, .slice P.aW P.nW P.cW, .slice P.aM P.nM P.cM, .slice P.aS P.nS P.cS]) (hp : PAt w P.a1 P.a2 P.aN P.aW P.aM P.aS P.r1 P.r2 P.VN P.VW P.VM P.VS) (hl : PrL P) :
    Calls Tryz.prog 43 #[.pointer (some ⟨B, 0, none⟩), .int .i64 pe] w fun e w' => e = .returned (.int .i64 (peF P pe)) ∧ New w w' := by
  have HH : Hid (Calls Tryz.prog 87 #[.pointer (some ⟨B, 0, none⟩)] w fun e w' => e = .returned (.int .i64 (prF P)) ∧ New w w') := specPaFp P.sa P.si P.ho P.nx P.a1 P.a2 P.aN P.aW P.aM P.aS P.n1 P.c1 P.n2 P.c2 P.nN P.cN P.nW P.cW P.nM P.cM P.nS P.cS P.r1 P.r2 P.VN P.VW P.VM P.VS B w hb hp hl.l1 hl.l2 hl.lN hl.lW hl.lM hl.lS hl.m1 hl.m2 hl.mN hl.mW hl.mM hl.mS (prF P) rfl
  clear hb hp hl
  go_enter Tryz.func43, Tryz.ntmps43
  go_wp2_with fail
  refine HH.out.mono ?_
  rintro e w1 ⟨rfl, hn1⟩
  by_cases hv : prF P = 0
  · rw [hv]
    by_cases hz : P9 pe
    · have HZ : Hid (P9 pe) := hz
      clear hz
      go_wp2_with fail
      refine (sp9_yes pe _ HZ.out).mono ?_
      rintro e w' ⟨rfl, hww⟩
      obtain rfl := hww
      go_wp2
      go_ret
      exact ⟨by unfold peF; rw [if_pos hv, if_pos HZ.out]; rfl, hn1⟩
    · have HZ : Hid (¬ P9 pe) := hz
      clear hz
      go_wp2_with fail
      refine (sp9_no pe _ HZ.out).mono ?_
      rintro e w' ⟨rfl, hww⟩
      obtain rfl := hww
      go_wp2
      go_ret
      exact ⟨by unfold peF; rw [if_pos hv, if_neg HZ.out]; rfl, hn1⟩
  · go_wp2
    go_ret
    exact ⟨by unfold peF; rw [if_neg hv]; rfl, hn1⟩

set_option maxHeartbeats 12800000 in
theorem specSa (P : PrV) (pe : Int) (us : List Int) (dA : Option Addr) (dc : Nat) (A : Wr) (b0 b1 : Nat) (col : Nat → Nat) (w : World) (ho : PrOw w b0 b1 col P) (hl : PrL P) (hN : ∃ g, P.aN = some ⟨g, 0, none⟩) (hc : P.cN = P.nN) (hW : SomW P.VW) (hM : SomM P.VM) (h1 : ∃ g, P.a1 = some ⟨g, 0, none⟩) (h2 : ∃ g, P.a2 = some ⟨g, 0, none⟩) (hu : BsAt w dA us) (hnu : dA = none → us.length = 0 ∧ dc = 0) (hum : us.length ≤ 1048576) (hA : prF P = 0 → P9 pe → ∃ v, P.VW[pe.toNat]? = some v ∧ psA v.E v.T v.xs v.ys us = A) :
    Calls Tryz.prog 11 #[.agg #[.int .i64 P.sa, .int .i64 P.si, .int .i64 P.ho, .int .i64 P.nx, .slice P.a1 P.n1 P.c1, .slice P.a2 P.n2 P.c2, .slice P.aN P.nN P.cN, .slice P.aW P.nW P.cW, .slice P.aM P.nM P.cM, .slice P.aS P.nS P.cS], .int .i64 pe, .slice dA us.length dc] w fun e w' => ∃ z R col', e = .returned (.agg #[.int .i64 z, .slice none 0 0, .int .i64 R.sa, .int .i64 R.si, .int .i64 R.ho, .int .i64 R.nx, .slice R.a1 R.n1 R.c1, .slice R.a2 R.n2 R.c2, .slice R.aN R.nN R.cN, .slice R.aW R.nW R.cW, .slice R.aM R.nM R.cM, .slice R.aS R.nS R.cS]) ∧ SaR P pe A z R ∧ PrOw w' w.heap.size w'.heap.size col' R ∧ New w w' := by
  have hw : New w ((w.alloc (.cells #[.int .i64 P.sa, .int .i64 P.si, .int .i64 P.ho, .int .i64 P.nx, .slice P.a1 P.n1 P.c1, .slice P.a2 P.n2 P.c2, .slice P.aN P.nN P.cN, .slice P.aW P.nW P.cW, .slice P.aM P.nM P.cM, .slice P.aS P.nS P.cS] 44)).alloc (.cells #[.int .i64 0, .slice none 0 0, .int .i64 0, .int .i64 0, .int .i64 0, .int .i64 0, .slice none 0 0, .slice none 0 0, .slice none 0 0, .slice none 0 0, .slice none 0 0, .slice none 0 0] 46)) := ((New.refl w).alloc _).alloc _
  have bP : Blk ((w.alloc (.cells #[.int .i64 P.sa, .int .i64 P.si, .int .i64 P.ho, .int .i64 P.nx, .slice P.a1 P.n1 P.c1, .slice P.a2 P.n2 P.c2, .slice P.aN P.nN P.cN, .slice P.aW P.nW P.cW, .slice P.aM P.nM P.cM, .slice P.aS P.nS P.cS] 44)).alloc (.cells #[.int .i64 0, .slice none 0 0, .int .i64 0, .int .i64 0, .int .i64 0, .int .i64 0, .slice none 0 0, .slice none 0 0, .slice none 0 0, .slice none 0 0, .slice none 0 0, .slice none 0 0] 46)) w.heap.size 44 #[.int .i64 P.sa, .int .i64 P.si, .int .i64 P.ho, .int .i64 P.nx, .slice P.a1 P.n1 P.c1, .slice P.a2 P.n2 P.c2, .slice P.aN P.nN P.cN, .slice P.aW P.nW P.cW, .slice P.aM P.nM P.cM, .slice P.aS P.nS P.cS] := (Blk.mk _ _ _ _ rfl).alloc _
  have bR : Blk ((w.alloc (.cells #[.int .i64 P.sa, .int .i64 P.si, .int .i64 P.ho, .int .i64 P.nx, .slice P.a1 P.n1 P.c1, .slice P.a2 P.n2 P.c2, .slice P.aN P.nN P.cN, .slice P.aW P.nW P.cW, .slice P.aM P.nM P.cM, .slice P.aS P.nS P.cS] 44)).alloc (.cells #[.int .i64 0, .slice none 0 0, .int .i64 0, .int .i64 0, .int .i64 0, .int .i64 0, .slice none 0 0, .slice none 0 0, .slice none 0 0, .slice none 0 0, .slice none 0 0, .slice none 0 0] 46)) (w.heap.size + 1) 46 #[.int .i64 0, .slice none 0 0, .int .i64 0, .int .i64 0, .int .i64 0, .int .i64 0, .slice none 0 0, .slice none 0 0, .slice none 0 0, .slice none 0 0, .slice none 0 0, .slice none 0 0] := Blk.mk _ _ _ _ (by simp)
  have s0 : Hid (((w.alloc (.cells #[.int .i64 P.sa, .int .i64 P.si, .int .i64 P.ho, .int .i64 P.nx, .slice P.a1 P.n1 P.c1, .slice P.a2 P.n2 P.c2, .slice P.aN P.nN P.cN, .slice P.aW P.nW P.cW, .slice P.aM P.nM P.cM, .slice P.aS P.nS P.cS] 44)).alloc (.cells #[.int .i64 0, .slice none 0 0, .int .i64 0, .int .i64 0, .int .i64 0, .int .i64 0, .slice none 0 0, .slice none 0 0, .slice none 0 0, .slice none 0 0, .slice none 0 0, .slice none 0 0] 46)).heap.size = w.heap.size + 1 + 1) := by unfold Hid; simp
  have HPe : Hid (∀ X, New w X → Blk X w.heap.size 44 #[.int .i64 P.sa, .int .i64 P.si, .int .i64 P.ho, .int .i64 P.nx, .slice P.a1 P.n1 P.c1, .slice P.a2 P.n2 P.c2, .slice P.aN P.nN P.cN, .slice P.aW P.nW P.cW, .slice P.aM P.nM P.cM, .slice P.aS P.nS P.cS] → Calls Tryz.prog 43 #[.pointer (some ⟨w.heap.size, 0, none⟩), .int .i64 pe] X fun e w' => e = .returned (.int .i64 (peF P pe)) ∧ New X w') := fun X hX hb => l14Peer16 w.heap.size P pe X hb ((ho.pat hl hN hc hW).new hX) hl
  have HH : Hid (∀ X, New w X → Calls Tryz.prog 46 #[.agg #[.int .i64 P.sa, .int .i64 P.si, .int .i64 P.ho, .int .i64 P.nx, .slice P.a1 P.n1 P.c1, .slice P.a2 P.n2 P.c2, .slice P.aN P.nN P.cN, .slice P.aW P.nW P.cW, .slice P.aM P.nM P.cM, .slice P.aS P.nS P.cS]] X fun e w' => ∃ Q col, e = .returned (.agg #[.int .i64 Q.sa, .int .i64 Q.si, .int .i64 Q.ho, .int .i64 Q.nx, .slice Q.a1 Q.n1 Q.c1, .slice Q.a2 Q.n2 Q.c2, .slice Q.aN Q.nN Q.cN, .slice Q.aW Q.nW Q.cW, .slice Q.aM Q.nM Q.cM, .slice Q.aS Q.nS Q.cS]) ∧ PrE Q P ∧ PrOw w' X.heap.size w'.heap.size col Q ∧ New X w') := fun X hX => sCopyPr P X (ho.rd.new hX) hl ho.nl.1 ho.nl.2 hW.nl hM.nl (by obtain ⟨g, e⟩ := h1; intro e'; rw [e'] at e; cases e) (by obtain ⟨g, e⟩ := h2; intro e'; rw [e'] at e; cases e)
  have HO : Hid (PrOw w b0 b1 col P) := ho
  have HL : Hid (PrL P) := hl
  have HA : Hid (prF P = 0 → P9 pe → ∃ v, P.VW[pe.toNat]? = some v ∧ psA v.E v.T v.xs v.ys us = A) := hA
  have HU : Hid (BsAt w dA us) := hu
  have HNU : Hid (dA = none → us.length = 0 ∧ dc = 0) := hnu
  have HW : Hid (SomW P.VW) := hW
  have hvP : Hid (peF P pe = if prF P = 0 then (if 0 ≤ pe ∧ pe ≤ 2 then 0 else 3) else prF P) := rfl
  clear ho hl hN hc hW hM h1 h2 hA hu hnu
  have cP := bP.cells
  go_enter Tryz.func11, Tryz.ntmps11
  go_wp2_with fail
  refine (HPe.out _ hw bP).mono ?_
  rintro e w1 ⟨rfl, hn1⟩
  have S0 := s0.out
  have n1 := hw.trans hn1
  have z1 := hn1.size
  have p0 := bP.new hn1
  have p1 := bR.new hn1
  clear cP bP bR hw hn1
  by_cases hv : peF P pe = 0
  case neg =>
    have hvb : (peF P pe != 0) = true := by simp [hv]
    have HV : Hid (¬ peF P pe = 0) := hv
    generalize hq : peF P pe = zq at *
    go_wp2_with fail
    refine (l14Bad16 zq _).mono ?_
    rintro e w2 ⟨rfl, hn2⟩
    have n2 := n1.trans hn2
    have z2 := hn2.size
    have r1 := p1.new hn2
    have c1 := r1.cells
    have f1 := r1.frees
    go_wp2
    refine bodyPost_ret (v := .agg #[.int .i64 zq, .slice none 0 0, .int .i64 zPr.sa, .int .i64 zPr.si, .int .i64 zPr.ho, .int .i64 zPr.nx, .slice zPr.a1 zPr.n1 zPr.c1, .slice zPr.a2 zPr.n2 zPr.c2, .slice zPr.aN zPr.nN zPr.cN, .slice zPr.aW zPr.nW zPr.cW, .slice zPr.aM zPr.nM zPr.cM, .slice zPr.aS zPr.nS zPr.cS]) (by simp [results, Tryz.results11, go_sem, c1, zPr]) rfl ?_
    refine ⟨zq, zPr, col, rfl, ?_, zPr_ow _ _ _ _, new12 n2 (by omega) _ _ _ _ _ _ _ _ _ _ _ _ ⟩
    have h1 := hvP.out
    by_cases hp : prF P = 0
    · rw [if_pos hp] at h1
      by_cases h3 : 0 ≤ pe ∧ pe ≤ 2
      · rw [if_pos h3] at h1; exact absurd h1 HV.out
      · rw [if_neg h3] at h1; exact .inr (.inl ⟨hp, h3, h1, rfl⟩)
    · rw [if_neg hp] at h1; exact .inl ⟨hp, h1, rfl⟩
  have hk0 : prF P = 0 ∧ P9 pe := by
    have h1 := hvP.out
    rw [hv] at h1
    by_cases hp : prF P = 0
    · rw [if_pos hp] at h1
      by_cases h3 : 0 ≤ pe ∧ pe ≤ 2
      · exact ⟨hp, h3⟩
      · rw [if_neg h3] at h1; omega
    · rw [if_neg hp] at h1; exact absurd h1.symm hp
  obtain ⟨k, rfl⟩ : ∃ k : Nat, pe = k := ⟨pe.toNat, by have := hk0.2.1; omega⟩
  obtain ⟨v, hvk, hAv⟩ := HA.out hk0.1 hk0.2
  have HVK : Hid (P.VW[k]? = some v) := hvk
  have HAV : Hid (psA v.E v.T v.xs v.ys us = A) := hAv
  have HK : Hid (prF P = 0 ∧ P9 (k : Int)) := hk0
  have hkW : k < P.nW := by rw [← HL.out.lW]; exact (List.getElem?_eq_some_iff.1 hvk).1
  have hki : (k : Int) < (P.nW : Int) := by omega
  have hkz : (0 : Int) ≤ (k : Int) := by omega
  obtain ⟨g, ea, hcs, bx1, bx2, l1, l2⟩ := (HO.out.new n1).wire HVK.out HL.out.lW
  have hnl := HW.out.at HVK.out
  rw [hv]
  clear hvk hAv hk0 HA hv hvP HPe
  have q7 : w1.cell? ⟨w.heap.size, 7, none⟩ = some (.slice (some ⟨g, 0, none⟩) P.nW P.cW) := by
    have h := p0.cells 7
    rw [h, ← ea]; rfl
  have t0 : w1.cell? ⟨g, k * 4, none⟩ = some (.int .i64 v.E) := hcs 0 (by omega)
  have t1 : w1.cell? ⟨g, k * 4 + 1, none⟩ = some (.slice v.a v.xs.length v.c) := hcs 1 (by omega)
  have t2 : w1.cell? ⟨g, k * 4 + 2, none⟩ = some (.int .i64 v.T) := hcs 2 (by omega)
  have t3 : w1.cell? ⟨g, k * 4 + 3, none⟩ = some (.slice v.b v.ys.length v.d) := hcs 3 (by omega)
  clear ea hcs
  go_wp2_with fail
  refine (specPS v.E v.T v.a v.b dA v.c v.d dc v.xs v.ys us _ bx1 bx2 (HU.out.new n1) hnl.1 hnl.2 HNU.out l1 l2 hum).mono ?_
  have hbyv := HO.out.bW v (List.mem_of_getElem? HVK.out)
  have hbyu : ∀ z ∈ us, By z := HU.out.lt
  have hAb : (A.z = 0 → (∀ z ∈ A.Z, By z) ∧ (∀ z ∈ A.Y, By z) ∧ A.Z.length ≤ 1048576 ∧ A.Y.length ≤ 1048576) := by
    intro hz
    rw [← HAV.out] at hz ⊢
    obtain ⟨h1, h2, h3⟩ := psA_ok hz
    rw [h2]
    refine ⟨fun z hz => ?_, hbyv.2, ?_, l2⟩
    · rcases List.mem_append.1 hz with h | h
      · exact hbyv.1 z h
      · exact hbyu z h
    · show (v.xs ++ us).length ≤ 1048576
      rw [List.length_append]; omega
  have HAB : Hid _ := hAb
  rw [HAV.out]
  clear hAb hbyv hbyu bx1 bx2 l1 l2 hnl q7 t0 t1 t2 t3
  rintro e w2 ⟨p, a, b, f, c, d, rfl, hX, hZ, hY, -, -, hab, hn2⟩
  have bW := Blk.mk w2 w2.heap.size 81 #[.int .i64 A.z, .slice p A.X.length f, .int .i64 A.E, .slice a A.Z.length c, .int .i64 A.T, .slice b A.Y.length d] rfl
  have al2 : New w2 (w2.alloc (.cells #[.int .i64 A.z, .slice p A.X.length f, .int .i64 A.E, .slice a A.Z.length c, .int .i64 A.T, .slice b A.Y.length d] 81)) := (New.refl w2).alloc _
  have sz2 : (w2.alloc (.cells #[.int .i64 A.z, .slice p A.X.length f, .int .i64 A.E, .slice a A.Z.length c, .int .i64 A.T, .slice b A.Y.length d] 81)).heap.size = w2.heap.size + 1 := by simp
  have bOut := Blk.mk w2 w2.heap.size 81 #[.int .i64 0, .slice none 0 0, .int .i64 0, .slice none 0 0, .int .i64 0, .slice none 0 0] rfl
  have fOut := bOut.frees
  have cOut := bOut.cells
  have zz2 := hn2.size
  go_upto_region 5 with fail
  clear fOut cOut bOut
  have n3 := (n1.trans hn2).trans al2
  have q0 := (p0.new hn2).new al2
  have q1 := (p1.new hn2).new al2
  have Z3 := hZ.new al2
  have Y3 := hY.new al2
  have hin : ∀ x, (a = some x ∨ b = some x) → w1.heap.size ≤ x.block ∧ x.block < w2.heap.size := by
    rintro x (h | h)
    · exact OvB.rngK hZ x.block (by rw [h]; rfl)
    · exact OvB.rngK hY x.block (by rw [h]; rfl)
  clear p0 p1 hZ hY hX al2 hn2 n1
  generalize w2.alloc (.cells #[.int .i64 A.z, .slice p A.X.length f, .int .i64 A.E, .slice a A.Z.length c, .int .i64 A.T, .slice b A.Y.length d] 81) = w3 at *
  have cW := bW.cells
  by_cases hz : A.z = 0
  case neg =>
    have HZ : Hid (¬ A.z = 0) := hz
    have hzb : (A.z != 0) = true := by simp [hz]
    clear hz
    go_wp2_with fail
    refine (l14Bad16 A.z _).mono ?_
    rintro e w4 ⟨rfl, hn4⟩
    have n4 := n3.trans hn4
    have z4 := n4.size
    have r1 := q1.new hn4
    have c1 := r1.cells
    have f1 := r1.frees
    have z34 := hn4.size
    clear cW
    go_wp2
    refine bodyPost_ret (v := .agg #[.int .i64 A.z, .slice none 0 0, .int .i64 zPr.sa, .int .i64 zPr.si, .int .i64 zPr.ho, .int .i64 zPr.nx, .slice zPr.a1 zPr.n1 zPr.c1, .slice zPr.a2 zPr.n2 zPr.c2, .slice zPr.aN zPr.nN zPr.cN, .slice zPr.aW zPr.nW zPr.cW, .slice zPr.aM zPr.nM zPr.cM, .slice zPr.aS zPr.nS zPr.cS]) (by simp [results, Tryz.results11, go_sem, c1, zPr]) rfl ?_
    exact ⟨A.z, zPr, fun _ => 0, rfl, .inr (.inr (.inl ⟨HK.out.1, HK.out.2, HZ.out, rfl, rfl⟩)), zPr_ow _ _ _ _, new12 n4 (by omega) _ _ _ _ _ _ _ _ _ _ _ _ ⟩
  have HZ : Hid (A.z = 0) := hz
  have hzb : (A.z != 0) = false := by simp [hz]
  clear hz
  have c0 := q0.cells
  go_wp2_with fail
  refine (HH.out _ n3).mono ?_
  rintro e w4 ⟨Q, cq, rfl, eQ, oQ, hn4⟩
  have lQ := eQ.lim HL.out
  have bOut := Blk.mk w4 w4.heap.size 44 #[.int .i64 0, .int .i64 0, .int .i64 0, .int .i64 0, .slice none 0 0, .slice none 0 0, .slice none 0 0, .slice none 0 0, .slice none 0 0, .slice none 0 0] rfl
  have fOut := bOut.frees
  have cOut := bOut.cells
  clear cW c0
  go_upto_region 8 with fail
  clear fOut cOut bOut hzb
  have b3 := Blk.mk w4 w4.heap.size 44 #[.int .i64 Q.sa, .int .i64 Q.si, .int .i64 Q.ho, .int .i64 Q.nx, .slice Q.a1 Q.n1 Q.c1, .slice Q.a2 Q.n2 Q.c2, .slice Q.aN Q.nN Q.cN, .slice Q.aW Q.nW Q.cW, .slice Q.aM Q.nM Q.cM, .slice Q.aS Q.nS Q.cS] rfl
  have n45 : New w4 (w4.alloc (.cells #[.int .i64 Q.sa, .int .i64 Q.si, .int .i64 Q.ho, .int .i64 Q.nx, .slice Q.a1 Q.n1 Q.c1, .slice Q.a2 Q.n2 Q.c2, .slice Q.aN Q.nN Q.cN, .slice Q.aW Q.nW Q.cW, .slice Q.aM Q.nM Q.cM, .slice Q.aS Q.nS Q.cS] 44)) := (New.refl w4).alloc _
  have z5 : (w4.alloc (.cells #[.int .i64 Q.sa, .int .i64 Q.si, .int .i64 Q.ho, .int .i64 Q.nx, .slice Q.a1 Q.n1 Q.c1, .slice Q.a2 Q.n2 Q.c2, .slice Q.aN Q.nN Q.cN, .slice Q.aW Q.nW Q.cW, .slice Q.aM Q.nM Q.cM, .slice Q.aS Q.nS Q.cS] 44)).heap.size = w4.heap.size + 1 := by simp
  have nw5 := (n3.trans hn4).trans n45
  have bW5 := (bW.new hn4).new n45
  have bR5 := (q1.new hn4).new n45
  have Z5 := (Z3.new hn4).new n45
  have Y5 := (Y3.new hn4).new n45
  have o5 := oQ.new n45
  have zs4 := hn4.size
  clear oQ n45 bW q1 q0 Z3 Y3 hn4
  generalize (w4.alloc (.cells #[.int .i64 Q.sa, .int .i64 Q.si, .int .i64 Q.ho, .int .i64 Q.nx, .slice Q.a1 Q.n1 Q.c1, .slice Q.a2 Q.n2 Q.c2, .slice Q.aN Q.nN Q.cN, .slice Q.aW Q.nW Q.cW, .slice Q.aM Q.nM Q.cM, .slice Q.aS Q.nS Q.cS] 44)) = w5 at *
  obtain ⟨gQ, eaQ, oN⟩ : ∃ g, Q.aW = some ⟨g, 0, none⟩ ∧ OwW1 w5 (Cl cq w3.heap.size w4.heap.size 2) g Q.nW Q.cW Q.VW := by
    rcases o5.oW with ⟨-, e, -⟩ | h
    · have := eQ.nW; omega
    · exact h
  have glo := oN.glo.2.1
  have ghi := oN.glo.2.2
  have gO : ¬ w4.heap.size = gQ := by omega
  have gT : ¬ w2.heap.size = gQ := by omega
  have gR : ¬ w.heap.size + 1 = gQ := by omega
  have q7 : w5.cell? ⟨w4.heap.size, 7, none⟩ = some (.slice (some ⟨gQ, 0, none⟩) Q.nW Q.cW) := by
    have h1 := b3.cells 7
    rw [h1, ← eaQ]; rfl
  have t0 : w5.cell? ⟨w2.heap.size, 2, none⟩ = some (.int .i64 A.E) := bW5.cells 2
  have t1 : w5.cell? ⟨w2.heap.size, 3, none⟩ = some (.slice a A.Z.length c) := bW5.cells 3
  have t2 : w5.cell? ⟨w2.heap.size, 4, none⟩ = some (.int .i64 A.T) := bW5.cells 4
  have t3 : w5.cell? ⟨w2.heap.size, 5, none⟩ = some (.slice b A.Y.length d) := bW5.cells 5
  have hkQ : k < Q.nW := by rw [eQ.nW]; exact hkW
  have hkQi : (k : Int) < (Q.nW : Int) := by omega
  have hrow := oN.row
  have f0 := fun q => World.ownsRow.frozenAt hrow q
  have lVW := lQ.lW
  obtain ⟨y0, cy0⟩ : ∃ y, w5.cell? ⟨gQ, k * 4, none⟩ = some y := ⟨_, (World.ownsRow.cellAt hrow (k * 4) (by omega)).trans (List.getElem?_eq_getElem (by rw [cellsWi_len]; omega))⟩
  obtain ⟨y1, cy1⟩ : ∃ y, w5.cell? ⟨gQ, k * 4 + 1, none⟩ = some y := ⟨_, (World.ownsRow.cellAt hrow (k * 4 + 1) (by omega)).trans (List.getElem?_eq_getElem (by rw [cellsWi_len]; omega))⟩
  obtain ⟨y2, cy2⟩ : ∃ y, w5.cell? ⟨gQ, k * 4 + 2, none⟩ = some y := ⟨_, (World.ownsRow.cellAt hrow (k * 4 + 2) (by omega)).trans (List.getElem?_eq_getElem (by rw [cellsWi_len]; omega))⟩
  obtain ⟨y3, cy3⟩ : ∃ y, w5.cell? ⟨gQ, k * 4 + 3, none⟩ = some y := ⟨_, (World.ownsRow.cellAt hrow (k * 4 + 3) (by omega)).trans (List.getElem?_eq_getElem (by rw [cellsWi_len]; omega))⟩
  have HLV : Hid (Q.VW.length = Q.nW) := lVW
  have EQ : Hid (PrE Q P) := eQ
  clear lVW eQ
  go_upto_region 9 with fail
  clear q7 f0 t0 cy0 t1 cy1 t2 cy2 t3 cy3
  have hr0 := hrow
  have hr1 := (World.ownsRow.stored hr0 (k * 4) (.int .i64 A.E)).1
  have hr2 := (World.ownsRow.stored hr1 (k * 4 + 1) (.slice a A.Z.length c)).1
  have hr3 := (World.ownsRow.stored hr2 (k * 4 + 2) (.int .i64 A.T)).1
  have hr4 := (World.ownsRow.stored hr3 (k * 4 + 3) (.slice b A.Y.length d)).1
  have t9 := ((((Turn.refl (fun x => x = gQ) w5).set (p := ⟨gQ, k * 4, none⟩) rfl (.int .i64 A.E)).set (p := ⟨gQ, k * 4 + 1, none⟩) rfl (.slice a A.Z.length c)).set (p := ⟨gQ, k * 4 + 2, none⟩) rfl (.int .i64 A.T)).set (p := ⟨gQ, k * 4 + 3, none⟩) rfl (.slice b A.Y.length d)
  have hset := cellsWi_set4 Q.VW k ⟨A.E, A.T, a, b, c, d, A.Z, A.Y⟩ (by have := HLV.out; omega)
  rw [hset] at hr4
  clear hset hr0 hr1 hr2 hr3
  have z9 := t9.size
  have hbz := HAB.out HZ.out
  have ZZ := Z5.turnA t9 (by intro y hy e; have := (hin y (.inl hy)).2; omega)
  have YY := Y5.turnA t9 (by intro y hy e; have := (hin y (.inr hy)).2; omega)
  obtain ⟨a1, c1, e1, -, -, d1, v1⟩ := ZZ.bs hbz.1
  obtain ⟨a2, c2, e2, -, -, d2, v2⟩ := YY.bs hbz.2.1
  simp only [Value.slice.injEq] at e1 e2
  obtain ⟨rfl, -, rfl⟩ := e1
  obtain ⟨rfl, -, rfl⟩ := e2
  obtain ⟨colw, PO9, hcw⟩ := o5.setW (v := ⟨A.E, A.T, a, b, c, d, A.Z, A.Y⟩) (b0' := w1.heap.size) (b2 := w4.heap.size) eaQ t9 hr4 ⟨v1, v2⟩ hbz.2.2 ⟨hbz.1, hbz.2.1⟩ hab (fun x hx => by have := hin x hx; exact ⟨fun hh => by omega, by omega, by omega⟩) (by omega) (Nat.le_refl _)
  have bO9 : Blk ((((w5.setCell ⟨gQ, k * 4, none⟩ (.int .i64 A.E)).setCell ⟨gQ, k * 4 + 1, none⟩ (.slice a A.Z.length c)).setCell ⟨gQ, k * 4 + 2, none⟩ (.int .i64 A.T)).setCell ⟨gQ, k * 4 + 3, none⟩ (.slice b A.Y.length d)) w4.heap.size 44 #[.int .i64 Q.sa, .int .i64 Q.si, .int .i64 Q.ho, .int .i64 Q.nx, .slice Q.a1 Q.n1 Q.c1, .slice Q.a2 Q.n2 Q.c2, .slice Q.aN Q.nN Q.cN, .slice Q.aW Q.nW Q.cW, .slice Q.aM Q.nM Q.cM, .slice Q.aS Q.nS Q.cS] := b3.turn t9 gO
  have bR9 := bR5.turn t9 gR
  have NF := nw5.before t9 (by intro i hi e; omega)
  have zO : w4.heap.size + 1 ≤ ((((w5.setCell ⟨gQ, k * 4, none⟩ (.int .i64 A.E)).setCell ⟨gQ, k * 4 + 1, none⟩ (.slice a A.Z.length c)).setCell ⟨gQ, k * 4 + 2, none⟩ (.int .i64 A.T)).setCell ⟨gQ, k * 4 + 3, none⟩ (.slice b A.Y.length d)).heap.size := by omega
  have EG : Hid (PrE (Q.setW k ⟨A.E, A.T, a, b, c, d, A.Z, A.Y⟩) (P.setW k (wiOf A))) := EQ.out.setW rfl
  clear hrow hr4 t9 oN b3 bR5 bW5 o5 Z5 Y5 ZZ YY v1 v2 d1 d2
  have eP : (#[.int .i64 Q.sa, .int .i64 Q.si, .int .i64 Q.ho, .int .i64 Q.nx, .slice Q.a1 Q.n1 Q.c1, .slice Q.a2 Q.n2 Q.c2, .slice Q.aN Q.nN Q.cN, .slice Q.aW Q.nW Q.cW, .slice Q.aM Q.nM Q.cM, .slice Q.aS Q.nS Q.cS] : Array Value) = #[.int .i64 (Q.setW k ⟨A.E, A.T, a, b, c, d, A.Z, A.Y⟩).sa, .int .i64 (Q.setW k ⟨A.E, A.T, a, b, c, d, A.Z, A.Y⟩).si, .int .i64 (Q.setW k ⟨A.E, A.T, a, b, c, d, A.Z, A.Y⟩).ho, .int .i64 (Q.setW k ⟨A.E, A.T, a, b, c, d, A.Z, A.Y⟩).nx, .slice (Q.setW k ⟨A.E, A.T, a, b, c, d, A.Z, A.Y⟩).a1 (Q.setW k ⟨A.E, A.T, a, b, c, d, A.Z, A.Y⟩).n1 (Q.setW k ⟨A.E, A.T, a, b, c, d, A.Z, A.Y⟩).c1, .slice (Q.setW k ⟨A.E, A.T, a, b, c, d, A.Z, A.Y⟩).a2 (Q.setW k ⟨A.E, A.T, a, b, c, d, A.Z, A.Y⟩).n2 (Q.setW k ⟨A.E, A.T, a, b, c, d, A.Z, A.Y⟩).c2, .slice (Q.setW k ⟨A.E, A.T, a, b, c, d, A.Z, A.Y⟩).aN (Q.setW k ⟨A.E, A.T, a, b, c, d, A.Z, A.Y⟩).nN (Q.setW k ⟨A.E, A.T, a, b, c, d, A.Z, A.Y⟩).cN, .slice (Q.setW k ⟨A.E, A.T, a, b, c, d, A.Z, A.Y⟩).aW (Q.setW k ⟨A.E, A.T, a, b, c, d, A.Z, A.Y⟩).nW (Q.setW k ⟨A.E, A.T, a, b, c, d, A.Z, A.Y⟩).cW, .slice (Q.setW k ⟨A.E, A.T, a, b, c, d, A.Z, A.Y⟩).aM (Q.setW k ⟨A.E, A.T, a, b, c, d, A.Z, A.Y⟩).nM (Q.setW k ⟨A.E, A.T, a, b, c, d, A.Z, A.Y⟩).cM, .slice (Q.setW k ⟨A.E, A.T, a, b, c, d, A.Z, A.Y⟩).aS (Q.setW k ⟨A.E, A.T, a, b, c, d, A.Z, A.Y⟩).nS (Q.setW k ⟨A.E, A.T, a, b, c, d, A.Z, A.Y⟩).cS] := rfl
  rw [eP] at bO9
  clear eP
  generalize (((w5.setCell ⟨gQ, k * 4, none⟩ (.int .i64 A.E)).setCell ⟨gQ, k * 4 + 1, none⟩ (.slice a A.Z.length c)).setCell ⟨gQ, k * 4 + 2, none⟩ (.int .i64 A.T)).setCell ⟨gQ, k * 4 + 3, none⟩ (.slice b A.Y.length d) = w9 at *
  generalize Q.setW k ⟨A.E, A.T, a, b, c, d, A.Z, A.Y⟩ = R at *
  have cO := bO9.cells
  have c1 := bR9.cells
  have f1 := bR9.frees
  go_wp2
  refine bodyPost_ret (v := .agg #[.int .i64 0, .slice none 0 0, .int .i64 R.sa, .int .i64 R.si, .int .i64 R.ho, .int .i64 R.nx, .slice R.a1 R.n1 R.c1, .slice R.a2 R.n2 R.c2, .slice R.aN R.nN R.cN, .slice R.aW R.nW R.cW, .slice R.aM R.nM R.cM, .slice R.aS R.nS R.cS]) (by simp [results, Tryz.results11, go_sem, c1]) rfl ?_
  exact ⟨0, R, rfl, .inr (.inr (.inr ⟨HK.out.1, HK.out.2, HZ.out, rfl, EG.out⟩)), ⟨colw, fin12 PO9 (by omega) (by omega) (by omega) _ _ _ _ _ _ _ _ _ _ _ _ ⟩, new12 NF (by omega) _ _ _ _ _ _ _ _ _ _ _ _ ⟩

end Go.Proofs.YtebkdaddndlmoaaGreat
