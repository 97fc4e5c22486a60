/- What is proved here: for every pair the law on TakenRight returns true, and the pair reads as it did. No condition. -/
import Derived.Test.YtkbdmcimgepakaaGreatPT6
import Derived.Deep.RegionHeld3
namespace Go.Proofs.YtkbdmcimgepakaaGreat
open Go.ChangeShapes Go.WideShapes Go.ChangeAt Go.RowKit
set_option linter.unusedVariables false
set_option linter.unusedSimpArgs false

theorem PEq.lens {LN VN : List NdV} {LW VW : List WiV} {LM VM : List MlV} {LS VS : List EkV} (h : PEq LN VN LW VW LM VM LS VS) {nN nW nM nS : Nat} (a : LN.length = nN) (b : LW.length = nW) (c : LM.length = nM) (d : LS.length = nS) : VN.length = nN ∧ VW.length = nW ∧ VM.length = nM ∧ VS.length = nS := by
  have h1 := congrArg List.length h.nd
  have h2 := congrArg List.length h.wi
  have h3 := congrArg List.length h.mq
  have h4 := congrArg List.length h.se
  simp at h1 h2 h3 h4
  exact ⟨by omega, by omega, by omega, by omega⟩
theorem PEq.both {LN VN UN : List NdV} {LW VW UW : List WiV} {LM VM UM : List MlV} {LS VS US : List EkV} (h : PEq LN VN LW VW LM VM LS VS) (k : PEq LN UN LW UW LM UM LS US) : PEq VN UN VW UW VM UM VS US :=
  ⟨k.nd.trans h.nd.symm, k.wi.trans h.wi.symm, k.mq.trans h.mq.symm, k.se.trans h.se.symm⟩

set_option maxHeartbeats 6400000 in
theorem atr_walk (pe : Int) (sa si ho nx : Int) (a1 a2 aN aW aM aS : Option Addr) (n1 c1 n2 c2 nN cN nW cW nM cM nS cS : Nat) (r1 r2 : List Ru) (LN : List NdV) (LW : List WiV) (LM : List MlV) (LS : List EkV) (w : World) (h : PCame w a1 a2 aN aW aM aS n1 n2 nN nW nM nS r1 r2 LN LW LM LS) :
    Calls Tryz.prog 5 #[.agg #[.int .i64 sa, .int .i64 si, .int .i64 ho, .int .i64 nx, .slice a1 n1 c1, .slice a2 n2 c2, .slice aN nN cN, .slice aW nW cW, .slice aM nM cM, .slice aS nS cS], .int .i64 pe] w fun e w' => e = .returned (.bool true) ∧ New w w' := by
  have hw := (New.refl w).alloc (.cells #[.int .i64 sa, .int .i64 si, .int .i64 ho, .int .i64 nx, .slice a1 n1 c1, .slice a2 n2 c2, .slice aN nN cN, .slice aW nW cW, .slice aM nM cM, .slice aS nS cS] 32)
  have bA := Blk.mk w w.heap.size 32 #[.int .i64 sa, .int .i64 si, .int .i64 ho, .int .i64 nx, .slice a1 n1 c1, .slice a2 n2 c2, .slice aN nN cN, .slice aW nW cW, .slice aM nM cM, .slice aS nS cS] rfl
  obtain ⟨f, hfv⟩ : ∃ f, (decide (pF sa si ho nx r1 r2 (LN.map NdV.r) (LW.map WiV.r) (LM.map MlV.r) (LS.map EkV.r) = 0) && (decide (P9 pe) && tkV pe.toNat (LW.map WiV.r) (LS.map EkV.r) (LN.map NdV.r))) = f := ⟨_, rfl⟩
  have HFV : Hid ((decide (pF sa si ho nx r1 r2 (LN.map NdV.r) (LW.map WiV.r) (LM.map MlV.r) (LS.map EkV.r) = 0) && (decide (P9 pe) && tkV pe.toNat (LW.map WiV.r) (LS.map EkV.r) (LN.map NdV.r))) = f) := hfv
  clear hfv
  go_enter Tryz.func5, Tryz.ntmps5
  go_wp2_with fail
  refine (szPair_any sa si ho nx a1 a2 aN aW aM aS n1 c1 n2 c2 nN cN nW cW nM cM nS cS r1 r2 LN LW LM LS _ (h.new hw)).mono ?_
  rintro e w1 ⟨⟨z, rfl, hz⟩, hn1⟩
  have hw1 := hw.trans hn1
  have bA1 := bA.new hn1
  clear hw bA hn1
  by_cases hz0 : z < 0
  · go_wp2
    go_ret
    exact ⟨rfl, hw1⟩
  have hs : PSm n1 n2 LN LW LM LS := by rcases hz with hz | hz; (exfalso; omega); exact hz.2
  have hB : Hid (nN ≤ 1048576 ∧ nW ≤ 1048576 ∧ nM ≤ 1048576 ∧ nS ≤ 1048576) := by
    have k1 := totNd_len LN; have k2 := totWi_len LW; have k3 := totMq_len LM; have k4 := totK_len LS
    have := hs.mN; have := hs.mW; have := hs.mM; have := hs.mS; have := h.lN; have := h.lW; have := h.lM; have := h.lS
    exact ⟨by omega, by omega, by omega, by omega⟩
  clear hz
  have cA := bA1.cells
  go_wp2_with fail
  refine (toPair_any sa si ho nx a1 a2 aN aW aM aS n1 c1 n2 c2 nN cN nW cW nM cM nS cS r1 r2 LN LW LM LS _ (h.new hw1) hs).mono ?_
  rintro e w2 ⟨g1a, g2a, gNa, gWa, gMa, gSa, VNa, VWa, VMa, VSa, rfl, pea, paa, hna⟩
  have bA2 := bA1.new hna
  have hw2 := hw1.trans hna
  have pla := pea.lens h.lN h.lW h.lM h.lS
  have PAa := paa
  clear cA bA1 paa
  go_wp2_with fail
  refine (specTR pe sa si ho nx _ _ _ _ _ _ n1 n1 n2 n2 nN nN nW nW nM nM nS nS r1 r2 VNa VWa VMa VSa _ PAa h.l1 h.l2 (pla).1 (pla).2.1 (pla).2.2.1 (pla).2.2.2 hs.m1 hs.m2 hB.out.1 hB.out.2.1 hB.out.2.2.1 hB.out.2.2.2 (by rw [totK_map VSa LS pea.se]; exact hs.mS) f (by rw [pea.nd, pea.wi, pea.mq, pea.se]; exact HFV.out)).mono ?_
  rintro e w3 ⟨rfl, hn3⟩
  have bA3 := bA2.new hn3
  have hw3 := hw2.trans hn3
  have cA := bA3.cells
  clear bA2 hna hn3 PAa
  go_wp2_with fail
  refine (toPair_any sa si ho nx a1 a2 aN aW aM aS n1 c1 n2 c2 nN cN nW cW nM cM nS cS r1 r2 LN LW LM LS _ (h.new hw3) hs).mono ?_
  rintro e w4 ⟨g1b, g2b, gNb, gWb, gMb, gSb, VNb, VWb, VMb, VSb, rfl, peb, pab, hnb⟩
  have al4 := (New.refl w4).alloc (.cells #[.int .i64 sa, .int .i64 si, .int .i64 ho, .int .i64 nx, .slice (some ⟨g1b, 0, none⟩) n1 n1, .slice (some ⟨g2b, 0, none⟩) n2 n2, .slice (some ⟨gNb, 0, none⟩) nN nN, .slice (some ⟨gWb, 0, none⟩) nW nW, .slice (some ⟨gMb, 0, none⟩) nM nM, .slice (some ⟨gSb, 0, none⟩) nS nS] 44)
  have bA4 := (bA3.new hnb).new al4
  have b4 := Blk.mk w4 w4.heap.size 44 #[.int .i64 sa, .int .i64 si, .int .i64 ho, .int .i64 nx, .slice (some ⟨g1b, 0, none⟩) n1 n1, .slice (some ⟨g2b, 0, none⟩) n2 n2, .slice (some ⟨gNb, 0, none⟩) nN nN, .slice (some ⟨gWb, 0, none⟩) nW nW, .slice (some ⟨gMb, 0, none⟩) nM nM, .slice (some ⟨gSb, 0, none⟩) nS nS] rfl
  have PAb := pab.new al4
  have hw4 := (hw3.trans hnb).trans al4
  have plb := peb.lens h.lN h.lW h.lM h.lS
  have cB := b4.cells
  clear cA bA3 hnb pab
  go_wp2_with fail
  refine (implTR pe sa si ho nx _ _ _ _ _ _ n1 n1 n2 n2 nN nN nW nW nM nM nS nS r1 r2 VNb VWb VMb VSb _ PAb h.l1 h.l2 (plb).1 (plb).2.1 (plb).2.2.1 (plb).2.2.2 hs.m1 hs.m2 hB.out.1 hB.out.2.1 hB.out.2.2.1 hB.out.2.2.2 (by rw [totK_map VSb LS peb.se]; exact hs.mS) f (by rw [peb.nd, peb.wi, peb.mq, peb.se]; exact HFV.out)).mono ?_
  rintro e w5 ⟨rfl, hn5⟩
  have bA5 := bA4.new hn5
  have b45 := b4.new hn5
  have PA5 := PAb.new hn5
  have hw5 := hw4.trans hn5
  clear bA4 b4 cB hn5 al4 PAb
  have hff : (f != f) = false := by simp
  have cA := bA5.cells
  have cB := b45.cells
  have cAd := (bA5.new ((New.refl _).drew)).cells
  have cBd := (b45.new ((New.refl _).drew)).cells
  go_wp2_with fail
  go_region_held3 (fun W => (∀ j, W.cell? ⟨w.heap.size, j, none⟩ = (#[.int .i64 sa, .int .i64 si, .int .i64 ho, .int .i64 nx, .slice a1 n1 c1, .slice a2 n2 c2, .slice aN nN cN, .slice aW nW cW, .slice aM nM cM, .slice aS nS cS] : Array Value)[j]?) ∧ (∀ j, W.cell? ⟨w4.heap.size, j, none⟩ = (#[.int .i64 sa, .int .i64 si, .int .i64 ho, .int .i64 nx, .slice (some ⟨g1b, 0, none⟩) n1 n1, .slice (some ⟨g2b, 0, none⟩) n2 n2, .slice (some ⟨gNb, 0, none⟩) nN nN, .slice (some ⟨gWb, 0, none⟩) nW nW, .slice (some ⟨gMb, 0, none⟩) nM nM, .slice (some ⟨gSb, 0, none⟩) nS nS] : Array Value)[j]?)) (first | exact ⟨cA, cB⟩ | exact ⟨cAd, cBd⟩ | exact ⟨cA7, cB7⟩ | exact ⟨cA8, cB8⟩)
    (first
      | (go_at_call 9; refine (toPair_any sa si ho nx a1 a2 aN aW aM aS n1 c1 n2 c2 nN cN nW cW nM cM nS cS r1 r2 LN LW LM LS _ ?_ hs).mono ?_; exact (h.new hw5).new ((New.refl _).drew); rintro e w7 ⟨g1c, g2c, gNc, gWc, gMc, gSc, VNc, VWc, VMc, VSc, rfl, pec, pac, hnc⟩; have n7 : New w5 w7 := ((New.refl _).drew).trans hnc; have cA7 := (bA5.new n7).cells; have cB7 := (b45.new n7).cells)
      | (go_at_call 11; refine (eqPair_any sa si ho nx _ _ _ _ _ _ _ _ _ _ _ _ n1 n1 n2 n2 nN nN nW nW nM nM nS nS n1 n2 nN nW nM nS r1 r2 VNb VNc VWb VWc VMb VMc VSb VSc _ (PA5.new n7) pac (peb.both pec) h.l1 h.l2 hs.m1 hs.m2 plb.1 plb.2.1 plb.2.2.1 plb.2.2.2 hB.out.1 hB.out.2.1 hB.out.2.2.1 hB.out.2.2.2).mono ?_; rintro e w8 ⟨rfl, hn8⟩; have n8 := n7.trans hn8; have cA8 := (bA5.new n8).cells; have cB8 := (b45.new n8).cells))
  go_wp2
  go_ret
  exact ⟨rfl, hw5.trans n8⟩

set_option maxRecDepth 100000 in
theorem atr_lifted (os : Os) (started : os.Started) (H : Type) (enc : TypeId × Value → H) :
    ReturnsInHanded {} Tryz.checked os 5 .any (Rows.fnExactTakenRightSpec.pre6 enc Tryz.prog Tryz.f5 Rows.fnExactTakenRightRow.domain false) (Rows.fnExactTakenRightSpec.post enc Tryz.prog Tryz.f5 false true false false) := by
  refine returnsInHanded_of_change (C := Tryz.checked) own started (by kernel_rfl) Tryz.func5
    (ChangeSpec.witness6 (enc := enc) (C := Tryz.checked) false ⟨#[], #[.agg #[.int .i64 0, .int .i64 0, .int .i64 0, .int .i64 0, .slice none 0 0, .slice none 0 0, .slice none 0 0, .slice none 0 0, .slice none 0 0, .slice none 0 0], .int .i64 0], []⟩ 8 (by kernel_rfl) (by kernel_rfl) (by kernel_rfl) (by kernel_rfl)) ?_
  intro W base args ds gs before hval0 hW hcnd _
  have hval : ∀ (j : Nat) t v, Tryz.f5.params[j]? = some t → args[j]? = some v → Value.okWide Tryz.prog W .any base t v := hval0
  have hW' := hW
  obtain ⟨p, q, hA0, hV, rfl, hfz, hnd⟩ := hW
  have hA : DataW.TrodAll enc Tryz.prog W 0 (fun _ => true) true Tryz.f5.params.toList args.toList ds p := hA0
  rw [Tryz.params5] at hA hval
  obtain ⟨v0, vs0, d0, ds0, p0, q0, hargs0, rfl, rfl, h0, r0⟩ := trodAll_cons hA
  obtain ⟨v1, vs1, d1, ds1, p1, q1, hargs1, rfl, rfl, h1, r1⟩ := trodAll_cons r0
  obtain ⟨rfl, rfl, rfl⟩ := trodAll_nil r1
  obtain rfl : args = #[v0, v1] := by cases args; simp_all
  obtain ⟨rfl, rfl⟩ := trodVars_none hV
  have k0 := h0
  have lt0 : ∀ x ∈ p0, x.block < W.heap.size := by obtain ⟨m, hm⟩ := k0; exact DataW.trod_lt m _ _ _ hm
  obtain ⟨sa, si, ho, nx, a1, a2, aN, aW, aM, aS, n1, c1, n2, c2, nN, cN, nW, cW, nM, cM, nS, cS, r1, r2, LN, LW, LM, LS, rfl, hP⟩ := open_pair (hval 0 32 v0 rfl rfl) h0
  obtain ⟨x1, rfl, rfl, rfl, w1⟩ := open_int Tryz.underlying2 (hval 1 2 v1 rfl rfl) h1
  clear hA0 hval0
  refine (atr_walk x1 sa si ho nx a1 a2 aN aW aM aS n1 c1 n2 c2 nN cN nW cW nM cM nS cS r1 r2 LN LW LM LS W hP).mono fun e W' ⟨he, new⟩ => ?_
  have bel := new.below
  subst he
  exact ⟨_, rfl, _, _, _, [], _, [], hW', trodAll_mk1 (shut_bool Tryz.underlying4 _), (trodAll_cons_mk (Below.trod laidOut (by kernel_rfl) (of_decide_eq_true (by kernel_rfl)) k0 bel lt0) (trodAll_cons_mk (shut_int Tryz.underlying2 w1) trodAll_mk0)), rfl, bel.frame _, fun h => by cases h⟩

theorem atr_holds : Rows.FnExactTakenRightSaid :=
  OpenClaim.holds_of_wide 5 Tryz.f5 rfl rfl rfl rfl rfl rfl rfl ⟨rfl, rfl, rfl, rfl, rfl⟩ rfl rfl rfl rfl rfl (by kernel_rfl) Tryz.func5 (by kernel_rfl)
    (of_decide_eq_true (by kernel_rfl)) (by unfold Func.isWrapper; first | (rw [if_pos (by decide +kernel)]; kernel_rfl) | (rw [if_neg (by decide +kernel)]; exact ⟨rfl, rfl⟩))
    (fun os started H enc _ => atr_lifted os started H enc)

end Go.Proofs.YtkbdmcimgepakaaGreat
