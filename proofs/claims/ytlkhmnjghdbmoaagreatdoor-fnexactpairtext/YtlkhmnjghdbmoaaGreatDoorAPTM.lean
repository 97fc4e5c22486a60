/- What is proved here: for every pair the law on PairText returns true, and the pair reads as it did. The three tables of the library that the row lists lie as the text of the program lays them. No other condition. -/
import Derived.Test.YtlkhmnjghdbmoaaGreatDoorTQb
import Derived.Test.YtlkhmnjghdbmoaaGreatDoorTQ8
import Derived.Test.YtlkhmnjghdbmoaaGreatDoorTQ9
import Derived.Test.YtlkhmnjghdbmoaaGreatDoorTie
import Derived.Test.YtlkhmnjghdbmoaaGreatDoorCards
import Derived.Deep.RegionHeld3
import Derived.LaidMore
import Derived.Lay
import Derived.LaidSub
import Derived.Lib.LaidTab
import Derived.SevenTiedAt
import Derived.Stop.Joined
namespace Go.Proofs.YtlkhmnjghdbmoaaGreatDoor
open Go.ChangeShapes Go.WideShapes Go.ChangeAt Go.RowKit Go.Sort Go.Deep
set_option linter.unusedVariables false
set_option linter.unusedSimpArgs false
set_option maxRecDepth 100000

theorem eqTx_any (c : Int) (s : ByteArray) (w : World) : Calls Tryz.prog 8 #[.agg #[.int .i64 c, .string s], .agg #[.int .i64 c, .string s]] w fun e w' => e = .returned (.bool true) ∧ New w w' := by
  have hx : (c != c) = false := by simp
  go_enter Tryz.func8, Tryz.ntmps8
  go_wp2
  go_ret
  exact ⟨rfl, ((New.refl _).alloc _).alloc _⟩

theorem PEq.lens {LN VN : List NdV} {LW VW : List WiV} {LM VM : List MlV} {LS VS : List EkV} (h : PEq LN VN LW VW LM VM LS VS) {nN nW nM nS : Nat} (a : LN.length = nN) (b : LW.length = nW) (c : LM.length = nM) (d : LS.length = nS) : VN.length = nN ∧ VW.length = nW ∧ VM.length = nM ∧ VS.length = nS := by
  have h1 := congrArg List.length h.nd
  have h2 := congrArg List.length h.wi
  have h3 := congrArg List.length h.mq
  have h4 := congrArg List.length h.se
  simp at h1 h2 h3 h4
  exact ⟨by omega, by omega, by omega, by omega⟩
theorem PEq.both {LN VN UN : List NdV} {LW VW UW : List WiV} {LM VM UM : List MlV} {LS VS US : List EkV} (h : PEq LN VN LW VW LM VM LS VS) (k : PEq LN UN LW UW LM UM LS US) : PEq VN UN VW UW VM UM VS US :=
  ⟨k.nd.trans h.nd.symm, k.wi.trans h.wi.symm, k.mq.trans h.mq.symm, k.se.trans h.se.symm⟩

/-- The text is that of the lists that are read alike. -/
theorem ndT_r {v u : NdV} (h : v.r = u.r) : ndT v = ndT u := by
  obtain ⟨id, up, ro, ep, su, ma, ot, co, A, c, V⟩ := v
  obtain ⟨id', up', ro', ep', su', ma', ot', co', A', c', V'⟩ := u
  simp only [NdV.r, Prod.mk.injEq] at h
  obtain ⟨rfl, rfl, rfl, rfl, rfl, rfl, rfl, rfl, h9⟩ := h
  have h10 := congrArg List.length h9
  rw [List.length_map, List.length_map] at h10
  simp only [ndT, h10]
theorem wiT_r {k : Nat} {v u : WiV} (h : v.r = u.r) : wiT k v = wiT k u := by
  obtain ⟨E, T, a, b, c, d, xs, ys⟩ := v
  obtain ⟨E', T', a', b', c', d', xs', ys'⟩ := u
  simp only [WiV.r, Prod.mk.injEq] at h
  obtain ⟨rfl, rfl, rfl, rfl⟩ := h
  rfl
theorem mapR {α β γ : Type} {f : α → β} {g : α → γ} (hg : ∀ a b, f a = f b → g a = g b) : ∀ {L M : List α}, L.map f = M.map f → L.map g = M.map g
  | [], [], _ => rfl
  | [], _ :: _, h => by simp at h
  | _ :: _, [], h => by simp at h
  | a :: L, b :: M, h => by
      simp only [List.map_cons, List.cons.injEq] at h ⊢
      exact ⟨hg a b h.1, mapR hg h.2⟩
theorem ptF_eq (v : Int) (m s : Nat) {LN VN : List NdV} {LW VW : List WiV} (h1 : VN.map NdV.r = LN.map NdV.r) (h2 : VW.map WiV.r = LW.map WiV.r) : ptF v VN VW m s = ptF v LN LW m s := by
  have e1 : VN.map ndT = LN.map ndT := mapR (fun _ _ => ndT_r) h1
  have e2 : VW.mapIdx wiT = LW.mapIdx wiT := by
    apply List.ext_getElem?
    intro i
    have h3 := congrArg (fun L => L[i]?) h2
    simp only [List.getElem?_map] at h3
    rw [List.getElem?_mapIdx, List.getElem?_mapIdx]
    cases hx : VW[i]? <;> cases hy : LW[i]? <;> simp [hx, hy] at h3 ⊢
    exact wiT_r h3
  unfold ptF txF
  rw [e1, e2]

set_option maxHeartbeats 6400000 in
theorem apt_walk (sa si ho nx : Int) (a1 a2 aN aW aM aS : Option Addr) (n1 c1 n2 c2 nN cN nW cW nM cM nS cS : Nat) (r1 r2 : List Ru) (LN : List NdV) (LW : List WiV) (LM : List MlV) (LS : List EkV) (w : World) (h : PCame w a1 a2 aN aW aM aS n1 n2 nN nW nM nS r1 r2 LN LW LM LS) (ht : Tab w) :
    Calls Tryz.prog 3 #[.agg #[.int .i64 sa, .int .i64 si, .int .i64 ho, .int .i64 nx, .slice a1 n1 c1, .slice a2 n2 c2, .slice aN nN cN, .slice aW nW cW, .slice aM nM cM, .slice aS nS cS]] w fun e w' => e = .returned (.bool true) ∧ New w w' := by
  have HF : Hid (∃ v, pF sa si ho nx r1 r2 (LN.map NdV.r) (LW.map WiV.r) (LM.map MlV.r) (LS.map EkV.r) = v) := ⟨_, rfl⟩
  have hw := (New.refl w).alloc (.cells #[.int .i64 sa, .int .i64 si, .int .i64 ho, .int .i64 nx, .slice a1 n1 c1, .slice a2 n2 c2, .slice aN nN cN, .slice aW nW cW, .slice aM nM cM, .slice aS nS cS] 32)
  have bA := Blk.mk w w.heap.size 32 #[.int .i64 sa, .int .i64 si, .int .i64 ho, .int .i64 nx, .slice a1 n1 c1, .slice a2 n2 c2, .slice aN nN cN, .slice aW nW cW, .slice aM nM cM, .slice aS nS cS] rfl
  go_enter Tryz.func3, Tryz.ntmps3
  go_wp2_with fail
  refine (szPair_any sa si ho nx a1 a2 aN aW aM aS n1 c1 n2 c2 nN cN nW cW nM cM nS cS r1 r2 LN LW LM LS _ (h.new hw)).mono ?_
  rintro e w1 ⟨⟨z, rfl, hz⟩, hn1⟩
  have hw1 := hw.trans hn1
  have bA1 := bA.new hn1
  clear hw bA hn1
  by_cases hz0 : z < 0
  · go_wp2
    go_ret
    exact ⟨rfl, hw1⟩
  have hs : PSm n1 n2 LN LW LM LS := by rcases hz with hz | hz; (exfalso; omega); exact hz.2
  have hB : Hid (nN ≤ 1048576 ∧ nW ≤ 1048576 ∧ nM ≤ 1048576 ∧ nS ≤ 1048576) := by
    have k1 := totNd_len LN; have k2 := totWi_len LW; have k3 := totMq_len LM; have k4 := totK_len LS
    have := hs.mN; have := hs.mW; have := hs.mM; have := hs.mS; have := h.lN; have := h.lW; have := h.lM; have := h.lS
    exact ⟨by omega, by omega, by omega, by omega⟩
  clear hz
  have cA := bA1.cells
  go_wp2_with fail
  refine (toPair_any sa si ho nx a1 a2 aN aW aM aS n1 c1 n2 c2 nN cN nW cW nM cM nS cS r1 r2 LN LW LM LS _ (h.new hw1) hs).mono ?_
  rintro e w2 ⟨g1a, g2a, gNa, gWa, gMa, gSa, VNa, VWa, VMa, VSa, rfl, pea, paa, hna⟩
  have bA2 := bA1.new hna
  have hw2 := hw1.trans hna
  have pla := pea.lens h.lN h.lW h.lM h.lS
  have PAa := paa
  clear cA bA1 paa
  go_wp2_with fail
  refine (specPT sa si ho nx _ _ _ _ _ _ n1 n1 n2 n2 nN nN nW nW nM nM nS nS r1 r2 VNa VWa VMa VSa _ PAa h.l1 h.l2 (pla).1 (pla).2.1 (pla).2.2.1 (pla).2.2.2 hs.m1 hs.m2 hB.out.1 hB.out.2.1 hB.out.2.2.1 hB.out.2.2.2 (pF sa si ho nx r1 r2 (LN.map NdV.r) (LW.map WiV.r) (LM.map MlV.r) (LS.map EkV.r)) (by rw [pea.nd, pea.wi, pea.mq, pea.se])).mono ?_
  rintro e w3' ⟨rfl, hn3'⟩
  rw [ptF_eq _ nM nS pea.nd pea.wi]
  obtain ⟨q, HQ⟩ := hex (pF sa si ho nx r1 r2 (LN.map NdV.r) (LW.map WiV.r) (LM.map MlV.r) (LS.map EkV.r))
  obtain ⟨Z, HZ⟩ := hex (sB (ptF (pF sa si ho nx r1 r2 (LN.map NdV.r) (LW.map WiV.r) (LM.map MlV.r) (LS.map EkV.r)) LN LW nM nS))
  rw [HZ.out, HQ.out]
  have hal3 := (New.refl w3').alloc (.cells #[.int .i64 q, .string Z] 35)
  have b3 := Blk.mk w3' w3'.heap.size 35 #[.int .i64 q, .string Z] rfl
  have hn3 := hn3'.trans hal3
  have bA3 := bA2.new hn3
  have hw3 := hw2.trans hn3
  have cA := bA3.cells
  clear bA2 hna hn3 hn3' PAa
  go_wp2_with fail
  generalize w3'.alloc (.cells #[.int .i64 q, .string Z] 35) = w3 at *
  refine (toPair_any sa si ho nx a1 a2 aN aW aM aS n1 c1 n2 c2 nN cN nW cW nM cM nS cS r1 r2 LN LW LM LS _ (h.new hw3) hs).mono ?_
  rintro e w4 ⟨g1b, g2b, gNb, gWb, gMb, gSb, VNb, VWb, VMb, VSb, rfl, peb, pab, hnb⟩
  have al4 := (New.refl w4).alloc (.cells #[.int .i64 sa, .int .i64 si, .int .i64 ho, .int .i64 nx, .slice (some ⟨g1b, 0, none⟩) n1 n1, .slice (some ⟨g2b, 0, none⟩) n2 n2, .slice (some ⟨gNb, 0, none⟩) nN nN, .slice (some ⟨gWb, 0, none⟩) nW nW, .slice (some ⟨gMb, 0, none⟩) nM nM, .slice (some ⟨gSb, 0, none⟩) nS nS] 46)
  have bA4 := (bA3.new hnb).new al4
  have b34 := (b3.new hnb).new al4
  have b4 := Blk.mk w4 w4.heap.size 46 #[.int .i64 sa, .int .i64 si, .int .i64 ho, .int .i64 nx, .slice (some ⟨g1b, 0, none⟩) n1 n1, .slice (some ⟨g2b, 0, none⟩) n2 n2, .slice (some ⟨gNb, 0, none⟩) nN nN, .slice (some ⟨gWb, 0, none⟩) nW nW, .slice (some ⟨gMb, 0, none⟩) nM nM, .slice (some ⟨gSb, 0, none⟩) nS nS] rfl
  have PAb := pab.new al4
  have hw4 := (hw3.trans hnb).trans al4
  have plb := peb.lens h.lN h.lW h.lM h.lS
  have cB := b4.cells
  clear cA bA3 hnb pab
  go_wp2_with fail
  refine (implPT sa si ho nx _ _ _ _ _ _ n1 n1 n2 n2 nN nN nW nW nM nM nS nS r1 r2 VNb VWb VMb VSb _ PAb h.l1 h.l2 (plb).1 (plb).2.1 (plb).2.2.1 (plb).2.2.2 hs.m1 hs.m2 hB.out.1 hB.out.2.1 hB.out.2.2.1 hB.out.2.2.2 (pF sa si ho nx r1 r2 (LN.map NdV.r) (LW.map WiV.r) (LM.map MlV.r) (LS.map EkV.r)) (by rw [peb.nd, peb.wi, peb.mq, peb.se]) (ht.new hw4)).mono ?_
  rintro e w5' ⟨rfl, hn5'⟩
  rw [ptF_eq _ nM nS peb.nd peb.wi, HZ.out, HQ.out]
  have hal5 := (New.refl w5').alloc (.cells #[.int .i64 q, .string Z] 35)
  have hn5 := hn5'.trans hal5
  have bA5 := bA4.new hn5
  have b35 := b34.new hn5
  have b45 := b4.new hn5
  have PA5 := PAb.new hn5
  have hw5 := hw4.trans hn5
  have c3 := b35.cells
  clear bA4 b34 b4 cB hn5 hn5' al4 PAb hal5 hal3
  go_wp2_with fail
  refine (eqTx_any _ _ _).mono ?_
  rintro e w6 ⟨rfl, hn6⟩
  have bA6 := bA5.new hn6
  have b46 := b45.new hn6
  have PA6 := PA5.new hn6
  have hw6 := hw5.trans hn6
  clear bA5 b35 b45 c3 hn6 PA5
  have cA := bA6.cells
  have cB := b46.cells
  go_wp2_with fail
  go_region_held3 (fun W => (∀ j, W.cell? ⟨w.heap.size, j, none⟩ = (#[.int .i64 sa, .int .i64 si, .int .i64 ho, .int .i64 nx, .slice a1 n1 c1, .slice a2 n2 c2, .slice aN nN cN, .slice aW nW cW, .slice aM nM cM, .slice aS nS cS] : Array Value)[j]?) ∧ (∀ j, W.cell? ⟨w4.heap.size, j, none⟩ = (#[.int .i64 sa, .int .i64 si, .int .i64 ho, .int .i64 nx, .slice (some ⟨g1b, 0, none⟩) n1 n1, .slice (some ⟨g2b, 0, none⟩) n2 n2, .slice (some ⟨gNb, 0, none⟩) nN nN, .slice (some ⟨gWb, 0, none⟩) nW nW, .slice (some ⟨gMb, 0, none⟩) nM nM, .slice (some ⟨gSb, 0, none⟩) nS nS] : Array Value)[j]?)) (first | exact ⟨cA, cB⟩ | exact ⟨cA7, cB7⟩ | exact ⟨cA8, cB8⟩)
    (first
      | (go_at_call 6; refine (toPair_any sa si ho nx a1 a2 aN aW aM aS n1 c1 n2 c2 nN cN nW cW nM cM nS cS r1 r2 LN LW LM LS _ ?_ hs).mono ?_; exact (h.new hw6).new ((New.refl _).drew); rintro e w7 ⟨g1c, g2c, gNc, gWc, gMc, gSc, VNc, VWc, VMc, VSc, rfl, pec, pac, hnc⟩; have n7 : New w6 w7 := ((New.refl _).drew).trans hnc; have cA7 := (bA6.new n7).cells; have cB7 := (b46.new n7).cells)
      | (go_at_call 9; refine (eqPair_any sa si ho nx _ _ _ _ _ _ _ _ _ _ _ _ n1 n1 n2 n2 nN nN nW nW nM nM nS nS n1 n2 nN nW nM nS r1 r2 VNb VNc VWb VWc VMb VMc VSb VSc _ (PA6.new n7) pac (peb.both pec) h.l1 h.l2 hs.m1 hs.m2 plb.1 plb.2.1 plb.2.2.1 plb.2.2.2 hB.out.1 hB.out.2.1 hB.out.2.2.1 hB.out.2.2.2).mono ?_; rintro e w8 ⟨rfl, hn8⟩; have n8 := n7.trans hn8; have cA8 := (bA6.new n8).cells; have cB8 := (b46.new n8).cells))
  go_wp2
  go_ret
  exact ⟨rfl, hw6.trans n8⟩

theorem laid_tab : (Rows.laid_internal_strconv_uint64pow10 : DataW Unit) = Lib.tabData .u64 Lib.pow10Tab := by kernel_rfl

theorem tab_of_laid {W : World} (h : laidMetH Tryz.prog Rows.fnExactPairTextRow.laid W) : Tab W := by
  rw [MakeChecks.laidMetH_plain _ _ _ (by kernel_rfl)] at h
  have h2 : laidMet Tryz.prog [("internal/strconv.uint64pow10", Rows.laid_internal_strconv_uint64pow10)] W := h.filter (fun x => x.1 == "internal/strconv.uint64pow10")
  rw [laid_tab] at h2
  exact Lib.tabIs_of_head Tryz.gPow (by kernel_rfl) Tryz.underlying181 Tryz.underlying172 (by kernel_rfl) (by kernel_rfl) h2

set_option maxRecDepth 100000 in
theorem apt_lifted (os : Os) (started : os.Started) (H : Type) (enc : TypeId × Value → H) :
    ReturnsInHanded {} Tryz.checked os 3 .any (fun w args => (Rows.fnExactPairTextSpec.pre enc Tryz.prog Tryz.f3 Rows.fnExactPairTextRow.domain false w args ∧ laidMetH Tryz.prog Rows.fnExactPairTextRow.laid w) ∧ sizedMet enc Tryz.prog Tryz.f3 (OpenSpec.ofChange Rows.fnExactPairTextSpec) false w args)
      (Rows.fnExactPairTextSpec.post enc Tryz.prog Tryz.f3 false true false false) := by
  refine returnsInHanded_of_change_and (C := Tryz.checked) (X := fun w _ => laidMetH Tryz.prog Rows.fnExactPairTextRow.laid w) (fun _ _ _ hh h => h.of_heap hh) own started (by kernel_rfl) Tryz.func3
    (ChangeSpec.witness_shaped (enc := enc) (C := Tryz.checked) (os := os) (X := fun w _ => laidMetH Tryz.prog Rows.fnExactPairTextRow.laid w) false (World.laidAll Tryz.prog os Rows.fnExactPairTextRow.laid) #[.agg #[.int .i64 0, .int .i64 0, .int .i64 0, .int .i64 0, .slice none 0 0, .slice none 0 0, .slice none 0 0, .slice none 0 0, .slice none 0 0, .slice none 0 0]] 8 (World.laidAll_os _ _ _)
      (World.shaped_of_ZipB (by kernel_rfl) (by kernel_rfl)) (by kernel_rfl) (by kernel_rfl) (by kernel_rfl)
      (by rw [MakeChecks.laidMetH_plain _ _ _ (by kernel_rfl)]; exact laidMet_laidAll _ (by kernel_rfl) (by kernel_rfl))) ?_
  intro W base args ds gs before hval0 hW hcnd _ hL _
  have hval : ∀ (j : Nat) t v, Tryz.f3.params[j]? = some t → args[j]? = some v → Value.okWide Tryz.prog W .any base t v := hval0
  have hW' := hW
  obtain ⟨p, q, hA0, hV, rfl, hfz, hnd⟩ := hW
  have hA : DataW.TrodAll enc Tryz.prog W 0 (fun _ => true) true Tryz.f3.params.toList args.toList ds p := hA0
  rw [Tryz.params3] at hA hval
  obtain ⟨v0, vs0, d0, ds0, p0, q0, hargs, rfl, rfl, h0, r0⟩ := trodAll_cons hA
  obtain ⟨rfl, rfl, rfl⟩ := trodAll_nil r0
  obtain rfl : args = #[v0] := by cases args; simp_all
  obtain ⟨rfl, rfl⟩ := trodVars_none hV
  have k0 := h0
  have lt0 : ∀ x ∈ p0, x.block < W.heap.size := by obtain ⟨m, hm⟩ := k0; exact DataW.trod_lt m _ _ _ hm
  obtain ⟨sa, si, ho, nx, a1, a2, aN, aW, aM, aS, n1, c1, n2, c2, nN, cN, nW, cW, nM, cM, nS, cS, r1, r2, LN, LW, LM, LS, rfl, hP⟩ := open_pair (hval 0 32 v0 rfl rfl) h0
  clear hA0 hval0
  refine (apt_walk sa si ho nx a1 a2 aN aW aM aS n1 c1 n2 c2 nN cN nW cW nM cM nS cS r1 r2 LN LW LM LS W hP (tab_of_laid hL)).mono fun e W' ⟨he, new⟩ => ?_
  have bel := new.below
  subst he
  exact ⟨_, rfl, _, _, _, [], _, [], hW', trodAll_mk1 (shut_bool Tryz.underlying4 _), (trodAll_cons_mk (Below.trod laidOut (by kernel_rfl) (of_decide_eq_true (by kernel_rfl)) k0 bel lt0) trodAll_mk0), rfl, bel.frame _, fun h => by cases h⟩

theorem apt_row : Rows.FnExactPairTextSaid :=
  OpenClaim.holds_of_wide 3 Tryz.f3 rfl rfl rfl rfl rfl rfl rfl ⟨rfl, rfl, rfl, rfl, rfl⟩ rfl rfl rfl rfl rfl (by kernel_rfl) Tryz.func3 (by kernel_rfl)
    (of_decide_eq_true (by kernel_rfl)) (by unfold Func.isWrapper; first | (rw [if_pos (by decide +kernel)]; kernel_rfl) | (rw [if_neg (by decide +kernel)]; exact ⟨rfl, rfl⟩))
    (fun os started H enc _ => apt_lifted os started H enc)

theorem apt_holds : Rows.FnExactPairTextCardSaid :=
  Claim7.holds_tied_plain_at .later [] [.data, .data, .data] true (true, Rows.fnExactPairTextCard.stood.harness.2) false
    apt_row (fun _ h => by cases h) (by kernel_rfl) (fun _ h => by cases h) fnExactPairText_row_tie rfl ⟨rfl, rfl⟩ (by kernel_rfl) rfl
    (fun f fn hf hfn => by
      obtain rfl : f = 3 := Option.some.inj ((show Tryz.prog.funcNamed Rows.fnExactPairTextRow.func = some 3 by kernel_rfl).symm.trans hf) |>.symm
      obtain rfl : fn = Tryz.f3 := (Option.some.inj (Tryz.func3.symm.trans hfn)).symm
      exact ⟨by kernel_rfl, fun j t ht => by
        rw [Tryz.params3] at ht
        have h3 : t = 32 := by
          rcases j with _ | j
          · simpa using ht.symm
          · simp at ht
        subst h3
        exact (show Tryz.prog.wantsStandIn 32 = false by kernel_rfl)⟩)
    (by kernel_rfl)

end Go.Proofs.YtlkhmnjghdbmoaaGreatDoor
