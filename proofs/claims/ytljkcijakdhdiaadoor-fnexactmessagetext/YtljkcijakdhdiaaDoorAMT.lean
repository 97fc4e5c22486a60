/- What is proved here: for every message the law on MessageText returns true, and the message reads as it did. The three tables of the library that the row lists lie as the program's text lays them (the card ties them to it). -/
import Derived.Test.YtljkcijakdhdiaaDoorMsOpen
import Derived.Test.YtljkcijakdhdiaaDoorMsLaw
import Derived.Test.YtljkcijakdhdiaaDoorMtIm
import Derived.Test.YtljkcijakdhdiaaDoorTie
import Derived.Test.YtljkcijakdhdiaaDoorCards
import Derived.Deep.RegionHeld3
import Derived.LaidMore
import Derived.Lay
import Derived.LaidSub
import Derived.Lib.LaidTab
import Derived.SevenTiedAt
import Derived.Stop.Joined
namespace Go.Proofs.YtljkcijakdhdiaaDoor
open Go.ChangeShapes Go.WideShapes Go.ChangeAt Go.RowKit Go.Sort
set_option linter.unusedVariables false
set_option maxRecDepth 100000

theorem eqTx_any (c : Int) (s : ByteArray) (w : World) : Calls Tryd.prog 8 #[.agg #[.int .i64 c, .string s], .agg #[.int .i64 c, .string s]] w fun e w' => e = .returned (.bool true) ∧ New w w' := by
  have hx : (c != c) = false := by simp
  go_enter Tryd.func8, Tryd.ntmps8
  go_wp2
  go_ret
  exact ⟨rfl, ((New.refl _).alloc _).alloc _⟩

set_option maxHeartbeats 6400000 in
theorem amt_walk (ga a ra : Option Addr) (gn gc n c rn rc : Nat) (has : Bool) (o nx md lc : Int) (gs rs : List (Int × Int)) (xs : List Int) (kd sa ho si wh su : Int) (w : World) (hg : PsAt w ga gs) (hx : NsAt w a xs) (hr : PsAt w ra rs) (hgn : gs.length = gn) (hn : xs.length = n) (hrn : rs.length = rn) (hm1 : gn ≤ maxLen) (hm2 : n ≤ maxLen) (hm3 : rn ≤ maxLen) (ht : Tab w) :
    Calls Tryd.prog 3 #[.agg #[.int .i64 kd, .int .i64 sa, .int .i64 ho, .int .i64 si, .int .i64 wh, .int .i64 su, .slice ga gn gc, .bool has, .int .i64 o, .slice a n c, .int .i64 nx, .int .i64 md, .int .i64 lc, .slice ra rn rc]] w fun e w' => e = .returned (.bool true) ∧ New w w' := by
  have hw := (New.refl w).alloc (.cells #[.int .i64 kd, .int .i64 sa, .int .i64 ho, .int .i64 si, .int .i64 wh, .int .i64 su, .slice ga gn gc, .bool has, .int .i64 o, .slice a n c, .int .i64 nx, .int .i64 md, .int .i64 lc, .slice ra rn rc] 29)
  by_cases hbig : 1048576 < gn + n + rn
  · go_enter Tryd.func3, Tryd.ntmps3
    go_wp2_with fail
    refine (szMs_big ga a ra gn gc n c rn rc has o nx md lc kd sa ho si wh su _ hbig hm1 hm2 hm3).mono ?_
    rintro e w1 ⟨rfl, hn1⟩
    go_wp2
    go_ret
    exact ⟨rfl, hw.trans hn1⟩
  · have k1 : gn ≤ 1048576 := by omega
    have k2 : n ≤ 1048576 := by omega
    have k3 : rn ≤ 1048576 := by omega
    have bg : Hid (∀ p ∈ gs, In6 p.1 ∧ In6 p.2) := hg.bd
    have bx : Hid (∀ z ∈ xs, In6 z) := hx.bd
    have br : Hid (∀ p ∈ rs, In6 p.1 ∧ In6 p.2) := hr.bd
    have HG : Hid (gs.length = gn) := hgn
    have HX : Hid (xs.length = n) := hn
    have HR : Hid (rs.length = rn) := hrn
    have hle : gn + n + rn ≤ 1048576 := by omega
    clear hm1 hm2 hm3 hgn hn hrn hbig
    obtain ⟨q, hq⟩ : ∃ q, (mt kd sa ho si wh su gs has o xs nx md lc rs).1 = q := ⟨_, rfl⟩
    obtain ⟨Z, hZ⟩ : ∃ Z : ByteArray, (⟨(mt kd sa ho si wh su gs has o xs nx md lc rs).2.toArray⟩ : ByteArray) = Z := ⟨_, rfl⟩
    have HQ : Hid ((mt kd sa ho si wh su gs has o xs nx md lc rs).1 = q) := hq
    have HZ : Hid ((⟨(mt kd sa ho si wh su gs has o xs nx md lc rs).2.toArray⟩ : ByteArray) = Z) := hZ
    clear hq hZ
    have bA := Blk.mk w w.heap.size 29 #[.int .i64 kd, .int .i64 sa, .int .i64 ho, .int .i64 si, .int .i64 wh, .int .i64 su, .slice ga gn gc, .bool has, .int .i64 o, .slice a n c, .int .i64 nx, .int .i64 md, .int .i64 lc, .slice ra rn rc] rfl
    go_enter Tryd.func3, Tryd.ntmps3
    go_wp2_with fail
    refine (szMs_ok ga a ra gn gc n c rn rc has o nx md lc kd sa ho si wh su _ hle).mono ?_
    rintro e w1 ⟨rfl, hn1⟩
    generalize 1048576 - gn - n - rn = left at *
    have bA1 := bA.new hn1
    have cA := bA1.cells
    have hw1 := hw.trans hn1
    clear bA hn1 hw
    go_wp2_with fail
    refine (toMs_any ga a ra gn gc n c rn rc has o nx md lc gs rs xs kd sa ho si wh su _ (hg.new hw1) (hx.new hw1) (hr.new hw1) HG.out HX.out HR.out k1 k2 k3).mono ?_
    rintro e w2 ⟨p2, q2, r2, rfl, -, -, -, op2, oq2, or2, hn2⟩
    have bA2 := bA1.new hn2
    have hw2 := hw1.trans hn2
    clear cA bA1 hn2
    go_wp2_with fail
    refine (specMT _ _ _ gn gn n n rn rn has o nx md lc gs rs xs kd sa ho si wh su _ (op2.ps bg.out) (oq2.ns bx.out) (or2.ps br.out) HG.out HX.out HR.out k1 k2 k3).mono ?_
    rintro e w3 ⟨rfl, hn3⟩
    rw [HQ.out, HZ.out]
    have hal3 := (New.refl w3).alloc (.cells #[.int .i64 q, .string Z] 32)
    have bA3 := (bA2.new hn3).new hal3
    have b3 := Blk.mk w3 w3.heap.size 32 #[.int .i64 q, .string Z] rfl
    have hw3 := (hw2.trans hn3).trans hal3
    have cA := bA3.cells
    clear bA2 hn3 op2 oq2 or2
    go_wp2_with fail
    refine (toMs_any ga a ra gn gc n c rn rc has o nx md lc gs rs xs kd sa ho si wh su _ (hg.new hw3) (hx.new hw3) (hr.new hw3) HG.out HX.out HR.out k1 k2 k3).mono ?_
    rintro e w4 ⟨p4, q4, r4, rfl, -, -, -, op4, oq4, or4, hn4⟩
    have hal4 := (New.refl w4).alloc (.cells #[.int .i64 kd, .int .i64 sa, .int .i64 ho, .int .i64 si, .int .i64 wh, .int .i64 su, .slice (some ⟨p4, 0, none⟩) gn gn, .bool has, .int .i64 o, .slice (some ⟨q4, 0, none⟩) n n, .int .i64 nx, .int .i64 md, .int .i64 lc, .slice (some ⟨r4, 0, none⟩) rn rn] 39)
    have bA4 := (bA3.new hn4).new hal4
    have b34 := (b3.new hn4).new hal4
    have b4 := Blk.mk w4 w4.heap.size 39 #[.int .i64 kd, .int .i64 sa, .int .i64 ho, .int .i64 si, .int .i64 wh, .int .i64 su, .slice (some ⟨p4, 0, none⟩) gn gn, .bool has, .int .i64 o, .slice (some ⟨q4, 0, none⟩) n n, .int .i64 nx, .int .i64 md, .int .i64 lc, .slice (some ⟨r4, 0, none⟩) rn rn] rfl
    have hw4 := (hw3.trans hn4).trans hal4
    have ip4 := op4.new hal4
    have iq4 := oq4.new hal4
    have ir4 := or4.new hal4
    have cB := b4.cells
    clear bA3 b3 cA hn4 op4 oq4 or4 hal3
    go_wp2_with fail
    refine (implMT _ _ _ gn gn n n rn rn has o nx md lc gs rs xs kd sa ho si wh su _ (ip4.ps bg.out) (iq4.ns bx.out) (ir4.ps br.out) HG.out HX.out HR.out k1 k2 k3 (ht.new hw4)).mono ?_
    rintro e w5 ⟨rfl, hn5⟩
    rw [HQ.out, HZ.out]
    have hal5 := (New.refl w5).alloc (.cells #[.int .i64 q, .string Z] 32)
    have hnn := hn5.trans hal5
    have bA5 := bA4.new hnn
    have b35 := b34.new hnn
    have b45 := b4.new hnn
    have hw5 := hw4.trans hnn
    have ip5 := ip4.new hnn
    have iq5 := iq4.new hnn
    have ir5 := ir4.new hnn
    have c3 := b35.cells
    clear bA4 b34 b4 cB hn5 ip4 iq4 ir4 hnn hal4 hal5
    go_wp2_with fail
    refine (eqTx_any _ _ _).mono ?_
    rintro e w6 ⟨rfl, hn6⟩
    have bA6 := bA5.new hn6
    have b46 := b45.new hn6
    have hw6 := hw5.trans hn6
    have ip6 := ip5.new hn6
    have iq6 := iq5.new hn6
    have ir6 := ir5.new hn6
    clear bA5 b35 b45 c3 hn6 ip5 iq5 ir5
    have cA := bA6.cells
    have cB := b46.cells
    go_wp2_with fail
    go_region_held3 (fun W => (∀ j, W.cell? ⟨w.heap.size, j, none⟩ = #[Value.int .i64 kd, .int .i64 sa, .int .i64 ho, .int .i64 si, .int .i64 wh, .int .i64 su, .slice ga gn gc, .bool has, .int .i64 o, .slice a n c, .int .i64 nx, .int .i64 md, .int .i64 lc, .slice ra rn rc][j]?) ∧ (∀ j, W.cell? ⟨w4.heap.size, j, none⟩ = #[Value.int .i64 kd, .int .i64 sa, .int .i64 ho, .int .i64 si, .int .i64 wh, .int .i64 su, .slice (some ⟨p4, 0, none⟩) gn gn, .bool has, .int .i64 o, .slice (some ⟨q4, 0, none⟩) n n, .int .i64 nx, .int .i64 md, .int .i64 lc, .slice (some ⟨r4, 0, none⟩) rn rn][j]?)) (first | exact ⟨cA, cB⟩ | exact ⟨cA7, cB7⟩ | exact ⟨cA8, cB8⟩)
      (first
        | (go_at_call 6; refine (toMs_any ga a ra gn gc n c rn rc has o nx md lc gs rs xs kd sa ho si wh su _ ?_ ?_ ?_ HG.out HX.out HR.out k1 k2 k3).mono ?_; exact (hg.new hw6).new ((New.refl _).drew); exact (hx.new hw6).new ((New.refl _).drew); exact (hr.new hw6).new ((New.refl _).drew); rintro e w7 ⟨p7, q7, r7, rfl, -, -, -, op7, oq7, or7, hn7⟩; have cA7 := (bA6.new (((New.refl _).drew).trans hn7)).cells; have cB7 := (b46.new (((New.refl _).drew).trans hn7)).cells)
        | (go_at_call 9; refine (eqMs_any _ _ _ _ _ _ gn gn n n rn rn gn n rn has o nx md lc gs rs xs kd sa ho si wh su _ ?_ ?_ ?_ ?_ ?_ ?_ HG.out HX.out HR.out k1 k2 k3).mono ?_; exact (ip6.ps bg.out).new (((New.refl _).drew).trans hn7); exact (iq6.ns bx.out).new (((New.refl _).drew).trans hn7); exact (ir6.ps br.out).new (((New.refl _).drew).trans hn7); exact op7.ps bg.out; exact oq7.ns bx.out; exact or7.ps br.out; rintro e w8 ⟨rfl, hn8⟩; have cA8 := (bA6.new ((((New.refl _).drew).trans hn7).trans hn8)).cells; have cB8 := (b46.new ((((New.refl _).drew).trans hn7).trans hn8)).cells))
    have hn68 : New w6 w8 := (((New.refl _).drew).trans hn7).trans hn8
    go_wp2
    go_ret
    exact ⟨rfl, hw6.trans hn68⟩

theorem laid_tab : (Rows.laid_internal_strconv_uint64pow10 : DataW Unit) = Lib.tabData .u64 Lib.pow10Tab := by kernel_rfl

theorem tab_of_laid {W : World} (h : laidMetH Tryd.prog Rows.fnExactMessageTextRow.laid W) : Tab W := by
  rw [MakeChecks.laidMetH_plain _ _ _ (by kernel_rfl)] at h
  have h2 : laidMet Tryd.prog [("internal/strconv.uint64pow10", Rows.laid_internal_strconv_uint64pow10)] W := h.filter (fun x => x.1 == "internal/strconv.uint64pow10")
  rw [laid_tab] at h2
  exact Lib.tabIs_of_head Tryd.gPow (by kernel_rfl) Tryd.underlying125 Tryd.underlying117 (by kernel_rfl) (by kernel_rfl) h2

set_option maxRecDepth 100000 in
theorem amt_lifted (os : Os) (started : os.Started) (H : Type) (enc : TypeId × Value → H) :
    ReturnsInHanded {} Tryd.checked os 3 .any (fun w args => (Rows.fnExactMessageTextSpec.pre enc Tryd.prog Tryd.f3 Rows.fnExactMessageTextRow.domain false w args ∧ laidMetH Tryd.prog Rows.fnExactMessageTextRow.laid w) ∧ sizedMet enc Tryd.prog Tryd.f3 (OpenSpec.ofChange Rows.fnExactMessageTextSpec) false w args)
      (Rows.fnExactMessageTextSpec.post enc Tryd.prog Tryd.f3 false true false false) := by
  refine returnsInHanded_of_change_and (C := Tryd.checked) (X := fun w _ => laidMetH Tryd.prog Rows.fnExactMessageTextRow.laid w) (fun _ _ _ hh h => h.of_heap hh) own started (by kernel_rfl) Tryd.func3
    (ChangeSpec.witness_shaped (enc := enc) (C := Tryd.checked) (os := os) (X := fun w _ => laidMetH Tryd.prog Rows.fnExactMessageTextRow.laid w) false (World.laidAll Tryd.prog os Rows.fnExactMessageTextRow.laid) #[.agg #[.int .i64 0, .int .i64 0, .int .i64 0, .int .i64 0, .int .i64 0, .int .i64 0, .slice none 0 0, .bool false, .int .i64 0, .slice none 0 0, .int .i64 0, .int .i64 0, .int .i64 0, .slice none 0 0]] 8 (World.laidAll_os _ _ _)
      (World.shaped_of_ZipB (by kernel_rfl) (by kernel_rfl)) (by kernel_rfl) (by kernel_rfl) (by kernel_rfl)
      (by rw [MakeChecks.laidMetH_plain _ _ _ (by kernel_rfl)]; exact laidMet_laidAll _ (by kernel_rfl) (by kernel_rfl))) ?_
  intro W base args ds gs before hval0 hW hcnd _ hL _
  have hval : ∀ (j : Nat) t v, Tryd.f3.params[j]? = some t → args[j]? = some v → Value.okWide Tryd.prog W .any base t v := hval0
  have hW' := hW
  obtain ⟨p, q, hA0, hV, rfl, hfz, hnd⟩ := hW
  have hA : DataW.TrodAll enc Tryd.prog W 0 (fun _ => true) true Tryd.f3.params.toList args.toList ds p := hA0
  rw [Tryd.params3] at hA hval
  obtain ⟨v0, vs0, d0, ds0, p0, q0, hargs, rfl, rfl, h0, r0⟩ := trodAll_cons hA
  obtain ⟨rfl, rfl, rfl⟩ := trodAll_nil r0
  obtain rfl : args = #[v0] := by cases args; simp_all
  obtain ⟨rfl, rfl⟩ := trodVars_none hV
  have k0 := h0
  have lt0 : ∀ x ∈ p0, x.block < W.heap.size := by obtain ⟨m, hm⟩ := k0; exact DataW.trod_lt m _ _ _ hm
  obtain ⟨kd0, sa0, ho0, si0, wh0, su0, ga0, gn0, gc0, gs0, has0, o0, nx0, md0, lc0, a0, n0, c0, x0, ra0, rn0, rc0, rs0, rfl, ⟨bg0, eg0, mg0⟩, ⟨bx0, ex0, mx0⟩, ⟨br0, er0, mr0⟩, im0⟩ := open_message (hval 0 29 v0 rfl rfl) h0
  clear hA0 hval0
  refine (amt_walk ga0 a0 ra0 gn0 gc0 n0 c0 rn0 rc0 has0 o0 nx0 md0 lc0 gs0 rs0 x0 kd0 sa0 ho0 si0 wh0 su0 W bg0 bx0 br0 eg0 ex0 er0 mg0 mx0 mr0 (tab_of_laid hL)).mono fun e W' ⟨he, new⟩ => ?_
  have bel := new.below
  subst he
  exact ⟨_, rfl, _, _, _, [], _, [], hW', trodAll_mk1 (shut_bool Tryd.underlying4 _), (trodAll_cons_mk (Below.trod laidOut (by kernel_rfl) (of_decide_eq_true (by kernel_rfl)) k0 bel lt0) trodAll_mk0), rfl, bel.frame _, fun h => by cases h⟩

theorem amt_row : Rows.FnExactMessageTextSaid :=
  OpenClaim.holds_of_wide 3 Tryd.f3 rfl rfl rfl rfl rfl rfl rfl ⟨rfl, rfl, rfl, rfl, rfl⟩ rfl rfl rfl rfl rfl (by kernel_rfl) Tryd.func3 (by kernel_rfl)
    (of_decide_eq_true (by kernel_rfl)) (by unfold Func.isWrapper; first | (rw [if_pos (by decide +kernel)]; kernel_rfl) | (rw [if_neg (by decide +kernel)]; exact ⟨rfl, rfl⟩))
    (fun os started H enc _ => amt_lifted os started H enc)

theorem amt_holds : Rows.FnExactMessageTextCardSaid :=
  Claim7.holds_tied_plain_at .later [] [.data, .data, .data] true (true, Rows.fnExactMessageTextCard.stood.harness.2) true
    amt_row (fun _ h => by cases h) (by kernel_rfl) (fun _ h => by cases h) fnExactMessageText_row_tie rfl ⟨rfl, rfl⟩ (by kernel_rfl) rfl
    (fun f fn hf hfn => by
      obtain rfl : f = 3 := Option.some.inj ((show Tryd.prog.funcNamed Rows.fnExactMessageTextRow.func = some 3 by kernel_rfl).symm.trans hf) |>.symm
      obtain rfl : fn = Tryd.f3 := (Option.some.inj (Tryd.func3.symm.trans hfn)).symm
      exact ⟨by kernel_rfl, fun j t ht => by
        rw [Tryd.params3] at ht
        have h3 : t = 29 := by
          rcases j with _ | j
          · simpa using ht.symm
          · simp at ht
        subst h3
        exact (show Tryd.prog.wantsStandIn 29 = false by kernel_rfl)⟩)
    (by kernel_rfl)

end Go.Proofs.YtljkcijakdhdiaaDoor
