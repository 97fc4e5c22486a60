/- What is proved here: for every message the law on SayText returns true, and the message reads as it did. No condition. -/
import Derived.Test.YtdmcbnmaknpkmaaMsOpen
import Derived.Test.YtdmcbnmaknpkmaaMsLaw
import Derived.Test.YtdmcbnmaknpkmaaMsMk
import Derived.Test.YtdmcbnmaknpkmaaMsSt
import Derived.Deep.RegionHeld3
namespace Go.Proofs.Ytdmcbnmaknpkmaa
open Go.ChangeShapes Go.WideShapes Go.ChangeAt Go.RowKit Go.Sort
set_option linter.unusedVariables false

set_option maxHeartbeats 6400000 in
theorem asat_walk (ga a ra : Option Addr) (gn gc n c rn rc : Nat) (has : Bool) (o nx md lc : Int) (gs rs : List (Int × Int)) (xs : List Int) (kd sa ho si wh su : Int) (w : World) (hg : PsAt w ga gs) (hx : NsAt w a xs) (hr : PsAt w ra rs) (hgn : gs.length = gn) (hn : xs.length = n) (hrn : rs.length = rn) (hm1 : gn ≤ maxLen) (hm2 : n ≤ maxLen) (hm3 : rn ≤ maxLen) :
    Calls Try.prog 3 #[.agg #[.int .i64 kd, .int .i64 sa, .int .i64 ho, .int .i64 si, .int .i64 wh, .int .i64 su, .slice ga gn gc, .bool has, .int .i64 o, .slice a n c, .int .i64 nx, .int .i64 md, .int .i64 lc, .slice ra rn rc]] w fun e w' => e = .returned (.bool true) ∧ New w w' := by
  have hw := (New.refl w).alloc (.cells #[.int .i64 kd, .int .i64 sa, .int .i64 ho, .int .i64 si, .int .i64 wh, .int .i64 su, .slice ga gn gc, .bool has, .int .i64 o, .slice a n c, .int .i64 nx, .int .i64 md, .int .i64 lc, .slice ra rn rc] 29)
  by_cases hbig : 1048576 < gn + n + rn
  · go_enter Try.func3, Try.ntmps3
    go_wp2_with fail
    refine (szMs_big ga a ra gn gc n c rn rc has o nx md lc kd sa ho si wh su _ hbig hm1 hm2 hm3).mono ?_
    rintro e w1 ⟨rfl, hn1⟩
    go_wp2
    go_ret
    exact ⟨rfl, hw.trans hn1⟩
  · have k1 : gn ≤ 1048576 := by omega
    have k2 : n ≤ 1048576 := by omega
    have k3 : rn ≤ 1048576 := by omega
    have bg : Hid (∀ p ∈ gs, In6 p.1 ∧ In6 p.2) := hg.bd
    have bx : Hid (∀ z ∈ xs, In6 z) := hx.bd
    have br : Hid (∀ p ∈ rs, In6 p.1 ∧ In6 p.2) := hr.bd
    have HG : Hid (gs.length = gn) := hgn
    have HX : Hid (xs.length = n) := hn
    have HR : Hid (rs.length = rn) := hrn
    have hle : gn + n + rn ≤ 1048576 := by omega
    clear hm1 hm2 hm3 hgn hn hrn hbig
    have bA := Blk.mk w w.heap.size 29 #[.int .i64 kd, .int .i64 sa, .int .i64 ho, .int .i64 si, .int .i64 wh, .int .i64 su, .slice ga gn gc, .bool has, .int .i64 o, .slice a n c, .int .i64 nx, .int .i64 md, .int .i64 lc, .slice ra rn rc] rfl
    go_enter Try.func3, Try.ntmps3
    go_wp2_with fail
    refine (szMs_ok ga a ra gn gc n c rn rc has o nx md lc kd sa ho si wh su _ hle).mono ?_
    rintro e w1 ⟨rfl, hn1⟩
    generalize 1048576 - gn - n - rn = left at *
    have bA1 := bA.new hn1
    have cA := bA1.cells
    have hw1 := hw.trans hn1
    clear bA hn1 hw
    go_wp2_with fail
    refine (toMs_any ga a ra gn gc n c rn rc has o nx md lc gs rs xs kd sa ho si wh su _ (hg.new hw1) (hx.new hw1) (hr.new hw1) HG.out HX.out HR.out k1 k2 k3).mono ?_
    rintro e w2 ⟨p2, q2, r2, rfl, -, -, -, op2, oq2, or2, hn2⟩
    have bA2 := bA1.new hn2
    have hw2 := hw1.trans hn2
    have lA2 := bA2.lt
    clear cA bA1 hn2
    go_wp2_with fail
    refine (specSaT _ _ _ gn gn n n rn rn has o nx md lc gs rs xs kd sa ho si wh su _ (op2.ps bg.out) (oq2.ns bx.out) (or2.ps br.out) HG.out HX.out HR.out k1 k2 k3).mono ?_
    rintro e w3 ⟨a3, m3, cap3, ys, rfl, ho3, hys, hp3, hn3, HY, hnil3, hm3⟩
    have HY3 : Hid (ys = if mf kd sa ho si wh su gs has o xs nx md lc rs = 0 then packOf kd (msB kd sa ho si wh su gs has o xs nx md lc rs) else []) := HY
    clear HY
    generalize hq : mf kd sa ho si wh su gs has o xs nx md lc rs = q at *
    have HQ : Hid (mf kd sa ho si wh su gs has o xs nx md lc rs = q) := hq
    clear hq
    have hal3 := (New.refl w3).alloc (.cells #[.int .i64 q, .slice a3 m3 cap3] 33)
    have bA3 := (bA2.new hn3).new hal3
    have b3 := Blk.mk w3 w3.heap.size 33 #[.int .i64 q, .slice a3 m3 cap3] rfl
    have hw3 := (hw2.trans hn3).trans hal3
    have bs3 := (ho3.bs hys).new hal3
    have hl3 := ho3.1
    have sw3 : w.heap.size < w3.heap.size := by have := hn3.size; omega
    have hp3' : ∀ x, a3 = some x → x.block < w3.heap.size := fun x hx => (hp3 x hx).2
    have cA := bA3.cells
    clear bA2 hn3 op2 oq2 or2 ho3 hnil3 hp3
    go_wp2_with fail
    refine (toMs_any ga a ra gn gc n c rn rc has o nx md lc gs rs xs kd sa ho si wh su _ (hg.new hw3) (hx.new hw3) (hr.new hw3) HG.out HX.out HR.out k1 k2 k3).mono ?_
    rintro e w4 ⟨p4, q4, r4, rfl, hp4, hpq4, hqr4, op4, oq4, or4, hn4⟩
    have hal4 := (New.refl w4).alloc (.cells #[.int .i64 kd, .int .i64 sa, .int .i64 ho, .int .i64 si, .int .i64 wh, .int .i64 su, .slice (some ⟨p4, 0, none⟩) gn gn, .bool has, .int .i64 o, .slice (some ⟨q4, 0, none⟩) n n, .int .i64 nx, .int .i64 md, .int .i64 lc, .slice (some ⟨r4, 0, none⟩) rn rn] 40)
    have bA4 := (bA3.new hn4).new hal4
    have b34 := (b3.new hn4).new hal4
    have b4 := Blk.mk w4 w4.heap.size 40 #[.int .i64 kd, .int .i64 sa, .int .i64 ho, .int .i64 si, .int .i64 wh, .int .i64 su, .slice (some ⟨p4, 0, none⟩) gn gn, .bool has, .int .i64 o, .slice (some ⟨q4, 0, none⟩) n n, .int .i64 nx, .int .i64 md, .int .i64 lc, .slice (some ⟨r4, 0, none⟩) rn rn] rfl
    have hw4 := (hw3.trans hn4).trans hal4
    have bs34 := (bs3.new hn4).new hal4
    have ip4 := op4.new hal4
    have iq4 := oq4.new hal4
    have ir4 := or4.new hal4
    have lr4 := or4.lt
    have hp4' : w3.heap.size + 1 ≤ p4 := by simpa using hp4
    have cB := b4.cells
    clear bA3 b3 cA hn4 op4 oq4 or4 bs3 hal3 hp4
    go_wp2_with fail
    refine (implSaT _ _ _ gn gn n n rn rn has o nx md lc gs rs xs kd sa ho si wh su _ (ip4.ps bg.out) (iq4.ns bx.out) (ir4.ps br.out) HG.out HX.out HR.out k1 k2 k3).mono ?_
    rintro e w5 ⟨a5, m5, cap5, ys5, rfl, ho5, hys5, hp5, hn5, HY5, hnil5, hm5⟩
    have hyy : ys5 = ys := HY5.trans (by rw [HQ.out]; exact HY3.out.symm)
    subst hyy
    obtain rfl : m5 = m3 := by have := ho5.1; omega
    rw [HQ.out]
    have hal5 := (New.refl w5).alloc (.cells #[.int .i64 q, .slice a5 m5 cap5] 33)
    have hnn := hn5.trans hal5
    have bA5 := bA4.new hnn
    have b35 := b34.new hnn
    have b45 := b4.new hnn
    have b5 := Blk.mk w5 w5.heap.size 33 #[.int .i64 q, .slice a5 m5 cap5] rfl
    have hw5 := hw4.trans hnn
    have bs35 := bs34.new hnn
    have ip5 := ip4.new hnn
    have iq5 := iq4.new hnn
    have ir5 := ir4.new hnn
    have ho55 := ho5.new hal5
    have s5 := hn5.size
    simp at s5
    have hp5' : ∀ x, a5 = some x → w4.heap.size + 1 ≤ x.block ∧ x.block < w5.heap.size := fun x hx => by have := hp5 x hx; simp at this; exact this
    have c3 := b35.cells
    have c5 := b5.cells
    clear bA4 b34 b4 cB hn5 HY5 hnil5 ho5 hnn bs34 ip4 iq4 ir4 hal4 hal5 hp5
    go_wp2_with fail
    refine (eqBR_any _ a5 a3 m5 cap5 cap3 ys5 _ (ho55.bs hys) bs35 hl3 (by omega)).mono ?_
    rintro e w6 ⟨rfl, hn6⟩
    have bA6 := bA5.new hn6
    have b36 := b35.new hn6
    have b46 := b45.new hn6
    have b56 := b5.new hn6
    have hw6 := hw5.trans hn6
    have bs36 := bs35.new hn6
    have ip6 := ip5.new hn6
    have iq6 := iq5.new hn6
    have ir6 := ir5.new hn6
    have ho56 := ho55.new hn6
    clear bA5 b35 b45 b5 c3 c5 hn6 bs35 ip5 iq5 ir5 ho55
    have cA := bA6.cells
    have cB := b46.cells
    go_wp2_with fail
    go_region_held3 (fun W => (∀ j, W.cell? ⟨w.heap.size, j, none⟩ = #[Value.int .i64 kd, .int .i64 sa, .int .i64 ho, .int .i64 si, .int .i64 wh, .int .i64 su, .slice ga gn gc, .bool has, .int .i64 o, .slice a n c, .int .i64 nx, .int .i64 md, .int .i64 lc, .slice ra rn rc][j]?) ∧ (∀ j, W.cell? ⟨w4.heap.size, j, none⟩ = #[Value.int .i64 kd, .int .i64 sa, .int .i64 ho, .int .i64 si, .int .i64 wh, .int .i64 su, .slice (some ⟨p4, 0, none⟩) gn gn, .bool has, .int .i64 o, .slice (some ⟨q4, 0, none⟩) n n, .int .i64 nx, .int .i64 md, .int .i64 lc, .slice (some ⟨r4, 0, none⟩) rn rn][j]?)) (first | exact ⟨cA, cB⟩ | exact ⟨cA7, cB7⟩ | exact ⟨cA8, cB8⟩)
      (first
        | (go_at_call 6; refine (toMs_any ga a ra gn gc n c rn rc has o nx md lc gs rs xs kd sa ho si wh su _ ?_ ?_ ?_ HG.out HX.out HR.out k1 k2 k3).mono ?_; exact (hg.new hw6).new ((New.refl _).drew); exact (hx.new hw6).new ((New.refl _).drew); exact (hr.new hw6).new ((New.refl _).drew); rintro e w7 ⟨p7, q7, r7, rfl, -, -, -, op7, oq7, or7, hn7⟩; have cA7 := (bA6.new (((New.refl _).drew).trans hn7)).cells; have cB7 := (b46.new (((New.refl _).drew).trans hn7)).cells)
        | (go_at_call 9; refine (eqMs_any _ _ _ _ _ _ gn gn n n rn rn gn n rn has o nx md lc gs rs xs kd sa ho si wh su _ ?_ ?_ ?_ ?_ ?_ ?_ HG.out HX.out HR.out k1 k2 k3).mono ?_; exact (ip6.ps bg.out).new (((New.refl _).drew).trans hn7); exact (iq6.ns bx.out).new (((New.refl _).drew).trans hn7); exact (ir6.ps br.out).new (((New.refl _).drew).trans hn7); exact op7.ps bg.out; exact oq7.ns bx.out; exact or7.ps br.out; rintro e w8 ⟨rfl, hn8⟩; have cA8 := (bA6.new ((((New.refl _).drew).trans hn7).trans hn8)).cells; have cB8 := (b46.new ((((New.refl _).drew).trans hn7).trans hn8)).cells))
    have hn68 : New w6 w8 := (((New.refl _).drew).trans hn7).trans hn8
    have bA8 := bA6.new hn68
    have b38 := b36.new hn68
    have b48 := b46.new hn68
    have b58 := b56.new hn68
    have hw8 := hw6.trans hn68
    have bs38 := bs36.new hn68
    have ip8 := ip6.new hn68
    have iq8 := iq6.new hn68
    have ir8 := ir6.new hn68
    have ho58 := ho56.new hn68
    clear cA cB cA7 cB7 cA8 cB8 bA6 b36 b46 b56 bs36 ip6 iq6 ir6 ho56 hn68 hn7 hn8 op7 oq7 or7
    have cB := b48.cells
    go_wp2_with fail
    refine (markMs_t p4 q4 r4 gn gn n n rn rn has o nx md lc 1 kd sa ho si wh su gs rs xs _ ip8 iq8 ir8 (by omega) (by omega) (by omega) k1 k2 k3 (by omega) (by omega)).mono ?_
    rintro e w9 ⟨rfl, -, -, -, ht9⟩
    have bA9 := bA8.turn ht9 (by omega)
    have b39 := b38.turn ht9 (by omega)
    have b59 := b58.turn ht9 (by omega)
    have hw9 : New w w9 := hw8.before ht9 (by intro i hi h; omega)
    have bs39 := bs38.turn ht9 (by intro x hx; have := hp3' x hx; omega)
    have ho59 := ho58.turn ht9 (by intro x hx; have := hp5' x hx; omega)
    clear bA8 b38 b48 b58 cB bs38 ho58 ip8 iq8 ir8 ht9
    have hpos : ¬ ((1 : Int) + 2 * (gn : Int) + n + 2 * (rn : Int) < 0) := by omega
    generalize (1 : Int) + 2 * (gn : Int) + n + 2 * (rn : Int) = kk at *
    have c3 := b39.cells
    have c5 := b59.cells
    go_wp2_with fail
    refine (eqBR_any _ a5 a3 m5 cap5 cap3 ys5 _ (ho59.bs hys) bs39 hl3 (by omega)).mono ?_
    rintro e w10 ⟨rfl, hn10⟩
    have bA10 := bA9.new hn10
    have b310 := b39.new hn10
    have b510 := b59.new hn10
    have hw10 := hw9.trans hn10
    have bs310 := bs39.new hn10
    have ho510 := ho59.new hn10
    clear bA9 b39 b59 c3 c5 bs39 ho59 hn10
    have c5 := b510.cells
    go_wp2_with fail
    refine (markBR_any _ a5 m5 cap5 1 ys5 _ ho510 (by omega) (by omega) (by omega)).mono ?_
    rintro e w11 ⟨rfl, ho11, ht11⟩
    have nA : ¬ inA a5 w.heap.size := by rintro ⟨x, hx, hb⟩; have := hp5' x hx; omega
    have n3 : ¬ inA a5 w3.heap.size := by rintro ⟨x, hx, hb⟩; have := hp5' x hx; omega
    have n5 : ¬ inA a5 w5.heap.size := by rintro ⟨x, hx, hb⟩; have := hp5' x hx; omega
    have bA11 := bA10.turn ht11 nA
    have b311 := b310.turn ht11 n3
    have b511 := b510.turn ht11 n5
    have hw11 : New w w11 := hw10.before ht11 (by rintro i hi ⟨x, hx, hb⟩; have := hp5' x hx; omega)
    have bs311 := bs310.turn ht11 (by rintro x hx ⟨y, hy, hb⟩; have := hp3' x hx; have := hp5' y hy; omega)
    have bm11 := ho11.bs (marks_bd _ _)
    clear c5 bA10 b310 b510 nA n3 n5 ht11 bs310 ho510 ho11
    have c5 := b511.cells
    go_wp2_with fail
    refine (heldBR_any _ a5 m5 cap5 1 _ bm11 (by omega) (by omega) (by omega)).mono ?_
    rintro e w12 ⟨rfl, hn12⟩
    have bA12 := bA11.new hn12
    have b312 := b311.new hn12
    have b512 := b511.new hn12
    have hw12 := hw11.trans hn12
    have bs312 := bs311.new hn12
    have bm12 := bm11.new hn12
    clear c5 bA11 b311 b511 bs311 bm11 hn12
    have cA := bA12.cells
    have hqm : ((1 : Int) + (m5 : Int) != 1 + (m5 : Int)) = false := by simp
    go_wp2_with fail
    refine (toMs_any ga a ra gn gc n c rn rc has o nx md lc gs rs xs kd sa ho si wh su _ (hg.new hw12) (hx.new hw12) (hr.new hw12) HG.out HX.out HR.out k1 k2 k3).mono ?_
    rintro e w13 ⟨p13, q13, r13, rfl, -, -, -, op13, oq13, or13, hn13⟩
    have b313 := b312.new hn13
    have b513 := b512.new hn13
    have hw13 := hw12.trans hn13
    have bs313 := bs312.new hn13
    have bm13 := bm12.new hn13
    clear cA bA12 b312 b512 bs312 bm12 hn13
    go_wp2_with fail
    refine (implSaT _ _ _ gn gn n n rn rn has o nx md lc gs rs xs kd sa ho si wh su _ (op13.ps bg.out) (oq13.ns bx.out) (or13.ps br.out) HG.out HX.out HR.out k1 k2 k3).mono ?_
    rintro e w14 ⟨a14, m14, cap14, ys14, rfl, ho14, hys14, hp14, hn14, HY14, hnil14, hm14⟩
    have hyy : ys14 = ys5 := HY14.trans (by rw [HQ.out]; exact HY3.out.symm)
    subst hyy
    obtain rfl : m14 = m5 := by have := ho14.1; omega
    rw [HQ.out]
    have hal14 := (New.refl w14).alloc (.cells #[.int .i64 q, .slice a14 m14 cap14] 33)
    have hnn := hn14.trans hal14
    have b314 := b313.new hnn
    have b514 := b513.new hnn
    have b14 := Blk.mk w14 w14.heap.size 33 #[.int .i64 q, .slice a14 m14 cap14] rfl
    have hw14 := hw13.trans hnn
    have bs314 := bs313.new hnn
    have bm14 := bm13.new hnn
    have ho1414 := ho14.new hal14
    clear b313 b513 bs313 bm13 hn14 HY14 ho14 hnn hal14 op13 oq13 or13
    have c3 := b314.cells
    have c14 := b14.cells
    go_wp2_with fail
    refine (eqBR_any _ a14 a3 m14 cap14 cap3 ys14 _ (ho1414.bs hys) bs314 hl3 (by omega)).mono ?_
    rintro e w15 ⟨rfl, hn15⟩
    have b515 := b514.new hn15
    have bm15 := bm14.new hn15
    have hw15 := hw14.trans hn15
    clear c3 c14 b514 bm14 b314 b14 bs314 ho1414 hn15
    have c5 := b515.cells
    go_wp2_with fail
    refine (heldBR_any _ a5 m14 cap5 1 _ bm15 (by omega) (by omega) (by omega)).mono ?_
    rintro e w16 ⟨rfl, hn16⟩
    go_wp2
    go_ret
    exact ⟨rfl, hw15.trans hn16⟩

set_option maxRecDepth 100000 in
theorem asat_lifted (os : Os) (started : os.Started) (H : Type) (enc : TypeId × Value → H) :
    ReturnsInHanded {} Try.checked os 3 .any (Rows.fnExactSayTextSpec.pre6 enc Try.prog Try.f3 Rows.fnExactSayTextRow.domain false) (Rows.fnExactSayTextSpec.post enc Try.prog Try.f3 false true false false) := by
  refine returnsInHanded_of_change (C := Try.checked) own started (by kernel_rfl) Try.func3
    (ChangeSpec.witness6 (enc := enc) (C := Try.checked) false ⟨#[], #[.agg #[.int .i64 0, .int .i64 0, .int .i64 0, .int .i64 0, .int .i64 0, .int .i64 0, .slice none 0 0, .bool false, .int .i64 0, .slice none 0 0, .int .i64 0, .int .i64 0, .int .i64 0, .slice none 0 0]], []⟩ 8 (by kernel_rfl) (by kernel_rfl) (by kernel_rfl) (by kernel_rfl)) ?_
  intro W base args ds gs before hval0 hW hcnd _
  have hval : ∀ (j : Nat) t v, Try.f3.params[j]? = some t → args[j]? = some v → Value.okWide Try.prog W .any base t v := hval0
  have hW' := hW
  obtain ⟨p, q, hA0, hV, rfl, hfz, hnd⟩ := hW
  have hA : DataW.TrodAll enc Try.prog W 0 (fun _ => true) true Try.f3.params.toList args.toList ds p := hA0
  rw [Try.params3] at hA hval
  obtain ⟨v0, vs0, d0, ds0, p0, q0, hargs, rfl, rfl, h0, r0⟩ := trodAll_cons hA
  obtain ⟨rfl, rfl, rfl⟩ := trodAll_nil r0
  obtain rfl : args = #[v0] := by cases args; simp_all
  obtain ⟨rfl, rfl⟩ := trodVars_none hV
  have k0 := h0
  have lt0 : ∀ x ∈ p0, x.block < W.heap.size := by obtain ⟨m, hm⟩ := k0; exact DataW.trod_lt m _ _ _ hm
  obtain ⟨kd0, sa0, ho0, si0, wh0, su0, ga0, gn0, gc0, gs0, has0, o0, nx0, md0, lc0, a0, n0, c0, x0, ra0, rn0, rc0, rs0, rfl, ⟨bg0, eg0, mg0⟩, ⟨bx0, ex0, mx0⟩, ⟨br0, er0, mr0⟩, im0⟩ := open_message (hval 0 29 v0 rfl rfl) h0
  clear hA0 hval0
  refine (asat_walk ga0 a0 ra0 gn0 gc0 n0 c0 rn0 rc0 has0 o0 nx0 md0 lc0 gs0 rs0 x0 kd0 sa0 ho0 si0 wh0 su0 W bg0 bx0 br0 eg0 ex0 er0 mg0 mx0 mr0).mono fun e W' ⟨he, new⟩ => ?_
  have bel := new.below
  subst he
  exact ⟨_, rfl, _, _, _, [], _, [], hW', trodAll_mk1 (shut_bool Try.underlying4 _), (trodAll_cons_mk (Below.trod laidOut (by kernel_rfl) (of_decide_eq_true (by kernel_rfl)) k0 bel lt0) trodAll_mk0), rfl, bel.frame _, fun h => by cases h⟩

theorem asat_holds : Rows.FnExactSayTextSaid :=
  OpenClaim.holds_of_wide 3 Try.f3 rfl rfl rfl rfl rfl rfl rfl ⟨rfl, rfl, rfl, rfl, rfl⟩ rfl rfl rfl rfl rfl (by kernel_rfl) Try.func3 (by kernel_rfl)
    (of_decide_eq_true (by kernel_rfl)) (by unfold Func.isWrapper; first | (rw [if_pos (by decide +kernel)]; kernel_rfl) | (rw [if_neg (by decide +kernel)]; exact ⟨rfl, rfl⟩))
    (fun os started H enc _ => asat_lifted os started H enc)

end Go.Proofs.Ytdmcbnmaknpkmaa
