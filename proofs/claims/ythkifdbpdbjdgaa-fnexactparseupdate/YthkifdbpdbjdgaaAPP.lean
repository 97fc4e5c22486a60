/- What is proved here: for every list of bytes the law on ParseUpdate returns true, and the bytes read as they did. No condition. -/
import Derived.Test.YthkifdbpdbjdgaaOpen
import Derived.Test.YthkifdbpdbjdgaaSdAll
import Derived.Test.YthkifdbpdbjdgaaPuBd
import Derived.Test.YthkifdbpdbjdgaaPackLib
namespace Go.Proofs.Ythkifdbpdbjdgaa
open Go.ChangeShapes Go.WideShapes Go.ChangeAt Go.RowKit Go.Sort
set_option linter.unusedVariables false

theorem Got.turnA {w w' : World} {lo : Nat} {p : PU} {x y z : Value} {S : Nat → Prop} (h : Got w lo p x y z) (t : Turn S w w') (hS : ∀ g, (x.ownBlock = some g ∨ y.ownBlock = some g ∨ z.ownBlock = some g) → ¬ S g) : Got w' lo p x y z :=
  ⟨h.g.turnA t (fun g e => hS g (.inl e)), h.n.turnA t (fun g e => hS g (.inr (.inl e))), h.r.turnA t (fun g e => hS g (.inr (.inr e))), h.gn, h.gr, h.nr⟩
theorem Got.blks {w : World} {lo : Nat} {p : PU} {x y z : Value} (h : Got w lo p x y z) : ∀ g, (x.ownBlock = some g ∨ y.ownBlock = some g ∨ z.ownBlock = some g) → lo ≤ g ∧ g < w.heap.size := by
  rintro g (e | e | e)
  · exact h.g.blk g e
  · exact h.n.blk g e
  · exact h.r.blk g e

set_option maxHeartbeats 6400000 in
theorem app_walk (a : Option Addr) (n c : Nat) (zs : List Int) (w : World) (h : BsAt w a zs) (hn : zs.length = n) (hm : n ≤ maxLen) :
    Calls Try.prog 4 #[.slice a n c] w fun e w' => e = .returned (.bool true) ∧ New w w' := by
  unfold maxLen at hm
  by_cases hbig : 1048576 < n
  · go_enter Try.func4, Try.ntmps4
    go_wp2
    go_ret
    exact ⟨rfl, New.refl _⟩
  · have hmn : n ≤ 1048576 := by omega
    have hb : Hid (∀ z ∈ zs, 0 ≤ z ∧ z ≤ 255) := h.lt
    have HN : Hid (zs.length = n) := hn
    have HBd : Bd (pu zs) := pu_bd zs h.lt (by omega)
    clear hm hbig hn
    generalize hP : pu zs = P at *
    have HP : Hid (pu zs = P) := hP
    clear hP
    go_enter Try.func4, Try.ntmps4
    go_wp2_with fail
    refine (toBytes_any a n c zs _ h HN.out hmn).mono ?_
    rintro e w1 ⟨g1, rfl, hg1, ho1, hn1⟩
    go_wp2_with fail
    refine (specParse _ n n zs _ (BsAt.of_own ho1 hb.out) HN.out (Nat.le_refl _) hmn).mono ?_
    rintro e w2 ⟨x2, y2, z2, rfl, hG2, hn2⟩
    rw [HP.out] at hG2 ⊢
    obtain ⟨code, soft, gs, has, o, xs, nx, md, lc, rs⟩ := P
    obtain ⟨ga2, gc2, ex⟩ := hG2.g.slice
    obtain ⟨xa2, xc2, ey⟩ := hG2.n.slice
    obtain ⟨ra2, rc2, ez⟩ := hG2.r.slice
    subst ex
    subst ey
    subst ez
    simp only at hG2
    unfold puV
    simp only
    have hal2 := (New.refl w2).alloc (.cells #[.int .i64 code, .bool soft, .slice ga2 gs.length gc2, .bool has, .int .i64 o, .slice xa2 xs.length xc2, .int .i64 nx, .int .i64 md, .int .i64 lc, .slice ra2 rs.length rc2] 32)
    have b2 := Blk.mk w2 w2.heap.size 32 #[.int .i64 code, .bool soft, .slice ga2 gs.length gc2, .bool has, .int .i64 o, .slice xa2 xs.length xc2, .int .i64 nx, .int .i64 md, .int .i64 lc, .slice ra2 rs.length rc2] rfl
    have N2 := (hn1.trans hn2).trans hal2
    have G2 := hG2.new hal2
    have k2 := hG2.blks
    have s2 := hn2.size
    have sw : w.heap.size ≤ w2.heap.size := Nat.le_trans hn1.size hn2.size
    have hsz2 : (w2.alloc (.cells #[.int .i64 code, .bool soft, .slice ga2 gs.length gc2, .bool has, .int .i64 o, .slice xa2 xs.length xc2, .int .i64 nx, .int .i64 md, .int .i64 lc, .slice ra2 rs.length rc2] 32)).heap.size = w2.heap.size + 1 := by simp
    clear hG2 ho1 hg1 hn1 hn2 hal2
    go_wp2_with fail
    refine (toBytes_any a n c zs _ (h.new N2) HN.out hmn).mono ?_
    rintro e w3 ⟨g3, rfl, hg3, ho3, hn3⟩
    rw [hsz2] at hg3
    have lt3 := (ho3.lt g3 rfl).2
    have oA3 := OwAt.of_own ho3
    have b23 := b2.new hn3
    have G23 := G2.new hn3
    have N3 := N2.trans hn3
    have s3 := hn3.size
    rw [hsz2] at s3
    clear b2 G2 hn3 hsz2
    go_wp2_with fail
    refine (implParse _ n n zs _ (BsAt.of_own ho3 hb.out) HN.out (Nat.le_refl _) hmn).mono ?_
    rintro e w4 ⟨x4, y4, z4, rfl, hG4, hn4⟩
    rw [HP.out] at hG4 ⊢
    obtain ⟨ga4, gc4, ex⟩ := hG4.g.slice
    obtain ⟨xa4, xc4, ey⟩ := hG4.n.slice
    obtain ⟨ra4, rc4, ez⟩ := hG4.r.slice
    subst ex
    subst ey
    subst ez
    simp only at hG4
    unfold puV
    simp only
    have hal4 := (New.refl w4).alloc (.cells #[.int .i64 code, .bool soft, .slice ga4 gs.length gc4, .bool has, .int .i64 o, .slice xa4 xs.length xc4, .int .i64 nx, .int .i64 md, .int .i64 lc, .slice ra4 rs.length rc4] 32)
    have b4 := Blk.mk w4 w4.heap.size 32 #[.int .i64 code, .bool soft, .slice ga4 gs.length gc4, .bool has, .int .i64 o, .slice xa4 xs.length xc4, .int .i64 nx, .int .i64 md, .int .i64 lc, .slice ra4 rs.length rc4] rfl
    have hnn := hn4.trans hal4
    have N4 := N3.trans hnn
    have G24 := G23.new hnn
    have b24 := b23.new hnn
    have G4 := hG4.new hal4
    have k4 := hG4.blks
    have oA4 := oA3.new hnn
    have s4 := hn4.size
    clear ho3 hG4 hn4 hal4 hnn G23 b23 oA3 N3 N2
    have c2 := b24.cells
    have c4 := b4.cells
    go_wp2_with fail
    refine (eqUR_any ⟨code, soft, gs, has, o, xs, nx, md, lc, rs⟩ (.slice ga4 gs.length gc4) (.slice xa4 xs.length xc4) (.slice ra4 rs.length rc4) (.slice ga2 gs.length gc2) (.slice xa2 xs.length xc2) (.slice ra2 rs.length rc2) _ _ _ G4 G24 HBd).mono ?_
    rintro e w5 ⟨rfl, hn5⟩
    have b25 := b24.new hn5
    have b45 := b4.new hn5
    have G25 := G24.new hn5
    have G45 := G4.new hn5
    have oA5 := oA4.new hn5
    have N5 := N4.trans hn5
    clear c2 c4 b24 b4 G24 G4 oA4 N4 hn5
    go_wp2_with fail
    refine (toBytes_any a n c zs _ (h.new N5) HN.out hmn).mono ?_
    rintro e w6 ⟨g6, rfl, hg6, ho6, hn6⟩
    have oA6 := oA5.new hn6
    go_wp2_with fail
    refine (eqBytes_any _ _ n n n zs _ (oA6.bs hb.out) (BsAt.of_own ho6 hb.out) HN.out hmn).mono ?_
    rintro e w7 ⟨rfl, hn7⟩
    have h67 := hn6.trans hn7
    have b27 := b25.new h67
    have b47 := b45.new h67
    have G27 := G25.new h67
    have G47 := G45.new h67
    have oA7 := oA6.new hn7
    have N7 := N5.trans h67
    clear b25 b45 G25 G45 oA5 oA6 N5 hn6 hn7 h67 ho6 hg6
    go_wp2_with fail
    refine (mark_any (some ⟨g3, 0, none⟩) n n 1 zs _ oA7 (by omega) (by omega) (by omega)).mono ?_
    rintro e w8 ⟨rfl, oA8, ht8⟩
    have b28 := b27.turn ht8 (by rintro ⟨x, hx, e⟩; obtain rfl := Option.some.inj hx; simp only at e; omega)
    have b48 := b47.turn ht8 (by rintro ⟨x, hx, e⟩; obtain rfl := Option.some.inj hx; simp only at e; omega)
    have G28 := G27.turnA ht8 (by rintro g hg ⟨x, hx, e⟩; obtain rfl := Option.some.inj hx; simp only at e; have := k2 g hg; omega)
    have G48 := G47.turnA ht8 (by rintro g hg ⟨x, hx, e⟩; obtain rfl := Option.some.inj hx; simp only at e; have := k4 g hg; omega)
    have N8 : New w w8 := N7.before ht8 (by rintro i hi ⟨x, hx, e⟩; obtain rfl := Option.some.inj hx; simp only at e; omega)
    have hkp : ¬ (1 : Int) + (n : Int) < 0 := by omega
    clear b27 b47 G27 G47 oA7 oA8 N7 ht8
    have c2 := b28.cells
    have c4 := b48.cells
    go_wp2_with fail
    refine (eqUR_any ⟨code, soft, gs, has, o, xs, nx, md, lc, rs⟩ (.slice ga4 gs.length gc4) (.slice xa4 xs.length xc4) (.slice ra4 rs.length rc4) (.slice ga2 gs.length gc2) (.slice xa2 xs.length xc2) (.slice ra2 rs.length rc2) _ _ _ G48 G28 HBd).mono ?_
    rintro e w9 ⟨rfl, hn9⟩
    have b29 := b28.new hn9
    have b49 := b48.new hn9
    have G29 := G28.new hn9
    have G49 := G48.new hn9
    have N9 := N8.trans hn9
    clear c2 c4 b28 b48 G28 G48 N8 hn9
    have c4 := b49.cells
    go_wp2_with fail
    refine (markUR_any ⟨code, soft, gs, has, o, xs, nx, md, lc, rs⟩ (.slice ga4 gs.length gc4) (.slice xa4 xs.length xc4) (.slice ra4 rs.length rc4) _ _ G49 HBd).mono ?_
    rintro e w10 ⟨rfl, G410, ht10⟩
    have b210 := b29.turn ht10 (fun e => by have := k4 _ e; omega)
    have b410 := b49.turn ht10 (fun e => by have := k4 _ e; omega)
    have G210 := G29.turnA ht10 (fun g hg e => by have := k4 _ e; have := k2 g hg; omega)
    have N10 : New w w10 := N9.before ht10 (fun i hi e => by have := k4 _ e; omega)
    have hE : 0 ≤ mkE ⟨code, soft, gs, has, o, xs, nx, md, lc, rs⟩ := by unfold mkE; simp only; omega
    generalize hEe : mkE ⟨code, soft, gs, has, o, xs, nx, md, lc, rs⟩ = E at *
    have HE : Hid (mkE ⟨code, soft, gs, has, o, xs, nx, md, lc, rs⟩ = E) := hEe
    have hEn : ¬ E < 0 := by omega
    clear c4 b29 b49 G29 G49 N9 ht10 hEe
    have c4 := b410.cells
    go_wp2_with fail
    refine (heldUR_any ⟨code, soft, gs, has, o, xs, nx, md, lc, rs⟩ (.slice ga4 gs.length gc4) (.slice xa4 xs.length xc4) (.slice ra4 rs.length rc4) _ _ G410 HBd).mono ?_
    rintro e w11 ⟨rfl, hn11⟩
    rw [HE.out]
    have b211 := b210.new hn11
    have b411 := b410.new hn11
    have G211 := G210.new hn11
    have G411 := G410.new hn11
    have N11 := N10.trans hn11
    clear c4 b210 b410 G210 G410 N10 hn11
    go_wp2_with fail
    refine (toBytes_any a n c zs _ (h.new N11) HN.out hmn).mono ?_
    rintro e w12 ⟨g12, rfl, hg12, ho12, hn12⟩
    go_wp2_with fail
    refine (implParse _ n n zs _ (BsAt.of_own ho12 hb.out) HN.out (Nat.le_refl _) hmn).mono ?_
    rintro e w13 ⟨x13, y13, z13, rfl, hG13, hn13⟩
    rw [HP.out] at hG13 ⊢
    obtain ⟨ga13, gc13, ex⟩ := hG13.g.slice
    obtain ⟨xa13, xc13, ey⟩ := hG13.n.slice
    obtain ⟨ra13, rc13, ez⟩ := hG13.r.slice
    subst ex
    subst ey
    subst ez
    simp only at hG13
    unfold puV
    simp only
    have hal13 := (New.refl w13).alloc (.cells #[.int .i64 code, .bool soft, .slice ga13 gs.length gc13, .bool has, .int .i64 o, .slice xa13 xs.length xc13, .int .i64 nx, .int .i64 md, .int .i64 lc, .slice ra13 rs.length rc13] 32)
    have b13 := Blk.mk w13 w13.heap.size 32 #[.int .i64 code, .bool soft, .slice ga13 gs.length gc13, .bool has, .int .i64 o, .slice xa13 xs.length xc13, .int .i64 nx, .int .i64 md, .int .i64 lc, .slice ra13 rs.length rc13] rfl
    have hnn := (hn12.trans hn13).trans hal13
    have N13 := N11.trans hnn
    have G213 := G211.new hnn
    have G413 := G411.new hnn
    have b213 := b211.new hnn
    have b413 := b411.new hnn
    have G13 := hG13.new hal13
    clear hG13 hn12 hn13 hal13 hnn N11 G211 G411 b211 b411 ho12 hg12
    have c2 := b213.cells
    have c13 := b13.cells
    go_wp2_with fail
    refine (eqUR_any ⟨code, soft, gs, has, o, xs, nx, md, lc, rs⟩ (.slice ga13 gs.length gc13) (.slice xa13 xs.length xc13) (.slice ra13 rs.length rc13) (.slice ga2 gs.length gc2) (.slice xa2 xs.length xc2) (.slice ra2 rs.length rc2) _ _ _ G13 G213 HBd).mono ?_
    rintro e w14 ⟨rfl, hn14⟩
    have b414 := b413.new hn14
    have G414 := G413.new hn14
    have N14 := N13.trans hn14
    clear c2 c13 b213 b13 G213 G13 N13 hn14 b413 G413
    have c4 := b414.cells
    go_wp2_with fail
    refine (heldUR_any ⟨code, soft, gs, has, o, xs, nx, md, lc, rs⟩ (.slice ga4 gs.length gc4) (.slice xa4 xs.length xc4) (.slice ra4 rs.length rc4) _ _ G414 HBd).mono ?_
    rintro e w15 ⟨rfl, hn15⟩
    rw [HE.out]
    go_wp2
    go_ret
    exact ⟨rfl, N14.trans hn15⟩

set_option maxRecDepth 100000 in
theorem app_lifted (os : Os) (started : os.Started) (H : Type) (enc : TypeId × Value → H) :
    ReturnsInHanded {} Try.checked os 4 .any (Rows.fnExactParseUpdateSpec.pre6 enc Try.prog Try.f4 Rows.fnExactParseUpdateRow.domain false) (Rows.fnExactParseUpdateSpec.post enc Try.prog Try.f4 false true false false) := by
  refine returnsInHanded_of_change (C := Try.checked) own started (by kernel_rfl) Try.func4
    (ChangeSpec.witness6 (enc := enc) (C := Try.checked) false ⟨#[], #[.slice none 0 0], []⟩ 8 (by kernel_rfl) (by kernel_rfl) (by kernel_rfl) (by kernel_rfl)) ?_
  intro W base args ds gs before hval0 hW hcnd _
  have hval : ∀ (j : Nat) t v, Try.f4.params[j]? = some t → args[j]? = some v → Value.okWide Try.prog W .any base t v := hval0
  have hW' := hW
  obtain ⟨p, q, hA0, hV, rfl, hfz, hnd⟩ := hW
  have hA : DataW.TrodAll enc Try.prog W 0 (fun _ => true) true Try.f4.params.toList args.toList ds p := hA0
  rw [Try.params4] at hA hval
  obtain ⟨v0, vs0, d0, ds0, p0, q0, hargs, rfl, rfl, h0, r0⟩ := trodAll_cons hA
  obtain ⟨rfl, rfl, rfl⟩ := trodAll_nil r0
  obtain rfl : args = #[v0] := by cases args; simp_all
  obtain ⟨rfl, rfl⟩ := trodVars_none hV
  have k0 := h0
  have lt0 : ∀ x ∈ p0, x.block < W.heap.size := by obtain ⟨m, hm⟩ := k0; exact DataW.trod_lt m _ _ _ hm
  obtain ⟨a0, len0, cap0, rfl⟩ := okWide_slice Try.underlying22 (hval 0 22 v0 rfl rfl)
  obtain ⟨z0, b0, e0, m0⟩ := open_bytes h0
  clear hA0 hval0
  refine (app_walk a0 len0 cap0 z0 W b0 e0 m0.2).mono fun e W' ⟨he, new⟩ => ?_
  have bel := new.below
  subst he
  exact ⟨_, rfl, _, _, _, [], _, [], hW', trodAll_mk1 (shut_bool Try.underlying4 _), (trodAll_cons_mk (Below.trod laidOut (by kernel_rfl) (of_decide_eq_true (by kernel_rfl)) k0 bel lt0) trodAll_mk0), rfl, bel.frame _, fun h => by cases h⟩

theorem app_holds : Rows.FnExactParseUpdateSaid :=
  OpenClaim.holds_of_wide 4 Try.f4 rfl rfl rfl rfl rfl rfl rfl ⟨rfl, rfl, rfl, rfl, rfl⟩ rfl rfl rfl rfl rfl (by kernel_rfl) Try.func4 (by kernel_rfl)
    (of_decide_eq_true (by kernel_rfl)) (by unfold Func.isWrapper; first | (rw [if_pos (by decide +kernel)]; kernel_rfl) | (rw [if_neg (by decide +kernel)]; exact ⟨rfl, rfl⟩))
    (fun os started H enc _ => app_lifted os started H enc)

end Go.Proofs.Ythkifdbpdbjdgaa
