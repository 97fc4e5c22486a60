/- What is proved here: for any two routes the law on BetterRoute returns true, and they read as they did. No condition. -/
import Derived.Test.YtcbcegmmhiclhaaR7Open
import Derived.Test.YtcbcegmmhiclhaaR7Law
import Derived.Test.YtcbcegmmhiclhaaR7Bt
import Derived.Deep.RegionHeld3
import Derived.Deep.CutRange
namespace Go.Proofs.Ytcbcegmmhiclhaa
open Go.ChangeShapes Go.WideShapes Go.ChangeAt Go.RowKit Go.Sort
set_option linter.unusedVariables false

set_option maxHeartbeats 6400000 in
theorem abr_walk (p a l o nx md lc : Int) (x : Option Addr) (n c : Nat) (p' a' l' o' nx' md' lc' : Int) (x' : Option Addr) (n' c' : Nat) (xs xs' : List Int) (w : World) (h : NsAt w x xs) (h' : NsAt w x' xs') (hn : xs.length = n) (hn' : xs'.length = n') (hx : n ≤ maxLen) (hx' : n' ≤ maxLen) :
    Calls Try.prog 6 #[.agg #[.int .i64 p, .int .i64 a, .int .i64 l, .int .i64 o, .slice x n c, .int .i64 nx, .int .i64 md, .int .i64 lc], .agg #[.int .i64 p', .int .i64 a', .int .i64 l', .int .i64 o', .slice x' n' c', .int .i64 nx', .int .i64 md', .int .i64 lc']] w fun e w' => e = .returned (.bool true) ∧ New w w' := by
  have N0 : New w ((w.alloc (.cells #[.int .i64 p, .int .i64 a, .int .i64 l, .int .i64 o, .slice x n c, .int .i64 nx, .int .i64 md, .int .i64 lc] 46)).alloc (.cells #[.int .i64 p', .int .i64 a', .int .i64 l', .int .i64 o', .slice x' n' c', .int .i64 nx', .int .i64 md', .int .i64 lc'] 46)) := ((New.refl w).alloc _).alloc _
  have bA : Blk ((w.alloc (.cells #[.int .i64 p, .int .i64 a, .int .i64 l, .int .i64 o, .slice x n c, .int .i64 nx, .int .i64 md, .int .i64 lc] 46)).alloc (.cells #[.int .i64 p', .int .i64 a', .int .i64 l', .int .i64 o', .slice x' n' c', .int .i64 nx', .int .i64 md', .int .i64 lc'] 46)) w.heap.size 46 #[.int .i64 p, .int .i64 a, .int .i64 l, .int .i64 o, .slice x n c, .int .i64 nx, .int .i64 md, .int .i64 lc] := (Blk.mk _ _ _ _ rfl).alloc _
  have bB : Blk ((w.alloc (.cells #[.int .i64 p, .int .i64 a, .int .i64 l, .int .i64 o, .slice x n c, .int .i64 nx, .int .i64 md, .int .i64 lc] 46)).alloc (.cells #[.int .i64 p', .int .i64 a', .int .i64 l', .int .i64 o', .slice x' n' c', .int .i64 nx', .int .i64 md', .int .i64 lc'] 46)) (w.heap.size + 1) 46 #[.int .i64 p', .int .i64 a', .int .i64 l', .int .i64 o', .slice x' n' c', .int .i64 nx', .int .i64 md', .int .i64 lc'] := Blk.mk _ _ _ _ (by simp)
  by_cases hbig : 1048576 < n
  case pos =>
    go_enter Try.func6, Try.ntmps6
    go_wp2_with fail
    refine (szRt_bigZ p a l o nx md lc x n c 1048576 _ (by omega) (by omega) hx (by omega)).mono ?_
    rintro e w1 ⟨rfl, hn1⟩
    go_wp2
    go_ret
    exact ⟨rfl, N0.trans hn1⟩
  by_cases hbig' : 1048576 - n < n'
  case pos =>
    go_enter Try.func6, Try.ntmps6
    go_wp2_with fail
    refine (szRt_okZ p a l o nx md lc x n c 1048576 _ (by omega) (by omega) (by omega)).mono ?_
    rintro e w1 ⟨rfl, hn1⟩
    have cB := (bB.new hn1).cells
    go_wp2_with fail
    refine (szRt_bigZ p' a' l' o' nx' md' lc' x' n' c' _ _ (by omega) (by omega) hx' (by omega)).mono ?_
    rintro e w2 ⟨rfl, hn2⟩
    go_wp2
    go_ret
    exact ⟨rfl, (N0.trans hn1).trans hn2⟩
  have hm : n ≤ 1048576 := by omega
  have hm' : n' ≤ 1048576 := by omega
  have hbd : Hid (∀ z ∈ xs, In6 z) := h.bd
  have hbd' : Hid (∀ z ∈ xs', In6 z) := h'.bd
  have HN : Hid (xs.length = n) := hn
  have HN' : Hid (xs'.length = n') := hn'
  clear hx hx' hn hn' hbig
  obtain ⟨v, hv⟩ : ∃ v, Hid (decide (cmpW p o md lc n p' o' md' lc' n' < 0) = v) := ⟨_, rfl⟩
  have hz : (v != v) = false := by simp
  go_enter Try.func6, Try.ntmps6
  go_wp2_with fail
  refine (szRt_okZ p a l o nx md lc x n c 1048576 _ (by omega) (by omega) (by omega)).mono ?_
  rintro e w1 ⟨rfl, hn1⟩
  have cB := (bB.new hn1).cells
  go_wp2_with fail
  refine (szRt_okZ p' a' l' o' nx' md' lc' x' n' c' _ _ (by omega) (by omega) (by omega)).mono ?_
  rintro e w2 ⟨rfl, hn2⟩
  have bA2 := (bA.new hn1).new hn2
  have bB2 := (bB.new hn1).new hn2
  have N2 := (N0.trans hn1).trans hn2
  clear bA bB hn1 hn2 N0 cB
  go_upto_region 8 with fail
  go_cut [6] from 20 to 24 (fun u wx => u = .bool v ∧ New w2 wx)
  case first =>
    have d0 := bA2
    have d1 := bB2
    have dN : New w2 w2 := New.refl _
    have dhA := h.new N2
    have dhB := h'.new N2
    go_region_held3 (fun W => (∀ j, W.cell? ⟨w.heap.size, j, none⟩ = #[Value.int .i64 p, .int .i64 a, .int .i64 l, .int .i64 o, .slice x n c, .int .i64 nx, .int .i64 md, .int .i64 lc][j]?) ∧ (∀ j, W.cell? ⟨w.heap.size + 1, j, none⟩ = #[Value.int .i64 p', .int .i64 a', .int .i64 l', .int .i64 o', .slice x' n' c', .int .i64 nx', .int .i64 md', .int .i64 lc'][j]?)) (exact ⟨d0.cells, d1.cells⟩)
      (first
        | (go_at_call 24; refine (toRt_any _ _ _ _ _ _ _ _ _ _ _ _ (by first | exact dhA | exact dhB | exact dhA.new ((New.refl _).drew) | exact dhB.new ((New.refl _).drew)) (by first | exact HN.out | exact HN'.out) (by first | exact hm | exact hm')).mono ?_; rintro e wx ⟨g, rfl, hg, ho, h1⟩; (try simp only [New.drew_mark7] at h1); have d0 := d0.new h1; have d1 := d1.new h1; have dN := dN.trans h1; have dhA := dhA.new h1; have dhB := dhB.new h1)
        | (go_at_call 23; refine (specBT _ _ _ _ _ _ _ _ _ _ _ _ _ _ _ _ _ _ _ _ v _ (by first | exact hm | exact hm') (by first | exact hm' | exact hm) hv.out).mono ?_; rintro e wx ⟨rfl, h4⟩; (try simp only [New.drew_mark7] at h4); have d0 := d0.new h4; have d1 := d1.new h4; have dN := dN.trans h4; have dhA := dhA.new h4; have dhB := dhB.new h4))
    all_goals
      go_wp2_with fail
      go_meet
      case rel => exact ⟨rfl, dN⟩
  case rest =>
  obtain ⟨rfl, hc⟩ := hcut
  have bA3 := bA2.new hc
  have bB3 := bB2.new hc
  have N3 := N2.trans hc
  clear bA2 bB2 N2 hc
  generalize wc = w3 at *
  have cA := bA3.cells
  go_wp2_with fail
  refine (toRt_any p a l o nx md lc x n c xs _ (h.new N3) HN.out hm).mono ?_
  rintro e w4 ⟨g4, rfl, hg4, ho4, hn4⟩
  go_upto_region 10 with fail
  have hal : New w4 (w4.alloc (.cells #[.int .i64 p, .int .i64 a, .int .i64 l, .int .i64 o, .slice (some ⟨g4, 0, none⟩) n n, .int .i64 nx, .int .i64 md, .int .i64 lc] 51)) := (New.refl w4).alloc _
  have bX5 : Blk (w4.alloc (.cells #[.int .i64 p, .int .i64 a, .int .i64 l, .int .i64 o, .slice (some ⟨g4, 0, none⟩) n n, .int .i64 nx, .int .i64 md, .int .i64 lc] 51)) w4.heap.size 51 #[.int .i64 p, .int .i64 a, .int .i64 l, .int .i64 o, .slice (some ⟨g4, 0, none⟩) n n, .int .i64 nx, .int .i64 md, .int .i64 lc] := Blk.mk _ _ _ _ rfl
  have bA5 := (bA3.new hn4).new hal
  have bB5 := (bB3.new hn4).new hal
  have ho5 := ho4.new hal
  have N5 := (N3.trans hn4).trans hal
  clear bA3 bB3 N3 hn4 ho4 cA hal
  generalize w4.alloc (.cells #[.int .i64 p, .int .i64 a, .int .i64 l, .int .i64 o, .slice (some ⟨g4, 0, none⟩) n n, .int .i64 nx, .int .i64 md, .int .i64 lc] 51) = w5 at *
  have cB := bB5.cells
  go_wp2_with fail
  refine (toRt_any p' a' l' o' nx' md' lc' x' n' c' xs' _ (h'.new N5) HN'.out hm').mono ?_
  rintro e w6 ⟨g6, rfl, hg6, ho6, hn6⟩
  go_upto_region 11 with fail
  have hal : New w6 (w6.alloc (.cells #[.int .i64 p', .int .i64 a', .int .i64 l', .int .i64 o', .slice (some ⟨g6, 0, none⟩) n' n', .int .i64 nx', .int .i64 md', .int .i64 lc'] 51)) := (New.refl w6).alloc _
  have bY7 : Blk (w6.alloc (.cells #[.int .i64 p', .int .i64 a', .int .i64 l', .int .i64 o', .slice (some ⟨g6, 0, none⟩) n' n', .int .i64 nx', .int .i64 md', .int .i64 lc'] 51)) w6.heap.size 51 #[.int .i64 p', .int .i64 a', .int .i64 l', .int .i64 o', .slice (some ⟨g6, 0, none⟩) n' n', .int .i64 nx', .int .i64 md', .int .i64 lc'] := Blk.mk _ _ _ _ rfl
  have bX7 := (bX5.new hn6).new hal
  have bA7 := (bA5.new hn6).new hal
  have bB7 := (bB5.new hn6).new hal
  have hoX7 := (ho5.new hn6).new hal
  have hoY7 := ho6.new hal
  have N7 := (N5.trans hn6).trans hal
  clear bX5 bA5 bB5 ho5 ho6 N5 hn6 hal cB
  generalize w6.alloc (.cells #[.int .i64 p', .int .i64 a', .int .i64 l', .int .i64 o', .slice (some ⟨g6, 0, none⟩) n' n', .int .i64 nx', .int .i64 md', .int .i64 lc'] 51) = w7 at *
  have cX := bX7.cells
  have cY := bY7.cells
  go_wp2_with fail
  refine (implBT _ _ _ _ _ _ _ _ _ _ _ _ _ _ _ _ _ _ _ _ v _ hm hm' hv.out).mono ?_
  rintro e w8 ⟨rfl, hn8⟩
  have bX8 := bX7.new hn8
  have bY8 := bY7.new hn8
  have bA8 := bA7.new hn8
  have bB8 := bB7.new hn8
  have hoX8 := hoX7.new hn8
  have hoY8 := hoY7.new hn8
  have N8 := N7.trans hn8
  clear bX7 bY7 bA7 bB7 hoX7 hoY7 N7 hn8 cX cY
  go_upto_region 14 with fail
  have d0 := bA8
  have d1 := bX8
  have dN : New w8 w8 := New.refl _
  have dh := h.new N8
  have dq := hoX8.ns hbd.out
  go_region_held3 (fun W => (∀ j, W.cell? ⟨w.heap.size, j, none⟩ = #[Value.int .i64 p, .int .i64 a, .int .i64 l, .int .i64 o, .slice x n c, .int .i64 nx, .int .i64 md, .int .i64 lc][j]?) ∧ (∀ j, W.cell? ⟨w4.heap.size, j, none⟩ = #[Value.int .i64 p, .int .i64 a, .int .i64 l, .int .i64 o, .slice (some ⟨g4, 0, none⟩) n n, .int .i64 nx, .int .i64 md, .int .i64 lc][j]?)) (exact ⟨d0.cells, d1.cells⟩)
    (first
      | (go_at_call 24; refine (toRt_any p a l o nx md lc x n c xs _ (by first | exact dh | exact dh.new ((New.refl _).drew)) HN.out hm).mono ?_; rintro e w9 ⟨g9, rfl, hg9, ho9, h1⟩; (try simp only [New.drew_mark7] at h1); have d0 := d0.new h1; have d1 := d1.new h1; have dN := dN.trans h1; have dh := dh.new h1; have dq := dq.new h1; have dr := ho9.ns hbd.out)
      | (go_at_call 26; refine (eqRt_any p a l o nx md lc _ _ n n n xs _ (by first | exact dq | exact dq.new ((New.refl _).drew)) (by first | exact dr | exact dr.new ((New.refl _).drew)) HN.out hm).mono ?_; rintro e w10 ⟨rfl, h1⟩; (try simp only [New.drew_mark7] at h1); have d0 := d0.new h1; have d1 := d1.new h1; have dN := dN.trans h1; have dh := dh.new h1))
  have bB10 := bB8.new dN
  have bY10 := bY8.new dN
  have hoY10 := hoY8.new dN
  have N10 := N8.trans dN
  clear d0 d1 dN dh dq dr bA8 bB8 bX8 bY8 hoX8 hoY8 N8
  go_upto_region 16 with fail
  have d0 := bB10
  have d1 := bY10
  have dN : New w10 w10 := New.refl _
  have dh := h'.new N10
  have dq := hoY10.ns hbd'.out
  go_region_held3 (fun W => (∀ j, W.cell? ⟨w.heap.size + 1, j, none⟩ = #[Value.int .i64 p', .int .i64 a', .int .i64 l', .int .i64 o', .slice x' n' c', .int .i64 nx', .int .i64 md', .int .i64 lc'][j]?) ∧ (∀ j, W.cell? ⟨w6.heap.size, j, none⟩ = #[Value.int .i64 p', .int .i64 a', .int .i64 l', .int .i64 o', .slice (some ⟨g6, 0, none⟩) n' n', .int .i64 nx', .int .i64 md', .int .i64 lc'][j]?)) (exact ⟨d0.cells, d1.cells⟩)
    (first
      | (go_at_call 24; refine (toRt_any p' a' l' o' nx' md' lc' x' n' c' xs' _ (by first | exact dh | exact dh.new ((New.refl _).drew)) HN'.out hm').mono ?_; rintro e w11 ⟨g11, rfl, hg11, ho11, h1⟩; (try simp only [New.drew_mark7] at h1); have d0 := d0.new h1; have d1 := d1.new h1; have dN := dN.trans h1; have dh := dh.new h1; have dq := dq.new h1; have dr := ho11.ns hbd'.out)
      | (go_at_call 26; refine (eqRt_any p' a' l' o' nx' md' lc' _ _ n' n' n' xs' _ (by first | exact dq | exact dq.new ((New.refl _).drew)) (by first | exact dr | exact dr.new ((New.refl _).drew)) HN'.out hm').mono ?_; rintro e w12 ⟨rfl, h1⟩; (try simp only [New.drew_mark7] at h1); have d0 := d0.new h1; have d1 := d1.new h1; have dN := dN.trans h1; have dh := dh.new h1))
  go_wp2
  go_ret
  exact ⟨rfl, N10.trans dN⟩


set_option maxRecDepth 100000 in
theorem abr_lifted (os : Os) (started : os.Started) (H : Type) (enc : TypeId × Value → H) :
    ReturnsInHanded {} Try.checked os 6 .any (Rows.fnExactBetterRouteSpec.pre6 enc Try.prog Try.f6 Rows.fnExactBetterRouteRow.domain false) (Rows.fnExactBetterRouteSpec.post enc Try.prog Try.f6 false true false false) := by
  refine returnsInHanded_of_change (C := Try.checked) own started (by kernel_rfl) Try.func6
    (ChangeSpec.witness6 (enc := enc) (C := Try.checked) false ⟨#[], #[.agg #[.int .i64 0, .int .i64 0, .int .i64 0, .int .i64 0, .slice none 0 0, .int .i64 0, .int .i64 0, .int .i64 0], .agg #[.int .i64 0, .int .i64 0, .int .i64 0, .int .i64 0, .slice none 0 0, .int .i64 0, .int .i64 0, .int .i64 0]], []⟩ 8 (by kernel_rfl) (by kernel_rfl) (by kernel_rfl) (by kernel_rfl)) ?_
  intro W base args ds gs before hval0 hW hcnd _
  have hval : ∀ (j : Nat) t v, Try.f6.params[j]? = some t → args[j]? = some v → Value.okWide Try.prog W .any base t v := hval0
  have hW' := hW
  obtain ⟨p, q, hA0, hV, rfl, hfz, hnd⟩ := hW
  have hA : DataW.TrodAll enc Try.prog W 0 (fun _ => true) true Try.f6.params.toList args.toList ds p := hA0
  rw [Try.params6] at hA hval
  obtain ⟨v0, vs0, d0, ds0, p0, q0, hargs, rfl, rfl, h0, r0⟩ := trodAll_cons hA
  obtain ⟨v1, vs1, d1, ds1, p1, q1, rfl, rfl, rfl, h1, r1⟩ := trodAll_cons r0
  obtain ⟨rfl, rfl, rfl⟩ := trodAll_nil r1
  obtain rfl : args = #[v0, v1] := by cases args; simp_all
  obtain ⟨rfl, rfl⟩ := trodVars_none hV
  have k0 := h0
  have lt0 : ∀ x ∈ p0, x.block < W.heap.size := by obtain ⟨m, hm⟩ := k0; exact DataW.trod_lt m _ _ _ hm
  obtain ⟨rp0, ra0, rl0, ro0, rn0, rm0, rc0, rx0, len0, cap0, z0, rfl, b0, e0, m0, nl0⟩ := open_route (hval 0 46 v0 rfl rfl) h0
  have k1 := h1
  have lt1 : ∀ x ∈ p1, x.block < W.heap.size := by obtain ⟨m, hm⟩ := k1; exact DataW.trod_lt m _ _ _ hm
  obtain ⟨rp1, ra1, rl1, ro1, rn1, rm1, rc1, rx1, len1, cap1, z1, rfl, b1, e1, m1, nl1⟩ := open_route (hval 1 46 v1 rfl rfl) h1
  clear hA0 hval0
  refine (abr_walk rp0 ra0 rl0 ro0 rn0 rm0 rc0 rx0 len0 cap0 rp1 ra1 rl1 ro1 rn1 rm1 rc1 rx1 len1 cap1 z0 z1 W b0 b1 e0 e1 m0 m1).mono fun e W' ⟨he, new⟩ => ?_
  have bel := new.below
  subst he
  exact ⟨_, rfl, _, _, _, [], _, [], hW', trodAll_mk1 (shut_bool Try.underlying4 _), (trodAll_cons_mk (Below.trod laidOut (by kernel_rfl) (of_decide_eq_true (by kernel_rfl)) k0 bel lt0) (trodAll_cons_mk (Below.trod laidOut (by kernel_rfl) (of_decide_eq_true (by kernel_rfl)) k1 bel lt1) trodAll_mk0)), rfl, bel.frame _, fun h => by cases h⟩

theorem abr_holds : Rows.FnExactBetterRouteSaid :=
  OpenClaim.holds_of_wide 6 Try.f6 rfl rfl rfl rfl rfl rfl rfl ⟨rfl, rfl, rfl, rfl, rfl⟩ rfl rfl rfl rfl rfl (by kernel_rfl) Try.func6 (by kernel_rfl)
    (of_decide_eq_true (by kernel_rfl)) (by unfold Func.isWrapper; first | (rw [if_pos (by decide +kernel)]; kernel_rfl) | (rw [if_neg (by decide +kernel)]; exact ⟨rfl, rfl⟩))
    (fun os started H enc _ => abr_lifted os started H enc)

end Go.Proofs.Ytcbcegmmhiclhaa
