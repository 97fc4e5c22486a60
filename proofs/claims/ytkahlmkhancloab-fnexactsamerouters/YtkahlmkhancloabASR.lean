/- What is proved here: for every two routers the law on SameRouters returns true, and the routers read as they did. No condition. -/
import Derived.Test.YtkahlmkhancloabQ9Op
import Derived.Test.YtkahlmkhancloabS9Rr
import Derived.Test.YtkahlmkhancloabS9Sp
import Derived.Deep.RegionHeld3
namespace Go.Proofs.Ytkahlmkhancloab
open Go.ChangeShapes Go.WideShapes Go.ChangeAt Go.RowKit Go.Sort
set_option linter.unusedVariables false

set_option maxRecDepth 100000 in
set_option maxHeartbeats 12800000 in
theorem asr_walk (sa si ho nx : Int) (a1 a2 la ra : Option Addr) (n1 c1 n2 c2 ln lc rn rc : Nat) (r1 r2 : List Ru) (L : List Lv) (R : List Rv) (sa' si' ho' nx' : Int) (b1 b2 lb rb : Option Addr) (k1 d1 k2 d2 lk ld rk rd : Nat) (s1 s2 : List Ru) (L' : List Lv) (R' : List Rv) (w : World) (h1 : RsAt w a1 r1) (h2 : RsAt w a2 r2) (h3 : LkCame w la L) (h4 : RtCame w ra R) (e1 : r1.length = n1) (e2 : r2.length = n2) (e3 : L.length = ln) (e4 : R.length = rn) (m1 : n1 ≤ maxLen) (m2 : n2 ≤ maxLen) (m3 : ln ≤ maxLen) (m4 : rn ≤ maxLen)
    (j1 : RsAt w b1 s1) (j2 : RsAt w b2 s2) (j3 : LkCame w lb L') (j4 : RtCame w rb R') (f1 : s1.length = k1) (f2 : s2.length = k2) (f3 : L'.length = lk) (f4 : R'.length = rk) (o1 : k1 ≤ maxLen) (o2 : k2 ≤ maxLen) (o3 : lk ≤ maxLen) (o4 : rk ≤ maxLen) :
    Calls Try.prog 5 #[.agg #[.int .i64 sa, .int .i64 si, .int .i64 ho, .int .i64 nx, .slice a1 n1 c1, .slice a2 n2 c2, .slice la ln lc, .slice ra rn rc], .agg #[.int .i64 sa', .int .i64 si', .int .i64 ho', .int .i64 nx', .slice b1 k1 d1, .slice b2 k2 d2, .slice lb lk ld, .slice rb rk rd]] w fun e w' => e = .returned (.bool true) ∧ New w w' := by
  have hw : New w ((w.alloc (.cells #[.int .i64 sa, .int .i64 si, .int .i64 ho, .int .i64 nx, .slice a1 n1 c1, .slice a2 n2 c2, .slice la ln lc, .slice ra rn rc] 30)).alloc (.cells #[.int .i64 sa', .int .i64 si', .int .i64 ho', .int .i64 nx', .slice b1 k1 d1, .slice b2 k2 d2, .slice lb lk ld, .slice rb rk rd] 30)) := ((New.refl w).alloc _).alloc _
  have bA : Blk ((w.alloc (.cells #[.int .i64 sa, .int .i64 si, .int .i64 ho, .int .i64 nx, .slice a1 n1 c1, .slice a2 n2 c2, .slice la ln lc, .slice ra rn rc] 30)).alloc (.cells #[.int .i64 sa', .int .i64 si', .int .i64 ho', .int .i64 nx', .slice b1 k1 d1, .slice b2 k2 d2, .slice lb lk ld, .slice rb rk rd] 30)) w.heap.size 30 #[.int .i64 sa, .int .i64 si, .int .i64 ho, .int .i64 nx, .slice a1 n1 c1, .slice a2 n2 c2, .slice la ln lc, .slice ra rn rc] := (Blk.mk _ _ _ _ rfl).alloc _
  have bB : Blk ((w.alloc (.cells #[.int .i64 sa, .int .i64 si, .int .i64 ho, .int .i64 nx, .slice a1 n1 c1, .slice a2 n2 c2, .slice la ln lc, .slice ra rn rc] 30)).alloc (.cells #[.int .i64 sa', .int .i64 si', .int .i64 ho', .int .i64 nx', .slice b1 k1 d1, .slice b2 k2 d2, .slice lb lk ld, .slice rb rk rd] 30)) (w.heap.size + 1) 30 #[.int .i64 sa', .int .i64 si', .int .i64 ho', .int .i64 nx', .slice b1 k1 d1, .slice b2 k2 d2, .slice lb lk ld, .slice rb rk rd] := Blk.mk _ _ _ _ (by simp)
  have E1 : Hid (r1.length = n1) := e1
  have E2 : Hid (r2.length = n2) := e2
  have E3 : Hid (L.length = ln) := e3
  have E4 : Hid (R.length = rn) := e4
  have F1 : Hid (s1.length = k1) := f1
  have F2 : Hid (s2.length = k2) := f2
  have F3 : Hid (L'.length = lk) := f3
  have F4 : Hid (R'.length = rk) := f4
  clear e1 e2 e3 e4 f1 f2 f3 f4
  go_enter Try.func5, Try.ntmps5
  go_wp2_with fail
  refine (szRr_any sa si ho nx a1 a2 la ra n1 c1 n2 c2 ln lc rn rc r1 r2 L R _ (h3.new hw) (h4.new hw) E1.out E2.out E3.out E4.out m1 m2 m3 m4 1048576 (Nat.le_refl _)).mono ?_
  rintro e w1 ⟨⟨y, rfl, hy⟩, hn1⟩
  have bA1 := bA.new hn1
  have bB1 := bB.new hn1
  have hw1 := hw.trans hn1
  clear bA bB hn1 hw
  rcases hy with rfl | ⟨y0, y1, g1, g2, g3, g4, sm, sr⟩
  · go_wp2
    go_ret
    exact ⟨rfl, hw1⟩
  have l3 : LkAt w la L := h3.ok sm
  have l4 : RtAt w ra R := h4.rt sr
  clear h3 h4 sm sr m1 m2 m3 m4
  obtain ⟨yn, rfl⟩ := Int.eq_ofNat_of_zero_le y0
  have yn1 : yn ≤ 1048576 := by omega
  have cB := bB1.cells
  go_wp2_with fail
  refine (szRr_any sa' si' ho' nx' b1 b2 lb rb k1 d1 k2 d2 lk ld rk rd s1 s2 L' R' _ (j3.new hw1) (j4.new hw1) F1.out F2.out F3.out F4.out o1 o2 o3 o4 yn yn1).mono ?_
  rintro e w2 ⟨⟨y2, rfl, hy2⟩, hn2⟩
  have bA2 := bA1.new hn2
  have bB2 := bB1.new hn2
  have hw2 := hw1.trans hn2
  clear cB bA1 bB1 hn2
  rcases hy2 with rfl | ⟨y20, y21, i1, i2, i3, i4, sm, sr⟩
  · go_wp2
    go_ret
    exact ⟨rfl, hw2⟩
  have t3 : LkAt w lb L' := j3.ok sm
  have t4 : RtAt w rb R' := j4.rt sr
  clear j3 j4 sm sr o1 o2 o3 o4 yn1
  obtain ⟨v, hv⟩ : ∃ v : Bool, Hid (v = true ↔ ((sa = sa' ∧ si = si' ∧ ho = ho' ∧ nx = nx' ∧ r1 = s1 ∧ r2 = s2) ∧ L.map Lv.r = L'.map Lv.r ∧ R.map Rv.r = R'.map Rv.r)) := bool_of9 _
  have hvv : (v != v) = false := by simp
  have cA := bA2.cells
  have cB := bB2.cells
  go_wp2_with fail
  go_region_held3 (fun W => (∀ j, W.cell? ⟨w.heap.size, j, none⟩ = #[Value.int .i64 sa, .int .i64 si, .int .i64 ho, .int .i64 nx, .slice a1 n1 c1, .slice a2 n2 c2, .slice la ln lc, .slice ra rn rc][j]?) ∧ (∀ j, W.cell? ⟨w.heap.size + 1, j, none⟩ = #[Value.int .i64 sa', .int .i64 si', .int .i64 ho', .int .i64 nx', .slice b1 k1 d1, .slice b2 k2 d2, .slice lb lk ld, .slice rb rk rd][j]?)) (first | exact ⟨cA, cB⟩ | exact ⟨cA3, cB3⟩ | exact ⟨cA4, cB4⟩ | exact ⟨cA5, cB5⟩)
    (first
      | (go_at_call_of 8 sa; refine (toRr_full sa si ho nx a1 a2 la ra n1 c1 n2 c2 ln lc rn rc r1 r2 L R _ ?_ ?_ ?_ ?_ E1.out E2.out E3.out E4.out g1 g2 g3 g4).mono ?_; exact (h1.new hw2).new ((New.refl _).drew); exact (h2.new hw2).new ((New.refl _).drew); exact (l3.new hw2).new ((New.refl _).drew); exact (l4.new hw2).new ((New.refl _).drew); rintro e w3 ⟨p3, q3, u3, x3, L3, R3, rfl, ml3, mr3, v31, v32, v33, v34, hn3, z3⟩; have cA3 := (bA2.new (((New.refl _).drew).trans hn3)).cells; have cB3 := (bB2.new (((New.refl _).drew).trans hn3)).cells)
      | (go_at_call_of 8 sa'; refine (toRr_full sa' si' ho' nx' b1 b2 lb rb k1 d1 k2 d2 lk ld rk rd s1 s2 L' R' _ ?_ ?_ ?_ ?_ F1.out F2.out F3.out F4.out i1 i2 i3 i4).mono ?_; exact (j1.new hw2).new (((New.refl _).drew).trans hn3); exact (j2.new hw2).new (((New.refl _).drew).trans hn3); exact (t3.new hw2).new (((New.refl _).drew).trans hn3); exact (t4.new hw2).new (((New.refl _).drew).trans hn3); rintro e w4 ⟨p4, q4, u4, x4, L4, R4, rfl, ml4, mr4, v41, v42, v43, v44, hn4, z4⟩; have cA4 := (bA2.new ((((New.refl _).drew).trans hn3).trans hn4)).cells; have cB4 := (bB2.new ((((New.refl _).drew).trans hn3).trans hn4)).cells)
      | (go_at_call 16; refine (specSR sa si ho nx sa' si' ho' nx' _ _ _ _ _ _ _ _ n1 n1 n2 n2 ln ln rn rn k1 k1 k2 k2 lk lk rk rk r1 r2 s1 s2 L3 L4 R3 R4 v _ ?_ ?_ ?_ ?_ v41 v42 v43 v44 z3 z4 E1.out E2.out (by show L3.length = ln; have := congrArg List.length ml3; simp at this; rw [this]; exact E3.out) (by show R3.length = rn; have := congrArg List.length mr3; simp at this; rw [this]; exact E4.out) F1.out F2.out (by show L4.length = lk; have := congrArg List.length ml4; simp at this; rw [this]; exact F3.out) (by show R4.length = rk; have := congrArg List.length mr4; simp at this; rw [this]; exact F4.out) g1 g2 g3 g4 i1 i2 i3 i4 (by rw [ml3, mr3, ml4, mr4]; exact hv.out)).mono ?_; exact v31.new hn4; exact v32.new hn4; exact v33.new hn4; exact v34.new hn4; rintro e w5 ⟨rfl, hn5⟩; have cA5 := (bA2.new (((((New.refl _).drew).trans hn3).trans hn4).trans hn5)).cells; have cB5 := (bB2.new (((((New.refl _).drew).trans hn3).trans hn4).trans hn5)).cells))
  have hn25 : New w2 w5 := ((((New.refl _).drew).trans hn3).trans hn4).trans hn5
  have bA5 := bA2.new hn25
  have bB5 := bB2.new hn25
  have hw5 := hw2.trans hn25
  clear v31 v32 v33 v34 v41 v42 v43 v44 z3 z4 ml3 mr3 ml4 mr4 hn25 hn3 hn4 hn5 bA2 bB2 cA cB cA3 cB3 cA4 cB4 cA5 cB5
  have cA := bA5.cells
  go_wp2_with fail
  refine (toRr_any sa si ho nx a1 a2 la ra n1 c1 n2 c2 ln lc rn rc r1 r2 L R _ (h1.new hw5) (h2.new hw5) (l3.new hw5) (l4.new hw5) E1.out E2.out E3.out E4.out g1 g2 g3 g4).mono ?_
  rintro e w6 ⟨p6, q6, u6, t6, L6, R6, rfl, ml6, mr6, v61, v62, v63, v64, hn6⟩
  have ha6 := (New.refl w6).alloc (.cells #[.int .i64 sa, .int .i64 si, .int .i64 ho, .int .i64 nx, .slice (some ⟨p6, 0, none⟩) n1 n1, .slice (some ⟨q6, 0, none⟩) n2 n2, .slice (some ⟨u6, 0, none⟩) ln ln, .slice (some ⟨t6, 0, none⟩) rn rn] 40)
  have bX6 := Blk.mk w6 w6.heap.size 40 #[.int .i64 sa, .int .i64 si, .int .i64 ho, .int .i64 nx, .slice (some ⟨p6, 0, none⟩) n1 n1, .slice (some ⟨q6, 0, none⟩) n2 n2, .slice (some ⟨u6, 0, none⟩) ln ln, .slice (some ⟨t6, 0, none⟩) rn rn] rfl
  have bA6 := (bA5.new hn6).new ha6
  have bB6 := (bB5.new hn6).new ha6
  have hw6 := (hw5.trans hn6).trans ha6
  have y61 := v61.new ha6
  have y62 := v62.new ha6
  have y63 := v63.new ha6
  have y64 := v64.new ha6
  clear cA v61 v62 v63 v64 bA5 bB5 hn6 hw5
  go_upto_region 10 with fail
  generalize w6.alloc (.cells #[.int .i64 sa, .int .i64 si, .int .i64 ho, .int .i64 nx, .slice (some ⟨p6, 0, none⟩) n1 n1, .slice (some ⟨q6, 0, none⟩) n2 n2, .slice (some ⟨u6, 0, none⟩) ln ln, .slice (some ⟨t6, 0, none⟩) rn rn] 40) = wx at *
  have cB := bB6.cells
  go_wp2_with fail
  refine (toRr_any sa' si' ho' nx' b1 b2 lb rb k1 d1 k2 d2 lk ld rk rd s1 s2 L' R' _ (j1.new hw6) (j2.new hw6) (t3.new hw6) (t4.new hw6) F1.out F2.out F3.out F4.out i1 i2 i3 i4).mono ?_
  rintro e w7 ⟨p7, q7, u7, t7, L7, R7, rfl, ml7, mr7, v71, v72, v73, v74, hn7⟩
  have ha7 := (New.refl w7).alloc (.cells #[.int .i64 sa', .int .i64 si', .int .i64 ho', .int .i64 nx', .slice (some ⟨p7, 0, none⟩) k1 k1, .slice (some ⟨q7, 0, none⟩) k2 k2, .slice (some ⟨u7, 0, none⟩) lk lk, .slice (some ⟨t7, 0, none⟩) rk rk] 40)
  have bY7 := Blk.mk w7 w7.heap.size 40 #[.int .i64 sa', .int .i64 si', .int .i64 ho', .int .i64 nx', .slice (some ⟨p7, 0, none⟩) k1 k1, .slice (some ⟨q7, 0, none⟩) k2 k2, .slice (some ⟨u7, 0, none⟩) lk lk, .slice (some ⟨t7, 0, none⟩) rk rk] rfl
  have bX7 := (bX6.new hn7).new ha7
  have bA7 := (bA6.new hn7).new ha7
  have bB7 := (bB6.new hn7).new ha7
  have hw7 := (hw6.trans hn7).trans ha7
  have y71 := v71.new ha7
  have y72 := v72.new ha7
  have y73 := v73.new ha7
  have y74 := v74.new ha7
  have x61 := (y61.new hn7).new ha7
  have x62 := (y62.new hn7).new ha7
  have x63 := (y63.new hn7).new ha7
  have x64 := (y64.new hn7).new ha7
  clear cB v71 v72 v73 v74 y61 y62 y63 y64 bX6 bA6 bB6 hn7 hw6
  go_upto_region 11 with fail
  generalize w7.alloc (.cells #[.int .i64 sa', .int .i64 si', .int .i64 ho', .int .i64 nx', .slice (some ⟨p7, 0, none⟩) k1 k1, .slice (some ⟨q7, 0, none⟩) k2 k2, .slice (some ⟨u7, 0, none⟩) lk lk, .slice (some ⟨t7, 0, none⟩) rk rk] 40) = wy at *
  have cX := bX7.cells
  have cY := bY7.cells
  have G3 : Hid (L6.length = ln) := by show L6.length = ln; have := congrArg List.length ml6; simp at this; rw [this]; exact E3.out
  have G4 : Hid (R6.length = rn) := by show R6.length = rn; have := congrArg List.length mr6; simp at this; rw [this]; exact E4.out
  have G5 : Hid (L7.length = lk) := by show L7.length = lk; have := congrArg List.length ml7; simp at this; rw [this]; exact F3.out
  have G6 : Hid (R7.length = rk) := by show R7.length = rk; have := congrArg List.length mr7; simp at this; rw [this]; exact F4.out
  have hv7 : Hid (v = true ↔ ((sa = sa' ∧ si = si' ∧ ho = ho' ∧ nx = nx' ∧ r1 = s1 ∧ r2 = s2) ∧ L6.map Lv.r = L7.map Lv.r ∧ R6.map Rv.r = R7.map Rv.r)) := by show _ ↔ _; rw [ml6, mr6, ml7, mr7]; exact hv.out
  have ML6 : Hid (L6.map Lv.r = L.map Lv.r) := ml6
  have MR6 : Hid (R6.map Rv.r = R.map Rv.r) := mr6
  have ML7 : Hid (L7.map Lv.r = L'.map Lv.r) := ml7
  have MR7 : Hid (R7.map Rv.r = R'.map Rv.r) := mr7
  clear ml6 mr6 ml7 mr7
  go_wp2_with fail
  refine (implSR sa si ho nx sa' si' ho' nx' _ _ _ _ _ _ _ _ n1 n1 n2 n2 ln ln rn rn k1 k1 k2 k2 lk lk rk rk r1 r2 s1 s2 L6 L7 R6 R7 v _ x61 x62 x63 x64 y71 y72 y73 y74 E1.out E2.out G3.out G4.out F1.out F2.out G5.out G6.out g1 g2 g3 g4 i1 i2 i3 i4 hv7.out).mono ?_
  rintro e w8 ⟨rfl, hn8⟩
  have bA8 := bA7.new hn8
  have bB8 := bB7.new hn8
  have bX8 := bX7.new hn8
  have bY8 := bY7.new hn8
  have hw8 := hw7.trans hn8
  have x81 := x61.new hn8
  have x82 := x62.new hn8
  have x83 := x63.new hn8
  have x84 := x64.new hn8
  have y81 := y71.new hn8
  have y82 := y72.new hn8
  have y83 := y73.new hn8
  have y84 := y74.new hn8
  clear cX cY bA7 bB7 bX7 bY7 x61 x62 x63 x64 y71 y72 y73 y74 hn8 hw7 hv7 hv
  have cA := bA8.cells
  have cX := bX8.cells
  go_wp2_with fail
  go_region_held3 (fun W => (∀ j, W.cell? ⟨w.heap.size, j, none⟩ = #[Value.int .i64 sa, .int .i64 si, .int .i64 ho, .int .i64 nx, .slice a1 n1 c1, .slice a2 n2 c2, .slice la ln lc, .slice ra rn rc][j]?) ∧ (∀ j, W.cell? ⟨w6.heap.size, j, none⟩ = #[Value.int .i64 sa, .int .i64 si, .int .i64 ho, .int .i64 nx, .slice (some ⟨p6, 0, none⟩) n1 n1, .slice (some ⟨q6, 0, none⟩) n2 n2, .slice (some ⟨u6, 0, none⟩) ln ln, .slice (some ⟨t6, 0, none⟩) rn rn][j]?)) (first | exact ⟨cA, cX⟩ | exact ⟨cA9, cX9⟩ | exact ⟨cA10, cX10⟩)
    (first
      | (go_at_call 8; refine (toRr_any sa si ho nx a1 a2 la ra n1 c1 n2 c2 ln lc rn rc r1 r2 L R _ ?_ ?_ ?_ ?_ E1.out E2.out E3.out E4.out g1 g2 g3 g4).mono ?_; exact (h1.new hw8).new ((New.refl _).drew); exact (h2.new hw8).new ((New.refl _).drew); exact (l3.new hw8).new ((New.refl _).drew); exact (l4.new hw8).new ((New.refl _).drew); rintro e w9 ⟨p9, q9, u9, t9, L9, R9, rfl, ml9, mr9, v91, v92, v93, v94, hn9⟩; have cA9 := (bA8.new (((New.refl _).drew).trans hn9)).cells; have cX9 := (bX8.new (((New.refl _).drew).trans hn9)).cells)
      | (go_at_call 10; refine (eqRr_any sa si ho nx _ _ _ _ _ _ _ _ n1 n1 n2 n2 ln ln rn rn n1 n2 ln rn r1 r2 L6 L9 R6 R9 _ ?_ ?_ ?_ ?_ v91 v92 v93 v94 (ML6.out.trans ml9.symm) (MR6.out.trans mr9.symm) E1.out E2.out G3.out G4.out g1 g2 g3 g4).mono ?_; exact x81.new (((New.refl _).drew).trans hn9); exact x82.new (((New.refl _).drew).trans hn9); exact x83.new (((New.refl _).drew).trans hn9); exact x84.new (((New.refl _).drew).trans hn9); rintro e w10 ⟨rfl, hn10⟩; have cA10 := (bA8.new ((((New.refl _).drew).trans hn9).trans hn10)).cells; have cX10 := (bX8.new ((((New.refl _).drew).trans hn9).trans hn10)).cells))
  have hn810 : New w8 w10 := (((New.refl _).drew).trans hn9).trans hn10
  have bB10 := bB8.new hn810
  have bY10 := bY8.new hn810
  have hw10 := hw8.trans hn810
  have z81 := y81.new hn810
  have z82 := y82.new hn810
  have z83 := y83.new hn810
  have z84 := y84.new hn810
  clear cA cX cA9 cX9 cA10 cX10 bA8 bB8 bX8 bY8 hn810 hn9 hn10 v91 v92 v93 v94 ml9 mr9 x81 x82 x83 x84 y81 y82 y83 y84
  have cB := bB10.cells
  have cY := bY10.cells
  go_wp2_with fail
  go_region_held3 (fun W => (∀ j, W.cell? ⟨w.heap.size + 1, j, none⟩ = #[Value.int .i64 sa', .int .i64 si', .int .i64 ho', .int .i64 nx', .slice b1 k1 d1, .slice b2 k2 d2, .slice lb lk ld, .slice rb rk rd][j]?) ∧ (∀ j, W.cell? ⟨w7.heap.size, j, none⟩ = #[Value.int .i64 sa', .int .i64 si', .int .i64 ho', .int .i64 nx', .slice (some ⟨p7, 0, none⟩) k1 k1, .slice (some ⟨q7, 0, none⟩) k2 k2, .slice (some ⟨u7, 0, none⟩) lk lk, .slice (some ⟨t7, 0, none⟩) rk rk][j]?)) (first | exact ⟨cB, cY⟩ | exact ⟨cB11, cY11⟩ | exact ⟨cB12, cY12⟩)
    (first
      | (go_at_call 8; refine (toRr_any sa' si' ho' nx' b1 b2 lb rb k1 d1 k2 d2 lk ld rk rd s1 s2 L' R' _ ?_ ?_ ?_ ?_ F1.out F2.out F3.out F4.out i1 i2 i3 i4).mono ?_; exact (j1.new hw10).new ((New.refl _).drew); exact (j2.new hw10).new ((New.refl _).drew); exact (t3.new hw10).new ((New.refl _).drew); exact (t4.new hw10).new ((New.refl _).drew); rintro e w11 ⟨p11, q11, u11, t11, L11, R11, rfl, ml11, mr11, v11, v12, v13, v14, hn11⟩; have cB11 := (bB10.new (((New.refl _).drew).trans hn11)).cells; have cY11 := (bY10.new (((New.refl _).drew).trans hn11)).cells)
      | (go_at_call 10; refine (eqRr_any sa' si' ho' nx' _ _ _ _ _ _ _ _ k1 k1 k2 k2 lk lk rk rk k1 k2 lk rk s1 s2 L7 L11 R7 R11 _ ?_ ?_ ?_ ?_ v11 v12 v13 v14 (ML7.out.trans ml11.symm) (MR7.out.trans mr11.symm) F1.out F2.out G5.out G6.out i1 i2 i3 i4).mono ?_; exact z81.new (((New.refl _).drew).trans hn11); exact z82.new (((New.refl _).drew).trans hn11); exact z83.new (((New.refl _).drew).trans hn11); exact z84.new (((New.refl _).drew).trans hn11); rintro e w12 ⟨rfl, hn12⟩; have cB12 := (bB10.new ((((New.refl _).drew).trans hn11).trans hn12)).cells; have cY12 := (bY10.new ((((New.refl _).drew).trans hn11).trans hn12)).cells))
  have hn1012 : New w10 w12 := (((New.refl _).drew).trans hn11).trans hn12
  go_wp2
  go_ret
  exact ⟨rfl, hw10.trans hn1012⟩

set_option maxRecDepth 100000 in
theorem asr_lifted (os : Os) (started : os.Started) (H : Type) (enc : TypeId × Value → H) :
    ReturnsInHanded {} Try.checked os 5 .any (Rows.fnExactSameRoutersSpec.pre6 enc Try.prog Try.f5 Rows.fnExactSameRoutersRow.domain false) (Rows.fnExactSameRoutersSpec.post enc Try.prog Try.f5 false true false false) := by
  refine returnsInHanded_of_change (C := Try.checked) own started (by kernel_rfl) Try.func5
    (ChangeSpec.witness6 (enc := enc) (C := Try.checked) false ⟨#[], #[.agg #[.int .i64 0, .int .i64 0, .int .i64 0, .int .i64 0, .slice none 0 0, .slice none 0 0, .slice none 0 0, .slice none 0 0], .agg #[.int .i64 0, .int .i64 0, .int .i64 0, .int .i64 0, .slice none 0 0, .slice none 0 0, .slice none 0 0, .slice none 0 0]], []⟩ 8 (by kernel_rfl) (by kernel_rfl) (by kernel_rfl) (by kernel_rfl)) ?_
  intro W base args ds gs before hval0 hW hcnd _
  have hval : ∀ (j : Nat) t v, Try.f5.params[j]? = some t → args[j]? = some v → Value.okWide Try.prog W .any base t v := hval0
  have hW' := hW
  obtain ⟨p, q, hA0, hV, rfl, hfz, hnd⟩ := hW
  have hA : DataW.TrodAll enc Try.prog W 0 (fun _ => true) true Try.f5.params.toList args.toList ds p := hA0
  rw [Try.params5] at hA hval
  obtain ⟨v0, vs0, d0, ds0, p0, q0, hargs, rfl, rfl, h0, r0⟩ := trodAll_cons hA
  obtain ⟨v1, vs1, d1, ds1, p1, q1, rfl, rfl, rfl, h1, r1⟩ := trodAll_cons r0
  obtain ⟨rfl, rfl, rfl⟩ := trodAll_nil r1
  obtain rfl : args = #[v0, v1] := by cases args; simp_all
  obtain ⟨rfl, rfl⟩ := trodVars_none hV
  have k0 := h0
  have lt0 : ∀ x ∈ p0, x.block < W.heap.size := by obtain ⟨m, hm⟩ := k0; exact DataW.trod_lt m _ _ _ hm
  obtain ⟨x0_0, x0_1, x0_2, x0_3, x0_4, x0_5, x0_6, x0_7, x0_8, x0_9, x0_10, x0_11, x0_12, x0_13, x0_14, x0_15, x0_16, x0_17, x0_18, x0_19, rfl, ⟨f0_0, f0_1, f0_2⟩, ⟨f0_3, f0_4, f0_5⟩, ⟨f0_6, f0_7, f0_8⟩, ⟨f0_9, f0_10, f0_11⟩⟩ := open_router (hval 0 30 v0 rfl rfl) h0
  have k1 := h1
  have lt1 : ∀ x ∈ p1, x.block < W.heap.size := by obtain ⟨m, hm⟩ := k1; exact DataW.trod_lt m _ _ _ hm
  obtain ⟨x1_0, x1_1, x1_2, x1_3, x1_4, x1_5, x1_6, x1_7, x1_8, x1_9, x1_10, x1_11, x1_12, x1_13, x1_14, x1_15, x1_16, x1_17, x1_18, x1_19, rfl, ⟨f1_0, f1_1, f1_2⟩, ⟨f1_3, f1_4, f1_5⟩, ⟨f1_6, f1_7, f1_8⟩, ⟨f1_9, f1_10, f1_11⟩⟩ := open_router (hval 1 30 v1 rfl rfl) h1
  clear hA0 hval0
  refine (asr_walk x0_0 x0_1 x0_2 x0_3 x0_4 x0_5 x0_6 x0_7 x0_8 x0_9 x0_10 x0_11 x0_12 x0_13 x0_14 x0_15 x0_16 x0_17 x0_18 x0_19 x1_0 x1_1 x1_2 x1_3 x1_4 x1_5 x1_6 x1_7 x1_8 x1_9 x1_10 x1_11 x1_12 x1_13 x1_14 x1_15 x1_16 x1_17 x1_18 x1_19 W f0_0 f0_3 f0_6 f0_9 f0_1 f0_4 f0_7 f0_10 f0_2 f0_5 f0_8 f0_11 f1_0 f1_3 f1_6 f1_9 f1_1 f1_4 f1_7 f1_10 f1_2 f1_5 f1_8 f1_11).mono fun e W' ⟨he, new⟩ => ?_
  have bel := new.below
  subst he
  exact ⟨_, rfl, _, _, _, [], _, [], hW', trodAll_mk1 (shut_bool Try.underlying4 _), (trodAll_cons_mk (Below.trod laidOut (by kernel_rfl) (of_decide_eq_true (by kernel_rfl)) k0 bel lt0) (trodAll_cons_mk (Below.trod laidOut (by kernel_rfl) (of_decide_eq_true (by kernel_rfl)) k1 bel lt1) trodAll_mk0)), rfl, bel.frame _, fun h => by cases h⟩

theorem asr_holds : Rows.FnExactSameRoutersSaid :=
  OpenClaim.holds_of_wide 5 Try.f5 rfl rfl rfl rfl rfl rfl rfl ⟨rfl, rfl, rfl, rfl, rfl⟩ rfl rfl rfl rfl rfl (by kernel_rfl) Try.func5 (by kernel_rfl)
    (of_decide_eq_true (by kernel_rfl)) (by unfold Func.isWrapper; first | (rw [if_pos (by decide +kernel)]; kernel_rfl) | (rw [if_neg (by decide +kernel)]; exact ⟨rfl, rfl⟩))
    (fun os started H enc _ => asr_lifted os started H enc)

end Go.Proofs.Ytkahlmkhancloab
