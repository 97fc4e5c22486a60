/- What is proved here: for every bytes the law on entries returns true, and the bytes read as they did. No condition. -/
import Derived.Test.YtdkjgjjkjfeodaaJE4
import Derived.Test.YtdkjgjjkjfeodaaOpen
namespace Go.Proofs.Ytdkjgjjkjfeodaa
open Go.ChangeShapes Go.WideShapes Go.ChangeAt Go.RowKit Go.Sort
set_option linter.unusedVariables false
set_option linter.unusedSimpArgs false
set_option maxRecDepth 100000

theorem Sl10.nl {w : World} {a : Option Addr} {n c : Nat} (h : Sl10 w a n c) : Nl a n c := by
  rcases h with h | ⟨b, o, e, _⟩
  · exact .inl h
  · exact .inr ⟨b, o, e⟩

theorem Jd.sl {w : World} {lo n1 c1 n2 c2 : Nat} {A1 A2 : Option Addr} {us vs : List Int} (h : Jd w lo A1 n1 c1 A2 n2 c2 us vs) : Sl10 w A1 n1 c1 ∧ Sl10 w A2 n2 c2 := by
  refine ⟨?_, ?_⟩
  · rcases (ov_open h.o1 h.l1 h.b1).2.2 with h' | ⟨g, e, _, hg⟩
    · exact .inl h'
    · exact .inr ⟨g, 0, e, hg⟩
  · rcases (ov_open h.o2 h.l2 h.b2).2.2 with h' | ⟨g, e, _, hg⟩
    · exact .inl h'
    · exact .inr ⟨g, 0, e, hg⟩

set_option maxHeartbeats 12800000 in
theorem fnen_walk (a : Option Addr) (n c : Nat) (zs : List Int) (w : World) (h : BsAt w a zs) (hn : zs.length = n) (hm : n ≤ maxLen) (ha : ∀ x, zs ≠ [] → a = some x → x.block < w.heap.size) :
    Calls Try.prog 4 #[.slice a n c] w fun e w' => e = .returned (.bool true) ∧ New w w' := by
  by_cases hbig : 1048576 < n
  case pos =>
    go_enter Try.func4, Try.ntmps4
    go_wp2_with fail
    refine (lbig_yes a n c _ hbig).mono ?_
    rintro e w1 ⟨rfl, rfl⟩
    go_wp2
    go_ret
    exact ⟨rfl, New.refl _⟩
  have hmb : n ≤ 2097152 := by omega
  have HN : Hid (zs.length = n) := hn
  clear hm hn
  go_enter Try.func4, Try.ntmps4
  go_wp2_with fail
  refine (lbig_no a n c _ hbig).mono ?_
  rintro e wz ⟨rfl, hwz⟩
  obtain rfl := hwz.symm
  go_wp2_with fail
  refine (drawAj a n c zs _ h HN.out hmb ha).mono ?_
  rintro e w1 ⟨A1, A2, n1, c1, n2, c2, us, vs, ep, ki, pe, q, l, cl, es, rfl, x1, x2, k1, k2, q1, q2, sl1, sl2, m1, m2, ⟨xE, lE, gE, nE⟩, hl, hep, hk, hp, hn1⟩
  have SL1 : Hid (Sl10 w1 A1 n1 c1) := sl1
  have SL2 : Hid (Sl10 w1 A2 n2 c2) := sl2
  have K1 : Hid (us.length = n1) := k1
  have K2 : Hid (vs.length = n2) := k2
  have NE : Hid (Nl q l cl) := nE.elim (fun h => .inl h) (fun ⟨g, e, _⟩ => .inr ⟨g, 0, e⟩)
  have LE : Hid (es.length = l) := lE
  clear sl1 sl2 k1 k2 lE nE
  have ya : (w1.alloc (.cells #[.slice A1 n1 c1, .slice A2 n2 c2] 25)).heap.size = w1.heap.size + 1 := by simp
  have aa := (New.refl w1).alloc (.cells #[.slice A1 n1 c1, .slice A2 n2 c2] 25)
  have ab := (New.refl (w1.alloc (.cells #[.slice A1 n1 c1, .slice A2 n2 c2] 25))).alloc (.cells #[.int .i64 ep, .int .i64 ki, .int .i64 pe, .slice q l cl] 40)
  have al := aa.trans ab
  have b2 := (Blk.mk w1 w1.heap.size 25 #[.slice A1 n1 c1, .slice A2 n2 c2] rfl).new ab
  have d2 : Blk ((w1.alloc (.cells #[.slice A1 n1 c1, .slice A2 n2 c2] 25)).alloc (.cells #[.int .i64 ep, .int .i64 ki, .int .i64 pe, .slice q l cl] 40)) (w1.heap.size + 1) 40 #[.int .i64 ep, .int .i64 ki, .int .i64 pe, .slice q l cl] := by have := Blk.mk (w1.alloc (.cells #[.slice A1 n1 c1, .slice A2 n2 c2] 25)) (w1.alloc (.cells #[.slice A1 n1 c1, .slice A2 n2 c2] 25)).heap.size 40 #[.int .i64 ep, .int .i64 ki, .int .i64 pe, .slice q l cl] rfl; rw [ya] at this; exact this
  have N2 := hn1.trans al
  have x12 := x1.new al
  have x22 := x2.new al
  have xE2 := xE.new al
  have zz2 := al.size
  go_upto_region 4 with fail
  clear aa ab ya
  generalize ((w1.alloc (.cells #[.slice A1 n1 c1, .slice A2 n2 c2] 25)).alloc (.cells #[.int .i64 ep, .int .i64 ki, .int .i64 pe, .slice q l cl] 40)) = w2 at *
  have z2 := d2.lt
  clear al hn1 x1 x2 xE
  obtain ⟨⟨z, ct, us', vs'⟩, HR⟩ : ∃ r, Hid (r = axA us vs ep ki pe es) := ⟨_, rfl⟩
  have cc2 := b2.cells
  have cd2 := d2.cells
  go_wp2_with fail
  have hI := implAxn A1 A2 n1 c1 n2 c2 us vs w2 x12 x22 (SL1.out.up (by omega)) (SL2.out.up (by omega)) K1.out K2.out q1 q2 (by omega) (by omega) ep ki pe q l cl es xE2 NE.out LE.out (by omega)
  rw [← HR.out] at hI
  refine hI.mono ?_
  rintro e w3 hF
  obtain ⟨l1, l2⟩ := ax_bdz HR.out x12.lt x22.lt xE2.lt
  obtain ⟨P1, p1, d1, P2, p2, e2, rfl, jd3, hn3⟩ := jr_jd (z := z) (ct := ct) hF l1 l2
  clear hI hF cc2 cd2
  have al := (New.refl w3).alloc (.cells #[.int .i64 z, .int .i64 ct, .slice P1 p1 d1, .slice P2 p2 e2] 29)
  have r4 := Blk.mk w3 w3.heap.size 29 #[.int .i64 z, .int .i64 ct, .slice P1 p1 d1, .slice P2 p2 e2] rfl
  have b4 := (b2.new hn3).new al
  have d4 := (d2.new hn3).new al
  have N4 := (N2.trans hn3).trans al
  have x14 := (x12.new hn3).new al
  have x24 := (x22.new hn3).new al
  have xE4 := (xE2.new hn3).new al
  have jd4 := jd3.new al
  have z34 := al.size
  have z23 := hn3.size
  go_upto_region 5 with fail
  generalize w3.alloc (.cells #[.int .i64 z, .int .i64 ct, .slice P1 p1 d1, .slice P2 p2 e2] 29) = w4 at *
  clear al b2 d2 N2 x12 x22 xE2 jd3 hn3
  have hfd : ∀ (c0 c1 c2 c3 : Value) (X : World), (Instr.field 29 (.agg #[c0, c1, c2, c3]) 0).run Try.prog X = .ok c0 X := fun _ _ _ _ _ => by kernel_rfl
  by_cases hc : z = 0
  case neg =>
    have hc' : (z != 0) = true := by simpa using hc
    have hrr : (z == z) = true := by simp
    have c4 := r4.cells
    go_upto_region 6 with fail
    clear c4
    refine hw_start (n := 8) (S := fun X => New w4 X) rfl (by kernel_rfl) ((New.refl _).drew) (fun hH => ?_)
    refine' hw_take 0 (some 23) (.agg #[.slice A1 n1 c1, .slice A2 n2 c2]) rfl rfl (by kernel_rfl) (by kernel_rfl) (by kernel_rfl) (fun _ _ _ h => h) (by rfl) hH ?hzA ?rzA
    case hzA =>
      intro X hX
      exact run_load_blk 25 (.tmp 3) rfl w1.heap.size rfl #[.slice A1 n1 c1, .slice A2 n2 c2] _ (b4.new hX) Try.underlying25 rfl (by kernel_rfl)
    simp only [Act.put, List.setIfInBounds_toArray, List.set_cons_zero, List.set_cons_succ]
    refine' hw_take 1 (some 24) (.agg #[.int .i64 ep, .int .i64 ki, .int .i64 pe, .slice q l cl]) rfl rfl (by kernel_rfl) (by kernel_rfl) (by kernel_rfl) (fun _ _ _ h => h) (by rfl) hH ?hzB ?rzB
    case hzB =>
      intro X hX
      exact run_load_blk 40 (.tmp 4) rfl (w1.heap.size + 1) rfl #[.int .i64 ep, .int .i64 ki, .int .i64 pe, .slice q l cl] _ (d4.new hX) Try.underlying40 rfl (by kernel_rfl)
    simp only [Act.put, List.setIfInBounds_toArray, List.set_cons_zero, List.set_cons_succ]
    refine' hw_take 4 (some 27) _ rfl rfl (by kernel_rfl) (by kernel_rfl) (by kernel_rfl) (fun _ _ _ h => h) (by rfl) hH ?hy1 ?rest1
    case hy1 =>
      intro X hX
      go_simp
      try rfl
    simp only [Act.put, List.setIfInBounds_toArray, List.set_cons_zero, List.set_cons_succ]
    refine' hw_take 5 (some 28) _ rfl rfl (by kernel_rfl) (by kernel_rfl) (by kernel_rfl) (fun _ _ _ h => h) (by rfl) hH ?hy2 ?rest2
    case hy2 =>
      intro X hX
      have cX := (r4.new hX).cells
      go_simp
      try rfl
    simp only [Act.put, List.setIfInBounds_toArray, List.set_cons_zero, List.set_cons_succ]
    refine hw_call 2 (some 25) rfl rfl (by kernel_rfl) (by rfl) (fun K hK => ?_)
    go_simp
    have hI := specAxn A1 A2 n1 c1 n2 c2 us vs _ (x14.new hH) (x24.new hH) SL1.out.nl SL2.out.nl K1.out K2.out q1 q2 (by omega) (by omega) ep ki pe q l cl es (xE4.new hH) NE.out LE.out (by omega)
    rw [← HR.out] at hI
    refine hI.mono ?_
    rintro e w5 hF
    obtain ⟨Q1, o1, e1, Q2, o2, f2, rfl, jd5, hn5⟩ := jr_jd (z := z) (ct := ct) hF l1 l2
    clear hI hF
    go_simp
    have n5 := hH.trans hn5
    refine hK.out _ _ n5 (fun _ => ?_)
    simp only [Act.put, List.setIfInBounds_toArray, List.set_cons_zero, List.set_cons_succ]
    refine' hw_take 3 (some 26) _ rfl rfl (by kernel_rfl) (by kernel_rfl) (by kernel_rfl) (fun _ _ _ h => h) (by rfl) n5 ?hy3 ?rest3
    case hy3 =>
      intro X hX
      go_simp
      try rfl
    simp only [Act.put, List.setIfInBounds_toArray, List.set_cons_zero, List.set_cons_succ]
    refine' hw_take 6 (some 29) _ rfl rfl (by kernel_rfl) (by kernel_rfl) (by kernel_rfl) (fun _ _ _ h => h) (by rfl) n5 ?hy4 ?rest4
    case hy4 =>
      intro X hX
      go_simp
      try rfl
    simp only [Act.put, List.setIfInBounds_toArray, List.set_cons_zero, List.set_cons_succ]
    refine' hw_take 7 (some 2) _ rfl rfl (by kernel_rfl) (by kernel_rfl) (by kernel_rfl) (fun _ _ _ h => h) (by rfl) n5 ?hy5 ?rest5
    case hy5 =>
      intro X hX
      go_simp
      try rfl
    simp only [Act.put, List.setIfInBounds_toArray, List.set_cons_zero, List.set_cons_succ]
    refine wpAnyH_done (by kernel_rfl) ?_ _
    go_wp2
    go_ret
    exact ⟨rfl, N4.trans n5⟩
  subst hc
  obtain ⟨hEF, hjf, h6, hat, hpos, hlast⟩ := ax_zero HR.out
  have J1 : Hid (us'.length = p1) := jd4.l1
  have J2 : Hid (vs'.length = p2) := jd4.l2
  obtain ⟨y1, g1, -⟩ := ov_open jd4.o1 jd4.l1 jd4.b1
  obtain ⟨y2, g2, -⟩ := ov_open jd4.o2 jd4.l2 jd4.b2
  have T1 : Hid (Sl10 w4 P1 p1 d1) := jd4.sl.1
  have T2 : Hid (Sl10 w4 P2 p2 e2) := jd4.sl.2
  have h6' : p1 + p2 ≤ 6000 := by have := J1.out; have := J2.out; omega
  have HEF : Hid (enF ep ki pe es.length = 0) := hEF
  have HJF : Hid (jF us' vs' = 0) := hjf
  have HAT : Hid (((eAts (us' ++ vs') 0).length : Int) = ct) := hat
  have HPOS : Hid (0 < (eAts (us' ++ vs') 0).length) := hpos
  have HLAST : Hid (((eAts (us' ++ vs') 0).map (enD (us' ++ vs')))[(eAts (us' ++ vs') 0).length - 1]? = some ⟨ep, ki, pe, es⟩) := hlast
  have HLL : Hid ((us' ++ vs').length = p1 + p2) := by show (us' ++ vs').length = p1 + p2; rw [List.length_append, J1.out, J2.out]
  have HB : Hid (∀ z ∈ us' ++ vs', 0 ≤ z ∧ z ≤ 255) := by intro z hz; rcases List.mem_append.1 hz with hz | hz; exact l1 z hz; exact l2 z hz
  clear hEF hjf h6 hat hpos hlast HR
  obtain ⟨i0, hi, hz0, hz1, hz2⟩ := info_parts Try.infoU8
  have c4 := r4.cells
  have HZ : Hid (reZ (us' ++ vs') = 0) := by show reZ _ = 0; unfold reZ; rw [if_neg (by have := HLL.out; omega)]
  have HD : Hid (reD (us' ++ vs') = (eAts (us' ++ vs') 0).map (enD (us' ++ vs'))) := by show reD _ = _; unfold reD; rw [if_neg (by have := HLL.out; omega)]
  clear x14 x24
  go_upto_region 7 with fail
  clear c4
  refine Code.wp_mono (Q := fun e a' W => match e with | .normal => (∃ (B : Nat) (yE : Option Addr) (dE : Nat) (U : List EnV) (x30 x34 x38 x39 : Value), a' = { tmps := #[.slice a n c, undef, .bool false, .pointer (some ⟨w1.heap.size, 0, none⟩), .pointer (some ⟨w1.heap.size + 1, 0, none⟩), .pointer (some ⟨w3.heap.size, 0, none⟩), .pointer (some ⟨B, 0, none⟩), undef, undef, undef, .slice a n c, .bool false, .tuple #[.agg #[.slice A1 n1 c1, .slice A2 n2 c2], .agg #[.int .i64 ep, .int .i64 ki, .int .i64 pe, .slice q l cl]], .slice a n c, .tuple #[.agg #[.slice A1 n1 c1, .slice A2 n2 c2], .agg #[.int .i64 ep, .int .i64 ki, .int .i64 pe, .slice q l cl]], .agg #[.slice A1 n1 c1, .slice A2 n2 c2], .agg #[.int .i64 ep, .int .i64 ki, .int .i64 pe, .slice q l cl], .agg #[.slice A1 n1 c1, .slice A2 n2 c2], .agg #[.int .i64 ep, .int .i64 ki, .int .i64 pe, .slice q l cl], .agg #[.int .i64 0, .int .i64 ct, .slice P1 p1 d1, .slice P2 p2 e2], .pointer (some ⟨w3.heap.size, 0, none⟩), .int .i64 0, .bool false, undef, undef, undef, undef, undef, undef, undef, x30, .pointer (some ⟨w3.heap.size, 2, none⟩), .pointer (some ⟨w3.heap.size, 2, none⟩), .slice P1 p1 d1, x34, .pointer (some ⟨w3.heap.size, 2, none⟩), .pointer (some ⟨w3.heap.size, 3, none⟩), .slice P2 p2 e2, x38, x39, undef, undef, undef, undef, undef, undef, undef, undef, undef, undef, undef, undef, undef, undef, undef, undef, undef, undef, undef, undef, undef, undef, undef, undef, undef, undef, undef, undef, undef, undef, undef, undef, undef, undef, undef, undef, undef, undef, undef, undef, undef, undef, undef, undef, undef, undef, undef, undef, undef, undef, undef, undef, undef, undef, undef, undef, undef, undef, undef, undef, undef, undef, undef, undef, undef, undef, undef, undef, undef, undef, undef, undef, undef, undef, undef, undef, undef, undef, undef], defers := [] } ∧ New w4 W ∧ Blk W B 33 #[.int .i64 0, .int .i64 (reU (us' ++ vs')), .slice yE U.length dE] ∧ w4.heap.size ≤ B ∧ (∃ lo hi', Rd7 W lo hi' yE U) ∧ U.map EnV.r = reD (us' ++ vs') ∧ ∀ u ∈ U, u.a = none → u.c = 0) | _ => False) ?hq7 ?h7
  case h7 =>
    refine hw_start (n := 12) (S := fun X => New w4 X) rfl (by kernel_rfl) ((New.refl _).drew) (fun hH => ?_)
    have nwd := (New.refl w4).drew
    generalize w4.drew = wd at *
    refine' hw_take 1 (some 31) _ rfl rfl (by kernel_rfl) (by kernel_rfl) (by kernel_rfl) (fun _ _ _ h => h) (by rfl) hH ?hy12 ?rest12
    case hy12 =>
      intro X hX
      go_simp
      try rfl
    simp only [Act.put, List.setIfInBounds_toArray, List.set_cons_zero, List.set_cons_succ]
    refine' hw_take 2 (some 32) _ rfl rfl (by kernel_rfl) (by kernel_rfl) (by kernel_rfl) (fun _ _ _ h => h) (by rfl) hH ?hy13 ?rest13
    case hy13 =>
      intro X hX
      go_simp
      try rfl
    simp only [Act.put, List.setIfInBounds_toArray, List.set_cons_zero, List.set_cons_succ]
    refine' hw_take 3 (some 33) _ rfl rfl (by kernel_rfl) (by kernel_rfl) (by kernel_rfl) (fun _ _ _ h => h) (by rfl) hH ?hy14 ?rest14
    case hy14 =>
      intro X hX
      have cX := (r4.new hX).cells
      go_simp
      try rfl
    simp only [Act.put, List.setIfInBounds_toArray, List.set_cons_zero, List.set_cons_succ]
    refine' hw_take 5 (some 35) _ rfl rfl (by kernel_rfl) (by kernel_rfl) (by kernel_rfl) (fun _ _ _ h => h) (by rfl) hH ?hy15 ?rest15
    case hy15 =>
      intro X hX
      go_simp
      try rfl
    simp only [Act.put, List.setIfInBounds_toArray, List.set_cons_zero, List.set_cons_succ]
    refine' hw_take 6 (some 36) _ rfl rfl (by kernel_rfl) (by kernel_rfl) (by kernel_rfl) (fun _ _ _ h => h) (by rfl) hH ?hy16 ?rest16
    case hy16 =>
      intro X hX
      go_simp
      try rfl
    simp only [Act.put, List.setIfInBounds_toArray, List.set_cons_zero, List.set_cons_succ]
    refine' hw_take 7 (some 37) _ rfl rfl (by kernel_rfl) (by kernel_rfl) (by kernel_rfl) (fun _ _ _ h => h) (by rfl) hH ?hy17 ?rest17
    case hy17 =>
      intro X hX
      have cX := (r4.new hX).cells
      go_simp
      try rfl
    simp only [Act.put, List.setIfInBounds_toArray, List.set_cons_zero, List.set_cons_succ]
    refine wpAnyH_ready (rs := [0, 10]) (by kernel_rfl) (by simp) (hw_step 0 (some 30) rfl rfl (by rfl) (fun K hK => ?q1) (hw_step 10 (some 6) rfl rfl (by rfl) (fun K hK => ?q2) (by intro j hj; cases hj)))
    case q2 =>
      go_simp
      have alq3 := (New.refl wd).alloc (.cells #[.int .i64 0, .int .i64 0, .slice none 0 0] 33)
      have fq3 := Blk.mk wd wd.heap.size 33 #[.int .i64 0, .int .i64 0, .slice none 0 0] rfl
      have zBq3 := nwd.size
      have nq3 := nwd.trans alq3
      refine hK.out _ _ nq3 (fun _ => ?_)
      simp only [Act.put, List.setIfInBounds_toArray, List.set_cons_zero, List.set_cons_succ]
      generalize wd.alloc (.cells #[.int .i64 0, .int .i64 0, .slice none 0 0] 33) = q3 at *
      clear alq3
      refine hw_call 0 (some 30) rfl rfl (by kernel_rfl) (by rfl) (fun K hK => ?_)
      go_simp
      have alq4 := (New.refl q3).alloc (.cells #[] 5)
      have bEq4 : Blk (q3.alloc (.cells #[] 5)) q3.heap.size 5 #[] := Blk.mk q3 q3.heap.size 5 #[] rfl
      have zsq4 := nq3.size
      have ovq4 : OvB (q3.alloc (.cells #[] 5)) w4.heap.size (.slice (some ⟨q3.heap.size, 0, none⟩) 0 0) [] := ⟨rfl, .inr ⟨q3.heap.size, 0, #[], rfl, zsq4, bEq4, Nat.le_refl _, by unfold maxLen; omega, rfl, rfl⟩⟩
      have nq4 := nq3.trans alq4
      have fq4 := fq3.new alq4
      refine hK.out _ _ nq4 (fun _ => ?_)
      simp only [Act.put, List.setIfInBounds_toArray, List.set_cons_zero, List.set_cons_succ]
      generalize q3.alloc (.cells #[] 5) = q4 at *
      clear alq4 bEq4
      refine hw_call 4 (some 34) rfl rfl (by kernel_rfl) (by rfl) (fun K hK => ?_)
      have zsq5 := nq4.size
      refine wp_apB _ (.tmp 30) (.tmp 33) rfl w4.heap.size Try.underlying22 hi hz0 hz1 hz2 (.slice (some ⟨q3.heap.size, 0, none⟩) 0 0) [] rfl ovq4 P1 p1 d1 us' rfl (y1.new nq4) J1.out T1.out.no (by simp; omega) (by omega) ?_
      intro vq5 q5 hoq5 hgq5
      have tq5 := turn_of_grown10 hgq5
      have nq5 := nq4.before tq5 (by intro i hi e; have := ovq4.blk i e; omega)
      have ovq5 : OvB q5 w4.heap.size vq5 us' := by simpa [OvB] using hoq5
      have fq5 := fq4.turn tq5 (blk_ne8 fq4 ovq4 (by decide))
      clear hoq5 hgq5 tq5
      refine hK.out _ _ nq5 (fun _ => ?_)
      simp only [Act.put, List.setIfInBounds_toArray, List.set_cons_zero, List.set_cons_succ]
      refine hw_call 8 (some 38) rfl rfl (by kernel_rfl) (by rfl) (fun K hK => ?_)
      have zsq6 := nq5.size
      refine wp_apB _ (.tmp 34) (.tmp 37) rfl w4.heap.size Try.underlying22 hi hz0 hz1 hz2 vq5 us' rfl ovq5 P2 p2 e2 vs' rfl (y2.new nq5) J2.out T2.out.no (by have := J1.out; omega) (by omega) ?_
      intro vq6 q6 hoq6 hgq6
      have tq6 := turn_of_grown10 hgq6
      have nq6 := nq5.before tq6 (by intro i hi e; have := ovq5.blk i e; omega)
      have ovq6 : OvB q6 w4.heap.size vq6 (us' ++ vs') := by simpa [OvB] using hoq6
      have fq6 := fq5.turn tq6 (blk_ne8 fq5 ovq5 (by decide))
      clear hoq6 hgq6 tq6
      refine hK.out _ _ nq6 (fun _ => ?_)
      simp only [Act.put, List.setIfInBounds_toArray, List.set_cons_zero, List.set_cons_succ]
      refine hw_call 9 (some 39) rfl rfl (by kernel_rfl) (by rfl) (fun K hK => ?_)
      obtain ⟨A8, c8, e8, X8, g8, sl8, -⟩ := ovq6.bs HB.out
      rw [HLL.out] at e8 g8 sl8
      subst e8
      have zsq7 := nq6.size
      have sl8' : Sl10 q6 A8 (p1 + p2) c8 := by
        rcases sl8 with h' | ⟨g, e, h1, h2⟩
        · exact .inl h'
        · exact .inr ⟨g, 0, e, by omega⟩
      go_simp
      refine (implREs A8 (p1 + p2) c8 (us' ++ vs') q6 X8 sl8' HLL.out g8 (by omega)).mono ?_
      rintro e q7 hRE
      replace hRE := hRE.er7 HB.out
      rw [HZ.out] at hRE
      obtain ⟨yE, dE, U, rfl, hUr, hEA, hOw, nnq7, hnl⟩ := hRE
      have nq7 := nq6.trans nnq7
      have ztq7 := nnq7.size
      have rdq7 : Rd7 q7 q6.heap.size q7.heap.size yE U := Rd7.mk0 hEA hOw
      have lq7 := fq6.lt
      have fq7 := fq6.new nnq7
      clear hEA hOw X8 sl8 sl8' nnq7
      go_simp
      refine hK.out _ _ nq7 (fun _ => ?_)
      simp only [Act.put, List.setIfInBounds_toArray, List.set_cons_zero, List.set_cons_succ]
      refine hw_call 11 none rfl rfl (by kernel_rfl) (by rfl) (fun K hK => ?_)
      refine hw_store 33 (.tmp 6) (.tmp 39) rfl rfl wd.heap.size #[.int .i64 0, .int .i64 (reU (us' ++ vs')), .slice yE U.length dE] #[.int .i64 0, .int .i64 0, .slice none 0 0] rfl rfl fq7 (by kernel_rfl) rfl (by kernel_rfl) ?_
      have tRq8 := Turn.rowW (Turn.refl (fun i => i = wd.heap.size) q7) rfl #[.int .i64 0, .int .i64 (reU (us' ++ vs')), .slice yE U.length dE]
      have fq8 := fq7.rowW #[.int .i64 0, .int .i64 (reU (us' ++ vs')), .slice yE U.length dE]
      have nq8 := nq7.before tRq8 (by intro i hi e; omega)
      have rdq8 := rdq7.put tRq8 (by omega)
      refine hK.out undef _ nq8 (fun _ => ?_)
      try simp only [Act.put, List.setIfInBounds_toArray, List.set_cons_zero, List.set_cons_succ]
      refine wpAnyH_done (by kernel_rfl) ?_ _
      exact ⟨wd.heap.size, yE, dE, U, _, _, _, _, rfl, nq8, fq8, by omega, ⟨_, _, rdq8⟩, hUr, hnl⟩
    case q1 =>
      go_simp
      have alq9 := (New.refl wd).alloc (.cells #[] 5)
      have bEq9 : Blk (wd.alloc (.cells #[] 5)) wd.heap.size 5 #[] := Blk.mk wd wd.heap.size 5 #[] rfl
      have zsq9 := nwd.size
      have ovq9 : OvB (wd.alloc (.cells #[] 5)) w4.heap.size (.slice (some ⟨wd.heap.size, 0, none⟩) 0 0) [] := ⟨rfl, .inr ⟨wd.heap.size, 0, #[], rfl, zsq9, bEq9, Nat.le_refl _, by unfold maxLen; omega, rfl, rfl⟩⟩
      have nq9 := nwd.trans alq9
      refine hK.out _ _ nq9 (fun _ => ?_)
      simp only [Act.put, List.setIfInBounds_toArray, List.set_cons_zero, List.set_cons_succ]
      generalize wd.alloc (.cells #[] 5) = q9 at *
      clear alq9 bEq9
      refine wpAnyH_ready (rs := [4, 10]) (by kernel_rfl) (by simp) (hw_step 4 (some 34) rfl rfl (by rfl) (fun K hK => ?q10) (hw_step 10 (some 6) rfl rfl (by rfl) (fun K hK => ?q11) (by intro j hj; cases hj)))
      case q11 =>
        go_simp
        have alq12 := (New.refl q9).alloc (.cells #[.int .i64 0, .int .i64 0, .slice none 0 0] 33)
        have fq12 := Blk.mk q9 q9.heap.size 33 #[.int .i64 0, .int .i64 0, .slice none 0 0] rfl
        have zBq12 := nq9.size
        have nq12 := nq9.trans alq12
        have ovq12 := ovq9.new alq12
        refine hK.out _ _ nq12 (fun _ => ?_)
        simp only [Act.put, List.setIfInBounds_toArray, List.set_cons_zero, List.set_cons_succ]
        generalize q9.alloc (.cells #[.int .i64 0, .int .i64 0, .slice none 0 0] 33) = q12 at *
        clear alq12
        refine hw_call 4 (some 34) rfl rfl (by kernel_rfl) (by rfl) (fun K hK => ?_)
        have zsq13 := nq12.size
        refine wp_apB _ (.tmp 30) (.tmp 33) rfl w4.heap.size Try.underlying22 hi hz0 hz1 hz2 (.slice (some ⟨wd.heap.size, 0, none⟩) 0 0) [] rfl ovq12 P1 p1 d1 us' rfl (y1.new nq12) J1.out T1.out.no (by simp; omega) (by omega) ?_
        intro vq13 q13 hoq13 hgq13
        have tq13 := turn_of_grown10 hgq13
        have nq13 := nq12.before tq13 (by intro i hi e; have := ovq12.blk i e; omega)
        have ovq13 : OvB q13 w4.heap.size vq13 us' := by simpa [OvB] using hoq13
        have fq13 := fq12.turn tq13 (blk_ne8 fq12 ovq12 (by decide))
        clear hoq13 hgq13 tq13
        refine hK.out _ _ nq13 (fun _ => ?_)
        simp only [Act.put, List.setIfInBounds_toArray, List.set_cons_zero, List.set_cons_succ]
        refine hw_call 8 (some 38) rfl rfl (by kernel_rfl) (by rfl) (fun K hK => ?_)
        have zsq14 := nq13.size
        refine wp_apB _ (.tmp 34) (.tmp 37) rfl w4.heap.size Try.underlying22 hi hz0 hz1 hz2 vq13 us' rfl ovq13 P2 p2 e2 vs' rfl (y2.new nq13) J2.out T2.out.no (by have := J1.out; omega) (by omega) ?_
        intro vq14 q14 hoq14 hgq14
        have tq14 := turn_of_grown10 hgq14
        have nq14 := nq13.before tq14 (by intro i hi e; have := ovq13.blk i e; omega)
        have ovq14 : OvB q14 w4.heap.size vq14 (us' ++ vs') := by simpa [OvB] using hoq14
        have fq14 := fq13.turn tq14 (blk_ne8 fq13 ovq13 (by decide))
        clear hoq14 hgq14 tq14
        refine hK.out _ _ nq14 (fun _ => ?_)
        simp only [Act.put, List.setIfInBounds_toArray, List.set_cons_zero, List.set_cons_succ]
        refine hw_call 9 (some 39) rfl rfl (by kernel_rfl) (by rfl) (fun K hK => ?_)
        obtain ⟨A8, c8, e8, X8, g8, sl8, -⟩ := ovq14.bs HB.out
        rw [HLL.out] at e8 g8 sl8
        subst e8
        have zsq15 := nq14.size
        have sl8' : Sl10 q14 A8 (p1 + p2) c8 := by
          rcases sl8 with h' | ⟨g, e, h1, h2⟩
          · exact .inl h'
          · exact .inr ⟨g, 0, e, by omega⟩
        go_simp
        refine (implREs A8 (p1 + p2) c8 (us' ++ vs') q14 X8 sl8' HLL.out g8 (by omega)).mono ?_
        rintro e q15 hRE
        replace hRE := hRE.er7 HB.out
        rw [HZ.out] at hRE
        obtain ⟨yE, dE, U, rfl, hUr, hEA, hOw, nnq15, hnl⟩ := hRE
        have nq15 := nq14.trans nnq15
        have ztq15 := nnq15.size
        have rdq15 : Rd7 q15 q14.heap.size q15.heap.size yE U := Rd7.mk0 hEA hOw
        have lq15 := fq14.lt
        have fq15 := fq14.new nnq15
        clear hEA hOw X8 sl8 sl8' nnq15
        go_simp
        refine hK.out _ _ nq15 (fun _ => ?_)
        simp only [Act.put, List.setIfInBounds_toArray, List.set_cons_zero, List.set_cons_succ]
        refine hw_call 11 none rfl rfl (by kernel_rfl) (by rfl) (fun K hK => ?_)
        refine hw_store 33 (.tmp 6) (.tmp 39) rfl rfl q9.heap.size #[.int .i64 0, .int .i64 (reU (us' ++ vs')), .slice yE U.length dE] #[.int .i64 0, .int .i64 0, .slice none 0 0] rfl rfl fq15 (by kernel_rfl) rfl (by kernel_rfl) ?_
        have tRq16 := Turn.rowW (Turn.refl (fun i => i = q9.heap.size) q15) rfl #[.int .i64 0, .int .i64 (reU (us' ++ vs')), .slice yE U.length dE]
        have fq16 := fq15.rowW #[.int .i64 0, .int .i64 (reU (us' ++ vs')), .slice yE U.length dE]
        have nq16 := nq15.before tRq16 (by intro i hi e; omega)
        have rdq16 := rdq15.put tRq16 (by omega)
        refine hK.out undef _ nq16 (fun _ => ?_)
        try simp only [Act.put, List.setIfInBounds_toArray, List.set_cons_zero, List.set_cons_succ]
        refine wpAnyH_done (by kernel_rfl) ?_ _
        exact ⟨q9.heap.size, yE, dE, U, _, _, _, _, rfl, nq16, fq16, by omega, ⟨_, _, rdq16⟩, hUr, hnl⟩
      case q10 =>
        have zsq17 := nq9.size
        refine wp_apB _ (.tmp 30) (.tmp 33) rfl w4.heap.size Try.underlying22 hi hz0 hz1 hz2 (.slice (some ⟨wd.heap.size, 0, none⟩) 0 0) [] rfl ovq9 P1 p1 d1 us' rfl (y1.new nq9) J1.out T1.out.no (by simp; omega) (by omega) ?_
        intro vq17 q17 hoq17 hgq17
        have tq17 := turn_of_grown10 hgq17
        have nq17 := nq9.before tq17 (by intro i hi e; have := ovq9.blk i e; omega)
        have ovq17 : OvB q17 w4.heap.size vq17 us' := by simpa [OvB] using hoq17
        clear hoq17 hgq17 tq17
        refine hK.out _ _ nq17 (fun _ => ?_)
        simp only [Act.put, List.setIfInBounds_toArray, List.set_cons_zero, List.set_cons_succ]
        refine wpAnyH_ready (rs := [8, 10]) (by kernel_rfl) (by simp) (hw_step 8 (some 38) rfl rfl (by rfl) (fun K hK => ?q18) (hw_step 10 (some 6) rfl rfl (by rfl) (fun K hK => ?q19) (by intro j hj; cases hj)))
        case q19 =>
          go_simp
          have alq20 := (New.refl q17).alloc (.cells #[.int .i64 0, .int .i64 0, .slice none 0 0] 33)
          have fq20 := Blk.mk q17 q17.heap.size 33 #[.int .i64 0, .int .i64 0, .slice none 0 0] rfl
          have zBq20 := nq17.size
          have nq20 := nq17.trans alq20
          have ovq20 := ovq17.new alq20
          refine hK.out _ _ nq20 (fun _ => ?_)
          simp only [Act.put, List.setIfInBounds_toArray, List.set_cons_zero, List.set_cons_succ]
          generalize q17.alloc (.cells #[.int .i64 0, .int .i64 0, .slice none 0 0] 33) = q20 at *
          clear alq20
          refine hw_call 8 (some 38) rfl rfl (by kernel_rfl) (by rfl) (fun K hK => ?_)
          have zsq21 := nq20.size
          refine wp_apB _ (.tmp 34) (.tmp 37) rfl w4.heap.size Try.underlying22 hi hz0 hz1 hz2 vq17 us' rfl ovq20 P2 p2 e2 vs' rfl (y2.new nq20) J2.out T2.out.no (by have := J1.out; omega) (by omega) ?_
          intro vq21 q21 hoq21 hgq21
          have tq21 := turn_of_grown10 hgq21
          have nq21 := nq20.before tq21 (by intro i hi e; have := ovq20.blk i e; omega)
          have ovq21 : OvB q21 w4.heap.size vq21 (us' ++ vs') := by simpa [OvB] using hoq21
          have fq21 := fq20.turn tq21 (blk_ne8 fq20 ovq20 (by decide))
          clear hoq21 hgq21 tq21
          refine hK.out _ _ nq21 (fun _ => ?_)
          simp only [Act.put, List.setIfInBounds_toArray, List.set_cons_zero, List.set_cons_succ]
          refine hw_call 9 (some 39) rfl rfl (by kernel_rfl) (by rfl) (fun K hK => ?_)
          obtain ⟨A8, c8, e8, X8, g8, sl8, -⟩ := ovq21.bs HB.out
          rw [HLL.out] at e8 g8 sl8
          subst e8
          have zsq22 := nq21.size
          have sl8' : Sl10 q21 A8 (p1 + p2) c8 := by
            rcases sl8 with h' | ⟨g, e, h1, h2⟩
            · exact .inl h'
            · exact .inr ⟨g, 0, e, by omega⟩
          go_simp
          refine (implREs A8 (p1 + p2) c8 (us' ++ vs') q21 X8 sl8' HLL.out g8 (by omega)).mono ?_
          rintro e q22 hRE
          replace hRE := hRE.er7 HB.out
          rw [HZ.out] at hRE
          obtain ⟨yE, dE, U, rfl, hUr, hEA, hOw, nnq22, hnl⟩ := hRE
          have nq22 := nq21.trans nnq22
          have ztq22 := nnq22.size
          have rdq22 : Rd7 q22 q21.heap.size q22.heap.size yE U := Rd7.mk0 hEA hOw
          have lq22 := fq21.lt
          have fq22 := fq21.new nnq22
          clear hEA hOw X8 sl8 sl8' nnq22
          go_simp
          refine hK.out _ _ nq22 (fun _ => ?_)
          simp only [Act.put, List.setIfInBounds_toArray, List.set_cons_zero, List.set_cons_succ]
          refine hw_call 11 none rfl rfl (by kernel_rfl) (by rfl) (fun K hK => ?_)
          refine hw_store 33 (.tmp 6) (.tmp 39) rfl rfl q17.heap.size #[.int .i64 0, .int .i64 (reU (us' ++ vs')), .slice yE U.length dE] #[.int .i64 0, .int .i64 0, .slice none 0 0] rfl rfl fq22 (by kernel_rfl) rfl (by kernel_rfl) ?_
          have tRq23 := Turn.rowW (Turn.refl (fun i => i = q17.heap.size) q22) rfl #[.int .i64 0, .int .i64 (reU (us' ++ vs')), .slice yE U.length dE]
          have fq23 := fq22.rowW #[.int .i64 0, .int .i64 (reU (us' ++ vs')), .slice yE U.length dE]
          have nq23 := nq22.before tRq23 (by intro i hi e; omega)
          have rdq23 := rdq22.put tRq23 (by omega)
          refine hK.out undef _ nq23 (fun _ => ?_)
          try simp only [Act.put, List.setIfInBounds_toArray, List.set_cons_zero, List.set_cons_succ]
          refine wpAnyH_done (by kernel_rfl) ?_ _
          exact ⟨q17.heap.size, yE, dE, U, _, _, _, _, rfl, nq23, fq23, by omega, ⟨_, _, rdq23⟩, hUr, hnl⟩
        case q18 =>
          have zsq24 := nq17.size
          refine wp_apB _ (.tmp 34) (.tmp 37) rfl w4.heap.size Try.underlying22 hi hz0 hz1 hz2 vq17 us' rfl ovq17 P2 p2 e2 vs' rfl (y2.new nq17) J2.out T2.out.no (by have := J1.out; omega) (by omega) ?_
          intro vq24 q24 hoq24 hgq24
          have tq24 := turn_of_grown10 hgq24
          have nq24 := nq17.before tq24 (by intro i hi e; have := ovq17.blk i e; omega)
          have ovq24 : OvB q24 w4.heap.size vq24 (us' ++ vs') := by simpa [OvB] using hoq24
          clear hoq24 hgq24 tq24
          refine hK.out _ _ nq24 (fun _ => ?_)
          simp only [Act.put, List.setIfInBounds_toArray, List.set_cons_zero, List.set_cons_succ]
          refine wpAnyH_ready (rs := [9, 10]) (by kernel_rfl) (by simp) (hw_step 9 (some 39) rfl rfl (by rfl) (fun K hK => ?q25) (hw_step 10 (some 6) rfl rfl (by rfl) (fun K hK => ?q26) (by intro j hj; cases hj)))
          case q26 =>
            go_simp
            have alq27 := (New.refl q24).alloc (.cells #[.int .i64 0, .int .i64 0, .slice none 0 0] 33)
            have fq27 := Blk.mk q24 q24.heap.size 33 #[.int .i64 0, .int .i64 0, .slice none 0 0] rfl
            have zBq27 := nq24.size
            have nq27 := nq24.trans alq27
            have ovq27 := ovq24.new alq27
            refine hK.out _ _ nq27 (fun _ => ?_)
            simp only [Act.put, List.setIfInBounds_toArray, List.set_cons_zero, List.set_cons_succ]
            generalize q24.alloc (.cells #[.int .i64 0, .int .i64 0, .slice none 0 0] 33) = q27 at *
            clear alq27
            refine hw_call 9 (some 39) rfl rfl (by kernel_rfl) (by rfl) (fun K hK => ?_)
            obtain ⟨A8, c8, e8, X8, g8, sl8, -⟩ := ovq27.bs HB.out
            rw [HLL.out] at e8 g8 sl8
            subst e8
            have zsq28 := nq27.size
            have sl8' : Sl10 q27 A8 (p1 + p2) c8 := by
              rcases sl8 with h' | ⟨g, e, h1, h2⟩
              · exact .inl h'
              · exact .inr ⟨g, 0, e, by omega⟩
            go_simp
            refine (implREs A8 (p1 + p2) c8 (us' ++ vs') q27 X8 sl8' HLL.out g8 (by omega)).mono ?_
            rintro e q28 hRE
            replace hRE := hRE.er7 HB.out
            rw [HZ.out] at hRE
            obtain ⟨yE, dE, U, rfl, hUr, hEA, hOw, nnq28, hnl⟩ := hRE
            have nq28 := nq27.trans nnq28
            have ztq28 := nnq28.size
            have rdq28 : Rd7 q28 q27.heap.size q28.heap.size yE U := Rd7.mk0 hEA hOw
            have lq28 := fq27.lt
            have fq28 := fq27.new nnq28
            clear hEA hOw X8 sl8 sl8' nnq28
            go_simp
            refine hK.out _ _ nq28 (fun _ => ?_)
            simp only [Act.put, List.setIfInBounds_toArray, List.set_cons_zero, List.set_cons_succ]
            refine hw_call 11 none rfl rfl (by kernel_rfl) (by rfl) (fun K hK => ?_)
            refine hw_store 33 (.tmp 6) (.tmp 39) rfl rfl q24.heap.size #[.int .i64 0, .int .i64 (reU (us' ++ vs')), .slice yE U.length dE] #[.int .i64 0, .int .i64 0, .slice none 0 0] rfl rfl fq28 (by kernel_rfl) rfl (by kernel_rfl) ?_
            have tRq29 := Turn.rowW (Turn.refl (fun i => i = q24.heap.size) q28) rfl #[.int .i64 0, .int .i64 (reU (us' ++ vs')), .slice yE U.length dE]
            have fq29 := fq28.rowW #[.int .i64 0, .int .i64 (reU (us' ++ vs')), .slice yE U.length dE]
            have nq29 := nq28.before tRq29 (by intro i hi e; omega)
            have rdq29 := rdq28.put tRq29 (by omega)
            refine hK.out undef _ nq29 (fun _ => ?_)
            try simp only [Act.put, List.setIfInBounds_toArray, List.set_cons_zero, List.set_cons_succ]
            refine wpAnyH_done (by kernel_rfl) ?_ _
            exact ⟨q24.heap.size, yE, dE, U, _, _, _, _, rfl, nq29, fq29, by omega, ⟨_, _, rdq29⟩, hUr, hnl⟩
          case q25 =>
            obtain ⟨A8, c8, e8, X8, g8, sl8, -⟩ := ovq24.bs HB.out
            rw [HLL.out] at e8 g8 sl8
            subst e8
            have zsq30 := nq24.size
            have sl8' : Sl10 q24 A8 (p1 + p2) c8 := by
              rcases sl8 with h' | ⟨g, e, h1, h2⟩
              · exact .inl h'
              · exact .inr ⟨g, 0, e, by omega⟩
            go_simp
            refine (implREs A8 (p1 + p2) c8 (us' ++ vs') q24 X8 sl8' HLL.out g8 (by omega)).mono ?_
            rintro e q30 hRE
            replace hRE := hRE.er7 HB.out
            rw [HZ.out] at hRE
            obtain ⟨yE, dE, U, rfl, hUr, hEA, hOw, nnq30, hnl⟩ := hRE
            have nq30 := nq24.trans nnq30
            have ztq30 := nnq30.size
            have rdq30 : Rd7 q30 q24.heap.size q30.heap.size yE U := Rd7.mk0 hEA hOw
            clear hEA hOw X8 sl8 sl8' nnq30
            go_simp
            refine hK.out _ _ nq30 (fun _ => ?_)
            simp only [Act.put, List.setIfInBounds_toArray, List.set_cons_zero, List.set_cons_succ]
            refine hw_call 10 (some 6) rfl rfl (by kernel_rfl) (by rfl) (fun K hK => ?_)
            go_simp
            have alq31 := (New.refl q30).alloc (.cells #[.int .i64 0, .int .i64 0, .slice none 0 0] 33)
            have fq31 := Blk.mk q30 q30.heap.size 33 #[.int .i64 0, .int .i64 0, .slice none 0 0] rfl
            have zBq31 := nq30.size
            have nq31 := nq30.trans alq31
            have rdq31 := rdq30.new alq31
            refine hK.out _ _ nq31 (fun _ => ?_)
            simp only [Act.put, List.setIfInBounds_toArray, List.set_cons_zero, List.set_cons_succ]
            generalize q30.alloc (.cells #[.int .i64 0, .int .i64 0, .slice none 0 0] 33) = q31 at *
            clear alq31
            refine hw_call 11 none rfl rfl (by kernel_rfl) (by rfl) (fun K hK => ?_)
            refine hw_store 33 (.tmp 6) (.tmp 39) rfl rfl q30.heap.size #[.int .i64 0, .int .i64 (reU (us' ++ vs')), .slice yE U.length dE] #[.int .i64 0, .int .i64 0, .slice none 0 0] rfl rfl fq31 (by kernel_rfl) rfl (by kernel_rfl) ?_
            have tRq32 := Turn.rowW (Turn.refl (fun i => i = q30.heap.size) q31) rfl #[.int .i64 0, .int .i64 (reU (us' ++ vs')), .slice yE U.length dE]
            have fq32 := fq31.rowW #[.int .i64 0, .int .i64 (reU (us' ++ vs')), .slice yE U.length dE]
            have nq32 := nq31.before tRq32 (by intro i hi e; omega)
            have rdq32 := rdq31.put tRq32 (by omega)
            refine hK.out undef _ nq32 (fun _ => ?_)
            try simp only [Act.put, List.setIfInBounds_toArray, List.set_cons_zero, List.set_cons_succ]
            refine wpAnyH_done (by kernel_rfl) ?_ _
            exact ⟨q30.heap.size, yE, dE, U, _, _, _, _, rfl, nq32, fq32, by omega, ⟨_, _, rdq32⟩, hUr, hnl⟩
  case hq7 =>
    rintro e a7 w10 hq
    cases e <;> simp only at hq
    obtain ⟨B, yE, dE, U, x30, x34, x38, x39, rfl, nR, f10, hB, ⟨lo, hi', rd⟩, hUr, hnl⟩ := hq
    have r10 := r4.new nR
    have b10 := b4.new nR
    have d10 := d4.new nR
    have xE10 := xE4.new nR
    have jd10 := jd4.new nR
    have N10 := N4.trans nR
    have z4A := nR.size
    rw [HD.out] at hUr
    have hUl : U.length = (eAts (us' ++ vs') 0).length := by have := congrArg List.length hUr; simpa using this
    obtain ⟨K, hK⟩ : ∃ K, U.length = K + 1 := ⟨U.length - 1, by have := HPOS.out; omega⟩
    have kE1 : ((K : Int) + 1) = ct := by have := HAT.out; omega
    obtain ⟨yg, ye, yk, yp, ya, yl, yc, ys, rfl, hUk, hyl, hyb, hym, u0, u1, u2, u3⟩ := rd.at'.at K (by omega)
    obtain ⟨rfl, rfl, rfl, rfl⟩ : ep = ye ∧ ki = yk ∧ pe = yp ∧ es = ys := by
      have h1 := HLAST.out
      rw [← hUr, List.getElem?_map, ← hUl, show U.length - 1 = K by omega, hUk] at h1
      simp only [Option.map_some, Option.some.injEq, En.mk.injEq] at h1
      exact ⟨h1.1.symm, h1.2.1.symm, h1.2.2.1.symm, h1.2.2.2.symm⟩
    obtain rfl : l = yl := LE.out.symm.trans hyl
    have YN : ya = none → l = 0 ∧ yc = 0 := fun e => ⟨by have h1 := LE.out; rcases Nat.eq_zero_or_pos l with h2 | h2; exact h2; exact absurd e (hyb.some7 (by omega)), hnl _ (List.mem_of_getElem? hUk) e⟩
    have YB : BsAt w10 ya es := hyb
    rw [hK] at f10
    clear hUr hUk hyl rd nR r4 b4 d4 xE4 jd4 N4 y1 y2 hym hyb
    obtain rfl := kE1
    have t1' : ((K : Int) + 1 == 0) = false := by simp; omega
    have t2' : ((K : Int) + 1 != (K : Int) + 1) = false := by simp
    have hcK : ((K : Int) + 1).toNat - 1 = K := by omega
    have hK6 : K + 1 ≤ 6000 := by have := eAts_len (us' ++ vs') (us' ++ vs').length 0 (by omega); have := HLL.out; omega
    have cr := r10.cells
    have cf := f10.cells
    have cd := d10.cells
    go_wp2_with fail
    have hI := implEN ep ki pe q l cl w10 (by omega)
    rw [show enF ep ki pe l = 0 by rw [← LE.out]; exact HEF.out] at hI
    refine hI.mono ?_
    rintro e w11 ⟨rfl, hn11⟩
    clear hI cr cf cd
    have lY := World.block_lt_of_cell? w10 _ u0
    have v0 : w11.cell? ⟨yg, K * 4, none⟩ = some (.int .i64 ep) := (hn11.cells _ _ lY).trans u0
    have v1 : w11.cell? ⟨yg, K * 4 + 1, none⟩ = some (.int .i64 ki) := (hn11.cells _ _ lY).trans u1
    have v2 : w11.cell? ⟨yg, K * 4 + 2, none⟩ = some (.int .i64 pe) := (hn11.cells _ _ lY).trans u2
    have v3 : w11.cell? ⟨yg, K * 4 + 3, none⟩ = some (.slice ya l yc) := (hn11.cells _ _ lY).trans u3
    have f11 := f10.new hn11
    have cf := f11.cells
    have r11 := r10.new hn11
    have d11 := d10.new hn11
    have xE11 := xE10.new hn11
    have jd11 := jd10.new hn11
    have N11 := N10.trans hn11
    have Y11 := YB.new hn11
    have z11 := hn11.size
    clear u0 u1 u2 u3 f10 r10 d10 b10 xE10 jd10 N10 YB hn11
    have al := (New.refl w11).alloc (.cells #[.int .i64 ep, .int .i64 ki, .int .i64 pe, .slice ya l yc] 40)
    have y12 := Blk.mk w11 w11.heap.size 40 #[.int .i64 ep, .int .i64 ki, .int .i64 pe, .slice ya l yc] rfl
    have r12 := r11.new al
    have d12 := d11.new al
    have xE12 := xE11.new al
    have jd12 := jd11.new al
    have N12 := N11.trans al
    have Y12 := Y11.new al
    have z12 := al.size
    go_upto_region 12 with fail
    generalize w11.alloc (.cells #[.int .i64 ep, .int .i64 ki, .int .i64 pe, .slice ya l yc] 40) = w12 at *
    clear al r11 d11 xE11 jd11 N11 Y11 f11 cf v0 v1 v2 v3 lY
    have cd := d12.cells
    go_wp2_with fail
    have NN : q = none → l = 0 ∧ cl = 0 := by intro e; rcases NE.out with ⟨-, h1, h2⟩ | ⟨g, o, h1⟩; exact ⟨h1, h2⟩; rw [h1] at e; cases e
    refine (implPE ep ki pe q l cl es w12 xE12 LE.out (by omega) NN).mono ?_
    rintro e w13 ⟨pa, pm, pc, ps, rfl, po, pb, pr, hn13, hps, pn⟩
    rw [HEF.out]
    rw [if_pos HEF.out] at hps
    subst hps
    have PL : Hid ((enP ep ki pe es).length = pm) := po.1
    have P13 : BsAt w13 pa (enP ep ki pe es) := po.bs pb
    have al := (New.refl w13).alloc (.cells #[.int .i64 0, .slice pa pm pc] 46)
    have p14 := Blk.mk w13 w13.heap.size 46 #[.int .i64 0, .slice pa pm pc] rfl
    have n14 := hn13.trans al
    have y14 := y12.new n14
    have r14 := r12.new n14
    have d14 := d12.new n14
    have xE14 := xE12.new n14
    have jd14 := jd12.new n14
    have N14 := N12.trans n14
    have Y14 := Y12.new n14
    have P14 := P13.new al
    have z13 := hn13.size
    have z14 := al.size
    go_upto_region 13 with fail
    generalize w13.alloc (.cells #[.int .i64 0, .slice pa pm pc] 46) = w14 at *
    clear al n14 hn13 y12 r12 d12 xE12 jd12 N12 Y12 P13 po pb pr cd
    have sS : ((str9 es).toList == (str9 es).toList) = true := str_same _
    have sP : ((str9 (enP ep ki pe es)).toList == (str9 (enP ep ki pe es)).toList) = true := str_same _
    obtain ⟨jy1, jg1, -⟩ := ov_open jd14.o1 jd14.l1 jd14.b1
    obtain ⟨jy2, jg2, -⟩ := ov_open jd14.o2 jd14.l2 jd14.b2
    refine hw_start (n := 51) (S := fun X => New w14 X) rfl (by kernel_rfl) ((New.refl _).drew) (fun hH => ?_)
    refine' hw_take 0 (some 69) _ rfl rfl (by kernel_rfl) (by kernel_rfl) (by kernel_rfl) (fun _ _ _ h => h) (by rfl) hH ?hy18 ?rest18
    case hy18 =>
      intro X hX
      go_simp
      try rfl
    simp only [Act.put, List.setIfInBounds_toArray, List.set_cons_zero, List.set_cons_succ]
    refine' hw_take 1 (some 70) _ rfl rfl (by kernel_rfl) (by kernel_rfl) (by kernel_rfl) (fun _ _ _ h => h) (by rfl) hH ?hy19 ?rest19
    case hy19 =>
      intro X hX
      have cX := (y14.new hX).cells
      go_simp
      try rfl
    simp only [Act.put, List.setIfInBounds_toArray, List.set_cons_zero, List.set_cons_succ]
    refine' hw_take 2 (some 71) _ rfl rfl (by kernel_rfl) (by kernel_rfl) (by kernel_rfl) (fun _ _ _ h => h) (by rfl) hH ?hy20 ?rest20
    case hy20 =>
      intro X hX
      go_simp
      try rfl
    simp only [Act.put, List.setIfInBounds_toArray, List.set_cons_zero, List.set_cons_succ]
    refine' hw_take 3 (some 72) _ rfl rfl (by kernel_rfl) (by kernel_rfl) (by kernel_rfl) (fun _ _ _ h => h) (by rfl) hH ?hy21 ?rest21
    case hy21 =>
      intro X hX
      have cX := (d14.new hX).cells
      go_simp
      try rfl
    simp only [Act.put, List.setIfInBounds_toArray, List.set_cons_zero, List.set_cons_succ]
    refine' hw_take 4 (some 73) _ rfl rfl (by kernel_rfl) (by kernel_rfl) (by kernel_rfl) (fun _ _ _ h => h) (by rfl) hH ?hy22 ?rest22
    case hy22 =>
      intro X hX
      go_simp
      try rfl
    simp only [Act.put, List.setIfInBounds_toArray, List.set_cons_zero, List.set_cons_succ]
    refine' hw_take 5 (some 74) _ rfl rfl (by kernel_rfl) (by kernel_rfl) (by kernel_rfl) (fun _ _ _ h => h) (by rfl) hH ?hy23 ?rest23
    case hy23 =>
      intro X hX
      go_simp
      try rfl
    simp only [Act.put, List.setIfInBounds_toArray, List.set_cons_zero, List.set_cons_succ]
    refine' hw_take 6 (some 75) _ rfl rfl (by kernel_rfl) (by kernel_rfl) (by kernel_rfl) (fun _ _ _ h => h) (by rfl) hH ?hy24 ?rest24
    case hy24 =>
      intro X hX
      go_simp
      try rfl
    simp only [Act.put, List.setIfInBounds_toArray, List.set_cons_zero, List.set_cons_succ]
    refine' hw_take 7 (some 76) _ rfl rfl (by kernel_rfl) (by kernel_rfl) (by kernel_rfl) (fun _ _ _ h => h) (by rfl) hH ?hy25 ?rest25
    case hy25 =>
      intro X hX
      go_simp
      try rfl
    simp only [Act.put, List.setIfInBounds_toArray, List.set_cons_zero, List.set_cons_succ]
    refine' hw_take 8 (some 77) _ rfl rfl (by kernel_rfl) (by kernel_rfl) (by kernel_rfl) (fun _ _ _ h => h) (by rfl) hH ?hy26 ?rest26
    case hy26 =>
      intro X hX
      have cX := (y14.new hX).cells
      go_simp
      try rfl
    simp only [Act.put, List.setIfInBounds_toArray, List.set_cons_zero, List.set_cons_succ]
    refine' hw_take 9 (some 78) _ rfl rfl (by kernel_rfl) (by kernel_rfl) (by kernel_rfl) (fun _ _ _ h => h) (by rfl) hH ?hy27 ?rest27
    case hy27 =>
      intro X hX
      go_simp
      try rfl
    simp only [Act.put, List.setIfInBounds_toArray, List.set_cons_zero, List.set_cons_succ]
    refine' hw_take 10 (some 79) _ rfl rfl (by kernel_rfl) (by kernel_rfl) (by kernel_rfl) (fun _ _ _ h => h) (by rfl) hH ?hy28 ?rest28
    case hy28 =>
      intro X hX
      go_simp
      try rfl
    simp only [Act.put, List.setIfInBounds_toArray, List.set_cons_zero, List.set_cons_succ]
    refine' hw_take 11 (some 80) _ rfl rfl (by kernel_rfl) (by kernel_rfl) (by kernel_rfl) (fun _ _ _ h => h) (by rfl) hH ?hy29 ?rest29
    case hy29 =>
      intro X hX
      have cX := (d14.new hX).cells
      go_simp
      try rfl
    simp only [Act.put, List.setIfInBounds_toArray, List.set_cons_zero, List.set_cons_succ]
    refine' hw_take 12 (some 81) _ rfl rfl (by kernel_rfl) (by kernel_rfl) (by kernel_rfl) (fun _ _ _ h => h) (by rfl) hH ?hy30 ?rest30
    case hy30 =>
      intro X hX
      go_simp
      try rfl
    simp only [Act.put, List.setIfInBounds_toArray, List.set_cons_zero, List.set_cons_succ]
    refine' hw_take 13 (some 82) _ rfl rfl (by kernel_rfl) (by kernel_rfl) (by kernel_rfl) (fun _ _ _ h => h) (by rfl) hH ?hy31 ?rest31
    case hy31 =>
      intro X hX
      go_simp
      try rfl
    simp only [Act.put, List.setIfInBounds_toArray, List.set_cons_zero, List.set_cons_succ]
    refine' hw_take 14 (some 83) _ rfl rfl (by kernel_rfl) (by kernel_rfl) (by kernel_rfl) (fun _ _ _ h => h) (by rfl) hH ?hy32 ?rest32
    case hy32 =>
      intro X hX
      go_simp
      try rfl
    simp only [Act.put, List.setIfInBounds_toArray, List.set_cons_zero, List.set_cons_succ]
    refine' hw_take 15 (some 84) _ rfl rfl (by kernel_rfl) (by kernel_rfl) (by kernel_rfl) (fun _ _ _ h => h) (by rfl) hH ?hy33 ?rest33
    case hy33 =>
      intro X hX
      go_simp
      try rfl
    simp only [Act.put, List.setIfInBounds_toArray, List.set_cons_zero, List.set_cons_succ]
    refine' hw_take 16 (some 85) _ rfl rfl (by kernel_rfl) (by kernel_rfl) (by kernel_rfl) (fun _ _ _ h => h) (by rfl) hH ?hy34 ?rest34
    case hy34 =>
      intro X hX
      go_simp
      try rfl
    simp only [Act.put, List.setIfInBounds_toArray, List.set_cons_zero, List.set_cons_succ]
    refine' hw_take 17 (some 86) _ rfl rfl (by kernel_rfl) (by kernel_rfl) (by kernel_rfl) (fun _ _ _ h => h) (by rfl) hH ?hy35 ?rest35
    case hy35 =>
      intro X hX
      have cX := (y14.new hX).cells
      go_simp
      try rfl
    simp only [Act.put, List.setIfInBounds_toArray, List.set_cons_zero, List.set_cons_succ]
    refine' hw_take 18 (some 87) _ rfl rfl (by kernel_rfl) (by kernel_rfl) (by kernel_rfl) (fun _ _ _ h => h) (by rfl) hH ?hy36 ?rest36
    case hy36 =>
      intro X hX
      go_simp
      try rfl
    simp only [Act.put, List.setIfInBounds_toArray, List.set_cons_zero, List.set_cons_succ]
    refine' hw_take 19 (some 88) _ rfl rfl (by kernel_rfl) (by kernel_rfl) (by kernel_rfl) (fun _ _ _ h => h) (by rfl) hH ?hy37 ?rest37
    case hy37 =>
      intro X hX
      go_simp
      try rfl
    simp only [Act.put, List.setIfInBounds_toArray, List.set_cons_zero, List.set_cons_succ]
    refine' hw_take 20 (some 89) _ rfl rfl (by kernel_rfl) (by kernel_rfl) (by kernel_rfl) (fun _ _ _ h => h) (by rfl) hH ?hy38 ?rest38
    case hy38 =>
      intro X hX
      have cX := (d14.new hX).cells
      go_simp
      try rfl
    simp only [Act.put, List.setIfInBounds_toArray, List.set_cons_zero, List.set_cons_succ]
    refine' hw_take 21 (some 90) _ rfl rfl (by kernel_rfl) (by kernel_rfl) (by kernel_rfl) (fun _ _ _ h => h) (by rfl) hH ?hy39 ?rest39
    case hy39 =>
      intro X hX
      go_simp
      try rfl
    simp only [Act.put, List.setIfInBounds_toArray, List.set_cons_zero, List.set_cons_succ]
    refine' hw_take 22 (some 91) _ rfl rfl (by kernel_rfl) (by kernel_rfl) (by kernel_rfl) (fun _ _ _ h => h) (by rfl) hH ?hy40 ?rest40
    case hy40 =>
      intro X hX
      go_simp
      try rfl
    simp only [Act.put, List.setIfInBounds_toArray, List.set_cons_zero, List.set_cons_succ]
    refine' hw_take 23 (some 92) _ rfl rfl (by kernel_rfl) (by kernel_rfl) (by kernel_rfl) (fun _ _ _ h => h) (by rfl) hH ?hy41 ?rest41
    case hy41 =>
      intro X hX
      go_simp
      try rfl
    simp only [Act.put, List.setIfInBounds_toArray, List.set_cons_zero, List.set_cons_succ]
    refine' hw_take 24 (some 93) _ rfl rfl (by kernel_rfl) (by kernel_rfl) (by kernel_rfl) (fun _ _ _ h => h) (by rfl) hH ?hy42 ?rest42
    case hy42 =>
      intro X hX
      go_simp
      try rfl
    simp only [Act.put, List.setIfInBounds_toArray, List.set_cons_zero, List.set_cons_succ]
    refine' hw_take 25 (some 94) _ rfl rfl (by kernel_rfl) (by kernel_rfl) (by kernel_rfl) (fun _ _ _ h => h) (by rfl) hH ?hy43 ?rest43
    case hy43 =>
      intro X hX
      go_simp
      try rfl
    simp only [Act.put, List.setIfInBounds_toArray, List.set_cons_zero, List.set_cons_succ]
    refine' hw_take 26 (some 95) _ rfl rfl (by kernel_rfl) (by kernel_rfl) (by kernel_rfl) (fun _ _ _ h => h) (by rfl) hH ?hy44 ?rest44
    case hy44 =>
      intro X hX
      have cX := (y14.new hX).cells
      go_simp
      try rfl
    simp only [Act.put, List.setIfInBounds_toArray, List.set_cons_zero, List.set_cons_succ]
    refine' hw_take 27 (some 96) _ rfl rfl (by kernel_rfl) (by kernel_rfl) (by kernel_rfl) (fun _ _ _ h => h) (by rfl) hH ?hy45 ?rest45
    case hy45 =>
      intro X hX
      have rX := run_str9 ya l yc es X (Y14.new hX) LE.out YN
      go_simp
      try rfl
    simp only [Act.put, List.setIfInBounds_toArray, List.set_cons_zero, List.set_cons_succ]
    refine' hw_take 28 (some 97) _ rfl rfl (by kernel_rfl) (by kernel_rfl) (by kernel_rfl) (fun _ _ _ h => h) (by rfl) hH ?hy46 ?rest46
    case hy46 =>
      intro X hX
      go_simp
      try rfl
    simp only [Act.put, List.setIfInBounds_toArray, List.set_cons_zero, List.set_cons_succ]
    refine' hw_take 29 (some 98) _ rfl rfl (by kernel_rfl) (by kernel_rfl) (by kernel_rfl) (fun _ _ _ h => h) (by rfl) hH ?hy47 ?rest47
    case hy47 =>
      intro X hX
      go_simp
      try rfl
    simp only [Act.put, List.setIfInBounds_toArray, List.set_cons_zero, List.set_cons_succ]
    refine' hw_take 30 (some 99) _ rfl rfl (by kernel_rfl) (by kernel_rfl) (by kernel_rfl) (fun _ _ _ h => h) (by rfl) hH ?hy48 ?rest48
    case hy48 =>
      intro X hX
      have cX := (d14.new hX).cells
      go_simp
      try rfl
    simp only [Act.put, List.setIfInBounds_toArray, List.set_cons_zero, List.set_cons_succ]
    refine' hw_take 31 (some 100) _ rfl rfl (by kernel_rfl) (by kernel_rfl) (by kernel_rfl) (fun _ _ _ h => h) (by rfl) hH ?hy49 ?rest49
    case hy49 =>
      intro X hX
      have rX := run_str9 q l cl es X (xE14.new hX) LE.out NN
      go_simp
      try rfl
    simp only [Act.put, List.setIfInBounds_toArray, List.set_cons_zero, List.set_cons_succ]
    refine' hw_take 32 (some 101) _ rfl rfl (by kernel_rfl) (by kernel_rfl) (by kernel_rfl) (fun _ _ _ h => h) (by rfl) hH ?hy50 ?rest50
    case hy50 =>
      intro X hX
      go_simp
      try rfl
    simp only [Act.put, List.setIfInBounds_toArray, List.set_cons_zero, List.set_cons_succ]
    refine' hw_take 33 (some 102) _ rfl rfl (by kernel_rfl) (by kernel_rfl) (by kernel_rfl) (fun _ _ _ h => h) (by rfl) hH ?hy51 ?rest51
    case hy51 =>
      intro X hX
      go_simp
      try rfl
    simp only [Act.put, List.setIfInBounds_toArray, List.set_cons_zero, List.set_cons_succ]
    refine' hw_take 34 (some 103) _ rfl rfl (by kernel_rfl) (by kernel_rfl) (by kernel_rfl) (fun _ _ _ h => h) (by rfl) hH ?hy52 ?rest52
    case hy52 =>
      intro X hX
      go_simp
      try rfl
    simp only [Act.put, List.setIfInBounds_toArray, List.set_cons_zero, List.set_cons_succ]
    refine' hw_take 35 (some 104) (.agg #[.int .i64 ep, .int .i64 ki, .int .i64 pe, .slice ya l yc]) rfl rfl (by kernel_rfl) (by kernel_rfl) (by kernel_rfl) (fun _ _ _ h => h) (by rfl) hH ?hzY ?rzY
    case hzY =>
      intro X hX
      exact run_load_blk 40 (.tmp 8) rfl w11.heap.size rfl #[.int .i64 ep, .int .i64 ki, .int .i64 pe, .slice ya l yc] _ (y14.new hX) Try.underlying40 rfl (by kernel_rfl)
    simp only [Act.put, List.setIfInBounds_toArray, List.set_cons_zero, List.set_cons_succ]
    refine' hw_take 39 (some 108) _ rfl rfl (by kernel_rfl) (by kernel_rfl) (by kernel_rfl) (fun _ _ _ h => h) (by rfl) hH ?hy53 ?rest53
    case hy53 =>
      intro X hX
      go_simp
      try rfl
    simp only [Act.put, List.setIfInBounds_toArray, List.set_cons_zero, List.set_cons_succ]
    refine' hw_take 40 (some 109) _ rfl rfl (by kernel_rfl) (by kernel_rfl) (by kernel_rfl) (fun _ _ _ h => h) (by rfl) hH ?hy54 ?rest54
    case hy54 =>
      intro X hX
      have cX := (p14.new hX).cells
      go_simp
      try rfl
    simp only [Act.put, List.setIfInBounds_toArray, List.set_cons_zero, List.set_cons_succ]
    refine' hw_take 41 (some 110) _ rfl rfl (by kernel_rfl) (by kernel_rfl) (by kernel_rfl) (fun _ _ _ h => h) (by rfl) hH ?hy55 ?rest55
    case hy55 =>
      intro X hX
      have rX := run_str9 pa pm pc (enP ep ki pe es) X (P14.new hX) PL.out pn
      go_simp
      try rfl
    simp only [Act.put, List.setIfInBounds_toArray, List.set_cons_zero, List.set_cons_succ]
    refine hw_call 36 (some 105) rfl rfl (by kernel_rfl) (by rfl) (fun K' hK' => ?_)
    go_simp
    refine (implPE ep ki pe ya l yc es _ (Y14.new hH) LE.out (by omega) YN).mono ?_
    rintro e w36 ⟨ba, bm, bc, bs, rfl, bo, bb, br, hn36, hbs, bn⟩
    rw [HEF.out]
    rw [if_pos HEF.out] at hbs
    subst hbs
    have BL : Hid ((enP ep ki pe es).length = bm) := bo.1
    have BB : BsAt w36 ba (enP ep ki pe es) := bo.bs bb
    have n36 := hH.trans hn36
    go_simp
    refine hK'.out _ _ n36 (fun _ => ?_)
    simp only [Act.put, List.setIfInBounds_toArray, List.set_cons_zero, List.set_cons_succ]
    refine wpAnyH_more (S' := fun X => New w36 X) (fun X h => n36.trans h) _ _ _ _ ?_
    have h36 := New.refl w36
    refine' hw_take 37 (some 106) _ rfl rfl (by kernel_rfl) (by kernel_rfl) (by kernel_rfl) (fun _ _ _ h => h) (by rfl) h36 ?hy56 ?rest56
    case hy56 =>
      intro X hX
      go_simp
      try rfl
    simp only [Act.put, List.setIfInBounds_toArray, List.set_cons_zero, List.set_cons_succ]
    refine' hw_take 38 (some 107) _ rfl rfl (by kernel_rfl) (by kernel_rfl) (by kernel_rfl) (fun _ _ _ h => h) (by rfl) h36 ?hy57 ?rest57
    case hy57 =>
      intro X hX
      have rX := run_str9 ba bm bc (enP ep ki pe es) X (BB.new hX) BL.out bn
      go_simp
      try rfl
    simp only [Act.put, List.setIfInBounds_toArray, List.set_cons_zero, List.set_cons_succ]
    refine' hw_take 42 (some 111) _ rfl rfl (by kernel_rfl) (by kernel_rfl) (by kernel_rfl) (fun _ _ _ h => h) (by rfl) h36 ?hy58 ?rest58
    case hy58 =>
      intro X hX
      go_simp
      try rfl
    simp only [Act.put, List.setIfInBounds_toArray, List.set_cons_zero, List.set_cons_succ]
    refine' hw_take 43 (some 112) _ rfl rfl (by kernel_rfl) (by kernel_rfl) (by kernel_rfl) (fun _ _ _ h => h) (by rfl) h36 ?hy59 ?rest59
    case hy59 =>
      intro X hX
      go_simp
      try rfl
    simp only [Act.put, List.setIfInBounds_toArray, List.set_cons_zero, List.set_cons_succ]
    refine' hw_take 44 (some 113) _ rfl rfl (by kernel_rfl) (by kernel_rfl) (by kernel_rfl) (fun _ _ _ h => h) (by rfl) h36 ?hy60 ?rest60
    case hy60 =>
      intro X hX
      go_simp
      try rfl
    simp only [Act.put, List.setIfInBounds_toArray, List.set_cons_zero, List.set_cons_succ]
    refine' hw_take 45 (some 114) _ rfl rfl (by kernel_rfl) (by kernel_rfl) (by kernel_rfl) (fun _ _ _ h => h) (by rfl) h36 ?hy61 ?rest61
    case hy61 =>
      intro X hX
      go_simp
      try rfl
    simp only [Act.put, List.setIfInBounds_toArray, List.set_cons_zero, List.set_cons_succ]
    refine' hw_take 46 (some 115) _ rfl rfl (by kernel_rfl) (by kernel_rfl) (by kernel_rfl) (fun _ _ _ h => h) (by rfl) h36 ?hy62 ?rest62
    case hy62 =>
      intro X hX
      have cX := (r14.new (n36.trans hX)).cells
      go_simp
      try rfl
    simp only [Act.put, List.setIfInBounds_toArray, List.set_cons_zero, List.set_cons_succ]
    refine hw_call 47 (some 116) rfl rfl (by kernel_rfl) (by rfl) (fun K' hK' => ?_)
    go_simp
    have hI := implJFn P1 P2 p1 d1 p2 e2 us' vs' w36 (jy1.new n36) (jy2.new n36) (jd14.sl.1.up n36.size) (jd14.sl.2.up n36.size) J1.out J2.out jg1 jg2 (by omega) (by omega)
    rw [HJF.out] at hI
    refine hI.mono ?_
    rintro e w47 ⟨rfl, hn47⟩
    go_simp
    refine hK'.out _ _ hn47 (fun h47 => ?_)
    simp only [Act.put, List.setIfInBounds_toArray, List.set_cons_zero, List.set_cons_succ]
    refine' hw_take 48 (some 117) _ rfl rfl (by kernel_rfl) (by kernel_rfl) (by kernel_rfl) (fun _ _ _ h => h) (by rfl) h47 ?hy63 ?rest63
    case hy63 =>
      intro X hX
      go_simp
      try rfl
    simp only [Act.put, List.setIfInBounds_toArray, List.set_cons_zero, List.set_cons_succ]
    refine' hw_take 49 (some 118) _ rfl rfl (by kernel_rfl) (by kernel_rfl) (by kernel_rfl) (fun _ _ _ h => h) (by rfl) h47 ?hy64 ?rest64
    case hy64 =>
      intro X hX
      go_simp
      try rfl
    simp only [Act.put, List.setIfInBounds_toArray, List.set_cons_zero, List.set_cons_succ]
    refine' hw_take 50 (some 2) _ rfl rfl (by kernel_rfl) (by kernel_rfl) (by kernel_rfl) (fun _ _ _ h => h) (by rfl) h47 ?hy65 ?rest65
    case hy65 =>
      intro X hX
      go_simp
      try rfl
    simp only [Act.put, List.setIfInBounds_toArray, List.set_cons_zero, List.set_cons_succ]
    refine wpAnyH_done (by kernel_rfl) ?_ _
    go_wp2
    go_ret
    exact ⟨rfl, (N14.trans n36).trans h47⟩

set_option maxRecDepth 100000 in
theorem fnen_lifted (os : Os) (started : os.Started) (H : Type) (enc : TypeId × Value → H) :
    ReturnsInHanded {} Try.checked os 4 .any (Rows.fnEntriesSpec.pre6 enc Try.prog Try.f4 Rows.fnEntriesRow.domain false) (Rows.fnEntriesSpec.post enc Try.prog Try.f4 false true false false) := by
  refine returnsInHanded_of_change (C := Try.checked) own started (by kernel_rfl) Try.func4
    (ChangeSpec.witness6 (enc := enc) (C := Try.checked) false ⟨#[], #[.slice none 0 0], []⟩ 8 (by kernel_rfl) (by kernel_rfl) (by kernel_rfl) (by kernel_rfl)) ?_
  intro W base args ds gs before hval0 hW hcnd _
  have hval : ∀ (j : Nat) t v, Try.f4.params[j]? = some t → args[j]? = some v → Value.okWide Try.prog W .any base t v := hval0
  have hW' := hW
  obtain ⟨p, q, hA0, hV, rfl, hfz, hnd⟩ := hW
  have hA : DataW.TrodAll enc Try.prog W 0 (fun _ => true) true Try.f4.params.toList args.toList ds p := hA0
  rw [Try.params4] at hA hval
  obtain ⟨v0, vs0, d0, ds0, p0, q0, hargs, rfl, rfl, h0, r0⟩ := trodAll_cons hA
  obtain ⟨rfl, rfl, rfl⟩ := trodAll_nil r0
  obtain rfl : args = #[v0] := by cases args; simp_all
  obtain ⟨rfl, rfl⟩ := trodVars_none hV
  have k0 := h0
  have lt0 : ∀ x ∈ p0, x.block < W.heap.size := by obtain ⟨m, hm⟩ := k0; exact DataW.trod_lt m _ _ _ hm
  obtain ⟨a0, len0, cap0, rfl⟩ := okWide_slice Try.underlying22 (hval 0 22 v0 rfl rfl)
  obtain ⟨z0, b0, e0, m0⟩ := open_bytes h0
  clear hA0 hval0
  refine (fnen_walk a0 len0 cap0 z0 W b0 e0 m0.2 (fun x h1 h2 => by obtain ⟨bb, oo, hh, hl⟩ := b0.block_lt h1; rw [h2] at hh; obtain rfl := Option.some.inj hh; exact hl)).mono fun e W' ⟨he, new⟩ => ?_
  have bel := new.below
  subst he
  exact ⟨_, rfl, _, _, _, [], _, [], hW', trodAll_mk1 (shut_bool Try.underlying4 _), (trodAll_cons_mk (Below.trod laidOut (by kernel_rfl) (of_decide_eq_true (by kernel_rfl)) k0 bel lt0) trodAll_mk0), rfl, bel.frame _, fun h => by cases h⟩

theorem fnen_holds : Rows.FnEntriesSaid :=
  OpenClaim.holds_of_wide 4 Try.f4 rfl rfl rfl rfl rfl rfl rfl ⟨rfl, rfl, rfl, rfl, rfl⟩ rfl rfl rfl rfl rfl (by kernel_rfl) Try.func4 (by kernel_rfl)
    (of_decide_eq_true (by kernel_rfl)) (by unfold Func.isWrapper; first | (rw [if_pos (by decide +kernel)]; kernel_rfl) | (rw [if_neg (by decide +kernel)]; exact ⟨rfl, rfl⟩))
    (fun os started H enc _ => fnen_lifted os started H enc)

end Go.Proofs.Ytdkjgjjkjfeodaa
