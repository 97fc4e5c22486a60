/- What is proved here: for every bytes the law on journals returns true, and the bytes read as they did. No condition. -/
import Derived.Test.YtfaenhhmbdmdhaaJG4
import Derived.Test.YtfaenhhmbdmdhaaOpen
namespace Go.Proofs.Ytfaenhhmbdmdhaa
open Go.ChangeShapes Go.WideShapes Go.ChangeAt Go.RowKit Go.Sort
set_option linter.unusedVariables false
set_option linter.unusedSimpArgs false
set_option maxRecDepth 100000

theorem Sl10.nl {w : World} {a : Option Addr} {n c : Nat} (h : Sl10 w a n c) : Nl a n c := by
  rcases h with h | ⟨b, o, e, _⟩
  · exact .inl h
  · exact .inr ⟨b, o, e⟩

theorem Jd.sl {w : World} {lo n1 c1 n2 c2 : Nat} {A1 A2 : Option Addr} {us vs : List Int} (h : Jd w lo A1 n1 c1 A2 n2 c2 us vs) : Sl10 w A1 n1 c1 ∧ Sl10 w A2 n2 c2 := by
  refine ⟨?_, ?_⟩
  · rcases (ov_open h.o1 h.l1 h.b1).2.2 with h' | ⟨g, e, _, hg⟩
    · exact .inl h'
    · exact .inr ⟨g, 0, e, hg⟩
  · rcases (ov_open h.o2 h.l2 h.b2).2.2 with h' | ⟨g, e, _, hg⟩
    · exact .inl h'
    · exact .inr ⟨g, 0, e, hg⟩

theorem implJFn_is (A1 A2 : Option Addr) (n c m d : Nat) (zs ys : List Int) (w : World) (z : Int) (h : BsAt w A1 zs) (k : BsAt w A2 ys) (hb : Sl10 w A1 n c) (hb2 : Sl10 w A2 m d) (hn : zs.length = n) (hm : ys.length = m) (hc : n ≤ c) (hd : m ≤ d) (hn1 : n ≤ 1048576) (hm1 : m ≤ 1048576) (hz : jF zs ys = z) :
    Calls Try.prog 13 #[.agg #[.slice A1 n c, .slice A2 m d]] w fun e w' => e = .returned (.int .i64 z) ∧ New w w' := hz ▸ implJFn A1 A2 n c m d zs ys w h k hb hb2 hn hm hc hd hn1 hm1

set_option maxHeartbeats 12800000 in
theorem fnjo_walk (a : Option Addr) (n c : Nat) (zs : List Int) (w : World) (h : BsAt w a zs) (hn : zs.length = n) (hm : n ≤ maxLen) (ha : ∀ x, zs ≠ [] → a = some x → x.block < w.heap.size) :
    Calls Try.prog 3 #[.slice a n c] w fun e w' => e = .returned (.bool true) ∧ New w w' := by
  by_cases hbig : 1048576 < n
  case pos =>
    go_enter Try.func3, Try.ntmps3
    go_wp2_with fail
    refine (lbig_yes a n c _ hbig).mono ?_
    rintro e w1 ⟨rfl, rfl⟩
    go_wp2
    go_ret
    exact ⟨rfl, New.refl _⟩
  have hmb : n ≤ 2097152 := by omega
  have HN : Hid (zs.length = n) := hn
  clear hm hn
  go_enter Try.func3, Try.ntmps3
  go_wp2_with fail
  refine (lbig_no a n c _ hbig).mono ?_
  rintro e wz ⟨rfl, hwz⟩
  obtain rfl := hwz.symm
  go_wp2_with fail
  refine (drawCr a n c zs _ h HN.out hmb ha).mono ?_
  rintro e w1 ⟨A1, A2, n1, c1, n2, c2, us, vs, kp, rfl, x1, x2, k1, k2, q1, q2, sl1, sl2, m1, m2, ⟨kp0, kp1⟩, hn1⟩
  have SL1 : Hid (Sl10 w1 A1 n1 c1) := sl1
  have SL2 : Hid (Sl10 w1 A2 n2 c2) := sl2
  have K1 : Hid (us.length = n1) := k1
  have K2 : Hid (vs.length = n2) := k2
  clear sl1 sl2 k1 k2
  have al := (New.refl w1).alloc (.cells #[.slice A1 n1 c1, .slice A2 n2 c2] 25)
  have b2 := Blk.mk w1 w1.heap.size 25 #[.slice A1 n1 c1, .slice A2 n2 c2] rfl
  have N2 := hn1.trans al
  have x12 := x1.new al
  have x22 := x2.new al
  have zz2 := al.size
  go_upto_region 4 with fail
  generalize w1.alloc (.cells #[.slice A1 n1 c1, .slice A2 n2 c2] 25) = w2 at *
  have z2 := b2.lt
  clear al hn1 x1 x2
  obtain ⟨⟨z, ct, us', vs'⟩, HR⟩ : ∃ r, Hid (r = crA us vs kp) := ⟨_, rfl⟩
  have cc2 := b2.cells
  go_wp2_with fail
  have hI := implCrn A1 A2 n1 c1 n2 c2 us vs w2 x12 x22 (SL1.out.up (by omega)) (SL2.out.up (by omega)) K1.out K2.out q1 q2 (by omega) (by omega) kp
  rw [← HR.out] at hI
  refine hI.mono ?_
  rintro e w3 hF
  obtain ⟨l1, l2⟩ := cr_bd HR.out x12.lt x22.lt
  obtain ⟨P1, p1, d1, P2, p2, d2, rfl, jd3, hn3⟩ := jr_jd (z := z) (ct := ct) hF l1 l2
  clear hI hF cc2
  have al := (New.refl w3).alloc (.cells #[.int .i64 z, .int .i64 ct, .slice P1 p1 d1, .slice P2 p2 d2] 29)
  have r4 := Blk.mk w3 w3.heap.size 29 #[.int .i64 z, .int .i64 ct, .slice P1 p1 d1, .slice P2 p2 d2] rfl
  have b4 := (b2.new hn3).new al
  have N4 := (N2.trans hn3).trans al
  have x14 := (x12.new hn3).new al
  have x24 := (x22.new hn3).new al
  have jd4 := jd3.new al
  have z34 := al.size
  have z23 := hn3.size
  go_upto_region 5 with fail
  generalize w3.alloc (.cells #[.int .i64 z, .int .i64 ct, .slice P1 p1 d1, .slice P2 p2 d2] 29) = w4 at *
  clear al b2 N2 x12 x22 jd3 hn3
  have hfd : ∀ (c0 c1 c2 c3 : Value) (X : World), (Instr.field 29 (.agg #[c0, c1, c2, c3]) 0).run Try.prog X = .ok c0 X := fun _ _ _ _ _ => by kernel_rfl
  by_cases hc : z = 0
  case neg =>
    have hc' : (z != 0) = true := by simpa using hc
    have hrr : (z == z) = true := by simp
    have c4 := r4.cells
    go_upto_region 6 with fail
    clear c4
    refine hw_start (n := 8) (S := fun X => New w4 X) rfl (by kernel_rfl) ((New.refl _).drew) (fun hH => ?_)
    refine' hw_take 0 (some 24) (.agg #[.slice A1 n1 c1, .slice A2 n2 c2]) rfl rfl (by kernel_rfl) (by kernel_rfl) (by kernel_rfl) (fun _ _ _ h => h) (by rfl) hH ?hzA ?rzA
    case hzA =>
      intro X hX
      exact run_load_blk 25 (.tmp 3) rfl w1.heap.size rfl #[.slice A1 n1 c1, .slice A2 n2 c2] _ (b4.new hX) Try.underlying25 rfl (by kernel_rfl)
    simp only [Act.put, List.setIfInBounds_toArray, List.set_cons_zero, List.set_cons_succ]
    refine' hw_take 1 (some 25) _ rfl rfl (by kernel_rfl) (by kernel_rfl) (by kernel_rfl) (fun _ _ _ h => h) (by rfl) hH ?hy1 ?rest1
    case hy1 =>
      intro X hX
      go_simp
      try rfl
    simp only [Act.put, List.setIfInBounds_toArray, List.set_cons_zero, List.set_cons_succ]
    refine' hw_take 4 (some 28) _ rfl rfl (by kernel_rfl) (by kernel_rfl) (by kernel_rfl) (fun _ _ _ h => h) (by rfl) hH ?hy2 ?rest2
    case hy2 =>
      intro X hX
      go_simp
      try rfl
    simp only [Act.put, List.setIfInBounds_toArray, List.set_cons_zero, List.set_cons_succ]
    refine' hw_take 5 (some 29) _ rfl rfl (by kernel_rfl) (by kernel_rfl) (by kernel_rfl) (fun _ _ _ h => h) (by rfl) hH ?hy3 ?rest3
    case hy3 =>
      intro X hX
      have cX := (r4.new hX).cells
      go_simp
      try rfl
    simp only [Act.put, List.setIfInBounds_toArray, List.set_cons_zero, List.set_cons_succ]
    refine hw_call 2 (some 26) rfl rfl (by kernel_rfl) (by rfl) (fun K hK => ?_)
    go_simp
    have hI := specCrn A1 A2 n1 c1 n2 c2 us vs _ (x14.new hH) (x24.new hH) SL1.out.nl SL2.out.nl K1.out K2.out q1 q2 (by omega) (by omega) kp
    rw [← HR.out] at hI
    refine hI.mono ?_
    rintro e w5 hF
    obtain ⟨Q1, o1, e1, Q2, o2, e2, rfl, jd5, hn5⟩ := jr_jd (z := z) (ct := ct) hF l1 l2
    clear hI hF
    go_simp
    have n5 := hH.trans hn5
    refine hK.out _ _ n5 (fun _ => ?_)
    simp only [Act.put, List.setIfInBounds_toArray, List.set_cons_zero, List.set_cons_succ]
    refine' hw_take 3 (some 27) _ rfl rfl (by kernel_rfl) (by kernel_rfl) (by kernel_rfl) (fun _ _ _ h => h) (by rfl) n5 ?hy4 ?rest4
    case hy4 =>
      intro X hX
      go_simp
      try rfl
    simp only [Act.put, List.setIfInBounds_toArray, List.set_cons_zero, List.set_cons_succ]
    refine' hw_take 6 (some 30) _ rfl rfl (by kernel_rfl) (by kernel_rfl) (by kernel_rfl) (fun _ _ _ h => h) (by rfl) n5 ?hy5 ?rest5
    case hy5 =>
      intro X hX
      go_simp
      try rfl
    simp only [Act.put, List.setIfInBounds_toArray, List.set_cons_zero, List.set_cons_succ]
    refine' hw_take 7 (some 2) _ rfl rfl (by kernel_rfl) (by kernel_rfl) (by kernel_rfl) (fun _ _ _ h => h) (by rfl) n5 ?hy6 ?rest6
    case hy6 =>
      intro X hX
      go_simp
      try rfl
    simp only [Act.put, List.setIfInBounds_toArray, List.set_cons_zero, List.set_cons_succ]
    refine wpAnyH_done (by kernel_rfl) ?_ _
    go_wp2
    go_ret
    exact ⟨rfl, N4.trans n5⟩
  subst hc
  obtain ⟨rfl, hjf, hl1, hl2, h6, happ, hat, ⟨cs2, hsy⟩, QL, hcu, hQ⟩ := cr_zero HR.out
  have J1 : Hid (us'.length = p1) := jd4.l1
  have ep2 : p2 = 0 := jd4.l2.symm
  subst ep2
  have g1 := (ov_open jd4.o1 jd4.l1 jd4.b1).2.1
  have g2 := (ov_open jd4.o2 jd4.l2 jd4.b2).2.1
  have HAT : Hid (((eAts us' 0).length : Int) = ct) := hat
  have hk1 : n1 ≤ p1 := by have := K1.out; have := J1.out; omega
  have hk2 : p1 ≤ n1 + n2 := by have := K1.out; have := K2.out; have := J1.out; omega
  have h6' : n1 + n2 ≤ 6000 := by have := K1.out; have := K2.out; omega
  have HAP : Hid (us' = (us ++ vs).take p1) := by rw [← J1.out]; exact happ
  have HJF : Hid (jF us' [] = 0) := hjf
  have HSY : Hid ((0, cs2, us ++ vs, []) = syA us vs) := hsy
  have HCU : Hid ((0, ct, us, QL) = cuA us vs ct) := hcu
  have HQ : Hid (us ++ QL = us') := hQ
  have HLL : Hid ((us ++ vs).length = n1 + n2) := by show (us ++ vs).length = n1 + n2; rw [List.length_append, K1.out, K2.out]
  have HB1 : Hid (∀ z ∈ us, 0 ≤ z ∧ z ≤ 255) := x14.lt
  have HB2 : Hid (∀ z ∈ vs, 0 ≤ z ∧ z ≤ 255) := x24.lt
  clear happ hjf hsy hcu hQ hat hl1 hl2 h6 HR
  obtain ⟨i0, hi, hz0, hz1, hz2⟩ := info_parts Try.infoU8
  have c4 := r4.cells
  go_upto_region 7 with fail
  clear c4
  refine hw_start (n := 8) (S := fun X => New w4 X) rfl (by kernel_rfl) ((New.refl _).drew) (fun hH => ?_)
  refine' hw_take 1 (some 32) _ rfl rfl (by kernel_rfl) (by kernel_rfl) (by kernel_rfl) (fun _ _ _ h => h) (by rfl) hH ?hy7 ?rest7
  case hy7 =>
    intro X hX
    go_simp
    try rfl
  simp only [Act.put, List.setIfInBounds_toArray, List.set_cons_zero, List.set_cons_succ]
  refine' hw_take 2 (some 33) _ rfl rfl (by kernel_rfl) (by kernel_rfl) (by kernel_rfl) (fun _ _ _ h => h) (by rfl) hH ?hy8 ?rest8
  case hy8 =>
    intro X hX
    have cX := (b4.new hX).cells
    go_simp
    try rfl
  simp only [Act.put, List.setIfInBounds_toArray, List.set_cons_zero, List.set_cons_succ]
  refine' hw_take 4 (some 35) _ rfl rfl (by kernel_rfl) (by kernel_rfl) (by kernel_rfl) (fun _ _ _ h => h) (by rfl) hH ?hy9 ?rest9
  case hy9 =>
    intro X hX
    go_simp
    try rfl
  simp only [Act.put, List.setIfInBounds_toArray, List.set_cons_zero, List.set_cons_succ]
  refine' hw_take 5 (some 36) _ rfl rfl (by kernel_rfl) (by kernel_rfl) (by kernel_rfl) (fun _ _ _ h => h) (by rfl) hH ?hy10 ?rest10
  case hy10 =>
    intro X hX
    have cX := (b4.new hX).cells
    go_simp
    try rfl
  simp only [Act.put, List.setIfInBounds_toArray, List.set_cons_zero, List.set_cons_succ]
  refine hw_call 0 (some 31) rfl rfl (by kernel_rfl) (by rfl) (fun K hK => ?_)
  go_simp
  have al5 := ((New.refl w4).alloc (.cells #[] 5)).drew
  have bE : Blk ((w4.alloc (.cells #[] 5)).drew) w4.heap.size 5 #[] := (Blk.mk w4 w4.heap.size 5 #[] rfl).new ((New.refl _).drew)
  have own0 : ((w4.alloc (.cells #[] 5)).drew).ownsRow w4.heap.size 5 1 (.slice (some ⟨w4.heap.size, 0, none⟩) 0 0) (([] : List Int)).length (([] : List Int).map (Value.int .u8)) := ⟨rfl, .inr ⟨w4.heap.size, 0, #[], rfl, Nat.le_refl _, bE, Nat.le_refl _, by unfold maxLen; omega, rfl, rfl⟩⟩
  refine hK.out _ _ al5 (fun _ => ?_)
  simp only [Act.put, List.setIfInBounds_toArray, List.set_cons_zero, List.set_cons_succ]
  generalize (w4.alloc (.cells #[] 5)).drew = w5 at *
  have z45 := al5.size
  refine hw_call 3 (some 34) rfl rfl (by kernel_rfl) (by rfl) (fun K hK => ?_)
  refine wp_apB _ (.tmp 31) (.tmp 33) rfl w4.heap.size Try.underlying22 hi hz0 hz1 hz2 (.slice (some ⟨w4.heap.size, 0, none⟩) 0 0) [] rfl own0 A1 n1 c1 us rfl (x14.new al5) K1.out SL1.out.no (by simp; omega) (by omega) ?_
  intro v6 w6 ho6 hg6
  have t6 := turn_of_grown10 hg6
  have n6 := al5.before t6 (by intro i hi e; have q : w4.heap.size = i := (by simpa [Value.ownBlock] using e); omega)
  refine hK.out _ _ n6 (fun _ => ?_)
  simp only [Act.put, List.setIfInBounds_toArray, List.set_cons_zero, List.set_cons_succ]
  have ho6' : w6.ownsRow w4.heap.size 5 1 v6 us.length (us.map (Value.int .u8)) := by simpa using ho6
  have z56 := t6.size
  refine hw_call 6 (some 37) rfl rfl (by kernel_rfl) (by rfl) (fun K hK => ?_)
  refine wp_apB _ (.tmp 34) (.tmp 36) rfl w4.heap.size Try.underlying22 hi hz0 hz1 hz2 v6 us rfl ho6' A2 n2 c2 vs rfl (x24.new n6) K2.out SL2.out.no (by have := K1.out; omega) (by omega) ?_
  intro v8 w8 ho8 hg8
  have t8 := turn_of_grown10 hg8
  have n8 := n6.before t8 (by intro i hi e; have := (ho6'.lt i e).1; omega)
  have ho8' : OvB w8 w4.heap.size v8 (us ++ vs) := ho8
  obtain ⟨A8, c8, e8, X8, g8, sl8, -⟩ := ho8'.bs (by intro z hz; rcases List.mem_append.1 hz with hz | hz; exact HB1.out z hz; exact HB2.out z hz)
  rw [HLL.out] at e8 g8 sl8
  subst e8
  have no8 : A8 = none → n1 + n2 = 0 ∧ c8 = 0 := by
    intro e
    rcases sl8 with ⟨-, h1, h2⟩ | ⟨g, h1, -⟩
    · exact ⟨h1, h2⟩
    · rw [h1] at e; cases e
  refine hK.out _ _ n8 (fun hH8 => ?_)
  simp only [Act.put, List.setIfInBounds_toArray, List.set_cons_zero, List.set_cons_succ]
  refine' hw_take 7 (some 6) _ rfl rfl (by kernel_rfl) (by kernel_rfl) (by kernel_rfl) (fun _ _ _ h => h) (by rfl) hH8 ?hy11 ?rest11
  case hy11 =>
    intro X hX
    go_simp
    try rfl
  simp only [Act.put, List.setIfInBounds_toArray, List.set_cons_zero, List.set_cons_succ]
  refine wpAnyH_done (by kernel_rfl) ?_ _
  have b8 := b4.new n8
  have r8 := r4.new n8
  have jd8 := jd4.new n8
  have N8 := N4.trans n8
  have x18 := x14.new n8
  have x28 := x24.new n8
  clear sl8 ho8 ho8' hg8 t8 ho6 ho6' hg6 t6 own0 bE al5 n6 hH hH8 b4 r4 jd4 N4 x14 x24
  have y1 := (ov_open jd8.o1 jd8.l1 jd8.b1).1
  have cr := r8.cells
  go_wp2_with fail
  refine (implREs P1 p1 d1 us' w8 y1 jd8.sl.1 J1.out g1 (by omega)).mono ?_
  rintro e w9 hRE
  unfold ReAns at hRE
  rw [if_neg (by rw [J1.out]; omega)] at hRE
  obtain ⟨yE, kE, dE, V, rfl, hkE, hRd, hVt⟩ := hRE
  have hkE' : Hid ((kE : Int) = ct) := by show (kE : Int) = ct; rw [← HAT.out, ← hVt, List.length_map, hkE]
  have n9 := hRd.new
  generalize (eUse us' 0 : Int) = ue at *
  have al := (New.refl w9).alloc (.cells #[.int .i64 0, .int .i64 ue, .slice yE kE dE] 33)
  have e10 := Blk.mk w9 w9.heap.size 33 #[.int .i64 0, .int .i64 ue, .slice yE kE dE] rfl
  have n10 := n9.trans al
  have b10 := b8.new n10
  have r10 := r8.new n10
  have jd10 := jd8.new n10
  have N10 := N8.trans n10
  have x110 := x18.new n10
  have x210 := x28.new n10
  have X10 := X8.new n10
  have zA := n9.size
  have zB := al.size
  have zC := n8.size
  clear hkE hRd hVt
  go_upto_region 10 with fail
  generalize w9.alloc (.cells #[.int .i64 0, .int .i64 ue, .slice yE kE dE] 33) = w10 at *
  clear al n10 n9 cr b8 r8 jd8 N8 x18 x28 X8 y1 n8
  have cb := b10.cells
  go_wp2_with fail
  have hI := implSyn A1 A2 n1 c1 n2 c2 us vs w10 x110 x210 (SL1.out.up (by omega)) (SL2.out.up (by omega)) K1.out K2.out q1 q2 (by omega) (by omega)
  rw [← HSY.out] at hI
  refine hI.mono ?_
  rintro e w11 hF
  obtain ⟨S1, s1, f1, S2, s2, f2, rfl, jdS, hn11⟩ := jr_jd (z := 0) (ct := cs2) hF (by intro z hz; rcases List.mem_append.1 hz with hz | hz; exact HB1.out z hz; exact HB2.out z hz) (by intro z hz; cases hz)
  clear hI hF cb
  have al := (New.refl w11).alloc (.cells #[.int .i64 0, .int .i64 cs2, .slice S1 s1 f1, .slice S2 s2 f2] 29)
  have s12 := Blk.mk w11 w11.heap.size 29 #[.int .i64 0, .int .i64 cs2, .slice S1 s1 f1, .slice S2 s2 f2] rfl
  have n12 := hn11.trans al
  have e12 := e10.new n12
  have b12 := b10.new n12
  have r12 := r10.new n12
  have jd12 := jd10.new n12
  have jdS12 := jdS.new al
  have N12 := N10.trans n12
  have x112 := x110.new n12
  have x212 := x210.new n12
  have X12 := X10.new n12
  have zD := hn11.size
  have zE := al.size
  go_upto_region 11 with fail
  generalize w11.alloc (.cells #[.int .i64 0, .int .i64 cs2, .slice S1 s1 f1, .slice S2 s2 f2] 29) = w12 at *
  clear al n12 hn11 e10 b10 r10 jd10 jdS N10 x110 x210 X10
  have LS : Hid (n1 + n2 = s1) := by rw [← HLL.out]; exact jdS12.l1
  obtain ⟨y1, -, -⟩ := ov_open jd12.o1 jd12.l1 jd12.b1
  obtain ⟨y2, -, -⟩ := ov_open jd12.o2 jd12.l2 jd12.b2
  have hJF : ∀ W, New w12 W → Calls Try.prog 13 #[.agg #[.slice P1 p1 d1, .slice P2 0 d2]] W fun e w' => e = .returned (.int .i64 0) ∧ New W w' := fun W hW => implJFn_is P1 P2 p1 d1 0 d2 us' [] W 0 (y1.new hW) (y2.new hW) (jd12.sl.1.up hW.size) (jd12.sl.2.up hW.size) J1.out rfl g1 (Nat.zero_le _) (by omega) (by omega) HJF.out
  have ty : BsAt w12 A8 us' := by rw [HAP.out]; exact X12.take p1
  have rc1 : ∀ (d : Nat) (os : Array Obj), (convert 22 9 (.slice A8 p1 c8)).run Try.prog (grow (redrawn w12 d) os) = .ok (.string (str9 us')) (grow (redrawn w12 d) os) := fun d os => run_str9 A8 p1 c8 us' _ (ty.new (new_regrown w12 d os)) J1.out (fun e => by have := no8 e; omega)
  have rc2 : ∀ (d : Nat) (os : Array Obj), (convert 22 9 (.slice P1 p1 d1)).run Try.prog (grow (redrawn w12 d) os) = .ok (.string (str9 us')) (grow (redrawn w12 d) os) := fun d os => run_str9 P1 p1 d1 us' _ (y1.new (new_regrown w12 d os)) J1.out jd12.sl.1.no
  have rT3 := blk_regrown b12
  have rT5 := blk_regrown r12
  have rT8 := blk_regrown e12
  have d1' : decide ((p1 : Int) < (n1 : Int)) = false := decide_eq_false (by omega)
  have d2' : decide ((n1 : Int) + (n2 : Int) < (p1 : Int)) = false := decide_eq_false (by omega)
  have d2'' : decide (((n1 + n2 : Nat) : Int) < (p1 : Int)) = false := decide_eq_false (by omega)
  have d1n : decide (p1 < n1) = false := decide_eq_false (by omega)
  have d2n : decide (n1 + n2 < p1) = false := decide_eq_false (by omega)
  have d3' : ((kE : Int) != ct) = false := by have := hkE'.out; simp [this]
  have d4' : ((str9 us').toList == (str9 us').toList) = true := str_same _
  have d5' : ((str9 us').toList != (str9 us').toList) = false := by simp
  have d6' : (str9 us' != str9 us') = false := str_ne_self _
  have pc8 : p1 ≤ c8 := by omega
  go_cut [90] from 48 to 90 (fun v wx => v = .bool false ∧ New w12 wx)
  case first =>
    generalize str9 us' = SU at *
    refine wp_region_quiet_below (by kernel_rfl) (by kernel_rfl) ?_
    repeat (go_big_quiet_step (first | (go_at_call 13; exact calls_regrown (hJF _ (new_regrown _ _ _)))))
    refine wpQuiet_nil ?_
    rintro wq hwq
    replace hwq := new_of_regrown hwq
    go_wp2_with fail
    go_meet
    exact ⟨rfl, hwq⟩
  case rest =>
  obtain ⟨rfl, hn13⟩ := hcut
  generalize wc = w13 at *
  clear hJF ty rc1 rc2 rT3 rT5 rT8 d1' d2' d2'' d1n d2n d3' d4' d5' d6' y1 y2
  have b13 := b12.new hn13
  have r13 := r12.new hn13
  have s13 := s12.new hn13
  have jdS13 := jdS12.new hn13
  have N13 := N12.trans hn13
  have x113 := x112.new hn13
  have x213 := x212.new hn13
  have X13 := X12.new hn13
  have zF := hn13.size
  clear b12 r12 e12 s12 jd12 jdS12 N12 x112 x212 X12 hn13
  have cb := b13.cells
  have cr := r13.cells
  go_wp2_with fail
  have hI := implCun A1 A2 n1 c1 n2 c2 us vs w13 x113 x213 (SL1.out.up (by omega)) (SL2.out.up (by omega)) K1.out K2.out q1 q2 (by omega) (by omega) ct
  rw [← HCU.out] at hI
  refine hI.mono ?_
  rintro e w14 hF
  obtain ⟨C1, e1, f3, C2, e2, f4, rfl, jdC, hn14⟩ := jr_jd (z := 0) (ct := ct) hF HB1.out (by intro z hz; exact l1 z (by rw [← HQ.out]; exact List.mem_append_right _ hz))
  clear hI hF cb cr
  have al := (New.refl w14).alloc (.cells #[.int .i64 0, .int .i64 ct, .slice C1 e1 f3, .slice C2 e2 f4] 29)
  have k15 := Blk.mk w14 w14.heap.size 29 #[.int .i64 0, .int .i64 ct, .slice C1 e1 f3, .slice C2 e2 f4] rfl
  have n15 := hn14.trans al
  have r15 := r13.new n15
  have s15 := s13.new n15
  have jdS15 := jdS13.new n15
  have jdC15 := jdC.new al
  have N15 := N13.trans n15
  have X15 := X13.new n15
  go_upto_region 14 with fail
  generalize w14.alloc (.cells #[.int .i64 0, .int .i64 ct, .slice C1 e1 f3, .slice C2 e2 f4] 29) = w15 at *
  clear al n15 hn14 r13 s13 jdS13 jdC N13 X13 b13 x113 x213
  obtain ⟨yS, -, -⟩ := ov_open jdS15.o1 jdS15.l1 jdS15.b1
  obtain ⟨yC1, -, -⟩ := ov_open jdC15.o1 jdC15.l1 jdC15.b1
  obtain ⟨yC2, -, -⟩ := ov_open jdC15.o2 jdC15.l2 jdC15.b2
  have tA : BsAt w15 A8 us' := by rw [HAP.out]; exact X15.take p1
  have rS : ∀ (d : Nat) (os : Array Obj), (convert 22 9 (.slice S1 s1 f1)).run Try.prog (grow (redrawn w15 d) os) = .ok (.string (str9 (us ++ vs))) (grow (redrawn w15 d) os) := fun d os => run_str9 S1 s1 f1 (us ++ vs) _ (yS.new (new_regrown w15 d os)) jdS15.l1 jdS15.sl.1.no
  have rA : ∀ (d : Nat) (os : Array Obj), (convert 22 9 (.slice A8 (n1 + n2) c8)).run Try.prog (grow (redrawn w15 d) os) = .ok (.string (str9 (us ++ vs))) (grow (redrawn w15 d) os) := fun d os => run_str9 A8 (n1 + n2) c8 (us ++ vs) _ (X15.new (new_regrown w15 d os)) HLL.out no8
  have rC1 : ∀ (d : Nat) (os : Array Obj), (convert 22 9 (.slice C1 e1 f3)).run Try.prog (grow (redrawn w15 d) os) = .ok (.string (str9 us)) (grow (redrawn w15 d) os) := fun d os => run_str9 C1 e1 f3 us _ (yC1.new (new_regrown w15 d os)) jdC15.l1 jdC15.sl.1.no
  have rC2 : ∀ (d : Nat) (os : Array Obj), (convert 22 9 (.slice C2 e2 f4)).run Try.prog (grow (redrawn w15 d) os) = .ok (.string (str9 QL)) (grow (redrawn w15 d) os) := fun d os => run_str9 C2 e2 f4 QL _ (yC2.new (new_regrown w15 d os)) jdC15.l2 jdC15.sl.2.no
  have rP : ∀ (d : Nat) (os : Array Obj), (convert 22 9 (.slice A8 p1 c8)).run Try.prog (grow (redrawn w15 d) os) = .ok (.string (str9 us')) (grow (redrawn w15 d) os) := fun d os => run_str9 A8 p1 c8 us' _ (tA.new (new_regrown w15 d os)) J1.out (fun e => by have := no8 e; omega)
  have ha := str9_app us QL
  rw [HQ.out] at ha
  have hqu : us.length + QL.length = p1 := by rw [← J1.out, ← HQ.out, List.length_append]
  have ss : (str9 us).size + (str9 QL).size ≤ 9223372036854775807 := by rw [str9_size, str9_size]; omega
  have pc8 : p1 ≤ c8 := by omega
  have tS : ((str9 (us ++ vs)).toList == (str9 (us ++ vs)).toList) = true := str_same _
  have tU : ((str9 us').toList == (str9 us').toList) = true := str_same _
  have tc : (ct == ct) = true := by simp
  have ck := blk_regrown k15
  have cs := blk_regrown s15
  have cr := blk_regrown r15
  generalize str9 (us ++ vs) = SA at *
  generalize str9 us' = SU at *
  generalize str9 us = SB at *
  generalize str9 QL = SC at *
  clear hqu
  refine wp_region_quiet_below (by kernel_rfl) (by kernel_rfl) ?_
  repeat (go_big_quiet_step (fail))
  refine wpQuiet_nil ?_
  rintro wq hwq
  replace hwq := new_of_regrown hwq
  go_wp2
  go_ret
  exact ⟨rfl, N15.trans hwq⟩

set_option maxRecDepth 100000 in
theorem fnjo_lifted (os : Os) (started : os.Started) (H : Type) (enc : TypeId × Value → H) :
    ReturnsInHanded {} Try.checked os 3 .any (Rows.fnJournalsSpec.pre6 enc Try.prog Try.f3 Rows.fnJournalsRow.domain false) (Rows.fnJournalsSpec.post enc Try.prog Try.f3 false true false false) := by
  refine returnsInHanded_of_change (C := Try.checked) own started (by kernel_rfl) Try.func3
    (ChangeSpec.witness6 (enc := enc) (C := Try.checked) false ⟨#[], #[.slice none 0 0], []⟩ 8 (by kernel_rfl) (by kernel_rfl) (by kernel_rfl) (by kernel_rfl)) ?_
  intro W base args ds gs before hval0 hW hcnd _
  have hval : ∀ (j : Nat) t v, Try.f3.params[j]? = some t → args[j]? = some v → Value.okWide Try.prog W .any base t v := hval0
  have hW' := hW
  obtain ⟨p, q, hA0, hV, rfl, hfz, hnd⟩ := hW
  have hA : DataW.TrodAll enc Try.prog W 0 (fun _ => true) true Try.f3.params.toList args.toList ds p := hA0
  rw [Try.params3] at hA hval
  obtain ⟨v0, vs0, d0, ds0, p0, q0, hargs, rfl, rfl, h0, r0⟩ := trodAll_cons hA
  obtain ⟨rfl, rfl, rfl⟩ := trodAll_nil r0
  obtain rfl : args = #[v0] := by cases args; simp_all
  obtain ⟨rfl, rfl⟩ := trodVars_none hV
  have k0 := h0
  have lt0 : ∀ x ∈ p0, x.block < W.heap.size := by obtain ⟨m, hm⟩ := k0; exact DataW.trod_lt m _ _ _ hm
  obtain ⟨a0, len0, cap0, rfl⟩ := okWide_slice Try.underlying22 (hval 0 22 v0 rfl rfl)
  obtain ⟨z0, b0, e0, m0⟩ := open_bytes h0
  clear hA0 hval0
  refine (fnjo_walk a0 len0 cap0 z0 W b0 e0 m0.2 (fun x h1 h2 => by obtain ⟨bb, oo, hh, hl⟩ := b0.block_lt h1; rw [h2] at hh; obtain rfl := Option.some.inj hh; exact hl)).mono fun e W' ⟨he, new⟩ => ?_
  have bel := new.below
  subst he
  exact ⟨_, rfl, _, _, _, [], _, [], hW', trodAll_mk1 (shut_bool Try.underlying4 _), (trodAll_cons_mk (Below.trod laidOut (by kernel_rfl) (of_decide_eq_true (by kernel_rfl)) k0 bel lt0) trodAll_mk0), rfl, bel.frame _, fun h => by cases h⟩

theorem fnjo_holds : Rows.FnJournalsSaid :=
  OpenClaim.holds_of_wide 3 Try.f3 rfl rfl rfl rfl rfl rfl rfl ⟨rfl, rfl, rfl, rfl, rfl⟩ rfl rfl rfl rfl rfl (by kernel_rfl) Try.func3 (by kernel_rfl)
    (of_decide_eq_true (by kernel_rfl)) (by unfold Func.isWrapper; first | (rw [if_pos (by decide +kernel)]; kernel_rfl) | (rw [if_neg (by decide +kernel)]; exact ⟨rfl, rfl⟩))
    (fun os started H enc _ => fnjo_lifted os started H enc)

end Go.Proofs.Ytfaenhhmbdmdhaa
