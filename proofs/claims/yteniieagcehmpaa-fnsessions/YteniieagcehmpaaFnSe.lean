/- What is proved here: for every bytes the law on what sessions hear returns true, and the bytes read as they did. No condition. -/
import Derived.Test.YteniieagcehmpaaSeMath
import Derived.Test.YteniieagcehmpaaDrawHe
import Derived.Test.YteniieagcehmpaaS5HeS
import Derived.Test.YteniieagcehmpaaS5Res
import Derived.Test.YteniieagcehmpaaLwBig
import Derived.Test.YteniieagcehmpaaOpen
import Derived.Deep.CutRange
import Derived.Deep.RegionHeld3
namespace Go.Proofs.Yteniieagcehmpaa
open Go.ChangeShapes Go.WideShapes Go.ChangeAt Go.RowKit Go.Sort
set_option linter.unusedVariables false
set_option linter.unusedSimpArgs false

set_option maxRecDepth 100000 in
set_option maxHeartbeats 25600000 in
theorem fnse_walk (a : Option Addr) (n c : Nat) (zs : List Int) (w : World) (h : BsAt w a zs) (hn : zs.length = n) (hm : n ≤ maxLen) (hnil : a = none → n = 0 ∧ c = 0) (ha : ∀ x, zs ≠ [] → a = some x → x.block < w.heap.size) :
    Calls Try.prog 3 #[.slice a n c] w fun e w' => e = .returned (.bool true) ∧ New w w' := by
  by_cases hbig : 1048576 < n
  · go_enter Try.func3, Try.ntmps3
    go_wp2_with fail
    refine (lbig_yes a n c _ hbig).mono ?_
    rintro e w0 ⟨rfl, hw0⟩
    rw [hw0]
    go_wp2
    go_ret
    exact ⟨rfl, New.refl _⟩
  have hfd0 : ∀ (c0 c1 c2 c3 c4 c5 c6 c7 c8 c9 : Value) (X : World), (Instr.field 40 (.agg #[c0, c1, c2, c3, c4, c5, c6, c7, c8, c9]) 0).run Try.prog X = .ok c0 X := fun _ _ _ _ _ _ _ _ _ _ _ => by kernel_rfl
  have hfd2 : ∀ (c0 c1 c2 c3 c4 c5 c6 c7 c8 c9 : Value) (X : World), (Instr.field 40 (.agg #[c0, c1, c2, c3, c4, c5, c6, c7, c8, c9]) 2).run Try.prog X = .ok c6 X := fun _ _ _ _ _ _ _ _ _ _ _ => by kernel_rfl
  go_enter Try.func3, Try.ntmps3
  go_wp2_with fail
  refine (lbig_no a n c _ hbig).mono ?_
  rintro e w0 ⟨rfl, hw0⟩
  rw [hw0]
  clear hw0
  go_wp2_with fail
  refine (drawHear a n c zs _ h hn (by omega) hnil ha).mono ?_
  rintro e w1 ⟨ca, ci, ch, st, pe, ho, si, sp, kd, sa, mh, mi, wh, su, gs, rs, xs, has, o, nx, md, lc, xa, ya, za, xn, xc, yn, yc, zn, zc, rfl, hPg, hNx, hPr, hxn, hyn, hzn, lx, ly, lz, N⟩
  have HXN : Hid (gs.length = xn) := hxn
  have HYN : Hid (xs.length = yn) := hyn
  have HZN : Hid (rs.length = zn) := hzn
  have lm1 : xn ≤ 1048576 := by omega
  have lm2 : yn ≤ 1048576 := by omega
  have lm3 : zn ≤ 1048576 := by omega
  clear h hn hm hnil ha hbig hxn hyn hzn lx ly lz
  go_upto_region 4 with fail
  have hal : New w1 (((w1.alloc (.cells #[.int .i64 ca, .int .i64 ci, .int .i64 ch] 25)).alloc (.cells #[.int .i64 st, .int .i64 pe, .int .i64 ho, .int .i64 si, .int .i64 sp] 27)).alloc (.cells #[.int .i64 kd, .int .i64 sa, .int .i64 mh, .int .i64 mi, .int .i64 wh, .int .i64 su, .slice xa xn xc, .bool has, .int .i64 o, .slice ya yn yc, .int .i64 nx, .int .i64 md, .int .i64 lc, .slice za zn zc] 35)) := (((New.refl w1).alloc _).alloc _).alloc _
  have bC : Blk (((w1.alloc (.cells #[.int .i64 ca, .int .i64 ci, .int .i64 ch] 25)).alloc (.cells #[.int .i64 st, .int .i64 pe, .int .i64 ho, .int .i64 si, .int .i64 sp] 27)).alloc (.cells #[.int .i64 kd, .int .i64 sa, .int .i64 mh, .int .i64 mi, .int .i64 wh, .int .i64 su, .slice xa xn xc, .bool has, .int .i64 o, .slice ya yn yc, .int .i64 nx, .int .i64 md, .int .i64 lc, .slice za zn zc] 35)) w1.heap.size 25 #[.int .i64 ca, .int .i64 ci, .int .i64 ch] := ((Blk.mk _ _ _ _ rfl).alloc _).alloc _
  have bS : Blk (((w1.alloc (.cells #[.int .i64 ca, .int .i64 ci, .int .i64 ch] 25)).alloc (.cells #[.int .i64 st, .int .i64 pe, .int .i64 ho, .int .i64 si, .int .i64 sp] 27)).alloc (.cells #[.int .i64 kd, .int .i64 sa, .int .i64 mh, .int .i64 mi, .int .i64 wh, .int .i64 su, .slice xa xn xc, .bool has, .int .i64 o, .slice ya yn yc, .int .i64 nx, .int .i64 md, .int .i64 lc, .slice za zn zc] 35)) (w1.heap.size + 1) 27 #[.int .i64 st, .int .i64 pe, .int .i64 ho, .int .i64 si, .int .i64 sp] := (Blk.mk _ _ _ _ (by simp)).alloc _
  have bM : Blk (((w1.alloc (.cells #[.int .i64 ca, .int .i64 ci, .int .i64 ch] 25)).alloc (.cells #[.int .i64 st, .int .i64 pe, .int .i64 ho, .int .i64 si, .int .i64 sp] 27)).alloc (.cells #[.int .i64 kd, .int .i64 sa, .int .i64 mh, .int .i64 mi, .int .i64 wh, .int .i64 su, .slice xa xn xc, .bool has, .int .i64 o, .slice ya yn yc, .int .i64 nx, .int .i64 md, .int .i64 lc, .slice za zn zc] 35)) (w1.heap.size + 1 + 1) 35 #[.int .i64 kd, .int .i64 sa, .int .i64 mh, .int .i64 mi, .int .i64 wh, .int .i64 su, .slice xa xn xc, .bool has, .int .i64 o, .slice ya yn yc, .int .i64 nx, .int .i64 md, .int .i64 lc, .slice za zn zc] := Blk.mk _ _ _ _ (by simp)
  have N := N.trans hal
  have hPg := hPg.new hal
  have hNx := hNx.new hal
  have hPr := hPr.new hal
  clear hal
  generalize (((w1.alloc (.cells #[.int .i64 ca, .int .i64 ci, .int .i64 ch] 25)).alloc (.cells #[.int .i64 st, .int .i64 pe, .int .i64 ho, .int .i64 si, .int .i64 sp] 27)).alloc (.cells #[.int .i64 kd, .int .i64 sa, .int .i64 mh, .int .i64 mi, .int .i64 wh, .int .i64 su, .slice xa xn xc, .bool has, .int .i64 o, .slice ya yn yc, .int .i64 nx, .int .i64 md, .int .i64 lc, .slice za zn zc] 35)) = w2 at *
  have cC := bC.cells
  have cS := bS.cells
  have cM := bM.cells
  obtain ⟨q, hq⟩ : ∃ q, Hid (mf kd sa mh mi wh su gs has o xs nx md lc rs = q) := ⟨_, rfl⟩
  obtain ⟨r, hR⟩ : ∃ r, Hid (hearsR ca ci ch st pe ho si sp kd sa mh (mf kd sa mh mi wh su gs has o xs nx md lc rs) = r) := ⟨_, rfl⟩
  by_cases hok : ask ca ci ch st pe ho si sp = 0 ∧ q = 0
  case neg =>
    obtain ⟨k5, hk5, hr5⟩ : ∃ k5 : Int, ¬ k5 = 0 ∧ r = badR k5 := by
      have e := hR.out
      rw [hq.out] at e
      unfold hearsR at e
      by_cases h1 : ask ca ci ch st pe ho si sp = 0
      · rw [if_pos h1, if_neg (fun e2 => hok ⟨h1, e2⟩)] at e
        exact ⟨q, fun e2 => hok ⟨h1, e2⟩, e.symm⟩
      · rw [if_neg h1] at e
        exact ⟨_, h1, e.symm⟩
    subst hr5
    have hk : (k5 != 0) = true := by simpa using hk5
    have hkk : (k5 == k5) = true := by simp
    clear hok hq hk5
    go_wp2_with fail
    refine (implHears ca ci ch st pe ho si sp kd sa mh mi wh su xa ya za xn xc yn yc zn zc has o nx md lc gs rs xs _ (hPg) (hNx) (hPr) HXN.out HYN.out HZN.out lm1 lm2 lm3).mono ?_
    rintro e w3 hx3
    rw [hR.out] at hx3
    obtain ⟨g, v, rfl, hg, hl, hs, hn3⟩ := hx3
    have hv : v = .slice none 0 0 := hs
    subst hv
    dsimp only [srC]
    have hal := (New.refl w3).alloc (.cells #[.int .i64 k5, .int .i64 0, .int .i64 0, .int .i64 0, .int .i64 0, .int .i64 0, .slice none 0 0, .bool false, .bool false, .bool false] 40)
    have bR := Blk.mk w3 w3.heap.size 40 #[.int .i64 k5, .int .i64 0, .int .i64 0, .int .i64 0, .int .i64 0, .int .i64 0, .slice none 0 0, .bool false, .bool false, .bool false] rfl
    go_upto_region 6 with fail
    have bC := (bC.new hn3).new hal
    have bS := (bS.new hn3).new hal
    have bM := (bM.new hn3).new hal
    have N := (N.trans hn3).trans hal
    have hPg := (hPg.new hn3).new hal
    have hNx := (hNx.new hn3).new hal
    have hPr := (hPr.new hn3).new hal
    clear cC cS cM hn3 hal
    generalize w3.alloc (.cells #[.int .i64 k5, .int .i64 0, .int .i64 0, .int .i64 0, .int .i64 0, .int .i64 0, .slice none 0 0, .bool false, .bool false, .bool false] 40) = w4 at *
    have cC := bC.cells
    have cS := bS.cells
    have cM := bM.cells
    have cR := bR.cells
    go_region_held3 (fun W => (∀ j, W.cell? ⟨w1.heap.size, j, none⟩ = #[Value.int .i64 ca, .int .i64 ci, .int .i64 ch][j]?) ∧ (∀ j, W.cell? ⟨w1.heap.size + 1, j, none⟩ = #[Value.int .i64 st, .int .i64 pe, .int .i64 ho, .int .i64 si, .int .i64 sp][j]?) ∧ (∀ j, W.cell? ⟨w1.heap.size + 1 + 1, j, none⟩ = #[Value.int .i64 kd, .int .i64 sa, .int .i64 mh, .int .i64 mi, .int .i64 wh, .int .i64 su, .slice xa xn xc, .bool has, .int .i64 o, .slice ya yn yc, .int .i64 nx, .int .i64 md, .int .i64 lc, .slice za zn zc][j]?) ∧ (∀ j, W.cell? ⟨w3.heap.size, j, none⟩ = #[Value.int .i64 k5, .int .i64 0, .int .i64 0, .int .i64 0, .int .i64 0, .int .i64 0, .slice none 0 0, .bool false, .bool false, .bool false][j]?)) (first | exact ⟨cC, cS, cM, cR⟩ | exact ⟨cC5, cS5, cM5, cR5⟩)
      ((go_at_call 7; refine (specHears ca ci ch st pe ho si sp kd sa mh mi wh su xa ya za xn xc yn yc zn zc has o nx md lc gs rs xs _ ?_ ?_ ?_ HXN.out HYN.out HZN.out lm1 lm2 lm3).mono ?_; exact hPg.new ((New.refl _).drew); exact hNx.new ((New.refl _).drew); exact hPr.new ((New.refl _).drew); rintro e w5 hx5; rw [hR.out] at hx5; obtain ⟨g5, v5, rfl, hg5, hl5, hs5, hn5⟩ := hx5; have hv5 : v5 = .slice none 0 0 := hs5; subst hv5; dsimp only [srC]; have D5 := ((New.refl _).drew).trans hn5; have cC5 := (bC.new D5).cells; have cS5 := (bS.new D5).cells; have cM5 := (bM.new D5).cells; have cR5 := (bR.new D5).cells))
    go_wp2
    go_ret
    exact ⟨by first | rfl | simp, N.trans D5⟩
  obtain ⟨hk0, hq0⟩ := hok
  subst hq0
  have hr0 : r = hears0 st pe ho sp ch kd sa mh := by
    have e := hR.out
    rw [hq.out] at e
    unfold hearsR at e
    rw [if_pos hk0, if_pos rfl] at e
    exact e.symm
  obtain ⟨h1, h2, h3, h4⟩ := heard hk0 hq.out
  rw [← hr0] at h1 h2 h3 h4
  obtain ⟨hcf, -⟩ := cf_of_ask hk0
  clear hr0 hq hk0
  obtain ⟨rc, rt, rp, rh, ri, rs5, say, up, dn, ud⟩ := r
  dsimp only at h1 h2 h3 h4
  subst h1
  have hSay : Hid (Say5 say) := h3
  have hFA : Hid (∀ W, Calls Try.prog 8 #[.agg #[.int .i64 rt, .int .i64 rp, .int .i64 rh, .int .i64 ri, .int .i64 rs5]] W fun e w' => e = .returned (.int .i64 0) ∧ New W w') := fun W => by rw [← h2]; exact implSF rt rp rh ri rs5 W
  have hST : Hid (∀ W, Calls Try.prog 10 #[.agg #[.int .i64 ca, .int .i64 ci, .int .i64 ch], .agg #[.int .i64 rt, .int .i64 rp, .int .i64 rh, .int .i64 ri, .int .i64 rs5]] W (Ans W (failsR ca ci ch rt rp rh ri rs5 6 2))) := fun W => implStop ca ci ch rt rp rh ri rs5 W
  obtain ⟨f1, f2⟩ := fail5 hcf h2
  generalize failsR ca ci ch rt rp rh ri rs5 6 2 = r9 at hST f1 f2
  obtain ⟨c9, t9, jp, jh, ji, js5, say9, up9, dn9, ud9⟩ := r9
  dsimp only at f1 f2
  subst f1
  subst f2
  clear h2 h3 hcf
  obtain ⟨m, hm5⟩ : ∃ m, Hid (sayN say = m) := ⟨_, rfl⟩
  obtain ⟨m9, hm9⟩ : ∃ m, Hid (sayN say9 = m) := ⟨_, rfl⟩
  have hm1 : m ≤ 1 := by rw [← hm5.out]; cases say <;> simp [sayN]
  have hmm : ((m : Int) == (m : Int)) = true := by simp
  go_wp2_with fail
  refine (implHears ca ci ch st pe ho si sp kd sa mh mi wh su xa ya za xn xc yn yc zn zc has o nx md lc gs rs xs _ (hPg) (hNx) (hPr) HXN.out HYN.out HZN.out lm1 lm2 lm3).mono ?_
  rintro e w3 hx3
  rw [hR.out] at hx3
  obtain ⟨g3, a3, rfl, hg3, hl3, hs3, hn3⟩ := hx3.opened hm5
  have hal := (New.refl w3).alloc (.cells #[.int .i64 0, .int .i64 rt, .int .i64 rp, .int .i64 rh, .int .i64 ri, .int .i64 rs5, .slice a3 m m, .bool up, .bool dn, .bool ud] 40)
  have bR := Blk.mk w3 w3.heap.size 40 #[.int .i64 0, .int .i64 rt, .int .i64 rp, .int .i64 rh, .int .i64 ri, .int .i64 rs5, .slice a3 m m, .bool up, .bool dn, .bool ud] rfl
  have bC := (bC.new hn3).new hal
  have bS := (bS.new hn3).new hal
  have bM := (bM.new hn3).new hal
  have N := (N.trans hn3).trans hal
  have hPg := (hPg.new hn3).new hal
  have hNx := (hNx.new hn3).new hal
  have hPr := (hPr.new hn3).new hal
  have hs3 := hs3.new hal
  go_upto_region 7 with fail
  clear cC cS cM hn3 hal hx3
  generalize w3.alloc (.cells #[.int .i64 0, .int .i64 rt, .int .i64 rp, .int .i64 rh, .int .i64 ri, .int .i64 rs5, .slice a3 m m, .bool up, .bool dn, .bool ud] 40) = w4 at *
  rcases h4 with ⟨t3, s3, rfl, rfl, rfl⟩ | ⟨rfl, rfl, rfl, rfl, rfl, rfl⟩ | ⟨t3, rfl, rfl, rfl, rfl⟩ | ⟨rfl, rfl, rfl, rfl, rfl, rfl⟩ | ⟨rfl, rfl, rfl, rfl, rfl⟩
  · have t3b : (rt == 3) = false := by simpa using t3
    have s3b : (st == 3) = false := by simpa using s3
    have s3c : (st != 3) = true := by simpa using s3
    have cC := bC.cells
    have cS := bS.cells
    have cM := bM.cells
    have cR := bR.cells
    go_wp2_with fail
    refine (hFA.out _).mono ?_
    rintro e w5 ⟨rfl, hn5⟩
    have bC := bC.new hn5
    have bS := bS.new hn5
    have bM := bM.new hn5
    have bR := bR.new hn5
    have N := N.trans hn5
    have hs3 := hs3.new hn5
    have hPg := hPg.new hn5
    have hNx := hNx.new hn5
    have hPr := hPr.new hn5
    clear hn5
    have cC := bC.cells
    have cS := bS.cells
    have cM := bM.cells
    have cR := bR.cells
    go_upto_region 11 with fail
    go_loopw [8] (fun i wr => ∃ k : Nat, k ≤ m ∧ i = .int .i64 k ∧ New w5 wr) (fun i _ => m - (intOf i).toNat)
    case atStart => exact ⟨0, Nat.zero_le _, rfl, New.refl _⟩
    case round =>
      obtain ⟨k, hk, rfl, hnw⟩ := hrel
      clear cC cS cM cR
      have bC := bC.new hnw
      have bS := bS.new hnw
      have bM := bM.new hnw
      have bR := bR.new hnw
      have N := N.trans hnw
      have hs3 := hs3.new hnw
      have hPg := hPg.new hnw
      have hNx := hNx.new hnw
      have hPr := hPr.new hnw
      have cR := bR.cells
      by_cases hlt : k < m
      · cases say with
        | none => exact absurd hm5.out (by show ¬ 0 = m; omega)
        | some q =>
          obtain ⟨qk, qa, qh, qi, qw, qs⟩ := q
          obtain ⟨hva, hbq⟩ := hs3
          have e1 : 1 = m := hm5.out
          have e0 : k = 0 := by omega
          subst e0
          subst e1
          simp only [Value.slice.injEq, and_true] at hva
          subst hva
          have hQ : Hid (mf qk qa qh qi qw qs [] false 0 [] 0 0 0 [] = 0) := hSay.out
          dsimp only [msC] at hbq
          have cQ := hbq.cells
          go_wp2_with fail
          refine (implMF none none none 0 0 0 0 0 0 false 0 0 0 0 [] [] [] qk qa qh qi qw qs _ (PsAt.nil _ _) (NsAt.nil _ _) (PsAt.nil _ _) rfl rfl rfl (by omega) (by omega) (by omega)).mono ?_
          rintro e w6 ⟨rfl, hn6⟩
          rw [hQ.out]
          go_wp2
          go_roundw
          case rel => exact ⟨_, _, _, _, _, _, _, _, _, _, _, _, _, _, _, _, ⟨1, by omega, rfl, hnw.trans hn6⟩, rfl⟩
          case measure => simp [intOf]
      · have cC := bC.cells
        go_wp2_with fail
        refine (hST.out _).mono ?_
        rintro e w8 hx8
        obtain ⟨g8, a9, rfl, hg8, hl8, hs8, hn8⟩ := hx8.opened hm9
        have hal := (New.refl w8).alloc (.cells #[.int .i64 0, .int .i64 0, .int .i64 jp, .int .i64 jh, .int .i64 ji, .int .i64 js5, .slice a9 m9 m9, .bool up9, .bool dn9, .bool ud9] 40)
        have bI := Blk.mk w8 w8.heap.size 40 #[.int .i64 0, .int .i64 0, .int .i64 jp, .int .i64 jh, .int .i64 ji, .int .i64 js5, .slice a9 m9 m9, .bool up9, .bool dn9, .bool ud9] rfl
        have bC := (bC.new hn8).new hal
        have bS := (bS.new hn8).new hal
        have bM := (bM.new hn8).new hal
        have bR := (bR.new hn8).new hal
        have N := (N.trans hn8).trans hal
        have hPg := (hPg.new hn8).new hal
        have hNx := (hNx.new hn8).new hal
        have hPr := (hPr.new hn8).new hal
        go_upto_region 16 with fail
        clear cC cR hn8 hal hs8 hs3 hx8
        generalize w8.alloc (.cells #[.int .i64 0, .int .i64 0, .int .i64 jp, .int .i64 jh, .int .i64 ji, .int .i64 js5, .slice a9 m9 m9, .bool up9, .bool dn9, .bool ud9] 40) = w9 at *
        have cC := bC.cells
        have cS := bS.cells
        have cM := bM.cells
        have cR := bR.cells
        have cI := bI.cells
        go_region_held3 (fun W => (∀ j, W.cell? ⟨w1.heap.size, j, none⟩ = #[Value.int .i64 ca, .int .i64 ci, .int .i64 ch][j]?) ∧ (∀ j, W.cell? ⟨w1.heap.size + 1, j, none⟩ = #[Value.int .i64 st, .int .i64 pe, .int .i64 ho, .int .i64 si, .int .i64 sp][j]?) ∧ (∀ j, W.cell? ⟨w1.heap.size + 1 + 1, j, none⟩ = #[Value.int .i64 kd, .int .i64 sa, .int .i64 mh, .int .i64 mi, .int .i64 wh, .int .i64 su, .slice xa xn xc, .bool has, .int .i64 o, .slice ya yn yc, .int .i64 nx, .int .i64 md, .int .i64 lc, .slice za zn zc][j]?) ∧ (∀ j, W.cell? ⟨w3.heap.size, j, none⟩ = #[Value.int .i64 0, .int .i64 rt, .int .i64 rp, .int .i64 rh, .int .i64 ri, .int .i64 rs5, .slice a3 m m, .bool false, .bool false, .bool false][j]?) ∧ (∀ j, W.cell? ⟨w8.heap.size, j, none⟩ = #[Value.int .i64 0, .int .i64 0, .int .i64 jp, .int .i64 jh, .int .i64 ji, .int .i64 js5, .slice a9 m9 m9, .bool up9, .bool dn9, .bool ud9][j]?)) (first | exact ⟨cC, cS, cM, cR, cI⟩ | exact ⟨cC6, cS6, cM6, cR6, cI6⟩)
          ((go_at_call 7; refine (specHears ca ci ch st pe ho si sp kd sa mh mi wh su xa ya za xn xc yn yc zn zc has o nx md lc gs rs xs _ ?_ ?_ ?_ HXN.out HYN.out HZN.out lm1 lm2 lm3).mono ?_; exact hPg.new ((New.refl _).drew); exact hNx.new ((New.refl _).drew); exact hPr.new ((New.refl _).drew); rintro e w10 hx10; rw [hR.out] at hx10; obtain ⟨g10, a10, rfl, hg10, hl10, hs10, hn10⟩ := hx10.opened hm5; have D6 := ((New.refl _).drew).trans hn10; have cC6 := (bC.new D6).cells; have cS6 := (bS.new D6).cells; have cM6 := (bM.new D6).cells; have cR6 := (bR.new D6).cells; have cI6 := (bI.new D6).cells))
        go_wp2
        go_ret
        exact ⟨by first | rfl | simp, N.trans D6⟩
  · have cC := bC.cells
    have cS := bS.cells
    have cM := bM.cells
    have cR := bR.cells
    go_wp2_with fail
    refine (hFA.out _).mono ?_
    rintro e w5 ⟨rfl, hn5⟩
    have bC := bC.new hn5
    have bS := bS.new hn5
    have bM := bM.new hn5
    have bR := bR.new hn5
    have N := N.trans hn5
    have hs3 := hs3.new hn5
    have hPg := hPg.new hn5
    have hNx := hNx.new hn5
    have hPr := hPr.new hn5
    clear hn5
    have cC := bC.cells
    have cS := bS.cells
    have cM := bM.cells
    have cR := bR.cells
    go_upto_region 11 with fail
    go_loopw [8] (fun i wr => ∃ k : Nat, k ≤ m ∧ i = .int .i64 k ∧ New w5 wr) (fun i _ => m - (intOf i).toNat)
    case atStart => exact ⟨0, Nat.zero_le _, rfl, New.refl _⟩
    case round =>
      obtain ⟨k, hk, rfl, hnw⟩ := hrel
      clear cC cS cM cR
      have bC := bC.new hnw
      have bS := bS.new hnw
      have bM := bM.new hnw
      have bR := bR.new hnw
      have N := N.trans hnw
      have hs3 := hs3.new hnw
      have hPg := hPg.new hnw
      have hNx := hNx.new hnw
      have hPr := hPr.new hnw
      have cR := bR.cells
      by_cases hlt : k < m
      · cases say with
        | none => exact absurd hm5.out (by show ¬ 0 = m; omega)
        | some q =>
          obtain ⟨qk, qa, qh, qi, qw, qs⟩ := q
          obtain ⟨hva, hbq⟩ := hs3
          have e1 : 1 = m := hm5.out
          have e0 : k = 0 := by omega
          subst e0
          subst e1
          simp only [Value.slice.injEq, and_true] at hva
          subst hva
          have hQ : Hid (mf qk qa qh qi qw qs [] false 0 [] 0 0 0 [] = 0) := hSay.out
          dsimp only [msC] at hbq
          have cQ := hbq.cells
          go_wp2_with fail
          refine (implMF none none none 0 0 0 0 0 0 false 0 0 0 0 [] [] [] qk qa qh qi qw qs _ (PsAt.nil _ _) (NsAt.nil _ _) (PsAt.nil _ _) rfl rfl rfl (by omega) (by omega) (by omega)).mono ?_
          rintro e w6 ⟨rfl, hn6⟩
          rw [hQ.out]
          go_wp2
          go_roundw
          case rel => exact ⟨_, _, _, _, _, _, _, _, _, _, _, _, _, _, _, _, ⟨1, by omega, rfl, hnw.trans hn6⟩, rfl⟩
          case measure => simp [intOf]
      · have cC := bC.cells
        go_wp2_with fail
        refine (hST.out _).mono ?_
        rintro e w8 hx8
        obtain ⟨g8, a9, rfl, hg8, hl8, hs8, hn8⟩ := hx8.opened hm9
        have hal := (New.refl w8).alloc (.cells #[.int .i64 0, .int .i64 0, .int .i64 jp, .int .i64 jh, .int .i64 ji, .int .i64 js5, .slice a9 m9 m9, .bool up9, .bool dn9, .bool ud9] 40)
        have bI := Blk.mk w8 w8.heap.size 40 #[.int .i64 0, .int .i64 0, .int .i64 jp, .int .i64 jh, .int .i64 ji, .int .i64 js5, .slice a9 m9 m9, .bool up9, .bool dn9, .bool ud9] rfl
        have bC := (bC.new hn8).new hal
        have bS := (bS.new hn8).new hal
        have bM := (bM.new hn8).new hal
        have bR := (bR.new hn8).new hal
        have N := (N.trans hn8).trans hal
        have hPg := (hPg.new hn8).new hal
        have hNx := (hNx.new hn8).new hal
        have hPr := (hPr.new hn8).new hal
        go_upto_region 16 with fail
        clear cC cR hn8 hal hs8 hs3 hx8
        generalize w8.alloc (.cells #[.int .i64 0, .int .i64 0, .int .i64 jp, .int .i64 jh, .int .i64 ji, .int .i64 js5, .slice a9 m9 m9, .bool up9, .bool dn9, .bool ud9] 40) = w9 at *
        have cC := bC.cells
        have cS := bS.cells
        have cM := bM.cells
        have cR := bR.cells
        have cI := bI.cells
        go_region_held3 (fun W => (∀ j, W.cell? ⟨w1.heap.size, j, none⟩ = #[Value.int .i64 ca, .int .i64 ci, .int .i64 ch][j]?) ∧ (∀ j, W.cell? ⟨w1.heap.size + 1, j, none⟩ = #[Value.int .i64 2, .int .i64 pe, .int .i64 ho, .int .i64 si, .int .i64 sp][j]?) ∧ (∀ j, W.cell? ⟨w1.heap.size + 1 + 1, j, none⟩ = #[Value.int .i64 4, .int .i64 sa, .int .i64 mh, .int .i64 mi, .int .i64 wh, .int .i64 su, .slice xa xn xc, .bool has, .int .i64 o, .slice ya yn yc, .int .i64 nx, .int .i64 md, .int .i64 lc, .slice za zn zc][j]?) ∧ (∀ j, W.cell? ⟨w3.heap.size, j, none⟩ = #[Value.int .i64 0, .int .i64 3, .int .i64 rp, .int .i64 rh, .int .i64 ri, .int .i64 rs5, .slice a3 m m, .bool true, .bool false, .bool false][j]?) ∧ (∀ j, W.cell? ⟨w8.heap.size, j, none⟩ = #[Value.int .i64 0, .int .i64 0, .int .i64 jp, .int .i64 jh, .int .i64 ji, .int .i64 js5, .slice a9 m9 m9, .bool up9, .bool dn9, .bool ud9][j]?)) (first | exact ⟨cC, cS, cM, cR, cI⟩ | exact ⟨cC6, cS6, cM6, cR6, cI6⟩)
          ((go_at_call 7; refine (specHears ca ci ch 2 pe ho si sp 4 sa mh mi wh su xa ya za xn xc yn yc zn zc has o nx md lc gs rs xs _ ?_ ?_ ?_ HXN.out HYN.out HZN.out lm1 lm2 lm3).mono ?_; exact hPg.new ((New.refl _).drew); exact hNx.new ((New.refl _).drew); exact hPr.new ((New.refl _).drew); rintro e w10 hx10; rw [hR.out] at hx10; obtain ⟨g10, a10, rfl, hg10, hl10, hs10, hn10⟩ := hx10.opened hm5; have D6 := ((New.refl _).drew).trans hn10; have cC6 := (bC.new D6).cells; have cS6 := (bS.new D6).cells; have cM6 := (bM.new D6).cells; have cR6 := (bR.new D6).cells; have cI6 := (bI.new D6).cells))
        go_wp2
        go_ret
        exact ⟨by first | rfl | simp, N.trans D6⟩
  · have t3b : (rt == 3) = false := by simpa using t3
    have cC := bC.cells
    have cS := bS.cells
    have cM := bM.cells
    have cR := bR.cells
    go_wp2_with fail
    refine (hFA.out _).mono ?_
    rintro e w5 ⟨rfl, hn5⟩
    have bC := bC.new hn5
    have bS := bS.new hn5
    have bM := bM.new hn5
    have bR := bR.new hn5
    have N := N.trans hn5
    have hs3 := hs3.new hn5
    have hPg := hPg.new hn5
    have hNx := hNx.new hn5
    have hPr := hPr.new hn5
    clear hn5
    have cC := bC.cells
    have cS := bS.cells
    have cM := bM.cells
    have cR := bR.cells
    go_upto_region 11 with fail
    go_loopw [8] (fun i wr => ∃ k : Nat, k ≤ m ∧ i = .int .i64 k ∧ New w5 wr) (fun i _ => m - (intOf i).toNat)
    case atStart => exact ⟨0, Nat.zero_le _, rfl, New.refl _⟩
    case round =>
      obtain ⟨k, hk, rfl, hnw⟩ := hrel
      clear cC cS cM cR
      have bC := bC.new hnw
      have bS := bS.new hnw
      have bM := bM.new hnw
      have bR := bR.new hnw
      have N := N.trans hnw
      have hs3 := hs3.new hnw
      have hPg := hPg.new hnw
      have hNx := hNx.new hnw
      have hPr := hPr.new hnw
      have cR := bR.cells
      by_cases hlt : k < m
      · cases say with
        | none => exact absurd hm5.out (by show ¬ 0 = m; omega)
        | some q =>
          obtain ⟨qk, qa, qh, qi, qw, qs⟩ := q
          obtain ⟨hva, hbq⟩ := hs3
          have e1 : 1 = m := hm5.out
          have e0 : k = 0 := by omega
          subst e0
          subst e1
          simp only [Value.slice.injEq, and_true] at hva
          subst hva
          have hQ : Hid (mf qk qa qh qi qw qs [] false 0 [] 0 0 0 [] = 0) := hSay.out
          dsimp only [msC] at hbq
          have cQ := hbq.cells
          go_wp2_with fail
          refine (implMF none none none 0 0 0 0 0 0 false 0 0 0 0 [] [] [] qk qa qh qi qw qs _ (PsAt.nil _ _) (NsAt.nil _ _) (PsAt.nil _ _) rfl rfl rfl (by omega) (by omega) (by omega)).mono ?_
          rintro e w6 ⟨rfl, hn6⟩
          rw [hQ.out]
          go_wp2
          go_roundw
          case rel => exact ⟨_, _, _, _, _, _, _, _, _, _, _, _, _, _, _, _, ⟨1, by omega, rfl, hnw.trans hn6⟩, rfl⟩
          case measure => simp [intOf]
      · have cC := bC.cells
        go_wp2_with fail
        refine (hST.out _).mono ?_
        rintro e w8 hx8
        obtain ⟨g8, a9, rfl, hg8, hl8, hs8, hn8⟩ := hx8.opened hm9
        have hal := (New.refl w8).alloc (.cells #[.int .i64 0, .int .i64 0, .int .i64 jp, .int .i64 jh, .int .i64 ji, .int .i64 js5, .slice a9 m9 m9, .bool up9, .bool dn9, .bool ud9] 40)
        have bI := Blk.mk w8 w8.heap.size 40 #[.int .i64 0, .int .i64 0, .int .i64 jp, .int .i64 jh, .int .i64 ji, .int .i64 js5, .slice a9 m9 m9, .bool up9, .bool dn9, .bool ud9] rfl
        have bC := (bC.new hn8).new hal
        have bS := (bS.new hn8).new hal
        have bM := (bM.new hn8).new hal
        have bR := (bR.new hn8).new hal
        have N := (N.trans hn8).trans hal
        have hPg := (hPg.new hn8).new hal
        have hNx := (hNx.new hn8).new hal
        have hPr := (hPr.new hn8).new hal
        go_upto_region 16 with fail
        clear cC cR hn8 hal hs8 hs3 hx8
        generalize w8.alloc (.cells #[.int .i64 0, .int .i64 0, .int .i64 jp, .int .i64 jh, .int .i64 ji, .int .i64 js5, .slice a9 m9 m9, .bool up9, .bool dn9, .bool ud9] 40) = w9 at *
        have cC := bC.cells
        have cS := bS.cells
        have cM := bM.cells
        have cR := bR.cells
        have cI := bI.cells
        go_region_held3 (fun W => (∀ j, W.cell? ⟨w1.heap.size, j, none⟩ = #[Value.int .i64 ca, .int .i64 ci, .int .i64 ch][j]?) ∧ (∀ j, W.cell? ⟨w1.heap.size + 1, j, none⟩ = #[Value.int .i64 3, .int .i64 pe, .int .i64 ho, .int .i64 si, .int .i64 sp][j]?) ∧ (∀ j, W.cell? ⟨w1.heap.size + 1 + 1, j, none⟩ = #[Value.int .i64 kd, .int .i64 sa, .int .i64 mh, .int .i64 mi, .int .i64 wh, .int .i64 su, .slice xa xn xc, .bool has, .int .i64 o, .slice ya yn yc, .int .i64 nx, .int .i64 md, .int .i64 lc, .slice za zn zc][j]?) ∧ (∀ j, W.cell? ⟨w3.heap.size, j, none⟩ = #[Value.int .i64 0, .int .i64 rt, .int .i64 rp, .int .i64 rh, .int .i64 ri, .int .i64 rs5, .slice a3 m m, .bool false, .bool true, .bool false][j]?) ∧ (∀ j, W.cell? ⟨w8.heap.size, j, none⟩ = #[Value.int .i64 0, .int .i64 0, .int .i64 jp, .int .i64 jh, .int .i64 ji, .int .i64 js5, .slice a9 m9 m9, .bool up9, .bool dn9, .bool ud9][j]?)) (first | exact ⟨cC, cS, cM, cR, cI⟩ | exact ⟨cC6, cS6, cM6, cR6, cI6⟩)
          ((go_at_call 7; refine (specHears ca ci ch 3 pe ho si sp kd sa mh mi wh su xa ya za xn xc yn yc zn zc has o nx md lc gs rs xs _ ?_ ?_ ?_ HXN.out HYN.out HZN.out lm1 lm2 lm3).mono ?_; exact hPg.new ((New.refl _).drew); exact hNx.new ((New.refl _).drew); exact hPr.new ((New.refl _).drew); rintro e w10 hx10; rw [hR.out] at hx10; obtain ⟨g10, a10, rfl, hg10, hl10, hs10, hn10⟩ := hx10.opened hm5; have D6 := ((New.refl _).drew).trans hn10; have cC6 := (bC.new D6).cells; have cS6 := (bS.new D6).cells; have cM6 := (bM.new D6).cells; have cR6 := (bR.new D6).cells; have cI6 := (bI.new D6).cells))
        go_wp2
        go_ret
        exact ⟨by first | rfl | simp, N.trans D6⟩
  · have cC := bC.cells
    have cS := bS.cells
    have cM := bM.cells
    have cR := bR.cells
    go_wp2_with fail
    refine (hFA.out _).mono ?_
    rintro e w5 ⟨rfl, hn5⟩
    have bC := bC.new hn5
    have bS := bS.new hn5
    have bM := bM.new hn5
    have bR := bR.new hn5
    have N := N.trans hn5
    have hs3 := hs3.new hn5
    have hPg := hPg.new hn5
    have hNx := hNx.new hn5
    have hPr := hPr.new hn5
    clear hn5
    have cC := bC.cells
    have cS := bS.cells
    have cM := bM.cells
    have cR := bR.cells
    go_upto_region 11 with fail
    go_loopw [8] (fun i wr => ∃ k : Nat, k ≤ m ∧ i = .int .i64 k ∧ New w5 wr) (fun i _ => m - (intOf i).toNat)
    case atStart => exact ⟨0, Nat.zero_le _, rfl, New.refl _⟩
    case round =>
      obtain ⟨k, hk, rfl, hnw⟩ := hrel
      clear cC cS cM cR
      have bC := bC.new hnw
      have bS := bS.new hnw
      have bM := bM.new hnw
      have bR := bR.new hnw
      have N := N.trans hnw
      have hs3 := hs3.new hnw
      have hPg := hPg.new hnw
      have hNx := hNx.new hnw
      have hPr := hPr.new hnw
      have cR := bR.cells
      by_cases hlt : k < m
      · cases say with
        | none => exact absurd hm5.out (by show ¬ 0 = m; omega)
        | some q =>
          obtain ⟨qk, qa, qh, qi, qw, qs⟩ := q
          obtain ⟨hva, hbq⟩ := hs3
          have e1 : 1 = m := hm5.out
          have e0 : k = 0 := by omega
          subst e0
          subst e1
          simp only [Value.slice.injEq, and_true] at hva
          subst hva
          have hQ : Hid (mf qk qa qh qi qw qs [] false 0 [] 0 0 0 [] = 0) := hSay.out
          dsimp only [msC] at hbq
          have cQ := hbq.cells
          go_wp2_with fail
          refine (implMF none none none 0 0 0 0 0 0 false 0 0 0 0 [] [] [] qk qa qh qi qw qs _ (PsAt.nil _ _) (NsAt.nil _ _) (PsAt.nil _ _) rfl rfl rfl (by omega) (by omega) (by omega)).mono ?_
          rintro e w6 ⟨rfl, hn6⟩
          rw [hQ.out]
          go_wp2
          go_roundw
          case rel => exact ⟨_, _, _, _, _, _, _, _, _, _, _, _, _, _, _, _, ⟨1, by omega, rfl, hnw.trans hn6⟩, rfl⟩
          case measure => simp [intOf]
      · have cC := bC.cells
        go_wp2_with fail
        refine (hST.out _).mono ?_
        rintro e w8 hx8
        obtain ⟨g8, a9, rfl, hg8, hl8, hs8, hn8⟩ := hx8.opened hm9
        have hal := (New.refl w8).alloc (.cells #[.int .i64 0, .int .i64 0, .int .i64 jp, .int .i64 jh, .int .i64 ji, .int .i64 js5, .slice a9 m9 m9, .bool up9, .bool dn9, .bool ud9] 40)
        have bI := Blk.mk w8 w8.heap.size 40 #[.int .i64 0, .int .i64 0, .int .i64 jp, .int .i64 jh, .int .i64 ji, .int .i64 js5, .slice a9 m9 m9, .bool up9, .bool dn9, .bool ud9] rfl
        have bC := (bC.new hn8).new hal
        have bS := (bS.new hn8).new hal
        have bM := (bM.new hn8).new hal
        have bR := (bR.new hn8).new hal
        have N := (N.trans hn8).trans hal
        have hPg := (hPg.new hn8).new hal
        have hNx := (hNx.new hn8).new hal
        have hPr := (hPr.new hn8).new hal
        go_upto_region 16 with fail
        clear cC cR hn8 hal hs8 hs3 hx8
        generalize w8.alloc (.cells #[.int .i64 0, .int .i64 0, .int .i64 jp, .int .i64 jh, .int .i64 ji, .int .i64 js5, .slice a9 m9 m9, .bool up9, .bool dn9, .bool ud9] 40) = w9 at *
        have cC := bC.cells
        have cS := bS.cells
        have cM := bM.cells
        have cR := bR.cells
        have cI := bI.cells
        go_region_held3 (fun W => (∀ j, W.cell? ⟨w1.heap.size, j, none⟩ = #[Value.int .i64 ca, .int .i64 ci, .int .i64 ch][j]?) ∧ (∀ j, W.cell? ⟨w1.heap.size + 1, j, none⟩ = #[Value.int .i64 3, .int .i64 pe, .int .i64 ho, .int .i64 si, .int .i64 sp][j]?) ∧ (∀ j, W.cell? ⟨w1.heap.size + 1 + 1, j, none⟩ = #[Value.int .i64 2, .int .i64 sa, .int .i64 mh, .int .i64 mi, .int .i64 wh, .int .i64 su, .slice xa xn xc, .bool has, .int .i64 o, .slice ya yn yc, .int .i64 nx, .int .i64 md, .int .i64 lc, .slice za zn zc][j]?) ∧ (∀ j, W.cell? ⟨w3.heap.size, j, none⟩ = #[Value.int .i64 0, .int .i64 3, .int .i64 rp, .int .i64 rh, .int .i64 ri, .int .i64 rs5, .slice a3 m m, .bool false, .bool false, .bool true][j]?) ∧ (∀ j, W.cell? ⟨w8.heap.size, j, none⟩ = #[Value.int .i64 0, .int .i64 0, .int .i64 jp, .int .i64 jh, .int .i64 ji, .int .i64 js5, .slice a9 m9 m9, .bool up9, .bool dn9, .bool ud9][j]?)) (first | exact ⟨cC, cS, cM, cR, cI⟩ | exact ⟨cC6, cS6, cM6, cR6, cI6⟩)
          ((go_at_call 7; refine (specHears ca ci ch 3 pe ho si sp 2 sa mh mi wh su xa ya za xn xc yn yc zn zc has o nx md lc gs rs xs _ ?_ ?_ ?_ HXN.out HYN.out HZN.out lm1 lm2 lm3).mono ?_; exact hPg.new ((New.refl _).drew); exact hNx.new ((New.refl _).drew); exact hPr.new ((New.refl _).drew); rintro e w10 hx10; rw [hR.out] at hx10; obtain ⟨g10, a10, rfl, hg10, hl10, hs10, hn10⟩ := hx10.opened hm5; have D6 := ((New.refl _).drew).trans hn10; have cC6 := (bC.new D6).cells; have cS6 := (bS.new D6).cells; have cM6 := (bM.new D6).cells; have cR6 := (bR.new D6).cells; have cI6 := (bI.new D6).cells))
        go_wp2
        go_ret
        exact ⟨by first | rfl | simp, N.trans D6⟩
  · have cC := bC.cells
    have cS := bS.cells
    have cM := bM.cells
    have cR := bR.cells
    go_wp2_with fail
    refine (hFA.out _).mono ?_
    rintro e w5 ⟨rfl, hn5⟩
    have bC := bC.new hn5
    have bS := bS.new hn5
    have bM := bM.new hn5
    have bR := bR.new hn5
    have N := N.trans hn5
    have hs3 := hs3.new hn5
    have hPg := hPg.new hn5
    have hNx := hNx.new hn5
    have hPr := hPr.new hn5
    clear hn5
    have cC := bC.cells
    have cS := bS.cells
    have cM := bM.cells
    have cR := bR.cells
    go_upto_region 11 with fail
    go_loopw [8] (fun i wr => ∃ k : Nat, k ≤ m ∧ i = .int .i64 k ∧ New w5 wr) (fun i _ => m - (intOf i).toNat)
    case atStart => exact ⟨0, Nat.zero_le _, rfl, New.refl _⟩
    case round =>
      obtain ⟨k, hk, rfl, hnw⟩ := hrel
      clear cC cS cM cR
      have bC := bC.new hnw
      have bS := bS.new hnw
      have bM := bM.new hnw
      have bR := bR.new hnw
      have N := N.trans hnw
      have hs3 := hs3.new hnw
      have hPg := hPg.new hnw
      have hNx := hNx.new hnw
      have hPr := hPr.new hnw
      have cR := bR.cells
      by_cases hlt : k < m
      · cases say with
        | none => exact absurd hm5.out (by show ¬ 0 = m; omega)
        | some q =>
          obtain ⟨qk, qa, qh, qi, qw, qs⟩ := q
          obtain ⟨hva, hbq⟩ := hs3
          have e1 : 1 = m := hm5.out
          have e0 : k = 0 := by omega
          subst e0
          subst e1
          simp only [Value.slice.injEq, and_true] at hva
          subst hva
          have hQ : Hid (mf qk qa qh qi qw qs [] false 0 [] 0 0 0 [] = 0) := hSay.out
          dsimp only [msC] at hbq
          have cQ := hbq.cells
          go_wp2_with fail
          refine (implMF none none none 0 0 0 0 0 0 false 0 0 0 0 [] [] [] qk qa qh qi qw qs _ (PsAt.nil _ _) (NsAt.nil _ _) (PsAt.nil _ _) rfl rfl rfl (by omega) (by omega) (by omega)).mono ?_
          rintro e w6 ⟨rfl, hn6⟩
          rw [hQ.out]
          go_wp2
          go_roundw
          case rel => exact ⟨_, _, _, _, _, _, _, _, _, _, _, _, _, _, _, _, ⟨1, by omega, rfl, hnw.trans hn6⟩, rfl⟩
          case measure => simp [intOf]
      · have cC := bC.cells
        go_wp2_with fail
        refine (hST.out _).mono ?_
        rintro e w8 hx8
        obtain ⟨g8, a9, rfl, hg8, hl8, hs8, hn8⟩ := hx8.opened hm9
        have hal := (New.refl w8).alloc (.cells #[.int .i64 0, .int .i64 0, .int .i64 jp, .int .i64 jh, .int .i64 ji, .int .i64 js5, .slice a9 m9 m9, .bool up9, .bool dn9, .bool ud9] 40)
        have bI := Blk.mk w8 w8.heap.size 40 #[.int .i64 0, .int .i64 0, .int .i64 jp, .int .i64 jh, .int .i64 ji, .int .i64 js5, .slice a9 m9 m9, .bool up9, .bool dn9, .bool ud9] rfl
        have bC := (bC.new hn8).new hal
        have bS := (bS.new hn8).new hal
        have bM := (bM.new hn8).new hal
        have bR := (bR.new hn8).new hal
        have N := (N.trans hn8).trans hal
        have hPg := (hPg.new hn8).new hal
        have hNx := (hNx.new hn8).new hal
        have hPr := (hPr.new hn8).new hal
        go_upto_region 16 with fail
        clear cC cR hn8 hal hs8 hs3 hx8
        generalize w8.alloc (.cells #[.int .i64 0, .int .i64 0, .int .i64 jp, .int .i64 jh, .int .i64 ji, .int .i64 js5, .slice a9 m9 m9, .bool up9, .bool dn9, .bool ud9] 40) = w9 at *
        have cC := bC.cells
        have cS := bS.cells
        have cM := bM.cells
        have cR := bR.cells
        have cI := bI.cells
        go_region_held3 (fun W => (∀ j, W.cell? ⟨w1.heap.size, j, none⟩ = #[Value.int .i64 ca, .int .i64 ci, .int .i64 ch][j]?) ∧ (∀ j, W.cell? ⟨w1.heap.size + 1, j, none⟩ = #[Value.int .i64 3, .int .i64 pe, .int .i64 ho, .int .i64 si, .int .i64 sp][j]?) ∧ (∀ j, W.cell? ⟨w1.heap.size + 1 + 1, j, none⟩ = #[Value.int .i64 kd, .int .i64 sa, .int .i64 mh, .int .i64 mi, .int .i64 wh, .int .i64 su, .slice xa xn xc, .bool has, .int .i64 o, .slice ya yn yc, .int .i64 nx, .int .i64 md, .int .i64 lc, .slice za zn zc][j]?) ∧ (∀ j, W.cell? ⟨w3.heap.size, j, none⟩ = #[Value.int .i64 0, .int .i64 3, .int .i64 rp, .int .i64 rh, .int .i64 ri, .int .i64 rs5, .slice a3 m m, .bool false, .bool false, .bool false][j]?) ∧ (∀ j, W.cell? ⟨w8.heap.size, j, none⟩ = #[Value.int .i64 0, .int .i64 0, .int .i64 jp, .int .i64 jh, .int .i64 ji, .int .i64 js5, .slice a9 m9 m9, .bool up9, .bool dn9, .bool ud9][j]?)) (first | exact ⟨cC, cS, cM, cR, cI⟩ | exact ⟨cC6, cS6, cM6, cR6, cI6⟩)
          ((go_at_call 7; refine (specHears ca ci ch 3 pe ho si sp kd sa mh mi wh su xa ya za xn xc yn yc zn zc has o nx md lc gs rs xs _ ?_ ?_ ?_ HXN.out HYN.out HZN.out lm1 lm2 lm3).mono ?_; exact hPg.new ((New.refl _).drew); exact hNx.new ((New.refl _).drew); exact hPr.new ((New.refl _).drew); rintro e w10 hx10; rw [hR.out] at hx10; obtain ⟨g10, a10, rfl, hg10, hl10, hs10, hn10⟩ := hx10.opened hm5; have D6 := ((New.refl _).drew).trans hn10; have cC6 := (bC.new D6).cells; have cS6 := (bS.new D6).cells; have cM6 := (bM.new D6).cells; have cR6 := (bR.new D6).cells; have cI6 := (bI.new D6).cells))
        go_wp2
        go_ret
        exact ⟨by first | rfl | simp, N.trans D6⟩


set_option maxRecDepth 100000 in
theorem fnse_lifted (os : Os) (started : os.Started) (H : Type) (enc : TypeId × Value → H) :
    ReturnsInHanded {} Try.checked os 3 .any (Rows.fnSessionsSpec.pre6 enc Try.prog Try.f3 Rows.fnSessionsRow.domain false) (Rows.fnSessionsSpec.post enc Try.prog Try.f3 false true false false) := by
  refine returnsInHanded_of_change (C := Try.checked) own started (by kernel_rfl) Try.func3
    (ChangeSpec.witness6 (enc := enc) (C := Try.checked) false ⟨#[], #[.slice none 0 0], []⟩ 8 (by kernel_rfl) (by kernel_rfl) (by kernel_rfl) (by kernel_rfl)) ?_
  intro W base args ds gs before hval0 hW hcnd _
  have hval : ∀ (j : Nat) t v, Try.f3.params[j]? = some t → args[j]? = some v → Value.okWide Try.prog W .any base t v := hval0
  have hW' := hW
  obtain ⟨p, q, hA0, hV, rfl, hfz, hnd⟩ := hW
  have hA : DataW.TrodAll enc Try.prog W 0 (fun _ => true) true Try.f3.params.toList args.toList ds p := hA0
  rw [Try.params3] at hA hval
  obtain ⟨v0, vs0, d0, ds0, p0, q0, hargs, rfl, rfl, h0, r0⟩ := trodAll_cons hA
  obtain ⟨rfl, rfl, rfl⟩ := trodAll_nil r0
  obtain rfl : args = #[v0] := by cases args; simp_all
  obtain ⟨rfl, rfl⟩ := trodVars_none hV
  have k0 := h0
  have lt0 : ∀ x ∈ p0, x.block < W.heap.size := by obtain ⟨m, hm⟩ := k0; exact DataW.trod_lt m _ _ _ hm
  obtain ⟨a0, len0, cap0, rfl⟩ := okWide_slice Try.underlying22 (hval 0 22 v0 rfl rfl)
  have nil0 := open_nil h0
  obtain ⟨z0, b0, e0, m0⟩ := open_bytes h0
  clear hA0 hval0
  refine (fnse_walk a0 len0 cap0 z0 W b0 e0 m0.2 nil0 (fun x h1 h2 => by obtain ⟨bb, oo, hh, hl⟩ := b0.block_lt h1; rw [h2] at hh; obtain rfl := Option.some.inj hh; exact hl)).mono fun e W' ⟨he, new⟩ => ?_
  have bel := new.below
  subst he
  exact ⟨_, rfl, _, _, _, [], _, [], hW', trodAll_mk1 (shut_bool Try.underlying4 _), (trodAll_cons_mk (Below.trod laidOut (by kernel_rfl) (of_decide_eq_true (by kernel_rfl)) k0 bel lt0) trodAll_mk0), rfl, bel.frame _, fun h => by cases h⟩

theorem fnse_holds : Rows.FnSessionsSaid :=
  OpenClaim.holds_of_wide 3 Try.f3 rfl rfl rfl rfl rfl rfl rfl ⟨rfl, rfl, rfl, rfl, rfl⟩ rfl rfl rfl rfl rfl (by kernel_rfl) Try.func3 (by kernel_rfl)
    (of_decide_eq_true (by kernel_rfl)) (by unfold Func.isWrapper; first | (rw [if_pos (by decide +kernel)]; kernel_rfl) | (rw [if_neg (by decide +kernel)]; exact ⟨rfl, rfl⟩))
    (fun os started H enc _ => fnse_lifted os started H enc)

end Go.Proofs.Yteniieagcehmpaa
