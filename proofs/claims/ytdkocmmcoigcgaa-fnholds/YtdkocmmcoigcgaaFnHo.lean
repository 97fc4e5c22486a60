/- What is proved here: for every bytes the law on hold times returns true, and the bytes read as they did. No condition. -/
import Derived.Test.YtdkocmmcoigcgaaHoMath
import Derived.Deep.RegionHeld3
import Derived.Deep.CutRange
import Derived.Test.YtdkocmmcoigcgaaLwBig
import Derived.Test.YtdkocmmcoigcgaaS5Res
namespace Go.Proofs.Ytdkocmmcoigcgaa
open Go.RowKit Go.Sort
set_option linter.unusedVariables false
set_option linter.unusedSimpArgs false

set_option maxRecDepth 100000 in
set_option maxHeartbeats 6400000 in
theorem fnho_walk (hD : ∀ (a : Option Addr) (n c : Nat) (zs : List Int) (w : World), BsAt w a zs → zs.length = n → n ≤ 2097152 → (∀ x, zs ≠ [] → a = some x → x.block < w.heap.size) → Calls Try.prog 22 #[.slice a n c] w fun e w' => ∃ x1 x2 x3 y1 y2 y3 y4 y5 : Int, e = .returned (.tuple #[.agg #[.int .i64 x1, .int .i64 x2, .int .i64 x3], .agg #[.int .i64 y1, .int .i64 y2, .int .i64 y3, .int .i64 y4, .int .i64 y5]]) ∧ New w w') (a : Option Addr) (n c : Nat) (zs : List Int) (w : World) (h : BsAt w a zs) (hn : zs.length = n) (hm : n ≤ maxLen) (ha : ∀ x, zs ≠ [] → a = some x → x.block < w.heap.size) :
    Calls Try.prog 4 #[.slice a n c] w fun e w' => e = .returned (.bool true) ∧ New w w' := by
  by_cases hbig : 1048576 < n
  · go_enter Try.func4, Try.ntmps4
    go_wp2_with fail
    refine (lbig_yes a n c _ hbig).mono ?_
    rintro e w0 ⟨rfl, hw0⟩
    rw [hw0]
    go_wp2
    go_ret
    exact ⟨rfl, New.refl _⟩
  have HN : Hid (zs.length = n) := hn
  clear hn
  have hfd0 : ∀ (c0 c1 c2 c3 c4 c5 c6 c7 c8 c9 : Value) (X : World), (Instr.field 40 (.agg #[c0, c1, c2, c3, c4, c5, c6, c7, c8, c9]) 0).run Try.prog X = .ok c0 X := fun _ _ _ _ _ _ _ _ _ _ _ => by kernel_rfl
  have hfd1 : ∀ (c0 c1 c2 c3 c4 c5 c6 c7 c8 c9 : Value) (X : World), (Instr.field 40 (.agg #[c0, c1, c2, c3, c4, c5, c6, c7, c8, c9]) 1).run Try.prog X = .ok (.agg #[c1, c2, c3, c4, c5]) X := fun _ _ _ _ _ _ _ _ _ _ _ => by kernel_rfl
  have hfd2 : ∀ (c0 c1 c2 c3 c4 c5 c6 c7 c8 c9 : Value) (X : World), (Instr.field 40 (.agg #[c0, c1, c2, c3, c4, c5, c6, c7, c8, c9]) 2).run Try.prog X = .ok c6 X := fun _ _ _ _ _ _ _ _ _ _ _ => by kernel_rfl
  go_enter Try.func4, Try.ntmps4
  go_wp2_with fail
  refine (lbig_no a n c _ hbig).mono ?_
  rintro e w0 ⟨rfl, hw0⟩
  rw [hw0]
  clear hw0
  go_wp2_with fail
  refine (hD a n c zs _ h HN.out (by omega) ha).mono ?_
  rintro e w1 ⟨ca, ci, ch, st, pe, ho, si, sp, rfl, hn1⟩
  go_upto_region 4 with fail
  have N2 : New w ((w1.alloc (.cells #[.int .i64 ca, .int .i64 ci, .int .i64 ch] 25)).alloc (.cells #[.int .i64 st, .int .i64 pe, .int .i64 ho, .int .i64 si, .int .i64 sp] 27)) := (hn1.alloc _).alloc _
  have bC2 : Blk ((w1.alloc (.cells #[.int .i64 ca, .int .i64 ci, .int .i64 ch] 25)).alloc (.cells #[.int .i64 st, .int .i64 pe, .int .i64 ho, .int .i64 si, .int .i64 sp] 27)) w1.heap.size 25 #[.int .i64 ca, .int .i64 ci, .int .i64 ch] := (Blk.mk _ _ _ _ rfl).alloc _
  have bS2 : Blk ((w1.alloc (.cells #[.int .i64 ca, .int .i64 ci, .int .i64 ch] 25)).alloc (.cells #[.int .i64 st, .int .i64 pe, .int .i64 ho, .int .i64 si, .int .i64 sp] 27)) (w1.heap.size + 1) 27 #[.int .i64 st, .int .i64 pe, .int .i64 ho, .int .i64 si, .int .i64 sp] := Blk.mk _ _ _ _ (by simp)
  have z1 := hn1.size
  clear h ha hn1 HN
  generalize (w1.alloc (.cells #[.int .i64 ca, .int .i64 ci, .int .i64 ch] 25)).alloc (.cells #[.int .i64 st, .int .i64 pe, .int .i64 ho, .int .i64 si, .int .i64 sp] 27) = w2 at *
  have cC := bC2.cells
  have cS := bS2.cells
  have hT : Hid (∀ W, Calls Try.prog 23 #[.agg #[.int .i64 ca, .int .i64 ci, .int .i64 ch], .agg #[.int .i64 st, .int .i64 pe, .int .i64 ho, .int .i64 si, .int .i64 sp]] W (Ans W (ticksR ca ci ch st pe ho si sp))) := fun W => implTick ca ci ch st pe ho si sp W
  have hU : Hid (∀ W, Calls Try.prog 24 #[.agg #[.int .i64 ca, .int .i64 ci, .int .i64 ch], .agg #[.int .i64 st, .int .i64 pe, .int .i64 ho, .int .i64 si, .int .i64 sp]] W (Ans W (ticksR ca ci ch st pe ho si sp))) := fun W => specTick ca ci ch st pe ho si sp W
  by_cases h0 : ask ca ci ch st pe ho si sp = 0
  case neg =>
    rw [show ticksR ca ci ch st pe ho si sp = badR (ask ca ci ch st pe ho si sp) from if_neg h0] at hT hU
    have hk : (ask ca ci ch st pe ho si sp != 0) = true := by simpa using h0
    generalize ask ca ci ch st pe ho si sp = k at *
    have hkk : (k == k) = true := by simp
    go_wp2_with fail
    refine (hT.out _).mono ?_
    rintro e w3 ⟨g, v, rfl, hg, hl, hs, hn3⟩
    have hv : v = .slice none 0 0 := hs
    subst hv
    dsimp only [srC]
    have hal := (New.refl w3).alloc (.cells #[.int .i64 k, .int .i64 0, .int .i64 0, .int .i64 0, .int .i64 0, .int .i64 0, .slice none 0 0, .bool false, .bool false, .bool false] 40)
    have bR := Blk.mk w3 w3.heap.size 40 #[.int .i64 k, .int .i64 0, .int .i64 0, .int .i64 0, .int .i64 0, .int .i64 0, .slice none 0 0, .bool false, .bool false, .bool false] rfl
    go_upto_region 6 with fail
    have bC4 := (bC2.new hn3).new hal
    have bS4 := (bS2.new hn3).new hal
    have N4 := (N2.trans hn3).trans hal
    clear bC2 bS2 cC cS N2 hn3 hal
    generalize w3.alloc (.cells #[.int .i64 k, .int .i64 0, .int .i64 0, .int .i64 0, .int .i64 0, .int .i64 0, .slice none 0 0, .bool false, .bool false, .bool false] 40) = w4 at *
    have cC := bC4.cells
    have cS := bS4.cells
    have cR := bR.cells
    go_region_held3 (fun W => (∀ j, W.cell? ⟨w1.heap.size, j, none⟩ = #[Value.int .i64 ca, .int .i64 ci, .int .i64 ch][j]?) ∧ (∀ j, W.cell? ⟨w1.heap.size + 1, j, none⟩ = #[Value.int .i64 st, .int .i64 pe, .int .i64 ho, .int .i64 si, .int .i64 sp][j]?) ∧ (∀ j, W.cell? ⟨w3.heap.size, j, none⟩ = #[Value.int .i64 k, .int .i64 0, .int .i64 0, .int .i64 0, .int .i64 0, .int .i64 0, .slice none 0 0, .bool false, .bool false, .bool false][j]?)) (first | exact ⟨cC, cS, cR⟩ | exact ⟨cC5, cS5, cR5⟩)
      ((go_at_call 24; refine (hU.out _).mono ?_; rintro e w5 ⟨g5, v5, rfl, hg5, hl5, hs5, hn5⟩; have hv5 : v5 = .slice none 0 0 := hs5; subst hv5; dsimp only [srC]; have D5 := ((New.refl _).drew).trans hn5; have cC5 := (bC4.new D5).cells; have cS5 := (bS4.new D5).cells; have cR5 := (bR.new D5).cells))
    go_wp2
    go_ret
    exact ⟨by simp, N4.trans D5⟩
  have hsh := ticks_shape h0
  obtain ⟨hcf, hsf0⟩ := cf_of_ask h0
  generalize ticksR ca ci ch st pe ho si sp = r at hT hU hsh
  obtain ⟨rc, rt, rp, rh, ri, rs, say, up, dn, ud⟩ := r
  dsimp only at hsh
  obtain ⟨rfl, rfl, hsf⟩ := hsh
  obtain ⟨m, hm5⟩ : ∃ m, Hid (sayN say = m) := ⟨_, rfl⟩
  have zm : ((m : Int) != (m : Int)) = false := by simp
  have hF : Hid (∀ W, Calls Try.prog 19 #[.agg #[.int .i64 rt, .int .i64 rp, .int .i64 rh, .int .i64 ri, .int .i64 rs]] W fun e w' => e = .returned (.int .i64 0) ∧ New W w') := fun W => by rw [← hsf]; exact implSF rt rp rh ri rs W
  have H0 : Hid (ask ca ci ch st pe ho si sp = 0) := h0
  clear hsf h0 hsf0
  have HCF : Hid (cf ca ci ch = 0) := hcf
  clear hcf
  go_wp2_with fail
  refine (hT.out _).mono ?_
  rintro e w3 hx3
  obtain ⟨g3, a3, rfl, hg3, hl3, hs3, hn3⟩ := hx3.opened hm5
  go_upto_region 7 with fail
  have hal := (New.refl w3).alloc (.cells #[.int .i64 0, .int .i64 rt, .int .i64 rp, .int .i64 rh, .int .i64 ri, .int .i64 rs, .slice a3 m m, .bool false, .bool dn, .bool ud] 40)
  have bR := Blk.mk w3 w3.heap.size 40 #[.int .i64 0, .int .i64 rt, .int .i64 rp, .int .i64 rh, .int .i64 ri, .int .i64 rs, .slice a3 m m, .bool false, .bool dn, .bool ud] rfl
  have bC4 := (bC2.new hn3).new hal
  have bS4 := (bS2.new hn3).new hal
  have N4 := (N2.trans hn3).trans hal
  have z3 := hn3.size
  have lS2 := bS2.lt
  clear bC2 bS2 cC cS N2 hn3 hal hs3 hx3
  generalize w3.alloc (.cells #[.int .i64 0, .int .i64 rt, .int .i64 rp, .int .i64 rh, .int .i64 ri, .int .i64 rs, .slice a3 m m, .bool false, .bool dn, .bool ud] 40) = w4 at *
  have cC := bC4.cells
  have cS := bS4.cells
  have cR := bR.cells
  go_region_held3 (fun W => (∀ j, W.cell? ⟨w1.heap.size, j, none⟩ = #[Value.int .i64 ca, .int .i64 ci, .int .i64 ch][j]?) ∧ (∀ j, W.cell? ⟨w1.heap.size + 1, j, none⟩ = #[Value.int .i64 st, .int .i64 pe, .int .i64 ho, .int .i64 si, .int .i64 sp][j]?) ∧ (∀ j, W.cell? ⟨w3.heap.size, j, none⟩ = #[Value.int .i64 0, .int .i64 rt, .int .i64 rp, .int .i64 rh, .int .i64 ri, .int .i64 rs, .slice a3 m m, .bool false, .bool dn, .bool ud][j]?)) (first | exact ⟨cC, cS, cR⟩ | exact ⟨cC5, cS5, cR5⟩ | exact ⟨cC6, cS6, cR6⟩)
    (first
      | (go_at_call 19; refine (hF.out _).mono ?_; rintro e w5 ⟨rfl, hn5⟩; have D5 := ((New.refl _).drew).trans hn5; have cC5 := (bC4.new D5).cells; have cS5 := (bS4.new D5).cells; have cR5 := (bR.new D5).cells)
      | (go_at_call 24; refine (hU.out _).mono ?_; rintro e w6 hx6; obtain ⟨g6, a6, rfl, hg6, hl6, hs6, hn6⟩ := hx6.opened hm5; have D6 := D5.trans hn6; have cC6 := (bC4.new D6).cells; have cS6 := (bS4.new D6).cells; have cR6 := (bR.new D6).cells))
  have bC6 := bC4.new D6
  have bS6 := bS4.new D6
  have N6 := N4.trans D6
  have z6 := D6.size
  clear cC cS cR cC5 cS5 cR5 cC6 cS6 cR6 D5 D6 bC4 bS4 bR N4 hs6 hx6 hn5 hn6
  have cC := bC6.cells
  have cS := bS6.cells
  have lS6 := bS6.lt
  have z66 := N6.size
  go_upto_region 11 with fail
  have N7 : New w ((w6.alloc (.cells #[.int .i64 st, .int .i64 pe, .int .i64 ho, .int .i64 si, .int .i64 sp] 27)).alloc (.cells #[.int .i64 st, .int .i64 pe, .int .i64 ho, .int .i64 si, .int .i64 sp] 27)) := (N6.alloc _).alloc _
  have bC7 := (bC6.alloc (.cells #[.int .i64 st, .int .i64 pe, .int .i64 ho, .int .i64 si, .int .i64 sp] 27)).alloc (.cells #[.int .i64 st, .int .i64 pe, .int .i64 ho, .int .i64 si, .int .i64 sp] 27)
  have bS7 := (bS6.alloc (.cells #[.int .i64 st, .int .i64 pe, .int .i64 ho, .int .i64 si, .int .i64 sp] 27)).alloc (.cells #[.int .i64 st, .int .i64 pe, .int .i64 ho, .int .i64 si, .int .i64 sp] 27)
  have bA7 : Blk ((w6.alloc (.cells #[.int .i64 st, .int .i64 pe, .int .i64 ho, .int .i64 si, .int .i64 sp] 27)).alloc (.cells #[.int .i64 st, .int .i64 pe, .int .i64 ho, .int .i64 si, .int .i64 sp] 27)) w6.heap.size 27 #[.int .i64 st, .int .i64 pe, .int .i64 ho, .int .i64 si, .int .i64 sp] := (Blk.mk _ _ _ _ rfl).alloc _
  have bK7 : Blk ((w6.alloc (.cells #[.int .i64 st, .int .i64 pe, .int .i64 ho, .int .i64 si, .int .i64 sp] 27)).alloc (.cells #[.int .i64 st, .int .i64 pe, .int .i64 ho, .int .i64 si, .int .i64 sp] 27)) (w6.heap.size + 1) 27 #[.int .i64 st, .int .i64 pe, .int .i64 ho, .int .i64 si, .int .i64 sp] := Blk.mk _ _ _ _ (by simp)
  clear bC6 bS6 cC cS N6
  generalize (w6.alloc (.cells #[.int .i64 st, .int .i64 pe, .int .i64 ho, .int .i64 si, .int .i64 sp] 27)).alloc (.cells #[.int .i64 st, .int .i64 pe, .int .i64 ho, .int .i64 si, .int .i64 sp] 27) = w7 at *
  have hq0 : mf 4 0 0 0 0 0 [] false 0 [] 0 0 0 [] = 0 := by decide
  have HQ0 : Hid (mf 4 0 0 0 0 0 [] false 0 [] 0 0 0 [] = 0) := hq0
  clear hq0
  go_wp2
  go_loopw [8] (fun i wr => ∃ (k : Nat) (a1 a2 a3 a4 a5 b1 b2 b3 b4 b5 : Int), k ≤ 201 ∧ i = .int .i64 k ∧ Blk wr w6.heap.size 27 #[.int .i64 a1, .int .i64 a2, .int .i64 a3, .int .i64 a4, .int .i64 a5] ∧ Blk wr (w6.heap.size + 1) 27 #[.int .i64 b1, .int .i64 b2, .int .i64 b3, .int .i64 b4, .int .i64 b5] ∧ Hid (At5 ca ci ch st pe ho si k (a1, a2, a3, a4, a5)) ∧ Hid (st = 3 → si = 0 → ∃ sp', (b1, b2, b3, b4, b5) = (3, pe, ho, 0, sp') ∧ ask ca ci ch 3 pe ho 0 sp' = 0) ∧ Blk wr w1.heap.size 25 #[.int .i64 ca, .int .i64 ci, .int .i64 ch] ∧ Blk wr (w1.heap.size + 1) 27 #[.int .i64 st, .int .i64 pe, .int .i64 ho, .int .i64 si, .int .i64 sp] ∧ New w wr) (fun i _ => 201 - (intOf i).toNat)
  case atStart =>
    refine ⟨0, st, pe, ho, si, sp, st, pe, ho, si, sp, by omega, rfl, bA7, bK7, At5.start H0.out, ?_, bC7, bS7, N7⟩
    intro h3 hi
    subst h3 hi
    exact ⟨sp, rfl, H0.out⟩
  case round =>
    obtain ⟨k, a1, a2, a3', a4, a5, b1, b2, b3, b4, b5, hk, rfl, bA, bK, hat, hkp, bC, bS, hN⟩ := hrel
    have cC := bC.cells
    have cS := bS.cells
    have cA := bA.cells
    by_cases hlt : k < 201
    · generalize hr : ticksR ca ci ch a1 a2 a3' a4 a5 = r
      have hTa : Hid (∀ W, Calls Try.prog 23 #[.agg #[.int .i64 ca, .int .i64 ci, .int .i64 ch], .agg #[.int .i64 a1, .int .i64 a2, .int .i64 a3', .int .i64 a4, .int .i64 a5]] W (Ans W r)) := fun W => by rw [← hr]; exact implTick ca ci ch a1 a2 a3' a4 a5 W
      obtain ⟨qc, q1, q2, q3, q4, q5, qsay, qu, qd, qv⟩ := r
      have HTA : Hid (tick5 ca ci ch (a1, a2, a3', a4, a5) = (q1, q2, q3, q4, q5)) := by unfold Hid tick5; rw [hr]; rfl
      clear hr
      generalize hr : ticksR ca ci ch b1 b2 b3 b4 b5 = r
      have hTb : Hid (∀ W, Calls Try.prog 23 #[.agg #[.int .i64 ca, .int .i64 ci, .int .i64 ch], .agg #[.int .i64 b1, .int .i64 b2, .int .i64 b3, .int .i64 b4, .int .i64 b5]] W (Ans W r)) := fun W => by rw [← hr]; exact implTick ca ci ch b1 b2 b3 b4 b5 W
      obtain ⟨pc, p1, p2, p3, p4, p5, psay, pu, pd, pv⟩ := r
      have HTB : Hid (tick5 ca ci ch (b1, b2, b3, b4, b5) = (p1, p2, p3, p4, p5)) := by unfold Hid tick5; rw [hr]; rfl
      clear hr
      generalize hr : hearsR ca ci ch p1 p2 p3 p4 p5 4 0 0 0 = r
      have hTh : Hid (∀ W, Calls Try.prog 17 #[.agg #[.int .i64 ca, .int .i64 ci, .int .i64 ch], .agg #[.int .i64 p1, .int .i64 p2, .int .i64 p3, .int .i64 p4, .int .i64 p5], .agg #[.int .i64 4, .int .i64 0, .int .i64 0, .int .i64 0, .int .i64 0, .int .i64 0, .slice none 0 0, .bool false, .int .i64 0, .slice none 0 0, .int .i64 0, .int .i64 0, .int .i64 0, .slice none 0 0]] W (Ans W r)) := fun W => by
        have h9 := implHears ca ci ch p1 p2 p3 p4 p5 4 0 0 0 0 0 none none none 0 0 0 0 0 0 false 0 0 0 0 [] [] [] W (PsAt.nil _ _) (NsAt.nil _ _) (PsAt.nil _ _) rfl rfl rfl (by omega) (by omega) (by omega)
        rw [HQ0.out, hr] at h9
        exact h9
      obtain ⟨hc, h1, h2, h3, h4, h5, hsay, hu, hd, hv⟩ := r
      have HTH : Hid (hear5 ca ci ch (p1, p2, p3, p4, p5) = (h1, h2, h3, h4, h5)) := by unfold Hid hear5; rw [hr]; rfl
      clear hr
      obtain ⟨m1, hm1⟩ : ∃ m1, Hid (sayN qsay = m1) := ⟨_, rfl⟩
      obtain ⟨mx, hm2⟩ : ∃ m2, Hid (sayN psay = m2) := ⟨_, rfl⟩
      obtain ⟨m3, hm3⟩ : ∃ m3, Hid (sayN hsay = m3) := ⟨_, rfl⟩
      go_wp2_with fail
      refine (hTa.out _).mono ?_
      rintro e wa hxa
      obtain ⟨ga, aa, rfl, hga, hla, hsa, hna⟩ := hxa.opened hm1
      have bA1 := bA.new hna
      have bK1 := bK.new hna
      have bC1 := bC.new hna
      have bS1 := bS.new hna
      have N1 := hN.trans hna
      have cA1 := bA1.cells
      have fA1 := bA1.frees
      have lA1 := bA1.lt
      clear bA bK bC bS hN cC cS cA hna hsa hxa
      go_upto_region 15 with fail
      have nAK : ¬ w6.heap.size = w6.heap.size + 1 := by omega
      have nAC : ¬ w6.heap.size = w1.heap.size := by omega
      have nAS : ¬ w6.heap.size = w1.heap.size + 1 := by omega
      have nKA : ¬ w6.heap.size + 1 = w6.heap.size := by omega
      have nKC : ¬ w6.heap.size + 1 = w1.heap.size := by omega
      have nKS : ¬ w6.heap.size + 1 = w1.heap.size + 1 := by omega
      have gK : w.heap.size ≤ w6.heap.size + 1 := by omega
      have bA2 : Blk (((((wa.setCell ⟨w6.heap.size, 0, none⟩ (.int .i64 q1)).setCell ⟨w6.heap.size, 1, none⟩ (.int .i64 q2)).setCell ⟨w6.heap.size, 2, none⟩ (.int .i64 q3)).setCell ⟨w6.heap.size, 3, none⟩ (.int .i64 q4)).setCell ⟨w6.heap.size, 4, none⟩ (.int .i64 q5)) w6.heap.size 27 #[.int .i64 q1, .int .i64 q2, .int .i64 q3, .int .i64 q4, .int .i64 q5] := blk5 _ _ _ _ _ bA1
      have bK2 : Blk (((((wa.setCell ⟨w6.heap.size, 0, none⟩ (.int .i64 q1)).setCell ⟨w6.heap.size, 1, none⟩ (.int .i64 q2)).setCell ⟨w6.heap.size, 2, none⟩ (.int .i64 q3)).setCell ⟨w6.heap.size, 3, none⟩ (.int .i64 q4)).setCell ⟨w6.heap.size, 4, none⟩ (.int .i64 q5)) (w6.heap.size + 1) 27 #[.int .i64 b1, .int .i64 b2, .int .i64 b3, .int .i64 b4, .int .i64 b5] := by simp (disch := exact nAK) only [Blk.set5]; exact bK1
      have bC2 : Blk (((((wa.setCell ⟨w6.heap.size, 0, none⟩ (.int .i64 q1)).setCell ⟨w6.heap.size, 1, none⟩ (.int .i64 q2)).setCell ⟨w6.heap.size, 2, none⟩ (.int .i64 q3)).setCell ⟨w6.heap.size, 3, none⟩ (.int .i64 q4)).setCell ⟨w6.heap.size, 4, none⟩ (.int .i64 q5)) w1.heap.size 25 #[.int .i64 ca, .int .i64 ci, .int .i64 ch] := by simp (disch := exact nAC) only [Blk.set5]; exact bC1
      have bS2 : Blk (((((wa.setCell ⟨w6.heap.size, 0, none⟩ (.int .i64 q1)).setCell ⟨w6.heap.size, 1, none⟩ (.int .i64 q2)).setCell ⟨w6.heap.size, 2, none⟩ (.int .i64 q3)).setCell ⟨w6.heap.size, 3, none⟩ (.int .i64 q4)).setCell ⟨w6.heap.size, 4, none⟩ (.int .i64 q5)) (w1.heap.size + 1) 27 #[.int .i64 st, .int .i64 pe, .int .i64 ho, .int .i64 si, .int .i64 sp] := by simp (disch := exact nAS) only [Blk.set5]; exact bS1
      have N2 : New w (((((wa.setCell ⟨w6.heap.size, 0, none⟩ (.int .i64 q1)).setCell ⟨w6.heap.size, 1, none⟩ (.int .i64 q2)).setCell ⟨w6.heap.size, 2, none⟩ (.int .i64 q3)).setCell ⟨w6.heap.size, 3, none⟩ (.int .i64 q4)).setCell ⟨w6.heap.size, 4, none⟩ (.int .i64 q5)) := by simp (disch := exact z66) only [New.set5]; exact N1
      clear bA1 bK1 bC1 bS1 N1 cA1 fA1 lA1
      generalize (((((wa.setCell ⟨w6.heap.size, 0, none⟩ (.int .i64 q1)).setCell ⟨w6.heap.size, 1, none⟩ (.int .i64 q2)).setCell ⟨w6.heap.size, 2, none⟩ (.int .i64 q3)).setCell ⟨w6.heap.size, 3, none⟩ (.int .i64 q4)).setCell ⟨w6.heap.size, 4, none⟩ (.int .i64 q5)) = wb at *
      have cC := bC2.cells
      have cK := bK2.cells
      go_wp2_with fail
      refine (hTb.out _).mono ?_
      rintro e wc hxc
      obtain ⟨gx, ax, rfl, hgx, hlx, hsx, hnc⟩ := hxc.opened hm2
      go_upto_region 16 with fail
      have hal := (New.refl wc).alloc (.cells #[.int .i64 pc, .int .i64 p1, .int .i64 p2, .int .i64 p3, .int .i64 p4, .int .i64 p5, .slice ax mx mx, .bool pu, .bool pd, .bool pv] 40)
      have bX := Blk.mk wc wc.heap.size 40 #[.int .i64 pc, .int .i64 p1, .int .i64 p2, .int .i64 p3, .int .i64 p4, .int .i64 p5, .slice ax mx mx, .bool pu, .bool pd, .bool pv] rfl
      have bA3 := (bA2.new hnc).new hal
      have bK3 := (bK2.new hnc).new hal
      have bC3 := (bC2.new hnc).new hal
      have bS3 := (bS2.new hnc).new hal
      have N3 := (N2.trans hnc).trans hal
      clear bA2 bK2 bC2 bS2 N2 cC cK hnc hsx hxc hal
      generalize wc.alloc (.cells #[.int .i64 pc, .int .i64 p1, .int .i64 p2, .int .i64 p3, .int .i64 p4, .int .i64 p5, .slice ax mx mx, .bool pu, .bool pd, .bool pv] 40) = wd at *
      have cC := bC3.cells
      have cX := bX.cells
      go_wp2_with fail
      refine (hTh.out _).mono ?_
      rintro e we hxe
      obtain ⟨gh, ah, rfl, hgh, hlh, hsh, hne⟩ := hxe.opened hm3
      have bA4 := bA3.new hne
      have bK4 := bK3.new hne
      have bC4 := bC3.new hne
      have bS4 := bS3.new hne
      have N4 := N3.trans hne
      have cK4 := bK4.cells
      have fK4 := bK4.frees
      have lK4 := bK4.lt
      clear bA3 bK3 bC3 bS3 N3 cC cX bX hne hsh hxe
      go_upto_region 17 with fail
      have bK5 : Blk (((((we.setCell ⟨w6.heap.size + 1, 0, none⟩ (.int .i64 h1)).setCell ⟨w6.heap.size + 1, 1, none⟩ (.int .i64 h2)).setCell ⟨w6.heap.size + 1, 2, none⟩ (.int .i64 h3)).setCell ⟨w6.heap.size + 1, 3, none⟩ (.int .i64 h4)).setCell ⟨w6.heap.size + 1, 4, none⟩ (.int .i64 h5)) (w6.heap.size + 1) 27 #[.int .i64 h1, .int .i64 h2, .int .i64 h3, .int .i64 h4, .int .i64 h5] := blk5 _ _ _ _ _ bK4
      have bA5 : Blk (((((we.setCell ⟨w6.heap.size + 1, 0, none⟩ (.int .i64 h1)).setCell ⟨w6.heap.size + 1, 1, none⟩ (.int .i64 h2)).setCell ⟨w6.heap.size + 1, 2, none⟩ (.int .i64 h3)).setCell ⟨w6.heap.size + 1, 3, none⟩ (.int .i64 h4)).setCell ⟨w6.heap.size + 1, 4, none⟩ (.int .i64 h5)) w6.heap.size 27 #[.int .i64 q1, .int .i64 q2, .int .i64 q3, .int .i64 q4, .int .i64 q5] := by simp (disch := exact nKA) only [Blk.set5]; exact bA4
      have bC5 : Blk (((((we.setCell ⟨w6.heap.size + 1, 0, none⟩ (.int .i64 h1)).setCell ⟨w6.heap.size + 1, 1, none⟩ (.int .i64 h2)).setCell ⟨w6.heap.size + 1, 2, none⟩ (.int .i64 h3)).setCell ⟨w6.heap.size + 1, 3, none⟩ (.int .i64 h4)).setCell ⟨w6.heap.size + 1, 4, none⟩ (.int .i64 h5)) w1.heap.size 25 #[.int .i64 ca, .int .i64 ci, .int .i64 ch] := by simp (disch := exact nKC) only [Blk.set5]; exact bC4
      have bS5 : Blk (((((we.setCell ⟨w6.heap.size + 1, 0, none⟩ (.int .i64 h1)).setCell ⟨w6.heap.size + 1, 1, none⟩ (.int .i64 h2)).setCell ⟨w6.heap.size + 1, 2, none⟩ (.int .i64 h3)).setCell ⟨w6.heap.size + 1, 3, none⟩ (.int .i64 h4)).setCell ⟨w6.heap.size + 1, 4, none⟩ (.int .i64 h5)) (w1.heap.size + 1) 27 #[.int .i64 st, .int .i64 pe, .int .i64 ho, .int .i64 si, .int .i64 sp] := by simp (disch := exact nKS) only [Blk.set5]; exact bS4
      have N5 : New w (((((we.setCell ⟨w6.heap.size + 1, 0, none⟩ (.int .i64 h1)).setCell ⟨w6.heap.size + 1, 1, none⟩ (.int .i64 h2)).setCell ⟨w6.heap.size + 1, 2, none⟩ (.int .i64 h3)).setCell ⟨w6.heap.size + 1, 3, none⟩ (.int .i64 h4)).setCell ⟨w6.heap.size + 1, 4, none⟩ (.int .i64 h5)) := by simp (disch := exact gK) only [New.set5]; exact N4
      clear bA4 bK4 bC4 bS4 N4 cK4 fK4 lK4
      generalize (((((we.setCell ⟨w6.heap.size + 1, 0, none⟩ (.int .i64 h1)).setCell ⟨w6.heap.size + 1, 1, none⟩ (.int .i64 h2)).setCell ⟨w6.heap.size + 1, 2, none⟩ (.int .i64 h3)).setCell ⟨w6.heap.size + 1, 3, none⟩ (.int .i64 h4)).setCell ⟨w6.heap.size + 1, 4, none⟩ (.int .i64 h5)) = wf at *
      have HK2 : Hid (st = 3 → si = 0 → ∃ sp', (h1, h2, h3, h4, h5) = (3, pe, ho, 0, sp') ∧ ask ca ci ch 3 pe ho 0 sp' = 0) := by
        intro e1 e2
        obtain ⟨sp', he, hk'⟩ := hkp.out e1 e2
        obtain ⟨sp'', he2, hk2⟩ := keep5 hk'
        rw [← he, HTB.out, HTH.out] at he2
        exact ⟨sp'', he2, hk2⟩
      have HA2 : Hid (At5 ca ci ch st pe ho si (k + 1) (q1, q2, q3, q4, q5)) := by
        have h9 := At5.next HCF.out hat.out
        rw [HTA.out] at h9
        exact h9
      clear hkp hat
      have cS := bS5.cells
      have cK := bK5.cells
      have hend : ∃ (k' : Nat) (a1 a2 a3 a4 a5 b1 b2 b3 b4 b5 : Int), k' ≤ 201 ∧ k' = k + 1 ∧ Blk wf w6.heap.size 27 #[.int .i64 a1, .int .i64 a2, .int .i64 a3, .int .i64 a4, .int .i64 a5] ∧ Blk wf (w6.heap.size + 1) 27 #[.int .i64 b1, .int .i64 b2, .int .i64 b3, .int .i64 b4, .int .i64 b5] ∧ Hid (At5 ca ci ch st pe ho si k' (a1, a2, a3, a4, a5)) ∧ Hid (st = 3 → si = 0 → ∃ sp', (b1, b2, b3, b4, b5) = (3, pe, ho, 0, sp') ∧ ask ca ci ch 3 pe ho 0 sp' = 0) ∧ Blk wf w1.heap.size 25 #[.int .i64 ca, .int .i64 ci, .int .i64 ch] ∧ Blk wf (w1.heap.size + 1) 27 #[.int .i64 st, .int .i64 pe, .int .i64 ho, .int .i64 si, .int .i64 sp] ∧ New w wf := ⟨k + 1, q1, q2, q3, q4, q5, h1, h2, h3, h4, h5, by omega, rfl, bA5, bK5, HA2, HK2, bC5, bS5, N5⟩
      have HE := hend
      clear hend
      go_cut [94] from 68 to 94 (fun v wx => v = .bool false ∧ wx = wf)
      case first =>
        by_cases e3 : st = 3
        · by_cases e0 : si = 0
          · obtain ⟨sp', he, -⟩ := HK2.out e3 e0
            have hh : h1 = 3 := (Prod.mk.inj he).1
            have y3 : (st == 3) = true := by simpa using e3
            have y0 : (si == 0) = true := by simpa using e0
            have yk : (h1 != 3) = false := by simpa using hh
            clear he e3 e0 hh HK2 HA2
            by_cases d0 : 0 < k
            · by_cases d1 : ho = 0
              · have x1 : (ho == 0) = true := by simpa using d1
                clear d1
                go_wp2_with fail
                go_meet
                exact ⟨rfl, rfl⟩
              · have x1 : (ho == 0) = false := by simpa using d1
                clear d1
                by_cases d2 : 3 ≤ ho
                · go_wp2_with fail
                  go_meet
                  exact ⟨rfl, rfl⟩
                · go_wp2_with fail
                  go_meet
                  exact ⟨rfl, rfl⟩
            · go_wp2_with fail
              go_meet
              exact ⟨rfl, rfl⟩
          · have y3 : (st == 3) = true := by simpa using e3
            have y0 : (si == 0) = false := by simpa using e0
            clear e3 e0 HK2 HA2
            by_cases d0 : 0 < k
            · go_wp2_with fail
              go_meet
              exact ⟨rfl, rfl⟩
            · go_wp2_with fail
              go_meet
              exact ⟨rfl, rfl⟩
        · have y3 : (st == 3) = false := by simpa using e3
          clear e3 HK2 HA2
          go_wp2_with fail
          go_meet
          exact ⟨rfl, rfl⟩
      case rest =>
      obtain ⟨rfl, rfl⟩ := hcut
      obtain ⟨k', x1, x2, x3, x4, x5, y1, y2, y3, y4, y5, hk1, hk2, e1, e2, e3, e4, e5, e6, e7⟩ := HE
      go_wp2
      go_roundw
      case rel => exact ⟨k', x1, x2, x3, x4, x5, y1, y2, y3, y4, y5, hk1, by rw [hk2]; go_num, e1, e2, e3, e4, e5, e6, e7⟩
      case measure => simp [intOf]; omega
    · obtain rfl : k = 201 := by omega
      by_cases d2 : st < 2
      · go_wp2
        go_ret
        exact ⟨rfl, hN⟩
      · have hdone := At5.done H0.out hat.out (by omega)
        dsimp only at hdone
        go_wp2
        go_ret
        exact ⟨by first | rfl | exact ret5_bool hdone, hN⟩

end Go.Proofs.Ytdkocmmcoigcgaa
