/- What is proved here: what the packing of a message answers, in the program, for every lists of at most 1048576 elements. -/
import Derived.Test.YtdmcbnmaknpkmaaMsPk
namespace Go.Proofs.Ytdmcbnmaknpkmaa
open Go.RowKit Go.Sort
set_option linter.unusedVariables false

set_option maxHeartbeats 3200000 in
theorem pm_good (ga a ra : Option Addr) (gn gc n c rn rc : Nat) (has : Bool) (o nx md lc : Int) (gs rs : List (Int × Int)) (xs : List Int) (kd sa ho si wh su : Int) (zs : List Int) (sv : Value) (w : World) (hg : PsAt w ga gs) (hx : NsAt w a xs) (hr : PsAt w ra rs) (hgn : gs.length = gn) (hn : xs.length = n) (hrn : rs.length = rn) (hm1 : gn ≤ 1048576) (hm2 : n ≤ 1048576) (hm3 : rn ≤ 1048576) (hsay : ∀ W, Calls Try.prog 31 #[.agg #[.int .i64 kd, .int .i64 sa, .int .i64 ho, .int .i64 si, .int .i64 wh, .int .i64 su, .slice ga gn gc, .bool has, .int .i64 o, .slice a n c, .int .i64 nx, .int .i64 md, .int .i64 lc, .slice ra rn rc]] W fun e w' => e = .returned sv ∧ New W w')
    (hbody : ∀ W, New w W → Calls Try.prog 30 #[sv] W (BdAns W zs)) (hf : mf kd sa ho si wh su gs has o xs nx md lc rs = 0) (hff : ff kd zs.length = 0) (hm : msB kd sa ho si wh su gs has o xs nx md lc rs = zs) :
    Calls Try.prog 16 #[.agg #[.int .i64 kd, .int .i64 sa, .int .i64 ho, .int .i64 si, .int .i64 wh, .int .i64 su, .slice ga gn gc, .bool has, .int .i64 o, .slice a n c, .int .i64 nx, .int .i64 md, .int .i64 lc, .slice ra rn rc]] w (MsAns w kd sa ho si wh su gs has o xs nx md lc rs) := by
  have hw := ((New.refl w).alloc (.cells #[.int .i64 kd, .int .i64 sa, .int .i64 ho, .int .i64 si, .int .i64 wh, .int .i64 su, .slice ga gn gc, .bool has, .int .i64 o, .slice a n c, .int .i64 nx, .int .i64 md, .int .i64 lc, .slice ra rn rc] 40)).alloc (.cells #[.int .i64 0, .slice none 0 0] 33)
  have bM : Blk ((w.alloc (.cells #[.int .i64 kd, .int .i64 sa, .int .i64 ho, .int .i64 si, .int .i64 wh, .int .i64 su, .slice ga gn gc, .bool has, .int .i64 o, .slice a n c, .int .i64 nx, .int .i64 md, .int .i64 lc, .slice ra rn rc] 40)).alloc (.cells #[.int .i64 0, .slice none 0 0] 33)) w.heap.size 40 #[.int .i64 kd, .int .i64 sa, .int .i64 ho, .int .i64 si, .int .i64 wh, .int .i64 su, .slice ga gn gc, .bool has, .int .i64 o, .slice a n c, .int .i64 nx, .int .i64 md, .int .i64 lc, .slice ra rn rc] := (Blk.mk _ _ _ _ rfl).alloc _
  have bR : Blk ((w.alloc (.cells #[.int .i64 kd, .int .i64 sa, .int .i64 ho, .int .i64 si, .int .i64 wh, .int .i64 su, .slice ga gn gc, .bool has, .int .i64 o, .slice a n c, .int .i64 nx, .int .i64 md, .int .i64 lc, .slice ra rn rc] 40)).alloc (.cells #[.int .i64 0, .slice none 0 0] 33)) (w.heap.size + 1) 33 #[.int .i64 0, .slice none 0 0] := Blk.mk _ _ _ _ (by simp)
  have HF : Hid (mf kd sa ho si wh su gs has o xs nx md lc rs = 0) := hf
  have HFF : Hid (ff kd zs.length = 0) := hff
  have HM : Hid (msB kd sa ho si wh su gs has o xs nx md lc rs = zs) := hm
  clear hf hff hm
  go_enter Try.func16, Try.ntmps16
  go_wp2_with fail
  refine (implMF ga a ra gn gc n c rn rc has o nx md lc gs rs xs kd sa ho si wh su _ (hg.new hw) (hx.new hw) (hr.new hw) hgn hn hrn hm1 hm2 hm3).mono ?_
  rintro e w1 ⟨rfl, hn1⟩
  rw [HF.out]
  have hw1 := hw.trans hn1
  have b1 := bM.new hn1
  have r1 := bR.new hn1
  have c1 := b1.cells
  have d1 := r1.cells
  clear bM bR hw hn1
  go_wp2_with fail
  go_region_held3 (fun W => (∀ j, W.cell? ⟨w.heap.size, j, none⟩ = #[Value.int .i64 kd, .int .i64 sa, .int .i64 ho, .int .i64 si, .int .i64 wh, .int .i64 su, .slice ga gn gc, .bool has, .int .i64 o, .slice a n c, .int .i64 nx, .int .i64 md, .int .i64 lc, .slice ra rn rc][j]?)) (first | exact c1 | exact c2 | exact c3 | exact c4 | (intro j; simp [go_sem, c4]))
    (first
      | (go_at_call 31; refine (hsay _).mono ?_; rintro e w2 ⟨rfl, hn2⟩; have N2 : New w1 w2 := (by first | exact hn2 | exact ((New.refl _).drew).trans hn2); have c2 := (b1.new N2).cells)
      | (go_at_call 30; refine (hbody _ (hw1.trans N2)).mono ?_; rintro e w3 ⟨ba, _, bc, rfl, hbs, rfl, hbn, hn3⟩; have N3 := N2.trans hn3; have c3 := (b1.new N3).cells)
      | (go_at_call 29; refine (implPackFrame_any kd ba zs.length bc zs _ hbs rfl (by have := (ff_zero HFF.out).2.2; omega) hbn).mono ?_; rintro e w4 ⟨pa, pm, pc, ys, rfl, ho4, hb4, hlt4, hn4, hys, hpn⟩; have N4 := N3.trans hn4; have c4 := (b1.new N4).cells; have d4 := (r1.new N4).cells; have f4 := (r1.new N4).frees; have l4 := (r1.new N4).lt))
  have s3 := N3.size
  have lr := r1.lt
  have hne : ∀ x, pa = some x → ¬ x.block = w.heap.size + 1 := by intro x hx e; have := (hlt4 x hx).1; omega
  have t4 : Turn (fun k => k = w.heap.size + 1) w4 ((w4.setCell ⟨w.heap.size + 1, 0, none⟩ (.int .i64 (ff kd zs.length))).setCell ⟨w.heap.size + 1, 1, none⟩ (.slice pa pm pc)) := Turn.here (Turn.here (Turn.refl _ _) _) _
  have ge1 : w.heap.size ≤ w.heap.size + 1 := by omega
  have hw4 := hw1.trans N4
  have hs4 := t4.size
  have hs1 := hw1.size
  go_wp2
  refine bodyPost_ret (v := .agg #[.int .i64 (ff kd zs.length), .slice pa pm pc]) (by simp [results, Try.results16, go_sem, d4]) rfl ?_
  have hyl : ys.length = pm := ho4.1
  rw [if_pos HFF.out] at hys
  have h5 := (ff_zero HFF.out).2.2
  refine ⟨pa, pm, pc, ys, by rw [HF.out, HFF.out], ho4.turn (S := fun k => k = w.heap.size + 1) t4 hne, hb4, ?_, ?_, by rw [hys, if_pos HF.out, HM.out], hpn, by rw [← hyl, hys, packOf_length]; omega⟩
  · intro x hx
    have h6 := hlt4 x hx
    exact ⟨by omega, Nat.lt_of_lt_of_le h6.2 (by have := t4.size; omega)⟩
  · simp (disch := exact ge1) only [New.set_iff, hw4]

set_option maxHeartbeats 1600000 in
theorem pm_bad (ga a ra : Option Addr) (gn gc n c rn rc : Nat) (has : Bool) (o nx md lc : Int) (gs rs : List (Int × Int)) (xs : List Int) (kd sa ho si wh su : Int) (w : World) (hg : PsAt w ga gs) (hx : NsAt w a xs) (hr : PsAt w ra rs) (hgn : gs.length = gn) (hn : xs.length = n) (hrn : rs.length = rn) (hm1 : gn ≤ 1048576) (hm2 : n ≤ 1048576) (hm3 : rn ≤ 1048576) (hf : ¬ mf kd sa ho si wh su gs has o xs nx md lc rs = 0) :
    Calls Try.prog 16 #[.agg #[.int .i64 kd, .int .i64 sa, .int .i64 ho, .int .i64 si, .int .i64 wh, .int .i64 su, .slice ga gn gc, .bool has, .int .i64 o, .slice a n c, .int .i64 nx, .int .i64 md, .int .i64 lc, .slice ra rn rc]] w (MsAns w kd sa ho si wh su gs has o xs nx md lc rs) := by
  have hw := ((New.refl w).alloc (.cells #[.int .i64 kd, .int .i64 sa, .int .i64 ho, .int .i64 si, .int .i64 wh, .int .i64 su, .slice ga gn gc, .bool has, .int .i64 o, .slice a n c, .int .i64 nx, .int .i64 md, .int .i64 lc, .slice ra rn rc] 40)).alloc (.cells #[.int .i64 0, .slice none 0 0] 33)
  have bR : Blk ((w.alloc (.cells #[.int .i64 kd, .int .i64 sa, .int .i64 ho, .int .i64 si, .int .i64 wh, .int .i64 su, .slice ga gn gc, .bool has, .int .i64 o, .slice a n c, .int .i64 nx, .int .i64 md, .int .i64 lc, .slice ra rn rc] 40)).alloc (.cells #[.int .i64 0, .slice none 0 0] 33)) (w.heap.size + 1) 33 #[.int .i64 0, .slice none 0 0] := Blk.mk _ _ _ _ (by simp)
  have hf' : (mf kd sa ho si wh su gs has o xs nx md lc rs != 0) = true := by simpa using hf
  have HF : Hid (¬ mf kd sa ho si wh su gs has o xs nx md lc rs = 0) := hf
  clear hf
  have ge1 : w.heap.size ≤ w.heap.size + 1 := by omega
  go_enter Try.func16, Try.ntmps16
  go_wp2_with fail
  refine (implMF ga a ra gn gc n c rn rc has o nx md lc gs rs xs kd sa ho si wh su _ (hg.new hw) (hx.new hw) (hr.new hw) hgn hn hrn hm1 hm2 hm3).mono ?_
  rintro e w1 ⟨rfl, hn1⟩
  have hw1 := hw.trans hn1
  have r1 := bR.new hn1
  have d1 := r1.cells
  have f1 := r1.frees
  generalize hq : mf kd sa ho si wh su gs has o xs nx md lc rs = q at *
  go_wp2
  refine bodyPost_ret (v := .agg #[.int .i64 q, .slice none 0 0]) (by simp [results, Try.results16, go_sem, d1]) rfl ?_
  refine ⟨none, 0, 0, [], by rw [hq], ⟨rfl, fun h => by omega⟩, by simp, (by intro x hx; cases hx), ?_, by rw [hq, if_neg HF.out], fun _ => ⟨rfl, rfl⟩, by omega⟩
  simp (disch := exact ge1) only [New.set_iff, hw1]

theorem mf_zero {gs rs : List (Int × Int)} {has : Bool} {o nx md lc : Int} {xs : List Int} {kd sa ho si wh su : Int} (h : mf kd sa ho si wh su gs has o xs nx md lc rs = 0) :
    (kd = 1 ∧ Opn sa ho si ∧ wh = 0 ∧ su = 0 ∧ ZuP gs has o xs nx md lc rs) ∨ (kd = 2 ∧ sa = 0 ∧ ho = 0 ∧ si = 0 ∧ wh = 0 ∧ su = 0 ∧ uf gs has o xs nx md lc rs = 0) ∨ (kd = 3 ∧ Nty wh su ∧ sa = 0 ∧ ho = 0 ∧ si = 0 ∧ ZuP gs has o xs nx md lc rs) ∨ (kd = 4 ∧ sa = 0 ∧ ho = 0 ∧ si = 0 ∧ wh = 0 ∧ su = 0 ∧ ZuP gs has o xs nx md lc rs) := by
  by_cases h0 : kd < 1 ∨ 4 < kd
  · rw [mf_none h0] at h; cases h
  rcases (show kd = 1 ∨ kd = 2 ∨ kd = 3 ∨ kd = 4 by omega) with rfl | rfl | rfl | rfl
  · by_cases h1 : Opn sa ho si
    · by_cases h2 : wh = 0 ∧ su = 0 ∧ ZuP gs has o xs nx md lc rs
      · exact .inl ⟨rfl, h1, h2⟩
      · rw [mf1_form h1 h2] at h; cases h
    · rw [mf1_bad h1] at h; cases h
  · by_cases h2 : sa = 0 ∧ ho = 0 ∧ si = 0 ∧ wh = 0 ∧ su = 0
    · rw [mf2_ok h2] at h
      exact .inr (.inl ⟨rfl, h2.1, h2.2.1, h2.2.2.1, h2.2.2.2.1, h2.2.2.2.2, h⟩)
    · rw [mf2_form h2] at h; cases h
  · by_cases h1 : Nty wh su
    · by_cases h2 : sa = 0 ∧ ho = 0 ∧ si = 0 ∧ ZuP gs has o xs nx md lc rs
      · exact .inr (.inr (.inl ⟨rfl, h1, h2⟩))
      · rw [mf3_form h1 h2] at h; cases h
    · rw [mf3_bad h1] at h; cases h
  · by_cases h2 : sa = 0 ∧ ho = 0 ∧ si = 0 ∧ wh = 0 ∧ su = 0 ∧ ZuP gs has o xs nx md lc rs
    · exact .inr (.inr (.inr ⟨rfl, h2⟩))
    · rw [mf4_form h2] at h; cases h

theorem upB_short {gs rs : List (Int × Int)} {has : Bool} {o nx md lc : Int} {xs : List Int} (h : uf gs has o xs nx md lc rs = 0) : (upB gs has o xs nx md lc rs).length ≤ 120 := by
  obtain ⟨h1, h2, -, -, hy, -⟩ := uf_ok h
  rw [upB_len]
  split
  · rename_i ht
    have := (af_ok (hy ht).2).2.1
    omega
  · omega

theorem implPM (ga a ra : Option Addr) (gn gc n c rn rc : Nat) (has : Bool) (o nx md lc : Int) (gs rs : List (Int × Int)) (xs : List Int) (kd sa ho si wh su : Int) (w : World) (hg : PsAt w ga gs) (hx : NsAt w a xs) (hr : PsAt w ra rs) (hgn : gs.length = gn) (hn : xs.length = n) (hrn : rs.length = rn) (hm1 : gn ≤ 1048576) (hm2 : n ≤ 1048576) (hm3 : rn ≤ 1048576) : Calls Try.prog 16 #[.agg #[.int .i64 kd, .int .i64 sa, .int .i64 ho, .int .i64 si, .int .i64 wh, .int .i64 su, .slice ga gn gc, .bool has, .int .i64 o, .slice a n c, .int .i64 nx, .int .i64 md, .int .i64 lc, .slice ra rn rc]] w (MsAns w kd sa ho si wh su gs has o xs nx md lc rs) := by
  by_cases hf : mf kd sa ho si wh su gs has o xs nx md lc rs = 0
  · rcases mf_zero hf with ⟨rfl, h1, -⟩ | ⟨rfl, -, -, -, -, -, h1⟩ | ⟨rfl, h1, -⟩ | ⟨rfl, -⟩
    · exact pm_good ga a ra gn gc n c rn rc has o nx md lc gs rs xs 1 sa ho si wh su (opB sa ho si) _ w hg hx hr hgn hn hrn hm1 hm2 hm3 (fun W => say_open ga a ra gn gc n c rn rc has o nx md lc gs rs xs sa ho si wh su W) (fun W _ => body_open sa ho si W h1) hf (by simp [ff, opB]) rfl
    · exact pm_good ga a ra gn gc n c rn rc has o nx md lc gs rs xs 2 sa ho si wh su (upB gs has o xs nx md lc rs) _ w hg hx hr hgn hn hrn hm1 hm2 hm3 (fun W => say_upd ga a ra gn gc n c rn rc has o nx md lc gs rs xs sa ho si wh su W) (fun W t => body_upd ga a ra gn gc n c rn rc has o nx md lc gs rs xs W (hg.new t) (hx.new t) (hr.new t) hgn hn hrn hm1 hm2 hm3 h1) hf (by have := upB_short h1; simp [ff]; omega) rfl
    · exact pm_good ga a ra gn gc n c rn rc has o nx md lc gs rs xs 3 sa ho si wh su [wh, su] _ w hg hx hr hgn hn hrn hm1 hm2 hm3 (fun W => say_not ga a ra gn gc n c rn rc has o nx md lc gs rs xs sa ho si wh su W) (fun W _ => body_not wh su W h1) hf (by simp [ff]) rfl
    · exact pm_good ga a ra gn gc n c rn rc has o nx md lc gs rs xs 4 sa ho si wh su [] _ w hg hx hr hgn hn hrn hm1 hm2 hm3 (fun W => say_keep ga a ra gn gc n c rn rc has o nx md lc gs rs xs sa ho si wh su W) (fun W _ => body_keep W) hf (by simp [ff]) rfl
  · exact pm_bad ga a ra gn gc n c rn rc has o nx md lc gs rs xs kd sa ho si wh su w hg hx hr hgn hn hrn hm1 hm2 hm3 hf

end Go.Proofs.Ytdmcbnmaknpkmaa
