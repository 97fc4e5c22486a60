/- What is proved here: what the model's PackMessage answers, for every message with lists of at most 1048576 elements. -/
import Derived.Test.YtdmcbnmaknpkmaaMsSpk
import Derived.Test.YtdmcbnmaknpkmaaMsSp2
namespace Go.Proofs.Ytdmcbnmaknpkmaa
open Go.RowKit Go.Sort
set_option linter.unusedVariables false
set_option maxRecDepth 100000

theorem l4Pack_any (ga a ra : Option Addr) (gn gc n c rn rc : Nat) (has : Bool) (o nx md lc : Int) (gs rs : List (Int × Int)) (xs : List Int) (kd sa ho si wh su : Int) (w : World) (hg : PsAt w ga gs) (hx : NsAt w a xs) (hr : PsAt w ra rs) (hgn : gs.length = gn) (hn : xs.length = n) (hrn : rs.length = rn) (hq : mf kd sa ho si wh su gs has o xs nx md lc rs = 0) : Calls Try.prog 25 #[.agg #[.int .i64 kd, .int .i64 sa, .int .i64 ho, .int .i64 si, .int .i64 wh, .int .i64 su, .slice ga gn gc, .bool has, .int .i64 o, .slice a n c, .int .i64 nx, .int .i64 md, .int .i64 lc, .slice ra rn rc]] w fun e w' => ∃ g cap l, e = .returned (.slice (some ⟨g, 0, none⟩) l cap) ∧ w.heap.size ≤ g ∧ l ≤ 125 ∧ (1 ≤ kd ∧ kd ≤ 4) ∧ (∀ z ∈ packOf kd (msB kd sa ho si wh su gs has o xs nx md lc rs), 0 ≤ z ∧ z ≤ 255) ∧ w'.ownsRow 0 5 1 (.slice (some ⟨g, 0, none⟩) l cap) l ((packOf kd (msB kd sa ho si wh su gs has o xs nx md lc rs)).map (Value.int .u8)) ∧ New w w' := by
  rcases mf_zero hq with ⟨rfl, h, -⟩ | ⟨rfl, -, -, -, -, -, h⟩ | ⟨rfl, h, -⟩ | ⟨rfl, -⟩
  · rw [show msB 1 sa ho si wh su gs has o xs nx md lc rs = opB sa ho si from if_pos rfl]
    refine (l4Pack1 sa ho si wh su ga a ra gn gc n c rn rc has o nx md lc gs rs xs w h).mono ?_
    rintro e w' ⟨g, cap, he, hge, ho1, hn1⟩
    exact ⟨g, cap, _, he, hge, by omega, by omega, packOf_bd 1 _ (opB_bd h) (by simp [opB]) (by omega), ho1, hn1⟩
  · rw [show msB 2 sa ho si wh su gs has o xs nx md lc rs = upB gs has o xs nx md lc rs from (if_neg (by decide)).trans (if_pos rfl)]
    refine (l4Pack2 sa ho si wh su ga a ra gn gc n c rn rc has o nx md lc gs rs xs w hg hx hr hgn hn hrn h).mono ?_
    rintro e w' ⟨g, cap, l, hl, hl2, he, hge, ho1, hn1⟩
    exact ⟨g, cap, _, he, hge, by omega, by omega, packOf_bd 2 _ (upB_bd h) (by omega) (by omega), ho1, hn1⟩
  · rw [show msB 3 sa ho si wh su gs has o xs nx md lc rs = [wh, su] from (if_neg (by decide)).trans ((if_neg (by decide)).trans (if_pos rfl))]
    refine (l4Pack3 sa ho si wh su ga a ra gn gc n c rn rc has o nx md lc gs rs xs w h).mono ?_
    rintro e w' ⟨g, cap, he, hge, ho1, hn1⟩
    obtain ⟨⟨hw0, hw1⟩, ⟨hs0, hs1⟩⟩ := h
    exact ⟨g, cap, _, he, hge, by omega, by omega, packOf_bd 3 _ (by simp; omega) (by simp) (by omega), ho1, hn1⟩
  · rw [show msB 4 sa ho si wh su gs has o xs nx md lc rs = [] from (if_neg (by decide)).trans ((if_neg (by decide)).trans (if_neg (by decide)))]
    refine (l4Pack4 sa ho si wh su ga a ra gn gc n c rn rc has o nx md lc gs rs xs w).mono ?_
    rintro e w' ⟨g, cap, he, hge, ho1, hn1⟩
    exact ⟨g, cap, _, he, hge, by omega, by omega, packOf_bd 4 _ (by simp) (by simp) (by omega), ho1, hn1⟩

set_option maxHeartbeats 3200000 in
theorem specPM (ga a ra : Option Addr) (gn gc n c rn rc : Nat) (has : Bool) (o nx md lc : Int) (gs rs : List (Int × Int)) (xs : List Int) (kd sa ho si wh su : Int) (w : World) (hg : PsAt w ga gs) (hx : NsAt w a xs) (hr : PsAt w ra rs) (hgn : gs.length = gn) (hn : xs.length = n) (hrn : rs.length = rn) (hm1 : gn ≤ 1048576) (hm2 : n ≤ 1048576) (hm3 : rn ≤ 1048576) :
    Calls Try.prog 14 #[.agg #[.int .i64 kd, .int .i64 sa, .int .i64 ho, .int .i64 si, .int .i64 wh, .int .i64 su, .slice ga gn gc, .bool has, .int .i64 o, .slice a n c, .int .i64 nx, .int .i64 md, .int .i64 lc, .slice ra rn rc]] w (MsAns w kd sa ho si wh su gs has o xs nx md lc rs) := by
  have hw := ((New.refl w).alloc (.cells #[.int .i64 kd, .int .i64 sa, .int .i64 ho, .int .i64 si, .int .i64 wh, .int .i64 su, .slice ga gn gc, .bool has, .int .i64 o, .slice a n c, .int .i64 nx, .int .i64 md, .int .i64 lc, .slice ra rn rc] 40)).alloc (.cells #[.int .i64 0, .slice none 0 0] 33)
  have bU : Blk ((w.alloc (.cells #[.int .i64 kd, .int .i64 sa, .int .i64 ho, .int .i64 si, .int .i64 wh, .int .i64 su, .slice ga gn gc, .bool has, .int .i64 o, .slice a n c, .int .i64 nx, .int .i64 md, .int .i64 lc, .slice ra rn rc] 40)).alloc (.cells #[.int .i64 0, .slice none 0 0] 33)) w.heap.size 40 #[.int .i64 kd, .int .i64 sa, .int .i64 ho, .int .i64 si, .int .i64 wh, .int .i64 su, .slice ga gn gc, .bool has, .int .i64 o, .slice a n c, .int .i64 nx, .int .i64 md, .int .i64 lc, .slice ra rn rc] := (Blk.mk _ _ _ _ rfl).alloc _
  have bR : Blk ((w.alloc (.cells #[.int .i64 kd, .int .i64 sa, .int .i64 ho, .int .i64 si, .int .i64 wh, .int .i64 su, .slice ga gn gc, .bool has, .int .i64 o, .slice a n c, .int .i64 nx, .int .i64 md, .int .i64 lc, .slice ra rn rc] 40)).alloc (.cells #[.int .i64 0, .slice none 0 0] 33)) (w.heap.size + 1) 33 #[.int .i64 0, .slice none 0 0] := Blk.mk _ _ _ _ (by simp)
  have HG : Hid (gs.length = gn) := hgn
  have HX : Hid (xs.length = n) := hn
  have HR : Hid (rs.length = rn) := hrn
  have ge1 : w.heap.size ≤ w.heap.size + 1 := by omega
  by_cases hf : mf kd sa ho si wh su gs has o xs nx md lc rs = 0
  case neg =>
    have hb : (mf kd sa ho si wh su gs has o xs nx md lc rs != 0) = true := by simpa using hf
    have HF : Hid (¬ mf kd sa ho si wh su gs has o xs nx md lc rs = 0) := hf
    clear hf hgn hn hrn
    go_enter Try.func14, Try.ntmps14
    go_wp2_with fail
    refine (specMF ga a ra gn gc n c rn rc has o nx md lc gs rs xs kd sa ho si wh su _ (hg.new hw) (hx.new hw) (hr.new hw) HG.out HX.out HR.out hm1 hm2 hm3).mono ?_
    rintro e w1 ⟨rfl, hn1⟩
    have hw1 := hw.trans hn1
    have c1 := (bR.new hn1).cells
    have f1 := (bR.new hn1).frees
    generalize hq : mf kd sa ho si wh su gs has o xs nx md lc rs = q at *
    go_wp2
    refine bodyPost_ret (v := .agg #[.int .i64 q, .slice none 0 0]) (by simp [results, Try.results14, go_sem, c1]) rfl ?_
    refine ⟨none, 0, 0, [], by rw [hq], ⟨rfl, fun h => by omega⟩, by simp, (by intro x hx; cases hx), ?_, by rw [hq, if_neg HF.out], fun _ => ⟨rfl, rfl⟩, by omega⟩
    simp (disch := exact ge1) only [New.set_iff, hw1]
  have HF : Hid (mf kd sa ho si wh su gs has o xs nx md lc rs = 0) := hf
  clear hgn hn hrn hf
  go_enter Try.func14, Try.ntmps14
  go_wp2_with fail
  refine (specMF ga a ra gn gc n c rn rc has o nx md lc gs rs xs kd sa ho si wh su _ (hg.new hw) (hx.new hw) (hr.new hw) HG.out HX.out HR.out hm1 hm2 hm3).mono ?_
  rintro e w1 ⟨rfl, hn1⟩
  rw [HF.out]
  have hw1 := hw.trans hn1
  have bU1 := bU.new hn1
  have bR1 := bR.new hn1
  have cU := bU1.cells
  have hb1 := bR1.lt
  go_wp2_with fail
  refine (l4Pack_any ga a ra gn gc n c rn rc has o nx md lc gs rs xs kd sa ho si wh su _ (hg.new hw1) (hx.new hw1) (hr.new hw1) HG.out HX.out HR.out HF.out).mono ?_
  rintro e w2 ⟨g2, cap2, m, rfl, hge, hm, -, hbd, hrow, hn2⟩
  have hw2 := hw1.trans hn2
  have bR2 := bR1.new hn2
  have hlt := (World.ownsRow.lt hrow g2 rfl).2
  have c1 := bR2.cells
  have f1 := bR2.frees
  have ht : Turn (fun i => i = w.heap.size + 1) w2 ((w2.setCell ⟨w.heap.size + 1, 0, none⟩ (.int .i64 0)).setCell ⟨w.heap.size + 1, 1, none⟩ (.slice (some ⟨g2, 0, none⟩) m cap2)) := Turn.here (Turn.here (Turn.refl _ _) _) _
  have hs1 := hw1.size
  go_wp2
  refine bodyPost_ret (v := .agg #[.int .i64 0, .slice (some ⟨g2, 0, none⟩) m cap2]) (by simp [results, Try.results14, go_sem, c1]) rfl ?_
  refine ⟨some ⟨g2, 0, none⟩, m, cap2, packOf kd (msB kd sa ho si wh su gs has o xs nx md lc rs), by rw [HF.out], OwAt.of_own (base := 0) (own_turn hrow ht (by omega)), hbd, ?_, ?_, by rw [if_pos HF.out], (by intro h; cases h), hm⟩
  · intro x hx
    obtain rfl := Option.some.inj hx
    exact ⟨by simp; omega, by have := ht.size; simp at this ⊢; omega⟩
  · simp (disch := exact ge1) only [New.set_iff, hw2]

end Go.Proofs.Ytdmcbnmaknpkmaa
