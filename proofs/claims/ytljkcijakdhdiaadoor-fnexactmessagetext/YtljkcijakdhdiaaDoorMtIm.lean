/- What is proved here: what the writing of a message as a text answers, in the program, for every lists of at most 1048576 elements, where the library's table of powers of ten lies as it is laid. -/
import Derived.Test.YtljkcijakdhdiaaDoorMtFn
import Derived.Test.YtljkcijakdhdiaaDoorMtSp
import Derived.Test.YtljkcijakdhdiaaDoorMsMf
namespace Go.Proofs.YtljkcijakdhdiaaDoor
open Go.RowKit Go.Sort
set_option linter.unusedVariables false
set_option linter.unusedSimpArgs false

set_option maxHeartbeats 3200000 in
theorem implMT (ga a ra : Option Addr) (gn gc n c rn rc : Nat) (has : Bool) (o nx md lc : Int) (gs rs : List (Int × Int)) (xs : List Int) (kd sa ho si wh su : Int) (w : World) (hg : PsAt w ga gs) (hx : NsAt w a xs) (hr : PsAt w ra rs) (hgn : gs.length = gn) (hn : xs.length = n) (hrn : rs.length = rn) (hm1 : gn ≤ 1048576) (hm2 : n ≤ 1048576) (hm3 : rn ≤ 1048576) (ht : Tab w) : Calls Tryd.prog 7 #[.agg #[.int .i64 kd, .int .i64 sa, .int .i64 ho, .int .i64 si, .int .i64 wh, .int .i64 su, .slice ga gn gc, .bool has, .int .i64 o, .slice a n c, .int .i64 nx, .int .i64 md, .int .i64 lc, .slice ra rn rc]] w fun e w' => e = .returned (.agg #[.int .i64 (mt kd sa ho si wh su gs has o xs nx md lc rs).1, .string ⟨(mt kd sa ho si wh su gs has o xs nx md lc rs).2.toArray⟩]) ∧ New w w' := by
  have hw : New w ((w.alloc (.cells #[.int .i64 kd, .int .i64 sa, .int .i64 ho, .int .i64 si, .int .i64 wh, .int .i64 su, .slice ga gn gc, .bool has, .int .i64 o, .slice a n c, .int .i64 nx, .int .i64 md, .int .i64 lc, .slice ra rn rc] 39)).alloc (.cells #[.int .i64 0, .string ⟨#[]⟩] 32)) := ((New.refl w).alloc _).alloc _
  have bM : Blk ((w.alloc (.cells #[.int .i64 kd, .int .i64 sa, .int .i64 ho, .int .i64 si, .int .i64 wh, .int .i64 su, .slice ga gn gc, .bool has, .int .i64 o, .slice a n c, .int .i64 nx, .int .i64 md, .int .i64 lc, .slice ra rn rc] 39)).alloc (.cells #[.int .i64 0, .string ⟨#[]⟩] 32)) w.heap.size 39 #[.int .i64 kd, .int .i64 sa, .int .i64 ho, .int .i64 si, .int .i64 wh, .int .i64 su, .slice ga gn gc, .bool has, .int .i64 o, .slice a n c, .int .i64 nx, .int .i64 md, .int .i64 lc, .slice ra rn rc] := (Blk.mk _ _ _ _ rfl).alloc _
  have bR : Blk ((w.alloc (.cells #[.int .i64 kd, .int .i64 sa, .int .i64 ho, .int .i64 si, .int .i64 wh, .int .i64 su, .slice ga gn gc, .bool has, .int .i64 o, .slice a n c, .int .i64 nx, .int .i64 md, .int .i64 lc, .slice ra rn rc] 39)).alloc (.cells #[.int .i64 0, .string ⟨#[]⟩] 32)) (w.heap.size + 1) 32 #[.int .i64 0, .string ⟨#[]⟩] := Blk.mk _ _ _ _ (by simp)
  have ge1 : w.heap.size ≤ w.heap.size + 1 := by omega
  have cM := bM.cells
  by_cases hf : mf kd sa ho si wh su gs has o xs nx md lc rs = 0
  case neg =>
    have hfb : (mf kd sa ho si wh su gs has o xs nx md lc rs != 0) = true := by simpa using hf
    have HT : Hid (mt kd sa ho si wh su gs has o xs nx md lc rs = (mf kd sa ho si wh su gs has o xs nx md lc rs, [])) := if_neg hf
    clear hf
    go_enter Tryd.func7, Tryd.ntmps7
    go_wp2_with fail
    refine (implMF ga a ra gn gc n c rn rc has o nx md lc gs rs xs kd sa ho si wh su _ (hg.new hw) (hx.new hw) (hr.new hw) hgn hn hrn hm1 hm2 hm3).mono ?_
    rintro e w1 ⟨rfl, hn1⟩
    generalize mf kd sa ho si wh su gs has o xs nx md lc rs = z at *
    have hcs := (bR.new hn1).cells
    have hfs := (bR.new hn1).frees
    clear cM
    go_wp2
    refine bodyPost_ret (v := .agg #[.int .i64 z, .string ⟨#[]⟩]) (by simp [results, Tryd.results7, go_sem, hcs]) rfl ⟨by rw [HT.out], ?_⟩
    exact New.setCell (New.setCell (hw.trans hn1) ge1 _) ge1 _
  have HF : Hid (mf kd sa ho si wh su gs has o xs nx md lc rs = 0) := hf
  have HT : Hid (mt kd sa ho si wh su gs has o xs nx md lc rs = (0, Lib.join (wMs kd sa ho si wh su gs has o xs nx md lc rs) [32])) := if_pos hf
  have HQ := mf_zero17 hf
  have hz : ((0 : Int) != 0) = false := rfl
  have HS : Hid (∃ sv, (∀ W, Calls Tryd.prog 17 #[.agg #[.int .i64 kd, .int .i64 sa, .int .i64 ho, .int .i64 si, .int .i64 wh, .int .i64 su, .slice ga gn gc, .bool has, .int .i64 o, .slice a n c, .int .i64 nx, .int .i64 md, .int .i64 lc, .slice ra rn rc]] W fun e w' => e = .returned sv ∧ New W w') ∧ ∀ W, New w W → Calls Tryd.prog 16 #[sv] W (WdAns W (wMs kd sa ho si wh su gs has o xs nx md lc rs))) := by
    rcases HQ with ⟨rfl, h1⟩ | ⟨rfl, h1⟩ | ⟨rfl, h1⟩ | rfl
    · exact ⟨_, fun W => say_open ga a ra gn gc n c rn rc has o nx md lc gs rs xs sa ho si wh su W, fun W hW => mw_open sa ho si W h1 (ht.new hW)⟩
    · exact ⟨_, fun W => say_upd ga a ra gn gc n c rn rc has o nx md lc gs rs xs sa ho si wh su W, fun W hW => mw_upd ga a ra gn gc n c rn rc has o nx md lc gs rs xs W (hg.new hW) (hx.new hW) (hr.new hW) hgn hn hrn hm2 h1 (ht.new hW)⟩
    · exact ⟨_, fun W => say_not ga a ra gn gc n c rn rc has o nx md lc gs rs xs sa ho si wh su W, fun W hW => mw_not wh su W h1 (ht.new hW)⟩
    · exact ⟨_, fun W => say_keep ga a ra gn gc n c rn rc has o nx md lc gs rs xs sa ho si wh su W, fun W hW => mw_keep W⟩
  have HJ : Hid ((Lib.join (wMs kd sa ho si wh su gs has o xs nx md lc rs) [32]).length ≤ 100000) := by
    have J : (Lib.join (wMs kd sa ho si wh su gs has o xs nx md lc rs) [32]).length ≤ 2000 := by
      rcases HQ with ⟨rfl, ⟨a0, a1⟩, hh, ⟨s0, s1⟩⟩ | ⟨rfl, h1⟩ | ⟨rfl, ⟨b0, b1⟩, ⟨s0, s1⟩⟩ | rfl
      · have k1 := dg_len (x := sa) (by omega) (by omega)
        have k2 := dg_len (x := ho) (by rcases hh with hh | hh <;> omega) (by rcases hh with hh | hh <;> omega)
        have k3 := dg_len (x := si) (by omega) (by omega)
        refine join18 (by simp [wMs]) ?_
        intro l hl
        simp only [wMs, if_pos, List.mem_cons, List.not_mem_nil, or_false] at hl
        rcases hl with rfl | rfl | rfl | rfl
        · decide
        · omega
        · omega
        · omega
      · have h2 := wUp_len h1
        exact join18 (by simpa [wMs] using h2.1) (by simpa [wMs] using h2.2)
      · have k1 := dg_len (x := wh) (by omega) (by omega)
        have k2 := dg_len (x := su) (by omega) (by omega)
        refine join18 (by simp [wMs]) ?_
        intro l hl
        have e : wMs 3 sa ho si wh su gs has o xs nx md lc rs = [[110, 111, 116, 105, 102, 121], dg wh, dg su] := by simp [wMs]
        rw [e] at hl
        simp only [List.mem_cons, List.not_mem_nil, or_false] at hl
        rcases hl with rfl | rfl | rfl
        · decide
        · omega
        · omega
      · exact join18 (by simp [wMs]) (by intro l hl; simp [wMs] at hl; subst hl; decide)
    exact Nat.le_trans J (by decide)
  clear hf HQ
  go_enter Tryd.func7, Tryd.ntmps7
  go_wp2_with fail
  refine (implMF ga a ra gn gc n c rn rc has o nx md lc gs rs xs kd sa ho si wh su _ (hg.new hw) (hx.new hw) (hr.new hw) hgn hn hrn hm1 hm2 hm3).mono ?_
  rintro e w1 ⟨rfl, hn1⟩
  rw [HF.out]
  have hw1 := hw.trans hn1
  have bM1 := bM.new hn1
  have bR1 := bR.new hn1
  have cM1 := bM1.cells
  clear cM bM bR hn1 hw
  obtain ⟨sv, HS1, HS2⟩ := HS.out
  have HS3 : Hid (∀ W, New w W → Calls Tryd.prog 16 #[sv] W (WdAns W (wMs kd sa ho si wh su gs has o xs nx md lc rs))) := HS2
  clear HS2
  go_wp2_with fail
  refine (HS1 _).mono ?_
  rintro e w2 ⟨rfl, hn2⟩
  have hw2 := hw1.trans hn2
  have bR2 := bR1.new hn2
  go_wp2_with fail
  refine (HS3.out _ hw2).mono ?_
  rintro e w3 ⟨g, m, cap, rfl, hm18, hrow, hn3⟩
  have hw3 := hw2.trans hn3
  have bR3 := bR2.new hn3
  go_wp2_with fail
  refine (joinR w2.heap.size g m cap (wMs kd sa ho si wh su gs has o xs nx md lc rs) [32] _ hrow (by omega) HJ.out).mono ?_
  rintro e w4 ⟨rfl, hn4⟩
  have hw9 := hw3.trans hn4
  have bR9 := bR3.new hn4
  have hcs := bR9.cells
  have hfs := bR9.frees
  clear cM1
  generalize Lib.join (wMs kd sa ho si wh su gs has o xs nx md lc rs) [32] = T at *
  go_wp2
  refine bodyPost_ret (v := .agg #[.int .i64 0, .string ⟨T.toArray⟩]) (by simp [results, Tryd.results7, go_sem, hcs]) rfl ⟨by rw [HT.out], ?_⟩
  exact New.setCell (New.setCell hw9 ge1 _) ge1 _

end Go.Proofs.YtljkcijakdhdiaaDoor
