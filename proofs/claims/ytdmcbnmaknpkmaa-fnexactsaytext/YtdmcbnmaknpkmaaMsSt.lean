/- What is proved here: the program's and the model's SayText answer as PackMessage does, for every message of at most 1048576 things. -/
import Derived.Test.YtdmcbnmaknpkmaaMsPk2
import Derived.Test.YtdmcbnmaknpkmaaMsSpk2
namespace Go.Proofs.Ytdmcbnmaknpkmaa
open Go.RowKit Go.Sort
set_option linter.unusedVariables false

set_option maxHeartbeats 3200000 in
theorem implSaT (ga a ra : Option Addr) (gn gc n c rn rc : Nat) (has : Bool) (o nx md lc : Int) (gs rs : List (Int × Int)) (xs : List Int) (kd sa ho si wh su : Int) (w : World) (hg : PsAt w ga gs) (hx : NsAt w a xs) (hr : PsAt w ra rs) (hgn : gs.length = gn) (hn : xs.length = n) (hrn : rs.length = rn) (hm1 : gn ≤ 1048576) (hm2 : n ≤ 1048576) (hm3 : rn ≤ 1048576) : Calls Try.prog 7 #[.agg #[.int .i64 kd, .int .i64 sa, .int .i64 ho, .int .i64 si, .int .i64 wh, .int .i64 su, .slice ga gn gc, .bool has, .int .i64 o, .slice a n c, .int .i64 nx, .int .i64 md, .int .i64 lc, .slice ra rn rc]] w (MsAns w kd sa ho si wh su gs has o xs nx md lc rs) := by
  have hw : New w ((w.alloc (.cells #[.int .i64 kd, .int .i64 sa, .int .i64 ho, .int .i64 si, .int .i64 wh, .int .i64 su, .slice ga gn gc, .bool has, .int .i64 o, .slice a n c, .int .i64 nx, .int .i64 md, .int .i64 lc, .slice ra rn rc] 40)).alloc (.cells #[.int .i64 0, .slice none 0 0] 33)) := ((New.refl w).alloc _).alloc _
  have bR : Blk ((w.alloc (.cells #[.int .i64 kd, .int .i64 sa, .int .i64 ho, .int .i64 si, .int .i64 wh, .int .i64 su, .slice ga gn gc, .bool has, .int .i64 o, .slice a n c, .int .i64 nx, .int .i64 md, .int .i64 lc, .slice ra rn rc] 40)).alloc (.cells #[.int .i64 0, .slice none 0 0] 33)) (w.heap.size + 1) 33 #[.int .i64 0, .slice none 0 0] := Blk.mk _ _ _ _ (by simp)
  have hsz : Hid (((w.alloc (.cells #[.int .i64 kd, .int .i64 sa, .int .i64 ho, .int .i64 si, .int .i64 wh, .int .i64 su, .slice ga gn gc, .bool has, .int .i64 o, .slice a n c, .int .i64 nx, .int .i64 md, .int .i64 lc, .slice ra rn rc] 40)).alloc (.cells #[.int .i64 0, .slice none 0 0] 33)).heap.size = w.heap.size + 1 + 1) := by unfold Hid; simp
  have ge1 : w.heap.size ≤ w.heap.size + 1 := by omega
  go_enter Try.func7, Try.ntmps7
  go_wp2_with (refine (implPM ga a ra gn gc n c rn rc has o nx md lc gs rs xs kd sa ho si wh su _ (hg.new hw) (hx.new hw) (hr.new hw) hgn hn hrn hm1 hm2 hm3).mono ?_; rintro e w1 ⟨a', m, cap, ys, rfl, ho', hb, hr', hn1, hys, hnil, hm⟩; have bR1 := bR.new hn1; have cR := bR1.cells; have fR := bR1.frees; have HO : Hid _ := ho'; have HR : Hid _ := hr'; have HN : Hid _ := hnil; have HY : Hid _ := hys; clear ho' hr' hnil hys)
  have tt : Turn (fun i => i = w.heap.size + 1) w1 ((w1.setCell ⟨w.heap.size + 1, 0, none⟩ (.int .i64 (mf kd sa ho si wh su gs has o xs nx md lc rs))).setCell ⟨w.heap.size + 1, 1, none⟩ (.slice a' m cap)) := Turn.set (S := fun i => i = w.heap.size + 1) (Turn.set (S := fun i => i = w.heap.size + 1) (Turn.refl _ _) rfl _) rfl _
  refine bodyPost_ret (v := .agg #[.int .i64 (mf kd sa ho si wh su gs has o xs nx md lc rs), .slice a' m cap]) (by simp [results, Try.results7, go_sem, cR]) rfl ⟨a', m, cap, ys, rfl, ?_, hb, ?_, ?_, HY.out, HN.out, hm⟩
  · refine OwAt.turn HO.out tt (fun x hx e => ?_)
    have h1 := (HR.out x hx).1
    rw [hsz.out] at h1
    omega
  · intro x hx
    have h1 := HR.out x hx
    rw [hsz.out] at h1
    have h2 := tt.size
    exact ⟨by omega, by omega⟩
  · exact New.setCell (New.setCell (hw.trans hn1) ge1 _) ge1 _

set_option maxHeartbeats 3200000 in
theorem specSaT (ga a ra : Option Addr) (gn gc n c rn rc : Nat) (has : Bool) (o nx md lc : Int) (gs rs : List (Int × Int)) (xs : List Int) (kd sa ho si wh su : Int) (w : World) (hg : PsAt w ga gs) (hx : NsAt w a xs) (hr : PsAt w ra rs) (hgn : gs.length = gn) (hn : xs.length = n) (hrn : rs.length = rn) (hm1 : gn ≤ 1048576) (hm2 : n ≤ 1048576) (hm3 : rn ≤ 1048576) :
    Calls Try.prog 5 #[.agg #[.int .i64 kd, .int .i64 sa, .int .i64 ho, .int .i64 si, .int .i64 wh, .int .i64 su, .slice ga gn gc, .bool has, .int .i64 o, .slice a n c, .int .i64 nx, .int .i64 md, .int .i64 lc, .slice ra rn rc]] w (MsAns w kd sa ho si wh su gs has o xs nx md lc rs) := by
  have hw : New w ((w.alloc (.cells #[.int .i64 kd, .int .i64 sa, .int .i64 ho, .int .i64 si, .int .i64 wh, .int .i64 su, .slice ga gn gc, .bool has, .int .i64 o, .slice a n c, .int .i64 nx, .int .i64 md, .int .i64 lc, .slice ra rn rc] 40)).alloc (.cells #[.int .i64 0, .slice none 0 0] 33)) := ((New.refl w).alloc _).alloc _
  have bR : Blk ((w.alloc (.cells #[.int .i64 kd, .int .i64 sa, .int .i64 ho, .int .i64 si, .int .i64 wh, .int .i64 su, .slice ga gn gc, .bool has, .int .i64 o, .slice a n c, .int .i64 nx, .int .i64 md, .int .i64 lc, .slice ra rn rc] 40)).alloc (.cells #[.int .i64 0, .slice none 0 0] 33)) (w.heap.size + 1) 33 #[.int .i64 0, .slice none 0 0] := Blk.mk _ _ _ _ (by simp)
  have hsz : Hid (((w.alloc (.cells #[.int .i64 kd, .int .i64 sa, .int .i64 ho, .int .i64 si, .int .i64 wh, .int .i64 su, .slice ga gn gc, .bool has, .int .i64 o, .slice a n c, .int .i64 nx, .int .i64 md, .int .i64 lc, .slice ra rn rc] 40)).alloc (.cells #[.int .i64 0, .slice none 0 0] 33)).heap.size = w.heap.size + 1 + 1) := by unfold Hid; simp
  have ge1 : w.heap.size ≤ w.heap.size + 1 := by omega
  go_enter Try.func5, Try.ntmps5
  go_wp2_with (refine (specPM ga a ra gn gc n c rn rc has o nx md lc gs rs xs kd sa ho si wh su _ (hg.new hw) (hx.new hw) (hr.new hw) hgn hn hrn hm1 hm2 hm3).mono ?_; rintro e w1 ⟨a', m, cap, ys, rfl, ho', hb, hr', hn1, hys, hnil, hm⟩; have bR1 := bR.new hn1; have cR := bR1.cells; have fR := bR1.frees; have HO : Hid _ := ho'; have HR : Hid _ := hr'; have HN : Hid _ := hnil; have HY : Hid _ := hys; clear ho' hr' hnil hys)
  have tt : Turn (fun i => i = w.heap.size + 1) w1 ((w1.setCell ⟨w.heap.size + 1, 0, none⟩ (.int .i64 (mf kd sa ho si wh su gs has o xs nx md lc rs))).setCell ⟨w.heap.size + 1, 1, none⟩ (.slice a' m cap)) := Turn.set (S := fun i => i = w.heap.size + 1) (Turn.set (S := fun i => i = w.heap.size + 1) (Turn.refl _ _) rfl _) rfl _
  refine bodyPost_ret (v := .agg #[.int .i64 (mf kd sa ho si wh su gs has o xs nx md lc rs), .slice a' m cap]) (by simp [results, Try.results5, go_sem, cR]) rfl ⟨a', m, cap, ys, rfl, ?_, hb, ?_, ?_, HY.out, HN.out, hm⟩
  · refine OwAt.turn HO.out tt (fun x hx e => ?_)
    have h1 := (HR.out x hx).1
    rw [hsz.out] at h1
    omega
  · intro x hx
    have h1 := HR.out x hx
    rw [hsz.out] at h1
    have h2 := tt.size
    exact ⟨by omega, by omega⟩
  · exact New.setCell (New.setCell (hw.trans hn1) ge1 _) ge1 _

end Go.Proofs.Ytdmcbnmaknpkmaa
