/- What is proved here: what the copying and the comparing of rules and of lists of rules answer, for every list of at most 1048576 rules. -/
import Derived.Test.YtjampcfikfafkaaGreatR6Fn
namespace Go.Proofs.YtjampcfikfafkaaGreat
open Go.RowKit Go.Sort
set_option linter.unusedVariables false

set_option maxHeartbeats 1600000 in
theorem toRule_any (a l ls ms s : Int) (d : Bool) (lc pp : Int) (w : World) : Calls Tryz.prog 48 #[.agg #[.int .i64 a, .int .i64 l, .int .i64 ls, .int .i64 ms, .int .i64 s, .bool d, .int .i64 lc, .int .i64 pp]] w fun e w' => e = .returned (.agg #[.int .i64 a, .int .i64 l, .int .i64 ls, .int .i64 ms, .int .i64 s, .bool d, .int .i64 lc, .int .i64 pp]) ∧ New w w' := by
  have hw0 := (((New.refl w).alloc (.cells #[.int .i64 a, .int .i64 l, .int .i64 ls, .int .i64 ms, .int .i64 s, .bool d, .int .i64 lc, .int .i64 pp] 96)).alloc (.cells #[.int .i64 0, .int .i64 0, .int .i64 0, .int .i64 0, .int .i64 0, .bool false, .int .i64 0, .int .i64 0] 93)).alloc (.cells #[.int .i64 0, .int .i64 0, .int .i64 0, .int .i64 0, .int .i64 0, .bool false, .int .i64 0, .int .i64 0] 93)
  have b0 : Blk (((w.alloc (.cells #[.int .i64 a, .int .i64 l, .int .i64 ls, .int .i64 ms, .int .i64 s, .bool d, .int .i64 lc, .int .i64 pp] 96)).alloc (.cells #[.int .i64 0, .int .i64 0, .int .i64 0, .int .i64 0, .int .i64 0, .bool false, .int .i64 0, .int .i64 0] 93)).alloc (.cells #[.int .i64 0, .int .i64 0, .int .i64 0, .int .i64 0, .int .i64 0, .bool false, .int .i64 0, .int .i64 0] 93)) w.heap.size 96 #[.int .i64 a, .int .i64 l, .int .i64 ls, .int .i64 ms, .int .i64 s, .bool d, .int .i64 lc, .int .i64 pp] := ((Blk.mk _ _ _ _ rfl).alloc _).alloc _
  have b1 : Blk (((w.alloc (.cells #[.int .i64 a, .int .i64 l, .int .i64 ls, .int .i64 ms, .int .i64 s, .bool d, .int .i64 lc, .int .i64 pp] 96)).alloc (.cells #[.int .i64 0, .int .i64 0, .int .i64 0, .int .i64 0, .int .i64 0, .bool false, .int .i64 0, .int .i64 0] 93)).alloc (.cells #[.int .i64 0, .int .i64 0, .int .i64 0, .int .i64 0, .int .i64 0, .bool false, .int .i64 0, .int .i64 0] 93)) (w.heap.size + 1) 93 #[.int .i64 0, .int .i64 0, .int .i64 0, .int .i64 0, .int .i64 0, .bool false, .int .i64 0, .int .i64 0] := (Blk.mk _ _ _ _ (by simp)).alloc _
  have b2 : Blk (((w.alloc (.cells #[.int .i64 a, .int .i64 l, .int .i64 ls, .int .i64 ms, .int .i64 s, .bool d, .int .i64 lc, .int .i64 pp] 96)).alloc (.cells #[.int .i64 0, .int .i64 0, .int .i64 0, .int .i64 0, .int .i64 0, .bool false, .int .i64 0, .int .i64 0] 93)).alloc (.cells #[.int .i64 0, .int .i64 0, .int .i64 0, .int .i64 0, .int .i64 0, .bool false, .int .i64 0, .int .i64 0] 93)) (w.heap.size + 1 + 1) 93 #[.int .i64 0, .int .i64 0, .int .i64 0, .int .i64 0, .int .i64 0, .bool false, .int .i64 0, .int .i64 0] := Blk.mk _ _ _ _ (by simp)
  go_enter Tryz.func48, Tryz.ntmps48
  go_wp2_with fail
  refine (toPrefix_any a l _).mono ?_
  rintro e w1 ⟨rfl, hn1⟩
  have n1 := hw0.trans hn1
  have c0 := (b0.new hn1).cells
  have c1 := (b1.new hn1).cells
  have c2 := (b2.new hn1).cells
  have f1 := (b1.new hn1).frees
  have f2 := (b2.new hn1).frees
  have ge1 : w.heap.size ≤ w.heap.size + 1 := by omega
  have ge2 : w.heap.size ≤ w.heap.size + 1 + 1 := by omega
  clear b0 b1 b2 hn1 hw0
  go_wp2
  refine bodyPost_ret (v := .agg #[.int .i64 a, .int .i64 l, .int .i64 ls, .int .i64 ms, .int .i64 s, .bool d, .int .i64 lc, .int .i64 pp]) (by simp [results, Tryz.results48, go_sem, c1]) rfl ⟨rfl, ?_⟩
  simp (disch := (first | exact ge1 | exact ge2)) only [New.set_iff, n1]

set_option maxHeartbeats 1600000 in
theorem eqRule_any (a l ls ms s : Int) (d : Bool) (lc pp : Int) (w : World) : Calls Tryz.prog 51 #[.agg #[.int .i64 a, .int .i64 l, .int .i64 ls, .int .i64 ms, .int .i64 s, .bool d, .int .i64 lc, .int .i64 pp], .agg #[.int .i64 a, .int .i64 l, .int .i64 ls, .int .i64 ms, .int .i64 s, .bool d, .int .i64 lc, .int .i64 pp]] w fun e w' => e = .returned (.bool true) ∧ New w w' := by
  have hw := ((New.refl w).alloc (.cells #[.int .i64 a, .int .i64 l, .int .i64 ls, .int .i64 ms, .int .i64 s, .bool d, .int .i64 lc, .int .i64 pp] 93)).alloc (.cells #[.int .i64 a, .int .i64 l, .int .i64 ls, .int .i64 ms, .int .i64 s, .bool d, .int .i64 lc, .int .i64 pp] 93)
  have hB : Blk ((w.alloc (.cells #[.int .i64 a, .int .i64 l, .int .i64 ls, .int .i64 ms, .int .i64 s, .bool d, .int .i64 lc, .int .i64 pp] 93)).alloc (.cells #[.int .i64 a, .int .i64 l, .int .i64 ls, .int .i64 ms, .int .i64 s, .bool d, .int .i64 lc, .int .i64 pp] 93)) w.heap.size 93 #[.int .i64 a, .int .i64 l, .int .i64 ls, .int .i64 ms, .int .i64 s, .bool d, .int .i64 lc, .int .i64 pp] := (Blk.mk _ _ _ _ rfl).alloc _
  have hD : Blk ((w.alloc (.cells #[.int .i64 a, .int .i64 l, .int .i64 ls, .int .i64 ms, .int .i64 s, .bool d, .int .i64 lc, .int .i64 pp] 93)).alloc (.cells #[.int .i64 a, .int .i64 l, .int .i64 ls, .int .i64 ms, .int .i64 s, .bool d, .int .i64 lc, .int .i64 pp] 93)) (w.heap.size + 1) 93 #[.int .i64 a, .int .i64 l, .int .i64 ls, .int .i64 ms, .int .i64 s, .bool d, .int .i64 lc, .int .i64 pp] := Blk.mk _ _ _ _ (by simp)
  have z1 : (ls != ls) = false := by simp
  have z2 : (ms != ms) = false := by simp
  have z3 : (s != s) = false := by simp
  have z4 : (lc != lc) = false := by simp
  have z5 : (pp != pp) = false := by simp
  have z6 : (d != d) = false := by simp
  go_enter Tryz.func51, Tryz.ntmps51
  go_wp2_with fail
  refine (eqPrefix_any a l _).mono ?_
  rintro e w1 ⟨rfl, hn1⟩
  have cB := (hB.new hn1).cells
  have cD := (hD.new hn1).cells
  clear hB hD
  go_wp2
  go_ret
  exact ⟨rfl, hw.trans hn1⟩

set_option maxHeartbeats 3200000 in
theorem toRs_any (x : Option Addr) (n c : Nat) (rs : List Ru) (w : World) (h : RsAt w x rs) (hn : rs.length = n) (hm : n ≤ 1048576) :
    Calls Tryz.prog 15 #[.slice x n c] w fun e w' => ∃ g, e = .returned (.slice (some ⟨g, 0, none⟩) n n) ∧ w.heap.size ≤ g ∧ OwR w' g n n rs ∧ New w w' := by
  obtain ⟨i0, hi, hz0, hz1, hz2⟩ := info_parts Tryz.infoRu
  go_enter Tryz.func15, Tryz.ntmps15
  go_wp2_with (at_make; refine wpList_make_full _ rfl _ _ 25 rfl w.heap.size 93 i0 (.agg #[.int .i64 0, .int .i64 0, .int .i64 0, .int .i64 0, .int .i64 0, .bool false, .int .i64 0, .int .i64 0]) 8 Tryz.underlying25 hi hz0 hz1 _ _ _ _ n rfl rfl rfl rfl ?b2 ?b3 (Nat.le_refl _) ?_)
  case b2 => rw [hz2]; omega
  case b3 => unfold maxLen; omega
  intro w0 hown0 hgrow0
  have hown : OwR w0 w.heap.size n n (rs.take 0 ++ List.replicate (n - 0) ru0) := by
    have := own_base hown0
    have e8 := made_ru n
    simp only [OwR, List.take_zero, List.nil_append, Nat.sub_zero]
    rw [← e8]
    exact this
  have hnew := New.of_grown hgrow0
  clear hown0 hgrow0
  go_wp2
  go_loopw [4] (fun i wr => ∃ k : Nat, k ≤ n ∧ i = .int .i64 k ∧ New w wr ∧ OwR wr w.heap.size n n (rs.take k ++ List.replicate (n - k) ru0)) (fun i _ => n - (intOf i).toNat)
  case atStart => exact ⟨0, Nat.zero_le _, rfl, hnew, hown⟩
  case round =>
    obtain ⟨k, hk, rfl, hnw, how⟩ := hrel
    by_cases hlt : k < n
    · obtain ⟨b, off, a, l, ls, ms, s, d, lc, pp, rfl, hz, q0, q1, q2, q3, q4, q5, q6, q7⟩ := (h.new hnw).at k (by omega)
      go_wp2_with fail
      refine (toRule_any a l ls ms s d lc pp _).mono ?_
      rintro e w1 ⟨rfl, hn1⟩
      have how1 := how.new hn1
      have hput := how1.put k a l ls ms s d lc pp
      rw [set_fillR rs k n hn _ hz] at hput
      have hn2 := hnw.trans hn1
      have f0 := fun j => World.ownsRow.frozenAt how1 j
      obtain ⟨v0, c0⟩ := how1.cell (k * 8) (by omega)
      obtain ⟨v1, c1⟩ := how1.cell (k * 8 + 1) (by omega)
      obtain ⟨v2, c2⟩ := how1.cell (k * 8 + 2) (by omega)
      obtain ⟨v3, c3⟩ := how1.cell (k * 8 + 3) (by omega)
      obtain ⟨v4, c4⟩ := how1.cell (k * 8 + 4) (by omega)
      obtain ⟨v5, c5⟩ := how1.cell (k * 8 + 5) (by omega)
      obtain ⟨v6, c6⟩ := how1.cell (k * 8 + 6) (by omega)
      obtain ⟨v7, c7⟩ := how1.cell (k * 8 + 7) (by omega)
      clear hz h how how1 q0 q1 q2 q3 q4 q5 q6 q7 hnw hn1
      go_wp2
      go_roundw
      case rel => exact ⟨k + 1, by omega, by go_num, ((((((((hn2.setCell (Nat.le_refl _) _).setCell (Nat.le_refl _) _).setCell (Nat.le_refl _) _).setCell (Nat.le_refl _) _).setCell (Nat.le_refl _) _).setCell (Nat.le_refl _) _).setCell (Nat.le_refl _) _).setCell (Nat.le_refl _) _), hput⟩
      case measure => simp [intOf]; omega
    · go_wp2
      go_ret
      refine ⟨_, rfl, Nat.le_refl _, ?_, hnw⟩
      have hkn : k = n := by omega
      subst hkn
      rw [List.take_of_length_le (by omega)] at how
      simpa using how

set_option maxHeartbeats 1600000 in
theorem eqRs_any (x y : Option Addr) (n c e0 : Nat) (rs : List Ru) (w : World) (hF : RsAt w x rs) (hG : RsAt w y rs) (hn : rs.length = n) (hm : n ≤ 1048576) :
    Calls Tryz.prog 18 #[.slice x n c, .slice y n e0] w fun e w' => e = .returned (.bool true) ∧ New w w' := by
  have hnn : ((n : Int) != (n : Int)) = false := by simp
  go_enter Tryz.func18, Tryz.ntmps18
  go_wp2
  go_loopw [5] (fun i wr => ∃ k : Nat, k ≤ n ∧ i = .int .i64 k ∧ New w wr) (fun i _ => n - (intOf i).toNat)
  case atStart => exact ⟨0, Nat.zero_le _, rfl, New.refl _⟩
  case round =>
    obtain ⟨k, hk, rfl, hnw⟩ := hrel
    by_cases hlt : k < n
    · obtain ⟨g1, o1, a, l, ls, ms, s, d, lc, pp, rfl, hp1, x0, x1, x2, x3, x4, x5, x6, x7⟩ := (hF.new hnw).at k (by omega)
      obtain ⟨g2, o2, a', l', ls', ms', s', d', lc', pp', rfl, hp2, y0, y1, y2, y3, y4, y5, y6, y7⟩ := (hG.new hnw).at k (by omega)
      obtain ⟨rfl, rfl, rfl, rfl, rfl, rfl, rfl, rfl⟩ : a = a' ∧ l = l' ∧ ls = ls' ∧ ms = ms' ∧ s = s' ∧ d = d' ∧ lc = lc' ∧ pp = pp' := by simpa using Option.some.inj (hp1.symm.trans hp2)
      clear hp1 hp2 hF hG
      have X0 := cell_regrown x0
      have X1 := cell_regrown x1
      have X2 := cell_regrown x2
      have X3 := cell_regrown x3
      have X4 := cell_regrown x4
      have X5 := cell_regrown x5
      have X6 := cell_regrown x6
      have X7 := cell_regrown x7
      have Y0 := cell_regrown y0
      have Y1 := cell_regrown y1
      have Y2 := cell_regrown y2
      have Y3 := cell_regrown y3
      have Y4 := cell_regrown y4
      have Y5 := cell_regrown y5
      have Y6 := cell_regrown y6
      have Y7 := cell_regrown y7
      go_wp2_with fail
      refine wp_region_quiet_below (by kernel_rfl) (by kernel_rfl) ?_
      repeat (go_big_quiet_step ((go_at_call 51; exact calls_regrown (eqRule_any a l ls ms s d lc pp _))))
      refine wpQuiet_nil ?_
      rintro w1 hn1
      replace hn1 := new_of_regrown hn1
      go_wp2
      go_roundw
      case rel => exact ⟨k + 1, by omega, by go_num, hnw.trans hn1⟩
      case measure => simp [intOf]; omega
    · go_wp2
      go_ret
      exact ⟨rfl, hnw⟩

end Go.Proofs.YtjampcfikfafkaaGreat
