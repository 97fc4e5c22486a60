/- What is proved here: what repeating one number at most three times answers. -/
import Derived.Test.YtjampcfikfafkaaGreatR6Pa
import Derived.Deep.RegionLaw
import Derived.Laws.CopyOwn
import Derived.Deep.CutRange
namespace Go.Proofs.YtjampcfikfafkaaGreat
open Go.RowKit Go.Sort
set_option linter.unusedVariables false

theorem mul64_small (k : Int) (h : k = 0 ∨ k = 1 ∨ k = 2 ∨ k = 3) (w : World) : Calls Tryz.prog 133 #[.int .u64 1, .int .u64 k] w fun e w' => e = .returned (.tuple #[.int .u64 0, .int .u64 k]) ∧ w' = w := by
  rcases h with rfl | rfl | rfl | rfl
  all_goals
    go_enter Tryz.func133, Tryz.ntmps133
    go_wp2
    refine bodyPost_ret (v := .tuple #[.int .u64 0, .int .u64 _]) (by simp [results, Tryz.results133, go_sem] <;> rfl) rfl ⟨rfl, rfl⟩

theorem mul_small (k : Int) (h : k = 0 ∨ k = 1 ∨ k = 2 ∨ k = 3) (w : World) : Calls Tryz.prog 128 #[.int .u64 1, .int .u64 k] w fun e w' => e = .returned (.tuple #[.int .u64 0, .int .u64 k]) ∧ w' = w := by
  go_enter Tryz.func128, Tryz.ntmps128
  go_wp2_with fail
  refine (mul64_small k h _).mono ?_
  rintro e w1 ⟨rfl, rfl⟩
  go_wp2
  refine bodyPost_ret (v := .tuple #[.int .u64 0, .int .u64 k]) (by simp [results, Tryz.results128, go_sem]) rfl ⟨rfl, rfl⟩

theorem own_row {w : World} {base g n : Nat} {e : TypeId} {xs : List Value} (h : w.ownsRow base e 1 (.slice (some ⟨g, 0, none⟩) n n) n xs) : w.heap[g]? = some (.cells xs.toArray e (0, 0)) := by
  rcases h.2 with ⟨h', _⟩ | ⟨g', cap', cur, h', _, hh, _, _, hs, ht⟩
  · simp at h'
  · simp only [Value.slice.injEq, Option.some.injEq, Addr.mk.injEq, and_true, true_and] at h'
    obtain ⟨rfl, rfl⟩ := h'
    rw [hh, ← ht, List.take_of_length_le (by simpa using Nat.le_of_eq hs)]

theorem row_own {w : World} {g n : Nat} {xs : List Int} (h : w.heap[g]? = some (.cells (xs.map (Value.int .i64)).toArray 2 (0, 0))) (hn : xs.length = n) (hm : n ≤ maxLen) : OwN w g n n xs := by
  subst hn
  refine ⟨by simp, .inr ⟨g, xs.length, _, rfl, Nat.zero_le _, h, Nat.le_refl _, hm, by simp, by rw [List.take_of_length_le (by simp)]⟩⟩

theorem wpList_mv {P : Program} {w : World} {ops : Array Oper} {rest : List Oper} {o : Oper} {a : Act} {Q : Exit → Act → World → Prop} (hgd : o.guard = none) (x : Operand) (ho : o.op = .move x)
    (h : wpList P ops Q rest (a.put o.dst (a.eval x)) w) : wpList P ops Q (o :: rest) a w := by
  refine wpList_plain hgd fun K hK => ?_
  unfold Oper.wp
  simp [execOp, ho]
  exact hK _ _ h

theorem new_drew_below {B : Nat} {w0 w : World} (h : Below B w0 w) : Below B w0 w.drew := ⟨h.os, h.tape, h.output, h.size, h.block⟩

theorem szI64 : (Tryz.prog.info? 2).map (·.size) = some 1 := by kernel_rfl

set_option maxRecDepth 100000 in
set_option maxHeartbeats 1600000 in
theorem rep0 (g : Nat) (z : Int) (w : World) (b : Blk w g 2 #[.int .i64 z]) : Calls Tryz.prog 121 #[.slice (some ⟨g, 0, none⟩) 1 1, .int .i64 0] w fun e w' => ∃ G, e = .returned (.slice (some ⟨G, 0, none⟩) 0 0) ∧ w.heap.size ≤ G ∧ OwN w' G 0 0 [] ∧ New w w' := by
  obtain ⟨i0, hi, hz0, hz1, hz2⟩ := info_parts Tryz.infoI64
  go_enter Tryz.func121, Tryz.ntmps121
  go_wp2_with fail
  refine (mul_small 0 (by omega) _).mono ?_
  rintro e w1 ⟨rfl, rfl⟩
  go_wp2_with (at_make; refine wpList_make_full _ rfl _ _ 34 rfl w1.heap.size 2 i0 (.int .i64 0) 1 Tryz.underlying34 hi hz0 hz1 _ _ _ _ 0 rfl rfl rfl rfl ?b2 ?b3 (Nat.le_refl _) ?_)
  case b2 => rw [hz2]; omega
  case b3 => unfold maxLen; omega
  intro w2 hown0 hgrow0
  have hr : w2.heap[w1.heap.size]? = some (.cells ([] : List Value).toArray 2 (0, 0)) := by
    have := own_row (own_base hown0)
    simpa [Value.cells, madeCells, Array.range] using this
  have hB2 : Below w1.heap.size w1 w2 := (New.of_grown hgrow0).below
  have c2 : w2.cell? ⟨g, 0, none⟩ = some (.int .i64 z) := ((b.new (New.of_grown hgrow0)).cells 0)
  have gl : g < w1.heap.size := b.lt
  clear hown0 hgrow0
  go_upto_region 7 with fail
  apply wp_region_lit
  refine wpList_mv rfl (.tmp 7) rfl ?_
  refine wpList_mv rfl (.tmp 0) rfl ?_
  refine wpList_copy_splice rfl (.tmp 31) (.tmp 32) 34 34 rfl 2 Tryz.underlying34 szI64 (some ⟨w1.heap.size, 0, none⟩) (some ⟨g, 0, none⟩) 0 0 1 1 (by simp [Act.eval, Act.put]) (by simp [Act.eval, Act.put]) w1.heap.size 0 [] 2 hr [] rfl (by intro hh; simp at hh) (by simp) (by simp [Value.oneCell']) w1.heap.size w1 hB2 (Nat.le_refl _) ?_
  intro w3 hg3 hb3
  have hr3 : w3.heap[w1.heap.size]? = some (.cells ([] : List Value).toArray 2 (0, 0)) := hg3.out
  clear hg3 hr c2
  go_wp2_with fail
  refine wp_loop_rounds 1 ?_
  rw [rounds_succ]
  go_wp2
  go_ret
  exact ⟨_, rfl, Nat.le_refl _, row_own (xs := []) hr3 rfl (by unfold maxLen; omega), New.of_below hb3 (Nat.le_refl _)⟩

set_option maxRecDepth 100000 in
set_option maxHeartbeats 1600000 in
theorem rep1 (g : Nat) (z : Int) (w : World) (b : Blk w g 2 #[.int .i64 z]) : Calls Tryz.prog 121 #[.slice (some ⟨g, 0, none⟩) 1 1, .int .i64 1] w fun e w' => ∃ G, e = .returned (.slice (some ⟨G, 0, none⟩) 1 1) ∧ w.heap.size ≤ G ∧ OwN w' G 1 1 [z] ∧ New w w' := by
  obtain ⟨i0, hi, hz0, hz1, hz2⟩ := info_parts Tryz.infoI64
  go_enter Tryz.func121, Tryz.ntmps121
  go_wp2_with fail
  refine (mul_small 1 (by omega) _).mono ?_
  rintro e w1 ⟨rfl, rfl⟩
  go_wp2_with (at_make; refine wpList_make_full _ rfl _ _ 34 rfl w1.heap.size 2 i0 (.int .i64 0) 1 Tryz.underlying34 hi hz0 hz1 _ _ _ _ 1 rfl rfl rfl rfl ?b2 ?b3 (Nat.le_refl _) ?_)
  case b2 => rw [hz2]; omega
  case b3 => unfold maxLen; omega
  intro w2 hown0 hgrow0
  have hr : w2.heap[w1.heap.size]? = some (.cells ([.int .i64 0] : List Value).toArray 2 (0, 0)) := by
    have := own_row (own_base hown0)
    simpa [Value.cells, madeCells, Array.range] using this
  have hB2 : Below w1.heap.size w1 w2 := (New.of_grown hgrow0).below
  have c2 : w2.cell? ⟨g, 0, none⟩ = some (.int .i64 z) := ((b.new (New.of_grown hgrow0)).cells 0)
  have gl : g < w1.heap.size := b.lt
  clear hown0 hgrow0
  go_upto_region 7 with fail
  apply wp_region_lit
  refine wpList_mv rfl (.tmp 7) rfl ?_
  refine wpList_mv rfl (.tmp 0) rfl ?_
  refine wpList_copy_splice rfl (.tmp 31) (.tmp 32) 34 34 rfl 2 Tryz.underlying34 szI64 (some ⟨w1.heap.size, 0, none⟩) (some ⟨g, 0, none⟩) 1 1 1 1 (by simp [Act.eval, Act.put]) (by simp [Act.eval, Act.put]) w1.heap.size 0 [.int .i64 0] 2 hr [.int .i64 z] rfl (by intro hh; exact ⟨rfl, _, rfl, fun j v hv => by match j, hv with | 0, hv => (simp at hv; subst hv; simpa [Addr.add] using c2)⟩) (by simp) (by simp [Value.oneCell']) w1.heap.size w1 hB2 (Nat.le_refl _) ?_
  intro w3 hg3 hb3
  have hr3 : w3.heap[w1.heap.size]? = some (.cells ([.int .i64 z] : List Value).toArray 2 (0, 0)) := hg3.out
  clear hg3 hr c2
  go_wp2_with fail
  refine wp_loop_rounds 1 ?_
  rw [rounds_succ]
  go_wp2
  go_ret
  exact ⟨_, rfl, Nat.le_refl _, row_own (xs := [z]) hr3 rfl (by unfold maxLen; omega), New.of_below hb3 (Nat.le_refl _)⟩

set_option maxRecDepth 100000 in
set_option maxHeartbeats 1600000 in
theorem rep2 (g : Nat) (z : Int) (w : World) (b : Blk w g 2 #[.int .i64 z]) : Calls Tryz.prog 121 #[.slice (some ⟨g, 0, none⟩) 1 1, .int .i64 2] w fun e w' => ∃ G, e = .returned (.slice (some ⟨G, 0, none⟩) 2 2) ∧ w.heap.size ≤ G ∧ OwN w' G 2 2 [z, z] ∧ New w w' := by
  obtain ⟨i0, hi, hz0, hz1, hz2⟩ := info_parts Tryz.infoI64
  go_enter Tryz.func121, Tryz.ntmps121
  go_wp2_with fail
  refine (mul_small 2 (by omega) _).mono ?_
  rintro e w1 ⟨rfl, rfl⟩
  go_wp2_with (at_make; refine wpList_make_full _ rfl _ _ 34 rfl w1.heap.size 2 i0 (.int .i64 0) 1 Tryz.underlying34 hi hz0 hz1 _ _ _ _ 2 rfl rfl rfl rfl ?b2 ?b3 (Nat.le_refl _) ?_)
  case b2 => rw [hz2]; omega
  case b3 => unfold maxLen; omega
  intro w2 hown0 hgrow0
  have hr : w2.heap[w1.heap.size]? = some (.cells ([.int .i64 0, .int .i64 0] : List Value).toArray 2 (0, 0)) := by
    have := own_row (own_base hown0)
    simpa [Value.cells, madeCells, Array.range] using this
  have hB2 : Below w1.heap.size w1 w2 := (New.of_grown hgrow0).below
  have c2 : w2.cell? ⟨g, 0, none⟩ = some (.int .i64 z) := ((b.new (New.of_grown hgrow0)).cells 0)
  have gl : g < w1.heap.size := b.lt
  clear hown0 hgrow0
  go_upto_region 7 with fail
  apply wp_region_lit
  refine wpList_mv rfl (.tmp 7) rfl ?_
  refine wpList_mv rfl (.tmp 0) rfl ?_
  refine wpList_copy_splice rfl (.tmp 31) (.tmp 32) 34 34 rfl 2 Tryz.underlying34 szI64 (some ⟨w1.heap.size, 0, none⟩) (some ⟨g, 0, none⟩) 2 2 1 1 (by simp [Act.eval, Act.put]) (by simp [Act.eval, Act.put]) w1.heap.size 0 [.int .i64 0, .int .i64 0] 2 hr [.int .i64 z] rfl (by intro hh; exact ⟨rfl, _, rfl, fun j v hv => by match j, hv with | 0, hv => (simp at hv; subst hv; simpa [Addr.add] using c2)⟩) (by simp) (by simp [Value.oneCell']) w1.heap.size w1 hB2 (Nat.le_refl _) ?_
  intro w3 hg3 hb3
  have hr3 : w3.heap[w1.heap.size]? = some (.cells ([.int .i64 z, .int .i64 0] : List Value).toArray 2 (0, 0)) := hg3.out
  clear hg3 hr c2
  go_wp2_with fail
  refine wp_loop_rounds 2 ?_
  rw [rounds_succ]
  have c3 : w3.cell? ⟨w1.heap.size, 0, none⟩ = some (.int .i64 z) := cell_of_row w3 w1.heap.size 0 _ _ _ hr3
  go_wp2_with fail
  go_region_law (refine step_copy_splice rfl (.tmp 41) (.tmp 44) 34 34 rfl 2 Tryz.underlying34 szI64 (some ⟨w1.heap.size, 1, none⟩) (some ⟨w1.heap.size, 0, none⟩) 1 1 1 2 (by simp [Act.eval, Act.put]) (by simp [Act.eval, Act.put]) w1.heap.size 1 [.int .i64 z, .int .i64 0] 2 hr3 [.int .i64 z] rfl (by intro hh; exact ⟨rfl, _, rfl, fun j v hv => by match j, hv with | 0, hv => (simp at hv; subst hv; simpa [Addr.add] using (show w3.drew.cell? ⟨w1.heap.size, 0, none⟩ = some (.int .i64 z) from c3))⟩) (by simp) (by simp [Value.oneCell']) w1.heap.size w1 (new_drew_below hb3) (Nat.le_refl _) ?_; intro w4 hg4 hb4)
  all_goals
  have hr4 : w4.heap[w1.heap.size]? = some (.cells ([.int .i64 z, .int .i64 z] : List Value).toArray 2 (0, 0)) := hg4.out
  clear hg4 hr3 c3 hb3
  go_wp2_with fail
  rw [rounds_succ]
  go_wp2
  go_ret
  exact ⟨_, rfl, Nat.le_refl _, row_own (xs := [z, z]) hr4 rfl (by unfold maxLen; omega), New.of_below hb4 (Nat.le_refl _)⟩

set_option maxRecDepth 100000 in
set_option maxHeartbeats 1600000 in
theorem rep3 (g : Nat) (z : Int) (w : World) (b : Blk w g 2 #[.int .i64 z]) : Calls Tryz.prog 121 #[.slice (some ⟨g, 0, none⟩) 1 1, .int .i64 3] w fun e w' => ∃ G, e = .returned (.slice (some ⟨G, 0, none⟩) 3 3) ∧ w.heap.size ≤ G ∧ OwN w' G 3 3 [z, z, z] ∧ New w w' := by
  obtain ⟨i0, hi, hz0, hz1, hz2⟩ := info_parts Tryz.infoI64
  go_enter Tryz.func121, Tryz.ntmps121
  go_wp2_with fail
  refine (mul_small 3 (by omega) _).mono ?_
  rintro e w1 ⟨rfl, rfl⟩
  go_wp2_with (at_make; refine wpList_make_full _ rfl _ _ 34 rfl w1.heap.size 2 i0 (.int .i64 0) 1 Tryz.underlying34 hi hz0 hz1 _ _ _ _ 3 rfl rfl rfl rfl ?b2 ?b3 (Nat.le_refl _) ?_)
  case b2 => rw [hz2]; omega
  case b3 => unfold maxLen; omega
  intro w2 hown0 hgrow0
  have hr : w2.heap[w1.heap.size]? = some (.cells ([.int .i64 0, .int .i64 0, .int .i64 0] : List Value).toArray 2 (0, 0)) := by
    have := own_row (own_base hown0)
    simpa [Value.cells, madeCells, Array.range] using this
  have hB2 : Below w1.heap.size w1 w2 := (New.of_grown hgrow0).below
  have c2 : w2.cell? ⟨g, 0, none⟩ = some (.int .i64 z) := ((b.new (New.of_grown hgrow0)).cells 0)
  have gl : g < w1.heap.size := b.lt
  clear hown0 hgrow0
  go_upto_region 7 with fail
  apply wp_region_lit
  refine wpList_mv rfl (.tmp 7) rfl ?_
  refine wpList_mv rfl (.tmp 0) rfl ?_
  refine wpList_copy_splice rfl (.tmp 31) (.tmp 32) 34 34 rfl 2 Tryz.underlying34 szI64 (some ⟨w1.heap.size, 0, none⟩) (some ⟨g, 0, none⟩) 3 3 1 1 (by simp [Act.eval, Act.put]) (by simp [Act.eval, Act.put]) w1.heap.size 0 [.int .i64 0, .int .i64 0, .int .i64 0] 2 hr [.int .i64 z] rfl (by intro hh; exact ⟨rfl, _, rfl, fun j v hv => by match j, hv with | 0, hv => (simp at hv; subst hv; simpa [Addr.add] using c2)⟩) (by simp) (by simp [Value.oneCell']) w1.heap.size w1 hB2 (Nat.le_refl _) ?_
  intro w3 hg3 hb3
  have hr3 : w3.heap[w1.heap.size]? = some (.cells ([.int .i64 z, .int .i64 0, .int .i64 0] : List Value).toArray 2 (0, 0)) := hg3.out
  clear hg3 hr c2
  go_wp2_with fail
  refine wp_loop_rounds 3 ?_
  rw [rounds_succ]
  have c3 : w3.cell? ⟨w1.heap.size, 0, none⟩ = some (.int .i64 z) := cell_of_row w3 w1.heap.size 0 _ _ _ hr3
  go_wp2_with fail
  go_region_law (refine step_copy_splice rfl (.tmp 41) (.tmp 44) 34 34 rfl 2 Tryz.underlying34 szI64 (some ⟨w1.heap.size, 1, none⟩) (some ⟨w1.heap.size, 0, none⟩) 2 2 1 3 (by simp [Act.eval, Act.put]) (by simp [Act.eval, Act.put]) w1.heap.size 1 [.int .i64 z, .int .i64 0, .int .i64 0] 2 hr3 [.int .i64 z] rfl (by intro hh; exact ⟨rfl, _, rfl, fun j v hv => by match j, hv with | 0, hv => (simp at hv; subst hv; simpa [Addr.add] using (show w3.drew.cell? ⟨w1.heap.size, 0, none⟩ = some (.int .i64 z) from c3))⟩) (by simp) (by simp [Value.oneCell']) w1.heap.size w1 (new_drew_below hb3) (Nat.le_refl _) ?_; intro w4 hg4 hb4)
  all_goals
  have hr4 : w4.heap[w1.heap.size]? = some (.cells ([.int .i64 z, .int .i64 z, .int .i64 0] : List Value).toArray 2 (0, 0)) := hg4.out
  clear hg4 hr3 c3 hb3
  go_wp2_with fail
  rw [rounds_succ]
  have c4 : w4.cell? ⟨w1.heap.size, 0, none⟩ = some (.int .i64 z) := cell_of_row w4 w1.heap.size 0 _ _ _ hr4
  go_wp2_with fail
  go_region_law (refine step_copy_splice rfl (.tmp 41) (.tmp 44) 34 34 rfl 2 Tryz.underlying34 szI64 (some ⟨w1.heap.size, 2, none⟩) (some ⟨w1.heap.size, 0, none⟩) 1 1 2 3 (by simp [Act.eval, Act.put]) (by simp [Act.eval, Act.put]) w1.heap.size 2 [.int .i64 z, .int .i64 z, .int .i64 0] 2 hr4 [.int .i64 z] rfl (by intro hh; exact ⟨rfl, _, rfl, fun j v hv => by match j, hv with | 0, hv => (simp at hv; subst hv; simpa [Addr.add] using (show w4.drew.cell? ⟨w1.heap.size, 0, none⟩ = some (.int .i64 z) from c4))⟩) (by simp) (by simp [Value.oneCell']) w1.heap.size w1 (new_drew_below hb4) (Nat.le_refl _) ?_; intro w5 hg5 hb5)
  all_goals
  have hr5 : w5.heap[w1.heap.size]? = some (.cells ([.int .i64 z, .int .i64 z, .int .i64 z] : List Value).toArray 2 (0, 0)) := hg5.out
  clear hg5 hr4 c4 hb4
  go_wp2_with fail
  rw [rounds_succ]
  go_wp2
  go_ret
  exact ⟨_, rfl, Nat.le_refl _, row_own (xs := [z, z, z]) hr5 rfl (by unfold maxLen; omega), New.of_below hb5 (Nat.le_refl _)⟩

theorem rep_any (g : Nat) (z k : Int) (w : World) (b : Blk w g 2 #[.int .i64 z]) (h0 : 0 ≤ k) (h3 : k ≤ 3) : Calls Tryz.prog 121 #[.slice (some ⟨g, 0, none⟩) 1 1, .int .i64 k] w fun e w' => ∃ G, e = .returned (.slice (some ⟨G, 0, none⟩) k.toNat k.toNat) ∧ w.heap.size ≤ G ∧ OwN w' G k.toNat k.toNat (List.replicate k.toNat z) ∧ New w w' := by
  have h : k = 0 ∨ k = 1 ∨ k = 2 ∨ k = 3 := by omega
  rcases h with rfl | rfl | rfl | rfl
  · exact rep0 g z w b
  · exact rep1 g z w b
  · exact rep2 g z w b
  · exact rep3 g z w b

end Go.Proofs.YtjampcfikfafkaaGreat
