/- What is proved here: what the drawing of two prefixes answers: two prefixes, whatever numbers they hold. -/
import Derived.Test.YtefbeaoinikbgaaSomeP
namespace Go.Proofs.Ytefbeaoinikbgaa
open Go.RowKit Go.Sort
set_option linter.unusedVariables false

theorem New.set_iff {a w : World} {p : Addr} {u : Value} (hp : a.heap.size ≤ p.block) : New a (w.setCell p u) ↔ New a w :=
  ⟨fun h => ⟨h.os, h.tape, h.output, by simpa [World.setCell] using h.size, fun k hk hs => (Below.heap_setCell w p u k (by omega)).symm.trans (h.block k hk hs)⟩, fun h => h.setCell hp u⟩
theorem New.drew_iff {a w : World} : New a w.drew ↔ New a w := ⟨fun h => ⟨h.os, h.tape, h.output, h.size, h.block⟩, fun h => h.drew⟩

theorem l1In_any (x a b : Int) (w : World) : Calls Try.prog 17 #[.int .i64 x, .int .i64 a, .int .i64 b] w fun e w' => ∃ r : Bool, e = .returned (.bool r) ∧ (r = true → a ≤ x ∧ x ≤ b) ∧ w' = w := by
  by_cases h : a ≤ x ∧ x ≤ b
  · refine (in_yes x a b w h).mono ?_
    rintro e w' ⟨rfl, rfl⟩
    exact ⟨true, rfl, fun _ => h, rfl⟩
  · refine (in_no x a b w (by omega)).mono ?_
    rintro e w' ⟨rfl, rfl⟩
    exact ⟨false, rfl, (fun h => by cases h), rfl⟩

set_option maxRecDepth 100000 in
set_option maxHeartbeats 3200000 in
theorem drawIn_any (a : Option Addr) (n c : Nat) (zs : List Int) (w : World) (h : BsAt w a zs) (hn : zs.length = n) (hm : n ≤ 2097152) (ha : ∀ x, zs ≠ [] → a = some x → x.block < w.heap.size) :
    Calls Try.prog 5 #[.slice a n c] w fun e w' => ∃ x l y m : Int, e = .returned (.tuple #[.agg #[.int .i64 x, .int .i64 l], .agg #[.int .i64 y, .int .i64 m]]) ∧ New w w' := by
  have hw0 := ((New.refl w).alloc (.cells #[.int .i64 0, .int .i64 0] 25)).alloc (.cells #[.int .i64 0, .int .i64 0] 25)
  have hR : Blk ((w.alloc (.cells #[.int .i64 0, .int .i64 0] 25)).alloc (.cells #[.int .i64 0, .int .i64 0] 25)) w.heap.size 25 #[.int .i64 0, .int .i64 0] := (Blk.mk _ _ _ _ rfl).alloc _
  have hQ : Blk ((w.alloc (.cells #[.int .i64 0, .int .i64 0] 25)).alloc (.cells #[.int .i64 0, .int .i64 0] 25)) (w.heap.size + 1) 25 #[.int .i64 0, .int .i64 0] := Blk.mk _ _ _ _ (by simp)
  go_enter Try.func5, Try.ntmps5
  go_wp2_with fail
  refine (source_any a n c zs _ (h.new hw0) hn hm (fun x hz hx => by have := ha x hz hx; simp; omega)).mono ?_
  rintro e w1 ⟨B, rfl, hB, hs1, hn1⟩
  simp at hB
  have n1 := hw0.trans hn1
  have hR1 := hR.new hn1
  have hQ1 := hQ.new hn1
  go_wp2_with fail
  refine (l2Bent_sc hs1 (by omega)).mono ?_
  rintro e w2 ⟨x, l, t2, rfl, hx, hl, htt2, hs2, ht2⟩
  have hRB : ¬ w.heap.size = B := by omega
  have hQB : ¬ w.heap.size + 1 = B := by omega
  have hlt1 := hs1.blk.lt
  have n2 : New w w2 := n1.before ht2 (fun i hi e => by omega)
  have hR2 := hR1.turn ht2 hRB
  have hQ2 := hQ1.turn ht2 hQB
  have hz2 := ht2.size
  have hA2 := (New.refl w2).alloc (.cells #[.int .i64 x, .int .i64 l] 25)
  have hP2 : Blk (w2.alloc (.cells #[.int .i64 x, .int .i64 l] 25)) w2.heap.size 25 #[.int .i64 x, .int .i64 l] := Blk.mk _ _ _ _ rfl
  go_wp2_with fail
  refine (l2Bent_sc (hs2.new hA2) (by omega)).mono ?_
  rintro e w3 ⟨y, m, t3, rfl, hy, hm3, htt3, hs3, ht3⟩
  have n3 : New w w3 := (n2.trans hA2).before ht3 (fun i hi e => by omega)
  have hR3 := (hR2.new hA2).turn ht3 hRB
  have hQ3 := (hQ2.new hA2).turn ht3 hQB
  have hP3 := hP2.turn ht3 (by omega)
  have hz3 := ht3.size
  simp at hz3
  have hA3 := (New.refl w3).alloc (.cells #[.int .i64 y, .int .i64 m] 25)
  have hO3 : Blk (w3.alloc (.cells #[.int .i64 y, .int .i64 m] 25)) w3.heap.size 25 #[.int .i64 y, .int .i64 m] := Blk.mk _ _ _ _ rfl
  go_wp2_with fail
  refine (chance_sc (hs3.new hA3) 2 (by omega) (by omega)).mono ?_
  rintro e w4 ⟨r4, rfl, hs4, ht4⟩
  have n4 : New w w4 := (n3.trans hA3).before ht4 (fun i hi e => by omega)
  have hR4 := (hR3.new hA3).turn ht4 hRB
  have hQ4 := (hQ3.new hA3).turn ht4 hQB
  have hP4 := (hP3.new hA3).turn ht4 (by omega)
  have hO4 := hO3.turn ht4 (by omega)
  have hz4 := ht4.size
  simp at hz4
  have cR := hR4.cells
  have cQ := hQ4.cells
  have cP := hP4.cells
  have cO := hO4.cells
  have fR := hR4.frees
  have fQ := hQ4.frees
  have fO := hO4.frees
  have hge0 := Nat.le_refl w.heap.size
  have hge1 : w.heap.size ≤ w.heap.size + 1 := by omega
  have hge3 : w.heap.size ≤ w3.heap.size := n3.size
  clear hR hQ hR1 hQ1 hR2 hQ2 hR3 hQ3 hP2 hP3 hO3 ht2 ht3 ht4 hs1 hs2 hs3
  cases r4 with
  | false =>
    go_wp2_with fail
    go_region
    all_goals
      go_wp2
      refine bodyPost_ret (v := .tuple #[.agg #[.int .i64 x, .int .i64 l], .agg #[.int .i64 y, .int .i64 m]]) (by simp [results, Try.results5, go_sem, cR, cQ]) rfl ⟨x, l, _, _, rfl, ?_⟩
      simp (disch := (first | exact hge0 | exact hge1 | exact hge3)) only [New.set_iff, New.drew_iff, n4]
  | true =>
    go_wp2_with fail
    refine (l1In_any l 1 16 _).mono ?_
    rintro e w5 ⟨r5, rfl, hr5, rfl⟩
    cases r5 with
    | false =>
      go_wp2_with fail
      go_region
      all_goals
        go_wp2
        refine bodyPost_ret (v := .tuple #[.agg #[.int .i64 x, .int .i64 l], .agg #[.int .i64 y, .int .i64 m]]) (by simp [results, Try.results5, go_sem, cR, cQ]) rfl ⟨x, l, _, _, rfl, ?_⟩
        simp (disch := (first | exact hge0 | exact hge1 | exact hge3)) only [New.set_iff, New.drew_iff, n4]
    | true =>
      obtain ⟨hl1, hl2⟩ := hr5 rfl
      go_wp2_with fail
      refine (next_sc hs4 l (by omega) (by omega)).mono ?_
      rintro e w6 ⟨r6, rfl, hd6, hs6, ht6⟩
      obtain ⟨p6, q6, -⟩ := hd6
      have q6 := q6 (by omega)
      have n6 : New w w6 := n4.before ht6 (fun i hi e => by omega)
      have cR := (hR4.turn ht6 hRB).cells
      have cQ := (hQ4.turn ht6 hQB).cells
      have hP6 := hP4.turn ht6 (by omega)
      have cP := hP6.cells
      have hO6 := hO4.turn ht6 (by omega)
      have cO := hO6.cells
      have fR := (hR4.turn ht6 hRB).frees
      have fQ := (hQ4.turn ht6 hQB).frees
      have fO := hO6.frees
      have e1 : ¬ w2.heap.size = w3.heap.size := by omega
      have e2 : ¬ w3.heap.size = w2.heap.size := by omega
      have e3 : ¬ w3.heap.size = w.heap.size := by omega
      have e4 : ¬ w3.heap.size = w.heap.size + 1 := by omega
      have e5 : ¬ w.heap.size = w3.heap.size := by omega
      have e6 : ¬ w.heap.size + 1 = w3.heap.size := by omega
      go_wp2_with fail
      go_region_with (go_at_call 19; refine (l2Rest_any r6 _ (by omega) (by omega)).mono ?_; rintro e w7 ⟨rfl, rfl⟩)
      all_goals
        generalize hzz : bits .andNot .i64 x (szp r6 - 1) = z at *
        clear hzz
        go_wp2_with fail
        go_region
        all_goals
          go_wp2
          refine bodyPost_ret (v := .tuple #[.agg #[.int .i64 x, .int .i64 l], .agg #[.int .i64 z, .int .i64 r6]]) (by simp [results, Try.results5, go_sem, cR, cQ]) rfl ⟨x, l, _, _, rfl, ?_⟩
          simp (disch := (first | exact hge0 | exact hge1 | exact hge3)) only [New.set_iff, New.drew_iff, n6]

end Go.Proofs.Ytefbeaoinikbgaa
