/- What is proved here: what the copying, the comparing and the counting of an update answer, for lists of at most 1048576 elements. -/
import Derived.Test.YtljkcijakdhdiaaDoorAtLaw
import Derived.Test.YtljkcijakdhdiaaDoorUpFn
namespace Go.Proofs.YtljkcijakdhdiaaDoor
open Go.RowKit Go.Sort
set_option linter.unusedVariables false

theorem OwP.set_iff {w : World} {g n c : Nat} {ps : List (Int × Int)} {p : Addr} {u : Value} (hp : ¬ p.block = g) : OwP (w.setCell p u) g n c ps ↔ OwP w g n c ps := by
  have hb : (w.setCell p u).heap[g]? = w.heap[g]? := Below.heap_setCell w p u g (fun e => hp e.symm)
  unfold OwP World.ownsRow
  constructor
  · rintro ⟨h1, h2⟩
    refine ⟨h1, ?_⟩
    rcases h2 with h' | ⟨g', cap', cur, h', r⟩
    · exact .inl h'
    · simp only [Value.slice.injEq, Option.some.injEq, Addr.mk.injEq, and_true, true_and] at h'
      obtain ⟨rfl, rfl⟩ := h'
      exact .inr ⟨g, c, cur, rfl, r.1, hb.symm.trans r.2.1, r.2.2⟩
  · rintro ⟨h1, h2⟩
    refine ⟨h1, ?_⟩
    rcases h2 with h' | ⟨g', cap', cur, h', r⟩
    · exact .inl h'
    · simp only [Value.slice.injEq, Option.some.injEq, Addr.mk.injEq, and_true, true_and] at h'
      obtain ⟨rfl, rfl⟩ := h'
      exact .inr ⟨g, c, cur, rfl, r.1, hb.trans r.2.1, r.2.2⟩

theorem Turn.here {a w : World} {B j : Nat} (h : Turn (fun k => k = B) a w) (u : Value) : Turn (fun k => k = B) a (w.setCell ⟨B, j, none⟩ u) := Turn.set (S := fun k => k = B) h rfl u

theorem szUp_ok (ga a ra : Option Addr) (gn gc n c rn rc : Nat) (has : Bool) (o nx md lc : Int) (w : World) (h : gn + n + rn ≤ 1048576) :
    Calls Tryd.prog 10 #[.agg #[.slice ga gn gc, .bool has, .int .i64 o, .slice a n c, .int .i64 nx, .int .i64 md, .int .i64 lc, .slice ra rn rc], .int .i64 1048576] w fun e w' => e = .returned (.int .i64 ((1048576 - gn - n - rn : Nat) : Int)) ∧ New w w' := by
  have hw := (New.refl w).alloc (.cells #[.slice ga gn gc, .bool has, .int .i64 o, .slice a n c, .int .i64 nx, .int .i64 md, .int .i64 lc, .slice ra rn rc] 27)
  have bU := Blk.mk w w.heap.size 27 #[.slice ga gn gc, .bool has, .int .i64 o, .slice a n c, .int .i64 nx, .int .i64 md, .int .i64 lc, .slice ra rn rc] rfl
  have s1 : ((1048576 : Nat) : Int) - (gn : Int) = ((1048576 - gn : Nat) : Int) := by omega
  have s2 : ((1048576 - gn : Nat) : Int) - (n : Int) = ((1048576 - gn - n : Nat) : Int) := by omega
  have s3 : ((1048576 - gn - n : Nat) : Int) - (rn : Int) = ((1048576 - gn - n - rn : Nat) : Int) := by omega
  have l1 : gn ≤ 1048576 := by omega
  have l2 : n ≤ 1048576 - gn := by omega
  have l3 : rn ≤ 1048576 - gn - n := by omega
  have m2 : 1048576 - gn ≤ 1048576 := by omega
  have m3 : 1048576 - gn - n ≤ 1048576 := by omega
  clear h
  generalize 1048576 - gn - n - rn = q3 at *
  generalize 1048576 - gn - n = q2 at *
  generalize 1048576 - gn = q1 at *
  go_enter Tryd.func10, Tryd.ntmps10
  go_wp2_with fail
  refine (szPs_ok ga gn gc 1048576 _ (Nat.le_refl _) l1).mono ?_
  rintro e w1 ⟨rfl, rfl⟩
  rw [s1]
  go_wp2_with fail
  refine (szAt_ok o nx md lc a n c q1 _ m2 l2).mono ?_
  rintro e w2 ⟨rfl, hn2⟩
  rw [s2]
  have cU := (bU.new hn2).cells
  go_wp2_with fail
  refine (szPs_ok ra rn rc q2 _ m3 l3).mono ?_
  rintro e w3 ⟨rfl, rfl⟩
  rw [s3]
  go_wp2
  go_ret
  exact ⟨rfl, hw.trans hn2⟩

theorem szUp_big (ga a ra : Option Addr) (gn gc n c rn rc : Nat) (has : Bool) (o nx md lc : Int) (w : World) (h : 1048576 < gn + n + rn) (h1 : gn ≤ maxLen) (h2 : n ≤ maxLen) (h3 : rn ≤ maxLen) :
    Calls Tryd.prog 10 #[.agg #[.slice ga gn gc, .bool has, .int .i64 o, .slice a n c, .int .i64 nx, .int .i64 md, .int .i64 lc, .slice ra rn rc], .int .i64 1048576] w fun e w' => e = .returned (.int .i64 (-1)) ∧ New w w' := by
  have hw := (New.refl w).alloc (.cells #[.slice ga gn gc, .bool has, .int .i64 o, .slice a n c, .int .i64 nx, .int .i64 md, .int .i64 lc, .slice ra rn rc] 27)
  have bU := Blk.mk w w.heap.size 27 #[.slice ga gn gc, .bool has, .int .i64 o, .slice a n c, .int .i64 nx, .int .i64 md, .int .i64 lc, .slice ra rn rc] rfl
  by_cases g1 : 1048576 < gn
  · go_enter Tryd.func10, Tryd.ntmps10
    go_wp2_with fail
    refine (szPs_big ga gn gc 1048576 _ (Nat.le_refl _) h1 g1).mono ?_
    rintro e w1 ⟨rfl, rfl⟩
    go_wp2
    go_ret
    exact ⟨rfl, hw⟩
  have s1 : ((1048576 : Nat) : Int) - (gn : Int) = ((1048576 - gn : Nat) : Int) := by omega
  have l1 : gn ≤ 1048576 := by omega
  have m2 : 1048576 - gn ≤ 1048576 := by omega
  by_cases g2 : 1048576 - gn < n
  · clear h
    generalize 1048576 - gn = q1 at *
    go_enter Tryd.func10, Tryd.ntmps10
    go_wp2_with fail
    refine (szPs_ok ga gn gc 1048576 _ (Nat.le_refl _) l1).mono ?_
    rintro e w1 ⟨rfl, rfl⟩
    rw [s1]
    go_wp2_with fail
    refine (szAt_big o nx md lc a n c q1 _ m2 h2 g2).mono ?_
    rintro e w2 ⟨rfl, hn2⟩
    go_wp2
    go_ret
    exact ⟨rfl, hw.trans hn2⟩
  have s2 : ((1048576 - gn : Nat) : Int) - (n : Int) = ((1048576 - gn - n : Nat) : Int) := by omega
  have l2 : n ≤ 1048576 - gn := by omega
  have m3 : 1048576 - gn - n ≤ 1048576 := by omega
  have g3 : 1048576 - gn - n < rn := by omega
  clear h g2
  generalize 1048576 - gn - n = q2 at *
  generalize 1048576 - gn = q1 at *
  go_enter Tryd.func10, Tryd.ntmps10
  go_wp2_with fail
  refine (szPs_ok ga gn gc 1048576 _ (Nat.le_refl _) l1).mono ?_
  rintro e w1 ⟨rfl, rfl⟩
  rw [s1]
  go_wp2_with fail
  refine (szAt_ok o nx md lc a n c q1 _ m2 l2).mono ?_
  rintro e w2 ⟨rfl, hn2⟩
  rw [s2]
  have cU := (bU.new hn2).cells
  go_wp2_with fail
  refine (szPs_big ra rn rc q2 _ m3 h3 g3).mono ?_
  rintro e w3 ⟨rfl, rfl⟩
  go_wp2
  go_ret
  exact ⟨rfl, hw.trans hn2⟩

set_option maxHeartbeats 3200000 in
theorem toUp_any (ga a ra : Option Addr) (gn gc n c rn rc : Nat) (has : Bool) (o nx md lc : Int) (gs rs : List (Int × Int)) (xs : List Int) (w : World) (hg : PsAt w ga gs) (hx : NsAt w a xs) (hr : PsAt w ra rs) (hgn : gs.length = gn) (hn : xs.length = n) (hrn : rs.length = rn) (hm1 : gn ≤ 1048576) (hm2 : n ≤ 1048576) (hm3 : rn ≤ 1048576) :
    Calls Tryd.prog 13 #[.agg #[.slice ga gn gc, .bool has, .int .i64 o, .slice a n c, .int .i64 nx, .int .i64 md, .int .i64 lc, .slice ra rn rc]] w fun e w' => ∃ g1 g2 g3, e = .returned (.agg #[.slice (some ⟨g1, 0, none⟩) gn gn, .bool has, .int .i64 o, .slice (some ⟨g2, 0, none⟩) n n, .int .i64 nx, .int .i64 md, .int .i64 lc, .slice (some ⟨g3, 0, none⟩) rn rn]) ∧ w.heap.size ≤ g1 ∧ g1 < g2 ∧ g2 < g3 ∧ OwP w' g1 gn gn gs ∧ OwN w' g2 n n xs ∧ OwP w' g3 rn rn rs ∧ New w w' := by
  have hw0 := (((New.refl w).alloc (.cells #[.slice ga gn gc, .bool has, .int .i64 o, .slice a n c, .int .i64 nx, .int .i64 md, .int .i64 lc, .slice ra rn rc] 27)).alloc (.cells #[.slice none 0 0, .bool false, .int .i64 0, .slice none 0 0, .int .i64 0, .int .i64 0, .int .i64 0, .slice none 0 0] 37)).alloc (.cells #[.slice none 0 0, .bool false, .int .i64 0, .slice none 0 0, .int .i64 0, .int .i64 0, .int .i64 0, .slice none 0 0] 37)
  have b0 : Blk (((w.alloc (.cells #[.slice ga gn gc, .bool has, .int .i64 o, .slice a n c, .int .i64 nx, .int .i64 md, .int .i64 lc, .slice ra rn rc] 27)).alloc (.cells #[.slice none 0 0, .bool false, .int .i64 0, .slice none 0 0, .int .i64 0, .int .i64 0, .int .i64 0, .slice none 0 0] 37)).alloc (.cells #[.slice none 0 0, .bool false, .int .i64 0, .slice none 0 0, .int .i64 0, .int .i64 0, .int .i64 0, .slice none 0 0] 37)) w.heap.size 27 #[.slice ga gn gc, .bool has, .int .i64 o, .slice a n c, .int .i64 nx, .int .i64 md, .int .i64 lc, .slice ra rn rc] := ((Blk.mk _ _ _ _ rfl).alloc _).alloc _
  have b1 : Blk (((w.alloc (.cells #[.slice ga gn gc, .bool has, .int .i64 o, .slice a n c, .int .i64 nx, .int .i64 md, .int .i64 lc, .slice ra rn rc] 27)).alloc (.cells #[.slice none 0 0, .bool false, .int .i64 0, .slice none 0 0, .int .i64 0, .int .i64 0, .int .i64 0, .slice none 0 0] 37)).alloc (.cells #[.slice none 0 0, .bool false, .int .i64 0, .slice none 0 0, .int .i64 0, .int .i64 0, .int .i64 0, .slice none 0 0] 37)) (w.heap.size + 1) 37 #[.slice none 0 0, .bool false, .int .i64 0, .slice none 0 0, .int .i64 0, .int .i64 0, .int .i64 0, .slice none 0 0] := (Blk.mk _ _ _ _ (by simp)).alloc _
  have b2 : Blk (((w.alloc (.cells #[.slice ga gn gc, .bool has, .int .i64 o, .slice a n c, .int .i64 nx, .int .i64 md, .int .i64 lc, .slice ra rn rc] 27)).alloc (.cells #[.slice none 0 0, .bool false, .int .i64 0, .slice none 0 0, .int .i64 0, .int .i64 0, .int .i64 0, .slice none 0 0] 37)).alloc (.cells #[.slice none 0 0, .bool false, .int .i64 0, .slice none 0 0, .int .i64 0, .int .i64 0, .int .i64 0, .slice none 0 0] 37)) (w.heap.size + 1 + 1) 37 #[.slice none 0 0, .bool false, .int .i64 0, .slice none 0 0, .int .i64 0, .int .i64 0, .int .i64 0, .slice none 0 0] := Blk.mk _ _ _ _ (by simp)
  have ge1 : w.heap.size ≤ w.heap.size + 1 := by omega
  have ge2 : w.heap.size ≤ w.heap.size + 1 + 1 := by omega
  have d01 : ¬ w.heap.size + 1 + 1 = w.heap.size := by omega
  have d12 : ¬ w.heap.size + 1 + 1 = w.heap.size + 1 := by omega
  go_enter Tryd.func13, Tryd.ntmps13
  go_wp2_with fail
  refine (toPs_any ga gn gc gs _ (hg.new hw0) hgn hm1).mono ?_
  rintro e w1 ⟨g1, rfl, hg1, ho1, hn1⟩
  have n1 := hw0.trans hn1
  have p0 := b0.new hn1
  have p1 := b1.new hn1
  have p2 := b2.new hn1
  have hg1' : w.heap.size + 3 ≤ g1 := by simpa using hg1
  have lt1 := ho1.lt
  have c0 := p0.cells
  have c2 := p2.cells
  have f2 := p2.frees
  have t1 : Turn (fun k => k = w.heap.size + 1 + 1) w1 ((w1.setCell ⟨w.heap.size + 1 + 1, 0, none⟩ (.slice (some ⟨g1, 0, none⟩) gn gn)).setCell ⟨w.heap.size + 1 + 1, 1, none⟩ (.bool has)) := Turn.here (Turn.here (Turn.refl _ _) _) _
  have n1' := (n1.setCell (p := ⟨w.heap.size + 1 + 1, 0, none⟩) ge2 (.slice (some ⟨g1, 0, none⟩) gn gn)).setCell (p := ⟨w.heap.size + 1 + 1, 1, none⟩) ge2 (.bool has)
  have q2 := ((p2.set 0 (.slice (some ⟨g1, 0, none⟩) gn gn)).set 1 (.bool has))
  have q0 := p0.turn t1 (by omega)
  have q1 := p1.turn t1 (by omega)
  have oo1 := ho1.turn t1 (by omega)
  clear b0 b1 b2 hn1 hg1 p0 p1 p2 ho1 hw0
  have sz1 := t1.size
  go_wp2_with fail
  refine (toAt_any o nx md lc a n c xs _ (hx.new n1') hn hm2).mono ?_
  rintro e w2 ⟨g2, rfl, hg2, ho2, hn2⟩
  have n2 := n1'.trans hn2
  have r0 := q0.new hn2
  have r1 := q1.new hn2
  have r2 : Blk w2 (w.heap.size + 1 + 1) 37 #[.slice (some ⟨g1, 0, none⟩) gn gn, .bool has, .int .i64 0, .slice none 0 0, .int .i64 0, .int .i64 0, .int .i64 0, .slice none 0 0] := q2.new hn2
  have o21 := oo1.new hn2
  clear c0 c2 f2 q0 q1 q2 oo1 t1 n1 n1'
  have c0 := r0.cells
  have c2 := r2.cells
  have f2 := r2.frees
  have lt2 := ho2.lt
  have h12 : g1 < g2 := by omega
  have hs2 := hn2.size
  have t2 : Turn (fun k => k = w.heap.size + 1 + 1) w2 (((((w2.setCell ⟨w.heap.size + 1 + 1, 2, none⟩ (.int .i64 o)).setCell ⟨w.heap.size + 1 + 1, 3, none⟩ (.slice (some ⟨g2, 0, none⟩) n n)).setCell ⟨w.heap.size + 1 + 1, 4, none⟩ (.int .i64 nx)).setCell ⟨w.heap.size + 1 + 1, 5, none⟩ (.int .i64 md)).setCell ⟨w.heap.size + 1 + 1, 6, none⟩ (.int .i64 lc)) := Turn.here (Turn.here (Turn.here (Turn.here (Turn.here (Turn.refl _ _) _) _) _) _) _
  have n2' : New w (((((w2.setCell ⟨w.heap.size + 1 + 1, 2, none⟩ (.int .i64 o)).setCell ⟨w.heap.size + 1 + 1, 3, none⟩ (.slice (some ⟨g2, 0, none⟩) n n)).setCell ⟨w.heap.size + 1 + 1, 4, none⟩ (.int .i64 nx)).setCell ⟨w.heap.size + 1 + 1, 5, none⟩ (.int .i64 md)).setCell ⟨w.heap.size + 1 + 1, 6, none⟩ (.int .i64 lc)) := ((((n2.setCell ge2 _).setCell ge2 _).setCell ge2 _).setCell ge2 _).setCell ge2 _
  have q2 := (((((r2.set 2 (.int .i64 o)).set 3 (.slice (some ⟨g2, 0, none⟩) n n)).set 4 (.int .i64 nx)).set 5 (.int .i64 md)).set 6 (.int .i64 lc))
  have q0 := r0.turn t2 (by omega)
  have q1 := r1.turn t2 (by omega)
  have oo1 := o21.turn t2 (by omega)
  have oo2 := ho2.turn t2 (by omega)
  have sz2 := t2.size
  clear hn2 hg2 r0 r1 r2 o21 ho2
  go_wp2_with fail
  refine (toPs_any ra rn rc rs _ (hr.new n2') hrn hm3).mono ?_
  rintro e w3 ⟨g3, rfl, hg3, ho3, hn3⟩
  have n3 := n2'.trans hn3
  have r1 := q1.new hn3
  have r2 : Blk w3 (w.heap.size + 1 + 1) 37 #[.slice (some ⟨g1, 0, none⟩) gn gn, .bool has, .int .i64 o, .slice (some ⟨g2, 0, none⟩) n n, .int .i64 nx, .int .i64 md, .int .i64 lc, .slice none 0 0] := q2.new hn3
  have o31 := oo1.new hn3
  have o32 := oo2.new hn3
  clear c0 c2 f2 q0 q1 q2 oo1 oo2 t2 n2 n2'
  have c1 := r1.cells
  have f1 := r1.frees
  have c2 := r2.cells
  have f2 := r2.frees
  have lt3 := ho3.lt
  have h23 : g2 < g3 := by omega
  have e11 : ¬ w.heap.size + 1 = g1 := by omega
  have e12 : ¬ w.heap.size + 1 = g2 := by omega
  have e13 : ¬ w.heap.size + 1 = g3 := by omega
  have e21 : ¬ w.heap.size + 1 + 1 = g1 := by omega
  have e22 : ¬ w.heap.size + 1 + 1 = g2 := by omega
  have e23 : ¬ w.heap.size + 1 + 1 = g3 := by omega
  go_wp2
  refine bodyPost_ret (v := .agg #[.slice (some ⟨g1, 0, none⟩) gn gn, .bool has, .int .i64 o, .slice (some ⟨g2, 0, none⟩) n n, .int .i64 nx, .int .i64 md, .int .i64 lc, .slice (some ⟨g3, 0, none⟩) rn rn]) (by simp [results, Tryd.results13, go_sem, c1]) rfl ⟨g1, g2, g3, rfl, by omega, h12, h23, ?_, ?_, ?_, ?_⟩
  · simp (disch := (first | exact e11 | exact e21)) only [OwP.set_iff, o31]
  · simp (disch := (first | exact e12 | exact e22)) only [OwN.set_iff, o32]
  · simp (disch := (first | exact e13 | exact e23)) only [OwP.set_iff, ho3]
  · simp (disch := (first | exact ge1 | exact ge2)) only [New.set_iff, n3]

set_option maxHeartbeats 1600000 in
theorem eqUp_any (ga a ra gb b rb : Option Addr) (gn gc n c rn rc gd d rd : Nat) (has : Bool) (o nx md lc : Int) (gs rs : List (Int × Int)) (xs : List Int) (w : World)
    (hg : PsAt w ga gs) (hx : NsAt w a xs) (hr : PsAt w ra rs) (kg : PsAt w gb gs) (kx : NsAt w b xs) (kr : PsAt w rb rs) (hgn : gs.length = gn) (hn : xs.length = n) (hrn : rs.length = rn) (hm1 : gn ≤ 1048576) (hm2 : n ≤ 1048576) (hm3 : rn ≤ 1048576) :
    Calls Tryd.prog 18 #[.agg #[.slice ga gn gc, .bool has, .int .i64 o, .slice a n c, .int .i64 nx, .int .i64 md, .int .i64 lc, .slice ra rn rc], .agg #[.slice gb gn gd, .bool has, .int .i64 o, .slice b n d, .int .i64 nx, .int .i64 md, .int .i64 lc, .slice rb rn rd]] w fun e w' => e = .returned (.bool true) ∧ New w w' := by
  have hw := ((New.refl w).alloc (.cells #[.slice ga gn gc, .bool has, .int .i64 o, .slice a n c, .int .i64 nx, .int .i64 md, .int .i64 lc, .slice ra rn rc] 37)).alloc (.cells #[.slice gb gn gd, .bool has, .int .i64 o, .slice b n d, .int .i64 nx, .int .i64 md, .int .i64 lc, .slice rb rn rd] 37)
  have bA : Blk ((w.alloc (.cells #[.slice ga gn gc, .bool has, .int .i64 o, .slice a n c, .int .i64 nx, .int .i64 md, .int .i64 lc, .slice ra rn rc] 37)).alloc (.cells #[.slice gb gn gd, .bool has, .int .i64 o, .slice b n d, .int .i64 nx, .int .i64 md, .int .i64 lc, .slice rb rn rd] 37)) w.heap.size 37 #[.slice ga gn gc, .bool has, .int .i64 o, .slice a n c, .int .i64 nx, .int .i64 md, .int .i64 lc, .slice ra rn rc] := (Blk.mk _ _ _ _ rfl).alloc _
  have bB : Blk ((w.alloc (.cells #[.slice ga gn gc, .bool has, .int .i64 o, .slice a n c, .int .i64 nx, .int .i64 md, .int .i64 lc, .slice ra rn rc] 37)).alloc (.cells #[.slice gb gn gd, .bool has, .int .i64 o, .slice b n d, .int .i64 nx, .int .i64 md, .int .i64 lc, .slice rb rn rd] 37)) (w.heap.size + 1) 37 #[.slice gb gn gd, .bool has, .int .i64 o, .slice b n d, .int .i64 nx, .int .i64 md, .int .i64 lc, .slice rb rn rd] := Blk.mk _ _ _ _ (by simp)
  have hb : (has != has) = false := by simp
  go_enter Tryd.func18, Tryd.ntmps18
  go_wp2_with fail
  refine (eqPs_any ga gb gn gc gd gs _ (hg.new hw) (kg.new hw) hgn hm1).mono ?_
  rintro e w1 ⟨rfl, hn1⟩
  have hw1 := hw.trans hn1
  have cA := (bA.new hn1).cells
  have cB := (bB.new hn1).cells
  go_wp2_with fail
  refine (eqAt_any o nx md lc a b n c d xs _ (hx.new hw1) (kx.new hw1) hn hm2).mono ?_
  rintro e w2 ⟨rfl, hn2⟩
  have hw2 := hw1.trans hn2
  clear cA cB
  have cA := ((bA.new hn1).new hn2).cells
  have cB := ((bB.new hn1).new hn2).cells
  go_wp2_with fail
  refine (eqPs_any ra rb rn rc rd rs _ (hr.new hw2) (kr.new hw2) hrn hm3).mono ?_
  rintro e w3 ⟨rfl, hn3⟩
  go_wp2
  go_ret
  exact ⟨rfl, hw2.trans hn3⟩

end Go.Proofs.YtljkcijakdhdiaaDoor
