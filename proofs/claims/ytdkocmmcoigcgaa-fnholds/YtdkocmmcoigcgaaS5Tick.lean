/- What is proved here: what TickSession answers, in the program and in the model, for every configuration and session. No condition. -/
import Derived.Test.YtdkocmmcoigcgaaS5Tk
namespace Go.Proofs.Ytdkocmmcoigcgaa
open Go.RowKit
set_option linter.unusedVariables false
set_option linter.unusedSimpArgs false

/-- Behind what is said nothing was spoken for 0 ticks. -/
def cntR (r : Rs) : Rs := match r.say with
  | none => r
  | some _ => { r with sp := 0 }
/-- What TickSession answers. -/
def ticksR (ca ci ch st pe ho si sp : Int) : Rs :=
  if ask ca ci ch st pe ho si sp = 0 then cntR (if st = 0 then sesR st pe ho si sp else if st = 1 then sentR st pe ho (tk si) (tk sp) else openedR st pe ho (tk si) (tk sp)) else badR (ask ca ci ch st pe ho si sp)

theorem ask_ok {ca ci ch st pe ho si sp : Int} (h : ask ca ci ch st pe ho si sp = 0) : SsP st pe ho si sp := by
  unfold ask at h
  by_cases h0 : cf ca ci ch = 0
  · rw [if_pos h0] at h
    by_cases h1 : SsP st pe ho si sp
    · exact h1
    · unfold sf at h
      rw [if_neg h1] at h
      omega
  · rw [if_neg h0] at h
    exact absurd h h0

theorem cellS5 {w : World} {p : Addr} {u : Value} {B j : Nat} (h : ¬ p.block = B) : (w.setCell p u).cell? ⟨B, j, none⟩ = w.cell? ⟨B, j, none⟩ := World.cell?_of_block (Below.heap_setCell w p u B (fun e => h e.symm))
theorem blkT10 {w : World} {B : Nat} {t : TypeId} {z0 z1 z2 z3 z4 z5 z6 z7 z8 z9 : Value} (c0 c1 c2 c3 c4 c5 c6 c7 c8 c9 : Value) (h : Blk w B t #[z0, z1, z2, z3, z4, z5, z6, z7, z8, z9]) :
    Blk ((((((((((w.setCell ⟨B, 0, none⟩ c0).setCell ⟨B, 1, none⟩ c1).setCell ⟨B, 2, none⟩ c2).setCell ⟨B, 3, none⟩ c3).setCell ⟨B, 4, none⟩ c4).setCell ⟨B, 5, none⟩ c5).setCell ⟨B, 6, none⟩ c6).setCell ⟨B, 7, none⟩ c7).setCell ⟨B, 8, none⟩ c8).setCell ⟨B, 9, none⟩ c9) B t #[c0, c1, c2, c3, c4, c5, c6, c7, c8, c9] := by
  have h9 := (((((((((h.set 0 c0).set 1 c1).set 2 c2).set 3 c3).set 4 c4).set 5 c5).set 6 c6).set 7 c7).set 8 c8).set 9 c9
  simp only [List.setIfInBounds_toArray, List.set_cons_zero, List.set_cons_succ] at h9
  exact h9
theorem blkT1 {w : World} {B : Nat} {t : TypeId} {z0 z1 z2 z3 z4 z5 z6 z7 z8 z9 : Value} (c5 : Value) (h : Blk w B t #[z0, z1, z2, z3, z4, z5, z6, z7, z8, z9]) : Blk (w.setCell ⟨B, 5, none⟩ c5) B t #[z0, z1, z2, z3, z4, c5, z6, z7, z8, z9] := by
  have h9 := h.set 5 c5
  simp only [List.setIfInBounds_toArray, List.set_cons_zero, List.set_cons_succ] at h9
  exact h9

set_option maxHeartbeats 3200000 in
theorem tickBy0 (ca ci ch st pe ho si sp : Int) (r : Rs) (w : World) (hk : ask ca ci ch st pe ho si sp = 0)
    (hc : Hid (∀ W, Calls Try.prog 71 #[.int .i64 st] W fun e w' => (∃ h, e = .returned (.agg #[h, .func (.func 126) #[] #[]])) ∧ New W w'))
    (hF : Hid (∀ W, Calls Try.prog 126 #[.agg #[.int .i64 st, .int .i64 pe, .int .i64 ho, .int .i64 si, .int .i64 sp]] W (Ans W r))) : Calls Try.prog 23 #[.agg #[.int .i64 ca, .int .i64 ci, .int .i64 ch], .agg #[.int .i64 st, .int .i64 pe, .int .i64 ho, .int .i64 si, .int .i64 sp]] w (Ans w (cntR r)) := by
  have N0 : New w (((w.alloc (.cells #[.int .i64 ca, .int .i64 ci, .int .i64 ch] 25)).alloc (.cells #[.int .i64 st, .int .i64 pe, .int .i64 ho, .int .i64 si, .int .i64 sp] 27)).alloc (.cells #[.int .i64 0, .int .i64 0, .int .i64 0, .int .i64 0, .int .i64 0, .int .i64 0, .slice none 0 0, .bool false, .bool false, .bool false] 40)) := (((New.refl w).alloc _).alloc _).alloc _
  have bC0 : Blk (((w.alloc (.cells #[.int .i64 ca, .int .i64 ci, .int .i64 ch] 25)).alloc (.cells #[.int .i64 st, .int .i64 pe, .int .i64 ho, .int .i64 si, .int .i64 sp] 27)).alloc (.cells #[.int .i64 0, .int .i64 0, .int .i64 0, .int .i64 0, .int .i64 0, .int .i64 0, .slice none 0 0, .bool false, .bool false, .bool false] 40)) w.heap.size 25 #[.int .i64 ca, .int .i64 ci, .int .i64 ch] := ((Blk.mk _ _ _ _ rfl).alloc _).alloc _
  have bS0 : Blk (((w.alloc (.cells #[.int .i64 ca, .int .i64 ci, .int .i64 ch] 25)).alloc (.cells #[.int .i64 st, .int .i64 pe, .int .i64 ho, .int .i64 si, .int .i64 sp] 27)).alloc (.cells #[.int .i64 0, .int .i64 0, .int .i64 0, .int .i64 0, .int .i64 0, .int .i64 0, .slice none 0 0, .bool false, .bool false, .bool false] 40)) (w.heap.size + 1) 27 #[.int .i64 st, .int .i64 pe, .int .i64 ho, .int .i64 si, .int .i64 sp] := (Blk.mk _ _ _ _ (by simp)).alloc _
  have bR0 : Blk (((w.alloc (.cells #[.int .i64 ca, .int .i64 ci, .int .i64 ch] 25)).alloc (.cells #[.int .i64 st, .int .i64 pe, .int .i64 ho, .int .i64 si, .int .i64 sp] 27)).alloc (.cells #[.int .i64 0, .int .i64 0, .int .i64 0, .int .i64 0, .int .i64 0, .int .i64 0, .slice none 0 0, .bool false, .bool false, .bool false] 40)) (w.heap.size + 1 + 1) 40 #[.int .i64 0, .int .i64 0, .int .i64 0, .int .i64 0, .int .i64 0, .int .i64 0, .slice none 0 0, .bool false, .bool false, .bool false] := Blk.mk _ _ _ _ (by simp)
  have ge2 : w.heap.size ≤ w.heap.size + 1 + 1 := by omega
  obtain ⟨c, rt, rp, rh, ri, rs, say, up, dn, ud⟩ := r
  cases say with
  | none =>
    go_enter_defers Try.func23, Try.ntmps23
    go_wp2_with fail
    refine (implAsk ca ci ch st pe ho si sp _).mono ?_
    rintro e w1 ⟨rfl, hn1⟩
    have bS1 := bS0.new hn1
    have bR1 := bR0.new hn1
    have N1 := N0.trans hn1
    have cS := bS1.cells
    clear bC0 bS0 bR0 N0 hn1
    rw [hk]
    clear hk
    go_wp2_with fail
    have neS : ¬ w.heap.size + 1 + 1 = w.heap.size + 1 := by omega
    have hfd : ∀ (h v : Value) (X : World), (Instr.field 106 (.agg #[h, v]) 1).run Try.prog X = .ok v X := fun _ _ _ => by kernel_rfl
    go_region_held3 (fun W => (∀ j, W.cell? ⟨w.heap.size + 1, j, none⟩ = #[Value.int .i64 st, .int .i64 pe, .int .i64 ho, .int .i64 si, .int .i64 sp][j]?)) (exact (by intro j; (try simp (disch := exact neS) only [cellS5]); first | exact cS j | exact cS2 j | exact cS3 j))
      (first
        | (go_at_call 71; refine (hc.out _).mono ?_; rintro e w2 ⟨⟨hh, rfl⟩, hn2⟩; have cS2 := (bS1.new (((New.refl _).drew).trans hn2)).cells)
        | (go_at_call 126; refine (hF.out _).mono ?_; rintro e w3 ⟨g, v, rfl, hg, hl, hs, hn3⟩; have hv : v = .slice none 0 0 := hs; subst hv; dsimp only [srC]; have cS3 := (bS1.new ((((New.refl _).drew).trans hn2).trans hn3)).cells; have bR3 := bR1.new ((((New.refl _).drew).trans hn2).trans hn3); have cR := bR3.cells; have fR := bR3.frees; have lR := bR3.lt))
    have N3 := N1.trans ((((New.refl _).drew).trans hn2).trans hn3)
    have kk := hn2.size
    simp at kk
    have l2 : w.heap.size + 1 + 1 < w2.heap.size := by have := bR1.lt; omega
    go_wp2
    have b4 : Blk ((((((((((w3.setCell ⟨w.heap.size + 1 + 1, 0, none⟩ (.int .i64 c)).setCell ⟨w.heap.size + 1 + 1, 1, none⟩ (.int .i64 rt)).setCell ⟨w.heap.size + 1 + 1, 2, none⟩ (.int .i64 rp)).setCell ⟨w.heap.size + 1 + 1, 3, none⟩ (.int .i64 rh)).setCell ⟨w.heap.size + 1 + 1, 4, none⟩ (.int .i64 ri)).setCell ⟨w.heap.size + 1 + 1, 5, none⟩ (.int .i64 rs)).setCell ⟨w.heap.size + 1 + 1, 6, none⟩ (.slice none 0 0)).setCell ⟨w.heap.size + 1 + 1, 7, none⟩ (.bool up)).setCell ⟨w.heap.size + 1 + 1, 8, none⟩ (.bool dn)).setCell ⟨w.heap.size + 1 + 1, 9, none⟩ (.bool ud)) (w.heap.size + 1 + 1) 40 #[.int .i64 c, .int .i64 rt, .int .i64 rp, .int .i64 rh, .int .i64 ri, .int .i64 rs, .slice none 0 0, .bool up, .bool dn, .bool ud] := blkT10 _ _ _ _ _ _ _ _ _ _ bR3
    have N4 : New w ((((((((((w3.setCell ⟨w.heap.size + 1 + 1, 0, none⟩ (.int .i64 c)).setCell ⟨w.heap.size + 1 + 1, 1, none⟩ (.int .i64 rt)).setCell ⟨w.heap.size + 1 + 1, 2, none⟩ (.int .i64 rp)).setCell ⟨w.heap.size + 1 + 1, 3, none⟩ (.int .i64 rh)).setCell ⟨w.heap.size + 1 + 1, 4, none⟩ (.int .i64 ri)).setCell ⟨w.heap.size + 1 + 1, 5, none⟩ (.int .i64 rs)).setCell ⟨w.heap.size + 1 + 1, 6, none⟩ (.slice none 0 0)).setCell ⟨w.heap.size + 1 + 1, 7, none⟩ (.bool up)).setCell ⟨w.heap.size + 1 + 1, 8, none⟩ (.bool dn)).setCell ⟨w.heap.size + 1 + 1, 9, none⟩ (.bool ud)) := by simp (disch := exact ge2) only [New.set5]; exact N3
    have lt4 : w.heap.size < ((((((((((w3.setCell ⟨w.heap.size + 1 + 1, 0, none⟩ (.int .i64 c)).setCell ⟨w.heap.size + 1 + 1, 1, none⟩ (.int .i64 rt)).setCell ⟨w.heap.size + 1 + 1, 2, none⟩ (.int .i64 rp)).setCell ⟨w.heap.size + 1 + 1, 3, none⟩ (.int .i64 rh)).setCell ⟨w.heap.size + 1 + 1, 4, none⟩ (.int .i64 ri)).setCell ⟨w.heap.size + 1 + 1, 5, none⟩ (.int .i64 rs)).setCell ⟨w.heap.size + 1 + 1, 6, none⟩ (.slice none 0 0)).setCell ⟨w.heap.size + 1 + 1, 7, none⟩ (.bool up)).setCell ⟨w.heap.size + 1 + 1, 8, none⟩ (.bool dn)).setCell ⟨w.heap.size + 1 + 1, 9, none⟩ (.bool ud)).heap.size := by simp [World.setCell]; omega
    clear cR fR lR bR3 N3 cS3
    generalize ((((((((((w3.setCell ⟨w.heap.size + 1 + 1, 0, none⟩ (.int .i64 c)).setCell ⟨w.heap.size + 1 + 1, 1, none⟩ (.int .i64 rt)).setCell ⟨w.heap.size + 1 + 1, 2, none⟩ (.int .i64 rp)).setCell ⟨w.heap.size + 1 + 1, 3, none⟩ (.int .i64 rh)).setCell ⟨w.heap.size + 1 + 1, 4, none⟩ (.int .i64 ri)).setCell ⟨w.heap.size + 1 + 1, 5, none⟩ (.int .i64 rs)).setCell ⟨w.heap.size + 1 + 1, 6, none⟩ (.slice none 0 0)).setCell ⟨w.heap.size + 1 + 1, 7, none⟩ (.bool up)).setCell ⟨w.heap.size + 1 + 1, 8, none⟩ (.bool dn)).setCell ⟨w.heap.size + 1 + 1, 9, none⟩ (.bool ud)) = w4 at *
    refine leaves_cons (f := 70) (args := #[.pointer (some ⟨w.heap.size + 1 + 1, 0, none⟩)]) (by simp) (by simp [go_sem]) ?_
    refine (countN _ _ _ _ _ _ _ _ _ _ _ _ b4).mono ?_
    rintro e u' w5 ⟨rfl, rfl, rfl⟩
    have c5 := b4.cells
    simp [Leaves, settle, results, Try.results23, go_sem, c5]
    exact ⟨w.heap.size, _, rfl, Nat.le_refl _, lt4, rfl, N4⟩
  | some m =>
    obtain ⟨m0, m1, m2, m3, m4, m5⟩ := m
    go_enter_defers Try.func23, Try.ntmps23
    go_wp2_with fail
    refine (implAsk ca ci ch st pe ho si sp _).mono ?_
    rintro e w1 ⟨rfl, hn1⟩
    have bS1 := bS0.new hn1
    have bR1 := bR0.new hn1
    have N1 := N0.trans hn1
    have cS := bS1.cells
    clear bC0 bS0 bR0 N0 hn1
    rw [hk]
    clear hk
    go_wp2_with fail
    have neS : ¬ w.heap.size + 1 + 1 = w.heap.size + 1 := by omega
    have hfd : ∀ (h v : Value) (X : World), (Instr.field 106 (.agg #[h, v]) 1).run Try.prog X = .ok v X := fun _ _ _ => by kernel_rfl
    go_region_held3 (fun W => (∀ j, W.cell? ⟨w.heap.size + 1, j, none⟩ = #[Value.int .i64 st, .int .i64 pe, .int .i64 ho, .int .i64 si, .int .i64 sp][j]?)) (exact (by intro j; (try simp (disch := exact neS) only [cellS5]); first | exact cS j | exact cS2 j | exact cS3 j))
      (first
        | (go_at_call 71; refine (hc.out _).mono ?_; rintro e w2 ⟨⟨hh, rfl⟩, hn2⟩; have cS2 := (bS1.new (((New.refl _).drew).trans hn2)).cells)
        | (go_at_call 126; refine (hF.out _).mono ?_; rintro e w3 ⟨g, v, rfl, hg, hl, hs, hn3⟩; obtain ⟨hv, hb⟩ := hs; subst hv; dsimp only [srC]; have cS3 := (bS1.new ((((New.refl _).drew).trans hn2).trans hn3)).cells; have bR3 := bR1.new ((((New.refl _).drew).trans hn2).trans hn3); have cR := bR3.cells; have fR := bR3.frees; have lR := bR3.lt))
    have N3 := N1.trans ((((New.refl _).drew).trans hn2).trans hn3)
    have kk := hn2.size
    simp at kk
    have l2 : w.heap.size + 1 + 1 < w2.heap.size := by have := bR1.lt; omega
    go_wp2
    have b4 : Blk ((((((((((w3.setCell ⟨w.heap.size + 1 + 1, 0, none⟩ (.int .i64 c)).setCell ⟨w.heap.size + 1 + 1, 1, none⟩ (.int .i64 rt)).setCell ⟨w.heap.size + 1 + 1, 2, none⟩ (.int .i64 rp)).setCell ⟨w.heap.size + 1 + 1, 3, none⟩ (.int .i64 rh)).setCell ⟨w.heap.size + 1 + 1, 4, none⟩ (.int .i64 ri)).setCell ⟨w.heap.size + 1 + 1, 5, none⟩ (.int .i64 rs)).setCell ⟨w.heap.size + 1 + 1, 6, none⟩ (.slice (some ⟨g, 0, none⟩) 1 1)).setCell ⟨w.heap.size + 1 + 1, 7, none⟩ (.bool up)).setCell ⟨w.heap.size + 1 + 1, 8, none⟩ (.bool dn)).setCell ⟨w.heap.size + 1 + 1, 9, none⟩ (.bool ud)) (w.heap.size + 1 + 1) 40 #[.int .i64 c, .int .i64 rt, .int .i64 rp, .int .i64 rh, .int .i64 ri, .int .i64 rs, .slice (some ⟨g, 0, none⟩) 1 1, .bool up, .bool dn, .bool ud] := blkT10 _ _ _ _ _ _ _ _ _ _ bR3
    have N4 : New w ((((((((((w3.setCell ⟨w.heap.size + 1 + 1, 0, none⟩ (.int .i64 c)).setCell ⟨w.heap.size + 1 + 1, 1, none⟩ (.int .i64 rt)).setCell ⟨w.heap.size + 1 + 1, 2, none⟩ (.int .i64 rp)).setCell ⟨w.heap.size + 1 + 1, 3, none⟩ (.int .i64 rh)).setCell ⟨w.heap.size + 1 + 1, 4, none⟩ (.int .i64 ri)).setCell ⟨w.heap.size + 1 + 1, 5, none⟩ (.int .i64 rs)).setCell ⟨w.heap.size + 1 + 1, 6, none⟩ (.slice (some ⟨g, 0, none⟩) 1 1)).setCell ⟨w.heap.size + 1 + 1, 7, none⟩ (.bool up)).setCell ⟨w.heap.size + 1 + 1, 8, none⟩ (.bool dn)).setCell ⟨w.heap.size + 1 + 1, 9, none⟩ (.bool ud)) := by simp (disch := exact ge2) only [New.set5]; exact N3
    have ne : ¬ w.heap.size + 1 + 1 = g := by omega
    have hg0 : w.heap.size ≤ g := by omega
    have hb4 : Blk ((((((((((w3.setCell ⟨w.heap.size + 1 + 1, 0, none⟩ (.int .i64 c)).setCell ⟨w.heap.size + 1 + 1, 1, none⟩ (.int .i64 rt)).setCell ⟨w.heap.size + 1 + 1, 2, none⟩ (.int .i64 rp)).setCell ⟨w.heap.size + 1 + 1, 3, none⟩ (.int .i64 rh)).setCell ⟨w.heap.size + 1 + 1, 4, none⟩ (.int .i64 ri)).setCell ⟨w.heap.size + 1 + 1, 5, none⟩ (.int .i64 rs)).setCell ⟨w.heap.size + 1 + 1, 6, none⟩ (.slice (some ⟨g, 0, none⟩) 1 1)).setCell ⟨w.heap.size + 1 + 1, 7, none⟩ (.bool up)).setCell ⟨w.heap.size + 1 + 1, 8, none⟩ (.bool dn)).setCell ⟨w.heap.size + 1 + 1, 9, none⟩ (.bool ud)) g 35 (msC m0 m1 m2 m3 m4 m5) := by simp (disch := exact ne) only [Blk.set5]; exact hb
    have hl4 : g < ((((((((((w3.setCell ⟨w.heap.size + 1 + 1, 0, none⟩ (.int .i64 c)).setCell ⟨w.heap.size + 1 + 1, 1, none⟩ (.int .i64 rt)).setCell ⟨w.heap.size + 1 + 1, 2, none⟩ (.int .i64 rp)).setCell ⟨w.heap.size + 1 + 1, 3, none⟩ (.int .i64 rh)).setCell ⟨w.heap.size + 1 + 1, 4, none⟩ (.int .i64 ri)).setCell ⟨w.heap.size + 1 + 1, 5, none⟩ (.int .i64 rs)).setCell ⟨w.heap.size + 1 + 1, 6, none⟩ (.slice (some ⟨g, 0, none⟩) 1 1)).setCell ⟨w.heap.size + 1 + 1, 7, none⟩ (.bool up)).setCell ⟨w.heap.size + 1 + 1, 8, none⟩ (.bool dn)).setCell ⟨w.heap.size + 1 + 1, 9, none⟩ (.bool ud)).heap.size := by simp [World.setCell]; exact hl
    have lt4 : w.heap.size < ((((((((((w3.setCell ⟨w.heap.size + 1 + 1, 0, none⟩ (.int .i64 c)).setCell ⟨w.heap.size + 1 + 1, 1, none⟩ (.int .i64 rt)).setCell ⟨w.heap.size + 1 + 1, 2, none⟩ (.int .i64 rp)).setCell ⟨w.heap.size + 1 + 1, 3, none⟩ (.int .i64 rh)).setCell ⟨w.heap.size + 1 + 1, 4, none⟩ (.int .i64 ri)).setCell ⟨w.heap.size + 1 + 1, 5, none⟩ (.int .i64 rs)).setCell ⟨w.heap.size + 1 + 1, 6, none⟩ (.slice (some ⟨g, 0, none⟩) 1 1)).setCell ⟨w.heap.size + 1 + 1, 7, none⟩ (.bool up)).setCell ⟨w.heap.size + 1 + 1, 8, none⟩ (.bool dn)).setCell ⟨w.heap.size + 1 + 1, 9, none⟩ (.bool ud)).heap.size := by simp [World.setCell]; omega
    clear cR fR lR bR3 N3 cS3
    generalize ((((((((((w3.setCell ⟨w.heap.size + 1 + 1, 0, none⟩ (.int .i64 c)).setCell ⟨w.heap.size + 1 + 1, 1, none⟩ (.int .i64 rt)).setCell ⟨w.heap.size + 1 + 1, 2, none⟩ (.int .i64 rp)).setCell ⟨w.heap.size + 1 + 1, 3, none⟩ (.int .i64 rh)).setCell ⟨w.heap.size + 1 + 1, 4, none⟩ (.int .i64 ri)).setCell ⟨w.heap.size + 1 + 1, 5, none⟩ (.int .i64 rs)).setCell ⟨w.heap.size + 1 + 1, 6, none⟩ (.slice (some ⟨g, 0, none⟩) 1 1)).setCell ⟨w.heap.size + 1 + 1, 7, none⟩ (.bool up)).setCell ⟨w.heap.size + 1 + 1, 8, none⟩ (.bool dn)).setCell ⟨w.heap.size + 1 + 1, 9, none⟩ (.bool ud)) = w4 at *
    refine leaves_cons (f := 70) (args := #[.pointer (some ⟨w.heap.size + 1 + 1, 0, none⟩)]) (by simp) (by simp [go_sem]) ?_
    refine (countS _ _ _ _ _ _ _ _ _ _ _ _ _ b4).mono ?_
    rintro e u' w5 ⟨rfl, rfl, rfl⟩
    have b5 := blkT1 (.int .i64 0) b4
    have c5 := b5.cells
    simp [Leaves, settle, results, Try.results23, go_sem, c5]
    refine ⟨g, _, rfl, hg0, by simp [World.setCell]; exact hl4, ⟨rfl, ?_⟩, ?_⟩
    · simp (disch := exact ne) only [Blk.set5]; exact hb4
    simp (disch := exact ge2) only [New.set5, N4]

set_option maxHeartbeats 3200000 in
theorem tickBy1 (ca ci ch st pe ho si sp : Int) (r : Rs) (w : World) (hk : ask ca ci ch st pe ho si sp = 0)
    (hc : Hid (∀ W, Calls Try.prog 71 #[.int .i64 st] W fun e w' => (∃ h, e = .returned (.agg #[h, .func (.func 128) #[] #[]])) ∧ New W w'))
    (hF : Hid (∀ W, Calls Try.prog 128 #[.agg #[.int .i64 st, .int .i64 pe, .int .i64 ho, .int .i64 si, .int .i64 sp]] W (Ans W r))) : Calls Try.prog 23 #[.agg #[.int .i64 ca, .int .i64 ci, .int .i64 ch], .agg #[.int .i64 st, .int .i64 pe, .int .i64 ho, .int .i64 si, .int .i64 sp]] w (Ans w (cntR r)) := by
  have N0 : New w (((w.alloc (.cells #[.int .i64 ca, .int .i64 ci, .int .i64 ch] 25)).alloc (.cells #[.int .i64 st, .int .i64 pe, .int .i64 ho, .int .i64 si, .int .i64 sp] 27)).alloc (.cells #[.int .i64 0, .int .i64 0, .int .i64 0, .int .i64 0, .int .i64 0, .int .i64 0, .slice none 0 0, .bool false, .bool false, .bool false] 40)) := (((New.refl w).alloc _).alloc _).alloc _
  have bC0 : Blk (((w.alloc (.cells #[.int .i64 ca, .int .i64 ci, .int .i64 ch] 25)).alloc (.cells #[.int .i64 st, .int .i64 pe, .int .i64 ho, .int .i64 si, .int .i64 sp] 27)).alloc (.cells #[.int .i64 0, .int .i64 0, .int .i64 0, .int .i64 0, .int .i64 0, .int .i64 0, .slice none 0 0, .bool false, .bool false, .bool false] 40)) w.heap.size 25 #[.int .i64 ca, .int .i64 ci, .int .i64 ch] := ((Blk.mk _ _ _ _ rfl).alloc _).alloc _
  have bS0 : Blk (((w.alloc (.cells #[.int .i64 ca, .int .i64 ci, .int .i64 ch] 25)).alloc (.cells #[.int .i64 st, .int .i64 pe, .int .i64 ho, .int .i64 si, .int .i64 sp] 27)).alloc (.cells #[.int .i64 0, .int .i64 0, .int .i64 0, .int .i64 0, .int .i64 0, .int .i64 0, .slice none 0 0, .bool false, .bool false, .bool false] 40)) (w.heap.size + 1) 27 #[.int .i64 st, .int .i64 pe, .int .i64 ho, .int .i64 si, .int .i64 sp] := (Blk.mk _ _ _ _ (by simp)).alloc _
  have bR0 : Blk (((w.alloc (.cells #[.int .i64 ca, .int .i64 ci, .int .i64 ch] 25)).alloc (.cells #[.int .i64 st, .int .i64 pe, .int .i64 ho, .int .i64 si, .int .i64 sp] 27)).alloc (.cells #[.int .i64 0, .int .i64 0, .int .i64 0, .int .i64 0, .int .i64 0, .int .i64 0, .slice none 0 0, .bool false, .bool false, .bool false] 40)) (w.heap.size + 1 + 1) 40 #[.int .i64 0, .int .i64 0, .int .i64 0, .int .i64 0, .int .i64 0, .int .i64 0, .slice none 0 0, .bool false, .bool false, .bool false] := Blk.mk _ _ _ _ (by simp)
  have ge2 : w.heap.size ≤ w.heap.size + 1 + 1 := by omega
  obtain ⟨c, rt, rp, rh, ri, rs, say, up, dn, ud⟩ := r
  cases say with
  | none =>
    go_enter_defers Try.func23, Try.ntmps23
    go_wp2_with fail
    refine (implAsk ca ci ch st pe ho si sp _).mono ?_
    rintro e w1 ⟨rfl, hn1⟩
    have bS1 := bS0.new hn1
    have bR1 := bR0.new hn1
    have N1 := N0.trans hn1
    have cS := bS1.cells
    clear bC0 bS0 bR0 N0 hn1
    rw [hk]
    clear hk
    go_wp2_with fail
    have neS : ¬ w.heap.size + 1 + 1 = w.heap.size + 1 := by omega
    have hfd : ∀ (h v : Value) (X : World), (Instr.field 106 (.agg #[h, v]) 1).run Try.prog X = .ok v X := fun _ _ _ => by kernel_rfl
    go_region_held3 (fun W => (∀ j, W.cell? ⟨w.heap.size + 1, j, none⟩ = #[Value.int .i64 st, .int .i64 pe, .int .i64 ho, .int .i64 si, .int .i64 sp][j]?)) (exact (by intro j; (try simp (disch := exact neS) only [cellS5]); first | exact cS j | exact cS2 j | exact cS3 j))
      (first
        | (go_at_call 71; refine (hc.out _).mono ?_; rintro e w2 ⟨⟨hh, rfl⟩, hn2⟩; have cS2 := (bS1.new (((New.refl _).drew).trans hn2)).cells)
        | (go_at_call 128; refine (hF.out _).mono ?_; rintro e w3 ⟨g, v, rfl, hg, hl, hs, hn3⟩; have hv : v = .slice none 0 0 := hs; subst hv; dsimp only [srC]; have cS3 := (bS1.new ((((New.refl _).drew).trans hn2).trans hn3)).cells; have bR3 := bR1.new ((((New.refl _).drew).trans hn2).trans hn3); have cR := bR3.cells; have fR := bR3.frees; have lR := bR3.lt))
    have N3 := N1.trans ((((New.refl _).drew).trans hn2).trans hn3)
    have kk := hn2.size
    simp at kk
    have l2 : w.heap.size + 1 + 1 < w2.heap.size := by have := bR1.lt; omega
    go_wp2
    have b4 : Blk ((((((((((w3.setCell ⟨w.heap.size + 1 + 1, 0, none⟩ (.int .i64 c)).setCell ⟨w.heap.size + 1 + 1, 1, none⟩ (.int .i64 rt)).setCell ⟨w.heap.size + 1 + 1, 2, none⟩ (.int .i64 rp)).setCell ⟨w.heap.size + 1 + 1, 3, none⟩ (.int .i64 rh)).setCell ⟨w.heap.size + 1 + 1, 4, none⟩ (.int .i64 ri)).setCell ⟨w.heap.size + 1 + 1, 5, none⟩ (.int .i64 rs)).setCell ⟨w.heap.size + 1 + 1, 6, none⟩ (.slice none 0 0)).setCell ⟨w.heap.size + 1 + 1, 7, none⟩ (.bool up)).setCell ⟨w.heap.size + 1 + 1, 8, none⟩ (.bool dn)).setCell ⟨w.heap.size + 1 + 1, 9, none⟩ (.bool ud)) (w.heap.size + 1 + 1) 40 #[.int .i64 c, .int .i64 rt, .int .i64 rp, .int .i64 rh, .int .i64 ri, .int .i64 rs, .slice none 0 0, .bool up, .bool dn, .bool ud] := blkT10 _ _ _ _ _ _ _ _ _ _ bR3
    have N4 : New w ((((((((((w3.setCell ⟨w.heap.size + 1 + 1, 0, none⟩ (.int .i64 c)).setCell ⟨w.heap.size + 1 + 1, 1, none⟩ (.int .i64 rt)).setCell ⟨w.heap.size + 1 + 1, 2, none⟩ (.int .i64 rp)).setCell ⟨w.heap.size + 1 + 1, 3, none⟩ (.int .i64 rh)).setCell ⟨w.heap.size + 1 + 1, 4, none⟩ (.int .i64 ri)).setCell ⟨w.heap.size + 1 + 1, 5, none⟩ (.int .i64 rs)).setCell ⟨w.heap.size + 1 + 1, 6, none⟩ (.slice none 0 0)).setCell ⟨w.heap.size + 1 + 1, 7, none⟩ (.bool up)).setCell ⟨w.heap.size + 1 + 1, 8, none⟩ (.bool dn)).setCell ⟨w.heap.size + 1 + 1, 9, none⟩ (.bool ud)) := by simp (disch := exact ge2) only [New.set5]; exact N3
    have lt4 : w.heap.size < ((((((((((w3.setCell ⟨w.heap.size + 1 + 1, 0, none⟩ (.int .i64 c)).setCell ⟨w.heap.size + 1 + 1, 1, none⟩ (.int .i64 rt)).setCell ⟨w.heap.size + 1 + 1, 2, none⟩ (.int .i64 rp)).setCell ⟨w.heap.size + 1 + 1, 3, none⟩ (.int .i64 rh)).setCell ⟨w.heap.size + 1 + 1, 4, none⟩ (.int .i64 ri)).setCell ⟨w.heap.size + 1 + 1, 5, none⟩ (.int .i64 rs)).setCell ⟨w.heap.size + 1 + 1, 6, none⟩ (.slice none 0 0)).setCell ⟨w.heap.size + 1 + 1, 7, none⟩ (.bool up)).setCell ⟨w.heap.size + 1 + 1, 8, none⟩ (.bool dn)).setCell ⟨w.heap.size + 1 + 1, 9, none⟩ (.bool ud)).heap.size := by simp [World.setCell]; omega
    clear cR fR lR bR3 N3 cS3
    generalize ((((((((((w3.setCell ⟨w.heap.size + 1 + 1, 0, none⟩ (.int .i64 c)).setCell ⟨w.heap.size + 1 + 1, 1, none⟩ (.int .i64 rt)).setCell ⟨w.heap.size + 1 + 1, 2, none⟩ (.int .i64 rp)).setCell ⟨w.heap.size + 1 + 1, 3, none⟩ (.int .i64 rh)).setCell ⟨w.heap.size + 1 + 1, 4, none⟩ (.int .i64 ri)).setCell ⟨w.heap.size + 1 + 1, 5, none⟩ (.int .i64 rs)).setCell ⟨w.heap.size + 1 + 1, 6, none⟩ (.slice none 0 0)).setCell ⟨w.heap.size + 1 + 1, 7, none⟩ (.bool up)).setCell ⟨w.heap.size + 1 + 1, 8, none⟩ (.bool dn)).setCell ⟨w.heap.size + 1 + 1, 9, none⟩ (.bool ud)) = w4 at *
    refine leaves_cons (f := 70) (args := #[.pointer (some ⟨w.heap.size + 1 + 1, 0, none⟩)]) (by simp) (by simp [go_sem]) ?_
    refine (countN _ _ _ _ _ _ _ _ _ _ _ _ b4).mono ?_
    rintro e u' w5 ⟨rfl, rfl, rfl⟩
    have c5 := b4.cells
    simp [Leaves, settle, results, Try.results23, go_sem, c5]
    exact ⟨w.heap.size, _, rfl, Nat.le_refl _, lt4, rfl, N4⟩
  | some m =>
    obtain ⟨m0, m1, m2, m3, m4, m5⟩ := m
    go_enter_defers Try.func23, Try.ntmps23
    go_wp2_with fail
    refine (implAsk ca ci ch st pe ho si sp _).mono ?_
    rintro e w1 ⟨rfl, hn1⟩
    have bS1 := bS0.new hn1
    have bR1 := bR0.new hn1
    have N1 := N0.trans hn1
    have cS := bS1.cells
    clear bC0 bS0 bR0 N0 hn1
    rw [hk]
    clear hk
    go_wp2_with fail
    have neS : ¬ w.heap.size + 1 + 1 = w.heap.size + 1 := by omega
    have hfd : ∀ (h v : Value) (X : World), (Instr.field 106 (.agg #[h, v]) 1).run Try.prog X = .ok v X := fun _ _ _ => by kernel_rfl
    go_region_held3 (fun W => (∀ j, W.cell? ⟨w.heap.size + 1, j, none⟩ = #[Value.int .i64 st, .int .i64 pe, .int .i64 ho, .int .i64 si, .int .i64 sp][j]?)) (exact (by intro j; (try simp (disch := exact neS) only [cellS5]); first | exact cS j | exact cS2 j | exact cS3 j))
      (first
        | (go_at_call 71; refine (hc.out _).mono ?_; rintro e w2 ⟨⟨hh, rfl⟩, hn2⟩; have cS2 := (bS1.new (((New.refl _).drew).trans hn2)).cells)
        | (go_at_call 128; refine (hF.out _).mono ?_; rintro e w3 ⟨g, v, rfl, hg, hl, hs, hn3⟩; obtain ⟨hv, hb⟩ := hs; subst hv; dsimp only [srC]; have cS3 := (bS1.new ((((New.refl _).drew).trans hn2).trans hn3)).cells; have bR3 := bR1.new ((((New.refl _).drew).trans hn2).trans hn3); have cR := bR3.cells; have fR := bR3.frees; have lR := bR3.lt))
    have N3 := N1.trans ((((New.refl _).drew).trans hn2).trans hn3)
    have kk := hn2.size
    simp at kk
    have l2 : w.heap.size + 1 + 1 < w2.heap.size := by have := bR1.lt; omega
    go_wp2
    have b4 : Blk ((((((((((w3.setCell ⟨w.heap.size + 1 + 1, 0, none⟩ (.int .i64 c)).setCell ⟨w.heap.size + 1 + 1, 1, none⟩ (.int .i64 rt)).setCell ⟨w.heap.size + 1 + 1, 2, none⟩ (.int .i64 rp)).setCell ⟨w.heap.size + 1 + 1, 3, none⟩ (.int .i64 rh)).setCell ⟨w.heap.size + 1 + 1, 4, none⟩ (.int .i64 ri)).setCell ⟨w.heap.size + 1 + 1, 5, none⟩ (.int .i64 rs)).setCell ⟨w.heap.size + 1 + 1, 6, none⟩ (.slice (some ⟨g, 0, none⟩) 1 1)).setCell ⟨w.heap.size + 1 + 1, 7, none⟩ (.bool up)).setCell ⟨w.heap.size + 1 + 1, 8, none⟩ (.bool dn)).setCell ⟨w.heap.size + 1 + 1, 9, none⟩ (.bool ud)) (w.heap.size + 1 + 1) 40 #[.int .i64 c, .int .i64 rt, .int .i64 rp, .int .i64 rh, .int .i64 ri, .int .i64 rs, .slice (some ⟨g, 0, none⟩) 1 1, .bool up, .bool dn, .bool ud] := blkT10 _ _ _ _ _ _ _ _ _ _ bR3
    have N4 : New w ((((((((((w3.setCell ⟨w.heap.size + 1 + 1, 0, none⟩ (.int .i64 c)).setCell ⟨w.heap.size + 1 + 1, 1, none⟩ (.int .i64 rt)).setCell ⟨w.heap.size + 1 + 1, 2, none⟩ (.int .i64 rp)).setCell ⟨w.heap.size + 1 + 1, 3, none⟩ (.int .i64 rh)).setCell ⟨w.heap.size + 1 + 1, 4, none⟩ (.int .i64 ri)).setCell ⟨w.heap.size + 1 + 1, 5, none⟩ (.int .i64 rs)).setCell ⟨w.heap.size + 1 + 1, 6, none⟩ (.slice (some ⟨g, 0, none⟩) 1 1)).setCell ⟨w.heap.size + 1 + 1, 7, none⟩ (.bool up)).setCell ⟨w.heap.size + 1 + 1, 8, none⟩ (.bool dn)).setCell ⟨w.heap.size + 1 + 1, 9, none⟩ (.bool ud)) := by simp (disch := exact ge2) only [New.set5]; exact N3
    have ne : ¬ w.heap.size + 1 + 1 = g := by omega
    have hg0 : w.heap.size ≤ g := by omega
    have hb4 : Blk ((((((((((w3.setCell ⟨w.heap.size + 1 + 1, 0, none⟩ (.int .i64 c)).setCell ⟨w.heap.size + 1 + 1, 1, none⟩ (.int .i64 rt)).setCell ⟨w.heap.size + 1 + 1, 2, none⟩ (.int .i64 rp)).setCell ⟨w.heap.size + 1 + 1, 3, none⟩ (.int .i64 rh)).setCell ⟨w.heap.size + 1 + 1, 4, none⟩ (.int .i64 ri)).setCell ⟨w.heap.size + 1 + 1, 5, none⟩ (.int .i64 rs)).setCell ⟨w.heap.size + 1 + 1, 6, none⟩ (.slice (some ⟨g, 0, none⟩) 1 1)).setCell ⟨w.heap.size + 1 + 1, 7, none⟩ (.bool up)).setCell ⟨w.heap.size + 1 + 1, 8, none⟩ (.bool dn)).setCell ⟨w.heap.size + 1 + 1, 9, none⟩ (.bool ud)) g 35 (msC m0 m1 m2 m3 m4 m5) := by simp (disch := exact ne) only [Blk.set5]; exact hb
    have hl4 : g < ((((((((((w3.setCell ⟨w.heap.size + 1 + 1, 0, none⟩ (.int .i64 c)).setCell ⟨w.heap.size + 1 + 1, 1, none⟩ (.int .i64 rt)).setCell ⟨w.heap.size + 1 + 1, 2, none⟩ (.int .i64 rp)).setCell ⟨w.heap.size + 1 + 1, 3, none⟩ (.int .i64 rh)).setCell ⟨w.heap.size + 1 + 1, 4, none⟩ (.int .i64 ri)).setCell ⟨w.heap.size + 1 + 1, 5, none⟩ (.int .i64 rs)).setCell ⟨w.heap.size + 1 + 1, 6, none⟩ (.slice (some ⟨g, 0, none⟩) 1 1)).setCell ⟨w.heap.size + 1 + 1, 7, none⟩ (.bool up)).setCell ⟨w.heap.size + 1 + 1, 8, none⟩ (.bool dn)).setCell ⟨w.heap.size + 1 + 1, 9, none⟩ (.bool ud)).heap.size := by simp [World.setCell]; exact hl
    have lt4 : w.heap.size < ((((((((((w3.setCell ⟨w.heap.size + 1 + 1, 0, none⟩ (.int .i64 c)).setCell ⟨w.heap.size + 1 + 1, 1, none⟩ (.int .i64 rt)).setCell ⟨w.heap.size + 1 + 1, 2, none⟩ (.int .i64 rp)).setCell ⟨w.heap.size + 1 + 1, 3, none⟩ (.int .i64 rh)).setCell ⟨w.heap.size + 1 + 1, 4, none⟩ (.int .i64 ri)).setCell ⟨w.heap.size + 1 + 1, 5, none⟩ (.int .i64 rs)).setCell ⟨w.heap.size + 1 + 1, 6, none⟩ (.slice (some ⟨g, 0, none⟩) 1 1)).setCell ⟨w.heap.size + 1 + 1, 7, none⟩ (.bool up)).setCell ⟨w.heap.size + 1 + 1, 8, none⟩ (.bool dn)).setCell ⟨w.heap.size + 1 + 1, 9, none⟩ (.bool ud)).heap.size := by simp [World.setCell]; omega
    clear cR fR lR bR3 N3 cS3
    generalize ((((((((((w3.setCell ⟨w.heap.size + 1 + 1, 0, none⟩ (.int .i64 c)).setCell ⟨w.heap.size + 1 + 1, 1, none⟩ (.int .i64 rt)).setCell ⟨w.heap.size + 1 + 1, 2, none⟩ (.int .i64 rp)).setCell ⟨w.heap.size + 1 + 1, 3, none⟩ (.int .i64 rh)).setCell ⟨w.heap.size + 1 + 1, 4, none⟩ (.int .i64 ri)).setCell ⟨w.heap.size + 1 + 1, 5, none⟩ (.int .i64 rs)).setCell ⟨w.heap.size + 1 + 1, 6, none⟩ (.slice (some ⟨g, 0, none⟩) 1 1)).setCell ⟨w.heap.size + 1 + 1, 7, none⟩ (.bool up)).setCell ⟨w.heap.size + 1 + 1, 8, none⟩ (.bool dn)).setCell ⟨w.heap.size + 1 + 1, 9, none⟩ (.bool ud)) = w4 at *
    refine leaves_cons (f := 70) (args := #[.pointer (some ⟨w.heap.size + 1 + 1, 0, none⟩)]) (by simp) (by simp [go_sem]) ?_
    refine (countS _ _ _ _ _ _ _ _ _ _ _ _ _ b4).mono ?_
    rintro e u' w5 ⟨rfl, rfl, rfl⟩
    have b5 := blkT1 (.int .i64 0) b4
    have c5 := b5.cells
    simp [Leaves, settle, results, Try.results23, go_sem, c5]
    refine ⟨g, _, rfl, hg0, by simp [World.setCell]; exact hl4, ⟨rfl, ?_⟩, ?_⟩
    · simp (disch := exact ne) only [Blk.set5]; exact hb4
    simp (disch := exact ge2) only [New.set5, N4]

set_option maxHeartbeats 3200000 in
theorem tickBy2 (ca ci ch st pe ho si sp : Int) (r : Rs) (w : World) (hk : ask ca ci ch st pe ho si sp = 0)
    (hc : Hid (∀ W, Calls Try.prog 71 #[.int .i64 st] W fun e w' => (∃ h, e = .returned (.agg #[h, .func (.func 130) #[] #[]])) ∧ New W w'))
    (hF : Hid (∀ W, Calls Try.prog 130 #[.agg #[.int .i64 st, .int .i64 pe, .int .i64 ho, .int .i64 si, .int .i64 sp]] W (Ans W r))) : Calls Try.prog 23 #[.agg #[.int .i64 ca, .int .i64 ci, .int .i64 ch], .agg #[.int .i64 st, .int .i64 pe, .int .i64 ho, .int .i64 si, .int .i64 sp]] w (Ans w (cntR r)) := by
  have N0 : New w (((w.alloc (.cells #[.int .i64 ca, .int .i64 ci, .int .i64 ch] 25)).alloc (.cells #[.int .i64 st, .int .i64 pe, .int .i64 ho, .int .i64 si, .int .i64 sp] 27)).alloc (.cells #[.int .i64 0, .int .i64 0, .int .i64 0, .int .i64 0, .int .i64 0, .int .i64 0, .slice none 0 0, .bool false, .bool false, .bool false] 40)) := (((New.refl w).alloc _).alloc _).alloc _
  have bC0 : Blk (((w.alloc (.cells #[.int .i64 ca, .int .i64 ci, .int .i64 ch] 25)).alloc (.cells #[.int .i64 st, .int .i64 pe, .int .i64 ho, .int .i64 si, .int .i64 sp] 27)).alloc (.cells #[.int .i64 0, .int .i64 0, .int .i64 0, .int .i64 0, .int .i64 0, .int .i64 0, .slice none 0 0, .bool false, .bool false, .bool false] 40)) w.heap.size 25 #[.int .i64 ca, .int .i64 ci, .int .i64 ch] := ((Blk.mk _ _ _ _ rfl).alloc _).alloc _
  have bS0 : Blk (((w.alloc (.cells #[.int .i64 ca, .int .i64 ci, .int .i64 ch] 25)).alloc (.cells #[.int .i64 st, .int .i64 pe, .int .i64 ho, .int .i64 si, .int .i64 sp] 27)).alloc (.cells #[.int .i64 0, .int .i64 0, .int .i64 0, .int .i64 0, .int .i64 0, .int .i64 0, .slice none 0 0, .bool false, .bool false, .bool false] 40)) (w.heap.size + 1) 27 #[.int .i64 st, .int .i64 pe, .int .i64 ho, .int .i64 si, .int .i64 sp] := (Blk.mk _ _ _ _ (by simp)).alloc _
  have bR0 : Blk (((w.alloc (.cells #[.int .i64 ca, .int .i64 ci, .int .i64 ch] 25)).alloc (.cells #[.int .i64 st, .int .i64 pe, .int .i64 ho, .int .i64 si, .int .i64 sp] 27)).alloc (.cells #[.int .i64 0, .int .i64 0, .int .i64 0, .int .i64 0, .int .i64 0, .int .i64 0, .slice none 0 0, .bool false, .bool false, .bool false] 40)) (w.heap.size + 1 + 1) 40 #[.int .i64 0, .int .i64 0, .int .i64 0, .int .i64 0, .int .i64 0, .int .i64 0, .slice none 0 0, .bool false, .bool false, .bool false] := Blk.mk _ _ _ _ (by simp)
  have ge2 : w.heap.size ≤ w.heap.size + 1 + 1 := by omega
  obtain ⟨c, rt, rp, rh, ri, rs, say, up, dn, ud⟩ := r
  cases say with
  | none =>
    go_enter_defers Try.func23, Try.ntmps23
    go_wp2_with fail
    refine (implAsk ca ci ch st pe ho si sp _).mono ?_
    rintro e w1 ⟨rfl, hn1⟩
    have bS1 := bS0.new hn1
    have bR1 := bR0.new hn1
    have N1 := N0.trans hn1
    have cS := bS1.cells
    clear bC0 bS0 bR0 N0 hn1
    rw [hk]
    clear hk
    go_wp2_with fail
    have neS : ¬ w.heap.size + 1 + 1 = w.heap.size + 1 := by omega
    have hfd : ∀ (h v : Value) (X : World), (Instr.field 106 (.agg #[h, v]) 1).run Try.prog X = .ok v X := fun _ _ _ => by kernel_rfl
    go_region_held3 (fun W => (∀ j, W.cell? ⟨w.heap.size + 1, j, none⟩ = #[Value.int .i64 st, .int .i64 pe, .int .i64 ho, .int .i64 si, .int .i64 sp][j]?)) (exact (by intro j; (try simp (disch := exact neS) only [cellS5]); first | exact cS j | exact cS2 j | exact cS3 j))
      (first
        | (go_at_call 71; refine (hc.out _).mono ?_; rintro e w2 ⟨⟨hh, rfl⟩, hn2⟩; have cS2 := (bS1.new (((New.refl _).drew).trans hn2)).cells)
        | (go_at_call 130; refine (hF.out _).mono ?_; rintro e w3 ⟨g, v, rfl, hg, hl, hs, hn3⟩; have hv : v = .slice none 0 0 := hs; subst hv; dsimp only [srC]; have cS3 := (bS1.new ((((New.refl _).drew).trans hn2).trans hn3)).cells; have bR3 := bR1.new ((((New.refl _).drew).trans hn2).trans hn3); have cR := bR3.cells; have fR := bR3.frees; have lR := bR3.lt))
    have N3 := N1.trans ((((New.refl _).drew).trans hn2).trans hn3)
    have kk := hn2.size
    simp at kk
    have l2 : w.heap.size + 1 + 1 < w2.heap.size := by have := bR1.lt; omega
    go_wp2
    have b4 : Blk ((((((((((w3.setCell ⟨w.heap.size + 1 + 1, 0, none⟩ (.int .i64 c)).setCell ⟨w.heap.size + 1 + 1, 1, none⟩ (.int .i64 rt)).setCell ⟨w.heap.size + 1 + 1, 2, none⟩ (.int .i64 rp)).setCell ⟨w.heap.size + 1 + 1, 3, none⟩ (.int .i64 rh)).setCell ⟨w.heap.size + 1 + 1, 4, none⟩ (.int .i64 ri)).setCell ⟨w.heap.size + 1 + 1, 5, none⟩ (.int .i64 rs)).setCell ⟨w.heap.size + 1 + 1, 6, none⟩ (.slice none 0 0)).setCell ⟨w.heap.size + 1 + 1, 7, none⟩ (.bool up)).setCell ⟨w.heap.size + 1 + 1, 8, none⟩ (.bool dn)).setCell ⟨w.heap.size + 1 + 1, 9, none⟩ (.bool ud)) (w.heap.size + 1 + 1) 40 #[.int .i64 c, .int .i64 rt, .int .i64 rp, .int .i64 rh, .int .i64 ri, .int .i64 rs, .slice none 0 0, .bool up, .bool dn, .bool ud] := blkT10 _ _ _ _ _ _ _ _ _ _ bR3
    have N4 : New w ((((((((((w3.setCell ⟨w.heap.size + 1 + 1, 0, none⟩ (.int .i64 c)).setCell ⟨w.heap.size + 1 + 1, 1, none⟩ (.int .i64 rt)).setCell ⟨w.heap.size + 1 + 1, 2, none⟩ (.int .i64 rp)).setCell ⟨w.heap.size + 1 + 1, 3, none⟩ (.int .i64 rh)).setCell ⟨w.heap.size + 1 + 1, 4, none⟩ (.int .i64 ri)).setCell ⟨w.heap.size + 1 + 1, 5, none⟩ (.int .i64 rs)).setCell ⟨w.heap.size + 1 + 1, 6, none⟩ (.slice none 0 0)).setCell ⟨w.heap.size + 1 + 1, 7, none⟩ (.bool up)).setCell ⟨w.heap.size + 1 + 1, 8, none⟩ (.bool dn)).setCell ⟨w.heap.size + 1 + 1, 9, none⟩ (.bool ud)) := by simp (disch := exact ge2) only [New.set5]; exact N3
    have lt4 : w.heap.size < ((((((((((w3.setCell ⟨w.heap.size + 1 + 1, 0, none⟩ (.int .i64 c)).setCell ⟨w.heap.size + 1 + 1, 1, none⟩ (.int .i64 rt)).setCell ⟨w.heap.size + 1 + 1, 2, none⟩ (.int .i64 rp)).setCell ⟨w.heap.size + 1 + 1, 3, none⟩ (.int .i64 rh)).setCell ⟨w.heap.size + 1 + 1, 4, none⟩ (.int .i64 ri)).setCell ⟨w.heap.size + 1 + 1, 5, none⟩ (.int .i64 rs)).setCell ⟨w.heap.size + 1 + 1, 6, none⟩ (.slice none 0 0)).setCell ⟨w.heap.size + 1 + 1, 7, none⟩ (.bool up)).setCell ⟨w.heap.size + 1 + 1, 8, none⟩ (.bool dn)).setCell ⟨w.heap.size + 1 + 1, 9, none⟩ (.bool ud)).heap.size := by simp [World.setCell]; omega
    clear cR fR lR bR3 N3 cS3
    generalize ((((((((((w3.setCell ⟨w.heap.size + 1 + 1, 0, none⟩ (.int .i64 c)).setCell ⟨w.heap.size + 1 + 1, 1, none⟩ (.int .i64 rt)).setCell ⟨w.heap.size + 1 + 1, 2, none⟩ (.int .i64 rp)).setCell ⟨w.heap.size + 1 + 1, 3, none⟩ (.int .i64 rh)).setCell ⟨w.heap.size + 1 + 1, 4, none⟩ (.int .i64 ri)).setCell ⟨w.heap.size + 1 + 1, 5, none⟩ (.int .i64 rs)).setCell ⟨w.heap.size + 1 + 1, 6, none⟩ (.slice none 0 0)).setCell ⟨w.heap.size + 1 + 1, 7, none⟩ (.bool up)).setCell ⟨w.heap.size + 1 + 1, 8, none⟩ (.bool dn)).setCell ⟨w.heap.size + 1 + 1, 9, none⟩ (.bool ud)) = w4 at *
    refine leaves_cons (f := 70) (args := #[.pointer (some ⟨w.heap.size + 1 + 1, 0, none⟩)]) (by simp) (by simp [go_sem]) ?_
    refine (countN _ _ _ _ _ _ _ _ _ _ _ _ b4).mono ?_
    rintro e u' w5 ⟨rfl, rfl, rfl⟩
    have c5 := b4.cells
    simp [Leaves, settle, results, Try.results23, go_sem, c5]
    exact ⟨w.heap.size, _, rfl, Nat.le_refl _, lt4, rfl, N4⟩
  | some m =>
    obtain ⟨m0, m1, m2, m3, m4, m5⟩ := m
    go_enter_defers Try.func23, Try.ntmps23
    go_wp2_with fail
    refine (implAsk ca ci ch st pe ho si sp _).mono ?_
    rintro e w1 ⟨rfl, hn1⟩
    have bS1 := bS0.new hn1
    have bR1 := bR0.new hn1
    have N1 := N0.trans hn1
    have cS := bS1.cells
    clear bC0 bS0 bR0 N0 hn1
    rw [hk]
    clear hk
    go_wp2_with fail
    have neS : ¬ w.heap.size + 1 + 1 = w.heap.size + 1 := by omega
    have hfd : ∀ (h v : Value) (X : World), (Instr.field 106 (.agg #[h, v]) 1).run Try.prog X = .ok v X := fun _ _ _ => by kernel_rfl
    go_region_held3 (fun W => (∀ j, W.cell? ⟨w.heap.size + 1, j, none⟩ = #[Value.int .i64 st, .int .i64 pe, .int .i64 ho, .int .i64 si, .int .i64 sp][j]?)) (exact (by intro j; (try simp (disch := exact neS) only [cellS5]); first | exact cS j | exact cS2 j | exact cS3 j))
      (first
        | (go_at_call 71; refine (hc.out _).mono ?_; rintro e w2 ⟨⟨hh, rfl⟩, hn2⟩; have cS2 := (bS1.new (((New.refl _).drew).trans hn2)).cells)
        | (go_at_call 130; refine (hF.out _).mono ?_; rintro e w3 ⟨g, v, rfl, hg, hl, hs, hn3⟩; obtain ⟨hv, hb⟩ := hs; subst hv; dsimp only [srC]; have cS3 := (bS1.new ((((New.refl _).drew).trans hn2).trans hn3)).cells; have bR3 := bR1.new ((((New.refl _).drew).trans hn2).trans hn3); have cR := bR3.cells; have fR := bR3.frees; have lR := bR3.lt))
    have N3 := N1.trans ((((New.refl _).drew).trans hn2).trans hn3)
    have kk := hn2.size
    simp at kk
    have l2 : w.heap.size + 1 + 1 < w2.heap.size := by have := bR1.lt; omega
    go_wp2
    have b4 : Blk ((((((((((w3.setCell ⟨w.heap.size + 1 + 1, 0, none⟩ (.int .i64 c)).setCell ⟨w.heap.size + 1 + 1, 1, none⟩ (.int .i64 rt)).setCell ⟨w.heap.size + 1 + 1, 2, none⟩ (.int .i64 rp)).setCell ⟨w.heap.size + 1 + 1, 3, none⟩ (.int .i64 rh)).setCell ⟨w.heap.size + 1 + 1, 4, none⟩ (.int .i64 ri)).setCell ⟨w.heap.size + 1 + 1, 5, none⟩ (.int .i64 rs)).setCell ⟨w.heap.size + 1 + 1, 6, none⟩ (.slice (some ⟨g, 0, none⟩) 1 1)).setCell ⟨w.heap.size + 1 + 1, 7, none⟩ (.bool up)).setCell ⟨w.heap.size + 1 + 1, 8, none⟩ (.bool dn)).setCell ⟨w.heap.size + 1 + 1, 9, none⟩ (.bool ud)) (w.heap.size + 1 + 1) 40 #[.int .i64 c, .int .i64 rt, .int .i64 rp, .int .i64 rh, .int .i64 ri, .int .i64 rs, .slice (some ⟨g, 0, none⟩) 1 1, .bool up, .bool dn, .bool ud] := blkT10 _ _ _ _ _ _ _ _ _ _ bR3
    have N4 : New w ((((((((((w3.setCell ⟨w.heap.size + 1 + 1, 0, none⟩ (.int .i64 c)).setCell ⟨w.heap.size + 1 + 1, 1, none⟩ (.int .i64 rt)).setCell ⟨w.heap.size + 1 + 1, 2, none⟩ (.int .i64 rp)).setCell ⟨w.heap.size + 1 + 1, 3, none⟩ (.int .i64 rh)).setCell ⟨w.heap.size + 1 + 1, 4, none⟩ (.int .i64 ri)).setCell ⟨w.heap.size + 1 + 1, 5, none⟩ (.int .i64 rs)).setCell ⟨w.heap.size + 1 + 1, 6, none⟩ (.slice (some ⟨g, 0, none⟩) 1 1)).setCell ⟨w.heap.size + 1 + 1, 7, none⟩ (.bool up)).setCell ⟨w.heap.size + 1 + 1, 8, none⟩ (.bool dn)).setCell ⟨w.heap.size + 1 + 1, 9, none⟩ (.bool ud)) := by simp (disch := exact ge2) only [New.set5]; exact N3
    have ne : ¬ w.heap.size + 1 + 1 = g := by omega
    have hg0 : w.heap.size ≤ g := by omega
    have hb4 : Blk ((((((((((w3.setCell ⟨w.heap.size + 1 + 1, 0, none⟩ (.int .i64 c)).setCell ⟨w.heap.size + 1 + 1, 1, none⟩ (.int .i64 rt)).setCell ⟨w.heap.size + 1 + 1, 2, none⟩ (.int .i64 rp)).setCell ⟨w.heap.size + 1 + 1, 3, none⟩ (.int .i64 rh)).setCell ⟨w.heap.size + 1 + 1, 4, none⟩ (.int .i64 ri)).setCell ⟨w.heap.size + 1 + 1, 5, none⟩ (.int .i64 rs)).setCell ⟨w.heap.size + 1 + 1, 6, none⟩ (.slice (some ⟨g, 0, none⟩) 1 1)).setCell ⟨w.heap.size + 1 + 1, 7, none⟩ (.bool up)).setCell ⟨w.heap.size + 1 + 1, 8, none⟩ (.bool dn)).setCell ⟨w.heap.size + 1 + 1, 9, none⟩ (.bool ud)) g 35 (msC m0 m1 m2 m3 m4 m5) := by simp (disch := exact ne) only [Blk.set5]; exact hb
    have hl4 : g < ((((((((((w3.setCell ⟨w.heap.size + 1 + 1, 0, none⟩ (.int .i64 c)).setCell ⟨w.heap.size + 1 + 1, 1, none⟩ (.int .i64 rt)).setCell ⟨w.heap.size + 1 + 1, 2, none⟩ (.int .i64 rp)).setCell ⟨w.heap.size + 1 + 1, 3, none⟩ (.int .i64 rh)).setCell ⟨w.heap.size + 1 + 1, 4, none⟩ (.int .i64 ri)).setCell ⟨w.heap.size + 1 + 1, 5, none⟩ (.int .i64 rs)).setCell ⟨w.heap.size + 1 + 1, 6, none⟩ (.slice (some ⟨g, 0, none⟩) 1 1)).setCell ⟨w.heap.size + 1 + 1, 7, none⟩ (.bool up)).setCell ⟨w.heap.size + 1 + 1, 8, none⟩ (.bool dn)).setCell ⟨w.heap.size + 1 + 1, 9, none⟩ (.bool ud)).heap.size := by simp [World.setCell]; exact hl
    have lt4 : w.heap.size < ((((((((((w3.setCell ⟨w.heap.size + 1 + 1, 0, none⟩ (.int .i64 c)).setCell ⟨w.heap.size + 1 + 1, 1, none⟩ (.int .i64 rt)).setCell ⟨w.heap.size + 1 + 1, 2, none⟩ (.int .i64 rp)).setCell ⟨w.heap.size + 1 + 1, 3, none⟩ (.int .i64 rh)).setCell ⟨w.heap.size + 1 + 1, 4, none⟩ (.int .i64 ri)).setCell ⟨w.heap.size + 1 + 1, 5, none⟩ (.int .i64 rs)).setCell ⟨w.heap.size + 1 + 1, 6, none⟩ (.slice (some ⟨g, 0, none⟩) 1 1)).setCell ⟨w.heap.size + 1 + 1, 7, none⟩ (.bool up)).setCell ⟨w.heap.size + 1 + 1, 8, none⟩ (.bool dn)).setCell ⟨w.heap.size + 1 + 1, 9, none⟩ (.bool ud)).heap.size := by simp [World.setCell]; omega
    clear cR fR lR bR3 N3 cS3
    generalize ((((((((((w3.setCell ⟨w.heap.size + 1 + 1, 0, none⟩ (.int .i64 c)).setCell ⟨w.heap.size + 1 + 1, 1, none⟩ (.int .i64 rt)).setCell ⟨w.heap.size + 1 + 1, 2, none⟩ (.int .i64 rp)).setCell ⟨w.heap.size + 1 + 1, 3, none⟩ (.int .i64 rh)).setCell ⟨w.heap.size + 1 + 1, 4, none⟩ (.int .i64 ri)).setCell ⟨w.heap.size + 1 + 1, 5, none⟩ (.int .i64 rs)).setCell ⟨w.heap.size + 1 + 1, 6, none⟩ (.slice (some ⟨g, 0, none⟩) 1 1)).setCell ⟨w.heap.size + 1 + 1, 7, none⟩ (.bool up)).setCell ⟨w.heap.size + 1 + 1, 8, none⟩ (.bool dn)).setCell ⟨w.heap.size + 1 + 1, 9, none⟩ (.bool ud)) = w4 at *
    refine leaves_cons (f := 70) (args := #[.pointer (some ⟨w.heap.size + 1 + 1, 0, none⟩)]) (by simp) (by simp [go_sem]) ?_
    refine (countS _ _ _ _ _ _ _ _ _ _ _ _ _ b4).mono ?_
    rintro e u' w5 ⟨rfl, rfl, rfl⟩
    have b5 := blkT1 (.int .i64 0) b4
    have c5 := b5.cells
    simp [Leaves, settle, results, Try.results23, go_sem, c5]
    refine ⟨g, _, rfl, hg0, by simp [World.setCell]; exact hl4, ⟨rfl, ?_⟩, ?_⟩
    · simp (disch := exact ne) only [Blk.set5]; exact hb4
    simp (disch := exact ge2) only [New.set5, N4]

set_option maxHeartbeats 1600000 in
theorem implTick (ca ci ch st pe ho si sp  : Int) (w : World) : Calls Try.prog 23 #[.agg #[.int .i64 ca, .int .i64 ci, .int .i64 ch], .agg #[.int .i64 st, .int .i64 pe, .int .i64 ho, .int .i64 si, .int .i64 sp]] w (Ans w (ticksR ca ci ch st pe ho si sp)) := by
  have N0 : New w (((w.alloc (.cells #[.int .i64 ca, .int .i64 ci, .int .i64 ch] 25)).alloc (.cells #[.int .i64 st, .int .i64 pe, .int .i64 ho, .int .i64 si, .int .i64 sp] 27)).alloc (.cells #[.int .i64 0, .int .i64 0, .int .i64 0, .int .i64 0, .int .i64 0, .int .i64 0, .slice none 0 0, .bool false, .bool false, .bool false] 40)) := (((New.refl w).alloc _).alloc _).alloc _
  have bC0 : Blk (((w.alloc (.cells #[.int .i64 ca, .int .i64 ci, .int .i64 ch] 25)).alloc (.cells #[.int .i64 st, .int .i64 pe, .int .i64 ho, .int .i64 si, .int .i64 sp] 27)).alloc (.cells #[.int .i64 0, .int .i64 0, .int .i64 0, .int .i64 0, .int .i64 0, .int .i64 0, .slice none 0 0, .bool false, .bool false, .bool false] 40)) w.heap.size 25 #[.int .i64 ca, .int .i64 ci, .int .i64 ch] := ((Blk.mk _ _ _ _ rfl).alloc _).alloc _
  have bS0 : Blk (((w.alloc (.cells #[.int .i64 ca, .int .i64 ci, .int .i64 ch] 25)).alloc (.cells #[.int .i64 st, .int .i64 pe, .int .i64 ho, .int .i64 si, .int .i64 sp] 27)).alloc (.cells #[.int .i64 0, .int .i64 0, .int .i64 0, .int .i64 0, .int .i64 0, .int .i64 0, .slice none 0 0, .bool false, .bool false, .bool false] 40)) (w.heap.size + 1) 27 #[.int .i64 st, .int .i64 pe, .int .i64 ho, .int .i64 si, .int .i64 sp] := (Blk.mk _ _ _ _ (by simp)).alloc _
  have bR0 : Blk (((w.alloc (.cells #[.int .i64 ca, .int .i64 ci, .int .i64 ch] 25)).alloc (.cells #[.int .i64 st, .int .i64 pe, .int .i64 ho, .int .i64 si, .int .i64 sp] 27)).alloc (.cells #[.int .i64 0, .int .i64 0, .int .i64 0, .int .i64 0, .int .i64 0, .int .i64 0, .slice none 0 0, .bool false, .bool false, .bool false] 40)) (w.heap.size + 1 + 1) 40 #[.int .i64 0, .int .i64 0, .int .i64 0, .int .i64 0, .int .i64 0, .int .i64 0, .slice none 0 0, .bool false, .bool false, .bool false] := Blk.mk _ _ _ _ (by simp)
  have ge2 : w.heap.size ≤ w.heap.size + 1 + 1 := by omega
  by_cases h0 : ask ca ci ch st pe ho si sp = 0
  case neg =>
    have hx : ticksR ca ci ch st pe ho si sp = badR (ask ca ci ch st pe ho si sp) := if_neg h0
    rw [hx]
    clear hx
    have h1 : (ask ca ci ch st pe ho si sp != 0) = true := by simpa using h0
    go_enter_defers Try.func23, Try.ntmps23
    go_wp2_with fail
    refine (implAsk ca ci ch st pe ho si sp _).mono ?_
    rintro e w1 ⟨rfl, hn1⟩
    have bC1 := bC0.new hn1
    have bS1 := bS0.new hn1
    have bR1 := bR0.new hn1
    have N1 := N0.trans hn1
    have cC := bC1.cells
    have cS := bS1.cells
    have cR := bR1.cells
    have fR := bR1.frees
    have lR := bR1.lt
    have l1 : w.heap.size < w1.heap.size := by omega
    have l2 : w.heap.size + 1 < w1.heap.size := by omega
    clear bC0 bS0 bR0 N0 hn1
    generalize ask ca ci ch st pe ho si sp = k at *
    go_wp2
    simp [bodyPostD, Leaves, settle, results, Try.results23, go_sem, cR]
    exact ⟨w.heap.size, _, rfl, Nat.le_refl _, by simp [World.setCell]; omega, rfl, by simp (disch := exact ge2) only [New.set5, N1]⟩
  have hs := ask_ok h0
  have hx : ticksR ca ci ch st pe ho si sp = cntR (if st = 0 then sesR st pe ho si sp else if st = 1 then sentR st pe ho (tk si) (tk sp) else openedR st pe ho (tk si) (tk sp)) := if_pos h0
  rw [hx]
  clear N0 bC0 bS0 bR0
  by_cases t0 : st = 0
  · rw [if_pos t0]
    refine tickBy0 ca ci ch st pe ho si sp _ w h0 (fun W => ?_) (fun W => implIdleT st pe ho si sp W)
    subst t0
    exact (cond0 W).mono (fun e w' h => ⟨⟨_, h.1⟩, h.2⟩)
  rw [if_neg t0]
  by_cases t1 : st = 1
  · rw [if_pos t1]
    refine tickBy1 ca ci ch st pe ho si sp _ w h0 (fun W => ?_) (fun W => implSentT st pe ho si sp W hs.2.2.2.1 hs.2.2.2.2)
    subst t1
    exact (cond1 W).mono (fun e w' h => ⟨⟨_, h.1⟩, h.2⟩)
  rw [if_neg t1]
  refine tickBy2 ca ci ch st pe ho si sp _ w h0 (fun W => ?_) (fun W => implOpenT st pe ho si sp W hs.2.2.2.1 hs.2.2.2.2)
  have h23 : st = 2 ∨ st = 3 := by have := hs.1; omega
  rcases h23 with rfl | rfl
  · exact (cond2 W).mono (fun e w' h => ⟨⟨_, h.1⟩, h.2⟩)
  · exact (cond3 W).mono (fun e w' h => ⟨⟨_, h.1⟩, h.2⟩)

end Go.Proofs.Ytdkocmmcoigcgaa
