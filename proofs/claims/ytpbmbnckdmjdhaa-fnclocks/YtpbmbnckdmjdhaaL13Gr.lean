/- What is proved here: what the granting and the taking of a lease answer, in the program and in the model, and the copying and comparing of leases. No condition. -/
import Derived.Test.YtpbmbnckdmjdhaaL13Lib
namespace Go.Proofs.Ytpbmbnckdmjdhaa
open Go.RowKit
set_option linter.unusedVariables false

theorem New.set13 {a w : World} {p : Addr} (hp : a.heap.size ≤ p.block) (u : Value) : New a (w.setCell p u) ↔ New a w := by
  refine ⟨fun h => ⟨h.os, h.tape, h.output, by simpa [World.setCell] using h.size, fun k hk hs => (Below.heap_setCell w p u k (by omega)).symm.trans (h.block k hk hs)⟩, fun h => h.setCell hp u⟩

/-- An answer of a lease. -/
structure Lr where
  c : Int
  ho : Int
  ep : Int
  ak : Int
  he : Int

/-- Its value. -/
abbrev lrV (r : Lr) : Value := .agg #[.int .i64 r.c, .int .i64 r.ho, .int .i64 r.ep, .int .i64 r.ak, .int .i64 r.he]

/-- What GrantLease answers. -/
def grR (ho ep ak he a h : Int) : Lr :=
  if LeP ho ep ak he then (if (0 ≤ a ∧ a ≤ 1000000002) ∧ (0 ≤ h ∧ h ≤ 1000000002) then (if a < ak ∨ h < he then ⟨9, 0, 0, 0, 0⟩ else ⟨0, ho, ep, a, h⟩) else ⟨3, 0, 0, 0, 0⟩) else ⟨3, 0, 0, 0, 0⟩

/-- What TakeLease answers. -/
def tkR (ho ep ak he s : Int) : Lr :=
  if LeP ho ep ak he then (if mtB ho ep ak he s = true then (if ep = 1000 then ⟨3, 0, 0, 0, 0⟩ else ⟨0, 1 - ho, ep + 1, s, s⟩) else ⟨8, 0, 0, 0, 0⟩) else ⟨3, 0, 0, 0, 0⟩

set_option maxHeartbeats 3200000 in
theorem implGr (ho ep ak he a h : Int) (w : World) : Calls Try.prog 18 #[.agg #[.int .i64 ho, .int .i64 ep, .int .i64 ak, .int .i64 he], .int .i64 a, .int .i64 h] w fun e w' => e = .returned (lrV (grR ho ep ak he a h)) ∧ New w w' := by
  have N0 : New w ((w.alloc (.cells #[.int .i64 ho, .int .i64 ep, .int .i64 ak, .int .i64 he] 28)).alloc (.cells #[.int .i64 0, .int .i64 0, .int .i64 0, .int .i64 0, .int .i64 0] 36)) := ((New.refl w).alloc _).alloc _
  have bL0 : Blk ((w.alloc (.cells #[.int .i64 ho, .int .i64 ep, .int .i64 ak, .int .i64 he] 28)).alloc (.cells #[.int .i64 0, .int .i64 0, .int .i64 0, .int .i64 0, .int .i64 0] 36)) w.heap.size 28 #[.int .i64 ho, .int .i64 ep, .int .i64 ak, .int .i64 he] := (Blk.mk _ _ _ _ rfl).alloc _
  have bR0 : Blk ((w.alloc (.cells #[.int .i64 ho, .int .i64 ep, .int .i64 ak, .int .i64 he] 28)).alloc (.cells #[.int .i64 0, .int .i64 0, .int .i64 0, .int .i64 0, .int .i64 0] 36)) (w.heap.size + 1) 36 #[.int .i64 0, .int .i64 0, .int .i64 0, .int .i64 0, .int .i64 0] := Blk.mk _ _ _ _ (by simp)
  have ge0 : w.heap.size ≤ w.heap.size := Nat.le_refl _
  have ge1 : w.heap.size ≤ w.heap.size + 1 := by omega
  by_cases hp : LeP ho ep ak he
  case neg =>
    have hx : Hid (grR ho ep ak he a h = ⟨3, 0, 0, 0, 0⟩) := if_neg hp
    have hz := lf_bad hp
    clear hp
    go_enter Try.func18, Try.ntmps18
    go_wp2_with fail
    refine (implLeF_is ho ep ak he 3 _ hz).mono ?_
    rintro e w1 ⟨rfl, hn1⟩
    have bL1 := bL0.new hn1
    have bR1 := bR0.new hn1
    have N1 := N0.trans hn1
    have cL := bL1.cells
    have fL := bL1.frees
    have cR := bR1.cells
    have fR := bR1.frees
    have lR1 := bR1.lt
    have lL1 : w.heap.size < w1.heap.size := by omega
    clear bL0 bR0 N0 hn1
    go_wp2
    refine bodyPost_ret (v := .agg #[.int .i64 3, .int .i64 0, .int .i64 0, .int .i64 0, .int .i64 0]) (by simp [results, Try.results18, go_sem, cR]) rfl ⟨ret13 (by rw [hx.out]), ?_⟩
    simp (disch := first | exact ge1 | exact ge0) only [New.set13, N1]
  have hz := lf_ok hp
  have hP : Hid (LeP ho ep ak he) := hp
  clear hp
  by_cases ga : 0 ≤ a ∧ a ≤ 1000000002
  case neg =>
    have hx : Hid (grR ho ep ak he a h = ⟨3, 0, 0, 0, 0⟩) := by unfold grR Hid; rw [if_pos hP.out, if_neg (fun k => ga k.1)]
    go_enter Try.func18, Try.ntmps18
    go_wp2_with fail
    refine (implLeF_is ho ep ak he 0 _ hz).mono ?_
    rintro e w1 ⟨rfl, hn1⟩
    have bL1 := bL0.new hn1
    have bR1 := bR0.new hn1
    have N1 := N0.trans hn1
    have cL := bL1.cells
    have fL := bL1.frees
    have cR := bR1.cells
    have fR := bR1.frees
    have lR1 := bR1.lt
    have lL1 : w.heap.size < w1.heap.size := by omega
    clear bL0 bR0 N0 hn1
    go_wp2_with fail
    refine (seen13_no _ _ ga).mono ?_
    rintro e w2 ⟨rfl, rfl⟩
    go_wp2
    refine bodyPost_ret (v := .agg #[.int .i64 3, .int .i64 0, .int .i64 0, .int .i64 0, .int .i64 0]) (by simp [results, Try.results18, go_sem, cR]) rfl ⟨ret13 (by rw [hx.out]), ?_⟩
    simp (disch := first | exact ge1 | exact ge0) only [New.set13, N1]
  by_cases gh : 0 ≤ h ∧ h ≤ 1000000002
  case neg =>
    have hx : Hid (grR ho ep ak he a h = ⟨3, 0, 0, 0, 0⟩) := by unfold grR Hid; rw [if_pos hP.out, if_neg (fun k => gh k.2)]
    go_enter Try.func18, Try.ntmps18
    go_wp2_with fail
    refine (implLeF_is ho ep ak he 0 _ hz).mono ?_
    rintro e w1 ⟨rfl, hn1⟩
    have bL1 := bL0.new hn1
    have bR1 := bR0.new hn1
    have N1 := N0.trans hn1
    have cL := bL1.cells
    have fL := bL1.frees
    have cR := bR1.cells
    have fR := bR1.frees
    have lR1 := bR1.lt
    have lL1 : w.heap.size < w1.heap.size := by omega
    clear bL0 bR0 N0 hn1
    go_wp2_with fail
    refine (seen13_yes _ _ ga).mono ?_
    rintro e w2 ⟨rfl, rfl⟩
    go_wp2_with fail
    refine (seen13_no _ _ gh).mono ?_
    rintro e w2 ⟨rfl, rfl⟩
    go_wp2
    refine bodyPost_ret (v := .agg #[.int .i64 3, .int .i64 0, .int .i64 0, .int .i64 0, .int .i64 0]) (by simp [results, Try.results18, go_sem, cR]) rfl ⟨ret13 (by rw [hx.out]), ?_⟩
    simp (disch := first | exact ge1 | exact ge0) only [New.set13, N1]
  by_cases qa : a < ak
  case pos =>
    have hx : Hid (grR ho ep ak he a h = ⟨9, 0, 0, 0, 0⟩) := by unfold grR Hid; rw [if_pos hP.out, if_pos ⟨ga, gh⟩, if_pos (.inl qa)]
    go_enter Try.func18, Try.ntmps18
    go_wp2_with fail
    refine (implLeF_is ho ep ak he 0 _ hz).mono ?_
    rintro e w1 ⟨rfl, hn1⟩
    have bL1 := bL0.new hn1
    have bR1 := bR0.new hn1
    have N1 := N0.trans hn1
    have cL := bL1.cells
    have fL := bL1.frees
    have cR := bR1.cells
    have fR := bR1.frees
    have lR1 := bR1.lt
    have lL1 : w.heap.size < w1.heap.size := by omega
    clear bL0 bR0 N0 hn1
    go_wp2_with fail
    refine (seen13_yes _ _ ga).mono ?_
    rintro e w2 ⟨rfl, rfl⟩
    go_wp2_with fail
    refine (seen13_yes _ _ gh).mono ?_
    rintro e w2 ⟨rfl, rfl⟩
    go_wp2
    refine bodyPost_ret (v := .agg #[.int .i64 9, .int .i64 0, .int .i64 0, .int .i64 0, .int .i64 0]) (by simp [results, Try.results18, go_sem, cR]) rfl ⟨ret13 (by rw [hx.out]), ?_⟩
    simp (disch := first | exact ge1 | exact ge0) only [New.set13, N1]
  by_cases qh : h < he
  case pos =>
    have hx : Hid (grR ho ep ak he a h = ⟨9, 0, 0, 0, 0⟩) := by unfold grR Hid; rw [if_pos hP.out, if_pos ⟨ga, gh⟩, if_pos (.inr qh)]
    go_enter Try.func18, Try.ntmps18
    go_wp2_with fail
    refine (implLeF_is ho ep ak he 0 _ hz).mono ?_
    rintro e w1 ⟨rfl, hn1⟩
    have bL1 := bL0.new hn1
    have bR1 := bR0.new hn1
    have N1 := N0.trans hn1
    have cL := bL1.cells
    have fL := bL1.frees
    have cR := bR1.cells
    have fR := bR1.frees
    have lR1 := bR1.lt
    have lL1 : w.heap.size < w1.heap.size := by omega
    clear bL0 bR0 N0 hn1
    go_wp2_with fail
    refine (seen13_yes _ _ ga).mono ?_
    rintro e w2 ⟨rfl, rfl⟩
    go_wp2_with fail
    refine (seen13_yes _ _ gh).mono ?_
    rintro e w2 ⟨rfl, rfl⟩
    go_wp2
    refine bodyPost_ret (v := .agg #[.int .i64 9, .int .i64 0, .int .i64 0, .int .i64 0, .int .i64 0]) (by simp [results, Try.results18, go_sem, cR]) rfl ⟨ret13 (by rw [hx.out]), ?_⟩
    simp (disch := first | exact ge1 | exact ge0) only [New.set13, N1]
  have hx : Hid (grR ho ep ak he a h = ⟨0, ho, ep, a, h⟩) := by unfold grR Hid; rw [if_pos hP.out, if_pos ⟨ga, gh⟩, if_neg (by omega)]
  go_enter Try.func18, Try.ntmps18
  go_wp2_with fail
  refine (implLeF_is ho ep ak he 0 _ hz).mono ?_
  rintro e w1 ⟨rfl, hn1⟩
  have bL1 := bL0.new hn1
  have bR1 := bR0.new hn1
  have N1 := N0.trans hn1
  have cL := bL1.cells
  have fL := bL1.frees
  have cR := bR1.cells
  have fR := bR1.frees
  have lR1 := bR1.lt
  have lL1 : w.heap.size < w1.heap.size := by omega
  clear bL0 bR0 N0 hn1
  go_wp2_with fail
  refine (seen13_yes _ _ ga).mono ?_
  rintro e w2 ⟨rfl, rfl⟩
  go_wp2_with fail
  refine (seen13_yes _ _ gh).mono ?_
  rintro e w2 ⟨rfl, rfl⟩
  go_wp2
  refine bodyPost_ret (v := .agg #[.int .i64 0, .int .i64 ho, .int .i64 ep, .int .i64 a, .int .i64 h]) (by simp [results, Try.results18, go_sem, cR]) rfl ⟨ret13 (by rw [hx.out]), ?_⟩
  simp (disch := first | exact ge1 | exact ge0) only [New.set13, N1]

set_option maxHeartbeats 3200000 in
theorem specGr (ho ep ak he a h : Int) (w : World) : Calls Try.prog 27 #[.agg #[.int .i64 ho, .int .i64 ep, .int .i64 ak, .int .i64 he], .int .i64 a, .int .i64 h] w fun e w' => e = .returned (lrV (grR ho ep ak he a h)) ∧ New w w' := by
  have N0 : New w ((w.alloc (.cells #[.int .i64 ho, .int .i64 ep, .int .i64 ak, .int .i64 he] 28)).alloc (.cells #[.int .i64 0, .int .i64 0, .int .i64 0, .int .i64 0, .int .i64 0] 36)) := ((New.refl w).alloc _).alloc _
  have bL0 : Blk ((w.alloc (.cells #[.int .i64 ho, .int .i64 ep, .int .i64 ak, .int .i64 he] 28)).alloc (.cells #[.int .i64 0, .int .i64 0, .int .i64 0, .int .i64 0, .int .i64 0] 36)) w.heap.size 28 #[.int .i64 ho, .int .i64 ep, .int .i64 ak, .int .i64 he] := (Blk.mk _ _ _ _ rfl).alloc _
  have bR0 : Blk ((w.alloc (.cells #[.int .i64 ho, .int .i64 ep, .int .i64 ak, .int .i64 he] 28)).alloc (.cells #[.int .i64 0, .int .i64 0, .int .i64 0, .int .i64 0, .int .i64 0] 36)) (w.heap.size + 1) 36 #[.int .i64 0, .int .i64 0, .int .i64 0, .int .i64 0, .int .i64 0] := Blk.mk _ _ _ _ (by simp)
  have ge0 : w.heap.size ≤ w.heap.size := Nat.le_refl _
  have ge1 : w.heap.size ≤ w.heap.size + 1 := by omega
  by_cases hp : LeP ho ep ak he
  case neg =>
    have hx : Hid (grR ho ep ak he a h = ⟨3, 0, 0, 0, 0⟩) := if_neg hp
    have hz := lf_bad hp
    clear hp
    go_enter Try.func27, Try.ntmps27
    go_wp2_with fail
    refine (specLeF_is ho ep ak he 3 _ hz).mono ?_
    rintro e w1 ⟨rfl, hn1⟩
    have bL1 := bL0.new hn1
    have bR1 := bR0.new hn1
    have N1 := N0.trans hn1
    have cL := bL1.cells
    have fL := bL1.frees
    have cR := bR1.cells
    have fR := bR1.frees
    have lR1 := bR1.lt
    have lL1 : w.heap.size < w1.heap.size := by omega
    clear bL0 bR0 N0 hn1
    go_wp2
    refine bodyPost_ret (v := .agg #[.int .i64 3, .int .i64 0, .int .i64 0, .int .i64 0, .int .i64 0]) (by simp [results, Try.results27, go_sem, cR]) rfl ⟨ret13 (by rw [hx.out]), ?_⟩
    simp (disch := first | exact ge1 | exact ge0) only [New.set13, N1]
  have hz := lf_ok hp
  have hP : Hid (LeP ho ep ak he) := hp
  clear hp
  by_cases ga : 0 ≤ a ∧ a ≤ 1000000002
  case neg =>
    have hx : Hid (grR ho ep ak he a h = ⟨3, 0, 0, 0, 0⟩) := by unfold grR Hid; rw [if_pos hP.out, if_neg (fun k => ga k.1)]
    go_enter Try.func27, Try.ntmps27
    go_wp2_with fail
    refine (specLeF_is ho ep ak he 0 _ hz).mono ?_
    rintro e w1 ⟨rfl, hn1⟩
    have bL1 := bL0.new hn1
    have bR1 := bR0.new hn1
    have N1 := N0.trans hn1
    have cL := bL1.cells
    have fL := bL1.frees
    have cR := bR1.cells
    have fR := bR1.frees
    have lR1 := bR1.lt
    have lL1 : w.heap.size < w1.heap.size := by omega
    clear bL0 bR0 N0 hn1
    go_wp2_with fail
    refine (time13_no _ _ ga).mono ?_
    rintro e w2 ⟨rfl, rfl⟩
    go_wp2
    refine bodyPost_ret (v := .agg #[.int .i64 3, .int .i64 0, .int .i64 0, .int .i64 0, .int .i64 0]) (by simp [results, Try.results27, go_sem, cR]) rfl ⟨ret13 (by rw [hx.out]), ?_⟩
    simp (disch := first | exact ge1 | exact ge0) only [New.set13, N1]
  by_cases gh : 0 ≤ h ∧ h ≤ 1000000002
  case neg =>
    have hx : Hid (grR ho ep ak he a h = ⟨3, 0, 0, 0, 0⟩) := by unfold grR Hid; rw [if_pos hP.out, if_neg (fun k => gh k.2)]
    go_enter Try.func27, Try.ntmps27
    go_wp2_with fail
    refine (specLeF_is ho ep ak he 0 _ hz).mono ?_
    rintro e w1 ⟨rfl, hn1⟩
    have bL1 := bL0.new hn1
    have bR1 := bR0.new hn1
    have N1 := N0.trans hn1
    have cL := bL1.cells
    have fL := bL1.frees
    have cR := bR1.cells
    have fR := bR1.frees
    have lR1 := bR1.lt
    have lL1 : w.heap.size < w1.heap.size := by omega
    clear bL0 bR0 N0 hn1
    go_wp2_with fail
    refine (time13_yes _ _ ga).mono ?_
    rintro e w2 ⟨rfl, rfl⟩
    go_wp2_with fail
    refine (time13_no _ _ gh).mono ?_
    rintro e w2 ⟨rfl, rfl⟩
    go_wp2
    refine bodyPost_ret (v := .agg #[.int .i64 3, .int .i64 0, .int .i64 0, .int .i64 0, .int .i64 0]) (by simp [results, Try.results27, go_sem, cR]) rfl ⟨ret13 (by rw [hx.out]), ?_⟩
    simp (disch := first | exact ge1 | exact ge0) only [New.set13, N1]
  by_cases qa : a < ak
  case pos =>
    have hx : Hid (grR ho ep ak he a h = ⟨9, 0, 0, 0, 0⟩) := by unfold grR Hid; rw [if_pos hP.out, if_pos ⟨ga, gh⟩, if_pos (.inl qa)]
    go_enter Try.func27, Try.ntmps27
    go_wp2_with fail
    refine (specLeF_is ho ep ak he 0 _ hz).mono ?_
    rintro e w1 ⟨rfl, hn1⟩
    have bL1 := bL0.new hn1
    have bR1 := bR0.new hn1
    have N1 := N0.trans hn1
    have cL := bL1.cells
    have fL := bL1.frees
    have cR := bR1.cells
    have fR := bR1.frees
    have lR1 := bR1.lt
    have lL1 : w.heap.size < w1.heap.size := by omega
    clear bL0 bR0 N0 hn1
    go_wp2_with fail
    refine (time13_yes _ _ ga).mono ?_
    rintro e w2 ⟨rfl, rfl⟩
    go_wp2_with fail
    refine (time13_yes _ _ gh).mono ?_
    rintro e w2 ⟨rfl, rfl⟩
    go_wp2
    refine bodyPost_ret (v := .agg #[.int .i64 9, .int .i64 0, .int .i64 0, .int .i64 0, .int .i64 0]) (by simp [results, Try.results27, go_sem, cR]) rfl ⟨ret13 (by rw [hx.out]), ?_⟩
    simp (disch := first | exact ge1 | exact ge0) only [New.set13, N1]
  by_cases qh : h < he
  case pos =>
    have hx : Hid (grR ho ep ak he a h = ⟨9, 0, 0, 0, 0⟩) := by unfold grR Hid; rw [if_pos hP.out, if_pos ⟨ga, gh⟩, if_pos (.inr qh)]
    go_enter Try.func27, Try.ntmps27
    go_wp2_with fail
    refine (specLeF_is ho ep ak he 0 _ hz).mono ?_
    rintro e w1 ⟨rfl, hn1⟩
    have bL1 := bL0.new hn1
    have bR1 := bR0.new hn1
    have N1 := N0.trans hn1
    have cL := bL1.cells
    have fL := bL1.frees
    have cR := bR1.cells
    have fR := bR1.frees
    have lR1 := bR1.lt
    have lL1 : w.heap.size < w1.heap.size := by omega
    clear bL0 bR0 N0 hn1
    go_wp2_with fail
    refine (time13_yes _ _ ga).mono ?_
    rintro e w2 ⟨rfl, rfl⟩
    go_wp2_with fail
    refine (time13_yes _ _ gh).mono ?_
    rintro e w2 ⟨rfl, rfl⟩
    go_wp2
    refine bodyPost_ret (v := .agg #[.int .i64 9, .int .i64 0, .int .i64 0, .int .i64 0, .int .i64 0]) (by simp [results, Try.results27, go_sem, cR]) rfl ⟨ret13 (by rw [hx.out]), ?_⟩
    simp (disch := first | exact ge1 | exact ge0) only [New.set13, N1]
  have hx : Hid (grR ho ep ak he a h = ⟨0, ho, ep, a, h⟩) := by unfold grR Hid; rw [if_pos hP.out, if_pos ⟨ga, gh⟩, if_neg (by omega)]
  go_enter Try.func27, Try.ntmps27
  go_wp2_with fail
  refine (specLeF_is ho ep ak he 0 _ hz).mono ?_
  rintro e w1 ⟨rfl, hn1⟩
  have bL1 := bL0.new hn1
  have bR1 := bR0.new hn1
  have N1 := N0.trans hn1
  have cL := bL1.cells
  have fL := bL1.frees
  have cR := bR1.cells
  have fR := bR1.frees
  have lR1 := bR1.lt
  have lL1 : w.heap.size < w1.heap.size := by omega
  clear bL0 bR0 N0 hn1
  go_wp2_with fail
  refine (time13_yes _ _ ga).mono ?_
  rintro e w2 ⟨rfl, rfl⟩
  go_wp2_with fail
  refine (time13_yes _ _ gh).mono ?_
  rintro e w2 ⟨rfl, rfl⟩
  go_wp2
  refine bodyPost_ret (v := .agg #[.int .i64 0, .int .i64 ho, .int .i64 ep, .int .i64 a, .int .i64 h]) (by simp [results, Try.results27, go_sem, cR]) rfl ⟨ret13 (by rw [hx.out]), ?_⟩
  simp (disch := first | exact ge1 | exact ge0) only [New.set13, N1]

set_option maxHeartbeats 3200000 in
theorem implTl (ho ep ak he s : Int) (w : World) : Calls Try.prog 19 #[.agg #[.int .i64 ho, .int .i64 ep, .int .i64 ak, .int .i64 he], .int .i64 s] w fun e w' => e = .returned (lrV (tkR ho ep ak he s)) ∧ New w w' := by
  have N0 : New w ((w.alloc (.cells #[.int .i64 ho, .int .i64 ep, .int .i64 ak, .int .i64 he] 28)).alloc (.cells #[.int .i64 0, .int .i64 0, .int .i64 0, .int .i64 0, .int .i64 0] 36)) := ((New.refl w).alloc _).alloc _
  have bL0 : Blk ((w.alloc (.cells #[.int .i64 ho, .int .i64 ep, .int .i64 ak, .int .i64 he] 28)).alloc (.cells #[.int .i64 0, .int .i64 0, .int .i64 0, .int .i64 0, .int .i64 0] 36)) w.heap.size 28 #[.int .i64 ho, .int .i64 ep, .int .i64 ak, .int .i64 he] := (Blk.mk _ _ _ _ rfl).alloc _
  have bR0 : Blk ((w.alloc (.cells #[.int .i64 ho, .int .i64 ep, .int .i64 ak, .int .i64 he] 28)).alloc (.cells #[.int .i64 0, .int .i64 0, .int .i64 0, .int .i64 0, .int .i64 0] 36)) (w.heap.size + 1) 36 #[.int .i64 0, .int .i64 0, .int .i64 0, .int .i64 0, .int .i64 0] := Blk.mk _ _ _ _ (by simp)
  have ge0 : w.heap.size ≤ w.heap.size := Nat.le_refl _
  have ge1 : w.heap.size ≤ w.heap.size + 1 := by omega
  by_cases hp : LeP ho ep ak he
  case neg =>
    have hx : Hid (tkR ho ep ak he s = ⟨3, 0, 0, 0, 0⟩) := if_neg hp
    have hz := lf_bad hp
    clear hp
    go_enter Try.func19, Try.ntmps19
    go_wp2_with fail
    refine (implLeF_is ho ep ak he 3 _ hz).mono ?_
    rintro e w1 ⟨rfl, hn1⟩
    have bL1 := bL0.new hn1
    have bR1 := bR0.new hn1
    have N1 := N0.trans hn1
    have cL := bL1.cells
    have fL := bL1.frees
    have cR := bR1.cells
    have fR := bR1.frees
    have lR1 := bR1.lt
    have lL1 : w.heap.size < w1.heap.size := by omega
    clear bL0 bR0 N0 hn1
    go_wp2
    refine bodyPost_ret (v := .agg #[.int .i64 3, .int .i64 0, .int .i64 0, .int .i64 0, .int .i64 0]) (by simp [results, Try.results19, go_sem, cR]) rfl ⟨ret13 (by rw [hx.out]), ?_⟩
    simp (disch := first | exact ge1 | exact ge0) only [New.set13, N1]
  have hz := lf_ok hp
  have hP : Hid (LeP ho ep ak he) := hp
  obtain ⟨⟨p0, p1⟩, ⟨p2, p3⟩, -⟩ := hp
  by_cases gt : mtB ho ep ak he s = true
  case neg =>
    have hx : Hid (tkR ho ep ak he s = ⟨8, 0, 0, 0, 0⟩) := by unfold tkR Hid; rw [if_pos hP.out, if_neg gt]
    replace gt : mtB ho ep ak he s = false := by simpa using gt
    go_enter Try.func19, Try.ntmps19
    go_wp2_with fail
    refine (implLeF_is ho ep ak he 0 _ hz).mono ?_
    rintro e w1 ⟨rfl, hn1⟩
    have bL1 := bL0.new hn1
    have bR1 := bR0.new hn1
    have N1 := N0.trans hn1
    have cL1 := bL1.cells
    have fL1 := bL1.frees
    have cR1 := bR1.cells
    have fR1 := bR1.frees
    have lR1 := bR1.lt
    have lL1 : w.heap.size < w1.heap.size := by omega
    clear bL0 bR0 N0 hn1
    go_wp2_with fail
    refine (implMT ho ep ak he s _).mono ?_
    rintro e w2 ⟨rfl, hn2⟩
    have bL2 := bL1.new hn2
    have bR2 := bR1.new hn2
    have N2 := N1.trans hn2
    have cL := bL2.cells
    have fL := bL2.frees
    have cR := bR2.cells
    have fR := bR2.frees
    have lR2 := bR2.lt
    have lL2 : w.heap.size < w2.heap.size := by omega
    clear bL1 bR1 N1 hn2
    rw [gt]
    go_wp2
    refine bodyPost_ret (v := .agg #[.int .i64 8, .int .i64 0, .int .i64 0, .int .i64 0, .int .i64 0]) (by simp [results, Try.results19, go_sem, cR]) rfl ⟨ret13 (by rw [hx.out]), ?_⟩
    simp (disch := first | exact ge1 | exact ge0) only [New.set13, N2]
  by_cases ge : ep = 1000
  case pos =>
    have hx : Hid (tkR ho ep ak he s = ⟨3, 0, 0, 0, 0⟩) := by unfold tkR Hid; rw [if_pos hP.out, if_pos gt, if_pos ge]
    subst ge
    go_enter Try.func19, Try.ntmps19
    go_wp2_with fail
    refine (implLeF_is ho 1000 ak he 0 _ hz).mono ?_
    rintro e w1 ⟨rfl, hn1⟩
    have bL1 := bL0.new hn1
    have bR1 := bR0.new hn1
    have N1 := N0.trans hn1
    have cL1 := bL1.cells
    have fL1 := bL1.frees
    have cR1 := bR1.cells
    have fR1 := bR1.frees
    have lR1 := bR1.lt
    have lL1 : w.heap.size < w1.heap.size := by omega
    clear bL0 bR0 N0 hn1
    go_wp2_with fail
    refine (implMT ho 1000 ak he s _).mono ?_
    rintro e w2 ⟨rfl, hn2⟩
    have bL2 := bL1.new hn2
    have bR2 := bR1.new hn2
    have N2 := N1.trans hn2
    have cL := bL2.cells
    have fL := bL2.frees
    have cR := bR2.cells
    have fR := bR2.frees
    have lR2 := bR2.lt
    have lL2 : w.heap.size < w2.heap.size := by omega
    clear bL1 bR1 N1 hn2
    rw [gt]
    go_wp2
    refine bodyPost_ret (v := .agg #[.int .i64 3, .int .i64 0, .int .i64 0, .int .i64 0, .int .i64 0]) (by simp [results, Try.results19, go_sem, cR]) rfl ⟨ret13 (by rw [hx.out]), ?_⟩
    simp (disch := first | exact ge1 | exact ge0) only [New.set13, N2]
  have hx : Hid (tkR ho ep ak he s = ⟨0, 1 - ho, ep + 1, s, s⟩) := by unfold tkR Hid; rw [if_pos hP.out, if_pos gt, if_neg ge]
  have ge' : (ep == 1000) = false := by simpa using ge
  have gl : ep < 1000 := by omega
  clear ge
  go_enter Try.func19, Try.ntmps19
  go_wp2_with fail
  refine (implLeF_is ho ep ak he 0 _ hz).mono ?_
  rintro e w1 ⟨rfl, hn1⟩
  have bL1 := bL0.new hn1
  have bR1 := bR0.new hn1
  have N1 := N0.trans hn1
  have cL1 := bL1.cells
  have fL1 := bL1.frees
  have cR1 := bR1.cells
  have fR1 := bR1.frees
  have lR1 := bR1.lt
  have lL1 : w.heap.size < w1.heap.size := by omega
  clear bL0 bR0 N0 hn1
  go_wp2_with fail
  refine (implMT ho ep ak he s _).mono ?_
  rintro e w2 ⟨rfl, hn2⟩
  have bL2 := bL1.new hn2
  have bR2 := bR1.new hn2
  have N2 := N1.trans hn2
  have cL := bL2.cells
  have fL := bL2.frees
  have cR := bR2.cells
  have fR := bR2.frees
  have lR2 := bR2.lt
  have lL2 : w.heap.size < w2.heap.size := by omega
  clear bL1 bR1 N1 hn2
  rw [gt]
  go_wp2
  refine bodyPost_ret (v := .agg #[.int .i64 0, .int .i64 (1 - ho), .int .i64 (ep + 1), .int .i64 s, .int .i64 s]) (by simp [results, Try.results19, go_sem, cR]) rfl ⟨ret13 (by rw [hx.out]), ?_⟩
  simp (disch := first | exact ge1 | exact ge0) only [New.set13, N2]

set_option maxHeartbeats 3200000 in
theorem specTl (ho ep ak he s : Int) (w : World) : Calls Try.prog 42 #[.agg #[.int .i64 ho, .int .i64 ep, .int .i64 ak, .int .i64 he], .int .i64 s] w fun e w' => e = .returned (lrV (tkR ho ep ak he s)) ∧ New w w' := by
  have N0 : New w ((w.alloc (.cells #[.int .i64 ho, .int .i64 ep, .int .i64 ak, .int .i64 he] 28)).alloc (.cells #[.int .i64 0, .int .i64 0, .int .i64 0, .int .i64 0, .int .i64 0] 36)) := ((New.refl w).alloc _).alloc _
  have bL0 : Blk ((w.alloc (.cells #[.int .i64 ho, .int .i64 ep, .int .i64 ak, .int .i64 he] 28)).alloc (.cells #[.int .i64 0, .int .i64 0, .int .i64 0, .int .i64 0, .int .i64 0] 36)) w.heap.size 28 #[.int .i64 ho, .int .i64 ep, .int .i64 ak, .int .i64 he] := (Blk.mk _ _ _ _ rfl).alloc _
  have bR0 : Blk ((w.alloc (.cells #[.int .i64 ho, .int .i64 ep, .int .i64 ak, .int .i64 he] 28)).alloc (.cells #[.int .i64 0, .int .i64 0, .int .i64 0, .int .i64 0, .int .i64 0] 36)) (w.heap.size + 1) 36 #[.int .i64 0, .int .i64 0, .int .i64 0, .int .i64 0, .int .i64 0] := Blk.mk _ _ _ _ (by simp)
  have ge0 : w.heap.size ≤ w.heap.size := Nat.le_refl _
  have ge1 : w.heap.size ≤ w.heap.size + 1 := by omega
  by_cases hp : LeP ho ep ak he
  case neg =>
    have hx : Hid (tkR ho ep ak he s = ⟨3, 0, 0, 0, 0⟩) := if_neg hp
    have hz := lf_bad hp
    clear hp
    go_enter Try.func42, Try.ntmps42
    go_wp2_with fail
    refine (specLeF_is ho ep ak he 3 _ hz).mono ?_
    rintro e w1 ⟨rfl, hn1⟩
    have bL1 := bL0.new hn1
    have bR1 := bR0.new hn1
    have N1 := N0.trans hn1
    have cL := bL1.cells
    have fL := bL1.frees
    have cR := bR1.cells
    have fR := bR1.frees
    have lR1 := bR1.lt
    have lL1 : w.heap.size < w1.heap.size := by omega
    clear bL0 bR0 N0 hn1
    go_wp2
    refine bodyPost_ret (v := .agg #[.int .i64 3, .int .i64 0, .int .i64 0, .int .i64 0, .int .i64 0]) (by simp [results, Try.results42, go_sem, cR]) rfl ⟨ret13 (by rw [hx.out]), ?_⟩
    simp (disch := first | exact ge1 | exact ge0) only [New.set13, N1]
  have hz := lf_ok hp
  have hP : Hid (LeP ho ep ak he) := hp
  obtain ⟨⟨p0, p1⟩, ⟨p2, p3⟩, -⟩ := hp
  by_cases gt : mtB ho ep ak he s = true
  case neg =>
    have hx : Hid (tkR ho ep ak he s = ⟨8, 0, 0, 0, 0⟩) := by unfold tkR Hid; rw [if_pos hP.out, if_neg gt]
    replace gt : mtB ho ep ak he s = false := by simpa using gt
    go_enter Try.func42, Try.ntmps42
    go_wp2_with fail
    refine (specLeF_is ho ep ak he 0 _ hz).mono ?_
    rintro e w1 ⟨rfl, hn1⟩
    have bL1 := bL0.new hn1
    have bR1 := bR0.new hn1
    have N1 := N0.trans hn1
    have cL1 := bL1.cells
    have fL1 := bL1.frees
    have cR1 := bR1.cells
    have fR1 := bR1.frees
    have lR1 := bR1.lt
    have lL1 : w.heap.size < w1.heap.size := by omega
    clear bL0 bR0 N0 hn1
    go_wp2_with fail
    refine (sTk13 ho ep ak he s _ hP.out).mono ?_
    rintro e w2 ⟨rfl, hn2⟩
    have bL2 := bL1.new hn2
    have bR2 := bR1.new hn2
    have N2 := N1.trans hn2
    have cL := bL2.cells
    have fL := bL2.frees
    have cR := bR2.cells
    have fR := bR2.frees
    have lR2 := bR2.lt
    have lL2 : w.heap.size < w2.heap.size := by omega
    clear bL1 bR1 N1 hn2
    rw [gt]
    go_wp2
    refine bodyPost_ret (v := .agg #[.int .i64 8, .int .i64 0, .int .i64 0, .int .i64 0, .int .i64 0]) (by simp [results, Try.results42, go_sem, cR]) rfl ⟨ret13 (by rw [hx.out]), ?_⟩
    simp (disch := first | exact ge1 | exact ge0) only [New.set13, N2]
  by_cases ge : ep = 1000
  case pos =>
    have hx : Hid (tkR ho ep ak he s = ⟨3, 0, 0, 0, 0⟩) := by unfold tkR Hid; rw [if_pos hP.out, if_pos gt, if_pos ge]
    subst ge
    go_enter Try.func42, Try.ntmps42
    go_wp2_with fail
    refine (specLeF_is ho 1000 ak he 0 _ hz).mono ?_
    rintro e w1 ⟨rfl, hn1⟩
    have bL1 := bL0.new hn1
    have bR1 := bR0.new hn1
    have N1 := N0.trans hn1
    have cL1 := bL1.cells
    have fL1 := bL1.frees
    have cR1 := bR1.cells
    have fR1 := bR1.frees
    have lR1 := bR1.lt
    have lL1 : w.heap.size < w1.heap.size := by omega
    clear bL0 bR0 N0 hn1
    go_wp2_with fail
    refine (sTk13 ho 1000 ak he s _ hP.out).mono ?_
    rintro e w2 ⟨rfl, hn2⟩
    have bL2 := bL1.new hn2
    have bR2 := bR1.new hn2
    have N2 := N1.trans hn2
    have cL := bL2.cells
    have fL := bL2.frees
    have cR := bR2.cells
    have fR := bR2.frees
    have lR2 := bR2.lt
    have lL2 : w.heap.size < w2.heap.size := by omega
    clear bL1 bR1 N1 hn2
    rw [gt]
    go_wp2
    refine bodyPost_ret (v := .agg #[.int .i64 3, .int .i64 0, .int .i64 0, .int .i64 0, .int .i64 0]) (by simp [results, Try.results42, go_sem, cR]) rfl ⟨ret13 (by rw [hx.out]), ?_⟩
    simp (disch := first | exact ge1 | exact ge0) only [New.set13, N2]
  have hx : Hid (tkR ho ep ak he s = ⟨0, 1 - ho, ep + 1, s, s⟩) := by unfold tkR Hid; rw [if_pos hP.out, if_pos gt, if_neg ge]
  have ge' : (ep == 1000) = false := by simpa using ge
  have gl : ep < 1000 := by omega
  clear ge
  go_enter Try.func42, Try.ntmps42
  go_wp2_with fail
  refine (specLeF_is ho ep ak he 0 _ hz).mono ?_
  rintro e w1 ⟨rfl, hn1⟩
  have bL1 := bL0.new hn1
  have bR1 := bR0.new hn1
  have N1 := N0.trans hn1
  have cL1 := bL1.cells
  have fL1 := bL1.frees
  have cR1 := bR1.cells
  have fR1 := bR1.frees
  have lR1 := bR1.lt
  have lL1 : w.heap.size < w1.heap.size := by omega
  clear bL0 bR0 N0 hn1
  go_wp2_with fail
  refine (sTk13 ho ep ak he s _ hP.out).mono ?_
  rintro e w2 ⟨rfl, hn2⟩
  have bL2 := bL1.new hn2
  have bR2 := bR1.new hn2
  have N2 := N1.trans hn2
  have cL := bL2.cells
  have fL := bL2.frees
  have cR := bR2.cells
  have fR := bR2.frees
  have lR2 := bR2.lt
  have lL2 : w.heap.size < w2.heap.size := by omega
  clear bL1 bR1 N1 hn2
  rw [gt]
  go_wp2
  refine bodyPost_ret (v := .agg #[.int .i64 0, .int .i64 (1 - ho), .int .i64 (ep + 1), .int .i64 s, .int .i64 s]) (by simp [results, Try.results42, go_sem, cR]) rfl ⟨ret13 (by rw [hx.out]), ?_⟩
  simp (disch := first | exact ge1 | exact ge0) only [New.set13, N2]

set_option maxHeartbeats 400000 in
theorem toLe_any (ho ep ak he : Int) (w : World) : Calls Try.prog 29 #[.agg #[.int .i64 ho, .int .i64 ep, .int .i64 ak, .int .i64 he]] w fun e w' => e = .returned (.agg #[.int .i64 ho, .int .i64 ep, .int .i64 ak, .int .i64 he]) ∧ New w w' := by
  go_enter Try.func29, Try.ntmps29
  go_wp2
  refine bodyPost_ret (v := .agg #[.int .i64 ho, .int .i64 ep, .int .i64 ak, .int .i64 he]) (by simp [results, Try.results29, go_sem]) rfl ⟨rfl, ?_⟩
  exact ((((New.refl w).alloc _).alloc _).alloc _)

set_option maxHeartbeats 400000 in
theorem eqLe_any (ho ep ak he : Int) (w : World) : Calls Try.prog 61 #[.agg #[.int .i64 ho, .int .i64 ep, .int .i64 ak, .int .i64 he], .agg #[.int .i64 ho, .int .i64 ep, .int .i64 ak, .int .i64 he]] w fun e w' => e = .returned (.bool true) ∧ New w w' := by
  have h0 : (ho != ho) = false := by simp
  have h1 : (ep != ep) = false := by simp
  have h2 : (ak != ak) = false := by simp
  have h3 : (he != he) = false := by simp
  go_enter Try.func61, Try.ntmps61
  go_wp2
  go_ret
  exact ⟨rfl, ((New.refl w).alloc _).alloc _⟩

set_option maxHeartbeats 400000 in
theorem eqLr_any (r : Lr) (w : World) : Calls Try.prog 34 #[lrV r, lrV r] w fun e w' => e = .returned (.bool true) ∧ New w w' := by
  obtain ⟨c, ho, ep, ak, he⟩ := r
  have h0 : (c != c) = false := by simp
  go_enter Try.func34, Try.ntmps34
  go_wp2_with fail
  refine (eqLe_any ho ep ak he _).mono ?_
  rintro e w1 ⟨rfl, hn1⟩
  go_wp2
  go_ret
  exact ⟨rfl, (((New.refl w).alloc _).alloc _).trans hn1⟩

end Go.Proofs.Ytpbmbnckdmjdhaa
