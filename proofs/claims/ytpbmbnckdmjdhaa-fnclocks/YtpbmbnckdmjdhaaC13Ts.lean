/- What is proved here: what the model's TickClock answers, for lists of at most 1048576 numbers. -/
import Derived.Test.YtpbmbnckdmjdhaaC13Tj
namespace Go.Proofs.Ytpbmbnckdmjdhaa
open Go.RowKit
set_option linter.unusedVariables false
set_option linter.unusedSimpArgs false
set_option maxRecDepth 100000

set_option maxHeartbeats 3200000 in
theorem sTick_f (nw t : Int) (a oa : Option Addr) (n c m d : Nat) (xs os : List Int) (w : World) (h : NsAt w a xs) (hn : xs.length = n) (hm : n ≤ 1048576) (ho : NsAt w oa os) (hl : os.length = m) (hk : m ≤ 1048576) (z : Int) (hf : ckF nw xs = z) (hz : ¬ z = 0) :
    Calls Try.prog 25 #[.agg #[.int .i64 nw, .slice a n c], .int .i64 t, .slice oa m d] w (CkAns w ⟨z, 0, []⟩) := by
  have N0 : New w ((w.alloc (.cells #[.int .i64 nw, .slice a n c] 26)).alloc (.cells #[.int .i64 0, .int .i64 0, .slice none 0 0] 30)) := ((New.refl w).alloc _).alloc _
  have bT0 : Blk ((w.alloc (.cells #[.int .i64 nw, .slice a n c] 26)).alloc (.cells #[.int .i64 0, .int .i64 0, .slice none 0 0] 30)) w.heap.size 26 #[.int .i64 nw, .slice a n c] := (Blk.mk _ _ _ _ rfl).alloc _
  have bR0 : Blk ((w.alloc (.cells #[.int .i64 nw, .slice a n c] 26)).alloc (.cells #[.int .i64 0, .int .i64 0, .slice none 0 0] 30)) (w.heap.size + 1) 30 #[.int .i64 0, .int .i64 0, .slice none 0 0] := Blk.mk _ _ _ _ (by simp)
  have ge1 : w.heap.size ≤ w.heap.size + 1 := by omega
  have hz' : (z != 0) = true := by simpa using hz
  go_enter Try.func25, Try.ntmps25
  go_wp2_with fail
  refine (specCkF_is nw a n c xs z _ (h.new N0) hn hm hf).mono ?_
  rintro e w1 ⟨rfl, hn1⟩
  have bT1 := bT0.new hn1
  have bR1 := bR0.new hn1
  have N1 := N0.trans hn1
  have cT := bT1.cells
  have cR := bR1.cells
  have fR := bR1.frees
  have lR := bR1.lt
  have lT : w.heap.size < w1.heap.size := by omega
  clear bT0 bR0 N0 hn1
  go_wp2
  refine bodyPost_ret (v := .agg #[.int .i64 z, .int .i64 0, .slice none 0 0]) (by simp [results, Try.results25, go_sem, cR]) rfl ⟨_, rfl, .inl ⟨rfl, rfl⟩, ?_⟩
  simp (disch := exact ge1) only [New.set13, New.drewN_iff, N1]

set_option maxHeartbeats 3200000 in
theorem sTick_b (nw t : Int) (a oa : Option Addr) (n c m d : Nat) (xs os : List Int) (w : World) (h : NsAt w a xs) (hn : xs.length = n) (hm : n ≤ 1048576) (ho : NsAt w oa os) (hl : os.length = m) (hk : m ≤ 1048576) (hf : ckF nw xs = 0) (hz : ¬ ((0 ≤ t ∧ t ≤ 1000) ∧ nw + t ≤ 1000000000)) :
    Calls Try.prog 25 #[.agg #[.int .i64 nw, .slice a n c], .int .i64 t, .slice oa m d] w (CkAns w ⟨3, 0, []⟩) := by
  have N0 : New w ((w.alloc (.cells #[.int .i64 nw, .slice a n c] 26)).alloc (.cells #[.int .i64 0, .int .i64 0, .slice none 0 0] 30)) := ((New.refl w).alloc _).alloc _
  have bT0 : Blk ((w.alloc (.cells #[.int .i64 nw, .slice a n c] 26)).alloc (.cells #[.int .i64 0, .int .i64 0, .slice none 0 0] 30)) w.heap.size 26 #[.int .i64 nw, .slice a n c] := (Blk.mk _ _ _ _ rfl).alloc _
  have bR0 : Blk ((w.alloc (.cells #[.int .i64 nw, .slice a n c] 26)).alloc (.cells #[.int .i64 0, .int .i64 0, .slice none 0 0] 30)) (w.heap.size + 1) 30 #[.int .i64 0, .int .i64 0, .slice none 0 0] := Blk.mk _ _ _ _ (by simp)
  have ge1 : w.heap.size ≤ w.heap.size + 1 := by omega
  obtain ⟨⟨h0, h1⟩, -⟩ := ckF_zero hf
  by_cases g0 : 0 ≤ t ∧ t ≤ 1000
  case neg =>
    go_enter Try.func25, Try.ntmps25
    go_wp2_with fail
    refine (specCkF_is nw a n c xs 0 _ (h.new N0) hn hm hf).mono ?_
    rintro e w1 ⟨rfl, hn1⟩
    have bT1 := bT0.new hn1
    have bR1 := bR0.new hn1
    have N1 := N0.trans hn1
    have cT := bT1.cells
    have cR := bR1.cells
    have fR := bR1.frees
    have lR := bR1.lt
    have lT : w.heap.size < w1.heap.size := by omega
    clear bT0 bR0 N0 hn1
    go_wp2_with fail
    refine (sin13_no _ _ _ _ g0).mono ?_
    rintro e wz ⟨rfl, hwz⟩
    obtain rfl := hwz.symm
    go_wp2
    refine bodyPost_ret (v := .agg #[.int .i64 3, .int .i64 0, .slice none 0 0]) (by simp [results, Try.results25, go_sem, cR]) rfl ⟨_, rfl, .inl ⟨rfl, rfl⟩, ?_⟩
    simp (disch := exact ge1) only [New.set13, New.drewN_iff, N1]
  have g2 : 1000000000 < nw + t := by omega
  go_enter Try.func25, Try.ntmps25
  go_wp2_with fail
  refine (specCkF_is nw a n c xs 0 _ (h.new N0) hn hm hf).mono ?_
  rintro e w1 ⟨rfl, hn1⟩
  have bT1 := bT0.new hn1
  have bR1 := bR0.new hn1
  have N1 := N0.trans hn1
  have cT := bT1.cells
  have cR := bR1.cells
  have fR := bR1.frees
  have lR := bR1.lt
  have lT : w.heap.size < w1.heap.size := by omega
  clear bT0 bR0 N0 hn1
  go_wp2_with fail
  refine (in_yes _ _ _ _ g0).mono ?_
  rintro e wz ⟨rfl, hwz⟩
  obtain rfl := hwz.symm
  go_wp2
  refine bodyPost_ret (v := .agg #[.int .i64 3, .int .i64 0, .slice none 0 0]) (by simp [results, Try.results25, go_sem, cR]) rfl ⟨_, rfl, .inl ⟨rfl, rfl⟩, ?_⟩
  simp (disch := exact ge1) only [New.set13, New.drewN_iff, N1]

set_option maxHeartbeats 3200000 in
theorem sTick_m (nw t : Int) (a oa : Option Addr) (n c m d : Nat) (xs os : List Int) (w : World) (h : NsAt w a xs) (hn : xs.length = n) (hm : n ≤ 1048576) (ho : NsAt w oa os) (hl : os.length = m) (hk : m ≤ 1048576) (hf : ckF nw xs = 0) (hz : (0 ≤ t ∧ t ≤ 1000) ∧ nw + t ≤ 1000000000) (hx : ¬ m = 2) :
    Calls Try.prog 25 #[.agg #[.int .i64 nw, .slice a n c], .int .i64 t, .slice oa m d] w (CkAns w ⟨1, 0, []⟩) := by
  have N0 : New w ((w.alloc (.cells #[.int .i64 nw, .slice a n c] 26)).alloc (.cells #[.int .i64 0, .int .i64 0, .slice none 0 0] 30)) := ((New.refl w).alloc _).alloc _
  have bT0 : Blk ((w.alloc (.cells #[.int .i64 nw, .slice a n c] 26)).alloc (.cells #[.int .i64 0, .int .i64 0, .slice none 0 0] 30)) w.heap.size 26 #[.int .i64 nw, .slice a n c] := (Blk.mk _ _ _ _ rfl).alloc _
  have bR0 : Blk ((w.alloc (.cells #[.int .i64 nw, .slice a n c] 26)).alloc (.cells #[.int .i64 0, .int .i64 0, .slice none 0 0] 30)) (w.heap.size + 1) 30 #[.int .i64 0, .int .i64 0, .slice none 0 0] := Blk.mk _ _ _ _ (by simp)
  have ge1 : w.heap.size ≤ w.heap.size + 1 := by omega
  obtain ⟨⟨h0, h1⟩, -⟩ := ckF_zero hf
  obtain ⟨g0, t2⟩ := hz
  have t0 := g0.1
  have t1 := g0.2
  have g3 : ((m : Int) != 2) = true := by simp; omega
  have HL : Hid (os.length = m) := hl
  clear hl hx
  go_enter Try.func25, Try.ntmps25
  go_wp2_with fail
  refine (specCkF_is nw a n c xs 0 _ (h.new N0) hn hm hf).mono ?_
  rintro e w1 ⟨rfl, hn1⟩
  have bT1 := bT0.new hn1
  have bR1 := bR0.new hn1
  have N1 := N0.trans hn1
  have cT := bT1.cells
  have cR := bR1.cells
  have fR := bR1.frees
  have lR := bR1.lt
  have lT : w.heap.size < w1.heap.size := by omega
  clear bT0 bR0 N0 hn1
  go_wp2_with fail
  refine (in_yes _ _ _ _ g0).mono ?_
  rintro e wz ⟨rfl, hwz⟩
  obtain rfl := hwz.symm
  go_wp2
  refine bodyPost_ret (v := .agg #[.int .i64 1, .int .i64 0, .slice none 0 0]) (by simp [results, Try.results25, go_sem, cR]) rfl ⟨_, rfl, .inl ⟨rfl, rfl⟩, ?_⟩
  simp (disch := exact ge1) only [New.set13, New.drewN_iff, N1]

theorem max13 (a b : Int) (w : World) : Calls Try.prog 57 #[.int .i64 a, .int .i64 b] w fun e w' => e = .returned (.int .i64 (max a b)) ∧ w' = w := by
  by_cases h : b < a
  · have hm : max a b = a := by omega
    go_enter Try.func57, Try.ntmps57
    go_wp2
    go_ret
    exact ⟨ret_i64 (by first | exact hm.symm | rfl), rfl⟩
  · have hm : max a b = b := by omega
    go_enter Try.func57, Try.ntmps57
    go_wp2
    go_ret
    exact ⟨ret_i64 (by first | exact hm.symm | rfl), rfl⟩

end Go.Proofs.Ytpbmbnckdmjdhaa
