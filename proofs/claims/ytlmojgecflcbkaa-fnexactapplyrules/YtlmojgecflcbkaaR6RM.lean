/- What is proved here: what RuleMatches answers, in the program and in the model, for every path of at most 1048576 numbers. -/
import Derived.Test.YtlmojgecflcbkaaR6Ma
namespace Go.Proofs.Ytlmojgecflcbkaa
open Go.RowKit Go.Sort
set_option linter.unusedVariables false

/-- No fault, and the rule matches. -/
def rm (a l ls ms s : Int) (d : Bool) (lc pp p q o : Int) (xs : List Int) (nx md lo : Int) : Bool := decide (rf a l ls ms s d lc pp = 0) && decide (pf p q = 0) && decide (af o xs nx md lo = 0) && mt a l ls ms s p q xs

theorem rf_three (a l ls ms s : Int) (d : Bool) (lc pp : Int) : rf a l ls ms s d lc pp = 0 ∨ rf a l ls ms s d lc pp = 1 ∨ rf a l ls ms s d lc pp = 3 := by
  unfold rf
  split
  · split
    · split
      · exact .inr (.inl rfl)
      · exact .inl rfl
    · exact .inr (.inr rfl)
  · exact pf_three a l

theorem afc_two : ∀ xs : List Int, afc xs = 0 ∨ afc xs = 3
  | [] => .inl rfl
  | x :: r => by
    unfold afc
    split
    · exact afc_two r
    · exact .inr rfl

theorem af_three (o : Int) (xs : List Int) (nx md lo : Int) : af o xs nx md lo = 0 ∨ af o xs nx md lo = 2 ∨ af o xs nx md lo = 3 := by
  unfold af
  split
  · split
    · exact .inr (.inl rfl)
    · rcases afc_two xs with h | h
      · exact .inl h
      · exact .inr (.inr h)
  · exact .inr (.inr rfl)

theorem New.drew_mark6 {a b : World} : New a.drew b ↔ New a b := ⟨fun h => ⟨h.os, h.tape, h.output, h.size, h.block⟩, fun h => ⟨h.os, h.tape, h.output, h.size, h.block⟩⟩

theorem implAF_is (o nx md lo : Int) (x : Option Addr) (n c : Nat) (xs : List Int) (k : Int) (w : World) (h : NsAt w x xs) (hn : xs.length = n) (hm : n ≤ 1048576) (e : af o xs nx md lo = k) : Calls Try.prog 46 #[.agg #[.int .i64 o, .slice x n c, .int .i64 nx, .int .i64 md, .int .i64 lo]] w fun e w' => e = .returned (.int .i64 k) ∧ New w w' := e ▸ implAF o nx md lo x n c xs w h hn hm

theorem specAF_is (o nx md lo : Int) (x : Option Addr) (n c : Nat) (xs : List Int) (k : Int) (w : World) (h : NsAt w x xs) (hn : xs.length = n) (hm : n ≤ 1048576) (e : af o xs nx md lo = k) : Calls Try.prog 43 #[.agg #[.int .i64 o, .slice x n c, .int .i64 nx, .int .i64 md, .int .i64 lo]] w fun e w' => e = .returned (.int .i64 k) ∧ New w w' := e ▸ specAF o nx md lo x n c xs w h hn hm

set_option maxHeartbeats 3200000 in
theorem implRM (a l ls ms s : Int) (d : Bool) (lc pp : Int) (p q : Int) (o nx md lo : Int) (x : Option Addr) (n c : Nat) (xs : List Int) (v : Bool) (w : World) (h : NsAt w x xs) (hn : xs.length = n) (hm : n ≤ 1048576) (hv : rm a l ls ms s d lc pp p q o xs nx md lo = v) :
    Calls Try.prog 21 #[.agg #[.int .i64 a, .int .i64 l, .int .i64 ls, .int .i64 ms, .int .i64 s, .bool d, .int .i64 lc, .int .i64 pp], .agg #[.int .i64 p, .int .i64 q], .agg #[.int .i64 o, .slice x n c, .int .i64 nx, .int .i64 md, .int .i64 lo]] w fun e w' => e = .returned (.bool v) ∧ New w w' := by
  have HV : Hid (rm a l ls ms s d lc pp p q o xs nx md lo = v) := hv
  clear hv
  have N0 : New w (((w.alloc (.cells #[.int .i64 a, .int .i64 l, .int .i64 ls, .int .i64 ms, .int .i64 s, .bool d, .int .i64 lc, .int .i64 pp] 29)).alloc (.cells #[.int .i64 p, .int .i64 q] 27)).alloc (.cells #[.int .i64 o, .slice x n c, .int .i64 nx, .int .i64 md, .int .i64 lo] 45)) := (((New.refl w).alloc _).alloc _).alloc _
  have b0 : Blk (((w.alloc (.cells #[.int .i64 a, .int .i64 l, .int .i64 ls, .int .i64 ms, .int .i64 s, .bool d, .int .i64 lc, .int .i64 pp] 29)).alloc (.cells #[.int .i64 p, .int .i64 q] 27)).alloc (.cells #[.int .i64 o, .slice x n c, .int .i64 nx, .int .i64 md, .int .i64 lo] 45)) w.heap.size 29 #[.int .i64 a, .int .i64 l, .int .i64 ls, .int .i64 ms, .int .i64 s, .bool d, .int .i64 lc, .int .i64 pp] := ((Blk.mk _ _ _ _ rfl).alloc _).alloc _
  have b1 : Blk (((w.alloc (.cells #[.int .i64 a, .int .i64 l, .int .i64 ls, .int .i64 ms, .int .i64 s, .bool d, .int .i64 lc, .int .i64 pp] 29)).alloc (.cells #[.int .i64 p, .int .i64 q] 27)).alloc (.cells #[.int .i64 o, .slice x n c, .int .i64 nx, .int .i64 md, .int .i64 lo] 45)) (w.heap.size + 1) 27 #[.int .i64 p, .int .i64 q] := (Blk.mk _ _ _ _ (by simp)).alloc _
  have b2 : Blk (((w.alloc (.cells #[.int .i64 a, .int .i64 l, .int .i64 ls, .int .i64 ms, .int .i64 s, .bool d, .int .i64 lc, .int .i64 pp] 29)).alloc (.cells #[.int .i64 p, .int .i64 q] 27)).alloc (.cells #[.int .i64 o, .slice x n c, .int .i64 nx, .int .i64 md, .int .i64 lo] 45)) (w.heap.size + 1 + 1) 45 #[.int .i64 o, .slice x n c, .int .i64 nx, .int .i64 md, .int .i64 lo] := Blk.mk _ _ _ _ (by simp)
  by_cases g1 : rf a l ls ms s d lc pp = 0
  case neg =>
    have hf : Hid (v = false) := by unfold Hid; rw [← HV.out]; simp [rm, g1]
    have q0 := rf_three a l ls ms s d lc pp
    clear HV
    rcases q0 with q0 | q0 | q0
    · exact absurd q0 g1
    · have g1 := q0
      go_enter Try.func21, Try.ntmps21
      go_wp2_with fail
      have C0 := blk_regrown b0
      have C1 := blk_regrown b1
      have C2 := blk_regrown b2
      refine wp_region_quiet_below (by kernel_rfl) (by kernel_rfl) ?_
      repeat (go_big_quiet_step (first | (go_at_call 11; exact calls_regrown (implRF_is a l ls ms s d lc pp 1 _ g1))))
      refine wpQuiet_nil ?_
      rintro w1 hn1
      replace hn1 := new_of_regrown hn1
      go_wp2
      go_ret
      exact ⟨ret_bool hf.out.symm, N0.trans hn1⟩
    · have g1 := q0
      go_enter Try.func21, Try.ntmps21
      go_wp2_with fail
      have C0 := blk_regrown b0
      have C1 := blk_regrown b1
      have C2 := blk_regrown b2
      refine wp_region_quiet_below (by kernel_rfl) (by kernel_rfl) ?_
      repeat (go_big_quiet_step (first | (go_at_call 11; exact calls_regrown (implRF_is a l ls ms s d lc pp 3 _ g1))))
      refine wpQuiet_nil ?_
      rintro w1 hn1
      replace hn1 := new_of_regrown hn1
      go_wp2
      go_ret
      exact ⟨ret_bool hf.out.symm, N0.trans hn1⟩
  by_cases g2 : pf p q = 0
  case neg =>
    have hf : Hid (v = false) := by unfold Hid; rw [← HV.out]; simp [rm, g2]
    have q0 := pf_three p q
    clear HV
    rcases q0 with q0 | q0 | q0
    · exact absurd q0 g2
    · have g2 := q0
      go_enter Try.func21, Try.ntmps21
      go_wp2_with fail
      have C0 := blk_regrown b0
      have C1 := blk_regrown b1
      have C2 := blk_regrown b2
      refine wp_region_quiet_below (by kernel_rfl) (by kernel_rfl) ?_
      repeat (go_big_quiet_step (first | (go_at_call 11; exact calls_regrown (implRF_is a l ls ms s d lc pp 0 _ g1)) | (go_at_call 37; exact calls_regrown (implPF_is p q 1 _ g2))))
      refine wpQuiet_nil ?_
      rintro w1 hn1
      replace hn1 := new_of_regrown hn1
      go_wp2
      go_ret
      exact ⟨ret_bool hf.out.symm, N0.trans hn1⟩
    · have g2 := q0
      go_enter Try.func21, Try.ntmps21
      go_wp2_with fail
      have C0 := blk_regrown b0
      have C1 := blk_regrown b1
      have C2 := blk_regrown b2
      refine wp_region_quiet_below (by kernel_rfl) (by kernel_rfl) ?_
      repeat (go_big_quiet_step (first | (go_at_call 11; exact calls_regrown (implRF_is a l ls ms s d lc pp 0 _ g1)) | (go_at_call 37; exact calls_regrown (implPF_is p q 3 _ g2))))
      refine wpQuiet_nil ?_
      rintro w1 hn1
      replace hn1 := new_of_regrown hn1
      go_wp2
      go_ret
      exact ⟨ret_bool hf.out.symm, N0.trans hn1⟩
  by_cases g3 : af o xs nx md lo = 0
  case neg =>
    have hf : Hid (v = false) := by unfold Hid; rw [← HV.out]; simp [rm, g3]
    have q0 := af_three o xs nx md lo
    clear HV
    rcases q0 with q0 | q0 | q0
    · exact absurd q0 g3
    · have g3 := q0
      go_enter Try.func21, Try.ntmps21
      go_wp2_with fail
      have C0 := blk_regrown b0
      have C1 := blk_regrown b1
      have C2 := blk_regrown b2
      refine wp_region_quiet_below (by kernel_rfl) (by kernel_rfl) ?_
      repeat (go_big_quiet_step (first | (go_at_call 11; exact calls_regrown (implRF_is a l ls ms s d lc pp 0 _ g1)) | (go_at_call 37; exact calls_regrown (implPF_is p q 0 _ g2)) | (go_at_call 46; exact calls_regrown (implAF_is o nx md lo x n c xs 2 _ ((h.new N0).new (new_regrown _ _ _)) hn hm g3))))
      refine wpQuiet_nil ?_
      rintro w1 hn1
      replace hn1 := new_of_regrown hn1
      go_wp2
      go_ret
      exact ⟨ret_bool hf.out.symm, N0.trans hn1⟩
    · have g3 := q0
      go_enter Try.func21, Try.ntmps21
      go_wp2_with fail
      have C0 := blk_regrown b0
      have C1 := blk_regrown b1
      have C2 := blk_regrown b2
      refine wp_region_quiet_below (by kernel_rfl) (by kernel_rfl) ?_
      repeat (go_big_quiet_step (first | (go_at_call 11; exact calls_regrown (implRF_is a l ls ms s d lc pp 0 _ g1)) | (go_at_call 37; exact calls_regrown (implPF_is p q 0 _ g2)) | (go_at_call 46; exact calls_regrown (implAF_is o nx md lo x n c xs 3 _ ((h.new N0).new (new_regrown _ _ _)) hn hm g3))))
      refine wpQuiet_nil ?_
      rintro w1 hn1
      replace hn1 := new_of_regrown hn1
      go_wp2
      go_ret
      exact ⟨ret_bool hf.out.symm, N0.trans hn1⟩
  have g4 : mt a l ls ms s p q xs = v := by rw [← HV.out]; simp [rm, g1, g2, g3]
  go_enter Try.func21, Try.ntmps21
  go_wp2_with fail
  have d0 := b0
  have d1 := b1
  have d2 := b2
  have dN := N0
  have dh := h.new N0
  go_region_held3 (fun W => (∀ j, W.cell? ⟨w.heap.size, j, none⟩ = #[Value.int .i64 a, .int .i64 l, .int .i64 ls, .int .i64 ms, .int .i64 s, .bool d, .int .i64 lc, .int .i64 pp][j]?) ∧ (∀ j, W.cell? ⟨w.heap.size + 1, j, none⟩ = #[Value.int .i64 p, .int .i64 q][j]?) ∧ (∀ j, W.cell? ⟨w.heap.size + 1 + 1, j, none⟩ = #[Value.int .i64 o, .slice x n c, .int .i64 nx, .int .i64 md, .int .i64 lo][j]?)) (exact ⟨d0.cells, d1.cells, d2.cells⟩)
    (first
      | (go_at_call 11; refine (implRF_is a l ls ms s d lc pp 0 _ g1).mono ?_; rintro e wx ⟨rfl, h1⟩; (try simp only [New.drew_mark6] at h1); have d0 := d0.new h1; have d1 := d1.new h1; have d2 := d2.new h1; have dN := dN.trans h1; have dh := dh.new h1)
      | (go_at_call 37; refine (implPF_is p q 0 _ g2).mono ?_; rintro e wx ⟨rfl, h2⟩; (try simp only [New.drew_mark6] at h2); have d0 := d0.new h2; have d1 := d1.new h2; have d2 := d2.new h2; have dN := dN.trans h2; have dh := dh.new h2)
      | (go_at_call 46; refine (implAF_is o nx md lo x n c xs 0 _ (by first | exact dh | exact dh.new ((New.refl _).drew)) hn hm g3).mono ?_; rintro e wx ⟨rfl, h3⟩; (try simp only [New.drew_mark6] at h3); have d0 := d0.new h3; have d1 := d1.new h3; have d2 := d2.new h3; have dN := dN.trans h3; have dh := dh.new h3)
      | (go_at_call 47; refine (mk_matcher a l ls ms s d lc pp _).mono ?_; rintro e wx ⟨B, rfl, hB, bB, h4⟩; (try simp only [New.drew_mark6] at h4); have d0 := d0.new h4; have d1 := d1.new h4; have d2 := d2.new h4; have dN := dN.trans h4; have dh := dh.new h4)
      | (go_at_call 64; refine (matcher_any a l ls ms s d lc pp p q o nx md lo x n c xs B v _ bB dh hn hm g4).mono ?_; rintro e wx ⟨rfl, h5⟩; (try simp only [New.drew_mark6] at h5); have d0 := d0.new h5; have d1 := d1.new h5; have d2 := d2.new h5; have dN := dN.trans h5; have dh := dh.new h5))
  go_wp2
  go_ret
  exact ⟨rfl, dN⟩

set_option maxHeartbeats 3200000 in
theorem specRM (a l ls ms s : Int) (d : Bool) (lc pp : Int) (p q : Int) (o nx md lo : Int) (x : Option Addr) (n c : Nat) (xs : List Int) (v : Bool) (w : World) (h : NsAt w x xs) (hn : xs.length = n) (hm : n ≤ 1048576) (hv : rm a l ls ms s d lc pp p q o xs nx md lo = v) :
    Calls Try.prog 18 #[.agg #[.int .i64 a, .int .i64 l, .int .i64 ls, .int .i64 ms, .int .i64 s, .bool d, .int .i64 lc, .int .i64 pp], .agg #[.int .i64 p, .int .i64 q], .agg #[.int .i64 o, .slice x n c, .int .i64 nx, .int .i64 md, .int .i64 lo]] w fun e w' => e = .returned (.bool v) ∧ New w w' := by
  have HV : Hid (rm a l ls ms s d lc pp p q o xs nx md lo = v) := hv
  clear hv
  have N0 : New w (((w.alloc (.cells #[.int .i64 a, .int .i64 l, .int .i64 ls, .int .i64 ms, .int .i64 s, .bool d, .int .i64 lc, .int .i64 pp] 29)).alloc (.cells #[.int .i64 p, .int .i64 q] 27)).alloc (.cells #[.int .i64 o, .slice x n c, .int .i64 nx, .int .i64 md, .int .i64 lo] 45)) := (((New.refl w).alloc _).alloc _).alloc _
  have b0 : Blk (((w.alloc (.cells #[.int .i64 a, .int .i64 l, .int .i64 ls, .int .i64 ms, .int .i64 s, .bool d, .int .i64 lc, .int .i64 pp] 29)).alloc (.cells #[.int .i64 p, .int .i64 q] 27)).alloc (.cells #[.int .i64 o, .slice x n c, .int .i64 nx, .int .i64 md, .int .i64 lo] 45)) w.heap.size 29 #[.int .i64 a, .int .i64 l, .int .i64 ls, .int .i64 ms, .int .i64 s, .bool d, .int .i64 lc, .int .i64 pp] := ((Blk.mk _ _ _ _ rfl).alloc _).alloc _
  have b1 : Blk (((w.alloc (.cells #[.int .i64 a, .int .i64 l, .int .i64 ls, .int .i64 ms, .int .i64 s, .bool d, .int .i64 lc, .int .i64 pp] 29)).alloc (.cells #[.int .i64 p, .int .i64 q] 27)).alloc (.cells #[.int .i64 o, .slice x n c, .int .i64 nx, .int .i64 md, .int .i64 lo] 45)) (w.heap.size + 1) 27 #[.int .i64 p, .int .i64 q] := (Blk.mk _ _ _ _ (by simp)).alloc _
  have b2 : Blk (((w.alloc (.cells #[.int .i64 a, .int .i64 l, .int .i64 ls, .int .i64 ms, .int .i64 s, .bool d, .int .i64 lc, .int .i64 pp] 29)).alloc (.cells #[.int .i64 p, .int .i64 q] 27)).alloc (.cells #[.int .i64 o, .slice x n c, .int .i64 nx, .int .i64 md, .int .i64 lo] 45)) (w.heap.size + 1 + 1) 45 #[.int .i64 o, .slice x n c, .int .i64 nx, .int .i64 md, .int .i64 lo] := Blk.mk _ _ _ _ (by simp)
  go_enter Try.func18, Try.ntmps18
  go_wp2_with fail
  by_cases g1 : rf a l ls ms s d lc pp = 0
  case neg =>
    have hf : Hid (v = false) := by unfold Hid; rw [← HV.out]; simp [rm, g1]
    have e1 : (rf a l ls ms s d lc pp == 0) = false := by simpa using g1
    refine (specRF a l ls ms s d lc pp _).mono ?_
    rintro e w1 ⟨rfl, hn1⟩
    go_wp2
    go_ret
    exact ⟨ret_bool hf.out.symm, N0.trans hn1⟩
  refine (specRF_is a l ls ms s d lc pp 0 _ g1).mono ?_
  rintro e w1 ⟨rfl, hn1⟩
  have d0 := b0.new hn1
  have d1 := b1.new hn1
  have d2 := b2.new hn1
  have N1 := N0.trans hn1
  have c0 := d0.cells
  have c1 := d1.cells
  have c2 := d2.cells
  clear b0 b1 b2 N0 hn1
  go_wp2_with fail
  by_cases g2 : pf p q = 0
  case neg =>
    have hf : Hid (v = false) := by unfold Hid; rw [← HV.out]; simp [rm, g2]
    have e1 : (pf p q == 0) = false := by simpa using g2
    refine (specPF p q _).mono ?_
    rintro e w2 ⟨rfl, hn2⟩
    go_wp2
    go_ret
    exact ⟨ret_bool hf.out.symm, N1.trans hn2⟩
  refine (specPF_is p q 0 _ g2).mono ?_
  rintro e w2 ⟨rfl, hn2⟩
  have b0 := d0.new hn2
  have b1 := d1.new hn2
  have b2 := d2.new hn2
  have N2 := N1.trans hn2
  clear c0 c1 c2 d0 d1 d2 N1 hn2
  have c0 := b0.cells
  have c1 := b1.cells
  have c2 := b2.cells
  go_wp2_with fail
  by_cases g3 : af o xs nx md lo = 0
  case neg =>
    have hf : Hid (v = false) := by unfold Hid; rw [← HV.out]; simp [rm, g3]
    have e1 : (af o xs nx md lo == 0) = false := by simpa using g3
    refine (specAF o nx md lo x n c xs _ (h.new N2) hn hm).mono ?_
    rintro e w3 ⟨rfl, hn3⟩
    go_wp2
    go_ret
    exact ⟨ret_bool hf.out.symm, N2.trans hn3⟩
  refine (specAF_is o nx md lo x n c xs 0 _ (h.new N2) hn hm g3).mono ?_
  rintro e w3 ⟨rfl, hn3⟩
  have d0 := b0.new hn3
  have d1 := b1.new hn3
  have d2 := b2.new hn3
  have N3 := N2.trans hn3
  clear c0 c1 c2 b0 b1 b2 N2 hn3
  have c0 := d0.cells
  have c1 := d1.cells
  have c2 := d2.cells
  have g4 : mt a l ls ms s p q xs = v := by rw [← HV.out]; simp [rm, g1, g2, g3]
  go_wp2_with fail
  refine (l6M_any a l ls ms s d lc pp p q o nx md lo x n c xs v _ (h.new N3) hn hm g4).mono ?_
  rintro e w4 ⟨rfl, hn4⟩
  go_wp2
  go_ret
  exact ⟨rfl, N3.trans hn4⟩

end Go.Proofs.Ytlmojgecflcbkaa
