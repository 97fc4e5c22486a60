/- What is proved here: what RuleMatches answers, in the program and in the model, for every path of at most 1048576 numbers. -/
import Derived.Test.YtidibaknahfmmaaR6Ma
namespace Go.Proofs.Ytidibaknahfmmaa
open Go.RowKit Go.Sort
set_option linter.unusedVariables false

/-- No fault, and the rule matches. -/
def rm (a l ls ms s : Int) (d : Bool) (lc pp p q o : Int) (xs : List Int) (nx md lo : Int) : Bool := decide (rf a l ls ms s d lc pp = 0) && decide (pf p q = 0) && decide (af o xs nx md lo = 0) && mt a l ls ms s p q xs

theorem rf_three (a l ls ms s : Int) (d : Bool) (lc pp : Int) : rf a l ls ms s d lc pp = 0 ∨ rf a l ls ms s d lc pp = 1 ∨ rf a l ls ms s d lc pp = 3 := by
  unfold rf
  split
  · split
    · split
      · exact .inr (.inl rfl)
      · exact .inl rfl
    · exact .inr (.inr rfl)
  · exact pf_three a l

theorem afc_two : ∀ xs : List Int, afc xs = 0 ∨ afc xs = 3
  | [] => .inl rfl
  | x :: r => by
    unfold afc
    split
    · exact afc_two r
    · exact .inr rfl

theorem af_three (o : Int) (xs : List Int) (nx md lo : Int) : af o xs nx md lo = 0 ∨ af o xs nx md lo = 2 ∨ af o xs nx md lo = 3 := by
  unfold af
  split
  · split
    · exact .inr (.inl rfl)
    · rcases afc_two xs with h | h
      · exact .inl h
      · exact .inr (.inr h)
  · exact .inr (.inr rfl)

theorem New.drew_mark6 {a b : World} : New a.drew b ↔ New a b := ⟨fun h => ⟨h.os, h.tape, h.output, h.size, h.block⟩, fun h => ⟨h.os, h.tape, h.output, h.size, h.block⟩⟩

theorem implAF_is (o nx md lo : Int) (x : Option Addr) (n c : Nat) (xs : List Int) (k : Int) (w : World) (h : NsAt w x xs) (hn : xs.length = n) (hm : n ≤ 1048576) (e : af o xs nx md lo = k) : Calls Try.prog 11 #[.agg #[.int .i64 o, .slice x n c, .int .i64 nx, .int .i64 md, .int .i64 lo]] w fun e w' => e = .returned (.int .i64 k) ∧ New w w' := e ▸ implAF o nx md lo x n c xs w h hn hm

theorem specAF_is (o nx md lo : Int) (x : Option Addr) (n c : Nat) (xs : List Int) (k : Int) (w : World) (h : NsAt w x xs) (hn : xs.length = n) (hm : n ≤ 1048576) (e : af o xs nx md lo = k) : Calls Try.prog 31 #[.agg #[.int .i64 o, .slice x n c, .int .i64 nx, .int .i64 md, .int .i64 lo]] w fun e w' => e = .returned (.int .i64 k) ∧ New w w' := e ▸ specAF o nx md lo x n c xs w h hn hm

set_option maxHeartbeats 3200000 in
theorem implRM (a l ls ms s : Int) (d : Bool) (lc pp : Int) (p q : Int) (o nx md lo : Int) (x : Option Addr) (n c : Nat) (xs : List Int) (v : Bool) (w : World) (h : NsAt w x xs) (hn : xs.length = n) (hm : n ≤ 1048576) (hv : rm a l ls ms s d lc pp p q o xs nx md lo = v) :
    Calls Try.prog 12 #[.agg #[.int .i64 a, .int .i64 l, .int .i64 ls, .int .i64 ms, .int .i64 s, .bool d, .int .i64 lc, .int .i64 pp], .agg #[.int .i64 p, .int .i64 q], .agg #[.int .i64 o, .slice x n c, .int .i64 nx, .int .i64 md, .int .i64 lo]] w fun e w' => e = .returned (.bool v) ∧ New w w' := by
  have HV : Hid (rm a l ls ms s d lc pp p q o xs nx md lo = v) := hv
  clear hv
  have N0 : New w (((w.alloc (.cells #[.int .i64 a, .int .i64 l, .int .i64 ls, .int .i64 ms, .int .i64 s, .bool d, .int .i64 lc, .int .i64 pp] 40)).alloc (.cells #[.int .i64 p, .int .i64 q] 26)).alloc (.cells #[.int .i64 o, .slice x n c, .int .i64 nx, .int .i64 md, .int .i64 lo] 29)) := (((New.refl w).alloc _).alloc _).alloc _
  have b0 : Blk (((w.alloc (.cells #[.int .i64 a, .int .i64 l, .int .i64 ls, .int .i64 ms, .int .i64 s, .bool d, .int .i64 lc, .int .i64 pp] 40)).alloc (.cells #[.int .i64 p, .int .i64 q] 26)).alloc (.cells #[.int .i64 o, .slice x n c, .int .i64 nx, .int .i64 md, .int .i64 lo] 29)) w.heap.size 40 #[.int .i64 a, .int .i64 l, .int .i64 ls, .int .i64 ms, .int .i64 s, .bool d, .int .i64 lc, .int .i64 pp] := ((Blk.mk _ _ _ _ rfl).alloc _).alloc _
  have b1 : Blk (((w.alloc (.cells #[.int .i64 a, .int .i64 l, .int .i64 ls, .int .i64 ms, .int .i64 s, .bool d, .int .i64 lc, .int .i64 pp] 40)).alloc (.cells #[.int .i64 p, .int .i64 q] 26)).alloc (.cells #[.int .i64 o, .slice x n c, .int .i64 nx, .int .i64 md, .int .i64 lo] 29)) (w.heap.size + 1) 26 #[.int .i64 p, .int .i64 q] := (Blk.mk _ _ _ _ (by simp)).alloc _
  have b2 : Blk (((w.alloc (.cells #[.int .i64 a, .int .i64 l, .int .i64 ls, .int .i64 ms, .int .i64 s, .bool d, .int .i64 lc, .int .i64 pp] 40)).alloc (.cells #[.int .i64 p, .int .i64 q] 26)).alloc (.cells #[.int .i64 o, .slice x n c, .int .i64 nx, .int .i64 md, .int .i64 lo] 29)) (w.heap.size + 1 + 1) 29 #[.int .i64 o, .slice x n c, .int .i64 nx, .int .i64 md, .int .i64 lo] := Blk.mk _ _ _ _ (by simp)
  by_cases g1 : rf a l ls ms s d lc pp = 0
  case neg =>
    have hf : Hid (v = false) := by unfold Hid; rw [← HV.out]; simp [rm, g1]
    have q0 := rf_three a l ls ms s d lc pp
    clear HV
    rcases q0 with q0 | q0 | q0
    · exact absurd q0 g1
    · have g1 := q0
      go_enter Try.func12, Try.ntmps12
      go_wp2_with fail
      have C0 := blk_regrown b0
      have C1 := blk_regrown b1
      have C2 := blk_regrown b2
      refine wp_region_quiet_below (by kernel_rfl) (by kernel_rfl) ?_
      repeat (go_big_quiet_step (first | (go_at_call 33; exact calls_regrown (implRF_is a l ls ms s d lc pp 1 _ g1))))
      refine wpQuiet_nil ?_
      rintro w1 hn1
      replace hn1 := new_of_regrown hn1
      go_wp2
      go_ret
      exact ⟨ret_bool hf.out.symm, N0.trans hn1⟩
    · have g1 := q0
      go_enter Try.func12, Try.ntmps12
      go_wp2_with fail
      have C0 := blk_regrown b0
      have C1 := blk_regrown b1
      have C2 := blk_regrown b2
      refine wp_region_quiet_below (by kernel_rfl) (by kernel_rfl) ?_
      repeat (go_big_quiet_step (first | (go_at_call 33; exact calls_regrown (implRF_is a l ls ms s d lc pp 3 _ g1))))
      refine wpQuiet_nil ?_
      rintro w1 hn1
      replace hn1 := new_of_regrown hn1
      go_wp2
      go_ret
      exact ⟨ret_bool hf.out.symm, N0.trans hn1⟩
  by_cases g2 : pf p q = 0
  case neg =>
    have hf : Hid (v = false) := by unfold Hid; rw [← HV.out]; simp [rm, g2]
    have q0 := pf_three p q
    clear HV
    rcases q0 with q0 | q0 | q0
    · exact absurd q0 g2
    · have g2 := q0
      go_enter Try.func12, Try.ntmps12
      go_wp2_with fail
      have C0 := blk_regrown b0
      have C1 := blk_regrown b1
      have C2 := blk_regrown b2
      refine wp_region_quiet_below (by kernel_rfl) (by kernel_rfl) ?_
      repeat (go_big_quiet_step (first | (go_at_call 33; exact calls_regrown (implRF_is a l ls ms s d lc pp 0 _ g1)) | (go_at_call 10; exact calls_regrown (implPF_is p q 1 _ g2))))
      refine wpQuiet_nil ?_
      rintro w1 hn1
      replace hn1 := new_of_regrown hn1
      go_wp2
      go_ret
      exact ⟨ret_bool hf.out.symm, N0.trans hn1⟩
    · have g2 := q0
      go_enter Try.func12, Try.ntmps12
      go_wp2_with fail
      have C0 := blk_regrown b0
      have C1 := blk_regrown b1
      have C2 := blk_regrown b2
      refine wp_region_quiet_below (by kernel_rfl) (by kernel_rfl) ?_
      repeat (go_big_quiet_step (first | (go_at_call 33; exact calls_regrown (implRF_is a l ls ms s d lc pp 0 _ g1)) | (go_at_call 10; exact calls_regrown (implPF_is p q 3 _ g2))))
      refine wpQuiet_nil ?_
      rintro w1 hn1
      replace hn1 := new_of_regrown hn1
      go_wp2
      go_ret
      exact ⟨ret_bool hf.out.symm, N0.trans hn1⟩
  by_cases g3 : af o xs nx md lo = 0
  case neg =>
    have hf : Hid (v = false) := by unfold Hid; rw [← HV.out]; simp [rm, g3]
    have q0 := af_three o xs nx md lo
    clear HV
    rcases q0 with q0 | q0 | q0
    · exact absurd q0 g3
    · have g3 := q0
      go_enter Try.func12, Try.ntmps12
      go_wp2_with fail
      have C0 := blk_regrown b0
      have C1 := blk_regrown b1
      have C2 := blk_regrown b2
      refine wp_region_quiet_below (by kernel_rfl) (by kernel_rfl) ?_
      repeat (go_big_quiet_step (first | (go_at_call 33; exact calls_regrown (implRF_is a l ls ms s d lc pp 0 _ g1)) | (go_at_call 10; exact calls_regrown (implPF_is p q 0 _ g2)) | (go_at_call 11; exact calls_regrown (implAF_is o nx md lo x n c xs 2 _ ((h.new N0).new (new_regrown _ _ _)) hn hm g3))))
      refine wpQuiet_nil ?_
      rintro w1 hn1
      replace hn1 := new_of_regrown hn1
      go_wp2
      go_ret
      exact ⟨ret_bool hf.out.symm, N0.trans hn1⟩
    · have g3 := q0
      go_enter Try.func12, Try.ntmps12
      go_wp2_with fail
      have C0 := blk_regrown b0
      have C1 := blk_regrown b1
      have C2 := blk_regrown b2
      refine wp_region_quiet_below (by kernel_rfl) (by kernel_rfl) ?_
      repeat (go_big_quiet_step (first | (go_at_call 33; exact calls_regrown (implRF_is a l ls ms s d lc pp 0 _ g1)) | (go_at_call 10; exact calls_regrown (implPF_is p q 0 _ g2)) | (go_at_call 11; exact calls_regrown (implAF_is o nx md lo x n c xs 3 _ ((h.new N0).new (new_regrown _ _ _)) hn hm g3))))
      refine wpQuiet_nil ?_
      rintro w1 hn1
      replace hn1 := new_of_regrown hn1
      go_wp2
      go_ret
      exact ⟨ret_bool hf.out.symm, N0.trans hn1⟩
  have g4 : mt a l ls ms s p q xs = v := by rw [← HV.out]; simp [rm, g1, g2, g3]
  go_enter Try.func12, Try.ntmps12
  go_wp2_with fail
  have d0 := b0
  have d1 := b1
  have d2 := b2
  have dN := N0
  have dh := h.new N0
  go_region_held3 (fun W => (∀ j, W.cell? ⟨w.heap.size, j, none⟩ = #[Value.int .i64 a, .int .i64 l, .int .i64 ls, .int .i64 ms, .int .i64 s, .bool d, .int .i64 lc, .int .i64 pp][j]?) ∧ (∀ j, W.cell? ⟨w.heap.size + 1, j, none⟩ = #[Value.int .i64 p, .int .i64 q][j]?) ∧ (∀ j, W.cell? ⟨w.heap.size + 1 + 1, j, none⟩ = #[Value.int .i64 o, .slice x n c, .int .i64 nx, .int .i64 md, .int .i64 lo][j]?)) (exact ⟨d0.cells, d1.cells, d2.cells⟩)
    (first
      | (go_at_call 33; refine (implRF_is a l ls ms s d lc pp 0 _ g1).mono ?_; rintro e wx ⟨rfl, h1⟩; (try simp only [New.drew_mark6] at h1); have d0 := d0.new h1; have d1 := d1.new h1; have d2 := d2.new h1; have dN := dN.trans h1; have dh := dh.new h1)
      | (go_at_call 10; refine (implPF_is p q 0 _ g2).mono ?_; rintro e wx ⟨rfl, h2⟩; (try simp only [New.drew_mark6] at h2); have d0 := d0.new h2; have d1 := d1.new h2; have d2 := d2.new h2; have dN := dN.trans h2; have dh := dh.new h2)
      | (go_at_call 11; refine (implAF_is o nx md lo x n c xs 0 _ (by first | exact dh | exact dh.new ((New.refl _).drew)) hn hm g3).mono ?_; rintro e wx ⟨rfl, h3⟩; (try simp only [New.drew_mark6] at h3); have d0 := d0.new h3; have d1 := d1.new h3; have d2 := d2.new h3; have dN := dN.trans h3; have dh := dh.new h3)
      | (go_at_call 25; refine (mk_matcher a l ls ms s d lc pp _).mono ?_; rintro e wx ⟨B, rfl, hB, bB, h4⟩; (try simp only [New.drew_mark6] at h4); have d0 := d0.new h4; have d1 := d1.new h4; have d2 := d2.new h4; have dN := dN.trans h4; have dh := dh.new h4)
      | (go_at_call 47; refine (matcher_any a l ls ms s d lc pp p q o nx md lo x n c xs B v _ bB dh hn hm g4).mono ?_; rintro e wx ⟨rfl, h5⟩; (try simp only [New.drew_mark6] at h5); have d0 := d0.new h5; have d1 := d1.new h5; have d2 := d2.new h5; have dN := dN.trans h5; have dh := dh.new h5))
  go_wp2
  go_ret
  exact ⟨rfl, dN⟩

end Go.Proofs.Ytidibaknahfmmaa
