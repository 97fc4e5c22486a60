/- What is proved here: what the judging of a rule and of a list of rules answers, in the program and in the model, for every list of at most 1048576 rules. -/
import Derived.Test.YtjampcfikfafkaaGreatR6Lib
namespace Go.Proofs.YtjampcfikfafkaaGreat
open Go.RowKit Go.Sort
set_option linter.unusedVariables false

theorem isLen_yes (x : Int) (w : World) (h : 0 ≤ x ∧ x ≤ 16) : Calls Tryz.prog 116 #[.int .i64 x] w fun e w' => e = .returned (.bool true) ∧ w' = w := by
  obtain ⟨h1, h2⟩ := h
  go_enter Tryz.func116, Tryz.ntmps116
  go_wp2
  go_ret
  exact ⟨by simp, rfl⟩

theorem isLen_no (x : Int) (w : World) (h : x < 0 ∨ 16 < x) : Calls Tryz.prog 116 #[.int .i64 x] w fun e w' => e = .returned (.bool false) ∧ w' = w := by
  by_cases h1 : 0 ≤ x
  · have h2 : 16 < x := by omega
    go_enter Tryz.func116, Tryz.ntmps116
    go_wp2
    go_ret
    exact ⟨by simp; omega, rfl⟩
  · go_enter Tryz.func116, Tryz.ntmps116
    go_wp2
    go_ret
    exact ⟨rfl, rfl⟩

theorem newLc_yes (x : Int) (w : World) (h : -1 ≤ x ∧ x ≤ 65535) : Calls Tryz.prog 117 #[.int .i64 x] w fun e w' => e = .returned (.bool true) ∧ w' = w := by
  by_cases h1 : x = -1
  · subst h1
    go_enter Tryz.func117, Tryz.ntmps117
    go_wp2
    go_ret
    exact ⟨rfl, rfl⟩
  · have e1 : (x == -1) = false := by simpa using h1
    go_enter Tryz.func117, Tryz.ntmps117
    go_wp2_with fail
    refine (fits_yesA x _ (by omega)).mono ?_
    rintro e w1 ⟨rfl, rfl⟩
    go_wp2
    go_ret
    exact ⟨rfl, rfl⟩

theorem newLc_no (x : Int) (w : World) (h : x < -1 ∨ 65535 < x) : Calls Tryz.prog 117 #[.int .i64 x] w fun e w' => e = .returned (.bool false) ∧ w' = w := by
  have e1 : (x == -1) = false := by simp; omega
  go_enter Tryz.func117, Tryz.ntmps117
  go_wp2_with fail
  refine (fits_noA x _ (by omega)).mono ?_
  rintro e w1 ⟨rfl, rfl⟩
  go_wp2
  go_ret
  exact ⟨rfl, rfl⟩

set_option maxHeartbeats 1600000 in
theorem implRF (a l ls ms s : Int) (d : Bool) (lc pp : Int) (w : World) : Calls Tryz.prog 96 #[.agg #[.int .i64 a, .int .i64 l, .int .i64 ls, .int .i64 ms, .int .i64 s, .bool d, .int .i64 lc, .int .i64 pp]] w fun e w' => e = .returned (.int .i64 (rf a l ls ms s d lc pp)) ∧ New w w' := by
  have hw := (New.refl w).alloc (.cells #[.int .i64 a, .int .i64 l, .int .i64 ls, .int .i64 ms, .int .i64 s, .bool d, .int .i64 lc, .int .i64 pp] 93)
  have b0 := Blk.mk w w.heap.size 93 #[.int .i64 a, .int .i64 l, .int .i64 ls, .int .i64 ms, .int .i64 s, .bool d, .int .i64 lc, .int .i64 pp] rfl
  go_enter Tryz.func96, Tryz.ntmps96
  go_wp2_with fail
  by_cases g0 : pf a l = 0
  case neg =>
    have hx : rf a l ls ms s d lc pp = pf a l := if_neg g0
    have hz : (pf a l != 0) = true := by simpa using g0
    refine (implPF a l _).mono ?_
    rintro e w1 ⟨rfl, hn1⟩
    go_wp2
    go_ret
    exact ⟨ret_i64 hx.symm, hw.trans hn1⟩
  refine (implPF_is a l 0 _ g0).mono ?_
  rintro e w1 ⟨rfl, hn1⟩
  have b1 := b0.new hn1
  have c1 := b1.cells
  have hw1 := hw.trans hn1
  clear b0 hn1 hw
  go_wp2_with fail
  by_cases gA : 0 ≤ ls ∧ ls ≤ 16
  case neg =>
    have hx : rf a l ls ms s d lc pp = 3 := by unfold rf; rw [if_pos g0, if_neg (fun k => gA k.1)]
    refine (isLen_no ls _ (by omega)).mono ?_
    rintro e w2 ⟨rfl, rfl⟩
    go_wp2
    go_ret
    exact ⟨ret_i64 hx.symm, hw1⟩
  refine (isLen_yes ls _ gA).mono ?_
  rintro e w2 ⟨rfl, rfl⟩
  go_wp2_with fail
  by_cases gB : 0 ≤ ms ∧ ms ≤ 16
  case neg =>
    have hx : rf a l ls ms s d lc pp = 3 := by unfold rf; rw [if_pos g0, if_neg (fun k => gB k.2.1)]
    refine (isLen_no ms _ (by omega)).mono ?_
    rintro e w2 ⟨rfl, rfl⟩
    go_wp2
    go_ret
    exact ⟨ret_i64 hx.symm, hw1⟩
  refine (isLen_yes ms _ gB).mono ?_
  rintro e w2 ⟨rfl, rfl⟩
  go_wp2_with fail
  by_cases gC : 0 ≤ s ∧ s ≤ 65535
  case neg =>
    have hx : rf a l ls ms s d lc pp = 3 := by unfold rf; rw [if_pos g0, if_neg (fun k => gC k.2.2.1)]
    refine (fits_noA s _ (by omega)).mono ?_
    rintro e w2 ⟨rfl, rfl⟩
    go_wp2
    go_ret
    exact ⟨ret_i64 hx.symm, hw1⟩
  refine (fits_yesA s _ gC).mono ?_
  rintro e w2 ⟨rfl, rfl⟩
  go_wp2_with fail
  by_cases gD : -1 ≤ lc ∧ lc ≤ 65535
  case neg =>
    have hx : rf a l ls ms s d lc pp = 3 := by unfold rf; rw [if_pos g0, if_neg (fun k => gD k.2.2.2.1)]
    refine (newLc_no lc _ (by omega)).mono ?_
    rintro e w2 ⟨rfl, rfl⟩
    go_wp2
    go_ret
    exact ⟨ret_i64 hx.symm, hw1⟩
  refine (newLc_yes lc _ gD).mono ?_
  rintro e w2 ⟨rfl, rfl⟩
  by_cases gE : 0 ≤ pp ∧ pp ≤ 3
  case neg =>
    have hx : rf a l ls ms s d lc pp = 3 := by unfold rf; rw [if_pos g0, if_neg (fun k => gE k.2.2.2.2)]
    by_cases gF : 0 ≤ pp
    · have gG : 3 < pp := by omega
      go_wp2
      go_ret
      exact ⟨ret_i64 hx.symm, hw1⟩
    · go_wp2
      go_ret
      exact ⟨ret_i64 hx.symm, hw1⟩
  have hB : RuB ls ms s lc pp := ⟨gA, gB, gC, gD, gE⟩
  obtain ⟨gE0, gE1⟩ := gE
  by_cases k1 : ms < ls
  · have hx : rf a l ls ms s d lc pp = 1 := by unfold rf; rw [if_pos g0, if_pos hB, if_pos (Or.inl k1)]
    clear hB g0 gA gB gC gD
    go_wp2
    go_ret
    exact ⟨ret_i64 hx.symm, hw1⟩
  cases d
  · have hx : rf a l ls ms s false lc pp = 0 := by unfold rf; rw [if_pos g0, if_pos hB, if_neg (by simp [RuX]; omega)]
    clear hB g0 gA gB gC gD
    go_wp2
    go_ret
    exact ⟨ret_i64 hx.symm, hw1⟩
  by_cases k2 : lc = -1
  · subst k2
    by_cases k3 : pp = 0
    · subst k3
      have hx : rf a l ls ms s true (-1) 0 = 0 := by unfold rf; rw [if_pos g0, if_pos hB, if_neg (by simp [RuX]; omega)]
      clear hB g0 gA gB gC gD
      go_wp2
      go_ret
      exact ⟨ret_i64 hx.symm, hw1⟩
    · have hx : rf a l ls ms s true (-1) pp = 1 := by unfold rf; rw [if_pos g0, if_pos hB, if_pos (Or.inr ⟨rfl, Or.inr k3⟩)]
      have hz : (pp != 0) = true := by simpa using k3
      clear hB g0 gA gB gC gD
      go_wp2
      go_ret
      exact ⟨ret_i64 hx.symm, hw1⟩
  · have hx : rf a l ls ms s true lc pp = 1 := by unfold rf; rw [if_pos g0, if_pos hB, if_pos (Or.inr ⟨rfl, Or.inl k2⟩)]
    have hz : (lc != -1) = true := by simpa using k2
    clear hB g0 gA gB gC gD
    go_wp2
    go_ret
    exact ⟨ret_i64 hx.symm, hw1⟩

theorem implRF_is (a l ls ms s : Int) (d : Bool) (lc pp : Int) (c : Int) (w : World) (h : rf a l ls ms s d lc pp = c) : Calls Tryz.prog 96 #[.agg #[.int .i64 a, .int .i64 l, .int .i64 ls, .int .i64 ms, .int .i64 s, .bool d, .int .i64 lc, .int .i64 pp]] w fun e w' => e = .returned (.int .i64 c) ∧ New w w' := h ▸ implRF a l ls ms s d lc pp w

set_option maxHeartbeats 1600000 in
theorem specRF (a l ls ms s : Int) (d : Bool) (lc pp : Int) (w : World) : Calls Tryz.prog 70 #[.agg #[.int .i64 a, .int .i64 l, .int .i64 ls, .int .i64 ms, .int .i64 s, .bool d, .int .i64 lc, .int .i64 pp]] w fun e w' => e = .returned (.int .i64 (rf a l ls ms s d lc pp)) ∧ New w w' := by
  have hw := (New.refl w).alloc (.cells #[.int .i64 a, .int .i64 l, .int .i64 ls, .int .i64 ms, .int .i64 s, .bool d, .int .i64 lc, .int .i64 pp] 93)
  have b0 := Blk.mk w w.heap.size 93 #[.int .i64 a, .int .i64 l, .int .i64 ls, .int .i64 ms, .int .i64 s, .bool d, .int .i64 lc, .int .i64 pp] rfl
  go_enter Tryz.func70, Tryz.ntmps70
  go_wp2_with fail
  by_cases g0 : pf a l = 0
  case neg =>
    have hx : rf a l ls ms s d lc pp = pf a l := if_neg g0
    have hz : (pf a l != 0) = true := by simpa using g0
    refine (specPF a l _).mono ?_
    rintro e w1 ⟨rfl, hn1⟩
    go_wp2
    go_ret
    exact ⟨ret_i64 hx.symm, hw.trans hn1⟩
  refine (specPF_is a l 0 _ g0).mono ?_
  rintro e w1 ⟨rfl, hn1⟩
  have b1 := b0.new hn1
  have c1 := b1.cells
  have hw1 := hw.trans hn1
  clear b0 hn1 hw
  go_wp2_with fail
  by_cases gA : 0 ≤ ls ∧ ls ≤ 16
  case neg =>
    have hx : rf a l ls ms s d lc pp = 3 := by unfold rf; rw [if_pos g0, if_neg (fun k => gA k.1)]
    refine (in_no ls 0 16 _ (by omega)).mono ?_
    rintro e w2 ⟨rfl, rfl⟩
    go_wp2
    go_ret
    exact ⟨ret_i64 hx.symm, hw1⟩
  refine (in_yes ls 0 16 _ gA).mono ?_
  rintro e w2 ⟨rfl, rfl⟩
  go_wp2_with fail
  by_cases gB : 0 ≤ ms ∧ ms ≤ 16
  case neg =>
    have hx : rf a l ls ms s d lc pp = 3 := by unfold rf; rw [if_pos g0, if_neg (fun k => gB k.2.1)]
    refine (in_no ms 0 16 _ (by omega)).mono ?_
    rintro e w2 ⟨rfl, rfl⟩
    go_wp2
    go_ret
    exact ⟨ret_i64 hx.symm, hw1⟩
  refine (in_yes ms 0 16 _ gB).mono ?_
  rintro e w2 ⟨rfl, rfl⟩
  go_wp2_with fail
  by_cases gC : 0 ≤ s ∧ s ≤ 65535
  case neg =>
    have hx : rf a l ls ms s d lc pp = 3 := by unfold rf; rw [if_pos g0, if_neg (fun k => gC k.2.2.1)]
    refine (word_no s _ (by omega)).mono ?_
    rintro e w2 ⟨rfl, rfl⟩
    go_wp2
    go_ret
    exact ⟨ret_i64 hx.symm, hw1⟩
  refine (word_yes s _ gC).mono ?_
  rintro e w2 ⟨rfl, rfl⟩
  go_wp2_with fail
  by_cases gD : -1 ≤ lc ∧ lc ≤ 65535
  case neg =>
    have hx : rf a l ls ms s d lc pp = 3 := by unfold rf; rw [if_pos g0, if_neg (fun k => gD k.2.2.2.1)]
    refine (in_no lc (-1) 65535 _ (by omega)).mono ?_
    rintro e w2 ⟨rfl, rfl⟩
    go_wp2
    go_ret
    exact ⟨ret_i64 hx.symm, hw1⟩
  refine (in_yes lc (-1) 65535 _ gD).mono ?_
  rintro e w2 ⟨rfl, rfl⟩
  go_wp2_with fail
  by_cases gE : 0 ≤ pp ∧ pp ≤ 3
  case neg =>
    have hx : rf a l ls ms s d lc pp = 3 := by unfold rf; rw [if_pos g0, if_neg (fun k => gE k.2.2.2.2)]
    refine (in_no pp 0 3 _ (by omega)).mono ?_
    rintro e w2 ⟨rfl, rfl⟩
    go_wp2
    go_ret
    exact ⟨ret_i64 hx.symm, hw1⟩
  refine (in_yes pp 0 3 _ gE).mono ?_
  rintro e w2 ⟨rfl, rfl⟩
  have hB : RuB ls ms s lc pp := ⟨gA, gB, gC, gD, gE⟩
  obtain ⟨gE0, gE1⟩ := gE
  by_cases k1 : ms < ls
  · have hx : rf a l ls ms s d lc pp = 1 := by unfold rf; rw [if_pos g0, if_pos hB, if_pos (Or.inl k1)]
    clear hB g0 gA gB gC gD
    go_wp2
    go_ret
    exact ⟨ret_i64 hx.symm, hw1⟩
  cases d
  · have hx : rf a l ls ms s false lc pp = 0 := by unfold rf; rw [if_pos g0, if_pos hB, if_neg (by simp [RuX]; omega)]
    clear hB g0 gA gB gC gD
    go_wp2
    go_ret
    exact ⟨ret_i64 hx.symm, hw1⟩
  by_cases k2 : lc = -1
  · subst k2
    by_cases k3 : pp = 0
    · subst k3
      have hx : rf a l ls ms s true (-1) 0 = 0 := by unfold rf; rw [if_pos g0, if_pos hB, if_neg (by simp [RuX]; omega)]
      clear hB g0 gA gB gC gD
      go_wp2
      go_ret
      exact ⟨ret_i64 hx.symm, hw1⟩
    · have hx : rf a l ls ms s true (-1) pp = 1 := by unfold rf; rw [if_pos g0, if_pos hB, if_pos (Or.inr ⟨rfl, Or.inr k3⟩)]
      have hz : (pp != 0) = true := by simpa using k3
      clear hB g0 gA gB gC gD
      go_wp2
      go_ret
      exact ⟨ret_i64 hx.symm, hw1⟩
  · have hx : rf a l ls ms s true lc pp = 1 := by unfold rf; rw [if_pos g0, if_pos hB, if_pos (Or.inr ⟨rfl, Or.inl k2⟩)]
    have hz : (lc != -1) = true := by simpa using k2
    clear hB g0 gA gB gC gD
    go_wp2
    go_ret
    exact ⟨ret_i64 hx.symm, hw1⟩

theorem specRF_is (a l ls ms s : Int) (d : Bool) (lc pp : Int) (c : Int) (w : World) (h : rf a l ls ms s d lc pp = c) : Calls Tryz.prog 70 #[.agg #[.int .i64 a, .int .i64 l, .int .i64 ls, .int .i64 ms, .int .i64 s, .bool d, .int .i64 lc, .int .i64 pp]] w fun e w' => e = .returned (.int .i64 c) ∧ New w w' := h ▸ specRF a l ls ms s d lc pp w

set_option maxHeartbeats 1600000 in
theorem implRSF (x : Option Addr) (n c : Nat) (rs : List Ru) (w : World) (h : RsAt w x rs) (hn : rs.length = n) (hm : n ≤ 1048576) : Calls Tryz.prog 62 #[.slice x n c] w fun e w' => e = .returned (.int .i64 (rsf rs)) ∧ New w w' := by
  by_cases hbig : 8 < n
  · have hf : Hid (rsf rs = 2) := by unfold rsf Hid; rw [if_pos (by omega)]
    go_enter Tryz.func62, Tryz.ntmps62
    go_wp2
    go_ret
    exact ⟨ret_i64 hf.out.symm, New.refl _⟩
  · have hf : Hid (rsf rs = rfc (rs.drop 0)) := by unfold rsf Hid; rw [if_neg (by omega)]; rfl
    have HN : Hid (rs.length = n) := hn
    clear hn
    go_enter Tryz.func62, Tryz.ntmps62
    go_wp2
    go_loopw [11] (fun i wr => ∃ k : Nat, k ≤ n ∧ i = .int .i64 k ∧ New w wr ∧ Hid (rsf rs = rfc (rs.drop k))) (fun i _ => n - (intOf i).toNat)
    case atStart => exact ⟨0, Nat.zero_le _, rfl, New.refl _, hf⟩
    case round =>
      obtain ⟨k, hk, rfl, hnw, hl⟩ := hrel
      by_cases hlt : k < n
      · obtain ⟨b, off, a, l, ls, ms, s, d, lc, pp, rfl, hz, c0, c1, c2, c3, c4, c5, c6, c7⟩ := (h.new hnw).at k (by rw [HN.out]; exact hlt)
        have hx := rfc_next hz
        have hw2 := hnw.alloc (.cells #[.int .i64 a, .int .i64 l, .int .i64 ls, .int .i64 ms, .int .i64 s, .bool d, .int .i64 lc, .int .i64 pp] 93)
        by_cases hf0 : rf a l ls ms s d lc pp = 0
        · have hl' : Hid (rsf rs = rfc (rs.drop (k + 1))) := by unfold Hid; rw [hl.out, hx]; exact if_pos hf0
          clear hx hz hl
          go_wp2_with fail
          refine (implRF_is a l ls ms s d lc pp 0 _ hf0).mono ?_
          rintro e w2 ⟨rfl, hn2⟩
          go_wp2
          go_roundw
          case rel => exact ⟨k + 1, by omega, by go_num, hw2.trans hn2, hl'⟩
          case measure => simp [intOf]; omega
        · have hl' : Hid (rsf rs = rf a l ls ms s d lc pp) := by unfold Hid; rw [hl.out, hx]; exact if_neg hf0
          have hz0 : (rf a l ls ms s d lc pp != 0) = true := by simpa using hf0
          clear hx hz hl
          go_wp2_with fail
          refine (implRF a l ls ms s d lc pp _).mono ?_
          rintro e w2 ⟨rfl, hn2⟩
          go_wp2
          go_ret
          exact ⟨ret_i64 hl'.out.symm, hw2.trans hn2⟩
      · have hl' : Hid (rsf rs = 0) := by
          unfold Hid
          rw [hl.out, List.drop_of_length_le (by rw [HN.out]; omega)]
          rfl
        go_wp2
        go_ret
        exact ⟨ret_i64 hl'.out.symm, hnw⟩

set_option maxHeartbeats 1600000 in
theorem specRSF (x : Option Addr) (n c : Nat) (rs : List Ru) (w : World) (h : RsAt w x rs) (hn : rs.length = n) (hm : n ≤ 1048576) : Calls Tryz.prog 33 #[.slice x n c] w fun e w' => e = .returned (.int .i64 (rsf rs)) ∧ New w w' := by
  by_cases hbig : 8 < n
  · have hf : Hid (rsf rs = 2) := by unfold rsf Hid; rw [if_pos (by omega)]
    go_enter Tryz.func33, Tryz.ntmps33
    go_wp2
    go_ret
    exact ⟨ret_i64 hf.out.symm, New.refl _⟩
  · have hf : Hid (rsf rs = rfc (rs.drop 0)) := by unfold rsf Hid; rw [if_neg (by omega)]; rfl
    have HN : Hid (rs.length = n) := hn
    clear hn
    go_enter Tryz.func33, Tryz.ntmps33
    go_wp2
    go_loopw [3] (fun i wr => ∃ k : Nat, k ≤ n ∧ i = .int .i64 k ∧ New w wr ∧ Hid (rsf rs = rfc (rs.drop k))) (fun i _ => n - (intOf i).toNat)
    case atStart => exact ⟨0, Nat.zero_le _, rfl, New.refl _, hf⟩
    case round =>
      obtain ⟨k, hk, rfl, hnw, hl⟩ := hrel
      by_cases hlt : k < n
      · obtain ⟨b, off, a, l, ls, ms, s, d, lc, pp, rfl, hz, c0, c1, c2, c3, c4, c5, c6, c7⟩ := (h.new hnw).at k (by rw [HN.out]; exact hlt)
        have hx := rfc_next hz
        have hw2 := hnw
        by_cases hf0 : rf a l ls ms s d lc pp = 0
        · have hl' : Hid (rsf rs = rfc (rs.drop (k + 1))) := by unfold Hid; rw [hl.out, hx]; exact if_pos hf0
          clear hx hz hl
          go_wp2_with fail
          refine (specRF_is a l ls ms s d lc pp 0 _ hf0).mono ?_
          rintro e w2 ⟨rfl, hn2⟩
          go_wp2
          go_roundw
          case rel => exact ⟨k + 1, by omega, by go_num, hw2.trans hn2, hl'⟩
          case measure => simp [intOf]; omega
        · have hl' : Hid (rsf rs = rf a l ls ms s d lc pp) := by unfold Hid; rw [hl.out, hx]; exact if_neg hf0
          have hz0 : (rf a l ls ms s d lc pp != 0) = true := by simpa using hf0
          clear hx hz hl
          go_wp2_with fail
          refine (specRF a l ls ms s d lc pp _).mono ?_
          rintro e w2 ⟨rfl, hn2⟩
          go_wp2
          go_ret
          exact ⟨ret_i64 hl'.out.symm, hw2.trans hn2⟩
      · have hl' : Hid (rsf rs = 0) := by
          unfold Hid
          rw [hl.out, List.drop_of_length_le (by rw [HN.out]; omega)]
          rfl
        go_wp2
        go_ret
        exact ⟨ret_i64 hl'.out.symm, hnw⟩

end Go.Proofs.YtjampcfikfafkaaGreat
