/- What is proved here: what the model's reading of a prefix from a text answers, for every text of at most 1048576 bytes. -/
import Derived.Test.YthjoogfbhaceoaaDoorPpLib
namespace Go.Proofs.YthjoogfbhaceoaaDoor
open Go.RowKit Go.Sort

theorem specCut_two (x : List UInt8) (c : UInt8) (z : Int) (hz : (c.toNat : Int) = z) (a b : List UInt8) (w : World) (hm : x.length ≤ 1048576) (h : pcs c x = [a, b]) :
    Calls Tryd.prog 23 #[.string ⟨x.toArray⟩, .int .u8 z] w fun e w' => ∃ g cap, e = .returned (.slice (some ⟨g, 0, none⟩) 2 cap) ∧ Hid (∀ w'', New w' w'' → w''.cell? ⟨g, 0, none⟩ = some (.string ⟨a.toArray⟩) ∧ w''.cell? ⟨g, 1, none⟩ = some (.string ⟨b.toArray⟩)) ∧ New w w' := by
  subst hz
  refine (specCut_l x c w hm).mono ?_
  rintro e w1 ⟨g, cap, rfl, ho, hn⟩
  rw [h] at ho ⊢
  exact ⟨g, cap, rfl, fun w2 h2 => row_two ho h2, hn⟩
theorem specCut_not (x : List UInt8) (c : UInt8) (z : Int) (hz : (c.toNat : Int) = z) (w : World) (hm : x.length ≤ 1048576) (h : (pcs c x).length ≠ 2) :
    Calls Tryd.prog 23 #[.string ⟨x.toArray⟩, .int .u8 z] w fun e w' => ∃ g cap n, e = .returned (.slice (some ⟨g, 0, none⟩) n cap) ∧ ((n : Int) != 2) = true ∧ New w w' := by
  subst hz
  refine (specCut_l x c w hm).mono ?_
  rintro e w1 ⟨g, cap, rfl, ho, hn⟩
  exact ⟨g, cap, _, rfl, by simp; omega, hn⟩

set_option maxHeartbeats 1600000 in
theorem specParse (x : List UInt8) (w : World) (hm : x.length ≤ 1048576) : Calls Tryd.prog 8 #[.string ⟨x.toArray⟩] w fun e w' => e = .returned (.agg #[.int .i64 (parse x).1, .int .i64 (parse x).2.1, .int .i64 (parse x).2.2]) ∧ New w w' := by
  have m1 := bef_le 47 x
  have m2 := aft_le 47 x
  have m3 := bef_le 46 (bef 47 x)
  have m4 := aft_le 46 (bef 47 x)
  have M1 : Hid ((bef 47 x).length ≤ 1048576) := by unfold Hid; omega
  have M2 : Hid ((aft 47 x).length ≤ 1048576) := by unfold Hid; omega
  have M3 : Hid ((bef 46 (bef 47 x)).length ≤ 1048576) := by unfold Hid; omega
  have M4 : Hid ((aft 46 (bef 47 x)).length ≤ 1048576) := by unfold Hid; omega
  clear m1 m2 m3 m4
  have hw := ((New.refl w).alloc (.cells #[.int .i64 0, .int .i64 0, .int .i64 0] 28)).alloc (.cells #[.int .i64 5, .int .i64 0, .int .i64 0] 28)
  have hB : Blk ((w.alloc (.cells #[.int .i64 0, .int .i64 0, .int .i64 0] 28)).alloc (.cells #[.int .i64 5, .int .i64 0, .int .i64 0] 28)) w.heap.size 28 #[.int .i64 0, .int .i64 0, .int .i64 0] := (Blk.mk _ _ _ _ rfl).alloc _
  have hD : Blk ((w.alloc (.cells #[.int .i64 0, .int .i64 0, .int .i64 0] 28)).alloc (.cells #[.int .i64 5, .int .i64 0, .int .i64 0] 28)) (w.heap.size + 1) 28 #[.int .i64 5, .int .i64 0, .int .i64 0] := Blk.mk _ _ _ _ (by simp)
  have hBge := Nat.le_refl w.heap.size
  rcases two_or (c := 47) x (by decide) with hs1 | ⟨hs1, hno1⟩
  · rcases two_or (c := 46) (bef 47 x) (by decide) with hs2 | ⟨hs2, hno2⟩
    · cases h1 : numD (bef 46 (bef 47 x)) with
      | none =>
        have hf : Hid (parse x = (5, 0, 0)) := parse_no3 h1
        go_enter Tryd.func8, Tryd.ntmps8
        go_wp2_with fail
        refine (specCut_two x 47 47 rfl _ _ _ hm hs1).mono ?_
        rintro e w1 ⟨g1, cap1, rfl, hr1, hn1⟩
        obtain ⟨c10, c11⟩ := hr1.out _ (New.refl _)
        go_wp2_with fail
        refine (specCut_two (bef 47 x) 46 46 rfl _ _ _ M1.out hs2).mono ?_
        rintro e w2 ⟨g2, cap2, rfl, hr2, hn2⟩
        clear c10 c11
        obtain ⟨c10, c11⟩ := hr1.out _ hn2
        obtain ⟨c20, c21⟩ := hr2.out _ (New.refl _)
        have hn12 := hn1.trans hn2
        go_wp2_with fail
        refine (specNum_none (bef 46 (bef 47 x)) _ M3.out h1).mono ?_
        rintro e w3 ⟨rfl, rfl⟩
        go_wp2_with fail
        refine (specNum_l (aft 46 (bef 47 x)) _ M4.out).mono ?_
        rintro e w3 ⟨rfl, rfl⟩
        go_wp2_with fail
        refine (specNum_l (aft 47 x) _ M2.out).mono ?_
        rintro e w3 ⟨rfl, rfl⟩
        have hcs := (hB.new hn12).cells
        have hfs := (hB.new hn12).frees
        have hds := (hD.new hn12).cells
        go_wp2
        refine bodyPost_ret (v := .agg #[.int .i64 5, .int .i64 0, .int .i64 0]) (by simp [results, Tryd.results8, go_sem, hcs]) rfl ⟨by rw [hf.out], ?_⟩
        exact New.setCell (New.setCell (New.setCell (hw.trans hn12) hBge _) hBge _) hBge _

      | some h =>
        cases h2 : numD (aft 46 (bef 47 x)) with
        | none =>
          have hf : Hid (parse x = (5, 0, 0)) := parse_no2 h2
          go_enter Tryd.func8, Tryd.ntmps8
          go_wp2_with fail
          refine (specCut_two x 47 47 rfl _ _ _ hm hs1).mono ?_
          rintro e w1 ⟨g1, cap1, rfl, hr1, hn1⟩
          obtain ⟨c10, c11⟩ := hr1.out _ (New.refl _)
          go_wp2_with fail
          refine (specCut_two (bef 47 x) 46 46 rfl _ _ _ M1.out hs2).mono ?_
          rintro e w2 ⟨g2, cap2, rfl, hr2, hn2⟩
          clear c10 c11
          obtain ⟨c10, c11⟩ := hr1.out _ hn2
          obtain ⟨c20, c21⟩ := hr2.out _ (New.refl _)
          have hn12 := hn1.trans hn2
          go_wp2_with fail
          refine (specNum_some (bef 46 (bef 47 x)) _ _ M3.out h1).mono ?_
          rintro e w3 ⟨rfl, rfl⟩
          go_wp2_with fail
          refine (specNum_none (aft 46 (bef 47 x)) _ M4.out h2).mono ?_
          rintro e w3 ⟨rfl, rfl⟩
          go_wp2_with fail
          refine (specNum_l (aft 47 x) _ M2.out).mono ?_
          rintro e w3 ⟨rfl, rfl⟩
          have hcs := (hB.new hn12).cells
          have hfs := (hB.new hn12).frees
          have hds := (hD.new hn12).cells
          go_wp2
          refine bodyPost_ret (v := .agg #[.int .i64 5, .int .i64 0, .int .i64 0]) (by simp [results, Tryd.results8, go_sem, hcs]) rfl ⟨by rw [hf.out], ?_⟩
          exact New.setCell (New.setCell (New.setCell (hw.trans hn12) hBge _) hBge _) hBge _

        | some o =>
          cases h3 : numD (aft 47 x) with
          | none =>
            have hf : Hid (parse x = (5, 0, 0)) := parse_no1 h3
            go_enter Tryd.func8, Tryd.ntmps8
            go_wp2_with fail
            refine (specCut_two x 47 47 rfl _ _ _ hm hs1).mono ?_
            rintro e w1 ⟨g1, cap1, rfl, hr1, hn1⟩
            obtain ⟨c10, c11⟩ := hr1.out _ (New.refl _)
            go_wp2_with fail
            refine (specCut_two (bef 47 x) 46 46 rfl _ _ _ M1.out hs2).mono ?_
            rintro e w2 ⟨g2, cap2, rfl, hr2, hn2⟩
            clear c10 c11
            obtain ⟨c10, c11⟩ := hr1.out _ hn2
            obtain ⟨c20, c21⟩ := hr2.out _ (New.refl _)
            have hn12 := hn1.trans hn2
            go_wp2_with fail
            refine (specNum_some (bef 46 (bef 47 x)) _ _ M3.out h1).mono ?_
            rintro e w3 ⟨rfl, rfl⟩
            go_wp2_with fail
            refine (specNum_some (aft 46 (bef 47 x)) _ _ M4.out h2).mono ?_
            rintro e w3 ⟨rfl, rfl⟩
            go_wp2_with fail
            refine (specNum_none (aft 47 x) _ M2.out h3).mono ?_
            rintro e w3 ⟨rfl, rfl⟩
            have hcs := (hB.new hn12).cells
            have hfs := (hB.new hn12).frees
            have hds := (hD.new hn12).cells
            go_wp2
            refine bodyPost_ret (v := .agg #[.int .i64 5, .int .i64 0, .int .i64 0]) (by simp [results, Tryd.results8, go_sem, hcs]) rfl ⟨by rw [hf.out], ?_⟩
            exact New.setCell (New.setCell (New.setCell (hw.trans hn12) hBge _) hBge _) hBge _

          | some n =>
            have hp := parse_yes h1 h2 h3
            obtain ⟨ha0, ha1⟩ := numD_bd h1
            obtain ⟨ho0, ho1⟩ := numD_bd h2
            obtain ⟨hn0, hn1'⟩ := numD_bd h3
            by_cases hbig : 255 < h ∨ 255 < o
            · have hf : Hid (parse x = (5, 0, 0)) := by unfold Hid; rw [hp]; unfold pfx; rw [if_pos hbig]
              rcases (show 255 < h ∨ (h ≤ 255 ∧ 255 < o) by omega) with hb1 | ⟨hb1, hb2⟩
              all_goals
                clear hp
                go_enter Tryd.func8, Tryd.ntmps8
                go_wp2_with fail
                refine (specCut_two x 47 47 rfl _ _ _ hm hs1).mono ?_
                rintro e w1 ⟨g1, cap1, rfl, hr1, hn1⟩
                obtain ⟨c10, c11⟩ := hr1.out _ (New.refl _)
                go_wp2_with fail
                refine (specCut_two (bef 47 x) 46 46 rfl _ _ _ M1.out hs2).mono ?_
                rintro e w2 ⟨g2, cap2, rfl, hr2, hn2⟩
                clear c10 c11
                obtain ⟨c10, c11⟩ := hr1.out _ hn2
                obtain ⟨c20, c21⟩ := hr2.out _ (New.refl _)
                have hn12 := hn1.trans hn2
                go_wp2_with fail
                refine (specNum_some (bef 46 (bef 47 x)) _ _ M3.out h1).mono ?_
                rintro e w3 ⟨rfl, rfl⟩
                go_wp2_with fail
                refine (specNum_some (aft 46 (bef 47 x)) _ _ M4.out h2).mono ?_
                rintro e w3 ⟨rfl, rfl⟩
                go_wp2_with fail
                refine (specNum_some (aft 47 x) _ _ M2.out h3).mono ?_
                rintro e w3 ⟨rfl, rfl⟩
                have hcs := (hB.new hn12).cells
                have hfs := (hB.new hn12).frees
                have hds := (hD.new hn12).cells
                go_wp2
                refine bodyPost_ret (v := .agg #[.int .i64 5, .int .i64 0, .int .i64 0]) (by simp [results, Tryd.results8, go_sem, hcs]) rfl ⟨by rw [hf.out], ?_⟩
                exact New.setCell (New.setCell (New.setCell (hw.trans hn12) hBge _) hBge _) hBge _

            · have hh : h ≤ 255 := by omega
              have hoo : o ≤ 255 := by omega
              have hq : parse x = if pf (h * 256 + o) n = 0 then (0, h * 256 + o, n) else (pf (h * 256 + o) n, 0, 0) := by rw [hp]; unfold pfx; rw [if_neg hbig]
              clear hp hbig
              rcases pf_three (h * 256 + o) n with hz | hz | hz
              · have hf : Hid (parse x = (0, h * 256 + o, n)) := by unfold Hid; rw [hq, hz]; rfl
                clear hq
                go_enter Tryd.func8, Tryd.ntmps8
                go_wp2_with fail
                refine (specCut_two x 47 47 rfl _ _ _ hm hs1).mono ?_
                rintro e w1 ⟨g1, cap1, rfl, hr1, hn1⟩
                obtain ⟨c10, c11⟩ := hr1.out _ (New.refl _)
                go_wp2_with fail
                refine (specCut_two (bef 47 x) 46 46 rfl _ _ _ M1.out hs2).mono ?_
                rintro e w2 ⟨g2, cap2, rfl, hr2, hn2⟩
                clear c10 c11
                obtain ⟨c10, c11⟩ := hr1.out _ hn2
                obtain ⟨c20, c21⟩ := hr2.out _ (New.refl _)
                have hn12 := hn1.trans hn2
                go_wp2_with fail
                refine (specNum_some (bef 46 (bef 47 x)) _ _ M3.out h1).mono ?_
                rintro e w3 ⟨rfl, rfl⟩
                go_wp2_with fail
                refine (specNum_some (aft 46 (bef 47 x)) _ _ M4.out h2).mono ?_
                rintro e w3 ⟨rfl, rfl⟩
                go_wp2_with fail
                refine (specNum_some (aft 47 x) _ _ M2.out h3).mono ?_
                rintro e w3 ⟨rfl, rfl⟩
                clear c10 c11 c20 c21
                go_wp2_with fail
                refine (specPF_is (h * 256 + o) n _ _ hz).mono ?_
                rintro e w4 ⟨rfl, hn4⟩
                have hn14 := (hn12.alloc _).trans hn4
                have hcs := (hB.new hn14).cells
                have hfs := (hB.new hn14).frees
                have s4 := hn4.size
                have p0 : w4.cell? ⟨w3.heap.size, 0, none⟩ = some (.int .i64 (h * 256 + o)) := by rw [hn4.cells _ _ (by simp)]; go_simp
                have p1 : w4.cell? ⟨w3.heap.size, 1, none⟩ = some (.int .i64 n) := by rw [hn4.cells _ _ (by simp)]; go_simp
                go_wp2
                refine bodyPost_ret (v := .agg #[.int .i64 0, .int .i64 (h * 256 + o), .int .i64 n]) (by simp [results, Tryd.results8, go_sem, hcs]) rfl ⟨by rw [hf.out], ?_⟩
                exact New.setCell (New.setCell (New.setCell (hw.trans hn14) hBge _) hBge _) hBge _

              · have hf : Hid (parse x = (1, 0, 0)) := by unfold Hid; rw [hq, hz]; rfl
                clear hq
                go_enter Tryd.func8, Tryd.ntmps8
                go_wp2_with fail
                refine (specCut_two x 47 47 rfl _ _ _ hm hs1).mono ?_
                rintro e w1 ⟨g1, cap1, rfl, hr1, hn1⟩
                obtain ⟨c10, c11⟩ := hr1.out _ (New.refl _)
                go_wp2_with fail
                refine (specCut_two (bef 47 x) 46 46 rfl _ _ _ M1.out hs2).mono ?_
                rintro e w2 ⟨g2, cap2, rfl, hr2, hn2⟩
                clear c10 c11
                obtain ⟨c10, c11⟩ := hr1.out _ hn2
                obtain ⟨c20, c21⟩ := hr2.out _ (New.refl _)
                have hn12 := hn1.trans hn2
                go_wp2_with fail
                refine (specNum_some (bef 46 (bef 47 x)) _ _ M3.out h1).mono ?_
                rintro e w3 ⟨rfl, rfl⟩
                go_wp2_with fail
                refine (specNum_some (aft 46 (bef 47 x)) _ _ M4.out h2).mono ?_
                rintro e w3 ⟨rfl, rfl⟩
                go_wp2_with fail
                refine (specNum_some (aft 47 x) _ _ M2.out h3).mono ?_
                rintro e w3 ⟨rfl, rfl⟩
                clear c10 c11 c20 c21
                go_wp2_with fail
                refine (specPF_is (h * 256 + o) n _ _ hz).mono ?_
                rintro e w4 ⟨rfl, hn4⟩
                have hn14 := (hn12.alloc _).trans hn4
                have hcs := (hB.new hn14).cells
                have hfs := (hB.new hn14).frees
                have s4 := hn4.size
                have p0 : w4.cell? ⟨w3.heap.size, 0, none⟩ = some (.int .i64 (h * 256 + o)) := by rw [hn4.cells _ _ (by simp)]; go_simp
                have p1 : w4.cell? ⟨w3.heap.size, 1, none⟩ = some (.int .i64 n) := by rw [hn4.cells _ _ (by simp)]; go_simp
                go_wp2
                refine bodyPost_ret (v := .agg #[.int .i64 1, .int .i64 0, .int .i64 0]) (by simp [results, Tryd.results8, go_sem, hcs]) rfl ⟨by rw [hf.out], ?_⟩
                exact New.setCell (New.setCell (New.setCell (hw.trans hn14) hBge _) hBge _) hBge _

              · have hf : Hid (parse x = (3, 0, 0)) := by unfold Hid; rw [hq, hz]; rfl
                clear hq
                go_enter Tryd.func8, Tryd.ntmps8
                go_wp2_with fail
                refine (specCut_two x 47 47 rfl _ _ _ hm hs1).mono ?_
                rintro e w1 ⟨g1, cap1, rfl, hr1, hn1⟩
                obtain ⟨c10, c11⟩ := hr1.out _ (New.refl _)
                go_wp2_with fail
                refine (specCut_two (bef 47 x) 46 46 rfl _ _ _ M1.out hs2).mono ?_
                rintro e w2 ⟨g2, cap2, rfl, hr2, hn2⟩
                clear c10 c11
                obtain ⟨c10, c11⟩ := hr1.out _ hn2
                obtain ⟨c20, c21⟩ := hr2.out _ (New.refl _)
                have hn12 := hn1.trans hn2
                go_wp2_with fail
                refine (specNum_some (bef 46 (bef 47 x)) _ _ M3.out h1).mono ?_
                rintro e w3 ⟨rfl, rfl⟩
                go_wp2_with fail
                refine (specNum_some (aft 46 (bef 47 x)) _ _ M4.out h2).mono ?_
                rintro e w3 ⟨rfl, rfl⟩
                go_wp2_with fail
                refine (specNum_some (aft 47 x) _ _ M2.out h3).mono ?_
                rintro e w3 ⟨rfl, rfl⟩
                clear c10 c11 c20 c21
                go_wp2_with fail
                refine (specPF_is (h * 256 + o) n _ _ hz).mono ?_
                rintro e w4 ⟨rfl, hn4⟩
                have hn14 := (hn12.alloc _).trans hn4
                have hcs := (hB.new hn14).cells
                have hfs := (hB.new hn14).frees
                have s4 := hn4.size
                have p0 : w4.cell? ⟨w3.heap.size, 0, none⟩ = some (.int .i64 (h * 256 + o)) := by rw [hn4.cells _ _ (by simp)]; go_simp
                have p1 : w4.cell? ⟨w3.heap.size, 1, none⟩ = some (.int .i64 n) := by rw [hn4.cells _ _ (by simp)]; go_simp
                go_wp2
                refine bodyPost_ret (v := .agg #[.int .i64 3, .int .i64 0, .int .i64 0]) (by simp [results, Tryd.results8, go_sem, hcs]) rfl ⟨by rw [hf.out], ?_⟩
                exact New.setCell (New.setCell (New.setCell (hw.trans hn14) hBge _) hBge _) hBge _

    · have hf : Hid (parse x = (5, 0, 0)) := parse_no2 hno2
      go_enter Tryd.func8, Tryd.ntmps8
      go_wp2_with fail
      refine (specCut_two x 47 47 rfl _ _ _ hm hs1).mono ?_
      rintro e w1 ⟨g1, cap1, rfl, hr1, hn1⟩
      obtain ⟨c10, c11⟩ := hr1.out _ (New.refl _)
      go_wp2_with fail
      refine (specCut_not (bef 47 x) 46 46 rfl _ M1.out hs2).mono ?_
      rintro e w2 ⟨g2, cap2, m2, rfl, hne, hn2⟩
      clear c10 c11
      have hn12 := hn1.trans hn2
      have hcs := (hB.new hn12).cells
      have hfs := (hB.new hn12).frees
      have hds := (hD.new hn12).cells
      go_wp2
      refine bodyPost_ret (v := .agg #[.int .i64 5, .int .i64 0, .int .i64 0]) (by simp [results, Tryd.results8, go_sem, hcs]) rfl ⟨by rw [hf.out], ?_⟩
      exact New.setCell (New.setCell (New.setCell (hw.trans hn12) hBge _) hBge _) hBge _

  · have hf : Hid (parse x = (5, 0, 0)) := parse_no1 hno1
    go_enter Tryd.func8, Tryd.ntmps8
    go_wp2_with fail
    refine (specCut_not x 47 47 rfl _ hm hs1).mono ?_
    rintro e w2 ⟨g2, cap2, m2, rfl, hne, hn2⟩
    have hcs := (hB.new hn2).cells
    have hfs := (hB.new hn2).frees
    have hds := (hD.new hn2).cells
    go_wp2
    refine bodyPost_ret (v := .agg #[.int .i64 5, .int .i64 0, .int .i64 0]) (by simp [results, Tryd.results8, go_sem, hcs]) rfl ⟨by rw [hf.out], ?_⟩
    exact New.setCell (New.setCell (New.setCell (hw.trans hn2) hBge _) hBge _) hBge _


end Go.Proofs.YthjoogfbhaceoaaDoor
