/- What is proved here: what the program's and the model's reading of a prefix from a text answer, for every text of at most 1048576 bytes. -/
import Derived.Test.YthjoogfbhaceoaaDoorPpLib
namespace Go.Proofs.YthjoogfbhaceoaaDoor
open Go.RowKit Go.Sort

set_option maxHeartbeats 1600000 in
theorem implParse (x : List UInt8) (w : World) (hm : x.length ≤ 1048576) : Calls Tryd.prog 6 #[.string ⟨x.toArray⟩] w fun e w' => e = .returned (.agg #[.int .i64 (parse x).1, .int .i64 (parse x).2.1, .int .i64 (parse x).2.2]) ∧ New w w' := by
  have m1 := bef_le 47 x
  have m2 := aft_le 47 x
  have m3 := bef_le 46 (bef 47 x)
  have m4 := aft_le 46 (bef 47 x)
  have M1 : Hid ((bef 47 x).length ≤ 1048576) := by unfold Hid; omega
  have M2 : Hid ((aft 47 x).length ≤ 1048576) := by unfold Hid; omega
  have M3 : Hid ((bef 46 (bef 47 x)).length ≤ 1048576) := by unfold Hid; omega
  have M4 : Hid ((aft 46 (bef 47 x)).length ≤ 1048576) := by unfold Hid; omega
  clear m1 m2 m3 m4
  have hw := (New.refl w).alloc (.cells #[.int .i64 0, .int .i64 0, .int .i64 0] 28)
  have hB : Blk (w.alloc (.cells #[.int .i64 0, .int .i64 0, .int .i64 0] 28)) w.heap.size 28 #[.int .i64 0, .int .i64 0, .int .i64 0] := Blk.mk _ _ _ _ rfl
  have hBge := Nat.le_refl w.heap.size
  cases h1 : numD (bef 46 (bef 47 x)) with
  | none =>
    have hf : Hid (parse x = (5, 0, 0)) := parse_no3 h1
    go_enter Tryd.func6, Tryd.ntmps6
    go_wp2_with fail
    refine (strCut_l x 47 _ hm).mono ?_
    rintro e w1 ⟨fd1, rfl, n1, rfl⟩
    go_wp2_with fail
    refine (strCut_l (bef 47 x) 46 _ M1.out).mono ?_
    rintro e w2 ⟨fd2, rfl, n2, rfl⟩
    go_wp2_with fail
    refine (implNum_none (bef 46 (bef 47 x)) _ M3.out h1).mono ?_
    rintro e w3 ⟨rfl, rfl⟩
    go_wp2_with fail
    refine (implNum_l (aft 46 (bef 47 x)) _ M4.out).mono ?_
    rintro e w3 ⟨rfl, rfl⟩
    go_wp2_with fail
    refine (implNum_l (aft 47 x) _ M2.out).mono ?_
    rintro e w3 ⟨rfl, rfl⟩
    go_wp2
    refine bodyPost_ret (v := .agg #[.int .i64 5, .int .i64 0, .int .i64 0]) (by simp [results, Tryd.results6, go_sem]) rfl ⟨by rw [hf.out], ?_⟩
    exact New.setCell (New.setCell (New.setCell (hw.drewN (n1 + n2)) hBge _) hBge _) hBge _

  | some h =>
    cases h2 : numD (aft 46 (bef 47 x)) with
    | none =>
      have hf : Hid (parse x = (5, 0, 0)) := parse_no2 h2
      go_enter Tryd.func6, Tryd.ntmps6
      go_wp2_with fail
      refine (strCut_l x 47 _ hm).mono ?_
      rintro e w1 ⟨fd1, rfl, n1, rfl⟩
      go_wp2_with fail
      refine (strCut_l (bef 47 x) 46 _ M1.out).mono ?_
      rintro e w2 ⟨fd2, rfl, n2, rfl⟩
      go_wp2_with fail
      refine (implNum_some (bef 46 (bef 47 x)) _ _ M3.out h1).mono ?_
      rintro e w3 ⟨rfl, rfl⟩
      go_wp2_with fail
      refine (implNum_none (aft 46 (bef 47 x)) _ M4.out h2).mono ?_
      rintro e w3 ⟨rfl, rfl⟩
      go_wp2_with fail
      refine (implNum_l (aft 47 x) _ M2.out).mono ?_
      rintro e w3 ⟨rfl, rfl⟩
      go_wp2
      refine bodyPost_ret (v := .agg #[.int .i64 5, .int .i64 0, .int .i64 0]) (by simp [results, Tryd.results6, go_sem]) rfl ⟨by rw [hf.out], ?_⟩
      exact New.setCell (New.setCell (New.setCell (hw.drewN (n1 + n2)) hBge _) hBge _) hBge _

    | some o =>
      cases h3 : numD (aft 47 x) with
      | none =>
        have hf : Hid (parse x = (5, 0, 0)) := parse_no1 h3
        go_enter Tryd.func6, Tryd.ntmps6
        go_wp2_with fail
        refine (strCut_l x 47 _ hm).mono ?_
        rintro e w1 ⟨fd1, rfl, n1, rfl⟩
        go_wp2_with fail
        refine (strCut_l (bef 47 x) 46 _ M1.out).mono ?_
        rintro e w2 ⟨fd2, rfl, n2, rfl⟩
        go_wp2_with fail
        refine (implNum_some (bef 46 (bef 47 x)) _ _ M3.out h1).mono ?_
        rintro e w3 ⟨rfl, rfl⟩
        go_wp2_with fail
        refine (implNum_some (aft 46 (bef 47 x)) _ _ M4.out h2).mono ?_
        rintro e w3 ⟨rfl, rfl⟩
        go_wp2_with fail
        refine (implNum_none (aft 47 x) _ M2.out h3).mono ?_
        rintro e w3 ⟨rfl, rfl⟩
        go_wp2
        refine bodyPost_ret (v := .agg #[.int .i64 5, .int .i64 0, .int .i64 0]) (by simp [results, Tryd.results6, go_sem]) rfl ⟨by rw [hf.out], ?_⟩
        exact New.setCell (New.setCell (New.setCell (hw.drewN (n1 + n2)) hBge _) hBge _) hBge _

      | some n =>
        have hp := parse_yes h1 h2 h3
        obtain ⟨ha0, ha1⟩ := numD_bd h1
        obtain ⟨ho0, ho1⟩ := numD_bd h2
        obtain ⟨hn0, hn1⟩ := numD_bd h3
        by_cases hbig : 255 < h ∨ 255 < o
        · have hf : Hid (parse x = (5, 0, 0)) := by unfold Hid; rw [hp]; unfold pfx; rw [if_pos hbig]
          rcases (show 255 < h ∨ (h ≤ 255 ∧ 255 < o) by omega) with hb1 | ⟨hb1, hb2⟩
          all_goals
            clear hp
            go_enter Tryd.func6, Tryd.ntmps6
            go_wp2_with fail
            refine (strCut_l x 47 _ hm).mono ?_
            rintro e w1 ⟨fd1, rfl, n1, rfl⟩
            go_wp2_with fail
            refine (strCut_l (bef 47 x) 46 _ M1.out).mono ?_
            rintro e w2 ⟨fd2, rfl, n2, rfl⟩
            go_wp2_with fail
            refine (implNum_some (bef 46 (bef 47 x)) _ _ M3.out h1).mono ?_
            rintro e w3 ⟨rfl, rfl⟩
            go_wp2_with fail
            refine (implNum_some (aft 46 (bef 47 x)) _ _ M4.out h2).mono ?_
            rintro e w3 ⟨rfl, rfl⟩
            go_wp2_with fail
            refine (implNum_some (aft 47 x) _ _ M2.out h3).mono ?_
            rintro e w3 ⟨rfl, rfl⟩
            go_wp2
            refine bodyPost_ret (v := .agg #[.int .i64 5, .int .i64 0, .int .i64 0]) (by simp [results, Tryd.results6, go_sem]) rfl ⟨by rw [hf.out], ?_⟩
            exact New.setCell (New.setCell (New.setCell (hw.drewN (n1 + n2)) hBge _) hBge _) hBge _

        · have hh : h ≤ 255 := by omega
          have hoo : o ≤ 255 := by omega
          have hq : parse x = if pf (h * 256 + o) n = 0 then (0, h * 256 + o, n) else (pf (h * 256 + o) n, 0, 0) := by rw [hp]; unfold pfx; rw [if_neg hbig]
          clear hp hbig
          rcases pf_three (h * 256 + o) n with hz | hz | hz
          · have hf : Hid (parse x = (0, h * 256 + o, n)) := by unfold Hid; rw [hq, hz]; rfl
            clear hq
            go_enter Tryd.func6, Tryd.ntmps6
            go_wp2_with fail
            refine (strCut_l x 47 _ hm).mono ?_
            rintro e w1 ⟨fd1, rfl, n1, rfl⟩
            go_wp2_with fail
            refine (strCut_l (bef 47 x) 46 _ M1.out).mono ?_
            rintro e w2 ⟨fd2, rfl, n2, rfl⟩
            go_wp2_with fail
            refine (implNum_some (bef 46 (bef 47 x)) _ _ M3.out h1).mono ?_
            rintro e w3 ⟨rfl, rfl⟩
            go_wp2_with fail
            refine (implNum_some (aft 46 (bef 47 x)) _ _ M4.out h2).mono ?_
            rintro e w3 ⟨rfl, rfl⟩
            go_wp2_with fail
            refine (implNum_some (aft 47 x) _ _ M2.out h3).mono ?_
            rintro e w3 ⟨rfl, rfl⟩
            go_wp2_with fail
            refine (implPF_is (h * 256 + o) n _ _ hz).mono ?_
            rintro e w4 ⟨rfl, hn4⟩
            have s4 := hn4.size
            simp at s4
            have hnw : New w w4 := (by first | exact ((((New.refl w).alloc _).alloc _).drewN _).trans hn4 | exact (((((New.refl w).alloc _).alloc _).drewN _).drewN _).trans hn4)
            have r0 : w4.cell? ⟨w.heap.size, 0, none⟩ = some (.int .i64 0) := by rw [hn4.cells _ _ (by simp; omega)]; go_simp
            have r1 : w4.cell? ⟨w.heap.size, 1, none⟩ = some (.int .i64 0) := by rw [hn4.cells _ _ (by simp; omega)]; go_simp
            have r2 : w4.cell? ⟨w.heap.size, 2, none⟩ = some (.int .i64 0) := by rw [hn4.cells _ _ (by simp; omega)]; go_simp
            have q0 : w4.frozen? ⟨w.heap.size, 0, none⟩ = false := by rw [hn4.frozens _ _ (by simp; omega)]; go_simp
            have q1 : w4.frozen? ⟨w.heap.size, 1, none⟩ = false := by rw [hn4.frozens _ _ (by simp; omega)]; go_simp
            have q2 : w4.frozen? ⟨w.heap.size, 2, none⟩ = false := by rw [hn4.frozens _ _ (by simp; omega)]; go_simp
            have p0 : w4.cell? ⟨w.heap.size + 1, 0, none⟩ = some (.int .i64 (h * 256 + o)) := by rw [hn4.cells _ _ (by simp)]; go_simp
            have p1 : w4.cell? ⟨w.heap.size + 1, 1, none⟩ = some (.int .i64 n) := by rw [hn4.cells _ _ (by simp)]; go_simp
            go_wp2
            refine bodyPost_ret (v := .agg #[.int .i64 0, .int .i64 (h * 256 + o), .int .i64 n]) (by simp [results, Tryd.results6, go_sem, r0, r1, r2]) rfl ⟨by rw [hf.out], ?_⟩
            exact ((hnw.setCell hBge _).setCell hBge _).setCell hBge _

          · have hf : Hid (parse x = (1, 0, 0)) := by unfold Hid; rw [hq, hz]; rfl
            clear hq
            go_enter Tryd.func6, Tryd.ntmps6
            go_wp2_with fail
            refine (strCut_l x 47 _ hm).mono ?_
            rintro e w1 ⟨fd1, rfl, n1, rfl⟩
            go_wp2_with fail
            refine (strCut_l (bef 47 x) 46 _ M1.out).mono ?_
            rintro e w2 ⟨fd2, rfl, n2, rfl⟩
            go_wp2_with fail
            refine (implNum_some (bef 46 (bef 47 x)) _ _ M3.out h1).mono ?_
            rintro e w3 ⟨rfl, rfl⟩
            go_wp2_with fail
            refine (implNum_some (aft 46 (bef 47 x)) _ _ M4.out h2).mono ?_
            rintro e w3 ⟨rfl, rfl⟩
            go_wp2_with fail
            refine (implNum_some (aft 47 x) _ _ M2.out h3).mono ?_
            rintro e w3 ⟨rfl, rfl⟩
            go_wp2_with fail
            refine (implPF_is (h * 256 + o) n _ _ hz).mono ?_
            rintro e w4 ⟨rfl, hn4⟩
            have s4 := hn4.size
            simp at s4
            have hnw : New w w4 := (by first | exact ((((New.refl w).alloc _).alloc _).drewN _).trans hn4 | exact (((((New.refl w).alloc _).alloc _).drewN _).drewN _).trans hn4)
            have r0 : w4.cell? ⟨w.heap.size, 0, none⟩ = some (.int .i64 0) := by rw [hn4.cells _ _ (by simp; omega)]; go_simp
            have r1 : w4.cell? ⟨w.heap.size, 1, none⟩ = some (.int .i64 0) := by rw [hn4.cells _ _ (by simp; omega)]; go_simp
            have r2 : w4.cell? ⟨w.heap.size, 2, none⟩ = some (.int .i64 0) := by rw [hn4.cells _ _ (by simp; omega)]; go_simp
            have q0 : w4.frozen? ⟨w.heap.size, 0, none⟩ = false := by rw [hn4.frozens _ _ (by simp; omega)]; go_simp
            have q1 : w4.frozen? ⟨w.heap.size, 1, none⟩ = false := by rw [hn4.frozens _ _ (by simp; omega)]; go_simp
            have q2 : w4.frozen? ⟨w.heap.size, 2, none⟩ = false := by rw [hn4.frozens _ _ (by simp; omega)]; go_simp
            have p0 : w4.cell? ⟨w.heap.size + 1, 0, none⟩ = some (.int .i64 (h * 256 + o)) := by rw [hn4.cells _ _ (by simp)]; go_simp
            have p1 : w4.cell? ⟨w.heap.size + 1, 1, none⟩ = some (.int .i64 n) := by rw [hn4.cells _ _ (by simp)]; go_simp
            go_wp2
            refine bodyPost_ret (v := .agg #[.int .i64 1, .int .i64 0, .int .i64 0]) (by simp [results, Tryd.results6, go_sem, r0, r1, r2]) rfl ⟨by rw [hf.out], ?_⟩
            exact ((hnw.setCell hBge _).setCell hBge _).setCell hBge _

          · have hf : Hid (parse x = (3, 0, 0)) := by unfold Hid; rw [hq, hz]; rfl
            clear hq
            go_enter Tryd.func6, Tryd.ntmps6
            go_wp2_with fail
            refine (strCut_l x 47 _ hm).mono ?_
            rintro e w1 ⟨fd1, rfl, n1, rfl⟩
            go_wp2_with fail
            refine (strCut_l (bef 47 x) 46 _ M1.out).mono ?_
            rintro e w2 ⟨fd2, rfl, n2, rfl⟩
            go_wp2_with fail
            refine (implNum_some (bef 46 (bef 47 x)) _ _ M3.out h1).mono ?_
            rintro e w3 ⟨rfl, rfl⟩
            go_wp2_with fail
            refine (implNum_some (aft 46 (bef 47 x)) _ _ M4.out h2).mono ?_
            rintro e w3 ⟨rfl, rfl⟩
            go_wp2_with fail
            refine (implNum_some (aft 47 x) _ _ M2.out h3).mono ?_
            rintro e w3 ⟨rfl, rfl⟩
            go_wp2_with fail
            refine (implPF_is (h * 256 + o) n _ _ hz).mono ?_
            rintro e w4 ⟨rfl, hn4⟩
            have s4 := hn4.size
            simp at s4
            have hnw : New w w4 := (by first | exact ((((New.refl w).alloc _).alloc _).drewN _).trans hn4 | exact (((((New.refl w).alloc _).alloc _).drewN _).drewN _).trans hn4)
            have r0 : w4.cell? ⟨w.heap.size, 0, none⟩ = some (.int .i64 0) := by rw [hn4.cells _ _ (by simp; omega)]; go_simp
            have r1 : w4.cell? ⟨w.heap.size, 1, none⟩ = some (.int .i64 0) := by rw [hn4.cells _ _ (by simp; omega)]; go_simp
            have r2 : w4.cell? ⟨w.heap.size, 2, none⟩ = some (.int .i64 0) := by rw [hn4.cells _ _ (by simp; omega)]; go_simp
            have q0 : w4.frozen? ⟨w.heap.size, 0, none⟩ = false := by rw [hn4.frozens _ _ (by simp; omega)]; go_simp
            have q1 : w4.frozen? ⟨w.heap.size, 1, none⟩ = false := by rw [hn4.frozens _ _ (by simp; omega)]; go_simp
            have q2 : w4.frozen? ⟨w.heap.size, 2, none⟩ = false := by rw [hn4.frozens _ _ (by simp; omega)]; go_simp
            have p0 : w4.cell? ⟨w.heap.size + 1, 0, none⟩ = some (.int .i64 (h * 256 + o)) := by rw [hn4.cells _ _ (by simp)]; go_simp
            have p1 : w4.cell? ⟨w.heap.size + 1, 1, none⟩ = some (.int .i64 n) := by rw [hn4.cells _ _ (by simp)]; go_simp
            go_wp2
            refine bodyPost_ret (v := .agg #[.int .i64 3, .int .i64 0, .int .i64 0]) (by simp [results, Tryd.results6, go_sem, r0, r1, r2]) rfl ⟨by rw [hf.out], ?_⟩
            exact ((hnw.setCell hBge _).setCell hBge _).setCell hBge _


end Go.Proofs.YthjoogfbhaceoaaDoor
