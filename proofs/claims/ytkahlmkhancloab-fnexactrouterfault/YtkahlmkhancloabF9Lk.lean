/- What is proved here: what the fault of a link is, in the program and in the model, where its lists have at most 1048576 things. -/
import Derived.Test.YtkahlmkhancloabL9Lib
import Derived.Test.YtkahlmkhancloabT8Fa
import Derived.Test.YtkahlmkhancloabS5Fn
namespace Go.Proofs.Ytkahlmkhancloab
open Go.RowKit Go.Sort
set_option linter.unusedVariables false

/-- The fault of a link: of its session, of how many bytes and things told there are, and of these. -/
def lkF (st pe ho si sp : Int) (n m : Nat) (f : Int) : Int :=
  if sf st pe ho si sp = 0 then (if 300 < n then 2 else if f = 0 then (if (st = 0 ∧ 0 < n) ∨ (st ≠ 3 ∧ 0 < m) then 1 else 0) else f) else sf st pe ho si sp
def Lk.f (v : Lk) : Int := lkF v.st v.pe v.ho v.si v.sp v.bs.length v.td.length (tdF v.td)

theorem implSF_is (st pe ho si sp z : Int) (w : World) (hz : sf st pe ho si sp = z) : Calls Try.prog 59 #[.agg #[.int .i64 st, .int .i64 pe, .int .i64 ho, .int .i64 si, .int .i64 sp]] w fun e w' => e = .returned (.int .i64 z) ∧ New w w' := hz ▸ implSF st pe ho si sp w

theorem specSF_is (st pe ho si sp z : Int) (w : World) (hz : sf st pe ho si sp = z) : Calls Try.prog 77 #[.agg #[.int .i64 st, .int .i64 pe, .int .i64 ho, .int .i64 si, .int .i64 sp]] w fun e w' => e = .returned (.int .i64 z) ∧ New w w' := hz ▸ specSF st pe ho si sp w

theorem idle9_yes (pe ho si sp : Int) (w : World) : Calls Try.prog 61 #[.agg #[.int .i64 0, .int .i64 pe, .int .i64 ho, .int .i64 si, .int .i64 sp]] w fun e w' => e = .returned (.bool true) ∧ New w w' := by
  go_enter Try.func61, Try.ntmps61
  go_wp2
  go_ret
  exact ⟨rfl, (New.refl w).alloc _⟩

theorem idle9_no (st pe ho si sp : Int) (w : World) (h : ¬ st = 0) : Calls Try.prog 61 #[.agg #[.int .i64 st, .int .i64 pe, .int .i64 ho, .int .i64 si, .int .i64 sp]] w fun e w' => e = .returned (.bool false) ∧ New w w' := by
  have hz : (st == 0) = false := by simpa using h
  go_enter Try.func61, Try.ntmps61
  go_wp2
  go_ret
  exact ⟨rfl, (New.refl w).alloc _⟩

theorem up9_yes (pe ho si sp : Int) (w : World) : Calls Try.prog 28 #[.agg #[.int .i64 3, .int .i64 pe, .int .i64 ho, .int .i64 si, .int .i64 sp]] w fun e w' => e = .returned (.bool true) ∧ New w w' := by
  go_enter Try.func28, Try.ntmps28
  go_wp2
  go_ret
  exact ⟨rfl, (New.refl w).alloc _⟩

theorem up9_no (st pe ho si sp : Int) (w : World) (h : ¬ st = 3) : Calls Try.prog 28 #[.agg #[.int .i64 st, .int .i64 pe, .int .i64 ho, .int .i64 si, .int .i64 sp]] w fun e w' => e = .returned (.bool false) ∧ New w w' := by
  have hz : (st == 3) = false := by simpa using h
  go_enter Try.func28, Try.ntmps28
  go_wp2
  go_ret
  exact ⟨rfl, (New.refl w).alloc _⟩

set_option maxHeartbeats 3200000 in
theorem implLF (st pe ho si sp : Int) (b t : Option Addr) (n c m d : Nat) (V : List Tv) (z : Int) (w : World) (ht : TdAt w t V) (hm : V.length = m) (hn1 : n ≤ 1048576) (hm1 : m ≤ 1048576) (hz : lkF st pe ho si sp n m (tdF (V.map Tv.r)) = z) : Calls Try.prog 26 #[.agg #[.int .i64 st, .int .i64 pe, .int .i64 ho, .int .i64 si, .int .i64 sp, .slice b n c, .slice t m d]] w fun e w' => e = .returned (.int .i64 z) ∧ New w w' := by
  have N0 := (New.refl w).alloc (.cells #[.int .i64 st, .int .i64 pe, .int .i64 ho, .int .i64 si, .int .i64 sp, .slice b n c, .slice t m d] 67)
  have bA := (Blk.mk w _ 67 #[.int .i64 st, .int .i64 pe, .int .i64 ho, .int .i64 si, .int .i64 sp, .slice b n c, .slice t m d] rfl)
  have cA := bA.cells
  have HM : Hid (V.length = m) := hm
  clear hm
  by_cases hs : sf st pe ho si sp = 0
  · have HS : Hid (sf st pe ho si sp = 0) := hs
    clear hs
    by_cases hn3 : 300 < n
    · obtain rfl : 2 = z := by
        have := hz
        unfold lkF at this
        rw [if_pos HS.out, if_pos hn3] at this
        exact this
      clear hz
      go_enter Try.func26, Try.ntmps26
      go_wp2_with fail
      refine (implSF_is st pe ho si sp 0 _ HS.out).mono ?_
      rintro e w1 ⟨rfl, k1⟩
      have N1 := N0.trans k1
      have b1 := bA.new k1
      have c1' := b1.cells
      clear cA
      go_wp2
      go_ret
      exact ⟨rfl, N1⟩
    · by_cases hT : tdF (V.map Tv.r) = 0
      · have HT : Hid (tdF (V.map Tv.r) = 0) := hT
        clear hT
        by_cases hs0 : st = 0
        · subst hs0
          have hs3 : ¬ (0 : Int) = 3 := by omega
          by_cases hp : 0 < n
          · obtain rfl : 1 = z := by
              have := hz
              unfold lkF at this
              rw [if_pos HS.out, if_neg hn3, if_pos HT.out, if_pos (Or.inl ⟨rfl, hp⟩)] at this
              exact this
            clear hz
            go_enter Try.func26, Try.ntmps26
            go_wp2_with fail
            refine (implSF_is 0 pe ho si sp 0 _ HS.out).mono ?_
            rintro e w1 ⟨rfl, k1⟩
            have N1 := N0.trans k1
            have b1 := bA.new k1
            have c1' := b1.cells
            clear cA
            go_wp2_with fail
            refine (implTF t m d V 0 _ (ht.new N1) HM.out hm1 HT.out).mono ?_
            rintro e w2 ⟨rfl, k2⟩
            have N2 := N1.trans k2
            have b2 := b1.new k2
            have c2' := b2.cells
            clear c1'
            go_wp2_with fail
            refine (idle9_yes pe ho si sp _).mono ?_
            rintro e w3 ⟨rfl, k3⟩
            have N3 := N2.trans k3
            have b3 := b2.new k3
            have c3' := b3.cells
            clear c2'
            go_wp2
            go_ret
            exact ⟨rfl, N3⟩
          · by_cases hq : 0 < m
            · obtain rfl : 1 = z := by
                have := hz
                unfold lkF at this
                rw [if_pos HS.out, if_neg hn3, if_pos HT.out, if_pos (Or.inr ⟨hs3, hq⟩)] at this
                exact this
              clear hz
              go_enter Try.func26, Try.ntmps26
              go_wp2_with fail
              refine (implSF_is 0 pe ho si sp 0 _ HS.out).mono ?_
              rintro e w1 ⟨rfl, k1⟩
              have N1 := N0.trans k1
              have b1 := bA.new k1
              have c1' := b1.cells
              clear cA
              go_wp2_with fail
              refine (implTF t m d V 0 _ (ht.new N1) HM.out hm1 HT.out).mono ?_
              rintro e w2 ⟨rfl, k2⟩
              have N2 := N1.trans k2
              have b2 := b1.new k2
              have c2' := b2.cells
              clear c1'
              go_wp2_with fail
              refine (idle9_yes pe ho si sp _).mono ?_
              rintro e w3 ⟨rfl, k3⟩
              have N3 := N2.trans k3
              have b3 := b2.new k3
              have c3' := b3.cells
              clear c2'
              go_wp2_with fail
              refine (up9_no 0 pe ho si sp _ hs3).mono ?_
              rintro e w4 ⟨rfl, k4⟩
              have N4 := N3.trans k4
              have b4 := b3.new k4
              have c4' := b4.cells
              clear c3'
              go_wp2
              go_ret
              exact ⟨rfl, N4⟩
            · obtain rfl : 0 = z := by
                have := hz
                unfold lkF at this
                rw [if_pos HS.out, if_neg hn3, if_pos HT.out, if_neg (by omega)] at this
                exact this
              clear hz
              go_enter Try.func26, Try.ntmps26
              go_wp2_with fail
              refine (implSF_is 0 pe ho si sp 0 _ HS.out).mono ?_
              rintro e w1 ⟨rfl, k1⟩
              have N1 := N0.trans k1
              have b1 := bA.new k1
              have c1' := b1.cells
              clear cA
              go_wp2_with fail
              refine (implTF t m d V 0 _ (ht.new N1) HM.out hm1 HT.out).mono ?_
              rintro e w2 ⟨rfl, k2⟩
              have N2 := N1.trans k2
              have b2 := b1.new k2
              have c2' := b2.cells
              clear c1'
              go_wp2_with fail
              refine (idle9_yes pe ho si sp _).mono ?_
              rintro e w3 ⟨rfl, k3⟩
              have N3 := N2.trans k3
              have b3 := b2.new k3
              have c3' := b3.cells
              clear c2'
              go_wp2_with fail
              refine (up9_no 0 pe ho si sp _ hs3).mono ?_
              rintro e w4 ⟨rfl, k4⟩
              have N4 := N3.trans k4
              have b4 := b3.new k4
              have c4' := b4.cells
              clear c3'
              go_wp2
              go_ret
              exact ⟨rfl, N4⟩
        · by_cases hs3 : st = 3
          · subst hs3
            obtain rfl : 0 = z := by
              have := hz
              unfold lkF at this
              rw [if_pos HS.out, if_neg hn3, if_pos HT.out, if_neg (by omega)] at this
              exact this
            clear hz
            go_enter Try.func26, Try.ntmps26
            go_wp2_with fail
            refine (implSF_is 3 pe ho si sp 0 _ HS.out).mono ?_
            rintro e w1 ⟨rfl, k1⟩
            have N1 := N0.trans k1
            have b1 := bA.new k1
            have c1' := b1.cells
            clear cA
            go_wp2_with fail
            refine (implTF t m d V 0 _ (ht.new N1) HM.out hm1 HT.out).mono ?_
            rintro e w2 ⟨rfl, k2⟩
            have N2 := N1.trans k2
            have b2 := b1.new k2
            have c2' := b2.cells
            clear c1'
            go_wp2_with fail
            refine (idle9_no 3 pe ho si sp _ hs0).mono ?_
            rintro e w3 ⟨rfl, k3⟩
            have N3 := N2.trans k3
            have b3 := b2.new k3
            have c3' := b3.cells
            clear c2'
            go_wp2_with fail
            refine (up9_yes pe ho si sp _).mono ?_
            rintro e w4 ⟨rfl, k4⟩
            have N4 := N3.trans k4
            have b4 := b3.new k4
            have c4' := b4.cells
            clear c3'
            go_wp2
            go_ret
            exact ⟨rfl, N4⟩
          · by_cases hq : 0 < m
            · obtain rfl : 1 = z := by
                have := hz
                unfold lkF at this
                rw [if_pos HS.out, if_neg hn3, if_pos HT.out, if_pos (Or.inr ⟨hs3, hq⟩)] at this
                exact this
              clear hz
              go_enter Try.func26, Try.ntmps26
              go_wp2_with fail
              refine (implSF_is st pe ho si sp 0 _ HS.out).mono ?_
              rintro e w1 ⟨rfl, k1⟩
              have N1 := N0.trans k1
              have b1 := bA.new k1
              have c1' := b1.cells
              clear cA
              go_wp2_with fail
              refine (implTF t m d V 0 _ (ht.new N1) HM.out hm1 HT.out).mono ?_
              rintro e w2 ⟨rfl, k2⟩
              have N2 := N1.trans k2
              have b2 := b1.new k2
              have c2' := b2.cells
              clear c1'
              go_wp2_with fail
              refine (idle9_no st pe ho si sp _ hs0).mono ?_
              rintro e w3 ⟨rfl, k3⟩
              have N3 := N2.trans k3
              have b3 := b2.new k3
              have c3' := b3.cells
              clear c2'
              go_wp2_with fail
              refine (up9_no st pe ho si sp _ hs3).mono ?_
              rintro e w4 ⟨rfl, k4⟩
              have N4 := N3.trans k4
              have b4 := b3.new k4
              have c4' := b4.cells
              clear c3'
              go_wp2
              go_ret
              exact ⟨rfl, N4⟩
            · obtain rfl : 0 = z := by
                have := hz
                unfold lkF at this
                rw [if_pos HS.out, if_neg hn3, if_pos HT.out, if_neg (by omega)] at this
                exact this
              clear hz
              go_enter Try.func26, Try.ntmps26
              go_wp2_with fail
              refine (implSF_is st pe ho si sp 0 _ HS.out).mono ?_
              rintro e w1 ⟨rfl, k1⟩
              have N1 := N0.trans k1
              have b1 := bA.new k1
              have c1' := b1.cells
              clear cA
              go_wp2_with fail
              refine (implTF t m d V 0 _ (ht.new N1) HM.out hm1 HT.out).mono ?_
              rintro e w2 ⟨rfl, k2⟩
              have N2 := N1.trans k2
              have b2 := b1.new k2
              have c2' := b2.cells
              clear c1'
              go_wp2_with fail
              refine (idle9_no st pe ho si sp _ hs0).mono ?_
              rintro e w3 ⟨rfl, k3⟩
              have N3 := N2.trans k3
              have b3 := b2.new k3
              have c3' := b3.cells
              clear c2'
              go_wp2_with fail
              refine (up9_no st pe ho si sp _ hs3).mono ?_
              rintro e w4 ⟨rfl, k4⟩
              have N4 := N3.trans k4
              have b4 := b3.new k4
              have c4' := b4.cells
              clear c3'
              go_wp2
              go_ret
              exact ⟨rfl, N4⟩
      · have HT : Hid (tdF (V.map Tv.r) = z) := by
          have := hz
          unfold lkF at this
          rw [if_pos HS.out, if_neg hn3, if_neg hT] at this
          exact this
        have hz0 : ¬ z = 0 := fun f => hT (HT.out.trans f)
        clear hz hT
        go_enter Try.func26, Try.ntmps26
        go_wp2_with fail
        refine (implSF_is st pe ho si sp 0 _ HS.out).mono ?_
        rintro e w1 ⟨rfl, k1⟩
        have N1 := N0.trans k1
        have b1 := bA.new k1
        have c1' := b1.cells
        clear cA
        go_wp2_with fail
        refine (implTF t m d V z _ (ht.new N1) HM.out hm1 HT.out).mono ?_
        rintro e w2 ⟨rfl, k2⟩
        have N2 := N1.trans k2
        have b2 := b1.new k2
        have c2' := b2.cells
        clear c1'
        go_wp2
        go_ret
        exact ⟨rfl, N2⟩
  · have HS : Hid (sf st pe ho si sp = z) := by
      have := hz
      unfold lkF at this
      rw [if_neg hs] at this
      exact this
    have hz0 : ¬ z = 0 := fun f => hs (HS.out.trans f)
    clear hz hs
    go_enter Try.func26, Try.ntmps26
    go_wp2_with fail
    refine (implSF_is st pe ho si sp z _ HS.out).mono ?_
    rintro e w1 ⟨rfl, k1⟩
    have N1 := N0.trans k1
    have b1 := bA.new k1
    have c1' := b1.cells
    clear cA
    go_wp2
    go_ret
    exact ⟨rfl, N1⟩

set_option maxHeartbeats 3200000 in
theorem specLF (B o : Nat) (st pe ho si sp : Int) (b t : Option Addr) (n c m d : Nat) (V : List Tv) (z : Int) (w : World) (q0 : w.cell? ⟨B, o, none⟩ = some (.int .i64 st)) (q1 : w.cell? ⟨B, o + 1, none⟩ = some (.int .i64 pe)) (q2 : w.cell? ⟨B, o + 2, none⟩ = some (.int .i64 ho)) (q3 : w.cell? ⟨B, o + 3, none⟩ = some (.int .i64 si)) (q4 : w.cell? ⟨B, o + 4, none⟩ = some (.int .i64 sp)) (q5 : w.cell? ⟨B, o + 5, none⟩ = some (.slice b n c)) (q6 : w.cell? ⟨B, o + 6, none⟩ = some (.slice t m d)) (ht : TdAt w t V) (hm : V.length = m) (hn1 : n ≤ 1048576) (hm1 : m ≤ 1048576) (hz : lkF st pe ho si sp n m (tdF (V.map Tv.r)) = z) : Calls Try.prog 50 #[.pointer (some ⟨B, o, none⟩)] w fun e w' => e = .returned (.int .i64 z) ∧ New w w' := by
  have hBw := World.block_lt_of_cell? w _ q0
  have N0 := New.refl w
  have HM : Hid (V.length = m) := hm
  clear hm
  by_cases hs : sf st pe ho si sp = 0
  · have HS : Hid (sf st pe ho si sp = 0) := hs
    clear hs
    by_cases hn3 : 300 < n
    · obtain rfl : 2 = z := by
        have := hz
        unfold lkF at this
        rw [if_pos HS.out, if_pos hn3] at this
        exact this
      clear hz
      go_enter Try.func50, Try.ntmps50
      go_wp2_with fail
      refine (specSF_is st pe ho si sp 0 _ HS.out).mono ?_
      rintro e w1 ⟨rfl, k1⟩
      have N1 := N0.trans k1
      have y10 : w1.cell? ⟨B, o, none⟩ = some (.int .i64 st) := (N1.cells _ _ hBw).trans q0
      have y11 : w1.cell? ⟨B, o + 1, none⟩ = some (.int .i64 pe) := (N1.cells _ _ hBw).trans q1
      have y12 : w1.cell? ⟨B, o + 2, none⟩ = some (.int .i64 ho) := (N1.cells _ _ hBw).trans q2
      have y13 : w1.cell? ⟨B, o + 3, none⟩ = some (.int .i64 si) := (N1.cells _ _ hBw).trans q3
      have y14 : w1.cell? ⟨B, o + 4, none⟩ = some (.int .i64 sp) := (N1.cells _ _ hBw).trans q4
      have y15 : w1.cell? ⟨B, o + 5, none⟩ = some (.slice b n c) := (N1.cells _ _ hBw).trans q5
      have y16 : w1.cell? ⟨B, o + 6, none⟩ = some (.slice t m d) := (N1.cells _ _ hBw).trans q6
      go_wp2
      go_ret
      exact ⟨rfl, N1⟩
    · by_cases hT : tdF (V.map Tv.r) = 0
      · have HT : Hid (tdF (V.map Tv.r) = 0) := hT
        clear hT
        by_cases hs0 : st = 0
        · subst hs0
          have hs3 : ¬ (0 : Int) = 3 := by omega
          by_cases hp : 0 < n
          · obtain rfl : 1 = z := by
              have := hz
              unfold lkF at this
              rw [if_pos HS.out, if_neg hn3, if_pos HT.out, if_pos (Or.inl ⟨rfl, hp⟩)] at this
              exact this
            clear hz
            go_enter Try.func50, Try.ntmps50
            go_wp2_with fail
            refine (specSF_is 0 pe ho si sp 0 _ HS.out).mono ?_
            rintro e w1 ⟨rfl, k1⟩
            have N1 := N0.trans k1
            have y10 : w1.cell? ⟨B, o, none⟩ = some (.int .i64 0) := (N1.cells _ _ hBw).trans q0
            have y11 : w1.cell? ⟨B, o + 1, none⟩ = some (.int .i64 pe) := (N1.cells _ _ hBw).trans q1
            have y12 : w1.cell? ⟨B, o + 2, none⟩ = some (.int .i64 ho) := (N1.cells _ _ hBw).trans q2
            have y13 : w1.cell? ⟨B, o + 3, none⟩ = some (.int .i64 si) := (N1.cells _ _ hBw).trans q3
            have y14 : w1.cell? ⟨B, o + 4, none⟩ = some (.int .i64 sp) := (N1.cells _ _ hBw).trans q4
            have y15 : w1.cell? ⟨B, o + 5, none⟩ = some (.slice b n c) := (N1.cells _ _ hBw).trans q5
            have y16 : w1.cell? ⟨B, o + 6, none⟩ = some (.slice t m d) := (N1.cells _ _ hBw).trans q6
            go_wp2_with fail
            refine (specTF t m d V 0 _ (ht.new N1) HM.out hm1 HT.out).mono ?_
            rintro e w2 ⟨rfl, k2⟩
            have N2 := N1.trans k2
            have y20 : w2.cell? ⟨B, o, none⟩ = some (.int .i64 0) := (N2.cells _ _ hBw).trans q0
            have y21 : w2.cell? ⟨B, o + 1, none⟩ = some (.int .i64 pe) := (N2.cells _ _ hBw).trans q1
            have y22 : w2.cell? ⟨B, o + 2, none⟩ = some (.int .i64 ho) := (N2.cells _ _ hBw).trans q2
            have y23 : w2.cell? ⟨B, o + 3, none⟩ = some (.int .i64 si) := (N2.cells _ _ hBw).trans q3
            have y24 : w2.cell? ⟨B, o + 4, none⟩ = some (.int .i64 sp) := (N2.cells _ _ hBw).trans q4
            have y25 : w2.cell? ⟨B, o + 5, none⟩ = some (.slice b n c) := (N2.cells _ _ hBw).trans q5
            have y26 : w2.cell? ⟨B, o + 6, none⟩ = some (.slice t m d) := (N2.cells _ _ hBw).trans q6
            clear y10 y11 y12 y13 y14 y15 y16
            go_wp2
            go_ret
            exact ⟨rfl, N2⟩
          · by_cases hq : 0 < m
            · obtain rfl : 1 = z := by
                have := hz
                unfold lkF at this
                rw [if_pos HS.out, if_neg hn3, if_pos HT.out, if_pos (Or.inr ⟨hs3, hq⟩)] at this
                exact this
              clear hz
              go_enter Try.func50, Try.ntmps50
              go_wp2_with fail
              refine (specSF_is 0 pe ho si sp 0 _ HS.out).mono ?_
              rintro e w1 ⟨rfl, k1⟩
              have N1 := N0.trans k1
              have y10 : w1.cell? ⟨B, o, none⟩ = some (.int .i64 0) := (N1.cells _ _ hBw).trans q0
              have y11 : w1.cell? ⟨B, o + 1, none⟩ = some (.int .i64 pe) := (N1.cells _ _ hBw).trans q1
              have y12 : w1.cell? ⟨B, o + 2, none⟩ = some (.int .i64 ho) := (N1.cells _ _ hBw).trans q2
              have y13 : w1.cell? ⟨B, o + 3, none⟩ = some (.int .i64 si) := (N1.cells _ _ hBw).trans q3
              have y14 : w1.cell? ⟨B, o + 4, none⟩ = some (.int .i64 sp) := (N1.cells _ _ hBw).trans q4
              have y15 : w1.cell? ⟨B, o + 5, none⟩ = some (.slice b n c) := (N1.cells _ _ hBw).trans q5
              have y16 : w1.cell? ⟨B, o + 6, none⟩ = some (.slice t m d) := (N1.cells _ _ hBw).trans q6
              go_wp2_with fail
              refine (specTF t m d V 0 _ (ht.new N1) HM.out hm1 HT.out).mono ?_
              rintro e w2 ⟨rfl, k2⟩
              have N2 := N1.trans k2
              have y20 : w2.cell? ⟨B, o, none⟩ = some (.int .i64 0) := (N2.cells _ _ hBw).trans q0
              have y21 : w2.cell? ⟨B, o + 1, none⟩ = some (.int .i64 pe) := (N2.cells _ _ hBw).trans q1
              have y22 : w2.cell? ⟨B, o + 2, none⟩ = some (.int .i64 ho) := (N2.cells _ _ hBw).trans q2
              have y23 : w2.cell? ⟨B, o + 3, none⟩ = some (.int .i64 si) := (N2.cells _ _ hBw).trans q3
              have y24 : w2.cell? ⟨B, o + 4, none⟩ = some (.int .i64 sp) := (N2.cells _ _ hBw).trans q4
              have y25 : w2.cell? ⟨B, o + 5, none⟩ = some (.slice b n c) := (N2.cells _ _ hBw).trans q5
              have y26 : w2.cell? ⟨B, o + 6, none⟩ = some (.slice t m d) := (N2.cells _ _ hBw).trans q6
              clear y10 y11 y12 y13 y14 y15 y16
              go_wp2
              go_ret
              exact ⟨rfl, N2⟩
            · obtain rfl : 0 = z := by
                have := hz
                unfold lkF at this
                rw [if_pos HS.out, if_neg hn3, if_pos HT.out, if_neg (by omega)] at this
                exact this
              clear hz
              go_enter Try.func50, Try.ntmps50
              go_wp2_with fail
              refine (specSF_is 0 pe ho si sp 0 _ HS.out).mono ?_
              rintro e w1 ⟨rfl, k1⟩
              have N1 := N0.trans k1
              have y10 : w1.cell? ⟨B, o, none⟩ = some (.int .i64 0) := (N1.cells _ _ hBw).trans q0
              have y11 : w1.cell? ⟨B, o + 1, none⟩ = some (.int .i64 pe) := (N1.cells _ _ hBw).trans q1
              have y12 : w1.cell? ⟨B, o + 2, none⟩ = some (.int .i64 ho) := (N1.cells _ _ hBw).trans q2
              have y13 : w1.cell? ⟨B, o + 3, none⟩ = some (.int .i64 si) := (N1.cells _ _ hBw).trans q3
              have y14 : w1.cell? ⟨B, o + 4, none⟩ = some (.int .i64 sp) := (N1.cells _ _ hBw).trans q4
              have y15 : w1.cell? ⟨B, o + 5, none⟩ = some (.slice b n c) := (N1.cells _ _ hBw).trans q5
              have y16 : w1.cell? ⟨B, o + 6, none⟩ = some (.slice t m d) := (N1.cells _ _ hBw).trans q6
              go_wp2_with fail
              refine (specTF t m d V 0 _ (ht.new N1) HM.out hm1 HT.out).mono ?_
              rintro e w2 ⟨rfl, k2⟩
              have N2 := N1.trans k2
              have y20 : w2.cell? ⟨B, o, none⟩ = some (.int .i64 0) := (N2.cells _ _ hBw).trans q0
              have y21 : w2.cell? ⟨B, o + 1, none⟩ = some (.int .i64 pe) := (N2.cells _ _ hBw).trans q1
              have y22 : w2.cell? ⟨B, o + 2, none⟩ = some (.int .i64 ho) := (N2.cells _ _ hBw).trans q2
              have y23 : w2.cell? ⟨B, o + 3, none⟩ = some (.int .i64 si) := (N2.cells _ _ hBw).trans q3
              have y24 : w2.cell? ⟨B, o + 4, none⟩ = some (.int .i64 sp) := (N2.cells _ _ hBw).trans q4
              have y25 : w2.cell? ⟨B, o + 5, none⟩ = some (.slice b n c) := (N2.cells _ _ hBw).trans q5
              have y26 : w2.cell? ⟨B, o + 6, none⟩ = some (.slice t m d) := (N2.cells _ _ hBw).trans q6
              clear y10 y11 y12 y13 y14 y15 y16
              go_wp2
              go_ret
              exact ⟨rfl, N2⟩
        · by_cases hs3 : st = 3
          · subst hs3
            obtain rfl : 0 = z := by
              have := hz
              unfold lkF at this
              rw [if_pos HS.out, if_neg hn3, if_pos HT.out, if_neg (by omega)] at this
              exact this
            clear hz
            go_enter Try.func50, Try.ntmps50
            go_wp2_with fail
            refine (specSF_is 3 pe ho si sp 0 _ HS.out).mono ?_
            rintro e w1 ⟨rfl, k1⟩
            have N1 := N0.trans k1
            have y10 : w1.cell? ⟨B, o, none⟩ = some (.int .i64 3) := (N1.cells _ _ hBw).trans q0
            have y11 : w1.cell? ⟨B, o + 1, none⟩ = some (.int .i64 pe) := (N1.cells _ _ hBw).trans q1
            have y12 : w1.cell? ⟨B, o + 2, none⟩ = some (.int .i64 ho) := (N1.cells _ _ hBw).trans q2
            have y13 : w1.cell? ⟨B, o + 3, none⟩ = some (.int .i64 si) := (N1.cells _ _ hBw).trans q3
            have y14 : w1.cell? ⟨B, o + 4, none⟩ = some (.int .i64 sp) := (N1.cells _ _ hBw).trans q4
            have y15 : w1.cell? ⟨B, o + 5, none⟩ = some (.slice b n c) := (N1.cells _ _ hBw).trans q5
            have y16 : w1.cell? ⟨B, o + 6, none⟩ = some (.slice t m d) := (N1.cells _ _ hBw).trans q6
            go_wp2_with fail
            refine (specTF t m d V 0 _ (ht.new N1) HM.out hm1 HT.out).mono ?_
            rintro e w2 ⟨rfl, k2⟩
            have N2 := N1.trans k2
            have y20 : w2.cell? ⟨B, o, none⟩ = some (.int .i64 3) := (N2.cells _ _ hBw).trans q0
            have y21 : w2.cell? ⟨B, o + 1, none⟩ = some (.int .i64 pe) := (N2.cells _ _ hBw).trans q1
            have y22 : w2.cell? ⟨B, o + 2, none⟩ = some (.int .i64 ho) := (N2.cells _ _ hBw).trans q2
            have y23 : w2.cell? ⟨B, o + 3, none⟩ = some (.int .i64 si) := (N2.cells _ _ hBw).trans q3
            have y24 : w2.cell? ⟨B, o + 4, none⟩ = some (.int .i64 sp) := (N2.cells _ _ hBw).trans q4
            have y25 : w2.cell? ⟨B, o + 5, none⟩ = some (.slice b n c) := (N2.cells _ _ hBw).trans q5
            have y26 : w2.cell? ⟨B, o + 6, none⟩ = some (.slice t m d) := (N2.cells _ _ hBw).trans q6
            clear y10 y11 y12 y13 y14 y15 y16
            go_wp2
            go_ret
            exact ⟨rfl, N2⟩
          · by_cases hq : 0 < m
            · obtain rfl : 1 = z := by
                have := hz
                unfold lkF at this
                rw [if_pos HS.out, if_neg hn3, if_pos HT.out, if_pos (Or.inr ⟨hs3, hq⟩)] at this
                exact this
              clear hz
              go_enter Try.func50, Try.ntmps50
              go_wp2_with fail
              refine (specSF_is st pe ho si sp 0 _ HS.out).mono ?_
              rintro e w1 ⟨rfl, k1⟩
              have N1 := N0.trans k1
              have y10 : w1.cell? ⟨B, o, none⟩ = some (.int .i64 st) := (N1.cells _ _ hBw).trans q0
              have y11 : w1.cell? ⟨B, o + 1, none⟩ = some (.int .i64 pe) := (N1.cells _ _ hBw).trans q1
              have y12 : w1.cell? ⟨B, o + 2, none⟩ = some (.int .i64 ho) := (N1.cells _ _ hBw).trans q2
              have y13 : w1.cell? ⟨B, o + 3, none⟩ = some (.int .i64 si) := (N1.cells _ _ hBw).trans q3
              have y14 : w1.cell? ⟨B, o + 4, none⟩ = some (.int .i64 sp) := (N1.cells _ _ hBw).trans q4
              have y15 : w1.cell? ⟨B, o + 5, none⟩ = some (.slice b n c) := (N1.cells _ _ hBw).trans q5
              have y16 : w1.cell? ⟨B, o + 6, none⟩ = some (.slice t m d) := (N1.cells _ _ hBw).trans q6
              go_wp2_with fail
              refine (specTF t m d V 0 _ (ht.new N1) HM.out hm1 HT.out).mono ?_
              rintro e w2 ⟨rfl, k2⟩
              have N2 := N1.trans k2
              have y20 : w2.cell? ⟨B, o, none⟩ = some (.int .i64 st) := (N2.cells _ _ hBw).trans q0
              have y21 : w2.cell? ⟨B, o + 1, none⟩ = some (.int .i64 pe) := (N2.cells _ _ hBw).trans q1
              have y22 : w2.cell? ⟨B, o + 2, none⟩ = some (.int .i64 ho) := (N2.cells _ _ hBw).trans q2
              have y23 : w2.cell? ⟨B, o + 3, none⟩ = some (.int .i64 si) := (N2.cells _ _ hBw).trans q3
              have y24 : w2.cell? ⟨B, o + 4, none⟩ = some (.int .i64 sp) := (N2.cells _ _ hBw).trans q4
              have y25 : w2.cell? ⟨B, o + 5, none⟩ = some (.slice b n c) := (N2.cells _ _ hBw).trans q5
              have y26 : w2.cell? ⟨B, o + 6, none⟩ = some (.slice t m d) := (N2.cells _ _ hBw).trans q6
              clear y10 y11 y12 y13 y14 y15 y16
              go_wp2
              go_ret
              exact ⟨rfl, N2⟩
            · obtain rfl : 0 = z := by
                have := hz
                unfold lkF at this
                rw [if_pos HS.out, if_neg hn3, if_pos HT.out, if_neg (by omega)] at this
                exact this
              clear hz
              go_enter Try.func50, Try.ntmps50
              go_wp2_with fail
              refine (specSF_is st pe ho si sp 0 _ HS.out).mono ?_
              rintro e w1 ⟨rfl, k1⟩
              have N1 := N0.trans k1
              have y10 : w1.cell? ⟨B, o, none⟩ = some (.int .i64 st) := (N1.cells _ _ hBw).trans q0
              have y11 : w1.cell? ⟨B, o + 1, none⟩ = some (.int .i64 pe) := (N1.cells _ _ hBw).trans q1
              have y12 : w1.cell? ⟨B, o + 2, none⟩ = some (.int .i64 ho) := (N1.cells _ _ hBw).trans q2
              have y13 : w1.cell? ⟨B, o + 3, none⟩ = some (.int .i64 si) := (N1.cells _ _ hBw).trans q3
              have y14 : w1.cell? ⟨B, o + 4, none⟩ = some (.int .i64 sp) := (N1.cells _ _ hBw).trans q4
              have y15 : w1.cell? ⟨B, o + 5, none⟩ = some (.slice b n c) := (N1.cells _ _ hBw).trans q5
              have y16 : w1.cell? ⟨B, o + 6, none⟩ = some (.slice t m d) := (N1.cells _ _ hBw).trans q6
              go_wp2_with fail
              refine (specTF t m d V 0 _ (ht.new N1) HM.out hm1 HT.out).mono ?_
              rintro e w2 ⟨rfl, k2⟩
              have N2 := N1.trans k2
              have y20 : w2.cell? ⟨B, o, none⟩ = some (.int .i64 st) := (N2.cells _ _ hBw).trans q0
              have y21 : w2.cell? ⟨B, o + 1, none⟩ = some (.int .i64 pe) := (N2.cells _ _ hBw).trans q1
              have y22 : w2.cell? ⟨B, o + 2, none⟩ = some (.int .i64 ho) := (N2.cells _ _ hBw).trans q2
              have y23 : w2.cell? ⟨B, o + 3, none⟩ = some (.int .i64 si) := (N2.cells _ _ hBw).trans q3
              have y24 : w2.cell? ⟨B, o + 4, none⟩ = some (.int .i64 sp) := (N2.cells _ _ hBw).trans q4
              have y25 : w2.cell? ⟨B, o + 5, none⟩ = some (.slice b n c) := (N2.cells _ _ hBw).trans q5
              have y26 : w2.cell? ⟨B, o + 6, none⟩ = some (.slice t m d) := (N2.cells _ _ hBw).trans q6
              clear y10 y11 y12 y13 y14 y15 y16
              go_wp2
              go_ret
              exact ⟨rfl, N2⟩
      · have HT : Hid (tdF (V.map Tv.r) = z) := by
          have := hz
          unfold lkF at this
          rw [if_pos HS.out, if_neg hn3, if_neg hT] at this
          exact this
        have hz0 : ¬ z = 0 := fun f => hT (HT.out.trans f)
        clear hz hT
        go_enter Try.func50, Try.ntmps50
        go_wp2_with fail
        refine (specSF_is st pe ho si sp 0 _ HS.out).mono ?_
        rintro e w1 ⟨rfl, k1⟩
        have N1 := N0.trans k1
        have y10 : w1.cell? ⟨B, o, none⟩ = some (.int .i64 st) := (N1.cells _ _ hBw).trans q0
        have y11 : w1.cell? ⟨B, o + 1, none⟩ = some (.int .i64 pe) := (N1.cells _ _ hBw).trans q1
        have y12 : w1.cell? ⟨B, o + 2, none⟩ = some (.int .i64 ho) := (N1.cells _ _ hBw).trans q2
        have y13 : w1.cell? ⟨B, o + 3, none⟩ = some (.int .i64 si) := (N1.cells _ _ hBw).trans q3
        have y14 : w1.cell? ⟨B, o + 4, none⟩ = some (.int .i64 sp) := (N1.cells _ _ hBw).trans q4
        have y15 : w1.cell? ⟨B, o + 5, none⟩ = some (.slice b n c) := (N1.cells _ _ hBw).trans q5
        have y16 : w1.cell? ⟨B, o + 6, none⟩ = some (.slice t m d) := (N1.cells _ _ hBw).trans q6
        go_wp2_with fail
        refine (specTF t m d V z _ (ht.new N1) HM.out hm1 HT.out).mono ?_
        rintro e w2 ⟨rfl, k2⟩
        have N2 := N1.trans k2
        have y20 : w2.cell? ⟨B, o, none⟩ = some (.int .i64 st) := (N2.cells _ _ hBw).trans q0
        have y21 : w2.cell? ⟨B, o + 1, none⟩ = some (.int .i64 pe) := (N2.cells _ _ hBw).trans q1
        have y22 : w2.cell? ⟨B, o + 2, none⟩ = some (.int .i64 ho) := (N2.cells _ _ hBw).trans q2
        have y23 : w2.cell? ⟨B, o + 3, none⟩ = some (.int .i64 si) := (N2.cells _ _ hBw).trans q3
        have y24 : w2.cell? ⟨B, o + 4, none⟩ = some (.int .i64 sp) := (N2.cells _ _ hBw).trans q4
        have y25 : w2.cell? ⟨B, o + 5, none⟩ = some (.slice b n c) := (N2.cells _ _ hBw).trans q5
        have y26 : w2.cell? ⟨B, o + 6, none⟩ = some (.slice t m d) := (N2.cells _ _ hBw).trans q6
        clear y10 y11 y12 y13 y14 y15 y16
        go_wp2
        go_ret
        exact ⟨rfl, N2⟩
  · have HS : Hid (sf st pe ho si sp = z) := by
      have := hz
      unfold lkF at this
      rw [if_neg hs] at this
      exact this
    have hz0 : ¬ z = 0 := fun f => hs (HS.out.trans f)
    clear hz hs
    go_enter Try.func50, Try.ntmps50
    go_wp2_with fail
    refine (specSF_is st pe ho si sp z _ HS.out).mono ?_
    rintro e w1 ⟨rfl, k1⟩
    have N1 := N0.trans k1
    have y10 : w1.cell? ⟨B, o, none⟩ = some (.int .i64 st) := (N1.cells _ _ hBw).trans q0
    have y11 : w1.cell? ⟨B, o + 1, none⟩ = some (.int .i64 pe) := (N1.cells _ _ hBw).trans q1
    have y12 : w1.cell? ⟨B, o + 2, none⟩ = some (.int .i64 ho) := (N1.cells _ _ hBw).trans q2
    have y13 : w1.cell? ⟨B, o + 3, none⟩ = some (.int .i64 si) := (N1.cells _ _ hBw).trans q3
    have y14 : w1.cell? ⟨B, o + 4, none⟩ = some (.int .i64 sp) := (N1.cells _ _ hBw).trans q4
    have y15 : w1.cell? ⟨B, o + 5, none⟩ = some (.slice b n c) := (N1.cells _ _ hBw).trans q5
    have y16 : w1.cell? ⟨B, o + 6, none⟩ = some (.slice t m d) := (N1.cells _ _ hBw).trans q6
    go_wp2
    go_ret
    exact ⟨rfl, N1⟩

end Go.Proofs.Ytkahlmkhancloab
