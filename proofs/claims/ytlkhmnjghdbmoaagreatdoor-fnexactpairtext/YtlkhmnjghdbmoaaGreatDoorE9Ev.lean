/- What is proved here: what the copying, measuring, comparing and judging of an event answer, for every event of at most 1048576 bytes. -/
import Derived.Test.YtlkhmnjghdbmoaaGreatDoorFrLib
namespace Go.Proofs.YtlkhmnjghdbmoaaGreatDoor
open Go.RowKit
set_option linter.unusedVariables false

theorem szEvent_ok (k p : Int) (a : Option Addr) (n c l : Nat) (w : World) (hl : l ≤ 1048576) (h : n ≤ l) : Calls Tryz.prog 65 #[.agg #[.int .i64 k, .int .i64 p, .slice a n c], .int .i64 l] w fun e w' => e = .returned (.int .i64 ((l : Int) - n)) ∧ New w w' := by
  go_enter Tryz.func65, Tryz.ntmps65
  go_wp2_with fail
  refine (szBytes_ok a n c l _ hl h).mono ?_
  rintro e w1 ⟨rfl, hn1⟩
  go_wp2
  go_ret
  exact ⟨rfl, ((New.refl _).alloc _).trans hn1⟩

theorem szEvent_big (k p : Int) (a : Option Addr) (n c l : Nat) (w : World) (hl : l ≤ 1048576) (hn : n ≤ maxLen) (h : l < n) : Calls Tryz.prog 65 #[.agg #[.int .i64 k, .int .i64 p, .slice a n c], .int .i64 l] w fun e w' => e = .returned (.int .i64 (-1)) ∧ New w w' := by
  go_enter Tryz.func65, Tryz.ntmps65
  go_wp2_with fail
  refine (szBytes_big a n c l _ hl hn h).mono ?_
  rintro e w1 ⟨rfl, hn1⟩
  go_wp2
  go_ret
  exact ⟨rfl, ((New.refl _).alloc _).trans hn1⟩

/-- A peer's number, and a kind of event. -/
abbrev P9 (p : Int) : Prop := 0 ≤ p ∧ p ≤ 2
/-- The fault of an event. -/
def evF (k p : Int) (n : Nat) : Int :=
  if k < 1 ∨ 4 < k then 1 else if ¬ P9 p then 3 else if k = 3 ∧ p ≠ 0 then 3 else if k = 2 then (if n = 0 then 1 else if 60 < n then 2 else 0) else if n = 0 then 0 else 1

theorem peer9_yes (p : Int) (w : World) (h : P9 p) : Calls Tryz.prog 126 #[.int .i64 p] w fun e w' => e = .returned (.bool true) ∧ w' = w := by
  obtain ⟨h0, h1⟩ := h
  have h2 : p < 3 := by omega
  clear h1
  go_enter Tryz.func126, Tryz.ntmps126
  go_wp2
  go_ret
  exact ⟨rfl, rfl⟩

theorem peer9_no (p : Int) (w : World) (h : ¬ P9 p) : Calls Tryz.prog 126 #[.int .i64 p] w fun e w' => e = .returned (.bool false) ∧ w' = w := by
  by_cases h0 : 0 ≤ p
  · have h1 : ¬ p < 3 := by unfold P9 at h; omega
    clear h
    go_enter Tryz.func126, Tryz.ntmps126
    go_wp2
    go_ret
    exact ⟨rfl, rfl⟩
  · clear h
    go_enter Tryz.func126, Tryz.ntmps126
    go_wp2
    go_ret
    exact ⟨rfl, rfl⟩

theorem sp9_yes (p : Int) (w : World) (h : P9 p) : Calls Tryz.prog 99 #[.int .i64 p] w fun e w' => e = .returned (.bool true) ∧ w' = w := by
  go_enter Tryz.func99, Tryz.ntmps99
  go_wp2_with fail
  refine (in_yes _ _ _ _ h).mono ?_
  rintro e w1 ⟨rfl, rfl⟩
  go_wp2
  go_ret
  exact ⟨rfl, rfl⟩

theorem sp9_no (p : Int) (w : World) (h : ¬ P9 p) : Calls Tryz.prog 99 #[.int .i64 p] w fun e w' => e = .returned (.bool false) ∧ w' = w := by
  have h' : p < 0 ∨ 2 < p := by unfold P9 at h; omega
  go_enter Tryz.func99, Tryz.ntmps99
  go_wp2_with fail
  refine (in_no _ _ _ _ h').mono ?_
  rintro e w1 ⟨rfl, rfl⟩
  go_wp2
  go_ret
  exact ⟨rfl, rfl⟩

set_option maxHeartbeats 1600000 in
theorem specEV (k p : Int) (a : Option Addr) (n c : Nat) (w : World) (hm : n ≤ 1048576) : Calls Tryz.prog 73 #[.agg #[.int .i64 k, .int .i64 p, .slice a n c]] w fun e w' => e = .returned (.int .i64 (evF k p n)) ∧ New w w' := by
  by_cases hk : k < 1 ∨ 4 < k
  · have hf : Hid (evF k p n = 1) := by unfold evF Hid; rw [if_pos hk]
    go_enter Tryz.func73, Tryz.ntmps73
    go_wp2_with fail
    refine (in_no _ _ _ _ hk).mono ?_
    rintro e w1 ⟨rfl, rfl⟩
    go_wp2
    go_ret
    exact ⟨ret_i64 hf.out.symm, (New.refl _).alloc _⟩
  · have hk4 : k = 1 ∨ k = 2 ∨ k = 3 ∨ k = 4 := by omega
    by_cases hp : P9 p
    · rcases hk4 with rfl | rfl | rfl | rfl
      · by_cases hn : n = 0
        · subst hn
          have hf : Hid (evF 1 p 0 = 0) := by unfold evF Hid; rw [if_neg (by omega), if_neg (not_not_intro hp)]; simp
          go_enter Tryz.func73, Tryz.ntmps73
          go_wp2_with fail
          refine (in_yes _ _ _ _ (by omega)).mono ?_
          rintro e w1 ⟨rfl, rfl⟩
          go_wp2_with fail
          refine (sp9_yes _ _ hp).mono ?_
          rintro e w2 ⟨rfl, rfl⟩
          go_wp2
          go_ret
          exact ⟨ret_i64 hf.out.symm, (New.refl _).alloc _⟩
        · have hf : Hid (evF 1 p n = 1) := by unfold evF Hid; rw [if_neg (by omega), if_neg (not_not_intro hp)]; simp [hn]
          have hn1 : 0 < n := by omega
          go_enter Tryz.func73, Tryz.ntmps73
          go_wp2_with fail
          refine (in_yes _ _ _ _ (by omega)).mono ?_
          rintro e w1 ⟨rfl, rfl⟩
          go_wp2_with fail
          refine (sp9_yes _ _ hp).mono ?_
          rintro e w2 ⟨rfl, rfl⟩
          go_wp2
          go_ret
          exact ⟨ret_i64 hf.out.symm, (New.refl _).alloc _⟩
      · by_cases hn : n = 0
        · subst hn
          have hf : Hid (evF 2 p 0 = 1) := by unfold evF Hid; rw [if_neg (by omega), if_neg (not_not_intro hp)]; simp
          go_enter Tryz.func73, Tryz.ntmps73
          go_wp2_with fail
          refine (in_yes _ _ _ _ (by omega)).mono ?_
          rintro e w1 ⟨rfl, rfl⟩
          go_wp2_with fail
          refine (sp9_yes _ _ hp).mono ?_
          rintro e w2 ⟨rfl, rfl⟩
          go_wp2
          go_ret
          exact ⟨ret_i64 hf.out.symm, (New.refl _).alloc _⟩
        · have hn1 : 0 < n := by omega
          by_cases hg : 60 < n
          · have hf : Hid (evF 2 p n = 2) := by unfold evF Hid; rw [if_neg (by omega), if_neg (not_not_intro hp)]; simp [hn, hg]
            go_enter Tryz.func73, Tryz.ntmps73
            go_wp2_with fail
            refine (in_yes _ _ _ _ (by omega)).mono ?_
            rintro e w1 ⟨rfl, rfl⟩
            go_wp2_with fail
            refine (sp9_yes _ _ hp).mono ?_
            rintro e w2 ⟨rfl, rfl⟩
            go_wp2
            go_ret
            exact ⟨ret_i64 hf.out.symm, (New.refl _).alloc _⟩
          · have hf : Hid (evF 2 p n = 0) := by unfold evF Hid; rw [if_neg (by omega), if_neg (not_not_intro hp)]; simp [hn]; omega
            go_enter Tryz.func73, Tryz.ntmps73
            go_wp2_with fail
            refine (in_yes _ _ _ _ (by omega)).mono ?_
            rintro e w1 ⟨rfl, rfl⟩
            go_wp2_with fail
            refine (sp9_yes _ _ hp).mono ?_
            rintro e w2 ⟨rfl, rfl⟩
            go_wp2
            go_ret
            exact ⟨ret_i64 hf.out.symm, (New.refl _).alloc _⟩
      · by_cases hp0 : p = 0
        · by_cases hn : n = 0
          · subst hn hp0
            have hf : Hid (evF 3 0 0 = 0) := by unfold evF Hid; rw [if_neg (by omega), if_neg (not_not_intro hp)]; simp
            go_enter Tryz.func73, Tryz.ntmps73
            go_wp2_with fail
            refine (in_yes _ _ _ _ (by omega)).mono ?_
            rintro e w1 ⟨rfl, rfl⟩
            go_wp2_with fail
            refine (sp9_yes _ _ hp).mono ?_
            rintro e w2 ⟨rfl, rfl⟩
            go_wp2
            go_ret
            exact ⟨ret_i64 hf.out.symm, (New.refl _).alloc _⟩
          · subst hp0
            have hf : Hid (evF 3 0 n = 1) := by unfold evF Hid; rw [if_neg (by omega), if_neg (not_not_intro hp)]; simp [hn]
            have hn1 : 0 < n := by omega
            go_enter Tryz.func73, Tryz.ntmps73
            go_wp2_with fail
            refine (in_yes _ _ _ _ (by omega)).mono ?_
            rintro e w1 ⟨rfl, rfl⟩
            go_wp2_with fail
            refine (sp9_yes _ _ hp).mono ?_
            rintro e w2 ⟨rfl, rfl⟩
            go_wp2
            go_ret
            exact ⟨ret_i64 hf.out.symm, (New.refl _).alloc _⟩
        · have hf : Hid (evF 3 p n = 3) := by unfold evF Hid; rw [if_neg (by omega), if_neg (not_not_intro hp), if_pos ⟨rfl, hp0⟩]
          go_enter Tryz.func73, Tryz.ntmps73
          go_wp2_with fail
          refine (in_yes _ _ _ _ (by omega)).mono ?_
          rintro e w1 ⟨rfl, rfl⟩
          go_wp2_with fail
          refine (sp9_yes _ _ hp).mono ?_
          rintro e w2 ⟨rfl, rfl⟩
          go_wp2
          go_ret
          exact ⟨ret_i64 hf.out.symm, (New.refl _).alloc _⟩
      · by_cases hn : n = 0
        · subst hn
          have hf : Hid (evF 4 p 0 = 0) := by unfold evF Hid; rw [if_neg (by omega), if_neg (not_not_intro hp)]; simp
          go_enter Tryz.func73, Tryz.ntmps73
          go_wp2_with fail
          refine (in_yes _ _ _ _ (by omega)).mono ?_
          rintro e w1 ⟨rfl, rfl⟩
          go_wp2_with fail
          refine (sp9_yes _ _ hp).mono ?_
          rintro e w2 ⟨rfl, rfl⟩
          go_wp2
          go_ret
          exact ⟨ret_i64 hf.out.symm, (New.refl _).alloc _⟩
        · have hf : Hid (evF 4 p n = 1) := by unfold evF Hid; rw [if_neg (by omega), if_neg (not_not_intro hp)]; simp [hn]
          have hn1 : 0 < n := by omega
          go_enter Tryz.func73, Tryz.ntmps73
          go_wp2_with fail
          refine (in_yes _ _ _ _ (by omega)).mono ?_
          rintro e w1 ⟨rfl, rfl⟩
          go_wp2_with fail
          refine (sp9_yes _ _ hp).mono ?_
          rintro e w2 ⟨rfl, rfl⟩
          go_wp2
          go_ret
          exact ⟨ret_i64 hf.out.symm, (New.refl _).alloc _⟩
    · have hf : Hid (evF k p n = 3) := by unfold evF Hid; rw [if_neg hk, if_pos hp]
      go_enter Tryz.func73, Tryz.ntmps73
      go_wp2_with fail
      refine (in_yes _ _ _ _ (by omega)).mono ?_
      rintro e w1 ⟨rfl, rfl⟩
      go_wp2_with fail
      refine (sp9_no _ _ hp).mono ?_
      rintro e w2 ⟨rfl, rfl⟩
      go_wp2
      go_ret
      exact ⟨ret_i64 hf.out.symm, (New.refl _).alloc _⟩

set_option maxHeartbeats 1600000 in
theorem implEV (k p : Int) (a : Option Addr) (n c : Nat) (w : World) (hm : n ≤ 1048576) : Calls Tryz.prog 114 #[.agg #[.int .i64 k, .int .i64 p, .slice a n c]] w fun e w' => e = .returned (.int .i64 (evF k p n)) ∧ New w w' := by
  by_cases hk : k < 1 ∨ 4 < k
  · have hf : Hid (evF k p n = 1) := by unfold evF Hid; rw [if_pos hk]
    by_cases hk1 : k < 1
    · clear hk
      go_enter Tryz.func114, Tryz.ntmps114
      go_wp2
      go_ret
      exact ⟨ret_i64 hf.out.symm, (New.refl _).alloc _⟩
    · have hk2 : 4 < k := by omega
      clear hk
      go_enter Tryz.func114, Tryz.ntmps114
      go_wp2
      go_ret
      exact ⟨ret_i64 hf.out.symm, (New.refl _).alloc _⟩
  · have hk4 : k = 1 ∨ k = 2 ∨ k = 3 ∨ k = 4 := by omega
    by_cases hp : P9 p
    · rcases hk4 with rfl | rfl | rfl | rfl
      · by_cases hn : n = 0
        · subst hn
          have hf : Hid (evF 1 p 0 = 0) := by unfold evF Hid; rw [if_neg (by omega), if_neg (not_not_intro hp)]; simp
          go_enter Tryz.func114, Tryz.ntmps114
          go_wp2_with fail
          refine (peer9_yes _ _ hp).mono ?_
          rintro e w2 ⟨rfl, rfl⟩
          go_wp2
          go_ret
          exact ⟨ret_i64 hf.out.symm, (New.refl _).alloc _⟩
        · have hf : Hid (evF 1 p n = 1) := by unfold evF Hid; rw [if_neg (by omega), if_neg (not_not_intro hp)]; simp [hn]
          have hn1 : 0 < n := by omega
          go_enter Tryz.func114, Tryz.ntmps114
          go_wp2_with fail
          refine (peer9_yes _ _ hp).mono ?_
          rintro e w2 ⟨rfl, rfl⟩
          go_wp2
          go_ret
          exact ⟨ret_i64 hf.out.symm, (New.refl _).alloc _⟩
      · by_cases hn : n = 0
        · subst hn
          have hf : Hid (evF 2 p 0 = 1) := by unfold evF Hid; rw [if_neg (by omega), if_neg (not_not_intro hp)]; simp
          go_enter Tryz.func114, Tryz.ntmps114
          go_wp2_with fail
          refine (peer9_yes _ _ hp).mono ?_
          rintro e w2 ⟨rfl, rfl⟩
          go_wp2
          go_ret
          exact ⟨ret_i64 hf.out.symm, (New.refl _).alloc _⟩
        · have hn1 : 0 < n := by omega
          by_cases hg : 60 < n
          · have hf : Hid (evF 2 p n = 2) := by unfold evF Hid; rw [if_neg (by omega), if_neg (not_not_intro hp)]; simp [hn, hg]
            go_enter Tryz.func114, Tryz.ntmps114
            go_wp2_with fail
            refine (peer9_yes _ _ hp).mono ?_
            rintro e w2 ⟨rfl, rfl⟩
            go_wp2
            go_ret
            exact ⟨ret_i64 hf.out.symm, (New.refl _).alloc _⟩
          · have hf : Hid (evF 2 p n = 0) := by unfold evF Hid; rw [if_neg (by omega), if_neg (not_not_intro hp)]; simp [hn]; omega
            go_enter Tryz.func114, Tryz.ntmps114
            go_wp2_with fail
            refine (peer9_yes _ _ hp).mono ?_
            rintro e w2 ⟨rfl, rfl⟩
            go_wp2
            go_ret
            exact ⟨ret_i64 hf.out.symm, (New.refl _).alloc _⟩
      · by_cases hp0 : p = 0
        · by_cases hn : n = 0
          · subst hn hp0
            have hf : Hid (evF 3 0 0 = 0) := by unfold evF Hid; rw [if_neg (by omega), if_neg (not_not_intro hp)]; simp
            go_enter Tryz.func114, Tryz.ntmps114
            go_wp2_with fail
            refine (peer9_yes _ _ hp).mono ?_
            rintro e w2 ⟨rfl, rfl⟩
            go_wp2
            go_ret
            exact ⟨ret_i64 hf.out.symm, (New.refl _).alloc _⟩
          · subst hp0
            have hf : Hid (evF 3 0 n = 1) := by unfold evF Hid; rw [if_neg (by omega), if_neg (not_not_intro hp)]; simp [hn]
            have hn1 : 0 < n := by omega
            go_enter Tryz.func114, Tryz.ntmps114
            go_wp2_with fail
            refine (peer9_yes _ _ hp).mono ?_
            rintro e w2 ⟨rfl, rfl⟩
            go_wp2
            go_ret
            exact ⟨ret_i64 hf.out.symm, (New.refl _).alloc _⟩
        · have hf : Hid (evF 3 p n = 3) := by unfold evF Hid; rw [if_neg (by omega), if_neg (not_not_intro hp), if_pos ⟨rfl, hp0⟩]
          go_enter Tryz.func114, Tryz.ntmps114
          go_wp2_with fail
          refine (peer9_yes _ _ hp).mono ?_
          rintro e w2 ⟨rfl, rfl⟩
          go_wp2
          go_ret
          exact ⟨ret_i64 hf.out.symm, (New.refl _).alloc _⟩
      · by_cases hn : n = 0
        · subst hn
          have hf : Hid (evF 4 p 0 = 0) := by unfold evF Hid; rw [if_neg (by omega), if_neg (not_not_intro hp)]; simp
          go_enter Tryz.func114, Tryz.ntmps114
          go_wp2_with fail
          refine (peer9_yes _ _ hp).mono ?_
          rintro e w2 ⟨rfl, rfl⟩
          go_wp2
          go_ret
          exact ⟨ret_i64 hf.out.symm, (New.refl _).alloc _⟩
        · have hf : Hid (evF 4 p n = 1) := by unfold evF Hid; rw [if_neg (by omega), if_neg (not_not_intro hp)]; simp [hn]
          have hn1 : 0 < n := by omega
          go_enter Tryz.func114, Tryz.ntmps114
          go_wp2_with fail
          refine (peer9_yes _ _ hp).mono ?_
          rintro e w2 ⟨rfl, rfl⟩
          go_wp2
          go_ret
          exact ⟨ret_i64 hf.out.symm, (New.refl _).alloc _⟩
    · have hf : Hid (evF k p n = 3) := by unfold evF Hid; rw [if_neg hk, if_pos hp]
      have hk1 : ¬ k < 1 := by omega
      have hk2 : ¬ 4 < k := by omega
      clear hk4 hk
      go_enter Tryz.func114, Tryz.ntmps114
      go_wp2_with fail
      refine (peer9_no _ _ hp).mono ?_
      rintro e w2 ⟨rfl, rfl⟩
      go_wp2
      go_ret
      exact ⟨ret_i64 hf.out.symm, (New.refl _).alloc _⟩

set_option maxHeartbeats 800000 in
theorem toEvent_any (k p : Int) (a : Option Addr) (n c : Nat) (zs : List Int) (w : World) (h : BsAt w a zs) (hn : zs.length = n) (hm : n ≤ 1048576) :
    Calls Tryz.prog 77 #[.agg #[.int .i64 k, .int .i64 p, .slice a n c]] w fun e w' => ∃ g, e = .returned (.agg #[.int .i64 k, .int .i64 p, .slice (some ⟨g, 0, none⟩) n n]) ∧ w.heap.size ≤ g ∧
      w'.ownsRow 0 5 1 (.slice (some ⟨g, 0, none⟩) n n) n (zs.map (Value.int .u8)) ∧ New w w' := by
  go_enter Tryz.func77, Tryz.ntmps77
  go_wp2_with fail
  have hn0 := (((New.refl w).alloc (.cells #[.int .i64 k, .int .i64 p, .slice a n c] 92)).alloc (.cells #[.int .i64 0, .int .i64 0, .slice none 0 0] 102)).alloc (.cells #[.int .i64 k, .int .i64 p, .slice none 0 0] 102)
  refine (toBytes_any a n c zs _ (h.new hn0) hn hm).mono ?_
  rintro e w1 ⟨g, rfl, hg, ho, hn1⟩
  simp at hg
  have s1 := hn1.size
  simp at s1
  have c0 : w1.cell? ⟨w.heap.size + 1 + 1, 0, none⟩ = some (.int .i64 k) := by rw [hn1.cells _ _ (by simp)]; go_simp
  have c1 : w1.cell? ⟨w.heap.size + 1 + 1, 1, none⟩ = some (.int .i64 p) := by rw [hn1.cells _ _ (by simp)]; go_simp
  have c2 : w1.cell? ⟨w.heap.size + 1 + 1, 2, none⟩ = some (.slice none 0 0) := by rw [hn1.cells _ _ (by simp)]; go_simp
  have d0 : w1.cell? ⟨w.heap.size + 1, 0, none⟩ = some (.int .i64 0) := by rw [hn1.cells _ _ (by simp)]; go_simp
  have d1 : w1.cell? ⟨w.heap.size + 1, 1, none⟩ = some (.int .i64 0) := by rw [hn1.cells _ _ (by simp)]; go_simp
  have d2 : w1.cell? ⟨w.heap.size + 1, 2, none⟩ = some (.slice none 0 0) := by rw [hn1.cells _ _ (by simp)]; go_simp
  have f1 : w1.frozen? ⟨w.heap.size + 1 + 1, 2, none⟩ = false := by rw [hn1.frozens _ _ (by simp)]; go_simp
  have e0 : w1.frozen? ⟨w.heap.size + 1, 0, none⟩ = false := by rw [hn1.frozens _ _ (by simp)]; go_simp
  have e1 : w1.frozen? ⟨w.heap.size + 1, 1, none⟩ = false := by rw [hn1.frozens _ _ (by simp)]; go_simp
  have e2 : w1.frozen? ⟨w.heap.size + 1, 2, none⟩ = false := by rw [hn1.frozens _ _ (by simp)]; go_simp
  have hn2 : New w w1 := hn0.trans hn1
  go_wp2
  refine bodyPost_ret (v := .agg #[.int .i64 k, .int .i64 p, .slice (some ⟨g, 0, none⟩) n n]) (by simp [results, Tryz.results77, go_sem, d0, d1, d2]) rfl ⟨g, rfl, by omega, ?_, ?_⟩
  · refine own_turn (S := fun i => i = w.heap.size + 1 ∨ i = w.heap.size + 1 + 1) ho ?_ (by omega)
    exact Turn.set (Turn.set (Turn.set (Turn.set (Turn.refl _ _) (Or.inr rfl) _) (Or.inl rfl) _) (Or.inl rfl) _) (Or.inl rfl) _
  · exact (((hn2.setCell (by simp; omega) _).setCell (by simp) _).setCell (by simp) _).setCell (by simp) _

set_option maxHeartbeats 400000 in
theorem eqEvent_any (k p : Int) (a b : Option Addr) (n c d : Nat) (zs : List Int) (w : World) (ha : BsAt w a zs) (hb : BsAt w b zs) (hn : zs.length = n) (hm : n ≤ 1048576) :
    Calls Tryz.prog 94 #[.agg #[.int .i64 k, .int .i64 p, .slice a n c], .agg #[.int .i64 k, .int .i64 p, .slice b n d]] w fun e w' => e = .returned (.bool true) ∧ New w w' := by
  have hk : (k != k) = false := by simp
  have hp : (p != p) = false := by simp
  have hw := ((New.refl w).alloc (.cells #[.int .i64 k, .int .i64 p, .slice a n c] 102)).alloc (.cells #[.int .i64 k, .int .i64 p, .slice b n d] 102)
  go_enter Tryz.func94, Tryz.ntmps94
  go_wp2_with fail
  refine (eqBytes_any a b n c d zs _ (ha.new hw) (hb.new hw) hn hm).mono ?_
  rintro e w1 ⟨rfl, hn1⟩
  go_wp2
  go_ret
  exact ⟨rfl, hw.trans hn1⟩

end Go.Proofs.YtlkhmnjghdbmoaaGreatDoor
