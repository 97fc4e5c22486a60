/- What is proved here: what the copying, measuring, comparing and judging of a frame answer, for every frame whose body has at most 1048576 bytes. -/
import Derived.Test.YtnhkmgibppiimaaNumLib
namespace Go.Proofs.Ytnhkmgibppiimaa
open Go.RowKit

theorem szBytes_ok (a : Option Addr) (n c l : Nat) (w : World) (hl : l ≤ 1048576) (h : n ≤ l) : Calls Try.prog 22 #[.slice a n c, .int .i64 l] w fun e w' => e = .returned (.int .i64 ((l : Int) - n)) ∧ New w w' := by
  go_enter Try.func22, Try.ntmps22
  go_wp2
  go_ret
  exact ⟨rfl, New.refl _⟩

theorem szBytes_big (a : Option Addr) (n c l : Nat) (w : World) (hl : l ≤ 1048576) (hn : n ≤ maxLen) (h : l < n) : Calls Try.prog 22 #[.slice a n c, .int .i64 l] w fun e w' => e = .returned (.int .i64 (-1)) ∧ New w w' := by
  unfold maxLen at hn
  go_enter Try.func22, Try.ntmps22
  go_wp2
  go_ret
  exact ⟨rfl, New.refl _⟩

theorem szFrame_ok (k : Int) (a : Option Addr) (n c l : Nat) (w : World) (hl : l ≤ 1048576) (h : n ≤ l) : Calls Try.prog 5 #[.agg #[.int .i64 k, .slice a n c], .int .i64 l] w fun e w' => e = .returned (.int .i64 ((l : Int) - n)) ∧ New w w' := by
  go_enter Try.func5, Try.ntmps5
  go_wp2_with fail
  refine (szBytes_ok a n c l _ hl h).mono ?_
  rintro e w1 ⟨rfl, hn1⟩
  go_wp2
  go_ret
  exact ⟨rfl, ((New.refl _).alloc _).trans hn1⟩

theorem szFrame_big (k : Int) (a : Option Addr) (n c l : Nat) (w : World) (hl : l ≤ 1048576) (hn : n ≤ maxLen) (h : l < n) : Calls Try.prog 5 #[.agg #[.int .i64 k, .slice a n c], .int .i64 l] w fun e w' => e = .returned (.int .i64 (-1)) ∧ New w w' := by
  go_enter Try.func5, Try.ntmps5
  go_wp2_with fail
  refine (szBytes_big a n c l _ hl hn h).mono ?_
  rintro e w1 ⟨rfl, hn1⟩
  go_wp2
  go_ret
  exact ⟨rfl, ((New.refl _).alloc _).trans hn1⟩

/-- The fault of a frame. -/
def ff (k : Int) (n : Nat) : Int := if k < 1 ∨ 4 < k then 3 else if 120 < n then 2 else 0

theorem specFF (k : Int) (a : Option Addr) (n c : Nat) (w : World) (hm : n ≤ 1048576) : Calls Try.prog 23 #[.agg #[.int .i64 k, .slice a n c]] w fun e w' => e = .returned (.int .i64 (ff k n)) ∧ New w w' := by
  by_cases hk : k < 1 ∨ 4 < k
  · have hf : Hid (ff k n = 3) := by unfold ff Hid; rw [if_pos hk]
    go_enter Try.func23, Try.ntmps23
    go_wp2_with fail
    refine (in_no _ _ _ _ hk).mono ?_
    rintro e w1 ⟨rfl, rfl⟩
    go_wp2
    go_ret
    exact ⟨ret_i64 hf.out.symm, (New.refl _).alloc _⟩
  · by_cases hn : 120 < n
    · have hf : Hid (ff k n = 2) := by unfold ff Hid; rw [if_neg hk, if_pos hn]
      go_enter Try.func23, Try.ntmps23
      go_wp2_with fail
      refine (in_yes _ _ _ _ (by omega)).mono ?_
      rintro e w1 ⟨rfl, rfl⟩
      go_wp2
      go_ret
      exact ⟨ret_i64 hf.out.symm, (New.refl _).alloc _⟩
    · have hf : Hid (ff k n = 0) := by unfold ff Hid; rw [if_neg hk, if_neg hn]
      go_enter Try.func23, Try.ntmps23
      go_wp2_with fail
      refine (in_yes _ _ _ _ (by omega)).mono ?_
      rintro e w1 ⟨rfl, rfl⟩
      go_wp2
      go_ret
      exact ⟨ret_i64 hf.out.symm, (New.refl _).alloc _⟩

theorem isKind_yes (v : Int) (w : World) (h : 1 ≤ v ∧ v ≤ 4) : Calls Try.prog 47 #[.int .i64 v] w fun e w' => e = .returned (.bool true) ∧ w' = w := by
  obtain ⟨h1, h2⟩ := h
  go_enter Try.func47, Try.ntmps47
  go_wp2
  go_ret
  exact ⟨by simp, rfl⟩

theorem isKind_no (v : Int) (w : World) (h : v < 1 ∨ 4 < v) : Calls Try.prog 47 #[.int .i64 v] w fun e w' => e = .returned (.bool false) ∧ w' = w := by
  by_cases h1 : 1 ≤ v
  · have h2 : 4 < v := by omega
    go_enter Try.func47, Try.ntmps47
    go_wp2
    go_ret
    exact ⟨by simp; omega, rfl⟩
  · go_enter Try.func47, Try.ntmps47
    go_wp2
    go_ret
    exact ⟨rfl, rfl⟩

theorem implFF (k : Int) (a : Option Addr) (n c : Nat) (w : World) (hm : n ≤ 1048576) : Calls Try.prog 28 #[.agg #[.int .i64 k, .slice a n c]] w fun e w' => e = .returned (.int .i64 (ff k n)) ∧ New w w' := by
  by_cases hk : k < 1 ∨ 4 < k
  · have hf : Hid (ff k n = 3) := by unfold ff Hid; rw [if_pos hk]
    go_enter Try.func28, Try.ntmps28
    go_wp2_with fail
    refine (isKind_no _ _ hk).mono ?_
    rintro e w1 ⟨rfl, rfl⟩
    go_wp2
    go_ret
    exact ⟨ret_i64 hf.out.symm, (New.refl _).alloc _⟩
  · by_cases hn : 120 < n
    · have hf : Hid (ff k n = 2) := by unfold ff Hid; rw [if_neg hk, if_pos hn]
      go_enter Try.func28, Try.ntmps28
      go_wp2_with fail
      refine (isKind_yes _ _ (by omega)).mono ?_
      rintro e w1 ⟨rfl, rfl⟩
      go_wp2
      go_ret
      exact ⟨ret_i64 hf.out.symm, (New.refl _).alloc _⟩
    · have hf : Hid (ff k n = 0) := by unfold ff Hid; rw [if_neg hk, if_neg hn]
      go_enter Try.func28, Try.ntmps28
      go_wp2_with fail
      refine (isKind_yes _ _ (by omega)).mono ?_
      rintro e w1 ⟨rfl, rfl⟩
      go_wp2
      go_ret
      exact ⟨ret_i64 hf.out.symm, (New.refl _).alloc _⟩

set_option maxHeartbeats 400000 in
theorem toFrame_any (k : Int) (a : Option Addr) (n c : Nat) (zs : List Int) (w : World) (h : BsAt w a zs) (hn : zs.length = n) (hm : n ≤ 1048576) :
    Calls Try.prog 7 #[.agg #[.int .i64 k, .slice a n c]] w fun e w' => ∃ g, e = .returned (.agg #[.int .i64 k, .slice (some ⟨g, 0, none⟩) n n]) ∧ w.heap.size ≤ g ∧
      w'.ownsRow 0 5 1 (.slice (some ⟨g, 0, none⟩) n n) n (zs.map (Value.int .u8)) ∧ New w w' := by
  go_enter Try.func7, Try.ntmps7
  go_wp2_with fail
  have hn0 := (((New.refl w).alloc (.cells #[.int .i64 k, .slice a n c] 24)).alloc (.cells #[.int .i64 0, .slice none 0 0] 37)).alloc (.cells #[.int .i64 k, .slice none 0 0] 37)
  refine (toBytes_any a n c zs _ (h.new hn0) hn hm).mono ?_
  rintro e w1 ⟨g, rfl, hg, ho, hn1⟩
  simp at hg
  have s1 := hn1.size
  simp at s1
  have c0 : w1.cell? ⟨w.heap.size + 1 + 1, 0, none⟩ = some (.int .i64 k) := by rw [hn1.cells _ _ (by simp)]; go_simp
  have c1 : w1.cell? ⟨w.heap.size + 1 + 1, 1, none⟩ = some (.slice none 0 0) := by rw [hn1.cells _ _ (by simp)]; go_simp
  have d0 : w1.cell? ⟨w.heap.size + 1, 0, none⟩ = some (.int .i64 0) := by rw [hn1.cells _ _ (by simp)]; go_simp
  have d1 : w1.cell? ⟨w.heap.size + 1, 1, none⟩ = some (.slice none 0 0) := by rw [hn1.cells _ _ (by simp)]; go_simp
  have f1 : w1.frozen? ⟨w.heap.size + 1 + 1, 1, none⟩ = false := by rw [hn1.frozens _ _ (by simp)]; go_simp
  have e0 : w1.frozen? ⟨w.heap.size + 1, 0, none⟩ = false := by rw [hn1.frozens _ _ (by simp)]; go_simp
  have e1 : w1.frozen? ⟨w.heap.size + 1, 1, none⟩ = false := by rw [hn1.frozens _ _ (by simp)]; go_simp
  have hn2 : New w w1 := hn0.trans hn1
  go_wp2
  refine bodyPost_ret (v := .agg #[.int .i64 k, .slice (some ⟨g, 0, none⟩) n n]) (by simp [results, Try.results7, go_sem, d0, d1]) rfl ⟨g, rfl, by omega, ?_, ?_⟩
  · refine own_turn (S := fun i => i = w.heap.size + 1 ∨ i = w.heap.size + 1 + 1) ho ?_ (by omega)
    exact Turn.set (Turn.set (Turn.set (Turn.refl _ _) (Or.inr rfl) _) (Or.inl rfl) _) (Or.inl rfl) _
  · exact ((hn2.setCell (by simp; omega) _).setCell (by simp) _).setCell (by simp) _

set_option maxHeartbeats 400000 in
theorem eqFrame_any (k : Int) (a b : Option Addr) (n c d : Nat) (zs : List Int) (w : World) (ha : BsAt w a zs) (hb : BsAt w b zs) (hn : zs.length = n) (hm : n ≤ 1048576) :
    Calls Try.prog 10 #[.agg #[.int .i64 k, .slice a n c], .agg #[.int .i64 k, .slice b n d]] w fun e w' => e = .returned (.bool true) ∧ New w w' := by
  have hk : (k != k) = false := by simp
  have hw := ((New.refl w).alloc (.cells #[.int .i64 k, .slice a n c] 37)).alloc (.cells #[.int .i64 k, .slice b n d] 37)
  go_enter Try.func10, Try.ntmps10
  go_wp2_with fail
  refine (eqBytes_any a b n c d zs _ (ha.new hw) (hb.new hw) hn hm).mono ?_
  rintro e w1 ⟨rfl, hn1⟩
  go_wp2
  go_ret
  exact ⟨rfl, hw.trans hn1⟩

end Go.Proofs.Ytnhkmgibppiimaa
