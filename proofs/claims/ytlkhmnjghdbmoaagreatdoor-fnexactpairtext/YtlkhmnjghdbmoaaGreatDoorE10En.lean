/- What is proved here: what the copying, measuring, comparing and judging of an entry answer, for every entry of at most 1048576 bytes. -/
import Derived.Test.YtlkhmnjghdbmoaaGreatDoorE9Ev
namespace Go.Proofs.YtlkhmnjghdbmoaaGreatDoor
open Go.RowKit
set_option linter.unusedVariables false

theorem szEntry_ok (ep k p : Int) (a : Option Addr) (n c l : Nat) (w : World) (hl : l ≤ 1048576) (h : n ≤ l) : Calls Tryz.prog 36 #[.agg #[.int .i64 ep, .int .i64 k, .int .i64 p, .slice a n c], .int .i64 l] w fun e w' => e = .returned (.int .i64 ((l : Int) - n)) ∧ New w w' := by
  go_enter Tryz.func36, Tryz.ntmps36
  go_wp2_with fail
  refine (szEvent_ok k p a n c l _ hl h).mono ?_
  rintro e w1 ⟨rfl, hn1⟩
  go_wp2
  go_ret
  exact ⟨rfl, ((New.refl _).alloc _).trans hn1⟩

theorem szEntry_big (ep k p : Int) (a : Option Addr) (n c l : Nat) (w : World) (hl : l ≤ 1048576) (hn : n ≤ maxLen) (h : l < n) : Calls Tryz.prog 36 #[.agg #[.int .i64 ep, .int .i64 k, .int .i64 p, .slice a n c], .int .i64 l] w fun e w' => e = .returned (.int .i64 (-1)) ∧ New w w' := by
  go_enter Tryz.func36, Tryz.ntmps36
  go_wp2_with fail
  refine (szEvent_big k p a n c l _ hl hn h).mono ?_
  rintro e w1 ⟨rfl, hn1⟩
  go_wp2
  go_ret
  exact ⟨rfl, ((New.refl _).alloc _).trans hn1⟩

/-- The fault of an entry. -/
def enF (ep k p : Int) (n : Nat) : Int := if ep < 1 ∨ 1000 < ep then 3 else evF k p n

theorem epoch_yes (ep : Int) (w : World) (h : 1 ≤ ep ∧ ep ≤ 1000) : Calls Tryz.prog 110 #[.int .i64 ep] w fun e w' => e = .returned (.bool true) ∧ w' = w := by
  obtain ⟨h0, h1⟩ := h
  go_enter Tryz.func110, Tryz.ntmps110
  go_wp2
  go_ret
  exact ⟨rfl, rfl⟩

theorem epoch_no (ep : Int) (w : World) (h : ep < 1 ∨ 1000 < ep) : Calls Tryz.prog 110 #[.int .i64 ep] w fun e w' => e = .returned (.bool false) ∧ w' = w := by
  by_cases h0 : 1 ≤ ep
  · have h1 : ¬ ep ≤ 1000 := by omega
    clear h
    go_enter Tryz.func110, Tryz.ntmps110
    go_wp2
    go_ret
    exact ⟨rfl, rfl⟩
  · clear h
    go_enter Tryz.func110, Tryz.ntmps110
    go_wp2
    go_ret
    exact ⟨rfl, rfl⟩

theorem sepoch_yes (ep : Int) (w : World) (h : 1 ≤ ep ∧ ep ≤ 1000) : Calls Tryz.prog 72 #[.int .i64 ep] w fun e w' => e = .returned (.bool true) ∧ w' = w := by
  go_enter Tryz.func72, Tryz.ntmps72
  go_wp2_with fail
  refine (in_yes _ _ _ _ h).mono ?_
  rintro e w1 ⟨rfl, rfl⟩
  go_wp2
  go_ret
  exact ⟨rfl, rfl⟩

theorem sepoch_no (ep : Int) (w : World) (h : ep < 1 ∨ 1000 < ep) : Calls Tryz.prog 72 #[.int .i64 ep] w fun e w' => e = .returned (.bool false) ∧ w' = w := by
  go_enter Tryz.func72, Tryz.ntmps72
  go_wp2_with fail
  refine (in_no _ _ _ _ h).mono ?_
  rintro e w1 ⟨rfl, rfl⟩
  go_wp2
  go_ret
  exact ⟨rfl, rfl⟩

set_option maxHeartbeats 800000 in
theorem implEN (ep k p : Int) (a : Option Addr) (n c : Nat) (w : World) (hm : n ≤ 1048576) : Calls Tryz.prog 85 #[.agg #[.int .i64 ep, .int .i64 k, .int .i64 p, .slice a n c]] w fun e w' => e = .returned (.int .i64 (enF ep k p n)) ∧ New w w' := by
  have b0 := Blk.mk w w.heap.size 104 #[.int .i64 ep, .int .i64 k, .int .i64 p, .slice a n c] rfl
  have hw := (New.refl w).alloc (.cells #[.int .i64 ep, .int .i64 k, .int .i64 p, .slice a n c] 104)
  by_cases he : ep < 1 ∨ 1000 < ep
  · have hf : Hid (enF ep k p n = 3) := by unfold enF Hid; rw [if_pos he]
    go_enter Tryz.func85, Tryz.ntmps85
    go_wp2_with fail
    refine (epoch_no _ _ he).mono ?_
    rintro e w1 ⟨rfl, rfl⟩
    go_wp2
    go_ret
    exact ⟨ret_i64 hf.out.symm, hw⟩
  · have hf : Hid (enF ep k p n = evF k p n) := by unfold enF Hid; rw [if_neg he]
    go_enter Tryz.func85, Tryz.ntmps85
    go_wp2_with fail
    refine (epoch_yes _ _ (by omega)).mono ?_
    rintro e w1 ⟨rfl, rfl⟩
    go_wp2_with fail
    refine (implEV k p a n c _ hm).mono ?_
    rintro e w2 ⟨rfl, hn2⟩
    go_wp2
    go_ret
    exact ⟨ret_i64 hf.out.symm, hw.trans hn2⟩

set_option maxHeartbeats 800000 in
theorem specEN (ep k p : Int) (a : Option Addr) (n c : Nat) (w : World) (hm : n ≤ 1048576) : Calls Tryz.prog 41 #[.agg #[.int .i64 ep, .int .i64 k, .int .i64 p, .slice a n c]] w fun e w' => e = .returned (.int .i64 (enF ep k p n)) ∧ New w w' := by
  have b0 := Blk.mk w w.heap.size 104 #[.int .i64 ep, .int .i64 k, .int .i64 p, .slice a n c] rfl
  have hw := (New.refl w).alloc (.cells #[.int .i64 ep, .int .i64 k, .int .i64 p, .slice a n c] 104)
  by_cases he : ep < 1 ∨ 1000 < ep
  · have hf : Hid (enF ep k p n = 3) := by unfold enF Hid; rw [if_pos he]
    go_enter Tryz.func41, Tryz.ntmps41
    go_wp2_with fail
    refine (sepoch_no _ _ he).mono ?_
    rintro e w1 ⟨rfl, rfl⟩
    go_wp2
    go_ret
    exact ⟨ret_i64 hf.out.symm, hw⟩
  · have hf : Hid (enF ep k p n = evF k p n) := by unfold enF Hid; rw [if_neg he]
    go_enter Tryz.func41, Tryz.ntmps41
    go_wp2_with fail
    refine (sepoch_yes _ _ (by omega)).mono ?_
    rintro e w1 ⟨rfl, rfl⟩
    go_wp2_with fail
    refine (specEV k p a n c _ hm).mono ?_
    rintro e w2 ⟨rfl, hn2⟩
    go_wp2
    go_ret
    exact ⟨ret_i64 hf.out.symm, hw.trans hn2⟩

set_option maxHeartbeats 800000 in
theorem toEntry_any (ep k p : Int) (a : Option Addr) (n c : Nat) (zs : List Int) (w : World) (h : BsAt w a zs) (hn : zs.length = n) (hm : n ≤ 1048576) :
    Calls Tryz.prog 48 #[.agg #[.int .i64 ep, .int .i64 k, .int .i64 p, .slice a n c]] w fun e w' => ∃ g, e = .returned (.agg #[.int .i64 ep, .int .i64 k, .int .i64 p, .slice (some ⟨g, 0, none⟩) n n]) ∧ w.heap.size ≤ g ∧
      w'.ownsRow 0 5 1 (.slice (some ⟨g, 0, none⟩) n n) n (zs.map (Value.int .u8)) ∧ New w w' := by
  go_enter Tryz.func48, Tryz.ntmps48
  go_wp2_with fail
  have hn0 := (((New.refl w).alloc (.cells #[.int .i64 ep, .int .i64 k, .int .i64 p, .slice a n c] 94)).alloc (.cells #[.int .i64 0, .int .i64 0, .int .i64 0, .slice none 0 0] 104)).alloc (.cells #[.int .i64 ep, .int .i64 0, .int .i64 0, .slice none 0 0] 104)
  refine (toEvent_any k p a n c zs _ (h.new hn0) hn hm).mono ?_
  rintro e w1 ⟨g, rfl, hg, ho, hn1⟩
  simp at hg
  have s1 := hn1.size
  simp at s1
  have c0 : w1.cell? ⟨w.heap.size + 1 + 1, 0, none⟩ = some (.int .i64 ep) := by rw [hn1.cells _ _ (by simp)]; go_simp
  have c1 : w1.cell? ⟨w.heap.size + 1 + 1, 1, none⟩ = some (.int .i64 0) := by rw [hn1.cells _ _ (by simp)]; go_simp
  have c2 : w1.cell? ⟨w.heap.size + 1 + 1, 2, none⟩ = some (.int .i64 0) := by rw [hn1.cells _ _ (by simp)]; go_simp
  have c3 : w1.cell? ⟨w.heap.size + 1 + 1, 3, none⟩ = some (.slice none 0 0) := by rw [hn1.cells _ _ (by simp)]; go_simp
  have d0 : w1.cell? ⟨w.heap.size + 1, 0, none⟩ = some (.int .i64 0) := by rw [hn1.cells _ _ (by simp)]; go_simp
  have d1 : w1.cell? ⟨w.heap.size + 1, 1, none⟩ = some (.int .i64 0) := by rw [hn1.cells _ _ (by simp)]; go_simp
  have d2 : w1.cell? ⟨w.heap.size + 1, 2, none⟩ = some (.int .i64 0) := by rw [hn1.cells _ _ (by simp)]; go_simp
  have d3 : w1.cell? ⟨w.heap.size + 1, 3, none⟩ = some (.slice none 0 0) := by rw [hn1.cells _ _ (by simp)]; go_simp
  have f1 : w1.frozen? ⟨w.heap.size + 1 + 1, 1, none⟩ = false := by rw [hn1.frozens _ _ (by simp)]; go_simp
  have f2 : w1.frozen? ⟨w.heap.size + 1 + 1, 2, none⟩ = false := by rw [hn1.frozens _ _ (by simp)]; go_simp
  have f3 : w1.frozen? ⟨w.heap.size + 1 + 1, 3, none⟩ = false := by rw [hn1.frozens _ _ (by simp)]; go_simp
  have e0 : w1.frozen? ⟨w.heap.size + 1, 0, none⟩ = false := by rw [hn1.frozens _ _ (by simp)]; go_simp
  have e1 : w1.frozen? ⟨w.heap.size + 1, 1, none⟩ = false := by rw [hn1.frozens _ _ (by simp)]; go_simp
  have e2 : w1.frozen? ⟨w.heap.size + 1, 2, none⟩ = false := by rw [hn1.frozens _ _ (by simp)]; go_simp
  have e3 : w1.frozen? ⟨w.heap.size + 1, 3, none⟩ = false := by rw [hn1.frozens _ _ (by simp)]; go_simp
  have hn2 : New w w1 := hn0.trans hn1
  go_wp2
  refine bodyPost_ret (v := .agg #[.int .i64 ep, .int .i64 k, .int .i64 p, .slice (some ⟨g, 0, none⟩) n n]) (by simp [results, Tryz.results48, go_sem, d0, d1, d2, d3]) rfl ⟨g, rfl, by omega, ?_, ?_⟩
  · refine own_turn (S := fun i => i = w.heap.size + 1 ∨ i = w.heap.size + 1 + 1) ho ?_ (by omega)
    exact Turn.set (Turn.set (Turn.set (Turn.set (Turn.set (Turn.set (Turn.set (Turn.refl _ _) (Or.inr rfl) _) (Or.inr rfl) _) (Or.inr rfl) _) (Or.inl rfl) _) (Or.inl rfl) _) (Or.inl rfl) _) (Or.inl rfl) _
  · exact ((((((hn2.setCell (by simp; omega) _).setCell (by simp; omega) _).setCell (by simp; omega) _).setCell (by simp) _).setCell (by simp) _).setCell (by simp) _).setCell (by simp) _

set_option maxHeartbeats 400000 in
theorem eqEntry_any (ep k p : Int) (a b : Option Addr) (n c d : Nat) (zs : List Int) (w : World) (ha : BsAt w a zs) (hb : BsAt w b zs) (hn : zs.length = n) (hm : n ≤ 1048576) :
    Calls Tryz.prog 63 #[.agg #[.int .i64 ep, .int .i64 k, .int .i64 p, .slice a n c], .agg #[.int .i64 ep, .int .i64 k, .int .i64 p, .slice b n d]] w fun e w' => e = .returned (.bool true) ∧ New w w' := by
  have hk : (ep != ep) = false := by simp
  have hw := ((New.refl w).alloc (.cells #[.int .i64 ep, .int .i64 k, .int .i64 p, .slice a n c] 104)).alloc (.cells #[.int .i64 ep, .int .i64 k, .int .i64 p, .slice b n d] 104)
  go_enter Tryz.func63, Tryz.ntmps63
  go_wp2_with fail
  refine (eqEvent_any k p a b n c d zs _ (ha.new hw) (hb.new hw) hn hm).mono ?_
  rintro e w1 ⟨rfl, hn1⟩
  go_wp2
  go_ret
  exact ⟨rfl, hw.trans hn1⟩

end Go.Proofs.YtlkhmnjghdbmoaaGreatDoor
