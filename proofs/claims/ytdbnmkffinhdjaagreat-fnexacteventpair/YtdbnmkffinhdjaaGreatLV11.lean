/- Lemmas and contracts of one law. -/
import Derived.Test.YtdbnmkffinhdjaaGreatLV10
import Derived.Test.YtdbnmkffinhdjaaGreatLV1
import Derived.Deep.RegionHeld3
import Derived.Deep.CutRange
namespace Go.Proofs.YtdbnmkffinhdjaaGreat
open Go.ChangeShapes Go.WideShapes Go.ChangeAt Go.RowKit Go.Deep Go.Sort
set_option linter.unusedVariables false
set_option linter.unusedSimpArgs false
set_option maxRecDepth 100000
set_option maxHeartbeats 25600000

theorem szMl_okZ (kd tgt me at1 pr : Int) (has : Bool) (ee ki pe : Int) (a : Option Addr) (m c1 : Nat) (k : Int) (w : World) (h0 : 0 ≤ k) (hk : k ≤ 1048576) (h : (m : Int) ≤ k) : Calls Tryz.prog 58 #[.agg #[.int .i64 kd, .int .i64 tgt, .int .i64 me, .int .i64 at1, .int .i64 pr, .bool has, .int .i64 ee, .int .i64 ki, .int .i64 pe, .slice a m c1], .int .i64 k] w fun e w' => e = .returned (.int .i64 (k - m)) ∧ New w w' := by
  have hw := (New.refl w).alloc (.cells #[.int .i64 kd, .int .i64 tgt, .int .i64 me, .int .i64 at1, .int .i64 pr, .bool has, .int .i64 ee, .int .i64 ki, .int .i64 pe, .slice a m c1] 112)
  go_enter Tryz.func58, Tryz.ntmps58
  go_wp2_with fail
  refine (szEk_okZ ee ki pe a m c1 k _ h0 hk h).mono ?_
  rintro e w1 ⟨rfl, hn1⟩
  go_wp2
  go_ret
  exact ⟨rfl, hw.trans hn1⟩
theorem szMl_bigZ (kd tgt me at1 pr : Int) (has : Bool) (ee ki pe : Int) (a : Option Addr) (m c1 : Nat) (k : Int) (w : World) (h0 : 0 ≤ k) (hk : k ≤ 1048576) (hm : m ≤ maxLen) (h : k < (m : Int)) : Calls Tryz.prog 58 #[.agg #[.int .i64 kd, .int .i64 tgt, .int .i64 me, .int .i64 at1, .int .i64 pr, .bool has, .int .i64 ee, .int .i64 ki, .int .i64 pe, .slice a m c1], .int .i64 k] w fun e w' => e = .returned (.int .i64 (-1)) ∧ New w w' := by
  have hw := (New.refl w).alloc (.cells #[.int .i64 kd, .int .i64 tgt, .int .i64 me, .int .i64 at1, .int .i64 pr, .bool has, .int .i64 ee, .int .i64 ki, .int .i64 pe, .slice a m c1] 112)
  go_enter Tryz.func58, Tryz.ntmps58
  go_wp2_with fail
  refine (szEk_bigZ ee ki pe a m c1 k _ h0 hk hm h).mono ?_
  rintro e w1 ⟨rfl, hn1⟩
  go_wp2
  go_ret
  exact ⟨rfl, hw.trans hn1⟩

theorem toMl_any (kd tgt me at1 pr : Int) (has : Bool) (ee ki pe : Int) (a : Option Addr) (m c1 : Nat) (zs : List Int) (w : World) (h : BsAt w a zs) (hn : zs.length = m) (hm : m ≤ 1048576) :
    Calls Tryz.prog 74 #[.agg #[.int .i64 kd, .int .i64 tgt, .int .i64 me, .int .i64 at1, .int .i64 pr, .bool has, .int .i64 ee, .int .i64 ki, .int .i64 pe, .slice a m c1]] w fun e w' => ∃ g, e = .returned (.agg #[.int .i64 kd, .int .i64 tgt, .int .i64 me, .int .i64 at1, .int .i64 pr, .bool has, .int .i64 ee, .int .i64 ki, .int .i64 pe, .slice (some ⟨g, 0, none⟩) m m]) ∧ w.heap.size ≤ g ∧ w'.ownsRow 0 5 1 (.slice (some ⟨g, 0, none⟩) m m) m (zs.map (Value.int .u8)) ∧ New w w' := by
  have hw0 : New w (((w.alloc (.cells #[.int .i64 kd, .int .i64 tgt, .int .i64 me, .int .i64 at1, .int .i64 pr, .bool has, .int .i64 ee, .int .i64 ki, .int .i64 pe, .slice a m c1] 112)).alloc (.cells #[.int .i64 0, .int .i64 0, .int .i64 0, .int .i64 0, .int .i64 0, .bool false, .int .i64 0, .int .i64 0, .int .i64 0, .slice none 0 0] 120)).alloc (.cells #[.int .i64 kd, .int .i64 tgt, .int .i64 me, .int .i64 at1, .int .i64 pr, .bool has, .int .i64 0, .int .i64 0, .int .i64 0, .slice none 0 0] 120)) := (((New.refl w).alloc _).alloc _).alloc _
  have b0 : Blk (((w.alloc (.cells #[.int .i64 kd, .int .i64 tgt, .int .i64 me, .int .i64 at1, .int .i64 pr, .bool has, .int .i64 ee, .int .i64 ki, .int .i64 pe, .slice a m c1] 112)).alloc (.cells #[.int .i64 0, .int .i64 0, .int .i64 0, .int .i64 0, .int .i64 0, .bool false, .int .i64 0, .int .i64 0, .int .i64 0, .slice none 0 0] 120)).alloc (.cells #[.int .i64 kd, .int .i64 tgt, .int .i64 me, .int .i64 at1, .int .i64 pr, .bool has, .int .i64 0, .int .i64 0, .int .i64 0, .slice none 0 0] 120)) w.heap.size 112 #[.int .i64 kd, .int .i64 tgt, .int .i64 me, .int .i64 at1, .int .i64 pr, .bool has, .int .i64 ee, .int .i64 ki, .int .i64 pe, .slice a m c1] := ((Blk.mk _ _ _ _ rfl).alloc _).alloc _
  have b1 : Blk (((w.alloc (.cells #[.int .i64 kd, .int .i64 tgt, .int .i64 me, .int .i64 at1, .int .i64 pr, .bool has, .int .i64 ee, .int .i64 ki, .int .i64 pe, .slice a m c1] 112)).alloc (.cells #[.int .i64 0, .int .i64 0, .int .i64 0, .int .i64 0, .int .i64 0, .bool false, .int .i64 0, .int .i64 0, .int .i64 0, .slice none 0 0] 120)).alloc (.cells #[.int .i64 kd, .int .i64 tgt, .int .i64 me, .int .i64 at1, .int .i64 pr, .bool has, .int .i64 0, .int .i64 0, .int .i64 0, .slice none 0 0] 120)) (w.heap.size + 1) 120 #[.int .i64 0, .int .i64 0, .int .i64 0, .int .i64 0, .int .i64 0, .bool false, .int .i64 0, .int .i64 0, .int .i64 0, .slice none 0 0] := (Blk.mk _ _ _ _ (by simp)).alloc _
  have b2 : Blk (((w.alloc (.cells #[.int .i64 kd, .int .i64 tgt, .int .i64 me, .int .i64 at1, .int .i64 pr, .bool has, .int .i64 ee, .int .i64 ki, .int .i64 pe, .slice a m c1] 112)).alloc (.cells #[.int .i64 0, .int .i64 0, .int .i64 0, .int .i64 0, .int .i64 0, .bool false, .int .i64 0, .int .i64 0, .int .i64 0, .slice none 0 0] 120)).alloc (.cells #[.int .i64 kd, .int .i64 tgt, .int .i64 me, .int .i64 at1, .int .i64 pr, .bool has, .int .i64 0, .int .i64 0, .int .i64 0, .slice none 0 0] 120)) (w.heap.size + 1 + 1) 120 #[.int .i64 kd, .int .i64 tgt, .int .i64 me, .int .i64 at1, .int .i64 pr, .bool has, .int .i64 0, .int .i64 0, .int .i64 0, .slice none 0 0] := Blk.mk _ _ _ _ (by simp)
  have s0 : Hid ((((w.alloc (.cells #[.int .i64 kd, .int .i64 tgt, .int .i64 me, .int .i64 at1, .int .i64 pr, .bool has, .int .i64 ee, .int .i64 ki, .int .i64 pe, .slice a m c1] 112)).alloc (.cells #[.int .i64 0, .int .i64 0, .int .i64 0, .int .i64 0, .int .i64 0, .bool false, .int .i64 0, .int .i64 0, .int .i64 0, .slice none 0 0] 120)).alloc (.cells #[.int .i64 kd, .int .i64 tgt, .int .i64 me, .int .i64 at1, .int .i64 pr, .bool has, .int .i64 0, .int .i64 0, .int .i64 0, .slice none 0 0] 120)).heap.size = w.heap.size + 1 + 1 + 1) := by unfold Hid; simp
  go_enter Tryz.func74, Tryz.ntmps74
  go_upto_region 8 with fail
  generalize (((w.alloc (.cells #[.int .i64 kd, .int .i64 tgt, .int .i64 me, .int .i64 at1, .int .i64 pr, .bool has, .int .i64 ee, .int .i64 ki, .int .i64 pe, .slice a m c1] 112)).alloc (.cells #[.int .i64 0, .int .i64 0, .int .i64 0, .int .i64 0, .int .i64 0, .bool false, .int .i64 0, .int .i64 0, .int .i64 0, .slice none 0 0] 120)).alloc (.cells #[.int .i64 kd, .int .i64 tgt, .int .i64 me, .int .i64 at1, .int .i64 pr, .bool has, .int .i64 0, .int .i64 0, .int .i64 0, .slice none 0 0] 120)) = w0 at *
  have c0 := b0.cells
  go_wp2_with fail
  refine (toEntry_any ee ki pe a m c1 zs _ (h.new hw0) hn hm).mono ?_
  rintro e w1 ⟨g, rfl, hg, ho, hn1⟩
  have n1 := hw0.trans hn1
  have B1 := b1.new hn1
  have B2 := b2.new hn1
  have c1' := B1.cells
  have f1 := B1.frees
  have c2 := B2.cells
  have f2 := B2.frees
  clear b0 b1 b2 hn1 hw0 h c0
  have S0 := s0.out
  go_wp2
  refine bodyPost_ret (v := .agg #[.int .i64 kd, .int .i64 tgt, .int .i64 me, .int .i64 at1, .int .i64 pr, .bool has, .int .i64 ee, .int .i64 ki, .int .i64 pe, .slice (some ⟨g, 0, none⟩) m m]) (by simp [results, Tryz.results74, go_sem, c1']) rfl ⟨g, rfl, by omega, ?_, ?_⟩
  · refine own_turn (S := fun i => i = w.heap.size + 1 ∨ i = w.heap.size + 1 + 1) ho ?_ (by omega)
    exact Turn.set (S := fun i => i = w.heap.size + 1 ∨ i = w.heap.size + 1 + 1) (Turn.set (S := fun i => i = w.heap.size + 1 ∨ i = w.heap.size + 1 + 1) (Turn.set (S := fun i => i = w.heap.size + 1 ∨ i = w.heap.size + 1 + 1) (Turn.set (S := fun i => i = w.heap.size + 1 ∨ i = w.heap.size + 1 + 1) (Turn.set (S := fun i => i = w.heap.size + 1 ∨ i = w.heap.size + 1 + 1) (Turn.set (S := fun i => i = w.heap.size + 1 ∨ i = w.heap.size + 1 + 1) (Turn.set (S := fun i => i = w.heap.size + 1 ∨ i = w.heap.size + 1 + 1) (Turn.set (S := fun i => i = w.heap.size + 1 ∨ i = w.heap.size + 1 + 1) (Turn.set (S := fun i => i = w.heap.size + 1 ∨ i = w.heap.size + 1 + 1) (Turn.set (S := fun i => i = w.heap.size + 1 ∨ i = w.heap.size + 1 + 1) (Turn.set (S := fun i => i = w.heap.size + 1 ∨ i = w.heap.size + 1 + 1) (Turn.set (S := fun i => i = w.heap.size + 1 ∨ i = w.heap.size + 1 + 1) (Turn.set (S := fun i => i = w.heap.size + 1 ∨ i = w.heap.size + 1 + 1) (Turn.set (S := fun i => i = w.heap.size + 1 ∨ i = w.heap.size + 1 + 1) (Turn.refl _ _) (Or.inr rfl) _) (Or.inr rfl) _) (Or.inr rfl) _) (Or.inr rfl) _) (Or.inl rfl) _) (Or.inl rfl) _) (Or.inl rfl) _) (Or.inl rfl) _) (Or.inl rfl) _) (Or.inl rfl) _) (Or.inl rfl) _) (Or.inl rfl) _) (Or.inl rfl) _) (Or.inl rfl) _
  · exact ((((((((((((((n1).setCell (by simp; try omega) _).setCell (by simp; try omega) _).setCell (by simp; try omega) _).setCell (by simp; try omega) _).setCell (by simp; try omega) _).setCell (by simp; try omega) _).setCell (by simp; try omega) _).setCell (by simp; try omega) _).setCell (by simp; try omega) _).setCell (by simp; try omega) _).setCell (by simp; try omega) _).setCell (by simp; try omega) _).setCell (by simp; try omega) _).setCell (by simp; try omega) _

theorem Tryz.cMl : Tryz.prog.cellsOf 112 = 10 := by kernel_rfl

end Go.Proofs.YtdbnmkffinhdjaaGreat

namespace Go.Proofs.YtdbnmkffinhdjaaGreat
open Go.RowKit
set_option linter.unusedVariables false
set_option linter.unusedSimpArgs false
set_option maxHeartbeats 25600000

/-- The fault of a wire. -/
def wF (E T : Int) (n m : Nat) : Int := if E < 0 ∨ 1000 < E then 3 else if 2000 < n ∨ 2000 < m then 2 else if T < 0 ∨ (n : Int) < T then 3 else 0

theorem place_yes (t : Int) (a : Option Addr) (n c : Nat) (w : World) (h : 0 ≤ t ∧ t ≤ (n : Int)) (hn : n ≤ 1048576) : Calls Tryz.prog 145 #[.int .i64 t, .slice a n c] w fun e w' => e = .returned (.bool true) ∧ w' = w := by
  obtain ⟨h1, h2⟩ := h
  go_enter Tryz.func145, Tryz.ntmps145
  go_wp2
  go_ret
  exact ⟨by simp, rfl⟩

theorem place_no (t : Int) (a : Option Addr) (n c : Nat) (w : World) (h : t < 0 ∨ (n : Int) < t) (hn : n ≤ 1048576) : Calls Tryz.prog 145 #[.int .i64 t, .slice a n c] w fun e w' => e = .returned (.bool false) ∧ w' = w := by
  by_cases h1 : 0 ≤ t
  · have h2 : (n : Int) < t := by omega
    go_enter Tryz.func145, Tryz.ntmps145
    go_wp2
    go_ret
    exact ⟨by simp; omega, rfl⟩
  · go_enter Tryz.func145, Tryz.ntmps145
    go_wp2
    go_ret
    exact ⟨rfl, rfl⟩

theorem implWF (E T : Int) (a b : Option Addr) (n c m d : Nat) (w : World) (hn1 : n ≤ 1048576) (hm1 : m ≤ 1048576) :
    Calls Tryz.prog 113 #[.agg #[.int .i64 E, .slice a n c, .int .i64 T, .slice b m d]] w fun e w' => e = .returned (.int .i64 (wF E T n m)) ∧ New w w' := by
  have hw := (New.refl w).alloc (.cells #[.int .i64 E, .slice a n c, .int .i64 T, .slice b m d] 132)
  by_cases h1 : E < 0
  · have hf : Hid (wF E T n m = 3) := by unfold wF Hid; rw [if_pos (Or.inl h1)]
    go_enter Tryz.func113, Tryz.ntmps113
    go_wp2
    go_ret
    exact ⟨ret_i64 hf.out.symm, hw⟩
  · by_cases h2 : 1000 < E
    · have hf : Hid (wF E T n m = 3) := by unfold wF Hid; rw [if_pos (Or.inr h2)]
      go_enter Tryz.func113, Tryz.ntmps113
      go_wp2
      go_ret
      exact ⟨ret_i64 hf.out.symm, hw⟩
    · have h12 : ¬ (E < 0 ∨ 1000 < E) := by omega
      have H12 : Hid (¬ (E < 0 ∨ 1000 < E)) := h12
      clear h12
      by_cases h3 : (2000 : Int) < (n : Int)
      · have hf : Hid (wF E T n m = 2) := by unfold wF Hid; rw [if_neg H12.out, if_pos (Or.inl (by omega))]
        go_enter Tryz.func113, Tryz.ntmps113
        go_wp2
        go_ret
        exact ⟨ret_i64 hf.out.symm, hw⟩
      · by_cases h4 : (2000 : Int) < (m : Int)
        · have hf : Hid (wF E T n m = 2) := by unfold wF Hid; rw [if_neg H12.out, if_pos (Or.inr (by omega))]
          go_enter Tryz.func113, Tryz.ntmps113
          go_wp2
          go_ret
          exact ⟨ret_i64 hf.out.symm, hw⟩
        · by_cases h5 : T < 0 ∨ (n : Int) < T
          · have hf : Hid (wF E T n m = 3) := by unfold wF Hid; rw [if_neg H12.out, if_neg (by omega), if_pos h5]
            go_enter Tryz.func113, Tryz.ntmps113
            go_wp2_with fail
            refine (place_no T a n c _ h5 hn1).mono ?_
            rintro e w1 ⟨rfl, rfl⟩
            go_wp2
            go_ret
            exact ⟨ret_i64 hf.out.symm, hw⟩
          · have hf : Hid (wF E T n m = 0) := by unfold wF Hid; rw [if_neg H12.out, if_neg (by omega), if_neg h5]
            have h6 : 0 ≤ T ∧ T ≤ (n : Int) := by omega
            go_enter Tryz.func113, Tryz.ntmps113
            go_wp2_with fail
            refine (place_yes T a n c _ h6 hn1).mono ?_
            rintro e w1 ⟨rfl, rfl⟩
            go_wp2
            go_ret
            exact ⟨ret_i64 hf.out.symm, hw⟩

theorem specWF (E T : Int) (a b : Option Addr) (n c m d : Nat) (w : World) (hn1 : n ≤ 1048576) (hm1 : m ≤ 1048576) :
    Calls Tryz.prog 103 #[.agg #[.int .i64 E, .slice a n c, .int .i64 T, .slice b m d]] w fun e w' => e = .returned (.int .i64 (wF E T n m)) ∧ New w w' := by
  have hw := (New.refl w).alloc (.cells #[.int .i64 E, .slice a n c, .int .i64 T, .slice b m d] 132)
  have b0 := Blk.mk w w.heap.size 132 #[.int .i64 E, .slice a n c, .int .i64 T, .slice b m d] rfl
  have c0 := b0.cells
  by_cases h1 : E < 0 ∨ 1000 < E
  · have hf : Hid (wF E T n m = 3) := by unfold wF Hid; rw [if_pos h1]
    go_enter Tryz.func103, Tryz.ntmps103
    go_wp2_with fail
    refine (in_no E 0 1000 _ h1).mono ?_
    rintro e w1 ⟨rfl, rfl⟩
    go_wp2
    go_ret
    exact ⟨ret_i64 hf.out.symm, hw⟩
  · have h1' : 0 ≤ E ∧ E ≤ 1000 := by omega
    by_cases h3 : (2000 : Int) < (n : Int)
    · have hf : Hid (wF E T n m = 2) := by unfold wF Hid; rw [if_neg h1, if_pos (Or.inl (by omega))]
      go_enter Tryz.func103, Tryz.ntmps103
      go_wp2_with fail
      refine (in_yes E 0 1000 _ h1').mono ?_
      rintro e w1 ⟨rfl, rfl⟩
      go_wp2
      go_ret
      exact ⟨ret_i64 hf.out.symm, hw⟩
    · by_cases h4 : (2000 : Int) < (m : Int)
      · have hf : Hid (wF E T n m = 2) := by unfold wF Hid; rw [if_neg h1, if_pos (Or.inr (by omega))]
        go_enter Tryz.func103, Tryz.ntmps103
        go_wp2_with fail
        refine (in_yes E 0 1000 _ h1').mono ?_
        rintro e w1 ⟨rfl, rfl⟩
        go_wp2
        go_ret
        exact ⟨ret_i64 hf.out.symm, hw⟩
      · by_cases h5 : T < 0 ∨ (n : Int) < T
        · have hf : Hid (wF E T n m = 3) := by unfold wF Hid; rw [if_neg h1, if_neg (by omega), if_pos h5]
          go_enter Tryz.func103, Tryz.ntmps103
          go_wp2_with fail
          refine (in_yes E 0 1000 _ h1').mono ?_
          rintro e w1 ⟨rfl, rfl⟩
          go_wp2_with fail
          refine (in_no T 0 n _ h5).mono ?_
          rintro e w1 ⟨rfl, rfl⟩
          go_wp2
          go_ret
          exact ⟨ret_i64 hf.out.symm, hw⟩
        · have hf : Hid (wF E T n m = 0) := by unfold wF Hid; rw [if_neg h1, if_neg (by omega), if_neg h5]
          have h6 : 0 ≤ T ∧ T ≤ (n : Int) := by omega
          go_enter Tryz.func103, Tryz.ntmps103
          go_wp2_with fail
          refine (in_yes E 0 1000 _ h1').mono ?_
          rintro e w1 ⟨rfl, rfl⟩
          go_wp2_with fail
          refine (in_yes T 0 n _ h6).mono ?_
          rintro e w1 ⟨rfl, rfl⟩
          go_wp2
          go_ret
          exact ⟨ret_i64 hf.out.symm, hw⟩

end Go.Proofs.YtdbnmkffinhdjaaGreat

namespace Go.Proofs.YtdbnmkffinhdjaaGreat
open Go.RowKit
set_option linter.unusedVariables false
set_option maxHeartbeats 25600000

theorem szW_ok (E T : Int) (a b : Option Addr) (n c m d l : Nat) (w : World) (hl : l ≤ 1048576) (h : n + m ≤ l) : Calls Tryz.prog 57 #[.agg #[.int .i64 E, .slice a n c, .int .i64 T, .slice b m d], .int .i64 l] w fun e w' => e = .returned (.int .i64 ((l : Int) - n - m)) ∧ New w w' := by
  have hw := (New.refl w).alloc (.cells #[.int .i64 E, .slice a n c, .int .i64 T, .slice b m d] 107)
  have b0 := Blk.mk w w.heap.size 107 #[.int .i64 E, .slice a n c, .int .i64 T, .slice b m d] rfl
  obtain ⟨q, rfl⟩ := Nat.exists_eq_add_of_le (Nat.le_trans (Nat.le_add_right n m) h)
  have e1 : (((n + q : Nat) : Int) - n) = (q : Int) := by omega
  go_enter Tryz.func57, Tryz.ntmps57
  go_wp2_with fail
  refine (szBytes_ok a n c (n + q) _ hl (by omega)).mono ?_
  rintro e w1 ⟨rfl, hn1⟩
  rw [e1]
  have c1 := (b0.new hn1).cells
  go_wp2_with fail
  refine (szBytes_ok b m d q _ (by omega) (by omega)).mono ?_
  rintro e w2 ⟨rfl, hn2⟩
  go_wp2
  go_ret
  exact ⟨ret_i64 (by omega), (hw.trans hn1).trans hn2⟩

theorem szW_big (E T : Int) (a b : Option Addr) (n c m d l : Nat) (w : World) (hl : l ≤ 1048576) (hn : n ≤ maxLen) (hm : m ≤ maxLen) (h : l < n + m) : Calls Tryz.prog 57 #[.agg #[.int .i64 E, .slice a n c, .int .i64 T, .slice b m d], .int .i64 l] w fun e w' => e = .returned (.int .i64 (-1)) ∧ New w w' := by
  have hw := (New.refl w).alloc (.cells #[.int .i64 E, .slice a n c, .int .i64 T, .slice b m d] 107)
  have b0 := Blk.mk w w.heap.size 107 #[.int .i64 E, .slice a n c, .int .i64 T, .slice b m d] rfl
  by_cases h1 : l < n
  · go_enter Tryz.func57, Tryz.ntmps57
    go_wp2_with fail
    refine (szBytes_big a n c l _ hl hn h1).mono ?_
    rintro e w1 ⟨rfl, hn1⟩
    go_wp2
    go_ret
    exact ⟨rfl, hw.trans hn1⟩
  · obtain ⟨q, rfl⟩ := Nat.exists_eq_add_of_le (Nat.le_of_not_lt h1)
    have e1 : (((n + q : Nat) : Int) - n) = (q : Int) := by omega
    go_enter Tryz.func57, Tryz.ntmps57
    go_wp2_with fail
    refine (szBytes_ok a n c (n + q) _ hl (by omega)).mono ?_
    rintro e w1 ⟨rfl, hn1⟩
    rw [e1]
    have c1 := (b0.new hn1).cells
    go_wp2_with fail
    refine (szBytes_big b m d q _ (by omega) hm (by omega)).mono ?_
    rintro e w2 ⟨rfl, hn2⟩
    go_wp2
    go_ret
    exact ⟨rfl, (hw.trans hn1).trans hn2⟩

theorem toW_any (E T : Int) (a b : Option Addr) (n c m d : Nat) (zs ys : List Int) (w : World) (h : BsAt w a zs) (k : BsAt w b ys) (hn : zs.length = n) (hm : ys.length = m) (hn1 : n ≤ 1048576) (hm1 : m ≤ 1048576) :
    Calls Tryz.prog 73 #[.agg #[.int .i64 E, .slice a n c, .int .i64 T, .slice b m d]] w fun e w' => ∃ g g2, e = .returned (.agg #[.int .i64 E, .slice (some ⟨g, 0, none⟩) n n, .int .i64 T, .slice (some ⟨g2, 0, none⟩) m m]) ∧ w.heap.size ≤ g ∧ g < g2 ∧
      w'.ownsRow 0 5 1 (.slice (some ⟨g, 0, none⟩) n n) n (zs.map (Value.int .u8)) ∧ w'.ownsRow 0 5 1 (.slice (some ⟨g2, 0, none⟩) m m) m (ys.map (Value.int .u8)) ∧ New w w' := by
  have hw := (((New.refl w).alloc (.cells #[.int .i64 E, .slice a n c, .int .i64 T, .slice b m d] 107)).alloc (.cells #[.int .i64 0, .slice none 0 0, .int .i64 0, .slice none 0 0] 132)).alloc (.cells #[.int .i64 E, .slice none 0 0, .int .i64 0, .slice none 0 0] 132)
  have b0 := ((Blk.mk w w.heap.size 107 #[.int .i64 E, .slice a n c, .int .i64 T, .slice b m d] rfl).alloc (.cells #[.int .i64 0, .slice none 0 0, .int .i64 0, .slice none 0 0] 132)).alloc (.cells #[.int .i64 E, .slice none 0 0, .int .i64 0, .slice none 0 0] 132)
  have b1 := (Blk.mk (w.alloc (.cells #[.int .i64 E, .slice a n c, .int .i64 T, .slice b m d] 107)) (w.heap.size + 1) 132 #[.int .i64 0, .slice none 0 0, .int .i64 0, .slice none 0 0] (by simp)).alloc (.cells #[.int .i64 E, .slice none 0 0, .int .i64 0, .slice none 0 0] 132)
  have b2 := Blk.mk ((w.alloc (.cells #[.int .i64 E, .slice a n c, .int .i64 T, .slice b m d] 107)).alloc (.cells #[.int .i64 0, .slice none 0 0, .int .i64 0, .slice none 0 0] 132)) (w.heap.size + 1 + 1) 132 #[.int .i64 E, .slice none 0 0, .int .i64 0, .slice none 0 0] (by simp)
  go_enter Tryz.func73, Tryz.ntmps73
  go_wp2_with fail
  refine (toBytes_any a n c zs _ (h.new hw) hn hn1).mono ?_
  rintro e w1 ⟨g, rfl, hg, ho, hn1'⟩
  simp at hg
  have b01 := b0.new hn1'
  have b11 := b1.new hn1'
  have b21 := b2.new hn1'
  have hw1 := hw.trans hn1'
  have c2 := b21.cells
  have f2 := b21.frees
  have c0 := b01.cells
  have hl1 := (ho.lt g rfl).2
  have l0 := b01.lt
  have l1 := b11.lt
  have l2 := b21.lt
  have b22' : Blk (w1.setCell ⟨w.heap.size + 1 + 1, 1, none⟩ (.slice (some ⟨g, 0, none⟩) n n)) (w.heap.size + 1 + 1) 132 #[.int .i64 E, .slice (some ⟨g, 0, none⟩) n n, .int .i64 0, .slice none 0 0] := b21.set 1 _
  have b22 : Blk ((w1.setCell ⟨w.heap.size + 1 + 1, 1, none⟩ (.slice (some ⟨g, 0, none⟩) n n)).setCell ⟨w.heap.size + 1 + 1, 2, none⟩ (.int .i64 T)) (w.heap.size + 1 + 1) 132 #[.int .i64 E, .slice (some ⟨g, 0, none⟩) n n, .int .i64 T, .slice none 0 0] := b22'.set 2 _
  have t1 : Turn (fun i => i = w.heap.size + 1 + 1) w1 ((w1.setCell ⟨w.heap.size + 1 + 1, 1, none⟩ (.slice (some ⟨g, 0, none⟩) n n)).setCell ⟨w.heap.size + 1 + 1, 2, none⟩ (.int .i64 T)) := Turn.set (S := fun i => i = w.heap.size + 1 + 1) (Turn.set (S := fun i => i = w.heap.size + 1 + 1) (Turn.refl _ _) rfl _) rfl _
  have b02 := b01.turn t1 (by omega)
  have b12 := b11.turn t1 (by omega)
  have hw2 : New w ((w1.setCell ⟨w.heap.size + 1 + 1, 1, none⟩ (.slice (some ⟨g, 0, none⟩) n n)).setCell ⟨w.heap.size + 1 + 1, 2, none⟩ (.int .i64 T)) := hw1.before t1 (by intro i hi h; omega)
  have ho2 := own_turn ho t1 (by omega)
  have sz2 : w1.heap.size ≤ ((w1.setCell ⟨w.heap.size + 1 + 1, 1, none⟩ (.slice (some ⟨g, 0, none⟩) n n)).setCell ⟨w.heap.size + 1 + 1, 2, none⟩ (.int .i64 T)).heap.size := t1.size
  go_upto_region 5 with fail
  generalize ((w1.setCell ⟨w.heap.size + 1 + 1, 1, none⟩ (.slice (some ⟨g, 0, none⟩) n n)).setCell ⟨w.heap.size + 1 + 1, 2, none⟩ (.int .i64 T)) = w2 at *
  clear c2 f2 c0
  have c0 := b02.cells
  go_wp2_with fail
  refine (toBytes_any b m d ys _ (k.new hw2) hm hm1).mono ?_
  rintro e w3 ⟨g2, rfl, hg2, ho3, hn3⟩
  have b13 := b12.new hn3
  have b23 := b22.new hn3
  have hw3 := hw2.trans hn3
  have ho33 := own_new ho2 hn3
  have c1 := b13.cells
  have f1 := b13.frees
  have c2 := b23.cells
  have f2 := b23.frees
  have l13 := b13.lt
  go_wp2
  refine bodyPost_ret (v := .agg #[.int .i64 E, .slice (some ⟨g, 0, none⟩) n n, .int .i64 T, .slice (some ⟨g2, 0, none⟩) m m]) (by simp [results, Tryz.results73, go_sem, c1]) rfl ⟨g, g2, rfl, by omega, by omega, ?_, ?_, ?_⟩
  · refine own_turn (S := fun i => i = w.heap.size + 1 ∨ i = w.heap.size + 1 + 1) ho33 ?_ (by omega)
    exact Turn.set (S := fun i => i = w.heap.size + 1 ∨ i = w.heap.size + 1 + 1) (Turn.set (S := fun i => i = w.heap.size + 1 ∨ i = w.heap.size + 1 + 1) (Turn.set (S := fun i => i = w.heap.size + 1 ∨ i = w.heap.size + 1 + 1) (Turn.set (S := fun i => i = w.heap.size + 1 ∨ i = w.heap.size + 1 + 1) (Turn.set (S := fun i => i = w.heap.size + 1 ∨ i = w.heap.size + 1 + 1) (Turn.refl _ _) (Or.inr rfl) _) (Or.inl rfl) _) (Or.inl rfl) _) (Or.inl rfl) _) (Or.inl rfl) _
  · refine own_turn (S := fun i => i = w.heap.size + 1 ∨ i = w.heap.size + 1 + 1) ho3 ?_ (by omega)
    exact Turn.set (S := fun i => i = w.heap.size + 1 ∨ i = w.heap.size + 1 + 1) (Turn.set (S := fun i => i = w.heap.size + 1 ∨ i = w.heap.size + 1 + 1) (Turn.set (S := fun i => i = w.heap.size + 1 ∨ i = w.heap.size + 1 + 1) (Turn.set (S := fun i => i = w.heap.size + 1 ∨ i = w.heap.size + 1 + 1) (Turn.set (S := fun i => i = w.heap.size + 1 ∨ i = w.heap.size + 1 + 1) (Turn.refl _ _) (Or.inr rfl) _) (Or.inl rfl) _) (Or.inl rfl) _) (Or.inl rfl) _) (Or.inl rfl) _
  · exact ((((hw3.setCell (by simp; omega) _).setCell (by simp) _).setCell (by simp) _).setCell (by simp) _).setCell (by simp) _

theorem eqW_any (E T : Int) (a b a' b' : Option Addr) (n c m d c' d' : Nat) (zs ys : List Int) (w : World) (ha : BsAt w a zs) (hb : BsAt w b ys) (ha' : BsAt w a' zs) (hb' : BsAt w b' ys) (hn : zs.length = n) (hm : ys.length = m) (hn1 : n ≤ 1048576) (hm1 : m ≤ 1048576) :
    Calls Tryz.prog 86 #[.agg #[.int .i64 E, .slice a n c, .int .i64 T, .slice b m d], .agg #[.int .i64 E, .slice a' n c', .int .i64 T, .slice b' m d']] w fun e w' => e = .returned (.bool true) ∧ New w w' := by
  have hE : (E != E) = false := by simp
  have hT : (T != T) = false := by simp
  have hw := ((New.refl w).alloc (.cells #[.int .i64 E, .slice a n c, .int .i64 T, .slice b m d] 132)).alloc (.cells #[.int .i64 E, .slice a' n c', .int .i64 T, .slice b' m d'] 132)
  have b0 := (Blk.mk w w.heap.size 132 #[.int .i64 E, .slice a n c, .int .i64 T, .slice b m d] rfl).alloc (.cells #[.int .i64 E, .slice a' n c', .int .i64 T, .slice b' m d'] 132)
  have b1 := Blk.mk (w.alloc (.cells #[.int .i64 E, .slice a n c, .int .i64 T, .slice b m d] 132)) (w.heap.size + 1) 132 #[.int .i64 E, .slice a' n c', .int .i64 T, .slice b' m d'] (by simp)
  go_enter Tryz.func86, Tryz.ntmps86
  go_wp2_with fail
  refine (eqBytes_any a a' n c c' zs _ (ha.new hw) (ha'.new hw) hn hn1).mono ?_
  rintro e w1 ⟨rfl, hn1'⟩
  have c0 := (b0.new hn1').cells
  have c1 := (b1.new hn1').cells
  have hw1 := hw.trans hn1'
  go_wp2_with fail
  refine (eqBytes_any b b' m d d' ys _ (hb.new hw1) (hb'.new hw1) hm hm1).mono ?_
  rintro e w2 ⟨rfl, hn2⟩
  go_wp2
  go_ret
  exact ⟨rfl, hw1.trans hn2⟩

end Go.Proofs.YtdbnmkffinhdjaaGreat

namespace Go.Proofs.YtdbnmkffinhdjaaGreat
open Go.ChangeShapes Go.WideShapes Go.ChangeAt Go.RowKit Go.Deep Go.Sort
set_option linter.unusedVariables false
set_option linter.unusedSimpArgs false
set_option maxHeartbeats 25600000

theorem szEkS_gen (A : Option Addr) (n c : Nat) (V : List EkV) (K : Int) (w : World) (hK0 : 0 ≤ K) (hK1 : K ≤ 1048576) (h : EkCame w A V) (hn : V.length = n) (hm : n ≤ maxLen) :
    Calls Tryz.prog 24 #[.slice A n c, .int .i64 K] w fun e w' => (∃ z : Int, e = .returned (.int .i64 z) ∧ (z = -1 ∨ (0 ≤ z ∧ (totK V : Int) + z = K))) ∧ New w w' := by
  have HN : Hid (V.length = n) := hn
  unfold maxLen at hm
  clear hn
  by_cases hbig : K < (n : Int)
  case pos =>
    go_enter Tryz.func24, Tryz.ntmps24
    go_wp2
    go_ret
    exact ⟨⟨_, rfl, .inl rfl⟩, New.refl _⟩
  have hm' : (n : Int) ≤ K := by omega
  clear hm hbig
  go_enter Tryz.func24, Tryz.ntmps24
  go_wp2
  go_loopw [1, 5] (fun t i wr => ∃ (k : Nat) (z : Int), k ≤ n ∧ 0 ≤ z ∧ z ≤ 1048576 ∧ t = .int .i64 z ∧ i = .int .i64 k ∧ New w wr ∧ (totK (V.take k) : Int) + (n - k) + z = K) (fun _ i _ => n - (intOf i).toNat)
  case atStart => exact ⟨0, _, Nat.zero_le _, by omega, by omega, rfl, rfl, New.refl _, by simp [totK]; omega⟩
  case round =>
    obtain ⟨k, z, hk, hz0, hz1, rfl, rfl, hnw, hall⟩ := hrel
    by_cases hlt : k < n
    · obtain ⟨b, off, ep, ki, pe, x, m, d, xs, rfl, hv, hlen, hns, hmx, q0, q1, q2, q3⟩ := (h.new hnw).at k (by have := HN.out; omega)
      have HA : Hid ((totK (V.take (k + 1)) : Int) + (n - (k + 1)) + (z - m) = K) := by
        unfold Hid
        rw [take_snocK hv, totK_snoc]
        simp only [hlen]
        omega
      clear hv hlen hns h hall
      by_cases hfit : (m : Int) ≤ z
      · go_wp2_with fail
        refine (szEk_okZ ep ki pe x m d z _ hz0 hz1 hfit).mono ?_
        rintro e w1 ⟨rfl, hn1⟩
        clear q0 q1 q2 q3
        go_wp2
        go_roundw
        case rel => exact ⟨k + 1, z - m, by omega, by omega, by omega, rfl, by go_num, hnw.trans hn1, by have := HA.out; push_cast; exact this⟩
        case measure => simp [intOf]; omega
      · go_wp2_with fail
        refine (szEk_bigZ ep ki pe x m d z _ hz0 hz1 hmx (by omega)).mono ?_
        rintro e w1 ⟨rfl, hn1⟩
        clear q0 q1 q2 q3
        go_wp2
        go_ret
        exact ⟨⟨_, rfl, .inl rfl⟩, hnw.trans hn1⟩
    · go_wp2
      go_ret
      refine ⟨⟨_, rfl, .inr ⟨hz0, ?_⟩⟩, hnw⟩
      rw [List.take_of_length_le (by have := HN.out; omega)] at hall
      omega

theorem szNd_gen (id : Int) (up : Bool) (ro ep su ma ot co : Int) (A : Option Addr) (n c : Nat) (V : List EkV) (K : Int) (w : World) (hK0 : 0 ≤ K) (hK1 : K ≤ 1048576) (h : EkCame w A V) (hn : V.length = n) (hm : n ≤ maxLen) :
    Calls Tryz.prog 56 #[.agg #[.int .i64 id, .bool up, .int .i64 ro, .int .i64 ep, .slice A n c, .int .i64 su, .int .i64 ma, .int .i64 ot, .int .i64 co], .int .i64 K] w fun e w' => (∃ z : Int, e = .returned (.int .i64 z) ∧ (z = -1 ∨ (0 ≤ z ∧ (totK V : Int) + z = K))) ∧ New w w' := by
  have hw := (New.refl w).alloc (.cells #[.int .i64 id, .bool up, .int .i64 ro, .int .i64 ep, .slice A n c, .int .i64 su, .int .i64 ma, .int .i64 ot, .int .i64 co] 104)
  go_enter Tryz.func56, Tryz.ntmps56
  go_wp2_with fail
  refine (szEkS_gen A n c V K _ hK0 hK1 (h.new hw) hn hm).mono ?_
  rintro e w1 ⟨⟨z, rfl, hz⟩, hn1⟩
  have hw1 := hw.trans hn1
  by_cases h0 : z < 0
  · go_wp2
    go_ret
    exact ⟨⟨_, rfl, .inl rfl⟩, hw1⟩
  · go_wp2
    go_ret
    exact ⟨⟨_, rfl, by rcases hz with hz | hz; (exfalso; omega); exact .inr hz⟩, hw1⟩

theorem szWi_gen (E T : Int) (a b : Option Addr) (n c m d : Nat) (K : Int) (w : World) (hK0 : 0 ≤ K) (hK1 : K ≤ 1048576) (hn : n ≤ maxLen) (hm : m ≤ maxLen) : Calls Tryz.prog 57 #[.agg #[.int .i64 E, .slice a n c, .int .i64 T, .slice b m d], .int .i64 K] w fun e w' => (∃ z : Int, e = .returned (.int .i64 z) ∧ (z = -1 ∨ (0 ≤ z ∧ ((n + m : Nat) : Int) + z = K))) ∧ New w w' := by
  obtain ⟨l, rfl⟩ : ∃ l : Nat, K = l := ⟨K.toNat, by omega⟩
  by_cases h : n + m ≤ l
  · exact (szW_ok E T a b n c m d l w (by omega) h).mono fun e w' ⟨he, hn⟩ => ⟨⟨_, he, .inr ⟨by omega, by omega⟩⟩, hn⟩
  · exact (szW_big E T a b n c m d l w (by omega) hn hm (by omega)).mono fun e w' ⟨he, hn⟩ => ⟨⟨_, he, .inl rfl⟩, hn⟩
theorem szMl_gen (kd tgt me at1 pr : Int) (has : Bool) (ee ki pe : Int) (a : Option Addr) (m c1 : Nat) (K : Int) (w : World) (hK0 : 0 ≤ K) (hK1 : K ≤ 1048576) (hm : m ≤ maxLen) : Calls Tryz.prog 58 #[.agg #[.int .i64 kd, .int .i64 tgt, .int .i64 me, .int .i64 at1, .int .i64 pr, .bool has, .int .i64 ee, .int .i64 ki, .int .i64 pe, .slice a m c1], .int .i64 K] w fun e w' => (∃ z : Int, e = .returned (.int .i64 z) ∧ (z = -1 ∨ (0 ≤ z ∧ (m : Int) + z = K))) ∧ New w w' := by
  by_cases h : (m : Int) ≤ K
  · exact (szMl_okZ kd tgt me at1 pr has ee ki pe a m c1 K w hK0 hK1 h).mono fun e w' ⟨he, hn⟩ => ⟨⟨_, he, .inr ⟨by omega, by omega⟩⟩, hn⟩
  · exact (szMl_bigZ kd tgt me at1 pr has ee ki pe a m c1 K w hK0 hK1 hm (by omega)).mono fun e w' ⟨he, hn⟩ => ⟨⟨_, he, .inl rfl⟩, hn⟩

end Go.Proofs.YtdbnmkffinhdjaaGreat
