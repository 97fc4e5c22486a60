/- What is proved here: what the measuring, copying and comparing of a wire answer, for every wire of at most 1048576 bytes. -/
import Derived.Test.YtkbdmcimgepakaaGreatFrLib
import Derived.Deep.RegionHeld3
import Derived.Deep.CutRange
namespace Go.Proofs.YtkbdmcimgepakaaGreat
open Go.RowKit
set_option linter.unusedVariables false

set_option maxHeartbeats 800000 in
theorem szW_ok (E T : Int) (a b : Option Addr) (n c m d l : Nat) (w : World) (hl : l ≤ 1048576) (h : n + m ≤ l) : Calls Tryz.prog 47 #[.agg #[.int .i64 E, .slice a n c, .int .i64 T, .slice b m d], .int .i64 l] w fun e w' => e = .returned (.int .i64 ((l : Int) - n - m)) ∧ New w w' := by
  have hw := (New.refl w).alloc (.cells #[.int .i64 E, .slice a n c, .int .i64 T, .slice b m d] 80)
  have b0 := Blk.mk w w.heap.size 80 #[.int .i64 E, .slice a n c, .int .i64 T, .slice b m d] rfl
  obtain ⟨q, rfl⟩ := Nat.exists_eq_add_of_le (Nat.le_trans (Nat.le_add_right n m) h)
  have e1 : (((n + q : Nat) : Int) - n) = (q : Int) := by omega
  go_enter Tryz.func47, Tryz.ntmps47
  go_wp2_with fail
  refine (szBytes_ok a n c (n + q) _ hl (by omega)).mono ?_
  rintro e w1 ⟨rfl, hn1⟩
  rw [e1]
  have c1 := (b0.new hn1).cells
  go_wp2_with fail
  refine (szBytes_ok b m d q _ (by omega) (by omega)).mono ?_
  rintro e w2 ⟨rfl, hn2⟩
  go_wp2
  go_ret
  exact ⟨ret_i64 (by omega), (hw.trans hn1).trans hn2⟩

set_option maxHeartbeats 800000 in
theorem szW_big (E T : Int) (a b : Option Addr) (n c m d l : Nat) (w : World) (hl : l ≤ 1048576) (hn : n ≤ maxLen) (hm : m ≤ maxLen) (h : l < n + m) : Calls Tryz.prog 47 #[.agg #[.int .i64 E, .slice a n c, .int .i64 T, .slice b m d], .int .i64 l] w fun e w' => e = .returned (.int .i64 (-1)) ∧ New w w' := by
  have hw := (New.refl w).alloc (.cells #[.int .i64 E, .slice a n c, .int .i64 T, .slice b m d] 80)
  have b0 := Blk.mk w w.heap.size 80 #[.int .i64 E, .slice a n c, .int .i64 T, .slice b m d] rfl
  by_cases h1 : l < n
  · go_enter Tryz.func47, Tryz.ntmps47
    go_wp2_with fail
    refine (szBytes_big a n c l _ hl hn h1).mono ?_
    rintro e w1 ⟨rfl, hn1⟩
    go_wp2
    go_ret
    exact ⟨rfl, hw.trans hn1⟩
  · obtain ⟨q, rfl⟩ := Nat.exists_eq_add_of_le (Nat.le_of_not_lt h1)
    have e1 : (((n + q : Nat) : Int) - n) = (q : Int) := by omega
    go_enter Tryz.func47, Tryz.ntmps47
    go_wp2_with fail
    refine (szBytes_ok a n c (n + q) _ hl (by omega)).mono ?_
    rintro e w1 ⟨rfl, hn1⟩
    rw [e1]
    have c1 := (b0.new hn1).cells
    go_wp2_with fail
    refine (szBytes_big b m d q _ (by omega) hm (by omega)).mono ?_
    rintro e w2 ⟨rfl, hn2⟩
    go_wp2
    go_ret
    exact ⟨rfl, (hw.trans hn1).trans hn2⟩

set_option maxHeartbeats 1600000 in
theorem toW_any (E T : Int) (a b : Option Addr) (n c m d : Nat) (zs ys : List Int) (w : World) (h : BsAt w a zs) (k : BsAt w b ys) (hn : zs.length = n) (hm : ys.length = m) (hn1 : n ≤ 1048576) (hm1 : m ≤ 1048576) :
    Calls Tryz.prog 59 #[.agg #[.int .i64 E, .slice a n c, .int .i64 T, .slice b m d]] w fun e w' => ∃ g g2, e = .returned (.agg #[.int .i64 E, .slice (some ⟨g, 0, none⟩) n n, .int .i64 T, .slice (some ⟨g2, 0, none⟩) m m]) ∧ w.heap.size ≤ g ∧ g < g2 ∧
      w'.ownsRow 0 5 1 (.slice (some ⟨g, 0, none⟩) n n) n (zs.map (Value.int .u8)) ∧ w'.ownsRow 0 5 1 (.slice (some ⟨g2, 0, none⟩) m m) m (ys.map (Value.int .u8)) ∧ New w w' := by
  have hw := (((New.refl w).alloc (.cells #[.int .i64 E, .slice a n c, .int .i64 T, .slice b m d] 80)).alloc (.cells #[.int .i64 0, .slice none 0 0, .int .i64 0, .slice none 0 0] 91)).alloc (.cells #[.int .i64 E, .slice none 0 0, .int .i64 0, .slice none 0 0] 91)
  have b0 := ((Blk.mk w w.heap.size 80 #[.int .i64 E, .slice a n c, .int .i64 T, .slice b m d] rfl).alloc (.cells #[.int .i64 0, .slice none 0 0, .int .i64 0, .slice none 0 0] 91)).alloc (.cells #[.int .i64 E, .slice none 0 0, .int .i64 0, .slice none 0 0] 91)
  have b1 := (Blk.mk (w.alloc (.cells #[.int .i64 E, .slice a n c, .int .i64 T, .slice b m d] 80)) (w.heap.size + 1) 91 #[.int .i64 0, .slice none 0 0, .int .i64 0, .slice none 0 0] (by simp)).alloc (.cells #[.int .i64 E, .slice none 0 0, .int .i64 0, .slice none 0 0] 91)
  have b2 := Blk.mk ((w.alloc (.cells #[.int .i64 E, .slice a n c, .int .i64 T, .slice b m d] 80)).alloc (.cells #[.int .i64 0, .slice none 0 0, .int .i64 0, .slice none 0 0] 91)) (w.heap.size + 1 + 1) 91 #[.int .i64 E, .slice none 0 0, .int .i64 0, .slice none 0 0] (by simp)
  go_enter Tryz.func59, Tryz.ntmps59
  go_wp2_with fail
  refine (toBytes_any a n c zs _ (h.new hw) hn hn1).mono ?_
  rintro e w1 ⟨g, rfl, hg, ho, hn1'⟩
  simp at hg
  have b01 := b0.new hn1'
  have b11 := b1.new hn1'
  have b21 := b2.new hn1'
  have hw1 := hw.trans hn1'
  have c2 := b21.cells
  have f2 := b21.frees
  have c0 := b01.cells
  have hl1 := (ho.lt g rfl).2
  have l0 := b01.lt
  have l1 := b11.lt
  have l2 := b21.lt
  have b22' : Blk (w1.setCell ⟨w.heap.size + 1 + 1, 1, none⟩ (.slice (some ⟨g, 0, none⟩) n n)) (w.heap.size + 1 + 1) 91 #[.int .i64 E, .slice (some ⟨g, 0, none⟩) n n, .int .i64 0, .slice none 0 0] := b21.set 1 _
  have b22 : Blk ((w1.setCell ⟨w.heap.size + 1 + 1, 1, none⟩ (.slice (some ⟨g, 0, none⟩) n n)).setCell ⟨w.heap.size + 1 + 1, 2, none⟩ (.int .i64 T)) (w.heap.size + 1 + 1) 91 #[.int .i64 E, .slice (some ⟨g, 0, none⟩) n n, .int .i64 T, .slice none 0 0] := b22'.set 2 _
  have t1 : Turn (fun i => i = w.heap.size + 1 + 1) w1 ((w1.setCell ⟨w.heap.size + 1 + 1, 1, none⟩ (.slice (some ⟨g, 0, none⟩) n n)).setCell ⟨w.heap.size + 1 + 1, 2, none⟩ (.int .i64 T)) := Turn.set (S := fun i => i = w.heap.size + 1 + 1) (Turn.set (S := fun i => i = w.heap.size + 1 + 1) (Turn.refl _ _) rfl _) rfl _
  have b02 := b01.turn t1 (by omega)
  have b12 := b11.turn t1 (by omega)
  have hw2 : New w ((w1.setCell ⟨w.heap.size + 1 + 1, 1, none⟩ (.slice (some ⟨g, 0, none⟩) n n)).setCell ⟨w.heap.size + 1 + 1, 2, none⟩ (.int .i64 T)) := hw1.before t1 (by intro i hi h; omega)
  have ho2 := own_turn ho t1 (by omega)
  have sz2 : w1.heap.size ≤ ((w1.setCell ⟨w.heap.size + 1 + 1, 1, none⟩ (.slice (some ⟨g, 0, none⟩) n n)).setCell ⟨w.heap.size + 1 + 1, 2, none⟩ (.int .i64 T)).heap.size := t1.size
  go_upto_region 5 with fail
  generalize ((w1.setCell ⟨w.heap.size + 1 + 1, 1, none⟩ (.slice (some ⟨g, 0, none⟩) n n)).setCell ⟨w.heap.size + 1 + 1, 2, none⟩ (.int .i64 T)) = w2 at *
  clear c2 f2 c0
  have c0 := b02.cells
  go_wp2_with fail
  refine (toBytes_any b m d ys _ (k.new hw2) hm hm1).mono ?_
  rintro e w3 ⟨g2, rfl, hg2, ho3, hn3⟩
  have b13 := b12.new hn3
  have b23 := b22.new hn3
  have hw3 := hw2.trans hn3
  have ho33 := own_new ho2 hn3
  have c1 := b13.cells
  have f1 := b13.frees
  have c2 := b23.cells
  have f2 := b23.frees
  have l13 := b13.lt
  go_wp2
  refine bodyPost_ret (v := .agg #[.int .i64 E, .slice (some ⟨g, 0, none⟩) n n, .int .i64 T, .slice (some ⟨g2, 0, none⟩) m m]) (by simp [results, Tryz.results59, go_sem, c1]) rfl ⟨g, g2, rfl, by omega, by omega, ?_, ?_, ?_⟩
  · refine own_turn (S := fun i => i = w.heap.size + 1 ∨ i = w.heap.size + 1 + 1) ho33 ?_ (by omega)
    exact Turn.set (S := fun i => i = w.heap.size + 1 ∨ i = w.heap.size + 1 + 1) (Turn.set (S := fun i => i = w.heap.size + 1 ∨ i = w.heap.size + 1 + 1) (Turn.set (S := fun i => i = w.heap.size + 1 ∨ i = w.heap.size + 1 + 1) (Turn.set (S := fun i => i = w.heap.size + 1 ∨ i = w.heap.size + 1 + 1) (Turn.set (S := fun i => i = w.heap.size + 1 ∨ i = w.heap.size + 1 + 1) (Turn.refl _ _) (Or.inr rfl) _) (Or.inl rfl) _) (Or.inl rfl) _) (Or.inl rfl) _) (Or.inl rfl) _
  · refine own_turn (S := fun i => i = w.heap.size + 1 ∨ i = w.heap.size + 1 + 1) ho3 ?_ (by omega)
    exact Turn.set (S := fun i => i = w.heap.size + 1 ∨ i = w.heap.size + 1 + 1) (Turn.set (S := fun i => i = w.heap.size + 1 ∨ i = w.heap.size + 1 + 1) (Turn.set (S := fun i => i = w.heap.size + 1 ∨ i = w.heap.size + 1 + 1) (Turn.set (S := fun i => i = w.heap.size + 1 ∨ i = w.heap.size + 1 + 1) (Turn.set (S := fun i => i = w.heap.size + 1 ∨ i = w.heap.size + 1 + 1) (Turn.refl _ _) (Or.inr rfl) _) (Or.inl rfl) _) (Or.inl rfl) _) (Or.inl rfl) _) (Or.inl rfl) _
  · exact ((((hw3.setCell (by simp; omega) _).setCell (by simp) _).setCell (by simp) _).setCell (by simp) _).setCell (by simp) _

set_option maxHeartbeats 800000 in
theorem eqW_any (E T : Int) (a b a' b' : Option Addr) (n c m d c' d' : Nat) (zs ys : List Int) (w : World) (ha : BsAt w a zs) (hb : BsAt w b ys) (ha' : BsAt w a' zs) (hb' : BsAt w b' ys) (hn : zs.length = n) (hm : ys.length = m) (hn1 : n ≤ 1048576) (hm1 : m ≤ 1048576) :
    Calls Tryz.prog 71 #[.agg #[.int .i64 E, .slice a n c, .int .i64 T, .slice b m d], .agg #[.int .i64 E, .slice a' n c', .int .i64 T, .slice b' m d']] w fun e w' => e = .returned (.bool true) ∧ New w w' := by
  have hE : (E != E) = false := by simp
  have hT : (T != T) = false := by simp
  have hw := ((New.refl w).alloc (.cells #[.int .i64 E, .slice a n c, .int .i64 T, .slice b m d] 91)).alloc (.cells #[.int .i64 E, .slice a' n c', .int .i64 T, .slice b' m d'] 91)
  have b0 := (Blk.mk w w.heap.size 91 #[.int .i64 E, .slice a n c, .int .i64 T, .slice b m d] rfl).alloc (.cells #[.int .i64 E, .slice a' n c', .int .i64 T, .slice b' m d'] 91)
  have b1 := Blk.mk (w.alloc (.cells #[.int .i64 E, .slice a n c, .int .i64 T, .slice b m d] 91)) (w.heap.size + 1) 91 #[.int .i64 E, .slice a' n c', .int .i64 T, .slice b' m d'] (by simp)
  go_enter Tryz.func71, Tryz.ntmps71
  go_wp2_with fail
  refine (eqBytes_any a a' n c c' zs _ (ha.new hw) (ha'.new hw) hn hn1).mono ?_
  rintro e w1 ⟨rfl, hn1'⟩
  have c0 := (b0.new hn1').cells
  have c1 := (b1.new hn1').cells
  have hw1 := hw.trans hn1'
  go_wp2_with fail
  refine (eqBytes_any b b' m d d' ys _ (hb.new hw1) (hb'.new hw1) hm hm1).mono ?_
  rintro e w2 ⟨rfl, hn2⟩
  go_wp2
  go_ret
  exact ⟨rfl, hw1.trans hn2⟩

end Go.Proofs.YtkbdmcimgepakaaGreat
