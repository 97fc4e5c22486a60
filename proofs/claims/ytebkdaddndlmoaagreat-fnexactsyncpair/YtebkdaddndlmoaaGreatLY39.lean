/- What is proved here: lemmas and contracts that the text of the law reaches; each names its own conditions. -/
import Derived.Test.YtebkdaddndlmoaaGreatLY24
namespace Go.Proofs.YtebkdaddndlmoaaGreat
open Go.RowKit Go.Sort
set_option linter.unusedVariables false
set_option linter.unusedSimpArgs false
set_option maxRecDepth 100000
set_option maxHeartbeats 25600000

theorem iSync_f (id : Int) (up : Bool) (ro ep su ma ot co : Int) (A : Option Addr) (n c : Nat) (V : List EkV) (w : World) (h : LgAt w A V) (hN : NlK V) (hn : V.length = n) (hm : n ≤ 2097152) (z : Int) (hf : uF up (nF id up ro ep su ma ot co n (V.map EkV.r)) = z) (hz : ¬ z = 0) :
    Calls Tryz.prog 129 #[.agg #[.int .i64 id, .bool up, .int .i64 ro, .int .i64 ep, .slice A n c, .int .i64 su, .int .i64 ma, .int .i64 ot, .int .i64 co]] w (NrAns w z 0 false 0 0 0 0 0 0 [] []) := by
  have hw := ((New.refl w).alloc (.cells #[.int .i64 id, .bool up, .int .i64 ro, .int .i64 ep, .slice A n c, .int .i64 su, .int .i64 ma, .int .i64 ot, .int .i64 co] 108)).alloc (.cells #[.int .i64 0, .int .i64 0, .bool false, .int .i64 0, .int .i64 0, .slice none 0 0, .int .i64 0, .int .i64 0, .int .i64 0, .int .i64 0, .slice none 0 0] 110)
  have b0 := (Blk.mk w w.heap.size 108 #[.int .i64 id, .bool up, .int .i64 ro, .int .i64 ep, .slice A n c, .int .i64 su, .int .i64 ma, .int .i64 ot, .int .i64 co] rfl).alloc (.cells #[.int .i64 0, .int .i64 0, .bool false, .int .i64 0, .int .i64 0, .slice none 0 0, .int .i64 0, .int .i64 0, .int .i64 0, .int .i64 0, .slice none 0 0] 110)
  have b1 := Blk.mk (w.alloc (.cells #[.int .i64 id, .bool up, .int .i64 ro, .int .i64 ep, .slice A n c, .int .i64 su, .int .i64 ma, .int .i64 ot, .int .i64 co] 108)) (w.heap.size + 1) 110 #[.int .i64 0, .int .i64 0, .bool false, .int .i64 0, .int .i64 0, .slice none 0 0, .int .i64 0, .int .i64 0, .int .i64 0, .int .i64 0, .slice none 0 0] (by simp)
  have s0 : Hid (((w.alloc (.cells #[.int .i64 id, .bool up, .int .i64 ro, .int .i64 ep, .slice A n c, .int .i64 su, .int .i64 ma, .int .i64 ot, .int .i64 co] 108)).alloc (.cells #[.int .i64 0, .int .i64 0, .bool false, .int .i64 0, .int .i64 0, .slice none 0 0, .int .i64 0, .int .i64 0, .int .i64 0, .int .i64 0, .slice none 0 0] 110)).heap.size = w.heap.size + 1 + 1) := by unfold Hid; simp
  go_enter Tryz.func129, Tryz.ntmps129
  go_upto_region 1 with fail
  generalize (w.alloc (.cells #[.int .i64 id, .bool up, .int .i64 ro, .int .i64 ep, .slice A n c, .int .i64 su, .int .i64 ma, .int .i64 ot, .int .i64 co] 108)).alloc (.cells #[.int .i64 0, .int .i64 0, .bool false, .int .i64 0, .int .i64 0, .slice none 0 0, .int .i64 0, .int .i64 0, .int .i64 0, .int .i64 0, .slice none 0 0] 110) = w0 at *
  have S0 := s0.out
  have c0 := b0.cells
  go_wp2_with fail
  refine (upF_any z w.heap.size id up ro ep su ma ot co A n c V _ b0 (h.new hw) hn hm hf).mono ?_
  rintro e w1 ⟨rfl, hn1⟩
  have b11 := b1.new hn1
  have b01 := b0.new hn1
  have c01 := b01.cells
  have hw1 := hw.trans hn1
  clear c0
  have c1 := (b11).cells
  have f1 := (b11).frees
  go_wp2
  refine bodyPost_ret (v := .agg #[.int .i64 z, .int .i64 0, .bool false, .int .i64 0, .int .i64 0, .slice none 0 0, .int .i64 0, .int .i64 0, .int .i64 0, .int .i64 0, .slice none 0 0]) (by simp [results, Tryz.results129, go_sem, c1]) rfl (nrAns_bad z ?_)
  exact ((((((((((((hw1)).setCell (by simp; try omega) _).setCell (by simp; try omega) _).setCell (by simp; try omega) _).setCell (by simp; try omega) _).setCell (by simp; try omega) _).setCell (by simp; try omega) _).setCell (by simp; try omega) _).setCell (by simp; try omega) _).setCell (by simp; try omega) _).setCell (by simp; try omega) _).setCell (by simp; try omega) _

theorem iSync_a (id : Int) (up : Bool) (ep su ma ot co : Int) (A : Option Addr) (n c : Nat) (V : List EkV) (w : World) (h : LgAt w A V) (hN : NlK V) (hn : V.length = n) (hm : n ≤ 2097152) (hf : uF up (nF id up 1 ep su ma ot co n (V.map EkV.r)) = 0) :
    Calls Tryz.prog 129 #[.agg #[.int .i64 id, .bool up, .int .i64 1, .int .i64 ep, .slice A n c, .int .i64 su, .int .i64 ma, .int .i64 ot, .int .i64 co]] w (NrAns w 0 id up 1 ep n ma ot (max co (min (n : Int) ot)) (V.map EkV.r) []) := by
  have HLn : Hid (V.length = n) := hn
  have hw := ((New.refl w).alloc (.cells #[.int .i64 id, .bool up, .int .i64 1, .int .i64 ep, .slice A n c, .int .i64 su, .int .i64 ma, .int .i64 ot, .int .i64 co] 108)).alloc (.cells #[.int .i64 0, .int .i64 0, .bool false, .int .i64 0, .int .i64 0, .slice none 0 0, .int .i64 0, .int .i64 0, .int .i64 0, .int .i64 0, .slice none 0 0] 110)
  have b0 := (Blk.mk w w.heap.size 108 #[.int .i64 id, .bool up, .int .i64 1, .int .i64 ep, .slice A n c, .int .i64 su, .int .i64 ma, .int .i64 ot, .int .i64 co] rfl).alloc (.cells #[.int .i64 0, .int .i64 0, .bool false, .int .i64 0, .int .i64 0, .slice none 0 0, .int .i64 0, .int .i64 0, .int .i64 0, .int .i64 0, .slice none 0 0] 110)
  have b1 := Blk.mk (w.alloc (.cells #[.int .i64 id, .bool up, .int .i64 1, .int .i64 ep, .slice A n c, .int .i64 su, .int .i64 ma, .int .i64 ot, .int .i64 co] 108)) (w.heap.size + 1) 110 #[.int .i64 0, .int .i64 0, .bool false, .int .i64 0, .int .i64 0, .slice none 0 0, .int .i64 0, .int .i64 0, .int .i64 0, .int .i64 0, .slice none 0 0] (by simp)
  have s0 : Hid (((w.alloc (.cells #[.int .i64 id, .bool up, .int .i64 1, .int .i64 ep, .slice A n c, .int .i64 su, .int .i64 ma, .int .i64 ot, .int .i64 co] 108)).alloc (.cells #[.int .i64 0, .int .i64 0, .bool false, .int .i64 0, .int .i64 0, .slice none 0 0, .int .i64 0, .int .i64 0, .int .i64 0, .int .i64 0, .slice none 0 0] 110)).heap.size = w.heap.size + 1 + 1) := by unfold Hid; simp
  go_enter Tryz.func129, Tryz.ntmps129
  go_upto_region 1 with fail
  generalize (w.alloc (.cells #[.int .i64 id, .bool up, .int .i64 1, .int .i64 ep, .slice A n c, .int .i64 su, .int .i64 ma, .int .i64 ot, .int .i64 co] 108)).alloc (.cells #[.int .i64 0, .int .i64 0, .bool false, .int .i64 0, .int .i64 0, .slice none 0 0, .int .i64 0, .int .i64 0, .int .i64 0, .int .i64 0, .slice none 0 0] 110) = w0 at *
  have S0 := s0.out
  have c0 := b0.cells
  go_wp2_with fail
  refine (upF_any 0 w.heap.size id up 1 ep su ma ot co A n c V _ b0 (h.new hw) hn hm hf).mono ?_
  rintro e w1 ⟨rfl, hn1⟩
  have b11 := b1.new hn1
  have b01 := b0.new hn1
  have c01 := b01.cells
  have hw1 := hw.trans hn1
  clear c0
  go_wp2_with fail
  refine (copyNd_any w.heap.size id up 1 ep su ma ot co A n c V _ b01 (h.new hw1) hN hn hm).mono ?_
  rintro e w2 ⟨A', c', V', rfl, hV, ho, hn2⟩
  clear c01
  have al := (New.refl w2).alloc (.cells #[.int .i64 id, .bool up, .int .i64 1, .int .i64 ep, .slice A' n c', .int .i64 su, .int .i64 ma, .int .i64 ot, .int .i64 co] 108)
  have b12 := (b11.new hn2).new al
  have bX := Blk.mk w2 w2.heap.size 108 #[.int .i64 id, .bool up, .int .i64 1, .int .i64 ep, .slice A' n c', .int .i64 su, .int .i64 ma, .int .i64 ot, .int .i64 co] rfl
  have ho3 := ho.new al
  have hw3 := (hw1.trans hn2).trans al
  have z12 := hn1.size
  have z2 := (hn2.trans al).size
  have z23 := al.size
  have z21 := hn2.size
  clear ho hn2
  go_upto_region 5 with fail
  generalize w2.alloc (.cells #[.int .i64 id, .bool up, .int .i64 1, .int .i64 ep, .slice A' n c', .int .i64 su, .int .i64 ma, .int .i64 ot, .int .i64 co] 108) = w3 at *
  have c1 := b12.cells
  have f1 := b12.frees
  have cX := bX.cells
  go_wp2_with fail
  refine (count_any w2.heap.size id up 1 ep su ma ot co A' n c' _ bX).mono ?_
  rintro e wz ⟨rfl, hwz⟩
  obtain rfl := hwz.symm
  have fX := bX.frees
  go_upto_region 6 with fail
  have bX4 := bX.set 5 (.int .i64 n)
  have t4 := (Turn.refl (fun i => i = w2.heap.size) w3).set (p := ⟨w2.heap.size, 5, none⟩) rfl (.int .i64 n)
  have b14 := b12.turn t4 (by omega)
  have ho4 := ho3.turn t4 (by intro k _ _ e; omega)
  have hw4 := hw3.before t4 (by intro i hi e; omega)
  have z4 := t4.size
  generalize w3.setCell ⟨w2.heap.size, 5, none⟩ (.int .i64 n) = w4 at *
  clear c1 f1 cX fX bX b12 ho3 t4
  go_wp2_with fail
  refine (active_yes w2.heap.size id up ep n ma ot co A' n c' _ bX4).mono ?_
  rintro e wz ⟨rfl, hwz⟩
  obtain rfl := hwz.symm
  go_wp2_with fail
  refine (agree_any w2.heap.size id up 1 ep n ma ot co A' n c' _ bX4).mono ?_
  rintro e w5 ⟨rfl, bX5, t5⟩
  have b15 := b14.turn t5 (by omega)
  have ho5 := ho4.turn t5 (by intro k _ _ e; omega)
  have hw5 := hw4.before t5 (by intro i hi e; omega)
  have z5 := t5.size
  clear bX4 b14 ho4 t5
  have c1 := b15.cells
  have f1 := b15.frees
  have cX := bX5.cells
  generalize max co (min (n : Int) ot) = mx at *
  go_wp2
  refine bodyPost_ret (v := .agg #[.int .i64 0, .int .i64 id, .bool up, .int .i64 1, .int .i64 ep, .slice A' n c', .int .i64 (n : Int), .int .i64 ma, .int .i64 ot, .int .i64 mx, .slice none 0 0]) (by simp [results, Tryz.results129, go_sem, c1]) rfl (nrAns_mk (U := V') (Ms := []) (by simpa using HLn.out) rfl hV rfl (NrOw.log (lo := w1.heap.size) (hi := w2.heap.size) (OwL.turn (w := w5) (S := fun i => i = w.heap.size + 1) ho5 ?t1 (by intro k hk _ e; omega)) (by omega) ?u1) ?n1)
  case t1 => exact set11 (S := fun i => i = w.heap.size + 1) w5 (w.heap.size + 1) rfl _ _ _ _ _ _ _ _ _ _ _
  case u1 => exact Nat.le_trans (by omega) (Turn.size (S := fun i => i = w.heap.size + 1) (set11 (S := fun i => i = w.heap.size + 1) w5 (w.heap.size + 1) rfl _ _ _ _ _ _ _ _ _ _ _))
  case n1 => exact Turn.trans (S := fun _ => False) (T := fun i => i = w.heap.size + 1) hw5 (set11 (S := fun i => i = w.heap.size + 1) w5 (w.heap.size + 1) rfl _ _ _ _ _ _ _ _ _ _ _) (fun i hi e => by omega)

theorem iSync_0 (id : Int) (up : Bool) (ro su ma ot co : Int) (A : Option Addr) (n c : Nat) (V : List EkV) (w : World) (h : LgAt w A V) (hN : NlK V) (hn : V.length = n) (hm : n ≤ 2097152) (hf : uF up (nF id up ro 0 su ma ot co n (V.map EkV.r)) = 0) (hr : ¬ ro = 1) :
    Calls Tryz.prog 129 #[.agg #[.int .i64 id, .bool up, .int .i64 ro, .int .i64 0, .slice A n c, .int .i64 su, .int .i64 ma, .int .i64 ot, .int .i64 co]] w (NrAns w 0 id up ro 0 n ma ot co (V.map EkV.r) []) := by
  have HLn : Hid (V.length = n) := hn
  have hw := ((New.refl w).alloc (.cells #[.int .i64 id, .bool up, .int .i64 ro, .int .i64 0, .slice A n c, .int .i64 su, .int .i64 ma, .int .i64 ot, .int .i64 co] 108)).alloc (.cells #[.int .i64 0, .int .i64 0, .bool false, .int .i64 0, .int .i64 0, .slice none 0 0, .int .i64 0, .int .i64 0, .int .i64 0, .int .i64 0, .slice none 0 0] 110)
  have b0 := (Blk.mk w w.heap.size 108 #[.int .i64 id, .bool up, .int .i64 ro, .int .i64 0, .slice A n c, .int .i64 su, .int .i64 ma, .int .i64 ot, .int .i64 co] rfl).alloc (.cells #[.int .i64 0, .int .i64 0, .bool false, .int .i64 0, .int .i64 0, .slice none 0 0, .int .i64 0, .int .i64 0, .int .i64 0, .int .i64 0, .slice none 0 0] 110)
  have b1 := Blk.mk (w.alloc (.cells #[.int .i64 id, .bool up, .int .i64 ro, .int .i64 0, .slice A n c, .int .i64 su, .int .i64 ma, .int .i64 ot, .int .i64 co] 108)) (w.heap.size + 1) 110 #[.int .i64 0, .int .i64 0, .bool false, .int .i64 0, .int .i64 0, .slice none 0 0, .int .i64 0, .int .i64 0, .int .i64 0, .int .i64 0, .slice none 0 0] (by simp)
  have s0 : Hid (((w.alloc (.cells #[.int .i64 id, .bool up, .int .i64 ro, .int .i64 0, .slice A n c, .int .i64 su, .int .i64 ma, .int .i64 ot, .int .i64 co] 108)).alloc (.cells #[.int .i64 0, .int .i64 0, .bool false, .int .i64 0, .int .i64 0, .slice none 0 0, .int .i64 0, .int .i64 0, .int .i64 0, .int .i64 0, .slice none 0 0] 110)).heap.size = w.heap.size + 1 + 1) := by unfold Hid; simp
  go_enter Tryz.func129, Tryz.ntmps129
  go_upto_region 1 with fail
  generalize (w.alloc (.cells #[.int .i64 id, .bool up, .int .i64 ro, .int .i64 0, .slice A n c, .int .i64 su, .int .i64 ma, .int .i64 ot, .int .i64 co] 108)).alloc (.cells #[.int .i64 0, .int .i64 0, .bool false, .int .i64 0, .int .i64 0, .slice none 0 0, .int .i64 0, .int .i64 0, .int .i64 0, .int .i64 0, .slice none 0 0] 110) = w0 at *
  have S0 := s0.out
  have c0 := b0.cells
  go_wp2_with fail
  refine (upF_any 0 w.heap.size id up ro 0 su ma ot co A n c V _ b0 (h.new hw) hn hm hf).mono ?_
  rintro e w1 ⟨rfl, hn1⟩
  have b11 := b1.new hn1
  have b01 := b0.new hn1
  have c01 := b01.cells
  have hw1 := hw.trans hn1
  clear c0
  go_wp2_with fail
  refine (copyNd_any w.heap.size id up ro 0 su ma ot co A n c V _ b01 (h.new hw1) hN hn hm).mono ?_
  rintro e w2 ⟨A', c', V', rfl, hV, ho, hn2⟩
  clear c01
  have al := (New.refl w2).alloc (.cells #[.int .i64 id, .bool up, .int .i64 ro, .int .i64 0, .slice A' n c', .int .i64 su, .int .i64 ma, .int .i64 ot, .int .i64 co] 108)
  have b12 := (b11.new hn2).new al
  have bX := Blk.mk w2 w2.heap.size 108 #[.int .i64 id, .bool up, .int .i64 ro, .int .i64 0, .slice A' n c', .int .i64 su, .int .i64 ma, .int .i64 ot, .int .i64 co] rfl
  have ho3 := ho.new al
  have hw3 := (hw1.trans hn2).trans al
  have z12 := hn1.size
  have z2 := (hn2.trans al).size
  have z23 := al.size
  have z21 := hn2.size
  clear ho hn2
  go_upto_region 5 with fail
  generalize w2.alloc (.cells #[.int .i64 id, .bool up, .int .i64 ro, .int .i64 0, .slice A' n c', .int .i64 su, .int .i64 ma, .int .i64 ot, .int .i64 co] 108) = w3 at *
  have c1 := b12.cells
  have f1 := b12.frees
  have cX := bX.cells
  go_wp2_with fail
  refine (count_any w2.heap.size id up ro 0 su ma ot co A' n c' _ bX).mono ?_
  rintro e wz ⟨rfl, hwz⟩
  obtain rfl := hwz.symm
  have fX := bX.frees
  go_upto_region 6 with fail
  have bX4 := bX.set 5 (.int .i64 n)
  have t4 := (Turn.refl (fun i => i = w2.heap.size) w3).set (p := ⟨w2.heap.size, 5, none⟩) rfl (.int .i64 n)
  have b14 := b12.turn t4 (by omega)
  have ho4 := ho3.turn t4 (by intro k _ _ e; omega)
  have hw4 := hw3.before t4 (by intro i hi e; omega)
  have z4 := t4.size
  generalize w3.setCell ⟨w2.heap.size, 5, none⟩ (.int .i64 n) = w4 at *
  clear c1 f1 cX fX bX b12 ho3 t4
  go_wp2_with fail
  refine (active_no w2.heap.size id up ro 0 n ma ot co A' n c' _ bX4 hr).mono ?_
  rintro e wz ⟨rfl, hwz⟩
  obtain rfl := hwz.symm
  have c1 := b14.cells
  have f1 := b14.frees
  have cX := bX4.cells
  go_wp2
  refine bodyPost_ret (v := .agg #[.int .i64 0, .int .i64 id, .bool up, .int .i64 ro, .int .i64 0, .slice A' n c', .int .i64 (n : Int), .int .i64 ma, .int .i64 ot, .int .i64 co, .slice none 0 0]) (by simp [results, Tryz.results129, go_sem, c1]) rfl (nrAns_mk (U := V') (Ms := []) (by simpa using HLn.out) rfl hV rfl (NrOw.log (lo := w1.heap.size) (hi := w2.heap.size) (OwL.turn (w := w4) (S := fun i => i = w.heap.size + 1) ho4 ?t1 (by intro k hk _ e; omega)) (by omega) ?u1) ?n1)
  case t1 => exact set11 (S := fun i => i = w.heap.size + 1) w4 (w.heap.size + 1) rfl _ _ _ _ _ _ _ _ _ _ _
  case u1 => exact Nat.le_trans (by omega) (Turn.size (S := fun i => i = w.heap.size + 1) (set11 (S := fun i => i = w.heap.size + 1) w4 (w.heap.size + 1) rfl _ _ _ _ _ _ _ _ _ _ _))
  case n1 => exact Turn.trans (S := fun _ => False) (T := fun i => i = w.heap.size + 1) hw4 (set11 (S := fun i => i = w.heap.size + 1) w4 (w.heap.size + 1) rfl _ _ _ _ _ _ _ _ _ _ _) (fun i hi e => by omega)

theorem iSync_s (id : Int) (up : Bool) (ro ep su ma ot co : Int) (A : Option Addr) (n c : Nat) (V : List EkV) (w : World) (h : LgAt w A V) (hN : NlK V) (hn : V.length = n) (hm : n ≤ 2097152) (hf : uF up (nF id up ro ep su ma ot co n (V.map EkV.r)) = 0) (hr : ¬ ro = 1) (he : ¬ ep = 0) (hid : id = 0 ∨ id = 1) :
    Calls Tryz.prog 129 #[.agg #[.int .i64 id, .bool up, .int .i64 ro, .int .i64 ep, .slice A n c, .int .i64 su, .int .i64 ma, .int .i64 ot, .int .i64 co]] w (NrAns w 0 id up ro ep n ma ot co (V.map EkV.r) [⟨2, 1 - id, ep, ma, 0, false, ⟨0, 0, 0, []⟩⟩]) := by
  have HLn : Hid (V.length = n) := hn
  have ge : (ep == 0) = false := by simp [he]
  have hw := ((New.refl w).alloc (.cells #[.int .i64 id, .bool up, .int .i64 ro, .int .i64 ep, .slice A n c, .int .i64 su, .int .i64 ma, .int .i64 ot, .int .i64 co] 108)).alloc (.cells #[.int .i64 0, .int .i64 0, .bool false, .int .i64 0, .int .i64 0, .slice none 0 0, .int .i64 0, .int .i64 0, .int .i64 0, .int .i64 0, .slice none 0 0] 110)
  have b0 := (Blk.mk w w.heap.size 108 #[.int .i64 id, .bool up, .int .i64 ro, .int .i64 ep, .slice A n c, .int .i64 su, .int .i64 ma, .int .i64 ot, .int .i64 co] rfl).alloc (.cells #[.int .i64 0, .int .i64 0, .bool false, .int .i64 0, .int .i64 0, .slice none 0 0, .int .i64 0, .int .i64 0, .int .i64 0, .int .i64 0, .slice none 0 0] 110)
  have b1 := Blk.mk (w.alloc (.cells #[.int .i64 id, .bool up, .int .i64 ro, .int .i64 ep, .slice A n c, .int .i64 su, .int .i64 ma, .int .i64 ot, .int .i64 co] 108)) (w.heap.size + 1) 110 #[.int .i64 0, .int .i64 0, .bool false, .int .i64 0, .int .i64 0, .slice none 0 0, .int .i64 0, .int .i64 0, .int .i64 0, .int .i64 0, .slice none 0 0] (by simp)
  have s0 : Hid (((w.alloc (.cells #[.int .i64 id, .bool up, .int .i64 ro, .int .i64 ep, .slice A n c, .int .i64 su, .int .i64 ma, .int .i64 ot, .int .i64 co] 108)).alloc (.cells #[.int .i64 0, .int .i64 0, .bool false, .int .i64 0, .int .i64 0, .slice none 0 0, .int .i64 0, .int .i64 0, .int .i64 0, .int .i64 0, .slice none 0 0] 110)).heap.size = w.heap.size + 1 + 1) := by unfold Hid; simp
  go_enter Tryz.func129, Tryz.ntmps129
  go_upto_region 1 with fail
  generalize (w.alloc (.cells #[.int .i64 id, .bool up, .int .i64 ro, .int .i64 ep, .slice A n c, .int .i64 su, .int .i64 ma, .int .i64 ot, .int .i64 co] 108)).alloc (.cells #[.int .i64 0, .int .i64 0, .bool false, .int .i64 0, .int .i64 0, .slice none 0 0, .int .i64 0, .int .i64 0, .int .i64 0, .int .i64 0, .slice none 0 0] 110) = w0 at *
  have S0 := s0.out
  have c0 := b0.cells
  go_wp2_with fail
  refine (upF_any 0 w.heap.size id up ro ep su ma ot co A n c V _ b0 (h.new hw) hn hm hf).mono ?_
  rintro e w1 ⟨rfl, hn1⟩
  have b11 := b1.new hn1
  have b01 := b0.new hn1
  have c01 := b01.cells
  have hw1 := hw.trans hn1
  clear c0
  go_wp2_with fail
  refine (copyNd_any w.heap.size id up ro ep su ma ot co A n c V _ b01 (h.new hw1) hN hn hm).mono ?_
  rintro e w2 ⟨A', c', V', rfl, hV, ho, hn2⟩
  clear c01
  have al := (New.refl w2).alloc (.cells #[.int .i64 id, .bool up, .int .i64 ro, .int .i64 ep, .slice A' n c', .int .i64 su, .int .i64 ma, .int .i64 ot, .int .i64 co] 108)
  have b12 := (b11.new hn2).new al
  have bX := Blk.mk w2 w2.heap.size 108 #[.int .i64 id, .bool up, .int .i64 ro, .int .i64 ep, .slice A' n c', .int .i64 su, .int .i64 ma, .int .i64 ot, .int .i64 co] rfl
  have ho3 := ho.new al
  have hw3 := (hw1.trans hn2).trans al
  have z12 := hn1.size
  have z2 := (hn2.trans al).size
  have z23 := al.size
  have z21 := hn2.size
  clear ho hn2
  go_upto_region 5 with fail
  generalize w2.alloc (.cells #[.int .i64 id, .bool up, .int .i64 ro, .int .i64 ep, .slice A' n c', .int .i64 su, .int .i64 ma, .int .i64 ot, .int .i64 co] 108) = w3 at *
  have c1 := b12.cells
  have f1 := b12.frees
  have cX := bX.cells
  go_wp2_with fail
  refine (count_any w2.heap.size id up ro ep su ma ot co A' n c' _ bX).mono ?_
  rintro e wz ⟨rfl, hwz⟩
  obtain rfl := hwz.symm
  have fX := bX.frees
  go_upto_region 6 with fail
  have bX4 := bX.set 5 (.int .i64 n)
  have t4 := (Turn.refl (fun i => i = w2.heap.size) w3).set (p := ⟨w2.heap.size, 5, none⟩) rfl (.int .i64 n)
  have b14 := b12.turn t4 (by omega)
  have ho4 := ho3.turn t4 (by intro k _ _ e; omega)
  have hw4 := hw3.before t4 (by intro i hi e; omega)
  have z4 := t4.size
  generalize w3.setCell ⟨w2.heap.size, 5, none⟩ (.int .i64 n) = w4 at *
  clear c1 f1 cX fX bX b12 ho3 t4
  go_wp2_with fail
  refine (active_no w2.heap.size id up ro ep n ma ot co A' n c' _ bX4 hr).mono ?_
  rintro e wz ⟨rfl, hwz⟩
  obtain rfl := hwz.symm
  have c1 := b14.cells
  have f1 := b14.frees
  have cX := bX4.cells
  go_upto_region 11 with fail
  clear c1 f1 cX
  refine hw_start (n := 7) (S := fun X => Turn (fun i => i = w.heap.size + 1) w4 X) rfl (by kernel_rfl) (((New.refl _).drew).turn) (fun hH => ?_)
  refine' hw_take 0 (some 22) (.agg #[.int .i64 id, .bool up, .int .i64 ro, .int .i64 ep, .slice A' n c', .int .i64 n, .int .i64 ma, .int .i64 ot, .int .i64 co]) rfl rfl (by kernel_rfl) (by kernel_rfl) (by kernel_rfl) (fun _ _ _ h => h) (by rfl) hH ?hyA ?restA
  case hyA =>
    intro X hX
    exact run_load_blk 108 (.tmp 4) rfl w2.heap.size rfl #[.int .i64 id, .bool up, .int .i64 ro, .int .i64 ep, .slice A' n c', .int .i64 n, .int .i64 ma, .int .i64 ot, .int .i64 co] _ (bX4.turn hX (by omega)) Tryz.underlying108 rfl (by kernel_rfl)
  simp only [Act.put, pA9, pB9, pC9]
  refine' hw_t 1 (some 23) _ rfl rfl hH ?hy1 ?rest1
  case hy1 =>
    intro X hX
    go_simp
    try rfl
  simp only [Act.put, pA9, pB9, pC9]
  refine' hw_t 2 (some 24) _ rfl rfl hH ?hy2 ?rest2
  case hy2 =>
    intro X hX
    have cX := (bX4.turn hX (by omega)).cells
    go_simp
    try rfl
  simp only [Act.put, pA9, pB9, pC9]
  refine hw_call 3 (some 25) rfl rfl (by kernel_rfl) (by rfl) (fun K hK => ?_)
  go_simp
  refine (mailAt_any 2 ma w2.heap.size id up ro ep n ma ot co A' n c' _ (bX4.turn hH (by omega)) hid).mono ?_
  rintro e w5 ⟨rfl, hn5⟩
  have t45 := Turn.trans hH hn5 (fun i _ f => f.elim)
  go_simp
  refine hK.out _ _ t45 (fun hH5 => ?_)
  simp only [Act.put, pA9, pB9, pC9]
  refine hw_call 4 (some 26) rfl rfl (by kernel_rfl) (by rfl) (fun K hK => ?_)
  go_simp
  have al6 := (New.refl w5).alloc (.cells #[.int .i64 2, .int .i64 (1 - id), .int .i64 ep, .int .i64 ma, .int .i64 0, .bool false, .int .i64 0, .int .i64 0, .int .i64 0, .slice none 0 0] 137)
  have bM := Blk.mk w5 w5.heap.size 137 #[.int .i64 2, .int .i64 (1 - id), .int .i64 ep, .int .i64 ma, .int .i64 0, .bool false, .int .i64 0, .int .i64 0, .int .i64 0, .slice none 0 0] rfl
  have t46 := Turn.trans t45 al6 (fun i _ f => f.elim)
  refine hK.out _ _ t46 (fun hH6 => ?_)
  simp only [Act.put, pA9, pB9, pC9]
  refine' hw_t 5 (some 27) _ rfl rfl hH6 ?hy3 ?rest3
  case hy3 =>
    intro X hX
    go_simp
    try rfl
  simp only [Act.put, pA9, pB9, pC9]
  refine hw_call 6 none rfl rfl (by kernel_rfl) (by rfl) (fun K hK => ?_)
  have b16 : Blk (w5.alloc (.cells #[.int .i64 2, .int .i64 (1 - id), .int .i64 ep, .int .i64 ma, .int .i64 0, .bool false, .int .i64 0, .int .i64 0, .int .i64 0, .slice none 0 0] 137)) (w.heap.size + 1) 110 #[.int .i64 0, .int .i64 0, .bool false, .int .i64 0, .int .i64 0, .slice none 0 0, .int .i64 0, .int .i64 0, .int .i64 0, .int .i64 0, .slice none 0 0] := ((b14.new ((New.refl _).drew)).new hn5).new al6
  have ho6 := ((ho4.new ((New.refl _).drew)).new hn5).new al6
  have hw6 := ((hw4.drew).trans hn5).trans al6
  have z45 : w4.heap.size ≤ w5.heap.size := hn5.size
  have z6 := al6.size
  have l5 : w5.heap.size < (w5.alloc (.cells #[.int .i64 2, .int .i64 (1 - id), .int .i64 ep, .int .i64 ma, .int .i64 0, .bool false, .int .i64 0, .int .i64 0, .int .i64 0, .slice none 0 0] 137)).heap.size := bM.lt
  refine hw_store 110 (.tmp 2) (.tmp 27) rfl rfl (w.heap.size + 1) #[.int .i64 0, .int .i64 id, .bool up, .int .i64 ro, .int .i64 ep, .slice A' n c', .int .i64 n, .int .i64 ma, .int .i64 ot, .int .i64 co, .slice (some ⟨w5.heap.size, 0, none⟩) 1 1] #[.int .i64 0, .int .i64 0, .bool false, .int .i64 0, .int .i64 0, .slice none 0 0, .int .i64 0, .int .i64 0, .int .i64 0, .int .i64 0, .slice none 0 0] rfl rfl b16 (by kernel_rfl) rfl (by kernel_rfl) ?_
  generalize w5.alloc (.cells #[.int .i64 2, .int .i64 (1 - id), .int .i64 ep, .int .i64 ma, .int .i64 0, .bool false, .int .i64 0, .int .i64 0, .int .i64 0, .slice none 0 0] 137) = w6 at *
  have tR := Turn.rowW (Turn.refl (fun i => i = w.heap.size + 1) w6) rfl #[.int .i64 0, .int .i64 id, .bool up, .int .i64 ro, .int .i64 ep, .slice A' n c', .int .i64 n, .int .i64 ma, .int .i64 ot, .int .i64 co, .slice (some ⟨w5.heap.size, 0, none⟩) 1 1]
  have bR := b16.rowW #[.int .i64 0, .int .i64 id, .bool up, .int .i64 ro, .int .i64 ep, .slice A' n c', .int .i64 n, .int .i64 ma, .int .i64 ot, .int .i64 co, .slice (some ⟨w5.heap.size, 0, none⟩) 1 1]
  have hoR := ho6.turn tR (by intro k _ _ e; omega)
  have bMR := bM.turn tR (by omega)
  have hwR := hw6.before tR (by intro i hi e; omega)
  have zR := tR.size
  refine hK.out undef _ (Turn.trans hH6 tR (fun i _ e => e)) (fun hS2 => ?_)
  refine wpAnyH_done (by kernel_rfl) ?_ _
  generalize World.setRow _ _ _ = wR at *
  go_wp2
  exact bodyPost_ret (results_row1 rfl rfl bR ⟨_, Tryz.underlying110⟩ (by kernel_rfl)) rfl (nrAns_mk (U := V') (Ms := [mlv0 2 (1 - id) ep ma]) (by simpa using HLn.out) rfl hV rfl (NrOw.one (lo := w1.heap.size) (hi := w2.heap.size) hoR (by omega) (by omega) (row_of_blk bMR rfl) (by omega) (by omega) (by omega)) hwR)

theorem sSync_f (id : Int) (up : Bool) (ro ep su ma ot co : Int) (A : Option Addr) (n c : Nat) (V : List EkV) (w : World) (h : LgAt w A V) (hN : NlK V) (hn : V.length = n) (hm : n ≤ 2097152) (z : Int) (hf : uF up (nF id up ro ep su ma ot co n (V.map EkV.r)) = z) (hz : ¬ z = 0) :
    Calls Tryz.prog 71 #[.agg #[.int .i64 id, .bool up, .int .i64 ro, .int .i64 ep, .slice A n c, .int .i64 su, .int .i64 ma, .int .i64 ot, .int .i64 co]] w (NrAns w z 0 false 0 0 0 0 0 0 [] []) := by
  have hw := ((New.refl w).alloc (.cells #[.int .i64 id, .bool up, .int .i64 ro, .int .i64 ep, .slice A n c, .int .i64 su, .int .i64 ma, .int .i64 ot, .int .i64 co] 108)).alloc (.cells #[.int .i64 0, .int .i64 0, .bool false, .int .i64 0, .int .i64 0, .slice none 0 0, .int .i64 0, .int .i64 0, .int .i64 0, .int .i64 0, .slice none 0 0] 110)
  have b0 := (Blk.mk w w.heap.size 108 #[.int .i64 id, .bool up, .int .i64 ro, .int .i64 ep, .slice A n c, .int .i64 su, .int .i64 ma, .int .i64 ot, .int .i64 co] rfl).alloc (.cells #[.int .i64 0, .int .i64 0, .bool false, .int .i64 0, .int .i64 0, .slice none 0 0, .int .i64 0, .int .i64 0, .int .i64 0, .int .i64 0, .slice none 0 0] 110)
  have b1 := Blk.mk (w.alloc (.cells #[.int .i64 id, .bool up, .int .i64 ro, .int .i64 ep, .slice A n c, .int .i64 su, .int .i64 ma, .int .i64 ot, .int .i64 co] 108)) (w.heap.size + 1) 110 #[.int .i64 0, .int .i64 0, .bool false, .int .i64 0, .int .i64 0, .slice none 0 0, .int .i64 0, .int .i64 0, .int .i64 0, .int .i64 0, .slice none 0 0] (by simp)
  have s0 : Hid (((w.alloc (.cells #[.int .i64 id, .bool up, .int .i64 ro, .int .i64 ep, .slice A n c, .int .i64 su, .int .i64 ma, .int .i64 ot, .int .i64 co] 108)).alloc (.cells #[.int .i64 0, .int .i64 0, .bool false, .int .i64 0, .int .i64 0, .slice none 0 0, .int .i64 0, .int .i64 0, .int .i64 0, .int .i64 0, .slice none 0 0] 110)).heap.size = w.heap.size + 1 + 1) := by unfold Hid; simp
  go_enter Tryz.func71, Tryz.ntmps71
  go_upto_region 1 with fail
  generalize (w.alloc (.cells #[.int .i64 id, .bool up, .int .i64 ro, .int .i64 ep, .slice A n c, .int .i64 su, .int .i64 ma, .int .i64 ot, .int .i64 co] 108)).alloc (.cells #[.int .i64 0, .int .i64 0, .bool false, .int .i64 0, .int .i64 0, .slice none 0 0, .int .i64 0, .int .i64 0, .int .i64 0, .int .i64 0, .slice none 0 0] 110) = w0 at *
  have S0 := s0.out
  have c0 := b0.cells
  go_wp2_with fail
  refine (asked_any z w.heap.size id up ro ep su ma ot co A n c V _ b0 (h.new hw) hn hm hf).mono ?_
  rintro e w1 ⟨rfl, hn1⟩
  have b11 := b1.new hn1
  have b01 := b0.new hn1
  have c01 := b01.cells
  have hw1 := hw.trans hn1
  clear c0
  have c1 := (b11).cells
  have f1 := (b11).frees
  go_wp2_with fail
  refine (bad12 z _).mono ?_
  rintro e wq ⟨rfl, hnq⟩
  have c1 := ((b11).new hnq).cells
  have f1 := ((b11).new hnq).frees
  go_wp2
  refine bodyPost_ret (v := .agg #[.int .i64 z, .int .i64 0, .bool false, .int .i64 0, .int .i64 0, .slice none 0 0, .int .i64 0, .int .i64 0, .int .i64 0, .int .i64 0, .slice none 0 0]) (by simp [results, Tryz.results71, go_sem, c1]) rfl (nrAns_bad z ?_)
  exact ((((((((((((hw1.trans hnq)).setCell (by simp; try omega) _).setCell (by simp; try omega) _).setCell (by simp; try omega) _).setCell (by simp; try omega) _).setCell (by simp; try omega) _).setCell (by simp; try omega) _).setCell (by simp; try omega) _).setCell (by simp; try omega) _).setCell (by simp; try omega) _).setCell (by simp; try omega) _).setCell (by simp; try omega) _

theorem sSync_a (id : Int) (up : Bool) (ep su ma ot co : Int) (A : Option Addr) (n c : Nat) (V : List EkV) (w : World) (h : LgAt w A V) (hN : NlK V) (hn : V.length = n) (hm : n ≤ 2097152) (hf : uF up (nF id up 1 ep su ma ot co n (V.map EkV.r)) = 0) :
    Calls Tryz.prog 71 #[.agg #[.int .i64 id, .bool up, .int .i64 1, .int .i64 ep, .slice A n c, .int .i64 su, .int .i64 ma, .int .i64 ot, .int .i64 co]] w (NrAns w 0 id up 1 ep n ma ot (max co (min (n : Int) ot)) (V.map EkV.r) []) := by
  have HLn : Hid (V.length = n) := hn
  have hw := ((New.refl w).alloc (.cells #[.int .i64 id, .bool up, .int .i64 1, .int .i64 ep, .slice A n c, .int .i64 su, .int .i64 ma, .int .i64 ot, .int .i64 co] 108)).alloc (.cells #[.int .i64 0, .int .i64 0, .bool false, .int .i64 0, .int .i64 0, .slice none 0 0, .int .i64 0, .int .i64 0, .int .i64 0, .int .i64 0, .slice none 0 0] 110)
  have b0 := (Blk.mk w w.heap.size 108 #[.int .i64 id, .bool up, .int .i64 1, .int .i64 ep, .slice A n c, .int .i64 su, .int .i64 ma, .int .i64 ot, .int .i64 co] rfl).alloc (.cells #[.int .i64 0, .int .i64 0, .bool false, .int .i64 0, .int .i64 0, .slice none 0 0, .int .i64 0, .int .i64 0, .int .i64 0, .int .i64 0, .slice none 0 0] 110)
  have b1 := Blk.mk (w.alloc (.cells #[.int .i64 id, .bool up, .int .i64 1, .int .i64 ep, .slice A n c, .int .i64 su, .int .i64 ma, .int .i64 ot, .int .i64 co] 108)) (w.heap.size + 1) 110 #[.int .i64 0, .int .i64 0, .bool false, .int .i64 0, .int .i64 0, .slice none 0 0, .int .i64 0, .int .i64 0, .int .i64 0, .int .i64 0, .slice none 0 0] (by simp)
  have s0 : Hid (((w.alloc (.cells #[.int .i64 id, .bool up, .int .i64 1, .int .i64 ep, .slice A n c, .int .i64 su, .int .i64 ma, .int .i64 ot, .int .i64 co] 108)).alloc (.cells #[.int .i64 0, .int .i64 0, .bool false, .int .i64 0, .int .i64 0, .slice none 0 0, .int .i64 0, .int .i64 0, .int .i64 0, .int .i64 0, .slice none 0 0] 110)).heap.size = w.heap.size + 1 + 1) := by unfold Hid; simp
  go_enter Tryz.func71, Tryz.ntmps71
  go_upto_region 1 with fail
  generalize (w.alloc (.cells #[.int .i64 id, .bool up, .int .i64 1, .int .i64 ep, .slice A n c, .int .i64 su, .int .i64 ma, .int .i64 ot, .int .i64 co] 108)).alloc (.cells #[.int .i64 0, .int .i64 0, .bool false, .int .i64 0, .int .i64 0, .slice none 0 0, .int .i64 0, .int .i64 0, .int .i64 0, .int .i64 0, .slice none 0 0] 110) = w0 at *
  have S0 := s0.out
  have c0 := b0.cells
  go_wp2_with fail
  refine (asked_any 0 w.heap.size id up 1 ep su ma ot co A n c V _ b0 (h.new hw) hn hm hf).mono ?_
  rintro e w1 ⟨rfl, hn1⟩
  have b11 := b1.new hn1
  have b01 := b0.new hn1
  have c01 := b01.cells
  have hw1 := hw.trans hn1
  clear c0
  go_wp2_with fail
  refine (scopyNd_any id up 1 ep su ma ot co A n c V _ (h.new hw1) hN hn hm).mono ?_
  rintro e w2 ⟨A', c', V', rfl, hV, ho, hn2⟩
  have al := (New.refl w2).alloc (.cells #[.int .i64 0, .int .i64 id, .bool up, .int .i64 1, .int .i64 ep, .slice A' n c', .int .i64 n, .int .i64 ma, .int .i64 ot, .int .i64 co, .slice none 0 0] 110)
  have b03 := (b01.new hn2).new al
  have b12 := (b11.new hn2).new al
  have bX := Blk.mk w2 w2.heap.size 110 #[.int .i64 0, .int .i64 id, .bool up, .int .i64 1, .int .i64 ep, .slice A' n c', .int .i64 n, .int .i64 ma, .int .i64 ot, .int .i64 co, .slice none 0 0] rfl
  have ho3 := ho.new al
  have hw3 := (hw1.trans hn2).trans al
  have z12 := hn1.size
  have z2 := (hn2.trans al).size
  have z23 := al.size
  have z21 := hn2.size
  have c02 := (b01.new hn2).cells
  have l02 := (b01.new hn2).lt
  clear ho hn2 c01
  go_upto_region 6 with fail
  generalize w2.alloc (.cells #[.int .i64 0, .int .i64 id, .bool up, .int .i64 1, .int .i64 ep, .slice A' n c', .int .i64 n, .int .i64 ma, .int .i64 ot, .int .i64 co, .slice none 0 0] 110) = w3 at *
  clear c02
  have c1 := b12.cells
  have f1 := b12.frees
  have cX := bX.cells
  have c03 := b03.cells
  go_wp2_with fail
  refine (sagree_any w2.heap.size 0 id up 1 ep n ma ot co A' none n c' 0 0 _ bX).mono ?_
  rintro e w5 ⟨rfl, bX5, t5⟩
  have b15 := b12.turn t5 (by omega)
  have ho5 := ho3.turn t5 (by intro k _ _ e; omega)
  have hw5 := hw3.before t5 (by intro i hi e; omega)
  have z5 := t5.size
  clear bX b12 ho3 t5 c1 f1 cX c03 b03
  have c1 := b15.cells
  have f1 := b15.frees
  have cX := bX5.cells
  generalize max co (min (n : Int) ot) = mx at *
  go_wp2
  refine bodyPost_ret (v := .agg #[.int .i64 0, .int .i64 id, .bool up, .int .i64 1, .int .i64 ep, .slice A' n c', .int .i64 (n : Int), .int .i64 ma, .int .i64 ot, .int .i64 mx, .slice none 0 0]) (by simp [results, Tryz.results71, go_sem, c1]) rfl (nrAns_mk (U := V') (Ms := []) (by simpa using HLn.out) rfl hV rfl (NrOw.log (lo := w1.heap.size) (hi := w2.heap.size) (OwL.turn (w := w5) (S := fun i => i = w.heap.size + 1) ho5 ?t1 (by intro k hk _ e; omega)) (by omega) ?u1) ?n1)
  case t1 => exact set11 (S := fun i => i = w.heap.size + 1) w5 (w.heap.size + 1) rfl _ _ _ _ _ _ _ _ _ _ _
  case u1 => exact Nat.le_trans (by omega) (Turn.size (S := fun i => i = w.heap.size + 1) (set11 (S := fun i => i = w.heap.size + 1) w5 (w.heap.size + 1) rfl _ _ _ _ _ _ _ _ _ _ _))
  case n1 => exact Turn.trans (S := fun _ => False) (T := fun i => i = w.heap.size + 1) hw5 (set11 (S := fun i => i = w.heap.size + 1) w5 (w.heap.size + 1) rfl _ _ _ _ _ _ _ _ _ _ _) (fun i hi e => by omega)

theorem sSync_0 (id : Int) (up : Bool) (ro su ma ot co : Int) (A : Option Addr) (n c : Nat) (V : List EkV) (w : World) (h : LgAt w A V) (hN : NlK V) (hn : V.length = n) (hm : n ≤ 2097152) (hf : uF up (nF id up ro 0 su ma ot co n (V.map EkV.r)) = 0) (hr : ¬ ro = 1) :
    Calls Tryz.prog 71 #[.agg #[.int .i64 id, .bool up, .int .i64 ro, .int .i64 0, .slice A n c, .int .i64 su, .int .i64 ma, .int .i64 ot, .int .i64 co]] w (NrAns w 0 id up ro 0 n ma ot co (V.map EkV.r) []) := by
  have HLn : Hid (V.length = n) := hn
  have gr : (ro == 1) = false := by simp [hr]
  have hw := ((New.refl w).alloc (.cells #[.int .i64 id, .bool up, .int .i64 ro, .int .i64 0, .slice A n c, .int .i64 su, .int .i64 ma, .int .i64 ot, .int .i64 co] 108)).alloc (.cells #[.int .i64 0, .int .i64 0, .bool false, .int .i64 0, .int .i64 0, .slice none 0 0, .int .i64 0, .int .i64 0, .int .i64 0, .int .i64 0, .slice none 0 0] 110)
  have b0 := (Blk.mk w w.heap.size 108 #[.int .i64 id, .bool up, .int .i64 ro, .int .i64 0, .slice A n c, .int .i64 su, .int .i64 ma, .int .i64 ot, .int .i64 co] rfl).alloc (.cells #[.int .i64 0, .int .i64 0, .bool false, .int .i64 0, .int .i64 0, .slice none 0 0, .int .i64 0, .int .i64 0, .int .i64 0, .int .i64 0, .slice none 0 0] 110)
  have b1 := Blk.mk (w.alloc (.cells #[.int .i64 id, .bool up, .int .i64 ro, .int .i64 0, .slice A n c, .int .i64 su, .int .i64 ma, .int .i64 ot, .int .i64 co] 108)) (w.heap.size + 1) 110 #[.int .i64 0, .int .i64 0, .bool false, .int .i64 0, .int .i64 0, .slice none 0 0, .int .i64 0, .int .i64 0, .int .i64 0, .int .i64 0, .slice none 0 0] (by simp)
  have s0 : Hid (((w.alloc (.cells #[.int .i64 id, .bool up, .int .i64 ro, .int .i64 0, .slice A n c, .int .i64 su, .int .i64 ma, .int .i64 ot, .int .i64 co] 108)).alloc (.cells #[.int .i64 0, .int .i64 0, .bool false, .int .i64 0, .int .i64 0, .slice none 0 0, .int .i64 0, .int .i64 0, .int .i64 0, .int .i64 0, .slice none 0 0] 110)).heap.size = w.heap.size + 1 + 1) := by unfold Hid; simp
  go_enter Tryz.func71, Tryz.ntmps71
  go_upto_region 1 with fail
  generalize (w.alloc (.cells #[.int .i64 id, .bool up, .int .i64 ro, .int .i64 0, .slice A n c, .int .i64 su, .int .i64 ma, .int .i64 ot, .int .i64 co] 108)).alloc (.cells #[.int .i64 0, .int .i64 0, .bool false, .int .i64 0, .int .i64 0, .slice none 0 0, .int .i64 0, .int .i64 0, .int .i64 0, .int .i64 0, .slice none 0 0] 110) = w0 at *
  have S0 := s0.out
  have c0 := b0.cells
  go_wp2_with fail
  refine (asked_any 0 w.heap.size id up ro 0 su ma ot co A n c V _ b0 (h.new hw) hn hm hf).mono ?_
  rintro e w1 ⟨rfl, hn1⟩
  have b11 := b1.new hn1
  have b01 := b0.new hn1
  have c01 := b01.cells
  have hw1 := hw.trans hn1
  clear c0
  go_wp2_with fail
  refine (scopyNd_any id up ro 0 su ma ot co A n c V _ (h.new hw1) hN hn hm).mono ?_
  rintro e w2 ⟨A', c', V', rfl, hV, ho, hn2⟩
  have al := (New.refl w2).alloc (.cells #[.int .i64 0, .int .i64 id, .bool up, .int .i64 ro, .int .i64 0, .slice A' n c', .int .i64 n, .int .i64 ma, .int .i64 ot, .int .i64 co, .slice none 0 0] 110)
  have b03 := (b01.new hn2).new al
  have b12 := (b11.new hn2).new al
  have bX := Blk.mk w2 w2.heap.size 110 #[.int .i64 0, .int .i64 id, .bool up, .int .i64 ro, .int .i64 0, .slice A' n c', .int .i64 n, .int .i64 ma, .int .i64 ot, .int .i64 co, .slice none 0 0] rfl
  have ho3 := ho.new al
  have hw3 := (hw1.trans hn2).trans al
  have z12 := hn1.size
  have z2 := (hn2.trans al).size
  have z23 := al.size
  have z21 := hn2.size
  have c02 := (b01.new hn2).cells
  have l02 := (b01.new hn2).lt
  clear ho hn2 c01
  go_upto_region 6 with fail
  generalize w2.alloc (.cells #[.int .i64 0, .int .i64 id, .bool up, .int .i64 ro, .int .i64 0, .slice A' n c', .int .i64 n, .int .i64 ma, .int .i64 ot, .int .i64 co, .slice none 0 0] 110) = w3 at *
  clear c02
  have c1 := b12.cells
  have f1 := b12.frees
  have cX := bX.cells
  have c03 := b03.cells
  go_wp2
  refine bodyPost_ret (v := .agg #[.int .i64 0, .int .i64 id, .bool up, .int .i64 ro, .int .i64 0, .slice A' n c', .int .i64 (n : Int), .int .i64 ma, .int .i64 ot, .int .i64 co, .slice none 0 0]) (by simp [results, Tryz.results71, go_sem, c1]) rfl (nrAns_mk (U := V') (Ms := []) (by simpa using HLn.out) rfl hV rfl (NrOw.log (lo := w1.heap.size) (hi := w2.heap.size) (OwL.turn (w := w3) (S := fun i => i = w.heap.size + 1) ho3 ?t1 (by intro k hk _ e; omega)) (by omega) ?u1) ?n1)
  case t1 => exact set11 (S := fun i => i = w.heap.size + 1) w3 (w.heap.size + 1) rfl _ _ _ _ _ _ _ _ _ _ _
  case u1 => exact Nat.le_trans (by omega) (Turn.size (S := fun i => i = w.heap.size + 1) (set11 (S := fun i => i = w.heap.size + 1) w3 (w.heap.size + 1) rfl _ _ _ _ _ _ _ _ _ _ _))
  case n1 => exact Turn.trans (S := fun _ => False) (T := fun i => i = w.heap.size + 1) hw3 (set11 (S := fun i => i = w.heap.size + 1) w3 (w.heap.size + 1) rfl _ _ _ _ _ _ _ _ _ _ _) (fun i hi e => by omega)

theorem sSync_s (id : Int) (up : Bool) (ro ep su ma ot co : Int) (A : Option Addr) (n c : Nat) (V : List EkV) (w : World) (h : LgAt w A V) (hN : NlK V) (hn : V.length = n) (hm : n ≤ 2097152) (hf : uF up (nF id up ro ep su ma ot co n (V.map EkV.r)) = 0) (hr : ¬ ro = 1) (he : 0 < ep) (hid : id = 0 ∨ id = 1) :
    Calls Tryz.prog 71 #[.agg #[.int .i64 id, .bool up, .int .i64 ro, .int .i64 ep, .slice A n c, .int .i64 su, .int .i64 ma, .int .i64 ot, .int .i64 co]] w (NrAns w 0 id up ro ep n ma ot co (V.map EkV.r) [⟨2, 1 - id, ep, ma, 0, false, ⟨0, 0, 0, []⟩⟩]) := by
  have HLn : Hid (V.length = n) := hn
  have gr : (ro == 1) = false := by simp [hr]
  obtain ⟨i0, hi, hz0, hz1, hz2⟩ := info_parts Tryz.infoMl
  have hw := ((New.refl w).alloc (.cells #[.int .i64 id, .bool up, .int .i64 ro, .int .i64 ep, .slice A n c, .int .i64 su, .int .i64 ma, .int .i64 ot, .int .i64 co] 108)).alloc (.cells #[.int .i64 0, .int .i64 0, .bool false, .int .i64 0, .int .i64 0, .slice none 0 0, .int .i64 0, .int .i64 0, .int .i64 0, .int .i64 0, .slice none 0 0] 110)
  have b0 := (Blk.mk w w.heap.size 108 #[.int .i64 id, .bool up, .int .i64 ro, .int .i64 ep, .slice A n c, .int .i64 su, .int .i64 ma, .int .i64 ot, .int .i64 co] rfl).alloc (.cells #[.int .i64 0, .int .i64 0, .bool false, .int .i64 0, .int .i64 0, .slice none 0 0, .int .i64 0, .int .i64 0, .int .i64 0, .int .i64 0, .slice none 0 0] 110)
  have b1 := Blk.mk (w.alloc (.cells #[.int .i64 id, .bool up, .int .i64 ro, .int .i64 ep, .slice A n c, .int .i64 su, .int .i64 ma, .int .i64 ot, .int .i64 co] 108)) (w.heap.size + 1) 110 #[.int .i64 0, .int .i64 0, .bool false, .int .i64 0, .int .i64 0, .slice none 0 0, .int .i64 0, .int .i64 0, .int .i64 0, .int .i64 0, .slice none 0 0] (by simp)
  have s0 : Hid (((w.alloc (.cells #[.int .i64 id, .bool up, .int .i64 ro, .int .i64 ep, .slice A n c, .int .i64 su, .int .i64 ma, .int .i64 ot, .int .i64 co] 108)).alloc (.cells #[.int .i64 0, .int .i64 0, .bool false, .int .i64 0, .int .i64 0, .slice none 0 0, .int .i64 0, .int .i64 0, .int .i64 0, .int .i64 0, .slice none 0 0] 110)).heap.size = w.heap.size + 1 + 1) := by unfold Hid; simp
  go_enter Tryz.func71, Tryz.ntmps71
  go_upto_region 1 with fail
  generalize (w.alloc (.cells #[.int .i64 id, .bool up, .int .i64 ro, .int .i64 ep, .slice A n c, .int .i64 su, .int .i64 ma, .int .i64 ot, .int .i64 co] 108)).alloc (.cells #[.int .i64 0, .int .i64 0, .bool false, .int .i64 0, .int .i64 0, .slice none 0 0, .int .i64 0, .int .i64 0, .int .i64 0, .int .i64 0, .slice none 0 0] 110) = w0 at *
  have S0 := s0.out
  have c0 := b0.cells
  go_wp2_with fail
  refine (asked_any 0 w.heap.size id up ro ep su ma ot co A n c V _ b0 (h.new hw) hn hm hf).mono ?_
  rintro e w1 ⟨rfl, hn1⟩
  have b11 := b1.new hn1
  have b01 := b0.new hn1
  have c01 := b01.cells
  have hw1 := hw.trans hn1
  clear c0
  go_wp2_with fail
  refine (scopyNd_any id up ro ep su ma ot co A n c V _ (h.new hw1) hN hn hm).mono ?_
  rintro e w2 ⟨A', c', V', rfl, hV, ho, hn2⟩
  have al := (New.refl w2).alloc (.cells #[.int .i64 0, .int .i64 id, .bool up, .int .i64 ro, .int .i64 ep, .slice A' n c', .int .i64 n, .int .i64 ma, .int .i64 ot, .int .i64 co, .slice none 0 0] 110)
  have b03 := (b01.new hn2).new al
  have b12 := (b11.new hn2).new al
  have bX := Blk.mk w2 w2.heap.size 110 #[.int .i64 0, .int .i64 id, .bool up, .int .i64 ro, .int .i64 ep, .slice A' n c', .int .i64 n, .int .i64 ma, .int .i64 ot, .int .i64 co, .slice none 0 0] rfl
  have ho3 := ho.new al
  have hw3 := (hw1.trans hn2).trans al
  have z12 := hn1.size
  have z2 := (hn2.trans al).size
  have z23 := al.size
  have z21 := hn2.size
  have c02 := (b01.new hn2).cells
  have l02 := (b01.new hn2).lt
  clear ho hn2 c01
  go_upto_region 6 with fail
  generalize w2.alloc (.cells #[.int .i64 0, .int .i64 id, .bool up, .int .i64 ro, .int .i64 ep, .slice A' n c', .int .i64 n, .int .i64 ma, .int .i64 ot, .int .i64 co, .slice none 0 0] 110) = w3 at *
  clear c02
  have c1 := b12.cells
  have f1 := b12.frees
  have cX := bX.cells
  have c03 := b03.cells
  go_upto_region 9 with fail
  have lX := bX.lt
  have fX := bX.frees
  have bXd := bX.new ((New.refl _).drew)
  have b03d := b03.new ((New.refl _).drew)
  have cXd := bXd.cells
  have c03d := b03d.cells
  have l0 := b03.lt
  refine hw_start (n := 10) (S := fun X => Turn (fun i => i = w2.heap.size) w3 X) rfl (by kernel_rfl) (((New.refl _).drew).turn) (fun hH => ?_)
  refine' hw_t 0 (some 26) _ rfl rfl hH ?hy4 ?rest4
  case hy4 =>
    intro X hX
    go_simp
    try rfl
  simp only [Act.put, pA9, pB9, pC9]
  refine' hw_t 2 (some 28) _ rfl rfl hH ?hy5 ?rest5
  case hy5 =>
    intro X hX
    go_simp
    try rfl
  simp only [Act.put, pA9, pB9, pC9]
  refine' hw_t 3 (some 29) _ rfl rfl hH ?hy6 ?rest6
  case hy6 =>
    intro X hX
    go_simp
    try rfl
  simp only [Act.put, pA9, pB9, pC9]
  refine' hw_t 4 (some 30) _ rfl rfl hH ?hy7 ?rest7
  case hy7 =>
    intro X hX
    have c0X := (b03.turn hX (by omega)).cells
    go_simp
    try rfl
  simp only [Act.put, pA9, pB9, pC9]
  refine wpAnyH_ready (rs := [1, 5]) (by kernel_rfl) (by simp) ?_
  refine hw_step 1 (some 27) rfl rfl (by rfl) (fun K hK => ?_) ?_
  · skip
    go_simp
    refine hK.out _ _ hH (fun hH1 => ?_)
    simp only [Act.put, pA9, pB9, pC9]
    refine hw_call 5 (some 31) rfl rfl (by kernel_rfl) (by rfl) (fun K hK => ?_)
    go_simp
    refine (taken_any ma w2.heap.size 0 id up ro ep n ma ot co A' none n c' 0 0 _ bXd hid).mono ?_
    rintro e w5 ⟨rfl, hn5⟩
    have n5 : New w3 w5 := ((New.refl _).drew).trans hn5
    have bX5 := bX.new n5
    have cX5 := bX5.cells
    have z5 := n5.size
    go_simp
    refine hK.out _ _ n5.turn (fun hH5 => ?_)
    simp only [Act.put, pA9, pB9, pC9]
    refine hw_call 6 (some 32) rfl rfl (by kernel_rfl) (by rfl) (fun K hK => ?_)
    go_simp
    have al6 := (New.refl w5).alloc (.cells #[.int .i64 2, .int .i64 (1 - id), .int .i64 ep, .int .i64 ma, .int .i64 0, .bool false, .int .i64 0, .int .i64 0, .int .i64 0, .slice none 0 0] 137)
    have bM := Blk.mk w5 w5.heap.size 137 #[.int .i64 2, .int .i64 (1 - id), .int .i64 ep, .int .i64 ma, .int .i64 0, .bool false, .int .i64 0, .int .i64 0, .int .i64 0, .slice none 0 0] rfl
    have n6 := n5.trans al6
    have bX6 := bX.new n6
    have cX6 := bX6.cells
    have cM := bM.cells
    refine hK.out _ _ n6.turn (fun hH6 => ?_)
    simp only [Act.put, pA9, pB9, pC9]
    refine hw_call 7 (some 33) rfl rfl (by kernel_rfl) (by rfl) (fun K hK => ?_)
    refine wp_apV _ (.tmp 27) (.tmp 32) rfl w5.heap.size 10 96 (.agg #[.int .i64 0, .int .i64 0, .int .i64 0, .int .i64 0, .int .i64 0, .bool false, .int .i64 0, .int .i64 0, .int .i64 0, .slice none 0 0]) Tryz.underlying41 hi hz0 hz1 hz2 rfl (by omega) (by omega) (.slice none 0 0) 0 [] rfl (World.ownsRow_nil _ _ _ _) w5.heap.size [.int .i64 2, .int .i64 (1 - id), .int .i64 ep, .int .i64 ma, .int .i64 0, .bool false, .int .i64 0, .int .i64 0, .int .i64 0, .slice none 0 0] rfl (by simp [Value.oneCell']) rfl (by intro j u hu; rw [cM j, List.getElem?_toArray]; exact hu) (by omega) (by simp) ?_
    intro v7 w7 hr7 hg7 hat7
    obtain ⟨y7, d7, hv7, -, hy7⟩ := row9_form hr7
    subst hv7
    have n7 : New w3 w7 := n6.grow hg7 (by intro k hk; simp [Value.ownBlock] at hk)
    have bX7 := bX.new n7
    have cX7 := bX7.cells
    have fX7 := bX7.frees
    have bX8 := bX7.set 10 (.slice y7 1 d7)
    have t8 := (Turn.refl (fun i => i = w2.heap.size) w7).set (p := ⟨w2.heap.size, 10, none⟩) rfl (.slice y7 1 d7)
    refine hK.out _ _ n7.turn (fun hH7 => ?_)
    simp only [Act.put, pA9, pB9, pC9]
    refine' hw_t 8 (some 34) _ rfl rfl hH7 ?hy8 ?rest8
    case hy8 =>
      intro X hX
      go_simp
      try rfl
    simp only [Act.put, pA9, pB9, pC9]
    refine hw_call 9 none rfl rfl (by kernel_rfl) (by rfl) (fun K hK => ?_)
    go_simp
    refine hK.out undef _ (Turn.trans hH7 t8 (fun i _ e => e)) (fun hS2 => ?_)
    refine wpAnyH_done (by kernel_rfl) ?_ _
    have z7 := n7.size
    have hr8 := row9_turn hr7 t8 (fun k hk e => by have := (hy7 k hk).1; omega)
    have b18 := (b12.new n7).turn t8 (by omega)
    have ho8 := (ho3.new n7).turn t8 (by intro k _ _ e; omega)
    have hw8 := (hw3.trans n7).before t8 (by intro i hi e; omega)
    have z8 := t8.size
    obtain ⟨g7, rfl, hg0, hg1⟩ : ∃ g7, y7 = some ⟨g7, 0, none⟩ ∧ w5.heap.size ≤ g7 ∧ g7 < w7.heap.size := by
      rcases hr7.2 with ⟨h1, h2⟩ | ⟨g, c, cur, h1, h2, h3, r⟩
      · cases h2
      · simp at h1; exact ⟨g, h1.1, h2, (Array.getElem?_eq_some_iff.1 h3).1⟩
    have bX9 : Blk (w7.setCell ⟨w2.heap.size, 10, none⟩ (.slice (some ⟨g7, 0, none⟩) 1 d7)) w2.heap.size 110 #[.int .i64 0, .int .i64 id, .bool up, .int .i64 ro, .int .i64 ep, .slice A' n c', .int .i64 n, .int .i64 ma, .int .i64 ot, .int .i64 co, .slice (some ⟨g7, 0, none⟩) 1 d7] := bX8
    clear hg7 hat7 cX c03 cXd c03d cX5 cX6 cX7 bX8 bX7 fX7 fX bXd b03d bX6 bX5 bX cM bM al6 n6 n5 hn5 c1 f1 b03 b12 ho3 hK
    generalize w7.setCell ⟨w2.heap.size, 10, none⟩ (.slice (some ⟨g7, 0, none⟩) 1 d7) = w8 at *
    have c1 := b18.cells
    have f1 := b18.frees
    have cX := bX9.cells
    go_wp2
    refine bodyPost_ret (v := .agg #[.int .i64 0, .int .i64 id, .bool up, .int .i64 ro, .int .i64 ep, .slice A' n c', .int .i64 n, .int .i64 ma, .int .i64 ot, .int .i64 co, .slice (some ⟨g7, 0, none⟩) 1 d7]) (by simp [results, Tryz.results71, go_sem, c1]) rfl (nrAns_mk (U := V') (Ms := [mlv0 2 (1 - id) ep ma]) (by simpa using HLn.out) rfl hV rfl (NrOw.one (lo := w1.heap.size) (hi := w2.heap.size) (OwL.turn (w := w8) (S := fun i => i = w.heap.size + 1) ho8 ?t1 (by intro k hk _ e; omega)) (by omega) ?u1 (row9_turn (own_base hr8) ?t1 (by intro k hk e; simp [Value.ownBlock] at hk; omega)) (by omega) (by omega) ?u2) ?n1)
    case t1 => exact set11 (S := fun i => i = w.heap.size + 1) w8 (w.heap.size + 1) rfl _ _ _ _ _ _ _ _ _ _ _
    case u1 => exact Nat.le_trans (by omega) (Turn.size (S := fun i => i = w.heap.size + 1) (set11 (S := fun i => i = w.heap.size + 1) w8 (w.heap.size + 1) rfl _ _ _ _ _ _ _ _ _ _ _))
    case u2 => exact Nat.lt_of_lt_of_le (by omega) (Turn.size (S := fun i => i = w.heap.size + 1) (set11 (S := fun i => i = w.heap.size + 1) w8 (w.heap.size + 1) rfl _ _ _ _ _ _ _ _ _ _ _))
    case n1 => exact Turn.trans (S := fun _ => False) (T := fun i => i = w.heap.size + 1) hw8 (set11 (S := fun i => i = w.heap.size + 1) w8 (w.heap.size + 1) rfl _ _ _ _ _ _ _ _ _ _ _) (fun i hi e => by omega)
  refine hw_step 5 (some 31) rfl rfl (by rfl) (fun K hK => ?_) ?_
  · skip
    go_simp
    refine (taken_any ma w2.heap.size 0 id up ro ep n ma ot co A' none n c' 0 0 _ bXd hid).mono ?_
    rintro e w5 ⟨rfl, hn5⟩
    have n5 : New w3 w5 := ((New.refl _).drew).trans hn5
    have bX5 := bX.new n5
    have cX5 := bX5.cells
    have z5 := n5.size
    go_simp
    refine hK.out _ _ n5.turn (fun hH5 => ?_)
    simp only [Act.put, pA9, pB9, pC9]
    refine wpAnyH_ready (rs := [1, 6]) (by kernel_rfl) (by simp) ?_
    refine hw_step 1 (some 27) rfl rfl (by rfl) (fun K hK => ?_) ?_
    · skip
      go_simp
      refine hK.out _ _ hH5 (fun hH1 => ?_)
      simp only [Act.put, pA9, pB9, pC9]
      refine hw_call 6 (some 32) rfl rfl (by kernel_rfl) (by rfl) (fun K hK => ?_)
      go_simp
      have al6 := (New.refl w5).alloc (.cells #[.int .i64 2, .int .i64 (1 - id), .int .i64 ep, .int .i64 ma, .int .i64 0, .bool false, .int .i64 0, .int .i64 0, .int .i64 0, .slice none 0 0] 137)
      have bM := Blk.mk w5 w5.heap.size 137 #[.int .i64 2, .int .i64 (1 - id), .int .i64 ep, .int .i64 ma, .int .i64 0, .bool false, .int .i64 0, .int .i64 0, .int .i64 0, .slice none 0 0] rfl
      have n6 := n5.trans al6
      have bX6 := bX.new n6
      have cX6 := bX6.cells
      have cM := bM.cells
      refine hK.out _ _ n6.turn (fun hH6 => ?_)
      simp only [Act.put, pA9, pB9, pC9]
      refine hw_call 7 (some 33) rfl rfl (by kernel_rfl) (by rfl) (fun K hK => ?_)
      refine wp_apV _ (.tmp 27) (.tmp 32) rfl w5.heap.size 10 96 (.agg #[.int .i64 0, .int .i64 0, .int .i64 0, .int .i64 0, .int .i64 0, .bool false, .int .i64 0, .int .i64 0, .int .i64 0, .slice none 0 0]) Tryz.underlying41 hi hz0 hz1 hz2 rfl (by omega) (by omega) (.slice none 0 0) 0 [] rfl (World.ownsRow_nil _ _ _ _) w5.heap.size [.int .i64 2, .int .i64 (1 - id), .int .i64 ep, .int .i64 ma, .int .i64 0, .bool false, .int .i64 0, .int .i64 0, .int .i64 0, .slice none 0 0] rfl (by simp [Value.oneCell']) rfl (by intro j u hu; rw [cM j, List.getElem?_toArray]; exact hu) (by omega) (by simp) ?_
      intro v7 w7 hr7 hg7 hat7
      obtain ⟨y7, d7, hv7, -, hy7⟩ := row9_form hr7
      subst hv7
      have n7 : New w3 w7 := n6.grow hg7 (by intro k hk; simp [Value.ownBlock] at hk)
      have bX7 := bX.new n7
      have cX7 := bX7.cells
      have fX7 := bX7.frees
      have bX8 := bX7.set 10 (.slice y7 1 d7)
      have t8 := (Turn.refl (fun i => i = w2.heap.size) w7).set (p := ⟨w2.heap.size, 10, none⟩) rfl (.slice y7 1 d7)
      refine hK.out _ _ n7.turn (fun hH7 => ?_)
      simp only [Act.put, pA9, pB9, pC9]
      refine' hw_t 8 (some 34) _ rfl rfl hH7 ?hy9 ?rest9
      case hy9 =>
        intro X hX
        go_simp
        try rfl
      simp only [Act.put, pA9, pB9, pC9]
      refine hw_call 9 none rfl rfl (by kernel_rfl) (by rfl) (fun K hK => ?_)
      go_simp
      refine hK.out undef _ (Turn.trans hH7 t8 (fun i _ e => e)) (fun hS2 => ?_)
      refine wpAnyH_done (by kernel_rfl) ?_ _
      have z7 := n7.size
      have hr8 := row9_turn hr7 t8 (fun k hk e => by have := (hy7 k hk).1; omega)
      have b18 := (b12.new n7).turn t8 (by omega)
      have ho8 := (ho3.new n7).turn t8 (by intro k _ _ e; omega)
      have hw8 := (hw3.trans n7).before t8 (by intro i hi e; omega)
      have z8 := t8.size
      obtain ⟨g7, rfl, hg0, hg1⟩ : ∃ g7, y7 = some ⟨g7, 0, none⟩ ∧ w5.heap.size ≤ g7 ∧ g7 < w7.heap.size := by
        rcases hr7.2 with ⟨h1, h2⟩ | ⟨g, c, cur, h1, h2, h3, r⟩
        · cases h2
        · simp at h1; exact ⟨g, h1.1, h2, (Array.getElem?_eq_some_iff.1 h3).1⟩
      have bX9 : Blk (w7.setCell ⟨w2.heap.size, 10, none⟩ (.slice (some ⟨g7, 0, none⟩) 1 d7)) w2.heap.size 110 #[.int .i64 0, .int .i64 id, .bool up, .int .i64 ro, .int .i64 ep, .slice A' n c', .int .i64 n, .int .i64 ma, .int .i64 ot, .int .i64 co, .slice (some ⟨g7, 0, none⟩) 1 d7] := bX8
      clear hg7 hat7 cX c03 cXd c03d cX5 cX6 cX7 bX8 bX7 fX7 fX bXd b03d bX6 bX5 bX cM bM al6 n6 n5 hn5 c1 f1 b03 b12 ho3 hK
      generalize w7.setCell ⟨w2.heap.size, 10, none⟩ (.slice (some ⟨g7, 0, none⟩) 1 d7) = w8 at *
      have c1 := b18.cells
      have f1 := b18.frees
      have cX := bX9.cells
      go_wp2
      refine bodyPost_ret (v := .agg #[.int .i64 0, .int .i64 id, .bool up, .int .i64 ro, .int .i64 ep, .slice A' n c', .int .i64 n, .int .i64 ma, .int .i64 ot, .int .i64 co, .slice (some ⟨g7, 0, none⟩) 1 d7]) (by simp [results, Tryz.results71, go_sem, c1]) rfl (nrAns_mk (U := V') (Ms := [mlv0 2 (1 - id) ep ma]) (by simpa using HLn.out) rfl hV rfl (NrOw.one (lo := w1.heap.size) (hi := w2.heap.size) (OwL.turn (w := w8) (S := fun i => i = w.heap.size + 1) ho8 ?t1 (by intro k hk _ e; omega)) (by omega) ?u1 (row9_turn (own_base hr8) ?t1 (by intro k hk e; simp [Value.ownBlock] at hk; omega)) (by omega) (by omega) ?u2) ?n1)
      case t1 => exact set11 (S := fun i => i = w.heap.size + 1) w8 (w.heap.size + 1) rfl _ _ _ _ _ _ _ _ _ _ _
      case u1 => exact Nat.le_trans (by omega) (Turn.size (S := fun i => i = w.heap.size + 1) (set11 (S := fun i => i = w.heap.size + 1) w8 (w.heap.size + 1) rfl _ _ _ _ _ _ _ _ _ _ _))
      case u2 => exact Nat.lt_of_lt_of_le (by omega) (Turn.size (S := fun i => i = w.heap.size + 1) (set11 (S := fun i => i = w.heap.size + 1) w8 (w.heap.size + 1) rfl _ _ _ _ _ _ _ _ _ _ _))
      case n1 => exact Turn.trans (S := fun _ => False) (T := fun i => i = w.heap.size + 1) hw8 (set11 (S := fun i => i = w.heap.size + 1) w8 (w.heap.size + 1) rfl _ _ _ _ _ _ _ _ _ _ _) (fun i hi e => by omega)
    refine hw_step 6 (some 32) rfl rfl (by rfl) (fun K hK => ?_) ?_
    · skip
      go_simp
      have al6 := (New.refl w5).alloc (.cells #[.int .i64 2, .int .i64 (1 - id), .int .i64 ep, .int .i64 ma, .int .i64 0, .bool false, .int .i64 0, .int .i64 0, .int .i64 0, .slice none 0 0] 137)
      have bM := Blk.mk w5 w5.heap.size 137 #[.int .i64 2, .int .i64 (1 - id), .int .i64 ep, .int .i64 ma, .int .i64 0, .bool false, .int .i64 0, .int .i64 0, .int .i64 0, .slice none 0 0] rfl
      have n6 := n5.trans al6
      have bX6 := bX.new n6
      have cX6 := bX6.cells
      have cM := bM.cells
      refine hK.out _ _ n6.turn (fun hH6 => ?_)
      simp only [Act.put, pA9, pB9, pC9]
      refine hw_call 1 (some 27) rfl rfl (by kernel_rfl) (by rfl) (fun K hK => ?_)
      go_simp
      refine hK.out _ _ hH6 (fun hH1 => ?_)
      simp only [Act.put, pA9, pB9, pC9]
      refine hw_call 7 (some 33) rfl rfl (by kernel_rfl) (by rfl) (fun K hK => ?_)
      refine wp_apV _ (.tmp 27) (.tmp 32) rfl w5.heap.size 10 96 (.agg #[.int .i64 0, .int .i64 0, .int .i64 0, .int .i64 0, .int .i64 0, .bool false, .int .i64 0, .int .i64 0, .int .i64 0, .slice none 0 0]) Tryz.underlying41 hi hz0 hz1 hz2 rfl (by omega) (by omega) (.slice none 0 0) 0 [] rfl (World.ownsRow_nil _ _ _ _) w5.heap.size [.int .i64 2, .int .i64 (1 - id), .int .i64 ep, .int .i64 ma, .int .i64 0, .bool false, .int .i64 0, .int .i64 0, .int .i64 0, .slice none 0 0] rfl (by simp [Value.oneCell']) rfl (by intro j u hu; rw [cM j, List.getElem?_toArray]; exact hu) (by omega) (by simp) ?_
      intro v7 w7 hr7 hg7 hat7
      obtain ⟨y7, d7, hv7, -, hy7⟩ := row9_form hr7
      subst hv7
      have n7 : New w3 w7 := n6.grow hg7 (by intro k hk; simp [Value.ownBlock] at hk)
      have bX7 := bX.new n7
      have cX7 := bX7.cells
      have fX7 := bX7.frees
      have bX8 := bX7.set 10 (.slice y7 1 d7)
      have t8 := (Turn.refl (fun i => i = w2.heap.size) w7).set (p := ⟨w2.heap.size, 10, none⟩) rfl (.slice y7 1 d7)
      refine hK.out _ _ n7.turn (fun hH7 => ?_)
      simp only [Act.put, pA9, pB9, pC9]
      refine' hw_t 8 (some 34) _ rfl rfl hH7 ?hy10 ?rest10
      case hy10 =>
        intro X hX
        go_simp
        try rfl
      simp only [Act.put, pA9, pB9, pC9]
      refine hw_call 9 none rfl rfl (by kernel_rfl) (by rfl) (fun K hK => ?_)
      go_simp
      refine hK.out undef _ (Turn.trans hH7 t8 (fun i _ e => e)) (fun hS2 => ?_)
      refine wpAnyH_done (by kernel_rfl) ?_ _
      have z7 := n7.size
      have hr8 := row9_turn hr7 t8 (fun k hk e => by have := (hy7 k hk).1; omega)
      have b18 := (b12.new n7).turn t8 (by omega)
      have ho8 := (ho3.new n7).turn t8 (by intro k _ _ e; omega)
      have hw8 := (hw3.trans n7).before t8 (by intro i hi e; omega)
      have z8 := t8.size
      obtain ⟨g7, rfl, hg0, hg1⟩ : ∃ g7, y7 = some ⟨g7, 0, none⟩ ∧ w5.heap.size ≤ g7 ∧ g7 < w7.heap.size := by
        rcases hr7.2 with ⟨h1, h2⟩ | ⟨g, c, cur, h1, h2, h3, r⟩
        · cases h2
        · simp at h1; exact ⟨g, h1.1, h2, (Array.getElem?_eq_some_iff.1 h3).1⟩
      have bX9 : Blk (w7.setCell ⟨w2.heap.size, 10, none⟩ (.slice (some ⟨g7, 0, none⟩) 1 d7)) w2.heap.size 110 #[.int .i64 0, .int .i64 id, .bool up, .int .i64 ro, .int .i64 ep, .slice A' n c', .int .i64 n, .int .i64 ma, .int .i64 ot, .int .i64 co, .slice (some ⟨g7, 0, none⟩) 1 d7] := bX8
      clear hg7 hat7 cX c03 cXd c03d cX5 cX6 cX7 bX8 bX7 fX7 fX bXd b03d bX6 bX5 bX cM bM al6 n6 n5 hn5 c1 f1 b03 b12 ho3 hK
      generalize w7.setCell ⟨w2.heap.size, 10, none⟩ (.slice (some ⟨g7, 0, none⟩) 1 d7) = w8 at *
      have c1 := b18.cells
      have f1 := b18.frees
      have cX := bX9.cells
      go_wp2
      refine bodyPost_ret (v := .agg #[.int .i64 0, .int .i64 id, .bool up, .int .i64 ro, .int .i64 ep, .slice A' n c', .int .i64 n, .int .i64 ma, .int .i64 ot, .int .i64 co, .slice (some ⟨g7, 0, none⟩) 1 d7]) (by simp [results, Tryz.results71, go_sem, c1]) rfl (nrAns_mk (U := V') (Ms := [mlv0 2 (1 - id) ep ma]) (by simpa using HLn.out) rfl hV rfl (NrOw.one (lo := w1.heap.size) (hi := w2.heap.size) (OwL.turn (w := w8) (S := fun i => i = w.heap.size + 1) ho8 ?t1 (by intro k hk _ e; omega)) (by omega) ?u1 (row9_turn (own_base hr8) ?t1 (by intro k hk e; simp [Value.ownBlock] at hk; omega)) (by omega) (by omega) ?u2) ?n1)
      case t1 => exact set11 (S := fun i => i = w.heap.size + 1) w8 (w.heap.size + 1) rfl _ _ _ _ _ _ _ _ _ _ _
      case u1 => exact Nat.le_trans (by omega) (Turn.size (S := fun i => i = w.heap.size + 1) (set11 (S := fun i => i = w.heap.size + 1) w8 (w.heap.size + 1) rfl _ _ _ _ _ _ _ _ _ _ _))
      case u2 => exact Nat.lt_of_lt_of_le (by omega) (Turn.size (S := fun i => i = w.heap.size + 1) (set11 (S := fun i => i = w.heap.size + 1) w8 (w.heap.size + 1) rfl _ _ _ _ _ _ _ _ _ _ _))
      case n1 => exact Turn.trans (S := fun _ => False) (T := fun i => i = w.heap.size + 1) hw8 (set11 (S := fun i => i = w.heap.size + 1) w8 (w.heap.size + 1) rfl _ _ _ _ _ _ _ _ _ _ _) (fun i hi e => by omega)
    exact fun j hj => by cases hj
  exact fun j hj => by cases hj
end Go.Proofs.YtebkdaddndlmoaaGreat
