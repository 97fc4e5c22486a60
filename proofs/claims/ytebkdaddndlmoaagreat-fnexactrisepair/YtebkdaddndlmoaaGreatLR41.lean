/- What is proved here: what RiseNode answers, both sides. -/
import Derived.Test.YtebkdaddndlmoaaGreatLR8
namespace Go.Proofs.YtebkdaddndlmoaaGreat
open Go.RowKit Go.Sort
set_option linter.unusedVariables false
set_option linter.unusedSimpArgs false
set_option maxRecDepth 100000

set_option maxHeartbeats 1600000 in
theorem iRise_up (id ro ep su ma ot co : Int) (A : Option Addr) (n c : Nat) (V : List EkV) (w : World) (h : LgAt w A V) (hN : NlK V) (hn : V.length = n) (hm : n ≤ 2097152) (hf : nF id true ro ep su ma ot co n (V.map EkV.r) = 0) :
    Calls Tryz.prog 137 #[.agg #[.int .i64 id, .bool true, .int .i64 ro, .int .i64 ep, .slice A n c, .int .i64 su, .int .i64 ma, .int .i64 ot, .int .i64 co]] w (NrAns w 10 0 false 0 0 0 0 0 0 [] []) := by
  have hw := ((New.refl w).alloc (.cells #[.int .i64 id, .bool true, .int .i64 ro, .int .i64 ep, .slice A n c, .int .i64 su, .int .i64 ma, .int .i64 ot, .int .i64 co] 108)).alloc (.cells #[.int .i64 0, .int .i64 0, .bool false, .int .i64 0, .int .i64 0, .slice none 0 0, .int .i64 0, .int .i64 0, .int .i64 0, .int .i64 0, .slice none 0 0] 110)
  have b0 := (Blk.mk w w.heap.size 108 #[.int .i64 id, .bool true, .int .i64 ro, .int .i64 ep, .slice A n c, .int .i64 su, .int .i64 ma, .int .i64 ot, .int .i64 co] rfl).alloc (.cells #[.int .i64 0, .int .i64 0, .bool false, .int .i64 0, .int .i64 0, .slice none 0 0, .int .i64 0, .int .i64 0, .int .i64 0, .int .i64 0, .slice none 0 0] 110)
  have b1 := Blk.mk (w.alloc (.cells #[.int .i64 id, .bool true, .int .i64 ro, .int .i64 ep, .slice A n c, .int .i64 su, .int .i64 ma, .int .i64 ot, .int .i64 co] 108)) (w.heap.size + 1) 110 #[.int .i64 0, .int .i64 0, .bool false, .int .i64 0, .int .i64 0, .slice none 0 0, .int .i64 0, .int .i64 0, .int .i64 0, .int .i64 0, .slice none 0 0] (by simp)
  have s0 : Hid (((w.alloc (.cells #[.int .i64 id, .bool true, .int .i64 ro, .int .i64 ep, .slice A n c, .int .i64 su, .int .i64 ma, .int .i64 ot, .int .i64 co] 108)).alloc (.cells #[.int .i64 0, .int .i64 0, .bool false, .int .i64 0, .int .i64 0, .slice none 0 0, .int .i64 0, .int .i64 0, .int .i64 0, .int .i64 0, .slice none 0 0] 110)).heap.size = w.heap.size + 1 + 1) := by unfold Hid; simp
  go_enter Tryz.func137, Tryz.ntmps137
  go_upto_region 1 with fail
  generalize (w.alloc (.cells #[.int .i64 id, .bool true, .int .i64 ro, .int .i64 ep, .slice A n c, .int .i64 su, .int .i64 ma, .int .i64 ot, .int .i64 co] 108)).alloc (.cells #[.int .i64 0, .int .i64 0, .bool false, .int .i64 0, .int .i64 0, .slice none 0 0, .int .i64 0, .int .i64 0, .int .i64 0, .int .i64 0, .slice none 0 0] 110) = w0 at *
  have S0 := s0.out
  have c0 := b0.cells
  go_wp2_with fail
  refine (implNFv 0 id true ro ep su ma ot co A n c V _ (h.new hw) hn hm hf).mono ?_
  rintro e w1 ⟨rfl, hn1⟩
  have b11 := b1.new hn1
  have b01 := b0.new hn1
  have c01 := b01.cells
  have hw1 := hw.trans hn1
  clear c0
  have c1 := (b11).cells
  have f1 := (b11).frees
  go_wp2
  refine bodyPost_ret (v := .agg #[.int .i64 10, .int .i64 0, .bool false, .int .i64 0, .int .i64 0, .slice none 0 0, .int .i64 0, .int .i64 0, .int .i64 0, .int .i64 0, .slice none 0 0]) (by simp [results, Tryz.results137, go_sem, c1]) rfl (nrAns_bad 10 ?_)
  exact ((((((((((((hw1)).setCell (by simp; try omega) _).setCell (by simp; try omega) _).setCell (by simp; try omega) _).setCell (by simp; try omega) _).setCell (by simp; try omega) _).setCell (by simp; try omega) _).setCell (by simp; try omega) _).setCell (by simp; try omega) _).setCell (by simp; try omega) _).setCell (by simp; try omega) _).setCell (by simp; try omega) _

set_option maxHeartbeats 1600000 in
theorem iRise_ok (id ro ep su ma ot co : Int) (A : Option Addr) (n c : Nat) (V : List EkV) (w : World) (h : LgAt w A V) (hN : NlK V) (hn : V.length = n) (hm : n ≤ 2097152) (hf : nF id false ro ep su ma ot co n (V.map EkV.r) = 0) :
    Calls Tryz.prog 137 #[.agg #[.int .i64 id, .bool false, .int .i64 ro, .int .i64 ep, .slice A n c, .int .i64 su, .int .i64 ma, .int .i64 ot, .int .i64 co]] w (NrAns w 0 id true ro ep su ma ot co (V.map EkV.r) []) := by
  have HLn : Hid (V.length = n) := hn
  have hw := ((New.refl w).alloc (.cells #[.int .i64 id, .bool false, .int .i64 ro, .int .i64 ep, .slice A n c, .int .i64 su, .int .i64 ma, .int .i64 ot, .int .i64 co] 108)).alloc (.cells #[.int .i64 0, .int .i64 0, .bool false, .int .i64 0, .int .i64 0, .slice none 0 0, .int .i64 0, .int .i64 0, .int .i64 0, .int .i64 0, .slice none 0 0] 110)
  have b0 := (Blk.mk w w.heap.size 108 #[.int .i64 id, .bool false, .int .i64 ro, .int .i64 ep, .slice A n c, .int .i64 su, .int .i64 ma, .int .i64 ot, .int .i64 co] rfl).alloc (.cells #[.int .i64 0, .int .i64 0, .bool false, .int .i64 0, .int .i64 0, .slice none 0 0, .int .i64 0, .int .i64 0, .int .i64 0, .int .i64 0, .slice none 0 0] 110)
  have b1 := Blk.mk (w.alloc (.cells #[.int .i64 id, .bool false, .int .i64 ro, .int .i64 ep, .slice A n c, .int .i64 su, .int .i64 ma, .int .i64 ot, .int .i64 co] 108)) (w.heap.size + 1) 110 #[.int .i64 0, .int .i64 0, .bool false, .int .i64 0, .int .i64 0, .slice none 0 0, .int .i64 0, .int .i64 0, .int .i64 0, .int .i64 0, .slice none 0 0] (by simp)
  have s0 : Hid (((w.alloc (.cells #[.int .i64 id, .bool false, .int .i64 ro, .int .i64 ep, .slice A n c, .int .i64 su, .int .i64 ma, .int .i64 ot, .int .i64 co] 108)).alloc (.cells #[.int .i64 0, .int .i64 0, .bool false, .int .i64 0, .int .i64 0, .slice none 0 0, .int .i64 0, .int .i64 0, .int .i64 0, .int .i64 0, .slice none 0 0] 110)).heap.size = w.heap.size + 1 + 1) := by unfold Hid; simp
  go_enter Tryz.func137, Tryz.ntmps137
  go_upto_region 1 with fail
  generalize (w.alloc (.cells #[.int .i64 id, .bool false, .int .i64 ro, .int .i64 ep, .slice A n c, .int .i64 su, .int .i64 ma, .int .i64 ot, .int .i64 co] 108)).alloc (.cells #[.int .i64 0, .int .i64 0, .bool false, .int .i64 0, .int .i64 0, .slice none 0 0, .int .i64 0, .int .i64 0, .int .i64 0, .int .i64 0, .slice none 0 0] 110) = w0 at *
  have S0 := s0.out
  have c0 := b0.cells
  go_wp2_with fail
  refine (implNFv 0 id false ro ep su ma ot co A n c V _ (h.new hw) hn hm hf).mono ?_
  rintro e w1 ⟨rfl, hn1⟩
  have b11 := b1.new hn1
  have b01 := b0.new hn1
  have c01 := b01.cells
  have hw1 := hw.trans hn1
  clear c0
  go_wp2_with fail
  refine (copyNd_any w.heap.size id false ro ep su ma ot co A n c V _ b01 (h.new hw1) hN hn hm).mono ?_
  rintro e w2 ⟨A', c', V', rfl, hV, ho, hn2⟩
  clear c01
  have al := (New.refl w2).alloc (.cells #[.int .i64 id, .bool true, .int .i64 ro, .int .i64 ep, .slice A' n c', .int .i64 su, .int .i64 ma, .int .i64 ot, .int .i64 co] 108)
  have b12 := (b11.new hn2).new al
  have bX := Blk.mk w2 w2.heap.size 108 #[.int .i64 id, .bool true, .int .i64 ro, .int .i64 ep, .slice A' n c', .int .i64 su, .int .i64 ma, .int .i64 ot, .int .i64 co] rfl
  have ho3 := ho.new al
  have hw3 := (hw1.trans hn2).trans al
  have z12 := hn1.size
  have z2 := (hn2.trans al).size
  have z23 := al.size
  have z21 := hn2.size
  clear ho hn2
  go_upto_region 8 with fail
  generalize w2.alloc (.cells #[.int .i64 id, .bool true, .int .i64 ro, .int .i64 ep, .slice A' n c', .int .i64 su, .int .i64 ma, .int .i64 ot, .int .i64 co] 108) = w3 at *
  have c1 := b12.cells
  have f1 := b12.frees
  have cX := bX.cells
  go_wp2
  refine bodyPost_ret (v := .agg #[.int .i64 0, .int .i64 id, .bool true, .int .i64 ro, .int .i64 ep, .slice A' n c', .int .i64 su, .int .i64 ma, .int .i64 ot, .int .i64 co, .slice none 0 0]) (by simp [results, Tryz.results137, go_sem, c1]) rfl (nrAns_mk (U := V') (Ms := []) (by simpa using HLn.out) rfl hV rfl (NrOw.log (lo := w1.heap.size) (hi := w2.heap.size) (OwL.turn (w := w3) (S := fun i => i = w.heap.size + 1) ho3 ?t1 (by intro k hk _ e; omega)) (by omega) ?u1) ?n1)
  case t1 => exact set11 (S := fun i => i = w.heap.size + 1) w3 (w.heap.size + 1) rfl _ _ _ _ _ _ _ _ _ _ _
  case u1 => exact Nat.le_trans (by omega) (Turn.size (S := fun i => i = w.heap.size + 1) (set11 (S := fun i => i = w.heap.size + 1) w3 (w.heap.size + 1) rfl _ _ _ _ _ _ _ _ _ _ _))
  case n1 => exact Turn.trans (S := fun _ => False) (T := fun i => i = w.heap.size + 1) hw3 (set11 (S := fun i => i = w.heap.size + 1) w3 (w.heap.size + 1) rfl _ _ _ _ _ _ _ _ _ _ _) (fun i hi e => by omega)

set_option maxHeartbeats 1600000 in
theorem sRise_up (id ro ep su ma ot co : Int) (A : Option Addr) (n c : Nat) (V : List EkV) (w : World) (h : LgAt w A V) (hN : NlK V) (hn : V.length = n) (hm : n ≤ 2097152) (hf : nF id true ro ep su ma ot co n (V.map EkV.r) = 0) :
    Calls Tryz.prog 77 #[.agg #[.int .i64 id, .bool true, .int .i64 ro, .int .i64 ep, .slice A n c, .int .i64 su, .int .i64 ma, .int .i64 ot, .int .i64 co]] w (NrAns w 10 0 false 0 0 0 0 0 0 [] []) := by
  have hw := ((New.refl w).alloc (.cells #[.int .i64 id, .bool true, .int .i64 ro, .int .i64 ep, .slice A n c, .int .i64 su, .int .i64 ma, .int .i64 ot, .int .i64 co] 108)).alloc (.cells #[.int .i64 0, .int .i64 0, .bool false, .int .i64 0, .int .i64 0, .slice none 0 0, .int .i64 0, .int .i64 0, .int .i64 0, .int .i64 0, .slice none 0 0] 110)
  have b0 := (Blk.mk w w.heap.size 108 #[.int .i64 id, .bool true, .int .i64 ro, .int .i64 ep, .slice A n c, .int .i64 su, .int .i64 ma, .int .i64 ot, .int .i64 co] rfl).alloc (.cells #[.int .i64 0, .int .i64 0, .bool false, .int .i64 0, .int .i64 0, .slice none 0 0, .int .i64 0, .int .i64 0, .int .i64 0, .int .i64 0, .slice none 0 0] 110)
  have b1 := Blk.mk (w.alloc (.cells #[.int .i64 id, .bool true, .int .i64 ro, .int .i64 ep, .slice A n c, .int .i64 su, .int .i64 ma, .int .i64 ot, .int .i64 co] 108)) (w.heap.size + 1) 110 #[.int .i64 0, .int .i64 0, .bool false, .int .i64 0, .int .i64 0, .slice none 0 0, .int .i64 0, .int .i64 0, .int .i64 0, .int .i64 0, .slice none 0 0] (by simp)
  have s0 : Hid (((w.alloc (.cells #[.int .i64 id, .bool true, .int .i64 ro, .int .i64 ep, .slice A n c, .int .i64 su, .int .i64 ma, .int .i64 ot, .int .i64 co] 108)).alloc (.cells #[.int .i64 0, .int .i64 0, .bool false, .int .i64 0, .int .i64 0, .slice none 0 0, .int .i64 0, .int .i64 0, .int .i64 0, .int .i64 0, .slice none 0 0] 110)).heap.size = w.heap.size + 1 + 1) := by unfold Hid; simp
  go_enter Tryz.func77, Tryz.ntmps77
  go_upto_region 1 with fail
  generalize (w.alloc (.cells #[.int .i64 id, .bool true, .int .i64 ro, .int .i64 ep, .slice A n c, .int .i64 su, .int .i64 ma, .int .i64 ot, .int .i64 co] 108)).alloc (.cells #[.int .i64 0, .int .i64 0, .bool false, .int .i64 0, .int .i64 0, .slice none 0 0, .int .i64 0, .int .i64 0, .int .i64 0, .int .i64 0, .slice none 0 0] 110) = w0 at *
  have S0 := s0.out
  have c0 := b0.cells
  go_wp2_with fail
  refine (specNFv 0 w.heap.size id true ro ep su ma ot co A n c V _ b0 (h.new hw) hn hm hf).mono ?_
  rintro e w1 ⟨rfl, hn1⟩
  have b11 := b1.new hn1
  have b01 := b0.new hn1
  have c01 := b01.cells
  have hw1 := hw.trans hn1
  clear c0
  have c1 := (b11).cells
  have f1 := (b11).frees
  go_wp2_with fail
  refine (bad12 10 _).mono ?_
  rintro e wq ⟨rfl, hnq⟩
  have c1 := ((b11).new hnq).cells
  have f1 := ((b11).new hnq).frees
  go_wp2
  refine bodyPost_ret (v := .agg #[.int .i64 10, .int .i64 0, .bool false, .int .i64 0, .int .i64 0, .slice none 0 0, .int .i64 0, .int .i64 0, .int .i64 0, .int .i64 0, .slice none 0 0]) (by simp [results, Tryz.results77, go_sem, c1]) rfl (nrAns_bad 10 ?_)
  exact ((((((((((((hw1.trans hnq)).setCell (by simp; try omega) _).setCell (by simp; try omega) _).setCell (by simp; try omega) _).setCell (by simp; try omega) _).setCell (by simp; try omega) _).setCell (by simp; try omega) _).setCell (by simp; try omega) _).setCell (by simp; try omega) _).setCell (by simp; try omega) _).setCell (by simp; try omega) _).setCell (by simp; try omega) _

set_option maxHeartbeats 1600000 in
theorem sRise_ok (id ro ep su ma ot co : Int) (A : Option Addr) (n c : Nat) (V : List EkV) (w : World) (h : LgAt w A V) (hN : NlK V) (hn : V.length = n) (hm : n ≤ 2097152) (hf : nF id false ro ep su ma ot co n (V.map EkV.r) = 0) :
    Calls Tryz.prog 77 #[.agg #[.int .i64 id, .bool false, .int .i64 ro, .int .i64 ep, .slice A n c, .int .i64 su, .int .i64 ma, .int .i64 ot, .int .i64 co]] w (NrAns w 0 id true ro ep su ma ot co (V.map EkV.r) []) := by
  have HLn : Hid (V.length = n) := hn
  have hw := ((New.refl w).alloc (.cells #[.int .i64 id, .bool false, .int .i64 ro, .int .i64 ep, .slice A n c, .int .i64 su, .int .i64 ma, .int .i64 ot, .int .i64 co] 108)).alloc (.cells #[.int .i64 0, .int .i64 0, .bool false, .int .i64 0, .int .i64 0, .slice none 0 0, .int .i64 0, .int .i64 0, .int .i64 0, .int .i64 0, .slice none 0 0] 110)
  have b0 := (Blk.mk w w.heap.size 108 #[.int .i64 id, .bool false, .int .i64 ro, .int .i64 ep, .slice A n c, .int .i64 su, .int .i64 ma, .int .i64 ot, .int .i64 co] rfl).alloc (.cells #[.int .i64 0, .int .i64 0, .bool false, .int .i64 0, .int .i64 0, .slice none 0 0, .int .i64 0, .int .i64 0, .int .i64 0, .int .i64 0, .slice none 0 0] 110)
  have b1 := Blk.mk (w.alloc (.cells #[.int .i64 id, .bool false, .int .i64 ro, .int .i64 ep, .slice A n c, .int .i64 su, .int .i64 ma, .int .i64 ot, .int .i64 co] 108)) (w.heap.size + 1) 110 #[.int .i64 0, .int .i64 0, .bool false, .int .i64 0, .int .i64 0, .slice none 0 0, .int .i64 0, .int .i64 0, .int .i64 0, .int .i64 0, .slice none 0 0] (by simp)
  have s0 : Hid (((w.alloc (.cells #[.int .i64 id, .bool false, .int .i64 ro, .int .i64 ep, .slice A n c, .int .i64 su, .int .i64 ma, .int .i64 ot, .int .i64 co] 108)).alloc (.cells #[.int .i64 0, .int .i64 0, .bool false, .int .i64 0, .int .i64 0, .slice none 0 0, .int .i64 0, .int .i64 0, .int .i64 0, .int .i64 0, .slice none 0 0] 110)).heap.size = w.heap.size + 1 + 1) := by unfold Hid; simp
  go_enter Tryz.func77, Tryz.ntmps77
  go_upto_region 1 with fail
  generalize (w.alloc (.cells #[.int .i64 id, .bool false, .int .i64 ro, .int .i64 ep, .slice A n c, .int .i64 su, .int .i64 ma, .int .i64 ot, .int .i64 co] 108)).alloc (.cells #[.int .i64 0, .int .i64 0, .bool false, .int .i64 0, .int .i64 0, .slice none 0 0, .int .i64 0, .int .i64 0, .int .i64 0, .int .i64 0, .slice none 0 0] 110) = w0 at *
  have S0 := s0.out
  have c0 := b0.cells
  go_wp2_with fail
  refine (specNFv 0 w.heap.size id false ro ep su ma ot co A n c V _ b0 (h.new hw) hn hm hf).mono ?_
  rintro e w1 ⟨rfl, hn1⟩
  have b11 := b1.new hn1
  have b01 := b0.new hn1
  have c01 := b01.cells
  have hw1 := hw.trans hn1
  clear c0
  go_wp2_with fail
  refine (scopyNd_any id false ro ep su ma ot co A n c V _ (h.new hw1) hN hn hm).mono ?_
  rintro e w2 ⟨A', c', V', rfl, hV, ho, hn2⟩
  clear c01
  have al := (New.refl w2).alloc (.cells #[.int .i64 id, .bool true, .int .i64 ro, .int .i64 ep, .slice A' n c', .int .i64 su, .int .i64 ma, .int .i64 ot, .int .i64 co] 108)
  have b12 := (b11.new hn2).new al
  have bX := Blk.mk w2 w2.heap.size 108 #[.int .i64 id, .bool true, .int .i64 ro, .int .i64 ep, .slice A' n c', .int .i64 su, .int .i64 ma, .int .i64 ot, .int .i64 co] rfl
  have ho3 := ho.new al
  have hw3 := (hw1.trans hn2).trans al
  have z12 := hn1.size
  have z2 := (hn2.trans al).size
  have z23 := al.size
  have z21 := hn2.size
  clear ho hn2
  go_upto_region 8 with fail
  generalize w2.alloc (.cells #[.int .i64 id, .bool true, .int .i64 ro, .int .i64 ep, .slice A' n c', .int .i64 su, .int .i64 ma, .int .i64 ot, .int .i64 co] 108) = w3 at *
  have c1 := b12.cells
  have f1 := b12.frees
  have cX := bX.cells
  go_wp2
  refine bodyPost_ret (v := .agg #[.int .i64 0, .int .i64 id, .bool true, .int .i64 ro, .int .i64 ep, .slice A' n c', .int .i64 su, .int .i64 ma, .int .i64 ot, .int .i64 co, .slice none 0 0]) (by simp [results, Tryz.results77, go_sem, c1]) rfl (nrAns_mk (U := V') (Ms := []) (by simpa using HLn.out) rfl hV rfl (NrOw.log (lo := w1.heap.size) (hi := w2.heap.size) (OwL.turn (w := w3) (S := fun i => i = w.heap.size + 1) ho3 ?t1 (by intro k hk _ e; omega)) (by omega) ?u1) ?n1)
  case t1 => exact set11 (S := fun i => i = w.heap.size + 1) w3 (w.heap.size + 1) rfl _ _ _ _ _ _ _ _ _ _ _
  case u1 => exact Nat.le_trans (by omega) (Turn.size (S := fun i => i = w.heap.size + 1) (set11 (S := fun i => i = w.heap.size + 1) w3 (w.heap.size + 1) rfl _ _ _ _ _ _ _ _ _ _ _))
  case n1 => exact Turn.trans (S := fun _ => False) (T := fun i => i = w.heap.size + 1) hw3 (set11 (S := fun i => i = w.heap.size + 1) w3 (w.heap.size + 1) rfl _ _ _ _ _ _ _ _ _ _ _) (fun i hi e => by omega)

end Go.Proofs.YtebkdaddndlmoaaGreat
