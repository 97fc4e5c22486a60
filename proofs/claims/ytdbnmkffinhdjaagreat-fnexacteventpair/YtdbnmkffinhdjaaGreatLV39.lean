/- Lemmas and contracts of one law. -/
import Derived.Test.YtdbnmkffinhdjaaGreatLV38
namespace Go.Proofs.YtdbnmkffinhdjaaGreat
open Go.RowKit Go.Sort
set_option linter.unusedVariables false
set_option linter.unusedSimpArgs false
set_option maxRecDepth 100000
set_option maxHeartbeats 25600000

theorem sAdd_f (id : Int) (up : Bool) (ro ep su ma ot co : Int) (A : Option Addr) (n c : Nat) (V : List EkV) (k1 p1 : Int) (x : Option Addr) (m d : Nat) (xs : List Int) (w : World) (h : LgAt w A V) (hN : NlK V) (hn : V.length = n) (hm : n ≤ 2097152) (hx : BsAt w x xs) (hX : xs.length = m) (hnx : x = none → m = 0 ∧ d = 0) (hm1 : m ≤ 1048576) (z : Int) (hf : aF up ro (nF id up ro ep su ma ot co n (V.map EkV.r)) = z) (hz : ¬ z = 0) :
    Calls Tryz.prog 29 #[.agg #[.int .i64 id, .bool up, .int .i64 ro, .int .i64 ep, .slice A n c, .int .i64 su, .int .i64 ma, .int .i64 ot, .int .i64 co], .agg #[.int .i64 k1, .int .i64 p1, .slice x m d]] w (NrAns w z 0 false 0 0 0 0 0 0 [] []) := by
  have hw := (((New.refl w).alloc (.cells #[.int .i64 id, .bool up, .int .i64 ro, .int .i64 ep, .slice A n c, .int .i64 su, .int .i64 ma, .int .i64 ot, .int .i64 co] 74)).alloc (.cells #[.int .i64 k1, .int .i64 p1, .slice x m d] 52)).alloc (.cells #[.int .i64 0, .int .i64 0, .bool false, .int .i64 0, .int .i64 0, .slice none 0 0, .int .i64 0, .int .i64 0, .int .i64 0, .int .i64 0, .slice none 0 0] 76)
  have b0 := ((Blk.mk w w.heap.size 74 #[.int .i64 id, .bool up, .int .i64 ro, .int .i64 ep, .slice A n c, .int .i64 su, .int .i64 ma, .int .i64 ot, .int .i64 co] rfl).alloc (.cells #[.int .i64 k1, .int .i64 p1, .slice x m d] 52)).alloc (.cells #[.int .i64 0, .int .i64 0, .bool false, .int .i64 0, .int .i64 0, .slice none 0 0, .int .i64 0, .int .i64 0, .int .i64 0, .int .i64 0, .slice none 0 0] 76)
  have bV := (Blk.mk (w.alloc (.cells #[.int .i64 id, .bool up, .int .i64 ro, .int .i64 ep, .slice A n c, .int .i64 su, .int .i64 ma, .int .i64 ot, .int .i64 co] 74)) (w.heap.size + 1) 52 #[.int .i64 k1, .int .i64 p1, .slice x m d] (by simp)).alloc (.cells #[.int .i64 0, .int .i64 0, .bool false, .int .i64 0, .int .i64 0, .slice none 0 0, .int .i64 0, .int .i64 0, .int .i64 0, .int .i64 0, .slice none 0 0] 76)
  have b1 := Blk.mk ((w.alloc (.cells #[.int .i64 id, .bool up, .int .i64 ro, .int .i64 ep, .slice A n c, .int .i64 su, .int .i64 ma, .int .i64 ot, .int .i64 co] 74)).alloc (.cells #[.int .i64 k1, .int .i64 p1, .slice x m d] 52)) (w.heap.size + 1 + 1) 76 #[.int .i64 0, .int .i64 0, .bool false, .int .i64 0, .int .i64 0, .slice none 0 0, .int .i64 0, .int .i64 0, .int .i64 0, .int .i64 0, .slice none 0 0] (by simp)
  have s0 : Hid ((((w.alloc (.cells #[.int .i64 id, .bool up, .int .i64 ro, .int .i64 ep, .slice A n c, .int .i64 su, .int .i64 ma, .int .i64 ot, .int .i64 co] 74)).alloc (.cells #[.int .i64 k1, .int .i64 p1, .slice x m d] 52)).alloc (.cells #[.int .i64 0, .int .i64 0, .bool false, .int .i64 0, .int .i64 0, .slice none 0 0, .int .i64 0, .int .i64 0, .int .i64 0, .int .i64 0, .slice none 0 0] 76)).heap.size = w.heap.size + 1 + 1 + 1) := by unfold Hid; simp
  go_enter Tryz.func29, Tryz.ntmps29
  go_upto_region 1 with fail
  generalize ((w.alloc (.cells #[.int .i64 id, .bool up, .int .i64 ro, .int .i64 ep, .slice A n c, .int .i64 su, .int .i64 ma, .int .i64 ot, .int .i64 co] 74)).alloc (.cells #[.int .i64 k1, .int .i64 p1, .slice x m d] 52)).alloc (.cells #[.int .i64 0, .int .i64 0, .bool false, .int .i64 0, .int .i64 0, .slice none 0 0, .int .i64 0, .int .i64 0, .int .i64 0, .int .i64 0, .slice none 0 0] 76) = w0 at *
  have S0 := s0.out
  have c0 := b0.cells
  go_wp2_with fail
  refine (sactF_any z w.heap.size id up ro ep su ma ot co A n c V _ b0 (h.new hw) hn hm hf).mono ?_
  rintro e w1 ⟨rfl, hn1⟩
  have b11 := b1.new hn1
  have b01 := b0.new hn1
  have bV1 := bV.new hn1
  have c01 := b01.cells
  have cV1 := bV1.cells
  have hw1 := hw.trans hn1
  have z01 := hn1.size
  clear c0
  have c1 := (b11).cells
  have f1 := (b11).frees
  go_wp2_with fail
  refine (bad12 z _).mono ?_
  rintro e wq ⟨rfl, hnq⟩
  have c1 := ((b11).new hnq).cells
  have f1 := ((b11).new hnq).frees
  go_wp2
  refine bodyPost_ret (v := .agg #[.int .i64 z, .int .i64 0, .bool false, .int .i64 0, .int .i64 0, .slice none 0 0, .int .i64 0, .int .i64 0, .int .i64 0, .int .i64 0, .slice none 0 0]) (by simp [results, Tryz.results29, go_sem, c1]) rfl (nrAns_bad z ?_)
  exact ((((((((((((hw1.trans hnq)).setCell (by simp; try omega) _).setCell (by simp; try omega) _).setCell (by simp; try omega) _).setCell (by simp; try omega) _).setCell (by simp; try omega) _).setCell (by simp; try omega) _).setCell (by simp; try omega) _).setCell (by simp; try omega) _).setCell (by simp; try omega) _).setCell (by simp; try omega) _).setCell (by simp; try omega) _

theorem sAdd_e (id : Int) (up : Bool) (ro ep su ma ot co : Int) (A : Option Addr) (n c : Nat) (V : List EkV) (k1 p1 : Int) (x : Option Addr) (m d : Nat) (xs : List Int) (w : World) (h : LgAt w A V) (hN : NlK V) (hn : V.length = n) (hm : n ≤ 2097152) (hx : BsAt w x xs) (hX : xs.length = m) (hnx : x = none → m = 0 ∧ d = 0) (hm1 : m ≤ 1048576) (hf : aF up ro (nF id up ro ep su ma ot co n (V.map EkV.r)) = 0) (z : Int) (he : evF k1 p1 m = z) (hz : ¬ z = 0) :
    Calls Tryz.prog 29 #[.agg #[.int .i64 id, .bool up, .int .i64 ro, .int .i64 ep, .slice A n c, .int .i64 su, .int .i64 ma, .int .i64 ot, .int .i64 co], .agg #[.int .i64 k1, .int .i64 p1, .slice x m d]] w (NrAns w z 0 false 0 0 0 0 0 0 [] []) := by
  have hw := (((New.refl w).alloc (.cells #[.int .i64 id, .bool up, .int .i64 ro, .int .i64 ep, .slice A n c, .int .i64 su, .int .i64 ma, .int .i64 ot, .int .i64 co] 74)).alloc (.cells #[.int .i64 k1, .int .i64 p1, .slice x m d] 52)).alloc (.cells #[.int .i64 0, .int .i64 0, .bool false, .int .i64 0, .int .i64 0, .slice none 0 0, .int .i64 0, .int .i64 0, .int .i64 0, .int .i64 0, .slice none 0 0] 76)
  have b0 := ((Blk.mk w w.heap.size 74 #[.int .i64 id, .bool up, .int .i64 ro, .int .i64 ep, .slice A n c, .int .i64 su, .int .i64 ma, .int .i64 ot, .int .i64 co] rfl).alloc (.cells #[.int .i64 k1, .int .i64 p1, .slice x m d] 52)).alloc (.cells #[.int .i64 0, .int .i64 0, .bool false, .int .i64 0, .int .i64 0, .slice none 0 0, .int .i64 0, .int .i64 0, .int .i64 0, .int .i64 0, .slice none 0 0] 76)
  have bV := (Blk.mk (w.alloc (.cells #[.int .i64 id, .bool up, .int .i64 ro, .int .i64 ep, .slice A n c, .int .i64 su, .int .i64 ma, .int .i64 ot, .int .i64 co] 74)) (w.heap.size + 1) 52 #[.int .i64 k1, .int .i64 p1, .slice x m d] (by simp)).alloc (.cells #[.int .i64 0, .int .i64 0, .bool false, .int .i64 0, .int .i64 0, .slice none 0 0, .int .i64 0, .int .i64 0, .int .i64 0, .int .i64 0, .slice none 0 0] 76)
  have b1 := Blk.mk ((w.alloc (.cells #[.int .i64 id, .bool up, .int .i64 ro, .int .i64 ep, .slice A n c, .int .i64 su, .int .i64 ma, .int .i64 ot, .int .i64 co] 74)).alloc (.cells #[.int .i64 k1, .int .i64 p1, .slice x m d] 52)) (w.heap.size + 1 + 1) 76 #[.int .i64 0, .int .i64 0, .bool false, .int .i64 0, .int .i64 0, .slice none 0 0, .int .i64 0, .int .i64 0, .int .i64 0, .int .i64 0, .slice none 0 0] (by simp)
  have s0 : Hid ((((w.alloc (.cells #[.int .i64 id, .bool up, .int .i64 ro, .int .i64 ep, .slice A n c, .int .i64 su, .int .i64 ma, .int .i64 ot, .int .i64 co] 74)).alloc (.cells #[.int .i64 k1, .int .i64 p1, .slice x m d] 52)).alloc (.cells #[.int .i64 0, .int .i64 0, .bool false, .int .i64 0, .int .i64 0, .slice none 0 0, .int .i64 0, .int .i64 0, .int .i64 0, .int .i64 0, .slice none 0 0] 76)).heap.size = w.heap.size + 1 + 1 + 1) := by unfold Hid; simp
  go_enter Tryz.func29, Tryz.ntmps29
  go_upto_region 1 with fail
  generalize ((w.alloc (.cells #[.int .i64 id, .bool up, .int .i64 ro, .int .i64 ep, .slice A n c, .int .i64 su, .int .i64 ma, .int .i64 ot, .int .i64 co] 74)).alloc (.cells #[.int .i64 k1, .int .i64 p1, .slice x m d] 52)).alloc (.cells #[.int .i64 0, .int .i64 0, .bool false, .int .i64 0, .int .i64 0, .slice none 0 0, .int .i64 0, .int .i64 0, .int .i64 0, .int .i64 0, .slice none 0 0] 76) = w0 at *
  have S0 := s0.out
  have c0 := b0.cells
  go_wp2_with fail
  refine (sactF_any 0 w.heap.size id up ro ep su ma ot co A n c V _ b0 (h.new hw) hn hm hf).mono ?_
  rintro e w1 ⟨rfl, hn1⟩
  have b11 := b1.new hn1
  have b01 := b0.new hn1
  have bV1 := bV.new hn1
  have c01 := b01.cells
  have cV1 := bV1.cells
  have hw1 := hw.trans hn1
  have z01 := hn1.size
  clear c0
  go_wp2_with fail
  refine (specEVv z k1 p1 x m d _ hm1 he).mono ?_
  rintro e w1b ⟨rfl, hn1b⟩
  have b11b := b11.new hn1b
  have b01b := b01.new hn1b
  have bV1b := bV1.new hn1b
  have hw1b := hw1.trans hn1b
  have z1b := hn1b.size
  have c01b := b01b.cells
  have cV1b := bV1b.cells
  clear c01 cV1 b11 b01 bV1
  have c1 := (b11b).cells
  have f1 := (b11b).frees
  go_wp2_with fail
  refine (bad12 z _).mono ?_
  rintro e wq ⟨rfl, hnq⟩
  have c1 := ((b11b).new hnq).cells
  have f1 := ((b11b).new hnq).frees
  go_wp2
  refine bodyPost_ret (v := .agg #[.int .i64 z, .int .i64 0, .bool false, .int .i64 0, .int .i64 0, .slice none 0 0, .int .i64 0, .int .i64 0, .int .i64 0, .int .i64 0, .slice none 0 0]) (by simp [results, Tryz.results29, go_sem, c1]) rfl (nrAns_bad z ?_)
  exact ((((((((((((hw1b.trans hnq)).setCell (by simp; try omega) _).setCell (by simp; try omega) _).setCell (by simp; try omega) _).setCell (by simp; try omega) _).setCell (by simp; try omega) _).setCell (by simp; try omega) _).setCell (by simp; try omega) _).setCell (by simp; try omega) _).setCell (by simp; try omega) _).setCell (by simp; try omega) _).setCell (by simp; try omega) _

theorem sAdd_m (id : Int) (up : Bool) (ro ep su ma ot co : Int) (A : Option Addr) (n c : Nat) (V : List EkV) (k1 p1 : Int) (x : Option Addr) (m d : Nat) (xs : List Int) (w : World) (h : LgAt w A V) (hN : NlK V) (hn : V.length = n) (hm : n ≤ 2097152) (hx : BsAt w x xs) (hX : xs.length = m) (hnx : x = none → m = 0 ∧ d = 0) (hm1 : m ≤ 1048576) (hf : aF up ro (nF id up ro ep su ma ot co n (V.map EkV.r)) = 0) (he : evF k1 p1 m = 0) (hk : 100 ≤ n) :
    Calls Tryz.prog 29 #[.agg #[.int .i64 id, .bool up, .int .i64 ro, .int .i64 ep, .slice A n c, .int .i64 su, .int .i64 ma, .int .i64 ot, .int .i64 co], .agg #[.int .i64 k1, .int .i64 p1, .slice x m d]] w (NrAns w 2 0 false 0 0 0 0 0 0 [] []) := by
  have hw := (((New.refl w).alloc (.cells #[.int .i64 id, .bool up, .int .i64 ro, .int .i64 ep, .slice A n c, .int .i64 su, .int .i64 ma, .int .i64 ot, .int .i64 co] 74)).alloc (.cells #[.int .i64 k1, .int .i64 p1, .slice x m d] 52)).alloc (.cells #[.int .i64 0, .int .i64 0, .bool false, .int .i64 0, .int .i64 0, .slice none 0 0, .int .i64 0, .int .i64 0, .int .i64 0, .int .i64 0, .slice none 0 0] 76)
  have b0 := ((Blk.mk w w.heap.size 74 #[.int .i64 id, .bool up, .int .i64 ro, .int .i64 ep, .slice A n c, .int .i64 su, .int .i64 ma, .int .i64 ot, .int .i64 co] rfl).alloc (.cells #[.int .i64 k1, .int .i64 p1, .slice x m d] 52)).alloc (.cells #[.int .i64 0, .int .i64 0, .bool false, .int .i64 0, .int .i64 0, .slice none 0 0, .int .i64 0, .int .i64 0, .int .i64 0, .int .i64 0, .slice none 0 0] 76)
  have bV := (Blk.mk (w.alloc (.cells #[.int .i64 id, .bool up, .int .i64 ro, .int .i64 ep, .slice A n c, .int .i64 su, .int .i64 ma, .int .i64 ot, .int .i64 co] 74)) (w.heap.size + 1) 52 #[.int .i64 k1, .int .i64 p1, .slice x m d] (by simp)).alloc (.cells #[.int .i64 0, .int .i64 0, .bool false, .int .i64 0, .int .i64 0, .slice none 0 0, .int .i64 0, .int .i64 0, .int .i64 0, .int .i64 0, .slice none 0 0] 76)
  have b1 := Blk.mk ((w.alloc (.cells #[.int .i64 id, .bool up, .int .i64 ro, .int .i64 ep, .slice A n c, .int .i64 su, .int .i64 ma, .int .i64 ot, .int .i64 co] 74)).alloc (.cells #[.int .i64 k1, .int .i64 p1, .slice x m d] 52)) (w.heap.size + 1 + 1) 76 #[.int .i64 0, .int .i64 0, .bool false, .int .i64 0, .int .i64 0, .slice none 0 0, .int .i64 0, .int .i64 0, .int .i64 0, .int .i64 0, .slice none 0 0] (by simp)
  have s0 : Hid ((((w.alloc (.cells #[.int .i64 id, .bool up, .int .i64 ro, .int .i64 ep, .slice A n c, .int .i64 su, .int .i64 ma, .int .i64 ot, .int .i64 co] 74)).alloc (.cells #[.int .i64 k1, .int .i64 p1, .slice x m d] 52)).alloc (.cells #[.int .i64 0, .int .i64 0, .bool false, .int .i64 0, .int .i64 0, .slice none 0 0, .int .i64 0, .int .i64 0, .int .i64 0, .int .i64 0, .slice none 0 0] 76)).heap.size = w.heap.size + 1 + 1 + 1) := by unfold Hid; simp
  go_enter Tryz.func29, Tryz.ntmps29
  go_upto_region 1 with fail
  generalize ((w.alloc (.cells #[.int .i64 id, .bool up, .int .i64 ro, .int .i64 ep, .slice A n c, .int .i64 su, .int .i64 ma, .int .i64 ot, .int .i64 co] 74)).alloc (.cells #[.int .i64 k1, .int .i64 p1, .slice x m d] 52)).alloc (.cells #[.int .i64 0, .int .i64 0, .bool false, .int .i64 0, .int .i64 0, .slice none 0 0, .int .i64 0, .int .i64 0, .int .i64 0, .int .i64 0, .slice none 0 0] 76) = w0 at *
  have S0 := s0.out
  have c0 := b0.cells
  go_wp2_with fail
  refine (sactF_any 0 w.heap.size id up ro ep su ma ot co A n c V _ b0 (h.new hw) hn hm hf).mono ?_
  rintro e w1 ⟨rfl, hn1⟩
  have b11 := b1.new hn1
  have b01 := b0.new hn1
  have bV1 := bV.new hn1
  have c01 := b01.cells
  have cV1 := bV1.cells
  have hw1 := hw.trans hn1
  have z01 := hn1.size
  clear c0
  go_wp2_with fail
  refine (specEVv 0 k1 p1 x m d _ hm1 he).mono ?_
  rintro e w1b ⟨rfl, hn1b⟩
  have b11b := b11.new hn1b
  have b01b := b01.new hn1b
  have bV1b := bV1.new hn1b
  have hw1b := hw1.trans hn1b
  have z1b := hn1b.size
  have c01b := b01b.cells
  have cV1b := bV1b.cells
  clear c01 cV1 b11 b01 bV1
  have c1 := (b11b).cells
  have f1 := (b11b).frees
  go_wp2_with fail
  refine (bad12 2 _).mono ?_
  rintro e wq ⟨rfl, hnq⟩
  have c1 := ((b11b).new hnq).cells
  have f1 := ((b11b).new hnq).frees
  go_wp2
  refine bodyPost_ret (v := .agg #[.int .i64 2, .int .i64 0, .bool false, .int .i64 0, .int .i64 0, .slice none 0 0, .int .i64 0, .int .i64 0, .int .i64 0, .int .i64 0, .slice none 0 0]) (by simp [results, Tryz.results29, go_sem, c1]) rfl (nrAns_bad 2 ?_)
  exact ((((((((((((hw1b.trans hnq)).setCell (by simp; try omega) _).setCell (by simp; try omega) _).setCell (by simp; try omega) _).setCell (by simp; try omega) _).setCell (by simp; try omega) _).setCell (by simp; try omega) _).setCell (by simp; try omega) _).setCell (by simp; try omega) _).setCell (by simp; try omega) _).setCell (by simp; try omega) _).setCell (by simp; try omega) _

theorem sAdd_ok (id : Int) (up : Bool) (ro ep su ma ot co : Int) (A : Option Addr) (n c : Nat) (V : List EkV) (k1 p1 : Int) (x : Option Addr) (m d : Nat) (xs : List Int) (w : World) (h : LgAt w A V) (hN : NlK V) (hn : V.length = n) (hm : n ≤ 2097152) (hx : BsAt w x xs) (hX : xs.length = m) (hnx : x = none → m = 0 ∧ d = 0) (hm1 : m ≤ 1048576) (hf : aF up ro (nF id up ro ep su ma ot co n (V.map EkV.r)) = 0) (he : evF k1 p1 m = 0) (hk : n < 100) :
    Calls Tryz.prog 29 #[.agg #[.int .i64 id, .bool up, .int .i64 ro, .int .i64 ep, .slice A n c, .int .i64 su, .int .i64 ma, .int .i64 ot, .int .i64 co], .agg #[.int .i64 k1, .int .i64 p1, .slice x m d]] w (NrAns w 0 id up ro ep su ma ot co (V.map EkV.r ++ [Ek.mk ep k1 p1 xs]) []) := by
  have HLn : Hid (V.length = n) := hn
  have HL2 : Hid ((V.map EkV.r ++ [Ek.mk ep k1 p1 xs]).length = n + 1) := by unfold Hid; simp [hn]
  have hw := (((New.refl w).alloc (.cells #[.int .i64 id, .bool up, .int .i64 ro, .int .i64 ep, .slice A n c, .int .i64 su, .int .i64 ma, .int .i64 ot, .int .i64 co] 74)).alloc (.cells #[.int .i64 k1, .int .i64 p1, .slice x m d] 52)).alloc (.cells #[.int .i64 0, .int .i64 0, .bool false, .int .i64 0, .int .i64 0, .slice none 0 0, .int .i64 0, .int .i64 0, .int .i64 0, .int .i64 0, .slice none 0 0] 76)
  have b0 := ((Blk.mk w w.heap.size 74 #[.int .i64 id, .bool up, .int .i64 ro, .int .i64 ep, .slice A n c, .int .i64 su, .int .i64 ma, .int .i64 ot, .int .i64 co] rfl).alloc (.cells #[.int .i64 k1, .int .i64 p1, .slice x m d] 52)).alloc (.cells #[.int .i64 0, .int .i64 0, .bool false, .int .i64 0, .int .i64 0, .slice none 0 0, .int .i64 0, .int .i64 0, .int .i64 0, .int .i64 0, .slice none 0 0] 76)
  have bV := (Blk.mk (w.alloc (.cells #[.int .i64 id, .bool up, .int .i64 ro, .int .i64 ep, .slice A n c, .int .i64 su, .int .i64 ma, .int .i64 ot, .int .i64 co] 74)) (w.heap.size + 1) 52 #[.int .i64 k1, .int .i64 p1, .slice x m d] (by simp)).alloc (.cells #[.int .i64 0, .int .i64 0, .bool false, .int .i64 0, .int .i64 0, .slice none 0 0, .int .i64 0, .int .i64 0, .int .i64 0, .int .i64 0, .slice none 0 0] 76)
  have b1 := Blk.mk ((w.alloc (.cells #[.int .i64 id, .bool up, .int .i64 ro, .int .i64 ep, .slice A n c, .int .i64 su, .int .i64 ma, .int .i64 ot, .int .i64 co] 74)).alloc (.cells #[.int .i64 k1, .int .i64 p1, .slice x m d] 52)) (w.heap.size + 1 + 1) 76 #[.int .i64 0, .int .i64 0, .bool false, .int .i64 0, .int .i64 0, .slice none 0 0, .int .i64 0, .int .i64 0, .int .i64 0, .int .i64 0, .slice none 0 0] (by simp)
  have s0 : Hid ((((w.alloc (.cells #[.int .i64 id, .bool up, .int .i64 ro, .int .i64 ep, .slice A n c, .int .i64 su, .int .i64 ma, .int .i64 ot, .int .i64 co] 74)).alloc (.cells #[.int .i64 k1, .int .i64 p1, .slice x m d] 52)).alloc (.cells #[.int .i64 0, .int .i64 0, .bool false, .int .i64 0, .int .i64 0, .slice none 0 0, .int .i64 0, .int .i64 0, .int .i64 0, .int .i64 0, .slice none 0 0] 76)).heap.size = w.heap.size + 1 + 1 + 1) := by unfold Hid; simp
  go_enter Tryz.func29, Tryz.ntmps29
  go_upto_region 1 with fail
  generalize ((w.alloc (.cells #[.int .i64 id, .bool up, .int .i64 ro, .int .i64 ep, .slice A n c, .int .i64 su, .int .i64 ma, .int .i64 ot, .int .i64 co] 74)).alloc (.cells #[.int .i64 k1, .int .i64 p1, .slice x m d] 52)).alloc (.cells #[.int .i64 0, .int .i64 0, .bool false, .int .i64 0, .int .i64 0, .slice none 0 0, .int .i64 0, .int .i64 0, .int .i64 0, .int .i64 0, .slice none 0 0] 76) = w0 at *
  have S0 := s0.out
  have c0 := b0.cells
  go_wp2_with fail
  refine (sactF_any 0 w.heap.size id up ro ep su ma ot co A n c V _ b0 (h.new hw) hn hm hf).mono ?_
  rintro e w1 ⟨rfl, hn1⟩
  have b11 := b1.new hn1
  have b01 := b0.new hn1
  have bV1 := bV.new hn1
  have c01 := b01.cells
  have cV1 := bV1.cells
  have hw1 := hw.trans hn1
  have z01 := hn1.size
  clear c0
  go_wp2_with fail
  refine (specEVv 0 k1 p1 x m d _ hm1 he).mono ?_
  rintro e w1b ⟨rfl, hn1b⟩
  have b11b := b11.new hn1b
  have b01b := b01.new hn1b
  have bV1b := bV1.new hn1b
  have hw1b := hw1.trans hn1b
  have z1b := hn1b.size
  have c01b := b01b.cells
  have cV1b := bV1b.cells
  clear c01 cV1 b11 b01 bV1
  go_wp2_with fail
  refine (scopyNd_any id up ro ep su ma ot co A n c V _ (h.new hw1b) hN hn hm).mono ?_
  rintro e w2 ⟨A3, c3, V1, rfl, hV, ho, hn2⟩
  have al := (New.refl w2).alloc (.cells #[.int .i64 id, .bool up, .int .i64 ro, .int .i64 ep, .slice A3 n c3, .int .i64 su, .int .i64 ma, .int .i64 ot, .int .i64 co] 74)
  have b03 := (b01b.new hn2).new al
  have bV3 := (bV1b.new hn2).new al
  have b13 := (b11b.new hn2).new al
  have bB := Blk.mk w2 w2.heap.size 74 #[.int .i64 id, .bool up, .int .i64 ro, .int .i64 ep, .slice A3 n c3, .int .i64 su, .int .i64 ma, .int .i64 ot, .int .i64 co] rfl
  have z12 := hn2.size
  have z23 := al.size
  have hoL := (ho.new al).up al.size
  have hw3 := (hw1b.trans hn2).trans al
  have hx3 := hx.new hw3
  have l3 := bB.lt
  clear ho hn2 c01b cV1b
  go_upto_region 10 with fail
  generalize w2.alloc (.cells #[.int .i64 id, .bool up, .int .i64 ro, .int .i64 ep, .slice A3 n c3, .int .i64 su, .int .i64 ma, .int .i64 ot, .int .i64 co] 74) = w3 at *
  generalize hNB : w2.heap.size = NB at *
  generalize hlo1 : w1b.heap.size = lo at *
  have cX := bB.cells
  have cV := bV3.cells
  obtain ⟨i0, hi, hz0, hz1, hz2⟩ := info_parts Tryz.infoEk
  have HX : Hid (xs.length = m) := hX
  have HLV : Hid (V1.length = n) := hoL.lg.2
  have hby : Hid (∀ z ∈ xs, By z) := hx.lt
  have hlo : lo ≤ w3.heap.size := by omega
  have hbl := hoL.blocks.1
  have hE0 : ∀ k, k < lo → ¬ (k = NB ∨ (Value.slice A3 n c3).ownBlock = some k) := by
    intro k hk e
    rcases e with e | e
    · omega
    · cases A3 with
      | none => simp [Value.ownBlock] at e
      | some xx => simp [Value.ownBlock] at e; have := (hbl xx rfl).1; omega
  clear cX cV
  have cBd := (bB.new ((New.refl _).drew)).cells
  refine hw_start (n := 11) (S := fun X => Turn (fun i => i = NB ∨ (Value.slice A3 n c3).ownBlock = some i) w3 X) rfl (by kernel_rfl) (((New.refl _).drew).turn) (fun hH => ?_)
  refine' hw_t 0 (some 26) _ rfl rfl hH ?hy11 ?rest11
  case hy11 =>
    intro X hX
    go_simp
    try rfl
  simp only [Act.put, pA9, pB9, pC9]
  refine' hw_t 2 (some 28) _ rfl rfl hH ?hy12 ?rest12
  case hy12 =>
    intro X hX
    go_simp
    try rfl
  simp only [Act.put, pA9, pB9, pC9]
  refine' hw_t 3 (some 29) _ rfl rfl hH ?hy13 ?rest13
  case hy13 =>
    intro X hX
    have c0X := (b03.turn hX (hE0 _ (by omega))).cells
    go_simp
    try rfl
  simp only [Act.put, pA9, pB9, pC9]
  refine' hw_take 4 (some 30) (.agg #[.int .i64 k1, .int .i64 p1, .slice x m d]) rfl rfl (by kernel_rfl) (by kernel_rfl) (by kernel_rfl) (fun _ _ _ h => h) (by rfl) hH ?hyA ?restA
  case hyA =>
    intro X hX
    exact run_load_blk 52 (.tmp 3) rfl (w.heap.size + 1) rfl #[.int .i64 k1, .int .i64 p1, .slice x m d] _ (bV3.turn hX (hE0 _ (by omega))) Tryz.underlying52 rfl (by kernel_rfl)
  simp only [Act.put, pA9, pB9, pC9]
  refine' hw_t 5 (some 31) _ rfl rfl hH ?hy14 ?rest14
  case hy14 =>
    intro X hX
    go_simp
    try rfl
  simp only [Act.put, pA9, pB9, pC9]
  refine wpAnyH_ready (rs := [1, 6]) (by kernel_rfl) (by simp) ?_
  refine hw_step 1 (some 27) rfl rfl (by rfl) (fun K hK => ?_) ?_
  · skip
    go_simp
    refine hK.out _ _ hH (fun hH1 => ?_)
    simp only [Act.put, pA9, pB9, pC9]
    refine hw_call 6 (some 32) rfl rfl (by kernel_rfl) (by rfl) (fun K hK => ?_)
    go_simp
    refine (scopyE ep k1 p1 x m d xs _ (hx3.new ((New.refl _).drew)) HX.out hnx hm1).mono ?_
    rintro e w5 ⟨a', c', rfl, ho5, hn5⟩
    have n5 : New w3 w5 := ((New.refl _).drew).trans hn5
    have cL5 := (bB.new n5).cells
    have z5 := n5.size
    go_simp
    refine hK.out _ _ n5.turn (fun hH5 => ?_)
    simp only [Act.put, pA9, pB9, pC9]
    refine hw_call 7 (some 33) rfl rfl (by kernel_rfl) (by rfl) (fun K hK => ?_)
    go_simp
    have al6 := (New.refl w5).alloc (.cells #[.int .i64 ep, .int .i64 k1, .int .i64 p1, .slice a' m c'] 118)
    have bM := Blk.mk w5 w5.heap.size 118 #[.int .i64 ep, .int .i64 k1, .int .i64 p1, .slice a' m c'] rfl
    have n6 := n5.trans al6
    have cL6 := (bB.new n6).cells
    have cM := bM.cells
    refine hK.out _ _ n6.turn (fun hH6 => ?_)
    simp only [Act.put, pA9, pB9, pC9]
    refine hw_call 8 (some 34) rfl rfl (by kernel_rfl) (by rfl) (fun K hK => ?_)
    have hrow := row9_new (row9_new hoL.row n5) al6
    have hov : OvB w5 w3.heap.size (EkV.pv ⟨⟨ep, k1, p1, xs⟩, a', c'⟩) xs := by
      unfold EkV.pv
      simp only [HX.out]
      exact ho5
    refine wp_apV _ (.tmp 27) (.tmp 33) rfl lo 4 48 (.agg #[.int .i64 0, .int .i64 0, .int .i64 0, .slice none 0 0]) Tryz.underlying45 hi hz0 hz1 hz2 rfl (by omega) (by omega) _ _ _ rfl hrow w5.heap.size [.int .i64 ep, .int .i64 k1, .int .i64 p1, .slice a' m c'] rfl (by simp [Value.oneCell']) rfl (by intro j u hu; rw [cM j, List.getElem?_toArray]; exact hu) (by have := HLV.out; omega) (by simp; omega) ?_
    intro v7 w7 hr7 hg7 hat7
    have hr7' : w7.ownsRow lo 118 4 v7 (V1 ++ [EkV.mk (Ek.mk ep k1 p1 xs) a' c']).length (cellsK (V1 ++ [EkV.mk (Ek.mk ep k1 p1 xs) a' c'])) := by
      rw [cellsK_snoc, List.length_append]
      simp only [EkV.cs, HX.out]
      exact hr7
    have hap := hoL.appended hlo n5 hov hby.out (by simp only [HX.out]; omega) al6 hr7' hg7
    obtain ⟨A2, c2, hv7, -, hy7⟩ := row9_form hr7
    rw [HLV.out] at hv7
    subst hv7
    have t67 := turn_of_grown hg7
    have tAll : Turn (fun i => i = NB ∨ (Value.slice A3 n c3).ownBlock = some i) w3 w7 := Turn.trans n6.turn t67 (fun i _ e => .inr e)
    have bB7 := (bB.new n6).turn t67 (fun e => blk_ne_row (bB.new n6) hrow (by decide) _ e rfl)
    have cB7 := bB7.cells
    have fB7 := bB7.frees
    have bB8 := bB7.set 4 (.slice A2 (n + 1) c2)
    have t8 := (Turn.refl (fun i => i = NB) w7).set (p := ⟨NB, 4, none⟩) rfl (.slice A2 (n + 1) c2)
    have hap8 := hap.turnB bB7 (by decide) (by decide) t8
    have tF := Turn.trans tAll t8 (fun i _ e => .inl e)
    refine hK.out _ _ tAll (fun hH7 => ?_)
    simp only [Act.put, pA9, pB9, pC9]
    refine' hw_t 9 (some 35) _ rfl rfl hH7 ?hy15 ?rest15
    case hy15 =>
      intro X hX
      go_simp
      try rfl
    simp only [Act.put, pA9, pB9, pC9]
    refine hw_call 10 none rfl rfl (by kernel_rfl) (by rfl) (fun K hK => ?_)
    go_simp
    refine hK.out undef _ tF (fun hS2 => ?_)
    refine wpAnyH_done (by kernel_rfl) ?_ _
    have bB9 : Blk (w7.setCell ⟨NB, 4, none⟩ (.slice A2 (n + 1) c2)) NB 74 #[.int .i64 id, .bool up, .int .i64 ro, .int .i64 ep, .slice A2 (n + 1) c2, .int .i64 su, .int .i64 ma, .int .i64 ot, .int .i64 co] := bB8
    generalize w7.setCell ⟨NB, 4, none⟩ (.slice A2 (n + 1) c2) = w4 at *
    obtain ⟨V2, hV2e⟩ : ∃ V2, V2 = V1 ++ [EkV.mk (Ek.mk ep k1 p1 xs) a' c'] := ⟨_, rfl⟩
    rw [← hV2e] at hap8
    have hV2 : V2.map EkV.r = (V.map EkV.r ++ [Ek.mk ep k1 p1 xs]) := by rw [hV2e, List.map_append, hV]; rfl
    have b14 := b13.turn tF (hE0 _ (by omega))
    have hw4 := hw3.before tF (by intro i hi e; exact hE0 i (by omega) e)
    have z4 := t8.size
    have hoF := hap8.up z4
    have c1 := b14.cells
    have f1 := b14.frees
    have cX := bB9.cells
    clear cBd cB7 fB7 bB8 bB7 bB hK hap hap8 hr7 hr7' hrow
    go_wp2
    refine bodyPost_ret (v := .agg #[.int .i64 0, .int .i64 id, .bool up, .int .i64 ro, .int .i64 ep, .slice A2 (n + 1) c2, .int .i64 su, .int .i64 ma, .int .i64 ot, .int .i64 co, .slice none 0 0]) (by simp [results, Tryz.results29, go_sem, c1]) rfl (nrAns_mk (U := V2) (Ms := []) HL2.out rfl hV2 rfl (NrOw.log (lo := lo) (hi := w4.heap.size) (OwL.turn (w := w4) (S := fun i => i = w.heap.size + 1 + 1) hoF ?t1 (by intro k hk _ e; omega)) (by omega) ?u1) ?n1)
    case t1 => exact set11 (S := fun i => i = w.heap.size + 1 + 1) w4 (w.heap.size + 1 + 1) rfl _ _ _ _ _ _ _ _ _ _ _
    case u1 => exact Nat.le_trans (by omega) (Turn.size (S := fun i => i = w.heap.size + 1 + 1) (set11 (S := fun i => i = w.heap.size + 1 + 1) w4 (w.heap.size + 1 + 1) rfl _ _ _ _ _ _ _ _ _ _ _))
    case n1 => exact Turn.trans (S := fun _ => False) (T := fun i => i = w.heap.size + 1 + 1) hw4 (set11 (S := fun i => i = w.heap.size + 1 + 1) w4 (w.heap.size + 1 + 1) rfl _ _ _ _ _ _ _ _ _ _ _) (fun i hi e => by omega)
  refine hw_step 6 (some 32) rfl rfl (by rfl) (fun K hK => ?_) ?_
  · skip
    go_simp
    refine (scopyE ep k1 p1 x m d xs _ (hx3.new ((New.refl _).drew)) HX.out hnx hm1).mono ?_
    rintro e w5 ⟨a', c', rfl, ho5, hn5⟩
    have n5 : New w3 w5 := ((New.refl _).drew).trans hn5
    have cL5 := (bB.new n5).cells
    have z5 := n5.size
    go_simp
    refine hK.out _ _ n5.turn (fun hH5 => ?_)
    simp only [Act.put, pA9, pB9, pC9]
    refine wpAnyH_ready (rs := [1, 7]) (by kernel_rfl) (by simp) ?_
    refine hw_step 1 (some 27) rfl rfl (by rfl) (fun K hK => ?_) ?_
    · skip
      go_simp
      refine hK.out _ _ hH5 (fun hH1 => ?_)
      simp only [Act.put, pA9, pB9, pC9]
      refine hw_call 7 (some 33) rfl rfl (by kernel_rfl) (by rfl) (fun K hK => ?_)
      go_simp
      have al6 := (New.refl w5).alloc (.cells #[.int .i64 ep, .int .i64 k1, .int .i64 p1, .slice a' m c'] 118)
      have bM := Blk.mk w5 w5.heap.size 118 #[.int .i64 ep, .int .i64 k1, .int .i64 p1, .slice a' m c'] rfl
      have n6 := n5.trans al6
      have cL6 := (bB.new n6).cells
      have cM := bM.cells
      refine hK.out _ _ n6.turn (fun hH6 => ?_)
      simp only [Act.put, pA9, pB9, pC9]
      refine hw_call 8 (some 34) rfl rfl (by kernel_rfl) (by rfl) (fun K hK => ?_)
      have hrow := row9_new (row9_new hoL.row n5) al6
      have hov : OvB w5 w3.heap.size (EkV.pv ⟨⟨ep, k1, p1, xs⟩, a', c'⟩) xs := by
        unfold EkV.pv
        simp only [HX.out]
        exact ho5
      refine wp_apV _ (.tmp 27) (.tmp 33) rfl lo 4 48 (.agg #[.int .i64 0, .int .i64 0, .int .i64 0, .slice none 0 0]) Tryz.underlying45 hi hz0 hz1 hz2 rfl (by omega) (by omega) _ _ _ rfl hrow w5.heap.size [.int .i64 ep, .int .i64 k1, .int .i64 p1, .slice a' m c'] rfl (by simp [Value.oneCell']) rfl (by intro j u hu; rw [cM j, List.getElem?_toArray]; exact hu) (by have := HLV.out; omega) (by simp; omega) ?_
      intro v7 w7 hr7 hg7 hat7
      have hr7' : w7.ownsRow lo 118 4 v7 (V1 ++ [EkV.mk (Ek.mk ep k1 p1 xs) a' c']).length (cellsK (V1 ++ [EkV.mk (Ek.mk ep k1 p1 xs) a' c'])) := by
        rw [cellsK_snoc, List.length_append]
        simp only [EkV.cs, HX.out]
        exact hr7
      have hap := hoL.appended hlo n5 hov hby.out (by simp only [HX.out]; omega) al6 hr7' hg7
      obtain ⟨A2, c2, hv7, -, hy7⟩ := row9_form hr7
      rw [HLV.out] at hv7
      subst hv7
      have t67 := turn_of_grown hg7
      have tAll : Turn (fun i => i = NB ∨ (Value.slice A3 n c3).ownBlock = some i) w3 w7 := Turn.trans n6.turn t67 (fun i _ e => .inr e)
      have bB7 := (bB.new n6).turn t67 (fun e => blk_ne_row (bB.new n6) hrow (by decide) _ e rfl)
      have cB7 := bB7.cells
      have fB7 := bB7.frees
      have bB8 := bB7.set 4 (.slice A2 (n + 1) c2)
      have t8 := (Turn.refl (fun i => i = NB) w7).set (p := ⟨NB, 4, none⟩) rfl (.slice A2 (n + 1) c2)
      have hap8 := hap.turnB bB7 (by decide) (by decide) t8
      have tF := Turn.trans tAll t8 (fun i _ e => .inl e)
      refine hK.out _ _ tAll (fun hH7 => ?_)
      simp only [Act.put, pA9, pB9, pC9]
      refine' hw_t 9 (some 35) _ rfl rfl hH7 ?hy16 ?rest16
      case hy16 =>
        intro X hX
        go_simp
        try rfl
      simp only [Act.put, pA9, pB9, pC9]
      refine hw_call 10 none rfl rfl (by kernel_rfl) (by rfl) (fun K hK => ?_)
      go_simp
      refine hK.out undef _ tF (fun hS2 => ?_)
      refine wpAnyH_done (by kernel_rfl) ?_ _
      have bB9 : Blk (w7.setCell ⟨NB, 4, none⟩ (.slice A2 (n + 1) c2)) NB 74 #[.int .i64 id, .bool up, .int .i64 ro, .int .i64 ep, .slice A2 (n + 1) c2, .int .i64 su, .int .i64 ma, .int .i64 ot, .int .i64 co] := bB8
      generalize w7.setCell ⟨NB, 4, none⟩ (.slice A2 (n + 1) c2) = w4 at *
      obtain ⟨V2, hV2e⟩ : ∃ V2, V2 = V1 ++ [EkV.mk (Ek.mk ep k1 p1 xs) a' c'] := ⟨_, rfl⟩
      rw [← hV2e] at hap8
      have hV2 : V2.map EkV.r = (V.map EkV.r ++ [Ek.mk ep k1 p1 xs]) := by rw [hV2e, List.map_append, hV]; rfl
      have b14 := b13.turn tF (hE0 _ (by omega))
      have hw4 := hw3.before tF (by intro i hi e; exact hE0 i (by omega) e)
      have z4 := t8.size
      have hoF := hap8.up z4
      have c1 := b14.cells
      have f1 := b14.frees
      have cX := bB9.cells
      clear cBd cB7 fB7 bB8 bB7 bB hK hap hap8 hr7 hr7' hrow
      go_wp2
      refine bodyPost_ret (v := .agg #[.int .i64 0, .int .i64 id, .bool up, .int .i64 ro, .int .i64 ep, .slice A2 (n + 1) c2, .int .i64 su, .int .i64 ma, .int .i64 ot, .int .i64 co, .slice none 0 0]) (by simp [results, Tryz.results29, go_sem, c1]) rfl (nrAns_mk (U := V2) (Ms := []) HL2.out rfl hV2 rfl (NrOw.log (lo := lo) (hi := w4.heap.size) (OwL.turn (w := w4) (S := fun i => i = w.heap.size + 1 + 1) hoF ?t1 (by intro k hk _ e; omega)) (by omega) ?u1) ?n1)
      case t1 => exact set11 (S := fun i => i = w.heap.size + 1 + 1) w4 (w.heap.size + 1 + 1) rfl _ _ _ _ _ _ _ _ _ _ _
      case u1 => exact Nat.le_trans (by omega) (Turn.size (S := fun i => i = w.heap.size + 1 + 1) (set11 (S := fun i => i = w.heap.size + 1 + 1) w4 (w.heap.size + 1 + 1) rfl _ _ _ _ _ _ _ _ _ _ _))
      case n1 => exact Turn.trans (S := fun _ => False) (T := fun i => i = w.heap.size + 1 + 1) hw4 (set11 (S := fun i => i = w.heap.size + 1 + 1) w4 (w.heap.size + 1 + 1) rfl _ _ _ _ _ _ _ _ _ _ _) (fun i hi e => by omega)
    refine hw_step 7 (some 33) rfl rfl (by rfl) (fun K hK => ?_) ?_
    · skip
      go_simp
      have al6 := (New.refl w5).alloc (.cells #[.int .i64 ep, .int .i64 k1, .int .i64 p1, .slice a' m c'] 118)
      have bM := Blk.mk w5 w5.heap.size 118 #[.int .i64 ep, .int .i64 k1, .int .i64 p1, .slice a' m c'] rfl
      have n6 := n5.trans al6
      have cL6 := (bB.new n6).cells
      have cM := bM.cells
      refine hK.out _ _ n6.turn (fun hH6 => ?_)
      simp only [Act.put, pA9, pB9, pC9]
      refine hw_call 1 (some 27) rfl rfl (by kernel_rfl) (by rfl) (fun K hK => ?_)
      go_simp
      refine hK.out _ _ hH6 (fun hH1 => ?_)
      simp only [Act.put, pA9, pB9, pC9]
      refine hw_call 8 (some 34) rfl rfl (by kernel_rfl) (by rfl) (fun K hK => ?_)
      have hrow := row9_new (row9_new hoL.row n5) al6
      have hov : OvB w5 w3.heap.size (EkV.pv ⟨⟨ep, k1, p1, xs⟩, a', c'⟩) xs := by
        unfold EkV.pv
        simp only [HX.out]
        exact ho5
      refine wp_apV _ (.tmp 27) (.tmp 33) rfl lo 4 48 (.agg #[.int .i64 0, .int .i64 0, .int .i64 0, .slice none 0 0]) Tryz.underlying45 hi hz0 hz1 hz2 rfl (by omega) (by omega) _ _ _ rfl hrow w5.heap.size [.int .i64 ep, .int .i64 k1, .int .i64 p1, .slice a' m c'] rfl (by simp [Value.oneCell']) rfl (by intro j u hu; rw [cM j, List.getElem?_toArray]; exact hu) (by have := HLV.out; omega) (by simp; omega) ?_
      intro v7 w7 hr7 hg7 hat7
      have hr7' : w7.ownsRow lo 118 4 v7 (V1 ++ [EkV.mk (Ek.mk ep k1 p1 xs) a' c']).length (cellsK (V1 ++ [EkV.mk (Ek.mk ep k1 p1 xs) a' c'])) := by
        rw [cellsK_snoc, List.length_append]
        simp only [EkV.cs, HX.out]
        exact hr7
      have hap := hoL.appended hlo n5 hov hby.out (by simp only [HX.out]; omega) al6 hr7' hg7
      obtain ⟨A2, c2, hv7, -, hy7⟩ := row9_form hr7
      rw [HLV.out] at hv7
      subst hv7
      have t67 := turn_of_grown hg7
      have tAll : Turn (fun i => i = NB ∨ (Value.slice A3 n c3).ownBlock = some i) w3 w7 := Turn.trans n6.turn t67 (fun i _ e => .inr e)
      have bB7 := (bB.new n6).turn t67 (fun e => blk_ne_row (bB.new n6) hrow (by decide) _ e rfl)
      have cB7 := bB7.cells
      have fB7 := bB7.frees
      have bB8 := bB7.set 4 (.slice A2 (n + 1) c2)
      have t8 := (Turn.refl (fun i => i = NB) w7).set (p := ⟨NB, 4, none⟩) rfl (.slice A2 (n + 1) c2)
      have hap8 := hap.turnB bB7 (by decide) (by decide) t8
      have tF := Turn.trans tAll t8 (fun i _ e => .inl e)
      refine hK.out _ _ tAll (fun hH7 => ?_)
      simp only [Act.put, pA9, pB9, pC9]
      refine' hw_t 9 (some 35) _ rfl rfl hH7 ?hy17 ?rest17
      case hy17 =>
        intro X hX
        go_simp
        try rfl
      simp only [Act.put, pA9, pB9, pC9]
      refine hw_call 10 none rfl rfl (by kernel_rfl) (by rfl) (fun K hK => ?_)
      go_simp
      refine hK.out undef _ tF (fun hS2 => ?_)
      refine wpAnyH_done (by kernel_rfl) ?_ _
      have bB9 : Blk (w7.setCell ⟨NB, 4, none⟩ (.slice A2 (n + 1) c2)) NB 74 #[.int .i64 id, .bool up, .int .i64 ro, .int .i64 ep, .slice A2 (n + 1) c2, .int .i64 su, .int .i64 ma, .int .i64 ot, .int .i64 co] := bB8
      generalize w7.setCell ⟨NB, 4, none⟩ (.slice A2 (n + 1) c2) = w4 at *
      obtain ⟨V2, hV2e⟩ : ∃ V2, V2 = V1 ++ [EkV.mk (Ek.mk ep k1 p1 xs) a' c'] := ⟨_, rfl⟩
      rw [← hV2e] at hap8
      have hV2 : V2.map EkV.r = (V.map EkV.r ++ [Ek.mk ep k1 p1 xs]) := by rw [hV2e, List.map_append, hV]; rfl
      have b14 := b13.turn tF (hE0 _ (by omega))
      have hw4 := hw3.before tF (by intro i hi e; exact hE0 i (by omega) e)
      have z4 := t8.size
      have hoF := hap8.up z4
      have c1 := b14.cells
      have f1 := b14.frees
      have cX := bB9.cells
      clear cBd cB7 fB7 bB8 bB7 bB hK hap hap8 hr7 hr7' hrow
      go_wp2
      refine bodyPost_ret (v := .agg #[.int .i64 0, .int .i64 id, .bool up, .int .i64 ro, .int .i64 ep, .slice A2 (n + 1) c2, .int .i64 su, .int .i64 ma, .int .i64 ot, .int .i64 co, .slice none 0 0]) (by simp [results, Tryz.results29, go_sem, c1]) rfl (nrAns_mk (U := V2) (Ms := []) HL2.out rfl hV2 rfl (NrOw.log (lo := lo) (hi := w4.heap.size) (OwL.turn (w := w4) (S := fun i => i = w.heap.size + 1 + 1) hoF ?t1 (by intro k hk _ e; omega)) (by omega) ?u1) ?n1)
      case t1 => exact set11 (S := fun i => i = w.heap.size + 1 + 1) w4 (w.heap.size + 1 + 1) rfl _ _ _ _ _ _ _ _ _ _ _
      case u1 => exact Nat.le_trans (by omega) (Turn.size (S := fun i => i = w.heap.size + 1 + 1) (set11 (S := fun i => i = w.heap.size + 1 + 1) w4 (w.heap.size + 1 + 1) rfl _ _ _ _ _ _ _ _ _ _ _))
      case n1 => exact Turn.trans (S := fun _ => False) (T := fun i => i = w.heap.size + 1 + 1) hw4 (set11 (S := fun i => i = w.heap.size + 1 + 1) w4 (w.heap.size + 1 + 1) rfl _ _ _ _ _ _ _ _ _ _ _) (fun i hi e => by omega)
    exact fun j hj => by cases hj
  exact fun j hj => by cases hj

end Go.Proofs.YtdbnmkffinhdjaaGreat
