/- What is proved here: lemmas and contracts that the text of the law reaches; each names its own conditions. -/
import Derived.Test.YtebkdaddndlmoaaGreatLC38
namespace Go.Proofs.YtebkdaddndlmoaaGreat
open Go.RowKit Go.Sort
set_option linter.unusedVariables false
set_option linter.unusedSimpArgs false
set_option maxRecDepth 100000
set_option maxHeartbeats 25600000

theorem sCrash_f (id : Int) (up : Bool) (ro ep su ma ot co : Int) (A : Option Addr) (n c : Nat) (V : List EkV) (w : World) (h : LgAt w A V) (hN : NlK V) (hn : V.length = n) (hm : n ≤ 2097152) (xk : Int) (z : Int) (hf : uF up (nF id up ro ep su ma ot co n (V.map EkV.r)) = z) (hz : ¬ z = 0) :
    Calls Tryz.prog 75 #[.agg #[.int .i64 id, .bool up, .int .i64 ro, .int .i64 ep, .slice A n c, .int .i64 su, .int .i64 ma, .int .i64 ot, .int .i64 co], .int .i64 xk] w (NrAns w z 0 false 0 0 0 0 0 0 [] []) := by
  have hw := ((New.refl w).alloc (.cells #[.int .i64 id, .bool up, .int .i64 ro, .int .i64 ep, .slice A n c, .int .i64 su, .int .i64 ma, .int .i64 ot, .int .i64 co] 108)).alloc (.cells #[.int .i64 0, .int .i64 0, .bool false, .int .i64 0, .int .i64 0, .slice none 0 0, .int .i64 0, .int .i64 0, .int .i64 0, .int .i64 0, .slice none 0 0] 110)
  have b0 := (Blk.mk w w.heap.size 108 #[.int .i64 id, .bool up, .int .i64 ro, .int .i64 ep, .slice A n c, .int .i64 su, .int .i64 ma, .int .i64 ot, .int .i64 co] rfl).alloc (.cells #[.int .i64 0, .int .i64 0, .bool false, .int .i64 0, .int .i64 0, .slice none 0 0, .int .i64 0, .int .i64 0, .int .i64 0, .int .i64 0, .slice none 0 0] 110)
  have b1 := Blk.mk (w.alloc (.cells #[.int .i64 id, .bool up, .int .i64 ro, .int .i64 ep, .slice A n c, .int .i64 su, .int .i64 ma, .int .i64 ot, .int .i64 co] 108)) (w.heap.size + 1) 110 #[.int .i64 0, .int .i64 0, .bool false, .int .i64 0, .int .i64 0, .slice none 0 0, .int .i64 0, .int .i64 0, .int .i64 0, .int .i64 0, .slice none 0 0] (by simp)
  have s0 : Hid (((w.alloc (.cells #[.int .i64 id, .bool up, .int .i64 ro, .int .i64 ep, .slice A n c, .int .i64 su, .int .i64 ma, .int .i64 ot, .int .i64 co] 108)).alloc (.cells #[.int .i64 0, .int .i64 0, .bool false, .int .i64 0, .int .i64 0, .slice none 0 0, .int .i64 0, .int .i64 0, .int .i64 0, .int .i64 0, .slice none 0 0] 110)).heap.size = w.heap.size + 1 + 1) := by unfold Hid; simp
  go_enter Tryz.func75, Tryz.ntmps75
  go_upto_region 1 with fail
  generalize (w.alloc (.cells #[.int .i64 id, .bool up, .int .i64 ro, .int .i64 ep, .slice A n c, .int .i64 su, .int .i64 ma, .int .i64 ot, .int .i64 co] 108)).alloc (.cells #[.int .i64 0, .int .i64 0, .bool false, .int .i64 0, .int .i64 0, .slice none 0 0, .int .i64 0, .int .i64 0, .int .i64 0, .int .i64 0, .slice none 0 0] 110) = w0 at *
  have S0 := s0.out
  have c0 := b0.cells
  go_wp2_with fail
  refine (asked_any z w.heap.size id up ro ep su ma ot co A n c V _ b0 (h.new hw) hn hm hf).mono ?_
  rintro e w1 ⟨rfl, hn1⟩
  have b11 := b1.new hn1
  have b01 := b0.new hn1
  have c01 := b01.cells
  have hw1 := hw.trans hn1
  clear c0
  have c1 := (b11).cells
  have f1 := (b11).frees
  go_wp2_with fail
  refine (bad12 z _).mono ?_
  rintro e wq ⟨rfl, hnq⟩
  have c1 := ((b11).new hnq).cells
  have f1 := ((b11).new hnq).frees
  go_wp2
  refine bodyPost_ret (v := .agg #[.int .i64 z, .int .i64 0, .bool false, .int .i64 0, .int .i64 0, .slice none 0 0, .int .i64 0, .int .i64 0, .int .i64 0, .int .i64 0, .slice none 0 0]) (by simp [results, Tryz.results75, go_sem, c1]) rfl (nrAns_bad z ?_)
  exact ((((((((((((hw1.trans hnq)).setCell (by simp; try omega) _).setCell (by simp; try omega) _).setCell (by simp; try omega) _).setCell (by simp; try omega) _).setCell (by simp; try omega) _).setCell (by simp; try omega) _).setCell (by simp; try omega) _).setCell (by simp; try omega) _).setCell (by simp; try omega) _).setCell (by simp; try omega) _).setCell (by simp; try omega) _

theorem sCrash_r (id : Int) (up : Bool) (ro ep su ma ot co : Int) (A : Option Addr) (n c : Nat) (V : List EkV) (w : World) (h : LgAt w A V) (hN : NlK V) (hn : V.length = n) (hm : n ≤ 2097152) (xk : Int) (hf : uF up (nF id up ro ep su ma ot co n (V.map EkV.r)) = 0) (hs0 : 0 ≤ su) (hs1 : su ≤ n) (hn1 : n ≤ 100) (hx : xk < 0 ∨ n - su < xk) :
    Calls Tryz.prog 75 #[.agg #[.int .i64 id, .bool up, .int .i64 ro, .int .i64 ep, .slice A n c, .int .i64 su, .int .i64 ma, .int .i64 ot, .int .i64 co], .int .i64 xk] w (NrAns w 3 0 false 0 0 0 0 0 0 [] []) := by
  have hw := ((New.refl w).alloc (.cells #[.int .i64 id, .bool up, .int .i64 ro, .int .i64 ep, .slice A n c, .int .i64 su, .int .i64 ma, .int .i64 ot, .int .i64 co] 108)).alloc (.cells #[.int .i64 0, .int .i64 0, .bool false, .int .i64 0, .int .i64 0, .slice none 0 0, .int .i64 0, .int .i64 0, .int .i64 0, .int .i64 0, .slice none 0 0] 110)
  have b0 := (Blk.mk w w.heap.size 108 #[.int .i64 id, .bool up, .int .i64 ro, .int .i64 ep, .slice A n c, .int .i64 su, .int .i64 ma, .int .i64 ot, .int .i64 co] rfl).alloc (.cells #[.int .i64 0, .int .i64 0, .bool false, .int .i64 0, .int .i64 0, .slice none 0 0, .int .i64 0, .int .i64 0, .int .i64 0, .int .i64 0, .slice none 0 0] 110)
  have b1 := Blk.mk (w.alloc (.cells #[.int .i64 id, .bool up, .int .i64 ro, .int .i64 ep, .slice A n c, .int .i64 su, .int .i64 ma, .int .i64 ot, .int .i64 co] 108)) (w.heap.size + 1) 110 #[.int .i64 0, .int .i64 0, .bool false, .int .i64 0, .int .i64 0, .slice none 0 0, .int .i64 0, .int .i64 0, .int .i64 0, .int .i64 0, .slice none 0 0] (by simp)
  have s0 : Hid (((w.alloc (.cells #[.int .i64 id, .bool up, .int .i64 ro, .int .i64 ep, .slice A n c, .int .i64 su, .int .i64 ma, .int .i64 ot, .int .i64 co] 108)).alloc (.cells #[.int .i64 0, .int .i64 0, .bool false, .int .i64 0, .int .i64 0, .slice none 0 0, .int .i64 0, .int .i64 0, .int .i64 0, .int .i64 0, .slice none 0 0] 110)).heap.size = w.heap.size + 1 + 1) := by unfold Hid; simp
  go_enter Tryz.func75, Tryz.ntmps75
  go_upto_region 1 with fail
  generalize (w.alloc (.cells #[.int .i64 id, .bool up, .int .i64 ro, .int .i64 ep, .slice A n c, .int .i64 su, .int .i64 ma, .int .i64 ot, .int .i64 co] 108)).alloc (.cells #[.int .i64 0, .int .i64 0, .bool false, .int .i64 0, .int .i64 0, .slice none 0 0, .int .i64 0, .int .i64 0, .int .i64 0, .int .i64 0, .slice none 0 0] 110) = w0 at *
  have S0 := s0.out
  have c0 := b0.cells
  go_wp2_with fail
  refine (asked_any 0 w.heap.size id up ro ep su ma ot co A n c V _ b0 (h.new hw) hn hm hf).mono ?_
  rintro e w1 ⟨rfl, hn1⟩
  have b11 := b1.new hn1
  have b01 := b0.new hn1
  have c01 := b01.cells
  have hw1 := hw.trans hn1
  clear c0
  go_wp2_with fail
  refine (in_no xk 0 (n - su) _ (by omega)).mono ?_
  rintro e wz ⟨rfl, hwz⟩
  obtain rfl := hwz.symm
  have c1 := (b11).cells
  have f1 := (b11).frees
  go_wp2_with fail
  refine (bad12 3 _).mono ?_
  rintro e wq ⟨rfl, hnq⟩
  have c1 := ((b11).new hnq).cells
  have f1 := ((b11).new hnq).frees
  go_wp2
  refine bodyPost_ret (v := .agg #[.int .i64 3, .int .i64 0, .bool false, .int .i64 0, .int .i64 0, .slice none 0 0, .int .i64 0, .int .i64 0, .int .i64 0, .int .i64 0, .slice none 0 0]) (by simp [results, Tryz.results75, go_sem, c1]) rfl (nrAns_bad 3 ?_)
  exact ((((((((((((hw1.trans hnq)).setCell (by simp; try omega) _).setCell (by simp; try omega) _).setCell (by simp; try omega) _).setCell (by simp; try omega) _).setCell (by simp; try omega) _).setCell (by simp; try omega) _).setCell (by simp; try omega) _).setCell (by simp; try omega) _).setCell (by simp; try omega) _).setCell (by simp; try omega) _).setCell (by simp; try omega) _

theorem sCrash_ok (id : Int) (up : Bool) (ro ep su ma ot co : Int) (A : Option Addr) (n c : Nat) (V : List EkV) (w : World) (h : LgAt w A V) (hN : NlK V) (hn : V.length = n) (hm : n ≤ 2097152) (xk : Int) (hf : uF up (nF id up ro ep su ma ot co n (V.map EkV.r)) = 0) (hs0 : 0 ≤ su) (hs1 : su ≤ n) (hn1 : n ≤ 100) (hx0 : 0 ≤ xk) (hx : xk ≤ n - su) (k : Nat) (hk : su + xk = k) (hkn : k ≤ n) :
    Calls Tryz.prog 75 #[.agg #[.int .i64 id, .bool up, .int .i64 ro, .int .i64 ep, .slice A n c, .int .i64 su, .int .i64 ma, .int .i64 ot, .int .i64 co], .int .i64 xk] w (NrAns w 0 id false 0 ep k 0 0 0 ((V.take k).map EkV.r) []) := by
  have HLn : Hid (V.length = n) := hn
  have hwk : IntKind.i64.wrap (k : Int) = k := by simp [IntKind.wrap, IntKind.signed, IntKind.bits]; omega
  have HLk : Hid ((V.take k).length = k) := by unfold Hid; rw [List.length_take]; omega
  have hw := ((New.refl w).alloc (.cells #[.int .i64 id, .bool up, .int .i64 ro, .int .i64 ep, .slice A n c, .int .i64 su, .int .i64 ma, .int .i64 ot, .int .i64 co] 108)).alloc (.cells #[.int .i64 0, .int .i64 0, .bool false, .int .i64 0, .int .i64 0, .slice none 0 0, .int .i64 0, .int .i64 0, .int .i64 0, .int .i64 0, .slice none 0 0] 110)
  have b0 := (Blk.mk w w.heap.size 108 #[.int .i64 id, .bool up, .int .i64 ro, .int .i64 ep, .slice A n c, .int .i64 su, .int .i64 ma, .int .i64 ot, .int .i64 co] rfl).alloc (.cells #[.int .i64 0, .int .i64 0, .bool false, .int .i64 0, .int .i64 0, .slice none 0 0, .int .i64 0, .int .i64 0, .int .i64 0, .int .i64 0, .slice none 0 0] 110)
  have b1 := Blk.mk (w.alloc (.cells #[.int .i64 id, .bool up, .int .i64 ro, .int .i64 ep, .slice A n c, .int .i64 su, .int .i64 ma, .int .i64 ot, .int .i64 co] 108)) (w.heap.size + 1) 110 #[.int .i64 0, .int .i64 0, .bool false, .int .i64 0, .int .i64 0, .slice none 0 0, .int .i64 0, .int .i64 0, .int .i64 0, .int .i64 0, .slice none 0 0] (by simp)
  have s0 : Hid (((w.alloc (.cells #[.int .i64 id, .bool up, .int .i64 ro, .int .i64 ep, .slice A n c, .int .i64 su, .int .i64 ma, .int .i64 ot, .int .i64 co] 108)).alloc (.cells #[.int .i64 0, .int .i64 0, .bool false, .int .i64 0, .int .i64 0, .slice none 0 0, .int .i64 0, .int .i64 0, .int .i64 0, .int .i64 0, .slice none 0 0] 110)).heap.size = w.heap.size + 1 + 1) := by unfold Hid; simp
  go_enter Tryz.func75, Tryz.ntmps75
  go_upto_region 1 with fail
  generalize (w.alloc (.cells #[.int .i64 id, .bool up, .int .i64 ro, .int .i64 ep, .slice A n c, .int .i64 su, .int .i64 ma, .int .i64 ot, .int .i64 co] 108)).alloc (.cells #[.int .i64 0, .int .i64 0, .bool false, .int .i64 0, .int .i64 0, .slice none 0 0, .int .i64 0, .int .i64 0, .int .i64 0, .int .i64 0, .slice none 0 0] 110) = w0 at *
  have S0 := s0.out
  have c0 := b0.cells
  go_wp2_with fail
  refine (asked_any 0 w.heap.size id up ro ep su ma ot co A n c V _ b0 (h.new hw) hn hm hf).mono ?_
  rintro e w1 ⟨rfl, hn1⟩
  have b11 := b1.new hn1
  have b01 := b0.new hn1
  have c01 := b01.cells
  have hw1 := hw.trans hn1
  clear c0
  go_wp2_with fail
  refine (in_yes xk 0 (n - su) _ (by omega)).mono ?_
  rintro e wz ⟨rfl, hwz⟩
  obtain rfl := hwz.symm
  have hn1' := hn1
  go_wp2_with fail
  refine (scopyNd_any id up ro ep su ma ot co A n c V _ (h.new hw1) hN hn hm).mono ?_
  rintro e w2 ⟨A', c', V', rfl, hV, ho, hn2⟩
  have hVT : (V'.take k).map EkV.r = (V.take k).map EkV.r := by rw [List.map_take, List.map_take, hV]
  obtain ⟨A2, c2, ef, -, hcase⟩ := ho.form
  have hl2 : V'.length = n := ho.lg.2
  rw [hl2] at ef hcase
  simp only [Value.slice.injEq, true_and] at ef
  obtain ⟨rfl, rfl⟩ := ef
  rcases hcase with ⟨rfl, rfl, rfl⟩ | ⟨g2, rfl, hcap, -, -, -, -⟩
  · obtain rfl : n = 0 := hl2.symm
    obtain rfl : k = 0 := by omega
    have hoT := ho
    have al := (New.refl w2).alloc (.cells #[.int .i64 id, .bool up, .int .i64 ro, .int .i64 ep, .slice none 0 0, .int .i64 su, .int .i64 ma, .int .i64 ot, .int .i64 co] 108)
    have b03 := (b01.new hn2).new al
    have b12 := (b11.new hn2).new al
    have bX := Blk.mk w2 w2.heap.size 108 #[.int .i64 id, .bool up, .int .i64 ro, .int .i64 ep, .slice none 0 0, .int .i64 su, .int .i64 ma, .int .i64 ot, .int .i64 co] rfl
    have ho3 := hoT.new al
    have hw3 := (hw1.trans hn2).trans al
    have z12 := hn1'.size
    have z21 := hn2.size
    have z23 := al.size
    have c02 := (b01.new hn2).cells
    have l02 := (b01.new hn2).lt
    clear ho hn2 c01
    go_upto_region 8 with fail
    generalize w2.alloc (.cells #[.int .i64 id, .bool up, .int .i64 ro, .int .i64 ep, .slice none 0 0, .int .i64 su, .int .i64 ma, .int .i64 ot, .int .i64 co] 108) = w3 at *
    clear c02
    have c1 := b12.cells
    have f1 := b12.frees
    have cX := bX.cells
    have c03 := b03.cells
    go_wp2
    refine bodyPost_ret (v := .agg #[.int .i64 0, .int .i64 id, .bool false, .int .i64 0, .int .i64 ep, .slice none 0 0, .int .i64 0, .int .i64 0, .int .i64 0, .int .i64 0, .slice none 0 0]) (by simp [results, Tryz.results75, go_sem, c1]) rfl (nrAns_mk (U := []) (Ms := []) (by simp) rfl hVT rfl (NrOw.log (lo := w1.heap.size) (hi := w2.heap.size) (OwL.turn (w := w3) (S := fun i => i = w.heap.size + 1) ho3 ?t1 (by intro j hk _ e; omega)) (by omega) ?u1) ?n1)
    case t1 => exact set11 (S := fun i => i = w.heap.size + 1) w3 (w.heap.size + 1) rfl _ _ _ _ _ _ _ _ _ _ _
    case u1 => exact Nat.le_trans (by omega) (Turn.size (S := fun i => i = w.heap.size + 1) (set11 (S := fun i => i = w.heap.size + 1) w3 (w.heap.size + 1) rfl _ _ _ _ _ _ _ _ _ _ _))
    case n1 => exact Turn.trans (S := fun _ => False) (T := fun i => i = w.heap.size + 1) hw3 (set11 (S := fun i => i = w.heap.size + 1) w3 (w.heap.size + 1) rfl _ _ _ _ _ _ _ _ _ _ _) (fun i hi e => by omega)
  · have hkc : k ≤ c' := by omega
    have hoT := ho.take k hkn (by intro e; cases e)
    have al := (New.refl w2).alloc (.cells #[.int .i64 id, .bool up, .int .i64 ro, .int .i64 ep, .slice (some ⟨g2, 0, none⟩) k c', .int .i64 su, .int .i64 ma, .int .i64 ot, .int .i64 co] 108)
    have b03 := (b01.new hn2).new al
    have b12 := (b11.new hn2).new al
    have bX := Blk.mk w2 w2.heap.size 108 #[.int .i64 id, .bool up, .int .i64 ro, .int .i64 ep, .slice (some ⟨g2, 0, none⟩) k c', .int .i64 su, .int .i64 ma, .int .i64 ot, .int .i64 co] rfl
    have ho3 := hoT.new al
    have hw3 := (hw1.trans hn2).trans al
    have z12 := hn1'.size
    have z21 := hn2.size
    have z23 := al.size
    have c02 := (b01.new hn2).cells
    have l02 := (b01.new hn2).lt
    clear ho hn2 c01
    go_upto_region 8 with fail
    generalize w2.alloc (.cells #[.int .i64 id, .bool up, .int .i64 ro, .int .i64 ep, .slice (some ⟨g2, 0, none⟩) k c', .int .i64 su, .int .i64 ma, .int .i64 ot, .int .i64 co] 108) = w3 at *
    clear c02
    have c1 := b12.cells
    have f1 := b12.frees
    have cX := bX.cells
    have c03 := b03.cells
    go_wp2
    refine bodyPost_ret (v := .agg #[.int .i64 0, .int .i64 id, .bool false, .int .i64 0, .int .i64 ep, .slice (some ⟨g2, 0, none⟩) k c', .int .i64 (k : Int), .int .i64 0, .int .i64 0, .int .i64 0, .slice none 0 0]) (by simp [results, Tryz.results75, go_sem, c1]) rfl (nrAns_mk (U := (V'.take k)) (Ms := []) (by simpa using HLk.out) rfl hVT rfl (NrOw.log (lo := w1.heap.size) (hi := w2.heap.size) (OwL.turn (w := w3) (S := fun i => i = w.heap.size + 1) ho3 ?t1 (by intro k hk _ e; omega)) (by omega) ?u1) ?n1)
    case t1 => exact set11 (S := fun i => i = w.heap.size + 1) w3 (w.heap.size + 1) rfl _ _ _ _ _ _ _ _ _ _ _
    case u1 => exact Nat.le_trans (by omega) (Turn.size (S := fun i => i = w.heap.size + 1) (set11 (S := fun i => i = w.heap.size + 1) w3 (w.heap.size + 1) rfl _ _ _ _ _ _ _ _ _ _ _))
    case n1 => exact Turn.trans (S := fun _ => False) (T := fun i => i = w.heap.size + 1) hw3 (set11 (S := fun i => i = w.heap.size + 1) w3 (w.heap.size + 1) rfl _ _ _ _ _ _ _ _ _ _ _) (fun i hi e => by omega)

end Go.Proofs.YtebkdaddndlmoaaGreat
