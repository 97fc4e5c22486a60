/- What is proved here: what the model's l12Hear answers where the mail is old or tells what is there. -/
import Derived.Test.YthnigcalboobgaaHM1
import Derived.Deep.RegionHeld3
namespace Go.Proofs.Ythnigcalboobgaa
open Go.ChangeShapes Go.WideShapes Go.ChangeAt Go.RowKit
set_option linter.unusedVariables false
set_option linter.unusedSimpArgs false
set_option maxRecDepth 100000

set_option maxHeartbeats 3200000 in
theorem sh_old (id : Int) (up : Bool) (ro ep su ma ot co : Int) (A : Option Addr) (n c : Nat) (V : List EkV) (kd tgt me at1 pr : Int) (has : Bool) (e1 k1 p1 : Int) (x : Option Addr) (m d : Nat) (xs : List Int) (w : World) (h : LgAt w A V) (hN : NlK V) (hn : V.length = n) (hm : n ≤ 2097152) (hx : BsAt w x xs) (hX : xs.length = m) (hnx : x = none → m = 0 ∧ d = 0) (hm1 : m ≤ 1048576) (hk : me < ep) (hd1 : decide (me < ep) = true) :
    Calls Try.prog 22 #[.agg #[.int .i64 id, .bool up, .int .i64 ro, .int .i64 ep, .slice A n c, .int .i64 su, .int .i64 ma, .int .i64 ot, .int .i64 co], .agg #[.int .i64 kd, .int .i64 tgt, .int .i64 me, .int .i64 at1, .int .i64 pr, .bool has, .int .i64 e1, .int .i64 k1, .int .i64 p1, .slice x m d]] w (NrA w ⟨0, id, up, ro, ep, su, ma, ot, co, V.map EkV.r, []⟩) := by
  have HLn : Hid (V.length = n) := hn
  have hw := (((New.refl w).alloc (.cells #[.int .i64 id, .bool up, .int .i64 ro, .int .i64 ep, .slice A n c, .int .i64 su, .int .i64 ma, .int .i64 ot, .int .i64 co] 36)).alloc (.cells #[.int .i64 kd, .int .i64 tgt, .int .i64 me, .int .i64 at1, .int .i64 pr, .bool has, .int .i64 e1, .int .i64 k1, .int .i64 p1, .slice x m d] 46)).alloc (.cells #[.int .i64 0, .int .i64 0, .bool false, .int .i64 0, .int .i64 0, .slice none 0 0, .int .i64 0, .int .i64 0, .int .i64 0, .int .i64 0, .slice none 0 0] 39)
  have b0 := ((Blk.mk w w.heap.size 36 #[.int .i64 id, .bool up, .int .i64 ro, .int .i64 ep, .slice A n c, .int .i64 su, .int .i64 ma, .int .i64 ot, .int .i64 co] rfl).alloc (.cells #[.int .i64 kd, .int .i64 tgt, .int .i64 me, .int .i64 at1, .int .i64 pr, .bool has, .int .i64 e1, .int .i64 k1, .int .i64 p1, .slice x m d] 46)).alloc (.cells #[.int .i64 0, .int .i64 0, .bool false, .int .i64 0, .int .i64 0, .slice none 0 0, .int .i64 0, .int .i64 0, .int .i64 0, .int .i64 0, .slice none 0 0] 39)
  have bM0 := (Blk.mk (w.alloc (.cells #[.int .i64 id, .bool up, .int .i64 ro, .int .i64 ep, .slice A n c, .int .i64 su, .int .i64 ma, .int .i64 ot, .int .i64 co] 36)) (w.heap.size + 1) 46 #[.int .i64 kd, .int .i64 tgt, .int .i64 me, .int .i64 at1, .int .i64 pr, .bool has, .int .i64 e1, .int .i64 k1, .int .i64 p1, .slice x m d] (by simp)).alloc (.cells #[.int .i64 0, .int .i64 0, .bool false, .int .i64 0, .int .i64 0, .slice none 0 0, .int .i64 0, .int .i64 0, .int .i64 0, .int .i64 0, .slice none 0 0] 39)
  have b1 := Blk.mk ((w.alloc (.cells #[.int .i64 id, .bool up, .int .i64 ro, .int .i64 ep, .slice A n c, .int .i64 su, .int .i64 ma, .int .i64 ot, .int .i64 co] 36)).alloc (.cells #[.int .i64 kd, .int .i64 tgt, .int .i64 me, .int .i64 at1, .int .i64 pr, .bool has, .int .i64 e1, .int .i64 k1, .int .i64 p1, .slice x m d] 46)) (w.heap.size + 1 + 1) 39 #[.int .i64 0, .int .i64 0, .bool false, .int .i64 0, .int .i64 0, .slice none 0 0, .int .i64 0, .int .i64 0, .int .i64 0, .int .i64 0, .slice none 0 0] (by simp)
  have s0 : Hid ((((w.alloc (.cells #[.int .i64 id, .bool up, .int .i64 ro, .int .i64 ep, .slice A n c, .int .i64 su, .int .i64 ma, .int .i64 ot, .int .i64 co] 36)).alloc (.cells #[.int .i64 kd, .int .i64 tgt, .int .i64 me, .int .i64 at1, .int .i64 pr, .bool has, .int .i64 e1, .int .i64 k1, .int .i64 p1, .slice x m d] 46)).alloc (.cells #[.int .i64 0, .int .i64 0, .bool false, .int .i64 0, .int .i64 0, .slice none 0 0, .int .i64 0, .int .i64 0, .int .i64 0, .int .i64 0, .slice none 0 0] 39)).heap.size = w.heap.size + 1 + 1 + 1) := by unfold Hid; simp
  go_enter Try.func22, Try.ntmps22
  go_upto_region 1 with fail
  generalize ((w.alloc (.cells #[.int .i64 id, .bool up, .int .i64 ro, .int .i64 ep, .slice A n c, .int .i64 su, .int .i64 ma, .int .i64 ot, .int .i64 co] 36)).alloc (.cells #[.int .i64 kd, .int .i64 tgt, .int .i64 me, .int .i64 at1, .int .i64 pr, .bool has, .int .i64 e1, .int .i64 k1, .int .i64 p1, .slice x m d] 46)).alloc (.cells #[.int .i64 0, .int .i64 0, .bool false, .int .i64 0, .int .i64 0, .slice none 0 0, .int .i64 0, .int .i64 0, .int .i64 0, .int .i64 0, .slice none 0 0] 39) = w0 at *
  have S0 := s0.out
  have c0 := b0.cells
  go_wp2_with fail
  refine (scopyNd_any id up ro ep su ma ot co A n c V _ (h.new hw) hN hn hm).mono ?_
  rintro e w2 ⟨A3, c3, V1, rfl, hV, ho0, hn2⟩
  have al := (New.refl w2).alloc (.cells #[.int .i64 0, .int .i64 id, .bool up, .int .i64 ro, .int .i64 ep, .slice A3 n c3, .int .i64 su, .int .i64 ma, .int .i64 ot, .int .i64 co, .slice none 0 0] 39)
  have bM := (bM0.new hn2).new al
  have bR := (b1.new hn2).new al
  have bX := Blk.mk w2 w2.heap.size 39 #[.int .i64 0, .int .i64 id, .bool up, .int .i64 ro, .int .i64 ep, .slice A3 n c3, .int .i64 su, .int .i64 ma, .int .i64 ot, .int .i64 co, .slice none 0 0] rfl
  have hoL := (ho0.new al).up al.size
  have hw3 := (hw.trans hn2).trans al
  have z12 := hn2.size
  have z23 := al.size
  have l3 := bX.lt
  clear ho0 hn2 c0 hw b0 bM0 b1
  go_upto_region 3 with fail
  generalize w2.alloc (.cells #[.int .i64 0, .int .i64 id, .bool up, .int .i64 ro, .int .i64 ep, .slice A3 n c3, .int .i64 su, .int .i64 ma, .int .i64 ot, .int .i64 co, .slice none 0 0] 39) = w3 at *
  generalize hNB : w2.heap.size = NB at *
  generalize hlo1 : w0.heap.size = lo at *
  refine hw_start (n := 7) (S := fun X => New w3 X) rfl (by kernel_rfl) ((New.refl _).drew) (fun hH => ?_)
  refine' hw_take 0 (some 13) _ rfl rfl (by kernel_rfl) (by kernel_rfl) (by kernel_rfl) (fun _ _ _ h => h) (by rfl) hH ?hy145 ?rest145
  case hy145 =>
    intro X hX
    go_simp
    try rfl
  simp only [Act.put, List.setIfInBounds_toArray, List.set_cons_zero, List.set_cons_succ]
  refine' hw_take 1 (some 14) _ rfl rfl (by kernel_rfl) (by kernel_rfl) (by kernel_rfl) (fun _ _ _ h => h) (by rfl) hH ?hy146 ?rest146
  case hy146 =>
    intro X hX
    have cX := (bM.new hX).cells
    go_simp
    try rfl
  simp only [Act.put, List.setIfInBounds_toArray, List.set_cons_zero, List.set_cons_succ]
  refine' hw_take 2 (some 15) _ rfl rfl (by kernel_rfl) (by kernel_rfl) (by kernel_rfl) (fun _ _ _ h => h) (by rfl) hH ?hy147 ?rest147
  case hy147 =>
    intro X hX
    go_simp
    try rfl
  simp only [Act.put, List.setIfInBounds_toArray, List.set_cons_zero, List.set_cons_succ]
  refine' hw_take 3 (some 16) _ rfl rfl (by kernel_rfl) (by kernel_rfl) (by kernel_rfl) (fun _ _ _ h => h) (by rfl) hH ?hy148 ?rest148
  case hy148 =>
    intro X hX
    go_simp
    try rfl
  simp only [Act.put, List.setIfInBounds_toArray, List.set_cons_zero, List.set_cons_succ]
  refine' hw_take 4 (some 17) _ rfl rfl (by kernel_rfl) (by kernel_rfl) (by kernel_rfl) (fun _ _ _ h => h) (by rfl) hH ?hy149 ?rest149
  case hy149 =>
    intro X hX
    go_simp
    try rfl
  simp only [Act.put, List.setIfInBounds_toArray, List.set_cons_zero, List.set_cons_succ]
  refine' hw_take 5 (some 18) _ rfl rfl (by kernel_rfl) (by kernel_rfl) (by kernel_rfl) (fun _ _ _ h => h) (by rfl) hH ?hy150 ?rest150
  case hy150 =>
    intro X hX
    have cX := (bX.new hX).cells
    go_simp
    try rfl
  simp only [Act.put, List.setIfInBounds_toArray, List.set_cons_zero, List.set_cons_succ]
  refine' hw_take 6 (some 19) (.bool true) rfl rfl (by kernel_rfl) (by kernel_rfl) (by kernel_rfl) (fun _ _ _ h => h) (by rfl) hH ?hyL151 ?restL151
  case hyL151 =>
    intro X hX
    go_simp
    try rfl
  simp only [Act.put, List.setIfInBounds_toArray, List.set_cons_zero, List.set_cons_succ]
  refine wpAnyH_done (by kernel_rfl) ?_ _
  have bM4 := bM.new hH
  have bR4 := bR.new hH
  have bX4 := bX.new hH
  have hoL4 := hoL.new hH
  have hw4 := hw3.trans hH
  have z4 : Hid (w3.drew.heap.size = w3.heap.size) := rfl
  clear hH bM bR bX
  try clear cX cM
  generalize w3.drew = w4 at *
  have Z4 := z4.out
  have cX := bX4.cells
  have cM := bM4.cells
  have c1 := bR4.cells
  have f1 := bR4.frees
  go_wp2
  refine bodyPost_ret (v := .agg #[.int .i64 0, .int .i64 id, .bool up, .int .i64 ro, .int .i64 ep, .slice A3 n c3, .int .i64 su, .int .i64 ma, .int .i64 ot, .int .i64 co, .slice none 0 0]) (by simp [results, Try.results22, go_sem, c1]) rfl (nrAns_mk (U := V1) (Ms := []) (by simpa using HLn.out) rfl hV rfl (NrOw.log (lo := lo) (hi := w3.heap.size) (OwL.turn (w := w4) (S := fun i => i = (w.heap.size + 1 + 1)) hoL4 ?t1 (by intro k hk _ e; omega)) (by omega) ?u1) ?n1)
  case t1 => exact set11 (S := fun i => i = (w.heap.size + 1 + 1)) w4 (w.heap.size + 1 + 1) rfl _ _ _ _ _ _ _ _ _ _ _
  case u1 => exact Nat.le_trans (by omega) (Turn.size (S := fun i => i = (w.heap.size + 1 + 1)) (set11 (S := fun i => i = (w.heap.size + 1 + 1)) w4 (w.heap.size + 1 + 1) rfl _ _ _ _ _ _ _ _ _ _ _))
  case n1 => exact Turn.trans (S := fun _ => False) (T := fun i => i = (w.heap.size + 1 + 1)) hw4 (set11 (S := fun i => i = (w.heap.size + 1 + 1)) w4 (w.heap.size + 1 + 1) rfl _ _ _ _ _ _ _ _ _ _ _) (fun i hi e => by omega)

set_option maxHeartbeats 3200000 in
theorem sh_tn (id : Int) (up : Bool) (ro ep su ma ot co : Int) (A : Option Addr) (n c : Nat) (V : List EkV) (tgt me : Int) (o : Nat) (pr : Int) (has : Bool) (e1 k1 p1 : Int) (x : Option Addr) (m d : Nat) (xs : List Int) (w : World) (h : LgAt w A V) (hN : NlK V) (hn : V.length = n) (hm : n ≤ 2097152) (hx : BsAt w x xs) (hX : xs.length = m) (hnx : x = none → m = 0 ∧ d = 0) (hm1 : m ≤ 1048576) (hk : ep < me) (hd1 : decide (me < ep) = false) (hd2 : decide (ep < me) = true) :
    Calls Try.prog 22 #[.agg #[.int .i64 id, .bool up, .int .i64 ro, .int .i64 ep, .slice A n c, .int .i64 su, .int .i64 ma, .int .i64 ot, .int .i64 co], .agg #[.int .i64 2, .int .i64 tgt, .int .i64 me, .int .i64 (o : Int), .int .i64 pr, .bool has, .int .i64 e1, .int .i64 k1, .int .i64 p1, .slice x m d]] w (NrA w ⟨0, id, up, 0, me, su, 0, 0, co, V.map EkV.r, []⟩) := by
  have HLn : Hid (V.length = n) := hn
  have hw := (((New.refl w).alloc (.cells #[.int .i64 id, .bool up, .int .i64 ro, .int .i64 ep, .slice A n c, .int .i64 su, .int .i64 ma, .int .i64 ot, .int .i64 co] 36)).alloc (.cells #[.int .i64 2, .int .i64 tgt, .int .i64 me, .int .i64 (o : Int), .int .i64 pr, .bool has, .int .i64 e1, .int .i64 k1, .int .i64 p1, .slice x m d] 46)).alloc (.cells #[.int .i64 0, .int .i64 0, .bool false, .int .i64 0, .int .i64 0, .slice none 0 0, .int .i64 0, .int .i64 0, .int .i64 0, .int .i64 0, .slice none 0 0] 39)
  have b0 := ((Blk.mk w w.heap.size 36 #[.int .i64 id, .bool up, .int .i64 ro, .int .i64 ep, .slice A n c, .int .i64 su, .int .i64 ma, .int .i64 ot, .int .i64 co] rfl).alloc (.cells #[.int .i64 2, .int .i64 tgt, .int .i64 me, .int .i64 (o : Int), .int .i64 pr, .bool has, .int .i64 e1, .int .i64 k1, .int .i64 p1, .slice x m d] 46)).alloc (.cells #[.int .i64 0, .int .i64 0, .bool false, .int .i64 0, .int .i64 0, .slice none 0 0, .int .i64 0, .int .i64 0, .int .i64 0, .int .i64 0, .slice none 0 0] 39)
  have bM0 := (Blk.mk (w.alloc (.cells #[.int .i64 id, .bool up, .int .i64 ro, .int .i64 ep, .slice A n c, .int .i64 su, .int .i64 ma, .int .i64 ot, .int .i64 co] 36)) (w.heap.size + 1) 46 #[.int .i64 2, .int .i64 tgt, .int .i64 me, .int .i64 (o : Int), .int .i64 pr, .bool has, .int .i64 e1, .int .i64 k1, .int .i64 p1, .slice x m d] (by simp)).alloc (.cells #[.int .i64 0, .int .i64 0, .bool false, .int .i64 0, .int .i64 0, .slice none 0 0, .int .i64 0, .int .i64 0, .int .i64 0, .int .i64 0, .slice none 0 0] 39)
  have b1 := Blk.mk ((w.alloc (.cells #[.int .i64 id, .bool up, .int .i64 ro, .int .i64 ep, .slice A n c, .int .i64 su, .int .i64 ma, .int .i64 ot, .int .i64 co] 36)).alloc (.cells #[.int .i64 2, .int .i64 tgt, .int .i64 me, .int .i64 (o : Int), .int .i64 pr, .bool has, .int .i64 e1, .int .i64 k1, .int .i64 p1, .slice x m d] 46)) (w.heap.size + 1 + 1) 39 #[.int .i64 0, .int .i64 0, .bool false, .int .i64 0, .int .i64 0, .slice none 0 0, .int .i64 0, .int .i64 0, .int .i64 0, .int .i64 0, .slice none 0 0] (by simp)
  have s0 : Hid ((((w.alloc (.cells #[.int .i64 id, .bool up, .int .i64 ro, .int .i64 ep, .slice A n c, .int .i64 su, .int .i64 ma, .int .i64 ot, .int .i64 co] 36)).alloc (.cells #[.int .i64 2, .int .i64 tgt, .int .i64 me, .int .i64 (o : Int), .int .i64 pr, .bool has, .int .i64 e1, .int .i64 k1, .int .i64 p1, .slice x m d] 46)).alloc (.cells #[.int .i64 0, .int .i64 0, .bool false, .int .i64 0, .int .i64 0, .slice none 0 0, .int .i64 0, .int .i64 0, .int .i64 0, .int .i64 0, .slice none 0 0] 39)).heap.size = w.heap.size + 1 + 1 + 1) := by unfold Hid; simp
  go_enter Try.func22, Try.ntmps22
  go_upto_region 1 with fail
  generalize ((w.alloc (.cells #[.int .i64 id, .bool up, .int .i64 ro, .int .i64 ep, .slice A n c, .int .i64 su, .int .i64 ma, .int .i64 ot, .int .i64 co] 36)).alloc (.cells #[.int .i64 2, .int .i64 tgt, .int .i64 me, .int .i64 (o : Int), .int .i64 pr, .bool has, .int .i64 e1, .int .i64 k1, .int .i64 p1, .slice x m d] 46)).alloc (.cells #[.int .i64 0, .int .i64 0, .bool false, .int .i64 0, .int .i64 0, .slice none 0 0, .int .i64 0, .int .i64 0, .int .i64 0, .int .i64 0, .slice none 0 0] 39) = w0 at *
  have S0 := s0.out
  have c0 := b0.cells
  go_wp2_with fail
  refine (scopyNd_any id up ro ep su ma ot co A n c V _ (h.new hw) hN hn hm).mono ?_
  rintro e w2 ⟨A3, c3, V1, rfl, hV, ho0, hn2⟩
  have al := (New.refl w2).alloc (.cells #[.int .i64 0, .int .i64 id, .bool up, .int .i64 ro, .int .i64 ep, .slice A3 n c3, .int .i64 su, .int .i64 ma, .int .i64 ot, .int .i64 co, .slice none 0 0] 39)
  have bM := (bM0.new hn2).new al
  have bR := (b1.new hn2).new al
  have bX := Blk.mk w2 w2.heap.size 39 #[.int .i64 0, .int .i64 id, .bool up, .int .i64 ro, .int .i64 ep, .slice A3 n c3, .int .i64 su, .int .i64 ma, .int .i64 ot, .int .i64 co, .slice none 0 0] rfl
  have hoL := (ho0.new al).up al.size
  have hw3 := (hw.trans hn2).trans al
  have z12 := hn2.size
  have z23 := al.size
  have l3 := bX.lt
  clear ho0 hn2 c0 hw b0 bM0 b1
  go_upto_region 3 with fail
  generalize w2.alloc (.cells #[.int .i64 0, .int .i64 id, .bool up, .int .i64 ro, .int .i64 ep, .slice A3 n c3, .int .i64 su, .int .i64 ma, .int .i64 ot, .int .i64 co, .slice none 0 0] 39) = w3 at *
  generalize hNB : w2.heap.size = NB at *
  generalize hlo1 : w0.heap.size = lo at *
  refine hw_start (n := 7) (S := fun X => New w3 X) rfl (by kernel_rfl) ((New.refl _).drew) (fun hH => ?_)
  refine' hw_take 0 (some 13) _ rfl rfl (by kernel_rfl) (by kernel_rfl) (by kernel_rfl) (fun _ _ _ h => h) (by rfl) hH ?hy152 ?rest152
  case hy152 =>
    intro X hX
    go_simp
    try rfl
  simp only [Act.put, List.setIfInBounds_toArray, List.set_cons_zero, List.set_cons_succ]
  refine' hw_take 1 (some 14) _ rfl rfl (by kernel_rfl) (by kernel_rfl) (by kernel_rfl) (fun _ _ _ h => h) (by rfl) hH ?hy153 ?rest153
  case hy153 =>
    intro X hX
    have cX := (bM.new hX).cells
    go_simp
    try rfl
  simp only [Act.put, List.setIfInBounds_toArray, List.set_cons_zero, List.set_cons_succ]
  refine' hw_take 2 (some 15) _ rfl rfl (by kernel_rfl) (by kernel_rfl) (by kernel_rfl) (fun _ _ _ h => h) (by rfl) hH ?hy154 ?rest154
  case hy154 =>
    intro X hX
    go_simp
    try rfl
  simp only [Act.put, List.setIfInBounds_toArray, List.set_cons_zero, List.set_cons_succ]
  refine' hw_take 3 (some 16) _ rfl rfl (by kernel_rfl) (by kernel_rfl) (by kernel_rfl) (fun _ _ _ h => h) (by rfl) hH ?hy155 ?rest155
  case hy155 =>
    intro X hX
    go_simp
    try rfl
  simp only [Act.put, List.setIfInBounds_toArray, List.set_cons_zero, List.set_cons_succ]
  refine' hw_take 4 (some 17) _ rfl rfl (by kernel_rfl) (by kernel_rfl) (by kernel_rfl) (fun _ _ _ h => h) (by rfl) hH ?hy156 ?rest156
  case hy156 =>
    intro X hX
    go_simp
    try rfl
  simp only [Act.put, List.setIfInBounds_toArray, List.set_cons_zero, List.set_cons_succ]
  refine' hw_take 5 (some 18) _ rfl rfl (by kernel_rfl) (by kernel_rfl) (by kernel_rfl) (fun _ _ _ h => h) (by rfl) hH ?hy157 ?rest157
  case hy157 =>
    intro X hX
    have cX := (bX.new hX).cells
    go_simp
    try rfl
  simp only [Act.put, List.setIfInBounds_toArray, List.set_cons_zero, List.set_cons_succ]
  refine' hw_take 6 (some 19) (.bool false) rfl rfl (by kernel_rfl) (by kernel_rfl) (by kernel_rfl) (fun _ _ _ h => h) (by rfl) hH ?hyL158 ?restL158
  case hyL158 =>
    intro X hX
    go_simp
    try rfl
  simp only [Act.put, List.setIfInBounds_toArray, List.set_cons_zero, List.set_cons_succ]
  refine wpAnyH_done (by kernel_rfl) ?_ _
  have bM4 := bM.new hH
  have bR4 := bR.new hH
  have bX4 := bX.new hH
  have hoL4 := hoL.new hH
  have hw4 := hw3.trans hH
  have z4 : Hid (w3.drew.heap.size = w3.heap.size) := rfl
  clear hH bM bR bX
  try clear cX cM
  generalize w3.drew = w4 at *
  have Z4 := z4.out
  have cX := bX4.cells
  have cM := bM4.cells
  go_upto_region 5 with fail
  refine hw_start (n := 7) (S := fun X => New w4 X) rfl (by kernel_rfl) ((New.refl _).drew) (fun hH => ?_)
  refine' hw_take 0 (some 21) _ rfl rfl (by kernel_rfl) (by kernel_rfl) (by kernel_rfl) (fun _ _ _ h => h) (by rfl) hH ?hy159 ?rest159
  case hy159 =>
    intro X hX
    go_simp
    try rfl
  simp only [Act.put, List.setIfInBounds_toArray, List.set_cons_zero, List.set_cons_succ]
  refine' hw_take 1 (some 22) _ rfl rfl (by kernel_rfl) (by kernel_rfl) (by kernel_rfl) (fun _ _ _ h => h) (by rfl) hH ?hy160 ?rest160
  case hy160 =>
    intro X hX
    have cX := (bM4.new hX).cells
    go_simp
    try rfl
  simp only [Act.put, List.setIfInBounds_toArray, List.set_cons_zero, List.set_cons_succ]
  refine' hw_take 2 (some 23) _ rfl rfl (by kernel_rfl) (by kernel_rfl) (by kernel_rfl) (fun _ _ _ h => h) (by rfl) hH ?hy161 ?rest161
  case hy161 =>
    intro X hX
    go_simp
    try rfl
  simp only [Act.put, List.setIfInBounds_toArray, List.set_cons_zero, List.set_cons_succ]
  refine' hw_take 3 (some 24) _ rfl rfl (by kernel_rfl) (by kernel_rfl) (by kernel_rfl) (fun _ _ _ h => h) (by rfl) hH ?hy162 ?rest162
  case hy162 =>
    intro X hX
    go_simp
    try rfl
  simp only [Act.put, List.setIfInBounds_toArray, List.set_cons_zero, List.set_cons_succ]
  refine' hw_take 4 (some 25) _ rfl rfl (by kernel_rfl) (by kernel_rfl) (by kernel_rfl) (fun _ _ _ h => h) (by rfl) hH ?hy163 ?rest163
  case hy163 =>
    intro X hX
    go_simp
    try rfl
  simp only [Act.put, List.setIfInBounds_toArray, List.set_cons_zero, List.set_cons_succ]
  refine' hw_take 5 (some 26) _ rfl rfl (by kernel_rfl) (by kernel_rfl) (by kernel_rfl) (fun _ _ _ h => h) (by rfl) hH ?hy164 ?rest164
  case hy164 =>
    intro X hX
    have cX := (bX4.new hX).cells
    go_simp
    try rfl
  simp only [Act.put, List.setIfInBounds_toArray, List.set_cons_zero, List.set_cons_succ]
  refine' hw_take 6 (some 27) (.bool true) rfl rfl (by kernel_rfl) (by kernel_rfl) (by kernel_rfl) (fun _ _ _ h => h) (by rfl) hH ?hyL165 ?restL165
  case hyL165 =>
    intro X hX
    go_simp
    try rfl
  simp only [Act.put, List.setIfInBounds_toArray, List.set_cons_zero, List.set_cons_succ]
  refine wpAnyH_done (by kernel_rfl) ?_ _
  have bM5 := bM4.new hH
  have bR5 := bR4.new hH
  have bX5 := bX4.new hH
  have hoL5 := hoL4.new hH
  have hw5 := hw4.trans hH
  have z5 : Hid (w4.drew.heap.size = w4.heap.size) := rfl
  clear hH bM4 bR4 bX4
  try clear cX cM
  generalize w4.drew = w5 at *
  have Z5 := z5.out
  have cX := bX5.cells
  have cM := bM5.cells
  have fX := bX5.frees
  have bX6 : Blk ((((w5.setCell ⟨NB, 3, none⟩ (.int .i64 0)).setCell ⟨NB, 4, none⟩ (.int .i64 me)).setCell ⟨NB, 7, none⟩ (.int .i64 0)).setCell ⟨NB, 8, none⟩ (.int .i64 0)) NB 39 #[.int .i64 0, .int .i64 id, .bool up, .int .i64 0, .int .i64 me, .slice A3 n c3, .int .i64 su, .int .i64 0, .int .i64 0, .int .i64 co, .slice none 0 0] := (((bX5.set 3 (.int .i64 0)).set 4 (.int .i64 me)).set 7 (.int .i64 0)).set 8 (.int .i64 0)
  have t6 : Turn (fun i => i = NB) w5 ((((w5.setCell ⟨NB, 3, none⟩ (.int .i64 0)).setCell ⟨NB, 4, none⟩ (.int .i64 me)).setCell ⟨NB, 7, none⟩ (.int .i64 0)).setCell ⟨NB, 8, none⟩ (.int .i64 0)) := ((((Turn.refl (fun i => i = NB) w5).set (p := ⟨NB, 3, none⟩) rfl (.int .i64 0)).set (p := ⟨NB, 4, none⟩) rfl (.int .i64 me)).set (p := ⟨NB, 7, none⟩) rfl (.int .i64 0)).set (p := ⟨NB, 8, none⟩) rfl (.int .i64 0)
  have hoL6 := (hoL5.turnB bX5 (by decide) (by decide) t6)
  have bM6 := bM5.turn t6 (by omega)
  have bR6 := bR5.turn t6 (by omega)
  have hw6 := hw5.before t6 (by intro i hi e; omega)
  have z6 := t6.size
  go_upto_region 10 with fail
  clear cX cM fX
  generalize (((w5.setCell ⟨NB, 3, none⟩ (.int .i64 0)).setCell ⟨NB, 4, none⟩ (.int .i64 me)).setCell ⟨NB, 7, none⟩ (.int .i64 0)).setCell ⟨NB, 8, none⟩ (.int .i64 0) = w6 at *
  have cX := bX6.cells
  have cM := bM6.cells
  have c1 := bR6.cells
  have f1 := bR6.frees
  go_wp2
  refine bodyPost_ret (v := .agg #[.int .i64 0, .int .i64 id, .bool up, .int .i64 0, .int .i64 me, .slice A3 n c3, .int .i64 su, .int .i64 0, .int .i64 0, .int .i64 co, .slice none 0 0]) (by simp [results, Try.results22, go_sem, c1]) rfl (nrAns_mk (U := V1) (Ms := []) (by simpa using HLn.out) rfl hV rfl (NrOw.log (lo := lo) (hi := w3.heap.size) (OwL.turn (w := w6) (S := fun i => i = (w.heap.size + 1 + 1)) hoL6 ?t1 (by intro k hk _ e; omega)) (by omega) ?u1) ?n1)
  case t1 => exact set11 (S := fun i => i = (w.heap.size + 1 + 1)) w6 (w.heap.size + 1 + 1) rfl _ _ _ _ _ _ _ _ _ _ _
  case u1 => exact Nat.le_trans (by omega) (Turn.size (S := fun i => i = (w.heap.size + 1 + 1)) (set11 (S := fun i => i = (w.heap.size + 1 + 1)) w6 (w.heap.size + 1 + 1) rfl _ _ _ _ _ _ _ _ _ _ _))
  case n1 => exact Turn.trans (S := fun _ => False) (T := fun i => i = (w.heap.size + 1 + 1)) hw6 (set11 (S := fun i => i = (w.heap.size + 1 + 1)) w6 (w.heap.size + 1 + 1) rfl _ _ _ _ _ _ _ _ _ _ _) (fun i hi e => by omega)

set_option maxHeartbeats 3200000 in
theorem sh_te (id : Int) (up : Bool) (ro ep su ma ot co : Int) (A : Option Addr) (n c : Nat) (V : List EkV) (tgt me : Int) (o : Nat) (pr : Int) (has : Bool) (e1 k1 p1 : Int) (x : Option Addr) (m d : Nat) (xs : List Int) (w : World) (h : LgAt w A V) (hN : NlK V) (hn : V.length = n) (hm : n ≤ 2097152) (hx : BsAt w x xs) (hX : xs.length = m) (hnx : x = none → m = 0 ∧ d = 0) (hm1 : m ≤ 1048576) (hk : me = ep) (hd1 : decide (me < ep) = false) (hd2 : decide (ep < me) = false) (hr : ¬ ro = 1) :
    Calls Try.prog 22 #[.agg #[.int .i64 id, .bool up, .int .i64 ro, .int .i64 ep, .slice A n c, .int .i64 su, .int .i64 ma, .int .i64 ot, .int .i64 co], .agg #[.int .i64 2, .int .i64 tgt, .int .i64 me, .int .i64 (o : Int), .int .i64 pr, .bool has, .int .i64 e1, .int .i64 k1, .int .i64 p1, .slice x m d]] w (NrA w ⟨0, id, up, ro, ep, su, ma, ot, co, V.map EkV.r, []⟩) := by
  clear hk
  have gr : (ro == 1) = false := by simp [hr]
  have HLn : Hid (V.length = n) := hn
  have hw := (((New.refl w).alloc (.cells #[.int .i64 id, .bool up, .int .i64 ro, .int .i64 ep, .slice A n c, .int .i64 su, .int .i64 ma, .int .i64 ot, .int .i64 co] 36)).alloc (.cells #[.int .i64 2, .int .i64 tgt, .int .i64 me, .int .i64 (o : Int), .int .i64 pr, .bool has, .int .i64 e1, .int .i64 k1, .int .i64 p1, .slice x m d] 46)).alloc (.cells #[.int .i64 0, .int .i64 0, .bool false, .int .i64 0, .int .i64 0, .slice none 0 0, .int .i64 0, .int .i64 0, .int .i64 0, .int .i64 0, .slice none 0 0] 39)
  have b0 := ((Blk.mk w w.heap.size 36 #[.int .i64 id, .bool up, .int .i64 ro, .int .i64 ep, .slice A n c, .int .i64 su, .int .i64 ma, .int .i64 ot, .int .i64 co] rfl).alloc (.cells #[.int .i64 2, .int .i64 tgt, .int .i64 me, .int .i64 (o : Int), .int .i64 pr, .bool has, .int .i64 e1, .int .i64 k1, .int .i64 p1, .slice x m d] 46)).alloc (.cells #[.int .i64 0, .int .i64 0, .bool false, .int .i64 0, .int .i64 0, .slice none 0 0, .int .i64 0, .int .i64 0, .int .i64 0, .int .i64 0, .slice none 0 0] 39)
  have bM0 := (Blk.mk (w.alloc (.cells #[.int .i64 id, .bool up, .int .i64 ro, .int .i64 ep, .slice A n c, .int .i64 su, .int .i64 ma, .int .i64 ot, .int .i64 co] 36)) (w.heap.size + 1) 46 #[.int .i64 2, .int .i64 tgt, .int .i64 me, .int .i64 (o : Int), .int .i64 pr, .bool has, .int .i64 e1, .int .i64 k1, .int .i64 p1, .slice x m d] (by simp)).alloc (.cells #[.int .i64 0, .int .i64 0, .bool false, .int .i64 0, .int .i64 0, .slice none 0 0, .int .i64 0, .int .i64 0, .int .i64 0, .int .i64 0, .slice none 0 0] 39)
  have b1 := Blk.mk ((w.alloc (.cells #[.int .i64 id, .bool up, .int .i64 ro, .int .i64 ep, .slice A n c, .int .i64 su, .int .i64 ma, .int .i64 ot, .int .i64 co] 36)).alloc (.cells #[.int .i64 2, .int .i64 tgt, .int .i64 me, .int .i64 (o : Int), .int .i64 pr, .bool has, .int .i64 e1, .int .i64 k1, .int .i64 p1, .slice x m d] 46)) (w.heap.size + 1 + 1) 39 #[.int .i64 0, .int .i64 0, .bool false, .int .i64 0, .int .i64 0, .slice none 0 0, .int .i64 0, .int .i64 0, .int .i64 0, .int .i64 0, .slice none 0 0] (by simp)
  have s0 : Hid ((((w.alloc (.cells #[.int .i64 id, .bool up, .int .i64 ro, .int .i64 ep, .slice A n c, .int .i64 su, .int .i64 ma, .int .i64 ot, .int .i64 co] 36)).alloc (.cells #[.int .i64 2, .int .i64 tgt, .int .i64 me, .int .i64 (o : Int), .int .i64 pr, .bool has, .int .i64 e1, .int .i64 k1, .int .i64 p1, .slice x m d] 46)).alloc (.cells #[.int .i64 0, .int .i64 0, .bool false, .int .i64 0, .int .i64 0, .slice none 0 0, .int .i64 0, .int .i64 0, .int .i64 0, .int .i64 0, .slice none 0 0] 39)).heap.size = w.heap.size + 1 + 1 + 1) := by unfold Hid; simp
  go_enter Try.func22, Try.ntmps22
  go_upto_region 1 with fail
  generalize ((w.alloc (.cells #[.int .i64 id, .bool up, .int .i64 ro, .int .i64 ep, .slice A n c, .int .i64 su, .int .i64 ma, .int .i64 ot, .int .i64 co] 36)).alloc (.cells #[.int .i64 2, .int .i64 tgt, .int .i64 me, .int .i64 (o : Int), .int .i64 pr, .bool has, .int .i64 e1, .int .i64 k1, .int .i64 p1, .slice x m d] 46)).alloc (.cells #[.int .i64 0, .int .i64 0, .bool false, .int .i64 0, .int .i64 0, .slice none 0 0, .int .i64 0, .int .i64 0, .int .i64 0, .int .i64 0, .slice none 0 0] 39) = w0 at *
  have S0 := s0.out
  have c0 := b0.cells
  go_wp2_with fail
  refine (scopyNd_any id up ro ep su ma ot co A n c V _ (h.new hw) hN hn hm).mono ?_
  rintro e w2 ⟨A3, c3, V1, rfl, hV, ho0, hn2⟩
  have al := (New.refl w2).alloc (.cells #[.int .i64 0, .int .i64 id, .bool up, .int .i64 ro, .int .i64 ep, .slice A3 n c3, .int .i64 su, .int .i64 ma, .int .i64 ot, .int .i64 co, .slice none 0 0] 39)
  have bM := (bM0.new hn2).new al
  have bR := (b1.new hn2).new al
  have bX := Blk.mk w2 w2.heap.size 39 #[.int .i64 0, .int .i64 id, .bool up, .int .i64 ro, .int .i64 ep, .slice A3 n c3, .int .i64 su, .int .i64 ma, .int .i64 ot, .int .i64 co, .slice none 0 0] rfl
  have hoL := (ho0.new al).up al.size
  have hw3 := (hw.trans hn2).trans al
  have z12 := hn2.size
  have z23 := al.size
  have l3 := bX.lt
  clear ho0 hn2 c0 hw b0 bM0 b1
  go_upto_region 3 with fail
  generalize w2.alloc (.cells #[.int .i64 0, .int .i64 id, .bool up, .int .i64 ro, .int .i64 ep, .slice A3 n c3, .int .i64 su, .int .i64 ma, .int .i64 ot, .int .i64 co, .slice none 0 0] 39) = w3 at *
  generalize hNB : w2.heap.size = NB at *
  generalize hlo1 : w0.heap.size = lo at *
  refine hw_start (n := 7) (S := fun X => New w3 X) rfl (by kernel_rfl) ((New.refl _).drew) (fun hH => ?_)
  refine' hw_take 0 (some 13) _ rfl rfl (by kernel_rfl) (by kernel_rfl) (by kernel_rfl) (fun _ _ _ h => h) (by rfl) hH ?hy166 ?rest166
  case hy166 =>
    intro X hX
    go_simp
    try rfl
  simp only [Act.put, List.setIfInBounds_toArray, List.set_cons_zero, List.set_cons_succ]
  refine' hw_take 1 (some 14) _ rfl rfl (by kernel_rfl) (by kernel_rfl) (by kernel_rfl) (fun _ _ _ h => h) (by rfl) hH ?hy167 ?rest167
  case hy167 =>
    intro X hX
    have cX := (bM.new hX).cells
    go_simp
    try rfl
  simp only [Act.put, List.setIfInBounds_toArray, List.set_cons_zero, List.set_cons_succ]
  refine' hw_take 2 (some 15) _ rfl rfl (by kernel_rfl) (by kernel_rfl) (by kernel_rfl) (fun _ _ _ h => h) (by rfl) hH ?hy168 ?rest168
  case hy168 =>
    intro X hX
    go_simp
    try rfl
  simp only [Act.put, List.setIfInBounds_toArray, List.set_cons_zero, List.set_cons_succ]
  refine' hw_take 3 (some 16) _ rfl rfl (by kernel_rfl) (by kernel_rfl) (by kernel_rfl) (fun _ _ _ h => h) (by rfl) hH ?hy169 ?rest169
  case hy169 =>
    intro X hX
    go_simp
    try rfl
  simp only [Act.put, List.setIfInBounds_toArray, List.set_cons_zero, List.set_cons_succ]
  refine' hw_take 4 (some 17) _ rfl rfl (by kernel_rfl) (by kernel_rfl) (by kernel_rfl) (fun _ _ _ h => h) (by rfl) hH ?hy170 ?rest170
  case hy170 =>
    intro X hX
    go_simp
    try rfl
  simp only [Act.put, List.setIfInBounds_toArray, List.set_cons_zero, List.set_cons_succ]
  refine' hw_take 5 (some 18) _ rfl rfl (by kernel_rfl) (by kernel_rfl) (by kernel_rfl) (fun _ _ _ h => h) (by rfl) hH ?hy171 ?rest171
  case hy171 =>
    intro X hX
    have cX := (bX.new hX).cells
    go_simp
    try rfl
  simp only [Act.put, List.setIfInBounds_toArray, List.set_cons_zero, List.set_cons_succ]
  refine' hw_take 6 (some 19) (.bool false) rfl rfl (by kernel_rfl) (by kernel_rfl) (by kernel_rfl) (fun _ _ _ h => h) (by rfl) hH ?hyL172 ?restL172
  case hyL172 =>
    intro X hX
    go_simp
    try rfl
  simp only [Act.put, List.setIfInBounds_toArray, List.set_cons_zero, List.set_cons_succ]
  refine wpAnyH_done (by kernel_rfl) ?_ _
  have bM4 := bM.new hH
  have bR4 := bR.new hH
  have bX4 := bX.new hH
  have hoL4 := hoL.new hH
  have hw4 := hw3.trans hH
  have z4 : Hid (w3.drew.heap.size = w3.heap.size) := rfl
  clear hH bM bR bX
  try clear cX cM
  generalize w3.drew = w4 at *
  have Z4 := z4.out
  have cX := bX4.cells
  have cM := bM4.cells
  go_upto_region 5 with fail
  refine hw_start (n := 7) (S := fun X => New w4 X) rfl (by kernel_rfl) ((New.refl _).drew) (fun hH => ?_)
  refine' hw_take 0 (some 21) _ rfl rfl (by kernel_rfl) (by kernel_rfl) (by kernel_rfl) (fun _ _ _ h => h) (by rfl) hH ?hy173 ?rest173
  case hy173 =>
    intro X hX
    go_simp
    try rfl
  simp only [Act.put, List.setIfInBounds_toArray, List.set_cons_zero, List.set_cons_succ]
  refine' hw_take 1 (some 22) _ rfl rfl (by kernel_rfl) (by kernel_rfl) (by kernel_rfl) (fun _ _ _ h => h) (by rfl) hH ?hy174 ?rest174
  case hy174 =>
    intro X hX
    have cX := (bM4.new hX).cells
    go_simp
    try rfl
  simp only [Act.put, List.setIfInBounds_toArray, List.set_cons_zero, List.set_cons_succ]
  refine' hw_take 2 (some 23) _ rfl rfl (by kernel_rfl) (by kernel_rfl) (by kernel_rfl) (fun _ _ _ h => h) (by rfl) hH ?hy175 ?rest175
  case hy175 =>
    intro X hX
    go_simp
    try rfl
  simp only [Act.put, List.setIfInBounds_toArray, List.set_cons_zero, List.set_cons_succ]
  refine' hw_take 3 (some 24) _ rfl rfl (by kernel_rfl) (by kernel_rfl) (by kernel_rfl) (fun _ _ _ h => h) (by rfl) hH ?hy176 ?rest176
  case hy176 =>
    intro X hX
    go_simp
    try rfl
  simp only [Act.put, List.setIfInBounds_toArray, List.set_cons_zero, List.set_cons_succ]
  refine' hw_take 4 (some 25) _ rfl rfl (by kernel_rfl) (by kernel_rfl) (by kernel_rfl) (fun _ _ _ h => h) (by rfl) hH ?hy177 ?rest177
  case hy177 =>
    intro X hX
    go_simp
    try rfl
  simp only [Act.put, List.setIfInBounds_toArray, List.set_cons_zero, List.set_cons_succ]
  refine' hw_take 5 (some 26) _ rfl rfl (by kernel_rfl) (by kernel_rfl) (by kernel_rfl) (fun _ _ _ h => h) (by rfl) hH ?hy178 ?rest178
  case hy178 =>
    intro X hX
    have cX := (bX4.new hX).cells
    go_simp
    try rfl
  simp only [Act.put, List.setIfInBounds_toArray, List.set_cons_zero, List.set_cons_succ]
  refine' hw_take 6 (some 27) (.bool false) rfl rfl (by kernel_rfl) (by kernel_rfl) (by kernel_rfl) (fun _ _ _ h => h) (by rfl) hH ?hyL179 ?restL179
  case hyL179 =>
    intro X hX
    go_simp
    try rfl
  simp only [Act.put, List.setIfInBounds_toArray, List.set_cons_zero, List.set_cons_succ]
  refine wpAnyH_done (by kernel_rfl) ?_ _
  have bM5 := bM4.new hH
  have bR5 := bR4.new hH
  have bX5 := bX4.new hH
  have hoL5 := hoL4.new hH
  have hw5 := hw4.trans hH
  have z5 : Hid (w4.drew.heap.size = w4.heap.size) := rfl
  clear hH bM4 bR4 bX4
  try clear cX cM
  generalize w4.drew = w5 at *
  have Z5 := z5.out
  have cX := bX5.cells
  have cM := bM5.cells
  have hoL6 := hoL5
  have bX6 := bX5
  have bM6 := bM5
  have bR6 := bR5
  have hw6 := hw5
  have z6 : w5.heap.size ≤ w5.heap.size := Nat.le_refl _
  have c1 := bR6.cells
  have f1 := bR6.frees
  go_wp2
  refine bodyPost_ret (v := .agg #[.int .i64 0, .int .i64 id, .bool up, .int .i64 ro, .int .i64 ep, .slice A3 n c3, .int .i64 su, .int .i64 ma, .int .i64 ot, .int .i64 co, .slice none 0 0]) (by simp [results, Try.results22, go_sem, c1]) rfl (nrAns_mk (U := V1) (Ms := []) (by simpa using HLn.out) rfl hV rfl (NrOw.log (lo := lo) (hi := w3.heap.size) (OwL.turn (w := w5) (S := fun i => i = (w.heap.size + 1 + 1)) hoL6 ?t1 (by intro k hk _ e; omega)) (by omega) ?u1) ?n1)
  case t1 => exact set11 (S := fun i => i = (w.heap.size + 1 + 1)) w5 (w.heap.size + 1 + 1) rfl _ _ _ _ _ _ _ _ _ _ _
  case u1 => exact Nat.le_trans (by omega) (Turn.size (S := fun i => i = (w.heap.size + 1 + 1)) (set11 (S := fun i => i = (w.heap.size + 1 + 1)) w5 (w.heap.size + 1 + 1) rfl _ _ _ _ _ _ _ _ _ _ _))
  case n1 => exact Turn.trans (S := fun _ => False) (T := fun i => i = (w.heap.size + 1 + 1)) hw6 (set11 (S := fun i => i = (w.heap.size + 1 + 1)) w5 (w.heap.size + 1 + 1) rfl _ _ _ _ _ _ _ _ _ _ _) (fun i hi e => by omega)

set_option maxHeartbeats 3200000 in
theorem sh_ts (id : Int) (up : Bool) (ep su ma ot co : Int) (A : Option Addr) (n c : Nat) (V : List EkV) (tgt me : Int) (o : Nat) (pr : Int) (has : Bool) (e1 k1 p1 : Int) (x : Option Addr) (m d : Nat) (xs : List Int) (w : World) (h : LgAt w A V) (hN : NlK V) (hn : V.length = n) (hm : n ≤ 2097152) (hx : BsAt w x xs) (hX : xs.length = m) (hnx : x = none → m = 0 ∧ d = 0) (hm1 : m ≤ 1048576) (hk : me = ep) (hd1 : decide (me < ep) = false) (hd2 : decide (ep < me) = false) (h1 : ot < (o : Int)) (h1d : decide (ot < (o : Int)) = true) (h2 : (o : Int) ≤ (n : Int)) (h2d : decide ((o : Int) ≤ (n : Int)) = true) :
    Calls Try.prog 22 #[.agg #[.int .i64 id, .bool up, .int .i64 1, .int .i64 ep, .slice A n c, .int .i64 su, .int .i64 ma, .int .i64 ot, .int .i64 co], .agg #[.int .i64 2, .int .i64 tgt, .int .i64 me, .int .i64 (o : Int), .int .i64 pr, .bool has, .int .i64 e1, .int .i64 k1, .int .i64 p1, .slice x m d]] w (NrA w ⟨0, id, up, 1, ep, su, ma, (o : Int), max co (min su (o : Int)), V.map EkV.r, []⟩) := by
  clear hk
  have HLn : Hid (V.length = n) := hn
  have hw := (((New.refl w).alloc (.cells #[.int .i64 id, .bool up, .int .i64 1, .int .i64 ep, .slice A n c, .int .i64 su, .int .i64 ma, .int .i64 ot, .int .i64 co] 36)).alloc (.cells #[.int .i64 2, .int .i64 tgt, .int .i64 me, .int .i64 (o : Int), .int .i64 pr, .bool has, .int .i64 e1, .int .i64 k1, .int .i64 p1, .slice x m d] 46)).alloc (.cells #[.int .i64 0, .int .i64 0, .bool false, .int .i64 0, .int .i64 0, .slice none 0 0, .int .i64 0, .int .i64 0, .int .i64 0, .int .i64 0, .slice none 0 0] 39)
  have b0 := ((Blk.mk w w.heap.size 36 #[.int .i64 id, .bool up, .int .i64 1, .int .i64 ep, .slice A n c, .int .i64 su, .int .i64 ma, .int .i64 ot, .int .i64 co] rfl).alloc (.cells #[.int .i64 2, .int .i64 tgt, .int .i64 me, .int .i64 (o : Int), .int .i64 pr, .bool has, .int .i64 e1, .int .i64 k1, .int .i64 p1, .slice x m d] 46)).alloc (.cells #[.int .i64 0, .int .i64 0, .bool false, .int .i64 0, .int .i64 0, .slice none 0 0, .int .i64 0, .int .i64 0, .int .i64 0, .int .i64 0, .slice none 0 0] 39)
  have bM0 := (Blk.mk (w.alloc (.cells #[.int .i64 id, .bool up, .int .i64 1, .int .i64 ep, .slice A n c, .int .i64 su, .int .i64 ma, .int .i64 ot, .int .i64 co] 36)) (w.heap.size + 1) 46 #[.int .i64 2, .int .i64 tgt, .int .i64 me, .int .i64 (o : Int), .int .i64 pr, .bool has, .int .i64 e1, .int .i64 k1, .int .i64 p1, .slice x m d] (by simp)).alloc (.cells #[.int .i64 0, .int .i64 0, .bool false, .int .i64 0, .int .i64 0, .slice none 0 0, .int .i64 0, .int .i64 0, .int .i64 0, .int .i64 0, .slice none 0 0] 39)
  have b1 := Blk.mk ((w.alloc (.cells #[.int .i64 id, .bool up, .int .i64 1, .int .i64 ep, .slice A n c, .int .i64 su, .int .i64 ma, .int .i64 ot, .int .i64 co] 36)).alloc (.cells #[.int .i64 2, .int .i64 tgt, .int .i64 me, .int .i64 (o : Int), .int .i64 pr, .bool has, .int .i64 e1, .int .i64 k1, .int .i64 p1, .slice x m d] 46)) (w.heap.size + 1 + 1) 39 #[.int .i64 0, .int .i64 0, .bool false, .int .i64 0, .int .i64 0, .slice none 0 0, .int .i64 0, .int .i64 0, .int .i64 0, .int .i64 0, .slice none 0 0] (by simp)
  have s0 : Hid ((((w.alloc (.cells #[.int .i64 id, .bool up, .int .i64 1, .int .i64 ep, .slice A n c, .int .i64 su, .int .i64 ma, .int .i64 ot, .int .i64 co] 36)).alloc (.cells #[.int .i64 2, .int .i64 tgt, .int .i64 me, .int .i64 (o : Int), .int .i64 pr, .bool has, .int .i64 e1, .int .i64 k1, .int .i64 p1, .slice x m d] 46)).alloc (.cells #[.int .i64 0, .int .i64 0, .bool false, .int .i64 0, .int .i64 0, .slice none 0 0, .int .i64 0, .int .i64 0, .int .i64 0, .int .i64 0, .slice none 0 0] 39)).heap.size = w.heap.size + 1 + 1 + 1) := by unfold Hid; simp
  go_enter Try.func22, Try.ntmps22
  go_upto_region 1 with fail
  generalize ((w.alloc (.cells #[.int .i64 id, .bool up, .int .i64 1, .int .i64 ep, .slice A n c, .int .i64 su, .int .i64 ma, .int .i64 ot, .int .i64 co] 36)).alloc (.cells #[.int .i64 2, .int .i64 tgt, .int .i64 me, .int .i64 (o : Int), .int .i64 pr, .bool has, .int .i64 e1, .int .i64 k1, .int .i64 p1, .slice x m d] 46)).alloc (.cells #[.int .i64 0, .int .i64 0, .bool false, .int .i64 0, .int .i64 0, .slice none 0 0, .int .i64 0, .int .i64 0, .int .i64 0, .int .i64 0, .slice none 0 0] 39) = w0 at *
  have S0 := s0.out
  have c0 := b0.cells
  go_wp2_with fail
  refine (scopyNd_any id up 1 ep su ma ot co A n c V _ (h.new hw) hN hn hm).mono ?_
  rintro e w2 ⟨A3, c3, V1, rfl, hV, ho0, hn2⟩
  have al := (New.refl w2).alloc (.cells #[.int .i64 0, .int .i64 id, .bool up, .int .i64 1, .int .i64 ep, .slice A3 n c3, .int .i64 su, .int .i64 ma, .int .i64 ot, .int .i64 co, .slice none 0 0] 39)
  have bM := (bM0.new hn2).new al
  have bR := (b1.new hn2).new al
  have bX := Blk.mk w2 w2.heap.size 39 #[.int .i64 0, .int .i64 id, .bool up, .int .i64 1, .int .i64 ep, .slice A3 n c3, .int .i64 su, .int .i64 ma, .int .i64 ot, .int .i64 co, .slice none 0 0] rfl
  have hoL := (ho0.new al).up al.size
  have hw3 := (hw.trans hn2).trans al
  have z12 := hn2.size
  have z23 := al.size
  have l3 := bX.lt
  clear ho0 hn2 c0 hw b0 bM0 b1
  go_upto_region 3 with fail
  generalize w2.alloc (.cells #[.int .i64 0, .int .i64 id, .bool up, .int .i64 1, .int .i64 ep, .slice A3 n c3, .int .i64 su, .int .i64 ma, .int .i64 ot, .int .i64 co, .slice none 0 0] 39) = w3 at *
  generalize hNB : w2.heap.size = NB at *
  generalize hlo1 : w0.heap.size = lo at *
  refine hw_start (n := 7) (S := fun X => New w3 X) rfl (by kernel_rfl) ((New.refl _).drew) (fun hH => ?_)
  refine' hw_take 0 (some 13) _ rfl rfl (by kernel_rfl) (by kernel_rfl) (by kernel_rfl) (fun _ _ _ h => h) (by rfl) hH ?hy180 ?rest180
  case hy180 =>
    intro X hX
    go_simp
    try rfl
  simp only [Act.put, List.setIfInBounds_toArray, List.set_cons_zero, List.set_cons_succ]
  refine' hw_take 1 (some 14) _ rfl rfl (by kernel_rfl) (by kernel_rfl) (by kernel_rfl) (fun _ _ _ h => h) (by rfl) hH ?hy181 ?rest181
  case hy181 =>
    intro X hX
    have cX := (bM.new hX).cells
    go_simp
    try rfl
  simp only [Act.put, List.setIfInBounds_toArray, List.set_cons_zero, List.set_cons_succ]
  refine' hw_take 2 (some 15) _ rfl rfl (by kernel_rfl) (by kernel_rfl) (by kernel_rfl) (fun _ _ _ h => h) (by rfl) hH ?hy182 ?rest182
  case hy182 =>
    intro X hX
    go_simp
    try rfl
  simp only [Act.put, List.setIfInBounds_toArray, List.set_cons_zero, List.set_cons_succ]
  refine' hw_take 3 (some 16) _ rfl rfl (by kernel_rfl) (by kernel_rfl) (by kernel_rfl) (fun _ _ _ h => h) (by rfl) hH ?hy183 ?rest183
  case hy183 =>
    intro X hX
    go_simp
    try rfl
  simp only [Act.put, List.setIfInBounds_toArray, List.set_cons_zero, List.set_cons_succ]
  refine' hw_take 4 (some 17) _ rfl rfl (by kernel_rfl) (by kernel_rfl) (by kernel_rfl) (fun _ _ _ h => h) (by rfl) hH ?hy184 ?rest184
  case hy184 =>
    intro X hX
    go_simp
    try rfl
  simp only [Act.put, List.setIfInBounds_toArray, List.set_cons_zero, List.set_cons_succ]
  refine' hw_take 5 (some 18) _ rfl rfl (by kernel_rfl) (by kernel_rfl) (by kernel_rfl) (fun _ _ _ h => h) (by rfl) hH ?hy185 ?rest185
  case hy185 =>
    intro X hX
    have cX := (bX.new hX).cells
    go_simp
    try rfl
  simp only [Act.put, List.setIfInBounds_toArray, List.set_cons_zero, List.set_cons_succ]
  refine' hw_take 6 (some 19) (.bool false) rfl rfl (by kernel_rfl) (by kernel_rfl) (by kernel_rfl) (fun _ _ _ h => h) (by rfl) hH ?hyL186 ?restL186
  case hyL186 =>
    intro X hX
    go_simp
    try rfl
  simp only [Act.put, List.setIfInBounds_toArray, List.set_cons_zero, List.set_cons_succ]
  refine wpAnyH_done (by kernel_rfl) ?_ _
  have bM4 := bM.new hH
  have bR4 := bR.new hH
  have bX4 := bX.new hH
  have hoL4 := hoL.new hH
  have hw4 := hw3.trans hH
  have z4 : Hid (w3.drew.heap.size = w3.heap.size) := rfl
  clear hH bM bR bX
  try clear cX cM
  generalize w3.drew = w4 at *
  have Z4 := z4.out
  have cX := bX4.cells
  have cM := bM4.cells
  go_upto_region 5 with fail
  refine hw_start (n := 7) (S := fun X => New w4 X) rfl (by kernel_rfl) ((New.refl _).drew) (fun hH => ?_)
  refine' hw_take 0 (some 21) _ rfl rfl (by kernel_rfl) (by kernel_rfl) (by kernel_rfl) (fun _ _ _ h => h) (by rfl) hH ?hy187 ?rest187
  case hy187 =>
    intro X hX
    go_simp
    try rfl
  simp only [Act.put, List.setIfInBounds_toArray, List.set_cons_zero, List.set_cons_succ]
  refine' hw_take 1 (some 22) _ rfl rfl (by kernel_rfl) (by kernel_rfl) (by kernel_rfl) (fun _ _ _ h => h) (by rfl) hH ?hy188 ?rest188
  case hy188 =>
    intro X hX
    have cX := (bM4.new hX).cells
    go_simp
    try rfl
  simp only [Act.put, List.setIfInBounds_toArray, List.set_cons_zero, List.set_cons_succ]
  refine' hw_take 2 (some 23) _ rfl rfl (by kernel_rfl) (by kernel_rfl) (by kernel_rfl) (fun _ _ _ h => h) (by rfl) hH ?hy189 ?rest189
  case hy189 =>
    intro X hX
    go_simp
    try rfl
  simp only [Act.put, List.setIfInBounds_toArray, List.set_cons_zero, List.set_cons_succ]
  refine' hw_take 3 (some 24) _ rfl rfl (by kernel_rfl) (by kernel_rfl) (by kernel_rfl) (fun _ _ _ h => h) (by rfl) hH ?hy190 ?rest190
  case hy190 =>
    intro X hX
    go_simp
    try rfl
  simp only [Act.put, List.setIfInBounds_toArray, List.set_cons_zero, List.set_cons_succ]
  refine' hw_take 4 (some 25) _ rfl rfl (by kernel_rfl) (by kernel_rfl) (by kernel_rfl) (fun _ _ _ h => h) (by rfl) hH ?hy191 ?rest191
  case hy191 =>
    intro X hX
    go_simp
    try rfl
  simp only [Act.put, List.setIfInBounds_toArray, List.set_cons_zero, List.set_cons_succ]
  refine' hw_take 5 (some 26) _ rfl rfl (by kernel_rfl) (by kernel_rfl) (by kernel_rfl) (fun _ _ _ h => h) (by rfl) hH ?hy192 ?rest192
  case hy192 =>
    intro X hX
    have cX := (bX4.new hX).cells
    go_simp
    try rfl
  simp only [Act.put, List.setIfInBounds_toArray, List.set_cons_zero, List.set_cons_succ]
  refine' hw_take 6 (some 27) (.bool false) rfl rfl (by kernel_rfl) (by kernel_rfl) (by kernel_rfl) (fun _ _ _ h => h) (by rfl) hH ?hyL193 ?restL193
  case hyL193 =>
    intro X hX
    go_simp
    try rfl
  simp only [Act.put, List.setIfInBounds_toArray, List.set_cons_zero, List.set_cons_succ]
  refine wpAnyH_done (by kernel_rfl) ?_ _
  have bM5 := bM4.new hH
  have bR5 := bR4.new hH
  have bX5 := bX4.new hH
  have hoL5 := hoL4.new hH
  have hw5 := hw4.trans hH
  have z5 : Hid (w4.drew.heap.size = w4.heap.size) := rfl
  clear hH bM4 bR4 bX4
  try clear cX cM
  generalize w4.drew = w5 at *
  have Z5 := z5.out
  have cX := bX5.cells
  have cM := bM5.cells
  have hoL6 := hoL5
  have bX6 := bX5
  have bM6 := bM5
  have bR6 := bR5
  have hw6 := hw5
  have z6 : w5.heap.size ≤ w5.heap.size := Nat.le_refl _
  go_upto_region 12 with fail
  refine hw_start (n := 17) (S := fun X => New w5 X) rfl (by kernel_rfl) ((New.refl _).drew) (fun hH => ?_)
  refine' hw_take 0 (some 50) _ rfl rfl (by kernel_rfl) (by kernel_rfl) (by kernel_rfl) (fun _ _ _ h => h) (by rfl) hH ?hy194 ?rest194
  case hy194 =>
    intro X hX
    go_simp
    try rfl
  simp only [Act.put, List.setIfInBounds_toArray, List.set_cons_zero, List.set_cons_succ]
  refine' hw_take 1 (some 51) _ rfl rfl (by kernel_rfl) (by kernel_rfl) (by kernel_rfl) (fun _ _ _ h => h) (by rfl) hH ?hy195 ?rest195
  case hy195 =>
    intro X hX
    have cX := (bM6.new hX).cells
    go_simp
    try rfl
  simp only [Act.put, List.setIfInBounds_toArray, List.set_cons_zero, List.set_cons_succ]
  refine' hw_take 2 (some 52) _ rfl rfl (by kernel_rfl) (by kernel_rfl) (by kernel_rfl) (fun _ _ _ h => h) (by rfl) hH ?hy196 ?rest196
  case hy196 =>
    intro X hX
    go_simp
    try rfl
  simp only [Act.put, List.setIfInBounds_toArray, List.set_cons_zero, List.set_cons_succ]
  refine' hw_take 3 (some 53) _ rfl rfl (by kernel_rfl) (by kernel_rfl) (by kernel_rfl) (fun _ _ _ h => h) (by rfl) hH ?hy197 ?rest197
  case hy197 =>
    intro X hX
    go_simp
    try rfl
  simp only [Act.put, List.setIfInBounds_toArray, List.set_cons_zero, List.set_cons_succ]
  refine' hw_take 4 (some 54) _ rfl rfl (by kernel_rfl) (by kernel_rfl) (by kernel_rfl) (fun _ _ _ h => h) (by rfl) hH ?hy198 ?rest198
  case hy198 =>
    intro X hX
    go_simp
    try rfl
  simp only [Act.put, List.setIfInBounds_toArray, List.set_cons_zero, List.set_cons_succ]
  refine' hw_take 5 (some 55) _ rfl rfl (by kernel_rfl) (by kernel_rfl) (by kernel_rfl) (fun _ _ _ h => h) (by rfl) hH ?hy199 ?rest199
  case hy199 =>
    intro X hX
    have cX := (bX6.new hX).cells
    go_simp
    try rfl
  simp only [Act.put, List.setIfInBounds_toArray, List.set_cons_zero, List.set_cons_succ]
  refine' hw_take 6 (some 56) (.bool true) rfl rfl (by kernel_rfl) (by kernel_rfl) (by kernel_rfl) (fun _ _ _ h => h) (by rfl) hH ?hyL200 ?restL200
  case hyL200 =>
    intro X hX
    go_simp
    try rfl
  simp only [Act.put, List.setIfInBounds_toArray, List.set_cons_zero, List.set_cons_succ]
  refine' hw_take 7 (some 57) _ rfl rfl (by kernel_rfl) (by kernel_rfl) (by kernel_rfl) (fun _ _ _ h => h) (by rfl) hH ?hy201 ?rest201
  case hy201 =>
    intro X hX
    go_simp
    try rfl
  simp only [Act.put, List.setIfInBounds_toArray, List.set_cons_zero, List.set_cons_succ]
  refine' hw_take 8 (some 58) _ rfl rfl (by kernel_rfl) (by kernel_rfl) (by kernel_rfl) (fun _ _ _ h => h) (by rfl) hH ?hy202 ?rest202
  case hy202 =>
    intro X hX
    go_simp
    try rfl
  simp only [Act.put, List.setIfInBounds_toArray, List.set_cons_zero, List.set_cons_succ]
  refine' hw_take 9 (some 59) _ rfl rfl (by kernel_rfl) (by kernel_rfl) (by kernel_rfl) (fun _ _ _ h => h) (by rfl) hH ?hy203 ?rest203
  case hy203 =>
    intro X hX
    have cX := (bM6.new hX).cells
    go_simp
    try rfl
  simp only [Act.put, List.setIfInBounds_toArray, List.set_cons_zero, List.set_cons_succ]
  refine' hw_take 10 (some 60) _ rfl rfl (by kernel_rfl) (by kernel_rfl) (by kernel_rfl) (fun _ _ _ h => h) (by rfl) hH ?hy204 ?rest204
  case hy204 =>
    intro X hX
    go_simp
    try rfl
  simp only [Act.put, List.setIfInBounds_toArray, List.set_cons_zero, List.set_cons_succ]
  refine' hw_take 11 (some 61) _ rfl rfl (by kernel_rfl) (by kernel_rfl) (by kernel_rfl) (fun _ _ _ h => h) (by rfl) hH ?hy205 ?rest205
  case hy205 =>
    intro X hX
    go_simp
    try rfl
  simp only [Act.put, List.setIfInBounds_toArray, List.set_cons_zero, List.set_cons_succ]
  refine' hw_take 12 (some 62) _ rfl rfl (by kernel_rfl) (by kernel_rfl) (by kernel_rfl) (fun _ _ _ h => h) (by rfl) hH ?hy206 ?rest206
  case hy206 =>
    intro X hX
    go_simp
    try rfl
  simp only [Act.put, List.setIfInBounds_toArray, List.set_cons_zero, List.set_cons_succ]
  refine' hw_take 13 (some 63) _ rfl rfl (by kernel_rfl) (by kernel_rfl) (by kernel_rfl) (fun _ _ _ h => h) (by rfl) hH ?hy207 ?rest207
  case hy207 =>
    intro X hX
    have cX := (bX6.new hX).cells
    go_simp
    try rfl
  simp only [Act.put, List.setIfInBounds_toArray, List.set_cons_zero, List.set_cons_succ]
  refine' hw_take 14 (some 64) _ rfl rfl (by kernel_rfl) (by kernel_rfl) (by kernel_rfl) (fun _ _ _ h => h) (by rfl) hH ?hy208 ?rest208
  case hy208 =>
    intro X hX
    go_simp
    try rfl
  simp only [Act.put, List.setIfInBounds_toArray, List.set_cons_zero, List.set_cons_succ]
  refine' hw_take 15 (some 65) (.bool true) rfl rfl (by kernel_rfl) (by kernel_rfl) (by kernel_rfl) (fun _ _ _ h => h) (by rfl) hH ?hyL209 ?restL209
  case hyL209 =>
    intro X hX
    go_simp
    try rfl
  simp only [Act.put, List.setIfInBounds_toArray, List.set_cons_zero, List.set_cons_succ]
  refine' hw_take 16 (some 66) _ rfl rfl (by kernel_rfl) (by kernel_rfl) (by kernel_rfl) (fun _ _ _ h => h) (by rfl) hH ?hy210 ?rest210
  case hy210 =>
    intro X hX
    go_simp
    try rfl
  simp only [Act.put, List.setIfInBounds_toArray, List.set_cons_zero, List.set_cons_succ]
  refine wpAnyH_done (by kernel_rfl) ?_ _
  have bM7 := bM6.new hH
  have bR7 := bR6.new hH
  have bX7 := bX6.new hH
  have hoL7 := hoL6.new hH
  have hw7 := hw6.trans hH
  have z7 : Hid (w5.drew.heap.size = w5.heap.size) := rfl
  clear hH bM6 bR6 bX6 cX cM
  generalize w5.drew = w7 at *
  have Z7 := z7.out
  have cX := bX7.cells
  have cM := bM7.cells
  have fX := bX7.frees
  have bX8 : Blk (w7.setCell ⟨NB, 8, none⟩ (.int .i64 (o : Int))) NB 39 #[.int .i64 0, .int .i64 id, .bool up, .int .i64 1, .int .i64 ep, .slice A3 n c3, .int .i64 su, .int .i64 ma, .int .i64 (o : Int), .int .i64 co, .slice none 0 0] := bX7.set 8 (.int .i64 (o : Int))
  have t8 := (Turn.refl (fun i => i = NB) w7).set (p := ⟨NB, 8, none⟩) rfl (.int .i64 (o : Int))
  have hoL8 := (hoL7.turnB bX7 (by decide) (by decide) t8)
  have bM8 := bM7.turn t8 (by omega)
  have bR8 := bR7.turn t8 (by omega)
  have hw8 := hw7.before t8 (by intro i hi e; omega)
  have z8 := t8.size
  go_upto_region 14 with fail
  clear cX cM fX
  generalize w7.setCell ⟨NB, 8, none⟩ (.int .i64 (o : Int)) = w8 at *
  have cX := bX8.cells
  have cM := bM8.cells
  go_wp2_with fail
  refine (sagree_any NB 0 id up 1 ep su ma (o : Int) co A3 none n c3 0 0 _ bX8).mono ?_
  rintro e w9 ⟨rfl, bX9, t9⟩
  obtain ⟨c9, hc9⟩ : ∃ c9, c9 = max co (min su (o : Int)) := ⟨_, rfl⟩
  rw [← hc9] at bX9
  have HC9 : Hid (c9 = max co (min su (o : Int))) := hc9
  clear hc9
  have hoL9 := hoL8.turnB bX8 (by decide) (by decide) t9
  have bR9 := bR8.turn t9 (by omega)
  have hw9 := hw8.before t9 (by intro i hi e; omega)
  have z9 := t9.size
  clear cX cM
  have cX := bX9.cells
  have c1 := bR9.cells
  have f1 := bR9.frees
  go_wp2
  rw [← HC9.out]
  refine bodyPost_ret (v := .agg #[.int .i64 0, .int .i64 id, .bool up, .int .i64 1, .int .i64 ep, .slice A3 n c3, .int .i64 su, .int .i64 ma, .int .i64 (o : Int), .int .i64 c9, .slice none 0 0]) (by simp [results, Try.results22, go_sem, c1]) rfl (nrAns_mk (U := V1) (Ms := []) (by simpa using HLn.out) rfl hV rfl (NrOw.log (lo := lo) (hi := w3.heap.size) (OwL.turn (w := w9) (S := fun i => i = (w.heap.size + 1 + 1)) hoL9 ?t1 (by intro k hk _ e; omega)) (by omega) ?u1) ?n1)
  case t1 => exact set11 (S := fun i => i = (w.heap.size + 1 + 1)) w9 (w.heap.size + 1 + 1) rfl _ _ _ _ _ _ _ _ _ _ _
  case u1 => exact Nat.le_trans (by omega) (Turn.size (S := fun i => i = (w.heap.size + 1 + 1)) (set11 (S := fun i => i = (w.heap.size + 1 + 1)) w9 (w.heap.size + 1 + 1) rfl _ _ _ _ _ _ _ _ _ _ _))
  case n1 => exact Turn.trans (S := fun _ => False) (T := fun i => i = (w.heap.size + 1 + 1)) hw9 (set11 (S := fun i => i = (w.heap.size + 1 + 1)) w9 (w.heap.size + 1 + 1) rfl _ _ _ _ _ _ _ _ _ _ _) (fun i hi e => by omega)

set_option maxHeartbeats 3200000 in
theorem sh_tf (id : Int) (up : Bool) (ep su ma ot co : Int) (A : Option Addr) (n c : Nat) (V : List EkV) (tgt me : Int) (o : Nat) (pr : Int) (has : Bool) (e1 k1 p1 : Int) (x : Option Addr) (m d : Nat) (xs : List Int) (w : World) (h : LgAt w A V) (hN : NlK V) (hn : V.length = n) (hm : n ≤ 2097152) (hx : BsAt w x xs) (hX : xs.length = m) (hnx : x = none → m = 0 ∧ d = 0) (hm1 : m ≤ 1048576) (hk : me = ep) (hd1 : decide (me < ep) = false) (hd2 : decide (ep < me) = false) (h1 : ot < (o : Int)) (h1d : decide (ot < (o : Int)) = true) (h2 : ¬ (o : Int) ≤ (n : Int)) (h2d : decide ((o : Int) ≤ (n : Int)) = false) :
    Calls Try.prog 22 #[.agg #[.int .i64 id, .bool up, .int .i64 1, .int .i64 ep, .slice A n c, .int .i64 su, .int .i64 ma, .int .i64 ot, .int .i64 co], .agg #[.int .i64 2, .int .i64 tgt, .int .i64 me, .int .i64 (o : Int), .int .i64 pr, .bool has, .int .i64 e1, .int .i64 k1, .int .i64 p1, .slice x m d]] w (NrA w ⟨0, id, up, 1, ep, su, ma, ot, max co (min su ot), V.map EkV.r, []⟩) := by
  clear hk
  have h2n : ¬ o ≤ n := by omega
  have h2m : n < o := by omega
  have HLn : Hid (V.length = n) := hn
  have hw := (((New.refl w).alloc (.cells #[.int .i64 id, .bool up, .int .i64 1, .int .i64 ep, .slice A n c, .int .i64 su, .int .i64 ma, .int .i64 ot, .int .i64 co] 36)).alloc (.cells #[.int .i64 2, .int .i64 tgt, .int .i64 me, .int .i64 (o : Int), .int .i64 pr, .bool has, .int .i64 e1, .int .i64 k1, .int .i64 p1, .slice x m d] 46)).alloc (.cells #[.int .i64 0, .int .i64 0, .bool false, .int .i64 0, .int .i64 0, .slice none 0 0, .int .i64 0, .int .i64 0, .int .i64 0, .int .i64 0, .slice none 0 0] 39)
  have b0 := ((Blk.mk w w.heap.size 36 #[.int .i64 id, .bool up, .int .i64 1, .int .i64 ep, .slice A n c, .int .i64 su, .int .i64 ma, .int .i64 ot, .int .i64 co] rfl).alloc (.cells #[.int .i64 2, .int .i64 tgt, .int .i64 me, .int .i64 (o : Int), .int .i64 pr, .bool has, .int .i64 e1, .int .i64 k1, .int .i64 p1, .slice x m d] 46)).alloc (.cells #[.int .i64 0, .int .i64 0, .bool false, .int .i64 0, .int .i64 0, .slice none 0 0, .int .i64 0, .int .i64 0, .int .i64 0, .int .i64 0, .slice none 0 0] 39)
  have bM0 := (Blk.mk (w.alloc (.cells #[.int .i64 id, .bool up, .int .i64 1, .int .i64 ep, .slice A n c, .int .i64 su, .int .i64 ma, .int .i64 ot, .int .i64 co] 36)) (w.heap.size + 1) 46 #[.int .i64 2, .int .i64 tgt, .int .i64 me, .int .i64 (o : Int), .int .i64 pr, .bool has, .int .i64 e1, .int .i64 k1, .int .i64 p1, .slice x m d] (by simp)).alloc (.cells #[.int .i64 0, .int .i64 0, .bool false, .int .i64 0, .int .i64 0, .slice none 0 0, .int .i64 0, .int .i64 0, .int .i64 0, .int .i64 0, .slice none 0 0] 39)
  have b1 := Blk.mk ((w.alloc (.cells #[.int .i64 id, .bool up, .int .i64 1, .int .i64 ep, .slice A n c, .int .i64 su, .int .i64 ma, .int .i64 ot, .int .i64 co] 36)).alloc (.cells #[.int .i64 2, .int .i64 tgt, .int .i64 me, .int .i64 (o : Int), .int .i64 pr, .bool has, .int .i64 e1, .int .i64 k1, .int .i64 p1, .slice x m d] 46)) (w.heap.size + 1 + 1) 39 #[.int .i64 0, .int .i64 0, .bool false, .int .i64 0, .int .i64 0, .slice none 0 0, .int .i64 0, .int .i64 0, .int .i64 0, .int .i64 0, .slice none 0 0] (by simp)
  have s0 : Hid ((((w.alloc (.cells #[.int .i64 id, .bool up, .int .i64 1, .int .i64 ep, .slice A n c, .int .i64 su, .int .i64 ma, .int .i64 ot, .int .i64 co] 36)).alloc (.cells #[.int .i64 2, .int .i64 tgt, .int .i64 me, .int .i64 (o : Int), .int .i64 pr, .bool has, .int .i64 e1, .int .i64 k1, .int .i64 p1, .slice x m d] 46)).alloc (.cells #[.int .i64 0, .int .i64 0, .bool false, .int .i64 0, .int .i64 0, .slice none 0 0, .int .i64 0, .int .i64 0, .int .i64 0, .int .i64 0, .slice none 0 0] 39)).heap.size = w.heap.size + 1 + 1 + 1) := by unfold Hid; simp
  go_enter Try.func22, Try.ntmps22
  go_upto_region 1 with fail
  generalize ((w.alloc (.cells #[.int .i64 id, .bool up, .int .i64 1, .int .i64 ep, .slice A n c, .int .i64 su, .int .i64 ma, .int .i64 ot, .int .i64 co] 36)).alloc (.cells #[.int .i64 2, .int .i64 tgt, .int .i64 me, .int .i64 (o : Int), .int .i64 pr, .bool has, .int .i64 e1, .int .i64 k1, .int .i64 p1, .slice x m d] 46)).alloc (.cells #[.int .i64 0, .int .i64 0, .bool false, .int .i64 0, .int .i64 0, .slice none 0 0, .int .i64 0, .int .i64 0, .int .i64 0, .int .i64 0, .slice none 0 0] 39) = w0 at *
  have S0 := s0.out
  have c0 := b0.cells
  go_wp2_with fail
  refine (scopyNd_any id up 1 ep su ma ot co A n c V _ (h.new hw) hN hn hm).mono ?_
  rintro e w2 ⟨A3, c3, V1, rfl, hV, ho0, hn2⟩
  have al := (New.refl w2).alloc (.cells #[.int .i64 0, .int .i64 id, .bool up, .int .i64 1, .int .i64 ep, .slice A3 n c3, .int .i64 su, .int .i64 ma, .int .i64 ot, .int .i64 co, .slice none 0 0] 39)
  have bM := (bM0.new hn2).new al
  have bR := (b1.new hn2).new al
  have bX := Blk.mk w2 w2.heap.size 39 #[.int .i64 0, .int .i64 id, .bool up, .int .i64 1, .int .i64 ep, .slice A3 n c3, .int .i64 su, .int .i64 ma, .int .i64 ot, .int .i64 co, .slice none 0 0] rfl
  have hoL := (ho0.new al).up al.size
  have hw3 := (hw.trans hn2).trans al
  have z12 := hn2.size
  have z23 := al.size
  have l3 := bX.lt
  clear ho0 hn2 c0 hw b0 bM0 b1
  go_upto_region 3 with fail
  generalize w2.alloc (.cells #[.int .i64 0, .int .i64 id, .bool up, .int .i64 1, .int .i64 ep, .slice A3 n c3, .int .i64 su, .int .i64 ma, .int .i64 ot, .int .i64 co, .slice none 0 0] 39) = w3 at *
  generalize hNB : w2.heap.size = NB at *
  generalize hlo1 : w0.heap.size = lo at *
  refine hw_start (n := 7) (S := fun X => New w3 X) rfl (by kernel_rfl) ((New.refl _).drew) (fun hH => ?_)
  refine' hw_take 0 (some 13) _ rfl rfl (by kernel_rfl) (by kernel_rfl) (by kernel_rfl) (fun _ _ _ h => h) (by rfl) hH ?hy211 ?rest211
  case hy211 =>
    intro X hX
    go_simp
    try rfl
  simp only [Act.put, List.setIfInBounds_toArray, List.set_cons_zero, List.set_cons_succ]
  refine' hw_take 1 (some 14) _ rfl rfl (by kernel_rfl) (by kernel_rfl) (by kernel_rfl) (fun _ _ _ h => h) (by rfl) hH ?hy212 ?rest212
  case hy212 =>
    intro X hX
    have cX := (bM.new hX).cells
    go_simp
    try rfl
  simp only [Act.put, List.setIfInBounds_toArray, List.set_cons_zero, List.set_cons_succ]
  refine' hw_take 2 (some 15) _ rfl rfl (by kernel_rfl) (by kernel_rfl) (by kernel_rfl) (fun _ _ _ h => h) (by rfl) hH ?hy213 ?rest213
  case hy213 =>
    intro X hX
    go_simp
    try rfl
  simp only [Act.put, List.setIfInBounds_toArray, List.set_cons_zero, List.set_cons_succ]
  refine' hw_take 3 (some 16) _ rfl rfl (by kernel_rfl) (by kernel_rfl) (by kernel_rfl) (fun _ _ _ h => h) (by rfl) hH ?hy214 ?rest214
  case hy214 =>
    intro X hX
    go_simp
    try rfl
  simp only [Act.put, List.setIfInBounds_toArray, List.set_cons_zero, List.set_cons_succ]
  refine' hw_take 4 (some 17) _ rfl rfl (by kernel_rfl) (by kernel_rfl) (by kernel_rfl) (fun _ _ _ h => h) (by rfl) hH ?hy215 ?rest215
  case hy215 =>
    intro X hX
    go_simp
    try rfl
  simp only [Act.put, List.setIfInBounds_toArray, List.set_cons_zero, List.set_cons_succ]
  refine' hw_take 5 (some 18) _ rfl rfl (by kernel_rfl) (by kernel_rfl) (by kernel_rfl) (fun _ _ _ h => h) (by rfl) hH ?hy216 ?rest216
  case hy216 =>
    intro X hX
    have cX := (bX.new hX).cells
    go_simp
    try rfl
  simp only [Act.put, List.setIfInBounds_toArray, List.set_cons_zero, List.set_cons_succ]
  refine' hw_take 6 (some 19) (.bool false) rfl rfl (by kernel_rfl) (by kernel_rfl) (by kernel_rfl) (fun _ _ _ h => h) (by rfl) hH ?hyL217 ?restL217
  case hyL217 =>
    intro X hX
    go_simp
    try rfl
  simp only [Act.put, List.setIfInBounds_toArray, List.set_cons_zero, List.set_cons_succ]
  refine wpAnyH_done (by kernel_rfl) ?_ _
  have bM4 := bM.new hH
  have bR4 := bR.new hH
  have bX4 := bX.new hH
  have hoL4 := hoL.new hH
  have hw4 := hw3.trans hH
  have z4 : Hid (w3.drew.heap.size = w3.heap.size) := rfl
  clear hH bM bR bX
  try clear cX cM
  generalize w3.drew = w4 at *
  have Z4 := z4.out
  have cX := bX4.cells
  have cM := bM4.cells
  go_upto_region 5 with fail
  refine hw_start (n := 7) (S := fun X => New w4 X) rfl (by kernel_rfl) ((New.refl _).drew) (fun hH => ?_)
  refine' hw_take 0 (some 21) _ rfl rfl (by kernel_rfl) (by kernel_rfl) (by kernel_rfl) (fun _ _ _ h => h) (by rfl) hH ?hy218 ?rest218
  case hy218 =>
    intro X hX
    go_simp
    try rfl
  simp only [Act.put, List.setIfInBounds_toArray, List.set_cons_zero, List.set_cons_succ]
  refine' hw_take 1 (some 22) _ rfl rfl (by kernel_rfl) (by kernel_rfl) (by kernel_rfl) (fun _ _ _ h => h) (by rfl) hH ?hy219 ?rest219
  case hy219 =>
    intro X hX
    have cX := (bM4.new hX).cells
    go_simp
    try rfl
  simp only [Act.put, List.setIfInBounds_toArray, List.set_cons_zero, List.set_cons_succ]
  refine' hw_take 2 (some 23) _ rfl rfl (by kernel_rfl) (by kernel_rfl) (by kernel_rfl) (fun _ _ _ h => h) (by rfl) hH ?hy220 ?rest220
  case hy220 =>
    intro X hX
    go_simp
    try rfl
  simp only [Act.put, List.setIfInBounds_toArray, List.set_cons_zero, List.set_cons_succ]
  refine' hw_take 3 (some 24) _ rfl rfl (by kernel_rfl) (by kernel_rfl) (by kernel_rfl) (fun _ _ _ h => h) (by rfl) hH ?hy221 ?rest221
  case hy221 =>
    intro X hX
    go_simp
    try rfl
  simp only [Act.put, List.setIfInBounds_toArray, List.set_cons_zero, List.set_cons_succ]
  refine' hw_take 4 (some 25) _ rfl rfl (by kernel_rfl) (by kernel_rfl) (by kernel_rfl) (fun _ _ _ h => h) (by rfl) hH ?hy222 ?rest222
  case hy222 =>
    intro X hX
    go_simp
    try rfl
  simp only [Act.put, List.setIfInBounds_toArray, List.set_cons_zero, List.set_cons_succ]
  refine' hw_take 5 (some 26) _ rfl rfl (by kernel_rfl) (by kernel_rfl) (by kernel_rfl) (fun _ _ _ h => h) (by rfl) hH ?hy223 ?rest223
  case hy223 =>
    intro X hX
    have cX := (bX4.new hX).cells
    go_simp
    try rfl
  simp only [Act.put, List.setIfInBounds_toArray, List.set_cons_zero, List.set_cons_succ]
  refine' hw_take 6 (some 27) (.bool false) rfl rfl (by kernel_rfl) (by kernel_rfl) (by kernel_rfl) (fun _ _ _ h => h) (by rfl) hH ?hyL224 ?restL224
  case hyL224 =>
    intro X hX
    go_simp
    try rfl
  simp only [Act.put, List.setIfInBounds_toArray, List.set_cons_zero, List.set_cons_succ]
  refine wpAnyH_done (by kernel_rfl) ?_ _
  have bM5 := bM4.new hH
  have bR5 := bR4.new hH
  have bX5 := bX4.new hH
  have hoL5 := hoL4.new hH
  have hw5 := hw4.trans hH
  have z5 : Hid (w4.drew.heap.size = w4.heap.size) := rfl
  clear hH bM4 bR4 bX4
  try clear cX cM
  generalize w4.drew = w5 at *
  have Z5 := z5.out
  have cX := bX5.cells
  have cM := bM5.cells
  have hoL6 := hoL5
  have bX6 := bX5
  have bM6 := bM5
  have bR6 := bR5
  have hw6 := hw5
  have z6 : w5.heap.size ≤ w5.heap.size := Nat.le_refl _
  go_upto_region 12 with fail
  refine hw_start (n := 17) (S := fun X => New w5 X) rfl (by kernel_rfl) ((New.refl _).drew) (fun hH => ?_)
  refine' hw_take 0 (some 50) _ rfl rfl (by kernel_rfl) (by kernel_rfl) (by kernel_rfl) (fun _ _ _ h => h) (by rfl) hH ?hy225 ?rest225
  case hy225 =>
    intro X hX
    go_simp
    try rfl
  simp only [Act.put, List.setIfInBounds_toArray, List.set_cons_zero, List.set_cons_succ]
  refine' hw_take 1 (some 51) _ rfl rfl (by kernel_rfl) (by kernel_rfl) (by kernel_rfl) (fun _ _ _ h => h) (by rfl) hH ?hy226 ?rest226
  case hy226 =>
    intro X hX
    have cX := (bM6.new hX).cells
    go_simp
    try rfl
  simp only [Act.put, List.setIfInBounds_toArray, List.set_cons_zero, List.set_cons_succ]
  refine' hw_take 2 (some 52) _ rfl rfl (by kernel_rfl) (by kernel_rfl) (by kernel_rfl) (fun _ _ _ h => h) (by rfl) hH ?hy227 ?rest227
  case hy227 =>
    intro X hX
    go_simp
    try rfl
  simp only [Act.put, List.setIfInBounds_toArray, List.set_cons_zero, List.set_cons_succ]
  refine' hw_take 3 (some 53) _ rfl rfl (by kernel_rfl) (by kernel_rfl) (by kernel_rfl) (fun _ _ _ h => h) (by rfl) hH ?hy228 ?rest228
  case hy228 =>
    intro X hX
    go_simp
    try rfl
  simp only [Act.put, List.setIfInBounds_toArray, List.set_cons_zero, List.set_cons_succ]
  refine' hw_take 4 (some 54) _ rfl rfl (by kernel_rfl) (by kernel_rfl) (by kernel_rfl) (fun _ _ _ h => h) (by rfl) hH ?hy229 ?rest229
  case hy229 =>
    intro X hX
    go_simp
    try rfl
  simp only [Act.put, List.setIfInBounds_toArray, List.set_cons_zero, List.set_cons_succ]
  refine' hw_take 5 (some 55) _ rfl rfl (by kernel_rfl) (by kernel_rfl) (by kernel_rfl) (fun _ _ _ h => h) (by rfl) hH ?hy230 ?rest230
  case hy230 =>
    intro X hX
    have cX := (bX6.new hX).cells
    go_simp
    try rfl
  simp only [Act.put, List.setIfInBounds_toArray, List.set_cons_zero, List.set_cons_succ]
  refine' hw_take 6 (some 56) (.bool true) rfl rfl (by kernel_rfl) (by kernel_rfl) (by kernel_rfl) (fun _ _ _ h => h) (by rfl) hH ?hyL231 ?restL231
  case hyL231 =>
    intro X hX
    go_simp
    try rfl
  simp only [Act.put, List.setIfInBounds_toArray, List.set_cons_zero, List.set_cons_succ]
  refine' hw_take 7 (some 57) _ rfl rfl (by kernel_rfl) (by kernel_rfl) (by kernel_rfl) (fun _ _ _ h => h) (by rfl) hH ?hy232 ?rest232
  case hy232 =>
    intro X hX
    go_simp
    try rfl
  simp only [Act.put, List.setIfInBounds_toArray, List.set_cons_zero, List.set_cons_succ]
  refine' hw_take 8 (some 58) _ rfl rfl (by kernel_rfl) (by kernel_rfl) (by kernel_rfl) (fun _ _ _ h => h) (by rfl) hH ?hy233 ?rest233
  case hy233 =>
    intro X hX
    go_simp
    try rfl
  simp only [Act.put, List.setIfInBounds_toArray, List.set_cons_zero, List.set_cons_succ]
  refine' hw_take 9 (some 59) _ rfl rfl (by kernel_rfl) (by kernel_rfl) (by kernel_rfl) (fun _ _ _ h => h) (by rfl) hH ?hy234 ?rest234
  case hy234 =>
    intro X hX
    have cX := (bM6.new hX).cells
    go_simp
    try rfl
  simp only [Act.put, List.setIfInBounds_toArray, List.set_cons_zero, List.set_cons_succ]
  refine' hw_take 10 (some 60) _ rfl rfl (by kernel_rfl) (by kernel_rfl) (by kernel_rfl) (fun _ _ _ h => h) (by rfl) hH ?hy235 ?rest235
  case hy235 =>
    intro X hX
    go_simp
    try rfl
  simp only [Act.put, List.setIfInBounds_toArray, List.set_cons_zero, List.set_cons_succ]
  refine' hw_take 11 (some 61) _ rfl rfl (by kernel_rfl) (by kernel_rfl) (by kernel_rfl) (fun _ _ _ h => h) (by rfl) hH ?hy236 ?rest236
  case hy236 =>
    intro X hX
    go_simp
    try rfl
  simp only [Act.put, List.setIfInBounds_toArray, List.set_cons_zero, List.set_cons_succ]
  refine' hw_take 12 (some 62) _ rfl rfl (by kernel_rfl) (by kernel_rfl) (by kernel_rfl) (fun _ _ _ h => h) (by rfl) hH ?hy237 ?rest237
  case hy237 =>
    intro X hX
    go_simp
    try rfl
  simp only [Act.put, List.setIfInBounds_toArray, List.set_cons_zero, List.set_cons_succ]
  refine' hw_take 13 (some 63) _ rfl rfl (by kernel_rfl) (by kernel_rfl) (by kernel_rfl) (fun _ _ _ h => h) (by rfl) hH ?hy238 ?rest238
  case hy238 =>
    intro X hX
    have cX := (bX6.new hX).cells
    go_simp
    try rfl
  simp only [Act.put, List.setIfInBounds_toArray, List.set_cons_zero, List.set_cons_succ]
  refine' hw_take 14 (some 64) _ rfl rfl (by kernel_rfl) (by kernel_rfl) (by kernel_rfl) (fun _ _ _ h => h) (by rfl) hH ?hy239 ?rest239
  case hy239 =>
    intro X hX
    go_simp
    try rfl
  simp only [Act.put, List.setIfInBounds_toArray, List.set_cons_zero, List.set_cons_succ]
  refine' hw_take 15 (some 65) (.bool false) rfl rfl (by kernel_rfl) (by kernel_rfl) (by kernel_rfl) (fun _ _ _ h => h) (by rfl) hH ?hyL240 ?restL240
  case hyL240 =>
    intro X hX
    go_simp
    try rfl
  simp only [Act.put, List.setIfInBounds_toArray, List.set_cons_zero, List.set_cons_succ]
  refine' hw_take 16 (some 66) _ rfl rfl (by kernel_rfl) (by kernel_rfl) (by kernel_rfl) (fun _ _ _ h => h) (by rfl) hH ?hy241 ?rest241
  case hy241 =>
    intro X hX
    go_simp
    try rfl
  simp only [Act.put, List.setIfInBounds_toArray, List.set_cons_zero, List.set_cons_succ]
  refine wpAnyH_done (by kernel_rfl) ?_ _
  have bM7 := bM6.new hH
  have bR7 := bR6.new hH
  have bX7 := bX6.new hH
  have hoL7 := hoL6.new hH
  have hw7 := hw6.trans hH
  have z7 : Hid (w5.drew.heap.size = w5.heap.size) := rfl
  clear hH bM6 bR6 bX6 cX cM
  generalize w5.drew = w7 at *
  have Z7 := z7.out
  have cX := bX7.cells
  have cM := bM7.cells
  go_wp2_with fail
  refine (sagree_any NB 0 id up 1 ep su ma ot co A3 none n c3 0 0 _ bX7).mono ?_
  rintro e w9 ⟨rfl, bX9, t9⟩
  obtain ⟨c9, hc9⟩ : ∃ c9, c9 = max co (min su ot) := ⟨_, rfl⟩
  rw [← hc9] at bX9
  have HC9 : Hid (c9 = max co (min su ot)) := hc9
  clear hc9
  have hoL9 := hoL7.turnB bX7 (by decide) (by decide) t9
  have bR9 := bR7.turn t9 (by omega)
  have hw9 := hw7.before t9 (by intro i hi e; omega)
  have z9 := t9.size
  clear cX cM
  have cX := bX9.cells
  have c1 := bR9.cells
  have f1 := bR9.frees
  go_wp2
  rw [← HC9.out]
  refine bodyPost_ret (v := .agg #[.int .i64 0, .int .i64 id, .bool up, .int .i64 1, .int .i64 ep, .slice A3 n c3, .int .i64 su, .int .i64 ma, .int .i64 ot, .int .i64 c9, .slice none 0 0]) (by simp [results, Try.results22, go_sem, c1]) rfl (nrAns_mk (U := V1) (Ms := []) (by simpa using HLn.out) rfl hV rfl (NrOw.log (lo := lo) (hi := w3.heap.size) (OwL.turn (w := w9) (S := fun i => i = (w.heap.size + 1 + 1)) hoL9 ?t1 (by intro k hk _ e; omega)) (by omega) ?u1) ?n1)
  case t1 => exact set11 (S := fun i => i = (w.heap.size + 1 + 1)) w9 (w.heap.size + 1 + 1) rfl _ _ _ _ _ _ _ _ _ _ _
  case u1 => exact Nat.le_trans (by omega) (Turn.size (S := fun i => i = (w.heap.size + 1 + 1)) (set11 (S := fun i => i = (w.heap.size + 1 + 1)) w9 (w.heap.size + 1 + 1) rfl _ _ _ _ _ _ _ _ _ _ _))
  case n1 => exact Turn.trans (S := fun _ => False) (T := fun i => i = (w.heap.size + 1 + 1)) hw9 (set11 (S := fun i => i = (w.heap.size + 1 + 1)) w9 (w.heap.size + 1 + 1) rfl _ _ _ _ _ _ _ _ _ _ _) (fun i hi e => by omega)

set_option maxHeartbeats 3200000 in
theorem sh_tl (id : Int) (up : Bool) (ep su ma ot co : Int) (A : Option Addr) (n c : Nat) (V : List EkV) (tgt me : Int) (o : Nat) (pr : Int) (has : Bool) (e1 k1 p1 : Int) (x : Option Addr) (m d : Nat) (xs : List Int) (w : World) (h : LgAt w A V) (hN : NlK V) (hn : V.length = n) (hm : n ≤ 2097152) (hx : BsAt w x xs) (hX : xs.length = m) (hnx : x = none → m = 0 ∧ d = 0) (hm1 : m ≤ 1048576) (hk : me = ep) (hd1 : decide (me < ep) = false) (hd2 : decide (ep < me) = false) (h1 : ¬ ot < (o : Int)) (h1d : decide (ot < (o : Int)) = false) :
    Calls Try.prog 22 #[.agg #[.int .i64 id, .bool up, .int .i64 1, .int .i64 ep, .slice A n c, .int .i64 su, .int .i64 ma, .int .i64 ot, .int .i64 co], .agg #[.int .i64 2, .int .i64 tgt, .int .i64 me, .int .i64 (o : Int), .int .i64 pr, .bool has, .int .i64 e1, .int .i64 k1, .int .i64 p1, .slice x m d]] w (NrA w ⟨0, id, up, 1, ep, su, ma, ot, max co (min su ot), V.map EkV.r, []⟩) := by
  clear hk
  have HLn : Hid (V.length = n) := hn
  have hw := (((New.refl w).alloc (.cells #[.int .i64 id, .bool up, .int .i64 1, .int .i64 ep, .slice A n c, .int .i64 su, .int .i64 ma, .int .i64 ot, .int .i64 co] 36)).alloc (.cells #[.int .i64 2, .int .i64 tgt, .int .i64 me, .int .i64 (o : Int), .int .i64 pr, .bool has, .int .i64 e1, .int .i64 k1, .int .i64 p1, .slice x m d] 46)).alloc (.cells #[.int .i64 0, .int .i64 0, .bool false, .int .i64 0, .int .i64 0, .slice none 0 0, .int .i64 0, .int .i64 0, .int .i64 0, .int .i64 0, .slice none 0 0] 39)
  have b0 := ((Blk.mk w w.heap.size 36 #[.int .i64 id, .bool up, .int .i64 1, .int .i64 ep, .slice A n c, .int .i64 su, .int .i64 ma, .int .i64 ot, .int .i64 co] rfl).alloc (.cells #[.int .i64 2, .int .i64 tgt, .int .i64 me, .int .i64 (o : Int), .int .i64 pr, .bool has, .int .i64 e1, .int .i64 k1, .int .i64 p1, .slice x m d] 46)).alloc (.cells #[.int .i64 0, .int .i64 0, .bool false, .int .i64 0, .int .i64 0, .slice none 0 0, .int .i64 0, .int .i64 0, .int .i64 0, .int .i64 0, .slice none 0 0] 39)
  have bM0 := (Blk.mk (w.alloc (.cells #[.int .i64 id, .bool up, .int .i64 1, .int .i64 ep, .slice A n c, .int .i64 su, .int .i64 ma, .int .i64 ot, .int .i64 co] 36)) (w.heap.size + 1) 46 #[.int .i64 2, .int .i64 tgt, .int .i64 me, .int .i64 (o : Int), .int .i64 pr, .bool has, .int .i64 e1, .int .i64 k1, .int .i64 p1, .slice x m d] (by simp)).alloc (.cells #[.int .i64 0, .int .i64 0, .bool false, .int .i64 0, .int .i64 0, .slice none 0 0, .int .i64 0, .int .i64 0, .int .i64 0, .int .i64 0, .slice none 0 0] 39)
  have b1 := Blk.mk ((w.alloc (.cells #[.int .i64 id, .bool up, .int .i64 1, .int .i64 ep, .slice A n c, .int .i64 su, .int .i64 ma, .int .i64 ot, .int .i64 co] 36)).alloc (.cells #[.int .i64 2, .int .i64 tgt, .int .i64 me, .int .i64 (o : Int), .int .i64 pr, .bool has, .int .i64 e1, .int .i64 k1, .int .i64 p1, .slice x m d] 46)) (w.heap.size + 1 + 1) 39 #[.int .i64 0, .int .i64 0, .bool false, .int .i64 0, .int .i64 0, .slice none 0 0, .int .i64 0, .int .i64 0, .int .i64 0, .int .i64 0, .slice none 0 0] (by simp)
  have s0 : Hid ((((w.alloc (.cells #[.int .i64 id, .bool up, .int .i64 1, .int .i64 ep, .slice A n c, .int .i64 su, .int .i64 ma, .int .i64 ot, .int .i64 co] 36)).alloc (.cells #[.int .i64 2, .int .i64 tgt, .int .i64 me, .int .i64 (o : Int), .int .i64 pr, .bool has, .int .i64 e1, .int .i64 k1, .int .i64 p1, .slice x m d] 46)).alloc (.cells #[.int .i64 0, .int .i64 0, .bool false, .int .i64 0, .int .i64 0, .slice none 0 0, .int .i64 0, .int .i64 0, .int .i64 0, .int .i64 0, .slice none 0 0] 39)).heap.size = w.heap.size + 1 + 1 + 1) := by unfold Hid; simp
  go_enter Try.func22, Try.ntmps22
  go_upto_region 1 with fail
  generalize ((w.alloc (.cells #[.int .i64 id, .bool up, .int .i64 1, .int .i64 ep, .slice A n c, .int .i64 su, .int .i64 ma, .int .i64 ot, .int .i64 co] 36)).alloc (.cells #[.int .i64 2, .int .i64 tgt, .int .i64 me, .int .i64 (o : Int), .int .i64 pr, .bool has, .int .i64 e1, .int .i64 k1, .int .i64 p1, .slice x m d] 46)).alloc (.cells #[.int .i64 0, .int .i64 0, .bool false, .int .i64 0, .int .i64 0, .slice none 0 0, .int .i64 0, .int .i64 0, .int .i64 0, .int .i64 0, .slice none 0 0] 39) = w0 at *
  have S0 := s0.out
  have c0 := b0.cells
  go_wp2_with fail
  refine (scopyNd_any id up 1 ep su ma ot co A n c V _ (h.new hw) hN hn hm).mono ?_
  rintro e w2 ⟨A3, c3, V1, rfl, hV, ho0, hn2⟩
  have al := (New.refl w2).alloc (.cells #[.int .i64 0, .int .i64 id, .bool up, .int .i64 1, .int .i64 ep, .slice A3 n c3, .int .i64 su, .int .i64 ma, .int .i64 ot, .int .i64 co, .slice none 0 0] 39)
  have bM := (bM0.new hn2).new al
  have bR := (b1.new hn2).new al
  have bX := Blk.mk w2 w2.heap.size 39 #[.int .i64 0, .int .i64 id, .bool up, .int .i64 1, .int .i64 ep, .slice A3 n c3, .int .i64 su, .int .i64 ma, .int .i64 ot, .int .i64 co, .slice none 0 0] rfl
  have hoL := (ho0.new al).up al.size
  have hw3 := (hw.trans hn2).trans al
  have z12 := hn2.size
  have z23 := al.size
  have l3 := bX.lt
  clear ho0 hn2 c0 hw b0 bM0 b1
  go_upto_region 3 with fail
  generalize w2.alloc (.cells #[.int .i64 0, .int .i64 id, .bool up, .int .i64 1, .int .i64 ep, .slice A3 n c3, .int .i64 su, .int .i64 ma, .int .i64 ot, .int .i64 co, .slice none 0 0] 39) = w3 at *
  generalize hNB : w2.heap.size = NB at *
  generalize hlo1 : w0.heap.size = lo at *
  refine hw_start (n := 7) (S := fun X => New w3 X) rfl (by kernel_rfl) ((New.refl _).drew) (fun hH => ?_)
  refine' hw_take 0 (some 13) _ rfl rfl (by kernel_rfl) (by kernel_rfl) (by kernel_rfl) (fun _ _ _ h => h) (by rfl) hH ?hy242 ?rest242
  case hy242 =>
    intro X hX
    go_simp
    try rfl
  simp only [Act.put, List.setIfInBounds_toArray, List.set_cons_zero, List.set_cons_succ]
  refine' hw_take 1 (some 14) _ rfl rfl (by kernel_rfl) (by kernel_rfl) (by kernel_rfl) (fun _ _ _ h => h) (by rfl) hH ?hy243 ?rest243
  case hy243 =>
    intro X hX
    have cX := (bM.new hX).cells
    go_simp
    try rfl
  simp only [Act.put, List.setIfInBounds_toArray, List.set_cons_zero, List.set_cons_succ]
  refine' hw_take 2 (some 15) _ rfl rfl (by kernel_rfl) (by kernel_rfl) (by kernel_rfl) (fun _ _ _ h => h) (by rfl) hH ?hy244 ?rest244
  case hy244 =>
    intro X hX
    go_simp
    try rfl
  simp only [Act.put, List.setIfInBounds_toArray, List.set_cons_zero, List.set_cons_succ]
  refine' hw_take 3 (some 16) _ rfl rfl (by kernel_rfl) (by kernel_rfl) (by kernel_rfl) (fun _ _ _ h => h) (by rfl) hH ?hy245 ?rest245
  case hy245 =>
    intro X hX
    go_simp
    try rfl
  simp only [Act.put, List.setIfInBounds_toArray, List.set_cons_zero, List.set_cons_succ]
  refine' hw_take 4 (some 17) _ rfl rfl (by kernel_rfl) (by kernel_rfl) (by kernel_rfl) (fun _ _ _ h => h) (by rfl) hH ?hy246 ?rest246
  case hy246 =>
    intro X hX
    go_simp
    try rfl
  simp only [Act.put, List.setIfInBounds_toArray, List.set_cons_zero, List.set_cons_succ]
  refine' hw_take 5 (some 18) _ rfl rfl (by kernel_rfl) (by kernel_rfl) (by kernel_rfl) (fun _ _ _ h => h) (by rfl) hH ?hy247 ?rest247
  case hy247 =>
    intro X hX
    have cX := (bX.new hX).cells
    go_simp
    try rfl
  simp only [Act.put, List.setIfInBounds_toArray, List.set_cons_zero, List.set_cons_succ]
  refine' hw_take 6 (some 19) (.bool false) rfl rfl (by kernel_rfl) (by kernel_rfl) (by kernel_rfl) (fun _ _ _ h => h) (by rfl) hH ?hyL248 ?restL248
  case hyL248 =>
    intro X hX
    go_simp
    try rfl
  simp only [Act.put, List.setIfInBounds_toArray, List.set_cons_zero, List.set_cons_succ]
  refine wpAnyH_done (by kernel_rfl) ?_ _
  have bM4 := bM.new hH
  have bR4 := bR.new hH
  have bX4 := bX.new hH
  have hoL4 := hoL.new hH
  have hw4 := hw3.trans hH
  have z4 : Hid (w3.drew.heap.size = w3.heap.size) := rfl
  clear hH bM bR bX
  try clear cX cM
  generalize w3.drew = w4 at *
  have Z4 := z4.out
  have cX := bX4.cells
  have cM := bM4.cells
  go_upto_region 5 with fail
  refine hw_start (n := 7) (S := fun X => New w4 X) rfl (by kernel_rfl) ((New.refl _).drew) (fun hH => ?_)
  refine' hw_take 0 (some 21) _ rfl rfl (by kernel_rfl) (by kernel_rfl) (by kernel_rfl) (fun _ _ _ h => h) (by rfl) hH ?hy249 ?rest249
  case hy249 =>
    intro X hX
    go_simp
    try rfl
  simp only [Act.put, List.setIfInBounds_toArray, List.set_cons_zero, List.set_cons_succ]
  refine' hw_take 1 (some 22) _ rfl rfl (by kernel_rfl) (by kernel_rfl) (by kernel_rfl) (fun _ _ _ h => h) (by rfl) hH ?hy250 ?rest250
  case hy250 =>
    intro X hX
    have cX := (bM4.new hX).cells
    go_simp
    try rfl
  simp only [Act.put, List.setIfInBounds_toArray, List.set_cons_zero, List.set_cons_succ]
  refine' hw_take 2 (some 23) _ rfl rfl (by kernel_rfl) (by kernel_rfl) (by kernel_rfl) (fun _ _ _ h => h) (by rfl) hH ?hy251 ?rest251
  case hy251 =>
    intro X hX
    go_simp
    try rfl
  simp only [Act.put, List.setIfInBounds_toArray, List.set_cons_zero, List.set_cons_succ]
  refine' hw_take 3 (some 24) _ rfl rfl (by kernel_rfl) (by kernel_rfl) (by kernel_rfl) (fun _ _ _ h => h) (by rfl) hH ?hy252 ?rest252
  case hy252 =>
    intro X hX
    go_simp
    try rfl
  simp only [Act.put, List.setIfInBounds_toArray, List.set_cons_zero, List.set_cons_succ]
  refine' hw_take 4 (some 25) _ rfl rfl (by kernel_rfl) (by kernel_rfl) (by kernel_rfl) (fun _ _ _ h => h) (by rfl) hH ?hy253 ?rest253
  case hy253 =>
    intro X hX
    go_simp
    try rfl
  simp only [Act.put, List.setIfInBounds_toArray, List.set_cons_zero, List.set_cons_succ]
  refine' hw_take 5 (some 26) _ rfl rfl (by kernel_rfl) (by kernel_rfl) (by kernel_rfl) (fun _ _ _ h => h) (by rfl) hH ?hy254 ?rest254
  case hy254 =>
    intro X hX
    have cX := (bX4.new hX).cells
    go_simp
    try rfl
  simp only [Act.put, List.setIfInBounds_toArray, List.set_cons_zero, List.set_cons_succ]
  refine' hw_take 6 (some 27) (.bool false) rfl rfl (by kernel_rfl) (by kernel_rfl) (by kernel_rfl) (fun _ _ _ h => h) (by rfl) hH ?hyL255 ?restL255
  case hyL255 =>
    intro X hX
    go_simp
    try rfl
  simp only [Act.put, List.setIfInBounds_toArray, List.set_cons_zero, List.set_cons_succ]
  refine wpAnyH_done (by kernel_rfl) ?_ _
  have bM5 := bM4.new hH
  have bR5 := bR4.new hH
  have bX5 := bX4.new hH
  have hoL5 := hoL4.new hH
  have hw5 := hw4.trans hH
  have z5 : Hid (w4.drew.heap.size = w4.heap.size) := rfl
  clear hH bM4 bR4 bX4
  try clear cX cM
  generalize w4.drew = w5 at *
  have Z5 := z5.out
  have cX := bX5.cells
  have cM := bM5.cells
  have hoL6 := hoL5
  have bX6 := bX5
  have bM6 := bM5
  have bR6 := bR5
  have hw6 := hw5
  have z6 : w5.heap.size ≤ w5.heap.size := Nat.le_refl _
  go_upto_region 12 with fail
  refine hw_start (n := 17) (S := fun X => New w5 X) rfl (by kernel_rfl) ((New.refl _).drew) (fun hH => ?_)
  refine' hw_take 0 (some 50) _ rfl rfl (by kernel_rfl) (by kernel_rfl) (by kernel_rfl) (fun _ _ _ h => h) (by rfl) hH ?hy256 ?rest256
  case hy256 =>
    intro X hX
    go_simp
    try rfl
  simp only [Act.put, List.setIfInBounds_toArray, List.set_cons_zero, List.set_cons_succ]
  refine' hw_take 1 (some 51) _ rfl rfl (by kernel_rfl) (by kernel_rfl) (by kernel_rfl) (fun _ _ _ h => h) (by rfl) hH ?hy257 ?rest257
  case hy257 =>
    intro X hX
    have cX := (bM6.new hX).cells
    go_simp
    try rfl
  simp only [Act.put, List.setIfInBounds_toArray, List.set_cons_zero, List.set_cons_succ]
  refine' hw_take 2 (some 52) _ rfl rfl (by kernel_rfl) (by kernel_rfl) (by kernel_rfl) (fun _ _ _ h => h) (by rfl) hH ?hy258 ?rest258
  case hy258 =>
    intro X hX
    go_simp
    try rfl
  simp only [Act.put, List.setIfInBounds_toArray, List.set_cons_zero, List.set_cons_succ]
  refine' hw_take 3 (some 53) _ rfl rfl (by kernel_rfl) (by kernel_rfl) (by kernel_rfl) (fun _ _ _ h => h) (by rfl) hH ?hy259 ?rest259
  case hy259 =>
    intro X hX
    go_simp
    try rfl
  simp only [Act.put, List.setIfInBounds_toArray, List.set_cons_zero, List.set_cons_succ]
  refine' hw_take 4 (some 54) _ rfl rfl (by kernel_rfl) (by kernel_rfl) (by kernel_rfl) (fun _ _ _ h => h) (by rfl) hH ?hy260 ?rest260
  case hy260 =>
    intro X hX
    go_simp
    try rfl
  simp only [Act.put, List.setIfInBounds_toArray, List.set_cons_zero, List.set_cons_succ]
  refine' hw_take 5 (some 55) _ rfl rfl (by kernel_rfl) (by kernel_rfl) (by kernel_rfl) (fun _ _ _ h => h) (by rfl) hH ?hy261 ?rest261
  case hy261 =>
    intro X hX
    have cX := (bX6.new hX).cells
    go_simp
    try rfl
  simp only [Act.put, List.setIfInBounds_toArray, List.set_cons_zero, List.set_cons_succ]
  refine' hw_take 6 (some 56) (.bool false) rfl rfl (by kernel_rfl) (by kernel_rfl) (by kernel_rfl) (fun _ _ _ h => h) (by rfl) hH ?hyL262 ?restL262
  case hyL262 =>
    intro X hX
    go_simp
    try rfl
  simp only [Act.put, List.setIfInBounds_toArray, List.set_cons_zero, List.set_cons_succ]
  refine' hw_take 7 (some 57) _ rfl rfl (by kernel_rfl) (by kernel_rfl) (by kernel_rfl) (fun _ _ _ h => h) (by rfl) hH ?hy263 ?rest263
  case hy263 =>
    intro X hX
    go_simp
    try rfl
  simp only [Act.put, List.setIfInBounds_toArray, List.set_cons_zero, List.set_cons_succ]
  refine hw_skip 8 (some 58) rfl rfl (by kernel_rfl) (by kernel_rfl) (by kernel_rfl) (fun _ _ _ h => h) (by rfl) hH ?_
  simp only [Act.put, List.setIfInBounds_toArray, List.set_cons_zero, List.set_cons_succ]
  refine hw_skip 9 (some 59) rfl rfl (by kernel_rfl) (by kernel_rfl) (by kernel_rfl) (fun _ _ _ h => h) (by rfl) hH ?_
  simp only [Act.put, List.setIfInBounds_toArray, List.set_cons_zero, List.set_cons_succ]
  refine hw_skip 10 (some 60) rfl rfl (by kernel_rfl) (by kernel_rfl) (by kernel_rfl) (fun _ _ _ h => h) (by rfl) hH ?_
  simp only [Act.put, List.setIfInBounds_toArray, List.set_cons_zero, List.set_cons_succ]
  refine hw_skip 11 (some 61) rfl rfl (by kernel_rfl) (by kernel_rfl) (by kernel_rfl) (fun _ _ _ h => h) (by rfl) hH ?_
  simp only [Act.put, List.setIfInBounds_toArray, List.set_cons_zero, List.set_cons_succ]
  refine hw_skip 12 (some 62) rfl rfl (by kernel_rfl) (by kernel_rfl) (by kernel_rfl) (fun _ _ _ h => h) (by rfl) hH ?_
  simp only [Act.put, List.setIfInBounds_toArray, List.set_cons_zero, List.set_cons_succ]
  refine hw_skip 13 (some 63) rfl rfl (by kernel_rfl) (by kernel_rfl) (by kernel_rfl) (fun _ _ _ h => h) (by rfl) hH ?_
  simp only [Act.put, List.setIfInBounds_toArray, List.set_cons_zero, List.set_cons_succ]
  refine hw_skip 14 (some 64) rfl rfl (by kernel_rfl) (by kernel_rfl) (by kernel_rfl) (fun _ _ _ h => h) (by rfl) hH ?_
  simp only [Act.put, List.setIfInBounds_toArray, List.set_cons_zero, List.set_cons_succ]
  refine hw_skip 15 (some 65) rfl rfl (by kernel_rfl) (by kernel_rfl) (by kernel_rfl) (fun _ _ _ h => h) (by rfl) hH ?_
  simp only [Act.put, List.setIfInBounds_toArray, List.set_cons_zero, List.set_cons_succ]
  refine' hw_take 16 (some 66) _ rfl rfl (by kernel_rfl) (by kernel_rfl) (by kernel_rfl) (fun _ _ _ h => h) (by rfl) hH ?hy264 ?rest264
  case hy264 =>
    intro X hX
    go_simp
    try rfl
  simp only [Act.put, List.setIfInBounds_toArray, List.set_cons_zero, List.set_cons_succ]
  refine wpAnyH_done (by kernel_rfl) ?_ _
  have bM7 := bM6.new hH
  have bR7 := bR6.new hH
  have bX7 := bX6.new hH
  have hoL7 := hoL6.new hH
  have hw7 := hw6.trans hH
  have z7 : Hid (w5.drew.heap.size = w5.heap.size) := rfl
  clear hH bM6 bR6 bX6 cX cM
  generalize w5.drew = w7 at *
  have Z7 := z7.out
  have cX := bX7.cells
  have cM := bM7.cells
  go_wp2_with fail
  refine (sagree_any NB 0 id up 1 ep su ma ot co A3 none n c3 0 0 _ bX7).mono ?_
  rintro e w9 ⟨rfl, bX9, t9⟩
  obtain ⟨c9, hc9⟩ : ∃ c9, c9 = max co (min su ot) := ⟨_, rfl⟩
  rw [← hc9] at bX9
  have HC9 : Hid (c9 = max co (min su ot)) := hc9
  clear hc9
  have hoL9 := hoL7.turnB bX7 (by decide) (by decide) t9
  have bR9 := bR7.turn t9 (by omega)
  have hw9 := hw7.before t9 (by intro i hi e; omega)
  have z9 := t9.size
  clear cX cM
  have cX := bX9.cells
  have c1 := bR9.cells
  have f1 := bR9.frees
  go_wp2
  rw [← HC9.out]
  refine bodyPost_ret (v := .agg #[.int .i64 0, .int .i64 id, .bool up, .int .i64 1, .int .i64 ep, .slice A3 n c3, .int .i64 su, .int .i64 ma, .int .i64 ot, .int .i64 c9, .slice none 0 0]) (by simp [results, Try.results22, go_sem, c1]) rfl (nrAns_mk (U := V1) (Ms := []) (by simpa using HLn.out) rfl hV rfl (NrOw.log (lo := lo) (hi := w3.heap.size) (OwL.turn (w := w9) (S := fun i => i = (w.heap.size + 1 + 1)) hoL9 ?t1 (by intro k hk _ e; omega)) (by omega) ?u1) ?n1)
  case t1 => exact set11 (S := fun i => i = (w.heap.size + 1 + 1)) w9 (w.heap.size + 1 + 1) rfl _ _ _ _ _ _ _ _ _ _ _
  case u1 => exact Nat.le_trans (by omega) (Turn.size (S := fun i => i = (w.heap.size + 1 + 1)) (set11 (S := fun i => i = (w.heap.size + 1 + 1)) w9 (w.heap.size + 1 + 1) rfl _ _ _ _ _ _ _ _ _ _ _))
  case n1 => exact Turn.trans (S := fun _ => False) (T := fun i => i = (w.heap.size + 1 + 1)) hw9 (set11 (S := fun i => i = (w.heap.size + 1 + 1)) w9 (w.heap.size + 1 + 1) rfl _ _ _ _ _ _ _ _ _ _ _) (fun i hi e => by omega)

/-- A mail of the node's own epoch that tells what is there. -/
theorem sh_t (id : Int) (up : Bool) (ro ep su ma ot co : Int) (A : Option Addr) (n c : Nat) (V : List EkV) (tgt me : Int) (o : Nat) (pr : Int) (has : Bool) (e1 k1 p1 : Int) (x : Option Addr) (m d : Nat) (xs : List Int) (w : World) (h : LgAt w A V) (hN : NlK V) (hn : V.length = n) (hm : n ≤ 2097152) (hx : BsAt w x xs) (hX : xs.length = m) (hnx : x = none → m = 0 ∧ d = 0) (hm1 : m ≤ 1048576) (hk : me = ep) (hd1 : decide (me < ep) = false) (hd2 : decide (ep < me) = false) :
    Calls Try.prog 22 #[.agg #[.int .i64 id, .bool up, .int .i64 ro, .int .i64 ep, .slice A n c, .int .i64 su, .int .i64 ma, .int .i64 ot, .int .i64 co], .agg #[.int .i64 2, .int .i64 tgt, .int .i64 me, .int .i64 (o : Int), .int .i64 pr, .bool has, .int .i64 e1, .int .i64 k1, .int .i64 p1, .slice x m d]] w (NrA w ⟨0, id, up, ro, ep, su, ma, htO ro ot o n, htC ro su ot co o n, V.map EkV.r, []⟩) := by
  by_cases hr : ro = 1
  · subst hr
    have e2 : htC 1 su ot co o n = max co (min su (htO 1 ot o n)) := by unfold htC; rw [if_pos rfl]
    rw [e2]
    by_cases h1 : ot < (o : Int)
    · by_cases h2 : (o : Int) ≤ (n : Int)
      · have e : htO 1 ot o n = o := by unfold htO; rw [if_pos ⟨rfl, h1, by omega⟩]
        rw [e]
        exact sh_ts id up ep su ma ot co A n c V tgt me o pr has e1 k1 p1 x m d xs w h hN hn hm hx hX hnx hm1 hk hd1 hd2 h1 (by simpa using h1) h2 (by simpa using h2)
      · have e : htO 1 ot o n = ot := by unfold htO; rw [if_neg (by rintro ⟨-, -, h⟩; omega)]
        rw [e]
        exact sh_tf id up ep su ma ot co A n c V tgt me o pr has e1 k1 p1 x m d xs w h hN hn hm hx hX hnx hm1 hk hd1 hd2 h1 (by simpa using h1) h2 (by simp; omega)
    · have e : htO 1 ot o n = ot := by unfold htO; rw [if_neg (by rintro ⟨-, h, -⟩; omega)]
      rw [e]
      exact sh_tl id up ep su ma ot co A n c V tgt me o pr has e1 k1 p1 x m d xs w h hN hn hm hx hX hnx hm1 hk hd1 hd2 h1 (by simp; omega)
  · have e : htO ro ot o n = ot := by unfold htO; rw [if_neg (by rintro ⟨h, -, -⟩; exact hr h)]
    have e2 : htC ro su ot co o n = co := by unfold htC; rw [if_neg hr]
    rw [e, e2]
    exact sh_te id up ro ep su ma ot co A n c V tgt me o pr has e1 k1 p1 x m d xs w h hN hn hm hx hX hnx hm1 hk hd1 hd2 hr

end Go.Proofs.Ythnigcalboobgaa
