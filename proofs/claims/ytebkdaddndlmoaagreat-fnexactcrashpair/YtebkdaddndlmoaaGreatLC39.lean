/- What is proved here: lemmas and contracts that the text of the law reaches; each names its own conditions. -/
import Derived.Test.YtebkdaddndlmoaaGreatLC38
namespace Go.Proofs.YtebkdaddndlmoaaGreat
open Go.RowKit Go.Sort
set_option linter.unusedVariables false
set_option linter.unusedSimpArgs false
set_option maxRecDepth 100000
set_option maxHeartbeats 25600000

theorem iCrash_r1A (id : Int) (up : Bool) (ro ep su ma ot co : Int) (A : Option Addr) (n c : Nat) (V : List EkV) (w : World) (h : LgAt w A V) (hN : NlK V) (hn : V.length = n) (hm : n ≤ 2097152) (xk : Int) (hf : uF up (nF id up ro ep su ma ot co n (V.map EkV.r)) = 0) (hs0 : 0 ≤ su) (hs1 : su ≤ n) (hn1 : n ≤ 100) (hx : xk < 0) :
    Calls Tryz.prog 135 #[.agg #[.int .i64 id, .bool up, .int .i64 ro, .int .i64 ep, .slice A n c, .int .i64 su, .int .i64 ma, .int .i64 ot, .int .i64 co], .int .i64 xk] w (NrAns w 3 0 false 0 0 0 0 0 0 [] []) := by
  have hw := ((New.refl w).alloc (.cells #[.int .i64 id, .bool up, .int .i64 ro, .int .i64 ep, .slice A n c, .int .i64 su, .int .i64 ma, .int .i64 ot, .int .i64 co] 108)).alloc (.cells #[.int .i64 0, .int .i64 0, .bool false, .int .i64 0, .int .i64 0, .slice none 0 0, .int .i64 0, .int .i64 0, .int .i64 0, .int .i64 0, .slice none 0 0] 110)
  have b0 := (Blk.mk w w.heap.size 108 #[.int .i64 id, .bool up, .int .i64 ro, .int .i64 ep, .slice A n c, .int .i64 su, .int .i64 ma, .int .i64 ot, .int .i64 co] rfl).alloc (.cells #[.int .i64 0, .int .i64 0, .bool false, .int .i64 0, .int .i64 0, .slice none 0 0, .int .i64 0, .int .i64 0, .int .i64 0, .int .i64 0, .slice none 0 0] 110)
  have b1 := Blk.mk (w.alloc (.cells #[.int .i64 id, .bool up, .int .i64 ro, .int .i64 ep, .slice A n c, .int .i64 su, .int .i64 ma, .int .i64 ot, .int .i64 co] 108)) (w.heap.size + 1) 110 #[.int .i64 0, .int .i64 0, .bool false, .int .i64 0, .int .i64 0, .slice none 0 0, .int .i64 0, .int .i64 0, .int .i64 0, .int .i64 0, .slice none 0 0] (by simp)
  have s0 : Hid (((w.alloc (.cells #[.int .i64 id, .bool up, .int .i64 ro, .int .i64 ep, .slice A n c, .int .i64 su, .int .i64 ma, .int .i64 ot, .int .i64 co] 108)).alloc (.cells #[.int .i64 0, .int .i64 0, .bool false, .int .i64 0, .int .i64 0, .slice none 0 0, .int .i64 0, .int .i64 0, .int .i64 0, .int .i64 0, .slice none 0 0] 110)).heap.size = w.heap.size + 1 + 1) := by unfold Hid; simp
  go_enter Tryz.func135, Tryz.ntmps135
  go_upto_region 1 with fail
  generalize (w.alloc (.cells #[.int .i64 id, .bool up, .int .i64 ro, .int .i64 ep, .slice A n c, .int .i64 su, .int .i64 ma, .int .i64 ot, .int .i64 co] 108)).alloc (.cells #[.int .i64 0, .int .i64 0, .bool false, .int .i64 0, .int .i64 0, .slice none 0 0, .int .i64 0, .int .i64 0, .int .i64 0, .int .i64 0, .slice none 0 0] 110) = w0 at *
  have S0 := s0.out
  have c0 := b0.cells
  go_wp2_with fail
  refine (upF_any 0 w.heap.size id up ro ep su ma ot co A n c V _ b0 (h.new hw) hn hm hf).mono ?_
  rintro e w1 ⟨rfl, hn1⟩
  have b11 := b1.new hn1
  have b01 := b0.new hn1
  have c01 := b01.cells
  have hw1 := hw.trans hn1
  clear c0
  have g1 : decide (xk < 0) = true := decide_eq_true (by omega)
  go_wp2_with fail
  have C0 := blk_regrown b01
  refine wp_region_quiet_below (by kernel_rfl) (by kernel_rfl) ?_
  repeat (go_big_quiet_step ((go_at_call 163; exact calls_regrown_same (count_any w.heap.size id up ro ep su ma ot co A n c _ (b01.new (new_regrown _ _ _))))))
  refine wpQuiet_nil ?_
  rintro wq1 hnq1
  replace hnq1 := new_of_regrown hnq1
  have b12 := b11.new hnq1
  have hw2 := hw1.trans hnq1
  have c1 := (b12).cells
  have f1 := (b12).frees
  go_wp2
  refine bodyPost_ret (v := .agg #[.int .i64 3, .int .i64 0, .bool false, .int .i64 0, .int .i64 0, .slice none 0 0, .int .i64 0, .int .i64 0, .int .i64 0, .int .i64 0, .slice none 0 0]) (by simp [results, Tryz.results135, go_sem, c1]) rfl (nrAns_bad 3 ?_)
  exact ((((((((((((hw2)).setCell (by simp; try omega) _).setCell (by simp; try omega) _).setCell (by simp; try omega) _).setCell (by simp; try omega) _).setCell (by simp; try omega) _).setCell (by simp; try omega) _).setCell (by simp; try omega) _).setCell (by simp; try omega) _).setCell (by simp; try omega) _).setCell (by simp; try omega) _).setCell (by simp; try omega) _

theorem iCrash_r2A (id : Int) (up : Bool) (ro ep su ma ot co : Int) (A : Option Addr) (n c : Nat) (V : List EkV) (w : World) (h : LgAt w A V) (hN : NlK V) (hn : V.length = n) (hm : n ≤ 2097152) (xk : Int) (hf : uF up (nF id up ro ep su ma ot co n (V.map EkV.r)) = 0) (hs0 : 0 ≤ su) (hs1 : su ≤ n) (hn1 : n ≤ 100) (hx0 : ¬ xk < 0) (hx : n - su < xk) :
    Calls Tryz.prog 135 #[.agg #[.int .i64 id, .bool up, .int .i64 ro, .int .i64 ep, .slice A n c, .int .i64 su, .int .i64 ma, .int .i64 ot, .int .i64 co], .int .i64 xk] w (NrAns w 3 0 false 0 0 0 0 0 0 [] []) := by
  have hw := ((New.refl w).alloc (.cells #[.int .i64 id, .bool up, .int .i64 ro, .int .i64 ep, .slice A n c, .int .i64 su, .int .i64 ma, .int .i64 ot, .int .i64 co] 108)).alloc (.cells #[.int .i64 0, .int .i64 0, .bool false, .int .i64 0, .int .i64 0, .slice none 0 0, .int .i64 0, .int .i64 0, .int .i64 0, .int .i64 0, .slice none 0 0] 110)
  have b0 := (Blk.mk w w.heap.size 108 #[.int .i64 id, .bool up, .int .i64 ro, .int .i64 ep, .slice A n c, .int .i64 su, .int .i64 ma, .int .i64 ot, .int .i64 co] rfl).alloc (.cells #[.int .i64 0, .int .i64 0, .bool false, .int .i64 0, .int .i64 0, .slice none 0 0, .int .i64 0, .int .i64 0, .int .i64 0, .int .i64 0, .slice none 0 0] 110)
  have b1 := Blk.mk (w.alloc (.cells #[.int .i64 id, .bool up, .int .i64 ro, .int .i64 ep, .slice A n c, .int .i64 su, .int .i64 ma, .int .i64 ot, .int .i64 co] 108)) (w.heap.size + 1) 110 #[.int .i64 0, .int .i64 0, .bool false, .int .i64 0, .int .i64 0, .slice none 0 0, .int .i64 0, .int .i64 0, .int .i64 0, .int .i64 0, .slice none 0 0] (by simp)
  have s0 : Hid (((w.alloc (.cells #[.int .i64 id, .bool up, .int .i64 ro, .int .i64 ep, .slice A n c, .int .i64 su, .int .i64 ma, .int .i64 ot, .int .i64 co] 108)).alloc (.cells #[.int .i64 0, .int .i64 0, .bool false, .int .i64 0, .int .i64 0, .slice none 0 0, .int .i64 0, .int .i64 0, .int .i64 0, .int .i64 0, .slice none 0 0] 110)).heap.size = w.heap.size + 1 + 1) := by unfold Hid; simp
  go_enter Tryz.func135, Tryz.ntmps135
  go_upto_region 1 with fail
  generalize (w.alloc (.cells #[.int .i64 id, .bool up, .int .i64 ro, .int .i64 ep, .slice A n c, .int .i64 su, .int .i64 ma, .int .i64 ot, .int .i64 co] 108)).alloc (.cells #[.int .i64 0, .int .i64 0, .bool false, .int .i64 0, .int .i64 0, .slice none 0 0, .int .i64 0, .int .i64 0, .int .i64 0, .int .i64 0, .slice none 0 0] 110) = w0 at *
  have S0 := s0.out
  have c0 := b0.cells
  go_wp2_with fail
  refine (upF_any 0 w.heap.size id up ro ep su ma ot co A n c V _ b0 (h.new hw) hn hm hf).mono ?_
  rintro e w1 ⟨rfl, hn1⟩
  have b11 := b1.new hn1
  have b01 := b0.new hn1
  have c01 := b01.cells
  have hw1 := hw.trans hn1
  clear c0
  have g1 : decide (xk < 0) = false := decide_eq_false (by omega)
  have g2 : decide ((n : Int) - su < xk) = true := decide_eq_true (by omega)
  go_wp2_with fail
  have C0 := blk_regrown b01
  refine wp_region_quiet_below (by kernel_rfl) (by kernel_rfl) ?_
  repeat (go_big_quiet_step ((go_at_call 163; exact calls_regrown_same (count_any w.heap.size id up ro ep su ma ot co A n c _ (b01.new (new_regrown _ _ _))))))
  refine wpQuiet_nil ?_
  rintro wq1 hnq1
  replace hnq1 := new_of_regrown hnq1
  have b12 := b11.new hnq1
  have hw2 := hw1.trans hnq1
  have c1 := (b12).cells
  have f1 := (b12).frees
  go_wp2
  refine bodyPost_ret (v := .agg #[.int .i64 3, .int .i64 0, .bool false, .int .i64 0, .int .i64 0, .slice none 0 0, .int .i64 0, .int .i64 0, .int .i64 0, .int .i64 0, .slice none 0 0]) (by simp [results, Tryz.results135, go_sem, c1]) rfl (nrAns_bad 3 ?_)
  exact ((((((((((((hw2)).setCell (by simp; try omega) _).setCell (by simp; try omega) _).setCell (by simp; try omega) _).setCell (by simp; try omega) _).setCell (by simp; try omega) _).setCell (by simp; try omega) _).setCell (by simp; try omega) _).setCell (by simp; try omega) _).setCell (by simp; try omega) _).setCell (by simp; try omega) _).setCell (by simp; try omega) _

theorem iCrash_okN (id : Int) (up : Bool) (ro ep su ma ot co : Int) (n c : Nat) (V : List EkV) (w : World) (h : LgAt w none V) (hN : NlK V) (hn : V.length = n) (hm : n ≤ 2097152) (xk : Int) (hf : uF up (nF id up ro ep su ma ot co n (V.map EkV.r)) = 0) (hs0 : 0 ≤ su) (hs1 : su ≤ n) (hn1 : n ≤ 100) (hx0 : ¬ xk < 0) (hx : ¬ n - su < xk) (k : Nat) (hk : su + xk = k) (hkn : k ≤ n) (hkc : k ≤ c) :
    Calls Tryz.prog 135 #[.agg #[.int .i64 id, .bool up, .int .i64 ro, .int .i64 ep, .slice none n c, .int .i64 su, .int .i64 ma, .int .i64 ot, .int .i64 co], .int .i64 xk] w (NrAns w 0 id false 0 ep k 0 0 0 ((V.take k).map EkV.r) []) := by
  have HLn : Hid (V.length = n) := hn
  have hwk : IntKind.i64.wrap (k : Int) = k := by simp [IntKind.wrap, IntKind.signed, IntKind.bits]; omega
  have HLk : Hid ((V.take k).length = k) := by unfold Hid; rw [List.length_take]; omega
  have hw := ((New.refl w).alloc (.cells #[.int .i64 id, .bool up, .int .i64 ro, .int .i64 ep, .slice none n c, .int .i64 su, .int .i64 ma, .int .i64 ot, .int .i64 co] 108)).alloc (.cells #[.int .i64 0, .int .i64 0, .bool false, .int .i64 0, .int .i64 0, .slice none 0 0, .int .i64 0, .int .i64 0, .int .i64 0, .int .i64 0, .slice none 0 0] 110)
  have b0 := (Blk.mk w w.heap.size 108 #[.int .i64 id, .bool up, .int .i64 ro, .int .i64 ep, .slice none n c, .int .i64 su, .int .i64 ma, .int .i64 ot, .int .i64 co] rfl).alloc (.cells #[.int .i64 0, .int .i64 0, .bool false, .int .i64 0, .int .i64 0, .slice none 0 0, .int .i64 0, .int .i64 0, .int .i64 0, .int .i64 0, .slice none 0 0] 110)
  have b1 := Blk.mk (w.alloc (.cells #[.int .i64 id, .bool up, .int .i64 ro, .int .i64 ep, .slice none n c, .int .i64 su, .int .i64 ma, .int .i64 ot, .int .i64 co] 108)) (w.heap.size + 1) 110 #[.int .i64 0, .int .i64 0, .bool false, .int .i64 0, .int .i64 0, .slice none 0 0, .int .i64 0, .int .i64 0, .int .i64 0, .int .i64 0, .slice none 0 0] (by simp)
  have s0 : Hid (((w.alloc (.cells #[.int .i64 id, .bool up, .int .i64 ro, .int .i64 ep, .slice none n c, .int .i64 su, .int .i64 ma, .int .i64 ot, .int .i64 co] 108)).alloc (.cells #[.int .i64 0, .int .i64 0, .bool false, .int .i64 0, .int .i64 0, .slice none 0 0, .int .i64 0, .int .i64 0, .int .i64 0, .int .i64 0, .slice none 0 0] 110)).heap.size = w.heap.size + 1 + 1) := by unfold Hid; simp
  go_enter Tryz.func135, Tryz.ntmps135
  go_upto_region 1 with fail
  generalize (w.alloc (.cells #[.int .i64 id, .bool up, .int .i64 ro, .int .i64 ep, .slice none n c, .int .i64 su, .int .i64 ma, .int .i64 ot, .int .i64 co] 108)).alloc (.cells #[.int .i64 0, .int .i64 0, .bool false, .int .i64 0, .int .i64 0, .slice none 0 0, .int .i64 0, .int .i64 0, .int .i64 0, .int .i64 0, .slice none 0 0] 110) = w0 at *
  have S0 := s0.out
  have c0 := b0.cells
  go_wp2_with fail
  refine (upF_any 0 w.heap.size id up ro ep su ma ot co none n c V _ b0 (h.new hw) hn hm hf).mono ?_
  rintro e w1 ⟨rfl, hn1⟩
  have b11 := b1.new hn1
  have b01 := b0.new hn1
  have c01 := b01.cells
  have hw1 := hw.trans hn1
  clear c0
  have g1 : decide (xk < 0) = false := decide_eq_false (by omega)
  have g2 : decide ((n : Int) - su < xk) = false := decide_eq_false (by omega)
  go_wp2_with fail
  have C0 := blk_regrown b01
  refine wp_region_quiet_below (by kernel_rfl) (by kernel_rfl) ?_
  repeat (go_big_quiet_step ((go_at_call 163; exact calls_regrown_same (count_any w.heap.size id up ro ep su ma ot co none n c _ (b01.new (new_regrown _ _ _))))))
  refine wpQuiet_nil ?_
  rintro wq1 hnq1
  replace hnq1 := new_of_regrown hnq1
  have b02 := b01.new hnq1
  have b12 := b11.new hnq1
  have hw2 := hw1.trans hnq1
  have z01 := hn1.size
  have zq := hnq1.size
  clear C0 c01 b01 b11
  go_upto_region 6 with fail
  refine hw_start (n := 15) (S := fun X => New wq1 X) rfl (by kernel_rfl) ((New.refl _).drew) (fun hH => ?_)
  refine' hw_t 0 (some 23) _ rfl rfl hH ?hy1 ?rest1
  case hy1 =>
    intro X hX
    go_simp
    try rfl
  simp only [Act.put, pA9, pB9, pC9]
  refine' hw_t 1 (some 24) _ rfl rfl hH ?hy2 ?rest2
  case hy2 =>
    intro X hX
    have c0X := (b02.new hX).cells
    go_simp
    try rfl
  simp only [Act.put, pA9, pB9, pC9]
  refine' hw_t 2 (some 25) _ rfl rfl hH ?hy3 ?rest3
  case hy3 =>
    intro X hX
    go_simp
    try rfl
  simp only [Act.put, pA9, pB9, pC9]
  refine' hw_t 3 (some 26) _ rfl rfl hH ?hy4 ?rest4
  case hy4 =>
    intro X hX
    have c0X := (b02.new hX).cells
    go_simp
    try rfl
  simp only [Act.put, pA9, pB9, pC9]
  refine' hw_t 4 (some 27) _ rfl rfl hH ?hy5 ?rest5
  case hy5 =>
    intro X hX
    go_simp
    try rfl
  simp only [Act.put, pA9, pB9, pC9]
  refine' hw_t 5 (some 28) _ rfl rfl hH ?hy6 ?rest6
  case hy6 =>
    intro X hX
    have c0X := (b02.new hX).cells
    go_simp
    try rfl
  simp only [Act.put, pA9, pB9, pC9]
  refine' hw_t 6 (some 29) _ rfl rfl hH ?hy7 ?rest7
  case hy7 =>
    intro X hX
    go_simp
    try rfl
  simp only [Act.put, pA9, pB9, pC9]
  refine' hw_t 7 (some 30) _ rfl rfl hH ?hy8 ?rest8
  case hy8 =>
    intro X hX
    have c0X := (b02.new hX).cells
    go_simp
    try rfl
  simp only [Act.put, pA9, pB9, pC9]
  refine' hw_t 8 (some 31) _ rfl rfl hH ?hy9 ?rest9
  case hy9 =>
    intro X hX
    go_simp
    try rfl
  simp only [Act.put, pA9, pB9, pC9]
  refine' hw_t 9 (some 32) _ rfl rfl hH ?hy10 ?rest10
  case hy10 =>
    intro X hX
    go_simp
    try rfl
  simp only [Act.put, pA9, pB9, pC9]
  refine' hw_t 10 (some 33) _ rfl rfl hH ?hy11 ?rest11
  case hy11 =>
    intro X hX
    go_simp
    try rfl
  simp only [Act.put, pA9, pB9, pC9]
  refine wpAnyH_ready (rs := [11, 13]) (by kernel_rfl) (by simp) ?_
  refine hw_step 11 (some 34) rfl rfl (by rfl) (fun K hK => ?_) ?_
  · skip
    go_simp
    refine (copyLg_any none k c (V.take k) _ ((h.new (hw2.trans hH)).take k) (hN.take k) HLk.out (by omega)).mono ?_
    rintro e w2 ⟨u, V', rfl, hV, ho, hn2⟩
    have hl : V'.length = k := by have h1 := congrArg List.length hV; simp only [List.length_map] at h1; rw [h1]; exact HLk.out
    obtain ⟨A', c', hform, -, -⟩ := row9_form ho.row
    rw [hl] at hform
    subst hform
    replace ho : OwL w2 wq1.heap.size w2.heap.size (.slice A' k c') V' := ho
    have n2 := hH.trans hn2
    go_simp
    refine hK.out _ _ n2 (fun hH2 => ?_)
    simp only [Act.put, pA9, pB9, pC9]
    refine' hw_t 12 (some 35) _ rfl rfl hH2 ?hy12 ?rest12
    case hy12 =>
      intro X hX
      go_simp
      try rfl
    simp only [Act.put, pA9, pB9, pC9]
    refine hw_call 13 (some 6) rfl rfl (by kernel_rfl) (by rfl) (fun K hK => ?_)
    go_simp
    have al := (New.refl w2).alloc (.cells #[.int .i64 0, .bool false, .int .i64 0, .int .i64 0, .slice none 0 0, .int .i64 0, .int .i64 0, .int .i64 0, .int .i64 0] 108)
    have bZ := Blk.mk w2 w2.heap.size 108 #[.int .i64 0, .bool false, .int .i64 0, .int .i64 0, .slice none 0 0, .int .i64 0, .int .i64 0, .int .i64 0, .int .i64 0] rfl
    have nz := n2.trans al
    have b1z := (b12.new n2).new al
    have hoz := ho.new al
    have z2 := n2.size
    have z2z := al.size
    have l12 := (b12.new n2).lt
    refine hK.out _ _ nz (fun hH3 => ?_)
    simp only [Act.put, pA9, pB9, pC9]
    generalize hNB : w2.heap.size = NB at bZ ⊢
    generalize w2.alloc (.cells #[.int .i64 0, .bool false, .int .i64 0, .int .i64 0, .slice none 0 0, .int .i64 0, .int .i64 0, .int .i64 0, .int .i64 0] 108) = wz at *
    refine hw_call 14 none rfl rfl (by kernel_rfl) (by rfl) (fun K hK => ?_)
    refine hw_store 108 (.tmp 6) (.tmp 35) rfl rfl NB #[.int .i64 id, .bool false, .int .i64 0, .int .i64 ep, .slice A' k c', .int .i64 0, .int .i64 0, .int .i64 0, .int .i64 0] #[.int .i64 0, .bool false, .int .i64 0, .int .i64 0, .slice none 0 0, .int .i64 0, .int .i64 0, .int .i64 0, .int .i64 0] rfl rfl bZ (by kernel_rfl) rfl (by kernel_rfl) ?_
    have bX := bZ.rowW #[.int .i64 id, .bool false, .int .i64 0, .int .i64 ep, .slice A' k c', .int .i64 0, .int .i64 0, .int .i64 0, .int .i64 0]
    have tR := Turn.rowW (Turn.refl (fun i => i = NB) wz) rfl #[.int .i64 id, .bool false, .int .i64 0, .int .i64 ep, .slice A' k c', .int .i64 0, .int .i64 0, .int .i64 0, .int .i64 0]
    have b13 := b1z.turn tR (by omega)
    have ho3 := hoz.turn tR (by intro j j1 j2 e; omega)
    have n3 := nz.before tR (by intro i hi e; omega)
    have z3 := tR.size
    refine hK.out undef _ n3 (fun hS2 => ?_)
    refine wpAnyH_done (by kernel_rfl) ?_ _
    generalize World.setRow _ _ _ = w3 at *
    have hw3 := hw2.trans n3
    clear bZ b1z hoz tR
    go_wp2_with fail
    refine (count_any NB id false 0 ep 0 0 0 0 A' k c' _ bX).mono ?_
    rintro e wy ⟨rfl, hwy⟩
    obtain rfl := hwy.symm
    have cX := bX.cells
    have fX := bX.frees
    go_upto_region 8 with fail
    have bX4 := bX.set 5 (.int .i64 k)
    have t4 := (Turn.refl (fun i => i = NB) w3).set (p := ⟨NB, 5, none⟩) rfl (.int .i64 k)
    have b14 := b13.turn t4 (by omega)
    have ho4 := ho3.turn t4 (by intro j j1 j2 e; omega)
    have hw4 := hw3.before t4 (by intro i hi e; omega)
    have z4 := t4.size
    generalize w3.setCell ⟨NB, 5, none⟩ (.int .i64 k) = w4 at *
    clear cX fX bX b13 ho3 t4
    have c1 := b14.cells
    have f1 := b14.frees
    have cX := bX4.cells
    go_wp2
    refine bodyPost_ret (v := .agg #[.int .i64 0, .int .i64 id, .bool false, .int .i64 0, .int .i64 ep, .slice A' k c', .int .i64 (k : Int), .int .i64 0, .int .i64 0, .int .i64 0, .slice none 0 0]) (by simp [results, Tryz.results135, go_sem, c1]) rfl (nrAns_mk (U := V') (Ms := []) (by simpa using HLk.out) rfl hV rfl (NrOw.log (lo := wq1.heap.size) (hi := w2.heap.size) (OwL.turn (w := w4) (S := fun i => i = w.heap.size + 1) ho4 ?t1 (by intro k hk _ e; omega)) (by omega) ?u1) ?n1)
    case t1 => exact set11 (S := fun i => i = w.heap.size + 1) w4 (w.heap.size + 1) rfl _ _ _ _ _ _ _ _ _ _ _
    case u1 => exact Nat.le_trans (by omega) (Turn.size (S := fun i => i = w.heap.size + 1) (set11 (S := fun i => i = w.heap.size + 1) w4 (w.heap.size + 1) rfl _ _ _ _ _ _ _ _ _ _ _))
    case n1 => exact Turn.trans (S := fun _ => False) (T := fun i => i = w.heap.size + 1) hw4 (set11 (S := fun i => i = w.heap.size + 1) w4 (w.heap.size + 1) rfl _ _ _ _ _ _ _ _ _ _ _) (fun i hi e => by omega)
  refine hw_step 13 (some 6) rfl rfl (by rfl) (fun K hK => ?_) ?_
  · skip
    go_simp
    have alB := ((New.refl wq1).alloc (.cells #[.int .i64 0, .bool false, .int .i64 0, .int .i64 0, .slice none 0 0, .int .i64 0, .int .i64 0, .int .i64 0, .int .i64 0] 108)).drew
    have bZ0 : Blk ((wq1.alloc (.cells #[.int .i64 0, .bool false, .int .i64 0, .int .i64 0, .slice none 0 0, .int .i64 0, .int .i64 0, .int .i64 0, .int .i64 0] 108)).drew) wq1.heap.size 108 #[.int .i64 0, .bool false, .int .i64 0, .int .i64 0, .slice none 0 0, .int .i64 0, .int .i64 0, .int .i64 0, .int .i64 0] := (Blk.mk wq1 wq1.heap.size 108 #[.int .i64 0, .bool false, .int .i64 0, .int .i64 0, .slice none 0 0, .int .i64 0, .int .i64 0, .int .i64 0, .int .i64 0] rfl).new ((New.refl _).drew)
    have sB : Hid ((wq1.alloc (.cells #[.int .i64 0, .bool false, .int .i64 0, .int .i64 0, .slice none 0 0, .int .i64 0, .int .i64 0, .int .i64 0, .int .i64 0] 108)).drew.heap.size = wq1.heap.size + 1) := by unfold Hid; simp
    refine hK.out _ _ alB (fun hHB => ?_)
    simp only [Act.put, pA9, pB9, pC9]
    generalize (wq1.alloc (.cells #[.int .i64 0, .bool false, .int .i64 0, .int .i64 0, .slice none 0 0, .int .i64 0, .int .i64 0, .int .i64 0, .int .i64 0] 108)).drew = wB at *
    refine hw_call 11 (some 34) rfl rfl (by kernel_rfl) (by rfl) (fun K hK => ?_)
    go_simp
    refine (copyLg_any none k c (V.take k) _ ((h.new (hw2.trans alB)).take k) (hN.take k) HLk.out (by omega)).mono ?_
    rintro e w2 ⟨u, V', rfl, hV, ho, hn2⟩
    have hl : V'.length = k := by have h1 := congrArg List.length hV; simp only [List.length_map] at h1; rw [h1]; exact HLk.out
    obtain ⟨A', c', hform, -, -⟩ := row9_form ho.row
    rw [hl] at hform
    subst hform
    rw [sB.out] at ho
    have n2 := alB.trans hn2
    go_simp
    refine hK.out _ _ n2 (fun hH2 => ?_)
    simp only [Act.put, pA9, pB9, pC9]
    refine' hw_t 12 (some 35) _ rfl rfl hH2 ?hy13 ?rest13
    case hy13 =>
      intro X hX
      go_simp
      try rfl
    simp only [Act.put, pA9, pB9, pC9]
    have bZ := bZ0.new hn2
    have nz := n2
    have b1z := b12.new n2
    have hoz := ho
    have z2 := n2.size
    have l12 := b12.lt
    have lz := bZ.lt
    refine hw_call 14 none rfl rfl (by kernel_rfl) (by rfl) (fun K hK => ?_)
    refine hw_store 108 (.tmp 6) (.tmp 35) rfl rfl wq1.heap.size #[.int .i64 id, .bool false, .int .i64 0, .int .i64 ep, .slice A' k c', .int .i64 0, .int .i64 0, .int .i64 0, .int .i64 0] #[.int .i64 0, .bool false, .int .i64 0, .int .i64 0, .slice none 0 0, .int .i64 0, .int .i64 0, .int .i64 0, .int .i64 0] rfl rfl bZ (by kernel_rfl) rfl (by kernel_rfl) ?_
    have bX := bZ.rowW #[.int .i64 id, .bool false, .int .i64 0, .int .i64 ep, .slice A' k c', .int .i64 0, .int .i64 0, .int .i64 0, .int .i64 0]
    have tR := Turn.rowW (Turn.refl (fun i => i = wq1.heap.size) w2) rfl #[.int .i64 id, .bool false, .int .i64 0, .int .i64 ep, .slice A' k c', .int .i64 0, .int .i64 0, .int .i64 0, .int .i64 0]
    have b13 := b1z.turn tR (by omega)
    have ho3 := hoz.turn tR (by intro j j1 j2 e; omega)
    have n3 := nz.before tR (by intro i hi e; omega)
    have z3 := tR.size
    refine hK.out undef _ n3 (fun hS2 => ?_)
    refine wpAnyH_done (by kernel_rfl) ?_ _
    generalize World.setRow _ _ _ = w3 at *
    have hw3 := hw2.trans n3
    clear bZ b1z hoz tR
    go_wp2_with fail
    refine (count_any wq1.heap.size id false 0 ep 0 0 0 0 A' k c' _ bX).mono ?_
    rintro e wy ⟨rfl, hwy⟩
    obtain rfl := hwy.symm
    have cX := bX.cells
    have fX := bX.frees
    go_upto_region 8 with fail
    have bX4 := bX.set 5 (.int .i64 k)
    have t4 := (Turn.refl (fun i => i = wq1.heap.size) w3).set (p := ⟨wq1.heap.size, 5, none⟩) rfl (.int .i64 k)
    have b14 := b13.turn t4 (by omega)
    have ho4 := ho3.turn t4 (by intro j j1 j2 e; omega)
    have hw4 := hw3.before t4 (by intro i hi e; omega)
    have z4 := t4.size
    generalize w3.setCell ⟨wq1.heap.size, 5, none⟩ (.int .i64 k) = w4 at *
    clear cX fX bX b13 ho3 t4
    have c1 := b14.cells
    have f1 := b14.frees
    have cX := bX4.cells
    go_wp2
    refine bodyPost_ret (v := .agg #[.int .i64 0, .int .i64 id, .bool false, .int .i64 0, .int .i64 ep, .slice A' k c', .int .i64 (k : Int), .int .i64 0, .int .i64 0, .int .i64 0, .slice none 0 0]) (by simp [results, Tryz.results135, go_sem, c1]) rfl (nrAns_mk (U := V') (Ms := []) (by simpa using HLk.out) rfl hV rfl (NrOw.log (lo := (wq1.heap.size + 1)) (hi := w2.heap.size) (OwL.turn (w := w4) (S := fun i => i = w.heap.size + 1) ho4 ?t1 (by intro k hk _ e; omega)) (by omega) ?u1) ?n1)
    case t1 => exact set11 (S := fun i => i = w.heap.size + 1) w4 (w.heap.size + 1) rfl _ _ _ _ _ _ _ _ _ _ _
    case u1 => exact Nat.le_trans (by omega) (Turn.size (S := fun i => i = w.heap.size + 1) (set11 (S := fun i => i = w.heap.size + 1) w4 (w.heap.size + 1) rfl _ _ _ _ _ _ _ _ _ _ _))
    case n1 => exact Turn.trans (S := fun _ => False) (T := fun i => i = w.heap.size + 1) hw4 (set11 (S := fun i => i = w.heap.size + 1) w4 (w.heap.size + 1) rfl _ _ _ _ _ _ _ _ _ _ _) (fun i hi e => by omega)
  exact fun j hj => by cases hj

end Go.Proofs.YtebkdaddndlmoaaGreat
