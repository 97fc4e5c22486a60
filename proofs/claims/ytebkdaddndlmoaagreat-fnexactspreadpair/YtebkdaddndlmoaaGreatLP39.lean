/- Lemmas and contracts of one law. -/
import Derived.Test.YtebkdaddndlmoaaGreatLP38
import Derived.Deep.CutRange
namespace Go.Proofs.YtebkdaddndlmoaaGreat
open Go.RowKit Go.Sort
set_option linter.unusedVariables false
set_option linter.unusedSimpArgs false
set_option maxRecDepth 100000
set_option maxHeartbeats 25600000

theorem sSpread_f (id : Int) (up : Bool) (ro ep su ma ot co : Int) (A : Option Addr) (n c : Nat) (V : List EkV) (w : World) (h : LgAt w A V) (hN : NlK V) (hn : V.length = n) (hm : n ≤ 2097152) (z : Int) (hf : aF up ro (nF id up ro ep su ma ot co n (V.map EkV.r)) = z) (hz : ¬ z = 0) :
    Calls Tryz.prog 73 #[.agg #[.int .i64 id, .bool up, .int .i64 ro, .int .i64 ep, .slice A n c, .int .i64 su, .int .i64 ma, .int .i64 ot, .int .i64 co]] w (NrAns w z 0 false 0 0 0 0 0 0 [] []) := by
  have hw := ((New.refl w).alloc (.cells #[.int .i64 id, .bool up, .int .i64 ro, .int .i64 ep, .slice A n c, .int .i64 su, .int .i64 ma, .int .i64 ot, .int .i64 co] 108)).alloc (.cells #[.int .i64 0, .int .i64 0, .bool false, .int .i64 0, .int .i64 0, .slice none 0 0, .int .i64 0, .int .i64 0, .int .i64 0, .int .i64 0, .slice none 0 0] 110)
  have b0 := (Blk.mk w w.heap.size 108 #[.int .i64 id, .bool up, .int .i64 ro, .int .i64 ep, .slice A n c, .int .i64 su, .int .i64 ma, .int .i64 ot, .int .i64 co] rfl).alloc (.cells #[.int .i64 0, .int .i64 0, .bool false, .int .i64 0, .int .i64 0, .slice none 0 0, .int .i64 0, .int .i64 0, .int .i64 0, .int .i64 0, .slice none 0 0] 110)
  have b1 := Blk.mk (w.alloc (.cells #[.int .i64 id, .bool up, .int .i64 ro, .int .i64 ep, .slice A n c, .int .i64 su, .int .i64 ma, .int .i64 ot, .int .i64 co] 108)) (w.heap.size + 1) 110 #[.int .i64 0, .int .i64 0, .bool false, .int .i64 0, .int .i64 0, .slice none 0 0, .int .i64 0, .int .i64 0, .int .i64 0, .int .i64 0, .slice none 0 0] (by simp)
  have s0 : Hid (((w.alloc (.cells #[.int .i64 id, .bool up, .int .i64 ro, .int .i64 ep, .slice A n c, .int .i64 su, .int .i64 ma, .int .i64 ot, .int .i64 co] 108)).alloc (.cells #[.int .i64 0, .int .i64 0, .bool false, .int .i64 0, .int .i64 0, .slice none 0 0, .int .i64 0, .int .i64 0, .int .i64 0, .int .i64 0, .slice none 0 0] 110)).heap.size = w.heap.size + 1 + 1) := by unfold Hid; simp
  go_enter Tryz.func73, Tryz.ntmps73
  go_upto_region 1 with fail
  generalize (w.alloc (.cells #[.int .i64 id, .bool up, .int .i64 ro, .int .i64 ep, .slice A n c, .int .i64 su, .int .i64 ma, .int .i64 ot, .int .i64 co] 108)).alloc (.cells #[.int .i64 0, .int .i64 0, .bool false, .int .i64 0, .int .i64 0, .slice none 0 0, .int .i64 0, .int .i64 0, .int .i64 0, .int .i64 0, .slice none 0 0] 110) = w0 at *
  have S0 := s0.out
  have c0 := b0.cells
  go_wp2_with fail
  refine (sactF_any z w.heap.size id up ro ep su ma ot co A n c V _ b0 (h.new hw) hn hm hf).mono ?_
  rintro e w1 ⟨rfl, hn1⟩
  have b11 := b1.new hn1
  have b01 := b0.new hn1
  have c01 := b01.cells
  have hw1 := hw.trans hn1
  clear c0
  have c1 := (b11).cells
  have f1 := (b11).frees
  go_wp2_with fail
  refine (bad12 z _).mono ?_
  rintro e wq ⟨rfl, hnq⟩
  have c1 := ((b11).new hnq).cells
  have f1 := ((b11).new hnq).frees
  go_wp2
  refine bodyPost_ret (v := .agg #[.int .i64 z, .int .i64 0, .bool false, .int .i64 0, .int .i64 0, .slice none 0 0, .int .i64 0, .int .i64 0, .int .i64 0, .int .i64 0, .slice none 0 0]) (by simp [results, Tryz.results73, go_sem, c1]) rfl (nrAns_bad z ?_)
  exact ((((((((((((hw1.trans hnq)).setCell (by simp; try omega) _).setCell (by simp; try omega) _).setCell (by simp; try omega) _).setCell (by simp; try omega) _).setCell (by simp; try omega) _).setCell (by simp; try omega) _).setCell (by simp; try omega) _).setCell (by simp; try omega) _).setCell (by simp; try omega) _).setCell (by simp; try omega) _).setCell (by simp; try omega) _

theorem sSpread_fk (id : Int) (up : Bool) (ro ep su ma : Int) (o : Nat) (co : Int) (A : Option Addr) (n c : Nat) (V : List EkV) (w : World) (h : LgAt w A V) (hN : NlK V) (hn : V.length = n) (hm : n ≤ 2097152) (hf : aF up ro (nF id up ro ep su ma (o : Int) co n (V.map EkV.r)) = 0) (hid : id = 0 ∨ id = 1) (ho : n ≤ o) (ho2 : o ≤ n) :
    Calls Tryz.prog 73 #[.agg #[.int .i64 id, .bool up, .int .i64 ro, .int .i64 ep, .slice A n c, .int .i64 su, .int .i64 ma, .int .i64 (o : Int), .int .i64 co]] w (NrAns w 0 id up ro ep su ma (o : Int) co (V.map EkV.r) [⟨1, 1 - id, ep, (o : Int), prevE (V.map EkV.r) o, false, ⟨0, 0, 0, []⟩⟩]) := by
  have HLn : Hid (V.length = n) := hn
  obtain ⟨pv, hpv⟩ : ∃ pv, pv = prevE (V.map EkV.r) o := ⟨_, rfl⟩
  have HPV : Hid (pv = prevE (V.map EkV.r) o) := hpv
  clear hpv
  have hwr : IntKind.i64.wrap (1 - id) = 1 - id := by simp [IntKind.wrap, IntKind.signed, IntKind.bits]; omega
  have hw := ((New.refl w).alloc (.cells #[.int .i64 id, .bool up, .int .i64 ro, .int .i64 ep, .slice A n c, .int .i64 su, .int .i64 ma, .int .i64 (o : Int), .int .i64 co] 108)).alloc (.cells #[.int .i64 0, .int .i64 0, .bool false, .int .i64 0, .int .i64 0, .slice none 0 0, .int .i64 0, .int .i64 0, .int .i64 0, .int .i64 0, .slice none 0 0] 110)
  have b0 := (Blk.mk w w.heap.size 108 #[.int .i64 id, .bool up, .int .i64 ro, .int .i64 ep, .slice A n c, .int .i64 su, .int .i64 ma, .int .i64 (o : Int), .int .i64 co] rfl).alloc (.cells #[.int .i64 0, .int .i64 0, .bool false, .int .i64 0, .int .i64 0, .slice none 0 0, .int .i64 0, .int .i64 0, .int .i64 0, .int .i64 0, .slice none 0 0] 110)
  have b1 := Blk.mk (w.alloc (.cells #[.int .i64 id, .bool up, .int .i64 ro, .int .i64 ep, .slice A n c, .int .i64 su, .int .i64 ma, .int .i64 (o : Int), .int .i64 co] 108)) (w.heap.size + 1) 110 #[.int .i64 0, .int .i64 0, .bool false, .int .i64 0, .int .i64 0, .slice none 0 0, .int .i64 0, .int .i64 0, .int .i64 0, .int .i64 0, .slice none 0 0] (by simp)
  have s0 : Hid (((w.alloc (.cells #[.int .i64 id, .bool up, .int .i64 ro, .int .i64 ep, .slice A n c, .int .i64 su, .int .i64 ma, .int .i64 (o : Int), .int .i64 co] 108)).alloc (.cells #[.int .i64 0, .int .i64 0, .bool false, .int .i64 0, .int .i64 0, .slice none 0 0, .int .i64 0, .int .i64 0, .int .i64 0, .int .i64 0, .slice none 0 0] 110)).heap.size = w.heap.size + 1 + 1) := by unfold Hid; simp
  go_enter Tryz.func73, Tryz.ntmps73
  go_upto_region 1 with fail
  generalize (w.alloc (.cells #[.int .i64 id, .bool up, .int .i64 ro, .int .i64 ep, .slice A n c, .int .i64 su, .int .i64 ma, .int .i64 (o : Int), .int .i64 co] 108)).alloc (.cells #[.int .i64 0, .int .i64 0, .bool false, .int .i64 0, .int .i64 0, .slice none 0 0, .int .i64 0, .int .i64 0, .int .i64 0, .int .i64 0, .slice none 0 0] 110) = w0 at *
  have S0 := s0.out
  have c0 := b0.cells
  go_wp2_with fail
  refine (sactF_any 0 w.heap.size id up ro ep su ma (o : Int) co A n c V _ b0 (h.new hw) hn hm hf).mono ?_
  rintro e w1 ⟨rfl, hn1⟩
  have b11 := b1.new hn1
  have b01 := b0.new hn1
  have c01 := b01.cells
  have hw1 := hw.trans hn1
  clear c0
  have z01 := hn1.size
  clear c01
  go_upto_region 4 with fail
  go_cut [4] from 10 to 20 (fun v wx => v = .pointer (some ⟨w1.heap.size, 0, none⟩) ∧ Blk wx w1.heap.size 137 #[.int .i64 1, .int .i64 (1 - id), .int .i64 ep, .int .i64 (o : Int), .int .i64 pv, .bool false, .int .i64 0, .int .i64 0, .int .i64 0, .slice none 0 0] ∧ New w1 wx)
  case first =>
    refine hw_start (n := 13) (S := fun X => New w1 X) rfl (by kernel_rfl) ((New.refl _).drew) (fun hH => ?_)
    refine' hw_t 0 (some 10) _ rfl rfl hH ?hy1 ?rest1
    case hy1 =>
      intro X hX
      go_simp
      try rfl
    simp only [Act.put, pA9, pB9, pC9]
    refine' hw_t 1 (some 11) _ rfl rfl hH ?hy2 ?rest2
    case hy2 =>
      intro X hX
      have c0X := (b01.new hX).cells
      go_simp
      try rfl
    simp only [Act.put, pA9, pB9, pC9]
    refine' hw_t 2 (some 12) _ rfl rfl hH ?hy3 ?rest3
    case hy3 =>
      intro X hX
      go_simp
      try rfl
    simp only [Act.put, pA9, pB9, pC9]
    refine' hw_t 3 (some 13) _ rfl rfl hH ?hy4 ?rest4
    case hy4 =>
      intro X hX
      go_simp
      try rfl
    simp only [Act.put, pA9, pB9, pC9]
    refine' hw_t 4 (some 14) _ rfl rfl hH ?hy5 ?rest5
    case hy5 =>
      intro X hX
      have c0X := (b01.new hX).cells
      go_simp
      try rfl
    simp only [Act.put, pA9, pB9, pC9]
    refine' hw_t 5 (some 15) _ rfl rfl hH ?hy6 ?rest6
    case hy6 =>
      intro X hX
      go_simp
      try rfl
    simp only [Act.put, pA9, pB9, pC9]
    refine' hw_t 6 (some 16) _ rfl rfl hH ?hy7 ?rest7
    case hy7 =>
      intro X hX
      have c0X := (b01.new hX).cells
      go_simp
      try rfl
    simp only [Act.put, pA9, pB9, pC9]
    refine' hw_t 7 (some 17) _ rfl rfl hH ?hy8 ?rest8
    case hy8 =>
      intro X hX
      go_simp
      try rfl
    simp only [Act.put, pA9, pB9, pC9]
    refine' hw_t 8 (some 18) _ rfl rfl hH ?hy9 ?rest9
    case hy9 =>
      intro X hX
      have c0X := (b01.new hX).cells
      go_simp
      try rfl
    simp only [Act.put, pA9, pB9, pC9]
    refine wpAnyH_ready (rs := [9, 11]) (by kernel_rfl) (by simp) ?_
    refine hw_step 9 (some 19) rfl rfl (by rfl) (fun K hK => ?_) ?_
    · skip
      go_simp
      refine (prev_any o w.heap.size id up ro ep su ma (o : Int) co A n c V _ (b01.new ((New.refl w1).drew)) (h.new (hw1.trans ((New.refl w1).drew))) hn hm (by omega)).mono ?_
      rintro e wy ⟨rfl, hwy⟩
      obtain rfl := hwy.symm
      rw [← HPV.out]
      go_simp
      refine hK.out _ _ ((New.refl w1).drew) (fun hH2 => ?_)
      simp only [Act.put, pA9, pB9, pC9]
      refine' hw_t 10 (some 20) _ rfl rfl hH2 ?hy10 ?rest10
      case hy10 =>
        intro X hX
        go_simp
        try rfl
      simp only [Act.put, pA9, pB9, pC9]
      refine hw_call 11 (some 4) rfl rfl (by kernel_rfl) (by rfl) (fun K hK => ?_)
      go_simp
      have nz := ((New.refl w1).alloc (.cells #[.int .i64 0, .int .i64 0, .int .i64 0, .int .i64 0, .int .i64 0, .bool false, .int .i64 0, .int .i64 0, .int .i64 0, .slice none 0 0] 137)).drew
      have bZ : Blk ((w1.alloc (.cells #[.int .i64 0, .int .i64 0, .int .i64 0, .int .i64 0, .int .i64 0, .bool false, .int .i64 0, .int .i64 0, .int .i64 0, .slice none 0 0] 137)).drew) w1.heap.size 137 #[.int .i64 0, .int .i64 0, .int .i64 0, .int .i64 0, .int .i64 0, .bool false, .int .i64 0, .int .i64 0, .int .i64 0, .slice none 0 0] := (Blk.mk w1 w1.heap.size 137 #[.int .i64 0, .int .i64 0, .int .i64 0, .int .i64 0, .int .i64 0, .bool false, .int .i64 0, .int .i64 0, .int .i64 0, .slice none 0 0] rfl).new ((New.refl _).drew)
      refine hK.out _ _ nz (fun hH3 => ?_)
      simp only [Act.put, pA9, pB9, pC9]
      generalize (w1.alloc (.cells #[.int .i64 0, .int .i64 0, .int .i64 0, .int .i64 0, .int .i64 0, .bool false, .int .i64 0, .int .i64 0, .int .i64 0, .slice none 0 0] 137)).drew = wz at *
      refine hw_call 12 none rfl rfl (by kernel_rfl) (by rfl) (fun K hK => ?_)
      refine hw_store 137 (.tmp 4) (.tmp 20) rfl rfl w1.heap.size #[.int .i64 1, .int .i64 (1 - id), .int .i64 ep, .int .i64 (o : Int), .int .i64 pv, .bool false, .int .i64 0, .int .i64 0, .int .i64 0, .slice none 0 0] #[.int .i64 0, .int .i64 0, .int .i64 0, .int .i64 0, .int .i64 0, .bool false, .int .i64 0, .int .i64 0, .int .i64 0, .slice none 0 0] rfl rfl bZ (by kernel_rfl) rfl (by kernel_rfl) ?_
      have bX := bZ.rowW #[.int .i64 1, .int .i64 (1 - id), .int .i64 ep, .int .i64 (o : Int), .int .i64 pv, .bool false, .int .i64 0, .int .i64 0, .int .i64 0, .slice none 0 0]
      have nX : New w1 (wz.setRow w1.heap.size #[.int .i64 1, .int .i64 (1 - id), .int .i64 ep, .int .i64 (o : Int), .int .i64 pv, .bool false, .int .i64 0, .int .i64 0, .int .i64 0, .slice none 0 0]) := nz.before (Turn.rowW (Turn.refl (fun i => i = w1.heap.size) wz) rfl #[.int .i64 1, .int .i64 (1 - id), .int .i64 ep, .int .i64 (o : Int), .int .i64 pv, .bool false, .int .i64 0, .int .i64 0, .int .i64 0, .slice none 0 0]) (by intro i hi e; omega)
      refine hK.out undef _ nX (fun hS2 => ?_)
      refine wpAnyH_done (by kernel_rfl) ?_ _
      go_wp2_with fail
      go_meet
      exact ⟨rfl, bX, nX⟩
    refine hw_step 11 (some 4) rfl rfl (by rfl) (fun K hK => ?_) ?_
    · skip
      go_simp
      have nz := ((New.refl w1).alloc (.cells #[.int .i64 0, .int .i64 0, .int .i64 0, .int .i64 0, .int .i64 0, .bool false, .int .i64 0, .int .i64 0, .int .i64 0, .slice none 0 0] 137)).drew
      have bZ : Blk ((w1.alloc (.cells #[.int .i64 0, .int .i64 0, .int .i64 0, .int .i64 0, .int .i64 0, .bool false, .int .i64 0, .int .i64 0, .int .i64 0, .slice none 0 0] 137)).drew) w1.heap.size 137 #[.int .i64 0, .int .i64 0, .int .i64 0, .int .i64 0, .int .i64 0, .bool false, .int .i64 0, .int .i64 0, .int .i64 0, .slice none 0 0] := (Blk.mk w1 w1.heap.size 137 #[.int .i64 0, .int .i64 0, .int .i64 0, .int .i64 0, .int .i64 0, .bool false, .int .i64 0, .int .i64 0, .int .i64 0, .slice none 0 0] rfl).new ((New.refl _).drew)
      refine hK.out _ _ nz (fun hH3 => ?_)
      simp only [Act.put, pA9, pB9, pC9]
      generalize (w1.alloc (.cells #[.int .i64 0, .int .i64 0, .int .i64 0, .int .i64 0, .int .i64 0, .bool false, .int .i64 0, .int .i64 0, .int .i64 0, .slice none 0 0] 137)).drew = wz at *
      refine hw_call 9 (some 19) rfl rfl (by kernel_rfl) (by rfl) (fun K hK => ?_)
      go_simp
      refine (prev_any o w.heap.size id up ro ep su ma (o : Int) co A n c V _ (b01.new nz) (h.new (hw1.trans nz)) hn hm (by omega)).mono ?_
      rintro e wy ⟨rfl, hwy⟩
      obtain rfl := hwy.symm
      rw [← HPV.out]
      go_simp
      refine hK.out _ _ nz (fun hH2 => ?_)
      simp only [Act.put, pA9, pB9, pC9]
      refine' hw_t 10 (some 20) _ rfl rfl hH2 ?hy11 ?rest11
      case hy11 =>
        intro X hX
        go_simp
        try rfl
      simp only [Act.put, pA9, pB9, pC9]
      refine hw_call 12 none rfl rfl (by kernel_rfl) (by rfl) (fun K hK => ?_)
      refine hw_store 137 (.tmp 4) (.tmp 20) rfl rfl w1.heap.size #[.int .i64 1, .int .i64 (1 - id), .int .i64 ep, .int .i64 (o : Int), .int .i64 pv, .bool false, .int .i64 0, .int .i64 0, .int .i64 0, .slice none 0 0] #[.int .i64 0, .int .i64 0, .int .i64 0, .int .i64 0, .int .i64 0, .bool false, .int .i64 0, .int .i64 0, .int .i64 0, .slice none 0 0] rfl rfl bZ (by kernel_rfl) rfl (by kernel_rfl) ?_
      have bX := bZ.rowW #[.int .i64 1, .int .i64 (1 - id), .int .i64 ep, .int .i64 (o : Int), .int .i64 pv, .bool false, .int .i64 0, .int .i64 0, .int .i64 0, .slice none 0 0]
      have nX : New w1 (wz.setRow w1.heap.size #[.int .i64 1, .int .i64 (1 - id), .int .i64 ep, .int .i64 (o : Int), .int .i64 pv, .bool false, .int .i64 0, .int .i64 0, .int .i64 0, .slice none 0 0]) := nz.before (Turn.rowW (Turn.refl (fun i => i = w1.heap.size) wz) rfl #[.int .i64 1, .int .i64 (1 - id), .int .i64 ep, .int .i64 (o : Int), .int .i64 pv, .bool false, .int .i64 0, .int .i64 0, .int .i64 0, .slice none 0 0]) (by intro i hi e; omega)
      refine hK.out undef _ nX (fun hS2 => ?_)
      refine wpAnyH_done (by kernel_rfl) ?_ _
      go_wp2_with fail
      go_meet
      exact ⟨rfl, bX, nX⟩
    exact fun j hj => by cases hj
  case rest =>
  obtain ⟨rfl, bM, hn5⟩ := hcut
  have z45 := hn5.size
  have b05 := b01.new hn5
  have b15 := b11.new hn5
  have hw5 := hw1.trans hn5
  have l5 := bM.lt
  have c05 := b05.cells
  have g1 : decide ((o : Int) < (n : Int)) = false := decide_eq_false (by omega)
  clear b01 b11
  have hz1w := hw1.size
  go_upto_region 8 with fail
  have g2 : decide (o < n) = false := decide_eq_false (by omega)
  try simp only [g2]
  refine hw_start (n := 6) (S := fun X => Turn (fun i => i = w.heap.size + 1) wc X) rfl (by kernel_rfl) (((New.refl _).drew).turn) (fun hH => ?_)
  refine' hw_take 0 (some 36) (.agg #[.int .i64 id, .bool up, .int .i64 ro, .int .i64 ep, .slice A n c, .int .i64 su, .int .i64 ma, .int .i64 (o : Int), .int .i64 co]) rfl rfl (by kernel_rfl) (by kernel_rfl) (by kernel_rfl) (fun _ _ _ h => h) (by rfl) hH ?hyA ?restA
  case hyA =>
    intro X hX
    exact run_load_blk 108 (.tmp 1) rfl w.heap.size rfl #[.int .i64 id, .bool up, .int .i64 ro, .int .i64 ep, .slice A n c, .int .i64 su, .int .i64 ma, .int .i64 (o : Int), .int .i64 co] _ (b05.turn hX (by omega)) Tryz.underlying108 rfl (by kernel_rfl)
  simp only [Act.put, pA9, pB9, pC9]
  refine' hw_take 2 (some 38) (.agg #[.int .i64 1, .int .i64 (1 - id), .int .i64 ep, .int .i64 (o : Int), .int .i64 pv, .bool false, .int .i64 0, .int .i64 0, .int .i64 0, .slice none 0 0]) rfl rfl (by kernel_rfl) (by kernel_rfl) (by kernel_rfl) (fun _ _ _ h => h) (by rfl) hH ?hyB ?restB
  case hyB =>
    intro X hX
    exact run_load_blk 137 (.tmp 4) rfl w1.heap.size rfl #[.int .i64 1, .int .i64 (1 - id), .int .i64 ep, .int .i64 (o : Int), .int .i64 pv, .bool false, .int .i64 0, .int .i64 0, .int .i64 0, .slice none 0 0] _ (bM.turn hX (by omega)) Tryz.underlying137 rfl (by kernel_rfl)
  simp only [Act.put, pA9, pB9, pC9]
  refine wpAnyH_ready (rs := [1, 3]) (by kernel_rfl) (by simp) ?_
  refine hw_step 1 (some 37) rfl rfl (by rfl) (fun K hK => ?_) ?_
  · skip
    go_simp
    refine (scopyNd_any id up ro ep su ma (o : Int) co A n c V _ (h.new (hw5.trans ((New.refl wc).drew))) hN hn hm).mono ?_
    rintro e w6 ⟨A', c', V', rfl, hV, hoL, hn6⟩
    replace hoL : OwL w6 wc.heap.size w6.heap.size (.slice A' n c') V' := hoL
    have n6 := ((New.refl wc).drew).trans hn6
    have z6 := hn6.size
    go_simp
    refine hK.out _ _ n6.turn (fun hH6 => ?_)
    simp only [Act.put, pA9, pB9, pC9]
    refine hw_call 3 (some 39) rfl rfl (by kernel_rfl) (by rfl) (fun K hK => ?_)
    go_simp
    have al7 := (New.refl w6).alloc (.cells #[.int .i64 1, .int .i64 (1 - id), .int .i64 ep, .int .i64 (o : Int), .int .i64 pv, .bool false, .int .i64 0, .int .i64 0, .int .i64 0, .slice none 0 0] 137)
    have bM7 := Blk.mk w6 w6.heap.size 137 #[.int .i64 1, .int .i64 (1 - id), .int .i64 ep, .int .i64 (o : Int), .int .i64 pv, .bool false, .int .i64 0, .int .i64 0, .int .i64 0, .slice none 0 0] rfl
    have n7 := n6.trans al7
    have hoL7 := hoL.new al7
    have z7 := al7.size
    have l7 := bM7.lt
    have z56 : wc.heap.size ≤ w6.heap.size := n6.size
    have b17 := (b15.new n7)
    have hw7 := hw5.trans n7
    refine hK.out _ _ n7.turn (fun hH7 => ?_)
    simp only [Act.put, pA9, pB9, pC9]
    generalize w6.alloc (.cells #[.int .i64 1, .int .i64 (1 - id), .int .i64 ep, .int .i64 (o : Int), .int .i64 pv, .bool false, .int .i64 0, .int .i64 0, .int .i64 0, .slice none 0 0] 137) = w7 at *
    refine' hw_t 4 (some 40) _ rfl rfl hH7 ?hy12 ?rest12
    case hy12 =>
      intro X hX
      go_simp
      try rfl
    simp only [Act.put, pA9, pB9, pC9]
    refine hw_call 5 none rfl rfl (by kernel_rfl) (by rfl) (fun K hK => ?_)
    refine hw_store 110 (.tmp 2) (.tmp 40) rfl rfl (w.heap.size + 1) #[.int .i64 0, .int .i64 id, .bool up, .int .i64 ro, .int .i64 ep, .slice A' n c', .int .i64 su, .int .i64 ma, .int .i64 (o : Int), .int .i64 co, .slice (some ⟨w6.heap.size, 0, none⟩) 1 1] #[.int .i64 0, .int .i64 0, .bool false, .int .i64 0, .int .i64 0, .slice none 0 0, .int .i64 0, .int .i64 0, .int .i64 0, .int .i64 0, .slice none 0 0] rfl rfl b17 (by kernel_rfl) rfl (by kernel_rfl) ?_
    have tR := Turn.rowW (Turn.refl (fun i => i = w.heap.size + 1) w7) rfl #[.int .i64 0, .int .i64 id, .bool up, .int .i64 ro, .int .i64 ep, .slice A' n c', .int .i64 su, .int .i64 ma, .int .i64 (o : Int), .int .i64 co, .slice (some ⟨w6.heap.size, 0, none⟩) 1 1]
    have bR := b17.rowW #[.int .i64 0, .int .i64 id, .bool up, .int .i64 ro, .int .i64 ep, .slice A' n c', .int .i64 su, .int .i64 ma, .int .i64 (o : Int), .int .i64 co, .slice (some ⟨w6.heap.size, 0, none⟩) 1 1]
    have hoR := hoL7.turn tR (by intro k _ _ e; omega)
    have bMR := bM7.turn tR (by omega)
    have hwR := hw7.before tR (by intro i hi e; omega)
    have zR := tR.size
    have hvR : ∀ X : World, OvB X w.heap.size (MlV.pv ⟨⟨1, 1 - id, ep, (o : Int), pv, false, ⟨0, 0, 0, []⟩⟩, none, 0⟩) [] := fun X => ⟨rfl, .inl ⟨rfl, rfl⟩⟩
    refine hK.out undef _ (Turn.trans hH7 tR (fun i _ e => e)) (fun hS2 => ?_)
    refine wpAnyH_done (by kernel_rfl) ?_ _
    generalize World.setRow _ _ _ = wR at *
    go_wp2
    refine bodyPost_ret (results_row1 rfl rfl bR ⟨_, Tryz.underlying110⟩ (by kernel_rfl)) rfl (nrAns_mk (U := V') (Ms := [⟨⟨1, 1 - id, ep, (o : Int), pv, false, ⟨0, 0, 0, []⟩⟩, none, 0⟩]) (by simpa using HLn.out) rfl hV ?_ (NrOw.send (lb := w.heap.size) (lo := wc.heap.size) (hi := w6.heap.size) ⟨⟨1, 1 - id, ep, (o : Int), pv, false, ⟨0, 0, 0, []⟩⟩, none, 0⟩ hoR (by omega) (by omega) ?_ (by omega) (by omega) (by omega) (hvR _) (by simp) (by simp) (Nat.le_refl _) (by intro k hk; simp [MlV.pv, Value.ownBlock] at hk) (by omega)) hwR)
    · simp [HPV.out]
    · have := row_of_blk bMR rfl
      simpa [MlV.cs] using this
  refine hw_step 3 (some 39) rfl rfl (by rfl) (fun K hK => ?_) ?_
  · skip
    go_simp
    have al7 := ((New.refl wc).alloc (.cells #[.int .i64 1, .int .i64 (1 - id), .int .i64 ep, .int .i64 (o : Int), .int .i64 pv, .bool false, .int .i64 0, .int .i64 0, .int .i64 0, .slice none 0 0] 137)).drew
    have bM0 : Blk ((wc.alloc (.cells #[.int .i64 1, .int .i64 (1 - id), .int .i64 ep, .int .i64 (o : Int), .int .i64 pv, .bool false, .int .i64 0, .int .i64 0, .int .i64 0, .slice none 0 0] 137)).drew) wc.heap.size 137 #[.int .i64 1, .int .i64 (1 - id), .int .i64 ep, .int .i64 (o : Int), .int .i64 pv, .bool false, .int .i64 0, .int .i64 0, .int .i64 0, .slice none 0 0] := (Blk.mk wc wc.heap.size 137 #[.int .i64 1, .int .i64 (1 - id), .int .i64 ep, .int .i64 (o : Int), .int .i64 pv, .bool false, .int .i64 0, .int .i64 0, .int .i64 0, .slice none 0 0] rfl).new ((New.refl _).drew)
    have sB : Hid ((wc.alloc (.cells #[.int .i64 1, .int .i64 (1 - id), .int .i64 ep, .int .i64 (o : Int), .int .i64 pv, .bool false, .int .i64 0, .int .i64 0, .int .i64 0, .slice none 0 0] 137)).drew.heap.size = wc.heap.size + 1) := by unfold Hid; simp
    refine hK.out _ _ al7.turn (fun hHB => ?_)
    simp only [Act.put, pA9, pB9, pC9]
    generalize (wc.alloc (.cells #[.int .i64 1, .int .i64 (1 - id), .int .i64 ep, .int .i64 (o : Int), .int .i64 pv, .bool false, .int .i64 0, .int .i64 0, .int .i64 0, .slice none 0 0] 137)).drew = wB at *
    refine hw_call 1 (some 37) rfl rfl (by kernel_rfl) (by rfl) (fun K hK => ?_)
    go_simp
    refine (scopyNd_any id up ro ep su ma (o : Int) co A n c V _ (h.new (hw5.trans al7)) hN hn hm).mono ?_
    rintro e w6 ⟨A', c', V', rfl, hV, hoL, hn6⟩
    rw [sB.out] at hoL
    have n6 := al7.trans hn6
    have z6 := hn6.size
    go_simp
    refine hK.out _ _ n6.turn (fun hH7 => ?_)
    simp only [Act.put, pA9, pB9, pC9]
    have bM7 := bM0.new hn6
    have l7 := bM7.lt
    have b17 := (b15.new n6)
    have hw7 := hw5.trans n6
    refine' hw_t 4 (some 40) _ rfl rfl hH7 ?hy13 ?rest13
    case hy13 =>
      intro X hX
      go_simp
      try rfl
    simp only [Act.put, pA9, pB9, pC9]
    refine hw_call 5 none rfl rfl (by kernel_rfl) (by rfl) (fun K hK => ?_)
    refine hw_store 110 (.tmp 2) (.tmp 40) rfl rfl (w.heap.size + 1) #[.int .i64 0, .int .i64 id, .bool up, .int .i64 ro, .int .i64 ep, .slice A' n c', .int .i64 su, .int .i64 ma, .int .i64 (o : Int), .int .i64 co, .slice (some ⟨wc.heap.size, 0, none⟩) 1 1] #[.int .i64 0, .int .i64 0, .bool false, .int .i64 0, .int .i64 0, .slice none 0 0, .int .i64 0, .int .i64 0, .int .i64 0, .int .i64 0, .slice none 0 0] rfl rfl b17 (by kernel_rfl) rfl (by kernel_rfl) ?_
    have tR := Turn.rowW (Turn.refl (fun i => i = w.heap.size + 1) w6) rfl #[.int .i64 0, .int .i64 id, .bool up, .int .i64 ro, .int .i64 ep, .slice A' n c', .int .i64 su, .int .i64 ma, .int .i64 (o : Int), .int .i64 co, .slice (some ⟨wc.heap.size, 0, none⟩) 1 1]
    have bR := b17.rowW #[.int .i64 0, .int .i64 id, .bool up, .int .i64 ro, .int .i64 ep, .slice A' n c', .int .i64 su, .int .i64 ma, .int .i64 (o : Int), .int .i64 co, .slice (some ⟨wc.heap.size, 0, none⟩) 1 1]
    have hoR := hoL.turn tR (by intro k _ _ e; omega)
    have bMR := bM7.turn tR (by omega)
    have hwR := hw7.before tR (by intro i hi e; omega)
    have zR := tR.size
    have hvR : ∀ X : World, OvB X w.heap.size (MlV.pv ⟨⟨1, 1 - id, ep, (o : Int), pv, false, ⟨0, 0, 0, []⟩⟩, none, 0⟩) [] := fun X => ⟨rfl, .inl ⟨rfl, rfl⟩⟩
    refine hK.out undef _ (Turn.trans hH7 tR (fun i _ e => e)) (fun hS2 => ?_)
    refine wpAnyH_done (by kernel_rfl) ?_ _
    generalize World.setRow _ _ _ = wR at *
    go_wp2
    refine bodyPost_ret (results_row1 rfl rfl bR ⟨_, Tryz.underlying110⟩ (by kernel_rfl)) rfl (nrAns_mk (U := V') (Ms := [⟨⟨1, 1 - id, ep, (o : Int), pv, false, ⟨0, 0, 0, []⟩⟩, none, 0⟩]) (by simpa using HLn.out) rfl hV ?_ (NrOw.send (lb := w.heap.size) (lo := (wc.heap.size + 1)) (hi := w6.heap.size) ⟨⟨1, 1 - id, ep, (o : Int), pv, false, ⟨0, 0, 0, []⟩⟩, none, 0⟩ hoR (by omega) (by omega) ?_ (by omega) (by omega) (by omega) (hvR _) (by simp) (by simp) (Nat.le_refl _) (by intro k hk; simp [MlV.pv, Value.ownBlock] at hk) (by omega)) hwR)
    · simp [HPV.out]
    · have := row_of_blk bMR rfl
      simpa [MlV.cs] using this
  exact fun j hj => by cases hj

theorem sSpread_tk (id : Int) (up : Bool) (ro ep su ma : Int) (o : Nat) (co : Int) (A : Option Addr) (n c : Nat) (V : List EkV) (w : World) (h : LgAt w A V) (hN : NlK V) (hn : V.length = n) (hm : n ≤ 2097152) (hf : aF up ro (nF id up ro ep su ma (o : Int) co n (V.map EkV.r)) = 0) (hid : id = 0 ∨ id = 1) (ho : o < n) (en : Ek) (hen : (V.map EkV.r)[o]? = some en) :
    Calls Tryz.prog 73 #[.agg #[.int .i64 id, .bool up, .int .i64 ro, .int .i64 ep, .slice A n c, .int .i64 su, .int .i64 ma, .int .i64 (o : Int), .int .i64 co]] w (NrAns w 0 id up ro ep su ma (o : Int) co (V.map EkV.r) [⟨1, 1 - id, ep, (o : Int), prevE (V.map EkV.r) o, true, en⟩]) := by
  have HLn : Hid (V.length = n) := hn
  obtain ⟨pv, hpv⟩ : ∃ pv, pv = prevE (V.map EkV.r) o := ⟨_, rfl⟩
  have HPV : Hid (pv = prevE (V.map EkV.r) o) := hpv
  clear hpv
  have hwr : IntKind.i64.wrap (1 - id) = 1 - id := by simp [IntKind.wrap, IntKind.signed, IntKind.bits]; omega
  have HEN0 : Hid ((V.map EkV.r)[o]? = some en) := hen
  clear hen
  have hw := ((New.refl w).alloc (.cells #[.int .i64 id, .bool up, .int .i64 ro, .int .i64 ep, .slice A n c, .int .i64 su, .int .i64 ma, .int .i64 (o : Int), .int .i64 co] 108)).alloc (.cells #[.int .i64 0, .int .i64 0, .bool false, .int .i64 0, .int .i64 0, .slice none 0 0, .int .i64 0, .int .i64 0, .int .i64 0, .int .i64 0, .slice none 0 0] 110)
  have b0 := (Blk.mk w w.heap.size 108 #[.int .i64 id, .bool up, .int .i64 ro, .int .i64 ep, .slice A n c, .int .i64 su, .int .i64 ma, .int .i64 (o : Int), .int .i64 co] rfl).alloc (.cells #[.int .i64 0, .int .i64 0, .bool false, .int .i64 0, .int .i64 0, .slice none 0 0, .int .i64 0, .int .i64 0, .int .i64 0, .int .i64 0, .slice none 0 0] 110)
  have b1 := Blk.mk (w.alloc (.cells #[.int .i64 id, .bool up, .int .i64 ro, .int .i64 ep, .slice A n c, .int .i64 su, .int .i64 ma, .int .i64 (o : Int), .int .i64 co] 108)) (w.heap.size + 1) 110 #[.int .i64 0, .int .i64 0, .bool false, .int .i64 0, .int .i64 0, .slice none 0 0, .int .i64 0, .int .i64 0, .int .i64 0, .int .i64 0, .slice none 0 0] (by simp)
  have s0 : Hid (((w.alloc (.cells #[.int .i64 id, .bool up, .int .i64 ro, .int .i64 ep, .slice A n c, .int .i64 su, .int .i64 ma, .int .i64 (o : Int), .int .i64 co] 108)).alloc (.cells #[.int .i64 0, .int .i64 0, .bool false, .int .i64 0, .int .i64 0, .slice none 0 0, .int .i64 0, .int .i64 0, .int .i64 0, .int .i64 0, .slice none 0 0] 110)).heap.size = w.heap.size + 1 + 1) := by unfold Hid; simp
  go_enter Tryz.func73, Tryz.ntmps73
  go_upto_region 1 with fail
  generalize (w.alloc (.cells #[.int .i64 id, .bool up, .int .i64 ro, .int .i64 ep, .slice A n c, .int .i64 su, .int .i64 ma, .int .i64 (o : Int), .int .i64 co] 108)).alloc (.cells #[.int .i64 0, .int .i64 0, .bool false, .int .i64 0, .int .i64 0, .slice none 0 0, .int .i64 0, .int .i64 0, .int .i64 0, .int .i64 0, .slice none 0 0] 110) = w0 at *
  have S0 := s0.out
  have c0 := b0.cells
  go_wp2_with fail
  refine (sactF_any 0 w.heap.size id up ro ep su ma (o : Int) co A n c V _ b0 (h.new hw) hn hm hf).mono ?_
  rintro e w1 ⟨rfl, hn1⟩
  have b11 := b1.new hn1
  have b01 := b0.new hn1
  have c01 := b01.cells
  have hw1 := hw.trans hn1
  clear c0
  have z01 := hn1.size
  clear c01
  go_upto_region 4 with fail
  go_cut [4] from 10 to 20 (fun v wx => v = .pointer (some ⟨w1.heap.size, 0, none⟩) ∧ Blk wx w1.heap.size 137 #[.int .i64 1, .int .i64 (1 - id), .int .i64 ep, .int .i64 (o : Int), .int .i64 pv, .bool false, .int .i64 0, .int .i64 0, .int .i64 0, .slice none 0 0] ∧ New w1 wx)
  case first =>
    refine hw_start (n := 13) (S := fun X => New w1 X) rfl (by kernel_rfl) ((New.refl _).drew) (fun hH => ?_)
    refine' hw_t 0 (some 10) _ rfl rfl hH ?hy14 ?rest14
    case hy14 =>
      intro X hX
      go_simp
      try rfl
    simp only [Act.put, pA9, pB9, pC9]
    refine' hw_t 1 (some 11) _ rfl rfl hH ?hy15 ?rest15
    case hy15 =>
      intro X hX
      have c0X := (b01.new hX).cells
      go_simp
      try rfl
    simp only [Act.put, pA9, pB9, pC9]
    refine' hw_t 2 (some 12) _ rfl rfl hH ?hy16 ?rest16
    case hy16 =>
      intro X hX
      go_simp
      try rfl
    simp only [Act.put, pA9, pB9, pC9]
    refine' hw_t 3 (some 13) _ rfl rfl hH ?hy17 ?rest17
    case hy17 =>
      intro X hX
      go_simp
      try rfl
    simp only [Act.put, pA9, pB9, pC9]
    refine' hw_t 4 (some 14) _ rfl rfl hH ?hy18 ?rest18
    case hy18 =>
      intro X hX
      have c0X := (b01.new hX).cells
      go_simp
      try rfl
    simp only [Act.put, pA9, pB9, pC9]
    refine' hw_t 5 (some 15) _ rfl rfl hH ?hy19 ?rest19
    case hy19 =>
      intro X hX
      go_simp
      try rfl
    simp only [Act.put, pA9, pB9, pC9]
    refine' hw_t 6 (some 16) _ rfl rfl hH ?hy20 ?rest20
    case hy20 =>
      intro X hX
      have c0X := (b01.new hX).cells
      go_simp
      try rfl
    simp only [Act.put, pA9, pB9, pC9]
    refine' hw_t 7 (some 17) _ rfl rfl hH ?hy21 ?rest21
    case hy21 =>
      intro X hX
      go_simp
      try rfl
    simp only [Act.put, pA9, pB9, pC9]
    refine' hw_t 8 (some 18) _ rfl rfl hH ?hy22 ?rest22
    case hy22 =>
      intro X hX
      have c0X := (b01.new hX).cells
      go_simp
      try rfl
    simp only [Act.put, pA9, pB9, pC9]
    refine wpAnyH_ready (rs := [9, 11]) (by kernel_rfl) (by simp) ?_
    refine hw_step 9 (some 19) rfl rfl (by rfl) (fun K hK => ?_) ?_
    · skip
      go_simp
      refine (prev_any o w.heap.size id up ro ep su ma (o : Int) co A n c V _ (b01.new ((New.refl w1).drew)) (h.new (hw1.trans ((New.refl w1).drew))) hn hm (by omega)).mono ?_
      rintro e wy ⟨rfl, hwy⟩
      obtain rfl := hwy.symm
      rw [← HPV.out]
      go_simp
      refine hK.out _ _ ((New.refl w1).drew) (fun hH2 => ?_)
      simp only [Act.put, pA9, pB9, pC9]
      refine' hw_t 10 (some 20) _ rfl rfl hH2 ?hy23 ?rest23
      case hy23 =>
        intro X hX
        go_simp
        try rfl
      simp only [Act.put, pA9, pB9, pC9]
      refine hw_call 11 (some 4) rfl rfl (by kernel_rfl) (by rfl) (fun K hK => ?_)
      go_simp
      have nz := ((New.refl w1).alloc (.cells #[.int .i64 0, .int .i64 0, .int .i64 0, .int .i64 0, .int .i64 0, .bool false, .int .i64 0, .int .i64 0, .int .i64 0, .slice none 0 0] 137)).drew
      have bZ : Blk ((w1.alloc (.cells #[.int .i64 0, .int .i64 0, .int .i64 0, .int .i64 0, .int .i64 0, .bool false, .int .i64 0, .int .i64 0, .int .i64 0, .slice none 0 0] 137)).drew) w1.heap.size 137 #[.int .i64 0, .int .i64 0, .int .i64 0, .int .i64 0, .int .i64 0, .bool false, .int .i64 0, .int .i64 0, .int .i64 0, .slice none 0 0] := (Blk.mk w1 w1.heap.size 137 #[.int .i64 0, .int .i64 0, .int .i64 0, .int .i64 0, .int .i64 0, .bool false, .int .i64 0, .int .i64 0, .int .i64 0, .slice none 0 0] rfl).new ((New.refl _).drew)
      refine hK.out _ _ nz (fun hH3 => ?_)
      simp only [Act.put, pA9, pB9, pC9]
      generalize (w1.alloc (.cells #[.int .i64 0, .int .i64 0, .int .i64 0, .int .i64 0, .int .i64 0, .bool false, .int .i64 0, .int .i64 0, .int .i64 0, .slice none 0 0] 137)).drew = wz at *
      refine hw_call 12 none rfl rfl (by kernel_rfl) (by rfl) (fun K hK => ?_)
      refine hw_store 137 (.tmp 4) (.tmp 20) rfl rfl w1.heap.size #[.int .i64 1, .int .i64 (1 - id), .int .i64 ep, .int .i64 (o : Int), .int .i64 pv, .bool false, .int .i64 0, .int .i64 0, .int .i64 0, .slice none 0 0] #[.int .i64 0, .int .i64 0, .int .i64 0, .int .i64 0, .int .i64 0, .bool false, .int .i64 0, .int .i64 0, .int .i64 0, .slice none 0 0] rfl rfl bZ (by kernel_rfl) rfl (by kernel_rfl) ?_
      have bX := bZ.rowW #[.int .i64 1, .int .i64 (1 - id), .int .i64 ep, .int .i64 (o : Int), .int .i64 pv, .bool false, .int .i64 0, .int .i64 0, .int .i64 0, .slice none 0 0]
      have nX : New w1 (wz.setRow w1.heap.size #[.int .i64 1, .int .i64 (1 - id), .int .i64 ep, .int .i64 (o : Int), .int .i64 pv, .bool false, .int .i64 0, .int .i64 0, .int .i64 0, .slice none 0 0]) := nz.before (Turn.rowW (Turn.refl (fun i => i = w1.heap.size) wz) rfl #[.int .i64 1, .int .i64 (1 - id), .int .i64 ep, .int .i64 (o : Int), .int .i64 pv, .bool false, .int .i64 0, .int .i64 0, .int .i64 0, .slice none 0 0]) (by intro i hi e; omega)
      refine hK.out undef _ nX (fun hS2 => ?_)
      refine wpAnyH_done (by kernel_rfl) ?_ _
      go_wp2_with fail
      go_meet
      exact ⟨rfl, bX, nX⟩
    refine hw_step 11 (some 4) rfl rfl (by rfl) (fun K hK => ?_) ?_
    · skip
      go_simp
      have nz := ((New.refl w1).alloc (.cells #[.int .i64 0, .int .i64 0, .int .i64 0, .int .i64 0, .int .i64 0, .bool false, .int .i64 0, .int .i64 0, .int .i64 0, .slice none 0 0] 137)).drew
      have bZ : Blk ((w1.alloc (.cells #[.int .i64 0, .int .i64 0, .int .i64 0, .int .i64 0, .int .i64 0, .bool false, .int .i64 0, .int .i64 0, .int .i64 0, .slice none 0 0] 137)).drew) w1.heap.size 137 #[.int .i64 0, .int .i64 0, .int .i64 0, .int .i64 0, .int .i64 0, .bool false, .int .i64 0, .int .i64 0, .int .i64 0, .slice none 0 0] := (Blk.mk w1 w1.heap.size 137 #[.int .i64 0, .int .i64 0, .int .i64 0, .int .i64 0, .int .i64 0, .bool false, .int .i64 0, .int .i64 0, .int .i64 0, .slice none 0 0] rfl).new ((New.refl _).drew)
      refine hK.out _ _ nz (fun hH3 => ?_)
      simp only [Act.put, pA9, pB9, pC9]
      generalize (w1.alloc (.cells #[.int .i64 0, .int .i64 0, .int .i64 0, .int .i64 0, .int .i64 0, .bool false, .int .i64 0, .int .i64 0, .int .i64 0, .slice none 0 0] 137)).drew = wz at *
      refine hw_call 9 (some 19) rfl rfl (by kernel_rfl) (by rfl) (fun K hK => ?_)
      go_simp
      refine (prev_any o w.heap.size id up ro ep su ma (o : Int) co A n c V _ (b01.new nz) (h.new (hw1.trans nz)) hn hm (by omega)).mono ?_
      rintro e wy ⟨rfl, hwy⟩
      obtain rfl := hwy.symm
      rw [← HPV.out]
      go_simp
      refine hK.out _ _ nz (fun hH2 => ?_)
      simp only [Act.put, pA9, pB9, pC9]
      refine' hw_t 10 (some 20) _ rfl rfl hH2 ?hy24 ?rest24
      case hy24 =>
        intro X hX
        go_simp
        try rfl
      simp only [Act.put, pA9, pB9, pC9]
      refine hw_call 12 none rfl rfl (by kernel_rfl) (by rfl) (fun K hK => ?_)
      refine hw_store 137 (.tmp 4) (.tmp 20) rfl rfl w1.heap.size #[.int .i64 1, .int .i64 (1 - id), .int .i64 ep, .int .i64 (o : Int), .int .i64 pv, .bool false, .int .i64 0, .int .i64 0, .int .i64 0, .slice none 0 0] #[.int .i64 0, .int .i64 0, .int .i64 0, .int .i64 0, .int .i64 0, .bool false, .int .i64 0, .int .i64 0, .int .i64 0, .slice none 0 0] rfl rfl bZ (by kernel_rfl) rfl (by kernel_rfl) ?_
      have bX := bZ.rowW #[.int .i64 1, .int .i64 (1 - id), .int .i64 ep, .int .i64 (o : Int), .int .i64 pv, .bool false, .int .i64 0, .int .i64 0, .int .i64 0, .slice none 0 0]
      have nX : New w1 (wz.setRow w1.heap.size #[.int .i64 1, .int .i64 (1 - id), .int .i64 ep, .int .i64 (o : Int), .int .i64 pv, .bool false, .int .i64 0, .int .i64 0, .int .i64 0, .slice none 0 0]) := nz.before (Turn.rowW (Turn.refl (fun i => i = w1.heap.size) wz) rfl #[.int .i64 1, .int .i64 (1 - id), .int .i64 ep, .int .i64 (o : Int), .int .i64 pv, .bool false, .int .i64 0, .int .i64 0, .int .i64 0, .slice none 0 0]) (by intro i hi e; omega)
      refine hK.out undef _ nX (fun hS2 => ?_)
      refine wpAnyH_done (by kernel_rfl) ?_ _
      go_wp2_with fail
      go_meet
      exact ⟨rfl, bX, nX⟩
    exact fun j hj => by cases hj
  case rest =>
  obtain ⟨rfl, bM, hn5⟩ := hcut
  have z45 := hn5.size
  have b05 := b01.new hn5
  have b15 := b11.new hn5
  have hw5 := hw1.trans hn5
  have l5 := bM.lt
  have c05 := b05.cells
  have g1 : decide ((o : Int) < (n : Int)) = true := decide_eq_true (by omega)
  clear b01 b11
  obtain ⟨g, ee, ki, pe, x5, m5, d5, xs, hA5, hv, hlen, hns, hmx, q0, q1, q2, q3⟩ := (h.new hw5).at o (by have := HLn.out; omega)
  have HM5 : Hid (xs.length = m5) := hlen
  have hby : Hid (∀ z ∈ xs, By z) := hns.lt
  have hnl : Hid (x5 = none → m5 = 0 ∧ d5 = 0) := fun e => by have := hN _ (List.mem_of_getElem? hv) e; rw [← hlen]; exact this
  have HEN : Hid (en = ⟨ee, ki, pe, xs⟩) := by
    have h1 := HEN0.out
    rw [List.getElem?_map, hv] at h1
    exact (Option.some.inj h1).symm
  subst hA5
  clear hv hlen
  have cM := bM.cells
  have fM := bM.frees
  have lg := World.block_lt_of_cell? wc _ q0
  have t55 := (Turn.refl (fun i => i = w1.heap.size) wc).set (p := ⟨w1.heap.size, 5, none⟩) rfl (.bool true)
  have bM55 : Blk (wc.setCell ⟨w1.heap.size, 5, none⟩ (.bool true)) w1.heap.size 137 #[.int .i64 1, .int .i64 (1 - id), .int .i64 ep, .int .i64 (o : Int), .int .i64 pv, .bool true, .int .i64 0, .int .i64 0, .int .i64 0, .slice none 0 0] := bM.set 5 (.bool true)
  have hne : ¬ g = w1.heap.size := by
    intro e
    obtain ⟨⟨g', hg', hc'⟩, -, -⟩ := h o _ (List.getElem?_eq_getElem (by have := HLn.out; omega))
    cases hg'
    have h0 : w.cell? ⟨g, o * 4, none⟩ = some (.int .i64 _) := hc' 0 (by omega)
    have := World.block_lt_of_cell? w _ h0
    simp at this
    have := hw1.size
    omega
  have hw55 := hw5.before t55 (by intro i hi e; have := hw1.size; omega)
  have b055 := b05.turn t55 (by omega)
  have b155 := b15.turn t55 (by omega)
  have z55 := t55.size
  go_upto_region 7 with fail
  have Q0 := (World.cell?_of_block (t55.block g lg hne)).trans q0
  have Q1 := (World.cell?_of_block (t55.block g lg hne)).trans q1
  have Q2 := (World.cell?_of_block (t55.block g lg hne)).trans q2
  have Q3 := (World.cell?_of_block (t55.block g lg hne)).trans q3
  have hns5 := (h.new hw55).at o (by have := HLn.out; omega)
  have HNS : BsAt (wc.setCell ⟨w1.heap.size, 5, none⟩ (.bool true)) x5 xs := by
    obtain ⟨g', e1', k1', p1', x', m', d', xs', hA', hv', hl', hb', -, r0, r1, r2, r3⟩ := hns5
    cases hA'
    rw [Q3] at r3
    simp only [Option.some.injEq, Value.slice.injEq] at r3
    obtain ⟨rfl, rfl, rfl⟩ := r3
    have e9 : (V.map EkV.r)[o]? = some ⟨e1', k1', p1', xs'⟩ := by rw [List.getElem?_map, hv']; rfl
    rw [HEN0.out, HEN.out] at e9
    simp only [Option.some.injEq, Ek.mk.injEq] at e9
    rw [e9.2.2.2]
    exact hb'
  generalize wc.setCell ⟨w1.heap.size, 5, none⟩ (.bool true) = w55 at *
  clear q0 q1 q2 q3 hns cM fM c05 bM b05 b15 hw5 hns5
  have c05 := b055.cells
  go_wp2_with fail
  refine (scopyE ee ki pe x5 m5 d5 xs _ HNS HM5.out hnl.out (by omega)).mono ?_
  rintro e w6 ⟨a5, c5, rfl, ho6, hn6⟩
  have bM6 := bM55.new hn6
  have cM := bM6.cells
  have fM := bM6.frees
  have z56 := hn6.size
  go_upto_region 8 with fail
  have bM7 := (((bM6.set 6 (.int .i64 ee)).set 7 (.int .i64 ki)).set 8 (.int .i64 pe)).set 9 (.slice a5 m5 c5)
  have t7 := ((((Turn.refl (fun i => i = w1.heap.size) w6).set (p := ⟨w1.heap.size, 6, none⟩) rfl (.int .i64 ee)).set (p := ⟨w1.heap.size, 7, none⟩) rfl (.int .i64 ki)).set (p := ⟨w1.heap.size, 8, none⟩) rfl (.int .i64 pe)).set (p := ⟨w1.heap.size, 9, none⟩) rfl (.slice a5 m5 c5)
  have b07 := (b055.new hn6).turn t7 (by omega)
  have b17' := (b155.new hn6).turn t7 (by omega)
  have hw7' := (hw55.trans hn6).before t7 (by intro i hi e; have := hw1.size; omega)
  have z67 := t7.size
  have hvr0 := ho6.rngK
  have lMB := bM55.lt
  have hv7' : OvB _ w55.heap.size (.slice a5 m5 c5) xs := ho6.turnK t7 (by intro k hk e; have := hvr0 k hk; omega)
  have bM8 : Blk ((((w6.setCell ⟨w1.heap.size, 6, none⟩ (.int .i64 ee)).setCell ⟨w1.heap.size, 7, none⟩ (.int .i64 ki)).setCell ⟨w1.heap.size, 8, none⟩ (.int .i64 pe)).setCell ⟨w1.heap.size, 9, none⟩ (.slice a5 m5 c5)) w1.heap.size 137 #[.int .i64 1, .int .i64 (1 - id), .int .i64 ep, .int .i64 (o : Int), .int .i64 pv, .bool true, .int .i64 ee, .int .i64 ki, .int .i64 pe, .slice a5 m5 c5] := bM7
  generalize (((w6.setCell ⟨w1.heap.size, 6, none⟩ (.int .i64 ee)).setCell ⟨w1.heap.size, 7, none⟩ (.int .i64 ki)).setCell ⟨w1.heap.size, 8, none⟩ (.int .i64 pe)).setCell ⟨w1.heap.size, 9, none⟩ (.slice a5 m5 c5) = w8 at *
  clear cM fM bM7 bM6 c05 HNS Q0 Q1 Q2 Q3 t7
  generalize hlb5 : w55.heap.size = lb5 at *
  have b05 := b07
  have b15 := b17'
  have bM := bM8
  have hw5 := hw7'
  have hz1w := hw1.size
  have hv5 : OvB w8 lb5 (MlV.pv ⟨⟨1, 1 - id, ep, (o : Int), pv, true, ⟨ee, ki, pe, xs⟩⟩, a5, c5⟩) xs := by
    unfold MlV.pv
    simp only [HM5.out]
    exact hv7'
  have hvr : ∀ k, (MlV.pv ⟨⟨1, 1 - id, ep, (o : Int), pv, true, ⟨ee, ki, pe, xs⟩⟩, a5, c5⟩).ownBlock = some k → k < w8.heap.size := fun k hk => (hv5.rngK k hk).2
  have hvl : ∀ k, (MlV.pv ⟨⟨1, 1 - id, ep, (o : Int), pv, true, ⟨ee, ki, pe, xs⟩⟩, a5, c5⟩).ownBlock = some k → lb5 ≤ k := fun k hk => (hv5.rngK k hk).1
  go_upto_region 8 with fail
  refine hw_start (n := 6) (S := fun X => Turn (fun i => i = w.heap.size + 1) w8 X) rfl (by kernel_rfl) (((New.refl _).drew).turn) (fun hH => ?_)
  refine' hw_take 0 (some 36) (.agg #[.int .i64 id, .bool up, .int .i64 ro, .int .i64 ep, .slice (some ⟨g, 0, none⟩) n c, .int .i64 su, .int .i64 ma, .int .i64 (o : Int), .int .i64 co]) rfl rfl (by kernel_rfl) (by kernel_rfl) (by kernel_rfl) (fun _ _ _ h => h) (by rfl) hH ?hyA ?restA
  case hyA =>
    intro X hX
    exact run_load_blk 108 (.tmp 1) rfl w.heap.size rfl #[.int .i64 id, .bool up, .int .i64 ro, .int .i64 ep, .slice (some ⟨g, 0, none⟩) n c, .int .i64 su, .int .i64 ma, .int .i64 (o : Int), .int .i64 co] _ (b05.turn hX (by omega)) Tryz.underlying108 rfl (by kernel_rfl)
  simp only [Act.put, pA9, pB9, pC9]
  refine' hw_take 2 (some 38) (.agg #[.int .i64 1, .int .i64 (1 - id), .int .i64 ep, .int .i64 (o : Int), .int .i64 pv, .bool true, .int .i64 ee, .int .i64 ki, .int .i64 pe, .slice a5 m5 c5]) rfl rfl (by kernel_rfl) (by kernel_rfl) (by kernel_rfl) (fun _ _ _ h => h) (by rfl) hH ?hyB ?restB
  case hyB =>
    intro X hX
    exact run_load_blk 137 (.tmp 4) rfl w1.heap.size rfl #[.int .i64 1, .int .i64 (1 - id), .int .i64 ep, .int .i64 (o : Int), .int .i64 pv, .bool true, .int .i64 ee, .int .i64 ki, .int .i64 pe, .slice a5 m5 c5] _ (bM.turn hX (by omega)) Tryz.underlying137 rfl (by kernel_rfl)
  simp only [Act.put, pA9, pB9, pC9]
  refine wpAnyH_ready (rs := [1, 3]) (by kernel_rfl) (by simp) ?_
  refine hw_step 1 (some 37) rfl rfl (by rfl) (fun K hK => ?_) ?_
  · skip
    go_simp
    refine (scopyNd_any id up ro ep su ma (o : Int) co (some ⟨g, 0, none⟩) n c V _ (h.new (hw5.trans ((New.refl w8).drew))) hN hn hm).mono ?_
    rintro e w6 ⟨A', c', V', rfl, hV, hoL, hn6⟩
    replace hoL : OwL w6 w8.heap.size w6.heap.size (.slice A' n c') V' := hoL
    have n6 := ((New.refl w8).drew).trans hn6
    have z6 := hn6.size
    go_simp
    refine hK.out _ _ n6.turn (fun hH6 => ?_)
    simp only [Act.put, pA9, pB9, pC9]
    refine hw_call 3 (some 39) rfl rfl (by kernel_rfl) (by rfl) (fun K hK => ?_)
    go_simp
    have al7 := (New.refl w6).alloc (.cells #[.int .i64 1, .int .i64 (1 - id), .int .i64 ep, .int .i64 (o : Int), .int .i64 pv, .bool true, .int .i64 ee, .int .i64 ki, .int .i64 pe, .slice a5 m5 c5] 137)
    have bM7 := Blk.mk w6 w6.heap.size 137 #[.int .i64 1, .int .i64 (1 - id), .int .i64 ep, .int .i64 (o : Int), .int .i64 pv, .bool true, .int .i64 ee, .int .i64 ki, .int .i64 pe, .slice a5 m5 c5] rfl
    have n7 := n6.trans al7
    have hoL7 := hoL.new al7
    have z7 := al7.size
    have l7 := bM7.lt
    have z56 : w8.heap.size ≤ w6.heap.size := n6.size
    have b17 := (b15.new n7)
    have hw7 := hw5.trans n7
    have hv7 := hv5.new n7
    refine hK.out _ _ n7.turn (fun hH7 => ?_)
    simp only [Act.put, pA9, pB9, pC9]
    generalize w6.alloc (.cells #[.int .i64 1, .int .i64 (1 - id), .int .i64 ep, .int .i64 (o : Int), .int .i64 pv, .bool true, .int .i64 ee, .int .i64 ki, .int .i64 pe, .slice a5 m5 c5] 137) = w7 at *
    refine' hw_t 4 (some 40) _ rfl rfl hH7 ?hy25 ?rest25
    case hy25 =>
      intro X hX
      go_simp
      try rfl
    simp only [Act.put, pA9, pB9, pC9]
    refine hw_call 5 none rfl rfl (by kernel_rfl) (by rfl) (fun K hK => ?_)
    refine hw_store 110 (.tmp 2) (.tmp 40) rfl rfl (w.heap.size + 1) #[.int .i64 0, .int .i64 id, .bool up, .int .i64 ro, .int .i64 ep, .slice A' n c', .int .i64 su, .int .i64 ma, .int .i64 (o : Int), .int .i64 co, .slice (some ⟨w6.heap.size, 0, none⟩) 1 1] #[.int .i64 0, .int .i64 0, .bool false, .int .i64 0, .int .i64 0, .slice none 0 0, .int .i64 0, .int .i64 0, .int .i64 0, .int .i64 0, .slice none 0 0] rfl rfl b17 (by kernel_rfl) rfl (by kernel_rfl) ?_
    have tR := Turn.rowW (Turn.refl (fun i => i = w.heap.size + 1) w7) rfl #[.int .i64 0, .int .i64 id, .bool up, .int .i64 ro, .int .i64 ep, .slice A' n c', .int .i64 su, .int .i64 ma, .int .i64 (o : Int), .int .i64 co, .slice (some ⟨w6.heap.size, 0, none⟩) 1 1]
    have bR := b17.rowW #[.int .i64 0, .int .i64 id, .bool up, .int .i64 ro, .int .i64 ep, .slice A' n c', .int .i64 su, .int .i64 ma, .int .i64 (o : Int), .int .i64 co, .slice (some ⟨w6.heap.size, 0, none⟩) 1 1]
    have hoR := hoL7.turn tR (by intro k _ _ e; omega)
    have bMR := bM7.turn tR (by omega)
    have hwR := hw7.before tR (by intro i hi e; omega)
    have zR := tR.size
    have hvR := hv7.turnK tR (by intro k hk e; have := hvr k hk; have := hvl k hk; omega)
    refine hK.out undef _ (Turn.trans hH7 tR (fun i _ e => e)) (fun hS2 => ?_)
    refine wpAnyH_done (by kernel_rfl) ?_ _
    generalize World.setRow _ _ _ = wR at *
    go_wp2
    refine bodyPost_ret (results_row1 rfl rfl bR ⟨_, Tryz.underlying110⟩ (by kernel_rfl)) rfl (nrAns_mk (U := V') (Ms := [⟨⟨1, 1 - id, ep, (o : Int), pv, true, ⟨ee, ki, pe, xs⟩⟩, a5, c5⟩]) (by simpa using HLn.out) rfl hV ?_ (NrOw.send (lb := lb5) (lo := w8.heap.size) (hi := w6.heap.size) ⟨⟨1, 1 - id, ep, (o : Int), pv, true, ⟨ee, ki, pe, xs⟩⟩, a5, c5⟩ hoR (by omega) (by omega) ?_ (by omega) (by omega) (by omega) hvR hby.out (by simp only [HM5.out]; omega) (by omega) (fun k hk => by have := hvr k hk; omega) (by omega)) hwR)
    · simp [HPV.out, HEN.out]
    · have := row_of_blk bMR rfl
      simpa [MlV.cs, HM5.out] using this
  refine hw_step 3 (some 39) rfl rfl (by rfl) (fun K hK => ?_) ?_
  · skip
    go_simp
    have al7 := ((New.refl w8).alloc (.cells #[.int .i64 1, .int .i64 (1 - id), .int .i64 ep, .int .i64 (o : Int), .int .i64 pv, .bool true, .int .i64 ee, .int .i64 ki, .int .i64 pe, .slice a5 m5 c5] 137)).drew
    have bM0 : Blk ((w8.alloc (.cells #[.int .i64 1, .int .i64 (1 - id), .int .i64 ep, .int .i64 (o : Int), .int .i64 pv, .bool true, .int .i64 ee, .int .i64 ki, .int .i64 pe, .slice a5 m5 c5] 137)).drew) w8.heap.size 137 #[.int .i64 1, .int .i64 (1 - id), .int .i64 ep, .int .i64 (o : Int), .int .i64 pv, .bool true, .int .i64 ee, .int .i64 ki, .int .i64 pe, .slice a5 m5 c5] := (Blk.mk w8 w8.heap.size 137 #[.int .i64 1, .int .i64 (1 - id), .int .i64 ep, .int .i64 (o : Int), .int .i64 pv, .bool true, .int .i64 ee, .int .i64 ki, .int .i64 pe, .slice a5 m5 c5] rfl).new ((New.refl _).drew)
    have sB : Hid ((w8.alloc (.cells #[.int .i64 1, .int .i64 (1 - id), .int .i64 ep, .int .i64 (o : Int), .int .i64 pv, .bool true, .int .i64 ee, .int .i64 ki, .int .i64 pe, .slice a5 m5 c5] 137)).drew.heap.size = w8.heap.size + 1) := by unfold Hid; simp
    refine hK.out _ _ al7.turn (fun hHB => ?_)
    simp only [Act.put, pA9, pB9, pC9]
    generalize (w8.alloc (.cells #[.int .i64 1, .int .i64 (1 - id), .int .i64 ep, .int .i64 (o : Int), .int .i64 pv, .bool true, .int .i64 ee, .int .i64 ki, .int .i64 pe, .slice a5 m5 c5] 137)).drew = wB at *
    refine hw_call 1 (some 37) rfl rfl (by kernel_rfl) (by rfl) (fun K hK => ?_)
    go_simp
    refine (scopyNd_any id up ro ep su ma (o : Int) co (some ⟨g, 0, none⟩) n c V _ (h.new (hw5.trans al7)) hN hn hm).mono ?_
    rintro e w6 ⟨A', c', V', rfl, hV, hoL, hn6⟩
    rw [sB.out] at hoL
    have n6 := al7.trans hn6
    have z6 := hn6.size
    go_simp
    refine hK.out _ _ n6.turn (fun hH7 => ?_)
    simp only [Act.put, pA9, pB9, pC9]
    have bM7 := bM0.new hn6
    have l7 := bM7.lt
    have b17 := (b15.new n6)
    have hw7 := hw5.trans n6
    have hv7 := hv5.new n6
    refine' hw_t 4 (some 40) _ rfl rfl hH7 ?hy26 ?rest26
    case hy26 =>
      intro X hX
      go_simp
      try rfl
    simp only [Act.put, pA9, pB9, pC9]
    refine hw_call 5 none rfl rfl (by kernel_rfl) (by rfl) (fun K hK => ?_)
    refine hw_store 110 (.tmp 2) (.tmp 40) rfl rfl (w.heap.size + 1) #[.int .i64 0, .int .i64 id, .bool up, .int .i64 ro, .int .i64 ep, .slice A' n c', .int .i64 su, .int .i64 ma, .int .i64 (o : Int), .int .i64 co, .slice (some ⟨w8.heap.size, 0, none⟩) 1 1] #[.int .i64 0, .int .i64 0, .bool false, .int .i64 0, .int .i64 0, .slice none 0 0, .int .i64 0, .int .i64 0, .int .i64 0, .int .i64 0, .slice none 0 0] rfl rfl b17 (by kernel_rfl) rfl (by kernel_rfl) ?_
    have tR := Turn.rowW (Turn.refl (fun i => i = w.heap.size + 1) w6) rfl #[.int .i64 0, .int .i64 id, .bool up, .int .i64 ro, .int .i64 ep, .slice A' n c', .int .i64 su, .int .i64 ma, .int .i64 (o : Int), .int .i64 co, .slice (some ⟨w8.heap.size, 0, none⟩) 1 1]
    have bR := b17.rowW #[.int .i64 0, .int .i64 id, .bool up, .int .i64 ro, .int .i64 ep, .slice A' n c', .int .i64 su, .int .i64 ma, .int .i64 (o : Int), .int .i64 co, .slice (some ⟨w8.heap.size, 0, none⟩) 1 1]
    have hoR := hoL.turn tR (by intro k _ _ e; omega)
    have bMR := bM7.turn tR (by omega)
    have hwR := hw7.before tR (by intro i hi e; omega)
    have zR := tR.size
    have hvR := hv7.turnK tR (by intro k hk e; have := hvr k hk; have := hvl k hk; omega)
    refine hK.out undef _ (Turn.trans hH7 tR (fun i _ e => e)) (fun hS2 => ?_)
    refine wpAnyH_done (by kernel_rfl) ?_ _
    generalize World.setRow _ _ _ = wR at *
    go_wp2
    refine bodyPost_ret (results_row1 rfl rfl bR ⟨_, Tryz.underlying110⟩ (by kernel_rfl)) rfl (nrAns_mk (U := V') (Ms := [⟨⟨1, 1 - id, ep, (o : Int), pv, true, ⟨ee, ki, pe, xs⟩⟩, a5, c5⟩]) (by simpa using HLn.out) rfl hV ?_ (NrOw.send (lb := lb5) (lo := (w8.heap.size + 1)) (hi := w6.heap.size) ⟨⟨1, 1 - id, ep, (o : Int), pv, true, ⟨ee, ki, pe, xs⟩⟩, a5, c5⟩ hoR (by omega) (by omega) ?_ (by omega) (by omega) (by omega) hvR hby.out (by simp only [HM5.out]; omega) (by omega) (fun k hk => by have := hvr k hk; omega) (by omega)) hwR)
    · simp [HPV.out, HEN.out]
    · have := row_of_blk bMR rfl
      simpa [MlV.cs, HM5.out] using this
  exact fun j hj => by cases hj

end Go.Proofs.YtebkdaddndlmoaaGreat
