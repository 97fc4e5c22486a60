/- Lemmas and contracts of one law. -/
import Derived.Test.YtebkdaddndlmoaaGreatLP37
namespace Go.Proofs.YtebkdaddndlmoaaGreat
open Go.RowKit Go.Sort
set_option linter.unusedVariables false
set_option linter.unusedSimpArgs false
set_option maxRecDepth 100000
set_option maxHeartbeats 25600000

theorem iSpread_f (id : Int) (up : Bool) (ro ep su ma ot co : Int) (A : Option Addr) (n c : Nat) (V : List EkV) (w : World) (h : LgAt w A V) (hN : NlK V) (hn : V.length = n) (hm : n ≤ 2097152) (z : Int) (hf : aF up ro (nF id up ro ep su ma ot co n (V.map EkV.r)) = z) (hz : ¬ z = 0) :
    Calls Tryz.prog 134 #[.agg #[.int .i64 id, .bool up, .int .i64 ro, .int .i64 ep, .slice A n c, .int .i64 su, .int .i64 ma, .int .i64 ot, .int .i64 co]] w (NrAns w z 0 false 0 0 0 0 0 0 [] []) := by
  have hw := ((New.refl w).alloc (.cells #[.int .i64 id, .bool up, .int .i64 ro, .int .i64 ep, .slice A n c, .int .i64 su, .int .i64 ma, .int .i64 ot, .int .i64 co] 108)).alloc (.cells #[.int .i64 0, .int .i64 0, .bool false, .int .i64 0, .int .i64 0, .slice none 0 0, .int .i64 0, .int .i64 0, .int .i64 0, .int .i64 0, .slice none 0 0] 110)
  have b0 := (Blk.mk w w.heap.size 108 #[.int .i64 id, .bool up, .int .i64 ro, .int .i64 ep, .slice A n c, .int .i64 su, .int .i64 ma, .int .i64 ot, .int .i64 co] rfl).alloc (.cells #[.int .i64 0, .int .i64 0, .bool false, .int .i64 0, .int .i64 0, .slice none 0 0, .int .i64 0, .int .i64 0, .int .i64 0, .int .i64 0, .slice none 0 0] 110)
  have b1 := Blk.mk (w.alloc (.cells #[.int .i64 id, .bool up, .int .i64 ro, .int .i64 ep, .slice A n c, .int .i64 su, .int .i64 ma, .int .i64 ot, .int .i64 co] 108)) (w.heap.size + 1) 110 #[.int .i64 0, .int .i64 0, .bool false, .int .i64 0, .int .i64 0, .slice none 0 0, .int .i64 0, .int .i64 0, .int .i64 0, .int .i64 0, .slice none 0 0] (by simp)
  have s0 : Hid (((w.alloc (.cells #[.int .i64 id, .bool up, .int .i64 ro, .int .i64 ep, .slice A n c, .int .i64 su, .int .i64 ma, .int .i64 ot, .int .i64 co] 108)).alloc (.cells #[.int .i64 0, .int .i64 0, .bool false, .int .i64 0, .int .i64 0, .slice none 0 0, .int .i64 0, .int .i64 0, .int .i64 0, .int .i64 0, .slice none 0 0] 110)).heap.size = w.heap.size + 1 + 1) := by unfold Hid; simp
  go_enter Tryz.func134, Tryz.ntmps134
  go_upto_region 1 with fail
  generalize (w.alloc (.cells #[.int .i64 id, .bool up, .int .i64 ro, .int .i64 ep, .slice A n c, .int .i64 su, .int .i64 ma, .int .i64 ot, .int .i64 co] 108)).alloc (.cells #[.int .i64 0, .int .i64 0, .bool false, .int .i64 0, .int .i64 0, .slice none 0 0, .int .i64 0, .int .i64 0, .int .i64 0, .int .i64 0, .slice none 0 0] 110) = w0 at *
  have S0 := s0.out
  have c0 := b0.cells
  go_wp2_with fail
  refine (actF_any z w.heap.size id up ro ep su ma ot co A n c V _ b0 (h.new hw) hn hm hf).mono ?_
  rintro e w1 ⟨rfl, hn1⟩
  have b11 := b1.new hn1
  have b01 := b0.new hn1
  have c01 := b01.cells
  have hw1 := hw.trans hn1
  clear c0
  have c1 := (b11).cells
  have f1 := (b11).frees
  go_wp2
  refine bodyPost_ret (v := .agg #[.int .i64 z, .int .i64 0, .bool false, .int .i64 0, .int .i64 0, .slice none 0 0, .int .i64 0, .int .i64 0, .int .i64 0, .int .i64 0, .slice none 0 0]) (by simp [results, Tryz.results134, go_sem, c1]) rfl (nrAns_bad z ?_)
  exact ((((((((((((hw1)).setCell (by simp; try omega) _).setCell (by simp; try omega) _).setCell (by simp; try omega) _).setCell (by simp; try omega) _).setCell (by simp; try omega) _).setCell (by simp; try omega) _).setCell (by simp; try omega) _).setCell (by simp; try omega) _).setCell (by simp; try omega) _).setCell (by simp; try omega) _).setCell (by simp; try omega) _

theorem iSpread_fk (id : Int) (up : Bool) (ro ep su ma : Int) (o : Nat) (co : Int) (A : Option Addr) (n c : Nat) (V : List EkV) (w : World) (h : LgAt w A V) (hN : NlK V) (hn : V.length = n) (hm : n ≤ 2097152) (hf : aF up ro (nF id up ro ep su ma (o : Int) co n (V.map EkV.r)) = 0) (hid : id = 0 ∨ id = 1) (ho : n ≤ o) (ho2 : o ≤ n) :
    Calls Tryz.prog 134 #[.agg #[.int .i64 id, .bool up, .int .i64 ro, .int .i64 ep, .slice A n c, .int .i64 su, .int .i64 ma, .int .i64 (o : Int), .int .i64 co]] w (NrAns w 0 id up ro ep su ma (o : Int) co (V.map EkV.r) [⟨1, 1 - id, ep, (o : Int), prevE (V.map EkV.r) o, false, ⟨0, 0, 0, []⟩⟩]) := by
  have HLn : Hid (V.length = n) := hn
  obtain ⟨pv, hpv⟩ : ∃ pv, pv = prevE (V.map EkV.r) o := ⟨_, rfl⟩
  have HPV : Hid (pv = prevE (V.map EkV.r) o) := hpv
  clear hpv
  have hw := ((New.refl w).alloc (.cells #[.int .i64 id, .bool up, .int .i64 ro, .int .i64 ep, .slice A n c, .int .i64 su, .int .i64 ma, .int .i64 (o : Int), .int .i64 co] 108)).alloc (.cells #[.int .i64 0, .int .i64 0, .bool false, .int .i64 0, .int .i64 0, .slice none 0 0, .int .i64 0, .int .i64 0, .int .i64 0, .int .i64 0, .slice none 0 0] 110)
  have b0 := (Blk.mk w w.heap.size 108 #[.int .i64 id, .bool up, .int .i64 ro, .int .i64 ep, .slice A n c, .int .i64 su, .int .i64 ma, .int .i64 (o : Int), .int .i64 co] rfl).alloc (.cells #[.int .i64 0, .int .i64 0, .bool false, .int .i64 0, .int .i64 0, .slice none 0 0, .int .i64 0, .int .i64 0, .int .i64 0, .int .i64 0, .slice none 0 0] 110)
  have b1 := Blk.mk (w.alloc (.cells #[.int .i64 id, .bool up, .int .i64 ro, .int .i64 ep, .slice A n c, .int .i64 su, .int .i64 ma, .int .i64 (o : Int), .int .i64 co] 108)) (w.heap.size + 1) 110 #[.int .i64 0, .int .i64 0, .bool false, .int .i64 0, .int .i64 0, .slice none 0 0, .int .i64 0, .int .i64 0, .int .i64 0, .int .i64 0, .slice none 0 0] (by simp)
  have s0 : Hid (((w.alloc (.cells #[.int .i64 id, .bool up, .int .i64 ro, .int .i64 ep, .slice A n c, .int .i64 su, .int .i64 ma, .int .i64 (o : Int), .int .i64 co] 108)).alloc (.cells #[.int .i64 0, .int .i64 0, .bool false, .int .i64 0, .int .i64 0, .slice none 0 0, .int .i64 0, .int .i64 0, .int .i64 0, .int .i64 0, .slice none 0 0] 110)).heap.size = w.heap.size + 1 + 1) := by unfold Hid; simp
  go_enter Tryz.func134, Tryz.ntmps134
  go_upto_region 1 with fail
  generalize (w.alloc (.cells #[.int .i64 id, .bool up, .int .i64 ro, .int .i64 ep, .slice A n c, .int .i64 su, .int .i64 ma, .int .i64 (o : Int), .int .i64 co] 108)).alloc (.cells #[.int .i64 0, .int .i64 0, .bool false, .int .i64 0, .int .i64 0, .slice none 0 0, .int .i64 0, .int .i64 0, .int .i64 0, .int .i64 0, .slice none 0 0] 110) = w0 at *
  have S0 := s0.out
  have c0 := b0.cells
  go_wp2_with fail
  refine (actF_any 0 w.heap.size id up ro ep su ma (o : Int) co A n c V _ b0 (h.new hw) hn hm hf).mono ?_
  rintro e w1 ⟨rfl, hn1⟩
  have b11 := b1.new hn1
  have b01 := b0.new hn1
  have c01 := b01.cells
  have hw1 := hw.trans hn1
  clear c0
  have z01 := hn1.size
  go_wp2_with fail
  refine (mailAt_any 1 (o : Int) w.heap.size id up ro ep su ma (o : Int) co A n c _ b01 hid).mono ?_
  rintro e w2 ⟨rfl, hn2⟩
  have z12 := hn2.size
  have al3 := (New.refl w2).alloc (.cells #[.int .i64 1, .int .i64 (1 - id), .int .i64 ep, .int .i64 (o : Int), .int .i64 0, .bool false, .int .i64 0, .int .i64 0, .int .i64 0, .slice none 0 0] 137)
  have b03 := (b01.new hn2).new al3
  have b13 := (b11.new hn2).new al3
  have bM3 := Blk.mk w2 w2.heap.size 137 #[.int .i64 1, .int .i64 (1 - id), .int .i64 ep, .int .i64 (o : Int), .int .i64 0, .bool false, .int .i64 0, .int .i64 0, .int .i64 0, .slice none 0 0] rfl
  have hw3 := (hw1.trans hn2).trans al3
  have z23 := al3.size
  have l3 := bM3.lt
  go_upto_region 5 with fail
  generalize w2.alloc (.cells #[.int .i64 1, .int .i64 (1 - id), .int .i64 ep, .int .i64 (o : Int), .int .i64 0, .bool false, .int .i64 0, .int .i64 0, .int .i64 0, .slice none 0 0] 137) = w3 at *
  generalize hMB : w2.heap.size = MB at *
  clear c01 b01 b11 hn2 al3
  have c03 := b03.cells
  have cM := bM3.cells
  have fM := bM3.frees
  go_wp2_with fail
  refine (eahead_any o w.heap.size id up ro ep su ma (o : Int) co A n c V _ b03 (h.new hw3) hn hm (by omega)).mono ?_
  rintro e wz ⟨rfl, hwz⟩
  obtain rfl := hwz.symm
  rw [← HPV.out]
  go_upto_region 6 with fail
  have bM4 := bM3.set 4 (.int .i64 pv)
  have t4 := (Turn.refl (fun i => i = MB) w3).set (p := ⟨MB, 4, none⟩) rfl (.int .i64 pv)
  have b04 := b03.turn t4 (by omega)
  have b14 := b13.turn t4 (by omega)
  have hw4 := hw3.before t4 (by intro i hi e; omega)
  have z34 := t4.size
  have bM5 : Blk (w3.setCell ⟨MB, 4, none⟩ (.int .i64 pv)) MB 137 #[.int .i64 1, .int .i64 (1 - id), .int .i64 ep, .int .i64 (o : Int), .int .i64 pv, .bool false, .int .i64 0, .int .i64 0, .int .i64 0, .slice none 0 0] := bM4
  generalize w3.setCell ⟨MB, 4, none⟩ (.int .i64 pv) = w4 at *
  clear c03 cM fM bM3 b03 b13 t4 bM4
  have C0 := blk_regrown b04
  have g1 : decide ((o : Int) < (n : Int)) = false := decide_eq_false (by omega)
  refine wp_region_quiet_below (by kernel_rfl) (by kernel_rfl) ?_
  repeat (go_big_quiet_step ((go_at_call 163; exact calls_regrown_same (count_any w.heap.size id up ro ep su ma (o : Int) co A n c _ (b04.new (new_regrown _ _ _))))))
  refine wpQuiet_nil ?_
  rintro w5 hn5
  replace hn5 := new_of_regrown hn5
  have z45 := hn5.size
  have b05 := b04.new hn5
  have b15 := b14.new hn5
  have bM := bM5.new hn5
  have hw5 := hw4.trans hn5
  have l5 := bM.lt
  clear C0 b04 b14 bM5 hn5
  go_upto_region 8 with fail
  have g2 : decide (o < n) = false := decide_eq_false (by omega)
  try simp only [g2]
  refine hw_start (n := 5) (S := fun X => Turn (fun i => i = w.heap.size + 1) w5 X) rfl (by kernel_rfl) (((New.refl _).drew).turn) (fun hH => ?_)
  refine' hw_take 1 (some 31) (.agg #[.int .i64 1, .int .i64 (1 - id), .int .i64 ep, .int .i64 (o : Int), .int .i64 pv, .bool false, .int .i64 0, .int .i64 0, .int .i64 0, .slice none 0 0]) rfl rfl (by kernel_rfl) (by kernel_rfl) (by kernel_rfl) (fun _ _ _ h => h) (by rfl) hH ?hyB ?restB
  case hyB =>
    intro X hX
    exact run_load_blk 137 (.tmp 4) rfl MB rfl #[.int .i64 1, .int .i64 (1 - id), .int .i64 ep, .int .i64 (o : Int), .int .i64 pv, .bool false, .int .i64 0, .int .i64 0, .int .i64 0, .slice none 0 0] _ (bM.turn hX (by omega)) Tryz.underlying137 rfl (by kernel_rfl)
  simp only [Act.put, pA9, pB9, pC9]
  refine wpAnyH_ready (rs := [0, 2]) (by kernel_rfl) (by simp) ?_
  refine hw_step 0 (some 30) rfl rfl (by rfl) (fun K hK => ?_) ?_
  · skip
    go_simp
    refine (copyNd_any w.heap.size id up ro ep su ma (o : Int) co A n c V _ (b05.new ((New.refl w5).drew)) (h.new (hw5.trans ((New.refl w5).drew))) hN hn hm).mono ?_
    rintro e w6 ⟨A', c', V', rfl, hV, hoL, hn6⟩
    replace hoL : OwL w6 w5.heap.size w6.heap.size (.slice A' n c') V' := hoL
    have n6 := ((New.refl w5).drew).trans hn6
    have z6 := hn6.size
    go_simp
    refine hK.out _ _ n6.turn (fun hH6 => ?_)
    simp only [Act.put, pA9, pB9, pC9]
    refine hw_call 2 (some 32) rfl rfl (by kernel_rfl) (by rfl) (fun K hK => ?_)
    go_simp
    have al7 := (New.refl w6).alloc (.cells #[.int .i64 1, .int .i64 (1 - id), .int .i64 ep, .int .i64 (o : Int), .int .i64 pv, .bool false, .int .i64 0, .int .i64 0, .int .i64 0, .slice none 0 0] 137)
    have bM7 := Blk.mk w6 w6.heap.size 137 #[.int .i64 1, .int .i64 (1 - id), .int .i64 ep, .int .i64 (o : Int), .int .i64 pv, .bool false, .int .i64 0, .int .i64 0, .int .i64 0, .slice none 0 0] rfl
    have n7 := n6.trans al7
    have hoL7 := hoL.new al7
    have z7 := al7.size
    have l7 := bM7.lt
    have z56 : w5.heap.size ≤ w6.heap.size := n6.size
    have b17 := (b15.new n7)
    have hw7 := hw5.trans n7
    refine hK.out _ _ n7.turn (fun hH7 => ?_)
    simp only [Act.put, pA9, pB9, pC9]
    generalize w6.alloc (.cells #[.int .i64 1, .int .i64 (1 - id), .int .i64 ep, .int .i64 (o : Int), .int .i64 pv, .bool false, .int .i64 0, .int .i64 0, .int .i64 0, .slice none 0 0] 137) = w7 at *
    refine' hw_t 3 (some 33) _ rfl rfl hH7 ?hy27 ?rest27
    case hy27 =>
      intro X hX
      go_simp
      try rfl
    simp only [Act.put, pA9, pB9, pC9]
    refine hw_call 4 none rfl rfl (by kernel_rfl) (by rfl) (fun K hK => ?_)
    refine hw_store 110 (.tmp 2) (.tmp 33) rfl rfl (w.heap.size + 1) #[.int .i64 0, .int .i64 id, .bool up, .int .i64 ro, .int .i64 ep, .slice A' n c', .int .i64 su, .int .i64 ma, .int .i64 (o : Int), .int .i64 co, .slice (some ⟨w6.heap.size, 0, none⟩) 1 1] #[.int .i64 0, .int .i64 0, .bool false, .int .i64 0, .int .i64 0, .slice none 0 0, .int .i64 0, .int .i64 0, .int .i64 0, .int .i64 0, .slice none 0 0] rfl rfl b17 (by kernel_rfl) rfl (by kernel_rfl) ?_
    have tR := Turn.rowW (Turn.refl (fun i => i = w.heap.size + 1) w7) rfl #[.int .i64 0, .int .i64 id, .bool up, .int .i64 ro, .int .i64 ep, .slice A' n c', .int .i64 su, .int .i64 ma, .int .i64 (o : Int), .int .i64 co, .slice (some ⟨w6.heap.size, 0, none⟩) 1 1]
    have bR := b17.rowW #[.int .i64 0, .int .i64 id, .bool up, .int .i64 ro, .int .i64 ep, .slice A' n c', .int .i64 su, .int .i64 ma, .int .i64 (o : Int), .int .i64 co, .slice (some ⟨w6.heap.size, 0, none⟩) 1 1]
    have hoR := hoL7.turn tR (by intro k _ _ e; omega)
    have bMR := bM7.turn tR (by omega)
    have hwR := hw7.before tR (by intro i hi e; omega)
    have zR := tR.size
    have hvR : ∀ X : World, OvB X w.heap.size (MlV.pv ⟨⟨1, 1 - id, ep, (o : Int), pv, false, ⟨0, 0, 0, []⟩⟩, none, 0⟩) [] := fun X => ⟨rfl, .inl ⟨rfl, rfl⟩⟩
    refine hK.out undef _ (Turn.trans hH7 tR (fun i _ e => e)) (fun hS2 => ?_)
    refine wpAnyH_done (by kernel_rfl) ?_ _
    generalize World.setRow _ _ _ = wR at *
    go_wp2
    refine bodyPost_ret (results_row1 rfl rfl bR ⟨_, Tryz.underlying110⟩ (by kernel_rfl)) rfl (nrAns_mk (U := V') (Ms := [⟨⟨1, 1 - id, ep, (o : Int), pv, false, ⟨0, 0, 0, []⟩⟩, none, 0⟩]) (by simpa using HLn.out) rfl hV ?_ (NrOw.send (lb := w.heap.size) (lo := w5.heap.size) (hi := w6.heap.size) ⟨⟨1, 1 - id, ep, (o : Int), pv, false, ⟨0, 0, 0, []⟩⟩, none, 0⟩ hoR (by omega) (by omega) ?_ (by omega) (by omega) (by omega) (hvR _) (by simp) (by simp) (Nat.le_refl _) (by intro k hk; simp [MlV.pv, Value.ownBlock] at hk) (by omega)) hwR)
    · simp [HPV.out]
    · have := row_of_blk bMR rfl
      simpa [MlV.cs] using this
  refine hw_step 2 (some 32) rfl rfl (by rfl) (fun K hK => ?_) ?_
  · skip
    go_simp
    have al7 := ((New.refl w5).alloc (.cells #[.int .i64 1, .int .i64 (1 - id), .int .i64 ep, .int .i64 (o : Int), .int .i64 pv, .bool false, .int .i64 0, .int .i64 0, .int .i64 0, .slice none 0 0] 137)).drew
    have bM0 : Blk ((w5.alloc (.cells #[.int .i64 1, .int .i64 (1 - id), .int .i64 ep, .int .i64 (o : Int), .int .i64 pv, .bool false, .int .i64 0, .int .i64 0, .int .i64 0, .slice none 0 0] 137)).drew) w5.heap.size 137 #[.int .i64 1, .int .i64 (1 - id), .int .i64 ep, .int .i64 (o : Int), .int .i64 pv, .bool false, .int .i64 0, .int .i64 0, .int .i64 0, .slice none 0 0] := (Blk.mk w5 w5.heap.size 137 #[.int .i64 1, .int .i64 (1 - id), .int .i64 ep, .int .i64 (o : Int), .int .i64 pv, .bool false, .int .i64 0, .int .i64 0, .int .i64 0, .slice none 0 0] rfl).new ((New.refl _).drew)
    have sB : Hid ((w5.alloc (.cells #[.int .i64 1, .int .i64 (1 - id), .int .i64 ep, .int .i64 (o : Int), .int .i64 pv, .bool false, .int .i64 0, .int .i64 0, .int .i64 0, .slice none 0 0] 137)).drew.heap.size = w5.heap.size + 1) := by unfold Hid; simp
    refine hK.out _ _ al7.turn (fun hHB => ?_)
    simp only [Act.put, pA9, pB9, pC9]
    generalize (w5.alloc (.cells #[.int .i64 1, .int .i64 (1 - id), .int .i64 ep, .int .i64 (o : Int), .int .i64 pv, .bool false, .int .i64 0, .int .i64 0, .int .i64 0, .slice none 0 0] 137)).drew = wB at *
    refine hw_call 0 (some 30) rfl rfl (by kernel_rfl) (by rfl) (fun K hK => ?_)
    go_simp
    refine (copyNd_any w.heap.size id up ro ep su ma (o : Int) co A n c V _ (b05.new al7) (h.new (hw5.trans al7)) hN hn hm).mono ?_
    rintro e w6 ⟨A', c', V', rfl, hV, hoL, hn6⟩
    rw [sB.out] at hoL
    have n6 := al7.trans hn6
    have z6 := hn6.size
    go_simp
    refine hK.out _ _ n6.turn (fun hH7 => ?_)
    simp only [Act.put, pA9, pB9, pC9]
    have bM7 := bM0.new hn6
    have l7 := bM7.lt
    have b17 := (b15.new n6)
    have hw7 := hw5.trans n6
    refine' hw_t 3 (some 33) _ rfl rfl hH7 ?hy28 ?rest28
    case hy28 =>
      intro X hX
      go_simp
      try rfl
    simp only [Act.put, pA9, pB9, pC9]
    refine hw_call 4 none rfl rfl (by kernel_rfl) (by rfl) (fun K hK => ?_)
    refine hw_store 110 (.tmp 2) (.tmp 33) rfl rfl (w.heap.size + 1) #[.int .i64 0, .int .i64 id, .bool up, .int .i64 ro, .int .i64 ep, .slice A' n c', .int .i64 su, .int .i64 ma, .int .i64 (o : Int), .int .i64 co, .slice (some ⟨w5.heap.size, 0, none⟩) 1 1] #[.int .i64 0, .int .i64 0, .bool false, .int .i64 0, .int .i64 0, .slice none 0 0, .int .i64 0, .int .i64 0, .int .i64 0, .int .i64 0, .slice none 0 0] rfl rfl b17 (by kernel_rfl) rfl (by kernel_rfl) ?_
    have tR := Turn.rowW (Turn.refl (fun i => i = w.heap.size + 1) w6) rfl #[.int .i64 0, .int .i64 id, .bool up, .int .i64 ro, .int .i64 ep, .slice A' n c', .int .i64 su, .int .i64 ma, .int .i64 (o : Int), .int .i64 co, .slice (some ⟨w5.heap.size, 0, none⟩) 1 1]
    have bR := b17.rowW #[.int .i64 0, .int .i64 id, .bool up, .int .i64 ro, .int .i64 ep, .slice A' n c', .int .i64 su, .int .i64 ma, .int .i64 (o : Int), .int .i64 co, .slice (some ⟨w5.heap.size, 0, none⟩) 1 1]
    have hoR := hoL.turn tR (by intro k _ _ e; omega)
    have bMR := bM7.turn tR (by omega)
    have hwR := hw7.before tR (by intro i hi e; omega)
    have zR := tR.size
    have hvR : ∀ X : World, OvB X w.heap.size (MlV.pv ⟨⟨1, 1 - id, ep, (o : Int), pv, false, ⟨0, 0, 0, []⟩⟩, none, 0⟩) [] := fun X => ⟨rfl, .inl ⟨rfl, rfl⟩⟩
    refine hK.out undef _ (Turn.trans hH7 tR (fun i _ e => e)) (fun hS2 => ?_)
    refine wpAnyH_done (by kernel_rfl) ?_ _
    generalize World.setRow _ _ _ = wR at *
    go_wp2
    refine bodyPost_ret (results_row1 rfl rfl bR ⟨_, Tryz.underlying110⟩ (by kernel_rfl)) rfl (nrAns_mk (U := V') (Ms := [⟨⟨1, 1 - id, ep, (o : Int), pv, false, ⟨0, 0, 0, []⟩⟩, none, 0⟩]) (by simpa using HLn.out) rfl hV ?_ (NrOw.send (lb := w.heap.size) (lo := (w5.heap.size + 1)) (hi := w6.heap.size) ⟨⟨1, 1 - id, ep, (o : Int), pv, false, ⟨0, 0, 0, []⟩⟩, none, 0⟩ hoR (by omega) (by omega) ?_ (by omega) (by omega) (by omega) (hvR _) (by simp) (by simp) (Nat.le_refl _) (by intro k hk; simp [MlV.pv, Value.ownBlock] at hk) (by omega)) hwR)
    · simp [HPV.out]
    · have := row_of_blk bMR rfl
      simpa [MlV.cs] using this
  exact fun j hj => by cases hj

theorem iSpread_tk (id : Int) (up : Bool) (ro ep su ma : Int) (o : Nat) (co : Int) (A : Option Addr) (n c : Nat) (V : List EkV) (w : World) (h : LgAt w A V) (hN : NlK V) (hn : V.length = n) (hm : n ≤ 2097152) (hf : aF up ro (nF id up ro ep su ma (o : Int) co n (V.map EkV.r)) = 0) (hid : id = 0 ∨ id = 1) (ho : o < n) (en : Ek) (hen : (V.map EkV.r)[o]? = some en) :
    Calls Tryz.prog 134 #[.agg #[.int .i64 id, .bool up, .int .i64 ro, .int .i64 ep, .slice A n c, .int .i64 su, .int .i64 ma, .int .i64 (o : Int), .int .i64 co]] w (NrAns w 0 id up ro ep su ma (o : Int) co (V.map EkV.r) [⟨1, 1 - id, ep, (o : Int), prevE (V.map EkV.r) o, true, en⟩]) := by
  have HLn : Hid (V.length = n) := hn
  obtain ⟨pv, hpv⟩ : ∃ pv, pv = prevE (V.map EkV.r) o := ⟨_, rfl⟩
  have HPV : Hid (pv = prevE (V.map EkV.r) o) := hpv
  clear hpv
  have HEN0 : Hid ((V.map EkV.r)[o]? = some en) := hen
  clear hen
  have hw := ((New.refl w).alloc (.cells #[.int .i64 id, .bool up, .int .i64 ro, .int .i64 ep, .slice A n c, .int .i64 su, .int .i64 ma, .int .i64 (o : Int), .int .i64 co] 108)).alloc (.cells #[.int .i64 0, .int .i64 0, .bool false, .int .i64 0, .int .i64 0, .slice none 0 0, .int .i64 0, .int .i64 0, .int .i64 0, .int .i64 0, .slice none 0 0] 110)
  have b0 := (Blk.mk w w.heap.size 108 #[.int .i64 id, .bool up, .int .i64 ro, .int .i64 ep, .slice A n c, .int .i64 su, .int .i64 ma, .int .i64 (o : Int), .int .i64 co] rfl).alloc (.cells #[.int .i64 0, .int .i64 0, .bool false, .int .i64 0, .int .i64 0, .slice none 0 0, .int .i64 0, .int .i64 0, .int .i64 0, .int .i64 0, .slice none 0 0] 110)
  have b1 := Blk.mk (w.alloc (.cells #[.int .i64 id, .bool up, .int .i64 ro, .int .i64 ep, .slice A n c, .int .i64 su, .int .i64 ma, .int .i64 (o : Int), .int .i64 co] 108)) (w.heap.size + 1) 110 #[.int .i64 0, .int .i64 0, .bool false, .int .i64 0, .int .i64 0, .slice none 0 0, .int .i64 0, .int .i64 0, .int .i64 0, .int .i64 0, .slice none 0 0] (by simp)
  have s0 : Hid (((w.alloc (.cells #[.int .i64 id, .bool up, .int .i64 ro, .int .i64 ep, .slice A n c, .int .i64 su, .int .i64 ma, .int .i64 (o : Int), .int .i64 co] 108)).alloc (.cells #[.int .i64 0, .int .i64 0, .bool false, .int .i64 0, .int .i64 0, .slice none 0 0, .int .i64 0, .int .i64 0, .int .i64 0, .int .i64 0, .slice none 0 0] 110)).heap.size = w.heap.size + 1 + 1) := by unfold Hid; simp
  go_enter Tryz.func134, Tryz.ntmps134
  go_upto_region 1 with fail
  generalize (w.alloc (.cells #[.int .i64 id, .bool up, .int .i64 ro, .int .i64 ep, .slice A n c, .int .i64 su, .int .i64 ma, .int .i64 (o : Int), .int .i64 co] 108)).alloc (.cells #[.int .i64 0, .int .i64 0, .bool false, .int .i64 0, .int .i64 0, .slice none 0 0, .int .i64 0, .int .i64 0, .int .i64 0, .int .i64 0, .slice none 0 0] 110) = w0 at *
  have S0 := s0.out
  have c0 := b0.cells
  go_wp2_with fail
  refine (actF_any 0 w.heap.size id up ro ep su ma (o : Int) co A n c V _ b0 (h.new hw) hn hm hf).mono ?_
  rintro e w1 ⟨rfl, hn1⟩
  have b11 := b1.new hn1
  have b01 := b0.new hn1
  have c01 := b01.cells
  have hw1 := hw.trans hn1
  clear c0
  have z01 := hn1.size
  go_wp2_with fail
  refine (mailAt_any 1 (o : Int) w.heap.size id up ro ep su ma (o : Int) co A n c _ b01 hid).mono ?_
  rintro e w2 ⟨rfl, hn2⟩
  have z12 := hn2.size
  have al3 := (New.refl w2).alloc (.cells #[.int .i64 1, .int .i64 (1 - id), .int .i64 ep, .int .i64 (o : Int), .int .i64 0, .bool false, .int .i64 0, .int .i64 0, .int .i64 0, .slice none 0 0] 137)
  have b03 := (b01.new hn2).new al3
  have b13 := (b11.new hn2).new al3
  have bM3 := Blk.mk w2 w2.heap.size 137 #[.int .i64 1, .int .i64 (1 - id), .int .i64 ep, .int .i64 (o : Int), .int .i64 0, .bool false, .int .i64 0, .int .i64 0, .int .i64 0, .slice none 0 0] rfl
  have hw3 := (hw1.trans hn2).trans al3
  have z23 := al3.size
  have l3 := bM3.lt
  go_upto_region 5 with fail
  generalize w2.alloc (.cells #[.int .i64 1, .int .i64 (1 - id), .int .i64 ep, .int .i64 (o : Int), .int .i64 0, .bool false, .int .i64 0, .int .i64 0, .int .i64 0, .slice none 0 0] 137) = w3 at *
  generalize hMB : w2.heap.size = MB at *
  clear c01 b01 b11 hn2 al3
  have c03 := b03.cells
  have cM := bM3.cells
  have fM := bM3.frees
  go_wp2_with fail
  refine (eahead_any o w.heap.size id up ro ep su ma (o : Int) co A n c V _ b03 (h.new hw3) hn hm (by omega)).mono ?_
  rintro e wz ⟨rfl, hwz⟩
  obtain rfl := hwz.symm
  rw [← HPV.out]
  go_upto_region 6 with fail
  have bM4 := bM3.set 4 (.int .i64 pv)
  have t4 := (Turn.refl (fun i => i = MB) w3).set (p := ⟨MB, 4, none⟩) rfl (.int .i64 pv)
  have b04 := b03.turn t4 (by omega)
  have b14 := b13.turn t4 (by omega)
  have hw4 := hw3.before t4 (by intro i hi e; omega)
  have z34 := t4.size
  have bM5 : Blk (w3.setCell ⟨MB, 4, none⟩ (.int .i64 pv)) MB 137 #[.int .i64 1, .int .i64 (1 - id), .int .i64 ep, .int .i64 (o : Int), .int .i64 pv, .bool false, .int .i64 0, .int .i64 0, .int .i64 0, .slice none 0 0] := bM4
  generalize w3.setCell ⟨MB, 4, none⟩ (.int .i64 pv) = w4 at *
  clear c03 cM fM bM3 b03 b13 t4 bM4
  have C0 := blk_regrown b04
  have g1 : decide ((o : Int) < (n : Int)) = true := decide_eq_true (by omega)
  refine wp_region_quiet_below (by kernel_rfl) (by kernel_rfl) ?_
  repeat (go_big_quiet_step ((go_at_call 163; exact calls_regrown_same (count_any w.heap.size id up ro ep su ma (o : Int) co A n c _ (b04.new (new_regrown _ _ _))))))
  refine wpQuiet_nil ?_
  rintro w5 hn5
  replace hn5 := new_of_regrown hn5
  have z45 := hn5.size
  have b05 := b04.new hn5
  have b15 := b14.new hn5
  have bM := bM5.new hn5
  have hw5 := hw4.trans hn5
  clear C0 b04 b14 bM5 hn5
  obtain ⟨g, ee, ki, pe, x5, m5, d5, xs, hA5, hv, hlen, hns, hmx, q0, q1, q2, q3⟩ := (h.new hw5).at o (by have := HLn.out; omega)
  have HM5 : Hid (xs.length = m5) := hlen
  have hby : Hid (∀ z ∈ xs, By z) := hns.lt
  have hnl : Hid (x5 = none → m5 = 0 ∧ d5 = 0) := fun e => by have := hN _ (List.mem_of_getElem? hv) e; rw [← hlen]; exact this
  have HEN : Hid (en = ⟨ee, ki, pe, xs⟩) := by
    have h1 := HEN0.out
    rw [List.getElem?_map, hv] at h1
    exact (Option.some.inj h1).symm
  subst hA5
  clear hv hlen
  have c05 := b05.cells
  go_wp2_with fail
  refine (copyE ee ki pe x5 m5 d5 xs _ hns HM5.out hnl.out (by omega)).mono ?_
  rintro e w6 ⟨a5, c5, rfl, ho6, hn6⟩
  have bM6 := bM.new hn6
  have cM := bM6.cells
  have fM := bM6.frees
  have z56 := hn6.size
  go_upto_region 8 with fail
  have bM7 := ((((bM6.set 5 (.bool true)).set 6 (.int .i64 ee)).set 7 (.int .i64 ki)).set 8 (.int .i64 pe)).set 9 (.slice a5 m5 c5)
  have t7 := (((((Turn.refl (fun i => i = MB) w6).set (p := ⟨MB, 5, none⟩) rfl (.bool true)).set (p := ⟨MB, 6, none⟩) rfl (.int .i64 ee)).set (p := ⟨MB, 7, none⟩) rfl (.int .i64 ki)).set (p := ⟨MB, 8, none⟩) rfl (.int .i64 pe)).set (p := ⟨MB, 9, none⟩) rfl (.slice a5 m5 c5)
  have b07 := (b05.new hn6).turn t7 (by omega)
  have b17' := (b15.new hn6).turn t7 (by omega)
  have hw7' := (hw5.trans hn6).before t7 (by intro i hi e; omega)
  have z67 := t7.size
  have hvr0 := ho6.rngK
  have hv7' : OvB _ w5.heap.size (.slice a5 m5 c5) xs := ho6.turnK t7 (by intro k hk e; have := hvr0 k hk; have := bM.lt; omega)
  have lMB := bM.lt
  have bM8 : Blk (((((w6.setCell ⟨MB, 5, none⟩ (.bool true)).setCell ⟨MB, 6, none⟩ (.int .i64 ee)).setCell ⟨MB, 7, none⟩ (.int .i64 ki)).setCell ⟨MB, 8, none⟩ (.int .i64 pe)).setCell ⟨MB, 9, none⟩ (.slice a5 m5 c5)) MB 137 #[.int .i64 1, .int .i64 (1 - id), .int .i64 ep, .int .i64 (o : Int), .int .i64 pv, .bool true, .int .i64 ee, .int .i64 ki, .int .i64 pe, .slice a5 m5 c5] := bM7
  generalize ((((w6.setCell ⟨MB, 5, none⟩ (.bool true)).setCell ⟨MB, 6, none⟩ (.int .i64 ee)).setCell ⟨MB, 7, none⟩ (.int .i64 ki)).setCell ⟨MB, 8, none⟩ (.int .i64 pe)).setCell ⟨MB, 9, none⟩ (.slice a5 m5 c5) = w8 at *
  clear cM fM bM7 bM6 c05 q0 q1 q2 q3 hns bM b05 b15 t7 hw5
  generalize hlb5 : w5.heap.size = lb5 at *
  have b05 := b07
  have b15 := b17'
  have bM := bM8
  have hw5 := hw7'
  have hv5 : OvB w8 lb5 (MlV.pv ⟨⟨1, 1 - id, ep, (o : Int), pv, true, ⟨ee, ki, pe, xs⟩⟩, a5, c5⟩) xs := by
    unfold MlV.pv
    simp only [HM5.out]
    exact hv7'
  have hvr : ∀ k, (MlV.pv ⟨⟨1, 1 - id, ep, (o : Int), pv, true, ⟨ee, ki, pe, xs⟩⟩, a5, c5⟩).ownBlock = some k → k < w8.heap.size := fun k hk => (hv5.rngK k hk).2
  have hvl : ∀ k, (MlV.pv ⟨⟨1, 1 - id, ep, (o : Int), pv, true, ⟨ee, ki, pe, xs⟩⟩, a5, c5⟩).ownBlock = some k → lb5 ≤ k := fun k hk => (hv5.rngK k hk).1
  go_upto_region 8 with fail
  refine hw_start (n := 5) (S := fun X => Turn (fun i => i = w.heap.size + 1) w8 X) rfl (by kernel_rfl) (((New.refl _).drew).turn) (fun hH => ?_)
  refine' hw_take 1 (some 31) (.agg #[.int .i64 1, .int .i64 (1 - id), .int .i64 ep, .int .i64 (o : Int), .int .i64 pv, .bool true, .int .i64 ee, .int .i64 ki, .int .i64 pe, .slice a5 m5 c5]) rfl rfl (by kernel_rfl) (by kernel_rfl) (by kernel_rfl) (fun _ _ _ h => h) (by rfl) hH ?hyB ?restB
  case hyB =>
    intro X hX
    exact run_load_blk 137 (.tmp 4) rfl MB rfl #[.int .i64 1, .int .i64 (1 - id), .int .i64 ep, .int .i64 (o : Int), .int .i64 pv, .bool true, .int .i64 ee, .int .i64 ki, .int .i64 pe, .slice a5 m5 c5] _ (bM.turn hX (by omega)) Tryz.underlying137 rfl (by kernel_rfl)
  simp only [Act.put, pA9, pB9, pC9]
  refine wpAnyH_ready (rs := [0, 2]) (by kernel_rfl) (by simp) ?_
  refine hw_step 0 (some 30) rfl rfl (by rfl) (fun K hK => ?_) ?_
  · skip
    go_simp
    refine (copyNd_any w.heap.size id up ro ep su ma (o : Int) co (some ⟨g, 0, none⟩) n c V _ (b05.new ((New.refl w8).drew)) (h.new (hw5.trans ((New.refl w8).drew))) hN hn hm).mono ?_
    rintro e w6 ⟨A', c', V', rfl, hV, hoL, hn6⟩
    replace hoL : OwL w6 w8.heap.size w6.heap.size (.slice A' n c') V' := hoL
    have n6 := ((New.refl w8).drew).trans hn6
    have z6 := hn6.size
    go_simp
    refine hK.out _ _ n6.turn (fun hH6 => ?_)
    simp only [Act.put, pA9, pB9, pC9]
    refine hw_call 2 (some 32) rfl rfl (by kernel_rfl) (by rfl) (fun K hK => ?_)
    go_simp
    have al7 := (New.refl w6).alloc (.cells #[.int .i64 1, .int .i64 (1 - id), .int .i64 ep, .int .i64 (o : Int), .int .i64 pv, .bool true, .int .i64 ee, .int .i64 ki, .int .i64 pe, .slice a5 m5 c5] 137)
    have bM7 := Blk.mk w6 w6.heap.size 137 #[.int .i64 1, .int .i64 (1 - id), .int .i64 ep, .int .i64 (o : Int), .int .i64 pv, .bool true, .int .i64 ee, .int .i64 ki, .int .i64 pe, .slice a5 m5 c5] rfl
    have n7 := n6.trans al7
    have hoL7 := hoL.new al7
    have z7 := al7.size
    have l7 := bM7.lt
    have z56 : w8.heap.size ≤ w6.heap.size := n6.size
    have b17 := (b15.new n7)
    have hw7 := hw5.trans n7
    have hv7 := hv5.new n7
    refine hK.out _ _ n7.turn (fun hH7 => ?_)
    simp only [Act.put, pA9, pB9, pC9]
    generalize w6.alloc (.cells #[.int .i64 1, .int .i64 (1 - id), .int .i64 ep, .int .i64 (o : Int), .int .i64 pv, .bool true, .int .i64 ee, .int .i64 ki, .int .i64 pe, .slice a5 m5 c5] 137) = w7 at *
    refine' hw_t 3 (some 33) _ rfl rfl hH7 ?hy29 ?rest29
    case hy29 =>
      intro X hX
      go_simp
      try rfl
    simp only [Act.put, pA9, pB9, pC9]
    refine hw_call 4 none rfl rfl (by kernel_rfl) (by rfl) (fun K hK => ?_)
    refine hw_store 110 (.tmp 2) (.tmp 33) rfl rfl (w.heap.size + 1) #[.int .i64 0, .int .i64 id, .bool up, .int .i64 ro, .int .i64 ep, .slice A' n c', .int .i64 su, .int .i64 ma, .int .i64 (o : Int), .int .i64 co, .slice (some ⟨w6.heap.size, 0, none⟩) 1 1] #[.int .i64 0, .int .i64 0, .bool false, .int .i64 0, .int .i64 0, .slice none 0 0, .int .i64 0, .int .i64 0, .int .i64 0, .int .i64 0, .slice none 0 0] rfl rfl b17 (by kernel_rfl) rfl (by kernel_rfl) ?_
    have tR := Turn.rowW (Turn.refl (fun i => i = w.heap.size + 1) w7) rfl #[.int .i64 0, .int .i64 id, .bool up, .int .i64 ro, .int .i64 ep, .slice A' n c', .int .i64 su, .int .i64 ma, .int .i64 (o : Int), .int .i64 co, .slice (some ⟨w6.heap.size, 0, none⟩) 1 1]
    have bR := b17.rowW #[.int .i64 0, .int .i64 id, .bool up, .int .i64 ro, .int .i64 ep, .slice A' n c', .int .i64 su, .int .i64 ma, .int .i64 (o : Int), .int .i64 co, .slice (some ⟨w6.heap.size, 0, none⟩) 1 1]
    have hoR := hoL7.turn tR (by intro k _ _ e; omega)
    have bMR := bM7.turn tR (by omega)
    have hwR := hw7.before tR (by intro i hi e; omega)
    have zR := tR.size
    have hvR := hv7.turnK tR (by intro k hk e; have := hvr k hk; have := hvl k hk; omega)
    refine hK.out undef _ (Turn.trans hH7 tR (fun i _ e => e)) (fun hS2 => ?_)
    refine wpAnyH_done (by kernel_rfl) ?_ _
    generalize World.setRow _ _ _ = wR at *
    go_wp2
    refine bodyPost_ret (results_row1 rfl rfl bR ⟨_, Tryz.underlying110⟩ (by kernel_rfl)) rfl (nrAns_mk (U := V') (Ms := [⟨⟨1, 1 - id, ep, (o : Int), pv, true, ⟨ee, ki, pe, xs⟩⟩, a5, c5⟩]) (by simpa using HLn.out) rfl hV ?_ (NrOw.send (lb := lb5) (lo := w8.heap.size) (hi := w6.heap.size) ⟨⟨1, 1 - id, ep, (o : Int), pv, true, ⟨ee, ki, pe, xs⟩⟩, a5, c5⟩ hoR (by omega) (by omega) ?_ (by omega) (by omega) (by omega) hvR hby.out (by simp only [HM5.out]; omega) (by omega) (fun k hk => by have := hvr k hk; omega) (by omega)) hwR)
    · simp [HPV.out, HEN.out]
    · have := row_of_blk bMR rfl
      simpa [MlV.cs, HM5.out] using this
  refine hw_step 2 (some 32) rfl rfl (by rfl) (fun K hK => ?_) ?_
  · skip
    go_simp
    have al7 := ((New.refl w8).alloc (.cells #[.int .i64 1, .int .i64 (1 - id), .int .i64 ep, .int .i64 (o : Int), .int .i64 pv, .bool true, .int .i64 ee, .int .i64 ki, .int .i64 pe, .slice a5 m5 c5] 137)).drew
    have bM0 : Blk ((w8.alloc (.cells #[.int .i64 1, .int .i64 (1 - id), .int .i64 ep, .int .i64 (o : Int), .int .i64 pv, .bool true, .int .i64 ee, .int .i64 ki, .int .i64 pe, .slice a5 m5 c5] 137)).drew) w8.heap.size 137 #[.int .i64 1, .int .i64 (1 - id), .int .i64 ep, .int .i64 (o : Int), .int .i64 pv, .bool true, .int .i64 ee, .int .i64 ki, .int .i64 pe, .slice a5 m5 c5] := (Blk.mk w8 w8.heap.size 137 #[.int .i64 1, .int .i64 (1 - id), .int .i64 ep, .int .i64 (o : Int), .int .i64 pv, .bool true, .int .i64 ee, .int .i64 ki, .int .i64 pe, .slice a5 m5 c5] rfl).new ((New.refl _).drew)
    have sB : Hid ((w8.alloc (.cells #[.int .i64 1, .int .i64 (1 - id), .int .i64 ep, .int .i64 (o : Int), .int .i64 pv, .bool true, .int .i64 ee, .int .i64 ki, .int .i64 pe, .slice a5 m5 c5] 137)).drew.heap.size = w8.heap.size + 1) := by unfold Hid; simp
    refine hK.out _ _ al7.turn (fun hHB => ?_)
    simp only [Act.put, pA9, pB9, pC9]
    generalize (w8.alloc (.cells #[.int .i64 1, .int .i64 (1 - id), .int .i64 ep, .int .i64 (o : Int), .int .i64 pv, .bool true, .int .i64 ee, .int .i64 ki, .int .i64 pe, .slice a5 m5 c5] 137)).drew = wB at *
    refine hw_call 0 (some 30) rfl rfl (by kernel_rfl) (by rfl) (fun K hK => ?_)
    go_simp
    refine (copyNd_any w.heap.size id up ro ep su ma (o : Int) co (some ⟨g, 0, none⟩) n c V _ (b05.new al7) (h.new (hw5.trans al7)) hN hn hm).mono ?_
    rintro e w6 ⟨A', c', V', rfl, hV, hoL, hn6⟩
    rw [sB.out] at hoL
    have n6 := al7.trans hn6
    have z6 := hn6.size
    go_simp
    refine hK.out _ _ n6.turn (fun hH7 => ?_)
    simp only [Act.put, pA9, pB9, pC9]
    have bM7 := bM0.new hn6
    have l7 := bM7.lt
    have b17 := (b15.new n6)
    have hw7 := hw5.trans n6
    have hv7 := hv5.new n6
    refine' hw_t 3 (some 33) _ rfl rfl hH7 ?hy30 ?rest30
    case hy30 =>
      intro X hX
      go_simp
      try rfl
    simp only [Act.put, pA9, pB9, pC9]
    refine hw_call 4 none rfl rfl (by kernel_rfl) (by rfl) (fun K hK => ?_)
    refine hw_store 110 (.tmp 2) (.tmp 33) rfl rfl (w.heap.size + 1) #[.int .i64 0, .int .i64 id, .bool up, .int .i64 ro, .int .i64 ep, .slice A' n c', .int .i64 su, .int .i64 ma, .int .i64 (o : Int), .int .i64 co, .slice (some ⟨w8.heap.size, 0, none⟩) 1 1] #[.int .i64 0, .int .i64 0, .bool false, .int .i64 0, .int .i64 0, .slice none 0 0, .int .i64 0, .int .i64 0, .int .i64 0, .int .i64 0, .slice none 0 0] rfl rfl b17 (by kernel_rfl) rfl (by kernel_rfl) ?_
    have tR := Turn.rowW (Turn.refl (fun i => i = w.heap.size + 1) w6) rfl #[.int .i64 0, .int .i64 id, .bool up, .int .i64 ro, .int .i64 ep, .slice A' n c', .int .i64 su, .int .i64 ma, .int .i64 (o : Int), .int .i64 co, .slice (some ⟨w8.heap.size, 0, none⟩) 1 1]
    have bR := b17.rowW #[.int .i64 0, .int .i64 id, .bool up, .int .i64 ro, .int .i64 ep, .slice A' n c', .int .i64 su, .int .i64 ma, .int .i64 (o : Int), .int .i64 co, .slice (some ⟨w8.heap.size, 0, none⟩) 1 1]
    have hoR := hoL.turn tR (by intro k _ _ e; omega)
    have bMR := bM7.turn tR (by omega)
    have hwR := hw7.before tR (by intro i hi e; omega)
    have zR := tR.size
    have hvR := hv7.turnK tR (by intro k hk e; have := hvr k hk; have := hvl k hk; omega)
    refine hK.out undef _ (Turn.trans hH7 tR (fun i _ e => e)) (fun hS2 => ?_)
    refine wpAnyH_done (by kernel_rfl) ?_ _
    generalize World.setRow _ _ _ = wR at *
    go_wp2
    refine bodyPost_ret (results_row1 rfl rfl bR ⟨_, Tryz.underlying110⟩ (by kernel_rfl)) rfl (nrAns_mk (U := V') (Ms := [⟨⟨1, 1 - id, ep, (o : Int), pv, true, ⟨ee, ki, pe, xs⟩⟩, a5, c5⟩]) (by simpa using HLn.out) rfl hV ?_ (NrOw.send (lb := lb5) (lo := (w8.heap.size + 1)) (hi := w6.heap.size) ⟨⟨1, 1 - id, ep, (o : Int), pv, true, ⟨ee, ki, pe, xs⟩⟩, a5, c5⟩ hoR (by omega) (by omega) ?_ (by omega) (by omega) (by omega) hvR hby.out (by simp only [HM5.out]; omega) (by omega) (fun k hk => by have := hvr k hk; omega) (by omega)) hwR)
    · simp [HPV.out, HEN.out]
    · have := row_of_blk bMR rfl
      simpa [MlV.cs, HM5.out] using this
  exact fun j hj => by cases hj

end Go.Proofs.YtebkdaddndlmoaaGreat
