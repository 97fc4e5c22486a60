/- What is proved here: what hearing an entry that is to be appended answers, where the mail has one. What is proved here: what hearing an entry that is to be appended answers, where it is there. -/
import Derived.Test.YthnigcalboobgaaHM3
import Derived.Deep.RegionHeld3
namespace Go.Proofs.Ythnigcalboobgaa
open Go.ChangeShapes Go.WideShapes Go.ChangeAt Go.RowKit
set_option linter.unusedVariables false
set_option linter.unusedSimpArgs false
set_option maxRecDepth 100000

set_option maxHeartbeats 3200000 in
theorem ha_taken (B MB lo o : Nat) (id : Int) (up : Bool) (ro ep su ma ot co : Int) (A : Option Addr) (n c : Nat) (V1 : List EkV) (kd tgt me pr : Int) (e1 k1 p1 : Int) (x : Option Addr) (m d : Nat) (xs : List Int) (wb w : World) (hb : Blk w B 36 #[.int .i64 id, .bool up, .int .i64 ro, .int .i64 ep, .slice A n c, .int .i64 su, .int .i64 ma, .int .i64 ot, .int .i64 co]) (hM : Blk w MB 46 #[.int .i64 kd, .int .i64 tgt, .int .i64 me, .int .i64 (o : Int), .int .i64 pr, .bool true, .int .i64 e1, .int .i64 k1, .int .i64 p1, .slice x m d]) (hoL0 : OwL w lo w.heap.size (.slice A n c) V1) (hlo0 : lo ≤ w.heap.size) (hMlo : MB < lo) (hlB : lo ≤ B) (hid : id = 0 ∨ id = 1) (hn : n ≤ 100) (hr : ¬ ro = 1) (ho : o ≤ n) (hq : prevE (V1.map EkV.r) o = pr) (ho1 : o < n) (he : ¬ prevE (V1.map EkV.r) (o + 1) = e1) (hc : (o : Int) < co) :
    Calls Try.prog 29 #[.pointer (some ⟨B, 0, none⟩), .pointer (some ⟨MB, 0, none⟩)] w (HaAns w lo B A n c (.bad 7)) := by
  have hd1 : decide ((n : Int) < (o : Int)) = false := by simp; omega
  have hd2 : (pr != pr) = false := by simp
  have HQ : Hid (prevE (V1.map EkV.r) o = pr) := hq
  clear hq
  have hMn : ¬ (MB = B ∨ (Value.slice A n c).ownBlock = some MB) := by
    rintro (e | e)
    · omega
    · obtain ⟨y, d0, -, -, hrr⟩ := row9_form hoL0.row
      have := (hrr MB e).1
      omega
  have HL : Hid (V1.length = n) := hoL0.lg.2
  have hw := (New.refl w).alloc (.cells #[.int .i64 0, .int .i64 0, .bool false, .int .i64 0, .int .i64 0, .slice none 0 0, .int .i64 0, .int .i64 0, .int .i64 0, .int .i64 0, .slice none 0 0] 39)
  have bR := Blk.mk w w.heap.size 39 #[.int .i64 0, .int .i64 0, .bool false, .int .i64 0, .int .i64 0, .slice none 0 0, .int .i64 0, .int .i64 0, .int .i64 0, .int .i64 0, .slice none 0 0] rfl
  have hb0 := hb.new hw
  have hM0 := hM.new hw
  have hoL := (hoL0.new hw).up hw.size
  have hlt := hb.lt
  have hMt := hM.lt
  have s0 : Hid ((w.alloc (.cells #[.int .i64 0, .int .i64 0, .bool false, .int .i64 0, .int .i64 0, .slice none 0 0, .int .i64 0, .int .i64 0, .int .i64 0, .int .i64 0, .slice none 0 0] 39)).heap.size = w.heap.size + 1) := by unfold Hid; simp
  go_enter Try.func29, Try.ntmps29
  go_upto_region 1 with fail
  generalize w.alloc (.cells #[.int .i64 0, .int .i64 0, .bool false, .int .i64 0, .int .i64 0, .slice none 0 0, .int .i64 0, .int .i64 0, .int .i64 0, .int .i64 0, .slice none 0 0] 39) = w0 at *
  have S0 := s0.out
  go_wp2_with fail
  refine (active_no B id up ro ep su ma ot co A n c _ hb0 hr).mono ?_
  rintro e wz ⟨rfl, hwz⟩
  obtain rfl := hwz.symm
  go_upto_region 3 with fail
  refine hw_start (n := 20) (S := fun X => New w0 X) rfl (by kernel_rfl) ((New.refl _).drew) (fun hH => ?_)
  refine' hw_take 0 (some 10) _ rfl rfl (by kernel_rfl) (by kernel_rfl) (by kernel_rfl) (fun _ _ _ h => h) (by rfl) hH ?hy100 ?rest100
  case hy100 =>
    intro X hX
    go_simp
    try rfl
  simp only [Act.put, List.setIfInBounds_toArray, List.set_cons_zero, List.set_cons_succ]
  refine' hw_take 1 (some 11) _ rfl rfl (by kernel_rfl) (by kernel_rfl) (by kernel_rfl) (fun _ _ _ h => h) (by rfl) hH ?hy101 ?rest101
  case hy101 =>
    intro X hX
    go_simp
    try rfl
  simp only [Act.put, List.setIfInBounds_toArray, List.set_cons_zero, List.set_cons_succ]
  refine' hw_take 2 (some 12) _ rfl rfl (by kernel_rfl) (by kernel_rfl) (by kernel_rfl) (fun _ _ _ h => h) (by rfl) hH ?hy102 ?rest102
  case hy102 =>
    intro X hX
    go_simp
    try rfl
  simp only [Act.put, List.setIfInBounds_toArray, List.set_cons_zero, List.set_cons_succ]
  refine' hw_take 3 (some 13) _ rfl rfl (by kernel_rfl) (by kernel_rfl) (by kernel_rfl) (fun _ _ _ h => h) (by rfl) hH ?hy103 ?rest103
  case hy103 =>
    intro X hX
    have cX := (hM0.new hX).cells
    go_simp
    try rfl
  simp only [Act.put, List.setIfInBounds_toArray, List.set_cons_zero, List.set_cons_succ]
  refine' hw_take 4 (some 14) _ rfl rfl (by kernel_rfl) (by kernel_rfl) (by kernel_rfl) (fun _ _ _ h => h) (by rfl) hH ?hy104 ?rest104
  case hy104 =>
    intro X hX
    go_simp
    try rfl
  simp only [Act.put, List.setIfInBounds_toArray, List.set_cons_zero, List.set_cons_succ]
  refine hw_call 5 (some 15) rfl rfl (by kernel_rfl) (by rfl) (fun K hK => ?_)
  go_simp
  refine (count_any B id up ro ep su ma ot co A n c _ (hb0.new hH)).mono ?_
  rintro e wz ⟨rfl, hwz⟩
  subst hwz
  go_simp
  refine hK.out _ _ ((New.refl _).drew) (fun hH2 => ?_)
  simp only [Act.put, List.setIfInBounds_toArray, List.set_cons_zero, List.set_cons_succ]
  refine' hw_take 6 (some 16) (.bool false) rfl rfl (by kernel_rfl) (by kernel_rfl) (by kernel_rfl) (fun _ _ _ h => h) (by rfl) hH2 ?hyL6 ?restL6
  case hyL6 =>
    intro X hX
    go_simp
    try rfl
  simp only [Act.put, List.setIfInBounds_toArray, List.set_cons_zero, List.set_cons_succ]
  refine' hw_take 7 (some 17) _ rfl rfl (by kernel_rfl) (by kernel_rfl) (by kernel_rfl) (fun _ _ _ h => h) (by rfl) hH2 ?hy105 ?rest105
  case hy105 =>
    intro X hX
    go_simp
    try rfl
  simp only [Act.put, List.setIfInBounds_toArray, List.set_cons_zero, List.set_cons_succ]
  refine' hw_take 8 (some 18) _ rfl rfl (by kernel_rfl) (by kernel_rfl) (by kernel_rfl) (fun _ _ _ h => h) (by rfl) hH2 ?hy106 ?rest106
  case hy106 =>
    intro X hX
    go_simp
    try rfl
  simp only [Act.put, List.setIfInBounds_toArray, List.set_cons_zero, List.set_cons_succ]
  refine' hw_take 9 (some 19) _ rfl rfl (by kernel_rfl) (by kernel_rfl) (by kernel_rfl) (fun _ _ _ h => h) (by rfl) hH2 ?hy107 ?rest107
  case hy107 =>
    intro X hX
    go_simp
    try rfl
  simp only [Act.put, List.setIfInBounds_toArray, List.set_cons_zero, List.set_cons_succ]
  refine' hw_take 10 (some 20) _ rfl rfl (by kernel_rfl) (by kernel_rfl) (by kernel_rfl) (fun _ _ _ h => h) (by rfl) hH2 ?hy108 ?rest108
  case hy108 =>
    intro X hX
    go_simp
    try rfl
  simp only [Act.put, List.setIfInBounds_toArray, List.set_cons_zero, List.set_cons_succ]
  refine' hw_take 11 (some 21) _ rfl rfl (by kernel_rfl) (by kernel_rfl) (by kernel_rfl) (fun _ _ _ h => h) (by rfl) hH2 ?hy109 ?rest109
  case hy109 =>
    intro X hX
    go_simp
    try rfl
  simp only [Act.put, List.setIfInBounds_toArray, List.set_cons_zero, List.set_cons_succ]
  refine' hw_take 12 (some 22) _ rfl rfl (by kernel_rfl) (by kernel_rfl) (by kernel_rfl) (fun _ _ _ h => h) (by rfl) hH2 ?hy110 ?rest110
  case hy110 =>
    intro X hX
    have cX := (hM0.new hX).cells
    go_simp
    try rfl
  simp only [Act.put, List.setIfInBounds_toArray, List.set_cons_zero, List.set_cons_succ]
  refine' hw_take 14 (some 24) _ rfl rfl (by kernel_rfl) (by kernel_rfl) (by kernel_rfl) (fun _ _ _ h => h) (by rfl) hH2 ?hy111 ?rest111
  case hy111 =>
    intro X hX
    go_simp
    try rfl
  simp only [Act.put, List.setIfInBounds_toArray, List.set_cons_zero, List.set_cons_succ]
  refine' hw_take 15 (some 25) _ rfl rfl (by kernel_rfl) (by kernel_rfl) (by kernel_rfl) (fun _ _ _ h => h) (by rfl) hH2 ?hy112 ?rest112
  case hy112 =>
    intro X hX
    go_simp
    try rfl
  simp only [Act.put, List.setIfInBounds_toArray, List.set_cons_zero, List.set_cons_succ]
  refine' hw_take 16 (some 26) _ rfl rfl (by kernel_rfl) (by kernel_rfl) (by kernel_rfl) (fun _ _ _ h => h) (by rfl) hH2 ?hy113 ?rest113
  case hy113 =>
    intro X hX
    go_simp
    try rfl
  simp only [Act.put, List.setIfInBounds_toArray, List.set_cons_zero, List.set_cons_succ]
  refine' hw_take 17 (some 27) _ rfl rfl (by kernel_rfl) (by kernel_rfl) (by kernel_rfl) (fun _ _ _ h => h) (by rfl) hH2 ?hy114 ?rest114
  case hy114 =>
    intro X hX
    have cX := (hM0.new hX).cells
    go_simp
    try rfl
  simp only [Act.put, List.setIfInBounds_toArray, List.set_cons_zero, List.set_cons_succ]
  refine hw_call 13 (some 23) rfl rfl (by kernel_rfl) (by rfl) (fun K hK => ?_)
  go_simp
  refine (eahead_any o B id up ro ep su ma ot co A n c V1 _ (hb0.new hH2) (hoL.lg.1.new hH2) HL.out (by omega) ho).mono ?_
  rintro e wz ⟨rfl, hwz⟩
  subst hwz
  rw [HQ.out]
  go_simp
  refine hK.out _ _ ((New.refl _).drew) (fun hH3 => ?_)
  simp only [Act.put, List.setIfInBounds_toArray, List.set_cons_zero, List.set_cons_succ]
  refine' hw_take 18 (some 28) (.bool false) rfl rfl (by kernel_rfl) (by kernel_rfl) (by kernel_rfl) (fun _ _ _ h => h) (by rfl) hH3 ?hyL18 ?restL18
  case hyL18 =>
    intro X hX
    go_simp
    try rfl
  simp only [Act.put, List.setIfInBounds_toArray, List.set_cons_zero, List.set_cons_succ]
  refine' hw_take 19 (some 29) _ rfl rfl (by kernel_rfl) (by kernel_rfl) (by kernel_rfl) (fun _ _ _ h => h) (by rfl) hH3 ?hy115 ?rest115
  case hy115 =>
    intro X hX
    go_simp
    try rfl
  simp only [Act.put, List.setIfInBounds_toArray, List.set_cons_zero, List.set_cons_succ]
  refine wpAnyH_done (by kernel_rfl) ?_ _
  have hb1 := hb0.new hH3
  have hM1 := hM0.new hH3
  have hoL1 := hoL.new hH3
  have bR1 := bR.new hH3
  have hw1 := hw.trans hH3
  have HZ : Hid (w0.drew.heap.size = w0.heap.size) := rfl
  have zw1 : w0.heap.size ≤ w0.drew.heap.size := Nat.le_refl _
  clear hH hH2 hH3
  generalize w0.drew = w1 at *
  have tw1 : Turn (fun i => i = B ∨ (Value.slice A n c).ownBlock = some i) w w1 := hw1.turn
  have cM := hM1.cells
  go_upto_region 7 with fail
  refine hw_start (n := 11) (S := fun X => Turn (fun i => i = B ∨ (Value.slice A n c).ownBlock = some i) w1 X) rfl (by kernel_rfl) (((New.refl _).drew).turn) (fun hH => ?_)
  refine' hw_take 0 (some 49) _ rfl rfl (by kernel_rfl) (by kernel_rfl) (by kernel_rfl) (fun _ _ _ h => h) (by rfl) hH ?hy116 ?rest116
  case hy116 =>
    intro X hX
    go_simp
    try rfl
  simp only [Act.put, List.setIfInBounds_toArray, List.set_cons_zero, List.set_cons_succ]
  refine' hw_take 1 (some 50) _ rfl rfl (by kernel_rfl) (by kernel_rfl) (by kernel_rfl) (fun _ _ _ h => h) (by rfl) hH ?hy117 ?rest117
  case hy117 =>
    intro X hX
    go_simp
    try rfl
  simp only [Act.put, List.setIfInBounds_toArray, List.set_cons_zero, List.set_cons_succ]
  refine' hw_take 2 (some 51) _ rfl rfl (by kernel_rfl) (by kernel_rfl) (by kernel_rfl) (fun _ _ _ h => h) (by rfl) hH ?hy118 ?rest118
  case hy118 =>
    intro X hX
    go_simp
    try rfl
  simp only [Act.put, List.setIfInBounds_toArray, List.set_cons_zero, List.set_cons_succ]
  refine' hw_take 3 (some 52) _ rfl rfl (by kernel_rfl) (by kernel_rfl) (by kernel_rfl) (fun _ _ _ h => h) (by rfl) hH ?hy119 ?rest119
  case hy119 =>
    intro X hX
    go_simp
    try rfl
  simp only [Act.put, List.setIfInBounds_toArray, List.set_cons_zero, List.set_cons_succ]
  refine' hw_take 4 (some 53) (.agg #[.int .i64 e1, .int .i64 k1, .int .i64 p1, .slice x m d]) rfl rfl (by kernel_rfl) (by kernel_rfl) (by kernel_rfl) (fun _ _ _ h => h) (by rfl) hH ?hyE ?restE
  case hyE =>
    intro X hX
    have cX := (hM1.turn hX hMn).cells
    go_simp
    try rfl
  simp only [Act.put, List.setIfInBounds_toArray, List.set_cons_zero, List.set_cons_succ]
  refine' hw_take 5 (some 54) _ rfl rfl (by kernel_rfl) (by kernel_rfl) (by kernel_rfl) (fun _ _ _ h => h) (by rfl) hH ?hy120 ?rest120
  case hy120 =>
    intro X hX
    go_simp
    try rfl
  simp only [Act.put, List.setIfInBounds_toArray, List.set_cons_zero, List.set_cons_succ]
  refine' hw_take 6 (some 55) _ rfl rfl (by kernel_rfl) (by kernel_rfl) (by kernel_rfl) (fun _ _ _ h => h) (by rfl) hH ?hy121 ?rest121
  case hy121 =>
    intro X hX
    go_simp
    try rfl
  simp only [Act.put, List.setIfInBounds_toArray, List.set_cons_zero, List.set_cons_succ]
  refine' hw_take 7 (some 56) _ rfl rfl (by kernel_rfl) (by kernel_rfl) (by kernel_rfl) (fun _ _ _ h => h) (by rfl) hH ?hy122 ?rest122
  case hy122 =>
    intro X hX
    go_simp
    try rfl
  simp only [Act.put, List.setIfInBounds_toArray, List.set_cons_zero, List.set_cons_succ]
  refine' hw_take 8 (some 57) _ rfl rfl (by kernel_rfl) (by kernel_rfl) (by kernel_rfl) (fun _ _ _ h => h) (by rfl) hH ?hy123 ?rest123
  case hy123 =>
    intro X hX
    have cX := (hM1.turn hX hMn).cells
    go_simp
    try rfl
  simp only [Act.put, List.setIfInBounds_toArray, List.set_cons_zero, List.set_cons_succ]
  refine hw_call 9 (some 58) rfl rfl (by kernel_rfl) (by rfl) (fun K hK => ?_)
  go_simp
  refine (take_taken e1 k1 p1 x m d o B id up ro ep su ma ot co A n c V1 _ (hb1.new ((New.refl _).drew)) ((hoL1.new ((New.refl _).drew)).lg.1) HL.out (by omega) ho1 he hc).mono ?_
  rintro e w2 ⟨rfl, hn2⟩
  go_simp
  refine hK.out _ _ (Turn.trans hH hn2 (fun _ _ f => f.elim)) (fun hH2 => ?_)
  simp only [Act.put, List.setIfInBounds_toArray, List.set_cons_zero, List.set_cons_succ]
  refine' hw_take 10 (some 6) _ rfl rfl (by kernel_rfl) (by kernel_rfl) (by kernel_rfl) (fun _ _ _ h => h) (by rfl) hH2 ?hy124 ?rest124
  case hy124 =>
    intro X hX
    go_simp
    try rfl
  simp only [Act.put, List.setIfInBounds_toArray, List.set_cons_zero, List.set_cons_succ]
  refine wpAnyH_done (by kernel_rfl) ?_ _
  have bR2 := (bR1.new ((New.refl _).drew)).new hn2
  have tw2 := Turn.trans tw1 (((New.refl _).drew).trans hn2) (fun _ _ f => f.elim)
  have z12 : w1.heap.size ≤ w2.heap.size := hn2.size
  have z01 : w.heap.size ≤ w1.heap.size := hw1.size
  clear hH hH2 cM
  have c1 := (bR2).cells
  have f1 := (bR2).frees
  go_wp2
  refine bodyPost_ret (v := .agg #[.int .i64 7, .int .i64 0, .bool false, .int .i64 0, .int .i64 0, .slice none 0 0, .int .i64 0, .int .i64 0, .int .i64 0, .int .i64 0, .slice none 0 0]) (by simp [results, Try.results29, go_sem, c1]) rfl (haAns_bad 7 ?z ?t)
  case z => exact Nat.le_trans (by omega) (Turn.size (S := fun i => i = w.heap.size) (set11 (S := fun i => i = w.heap.size) w2 w.heap.size rfl _ _ _ _ _ _ _ _ _ _ _))
  case t => exact Turn.trans (S := fun i => i = B ∨ (Value.slice A n c).ownBlock = some i) (T := fun i => i = w.heap.size) tw2 (set11 (S := fun i => i = w.heap.size) w2 w.heap.size rfl _ _ _ _ _ _ _ _ _ _ _) (fun i hi e => by omega)

set_option maxHeartbeats 3200000 in
theorem ha_full (B MB lo o : Nat) (id : Int) (up : Bool) (ro ep su ma ot co : Int) (A : Option Addr) (n c : Nat) (V1 : List EkV) (kd tgt me pr : Int) (e1 k1 p1 : Int) (x : Option Addr) (m d : Nat) (xs : List Int) (wb w : World) (hb : Blk w B 36 #[.int .i64 id, .bool up, .int .i64 ro, .int .i64 ep, .slice A n c, .int .i64 su, .int .i64 ma, .int .i64 ot, .int .i64 co]) (hM : Blk w MB 46 #[.int .i64 kd, .int .i64 tgt, .int .i64 me, .int .i64 (o : Int), .int .i64 pr, .bool true, .int .i64 e1, .int .i64 k1, .int .i64 p1, .slice x m d]) (hoL0 : OwL w lo w.heap.size (.slice A n c) V1) (hlo0 : lo ≤ w.heap.size) (hMlo : MB < lo) (hlB : lo ≤ B) (hid : id = 0 ∨ id = 1) (hn : n ≤ 100) (hr : ¬ ro = 1) (ho : o ≤ n) (hq : prevE (V1.map EkV.r) o = pr) (hn1 : n = 100) (ho1 : o = n) (hc : co ≤ o) :
    Calls Try.prog 29 #[.pointer (some ⟨B, 0, none⟩), .pointer (some ⟨MB, 0, none⟩)] w (HaAns w lo B A n c (.bad 2)) := by
  have hd1 : decide ((n : Int) < (o : Int)) = false := by simp; omega
  have hd2 : (pr != pr) = false := by simp
  have HQ : Hid (prevE (V1.map EkV.r) o = pr) := hq
  clear hq
  have HN1 : Hid (n = 100) := hn1
  have HO1 : Hid (o = n) := ho1
  clear hn1 ho1
  have hMn : ¬ (MB = B ∨ (Value.slice A n c).ownBlock = some MB) := by
    rintro (e | e)
    · omega
    · obtain ⟨y, d0, -, -, hrr⟩ := row9_form hoL0.row
      have := (hrr MB e).1
      omega
  have HL : Hid (V1.length = n) := hoL0.lg.2
  have hw := (New.refl w).alloc (.cells #[.int .i64 0, .int .i64 0, .bool false, .int .i64 0, .int .i64 0, .slice none 0 0, .int .i64 0, .int .i64 0, .int .i64 0, .int .i64 0, .slice none 0 0] 39)
  have bR := Blk.mk w w.heap.size 39 #[.int .i64 0, .int .i64 0, .bool false, .int .i64 0, .int .i64 0, .slice none 0 0, .int .i64 0, .int .i64 0, .int .i64 0, .int .i64 0, .slice none 0 0] rfl
  have hb0 := hb.new hw
  have hM0 := hM.new hw
  have hoL := (hoL0.new hw).up hw.size
  have hlt := hb.lt
  have hMt := hM.lt
  have s0 : Hid ((w.alloc (.cells #[.int .i64 0, .int .i64 0, .bool false, .int .i64 0, .int .i64 0, .slice none 0 0, .int .i64 0, .int .i64 0, .int .i64 0, .int .i64 0, .slice none 0 0] 39)).heap.size = w.heap.size + 1) := by unfold Hid; simp
  go_enter Try.func29, Try.ntmps29
  go_upto_region 1 with fail
  generalize w.alloc (.cells #[.int .i64 0, .int .i64 0, .bool false, .int .i64 0, .int .i64 0, .slice none 0 0, .int .i64 0, .int .i64 0, .int .i64 0, .int .i64 0, .slice none 0 0] 39) = w0 at *
  have S0 := s0.out
  go_wp2_with fail
  refine (active_no B id up ro ep su ma ot co A n c _ hb0 hr).mono ?_
  rintro e wz ⟨rfl, hwz⟩
  obtain rfl := hwz.symm
  go_upto_region 3 with fail
  refine hw_start (n := 20) (S := fun X => New w0 X) rfl (by kernel_rfl) ((New.refl _).drew) (fun hH => ?_)
  refine' hw_take 0 (some 10) _ rfl rfl (by kernel_rfl) (by kernel_rfl) (by kernel_rfl) (fun _ _ _ h => h) (by rfl) hH ?hy125 ?rest125
  case hy125 =>
    intro X hX
    go_simp
    try rfl
  simp only [Act.put, List.setIfInBounds_toArray, List.set_cons_zero, List.set_cons_succ]
  refine' hw_take 1 (some 11) _ rfl rfl (by kernel_rfl) (by kernel_rfl) (by kernel_rfl) (fun _ _ _ h => h) (by rfl) hH ?hy126 ?rest126
  case hy126 =>
    intro X hX
    go_simp
    try rfl
  simp only [Act.put, List.setIfInBounds_toArray, List.set_cons_zero, List.set_cons_succ]
  refine' hw_take 2 (some 12) _ rfl rfl (by kernel_rfl) (by kernel_rfl) (by kernel_rfl) (fun _ _ _ h => h) (by rfl) hH ?hy127 ?rest127
  case hy127 =>
    intro X hX
    go_simp
    try rfl
  simp only [Act.put, List.setIfInBounds_toArray, List.set_cons_zero, List.set_cons_succ]
  refine' hw_take 3 (some 13) _ rfl rfl (by kernel_rfl) (by kernel_rfl) (by kernel_rfl) (fun _ _ _ h => h) (by rfl) hH ?hy128 ?rest128
  case hy128 =>
    intro X hX
    have cX := (hM0.new hX).cells
    go_simp
    try rfl
  simp only [Act.put, List.setIfInBounds_toArray, List.set_cons_zero, List.set_cons_succ]
  refine' hw_take 4 (some 14) _ rfl rfl (by kernel_rfl) (by kernel_rfl) (by kernel_rfl) (fun _ _ _ h => h) (by rfl) hH ?hy129 ?rest129
  case hy129 =>
    intro X hX
    go_simp
    try rfl
  simp only [Act.put, List.setIfInBounds_toArray, List.set_cons_zero, List.set_cons_succ]
  refine hw_call 5 (some 15) rfl rfl (by kernel_rfl) (by rfl) (fun K hK => ?_)
  go_simp
  refine (count_any B id up ro ep su ma ot co A n c _ (hb0.new hH)).mono ?_
  rintro e wz ⟨rfl, hwz⟩
  subst hwz
  go_simp
  refine hK.out _ _ ((New.refl _).drew) (fun hH2 => ?_)
  simp only [Act.put, List.setIfInBounds_toArray, List.set_cons_zero, List.set_cons_succ]
  refine' hw_take 6 (some 16) (.bool false) rfl rfl (by kernel_rfl) (by kernel_rfl) (by kernel_rfl) (fun _ _ _ h => h) (by rfl) hH2 ?hyL6 ?restL6
  case hyL6 =>
    intro X hX
    go_simp
    try rfl
  simp only [Act.put, List.setIfInBounds_toArray, List.set_cons_zero, List.set_cons_succ]
  refine' hw_take 7 (some 17) _ rfl rfl (by kernel_rfl) (by kernel_rfl) (by kernel_rfl) (fun _ _ _ h => h) (by rfl) hH2 ?hy130 ?rest130
  case hy130 =>
    intro X hX
    go_simp
    try rfl
  simp only [Act.put, List.setIfInBounds_toArray, List.set_cons_zero, List.set_cons_succ]
  refine' hw_take 8 (some 18) _ rfl rfl (by kernel_rfl) (by kernel_rfl) (by kernel_rfl) (fun _ _ _ h => h) (by rfl) hH2 ?hy131 ?rest131
  case hy131 =>
    intro X hX
    go_simp
    try rfl
  simp only [Act.put, List.setIfInBounds_toArray, List.set_cons_zero, List.set_cons_succ]
  refine' hw_take 9 (some 19) _ rfl rfl (by kernel_rfl) (by kernel_rfl) (by kernel_rfl) (fun _ _ _ h => h) (by rfl) hH2 ?hy132 ?rest132
  case hy132 =>
    intro X hX
    go_simp
    try rfl
  simp only [Act.put, List.setIfInBounds_toArray, List.set_cons_zero, List.set_cons_succ]
  refine' hw_take 10 (some 20) _ rfl rfl (by kernel_rfl) (by kernel_rfl) (by kernel_rfl) (fun _ _ _ h => h) (by rfl) hH2 ?hy133 ?rest133
  case hy133 =>
    intro X hX
    go_simp
    try rfl
  simp only [Act.put, List.setIfInBounds_toArray, List.set_cons_zero, List.set_cons_succ]
  refine' hw_take 11 (some 21) _ rfl rfl (by kernel_rfl) (by kernel_rfl) (by kernel_rfl) (fun _ _ _ h => h) (by rfl) hH2 ?hy134 ?rest134
  case hy134 =>
    intro X hX
    go_simp
    try rfl
  simp only [Act.put, List.setIfInBounds_toArray, List.set_cons_zero, List.set_cons_succ]
  refine' hw_take 12 (some 22) _ rfl rfl (by kernel_rfl) (by kernel_rfl) (by kernel_rfl) (fun _ _ _ h => h) (by rfl) hH2 ?hy135 ?rest135
  case hy135 =>
    intro X hX
    have cX := (hM0.new hX).cells
    go_simp
    try rfl
  simp only [Act.put, List.setIfInBounds_toArray, List.set_cons_zero, List.set_cons_succ]
  refine' hw_take 14 (some 24) _ rfl rfl (by kernel_rfl) (by kernel_rfl) (by kernel_rfl) (fun _ _ _ h => h) (by rfl) hH2 ?hy136 ?rest136
  case hy136 =>
    intro X hX
    go_simp
    try rfl
  simp only [Act.put, List.setIfInBounds_toArray, List.set_cons_zero, List.set_cons_succ]
  refine' hw_take 15 (some 25) _ rfl rfl (by kernel_rfl) (by kernel_rfl) (by kernel_rfl) (fun _ _ _ h => h) (by rfl) hH2 ?hy137 ?rest137
  case hy137 =>
    intro X hX
    go_simp
    try rfl
  simp only [Act.put, List.setIfInBounds_toArray, List.set_cons_zero, List.set_cons_succ]
  refine' hw_take 16 (some 26) _ rfl rfl (by kernel_rfl) (by kernel_rfl) (by kernel_rfl) (fun _ _ _ h => h) (by rfl) hH2 ?hy138 ?rest138
  case hy138 =>
    intro X hX
    go_simp
    try rfl
  simp only [Act.put, List.setIfInBounds_toArray, List.set_cons_zero, List.set_cons_succ]
  refine' hw_take 17 (some 27) _ rfl rfl (by kernel_rfl) (by kernel_rfl) (by kernel_rfl) (fun _ _ _ h => h) (by rfl) hH2 ?hy139 ?rest139
  case hy139 =>
    intro X hX
    have cX := (hM0.new hX).cells
    go_simp
    try rfl
  simp only [Act.put, List.setIfInBounds_toArray, List.set_cons_zero, List.set_cons_succ]
  refine hw_call 13 (some 23) rfl rfl (by kernel_rfl) (by rfl) (fun K hK => ?_)
  go_simp
  refine (eahead_any o B id up ro ep su ma ot co A n c V1 _ (hb0.new hH2) (hoL.lg.1.new hH2) HL.out (by omega) ho).mono ?_
  rintro e wz ⟨rfl, hwz⟩
  subst hwz
  rw [HQ.out]
  go_simp
  refine hK.out _ _ ((New.refl _).drew) (fun hH3 => ?_)
  simp only [Act.put, List.setIfInBounds_toArray, List.set_cons_zero, List.set_cons_succ]
  refine' hw_take 18 (some 28) (.bool false) rfl rfl (by kernel_rfl) (by kernel_rfl) (by kernel_rfl) (fun _ _ _ h => h) (by rfl) hH3 ?hyL18 ?restL18
  case hyL18 =>
    intro X hX
    go_simp
    try rfl
  simp only [Act.put, List.setIfInBounds_toArray, List.set_cons_zero, List.set_cons_succ]
  refine' hw_take 19 (some 29) _ rfl rfl (by kernel_rfl) (by kernel_rfl) (by kernel_rfl) (fun _ _ _ h => h) (by rfl) hH3 ?hy140 ?rest140
  case hy140 =>
    intro X hX
    go_simp
    try rfl
  simp only [Act.put, List.setIfInBounds_toArray, List.set_cons_zero, List.set_cons_succ]
  refine wpAnyH_done (by kernel_rfl) ?_ _
  have hb1 := hb0.new hH3
  have hM1 := hM0.new hH3
  have hoL1 := hoL.new hH3
  have bR1 := bR.new hH3
  have hw1 := hw.trans hH3
  have HZ : Hid (w0.drew.heap.size = w0.heap.size) := rfl
  have zw1 : w0.heap.size ≤ w0.drew.heap.size := Nat.le_refl _
  clear hH hH2 hH3
  generalize w0.drew = w1 at *
  have tw1 : Turn (fun i => i = B ∨ (Value.slice A n c).ownBlock = some i) w w1 := hw1.turn
  have cM := hM1.cells
  go_upto_region 7 with fail
  refine hw_start (n := 11) (S := fun X => Turn (fun i => i = B ∨ (Value.slice A n c).ownBlock = some i) w1 X) rfl (by kernel_rfl) (((New.refl _).drew).turn) (fun hH => ?_)
  refine' hw_take 0 (some 49) _ rfl rfl (by kernel_rfl) (by kernel_rfl) (by kernel_rfl) (fun _ _ _ h => h) (by rfl) hH ?hy141 ?rest141
  case hy141 =>
    intro X hX
    go_simp
    try rfl
  simp only [Act.put, List.setIfInBounds_toArray, List.set_cons_zero, List.set_cons_succ]
  refine' hw_take 1 (some 50) _ rfl rfl (by kernel_rfl) (by kernel_rfl) (by kernel_rfl) (fun _ _ _ h => h) (by rfl) hH ?hy142 ?rest142
  case hy142 =>
    intro X hX
    go_simp
    try rfl
  simp only [Act.put, List.setIfInBounds_toArray, List.set_cons_zero, List.set_cons_succ]
  refine' hw_take 2 (some 51) _ rfl rfl (by kernel_rfl) (by kernel_rfl) (by kernel_rfl) (fun _ _ _ h => h) (by rfl) hH ?hy143 ?rest143
  case hy143 =>
    intro X hX
    go_simp
    try rfl
  simp only [Act.put, List.setIfInBounds_toArray, List.set_cons_zero, List.set_cons_succ]
  refine' hw_take 3 (some 52) _ rfl rfl (by kernel_rfl) (by kernel_rfl) (by kernel_rfl) (fun _ _ _ h => h) (by rfl) hH ?hy144 ?rest144
  case hy144 =>
    intro X hX
    go_simp
    try rfl
  simp only [Act.put, List.setIfInBounds_toArray, List.set_cons_zero, List.set_cons_succ]
  refine' hw_take 4 (some 53) (.agg #[.int .i64 e1, .int .i64 k1, .int .i64 p1, .slice x m d]) rfl rfl (by kernel_rfl) (by kernel_rfl) (by kernel_rfl) (fun _ _ _ h => h) (by rfl) hH ?hyE ?restE
  case hyE =>
    intro X hX
    have cX := (hM1.turn hX hMn).cells
    go_simp
    try rfl
  simp only [Act.put, List.setIfInBounds_toArray, List.set_cons_zero, List.set_cons_succ]
  refine' hw_take 5 (some 54) _ rfl rfl (by kernel_rfl) (by kernel_rfl) (by kernel_rfl) (fun _ _ _ h => h) (by rfl) hH ?hy145 ?rest145
  case hy145 =>
    intro X hX
    go_simp
    try rfl
  simp only [Act.put, List.setIfInBounds_toArray, List.set_cons_zero, List.set_cons_succ]
  refine' hw_take 6 (some 55) _ rfl rfl (by kernel_rfl) (by kernel_rfl) (by kernel_rfl) (fun _ _ _ h => h) (by rfl) hH ?hy146 ?rest146
  case hy146 =>
    intro X hX
    go_simp
    try rfl
  simp only [Act.put, List.setIfInBounds_toArray, List.set_cons_zero, List.set_cons_succ]
  refine' hw_take 7 (some 56) _ rfl rfl (by kernel_rfl) (by kernel_rfl) (by kernel_rfl) (fun _ _ _ h => h) (by rfl) hH ?hy147 ?rest147
  case hy147 =>
    intro X hX
    go_simp
    try rfl
  simp only [Act.put, List.setIfInBounds_toArray, List.set_cons_zero, List.set_cons_succ]
  refine' hw_take 8 (some 57) _ rfl rfl (by kernel_rfl) (by kernel_rfl) (by kernel_rfl) (fun _ _ _ h => h) (by rfl) hH ?hy148 ?rest148
  case hy148 =>
    intro X hX
    have cX := (hM1.turn hX hMn).cells
    go_simp
    try rfl
  simp only [Act.put, List.setIfInBounds_toArray, List.set_cons_zero, List.set_cons_succ]
  refine hw_call 9 (some 58) rfl rfl (by kernel_rfl) (by rfl) (fun K hK => ?_)
  go_simp
  refine (take_full e1 k1 p1 x m d xs o B lo id up ro ep su ma ot co A n c V1 wb _ (hb1.new ((New.refl _).drew)) HN1.out HO1.out hc).mono ?_
  rintro e w2 ⟨rfl, hn2⟩
  go_simp
  refine hK.out _ _ (Turn.trans hH hn2 (fun _ _ f => f.elim)) (fun hH2 => ?_)
  simp only [Act.put, List.setIfInBounds_toArray, List.set_cons_zero, List.set_cons_succ]
  refine' hw_take 10 (some 6) _ rfl rfl (by kernel_rfl) (by kernel_rfl) (by kernel_rfl) (fun _ _ _ h => h) (by rfl) hH2 ?hy149 ?rest149
  case hy149 =>
    intro X hX
    go_simp
    try rfl
  simp only [Act.put, List.setIfInBounds_toArray, List.set_cons_zero, List.set_cons_succ]
  refine wpAnyH_done (by kernel_rfl) ?_ _
  have bR2 := (bR1.new ((New.refl _).drew)).new hn2
  have tw2 := Turn.trans tw1 (((New.refl _).drew).trans hn2) (fun _ _ f => f.elim)
  have z12 : w1.heap.size ≤ w2.heap.size := hn2.size
  have z01 : w.heap.size ≤ w1.heap.size := hw1.size
  clear hH hH2 cM
  have c1 := (bR2).cells
  have f1 := (bR2).frees
  go_wp2
  refine bodyPost_ret (v := .agg #[.int .i64 2, .int .i64 0, .bool false, .int .i64 0, .int .i64 0, .slice none 0 0, .int .i64 0, .int .i64 0, .int .i64 0, .int .i64 0, .slice none 0 0]) (by simp [results, Try.results29, go_sem, c1]) rfl (haAns_bad 2 ?z ?t)
  case z => exact Nat.le_trans (by omega) (Turn.size (S := fun i => i = w.heap.size) (set11 (S := fun i => i = w.heap.size) w2 w.heap.size rfl _ _ _ _ _ _ _ _ _ _ _))
  case t => exact Turn.trans (S := fun i => i = B ∨ (Value.slice A n c).ownBlock = some i) (T := fun i => i = w.heap.size) tw2 (set11 (S := fun i => i = w.heap.size) w2 w.heap.size rfl _ _ _ _ _ _ _ _ _ _ _) (fun i hi e => by omega)

end Go.Proofs.Ythnigcalboobgaa

namespace Go.Proofs.Ythnigcalboobgaa
open Go.ChangeShapes Go.WideShapes Go.ChangeAt Go.RowKit
set_option linter.unusedVariables false
set_option linter.unusedSimpArgs false
set_option maxRecDepth 100000

set_option maxHeartbeats 3200000 in
theorem ha_same (B MB lo o : Nat) (id : Int) (up : Bool) (ro ep su ma ot co : Int) (A : Option Addr) (n c : Nat) (V1 : List EkV) (kd tgt me pr : Int) (e1 k1 p1 : Int) (x : Option Addr) (m d : Nat) (xs : List Int) (wb w : World) (hb : Blk w B 36 #[.int .i64 id, .bool up, .int .i64 ro, .int .i64 ep, .slice A n c, .int .i64 su, .int .i64 ma, .int .i64 ot, .int .i64 co]) (hM : Blk w MB 46 #[.int .i64 kd, .int .i64 tgt, .int .i64 me, .int .i64 (o : Int), .int .i64 pr, .bool true, .int .i64 e1, .int .i64 k1, .int .i64 p1, .slice x m d]) (hoL0 : OwL w lo w.heap.size (.slice A n c) V1) (hlo0 : lo ≤ w.heap.size) (hMlo : MB < lo) (hlB : lo ≤ B) (hid : id = 0 ∨ id = 1) (hn : n ≤ 100) (hr : ¬ ro = 1) (ho : o ≤ n) (hq : prevE (V1.map EkV.r) o = pr) (hma : 0 ≤ ma ∧ ma ≤ n) (ho1 : o < n) (he : prevE (V1.map EkV.r) (o + 1) = e1) :
    Calls Try.prog 29 #[.pointer (some ⟨B, 0, none⟩), .pointer (some ⟨MB, 0, none⟩)] w (HaAns w lo B A n c (⟨0, id, up, ro, ep, su, max ma (o + 1), ot, co, V1.map EkV.r, [tkM id ep (min (max ma (o + 1)) su)]⟩)) := by
  have hd1 : decide ((n : Int) < (o : Int)) = false := by simp; omega
  have hd2 : (pr != pr) = false := by simp
  have HQ : Hid (prevE (V1.map EkV.r) o = pr) := hq
  clear hq
  have hMn : ¬ (MB = B ∨ (Value.slice A n c).ownBlock = some MB) := by
    rintro (e | e)
    · omega
    · obtain ⟨y, d0, -, -, hrr⟩ := row9_form hoL0.row
      have := (hrr MB e).1
      omega
  have HTG : Hid ((if (n : Int) < (if ma < ((o : Int) + 1) then ((o : Int) + 1) else ma) then (n : Int) else (if ma < ((o : Int) + 1) then ((o : Int) + 1) else ma)) = (max ma ((o : Int) + 1))) := by unfold Hid; split <;> split <;> omega
  have HL : Hid (V1.length = n) := hoL0.lg.2
  have hw := (New.refl w).alloc (.cells #[.int .i64 0, .int .i64 0, .bool false, .int .i64 0, .int .i64 0, .slice none 0 0, .int .i64 0, .int .i64 0, .int .i64 0, .int .i64 0, .slice none 0 0] 39)
  have bR := Blk.mk w w.heap.size 39 #[.int .i64 0, .int .i64 0, .bool false, .int .i64 0, .int .i64 0, .slice none 0 0, .int .i64 0, .int .i64 0, .int .i64 0, .int .i64 0, .slice none 0 0] rfl
  have hb0 := hb.new hw
  have hM0 := hM.new hw
  have hoL := (hoL0.new hw).up hw.size
  have hlt := hb.lt
  have hMt := hM.lt
  have s0 : Hid ((w.alloc (.cells #[.int .i64 0, .int .i64 0, .bool false, .int .i64 0, .int .i64 0, .slice none 0 0, .int .i64 0, .int .i64 0, .int .i64 0, .int .i64 0, .slice none 0 0] 39)).heap.size = w.heap.size + 1) := by unfold Hid; simp
  go_enter Try.func29, Try.ntmps29
  go_upto_region 1 with fail
  generalize w.alloc (.cells #[.int .i64 0, .int .i64 0, .bool false, .int .i64 0, .int .i64 0, .slice none 0 0, .int .i64 0, .int .i64 0, .int .i64 0, .int .i64 0, .slice none 0 0] 39) = w0 at *
  have S0 := s0.out
  go_wp2_with fail
  refine (active_no B id up ro ep su ma ot co A n c _ hb0 hr).mono ?_
  rintro e wz ⟨rfl, hwz⟩
  obtain rfl := hwz.symm
  go_upto_region 3 with fail
  refine hw_start (n := 20) (S := fun X => New w0 X) rfl (by kernel_rfl) ((New.refl _).drew) (fun hH => ?_)
  refine' hw_take 0 (some 10) _ rfl rfl (by kernel_rfl) (by kernel_rfl) (by kernel_rfl) (fun _ _ _ h => h) (by rfl) hH ?hy150 ?rest150
  case hy150 =>
    intro X hX
    go_simp
    try rfl
  simp only [Act.put, List.setIfInBounds_toArray, List.set_cons_zero, List.set_cons_succ]
  refine' hw_take 1 (some 11) _ rfl rfl (by kernel_rfl) (by kernel_rfl) (by kernel_rfl) (fun _ _ _ h => h) (by rfl) hH ?hy151 ?rest151
  case hy151 =>
    intro X hX
    go_simp
    try rfl
  simp only [Act.put, List.setIfInBounds_toArray, List.set_cons_zero, List.set_cons_succ]
  refine' hw_take 2 (some 12) _ rfl rfl (by kernel_rfl) (by kernel_rfl) (by kernel_rfl) (fun _ _ _ h => h) (by rfl) hH ?hy152 ?rest152
  case hy152 =>
    intro X hX
    go_simp
    try rfl
  simp only [Act.put, List.setIfInBounds_toArray, List.set_cons_zero, List.set_cons_succ]
  refine' hw_take 3 (some 13) _ rfl rfl (by kernel_rfl) (by kernel_rfl) (by kernel_rfl) (fun _ _ _ h => h) (by rfl) hH ?hy153 ?rest153
  case hy153 =>
    intro X hX
    have cX := (hM0.new hX).cells
    go_simp
    try rfl
  simp only [Act.put, List.setIfInBounds_toArray, List.set_cons_zero, List.set_cons_succ]
  refine' hw_take 4 (some 14) _ rfl rfl (by kernel_rfl) (by kernel_rfl) (by kernel_rfl) (fun _ _ _ h => h) (by rfl) hH ?hy154 ?rest154
  case hy154 =>
    intro X hX
    go_simp
    try rfl
  simp only [Act.put, List.setIfInBounds_toArray, List.set_cons_zero, List.set_cons_succ]
  refine hw_call 5 (some 15) rfl rfl (by kernel_rfl) (by rfl) (fun K hK => ?_)
  go_simp
  refine (count_any B id up ro ep su ma ot co A n c _ (hb0.new hH)).mono ?_
  rintro e wz ⟨rfl, hwz⟩
  subst hwz
  go_simp
  refine hK.out _ _ ((New.refl _).drew) (fun hH2 => ?_)
  simp only [Act.put, List.setIfInBounds_toArray, List.set_cons_zero, List.set_cons_succ]
  refine' hw_take 6 (some 16) (.bool false) rfl rfl (by kernel_rfl) (by kernel_rfl) (by kernel_rfl) (fun _ _ _ h => h) (by rfl) hH2 ?hyL6 ?restL6
  case hyL6 =>
    intro X hX
    go_simp
    try rfl
  simp only [Act.put, List.setIfInBounds_toArray, List.set_cons_zero, List.set_cons_succ]
  refine' hw_take 7 (some 17) _ rfl rfl (by kernel_rfl) (by kernel_rfl) (by kernel_rfl) (fun _ _ _ h => h) (by rfl) hH2 ?hy155 ?rest155
  case hy155 =>
    intro X hX
    go_simp
    try rfl
  simp only [Act.put, List.setIfInBounds_toArray, List.set_cons_zero, List.set_cons_succ]
  refine' hw_take 8 (some 18) _ rfl rfl (by kernel_rfl) (by kernel_rfl) (by kernel_rfl) (fun _ _ _ h => h) (by rfl) hH2 ?hy156 ?rest156
  case hy156 =>
    intro X hX
    go_simp
    try rfl
  simp only [Act.put, List.setIfInBounds_toArray, List.set_cons_zero, List.set_cons_succ]
  refine' hw_take 9 (some 19) _ rfl rfl (by kernel_rfl) (by kernel_rfl) (by kernel_rfl) (fun _ _ _ h => h) (by rfl) hH2 ?hy157 ?rest157
  case hy157 =>
    intro X hX
    go_simp
    try rfl
  simp only [Act.put, List.setIfInBounds_toArray, List.set_cons_zero, List.set_cons_succ]
  refine' hw_take 10 (some 20) _ rfl rfl (by kernel_rfl) (by kernel_rfl) (by kernel_rfl) (fun _ _ _ h => h) (by rfl) hH2 ?hy158 ?rest158
  case hy158 =>
    intro X hX
    go_simp
    try rfl
  simp only [Act.put, List.setIfInBounds_toArray, List.set_cons_zero, List.set_cons_succ]
  refine' hw_take 11 (some 21) _ rfl rfl (by kernel_rfl) (by kernel_rfl) (by kernel_rfl) (fun _ _ _ h => h) (by rfl) hH2 ?hy159 ?rest159
  case hy159 =>
    intro X hX
    go_simp
    try rfl
  simp only [Act.put, List.setIfInBounds_toArray, List.set_cons_zero, List.set_cons_succ]
  refine' hw_take 12 (some 22) _ rfl rfl (by kernel_rfl) (by kernel_rfl) (by kernel_rfl) (fun _ _ _ h => h) (by rfl) hH2 ?hy160 ?rest160
  case hy160 =>
    intro X hX
    have cX := (hM0.new hX).cells
    go_simp
    try rfl
  simp only [Act.put, List.setIfInBounds_toArray, List.set_cons_zero, List.set_cons_succ]
  refine' hw_take 14 (some 24) _ rfl rfl (by kernel_rfl) (by kernel_rfl) (by kernel_rfl) (fun _ _ _ h => h) (by rfl) hH2 ?hy161 ?rest161
  case hy161 =>
    intro X hX
    go_simp
    try rfl
  simp only [Act.put, List.setIfInBounds_toArray, List.set_cons_zero, List.set_cons_succ]
  refine' hw_take 15 (some 25) _ rfl rfl (by kernel_rfl) (by kernel_rfl) (by kernel_rfl) (fun _ _ _ h => h) (by rfl) hH2 ?hy162 ?rest162
  case hy162 =>
    intro X hX
    go_simp
    try rfl
  simp only [Act.put, List.setIfInBounds_toArray, List.set_cons_zero, List.set_cons_succ]
  refine' hw_take 16 (some 26) _ rfl rfl (by kernel_rfl) (by kernel_rfl) (by kernel_rfl) (fun _ _ _ h => h) (by rfl) hH2 ?hy163 ?rest163
  case hy163 =>
    intro X hX
    go_simp
    try rfl
  simp only [Act.put, List.setIfInBounds_toArray, List.set_cons_zero, List.set_cons_succ]
  refine' hw_take 17 (some 27) _ rfl rfl (by kernel_rfl) (by kernel_rfl) (by kernel_rfl) (fun _ _ _ h => h) (by rfl) hH2 ?hy164 ?rest164
  case hy164 =>
    intro X hX
    have cX := (hM0.new hX).cells
    go_simp
    try rfl
  simp only [Act.put, List.setIfInBounds_toArray, List.set_cons_zero, List.set_cons_succ]
  refine hw_call 13 (some 23) rfl rfl (by kernel_rfl) (by rfl) (fun K hK => ?_)
  go_simp
  refine (eahead_any o B id up ro ep su ma ot co A n c V1 _ (hb0.new hH2) (hoL.lg.1.new hH2) HL.out (by omega) ho).mono ?_
  rintro e wz ⟨rfl, hwz⟩
  subst hwz
  rw [HQ.out]
  go_simp
  refine hK.out _ _ ((New.refl _).drew) (fun hH3 => ?_)
  simp only [Act.put, List.setIfInBounds_toArray, List.set_cons_zero, List.set_cons_succ]
  refine' hw_take 18 (some 28) (.bool false) rfl rfl (by kernel_rfl) (by kernel_rfl) (by kernel_rfl) (fun _ _ _ h => h) (by rfl) hH3 ?hyL18 ?restL18
  case hyL18 =>
    intro X hX
    go_simp
    try rfl
  simp only [Act.put, List.setIfInBounds_toArray, List.set_cons_zero, List.set_cons_succ]
  refine' hw_take 19 (some 29) _ rfl rfl (by kernel_rfl) (by kernel_rfl) (by kernel_rfl) (fun _ _ _ h => h) (by rfl) hH3 ?hy165 ?rest165
  case hy165 =>
    intro X hX
    go_simp
    try rfl
  simp only [Act.put, List.setIfInBounds_toArray, List.set_cons_zero, List.set_cons_succ]
  refine wpAnyH_done (by kernel_rfl) ?_ _
  have hb1 := hb0.new hH3
  have hM1 := hM0.new hH3
  have hoL1 := hoL.new hH3
  have bR1 := bR.new hH3
  have hw1 := hw.trans hH3
  have HZ : Hid (w0.drew.heap.size = w0.heap.size) := rfl
  have zw1 : w0.heap.size ≤ w0.drew.heap.size := Nat.le_refl _
  clear hH hH2 hH3
  generalize w0.drew = w1 at *
  have tw1 : Turn (fun i => i = B ∨ (Value.slice A n c).ownBlock = some i) w w1 := hw1.turn
  have cM := hM1.cells
  go_upto_region 7 with fail
  refine hw_start (n := 11) (S := fun X => Turn (fun i => i = B ∨ (Value.slice A n c).ownBlock = some i) w1 X) rfl (by kernel_rfl) (((New.refl _).drew).turn) (fun hH => ?_)
  refine' hw_take 0 (some 49) _ rfl rfl (by kernel_rfl) (by kernel_rfl) (by kernel_rfl) (fun _ _ _ h => h) (by rfl) hH ?hy166 ?rest166
  case hy166 =>
    intro X hX
    go_simp
    try rfl
  simp only [Act.put, List.setIfInBounds_toArray, List.set_cons_zero, List.set_cons_succ]
  refine' hw_take 1 (some 50) _ rfl rfl (by kernel_rfl) (by kernel_rfl) (by kernel_rfl) (fun _ _ _ h => h) (by rfl) hH ?hy167 ?rest167
  case hy167 =>
    intro X hX
    go_simp
    try rfl
  simp only [Act.put, List.setIfInBounds_toArray, List.set_cons_zero, List.set_cons_succ]
  refine' hw_take 2 (some 51) _ rfl rfl (by kernel_rfl) (by kernel_rfl) (by kernel_rfl) (fun _ _ _ h => h) (by rfl) hH ?hy168 ?rest168
  case hy168 =>
    intro X hX
    go_simp
    try rfl
  simp only [Act.put, List.setIfInBounds_toArray, List.set_cons_zero, List.set_cons_succ]
  refine' hw_take 3 (some 52) _ rfl rfl (by kernel_rfl) (by kernel_rfl) (by kernel_rfl) (fun _ _ _ h => h) (by rfl) hH ?hy169 ?rest169
  case hy169 =>
    intro X hX
    go_simp
    try rfl
  simp only [Act.put, List.setIfInBounds_toArray, List.set_cons_zero, List.set_cons_succ]
  refine' hw_take 4 (some 53) (.agg #[.int .i64 e1, .int .i64 k1, .int .i64 p1, .slice x m d]) rfl rfl (by kernel_rfl) (by kernel_rfl) (by kernel_rfl) (fun _ _ _ h => h) (by rfl) hH ?hyE ?restE
  case hyE =>
    intro X hX
    have cX := (hM1.turn hX hMn).cells
    go_simp
    try rfl
  simp only [Act.put, List.setIfInBounds_toArray, List.set_cons_zero, List.set_cons_succ]
  refine' hw_take 5 (some 54) _ rfl rfl (by kernel_rfl) (by kernel_rfl) (by kernel_rfl) (fun _ _ _ h => h) (by rfl) hH ?hy170 ?rest170
  case hy170 =>
    intro X hX
    go_simp
    try rfl
  simp only [Act.put, List.setIfInBounds_toArray, List.set_cons_zero, List.set_cons_succ]
  refine' hw_take 6 (some 55) _ rfl rfl (by kernel_rfl) (by kernel_rfl) (by kernel_rfl) (fun _ _ _ h => h) (by rfl) hH ?hy171 ?rest171
  case hy171 =>
    intro X hX
    go_simp
    try rfl
  simp only [Act.put, List.setIfInBounds_toArray, List.set_cons_zero, List.set_cons_succ]
  refine' hw_take 7 (some 56) _ rfl rfl (by kernel_rfl) (by kernel_rfl) (by kernel_rfl) (fun _ _ _ h => h) (by rfl) hH ?hy172 ?rest172
  case hy172 =>
    intro X hX
    go_simp
    try rfl
  simp only [Act.put, List.setIfInBounds_toArray, List.set_cons_zero, List.set_cons_succ]
  refine' hw_take 8 (some 57) _ rfl rfl (by kernel_rfl) (by kernel_rfl) (by kernel_rfl) (fun _ _ _ h => h) (by rfl) hH ?hy173 ?rest173
  case hy173 =>
    intro X hX
    have cX := (hM1.turn hX hMn).cells
    go_simp
    try rfl
  simp only [Act.put, List.setIfInBounds_toArray, List.set_cons_zero, List.set_cons_succ]
  refine hw_call 9 (some 58) rfl rfl (by kernel_rfl) (by rfl) (fun K hK => ?_)
  go_simp
  refine (take_same e1 k1 p1 x m d o B id up ro ep su ma ot co A n c V1 _ (hb1.new ((New.refl _).drew)) ((hoL1.new ((New.refl _).drew)).lg.1) HL.out (by omega) ho1 he).mono ?_
  rintro e w2 ⟨rfl, hn2⟩
  go_simp
  refine hK.out _ _ (Turn.trans hH hn2 (fun _ _ f => f.elim)) (fun hH2 => ?_)
  simp only [Act.put, List.setIfInBounds_toArray, List.set_cons_zero, List.set_cons_succ]
  refine' hw_take 10 (some 6) _ rfl rfl (by kernel_rfl) (by kernel_rfl) (by kernel_rfl) (fun _ _ _ h => h) (by rfl) hH2 ?hy174 ?rest174
  case hy174 =>
    intro X hX
    go_simp
    try rfl
  simp only [Act.put, List.setIfInBounds_toArray, List.set_cons_zero, List.set_cons_succ]
  refine wpAnyH_done (by kernel_rfl) ?_ _
  have hb2 := (hb1.new ((New.refl _).drew)).new hn2
  have bR2 := (bR1.new ((New.refl _).drew)).new hn2
  have hoL2 := (hoL1.new ((New.refl _).drew)).new hn2
  have tw2 := Turn.trans tw1 (((New.refl _).drew).trans hn2) (fun _ _ f => f.elim)
  have z12 : w1.heap.size ≤ w2.heap.size := hn2.size
  have z01 : w.heap.size ≤ w1.heap.size := hw1.size
  clear hH hH2 cM
  go_upto_region 11 with fail
  have bBd := hb2.new ((New.refl _).drew)
  have cD := bBd.cells
  have fD := bBd.frees
  refine hw_start (n := 13) (S := fun _ => True) rfl (by kernel_rfl) (trivial) (fun hH => ?_)
  refine' hw_take 0 (some 65) _ rfl rfl (by kernel_rfl) (by kernel_rfl) (by kernel_rfl) (fun _ _ _ h => h) (by rfl) hH ?hy175 ?rest175
  case hy175 =>
    intro X hX
    go_simp
    try rfl
  simp only [Act.put, List.setIfInBounds_toArray, List.set_cons_zero, List.set_cons_succ]
  refine' hw_take 1 (some 66) _ rfl rfl (by kernel_rfl) (by kernel_rfl) (by kernel_rfl) (fun _ _ _ h => h) (by rfl) hH ?hy176 ?rest176
  case hy176 =>
    intro X hX
    go_simp
    try rfl
  simp only [Act.put, List.setIfInBounds_toArray, List.set_cons_zero, List.set_cons_succ]
  refine' hw_take 2 (some 67) _ rfl rfl (by kernel_rfl) (by kernel_rfl) (by kernel_rfl) (fun _ _ _ h => h) (by rfl) hH ?hy177 ?rest177
  case hy177 =>
    intro X hX
    go_simp
    try rfl
  simp only [Act.put, List.setIfInBounds_toArray, List.set_cons_zero, List.set_cons_succ]
  refine' hw_take 3 (some 68) _ rfl rfl (by kernel_rfl) (by kernel_rfl) (by kernel_rfl) (fun _ _ _ h => h) (by rfl) hH ?hy178 ?rest178
  case hy178 =>
    intro X hX
    go_simp
    try rfl
  simp only [Act.put, List.setIfInBounds_toArray, List.set_cons_zero, List.set_cons_succ]
  refine' hw_take 5 (some 70) _ rfl rfl (by kernel_rfl) (by kernel_rfl) (by kernel_rfl) (fun _ _ _ h => h) (by rfl) hH ?hy179 ?rest179
  case hy179 =>
    intro X hX
    go_simp
    try rfl
  simp only [Act.put, List.setIfInBounds_toArray, List.set_cons_zero, List.set_cons_succ]
  refine' hw_take 7 (some 72) _ rfl rfl (by kernel_rfl) (by kernel_rfl) (by kernel_rfl) (fun _ _ _ h => h) (by rfl) hH ?hy180 ?rest180
  case hy180 =>
    intro X hX
    go_simp
    try rfl
  simp only [Act.put, List.setIfInBounds_toArray, List.set_cons_zero, List.set_cons_succ]
  refine wpAnyH_ready (rs := [4, 8]) (by kernel_rfl) (by simp) ?_
  refine hw_step 4 (some 69) rfl rfl (by rfl) (fun K hK => ?_) ?_
  · skip
    go_simp
    refine hK.out _ _ trivial (fun hH1 => ?_)
    simp only [Act.put, List.setIfInBounds_toArray, List.set_cons_zero, List.set_cons_succ]
    refine' hw_take 6 (some 71) _ rfl rfl (by kernel_rfl) (by kernel_rfl) (by kernel_rfl) (fun _ _ _ h => h) (by rfl) hH ?hy181 ?rest181
    case hy181 =>
      intro X hX
      go_simp
      try rfl
    simp only [Act.put, List.setIfInBounds_toArray, List.set_cons_zero, List.set_cons_succ]
    refine hw_call 8 (some 73) rfl rfl (by kernel_rfl) (by rfl) (fun K hK => ?_)
    go_simp
    refine (count_any B id up ro ep su ma ot co A n c _ bBd).mono ?_
    rintro e wz ⟨rfl, hwz⟩
    subst hwz
    go_simp
    refine hK.out _ _ trivial (fun hH2 => ?_)
    simp only [Act.put, List.setIfInBounds_toArray, List.set_cons_zero, List.set_cons_succ]
    refine' hw_take 9 (some 74) _ rfl rfl (by kernel_rfl) (by kernel_rfl) (by kernel_rfl) (fun _ _ _ h => h) (by rfl) hH ?hy182 ?rest182
    case hy182 =>
      intro X hX
      go_simp
      try rfl
    simp only [Act.put, List.setIfInBounds_toArray, List.set_cons_zero, List.set_cons_succ]
    refine' hw_take 10 (some 75) _ rfl rfl (by kernel_rfl) (by kernel_rfl) (by kernel_rfl) (fun _ _ _ h => h) (by rfl) hH ?hy183 ?rest183
    case hy183 =>
      intro X hX
      go_simp
      try rfl
    simp only [Act.put, List.setIfInBounds_toArray, List.set_cons_zero, List.set_cons_succ]
    refine' hw_take 11 (some 76) _ rfl rfl (by kernel_rfl) (by kernel_rfl) (by kernel_rfl) (fun _ _ _ h => h) (by rfl) hH ?hy184 ?rest184
    case hy184 =>
      intro X hX
      go_simp
      try rfl
    simp only [Act.put, List.setIfInBounds_toArray, List.set_cons_zero, List.set_cons_succ]
    refine hw_call 12 none rfl rfl (by kernel_rfl) (by rfl) (fun K hK => ?_)
    go_simp
    refine hK.out undef _ trivial (fun hS2 => ?_)
    refine wpAnyH_done (by kernel_rfl) ?_ _
    rw [HTG.out]
    have bE := bBd.set 6 (.int .i64 (max ma ((o : Int) + 1)))
    have tE := (((New.refl w2).drew.turn (S := fun i => i = B))).set (p := ⟨B, 6, none⟩) rfl (.int .i64 (max ma ((o : Int) + 1)))
    have HW : w2.drew.setCell ⟨B, 6, none⟩ (.int .i64 (max ma ((o : Int) + 1))) = (w2.setCell ⟨B, 6, none⟩ (.int .i64 (max ma ((o : Int) + 1)))).drew := rfl
    rw [HW] at bE tE
    have hoE := hoL2.turnB hb2 (by decide) (by decide) tE
    have bRE := bR2.turn tE (by omega)
    have tAE := Turn.trans tw2 tE (fun i _ e => .inl e)
    have zE := tE.size
    have hoE2 := hoE.up (Nat.le_trans (by omega) zE)
    clear cD fD
    clear HW
    generalize (w2.setCell ⟨B, 6, none⟩ (.int .i64 (max ma ((o : Int) + 1)))).drew = wE at *
    go_upto_region 12 with fail
    refine hw_start (n := 17) (S := fun X => Turn (fun i => i = w.heap.size) wE X) rfl (by kernel_rfl) (((New.refl _).drew).turn) (fun hH => ?_)
    refine' hw_take 0 (some 77) _ rfl rfl (by kernel_rfl) (by kernel_rfl) (by kernel_rfl) (fun _ _ _ h => h) (by rfl) hH ?hy185 ?rest185
    case hy185 =>
      intro X hX
      go_simp
      try rfl
    simp only [Act.put, List.setIfInBounds_toArray, List.set_cons_zero, List.set_cons_succ]
    refine' hw_take 1 (some 78) _ rfl rfl (by kernel_rfl) (by kernel_rfl) (by kernel_rfl) (fun _ _ _ h => h) (by rfl) hH ?hy186 ?rest186
    case hy186 =>
      intro X hX
      go_simp
      try rfl
    simp only [Act.put, List.setIfInBounds_toArray, List.set_cons_zero, List.set_cons_succ]
    refine' hw_take 2 (some 79) (.agg #[.int .i64 id, .bool up, .int .i64 ro, .int .i64 ep, .slice A n c, .int .i64 su, .int .i64 (max ma ((o : Int) + 1)), .int .i64 ot, .int .i64 co]) rfl rfl (by kernel_rfl) (by kernel_rfl) (by kernel_rfl) (fun _ _ _ h => h) (by rfl) hH ?hyA12x187 ?restA12x187
    case hyA12x187 =>
      intro X hX
      exact run_load_blk 36 (.tmp 78) rfl B rfl #[.int .i64 id, .bool up, .int .i64 ro, .int .i64 ep, .slice A n c, .int .i64 su, .int .i64 (max ma ((o : Int) + 1)), .int .i64 ot, .int .i64 co] _ (bE.turn hX (by omega)) Try.underlying36 rfl (by kernel_rfl)
    simp only [Act.put, List.setIfInBounds_toArray, List.set_cons_zero, List.set_cons_succ]
    refine' hw_take 3 (some 80) _ rfl rfl (by kernel_rfl) (by kernel_rfl) (by kernel_rfl) (fun _ _ _ h => h) (by rfl) hH ?hy188 ?rest188
    case hy188 =>
      intro X hX
      go_simp
      try rfl
    simp only [Act.put, List.setIfInBounds_toArray, List.set_cons_zero, List.set_cons_succ]
    refine' hw_take 4 (some 81) _ rfl rfl (by kernel_rfl) (by kernel_rfl) (by kernel_rfl) (fun _ _ _ h => h) (by rfl) hH ?hy189 ?rest189
    case hy189 =>
      intro X hX
      go_simp
      try rfl
    simp only [Act.put, List.setIfInBounds_toArray, List.set_cons_zero, List.set_cons_succ]
    refine' hw_take 5 (some 82) _ rfl rfl (by kernel_rfl) (by kernel_rfl) (by kernel_rfl) (fun _ _ _ h => h) (by rfl) hH ?hy190 ?rest190
    case hy190 =>
      intro X hX
      go_simp
      try rfl
    simp only [Act.put, List.setIfInBounds_toArray, List.set_cons_zero, List.set_cons_succ]
    refine' hw_take 6 (some 83) _ rfl rfl (by kernel_rfl) (by kernel_rfl) (by kernel_rfl) (fun _ _ _ h => h) (by rfl) hH ?hy191 ?rest191
    case hy191 =>
      intro X hX
      go_simp
      try rfl
    simp only [Act.put, List.setIfInBounds_toArray, List.set_cons_zero, List.set_cons_succ]
    refine' hw_take 7 (some 84) _ rfl rfl (by kernel_rfl) (by kernel_rfl) (by kernel_rfl) (fun _ _ _ h => h) (by rfl) hH ?hy192 ?rest192
    case hy192 =>
      intro X hX
      have cX := (bE.turn hX (by omega)).cells
      go_simp
      try rfl
    simp only [Act.put, List.setIfInBounds_toArray, List.set_cons_zero, List.set_cons_succ]
    refine' hw_take 8 (some 85) _ rfl rfl (by kernel_rfl) (by kernel_rfl) (by kernel_rfl) (fun _ _ _ h => h) (by rfl) hH ?hy193 ?rest193
    case hy193 =>
      intro X hX
      go_simp
      try rfl
    simp only [Act.put, List.setIfInBounds_toArray, List.set_cons_zero, List.set_cons_succ]
    refine' hw_take 9 (some 86) _ rfl rfl (by kernel_rfl) (by kernel_rfl) (by kernel_rfl) (fun _ _ _ h => h) (by rfl) hH ?hy194 ?rest194
    case hy194 =>
      intro X hX
      go_simp
      try rfl
    simp only [Act.put, List.setIfInBounds_toArray, List.set_cons_zero, List.set_cons_succ]
    refine' hw_take 10 (some 87) _ rfl rfl (by kernel_rfl) (by kernel_rfl) (by kernel_rfl) (fun _ _ _ h => h) (by rfl) hH ?hy195 ?rest195
    case hy195 =>
      intro X hX
      go_simp
      try rfl
    simp only [Act.put, List.setIfInBounds_toArray, List.set_cons_zero, List.set_cons_succ]
    refine' hw_take 11 (some 88) _ rfl rfl (by kernel_rfl) (by kernel_rfl) (by kernel_rfl) (fun _ _ _ h => h) (by rfl) hH ?hy196 ?rest196
    case hy196 =>
      intro X hX
      have cX := (bE.turn hX (by omega)).cells
      go_simp
      try rfl
    simp only [Act.put, List.setIfInBounds_toArray, List.set_cons_zero, List.set_cons_succ]
    refine' hw_take 12 (some 89) _ rfl rfl (by kernel_rfl) (by kernel_rfl) (by kernel_rfl) (fun _ _ _ h => h) (by rfl) hH ?hy197 ?rest197
    case hy197 =>
      intro X hX
      go_simp
      try rfl
    simp only [Act.put, List.setIfInBounds_toArray, List.set_cons_zero, List.set_cons_succ]
    have HMN : (if su < (max ma ((o : Int) + 1)) then su else (max ma ((o : Int) + 1))) = (min (max ma ((o : Int) + 1)) su) := by split <;> omega
    rw [HMN]
    refine hw_call 13 (some 90) rfl rfl (by kernel_rfl) (by rfl) (fun K hK => ?_)
    go_simp
    refine (mailAt_any 2 (min (max ma ((o : Int) + 1)) su) B id up ro ep su (max ma ((o : Int) + 1)) ot co A n c _ (bE.turn hH (by omega)) hid).mono ?_
    rintro e w5 ⟨rfl, hn5⟩
    have t45 := Turn.trans hH hn5 (fun i _ f => f.elim)
    go_simp
    refine hK.out _ _ t45 (fun hH5 => ?_)
    simp only [Act.put, List.setIfInBounds_toArray, List.set_cons_zero, List.set_cons_succ]
    refine hw_call 14 (some 91) rfl rfl (by kernel_rfl) (by rfl) (fun K hK => ?_)
    go_simp
    have al6 := (New.refl w5).alloc (.cells #[.int .i64 2, .int .i64 (1 - id), .int .i64 ep, .int .i64 (min (max ma ((o : Int) + 1)) su), .int .i64 0, .bool false, .int .i64 0, .int .i64 0, .int .i64 0, .slice none 0 0] 46)
    have bM := Blk.mk w5 w5.heap.size 46 #[.int .i64 2, .int .i64 (1 - id), .int .i64 ep, .int .i64 (min (max ma ((o : Int) + 1)) su), .int .i64 0, .bool false, .int .i64 0, .int .i64 0, .int .i64 0, .slice none 0 0] rfl
    have t46 := Turn.trans t45 al6 (fun i _ f => f.elim)
    refine hK.out _ _ t46 (fun hH6 => ?_)
    simp only [Act.put, List.setIfInBounds_toArray, List.set_cons_zero, List.set_cons_succ]
    refine' hw_take 15 (some 92) _ rfl rfl (by kernel_rfl) (by kernel_rfl) (by kernel_rfl) (fun _ _ _ h => h) (by rfl) hH6 ?hy198 ?rest198
    case hy198 =>
      intro X hX
      go_simp
      try rfl
    simp only [Act.put, List.setIfInBounds_toArray, List.set_cons_zero, List.set_cons_succ]
    refine hw_call 16 none rfl rfl (by kernel_rfl) (by rfl) (fun K hK => ?_)
    have b16 : Blk (w5.alloc (.cells #[.int .i64 2, .int .i64 (1 - id), .int .i64 ep, .int .i64 (min (max ma ((o : Int) + 1)) su), .int .i64 0, .bool false, .int .i64 0, .int .i64 0, .int .i64 0, .slice none 0 0] 46)) w.heap.size 39 #[.int .i64 0, .int .i64 0, .bool false, .int .i64 0, .int .i64 0, .slice none 0 0, .int .i64 0, .int .i64 0, .int .i64 0, .int .i64 0, .slice none 0 0] := ((bRE.new ((New.refl _).drew)).new hn5).new al6
    have ho6 := ((hoE2.new ((New.refl _).drew)).new hn5).new al6
    have tA6 := Turn.trans tAE ((((New.refl _).drew).trans hn5).trans al6) (fun i _ f => f.elim)
    have z45 : wE.heap.size ≤ w5.heap.size := hn5.size
    have z6 := al6.size
    have zA : w.heap.size ≤ wE.heap.size := Turn.size tAE
    have l5 : w5.heap.size < (w5.alloc (.cells #[.int .i64 2, .int .i64 (1 - id), .int .i64 ep, .int .i64 (min (max ma ((o : Int) + 1)) su), .int .i64 0, .bool false, .int .i64 0, .int .i64 0, .int .i64 0, .slice none 0 0] 46)).heap.size := bM.lt
    have lR : w.heap.size < wE.heap.size := bRE.lt
    refine hw_store 39 (.tmp 4) (.tmp 92) rfl rfl w.heap.size #[.int .i64 0, .int .i64 id, .bool up, .int .i64 ro, .int .i64 ep, .slice A n c, .int .i64 su, .int .i64 (max ma ((o : Int) + 1)), .int .i64 ot, .int .i64 co, .slice (some ⟨w5.heap.size, 0, none⟩) 1 1] #[.int .i64 0, .int .i64 0, .bool false, .int .i64 0, .int .i64 0, .slice none 0 0, .int .i64 0, .int .i64 0, .int .i64 0, .int .i64 0, .slice none 0 0] rfl rfl b16 (by kernel_rfl) rfl (by kernel_rfl) ?_
    generalize w5.alloc (.cells #[.int .i64 2, .int .i64 (1 - id), .int .i64 ep, .int .i64 (min (max ma ((o : Int) + 1)) su), .int .i64 0, .bool false, .int .i64 0, .int .i64 0, .int .i64 0, .slice none 0 0] 46) = w6 at *
    have tR := Turn.rowW (Turn.refl (fun i => i = w.heap.size) w6) rfl #[.int .i64 0, .int .i64 id, .bool up, .int .i64 ro, .int .i64 ep, .slice A n c, .int .i64 su, .int .i64 (max ma ((o : Int) + 1)), .int .i64 ot, .int .i64 co, .slice (some ⟨w5.heap.size, 0, none⟩) 1 1]
    have bRR := b16.rowW #[.int .i64 0, .int .i64 id, .bool up, .int .i64 ro, .int .i64 ep, .slice A n c, .int .i64 su, .int .i64 (max ma ((o : Int) + 1)), .int .i64 ot, .int .i64 co, .slice (some ⟨w5.heap.size, 0, none⟩) 1 1]
    have hoR := ho6.turnB b16 (by decide) (by decide) tR
    have bMR := bM.turn tR (by omega)
    have tF := Turn.trans tA6 tR (fun i hi e => by omega)
    have zR := tR.size
    refine hK.out undef _ (Turn.trans hH6 tR (fun i _ e => e)) (fun hS2 => ?_)
    refine wpAnyH_done (by kernel_rfl) ?_ _
    generalize World.setRow _ _ _ = wR at *
    go_wp2
    all_goals exact bodyPost_ret (results_row1 rfl rfl bRR ⟨_, Try.underlying39⟩ (by kernel_rfl)) rfl (haAns_mk (U := V1) (Ms := [mlv0 2 (1 - id) ep (min (max ma ((o : Int) + 1)) su)]) (by simp [HL.out]) rfl rfl rfl (NrOw.one (lo := lo) (hi := wE.heap.size) (hoR.up (by omega)) (Nat.le_refl _) (by omega) (row_of_blk bMR rfl) (by omega) (by omega) (by omega)) tF)
  refine hw_step 8 (some 73) rfl rfl (by rfl) (fun K hK => ?_) ?_
  · skip
    go_simp
    refine (count_any B id up ro ep su ma ot co A n c _ bBd).mono ?_
    rintro e wz ⟨rfl, hwz⟩
    subst hwz
    go_simp
    refine hK.out _ _ trivial (fun hH2 => ?_)
    simp only [Act.put, List.setIfInBounds_toArray, List.set_cons_zero, List.set_cons_succ]
    refine hw_call 4 (some 69) rfl rfl (by kernel_rfl) (by rfl) (fun K hK => ?_)
    go_simp
    refine hK.out _ _ trivial (fun hH1 => ?_)
    simp only [Act.put, List.setIfInBounds_toArray, List.set_cons_zero, List.set_cons_succ]
    refine' hw_take 6 (some 71) _ rfl rfl (by kernel_rfl) (by kernel_rfl) (by kernel_rfl) (fun _ _ _ h => h) (by rfl) hH ?hy199 ?rest199
    case hy199 =>
      intro X hX
      go_simp
      try rfl
    simp only [Act.put, List.setIfInBounds_toArray, List.set_cons_zero, List.set_cons_succ]
    refine' hw_take 9 (some 74) _ rfl rfl (by kernel_rfl) (by kernel_rfl) (by kernel_rfl) (fun _ _ _ h => h) (by rfl) hH ?hy200 ?rest200
    case hy200 =>
      intro X hX
      go_simp
      try rfl
    simp only [Act.put, List.setIfInBounds_toArray, List.set_cons_zero, List.set_cons_succ]
    refine' hw_take 10 (some 75) _ rfl rfl (by kernel_rfl) (by kernel_rfl) (by kernel_rfl) (fun _ _ _ h => h) (by rfl) hH ?hy201 ?rest201
    case hy201 =>
      intro X hX
      go_simp
      try rfl
    simp only [Act.put, List.setIfInBounds_toArray, List.set_cons_zero, List.set_cons_succ]
    refine' hw_take 11 (some 76) _ rfl rfl (by kernel_rfl) (by kernel_rfl) (by kernel_rfl) (fun _ _ _ h => h) (by rfl) hH ?hy202 ?rest202
    case hy202 =>
      intro X hX
      go_simp
      try rfl
    simp only [Act.put, List.setIfInBounds_toArray, List.set_cons_zero, List.set_cons_succ]
    refine hw_call 12 none rfl rfl (by kernel_rfl) (by rfl) (fun K hK => ?_)
    go_simp
    refine hK.out undef _ trivial (fun hS2 => ?_)
    refine wpAnyH_done (by kernel_rfl) ?_ _
    rw [HTG.out]
    have bE := bBd.set 6 (.int .i64 (max ma ((o : Int) + 1)))
    have tE := (((New.refl w2).drew.turn (S := fun i => i = B))).set (p := ⟨B, 6, none⟩) rfl (.int .i64 (max ma ((o : Int) + 1)))
    have HW : w2.drew.setCell ⟨B, 6, none⟩ (.int .i64 (max ma ((o : Int) + 1))) = (w2.setCell ⟨B, 6, none⟩ (.int .i64 (max ma ((o : Int) + 1)))).drew := rfl
    rw [HW] at bE tE
    have hoE := hoL2.turnB hb2 (by decide) (by decide) tE
    have bRE := bR2.turn tE (by omega)
    have tAE := Turn.trans tw2 tE (fun i _ e => .inl e)
    have zE := tE.size
    have hoE2 := hoE.up (Nat.le_trans (by omega) zE)
    clear cD fD
    clear HW
    generalize (w2.setCell ⟨B, 6, none⟩ (.int .i64 (max ma ((o : Int) + 1)))).drew = wE at *
    go_upto_region 12 with fail
    refine hw_start (n := 17) (S := fun X => Turn (fun i => i = w.heap.size) wE X) rfl (by kernel_rfl) (((New.refl _).drew).turn) (fun hH => ?_)
    refine' hw_take 0 (some 77) _ rfl rfl (by kernel_rfl) (by kernel_rfl) (by kernel_rfl) (fun _ _ _ h => h) (by rfl) hH ?hy203 ?rest203
    case hy203 =>
      intro X hX
      go_simp
      try rfl
    simp only [Act.put, List.setIfInBounds_toArray, List.set_cons_zero, List.set_cons_succ]
    refine' hw_take 1 (some 78) _ rfl rfl (by kernel_rfl) (by kernel_rfl) (by kernel_rfl) (fun _ _ _ h => h) (by rfl) hH ?hy204 ?rest204
    case hy204 =>
      intro X hX
      go_simp
      try rfl
    simp only [Act.put, List.setIfInBounds_toArray, List.set_cons_zero, List.set_cons_succ]
    refine' hw_take 2 (some 79) (.agg #[.int .i64 id, .bool up, .int .i64 ro, .int .i64 ep, .slice A n c, .int .i64 su, .int .i64 (max ma ((o : Int) + 1)), .int .i64 ot, .int .i64 co]) rfl rfl (by kernel_rfl) (by kernel_rfl) (by kernel_rfl) (fun _ _ _ h => h) (by rfl) hH ?hyA12x205 ?restA12x205
    case hyA12x205 =>
      intro X hX
      exact run_load_blk 36 (.tmp 78) rfl B rfl #[.int .i64 id, .bool up, .int .i64 ro, .int .i64 ep, .slice A n c, .int .i64 su, .int .i64 (max ma ((o : Int) + 1)), .int .i64 ot, .int .i64 co] _ (bE.turn hX (by omega)) Try.underlying36 rfl (by kernel_rfl)
    simp only [Act.put, List.setIfInBounds_toArray, List.set_cons_zero, List.set_cons_succ]
    refine' hw_take 3 (some 80) _ rfl rfl (by kernel_rfl) (by kernel_rfl) (by kernel_rfl) (fun _ _ _ h => h) (by rfl) hH ?hy206 ?rest206
    case hy206 =>
      intro X hX
      go_simp
      try rfl
    simp only [Act.put, List.setIfInBounds_toArray, List.set_cons_zero, List.set_cons_succ]
    refine' hw_take 4 (some 81) _ rfl rfl (by kernel_rfl) (by kernel_rfl) (by kernel_rfl) (fun _ _ _ h => h) (by rfl) hH ?hy207 ?rest207
    case hy207 =>
      intro X hX
      go_simp
      try rfl
    simp only [Act.put, List.setIfInBounds_toArray, List.set_cons_zero, List.set_cons_succ]
    refine' hw_take 5 (some 82) _ rfl rfl (by kernel_rfl) (by kernel_rfl) (by kernel_rfl) (fun _ _ _ h => h) (by rfl) hH ?hy208 ?rest208
    case hy208 =>
      intro X hX
      go_simp
      try rfl
    simp only [Act.put, List.setIfInBounds_toArray, List.set_cons_zero, List.set_cons_succ]
    refine' hw_take 6 (some 83) _ rfl rfl (by kernel_rfl) (by kernel_rfl) (by kernel_rfl) (fun _ _ _ h => h) (by rfl) hH ?hy209 ?rest209
    case hy209 =>
      intro X hX
      go_simp
      try rfl
    simp only [Act.put, List.setIfInBounds_toArray, List.set_cons_zero, List.set_cons_succ]
    refine' hw_take 7 (some 84) _ rfl rfl (by kernel_rfl) (by kernel_rfl) (by kernel_rfl) (fun _ _ _ h => h) (by rfl) hH ?hy210 ?rest210
    case hy210 =>
      intro X hX
      have cX := (bE.turn hX (by omega)).cells
      go_simp
      try rfl
    simp only [Act.put, List.setIfInBounds_toArray, List.set_cons_zero, List.set_cons_succ]
    refine' hw_take 8 (some 85) _ rfl rfl (by kernel_rfl) (by kernel_rfl) (by kernel_rfl) (fun _ _ _ h => h) (by rfl) hH ?hy211 ?rest211
    case hy211 =>
      intro X hX
      go_simp
      try rfl
    simp only [Act.put, List.setIfInBounds_toArray, List.set_cons_zero, List.set_cons_succ]
    refine' hw_take 9 (some 86) _ rfl rfl (by kernel_rfl) (by kernel_rfl) (by kernel_rfl) (fun _ _ _ h => h) (by rfl) hH ?hy212 ?rest212
    case hy212 =>
      intro X hX
      go_simp
      try rfl
    simp only [Act.put, List.setIfInBounds_toArray, List.set_cons_zero, List.set_cons_succ]
    refine' hw_take 10 (some 87) _ rfl rfl (by kernel_rfl) (by kernel_rfl) (by kernel_rfl) (fun _ _ _ h => h) (by rfl) hH ?hy213 ?rest213
    case hy213 =>
      intro X hX
      go_simp
      try rfl
    simp only [Act.put, List.setIfInBounds_toArray, List.set_cons_zero, List.set_cons_succ]
    refine' hw_take 11 (some 88) _ rfl rfl (by kernel_rfl) (by kernel_rfl) (by kernel_rfl) (fun _ _ _ h => h) (by rfl) hH ?hy214 ?rest214
    case hy214 =>
      intro X hX
      have cX := (bE.turn hX (by omega)).cells
      go_simp
      try rfl
    simp only [Act.put, List.setIfInBounds_toArray, List.set_cons_zero, List.set_cons_succ]
    refine' hw_take 12 (some 89) _ rfl rfl (by kernel_rfl) (by kernel_rfl) (by kernel_rfl) (fun _ _ _ h => h) (by rfl) hH ?hy215 ?rest215
    case hy215 =>
      intro X hX
      go_simp
      try rfl
    simp only [Act.put, List.setIfInBounds_toArray, List.set_cons_zero, List.set_cons_succ]
    have HMN : (if su < (max ma ((o : Int) + 1)) then su else (max ma ((o : Int) + 1))) = (min (max ma ((o : Int) + 1)) su) := by split <;> omega
    rw [HMN]
    refine hw_call 13 (some 90) rfl rfl (by kernel_rfl) (by rfl) (fun K hK => ?_)
    go_simp
    refine (mailAt_any 2 (min (max ma ((o : Int) + 1)) su) B id up ro ep su (max ma ((o : Int) + 1)) ot co A n c _ (bE.turn hH (by omega)) hid).mono ?_
    rintro e w5 ⟨rfl, hn5⟩
    have t45 := Turn.trans hH hn5 (fun i _ f => f.elim)
    go_simp
    refine hK.out _ _ t45 (fun hH5 => ?_)
    simp only [Act.put, List.setIfInBounds_toArray, List.set_cons_zero, List.set_cons_succ]
    refine hw_call 14 (some 91) rfl rfl (by kernel_rfl) (by rfl) (fun K hK => ?_)
    go_simp
    have al6 := (New.refl w5).alloc (.cells #[.int .i64 2, .int .i64 (1 - id), .int .i64 ep, .int .i64 (min (max ma ((o : Int) + 1)) su), .int .i64 0, .bool false, .int .i64 0, .int .i64 0, .int .i64 0, .slice none 0 0] 46)
    have bM := Blk.mk w5 w5.heap.size 46 #[.int .i64 2, .int .i64 (1 - id), .int .i64 ep, .int .i64 (min (max ma ((o : Int) + 1)) su), .int .i64 0, .bool false, .int .i64 0, .int .i64 0, .int .i64 0, .slice none 0 0] rfl
    have t46 := Turn.trans t45 al6 (fun i _ f => f.elim)
    refine hK.out _ _ t46 (fun hH6 => ?_)
    simp only [Act.put, List.setIfInBounds_toArray, List.set_cons_zero, List.set_cons_succ]
    refine' hw_take 15 (some 92) _ rfl rfl (by kernel_rfl) (by kernel_rfl) (by kernel_rfl) (fun _ _ _ h => h) (by rfl) hH6 ?hy216 ?rest216
    case hy216 =>
      intro X hX
      go_simp
      try rfl
    simp only [Act.put, List.setIfInBounds_toArray, List.set_cons_zero, List.set_cons_succ]
    refine hw_call 16 none rfl rfl (by kernel_rfl) (by rfl) (fun K hK => ?_)
    have b16 : Blk (w5.alloc (.cells #[.int .i64 2, .int .i64 (1 - id), .int .i64 ep, .int .i64 (min (max ma ((o : Int) + 1)) su), .int .i64 0, .bool false, .int .i64 0, .int .i64 0, .int .i64 0, .slice none 0 0] 46)) w.heap.size 39 #[.int .i64 0, .int .i64 0, .bool false, .int .i64 0, .int .i64 0, .slice none 0 0, .int .i64 0, .int .i64 0, .int .i64 0, .int .i64 0, .slice none 0 0] := ((bRE.new ((New.refl _).drew)).new hn5).new al6
    have ho6 := ((hoE2.new ((New.refl _).drew)).new hn5).new al6
    have tA6 := Turn.trans tAE ((((New.refl _).drew).trans hn5).trans al6) (fun i _ f => f.elim)
    have z45 : wE.heap.size ≤ w5.heap.size := hn5.size
    have z6 := al6.size
    have zA : w.heap.size ≤ wE.heap.size := Turn.size tAE
    have l5 : w5.heap.size < (w5.alloc (.cells #[.int .i64 2, .int .i64 (1 - id), .int .i64 ep, .int .i64 (min (max ma ((o : Int) + 1)) su), .int .i64 0, .bool false, .int .i64 0, .int .i64 0, .int .i64 0, .slice none 0 0] 46)).heap.size := bM.lt
    have lR : w.heap.size < wE.heap.size := bRE.lt
    refine hw_store 39 (.tmp 4) (.tmp 92) rfl rfl w.heap.size #[.int .i64 0, .int .i64 id, .bool up, .int .i64 ro, .int .i64 ep, .slice A n c, .int .i64 su, .int .i64 (max ma ((o : Int) + 1)), .int .i64 ot, .int .i64 co, .slice (some ⟨w5.heap.size, 0, none⟩) 1 1] #[.int .i64 0, .int .i64 0, .bool false, .int .i64 0, .int .i64 0, .slice none 0 0, .int .i64 0, .int .i64 0, .int .i64 0, .int .i64 0, .slice none 0 0] rfl rfl b16 (by kernel_rfl) rfl (by kernel_rfl) ?_
    generalize w5.alloc (.cells #[.int .i64 2, .int .i64 (1 - id), .int .i64 ep, .int .i64 (min (max ma ((o : Int) + 1)) su), .int .i64 0, .bool false, .int .i64 0, .int .i64 0, .int .i64 0, .slice none 0 0] 46) = w6 at *
    have tR := Turn.rowW (Turn.refl (fun i => i = w.heap.size) w6) rfl #[.int .i64 0, .int .i64 id, .bool up, .int .i64 ro, .int .i64 ep, .slice A n c, .int .i64 su, .int .i64 (max ma ((o : Int) + 1)), .int .i64 ot, .int .i64 co, .slice (some ⟨w5.heap.size, 0, none⟩) 1 1]
    have bRR := b16.rowW #[.int .i64 0, .int .i64 id, .bool up, .int .i64 ro, .int .i64 ep, .slice A n c, .int .i64 su, .int .i64 (max ma ((o : Int) + 1)), .int .i64 ot, .int .i64 co, .slice (some ⟨w5.heap.size, 0, none⟩) 1 1]
    have hoR := ho6.turnB b16 (by decide) (by decide) tR
    have bMR := bM.turn tR (by omega)
    have tF := Turn.trans tA6 tR (fun i hi e => by omega)
    have zR := tR.size
    refine hK.out undef _ (Turn.trans hH6 tR (fun i _ e => e)) (fun hS2 => ?_)
    refine wpAnyH_done (by kernel_rfl) ?_ _
    generalize World.setRow _ _ _ = wR at *
    go_wp2
    all_goals exact bodyPost_ret (results_row1 rfl rfl bRR ⟨_, Try.underlying39⟩ (by kernel_rfl)) rfl (haAns_mk (U := V1) (Ms := [mlv0 2 (1 - id) ep (min (max ma ((o : Int) + 1)) su)]) (by simp [HL.out]) rfl rfl rfl (NrOw.one (lo := lo) (hi := wE.heap.size) (hoR.up (by omega)) (Nat.le_refl _) (by omega) (row_of_blk bMR rfl) (by omega) (by omega) (by omega)) tF)
  exact fun j hj => by cases hj

end Go.Proofs.Ythnigcalboobgaa
