/- What is proved here: what the model's l12Append answers where the entry is put in. -/
import Derived.Test.YthnigcalboobgaaK12Sb
import Derived.Deep.RegionHeld3
namespace Go.Proofs.Ythnigcalboobgaa
open Go.ChangeShapes Go.WideShapes Go.ChangeAt Go.RowKit
set_option linter.unusedVariables false
set_option linter.unusedSimpArgs false
set_option maxRecDepth 100000

set_option maxHeartbeats 3200000 in
theorem sa_mid (B lo o : Nat) (id : Int) (up : Bool) (ro ep su ma ot co : Int) (A : Option Addr) (n c : Nat) (V1 : List EkV) (kd tgt me pr : Int) (e1 k1 p1 : Int) (x : Option Addr) (m d : Nat) (xs : List Int) (w : World) (hb : Blk w B 39 #[.int .i64 0, .int .i64 id, .bool up, .int .i64 ro, .int .i64 ep, .slice A n c, .int .i64 su, .int .i64 ma, .int .i64 ot, .int .i64 co, .slice none 0 0]) (hoL0 : OwL w lo w.heap.size (.slice A n c) V1) (hlo0 : lo ≤ w.heap.size) (hid : id = 0 ∨ id = 1) (hn : n ≤ 100) (hr : ¬ ro = 1) (ho : o ≤ n) (hq : prevE (V1.map EkV.r) o = pr) (hx : BsAt w x xs) (hX : xs.length = m) (hnx : x = none → m = 0 ∧ d = 0) (hm : m ≤ 1048576) (ho1 : o < n) (q1 : Int) (hq1 : prevE (V1.map EkV.r) (o + 1) = q1) (he : ¬ q1 = e1) (hc : co ≤ o) (h100 : o < 100) (su2 ma2 at2 : Int) (HSU : Hid (min su (o : Int) = su2)) (HMA : Hid (min ma (o : Int) = ma2)) (HMX : Hid (max ma2 ((o : Int) + 1) = (o : Int) + 1)) (HAT : Hid (min ((o : Int) + 1) su2 = at2)) :
    Calls Try.prog 47 #[.pointer (some ⟨B, 1, none⟩), .agg #[.int .i64 kd, .int .i64 tgt, .int .i64 me, .int .i64 (o : Int), .int .i64 pr, .bool true, .int .i64 e1, .int .i64 k1, .int .i64 p1, .slice x m d]] w fun e w' => ∃ A2 c2 U, e = .returned (.tuple #[.agg #[.int .i64 2, .int .i64 (1 - id), .int .i64 ep, .int .i64 at2, .int .i64 0, .bool false, .int .i64 0, .int .i64 0, .int .i64 0, .slice none 0 0], .int .i64 0]) ∧ Blk w' B 39 #[.int .i64 0, .int .i64 id, .bool up, .int .i64 ro, .int .i64 ep, .slice A2 (o + 1) c2, .int .i64 su2, .int .i64 ((o : Int) + 1), .int .i64 ot, .int .i64 co, .slice none 0 0] ∧ U.map EkV.r = (V1.map EkV.r).take o ++ [⟨e1, k1, p1, xs⟩] ∧ OwL w' lo w'.heap.size (.slice A2 (o + 1) c2) U ∧ Turn (fun i => i = B) w w' := by
  have gr : (ro == 1) = false := by simp [hr]
  have hd1 : decide ((n : Int) < (o : Int)) = false := by simp; omega
  have hd2 : (pr != pr) = false := by simp
  have HQ : Hid (prevE (V1.map EkV.r) o = pr) := hq
  clear hq
  have hd3 : decide ((n : Int) ≤ (o : Int)) = false := by simp; omega
  have hd4 : (q1 != e1) = true := by simp [he]
  have hd5 : decide ((o : Int) < co) = false := by simp; omega
  have hd6 : decide ((100 : Int) ≤ (o : Int)) = false := by simp; omega
  have hd7 : ¬ (100 : Int) ≤ (o : Int) := by omega
  obtain ⟨i0, hi, hz0, hz1, hz2⟩ := info_parts Try.infoEk
  have HX : Hid (xs.length = m) := hX
  have hby : Hid (∀ z ∈ xs, By z) := hx.lt
  clear hX
  have HL : Hid (V1.length = n) := hoL0.lg.2
  have hw := ((New.refl w).alloc (.cells #[.int .i64 kd, .int .i64 tgt, .int .i64 me, .int .i64 (o : Int), .int .i64 pr, .bool true, .int .i64 e1, .int .i64 k1, .int .i64 p1, .slice x m d] 46)).alloc (.cells #[.int .i64 0, .int .i64 0, .int .i64 0, .int .i64 0, .int .i64 0, .bool false, .int .i64 0, .int .i64 0, .int .i64 0, .slice none 0 0] 46)
  have bM := (Blk.mk w w.heap.size 46 #[.int .i64 kd, .int .i64 tgt, .int .i64 me, .int .i64 (o : Int), .int .i64 pr, .bool true, .int .i64 e1, .int .i64 k1, .int .i64 p1, .slice x m d] rfl).alloc (.cells #[.int .i64 0, .int .i64 0, .int .i64 0, .int .i64 0, .int .i64 0, .bool false, .int .i64 0, .int .i64 0, .int .i64 0, .slice none 0 0] 46)
  have bR := Blk.mk (w.alloc (.cells #[.int .i64 kd, .int .i64 tgt, .int .i64 me, .int .i64 (o : Int), .int .i64 pr, .bool true, .int .i64 e1, .int .i64 k1, .int .i64 p1, .slice x m d] 46)) (w.heap.size + 1) 46 #[.int .i64 0, .int .i64 0, .int .i64 0, .int .i64 0, .int .i64 0, .bool false, .int .i64 0, .int .i64 0, .int .i64 0, .slice none 0 0] (by simp)
  have hb0 := hb.new hw
  have hoL := (hoL0.new hw).up hw.size
  have hlt := hb.lt
  have s0 : Hid (((w.alloc (.cells #[.int .i64 kd, .int .i64 tgt, .int .i64 me, .int .i64 (o : Int), .int .i64 pr, .bool true, .int .i64 e1, .int .i64 k1, .int .i64 p1, .slice x m d] 46)).alloc (.cells #[.int .i64 0, .int .i64 0, .int .i64 0, .int .i64 0, .int .i64 0, .bool false, .int .i64 0, .int .i64 0, .int .i64 0, .slice none 0 0] 46)).heap.size = w.heap.size + 1 + 1) := by unfold Hid; simp
  have cB := hb0.cells
  go_enter Try.func47, Try.ntmps47
  go_upto_region 4 with fail
  generalize (w.alloc (.cells #[.int .i64 kd, .int .i64 tgt, .int .i64 me, .int .i64 (o : Int), .int .i64 pr, .bool true, .int .i64 e1, .int .i64 k1, .int .i64 p1, .slice x m d] 46)).alloc (.cells #[.int .i64 0, .int .i64 0, .int .i64 0, .int .i64 0, .int .i64 0, .bool false, .int .i64 0, .int .i64 0, .int .i64 0, .slice none 0 0] 46) = w0 at *
  have S0 := s0.out
  refine hw_start (n := 13) (S := fun X => New w0 X) rfl (by kernel_rfl) ((New.refl _).drew) (fun hH => ?_)
  refine' hw_take 0 (some 19) _ rfl rfl (by kernel_rfl) (by kernel_rfl) (by kernel_rfl) (fun _ _ _ h => h) (by rfl) hH ?hy145 ?rest145
  case hy145 =>
    intro X hX
    go_simp
    try rfl
  simp only [Act.put, List.setIfInBounds_toArray, List.set_cons_zero, List.set_cons_succ]
  refine' hw_take 1 (some 20) _ rfl rfl (by kernel_rfl) (by kernel_rfl) (by kernel_rfl) (fun _ _ _ h => h) (by rfl) hH ?hy146 ?rest146
  case hy146 =>
    intro X hX
    go_simp
    try rfl
  simp only [Act.put, List.setIfInBounds_toArray, List.set_cons_zero, List.set_cons_succ]
  refine' hw_take 2 (some 21) _ rfl rfl (by kernel_rfl) (by kernel_rfl) (by kernel_rfl) (fun _ _ _ h => h) (by rfl) hH ?hy147 ?rest147
  case hy147 =>
    intro X hX
    have cX := (bM.new hX).cells
    go_simp
    try rfl
  simp only [Act.put, List.setIfInBounds_toArray, List.set_cons_zero, List.set_cons_succ]
  refine' hw_take 3 (some 22) (.bool false) rfl rfl (by kernel_rfl) (by kernel_rfl) (by kernel_rfl) (fun _ _ _ h => h) (by rfl) hH ?hyL148 ?restL148
  case hyL148 =>
    intro X hX
    go_simp
    try rfl
  simp only [Act.put, List.setIfInBounds_toArray, List.set_cons_zero, List.set_cons_succ]
  refine' hw_take 4 (some 23) _ rfl rfl (by kernel_rfl) (by kernel_rfl) (by kernel_rfl) (fun _ _ _ h => h) (by rfl) hH ?hy149 ?rest149
  case hy149 =>
    intro X hX
    go_simp
    try rfl
  simp only [Act.put, List.setIfInBounds_toArray, List.set_cons_zero, List.set_cons_succ]
  refine' hw_take 5 (some 24) _ rfl rfl (by kernel_rfl) (by kernel_rfl) (by kernel_rfl) (fun _ _ _ h => h) (by rfl) hH ?hy150 ?rest150
  case hy150 =>
    intro X hX
    go_simp
    try rfl
  simp only [Act.put, List.setIfInBounds_toArray, List.set_cons_zero, List.set_cons_succ]
  refine' hw_take 6 (some 25) _ rfl rfl (by kernel_rfl) (by kernel_rfl) (by kernel_rfl) (fun _ _ _ h => h) (by rfl) hH ?hy151 ?rest151
  case hy151 =>
    intro X hX
    go_simp
    try rfl
  simp only [Act.put, List.setIfInBounds_toArray, List.set_cons_zero, List.set_cons_succ]
  refine' hw_take 7 (some 26) _ rfl rfl (by kernel_rfl) (by kernel_rfl) (by kernel_rfl) (fun _ _ _ h => h) (by rfl) hH ?hy152 ?rest152
  case hy152 =>
    intro X hX
    have cX := (bM.new hX).cells
    go_simp
    try rfl
  simp only [Act.put, List.setIfInBounds_toArray, List.set_cons_zero, List.set_cons_succ]
  refine' hw_take 9 (some 28) _ rfl rfl (by kernel_rfl) (by kernel_rfl) (by kernel_rfl) (fun _ _ _ h => h) (by rfl) hH ?hy153 ?rest153
  case hy153 =>
    intro X hX
    go_simp
    try rfl
  simp only [Act.put, List.setIfInBounds_toArray, List.set_cons_zero, List.set_cons_succ]
  refine' hw_take 10 (some 29) _ rfl rfl (by kernel_rfl) (by kernel_rfl) (by kernel_rfl) (fun _ _ _ h => h) (by rfl) hH ?hy154 ?rest154
  case hy154 =>
    intro X hX
    have cX := (bM.new hX).cells
    go_simp
    try rfl
  simp only [Act.put, List.setIfInBounds_toArray, List.set_cons_zero, List.set_cons_succ]
  refine hw_call 8 (some 27) rfl rfl (by kernel_rfl) (by rfl) (fun K hK => ?_)
  go_simp
  refine (prevR_any o B id up ro ep su ma ot co A n c V1 _ (hb0.new hH) (hoL.lg.1.new hH) HL.out (by omega) ho).mono ?_
  rintro e wz ⟨rfl, hwz⟩
  subst hwz
  rw [HQ.out]
  go_simp
  refine hK.out _ _ ((New.refl _).drew) (fun hH2 => ?_)
  simp only [Act.put, List.setIfInBounds_toArray, List.set_cons_zero, List.set_cons_succ]
  refine' hw_take 11 (some 30) (.bool false) rfl rfl (by kernel_rfl) (by kernel_rfl) (by kernel_rfl) (fun _ _ _ h => h) (by rfl) hH2 ?hyL155 ?restL155
  case hyL155 =>
    intro X hX
    go_simp
    try rfl
  simp only [Act.put, List.setIfInBounds_toArray, List.set_cons_zero, List.set_cons_succ]
  refine' hw_take 12 (some 31) _ rfl rfl (by kernel_rfl) (by kernel_rfl) (by kernel_rfl) (fun _ _ _ h => h) (by rfl) hH2 ?hy156 ?rest156
  case hy156 =>
    intro X hX
    go_simp
    try rfl
  simp only [Act.put, List.setIfInBounds_toArray, List.set_cons_zero, List.set_cons_succ]
  refine wpAnyH_done (by kernel_rfl) ?_ _
  have hb1 := hb0.new hH2
  have hoL1 := hoL.new hH2
  have bM1 := bM.new hH2
  have bR1 := bR.new hH2
  have hw1 := hw.trans hH2
  have zw1 : w0.heap.size ≤ w0.drew.heap.size := Nat.le_refl _
  have HZ : Hid (w0.drew.heap.size = w0.heap.size) := rfl
  clear cB hb0 hoL bM bR hw
  generalize w0.drew = w1 at *
  have cB := hb1.cells
  have tw1 : Turn (fun i => i = B) w w1 := hw1.turn
  have cM := bM1.cells
  obtain ⟨g, ep1, ki, pe, x1, m1, d1, xs1, rfl, hv, -, -, -, q0, -, -, -⟩ := hoL1.lg.1.at o (by rw [HL.out]; exact ho1)
  have hep : ep1 = prevE (V1.map EkV.r) (o + 1) := by unfold prevE; simp [hv]
  have HQ1 : Hid (∀ X, New w1 X → X.cell? ⟨g, o * 4, none⟩ = some (.int .i64 q1)) := by
    intro X hX
    obtain ⟨g', ep2, ki2, pe2, x2, m2, d2, xs2, ef, hv2, -, -, -, q2, -, -, -⟩ := (hoL1.new hX).lg.1.at o (by rw [HL.out]; exact ho1)
    have e2 : ep2 = prevE (V1.map EkV.r) (o + 1) := by unfold prevE; simp [hv2]
    cases ef
    rw [e2, hq1] at q2
    exact q2
  clear hep hv q0
  go_upto_region 9 with fail
  refine hw_start (n := 19) (S := fun X => New w1 X) rfl (by kernel_rfl) ((New.refl _).drew) (fun hH => ?_)
  refine' hw_take 0 (some 44) _ rfl rfl (by kernel_rfl) (by kernel_rfl) (by kernel_rfl) (fun _ _ _ h => h) (by rfl) hH ?hy157 ?rest157
  case hy157 =>
    intro X hX
    go_simp
    try rfl
  simp only [Act.put, List.setIfInBounds_toArray, List.set_cons_zero, List.set_cons_succ]
  refine' hw_take 1 (some 45) _ rfl rfl (by kernel_rfl) (by kernel_rfl) (by kernel_rfl) (fun _ _ _ h => h) (by rfl) hH ?hy158 ?rest158
  case hy158 =>
    intro X hX
    go_simp
    try rfl
  simp only [Act.put, List.setIfInBounds_toArray, List.set_cons_zero, List.set_cons_succ]
  refine' hw_take 2 (some 46) _ rfl rfl (by kernel_rfl) (by kernel_rfl) (by kernel_rfl) (fun _ _ _ h => h) (by rfl) hH ?hy159 ?rest159
  case hy159 =>
    intro X hX
    have cX := (bM1.new hX).cells
    go_simp
    try rfl
  simp only [Act.put, List.setIfInBounds_toArray, List.set_cons_zero, List.set_cons_succ]
  refine' hw_take 3 (some 47) (.bool false) rfl rfl (by kernel_rfl) (by kernel_rfl) (by kernel_rfl) (fun _ _ _ h => h) (by rfl) hH ?hyL160 ?restL160
  case hyL160 =>
    intro X hX
    go_simp
    try rfl
  simp only [Act.put, List.setIfInBounds_toArray, List.set_cons_zero, List.set_cons_succ]
  refine' hw_take 4 (some 48) _ rfl rfl (by kernel_rfl) (by kernel_rfl) (by kernel_rfl) (fun _ _ _ h => h) (by rfl) hH ?hy161 ?rest161
  case hy161 =>
    intro X hX
    go_simp
    try rfl
  simp only [Act.put, List.setIfInBounds_toArray, List.set_cons_zero, List.set_cons_succ]
  refine' hw_take 5 (some 49) _ rfl rfl (by kernel_rfl) (by kernel_rfl) (by kernel_rfl) (fun _ _ _ h => h) (by rfl) hH ?hy162 ?rest162
  case hy162 =>
    intro X hX
    go_simp
    try rfl
  simp only [Act.put, List.setIfInBounds_toArray, List.set_cons_zero, List.set_cons_succ]
  refine' hw_take 6 (some 50) _ rfl rfl (by kernel_rfl) (by kernel_rfl) (by kernel_rfl) (fun _ _ _ h => h) (by rfl) hH ?hy163 ?rest163
  case hy163 =>
    intro X hX
    go_simp
    try rfl
  simp only [Act.put, List.setIfInBounds_toArray, List.set_cons_zero, List.set_cons_succ]
  refine' hw_take 7 (some 51) _ rfl rfl (by kernel_rfl) (by kernel_rfl) (by kernel_rfl) (fun _ _ _ h => h) (by rfl) hH ?hy164 ?rest164
  case hy164 =>
    intro X hX
    go_simp
    try rfl
  simp only [Act.put, List.setIfInBounds_toArray, List.set_cons_zero, List.set_cons_succ]
  refine' hw_take 8 (some 52) _ rfl rfl (by kernel_rfl) (by kernel_rfl) (by kernel_rfl) (fun _ _ _ h => h) (by rfl) hH ?hy165 ?rest165
  case hy165 =>
    intro X hX
    have cX := (hb1.new hX).cells
    go_simp
    try rfl
  simp only [Act.put, List.setIfInBounds_toArray, List.set_cons_zero, List.set_cons_succ]
  refine' hw_take 9 (some 53) _ rfl rfl (by kernel_rfl) (by kernel_rfl) (by kernel_rfl) (fun _ _ _ h => h) (by rfl) hH ?hy166 ?rest166
  case hy166 =>
    intro X hX
    go_simp
    try rfl
  simp only [Act.put, List.setIfInBounds_toArray, List.set_cons_zero, List.set_cons_succ]
  refine' hw_take 10 (some 54) _ rfl rfl (by kernel_rfl) (by kernel_rfl) (by kernel_rfl) (fun _ _ _ h => h) (by rfl) hH ?hy167 ?rest167
  case hy167 =>
    intro X hX
    have cX := (bM1.new hX).cells
    go_simp
    try rfl
  simp only [Act.put, List.setIfInBounds_toArray, List.set_cons_zero, List.set_cons_succ]
  refine' hw_take 11 (some 55) (.pointer (some ⟨g, o * 4, none⟩)) rfl rfl (by kernel_rfl) (by kernel_rfl) (by kernel_rfl) (fun _ _ _ h => h) (by rfl) hH ?hyL168 ?restL168
  case hyL168 =>
    intro X hX
    go_simp
    try rfl
  simp only [Act.put, List.setIfInBounds_toArray, List.set_cons_zero, List.set_cons_succ]
  refine' hw_take 12 (some 56) _ rfl rfl (by kernel_rfl) (by kernel_rfl) (by kernel_rfl) (fun _ _ _ h => h) (by rfl) hH ?hy169 ?rest169
  case hy169 =>
    intro X hX
    go_simp
    try rfl
  simp only [Act.put, List.setIfInBounds_toArray, List.set_cons_zero, List.set_cons_succ]
  refine' hw_take 13 (some 57) (.int .i64 q1) rfl rfl (by kernel_rfl) (by kernel_rfl) (by kernel_rfl) (fun _ _ _ h => h) (by rfl) hH ?hyL170 ?restL170
  case hyL170 =>
    intro X hX
    have qX := HQ1.out X hX
    go_simp
    try rfl
  simp only [Act.put, List.setIfInBounds_toArray, List.set_cons_zero, List.set_cons_succ]
  refine' hw_take 14 (some 58) _ rfl rfl (by kernel_rfl) (by kernel_rfl) (by kernel_rfl) (fun _ _ _ h => h) (by rfl) hH ?hy171 ?rest171
  case hy171 =>
    intro X hX
    go_simp
    try rfl
  simp only [Act.put, List.setIfInBounds_toArray, List.set_cons_zero, List.set_cons_succ]
  refine' hw_take 15 (some 59) _ rfl rfl (by kernel_rfl) (by kernel_rfl) (by kernel_rfl) (fun _ _ _ h => h) (by rfl) hH ?hy172 ?rest172
  case hy172 =>
    intro X hX
    go_simp
    try rfl
  simp only [Act.put, List.setIfInBounds_toArray, List.set_cons_zero, List.set_cons_succ]
  refine' hw_take 16 (some 60) _ rfl rfl (by kernel_rfl) (by kernel_rfl) (by kernel_rfl) (fun _ _ _ h => h) (by rfl) hH ?hy173 ?rest173
  case hy173 =>
    intro X hX
    have cX := (bM1.new hX).cells
    go_simp
    try rfl
  simp only [Act.put, List.setIfInBounds_toArray, List.set_cons_zero, List.set_cons_succ]
  refine' hw_take 17 (some 61) (.bool true) rfl rfl (by kernel_rfl) (by kernel_rfl) (by kernel_rfl) (fun _ _ _ h => h) (by rfl) hH ?hyL174 ?restL174
  case hyL174 =>
    intro X hX
    go_simp
    try rfl
  simp only [Act.put, List.setIfInBounds_toArray, List.set_cons_zero, List.set_cons_succ]
  refine' hw_take 18 (some 62) _ rfl rfl (by kernel_rfl) (by kernel_rfl) (by kernel_rfl) (fun _ _ _ h => h) (by rfl) hH ?hy175 ?rest175
  case hy175 =>
    intro X hX
    go_simp
    try rfl
  simp only [Act.put, List.setIfInBounds_toArray, List.set_cons_zero, List.set_cons_succ]
  refine wpAnyH_done (by kernel_rfl) ?_ _
  have hb2 := hb1.new hH
  have hoL2 := hoL1.new hH
  have bM2 := bM1.new hH
  have bR2 := bR1.new hH
  have hw2 := hw1.trans hH
  have tw2 : Turn (fun i => i = B) w w1.drew := hw2.turn
  have HZ2 : Hid (w1.drew.heap.size = w1.heap.size) := rfl
  clear cB cM hb1 hoL1 bM1 bR1 hw1
  generalize w1.drew = w2 at *
  have zz2 := HZ2.out
  have cB := hb2.cells
  have cM := bM2.cells
  go_upto_region 10 with fail
  refine hw_start (n := 7) (S := fun X => New w2 X) rfl (by kernel_rfl) ((New.refl _).drew) (fun hH => ?_)
  refine' hw_take 0 (some 63) _ rfl rfl (by kernel_rfl) (by kernel_rfl) (by kernel_rfl) (fun _ _ _ h => h) (by rfl) hH ?hy176 ?rest176
  case hy176 =>
    intro X hX
    go_simp
    try rfl
  simp only [Act.put, List.setIfInBounds_toArray, List.set_cons_zero, List.set_cons_succ]
  refine' hw_take 1 (some 64) _ rfl rfl (by kernel_rfl) (by kernel_rfl) (by kernel_rfl) (fun _ _ _ h => h) (by rfl) hH ?hy177 ?rest177
  case hy177 =>
    intro X hX
    have cX := (bM2.new hX).cells
    go_simp
    try rfl
  simp only [Act.put, List.setIfInBounds_toArray, List.set_cons_zero, List.set_cons_succ]
  refine' hw_take 2 (some 65) _ rfl rfl (by kernel_rfl) (by kernel_rfl) (by kernel_rfl) (fun _ _ _ h => h) (by rfl) hH ?hy178 ?rest178
  case hy178 =>
    intro X hX
    go_simp
    try rfl
  simp only [Act.put, List.setIfInBounds_toArray, List.set_cons_zero, List.set_cons_succ]
  refine' hw_take 3 (some 66) _ rfl rfl (by kernel_rfl) (by kernel_rfl) (by kernel_rfl) (fun _ _ _ h => h) (by rfl) hH ?hy179 ?rest179
  case hy179 =>
    intro X hX
    go_simp
    try rfl
  simp only [Act.put, List.setIfInBounds_toArray, List.set_cons_zero, List.set_cons_succ]
  refine' hw_take 4 (some 67) _ rfl rfl (by kernel_rfl) (by kernel_rfl) (by kernel_rfl) (fun _ _ _ h => h) (by rfl) hH ?hy180 ?rest180
  case hy180 =>
    intro X hX
    go_simp
    try rfl
  simp only [Act.put, List.setIfInBounds_toArray, List.set_cons_zero, List.set_cons_succ]
  refine' hw_take 5 (some 68) _ rfl rfl (by kernel_rfl) (by kernel_rfl) (by kernel_rfl) (fun _ _ _ h => h) (by rfl) hH ?hy181 ?rest181
  case hy181 =>
    intro X hX
    have cX := (hb2.new hX).cells
    go_simp
    try rfl
  simp only [Act.put, List.setIfInBounds_toArray, List.set_cons_zero, List.set_cons_succ]
  refine' hw_take 6 (some 69) (.bool false) rfl rfl (by kernel_rfl) (by kernel_rfl) (by kernel_rfl) (fun _ _ _ h => h) (by rfl) hH ?hyL182 ?restL182
  case hyL182 =>
    intro X hX
    go_simp
    try rfl
  simp only [Act.put, List.setIfInBounds_toArray, List.set_cons_zero, List.set_cons_succ]
  refine wpAnyH_done (by kernel_rfl) ?_ _
  have hb3 := hb2.new hH
  have hoL3 := hoL2.new hH
  have bM3 := bM2.new hH
  have bR3 := bR2.new hH
  have hw3 := hw2.trans hH
  have HZ3 : Hid (w2.drew.heap.size = w2.heap.size) := rfl
  clear cB cM hb2 hoL2 bM2 bR2 hw2 tw2 hH
  generalize w2.drew = w3 at *
  have cB := hb3.cells
  have cM := bM3.cells
  have zz4 : w0.heap.size ≤ w3.heap.size := by have := HZ.out; have := HZ2.out; have := HZ3.out; omega
  clear zz2
  have hoL3u := hoL3.up (show w0.heap.size ≤ w3.heap.size by omega)
  have hAo : (((some ⟨g, 0, none⟩) : Option Addr) = none ∧ o = 0 ∧ c = 0) ∨ ∃ g', ((some ⟨g, 0, none⟩) : Option Addr) = some ⟨g', 0, none⟩ := by
    rcases hoL3.frm.2 with ⟨h3, h4, h5⟩ | ⟨g', h3⟩
    · exact .inl ⟨h3, by omega, h5⟩
    · exact .inr ⟨g', h3⟩
  go_upto_region 14 with fail
  have nE : New w3 (w3.alloc (.cells #[] 44)).drew := ((New.refl _).alloc _).drew
  have hcut : ∀ X, (Instr.slice 34 (.slice (some ⟨g, 0, none⟩) n c) none (some (.int .i64 (o : Int))) none).run Try.prog X = .ok (.slice (some ⟨g, 0, none⟩) o c) X := by
    intro X
    have hf := hoL3.frm
    exact headK (some ⟨g, 0, none⟩) n c o (by rcases hf.2 with ⟨h3, h4, h5⟩ | ⟨g', h3⟩; exact .inl ⟨h3, h5⟩; exact .inr ⟨g', h3⟩) (by omega) X
  have hown0 : (w3.alloc (.cells #[] 44)).drew.ownsRow lo 44 4 (.slice (some ⟨w3.heap.size, 0, none⟩) 0 0) 0 [] := by
    have := World.ownsRow_lit (base := lo) (size := 4) (e := 44) w3 #[] 0 (by show lo ≤ w3.heap.size; omega) (Nat.zero_le _) rfl
    have k2 := row9_new this ((New.refl _).drew)
    simpa using k2
  have hoT := hoL3.takeN o ho
  have hTl : (V1.take o).length = o := by rw [List.length_take]; have := HL.out; omega
  have hsrcX : ∀ X, New w3 X → ∀ g', ((some ⟨g, 0, none⟩) : Option Addr) = some ⟨g', 0, none⟩ → ∀ j u, (cellsK (V1.take o))[j]? = some u → X.cell? ⟨g', j, none⟩ = some u := by
    intro X hX g' hg' j u hu
    have hrr := own_base ((hoT.new hX).row)
    rw [hg'] at hrr
    have hjl : j < (cellsK (V1.take o)).length := (List.getElem?_eq_some_iff.1 hu).1
    have hrr' : X.ownsRow 0 44 4 (.slice (some ⟨g', 0, none⟩) (V1.take o).length c) (V1.take o).length (cellsK (V1.take o)) := by
      rw [hTl] at hrr ⊢
      exact hrr
    rw [World.ownsRow.cellAt hrr' j (by rw [cellsK_len] at hjl; exact hjl)]
    exact hu
  have cBd := (hb3.new ((New.refl _).drew)).cells
  have cBE := (hb3.new ((New.refl w3).alloc (.cells #[] 44))).cells
  have hMB : ¬ w.heap.size = B := by omega
  have HO : Hid (o ≤ n) := ho
  refine hw_start (n := 18) (S := fun X => Turn (fun i => i = B) w3 X) rfl (by kernel_rfl) (((New.refl _).drew).turn) (fun hH => ?_)
  refine' hw_take 0 (some 75) _ rfl rfl (by kernel_rfl) (by kernel_rfl) (by kernel_rfl) (fun _ _ _ h => h) (by rfl) hH ?hy183 ?rest183
  case hy183 =>
    intro X hX
    go_simp
    try rfl
  simp only [Act.put, List.setIfInBounds_toArray, List.set_cons_zero, List.set_cons_succ]
  refine' hw_take 2 (some 77) _ rfl rfl (by kernel_rfl) (by kernel_rfl) (by kernel_rfl) (fun _ _ _ h => h) (by rfl) hH ?hy184 ?rest184
  case hy184 =>
    intro X hX
    go_simp
    try rfl
  simp only [Act.put, List.setIfInBounds_toArray, List.set_cons_zero, List.set_cons_succ]
  refine' hw_take 3 (some 78) _ rfl rfl (by kernel_rfl) (by kernel_rfl) (by kernel_rfl) (fun _ _ _ h => h) (by rfl) hH ?hy185 ?rest185
  case hy185 =>
    intro X hX
    go_simp
    try rfl
  simp only [Act.put, List.setIfInBounds_toArray, List.set_cons_zero, List.set_cons_succ]
  refine' hw_take 4 (some 79) _ rfl rfl (by kernel_rfl) (by kernel_rfl) (by kernel_rfl) (fun _ _ _ h => h) (by rfl) hH ?hy186 ?rest186
  case hy186 =>
    intro X hX
    go_simp
    try rfl
  simp only [Act.put, List.setIfInBounds_toArray, List.set_cons_zero, List.set_cons_succ]
  refine' hw_take 6 (some 81) _ rfl rfl (by kernel_rfl) (by kernel_rfl) (by kernel_rfl) (fun _ _ _ h => h) (by rfl) hH ?hy187 ?rest187
  case hy187 =>
    intro X hX
    go_simp
    try rfl
  simp only [Act.put, List.setIfInBounds_toArray, List.set_cons_zero, List.set_cons_succ]
  refine' hw_take 7 (some 82) _ rfl rfl (by kernel_rfl) (by kernel_rfl) (by kernel_rfl) (fun _ _ _ h => h) (by rfl) hH ?hy188 ?rest188
  case hy188 =>
    intro X hX
    have cX := (bM3.turn hX hMB).cells
    go_simp
    try rfl
  simp only [Act.put, List.setIfInBounds_toArray, List.set_cons_zero, List.set_cons_succ]
  refine' hw_take 10 (some 85) _ rfl rfl (by kernel_rfl) (by kernel_rfl) (by kernel_rfl) (fun _ _ _ h => h) (by rfl) hH ?hy189 ?rest189
  case hy189 =>
    intro X hX
    go_simp
    try rfl
  simp only [Act.put, List.setIfInBounds_toArray, List.set_cons_zero, List.set_cons_succ]
  refine' hw_take 11 (some 86) (.agg #[.int .i64 e1, .int .i64 k1, .int .i64 p1, .slice x m d]) rfl rfl (by kernel_rfl) (by kernel_rfl) (by kernel_rfl) (fun _ _ _ h => h) (by rfl) hH ?hyL190 ?restL190
  case hyL190 =>
    intro X hX
    have cX := (bM3.turn hX hMB).cells
    go_simp
    try rfl
  simp only [Act.put, List.setIfInBounds_toArray, List.set_cons_zero, List.set_cons_succ]
  refine wpAnyH_ready (rs := [1, 5]) (by kernel_rfl) (by simp) ?_
  refine hw_step 1 (some 76) rfl rfl (by rfl) (fun K hK => ?_) ?_
  · skip
    go_simp
    refine hK.out _ _ nE.turn (fun hHa => ?_)
    simp only [Act.put, List.setIfInBounds_toArray, List.set_cons_zero, List.set_cons_succ]
    refine hw_call 5 (some 80) rfl rfl (by kernel_rfl) (by rfl) (fun K hK => ?_)
    go_simp
    refine hK.out _ _ nE.turn (fun hHb => ?_)
    simp only [Act.put, List.setIfInBounds_toArray, List.set_cons_zero, List.set_cons_succ]
    refine' hw_take 8 (some 83) (.slice (some ⟨g, 0, none⟩) o c) rfl rfl (by kernel_rfl) (by kernel_rfl) (by kernel_rfl) (fun _ _ _ h => h) (by rfl) hHb ?hyS191 ?restS191
    case hyS191 =>
      intro X hX
      have hc := hcut X
      unfold execOp
      go_simp
      try exact hc
    simp only [Act.put, List.setIfInBounds_toArray, List.set_cons_zero, List.set_cons_succ]
    refine hw_call 9 (some 84) rfl rfl (by kernel_rfl) (by rfl) (fun K hK => ?_)
    refine wp_apM _ (.tmp 76) (.tmp 83) rfl lo 4 48 (.agg #[.int .i64 0, .int .i64 0, .int .i64 0, .slice none 0 0]) Try.underlying34 hi hz0 hz1 hz2 rfl (by omega) (by omega) (.slice (some ⟨w3.heap.size, 0, none⟩) 0 0) 0 [] rfl hown0 (some ⟨g, 0, none⟩) o c (cellsK (V1.take o)) hAo (by rw [cellsK_len, hTl]) (cellsK_one _) rfl (hsrcX _ nE) (by omega) (by show lo ≤ _; have := nE.size; omega) ?_
    intro v4 w4 hr4 hg4 hat4
    have hr4' : w4.ownsRow lo 44 4 v4 (V1.take o).length (cellsK (V1.take o)) := by
      rw [hTl]
      simpa using hr4
    have hg4' : (w3.alloc (.cells #[] 44)).drew.grownBy w4 (some w3.heap.size) := hg4
    have hoC := hoL3u.cutrow o nE hr4' hg4' (Nat.le_refl _)
    have n4 : New w3 w4 := nE.grow hg4' (by intro k hk; simp only [Option.some.injEq] at hk; omega)
    have hv4 : ∀ k, v4.ownBlock = some k → w3.heap.size ≤ k := by
      intro k hk
      have z := nE.size
      rcases hat4 with e | e
      · rw [e] at hk; simp [Value.ownBlock] at hk; omega
      · rw [e] at hk; simp only [Option.some.injEq] at hk; omega
    have z4 := n4.size
    clear hr4 hg4 hg4' hat4 hH
    refine hK.out _ _ n4.turn (fun hH4 => ?_)
    simp only [Act.put, List.setIfInBounds_toArray, List.set_cons_zero, List.set_cons_succ]
    refine hw_call 12 (some 87) rfl rfl (by kernel_rfl) (by rfl) (fun K hK => ?_)
    go_simp
    refine (scopyE e1 k1 p1 x m d xs _ (hx.new (hw3.trans n4)) HX.out hnx hm).mono ?_
    rintro e w5 ⟨a', c', rfl, ho5, hn5⟩
    have n5 : New w3 w5 := n4.trans hn5
    have z5 := hn5.size
    go_simp
    refine hK.out _ _ n5.turn (fun hH5 => ?_)
    simp only [Act.put, List.setIfInBounds_toArray, List.set_cons_zero, List.set_cons_succ]
    refine hw_call 13 (some 88) rfl rfl (by kernel_rfl) (by rfl) (fun K hK => ?_)
    go_simp
    have al6 := (New.refl w5).alloc (.cells #[.int .i64 e1, .int .i64 k1, .int .i64 p1, .slice a' m c'] 44)
    have bM6 := Blk.mk w5 w5.heap.size 44 #[.int .i64 e1, .int .i64 k1, .int .i64 p1, .slice a' m c'] rfl
    have n6 := n5.trans al6
    have cM6 := bM6.cells
    refine hK.out _ _ n6.turn (fun hH6 => ?_)
    simp only [Act.put, List.setIfInBounds_toArray, List.set_cons_zero, List.set_cons_succ]
    refine hw_call 14 (some 89) rfl rfl (by kernel_rfl) (by rfl) (fun K hK => ?_)
    have hrow := row9_new (row9_new hoC.row hn5) al6
    rw [hTl] at hrow
    have hov : OvB w5 w4.heap.size (EkV.pv ⟨⟨e1, k1, p1, xs⟩, a', c'⟩) xs := by
      unfold EkV.pv
      simp only [HX.out]
      exact ho5
    refine wp_apV _ (.tmp 84) (.tmp 88) rfl lo 4 48 (.agg #[.int .i64 0, .int .i64 0, .int .i64 0, .slice none 0 0]) Try.underlying34 hi hz0 hz1 hz2 rfl (by omega) (by omega) v4 o _ rfl hrow w5.heap.size [.int .i64 e1, .int .i64 k1, .int .i64 p1, .slice a' m c'] rfl (by simp [Value.oneCell']) rfl (by intro j u hu; rw [cM6 j, List.getElem?_toArray]; exact hu) (by omega) (by simp; omega) ?_
    intro v7 w7 hr7 hg7 hat7
    have hr7' : w7.ownsRow lo 44 4 v7 (V1.take o ++ [EkV.mk (Ek.mk e1 k1 p1 xs) a' c']).length (cellsK (V1.take o ++ [EkV.mk (Ek.mk e1 k1 p1 xs) a' c'])) := by
      rw [cellsK_snoc, List.length_append, hTl]
      simp only [EkV.cs, HX.out]
      exact hr7
    have hap := hoC.appended (by omega) hn5 hov hby.out (by simp only [HX.out]; omega) al6 hr7' hg7
    obtain ⟨A2, c2, hv7, -, hy7⟩ := row9_form hr7
    subst hv7
    have n7 : New w3 w7 := n6.grow hg7 hv4
    have bB7 := hb3.new n7
    have cB7 := bB7.cells
    have fB7 := bB7.frees
    have bB8 := bB7.set 5 (.slice A2 (o + 1) c2)
    have t8 := (Turn.refl (fun i => i = B) w7).set (p := ⟨B, 5, none⟩) rfl (.slice A2 (o + 1) c2)
    have hap8 := (hap.turnB bB7 (by decide) (by decide) t8).up t8.size
    have tF := Turn.trans (n7.turn (S := fun i => i = B)) t8 (fun i _ e => e)
    refine hK.out _ _ n7.turn (fun hH7 => ?_)
    simp only [Act.put, List.setIfInBounds_toArray, List.set_cons_zero, List.set_cons_succ]
    refine' hw_take 15 (some 90) _ rfl rfl (by kernel_rfl) (by kernel_rfl) (by kernel_rfl) (fun _ _ _ h => h) (by rfl) hH7 ?hy192 ?rest192
    case hy192 =>
      intro X hX
      go_simp
      try rfl
    simp only [Act.put, List.setIfInBounds_toArray, List.set_cons_zero, List.set_cons_succ]
    refine' hw_take 16 (some 91) _ rfl rfl (by kernel_rfl) (by kernel_rfl) (by kernel_rfl) (fun _ _ _ h => h) (by rfl) hH7 ?hy193 ?rest193
    case hy193 =>
      intro X hX
      go_simp
      try rfl
    simp only [Act.put, List.setIfInBounds_toArray, List.set_cons_zero, List.set_cons_succ]
    refine hw_call 17 none rfl rfl (by kernel_rfl) (by rfl) (fun K hK => ?_)
    go_simp
    refine hK.out undef _ tF (fun hS2 => ?_)
    refine wpAnyH_done (by kernel_rfl) ?_ _
    have bB9 : Blk (w7.setCell ⟨B, 5, none⟩ (.slice A2 (o + 1) c2)) B 39 #[.int .i64 0, .int .i64 id, .bool up, .int .i64 ro, .int .i64 ep, .slice A2 (o + 1) c2, .int .i64 su, .int .i64 ma, .int .i64 ot, .int .i64 co, .slice none 0 0] := bB8
    have bM8 := bM3.turn tF hMB
    have bR8 := bR3.turn tF (by omega)
    have tw8 := Turn.trans (hw3.turn (S := fun i => i = B)) tF (fun i _ e => e)
    have zF := tF.size
    have hU : (V1.take o ++ [EkV.mk (Ek.mk e1 k1 p1 xs) a' c']).map EkV.r = (V1.map EkV.r).take o ++ [⟨e1, k1, p1, xs⟩] := by rw [List.map_append, List.map_take]; rfl
    clear cBd cBE cB7 fB7 bB8 bB7 hK hap hr7 hr7' hrow cM6 bM6 hv4 hoC hcut hown0 hsrcX hH4 hH5 hH6 hH7 hS2 hg7 hat7 hy7 hov ho5
    generalize (V1.take o ++ [EkV.mk (Ek.mk e1 k1 p1 xs) a' c']) = U at *
    generalize w7.setCell ⟨B, 5, none⟩ (.slice A2 (o + 1) c2) = w8 at *
    have cB := bB9.cells
    go_upto_region 15 with fail
    have bBd := bB9.new ((New.refl _).drew)
    have cD := bBd.cells
    have fD := bBd.frees
    refine hw_start (n := 11) (S := fun X => Turn (fun i => i = B) w8 X) rfl (by kernel_rfl) (((New.refl _).drew).turn) (fun hH => ?_)
    refine' hw_take 0 (some 92) _ rfl rfl (by kernel_rfl) (by kernel_rfl) (by kernel_rfl) (fun _ _ _ h => h) (by rfl) hH ?hy194 ?rest194
    case hy194 =>
      intro X hX
      go_simp
      try rfl
    simp only [Act.put, List.setIfInBounds_toArray, List.set_cons_zero, List.set_cons_succ]
    refine' hw_take 1 (some 93) _ rfl rfl (by kernel_rfl) (by kernel_rfl) (by kernel_rfl) (fun _ _ _ h => h) (by rfl) hH ?hy195 ?rest195
    case hy195 =>
      intro X hX
      go_simp
      try rfl
    simp only [Act.put, List.setIfInBounds_toArray, List.set_cons_zero, List.set_cons_succ]
    refine' hw_take 2 (some 94) _ rfl rfl (by kernel_rfl) (by kernel_rfl) (by kernel_rfl) (fun _ _ _ h => h) (by rfl) hH ?hy196 ?rest196
    case hy196 =>
      intro X hX
      go_simp
      try rfl
    simp only [Act.put, List.setIfInBounds_toArray, List.set_cons_zero, List.set_cons_succ]
    refine' hw_take 3 (some 95) _ rfl rfl (by kernel_rfl) (by kernel_rfl) (by kernel_rfl) (fun _ _ _ h => h) (by rfl) hH ?hy197 ?rest197
    case hy197 =>
      intro X hX
      go_simp
      try rfl
    simp only [Act.put, List.setIfInBounds_toArray, List.set_cons_zero, List.set_cons_succ]
    refine' hw_take 5 (some 97) _ rfl rfl (by kernel_rfl) (by kernel_rfl) (by kernel_rfl) (fun _ _ _ h => h) (by rfl) hH ?hy198 ?rest198
    case hy198 =>
      intro X hX
      go_simp
      try rfl
    simp only [Act.put, List.setIfInBounds_toArray, List.set_cons_zero, List.set_cons_succ]
    refine' hw_take 6 (some 98) _ rfl rfl (by kernel_rfl) (by kernel_rfl) (by kernel_rfl) (fun _ _ _ h => h) (by rfl) hH ?hy199 ?rest199
    case hy199 =>
      intro X hX
      have cX := (bM8.turn hX hMB).cells
      go_simp
      try rfl
    simp only [Act.put, List.setIfInBounds_toArray, List.set_cons_zero, List.set_cons_succ]
    refine hw_call 4 (some 96) rfl rfl (by kernel_rfl) (by rfl) (fun K hK => ?_)
    go_simp
    refine hK.out _ _ hH (fun hH1 => ?_)
    simp only [Act.put, List.setIfInBounds_toArray, List.set_cons_zero, List.set_cons_succ]
    refine hw_call 7 (some 99) rfl rfl (by kernel_rfl) (by rfl) (fun K hK => ?_)
    go_simp
    refine (min_any su (o : Int) _).mono ?_
    rintro e wz ⟨rfl, hwz⟩
    subst hwz
    rw [HSU.out]
    go_simp
    refine hK.out _ _ hH (fun hH2 => ?_)
    simp only [Act.put, List.setIfInBounds_toArray, List.set_cons_zero, List.set_cons_succ]
    refine' hw_take 8 (some 100) _ rfl rfl (by kernel_rfl) (by kernel_rfl) (by kernel_rfl) (fun _ _ _ h => h) (by rfl) hH2 ?hy200 ?rest200
    case hy200 =>
      intro X hX
      go_simp
      try rfl
    simp only [Act.put, List.setIfInBounds_toArray, List.set_cons_zero, List.set_cons_succ]
    refine' hw_take 9 (some 101) _ rfl rfl (by kernel_rfl) (by kernel_rfl) (by kernel_rfl) (fun _ _ _ h => h) (by rfl) hH2 ?hy201 ?rest201
    case hy201 =>
      intro X hX
      go_simp
      try rfl
    simp only [Act.put, List.setIfInBounds_toArray, List.set_cons_zero, List.set_cons_succ]
    have bN := bBd.set 6 (.int .i64 su2)
    have tN := (((New.refl w8).drew.turn (S := fun i => i = B))).set (p := ⟨B, 6, none⟩) rfl (.int .i64 su2)
    have HW : w8.drew.setCell ⟨B, 6, none⟩ (.int .i64 su2) = (w8.setCell ⟨B, 6, none⟩ (.int .i64 su2)).drew := rfl
    rw [HW] at bN tN
    have hoN := (hap8.turnB bB9 (by decide) (by decide) tN)
    have bMN := bM8.turn tN hMB
    have bRN := bR8.turn tN (by omega)
    have twN := Turn.trans tw8 tN (fun i _ e => e)
    have zN := tN.size
    refine hw_call 10 none rfl rfl (by kernel_rfl) (by rfl) (fun K hK => ?_)
    go_simp
    refine hK.out undef _ tN (fun hS2 => ?_)
    refine wpAnyH_done (by kernel_rfl) ?_ _
    clear cD fD bBd hH hH1 hH2 hS2 hK cB
    clear HW
    generalize (w8.setCell ⟨B, 6, none⟩ (.int .i64 su2)).drew = wN15 at *
    have cB := bN.cells
    go_upto_region 16 with fail
    have bBd := bN.new ((New.refl _).drew)
    have cD := bBd.cells
    have fD := bBd.frees
    refine hw_start (n := 11) (S := fun X => Turn (fun i => i = B) wN15 X) rfl (by kernel_rfl) (((New.refl _).drew).turn) (fun hH => ?_)
    refine' hw_take 0 (some 102) _ rfl rfl (by kernel_rfl) (by kernel_rfl) (by kernel_rfl) (fun _ _ _ h => h) (by rfl) hH ?hy202 ?rest202
    case hy202 =>
      intro X hX
      go_simp
      try rfl
    simp only [Act.put, List.setIfInBounds_toArray, List.set_cons_zero, List.set_cons_succ]
    refine' hw_take 1 (some 103) _ rfl rfl (by kernel_rfl) (by kernel_rfl) (by kernel_rfl) (fun _ _ _ h => h) (by rfl) hH ?hy203 ?rest203
    case hy203 =>
      intro X hX
      go_simp
      try rfl
    simp only [Act.put, List.setIfInBounds_toArray, List.set_cons_zero, List.set_cons_succ]
    refine' hw_take 2 (some 104) _ rfl rfl (by kernel_rfl) (by kernel_rfl) (by kernel_rfl) (fun _ _ _ h => h) (by rfl) hH ?hy204 ?rest204
    case hy204 =>
      intro X hX
      go_simp
      try rfl
    simp only [Act.put, List.setIfInBounds_toArray, List.set_cons_zero, List.set_cons_succ]
    refine' hw_take 3 (some 105) _ rfl rfl (by kernel_rfl) (by kernel_rfl) (by kernel_rfl) (fun _ _ _ h => h) (by rfl) hH ?hy205 ?rest205
    case hy205 =>
      intro X hX
      go_simp
      try rfl
    simp only [Act.put, List.setIfInBounds_toArray, List.set_cons_zero, List.set_cons_succ]
    refine' hw_take 5 (some 107) _ rfl rfl (by kernel_rfl) (by kernel_rfl) (by kernel_rfl) (fun _ _ _ h => h) (by rfl) hH ?hy206 ?rest206
    case hy206 =>
      intro X hX
      go_simp
      try rfl
    simp only [Act.put, List.setIfInBounds_toArray, List.set_cons_zero, List.set_cons_succ]
    refine' hw_take 6 (some 108) _ rfl rfl (by kernel_rfl) (by kernel_rfl) (by kernel_rfl) (fun _ _ _ h => h) (by rfl) hH ?hy207 ?rest207
    case hy207 =>
      intro X hX
      have cX := (bMN.turn hX hMB).cells
      go_simp
      try rfl
    simp only [Act.put, List.setIfInBounds_toArray, List.set_cons_zero, List.set_cons_succ]
    refine hw_call 4 (some 106) rfl rfl (by kernel_rfl) (by rfl) (fun K hK => ?_)
    go_simp
    refine hK.out _ _ hH (fun hH1 => ?_)
    simp only [Act.put, List.setIfInBounds_toArray, List.set_cons_zero, List.set_cons_succ]
    refine hw_call 7 (some 109) rfl rfl (by kernel_rfl) (by rfl) (fun K hK => ?_)
    go_simp
    refine (min_any ma (o : Int) _).mono ?_
    rintro e wz ⟨rfl, hwz⟩
    subst hwz
    rw [HMA.out]
    go_simp
    refine hK.out _ _ hH (fun hH2 => ?_)
    simp only [Act.put, List.setIfInBounds_toArray, List.set_cons_zero, List.set_cons_succ]
    refine' hw_take 8 (some 110) _ rfl rfl (by kernel_rfl) (by kernel_rfl) (by kernel_rfl) (fun _ _ _ h => h) (by rfl) hH2 ?hy208 ?rest208
    case hy208 =>
      intro X hX
      go_simp
      try rfl
    simp only [Act.put, List.setIfInBounds_toArray, List.set_cons_zero, List.set_cons_succ]
    refine' hw_take 9 (some 111) _ rfl rfl (by kernel_rfl) (by kernel_rfl) (by kernel_rfl) (fun _ _ _ h => h) (by rfl) hH2 ?hy209 ?rest209
    case hy209 =>
      intro X hX
      go_simp
      try rfl
    simp only [Act.put, List.setIfInBounds_toArray, List.set_cons_zero, List.set_cons_succ]
    have bN6 := bBd.set 7 (.int .i64 ma2)
    have tN6 := (((New.refl wN15).drew.turn (S := fun i => i = B))).set (p := ⟨B, 7, none⟩) rfl (.int .i64 ma2)
    have HW : wN15.drew.setCell ⟨B, 7, none⟩ (.int .i64 ma2) = (wN15.setCell ⟨B, 7, none⟩ (.int .i64 ma2)).drew := rfl
    rw [HW] at bN6 tN6
    have hoN6 := (hoN.turnB bN (by decide) (by decide) tN6)
    have bMN6 := bMN.turn tN6 hMB
    have bRN6 := bRN.turn tN6 (by omega)
    have twN6 := Turn.trans twN tN6 (fun i _ e => e)
    have zN6 := tN6.size
    refine hw_call 10 none rfl rfl (by kernel_rfl) (by rfl) (fun K hK => ?_)
    go_simp
    refine hK.out undef _ tN6 (fun hS2 => ?_)
    refine wpAnyH_done (by kernel_rfl) ?_ _
    clear cD fD bBd hH hH1 hH2 hS2 hK cB
    clear HW
    generalize (wN15.setCell ⟨B, 7, none⟩ (.int .i64 ma2)).drew = wN16 at *
    have cB := bN6.cells
    have cM := bMN6.cells
    go_upto_region 17 with fail
    go_wp2_with fail
    refine (max_any ma2 ((o : Int) + 1) _).mono ?_
    rintro e wz ⟨rfl, hwz⟩
    obtain rfl := hwz.symm
    rw [HMX.out]
    have bE := bN6.set 7 (.int .i64 ((o : Int) + 1))
    have tE := (Turn.refl (fun i => i = B) wN16).set (p := ⟨B, 7, none⟩) rfl (.int .i64 ((o : Int) + 1))
    have hoE := (hoN6.turnB bN6 (by decide) (by decide) tE)
    have bME := bMN6.turn tE (by omega)
    have bRE := bRN6.turn tE (by omega)
    have twE := Turn.trans twN6 tE (fun i _ e => e)
    have zE := tE.size
    have fB := bN6.frees
    go_upto_region 18 with fail
    clear cB fB
    generalize World.setCell _ _ _ = wE at *
    refine hw_start (n := 13) (S := fun X => Turn (fun i => i = (w.heap.size + 1)) wE X) rfl (by kernel_rfl) (((New.refl _).drew).turn) (fun hH => ?_)
    refine' hw_take 0 (some 121) _ rfl rfl (by kernel_rfl) (by kernel_rfl) (by kernel_rfl) (fun _ _ _ h => h) (by rfl) hH ?hy210 ?rest210
    case hy210 =>
      intro X hX
      go_simp
      try rfl
    simp only [Act.put, List.setIfInBounds_toArray, List.set_cons_zero, List.set_cons_succ]
    refine' hw_take 1 (some 122) _ rfl rfl (by kernel_rfl) (by kernel_rfl) (by kernel_rfl) (fun _ _ _ h => h) (by rfl) hH ?hy211 ?rest211
    case hy211 =>
      intro X hX
      go_simp
      try rfl
    simp only [Act.put, List.setIfInBounds_toArray, List.set_cons_zero, List.set_cons_succ]
    refine' hw_take 2 (some 123) _ rfl rfl (by kernel_rfl) (by kernel_rfl) (by kernel_rfl) (fun _ _ _ h => h) (by rfl) hH ?hy212 ?rest212
    case hy212 =>
      intro X hX
      go_simp
      try rfl
    simp only [Act.put, List.setIfInBounds_toArray, List.set_cons_zero, List.set_cons_succ]
    refine' hw_take 3 (some 124) _ rfl rfl (by kernel_rfl) (by kernel_rfl) (by kernel_rfl) (fun _ _ _ h => h) (by rfl) hH ?hy213 ?rest213
    case hy213 =>
      intro X hX
      go_simp
      try rfl
    simp only [Act.put, List.setIfInBounds_toArray, List.set_cons_zero, List.set_cons_succ]
    refine' hw_take 4 (some 125) _ rfl rfl (by kernel_rfl) (by kernel_rfl) (by kernel_rfl) (fun _ _ _ h => h) (by rfl) hH ?hy214 ?rest214
    case hy214 =>
      intro X hX
      have cX := (bE.turn hX (by omega)).cells
      go_simp
      try rfl
    simp only [Act.put, List.setIfInBounds_toArray, List.set_cons_zero, List.set_cons_succ]
    refine' hw_take 5 (some 126) _ rfl rfl (by kernel_rfl) (by kernel_rfl) (by kernel_rfl) (fun _ _ _ h => h) (by rfl) hH ?hy215 ?rest215
    case hy215 =>
      intro X hX
      go_simp
      try rfl
    simp only [Act.put, List.setIfInBounds_toArray, List.set_cons_zero, List.set_cons_succ]
    refine' hw_take 6 (some 127) _ rfl rfl (by kernel_rfl) (by kernel_rfl) (by kernel_rfl) (fun _ _ _ h => h) (by rfl) hH ?hy216 ?rest216
    case hy216 =>
      intro X hX
      go_simp
      try rfl
    simp only [Act.put, List.setIfInBounds_toArray, List.set_cons_zero, List.set_cons_succ]
    refine' hw_take 7 (some 128) _ rfl rfl (by kernel_rfl) (by kernel_rfl) (by kernel_rfl) (fun _ _ _ h => h) (by rfl) hH ?hy217 ?rest217
    case hy217 =>
      intro X hX
      go_simp
      try rfl
    simp only [Act.put, List.setIfInBounds_toArray, List.set_cons_zero, List.set_cons_succ]
    refine' hw_take 8 (some 129) _ rfl rfl (by kernel_rfl) (by kernel_rfl) (by kernel_rfl) (fun _ _ _ h => h) (by rfl) hH ?hy218 ?rest218
    case hy218 =>
      intro X hX
      have cX := (bE.turn hX (by omega)).cells
      go_simp
      try rfl
    simp only [Act.put, List.setIfInBounds_toArray, List.set_cons_zero, List.set_cons_succ]
    refine hw_call 9 (some 130) rfl rfl (by kernel_rfl) (by rfl) (fun K hK => ?_)
    go_simp
    refine (min_any ((o : Int) + 1) su2 _).mono ?_
    rintro e wz ⟨rfl, hwz⟩
    subst hwz
    rw [HAT.out]
    go_simp
    refine hK.out _ _ hH (fun hH1 => ?_)
    simp only [Act.put, List.setIfInBounds_toArray, List.set_cons_zero, List.set_cons_succ]
    refine hw_call 10 (some 131) rfl rfl (by kernel_rfl) (by rfl) (fun K hK => ?_)
    go_simp
    refine (taken_any at2 B 0 id up ro ep su2 ((o : Int) + 1) ot co A2 none (o + 1) c2 0 0 _ (bE.turn hH1 (by omega)) hid).mono ?_
    rintro e w5 ⟨rfl, hn5⟩
    have t5 := Turn.trans hH1 hn5 (fun i _ f => f.elim)
    go_simp
    refine hK.out _ _ t5 (fun hH5 => ?_)
    simp only [Act.put, List.setIfInBounds_toArray, List.set_cons_zero, List.set_cons_succ]
    refine hw_call 11 none rfl rfl (by kernel_rfl) (by rfl) (fun K hK => ?_)
    have n5 : New wE w5 := ((New.refl _).drew).trans hn5
    have bR5 := bRE.new n5
    have bE5 := bE.new n5
    have ho5 := hoE.new n5
    have z5 := n5.size
    refine hw_store 46 (.tmp 4) (.tmp 131) rfl rfl (w.heap.size + 1) #[.int .i64 2, .int .i64 (1 - id), .int .i64 ep, .int .i64 at2, .int .i64 0, .bool false, .int .i64 0, .int .i64 0, .int .i64 0, .slice none 0 0] #[.int .i64 0, .int .i64 0, .int .i64 0, .int .i64 0, .int .i64 0, .bool false, .int .i64 0, .int .i64 0, .int .i64 0, .slice none 0 0] rfl rfl bR5 (by kernel_rfl) rfl (by kernel_rfl) ?_
    have tR := Turn.rowW (Turn.refl (fun i => i = (w.heap.size + 1)) w5) rfl #[.int .i64 2, .int .i64 (1 - id), .int .i64 ep, .int .i64 at2, .int .i64 0, .bool false, .int .i64 0, .int .i64 0, .int .i64 0, .slice none 0 0]
    have bRR := bR5.rowW #[.int .i64 2, .int .i64 (1 - id), .int .i64 ep, .int .i64 at2, .int .i64 0, .bool false, .int .i64 0, .int .i64 0, .int .i64 0, .slice none 0 0]
    have hoR := ho5.turnB bR5 (by decide) (by decide) tR
    have bER := bE5.turn tR (by omega)
    have tF := Turn.trans (Turn.trans twE n5 (fun i _ f => f.elim)) tR (fun i hi e => by omega)
    have zR := tR.size
    refine hK.out undef _ (Turn.trans t5 tR (fun i _ e => e)) (fun hS2 => ?_)
    simp only [Act.put, List.setIfInBounds_toArray, List.set_cons_zero, List.set_cons_succ]
    refine' hw_take 12 (some 5) _ rfl rfl (by kernel_rfl) (by kernel_rfl) (by kernel_rfl) (fun _ _ _ h => h) (by rfl) hS2 ?hy219 ?rest219
    case hy219 =>
      intro X hX
      go_simp
      try rfl
    simp only [Act.put, List.setIfInBounds_toArray, List.set_cons_zero, List.set_cons_succ]
    refine wpAnyH_done (by kernel_rfl) ?_ _
    generalize World.setRow _ _ _ = wR at *
    go_wp2
    all_goals exact bodyPost_ret (results_rowT rfl rfl rfl bRR ⟨_, Try.underlying46⟩ (by kernel_rfl)) rfl ⟨A2, c2, U, rfl, bER, hU, hoR.up (by omega), tF⟩
  refine hw_step 5 (some 80) rfl rfl (by rfl) (fun K hK => ?_) ?_
  · skip
    go_simp
    refine hK.out _ _ hH (fun hHb => ?_)
    simp only [Act.put, List.setIfInBounds_toArray, List.set_cons_zero, List.set_cons_succ]
    refine' hw_take 8 (some 83) (.slice (some ⟨g, 0, none⟩) o c) rfl rfl (by kernel_rfl) (by kernel_rfl) (by kernel_rfl) (fun _ _ _ h => h) (by rfl) hHb ?hyS220 ?restS220
    case hyS220 =>
      intro X hX
      have hc := hcut X
      unfold execOp
      go_simp
      try exact hc
    simp only [Act.put, List.setIfInBounds_toArray, List.set_cons_zero, List.set_cons_succ]
    refine hw_call 1 (some 76) rfl rfl (by kernel_rfl) (by rfl) (fun K hK => ?_)
    go_simp
    refine hK.out _ _ nE.turn (fun hHa => ?_)
    simp only [Act.put, List.setIfInBounds_toArray, List.set_cons_zero, List.set_cons_succ]
    refine hw_call 9 (some 84) rfl rfl (by kernel_rfl) (by rfl) (fun K hK => ?_)
    refine wp_apM _ (.tmp 76) (.tmp 83) rfl lo 4 48 (.agg #[.int .i64 0, .int .i64 0, .int .i64 0, .slice none 0 0]) Try.underlying34 hi hz0 hz1 hz2 rfl (by omega) (by omega) (.slice (some ⟨w3.heap.size, 0, none⟩) 0 0) 0 [] rfl hown0 (some ⟨g, 0, none⟩) o c (cellsK (V1.take o)) hAo (by rw [cellsK_len, hTl]) (cellsK_one _) rfl (hsrcX _ nE) (by omega) (by show lo ≤ _; have := nE.size; omega) ?_
    intro v4 w4 hr4 hg4 hat4
    have hr4' : w4.ownsRow lo 44 4 v4 (V1.take o).length (cellsK (V1.take o)) := by
      rw [hTl]
      simpa using hr4
    have hg4' : (w3.alloc (.cells #[] 44)).drew.grownBy w4 (some w3.heap.size) := hg4
    have hoC := hoL3u.cutrow o nE hr4' hg4' (Nat.le_refl _)
    have n4 : New w3 w4 := nE.grow hg4' (by intro k hk; simp only [Option.some.injEq] at hk; omega)
    have hv4 : ∀ k, v4.ownBlock = some k → w3.heap.size ≤ k := by
      intro k hk
      have z := nE.size
      rcases hat4 with e | e
      · rw [e] at hk; simp [Value.ownBlock] at hk; omega
      · rw [e] at hk; simp only [Option.some.injEq] at hk; omega
    have z4 := n4.size
    clear hr4 hg4 hg4' hat4 hH
    refine hK.out _ _ n4.turn (fun hH4 => ?_)
    simp only [Act.put, List.setIfInBounds_toArray, List.set_cons_zero, List.set_cons_succ]
    refine hw_call 12 (some 87) rfl rfl (by kernel_rfl) (by rfl) (fun K hK => ?_)
    go_simp
    refine (scopyE e1 k1 p1 x m d xs _ (hx.new (hw3.trans n4)) HX.out hnx hm).mono ?_
    rintro e w5 ⟨a', c', rfl, ho5, hn5⟩
    have n5 : New w3 w5 := n4.trans hn5
    have z5 := hn5.size
    go_simp
    refine hK.out _ _ n5.turn (fun hH5 => ?_)
    simp only [Act.put, List.setIfInBounds_toArray, List.set_cons_zero, List.set_cons_succ]
    refine hw_call 13 (some 88) rfl rfl (by kernel_rfl) (by rfl) (fun K hK => ?_)
    go_simp
    have al6 := (New.refl w5).alloc (.cells #[.int .i64 e1, .int .i64 k1, .int .i64 p1, .slice a' m c'] 44)
    have bM6 := Blk.mk w5 w5.heap.size 44 #[.int .i64 e1, .int .i64 k1, .int .i64 p1, .slice a' m c'] rfl
    have n6 := n5.trans al6
    have cM6 := bM6.cells
    refine hK.out _ _ n6.turn (fun hH6 => ?_)
    simp only [Act.put, List.setIfInBounds_toArray, List.set_cons_zero, List.set_cons_succ]
    refine hw_call 14 (some 89) rfl rfl (by kernel_rfl) (by rfl) (fun K hK => ?_)
    have hrow := row9_new (row9_new hoC.row hn5) al6
    rw [hTl] at hrow
    have hov : OvB w5 w4.heap.size (EkV.pv ⟨⟨e1, k1, p1, xs⟩, a', c'⟩) xs := by
      unfold EkV.pv
      simp only [HX.out]
      exact ho5
    refine wp_apV _ (.tmp 84) (.tmp 88) rfl lo 4 48 (.agg #[.int .i64 0, .int .i64 0, .int .i64 0, .slice none 0 0]) Try.underlying34 hi hz0 hz1 hz2 rfl (by omega) (by omega) v4 o _ rfl hrow w5.heap.size [.int .i64 e1, .int .i64 k1, .int .i64 p1, .slice a' m c'] rfl (by simp [Value.oneCell']) rfl (by intro j u hu; rw [cM6 j, List.getElem?_toArray]; exact hu) (by omega) (by simp; omega) ?_
    intro v7 w7 hr7 hg7 hat7
    have hr7' : w7.ownsRow lo 44 4 v7 (V1.take o ++ [EkV.mk (Ek.mk e1 k1 p1 xs) a' c']).length (cellsK (V1.take o ++ [EkV.mk (Ek.mk e1 k1 p1 xs) a' c'])) := by
      rw [cellsK_snoc, List.length_append, hTl]
      simp only [EkV.cs, HX.out]
      exact hr7
    have hap := hoC.appended (by omega) hn5 hov hby.out (by simp only [HX.out]; omega) al6 hr7' hg7
    obtain ⟨A2, c2, hv7, -, hy7⟩ := row9_form hr7
    subst hv7
    have n7 : New w3 w7 := n6.grow hg7 hv4
    have bB7 := hb3.new n7
    have cB7 := bB7.cells
    have fB7 := bB7.frees
    have bB8 := bB7.set 5 (.slice A2 (o + 1) c2)
    have t8 := (Turn.refl (fun i => i = B) w7).set (p := ⟨B, 5, none⟩) rfl (.slice A2 (o + 1) c2)
    have hap8 := (hap.turnB bB7 (by decide) (by decide) t8).up t8.size
    have tF := Turn.trans (n7.turn (S := fun i => i = B)) t8 (fun i _ e => e)
    refine hK.out _ _ n7.turn (fun hH7 => ?_)
    simp only [Act.put, List.setIfInBounds_toArray, List.set_cons_zero, List.set_cons_succ]
    refine' hw_take 15 (some 90) _ rfl rfl (by kernel_rfl) (by kernel_rfl) (by kernel_rfl) (fun _ _ _ h => h) (by rfl) hH7 ?hy221 ?rest221
    case hy221 =>
      intro X hX
      go_simp
      try rfl
    simp only [Act.put, List.setIfInBounds_toArray, List.set_cons_zero, List.set_cons_succ]
    refine' hw_take 16 (some 91) _ rfl rfl (by kernel_rfl) (by kernel_rfl) (by kernel_rfl) (fun _ _ _ h => h) (by rfl) hH7 ?hy222 ?rest222
    case hy222 =>
      intro X hX
      go_simp
      try rfl
    simp only [Act.put, List.setIfInBounds_toArray, List.set_cons_zero, List.set_cons_succ]
    refine hw_call 17 none rfl rfl (by kernel_rfl) (by rfl) (fun K hK => ?_)
    go_simp
    refine hK.out undef _ tF (fun hS2 => ?_)
    refine wpAnyH_done (by kernel_rfl) ?_ _
    have bB9 : Blk (w7.setCell ⟨B, 5, none⟩ (.slice A2 (o + 1) c2)) B 39 #[.int .i64 0, .int .i64 id, .bool up, .int .i64 ro, .int .i64 ep, .slice A2 (o + 1) c2, .int .i64 su, .int .i64 ma, .int .i64 ot, .int .i64 co, .slice none 0 0] := bB8
    have bM8 := bM3.turn tF hMB
    have bR8 := bR3.turn tF (by omega)
    have tw8 := Turn.trans (hw3.turn (S := fun i => i = B)) tF (fun i _ e => e)
    have zF := tF.size
    have hU : (V1.take o ++ [EkV.mk (Ek.mk e1 k1 p1 xs) a' c']).map EkV.r = (V1.map EkV.r).take o ++ [⟨e1, k1, p1, xs⟩] := by rw [List.map_append, List.map_take]; rfl
    clear cBd cBE cB7 fB7 bB8 bB7 hK hap hr7 hr7' hrow cM6 bM6 hv4 hoC hcut hown0 hsrcX hH4 hH5 hH6 hH7 hS2 hg7 hat7 hy7 hov ho5
    generalize (V1.take o ++ [EkV.mk (Ek.mk e1 k1 p1 xs) a' c']) = U at *
    generalize w7.setCell ⟨B, 5, none⟩ (.slice A2 (o + 1) c2) = w8 at *
    have cB := bB9.cells
    go_upto_region 15 with fail
    have bBd := bB9.new ((New.refl _).drew)
    have cD := bBd.cells
    have fD := bBd.frees
    refine hw_start (n := 11) (S := fun X => Turn (fun i => i = B) w8 X) rfl (by kernel_rfl) (((New.refl _).drew).turn) (fun hH => ?_)
    refine' hw_take 0 (some 92) _ rfl rfl (by kernel_rfl) (by kernel_rfl) (by kernel_rfl) (fun _ _ _ h => h) (by rfl) hH ?hy223 ?rest223
    case hy223 =>
      intro X hX
      go_simp
      try rfl
    simp only [Act.put, List.setIfInBounds_toArray, List.set_cons_zero, List.set_cons_succ]
    refine' hw_take 1 (some 93) _ rfl rfl (by kernel_rfl) (by kernel_rfl) (by kernel_rfl) (fun _ _ _ h => h) (by rfl) hH ?hy224 ?rest224
    case hy224 =>
      intro X hX
      go_simp
      try rfl
    simp only [Act.put, List.setIfInBounds_toArray, List.set_cons_zero, List.set_cons_succ]
    refine' hw_take 2 (some 94) _ rfl rfl (by kernel_rfl) (by kernel_rfl) (by kernel_rfl) (fun _ _ _ h => h) (by rfl) hH ?hy225 ?rest225
    case hy225 =>
      intro X hX
      go_simp
      try rfl
    simp only [Act.put, List.setIfInBounds_toArray, List.set_cons_zero, List.set_cons_succ]
    refine' hw_take 3 (some 95) _ rfl rfl (by kernel_rfl) (by kernel_rfl) (by kernel_rfl) (fun _ _ _ h => h) (by rfl) hH ?hy226 ?rest226
    case hy226 =>
      intro X hX
      go_simp
      try rfl
    simp only [Act.put, List.setIfInBounds_toArray, List.set_cons_zero, List.set_cons_succ]
    refine' hw_take 5 (some 97) _ rfl rfl (by kernel_rfl) (by kernel_rfl) (by kernel_rfl) (fun _ _ _ h => h) (by rfl) hH ?hy227 ?rest227
    case hy227 =>
      intro X hX
      go_simp
      try rfl
    simp only [Act.put, List.setIfInBounds_toArray, List.set_cons_zero, List.set_cons_succ]
    refine' hw_take 6 (some 98) _ rfl rfl (by kernel_rfl) (by kernel_rfl) (by kernel_rfl) (fun _ _ _ h => h) (by rfl) hH ?hy228 ?rest228
    case hy228 =>
      intro X hX
      have cX := (bM8.turn hX hMB).cells
      go_simp
      try rfl
    simp only [Act.put, List.setIfInBounds_toArray, List.set_cons_zero, List.set_cons_succ]
    refine hw_call 4 (some 96) rfl rfl (by kernel_rfl) (by rfl) (fun K hK => ?_)
    go_simp
    refine hK.out _ _ hH (fun hH1 => ?_)
    simp only [Act.put, List.setIfInBounds_toArray, List.set_cons_zero, List.set_cons_succ]
    refine hw_call 7 (some 99) rfl rfl (by kernel_rfl) (by rfl) (fun K hK => ?_)
    go_simp
    refine (min_any su (o : Int) _).mono ?_
    rintro e wz ⟨rfl, hwz⟩
    subst hwz
    rw [HSU.out]
    go_simp
    refine hK.out _ _ hH (fun hH2 => ?_)
    simp only [Act.put, List.setIfInBounds_toArray, List.set_cons_zero, List.set_cons_succ]
    refine' hw_take 8 (some 100) _ rfl rfl (by kernel_rfl) (by kernel_rfl) (by kernel_rfl) (fun _ _ _ h => h) (by rfl) hH2 ?hy229 ?rest229
    case hy229 =>
      intro X hX
      go_simp
      try rfl
    simp only [Act.put, List.setIfInBounds_toArray, List.set_cons_zero, List.set_cons_succ]
    refine' hw_take 9 (some 101) _ rfl rfl (by kernel_rfl) (by kernel_rfl) (by kernel_rfl) (fun _ _ _ h => h) (by rfl) hH2 ?hy230 ?rest230
    case hy230 =>
      intro X hX
      go_simp
      try rfl
    simp only [Act.put, List.setIfInBounds_toArray, List.set_cons_zero, List.set_cons_succ]
    have bN := bBd.set 6 (.int .i64 su2)
    have tN := (((New.refl w8).drew.turn (S := fun i => i = B))).set (p := ⟨B, 6, none⟩) rfl (.int .i64 su2)
    have HW : w8.drew.setCell ⟨B, 6, none⟩ (.int .i64 su2) = (w8.setCell ⟨B, 6, none⟩ (.int .i64 su2)).drew := rfl
    rw [HW] at bN tN
    have hoN := (hap8.turnB bB9 (by decide) (by decide) tN)
    have bMN := bM8.turn tN hMB
    have bRN := bR8.turn tN (by omega)
    have twN := Turn.trans tw8 tN (fun i _ e => e)
    have zN := tN.size
    refine hw_call 10 none rfl rfl (by kernel_rfl) (by rfl) (fun K hK => ?_)
    go_simp
    refine hK.out undef _ tN (fun hS2 => ?_)
    refine wpAnyH_done (by kernel_rfl) ?_ _
    clear cD fD bBd hH hH1 hH2 hS2 hK cB
    clear HW
    generalize (w8.setCell ⟨B, 6, none⟩ (.int .i64 su2)).drew = wN15 at *
    have cB := bN.cells
    go_upto_region 16 with fail
    have bBd := bN.new ((New.refl _).drew)
    have cD := bBd.cells
    have fD := bBd.frees
    refine hw_start (n := 11) (S := fun X => Turn (fun i => i = B) wN15 X) rfl (by kernel_rfl) (((New.refl _).drew).turn) (fun hH => ?_)
    refine' hw_take 0 (some 102) _ rfl rfl (by kernel_rfl) (by kernel_rfl) (by kernel_rfl) (fun _ _ _ h => h) (by rfl) hH ?hy231 ?rest231
    case hy231 =>
      intro X hX
      go_simp
      try rfl
    simp only [Act.put, List.setIfInBounds_toArray, List.set_cons_zero, List.set_cons_succ]
    refine' hw_take 1 (some 103) _ rfl rfl (by kernel_rfl) (by kernel_rfl) (by kernel_rfl) (fun _ _ _ h => h) (by rfl) hH ?hy232 ?rest232
    case hy232 =>
      intro X hX
      go_simp
      try rfl
    simp only [Act.put, List.setIfInBounds_toArray, List.set_cons_zero, List.set_cons_succ]
    refine' hw_take 2 (some 104) _ rfl rfl (by kernel_rfl) (by kernel_rfl) (by kernel_rfl) (fun _ _ _ h => h) (by rfl) hH ?hy233 ?rest233
    case hy233 =>
      intro X hX
      go_simp
      try rfl
    simp only [Act.put, List.setIfInBounds_toArray, List.set_cons_zero, List.set_cons_succ]
    refine' hw_take 3 (some 105) _ rfl rfl (by kernel_rfl) (by kernel_rfl) (by kernel_rfl) (fun _ _ _ h => h) (by rfl) hH ?hy234 ?rest234
    case hy234 =>
      intro X hX
      go_simp
      try rfl
    simp only [Act.put, List.setIfInBounds_toArray, List.set_cons_zero, List.set_cons_succ]
    refine' hw_take 5 (some 107) _ rfl rfl (by kernel_rfl) (by kernel_rfl) (by kernel_rfl) (fun _ _ _ h => h) (by rfl) hH ?hy235 ?rest235
    case hy235 =>
      intro X hX
      go_simp
      try rfl
    simp only [Act.put, List.setIfInBounds_toArray, List.set_cons_zero, List.set_cons_succ]
    refine' hw_take 6 (some 108) _ rfl rfl (by kernel_rfl) (by kernel_rfl) (by kernel_rfl) (fun _ _ _ h => h) (by rfl) hH ?hy236 ?rest236
    case hy236 =>
      intro X hX
      have cX := (bMN.turn hX hMB).cells
      go_simp
      try rfl
    simp only [Act.put, List.setIfInBounds_toArray, List.set_cons_zero, List.set_cons_succ]
    refine hw_call 4 (some 106) rfl rfl (by kernel_rfl) (by rfl) (fun K hK => ?_)
    go_simp
    refine hK.out _ _ hH (fun hH1 => ?_)
    simp only [Act.put, List.setIfInBounds_toArray, List.set_cons_zero, List.set_cons_succ]
    refine hw_call 7 (some 109) rfl rfl (by kernel_rfl) (by rfl) (fun K hK => ?_)
    go_simp
    refine (min_any ma (o : Int) _).mono ?_
    rintro e wz ⟨rfl, hwz⟩
    subst hwz
    rw [HMA.out]
    go_simp
    refine hK.out _ _ hH (fun hH2 => ?_)
    simp only [Act.put, List.setIfInBounds_toArray, List.set_cons_zero, List.set_cons_succ]
    refine' hw_take 8 (some 110) _ rfl rfl (by kernel_rfl) (by kernel_rfl) (by kernel_rfl) (fun _ _ _ h => h) (by rfl) hH2 ?hy237 ?rest237
    case hy237 =>
      intro X hX
      go_simp
      try rfl
    simp only [Act.put, List.setIfInBounds_toArray, List.set_cons_zero, List.set_cons_succ]
    refine' hw_take 9 (some 111) _ rfl rfl (by kernel_rfl) (by kernel_rfl) (by kernel_rfl) (fun _ _ _ h => h) (by rfl) hH2 ?hy238 ?rest238
    case hy238 =>
      intro X hX
      go_simp
      try rfl
    simp only [Act.put, List.setIfInBounds_toArray, List.set_cons_zero, List.set_cons_succ]
    have bN6 := bBd.set 7 (.int .i64 ma2)
    have tN6 := (((New.refl wN15).drew.turn (S := fun i => i = B))).set (p := ⟨B, 7, none⟩) rfl (.int .i64 ma2)
    have HW : wN15.drew.setCell ⟨B, 7, none⟩ (.int .i64 ma2) = (wN15.setCell ⟨B, 7, none⟩ (.int .i64 ma2)).drew := rfl
    rw [HW] at bN6 tN6
    have hoN6 := (hoN.turnB bN (by decide) (by decide) tN6)
    have bMN6 := bMN.turn tN6 hMB
    have bRN6 := bRN.turn tN6 (by omega)
    have twN6 := Turn.trans twN tN6 (fun i _ e => e)
    have zN6 := tN6.size
    refine hw_call 10 none rfl rfl (by kernel_rfl) (by rfl) (fun K hK => ?_)
    go_simp
    refine hK.out undef _ tN6 (fun hS2 => ?_)
    refine wpAnyH_done (by kernel_rfl) ?_ _
    clear cD fD bBd hH hH1 hH2 hS2 hK cB
    clear HW
    generalize (wN15.setCell ⟨B, 7, none⟩ (.int .i64 ma2)).drew = wN16 at *
    have cB := bN6.cells
    have cM := bMN6.cells
    go_upto_region 17 with fail
    go_wp2_with fail
    refine (max_any ma2 ((o : Int) + 1) _).mono ?_
    rintro e wz ⟨rfl, hwz⟩
    obtain rfl := hwz.symm
    rw [HMX.out]
    have bE := bN6.set 7 (.int .i64 ((o : Int) + 1))
    have tE := (Turn.refl (fun i => i = B) wN16).set (p := ⟨B, 7, none⟩) rfl (.int .i64 ((o : Int) + 1))
    have hoE := (hoN6.turnB bN6 (by decide) (by decide) tE)
    have bME := bMN6.turn tE (by omega)
    have bRE := bRN6.turn tE (by omega)
    have twE := Turn.trans twN6 tE (fun i _ e => e)
    have zE := tE.size
    have fB := bN6.frees
    go_upto_region 18 with fail
    clear cB fB
    generalize World.setCell _ _ _ = wE at *
    refine hw_start (n := 13) (S := fun X => Turn (fun i => i = (w.heap.size + 1)) wE X) rfl (by kernel_rfl) (((New.refl _).drew).turn) (fun hH => ?_)
    refine' hw_take 0 (some 121) _ rfl rfl (by kernel_rfl) (by kernel_rfl) (by kernel_rfl) (fun _ _ _ h => h) (by rfl) hH ?hy239 ?rest239
    case hy239 =>
      intro X hX
      go_simp
      try rfl
    simp only [Act.put, List.setIfInBounds_toArray, List.set_cons_zero, List.set_cons_succ]
    refine' hw_take 1 (some 122) _ rfl rfl (by kernel_rfl) (by kernel_rfl) (by kernel_rfl) (fun _ _ _ h => h) (by rfl) hH ?hy240 ?rest240
    case hy240 =>
      intro X hX
      go_simp
      try rfl
    simp only [Act.put, List.setIfInBounds_toArray, List.set_cons_zero, List.set_cons_succ]
    refine' hw_take 2 (some 123) _ rfl rfl (by kernel_rfl) (by kernel_rfl) (by kernel_rfl) (fun _ _ _ h => h) (by rfl) hH ?hy241 ?rest241
    case hy241 =>
      intro X hX
      go_simp
      try rfl
    simp only [Act.put, List.setIfInBounds_toArray, List.set_cons_zero, List.set_cons_succ]
    refine' hw_take 3 (some 124) _ rfl rfl (by kernel_rfl) (by kernel_rfl) (by kernel_rfl) (fun _ _ _ h => h) (by rfl) hH ?hy242 ?rest242
    case hy242 =>
      intro X hX
      go_simp
      try rfl
    simp only [Act.put, List.setIfInBounds_toArray, List.set_cons_zero, List.set_cons_succ]
    refine' hw_take 4 (some 125) _ rfl rfl (by kernel_rfl) (by kernel_rfl) (by kernel_rfl) (fun _ _ _ h => h) (by rfl) hH ?hy243 ?rest243
    case hy243 =>
      intro X hX
      have cX := (bE.turn hX (by omega)).cells
      go_simp
      try rfl
    simp only [Act.put, List.setIfInBounds_toArray, List.set_cons_zero, List.set_cons_succ]
    refine' hw_take 5 (some 126) _ rfl rfl (by kernel_rfl) (by kernel_rfl) (by kernel_rfl) (fun _ _ _ h => h) (by rfl) hH ?hy244 ?rest244
    case hy244 =>
      intro X hX
      go_simp
      try rfl
    simp only [Act.put, List.setIfInBounds_toArray, List.set_cons_zero, List.set_cons_succ]
    refine' hw_take 6 (some 127) _ rfl rfl (by kernel_rfl) (by kernel_rfl) (by kernel_rfl) (fun _ _ _ h => h) (by rfl) hH ?hy245 ?rest245
    case hy245 =>
      intro X hX
      go_simp
      try rfl
    simp only [Act.put, List.setIfInBounds_toArray, List.set_cons_zero, List.set_cons_succ]
    refine' hw_take 7 (some 128) _ rfl rfl (by kernel_rfl) (by kernel_rfl) (by kernel_rfl) (fun _ _ _ h => h) (by rfl) hH ?hy246 ?rest246
    case hy246 =>
      intro X hX
      go_simp
      try rfl
    simp only [Act.put, List.setIfInBounds_toArray, List.set_cons_zero, List.set_cons_succ]
    refine' hw_take 8 (some 129) _ rfl rfl (by kernel_rfl) (by kernel_rfl) (by kernel_rfl) (fun _ _ _ h => h) (by rfl) hH ?hy247 ?rest247
    case hy247 =>
      intro X hX
      have cX := (bE.turn hX (by omega)).cells
      go_simp
      try rfl
    simp only [Act.put, List.setIfInBounds_toArray, List.set_cons_zero, List.set_cons_succ]
    refine hw_call 9 (some 130) rfl rfl (by kernel_rfl) (by rfl) (fun K hK => ?_)
    go_simp
    refine (min_any ((o : Int) + 1) su2 _).mono ?_
    rintro e wz ⟨rfl, hwz⟩
    subst hwz
    rw [HAT.out]
    go_simp
    refine hK.out _ _ hH (fun hH1 => ?_)
    simp only [Act.put, List.setIfInBounds_toArray, List.set_cons_zero, List.set_cons_succ]
    refine hw_call 10 (some 131) rfl rfl (by kernel_rfl) (by rfl) (fun K hK => ?_)
    go_simp
    refine (taken_any at2 B 0 id up ro ep su2 ((o : Int) + 1) ot co A2 none (o + 1) c2 0 0 _ (bE.turn hH1 (by omega)) hid).mono ?_
    rintro e w5 ⟨rfl, hn5⟩
    have t5 := Turn.trans hH1 hn5 (fun i _ f => f.elim)
    go_simp
    refine hK.out _ _ t5 (fun hH5 => ?_)
    simp only [Act.put, List.setIfInBounds_toArray, List.set_cons_zero, List.set_cons_succ]
    refine hw_call 11 none rfl rfl (by kernel_rfl) (by rfl) (fun K hK => ?_)
    have n5 : New wE w5 := ((New.refl _).drew).trans hn5
    have bR5 := bRE.new n5
    have bE5 := bE.new n5
    have ho5 := hoE.new n5
    have z5 := n5.size
    refine hw_store 46 (.tmp 4) (.tmp 131) rfl rfl (w.heap.size + 1) #[.int .i64 2, .int .i64 (1 - id), .int .i64 ep, .int .i64 at2, .int .i64 0, .bool false, .int .i64 0, .int .i64 0, .int .i64 0, .slice none 0 0] #[.int .i64 0, .int .i64 0, .int .i64 0, .int .i64 0, .int .i64 0, .bool false, .int .i64 0, .int .i64 0, .int .i64 0, .slice none 0 0] rfl rfl bR5 (by kernel_rfl) rfl (by kernel_rfl) ?_
    have tR := Turn.rowW (Turn.refl (fun i => i = (w.heap.size + 1)) w5) rfl #[.int .i64 2, .int .i64 (1 - id), .int .i64 ep, .int .i64 at2, .int .i64 0, .bool false, .int .i64 0, .int .i64 0, .int .i64 0, .slice none 0 0]
    have bRR := bR5.rowW #[.int .i64 2, .int .i64 (1 - id), .int .i64 ep, .int .i64 at2, .int .i64 0, .bool false, .int .i64 0, .int .i64 0, .int .i64 0, .slice none 0 0]
    have hoR := ho5.turnB bR5 (by decide) (by decide) tR
    have bER := bE5.turn tR (by omega)
    have tF := Turn.trans (Turn.trans twE n5 (fun i _ f => f.elim)) tR (fun i hi e => by omega)
    have zR := tR.size
    refine hK.out undef _ (Turn.trans t5 tR (fun i _ e => e)) (fun hS2 => ?_)
    simp only [Act.put, List.setIfInBounds_toArray, List.set_cons_zero, List.set_cons_succ]
    refine' hw_take 12 (some 5) _ rfl rfl (by kernel_rfl) (by kernel_rfl) (by kernel_rfl) (fun _ _ _ h => h) (by rfl) hS2 ?hy248 ?rest248
    case hy248 =>
      intro X hX
      go_simp
      try rfl
    simp only [Act.put, List.setIfInBounds_toArray, List.set_cons_zero, List.set_cons_succ]
    refine wpAnyH_done (by kernel_rfl) ?_ _
    generalize World.setRow _ _ _ = wR at *
    go_wp2
    all_goals exact bodyPost_ret (results_rowT rfl rfl rfl bRR ⟨_, Try.underlying46⟩ (by kernel_rfl)) rfl ⟨A2, c2, U, rfl, bER, hU, hoR.up (by omega), tF⟩
  exact fun j hj => by cases hj

end Go.Proofs.Ythnigcalboobgaa
