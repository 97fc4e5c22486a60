/- What is proved here: what hearing an entry that is to be appended answers, where it is put in. What is proved here: what hearing an entry that is to be appended answers, where it is put in behind the last. What is proved here: what hearing an entry that is to be appended answers: all cases as one. What is proved here: what the program's HearMail answers. What is proved here: what the model's l12Hear answers where an entry is to be appended. What is proved here: what the model's HearMail answers. -/
import Derived.Test.YthnigcalboobgaaHM4
import Derived.Test.YthnigcalboobgaaHM3
import Derived.Deep.RegionHeld3
import Derived.Test.YthnigcalboobgaaHM2
namespace Go.Proofs.Ythnigcalboobgaa
open Go.ChangeShapes Go.WideShapes Go.ChangeAt Go.RowKit
set_option linter.unusedVariables false
set_option linter.unusedSimpArgs false
set_option maxRecDepth 100000

set_option maxHeartbeats 3200000 in
theorem ha_mid (B MB lo o : Nat) (id : Int) (up : Bool) (ro ep su ma ot co : Int) (A : Option Addr) (n c : Nat) (V1 : List EkV) (kd tgt me pr : Int) (e1 k1 p1 : Int) (x : Option Addr) (m d : Nat) (xs : List Int) (wb w : World) (hb : Blk w B 36 #[.int .i64 id, .bool up, .int .i64 ro, .int .i64 ep, .slice A n c, .int .i64 su, .int .i64 ma, .int .i64 ot, .int .i64 co]) (hM : Blk w MB 46 #[.int .i64 kd, .int .i64 tgt, .int .i64 me, .int .i64 (o : Int), .int .i64 pr, .bool true, .int .i64 e1, .int .i64 k1, .int .i64 p1, .slice x m d]) (hoL0 : OwL w lo w.heap.size (.slice A n c) V1) (hlo0 : lo ≤ w.heap.size) (hMlo : MB < lo) (hlB : lo ≤ B) (hid : id = 0 ∨ id = 1) (hn : n ≤ 100) (hr : ¬ ro = 1) (ho : o ≤ n) (hq : prevE (V1.map EkV.r) o = pr) (hma : 0 ≤ ma ∧ ma ≤ n) (hx : BsAt wb x xs) (hwb : New wb w) (hBb : wb.heap.size ≤ B) (hX : xs.length = m) (hnx : x = none → m = 0 ∧ d = 0) (hm : m ≤ 1048576) (ho1 : o < n) (he : ¬ prevE (V1.map EkV.r) (o + 1) = e1) (hc : co ≤ o) :
    Calls Try.prog 29 #[.pointer (some ⟨B, 0, none⟩), .pointer (some ⟨MB, 0, none⟩)] w (HaAns w lo B A n c (⟨0, id, up, ro, ep, min su o, o + 1, ot, co, (V1.map EkV.r).take o ++ [⟨e1, k1, p1, xs⟩], [tkM id ep (min (o + 1) (min su o))]⟩)) := by
  have hd1 : decide ((n : Int) < (o : Int)) = false := by simp; omega
  have hd2 : (pr != pr) = false := by simp
  have HQ : Hid (prevE (V1.map EkV.r) o = pr) := hq
  clear hq
  have hMn : ¬ (MB = B ∨ (Value.slice A n c).ownBlock = some MB) := by
    rintro (e | e)
    · omega
    · obtain ⟨y, d0, -, -, hrr⟩ := row9_form hoL0.row
      have := (hrr MB e).1
      omega
  have hrb := hoL0.rhi
  have HL2 : Hid (((V1.map EkV.r).take o ++ [(⟨e1, k1, p1, xs⟩ : Ek)]).length = o + 1) := by
    have := hoL0.lg.2
    unfold Hid
    rw [List.length_append, List.length_take, List.length_map, this]
    simp
    omega
  obtain ⟨mn, hmn⟩ : ∃ mn, mn = min su (o : Int) := ⟨_, rfl⟩
  rw [← hmn]
  have HMI : Hid (mn = min su (o : Int)) := hmn
  clear hmn
  obtain ⟨a2, ha2⟩ : ∃ a2, a2 = min ((o : Int) + 1) mn := ⟨_, rfl⟩
  rw [← ha2]
  have HA2 : Hid (a2 = min ((o : Int) + 1) mn) := ha2
  clear ha2
  have HTG : Hid ((if ((o : Int) + 1) < (if ma < ((o : Int) + 1) then ((o : Int) + 1) else ma) then ((o : Int) + 1) else (if ma < ((o : Int) + 1) then ((o : Int) + 1) else ma)) = ((o : Int) + 1)) := by unfold Hid; split <;> split <;> omega
  have HL : Hid (V1.length = n) := hoL0.lg.2
  have hw := (New.refl w).alloc (.cells #[.int .i64 0, .int .i64 0, .bool false, .int .i64 0, .int .i64 0, .slice none 0 0, .int .i64 0, .int .i64 0, .int .i64 0, .int .i64 0, .slice none 0 0] 39)
  have bR := Blk.mk w w.heap.size 39 #[.int .i64 0, .int .i64 0, .bool false, .int .i64 0, .int .i64 0, .slice none 0 0, .int .i64 0, .int .i64 0, .int .i64 0, .int .i64 0, .slice none 0 0] rfl
  have hb0 := hb.new hw
  have hM0 := hM.new hw
  have hoL := (hoL0.new hw).up hw.size
  have hlt := hb.lt
  have hMt := hM.lt
  have s0 : Hid ((w.alloc (.cells #[.int .i64 0, .int .i64 0, .bool false, .int .i64 0, .int .i64 0, .slice none 0 0, .int .i64 0, .int .i64 0, .int .i64 0, .int .i64 0, .slice none 0 0] 39)).heap.size = w.heap.size + 1) := by unfold Hid; simp
  go_enter Try.func29, Try.ntmps29
  go_upto_region 1 with fail
  generalize w.alloc (.cells #[.int .i64 0, .int .i64 0, .bool false, .int .i64 0, .int .i64 0, .slice none 0 0, .int .i64 0, .int .i64 0, .int .i64 0, .int .i64 0, .slice none 0 0] 39) = w0 at *
  have S0 := s0.out
  go_wp2_with fail
  refine (active_no B id up ro ep su ma ot co A n c _ hb0 hr).mono ?_
  rintro e wz ⟨rfl, hwz⟩
  obtain rfl := hwz.symm
  go_upto_region 3 with fail
  refine hw_start (n := 20) (S := fun X => New w0 X) rfl (by kernel_rfl) ((New.refl _).drew) (fun hH => ?_)
  refine' hw_take 0 (some 10) _ rfl rfl (by kernel_rfl) (by kernel_rfl) (by kernel_rfl) (fun _ _ _ h => h) (by rfl) hH ?hy217 ?rest217
  case hy217 =>
    intro X hX
    go_simp
    try rfl
  simp only [Act.put, List.setIfInBounds_toArray, List.set_cons_zero, List.set_cons_succ]
  refine' hw_take 1 (some 11) _ rfl rfl (by kernel_rfl) (by kernel_rfl) (by kernel_rfl) (fun _ _ _ h => h) (by rfl) hH ?hy218 ?rest218
  case hy218 =>
    intro X hX
    go_simp
    try rfl
  simp only [Act.put, List.setIfInBounds_toArray, List.set_cons_zero, List.set_cons_succ]
  refine' hw_take 2 (some 12) _ rfl rfl (by kernel_rfl) (by kernel_rfl) (by kernel_rfl) (fun _ _ _ h => h) (by rfl) hH ?hy219 ?rest219
  case hy219 =>
    intro X hX
    go_simp
    try rfl
  simp only [Act.put, List.setIfInBounds_toArray, List.set_cons_zero, List.set_cons_succ]
  refine' hw_take 3 (some 13) _ rfl rfl (by kernel_rfl) (by kernel_rfl) (by kernel_rfl) (fun _ _ _ h => h) (by rfl) hH ?hy220 ?rest220
  case hy220 =>
    intro X hX
    have cX := (hM0.new hX).cells
    go_simp
    try rfl
  simp only [Act.put, List.setIfInBounds_toArray, List.set_cons_zero, List.set_cons_succ]
  refine' hw_take 4 (some 14) _ rfl rfl (by kernel_rfl) (by kernel_rfl) (by kernel_rfl) (fun _ _ _ h => h) (by rfl) hH ?hy221 ?rest221
  case hy221 =>
    intro X hX
    go_simp
    try rfl
  simp only [Act.put, List.setIfInBounds_toArray, List.set_cons_zero, List.set_cons_succ]
  refine hw_call 5 (some 15) rfl rfl (by kernel_rfl) (by rfl) (fun K hK => ?_)
  go_simp
  refine (count_any B id up ro ep su ma ot co A n c _ (hb0.new hH)).mono ?_
  rintro e wz ⟨rfl, hwz⟩
  subst hwz
  go_simp
  refine hK.out _ _ ((New.refl _).drew) (fun hH2 => ?_)
  simp only [Act.put, List.setIfInBounds_toArray, List.set_cons_zero, List.set_cons_succ]
  refine' hw_take 6 (some 16) (.bool false) rfl rfl (by kernel_rfl) (by kernel_rfl) (by kernel_rfl) (fun _ _ _ h => h) (by rfl) hH2 ?hyL6 ?restL6
  case hyL6 =>
    intro X hX
    go_simp
    try rfl
  simp only [Act.put, List.setIfInBounds_toArray, List.set_cons_zero, List.set_cons_succ]
  refine' hw_take 7 (some 17) _ rfl rfl (by kernel_rfl) (by kernel_rfl) (by kernel_rfl) (fun _ _ _ h => h) (by rfl) hH2 ?hy222 ?rest222
  case hy222 =>
    intro X hX
    go_simp
    try rfl
  simp only [Act.put, List.setIfInBounds_toArray, List.set_cons_zero, List.set_cons_succ]
  refine' hw_take 8 (some 18) _ rfl rfl (by kernel_rfl) (by kernel_rfl) (by kernel_rfl) (fun _ _ _ h => h) (by rfl) hH2 ?hy223 ?rest223
  case hy223 =>
    intro X hX
    go_simp
    try rfl
  simp only [Act.put, List.setIfInBounds_toArray, List.set_cons_zero, List.set_cons_succ]
  refine' hw_take 9 (some 19) _ rfl rfl (by kernel_rfl) (by kernel_rfl) (by kernel_rfl) (fun _ _ _ h => h) (by rfl) hH2 ?hy224 ?rest224
  case hy224 =>
    intro X hX
    go_simp
    try rfl
  simp only [Act.put, List.setIfInBounds_toArray, List.set_cons_zero, List.set_cons_succ]
  refine' hw_take 10 (some 20) _ rfl rfl (by kernel_rfl) (by kernel_rfl) (by kernel_rfl) (fun _ _ _ h => h) (by rfl) hH2 ?hy225 ?rest225
  case hy225 =>
    intro X hX
    go_simp
    try rfl
  simp only [Act.put, List.setIfInBounds_toArray, List.set_cons_zero, List.set_cons_succ]
  refine' hw_take 11 (some 21) _ rfl rfl (by kernel_rfl) (by kernel_rfl) (by kernel_rfl) (fun _ _ _ h => h) (by rfl) hH2 ?hy226 ?rest226
  case hy226 =>
    intro X hX
    go_simp
    try rfl
  simp only [Act.put, List.setIfInBounds_toArray, List.set_cons_zero, List.set_cons_succ]
  refine' hw_take 12 (some 22) _ rfl rfl (by kernel_rfl) (by kernel_rfl) (by kernel_rfl) (fun _ _ _ h => h) (by rfl) hH2 ?hy227 ?rest227
  case hy227 =>
    intro X hX
    have cX := (hM0.new hX).cells
    go_simp
    try rfl
  simp only [Act.put, List.setIfInBounds_toArray, List.set_cons_zero, List.set_cons_succ]
  refine' hw_take 14 (some 24) _ rfl rfl (by kernel_rfl) (by kernel_rfl) (by kernel_rfl) (fun _ _ _ h => h) (by rfl) hH2 ?hy228 ?rest228
  case hy228 =>
    intro X hX
    go_simp
    try rfl
  simp only [Act.put, List.setIfInBounds_toArray, List.set_cons_zero, List.set_cons_succ]
  refine' hw_take 15 (some 25) _ rfl rfl (by kernel_rfl) (by kernel_rfl) (by kernel_rfl) (fun _ _ _ h => h) (by rfl) hH2 ?hy229 ?rest229
  case hy229 =>
    intro X hX
    go_simp
    try rfl
  simp only [Act.put, List.setIfInBounds_toArray, List.set_cons_zero, List.set_cons_succ]
  refine' hw_take 16 (some 26) _ rfl rfl (by kernel_rfl) (by kernel_rfl) (by kernel_rfl) (fun _ _ _ h => h) (by rfl) hH2 ?hy230 ?rest230
  case hy230 =>
    intro X hX
    go_simp
    try rfl
  simp only [Act.put, List.setIfInBounds_toArray, List.set_cons_zero, List.set_cons_succ]
  refine' hw_take 17 (some 27) _ rfl rfl (by kernel_rfl) (by kernel_rfl) (by kernel_rfl) (fun _ _ _ h => h) (by rfl) hH2 ?hy231 ?rest231
  case hy231 =>
    intro X hX
    have cX := (hM0.new hX).cells
    go_simp
    try rfl
  simp only [Act.put, List.setIfInBounds_toArray, List.set_cons_zero, List.set_cons_succ]
  refine hw_call 13 (some 23) rfl rfl (by kernel_rfl) (by rfl) (fun K hK => ?_)
  go_simp
  refine (eahead_any o B id up ro ep su ma ot co A n c V1 _ (hb0.new hH2) (hoL.lg.1.new hH2) HL.out (by omega) ho).mono ?_
  rintro e wz ⟨rfl, hwz⟩
  subst hwz
  rw [HQ.out]
  go_simp
  refine hK.out _ _ ((New.refl _).drew) (fun hH3 => ?_)
  simp only [Act.put, List.setIfInBounds_toArray, List.set_cons_zero, List.set_cons_succ]
  refine' hw_take 18 (some 28) (.bool false) rfl rfl (by kernel_rfl) (by kernel_rfl) (by kernel_rfl) (fun _ _ _ h => h) (by rfl) hH3 ?hyL18 ?restL18
  case hyL18 =>
    intro X hX
    go_simp
    try rfl
  simp only [Act.put, List.setIfInBounds_toArray, List.set_cons_zero, List.set_cons_succ]
  refine' hw_take 19 (some 29) _ rfl rfl (by kernel_rfl) (by kernel_rfl) (by kernel_rfl) (fun _ _ _ h => h) (by rfl) hH3 ?hy232 ?rest232
  case hy232 =>
    intro X hX
    go_simp
    try rfl
  simp only [Act.put, List.setIfInBounds_toArray, List.set_cons_zero, List.set_cons_succ]
  refine wpAnyH_done (by kernel_rfl) ?_ _
  have hb1 := hb0.new hH3
  have hM1 := hM0.new hH3
  have hoL1 := hoL.new hH3
  have bR1 := bR.new hH3
  have hw1 := hw.trans hH3
  have HZ : Hid (w0.drew.heap.size = w0.heap.size) := rfl
  have zw1 : w0.heap.size ≤ w0.drew.heap.size := Nat.le_refl _
  clear hH hH2 hH3
  generalize w0.drew = w1 at *
  have tw1 : Turn (fun i => i = B ∨ (Value.slice A n c).ownBlock = some i) w w1 := hw1.turn
  have cM := hM1.cells
  have zz : w1.heap.size = w0.heap.size := HZ.out
  have zw := hw1.size
  go_upto_region 7 with fail
  refine hw_start (n := 11) (S := fun X => Turn (fun i => i = B ∨ (Value.slice A n c).ownBlock = some i) w1 X) rfl (by kernel_rfl) (((New.refl _).drew).turn) (fun hH => ?_)
  refine' hw_take 0 (some 49) _ rfl rfl (by kernel_rfl) (by kernel_rfl) (by kernel_rfl) (fun _ _ _ h => h) (by rfl) hH ?hy233 ?rest233
  case hy233 =>
    intro X hX
    go_simp
    try rfl
  simp only [Act.put, List.setIfInBounds_toArray, List.set_cons_zero, List.set_cons_succ]
  refine' hw_take 1 (some 50) _ rfl rfl (by kernel_rfl) (by kernel_rfl) (by kernel_rfl) (fun _ _ _ h => h) (by rfl) hH ?hy234 ?rest234
  case hy234 =>
    intro X hX
    go_simp
    try rfl
  simp only [Act.put, List.setIfInBounds_toArray, List.set_cons_zero, List.set_cons_succ]
  refine' hw_take 2 (some 51) _ rfl rfl (by kernel_rfl) (by kernel_rfl) (by kernel_rfl) (fun _ _ _ h => h) (by rfl) hH ?hy235 ?rest235
  case hy235 =>
    intro X hX
    go_simp
    try rfl
  simp only [Act.put, List.setIfInBounds_toArray, List.set_cons_zero, List.set_cons_succ]
  refine' hw_take 3 (some 52) _ rfl rfl (by kernel_rfl) (by kernel_rfl) (by kernel_rfl) (fun _ _ _ h => h) (by rfl) hH ?hy236 ?rest236
  case hy236 =>
    intro X hX
    go_simp
    try rfl
  simp only [Act.put, List.setIfInBounds_toArray, List.set_cons_zero, List.set_cons_succ]
  refine' hw_take 4 (some 53) (.agg #[.int .i64 e1, .int .i64 k1, .int .i64 p1, .slice x m d]) rfl rfl (by kernel_rfl) (by kernel_rfl) (by kernel_rfl) (fun _ _ _ h => h) (by rfl) hH ?hyE ?restE
  case hyE =>
    intro X hX
    have cX := (hM1.turn hX hMn).cells
    go_simp
    try rfl
  simp only [Act.put, List.setIfInBounds_toArray, List.set_cons_zero, List.set_cons_succ]
  refine' hw_take 5 (some 54) _ rfl rfl (by kernel_rfl) (by kernel_rfl) (by kernel_rfl) (fun _ _ _ h => h) (by rfl) hH ?hy237 ?rest237
  case hy237 =>
    intro X hX
    go_simp
    try rfl
  simp only [Act.put, List.setIfInBounds_toArray, List.set_cons_zero, List.set_cons_succ]
  refine' hw_take 6 (some 55) _ rfl rfl (by kernel_rfl) (by kernel_rfl) (by kernel_rfl) (fun _ _ _ h => h) (by rfl) hH ?hy238 ?rest238
  case hy238 =>
    intro X hX
    go_simp
    try rfl
  simp only [Act.put, List.setIfInBounds_toArray, List.set_cons_zero, List.set_cons_succ]
  refine' hw_take 7 (some 56) _ rfl rfl (by kernel_rfl) (by kernel_rfl) (by kernel_rfl) (fun _ _ _ h => h) (by rfl) hH ?hy239 ?rest239
  case hy239 =>
    intro X hX
    go_simp
    try rfl
  simp only [Act.put, List.setIfInBounds_toArray, List.set_cons_zero, List.set_cons_succ]
  refine' hw_take 8 (some 57) _ rfl rfl (by kernel_rfl) (by kernel_rfl) (by kernel_rfl) (fun _ _ _ h => h) (by rfl) hH ?hy240 ?rest240
  case hy240 =>
    intro X hX
    have cX := (hM1.turn hX hMn).cells
    go_simp
    try rfl
  simp only [Act.put, List.setIfInBounds_toArray, List.set_cons_zero, List.set_cons_succ]
  refine hw_call 9 (some 58) rfl rfl (by kernel_rfl) (by rfl) (fun K hK => ?_)
  go_simp
  refine (take_mid e1 k1 p1 x m d xs o B lo id up ro ep su ma ot co A n c V1 wb _ (hb1.new ((New.refl _).drew)) ((hoL1.new ((New.refl _).drew)).up (by show w0.heap.size ≤ w1.heap.size; omega)) (by show lo ≤ w1.heap.size; omega) hx ((hwb.trans hw1).drew) hBb hX hnx hm hn ho1 he hc).mono ?_
  rintro e w2 ⟨A2, c2, V2, rfl, hb2, hV2, hoL2, t2⟩
  rw [← HMI.out] at hb2
  have t2' := Turn.trans hH t2 (fun i _ e => e)
  go_simp
  refine hK.out _ _ t2' (fun hH2 => ?_)
  simp only [Act.put, List.setIfInBounds_toArray, List.set_cons_zero, List.set_cons_succ]
  refine' hw_take 10 (some 6) _ rfl rfl (by kernel_rfl) (by kernel_rfl) (by kernel_rfl) (fun _ _ _ h => h) (by rfl) hH2 ?hy241 ?rest241
  case hy241 =>
    intro X hX
    go_simp
    try rfl
  simp only [Act.put, List.setIfInBounds_toArray, List.set_cons_zero, List.set_cons_succ]
  refine wpAnyH_done (by kernel_rfl) ?_ _
  have bR2 := (bR1.new ((New.refl _).drew)).turn t2 (by rintro (e | e); omega; exact absurd (hrb _ e) (by omega))
  have tw2 := Turn.trans tw1 (Turn.trans ((New.refl _).drew.turn) t2 (fun i _ e => e)) (fun i _ e => e)
  have z12 : w1.heap.size ≤ w2.heap.size := t2.size
  clear hH hH2 cM
  go_upto_region 11 with fail
  have bBd := hb2.new ((New.refl _).drew)
  have cD := bBd.cells
  have fD := bBd.frees
  refine hw_start (n := 13) (S := fun _ => True) rfl (by kernel_rfl) (trivial) (fun hH => ?_)
  refine' hw_take 0 (some 65) _ rfl rfl (by kernel_rfl) (by kernel_rfl) (by kernel_rfl) (fun _ _ _ h => h) (by rfl) hH ?hy242 ?rest242
  case hy242 =>
    intro X hX
    go_simp
    try rfl
  simp only [Act.put, List.setIfInBounds_toArray, List.set_cons_zero, List.set_cons_succ]
  refine' hw_take 1 (some 66) _ rfl rfl (by kernel_rfl) (by kernel_rfl) (by kernel_rfl) (fun _ _ _ h => h) (by rfl) hH ?hy243 ?rest243
  case hy243 =>
    intro X hX
    go_simp
    try rfl
  simp only [Act.put, List.setIfInBounds_toArray, List.set_cons_zero, List.set_cons_succ]
  refine' hw_take 2 (some 67) _ rfl rfl (by kernel_rfl) (by kernel_rfl) (by kernel_rfl) (fun _ _ _ h => h) (by rfl) hH ?hy244 ?rest244
  case hy244 =>
    intro X hX
    go_simp
    try rfl
  simp only [Act.put, List.setIfInBounds_toArray, List.set_cons_zero, List.set_cons_succ]
  refine' hw_take 3 (some 68) _ rfl rfl (by kernel_rfl) (by kernel_rfl) (by kernel_rfl) (fun _ _ _ h => h) (by rfl) hH ?hy245 ?rest245
  case hy245 =>
    intro X hX
    go_simp
    try rfl
  simp only [Act.put, List.setIfInBounds_toArray, List.set_cons_zero, List.set_cons_succ]
  refine' hw_take 5 (some 70) _ rfl rfl (by kernel_rfl) (by kernel_rfl) (by kernel_rfl) (fun _ _ _ h => h) (by rfl) hH ?hy246 ?rest246
  case hy246 =>
    intro X hX
    go_simp
    try rfl
  simp only [Act.put, List.setIfInBounds_toArray, List.set_cons_zero, List.set_cons_succ]
  refine' hw_take 7 (some 72) _ rfl rfl (by kernel_rfl) (by kernel_rfl) (by kernel_rfl) (fun _ _ _ h => h) (by rfl) hH ?hy247 ?rest247
  case hy247 =>
    intro X hX
    go_simp
    try rfl
  simp only [Act.put, List.setIfInBounds_toArray, List.set_cons_zero, List.set_cons_succ]
  refine wpAnyH_ready (rs := [4, 8]) (by kernel_rfl) (by simp) ?_
  refine hw_step 4 (some 69) rfl rfl (by rfl) (fun K hK => ?_) ?_
  · skip
    go_simp
    refine hK.out _ _ trivial (fun hH1 => ?_)
    simp only [Act.put, List.setIfInBounds_toArray, List.set_cons_zero, List.set_cons_succ]
    refine' hw_take 6 (some 71) _ rfl rfl (by kernel_rfl) (by kernel_rfl) (by kernel_rfl) (fun _ _ _ h => h) (by rfl) hH ?hy248 ?rest248
    case hy248 =>
      intro X hX
      go_simp
      try rfl
    simp only [Act.put, List.setIfInBounds_toArray, List.set_cons_zero, List.set_cons_succ]
    refine hw_call 8 (some 73) rfl rfl (by kernel_rfl) (by rfl) (fun K hK => ?_)
    go_simp
    refine (count_any B id up ro ep mn ma ot co A2 (o + 1) c2 _ bBd).mono ?_
    rintro e wz ⟨rfl, hwz⟩
    subst hwz
    go_simp
    refine hK.out _ _ trivial (fun hH2 => ?_)
    simp only [Act.put, List.setIfInBounds_toArray, List.set_cons_zero, List.set_cons_succ]
    refine' hw_take 9 (some 74) _ rfl rfl (by kernel_rfl) (by kernel_rfl) (by kernel_rfl) (fun _ _ _ h => h) (by rfl) hH ?hy249 ?rest249
    case hy249 =>
      intro X hX
      go_simp
      try rfl
    simp only [Act.put, List.setIfInBounds_toArray, List.set_cons_zero, List.set_cons_succ]
    refine' hw_take 10 (some 75) _ rfl rfl (by kernel_rfl) (by kernel_rfl) (by kernel_rfl) (fun _ _ _ h => h) (by rfl) hH ?hy250 ?rest250
    case hy250 =>
      intro X hX
      go_simp
      try rfl
    simp only [Act.put, List.setIfInBounds_toArray, List.set_cons_zero, List.set_cons_succ]
    refine' hw_take 11 (some 76) _ rfl rfl (by kernel_rfl) (by kernel_rfl) (by kernel_rfl) (fun _ _ _ h => h) (by rfl) hH ?hy251 ?rest251
    case hy251 =>
      intro X hX
      go_simp
      try rfl
    simp only [Act.put, List.setIfInBounds_toArray, List.set_cons_zero, List.set_cons_succ]
    refine hw_call 12 none rfl rfl (by kernel_rfl) (by rfl) (fun K hK => ?_)
    go_simp
    refine hK.out undef _ trivial (fun hS2 => ?_)
    refine wpAnyH_done (by kernel_rfl) ?_ _
    rw [HTG.out]
    have bE := bBd.set 6 (.int .i64 ((o : Int) + 1))
    have tE := (((New.refl w2).drew.turn (S := fun i => i = B))).set (p := ⟨B, 6, none⟩) rfl (.int .i64 ((o : Int) + 1))
    have HW : w2.drew.setCell ⟨B, 6, none⟩ (.int .i64 ((o : Int) + 1)) = (w2.setCell ⟨B, 6, none⟩ (.int .i64 ((o : Int) + 1))).drew := rfl
    rw [HW] at bE tE
    have hoE := hoL2.turnB hb2 (by decide) (by decide) tE
    have bRE := bR2.turn tE (by omega)
    have tAE := Turn.trans tw2 tE (fun i _ e => .inl e)
    have zE := tE.size
    have hoE2 := hoE.up (Nat.le_trans (by omega) zE)
    clear cD fD
    clear HW
    generalize (w2.setCell ⟨B, 6, none⟩ (.int .i64 ((o : Int) + 1))).drew = wE at *
    go_upto_region 12 with fail
    refine hw_start (n := 17) (S := fun X => Turn (fun i => i = w.heap.size) wE X) rfl (by kernel_rfl) (((New.refl _).drew).turn) (fun hH => ?_)
    refine' hw_take 0 (some 77) _ rfl rfl (by kernel_rfl) (by kernel_rfl) (by kernel_rfl) (fun _ _ _ h => h) (by rfl) hH ?hy252 ?rest252
    case hy252 =>
      intro X hX
      go_simp
      try rfl
    simp only [Act.put, List.setIfInBounds_toArray, List.set_cons_zero, List.set_cons_succ]
    refine' hw_take 1 (some 78) _ rfl rfl (by kernel_rfl) (by kernel_rfl) (by kernel_rfl) (fun _ _ _ h => h) (by rfl) hH ?hy253 ?rest253
    case hy253 =>
      intro X hX
      go_simp
      try rfl
    simp only [Act.put, List.setIfInBounds_toArray, List.set_cons_zero, List.set_cons_succ]
    refine' hw_take 2 (some 79) (.agg #[.int .i64 id, .bool up, .int .i64 ro, .int .i64 ep, .slice A2 (o + 1) c2, .int .i64 mn, .int .i64 ((o : Int) + 1), .int .i64 ot, .int .i64 co]) rfl rfl (by kernel_rfl) (by kernel_rfl) (by kernel_rfl) (fun _ _ _ h => h) (by rfl) hH ?hyA12x254 ?restA12x254
    case hyA12x254 =>
      intro X hX
      exact run_load_blk 36 (.tmp 78) rfl B rfl #[.int .i64 id, .bool up, .int .i64 ro, .int .i64 ep, .slice A2 (o + 1) c2, .int .i64 mn, .int .i64 ((o : Int) + 1), .int .i64 ot, .int .i64 co] _ (bE.turn hX (by omega)) Try.underlying36 rfl (by kernel_rfl)
    simp only [Act.put, List.setIfInBounds_toArray, List.set_cons_zero, List.set_cons_succ]
    refine' hw_take 3 (some 80) _ rfl rfl (by kernel_rfl) (by kernel_rfl) (by kernel_rfl) (fun _ _ _ h => h) (by rfl) hH ?hy255 ?rest255
    case hy255 =>
      intro X hX
      go_simp
      try rfl
    simp only [Act.put, List.setIfInBounds_toArray, List.set_cons_zero, List.set_cons_succ]
    refine' hw_take 4 (some 81) _ rfl rfl (by kernel_rfl) (by kernel_rfl) (by kernel_rfl) (fun _ _ _ h => h) (by rfl) hH ?hy256 ?rest256
    case hy256 =>
      intro X hX
      go_simp
      try rfl
    simp only [Act.put, List.setIfInBounds_toArray, List.set_cons_zero, List.set_cons_succ]
    refine' hw_take 5 (some 82) _ rfl rfl (by kernel_rfl) (by kernel_rfl) (by kernel_rfl) (fun _ _ _ h => h) (by rfl) hH ?hy257 ?rest257
    case hy257 =>
      intro X hX
      go_simp
      try rfl
    simp only [Act.put, List.setIfInBounds_toArray, List.set_cons_zero, List.set_cons_succ]
    refine' hw_take 6 (some 83) _ rfl rfl (by kernel_rfl) (by kernel_rfl) (by kernel_rfl) (fun _ _ _ h => h) (by rfl) hH ?hy258 ?rest258
    case hy258 =>
      intro X hX
      go_simp
      try rfl
    simp only [Act.put, List.setIfInBounds_toArray, List.set_cons_zero, List.set_cons_succ]
    refine' hw_take 7 (some 84) _ rfl rfl (by kernel_rfl) (by kernel_rfl) (by kernel_rfl) (fun _ _ _ h => h) (by rfl) hH ?hy259 ?rest259
    case hy259 =>
      intro X hX
      have cX := (bE.turn hX (by omega)).cells
      go_simp
      try rfl
    simp only [Act.put, List.setIfInBounds_toArray, List.set_cons_zero, List.set_cons_succ]
    refine' hw_take 8 (some 85) _ rfl rfl (by kernel_rfl) (by kernel_rfl) (by kernel_rfl) (fun _ _ _ h => h) (by rfl) hH ?hy260 ?rest260
    case hy260 =>
      intro X hX
      go_simp
      try rfl
    simp only [Act.put, List.setIfInBounds_toArray, List.set_cons_zero, List.set_cons_succ]
    refine' hw_take 9 (some 86) _ rfl rfl (by kernel_rfl) (by kernel_rfl) (by kernel_rfl) (fun _ _ _ h => h) (by rfl) hH ?hy261 ?rest261
    case hy261 =>
      intro X hX
      go_simp
      try rfl
    simp only [Act.put, List.setIfInBounds_toArray, List.set_cons_zero, List.set_cons_succ]
    refine' hw_take 10 (some 87) _ rfl rfl (by kernel_rfl) (by kernel_rfl) (by kernel_rfl) (fun _ _ _ h => h) (by rfl) hH ?hy262 ?rest262
    case hy262 =>
      intro X hX
      go_simp
      try rfl
    simp only [Act.put, List.setIfInBounds_toArray, List.set_cons_zero, List.set_cons_succ]
    refine' hw_take 11 (some 88) _ rfl rfl (by kernel_rfl) (by kernel_rfl) (by kernel_rfl) (fun _ _ _ h => h) (by rfl) hH ?hy263 ?rest263
    case hy263 =>
      intro X hX
      have cX := (bE.turn hX (by omega)).cells
      go_simp
      try rfl
    simp only [Act.put, List.setIfInBounds_toArray, List.set_cons_zero, List.set_cons_succ]
    refine' hw_take 12 (some 89) _ rfl rfl (by kernel_rfl) (by kernel_rfl) (by kernel_rfl) (fun _ _ _ h => h) (by rfl) hH ?hy264 ?rest264
    case hy264 =>
      intro X hX
      go_simp
      try rfl
    simp only [Act.put, List.setIfInBounds_toArray, List.set_cons_zero, List.set_cons_succ]
    have HMN : (if mn < ((o : Int) + 1) then mn else ((o : Int) + 1)) = a2 := by have := HA2.out; split <;> omega
    rw [HMN]
    refine hw_call 13 (some 90) rfl rfl (by kernel_rfl) (by rfl) (fun K hK => ?_)
    go_simp
    refine (mailAt_any 2 a2 B id up ro ep mn ((o : Int) + 1) ot co A2 (o + 1) c2 _ (bE.turn hH (by omega)) hid).mono ?_
    rintro e w5 ⟨rfl, hn5⟩
    have t45 := Turn.trans hH hn5 (fun i _ f => f.elim)
    go_simp
    refine hK.out _ _ t45 (fun hH5 => ?_)
    simp only [Act.put, List.setIfInBounds_toArray, List.set_cons_zero, List.set_cons_succ]
    refine hw_call 14 (some 91) rfl rfl (by kernel_rfl) (by rfl) (fun K hK => ?_)
    go_simp
    have al6 := (New.refl w5).alloc (.cells #[.int .i64 2, .int .i64 (1 - id), .int .i64 ep, .int .i64 a2, .int .i64 0, .bool false, .int .i64 0, .int .i64 0, .int .i64 0, .slice none 0 0] 46)
    have bM := Blk.mk w5 w5.heap.size 46 #[.int .i64 2, .int .i64 (1 - id), .int .i64 ep, .int .i64 a2, .int .i64 0, .bool false, .int .i64 0, .int .i64 0, .int .i64 0, .slice none 0 0] rfl
    have t46 := Turn.trans t45 al6 (fun i _ f => f.elim)
    refine hK.out _ _ t46 (fun hH6 => ?_)
    simp only [Act.put, List.setIfInBounds_toArray, List.set_cons_zero, List.set_cons_succ]
    refine' hw_take 15 (some 92) _ rfl rfl (by kernel_rfl) (by kernel_rfl) (by kernel_rfl) (fun _ _ _ h => h) (by rfl) hH6 ?hy265 ?rest265
    case hy265 =>
      intro X hX
      go_simp
      try rfl
    simp only [Act.put, List.setIfInBounds_toArray, List.set_cons_zero, List.set_cons_succ]
    refine hw_call 16 none rfl rfl (by kernel_rfl) (by rfl) (fun K hK => ?_)
    have b16 : Blk (w5.alloc (.cells #[.int .i64 2, .int .i64 (1 - id), .int .i64 ep, .int .i64 a2, .int .i64 0, .bool false, .int .i64 0, .int .i64 0, .int .i64 0, .slice none 0 0] 46)) w.heap.size 39 #[.int .i64 0, .int .i64 0, .bool false, .int .i64 0, .int .i64 0, .slice none 0 0, .int .i64 0, .int .i64 0, .int .i64 0, .int .i64 0, .slice none 0 0] := ((bRE.new ((New.refl _).drew)).new hn5).new al6
    have ho6 := ((hoE2.new ((New.refl _).drew)).new hn5).new al6
    have tA6 := Turn.trans tAE ((((New.refl _).drew).trans hn5).trans al6) (fun i _ f => f.elim)
    have z45 : wE.heap.size ≤ w5.heap.size := hn5.size
    have z6 := al6.size
    have zA : w.heap.size ≤ wE.heap.size := Turn.size tAE
    have l5 : w5.heap.size < (w5.alloc (.cells #[.int .i64 2, .int .i64 (1 - id), .int .i64 ep, .int .i64 a2, .int .i64 0, .bool false, .int .i64 0, .int .i64 0, .int .i64 0, .slice none 0 0] 46)).heap.size := bM.lt
    have lR : w.heap.size < wE.heap.size := bRE.lt
    refine hw_store 39 (.tmp 4) (.tmp 92) rfl rfl w.heap.size #[.int .i64 0, .int .i64 id, .bool up, .int .i64 ro, .int .i64 ep, .slice A2 (o + 1) c2, .int .i64 mn, .int .i64 ((o : Int) + 1), .int .i64 ot, .int .i64 co, .slice (some ⟨w5.heap.size, 0, none⟩) 1 1] #[.int .i64 0, .int .i64 0, .bool false, .int .i64 0, .int .i64 0, .slice none 0 0, .int .i64 0, .int .i64 0, .int .i64 0, .int .i64 0, .slice none 0 0] rfl rfl b16 (by kernel_rfl) rfl (by kernel_rfl) ?_
    generalize w5.alloc (.cells #[.int .i64 2, .int .i64 (1 - id), .int .i64 ep, .int .i64 a2, .int .i64 0, .bool false, .int .i64 0, .int .i64 0, .int .i64 0, .slice none 0 0] 46) = w6 at *
    have tR := Turn.rowW (Turn.refl (fun i => i = w.heap.size) w6) rfl #[.int .i64 0, .int .i64 id, .bool up, .int .i64 ro, .int .i64 ep, .slice A2 (o + 1) c2, .int .i64 mn, .int .i64 ((o : Int) + 1), .int .i64 ot, .int .i64 co, .slice (some ⟨w5.heap.size, 0, none⟩) 1 1]
    have bRR := b16.rowW #[.int .i64 0, .int .i64 id, .bool up, .int .i64 ro, .int .i64 ep, .slice A2 (o + 1) c2, .int .i64 mn, .int .i64 ((o : Int) + 1), .int .i64 ot, .int .i64 co, .slice (some ⟨w5.heap.size, 0, none⟩) 1 1]
    have hoR := ho6.turnB b16 (by decide) (by decide) tR
    have bMR := bM.turn tR (by omega)
    have tF := Turn.trans tA6 tR (fun i hi e => by omega)
    have zR := tR.size
    refine hK.out undef _ (Turn.trans hH6 tR (fun i _ e => e)) (fun hS2 => ?_)
    refine wpAnyH_done (by kernel_rfl) ?_ _
    generalize World.setRow _ _ _ = wR at *
    go_wp2
    all_goals exact bodyPost_ret (results_row1 rfl rfl bRR ⟨_, Try.underlying39⟩ (by kernel_rfl)) rfl (haAns_mk (U := V2) (Ms := [mlv0 2 (1 - id) ep a2]) (by exact HL2.out) rfl hV2 rfl (NrOw.one (lo := lo) (hi := wE.heap.size) (hoR.up (by omega)) (Nat.le_refl _) (by omega) (row_of_blk bMR rfl) (by omega) (by omega) (by omega)) tF)
  refine hw_step 8 (some 73) rfl rfl (by rfl) (fun K hK => ?_) ?_
  · skip
    go_simp
    refine (count_any B id up ro ep mn ma ot co A2 (o + 1) c2 _ bBd).mono ?_
    rintro e wz ⟨rfl, hwz⟩
    subst hwz
    go_simp
    refine hK.out _ _ trivial (fun hH2 => ?_)
    simp only [Act.put, List.setIfInBounds_toArray, List.set_cons_zero, List.set_cons_succ]
    refine hw_call 4 (some 69) rfl rfl (by kernel_rfl) (by rfl) (fun K hK => ?_)
    go_simp
    refine hK.out _ _ trivial (fun hH1 => ?_)
    simp only [Act.put, List.setIfInBounds_toArray, List.set_cons_zero, List.set_cons_succ]
    refine' hw_take 6 (some 71) _ rfl rfl (by kernel_rfl) (by kernel_rfl) (by kernel_rfl) (fun _ _ _ h => h) (by rfl) hH ?hy266 ?rest266
    case hy266 =>
      intro X hX
      go_simp
      try rfl
    simp only [Act.put, List.setIfInBounds_toArray, List.set_cons_zero, List.set_cons_succ]
    refine' hw_take 9 (some 74) _ rfl rfl (by kernel_rfl) (by kernel_rfl) (by kernel_rfl) (fun _ _ _ h => h) (by rfl) hH ?hy267 ?rest267
    case hy267 =>
      intro X hX
      go_simp
      try rfl
    simp only [Act.put, List.setIfInBounds_toArray, List.set_cons_zero, List.set_cons_succ]
    refine' hw_take 10 (some 75) _ rfl rfl (by kernel_rfl) (by kernel_rfl) (by kernel_rfl) (fun _ _ _ h => h) (by rfl) hH ?hy268 ?rest268
    case hy268 =>
      intro X hX
      go_simp
      try rfl
    simp only [Act.put, List.setIfInBounds_toArray, List.set_cons_zero, List.set_cons_succ]
    refine' hw_take 11 (some 76) _ rfl rfl (by kernel_rfl) (by kernel_rfl) (by kernel_rfl) (fun _ _ _ h => h) (by rfl) hH ?hy269 ?rest269
    case hy269 =>
      intro X hX
      go_simp
      try rfl
    simp only [Act.put, List.setIfInBounds_toArray, List.set_cons_zero, List.set_cons_succ]
    refine hw_call 12 none rfl rfl (by kernel_rfl) (by rfl) (fun K hK => ?_)
    go_simp
    refine hK.out undef _ trivial (fun hS2 => ?_)
    refine wpAnyH_done (by kernel_rfl) ?_ _
    rw [HTG.out]
    have bE := bBd.set 6 (.int .i64 ((o : Int) + 1))
    have tE := (((New.refl w2).drew.turn (S := fun i => i = B))).set (p := ⟨B, 6, none⟩) rfl (.int .i64 ((o : Int) + 1))
    have HW : w2.drew.setCell ⟨B, 6, none⟩ (.int .i64 ((o : Int) + 1)) = (w2.setCell ⟨B, 6, none⟩ (.int .i64 ((o : Int) + 1))).drew := rfl
    rw [HW] at bE tE
    have hoE := hoL2.turnB hb2 (by decide) (by decide) tE
    have bRE := bR2.turn tE (by omega)
    have tAE := Turn.trans tw2 tE (fun i _ e => .inl e)
    have zE := tE.size
    have hoE2 := hoE.up (Nat.le_trans (by omega) zE)
    clear cD fD
    clear HW
    generalize (w2.setCell ⟨B, 6, none⟩ (.int .i64 ((o : Int) + 1))).drew = wE at *
    go_upto_region 12 with fail
    refine hw_start (n := 17) (S := fun X => Turn (fun i => i = w.heap.size) wE X) rfl (by kernel_rfl) (((New.refl _).drew).turn) (fun hH => ?_)
    refine' hw_take 0 (some 77) _ rfl rfl (by kernel_rfl) (by kernel_rfl) (by kernel_rfl) (fun _ _ _ h => h) (by rfl) hH ?hy270 ?rest270
    case hy270 =>
      intro X hX
      go_simp
      try rfl
    simp only [Act.put, List.setIfInBounds_toArray, List.set_cons_zero, List.set_cons_succ]
    refine' hw_take 1 (some 78) _ rfl rfl (by kernel_rfl) (by kernel_rfl) (by kernel_rfl) (fun _ _ _ h => h) (by rfl) hH ?hy271 ?rest271
    case hy271 =>
      intro X hX
      go_simp
      try rfl
    simp only [Act.put, List.setIfInBounds_toArray, List.set_cons_zero, List.set_cons_succ]
    refine' hw_take 2 (some 79) (.agg #[.int .i64 id, .bool up, .int .i64 ro, .int .i64 ep, .slice A2 (o + 1) c2, .int .i64 mn, .int .i64 ((o : Int) + 1), .int .i64 ot, .int .i64 co]) rfl rfl (by kernel_rfl) (by kernel_rfl) (by kernel_rfl) (fun _ _ _ h => h) (by rfl) hH ?hyA12x272 ?restA12x272
    case hyA12x272 =>
      intro X hX
      exact run_load_blk 36 (.tmp 78) rfl B rfl #[.int .i64 id, .bool up, .int .i64 ro, .int .i64 ep, .slice A2 (o + 1) c2, .int .i64 mn, .int .i64 ((o : Int) + 1), .int .i64 ot, .int .i64 co] _ (bE.turn hX (by omega)) Try.underlying36 rfl (by kernel_rfl)
    simp only [Act.put, List.setIfInBounds_toArray, List.set_cons_zero, List.set_cons_succ]
    refine' hw_take 3 (some 80) _ rfl rfl (by kernel_rfl) (by kernel_rfl) (by kernel_rfl) (fun _ _ _ h => h) (by rfl) hH ?hy273 ?rest273
    case hy273 =>
      intro X hX
      go_simp
      try rfl
    simp only [Act.put, List.setIfInBounds_toArray, List.set_cons_zero, List.set_cons_succ]
    refine' hw_take 4 (some 81) _ rfl rfl (by kernel_rfl) (by kernel_rfl) (by kernel_rfl) (fun _ _ _ h => h) (by rfl) hH ?hy274 ?rest274
    case hy274 =>
      intro X hX
      go_simp
      try rfl
    simp only [Act.put, List.setIfInBounds_toArray, List.set_cons_zero, List.set_cons_succ]
    refine' hw_take 5 (some 82) _ rfl rfl (by kernel_rfl) (by kernel_rfl) (by kernel_rfl) (fun _ _ _ h => h) (by rfl) hH ?hy275 ?rest275
    case hy275 =>
      intro X hX
      go_simp
      try rfl
    simp only [Act.put, List.setIfInBounds_toArray, List.set_cons_zero, List.set_cons_succ]
    refine' hw_take 6 (some 83) _ rfl rfl (by kernel_rfl) (by kernel_rfl) (by kernel_rfl) (fun _ _ _ h => h) (by rfl) hH ?hy276 ?rest276
    case hy276 =>
      intro X hX
      go_simp
      try rfl
    simp only [Act.put, List.setIfInBounds_toArray, List.set_cons_zero, List.set_cons_succ]
    refine' hw_take 7 (some 84) _ rfl rfl (by kernel_rfl) (by kernel_rfl) (by kernel_rfl) (fun _ _ _ h => h) (by rfl) hH ?hy277 ?rest277
    case hy277 =>
      intro X hX
      have cX := (bE.turn hX (by omega)).cells
      go_simp
      try rfl
    simp only [Act.put, List.setIfInBounds_toArray, List.set_cons_zero, List.set_cons_succ]
    refine' hw_take 8 (some 85) _ rfl rfl (by kernel_rfl) (by kernel_rfl) (by kernel_rfl) (fun _ _ _ h => h) (by rfl) hH ?hy278 ?rest278
    case hy278 =>
      intro X hX
      go_simp
      try rfl
    simp only [Act.put, List.setIfInBounds_toArray, List.set_cons_zero, List.set_cons_succ]
    refine' hw_take 9 (some 86) _ rfl rfl (by kernel_rfl) (by kernel_rfl) (by kernel_rfl) (fun _ _ _ h => h) (by rfl) hH ?hy279 ?rest279
    case hy279 =>
      intro X hX
      go_simp
      try rfl
    simp only [Act.put, List.setIfInBounds_toArray, List.set_cons_zero, List.set_cons_succ]
    refine' hw_take 10 (some 87) _ rfl rfl (by kernel_rfl) (by kernel_rfl) (by kernel_rfl) (fun _ _ _ h => h) (by rfl) hH ?hy280 ?rest280
    case hy280 =>
      intro X hX
      go_simp
      try rfl
    simp only [Act.put, List.setIfInBounds_toArray, List.set_cons_zero, List.set_cons_succ]
    refine' hw_take 11 (some 88) _ rfl rfl (by kernel_rfl) (by kernel_rfl) (by kernel_rfl) (fun _ _ _ h => h) (by rfl) hH ?hy281 ?rest281
    case hy281 =>
      intro X hX
      have cX := (bE.turn hX (by omega)).cells
      go_simp
      try rfl
    simp only [Act.put, List.setIfInBounds_toArray, List.set_cons_zero, List.set_cons_succ]
    refine' hw_take 12 (some 89) _ rfl rfl (by kernel_rfl) (by kernel_rfl) (by kernel_rfl) (fun _ _ _ h => h) (by rfl) hH ?hy282 ?rest282
    case hy282 =>
      intro X hX
      go_simp
      try rfl
    simp only [Act.put, List.setIfInBounds_toArray, List.set_cons_zero, List.set_cons_succ]
    have HMN : (if mn < ((o : Int) + 1) then mn else ((o : Int) + 1)) = a2 := by have := HA2.out; split <;> omega
    rw [HMN]
    refine hw_call 13 (some 90) rfl rfl (by kernel_rfl) (by rfl) (fun K hK => ?_)
    go_simp
    refine (mailAt_any 2 a2 B id up ro ep mn ((o : Int) + 1) ot co A2 (o + 1) c2 _ (bE.turn hH (by omega)) hid).mono ?_
    rintro e w5 ⟨rfl, hn5⟩
    have t45 := Turn.trans hH hn5 (fun i _ f => f.elim)
    go_simp
    refine hK.out _ _ t45 (fun hH5 => ?_)
    simp only [Act.put, List.setIfInBounds_toArray, List.set_cons_zero, List.set_cons_succ]
    refine hw_call 14 (some 91) rfl rfl (by kernel_rfl) (by rfl) (fun K hK => ?_)
    go_simp
    have al6 := (New.refl w5).alloc (.cells #[.int .i64 2, .int .i64 (1 - id), .int .i64 ep, .int .i64 a2, .int .i64 0, .bool false, .int .i64 0, .int .i64 0, .int .i64 0, .slice none 0 0] 46)
    have bM := Blk.mk w5 w5.heap.size 46 #[.int .i64 2, .int .i64 (1 - id), .int .i64 ep, .int .i64 a2, .int .i64 0, .bool false, .int .i64 0, .int .i64 0, .int .i64 0, .slice none 0 0] rfl
    have t46 := Turn.trans t45 al6 (fun i _ f => f.elim)
    refine hK.out _ _ t46 (fun hH6 => ?_)
    simp only [Act.put, List.setIfInBounds_toArray, List.set_cons_zero, List.set_cons_succ]
    refine' hw_take 15 (some 92) _ rfl rfl (by kernel_rfl) (by kernel_rfl) (by kernel_rfl) (fun _ _ _ h => h) (by rfl) hH6 ?hy283 ?rest283
    case hy283 =>
      intro X hX
      go_simp
      try rfl
    simp only [Act.put, List.setIfInBounds_toArray, List.set_cons_zero, List.set_cons_succ]
    refine hw_call 16 none rfl rfl (by kernel_rfl) (by rfl) (fun K hK => ?_)
    have b16 : Blk (w5.alloc (.cells #[.int .i64 2, .int .i64 (1 - id), .int .i64 ep, .int .i64 a2, .int .i64 0, .bool false, .int .i64 0, .int .i64 0, .int .i64 0, .slice none 0 0] 46)) w.heap.size 39 #[.int .i64 0, .int .i64 0, .bool false, .int .i64 0, .int .i64 0, .slice none 0 0, .int .i64 0, .int .i64 0, .int .i64 0, .int .i64 0, .slice none 0 0] := ((bRE.new ((New.refl _).drew)).new hn5).new al6
    have ho6 := ((hoE2.new ((New.refl _).drew)).new hn5).new al6
    have tA6 := Turn.trans tAE ((((New.refl _).drew).trans hn5).trans al6) (fun i _ f => f.elim)
    have z45 : wE.heap.size ≤ w5.heap.size := hn5.size
    have z6 := al6.size
    have zA : w.heap.size ≤ wE.heap.size := Turn.size tAE
    have l5 : w5.heap.size < (w5.alloc (.cells #[.int .i64 2, .int .i64 (1 - id), .int .i64 ep, .int .i64 a2, .int .i64 0, .bool false, .int .i64 0, .int .i64 0, .int .i64 0, .slice none 0 0] 46)).heap.size := bM.lt
    have lR : w.heap.size < wE.heap.size := bRE.lt
    refine hw_store 39 (.tmp 4) (.tmp 92) rfl rfl w.heap.size #[.int .i64 0, .int .i64 id, .bool up, .int .i64 ro, .int .i64 ep, .slice A2 (o + 1) c2, .int .i64 mn, .int .i64 ((o : Int) + 1), .int .i64 ot, .int .i64 co, .slice (some ⟨w5.heap.size, 0, none⟩) 1 1] #[.int .i64 0, .int .i64 0, .bool false, .int .i64 0, .int .i64 0, .slice none 0 0, .int .i64 0, .int .i64 0, .int .i64 0, .int .i64 0, .slice none 0 0] rfl rfl b16 (by kernel_rfl) rfl (by kernel_rfl) ?_
    generalize w5.alloc (.cells #[.int .i64 2, .int .i64 (1 - id), .int .i64 ep, .int .i64 a2, .int .i64 0, .bool false, .int .i64 0, .int .i64 0, .int .i64 0, .slice none 0 0] 46) = w6 at *
    have tR := Turn.rowW (Turn.refl (fun i => i = w.heap.size) w6) rfl #[.int .i64 0, .int .i64 id, .bool up, .int .i64 ro, .int .i64 ep, .slice A2 (o + 1) c2, .int .i64 mn, .int .i64 ((o : Int) + 1), .int .i64 ot, .int .i64 co, .slice (some ⟨w5.heap.size, 0, none⟩) 1 1]
    have bRR := b16.rowW #[.int .i64 0, .int .i64 id, .bool up, .int .i64 ro, .int .i64 ep, .slice A2 (o + 1) c2, .int .i64 mn, .int .i64 ((o : Int) + 1), .int .i64 ot, .int .i64 co, .slice (some ⟨w5.heap.size, 0, none⟩) 1 1]
    have hoR := ho6.turnB b16 (by decide) (by decide) tR
    have bMR := bM.turn tR (by omega)
    have tF := Turn.trans tA6 tR (fun i hi e => by omega)
    have zR := tR.size
    refine hK.out undef _ (Turn.trans hH6 tR (fun i _ e => e)) (fun hS2 => ?_)
    refine wpAnyH_done (by kernel_rfl) ?_ _
    generalize World.setRow _ _ _ = wR at *
    go_wp2
    all_goals exact bodyPost_ret (results_row1 rfl rfl bRR ⟨_, Try.underlying39⟩ (by kernel_rfl)) rfl (haAns_mk (U := V2) (Ms := [mlv0 2 (1 - id) ep a2]) (by exact HL2.out) rfl hV2 rfl (NrOw.one (lo := lo) (hi := wE.heap.size) (hoR.up (by omega)) (Nat.le_refl _) (by omega) (row_of_blk bMR rfl) (by omega) (by omega) (by omega)) tF)
  exact fun j hj => by cases hj

end Go.Proofs.Ythnigcalboobgaa

namespace Go.Proofs.Ythnigcalboobgaa
open Go.ChangeShapes Go.WideShapes Go.ChangeAt Go.RowKit
set_option linter.unusedVariables false
set_option linter.unusedSimpArgs false
set_option maxRecDepth 100000

set_option maxHeartbeats 3200000 in
theorem ha_end (B MB lo o : Nat) (id : Int) (up : Bool) (ro ep su ma ot co : Int) (A : Option Addr) (n c : Nat) (V1 : List EkV) (kd tgt me pr : Int) (e1 k1 p1 : Int) (x : Option Addr) (m d : Nat) (xs : List Int) (wb w : World) (hb : Blk w B 36 #[.int .i64 id, .bool up, .int .i64 ro, .int .i64 ep, .slice A n c, .int .i64 su, .int .i64 ma, .int .i64 ot, .int .i64 co]) (hM : Blk w MB 46 #[.int .i64 kd, .int .i64 tgt, .int .i64 me, .int .i64 (o : Int), .int .i64 pr, .bool true, .int .i64 e1, .int .i64 k1, .int .i64 p1, .slice x m d]) (hoL0 : OwL w lo w.heap.size (.slice A n c) V1) (hlo0 : lo ≤ w.heap.size) (hMlo : MB < lo) (hlB : lo ≤ B) (hid : id = 0 ∨ id = 1) (hn : n ≤ 100) (hr : ¬ ro = 1) (ho : o ≤ n) (hq : prevE (V1.map EkV.r) o = pr) (hma : 0 ≤ ma ∧ ma ≤ n) (hx : BsAt wb x xs) (hwb : New wb w) (hBb : wb.heap.size ≤ B) (hX : xs.length = m) (hnx : x = none → m = 0 ∧ d = 0) (hm : m ≤ 1048576) (ho1 : o = n) (ho2 : o < 100) (hc : co ≤ o) :
    Calls Try.prog 29 #[.pointer (some ⟨B, 0, none⟩), .pointer (some ⟨MB, 0, none⟩)] w (HaAns w lo B A n c (⟨0, id, up, ro, ep, min su o, o + 1, ot, co, (V1.map EkV.r).take o ++ [⟨e1, k1, p1, xs⟩], [tkM id ep (min (o + 1) (min su o))]⟩)) := by
  have hd1 : decide ((n : Int) < (o : Int)) = false := by simp; omega
  have hd2 : (pr != pr) = false := by simp
  have HQ : Hid (prevE (V1.map EkV.r) o = pr) := hq
  clear hq
  have hMn : ¬ (MB = B ∨ (Value.slice A n c).ownBlock = some MB) := by
    rintro (e | e)
    · omega
    · obtain ⟨y, d0, -, -, hrr⟩ := row9_form hoL0.row
      have := (hrr MB e).1
      omega
  have HO1 : Hid (o = n) := ho1
  have hno : n ≤ o := by omega
  clear ho1
  have hrb := hoL0.rhi
  have HL2 : Hid (((V1.map EkV.r).take o ++ [(⟨e1, k1, p1, xs⟩ : Ek)]).length = o + 1) := by
    have := hoL0.lg.2
    unfold Hid
    rw [List.length_append, List.length_take, List.length_map, this]
    simp
    omega
  obtain ⟨mn, hmn⟩ : ∃ mn, mn = min su (o : Int) := ⟨_, rfl⟩
  rw [← hmn]
  have HMI : Hid (mn = min su (o : Int)) := hmn
  clear hmn
  obtain ⟨a2, ha2⟩ : ∃ a2, a2 = min ((o : Int) + 1) mn := ⟨_, rfl⟩
  rw [← ha2]
  have HA2 : Hid (a2 = min ((o : Int) + 1) mn) := ha2
  clear ha2
  have HTG : Hid ((if ((o : Int) + 1) < (if ma < ((o : Int) + 1) then ((o : Int) + 1) else ma) then ((o : Int) + 1) else (if ma < ((o : Int) + 1) then ((o : Int) + 1) else ma)) = ((o : Int) + 1)) := by unfold Hid; split <;> split <;> omega
  have HL : Hid (V1.length = n) := hoL0.lg.2
  have hw := (New.refl w).alloc (.cells #[.int .i64 0, .int .i64 0, .bool false, .int .i64 0, .int .i64 0, .slice none 0 0, .int .i64 0, .int .i64 0, .int .i64 0, .int .i64 0, .slice none 0 0] 39)
  have bR := Blk.mk w w.heap.size 39 #[.int .i64 0, .int .i64 0, .bool false, .int .i64 0, .int .i64 0, .slice none 0 0, .int .i64 0, .int .i64 0, .int .i64 0, .int .i64 0, .slice none 0 0] rfl
  have hb0 := hb.new hw
  have hM0 := hM.new hw
  have hoL := (hoL0.new hw).up hw.size
  have hlt := hb.lt
  have hMt := hM.lt
  have s0 : Hid ((w.alloc (.cells #[.int .i64 0, .int .i64 0, .bool false, .int .i64 0, .int .i64 0, .slice none 0 0, .int .i64 0, .int .i64 0, .int .i64 0, .int .i64 0, .slice none 0 0] 39)).heap.size = w.heap.size + 1) := by unfold Hid; simp
  go_enter Try.func29, Try.ntmps29
  go_upto_region 1 with fail
  generalize w.alloc (.cells #[.int .i64 0, .int .i64 0, .bool false, .int .i64 0, .int .i64 0, .slice none 0 0, .int .i64 0, .int .i64 0, .int .i64 0, .int .i64 0, .slice none 0 0] 39) = w0 at *
  have S0 := s0.out
  go_wp2_with fail
  refine (active_no B id up ro ep su ma ot co A n c _ hb0 hr).mono ?_
  rintro e wz ⟨rfl, hwz⟩
  obtain rfl := hwz.symm
  go_upto_region 3 with fail
  refine hw_start (n := 20) (S := fun X => New w0 X) rfl (by kernel_rfl) ((New.refl _).drew) (fun hH => ?_)
  refine' hw_take 0 (some 10) _ rfl rfl (by kernel_rfl) (by kernel_rfl) (by kernel_rfl) (fun _ _ _ h => h) (by rfl) hH ?hy284 ?rest284
  case hy284 =>
    intro X hX
    go_simp
    try rfl
  simp only [Act.put, List.setIfInBounds_toArray, List.set_cons_zero, List.set_cons_succ]
  refine' hw_take 1 (some 11) _ rfl rfl (by kernel_rfl) (by kernel_rfl) (by kernel_rfl) (fun _ _ _ h => h) (by rfl) hH ?hy285 ?rest285
  case hy285 =>
    intro X hX
    go_simp
    try rfl
  simp only [Act.put, List.setIfInBounds_toArray, List.set_cons_zero, List.set_cons_succ]
  refine' hw_take 2 (some 12) _ rfl rfl (by kernel_rfl) (by kernel_rfl) (by kernel_rfl) (fun _ _ _ h => h) (by rfl) hH ?hy286 ?rest286
  case hy286 =>
    intro X hX
    go_simp
    try rfl
  simp only [Act.put, List.setIfInBounds_toArray, List.set_cons_zero, List.set_cons_succ]
  refine' hw_take 3 (some 13) _ rfl rfl (by kernel_rfl) (by kernel_rfl) (by kernel_rfl) (fun _ _ _ h => h) (by rfl) hH ?hy287 ?rest287
  case hy287 =>
    intro X hX
    have cX := (hM0.new hX).cells
    go_simp
    try rfl
  simp only [Act.put, List.setIfInBounds_toArray, List.set_cons_zero, List.set_cons_succ]
  refine' hw_take 4 (some 14) _ rfl rfl (by kernel_rfl) (by kernel_rfl) (by kernel_rfl) (fun _ _ _ h => h) (by rfl) hH ?hy288 ?rest288
  case hy288 =>
    intro X hX
    go_simp
    try rfl
  simp only [Act.put, List.setIfInBounds_toArray, List.set_cons_zero, List.set_cons_succ]
  refine hw_call 5 (some 15) rfl rfl (by kernel_rfl) (by rfl) (fun K hK => ?_)
  go_simp
  refine (count_any B id up ro ep su ma ot co A n c _ (hb0.new hH)).mono ?_
  rintro e wz ⟨rfl, hwz⟩
  subst hwz
  go_simp
  refine hK.out _ _ ((New.refl _).drew) (fun hH2 => ?_)
  simp only [Act.put, List.setIfInBounds_toArray, List.set_cons_zero, List.set_cons_succ]
  refine' hw_take 6 (some 16) (.bool false) rfl rfl (by kernel_rfl) (by kernel_rfl) (by kernel_rfl) (fun _ _ _ h => h) (by rfl) hH2 ?hyL6 ?restL6
  case hyL6 =>
    intro X hX
    go_simp
    try rfl
  simp only [Act.put, List.setIfInBounds_toArray, List.set_cons_zero, List.set_cons_succ]
  refine' hw_take 7 (some 17) _ rfl rfl (by kernel_rfl) (by kernel_rfl) (by kernel_rfl) (fun _ _ _ h => h) (by rfl) hH2 ?hy289 ?rest289
  case hy289 =>
    intro X hX
    go_simp
    try rfl
  simp only [Act.put, List.setIfInBounds_toArray, List.set_cons_zero, List.set_cons_succ]
  refine' hw_take 8 (some 18) _ rfl rfl (by kernel_rfl) (by kernel_rfl) (by kernel_rfl) (fun _ _ _ h => h) (by rfl) hH2 ?hy290 ?rest290
  case hy290 =>
    intro X hX
    go_simp
    try rfl
  simp only [Act.put, List.setIfInBounds_toArray, List.set_cons_zero, List.set_cons_succ]
  refine' hw_take 9 (some 19) _ rfl rfl (by kernel_rfl) (by kernel_rfl) (by kernel_rfl) (fun _ _ _ h => h) (by rfl) hH2 ?hy291 ?rest291
  case hy291 =>
    intro X hX
    go_simp
    try rfl
  simp only [Act.put, List.setIfInBounds_toArray, List.set_cons_zero, List.set_cons_succ]
  refine' hw_take 10 (some 20) _ rfl rfl (by kernel_rfl) (by kernel_rfl) (by kernel_rfl) (fun _ _ _ h => h) (by rfl) hH2 ?hy292 ?rest292
  case hy292 =>
    intro X hX
    go_simp
    try rfl
  simp only [Act.put, List.setIfInBounds_toArray, List.set_cons_zero, List.set_cons_succ]
  refine' hw_take 11 (some 21) _ rfl rfl (by kernel_rfl) (by kernel_rfl) (by kernel_rfl) (fun _ _ _ h => h) (by rfl) hH2 ?hy293 ?rest293
  case hy293 =>
    intro X hX
    go_simp
    try rfl
  simp only [Act.put, List.setIfInBounds_toArray, List.set_cons_zero, List.set_cons_succ]
  refine' hw_take 12 (some 22) _ rfl rfl (by kernel_rfl) (by kernel_rfl) (by kernel_rfl) (fun _ _ _ h => h) (by rfl) hH2 ?hy294 ?rest294
  case hy294 =>
    intro X hX
    have cX := (hM0.new hX).cells
    go_simp
    try rfl
  simp only [Act.put, List.setIfInBounds_toArray, List.set_cons_zero, List.set_cons_succ]
  refine' hw_take 14 (some 24) _ rfl rfl (by kernel_rfl) (by kernel_rfl) (by kernel_rfl) (fun _ _ _ h => h) (by rfl) hH2 ?hy295 ?rest295
  case hy295 =>
    intro X hX
    go_simp
    try rfl
  simp only [Act.put, List.setIfInBounds_toArray, List.set_cons_zero, List.set_cons_succ]
  refine' hw_take 15 (some 25) _ rfl rfl (by kernel_rfl) (by kernel_rfl) (by kernel_rfl) (fun _ _ _ h => h) (by rfl) hH2 ?hy296 ?rest296
  case hy296 =>
    intro X hX
    go_simp
    try rfl
  simp only [Act.put, List.setIfInBounds_toArray, List.set_cons_zero, List.set_cons_succ]
  refine' hw_take 16 (some 26) _ rfl rfl (by kernel_rfl) (by kernel_rfl) (by kernel_rfl) (fun _ _ _ h => h) (by rfl) hH2 ?hy297 ?rest297
  case hy297 =>
    intro X hX
    go_simp
    try rfl
  simp only [Act.put, List.setIfInBounds_toArray, List.set_cons_zero, List.set_cons_succ]
  refine' hw_take 17 (some 27) _ rfl rfl (by kernel_rfl) (by kernel_rfl) (by kernel_rfl) (fun _ _ _ h => h) (by rfl) hH2 ?hy298 ?rest298
  case hy298 =>
    intro X hX
    have cX := (hM0.new hX).cells
    go_simp
    try rfl
  simp only [Act.put, List.setIfInBounds_toArray, List.set_cons_zero, List.set_cons_succ]
  refine hw_call 13 (some 23) rfl rfl (by kernel_rfl) (by rfl) (fun K hK => ?_)
  go_simp
  refine (eahead_any o B id up ro ep su ma ot co A n c V1 _ (hb0.new hH2) (hoL.lg.1.new hH2) HL.out (by omega) ho).mono ?_
  rintro e wz ⟨rfl, hwz⟩
  subst hwz
  rw [HQ.out]
  go_simp
  refine hK.out _ _ ((New.refl _).drew) (fun hH3 => ?_)
  simp only [Act.put, List.setIfInBounds_toArray, List.set_cons_zero, List.set_cons_succ]
  refine' hw_take 18 (some 28) (.bool false) rfl rfl (by kernel_rfl) (by kernel_rfl) (by kernel_rfl) (fun _ _ _ h => h) (by rfl) hH3 ?hyL18 ?restL18
  case hyL18 =>
    intro X hX
    go_simp
    try rfl
  simp only [Act.put, List.setIfInBounds_toArray, List.set_cons_zero, List.set_cons_succ]
  refine' hw_take 19 (some 29) _ rfl rfl (by kernel_rfl) (by kernel_rfl) (by kernel_rfl) (fun _ _ _ h => h) (by rfl) hH3 ?hy299 ?rest299
  case hy299 =>
    intro X hX
    go_simp
    try rfl
  simp only [Act.put, List.setIfInBounds_toArray, List.set_cons_zero, List.set_cons_succ]
  refine wpAnyH_done (by kernel_rfl) ?_ _
  have hb1 := hb0.new hH3
  have hM1 := hM0.new hH3
  have hoL1 := hoL.new hH3
  have bR1 := bR.new hH3
  have hw1 := hw.trans hH3
  have HZ : Hid (w0.drew.heap.size = w0.heap.size) := rfl
  have zw1 : w0.heap.size ≤ w0.drew.heap.size := Nat.le_refl _
  clear hH hH2 hH3
  generalize w0.drew = w1 at *
  have tw1 : Turn (fun i => i = B ∨ (Value.slice A n c).ownBlock = some i) w w1 := hw1.turn
  have cM := hM1.cells
  have zz : w1.heap.size = w0.heap.size := HZ.out
  have zw := hw1.size
  go_upto_region 7 with fail
  refine hw_start (n := 11) (S := fun X => Turn (fun i => i = B ∨ (Value.slice A n c).ownBlock = some i) w1 X) rfl (by kernel_rfl) (((New.refl _).drew).turn) (fun hH => ?_)
  refine' hw_take 0 (some 49) _ rfl rfl (by kernel_rfl) (by kernel_rfl) (by kernel_rfl) (fun _ _ _ h => h) (by rfl) hH ?hy300 ?rest300
  case hy300 =>
    intro X hX
    go_simp
    try rfl
  simp only [Act.put, List.setIfInBounds_toArray, List.set_cons_zero, List.set_cons_succ]
  refine' hw_take 1 (some 50) _ rfl rfl (by kernel_rfl) (by kernel_rfl) (by kernel_rfl) (fun _ _ _ h => h) (by rfl) hH ?hy301 ?rest301
  case hy301 =>
    intro X hX
    go_simp
    try rfl
  simp only [Act.put, List.setIfInBounds_toArray, List.set_cons_zero, List.set_cons_succ]
  refine' hw_take 2 (some 51) _ rfl rfl (by kernel_rfl) (by kernel_rfl) (by kernel_rfl) (fun _ _ _ h => h) (by rfl) hH ?hy302 ?rest302
  case hy302 =>
    intro X hX
    go_simp
    try rfl
  simp only [Act.put, List.setIfInBounds_toArray, List.set_cons_zero, List.set_cons_succ]
  refine' hw_take 3 (some 52) _ rfl rfl (by kernel_rfl) (by kernel_rfl) (by kernel_rfl) (fun _ _ _ h => h) (by rfl) hH ?hy303 ?rest303
  case hy303 =>
    intro X hX
    go_simp
    try rfl
  simp only [Act.put, List.setIfInBounds_toArray, List.set_cons_zero, List.set_cons_succ]
  refine' hw_take 4 (some 53) (.agg #[.int .i64 e1, .int .i64 k1, .int .i64 p1, .slice x m d]) rfl rfl (by kernel_rfl) (by kernel_rfl) (by kernel_rfl) (fun _ _ _ h => h) (by rfl) hH ?hyE ?restE
  case hyE =>
    intro X hX
    have cX := (hM1.turn hX hMn).cells
    go_simp
    try rfl
  simp only [Act.put, List.setIfInBounds_toArray, List.set_cons_zero, List.set_cons_succ]
  refine' hw_take 5 (some 54) _ rfl rfl (by kernel_rfl) (by kernel_rfl) (by kernel_rfl) (fun _ _ _ h => h) (by rfl) hH ?hy304 ?rest304
  case hy304 =>
    intro X hX
    go_simp
    try rfl
  simp only [Act.put, List.setIfInBounds_toArray, List.set_cons_zero, List.set_cons_succ]
  refine' hw_take 6 (some 55) _ rfl rfl (by kernel_rfl) (by kernel_rfl) (by kernel_rfl) (fun _ _ _ h => h) (by rfl) hH ?hy305 ?rest305
  case hy305 =>
    intro X hX
    go_simp
    try rfl
  simp only [Act.put, List.setIfInBounds_toArray, List.set_cons_zero, List.set_cons_succ]
  refine' hw_take 7 (some 56) _ rfl rfl (by kernel_rfl) (by kernel_rfl) (by kernel_rfl) (fun _ _ _ h => h) (by rfl) hH ?hy306 ?rest306
  case hy306 =>
    intro X hX
    go_simp
    try rfl
  simp only [Act.put, List.setIfInBounds_toArray, List.set_cons_zero, List.set_cons_succ]
  refine' hw_take 8 (some 57) _ rfl rfl (by kernel_rfl) (by kernel_rfl) (by kernel_rfl) (fun _ _ _ h => h) (by rfl) hH ?hy307 ?rest307
  case hy307 =>
    intro X hX
    have cX := (hM1.turn hX hMn).cells
    go_simp
    try rfl
  simp only [Act.put, List.setIfInBounds_toArray, List.set_cons_zero, List.set_cons_succ]
  refine hw_call 9 (some 58) rfl rfl (by kernel_rfl) (by rfl) (fun K hK => ?_)
  go_simp
  refine (take_end e1 k1 p1 x m d xs o B lo id up ro ep su ma ot co A n c V1 wb _ (hb1.new ((New.refl _).drew)) ((hoL1.new ((New.refl _).drew)).up (by show w0.heap.size ≤ w1.heap.size; omega)) (by show lo ≤ w1.heap.size; omega) hx ((hwb.trans hw1).drew) hBb hX hnx hm hn HO1.out ho2 hc).mono ?_
  rintro e w2 ⟨A2, c2, V2, rfl, hb2, hV2, hoL2, t2⟩
  rw [← HMI.out] at hb2
  have t2' := Turn.trans hH t2 (fun i _ e => e)
  go_simp
  refine hK.out _ _ t2' (fun hH2 => ?_)
  simp only [Act.put, List.setIfInBounds_toArray, List.set_cons_zero, List.set_cons_succ]
  refine' hw_take 10 (some 6) _ rfl rfl (by kernel_rfl) (by kernel_rfl) (by kernel_rfl) (fun _ _ _ h => h) (by rfl) hH2 ?hy308 ?rest308
  case hy308 =>
    intro X hX
    go_simp
    try rfl
  simp only [Act.put, List.setIfInBounds_toArray, List.set_cons_zero, List.set_cons_succ]
  refine wpAnyH_done (by kernel_rfl) ?_ _
  have bR2 := (bR1.new ((New.refl _).drew)).turn t2 (by rintro (e | e); omega; exact absurd (hrb _ e) (by omega))
  have tw2 := Turn.trans tw1 (Turn.trans ((New.refl _).drew.turn) t2 (fun i _ e => e)) (fun i _ e => e)
  have z12 : w1.heap.size ≤ w2.heap.size := t2.size
  clear hH hH2 cM
  go_upto_region 11 with fail
  have bBd := hb2.new ((New.refl _).drew)
  have cD := bBd.cells
  have fD := bBd.frees
  refine hw_start (n := 13) (S := fun _ => True) rfl (by kernel_rfl) (trivial) (fun hH => ?_)
  refine' hw_take 0 (some 65) _ rfl rfl (by kernel_rfl) (by kernel_rfl) (by kernel_rfl) (fun _ _ _ h => h) (by rfl) hH ?hy309 ?rest309
  case hy309 =>
    intro X hX
    go_simp
    try rfl
  simp only [Act.put, List.setIfInBounds_toArray, List.set_cons_zero, List.set_cons_succ]
  refine' hw_take 1 (some 66) _ rfl rfl (by kernel_rfl) (by kernel_rfl) (by kernel_rfl) (fun _ _ _ h => h) (by rfl) hH ?hy310 ?rest310
  case hy310 =>
    intro X hX
    go_simp
    try rfl
  simp only [Act.put, List.setIfInBounds_toArray, List.set_cons_zero, List.set_cons_succ]
  refine' hw_take 2 (some 67) _ rfl rfl (by kernel_rfl) (by kernel_rfl) (by kernel_rfl) (fun _ _ _ h => h) (by rfl) hH ?hy311 ?rest311
  case hy311 =>
    intro X hX
    go_simp
    try rfl
  simp only [Act.put, List.setIfInBounds_toArray, List.set_cons_zero, List.set_cons_succ]
  refine' hw_take 3 (some 68) _ rfl rfl (by kernel_rfl) (by kernel_rfl) (by kernel_rfl) (fun _ _ _ h => h) (by rfl) hH ?hy312 ?rest312
  case hy312 =>
    intro X hX
    go_simp
    try rfl
  simp only [Act.put, List.setIfInBounds_toArray, List.set_cons_zero, List.set_cons_succ]
  refine' hw_take 5 (some 70) _ rfl rfl (by kernel_rfl) (by kernel_rfl) (by kernel_rfl) (fun _ _ _ h => h) (by rfl) hH ?hy313 ?rest313
  case hy313 =>
    intro X hX
    go_simp
    try rfl
  simp only [Act.put, List.setIfInBounds_toArray, List.set_cons_zero, List.set_cons_succ]
  refine' hw_take 7 (some 72) _ rfl rfl (by kernel_rfl) (by kernel_rfl) (by kernel_rfl) (fun _ _ _ h => h) (by rfl) hH ?hy314 ?rest314
  case hy314 =>
    intro X hX
    go_simp
    try rfl
  simp only [Act.put, List.setIfInBounds_toArray, List.set_cons_zero, List.set_cons_succ]
  refine wpAnyH_ready (rs := [4, 8]) (by kernel_rfl) (by simp) ?_
  refine hw_step 4 (some 69) rfl rfl (by rfl) (fun K hK => ?_) ?_
  · skip
    go_simp
    refine hK.out _ _ trivial (fun hH1 => ?_)
    simp only [Act.put, List.setIfInBounds_toArray, List.set_cons_zero, List.set_cons_succ]
    refine' hw_take 6 (some 71) _ rfl rfl (by kernel_rfl) (by kernel_rfl) (by kernel_rfl) (fun _ _ _ h => h) (by rfl) hH ?hy315 ?rest315
    case hy315 =>
      intro X hX
      go_simp
      try rfl
    simp only [Act.put, List.setIfInBounds_toArray, List.set_cons_zero, List.set_cons_succ]
    refine hw_call 8 (some 73) rfl rfl (by kernel_rfl) (by rfl) (fun K hK => ?_)
    go_simp
    refine (count_any B id up ro ep mn ma ot co A2 (o + 1) c2 _ bBd).mono ?_
    rintro e wz ⟨rfl, hwz⟩
    subst hwz
    go_simp
    refine hK.out _ _ trivial (fun hH2 => ?_)
    simp only [Act.put, List.setIfInBounds_toArray, List.set_cons_zero, List.set_cons_succ]
    refine' hw_take 9 (some 74) _ rfl rfl (by kernel_rfl) (by kernel_rfl) (by kernel_rfl) (fun _ _ _ h => h) (by rfl) hH ?hy316 ?rest316
    case hy316 =>
      intro X hX
      go_simp
      try rfl
    simp only [Act.put, List.setIfInBounds_toArray, List.set_cons_zero, List.set_cons_succ]
    refine' hw_take 10 (some 75) _ rfl rfl (by kernel_rfl) (by kernel_rfl) (by kernel_rfl) (fun _ _ _ h => h) (by rfl) hH ?hy317 ?rest317
    case hy317 =>
      intro X hX
      go_simp
      try rfl
    simp only [Act.put, List.setIfInBounds_toArray, List.set_cons_zero, List.set_cons_succ]
    refine' hw_take 11 (some 76) _ rfl rfl (by kernel_rfl) (by kernel_rfl) (by kernel_rfl) (fun _ _ _ h => h) (by rfl) hH ?hy318 ?rest318
    case hy318 =>
      intro X hX
      go_simp
      try rfl
    simp only [Act.put, List.setIfInBounds_toArray, List.set_cons_zero, List.set_cons_succ]
    refine hw_call 12 none rfl rfl (by kernel_rfl) (by rfl) (fun K hK => ?_)
    go_simp
    refine hK.out undef _ trivial (fun hS2 => ?_)
    refine wpAnyH_done (by kernel_rfl) ?_ _
    rw [HTG.out]
    have bE := bBd.set 6 (.int .i64 ((o : Int) + 1))
    have tE := (((New.refl w2).drew.turn (S := fun i => i = B))).set (p := ⟨B, 6, none⟩) rfl (.int .i64 ((o : Int) + 1))
    have HW : w2.drew.setCell ⟨B, 6, none⟩ (.int .i64 ((o : Int) + 1)) = (w2.setCell ⟨B, 6, none⟩ (.int .i64 ((o : Int) + 1))).drew := rfl
    rw [HW] at bE tE
    have hoE := hoL2.turnB hb2 (by decide) (by decide) tE
    have bRE := bR2.turn tE (by omega)
    have tAE := Turn.trans tw2 tE (fun i _ e => .inl e)
    have zE := tE.size
    have hoE2 := hoE.up (Nat.le_trans (by omega) zE)
    clear cD fD
    clear HW
    generalize (w2.setCell ⟨B, 6, none⟩ (.int .i64 ((o : Int) + 1))).drew = wE at *
    go_upto_region 12 with fail
    refine hw_start (n := 17) (S := fun X => Turn (fun i => i = w.heap.size) wE X) rfl (by kernel_rfl) (((New.refl _).drew).turn) (fun hH => ?_)
    refine' hw_take 0 (some 77) _ rfl rfl (by kernel_rfl) (by kernel_rfl) (by kernel_rfl) (fun _ _ _ h => h) (by rfl) hH ?hy319 ?rest319
    case hy319 =>
      intro X hX
      go_simp
      try rfl
    simp only [Act.put, List.setIfInBounds_toArray, List.set_cons_zero, List.set_cons_succ]
    refine' hw_take 1 (some 78) _ rfl rfl (by kernel_rfl) (by kernel_rfl) (by kernel_rfl) (fun _ _ _ h => h) (by rfl) hH ?hy320 ?rest320
    case hy320 =>
      intro X hX
      go_simp
      try rfl
    simp only [Act.put, List.setIfInBounds_toArray, List.set_cons_zero, List.set_cons_succ]
    refine' hw_take 2 (some 79) (.agg #[.int .i64 id, .bool up, .int .i64 ro, .int .i64 ep, .slice A2 (o + 1) c2, .int .i64 mn, .int .i64 ((o : Int) + 1), .int .i64 ot, .int .i64 co]) rfl rfl (by kernel_rfl) (by kernel_rfl) (by kernel_rfl) (fun _ _ _ h => h) (by rfl) hH ?hyA12x321 ?restA12x321
    case hyA12x321 =>
      intro X hX
      exact run_load_blk 36 (.tmp 78) rfl B rfl #[.int .i64 id, .bool up, .int .i64 ro, .int .i64 ep, .slice A2 (o + 1) c2, .int .i64 mn, .int .i64 ((o : Int) + 1), .int .i64 ot, .int .i64 co] _ (bE.turn hX (by omega)) Try.underlying36 rfl (by kernel_rfl)
    simp only [Act.put, List.setIfInBounds_toArray, List.set_cons_zero, List.set_cons_succ]
    refine' hw_take 3 (some 80) _ rfl rfl (by kernel_rfl) (by kernel_rfl) (by kernel_rfl) (fun _ _ _ h => h) (by rfl) hH ?hy322 ?rest322
    case hy322 =>
      intro X hX
      go_simp
      try rfl
    simp only [Act.put, List.setIfInBounds_toArray, List.set_cons_zero, List.set_cons_succ]
    refine' hw_take 4 (some 81) _ rfl rfl (by kernel_rfl) (by kernel_rfl) (by kernel_rfl) (fun _ _ _ h => h) (by rfl) hH ?hy323 ?rest323
    case hy323 =>
      intro X hX
      go_simp
      try rfl
    simp only [Act.put, List.setIfInBounds_toArray, List.set_cons_zero, List.set_cons_succ]
    refine' hw_take 5 (some 82) _ rfl rfl (by kernel_rfl) (by kernel_rfl) (by kernel_rfl) (fun _ _ _ h => h) (by rfl) hH ?hy324 ?rest324
    case hy324 =>
      intro X hX
      go_simp
      try rfl
    simp only [Act.put, List.setIfInBounds_toArray, List.set_cons_zero, List.set_cons_succ]
    refine' hw_take 6 (some 83) _ rfl rfl (by kernel_rfl) (by kernel_rfl) (by kernel_rfl) (fun _ _ _ h => h) (by rfl) hH ?hy325 ?rest325
    case hy325 =>
      intro X hX
      go_simp
      try rfl
    simp only [Act.put, List.setIfInBounds_toArray, List.set_cons_zero, List.set_cons_succ]
    refine' hw_take 7 (some 84) _ rfl rfl (by kernel_rfl) (by kernel_rfl) (by kernel_rfl) (fun _ _ _ h => h) (by rfl) hH ?hy326 ?rest326
    case hy326 =>
      intro X hX
      have cX := (bE.turn hX (by omega)).cells
      go_simp
      try rfl
    simp only [Act.put, List.setIfInBounds_toArray, List.set_cons_zero, List.set_cons_succ]
    refine' hw_take 8 (some 85) _ rfl rfl (by kernel_rfl) (by kernel_rfl) (by kernel_rfl) (fun _ _ _ h => h) (by rfl) hH ?hy327 ?rest327
    case hy327 =>
      intro X hX
      go_simp
      try rfl
    simp only [Act.put, List.setIfInBounds_toArray, List.set_cons_zero, List.set_cons_succ]
    refine' hw_take 9 (some 86) _ rfl rfl (by kernel_rfl) (by kernel_rfl) (by kernel_rfl) (fun _ _ _ h => h) (by rfl) hH ?hy328 ?rest328
    case hy328 =>
      intro X hX
      go_simp
      try rfl
    simp only [Act.put, List.setIfInBounds_toArray, List.set_cons_zero, List.set_cons_succ]
    refine' hw_take 10 (some 87) _ rfl rfl (by kernel_rfl) (by kernel_rfl) (by kernel_rfl) (fun _ _ _ h => h) (by rfl) hH ?hy329 ?rest329
    case hy329 =>
      intro X hX
      go_simp
      try rfl
    simp only [Act.put, List.setIfInBounds_toArray, List.set_cons_zero, List.set_cons_succ]
    refine' hw_take 11 (some 88) _ rfl rfl (by kernel_rfl) (by kernel_rfl) (by kernel_rfl) (fun _ _ _ h => h) (by rfl) hH ?hy330 ?rest330
    case hy330 =>
      intro X hX
      have cX := (bE.turn hX (by omega)).cells
      go_simp
      try rfl
    simp only [Act.put, List.setIfInBounds_toArray, List.set_cons_zero, List.set_cons_succ]
    refine' hw_take 12 (some 89) _ rfl rfl (by kernel_rfl) (by kernel_rfl) (by kernel_rfl) (fun _ _ _ h => h) (by rfl) hH ?hy331 ?rest331
    case hy331 =>
      intro X hX
      go_simp
      try rfl
    simp only [Act.put, List.setIfInBounds_toArray, List.set_cons_zero, List.set_cons_succ]
    have HMN : (if mn < ((o : Int) + 1) then mn else ((o : Int) + 1)) = a2 := by have := HA2.out; split <;> omega
    rw [HMN]
    refine hw_call 13 (some 90) rfl rfl (by kernel_rfl) (by rfl) (fun K hK => ?_)
    go_simp
    refine (mailAt_any 2 a2 B id up ro ep mn ((o : Int) + 1) ot co A2 (o + 1) c2 _ (bE.turn hH (by omega)) hid).mono ?_
    rintro e w5 ⟨rfl, hn5⟩
    have t45 := Turn.trans hH hn5 (fun i _ f => f.elim)
    go_simp
    refine hK.out _ _ t45 (fun hH5 => ?_)
    simp only [Act.put, List.setIfInBounds_toArray, List.set_cons_zero, List.set_cons_succ]
    refine hw_call 14 (some 91) rfl rfl (by kernel_rfl) (by rfl) (fun K hK => ?_)
    go_simp
    have al6 := (New.refl w5).alloc (.cells #[.int .i64 2, .int .i64 (1 - id), .int .i64 ep, .int .i64 a2, .int .i64 0, .bool false, .int .i64 0, .int .i64 0, .int .i64 0, .slice none 0 0] 46)
    have bM := Blk.mk w5 w5.heap.size 46 #[.int .i64 2, .int .i64 (1 - id), .int .i64 ep, .int .i64 a2, .int .i64 0, .bool false, .int .i64 0, .int .i64 0, .int .i64 0, .slice none 0 0] rfl
    have t46 := Turn.trans t45 al6 (fun i _ f => f.elim)
    refine hK.out _ _ t46 (fun hH6 => ?_)
    simp only [Act.put, List.setIfInBounds_toArray, List.set_cons_zero, List.set_cons_succ]
    refine' hw_take 15 (some 92) _ rfl rfl (by kernel_rfl) (by kernel_rfl) (by kernel_rfl) (fun _ _ _ h => h) (by rfl) hH6 ?hy332 ?rest332
    case hy332 =>
      intro X hX
      go_simp
      try rfl
    simp only [Act.put, List.setIfInBounds_toArray, List.set_cons_zero, List.set_cons_succ]
    refine hw_call 16 none rfl rfl (by kernel_rfl) (by rfl) (fun K hK => ?_)
    have b16 : Blk (w5.alloc (.cells #[.int .i64 2, .int .i64 (1 - id), .int .i64 ep, .int .i64 a2, .int .i64 0, .bool false, .int .i64 0, .int .i64 0, .int .i64 0, .slice none 0 0] 46)) w.heap.size 39 #[.int .i64 0, .int .i64 0, .bool false, .int .i64 0, .int .i64 0, .slice none 0 0, .int .i64 0, .int .i64 0, .int .i64 0, .int .i64 0, .slice none 0 0] := ((bRE.new ((New.refl _).drew)).new hn5).new al6
    have ho6 := ((hoE2.new ((New.refl _).drew)).new hn5).new al6
    have tA6 := Turn.trans tAE ((((New.refl _).drew).trans hn5).trans al6) (fun i _ f => f.elim)
    have z45 : wE.heap.size ≤ w5.heap.size := hn5.size
    have z6 := al6.size
    have zA : w.heap.size ≤ wE.heap.size := Turn.size tAE
    have l5 : w5.heap.size < (w5.alloc (.cells #[.int .i64 2, .int .i64 (1 - id), .int .i64 ep, .int .i64 a2, .int .i64 0, .bool false, .int .i64 0, .int .i64 0, .int .i64 0, .slice none 0 0] 46)).heap.size := bM.lt
    have lR : w.heap.size < wE.heap.size := bRE.lt
    refine hw_store 39 (.tmp 4) (.tmp 92) rfl rfl w.heap.size #[.int .i64 0, .int .i64 id, .bool up, .int .i64 ro, .int .i64 ep, .slice A2 (o + 1) c2, .int .i64 mn, .int .i64 ((o : Int) + 1), .int .i64 ot, .int .i64 co, .slice (some ⟨w5.heap.size, 0, none⟩) 1 1] #[.int .i64 0, .int .i64 0, .bool false, .int .i64 0, .int .i64 0, .slice none 0 0, .int .i64 0, .int .i64 0, .int .i64 0, .int .i64 0, .slice none 0 0] rfl rfl b16 (by kernel_rfl) rfl (by kernel_rfl) ?_
    generalize w5.alloc (.cells #[.int .i64 2, .int .i64 (1 - id), .int .i64 ep, .int .i64 a2, .int .i64 0, .bool false, .int .i64 0, .int .i64 0, .int .i64 0, .slice none 0 0] 46) = w6 at *
    have tR := Turn.rowW (Turn.refl (fun i => i = w.heap.size) w6) rfl #[.int .i64 0, .int .i64 id, .bool up, .int .i64 ro, .int .i64 ep, .slice A2 (o + 1) c2, .int .i64 mn, .int .i64 ((o : Int) + 1), .int .i64 ot, .int .i64 co, .slice (some ⟨w5.heap.size, 0, none⟩) 1 1]
    have bRR := b16.rowW #[.int .i64 0, .int .i64 id, .bool up, .int .i64 ro, .int .i64 ep, .slice A2 (o + 1) c2, .int .i64 mn, .int .i64 ((o : Int) + 1), .int .i64 ot, .int .i64 co, .slice (some ⟨w5.heap.size, 0, none⟩) 1 1]
    have hoR := ho6.turnB b16 (by decide) (by decide) tR
    have bMR := bM.turn tR (by omega)
    have tF := Turn.trans tA6 tR (fun i hi e => by omega)
    have zR := tR.size
    refine hK.out undef _ (Turn.trans hH6 tR (fun i _ e => e)) (fun hS2 => ?_)
    refine wpAnyH_done (by kernel_rfl) ?_ _
    generalize World.setRow _ _ _ = wR at *
    go_wp2
    all_goals exact bodyPost_ret (results_row1 rfl rfl bRR ⟨_, Try.underlying39⟩ (by kernel_rfl)) rfl (haAns_mk (U := V2) (Ms := [mlv0 2 (1 - id) ep a2]) (by exact HL2.out) rfl hV2 rfl (NrOw.one (lo := lo) (hi := wE.heap.size) (hoR.up (by omega)) (Nat.le_refl _) (by omega) (row_of_blk bMR rfl) (by omega) (by omega) (by omega)) tF)
  refine hw_step 8 (some 73) rfl rfl (by rfl) (fun K hK => ?_) ?_
  · skip
    go_simp
    refine (count_any B id up ro ep mn ma ot co A2 (o + 1) c2 _ bBd).mono ?_
    rintro e wz ⟨rfl, hwz⟩
    subst hwz
    go_simp
    refine hK.out _ _ trivial (fun hH2 => ?_)
    simp only [Act.put, List.setIfInBounds_toArray, List.set_cons_zero, List.set_cons_succ]
    refine hw_call 4 (some 69) rfl rfl (by kernel_rfl) (by rfl) (fun K hK => ?_)
    go_simp
    refine hK.out _ _ trivial (fun hH1 => ?_)
    simp only [Act.put, List.setIfInBounds_toArray, List.set_cons_zero, List.set_cons_succ]
    refine' hw_take 6 (some 71) _ rfl rfl (by kernel_rfl) (by kernel_rfl) (by kernel_rfl) (fun _ _ _ h => h) (by rfl) hH ?hy333 ?rest333
    case hy333 =>
      intro X hX
      go_simp
      try rfl
    simp only [Act.put, List.setIfInBounds_toArray, List.set_cons_zero, List.set_cons_succ]
    refine' hw_take 9 (some 74) _ rfl rfl (by kernel_rfl) (by kernel_rfl) (by kernel_rfl) (fun _ _ _ h => h) (by rfl) hH ?hy334 ?rest334
    case hy334 =>
      intro X hX
      go_simp
      try rfl
    simp only [Act.put, List.setIfInBounds_toArray, List.set_cons_zero, List.set_cons_succ]
    refine' hw_take 10 (some 75) _ rfl rfl (by kernel_rfl) (by kernel_rfl) (by kernel_rfl) (fun _ _ _ h => h) (by rfl) hH ?hy335 ?rest335
    case hy335 =>
      intro X hX
      go_simp
      try rfl
    simp only [Act.put, List.setIfInBounds_toArray, List.set_cons_zero, List.set_cons_succ]
    refine' hw_take 11 (some 76) _ rfl rfl (by kernel_rfl) (by kernel_rfl) (by kernel_rfl) (fun _ _ _ h => h) (by rfl) hH ?hy336 ?rest336
    case hy336 =>
      intro X hX
      go_simp
      try rfl
    simp only [Act.put, List.setIfInBounds_toArray, List.set_cons_zero, List.set_cons_succ]
    refine hw_call 12 none rfl rfl (by kernel_rfl) (by rfl) (fun K hK => ?_)
    go_simp
    refine hK.out undef _ trivial (fun hS2 => ?_)
    refine wpAnyH_done (by kernel_rfl) ?_ _
    rw [HTG.out]
    have bE := bBd.set 6 (.int .i64 ((o : Int) + 1))
    have tE := (((New.refl w2).drew.turn (S := fun i => i = B))).set (p := ⟨B, 6, none⟩) rfl (.int .i64 ((o : Int) + 1))
    have HW : w2.drew.setCell ⟨B, 6, none⟩ (.int .i64 ((o : Int) + 1)) = (w2.setCell ⟨B, 6, none⟩ (.int .i64 ((o : Int) + 1))).drew := rfl
    rw [HW] at bE tE
    have hoE := hoL2.turnB hb2 (by decide) (by decide) tE
    have bRE := bR2.turn tE (by omega)
    have tAE := Turn.trans tw2 tE (fun i _ e => .inl e)
    have zE := tE.size
    have hoE2 := hoE.up (Nat.le_trans (by omega) zE)
    clear cD fD
    clear HW
    generalize (w2.setCell ⟨B, 6, none⟩ (.int .i64 ((o : Int) + 1))).drew = wE at *
    go_upto_region 12 with fail
    refine hw_start (n := 17) (S := fun X => Turn (fun i => i = w.heap.size) wE X) rfl (by kernel_rfl) (((New.refl _).drew).turn) (fun hH => ?_)
    refine' hw_take 0 (some 77) _ rfl rfl (by kernel_rfl) (by kernel_rfl) (by kernel_rfl) (fun _ _ _ h => h) (by rfl) hH ?hy337 ?rest337
    case hy337 =>
      intro X hX
      go_simp
      try rfl
    simp only [Act.put, List.setIfInBounds_toArray, List.set_cons_zero, List.set_cons_succ]
    refine' hw_take 1 (some 78) _ rfl rfl (by kernel_rfl) (by kernel_rfl) (by kernel_rfl) (fun _ _ _ h => h) (by rfl) hH ?hy338 ?rest338
    case hy338 =>
      intro X hX
      go_simp
      try rfl
    simp only [Act.put, List.setIfInBounds_toArray, List.set_cons_zero, List.set_cons_succ]
    refine' hw_take 2 (some 79) (.agg #[.int .i64 id, .bool up, .int .i64 ro, .int .i64 ep, .slice A2 (o + 1) c2, .int .i64 mn, .int .i64 ((o : Int) + 1), .int .i64 ot, .int .i64 co]) rfl rfl (by kernel_rfl) (by kernel_rfl) (by kernel_rfl) (fun _ _ _ h => h) (by rfl) hH ?hyA12x339 ?restA12x339
    case hyA12x339 =>
      intro X hX
      exact run_load_blk 36 (.tmp 78) rfl B rfl #[.int .i64 id, .bool up, .int .i64 ro, .int .i64 ep, .slice A2 (o + 1) c2, .int .i64 mn, .int .i64 ((o : Int) + 1), .int .i64 ot, .int .i64 co] _ (bE.turn hX (by omega)) Try.underlying36 rfl (by kernel_rfl)
    simp only [Act.put, List.setIfInBounds_toArray, List.set_cons_zero, List.set_cons_succ]
    refine' hw_take 3 (some 80) _ rfl rfl (by kernel_rfl) (by kernel_rfl) (by kernel_rfl) (fun _ _ _ h => h) (by rfl) hH ?hy340 ?rest340
    case hy340 =>
      intro X hX
      go_simp
      try rfl
    simp only [Act.put, List.setIfInBounds_toArray, List.set_cons_zero, List.set_cons_succ]
    refine' hw_take 4 (some 81) _ rfl rfl (by kernel_rfl) (by kernel_rfl) (by kernel_rfl) (fun _ _ _ h => h) (by rfl) hH ?hy341 ?rest341
    case hy341 =>
      intro X hX
      go_simp
      try rfl
    simp only [Act.put, List.setIfInBounds_toArray, List.set_cons_zero, List.set_cons_succ]
    refine' hw_take 5 (some 82) _ rfl rfl (by kernel_rfl) (by kernel_rfl) (by kernel_rfl) (fun _ _ _ h => h) (by rfl) hH ?hy342 ?rest342
    case hy342 =>
      intro X hX
      go_simp
      try rfl
    simp only [Act.put, List.setIfInBounds_toArray, List.set_cons_zero, List.set_cons_succ]
    refine' hw_take 6 (some 83) _ rfl rfl (by kernel_rfl) (by kernel_rfl) (by kernel_rfl) (fun _ _ _ h => h) (by rfl) hH ?hy343 ?rest343
    case hy343 =>
      intro X hX
      go_simp
      try rfl
    simp only [Act.put, List.setIfInBounds_toArray, List.set_cons_zero, List.set_cons_succ]
    refine' hw_take 7 (some 84) _ rfl rfl (by kernel_rfl) (by kernel_rfl) (by kernel_rfl) (fun _ _ _ h => h) (by rfl) hH ?hy344 ?rest344
    case hy344 =>
      intro X hX
      have cX := (bE.turn hX (by omega)).cells
      go_simp
      try rfl
    simp only [Act.put, List.setIfInBounds_toArray, List.set_cons_zero, List.set_cons_succ]
    refine' hw_take 8 (some 85) _ rfl rfl (by kernel_rfl) (by kernel_rfl) (by kernel_rfl) (fun _ _ _ h => h) (by rfl) hH ?hy345 ?rest345
    case hy345 =>
      intro X hX
      go_simp
      try rfl
    simp only [Act.put, List.setIfInBounds_toArray, List.set_cons_zero, List.set_cons_succ]
    refine' hw_take 9 (some 86) _ rfl rfl (by kernel_rfl) (by kernel_rfl) (by kernel_rfl) (fun _ _ _ h => h) (by rfl) hH ?hy346 ?rest346
    case hy346 =>
      intro X hX
      go_simp
      try rfl
    simp only [Act.put, List.setIfInBounds_toArray, List.set_cons_zero, List.set_cons_succ]
    refine' hw_take 10 (some 87) _ rfl rfl (by kernel_rfl) (by kernel_rfl) (by kernel_rfl) (fun _ _ _ h => h) (by rfl) hH ?hy347 ?rest347
    case hy347 =>
      intro X hX
      go_simp
      try rfl
    simp only [Act.put, List.setIfInBounds_toArray, List.set_cons_zero, List.set_cons_succ]
    refine' hw_take 11 (some 88) _ rfl rfl (by kernel_rfl) (by kernel_rfl) (by kernel_rfl) (fun _ _ _ h => h) (by rfl) hH ?hy348 ?rest348
    case hy348 =>
      intro X hX
      have cX := (bE.turn hX (by omega)).cells
      go_simp
      try rfl
    simp only [Act.put, List.setIfInBounds_toArray, List.set_cons_zero, List.set_cons_succ]
    refine' hw_take 12 (some 89) _ rfl rfl (by kernel_rfl) (by kernel_rfl) (by kernel_rfl) (fun _ _ _ h => h) (by rfl) hH ?hy349 ?rest349
    case hy349 =>
      intro X hX
      go_simp
      try rfl
    simp only [Act.put, List.setIfInBounds_toArray, List.set_cons_zero, List.set_cons_succ]
    have HMN : (if mn < ((o : Int) + 1) then mn else ((o : Int) + 1)) = a2 := by have := HA2.out; split <;> omega
    rw [HMN]
    refine hw_call 13 (some 90) rfl rfl (by kernel_rfl) (by rfl) (fun K hK => ?_)
    go_simp
    refine (mailAt_any 2 a2 B id up ro ep mn ((o : Int) + 1) ot co A2 (o + 1) c2 _ (bE.turn hH (by omega)) hid).mono ?_
    rintro e w5 ⟨rfl, hn5⟩
    have t45 := Turn.trans hH hn5 (fun i _ f => f.elim)
    go_simp
    refine hK.out _ _ t45 (fun hH5 => ?_)
    simp only [Act.put, List.setIfInBounds_toArray, List.set_cons_zero, List.set_cons_succ]
    refine hw_call 14 (some 91) rfl rfl (by kernel_rfl) (by rfl) (fun K hK => ?_)
    go_simp
    have al6 := (New.refl w5).alloc (.cells #[.int .i64 2, .int .i64 (1 - id), .int .i64 ep, .int .i64 a2, .int .i64 0, .bool false, .int .i64 0, .int .i64 0, .int .i64 0, .slice none 0 0] 46)
    have bM := Blk.mk w5 w5.heap.size 46 #[.int .i64 2, .int .i64 (1 - id), .int .i64 ep, .int .i64 a2, .int .i64 0, .bool false, .int .i64 0, .int .i64 0, .int .i64 0, .slice none 0 0] rfl
    have t46 := Turn.trans t45 al6 (fun i _ f => f.elim)
    refine hK.out _ _ t46 (fun hH6 => ?_)
    simp only [Act.put, List.setIfInBounds_toArray, List.set_cons_zero, List.set_cons_succ]
    refine' hw_take 15 (some 92) _ rfl rfl (by kernel_rfl) (by kernel_rfl) (by kernel_rfl) (fun _ _ _ h => h) (by rfl) hH6 ?hy350 ?rest350
    case hy350 =>
      intro X hX
      go_simp
      try rfl
    simp only [Act.put, List.setIfInBounds_toArray, List.set_cons_zero, List.set_cons_succ]
    refine hw_call 16 none rfl rfl (by kernel_rfl) (by rfl) (fun K hK => ?_)
    have b16 : Blk (w5.alloc (.cells #[.int .i64 2, .int .i64 (1 - id), .int .i64 ep, .int .i64 a2, .int .i64 0, .bool false, .int .i64 0, .int .i64 0, .int .i64 0, .slice none 0 0] 46)) w.heap.size 39 #[.int .i64 0, .int .i64 0, .bool false, .int .i64 0, .int .i64 0, .slice none 0 0, .int .i64 0, .int .i64 0, .int .i64 0, .int .i64 0, .slice none 0 0] := ((bRE.new ((New.refl _).drew)).new hn5).new al6
    have ho6 := ((hoE2.new ((New.refl _).drew)).new hn5).new al6
    have tA6 := Turn.trans tAE ((((New.refl _).drew).trans hn5).trans al6) (fun i _ f => f.elim)
    have z45 : wE.heap.size ≤ w5.heap.size := hn5.size
    have z6 := al6.size
    have zA : w.heap.size ≤ wE.heap.size := Turn.size tAE
    have l5 : w5.heap.size < (w5.alloc (.cells #[.int .i64 2, .int .i64 (1 - id), .int .i64 ep, .int .i64 a2, .int .i64 0, .bool false, .int .i64 0, .int .i64 0, .int .i64 0, .slice none 0 0] 46)).heap.size := bM.lt
    have lR : w.heap.size < wE.heap.size := bRE.lt
    refine hw_store 39 (.tmp 4) (.tmp 92) rfl rfl w.heap.size #[.int .i64 0, .int .i64 id, .bool up, .int .i64 ro, .int .i64 ep, .slice A2 (o + 1) c2, .int .i64 mn, .int .i64 ((o : Int) + 1), .int .i64 ot, .int .i64 co, .slice (some ⟨w5.heap.size, 0, none⟩) 1 1] #[.int .i64 0, .int .i64 0, .bool false, .int .i64 0, .int .i64 0, .slice none 0 0, .int .i64 0, .int .i64 0, .int .i64 0, .int .i64 0, .slice none 0 0] rfl rfl b16 (by kernel_rfl) rfl (by kernel_rfl) ?_
    generalize w5.alloc (.cells #[.int .i64 2, .int .i64 (1 - id), .int .i64 ep, .int .i64 a2, .int .i64 0, .bool false, .int .i64 0, .int .i64 0, .int .i64 0, .slice none 0 0] 46) = w6 at *
    have tR := Turn.rowW (Turn.refl (fun i => i = w.heap.size) w6) rfl #[.int .i64 0, .int .i64 id, .bool up, .int .i64 ro, .int .i64 ep, .slice A2 (o + 1) c2, .int .i64 mn, .int .i64 ((o : Int) + 1), .int .i64 ot, .int .i64 co, .slice (some ⟨w5.heap.size, 0, none⟩) 1 1]
    have bRR := b16.rowW #[.int .i64 0, .int .i64 id, .bool up, .int .i64 ro, .int .i64 ep, .slice A2 (o + 1) c2, .int .i64 mn, .int .i64 ((o : Int) + 1), .int .i64 ot, .int .i64 co, .slice (some ⟨w5.heap.size, 0, none⟩) 1 1]
    have hoR := ho6.turnB b16 (by decide) (by decide) tR
    have bMR := bM.turn tR (by omega)
    have tF := Turn.trans tA6 tR (fun i hi e => by omega)
    have zR := tR.size
    refine hK.out undef _ (Turn.trans hH6 tR (fun i _ e => e)) (fun hS2 => ?_)
    refine wpAnyH_done (by kernel_rfl) ?_ _
    generalize World.setRow _ _ _ = wR at *
    go_wp2
    all_goals exact bodyPost_ret (results_row1 rfl rfl bRR ⟨_, Try.underlying39⟩ (by kernel_rfl)) rfl (haAns_mk (U := V2) (Ms := [mlv0 2 (1 - id) ep a2]) (by exact HL2.out) rfl hV2 rfl (NrOw.one (lo := lo) (hi := wE.heap.size) (hoR.up (by omega)) (Nat.le_refl _) (by omega) (row_of_blk bMR rfl) (by omega) (by omega) (by omega)) tF)
  exact fun j hj => by cases hj

end Go.Proofs.Ythnigcalboobgaa

namespace Go.Proofs.Ythnigcalboobgaa
open Go.ChangeShapes Go.WideShapes Go.ChangeAt Go.RowKit
set_option linter.unusedVariables false
set_option linter.unusedSimpArgs false
set_option maxRecDepth 100000

theorem ha_any (B MB lo o : Nat) (id : Int) (up : Bool) (ro ep su ma ot co : Int) (A : Option Addr) (n c : Nat) (V1 : List EkV) (kd tgt me pr : Int) (has : Bool) (e1 k1 p1 : Int) (x : Option Addr) (m d : Nat) (xs : List Int) (wb w : World) (hb : Blk w B 36 #[.int .i64 id, .bool up, .int .i64 ro, .int .i64 ep, .slice A n c, .int .i64 su, .int .i64 ma, .int .i64 ot, .int .i64 co]) (hM : Blk w MB 46 #[.int .i64 kd, .int .i64 tgt, .int .i64 me, .int .i64 (o : Int), .int .i64 pr, .bool has, .int .i64 e1, .int .i64 k1, .int .i64 p1, .slice x m d]) (hoL0 : OwL w lo w.heap.size (.slice A n c) V1) (hlo0 : lo ≤ w.heap.size) (hMlo : MB < lo) (hlB : lo ≤ B) (hid : id = 0 ∨ id = 1) (hn : n ≤ 100) (hma : 0 ≤ ma ∧ ma ≤ n) (hco : co ≤ n) (hx : BsAt wb x xs) (hwb : New wb w) (hBb : wb.heap.size ≤ B) (hX : xs.length = m) (hnx : x = none → m = 0 ∧ d = 0) (hm : m ≤ 1048576) (ho100 : o ≤ 100) :
    Calls Try.prog 29 #[.pointer (some ⟨B, 0, none⟩), .pointer (some ⟨MB, 0, none⟩)] w (HaAns w lo B A n c (haF id up ro ep su ma ot co (V1.map EkV.r) o pr has ⟨e1, k1, p1, xs⟩)) := by
  have hl : (V1.map EkV.r).length = n := by rw [List.length_map]; exact hoL0.lg.2
  unfold haF
  rw [hl]
  by_cases hr : ro = 1
  · subst hr
    rw [if_pos rfl]
    exact ha_act B MB lo o id up ep su ma ot co A n c V1 kd tgt me pr has e1 k1 p1 x m d xs wb w hb hM hoL0 hlo0 hMlo hlB hid hn
  rw [if_neg hr]
  by_cases h1 : n < o ∨ ¬ prevE (V1.map EkV.r) o = pr
  · rw [if_pos h1]
    by_cases h2 : n < o
    · exact ha_far B MB lo o id up ro ep su ma ot co A n c V1 kd tgt me pr has e1 k1 p1 x m d xs wb w hb hM hoL0 hlo0 hMlo hlB hid hn hr h2
    · exact ha_prev B MB lo o id up ro ep su ma ot co A n c V1 kd tgt me pr has e1 k1 p1 x m d xs wb w hb hM hoL0 hlo0 hMlo hlB hid hn hr (by omega) _ rfl (by rcases h1 with h1 | h1; exact absurd h1 h2; exact h1)
  rw [if_neg h1]
  have ho : o ≤ n := by omega
  have hq : prevE (V1.map EkV.r) o = pr := by
    by_cases h : prevE (V1.map EkV.r) o = pr
    · exact h
    · exact absurd (.inr h) h1
  cases has with
  | false =>
    rw [if_pos rfl]
    exact ha_no B MB lo o id up ro ep su ma ot co A n c V1 kd tgt me pr e1 k1 p1 x m d xs wb w hb hM hoL0 hlo0 hMlo hlB hid hn hr ho hq hma
  | true =>
    rw [if_neg (by simp)]
    by_cases h3 : o < n ∧ prevE (V1.map EkV.r) (o + 1) = e1
    · rw [if_pos h3]
      exact ha_same B MB lo o id up ro ep su ma ot co A n c V1 kd tgt me pr e1 k1 p1 x m d xs wb w hb hM hoL0 hlo0 hMlo hlB hid hn hr ho hq hma h3.1 h3.2
    rw [if_neg h3]
    by_cases h4 : (o : Int) < co
    · rw [if_pos h4]
      exact ha_taken B MB lo o id up ro ep su ma ot co A n c V1 kd tgt me pr e1 k1 p1 x m d xs wb w hb hM hoL0 hlo0 hMlo hlB hid hn hr ho hq (by omega) (fun e => h3 ⟨by omega, e⟩) h4
    rw [if_neg h4]
    by_cases h5 : 100 ≤ o
    · rw [if_pos h5]
      exact ha_full B MB lo o id up ro ep su ma ot co A n c V1 kd tgt me pr e1 k1 p1 x m d xs wb w hb hM hoL0 hlo0 hMlo hlB hid hn hr ho hq (by omega) (by omega) (by omega)
    rw [if_neg h5]
    by_cases h6 : o < n
    · exact ha_mid B MB lo o id up ro ep su ma ot co A n c V1 kd tgt me pr e1 k1 p1 x m d xs wb w hb hM hoL0 hlo0 hMlo hlB hid hn hr ho hq hma hx hwb hBb hX hnx hm h6 (fun e => h3 ⟨h6, e⟩) (by omega)
    · exact ha_end B MB lo o id up ro ep su ma ot co A n c V1 kd tgt me pr e1 k1 p1 x m d xs wb w hb hM hoL0 hlo0 hMlo hlB hid hn hr ho hq hma hx hwb hBb hX hnx hm (by omega) (by omega) (by omega)

end Go.Proofs.Ythnigcalboobgaa

namespace Go.Proofs.Ythnigcalboobgaa
open Go.RowKit Go.Sort
set_option linter.unusedVariables false
set_option linter.unusedSimpArgs false
set_option maxRecDepth 100000

theorem fFor_v (v id : Int) (B : Nat) (kd tgt me at1 pr : Int) (has : Bool) (ee ki pe : Int) (a : Option Addr) (m c1 : Nat) (w : World) (hb : Blk w B 46 #[.int .i64 kd, .int .i64 tgt, .int .i64 me, .int .i64 at1, .int .i64 pr, .bool has, .int .i64 ee, .int .i64 ki, .int .i64 pe, .slice a m c1]) (hm : m ≤ 1048576) (hv : mlF id kd tgt me at1 pr has ee ki pe m = v) :
    Calls Try.prog 26 #[.pointer (some ⟨B, 0, none⟩), .int .i64 id] w fun e w' => e = .returned (.int .i64 v) ∧ New w w' := by
  rw [← hv]; exact fFor_any id B kd tgt me at1 pr has ee ki pe a m c1 w hb hm
theorem NrOw.wide {w : World} {b0 b1 c0 c1 n c q cs : Nat} {A S : Option Addr} {U : List EkV} {Ms : List MlV} (h : NrOw w b0 b1 A n c U S q cs Ms) (h0 : c0 ≤ b0) (h1 : b1 ≤ c1) : NrOw w c0 c1 A n c U S q cs Ms := by
  obtain ⟨lo, hi, P, k1, k2, k3, k4, k5, k6⟩ := h
  exact ⟨lo, hi, P, k1, k2, k3, fun i hi => ⟨Nat.le_trans h0 (k4 i hi).1, Nat.lt_of_lt_of_le (k4 i hi).2 h1⟩, Nat.le_trans h0 k5, Nat.le_trans k6 h1⟩

set_option maxHeartbeats 3200000 in
theorem iHr_f (id : Int) (up : Bool) (ro ep su ma ot co : Int) (A : Option Addr) (n c : Nat) (V : List EkV) (kd tgt me at1 pr : Int) (has : Bool) (e1 k1 p1 : Int) (x : Option Addr) (m d : Nat) (xs : List Int) (w : World) (h : LgAt w A V) (hN : NlK V) (hn : V.length = n) (hm : n ≤ 2097152) (hx : BsAt w x xs) (hX : xs.length = m) (hnx : x = none → m = 0 ∧ d = 0) (hm1 : m ≤ 1048576) (z : Int) (hf : uF up (nF id up ro ep su ma ot co n (V.map EkV.r)) = z) (hz : ¬ z = 0) :
    Calls Try.prog 9 #[.agg #[.int .i64 id, .bool up, .int .i64 ro, .int .i64 ep, .slice A n c, .int .i64 su, .int .i64 ma, .int .i64 ot, .int .i64 co], .agg #[.int .i64 kd, .int .i64 tgt, .int .i64 me, .int .i64 at1, .int .i64 pr, .bool has, .int .i64 e1, .int .i64 k1, .int .i64 p1, .slice x m d]] w (NrA w (.bad z)) := by
  have hw := (((New.refl w).alloc (.cells #[.int .i64 id, .bool up, .int .i64 ro, .int .i64 ep, .slice A n c, .int .i64 su, .int .i64 ma, .int .i64 ot, .int .i64 co] 36)).alloc (.cells #[.int .i64 kd, .int .i64 tgt, .int .i64 me, .int .i64 at1, .int .i64 pr, .bool has, .int .i64 e1, .int .i64 k1, .int .i64 p1, .slice x m d] 46)).alloc (.cells #[.int .i64 0, .int .i64 0, .bool false, .int .i64 0, .int .i64 0, .slice none 0 0, .int .i64 0, .int .i64 0, .int .i64 0, .int .i64 0, .slice none 0 0] 39)
  have b0 := ((Blk.mk w w.heap.size 36 #[.int .i64 id, .bool up, .int .i64 ro, .int .i64 ep, .slice A n c, .int .i64 su, .int .i64 ma, .int .i64 ot, .int .i64 co] rfl).alloc (.cells #[.int .i64 kd, .int .i64 tgt, .int .i64 me, .int .i64 at1, .int .i64 pr, .bool has, .int .i64 e1, .int .i64 k1, .int .i64 p1, .slice x m d] 46)).alloc (.cells #[.int .i64 0, .int .i64 0, .bool false, .int .i64 0, .int .i64 0, .slice none 0 0, .int .i64 0, .int .i64 0, .int .i64 0, .int .i64 0, .slice none 0 0] 39)
  have bV := (Blk.mk (w.alloc (.cells #[.int .i64 id, .bool up, .int .i64 ro, .int .i64 ep, .slice A n c, .int .i64 su, .int .i64 ma, .int .i64 ot, .int .i64 co] 36)) (w.heap.size + 1) 46 #[.int .i64 kd, .int .i64 tgt, .int .i64 me, .int .i64 at1, .int .i64 pr, .bool has, .int .i64 e1, .int .i64 k1, .int .i64 p1, .slice x m d] (by simp)).alloc (.cells #[.int .i64 0, .int .i64 0, .bool false, .int .i64 0, .int .i64 0, .slice none 0 0, .int .i64 0, .int .i64 0, .int .i64 0, .int .i64 0, .slice none 0 0] 39)
  have b1 := Blk.mk ((w.alloc (.cells #[.int .i64 id, .bool up, .int .i64 ro, .int .i64 ep, .slice A n c, .int .i64 su, .int .i64 ma, .int .i64 ot, .int .i64 co] 36)).alloc (.cells #[.int .i64 kd, .int .i64 tgt, .int .i64 me, .int .i64 at1, .int .i64 pr, .bool has, .int .i64 e1, .int .i64 k1, .int .i64 p1, .slice x m d] 46)) (w.heap.size + 1 + 1) 39 #[.int .i64 0, .int .i64 0, .bool false, .int .i64 0, .int .i64 0, .slice none 0 0, .int .i64 0, .int .i64 0, .int .i64 0, .int .i64 0, .slice none 0 0] (by simp)
  have s0 : Hid ((((w.alloc (.cells #[.int .i64 id, .bool up, .int .i64 ro, .int .i64 ep, .slice A n c, .int .i64 su, .int .i64 ma, .int .i64 ot, .int .i64 co] 36)).alloc (.cells #[.int .i64 kd, .int .i64 tgt, .int .i64 me, .int .i64 at1, .int .i64 pr, .bool has, .int .i64 e1, .int .i64 k1, .int .i64 p1, .slice x m d] 46)).alloc (.cells #[.int .i64 0, .int .i64 0, .bool false, .int .i64 0, .int .i64 0, .slice none 0 0, .int .i64 0, .int .i64 0, .int .i64 0, .int .i64 0, .slice none 0 0] 39)).heap.size = w.heap.size + 1 + 1 + 1) := by unfold Hid; simp
  go_enter Try.func9, Try.ntmps9
  go_upto_region 1 with fail
  generalize ((w.alloc (.cells #[.int .i64 id, .bool up, .int .i64 ro, .int .i64 ep, .slice A n c, .int .i64 su, .int .i64 ma, .int .i64 ot, .int .i64 co] 36)).alloc (.cells #[.int .i64 kd, .int .i64 tgt, .int .i64 me, .int .i64 at1, .int .i64 pr, .bool has, .int .i64 e1, .int .i64 k1, .int .i64 p1, .slice x m d] 46)).alloc (.cells #[.int .i64 0, .int .i64 0, .bool false, .int .i64 0, .int .i64 0, .slice none 0 0, .int .i64 0, .int .i64 0, .int .i64 0, .int .i64 0, .slice none 0 0] 39) = w0 at *
  have S0 := s0.out
  have c0 := b0.cells
  go_wp2_with fail
  refine (upF_any z w.heap.size id up ro ep su ma ot co A n c V _ b0 (h.new hw) hn hm hf).mono ?_
  rintro e w1 ⟨rfl, hn1⟩
  have b11 := b1.new hn1
  have b01 := b0.new hn1
  have bV1 := bV.new hn1
  have c01 := b01.cells
  have hw1 := hw.trans hn1
  have z01 := hn1.size
  clear c0
  have c1 := (b11).cells
  have f1 := (b11).frees
  go_wp2
  refine bodyPost_ret (v := .agg #[.int .i64 z, .int .i64 0, .bool false, .int .i64 0, .int .i64 0, .slice none 0 0, .int .i64 0, .int .i64 0, .int .i64 0, .int .i64 0, .slice none 0 0]) (by simp [results, Try.results9, go_sem, c1]) rfl (nrAns_bad z ?_)
  exact ((((((((((((hw1)).setCell (by simp; try omega) _).setCell (by simp; try omega) _).setCell (by simp; try omega) _).setCell (by simp; try omega) _).setCell (by simp; try omega) _).setCell (by simp; try omega) _).setCell (by simp; try omega) _).setCell (by simp; try omega) _).setCell (by simp; try omega) _).setCell (by simp; try omega) _).setCell (by simp; try omega) _

set_option maxHeartbeats 3200000 in
theorem iHr_m (id : Int) (up : Bool) (ro ep su ma ot co : Int) (A : Option Addr) (n c : Nat) (V : List EkV) (kd tgt me at1 pr : Int) (has : Bool) (e1 k1 p1 : Int) (x : Option Addr) (m d : Nat) (xs : List Int) (w : World) (h : LgAt w A V) (hN : NlK V) (hn : V.length = n) (hm : n ≤ 2097152) (hx : BsAt w x xs) (hX : xs.length = m) (hnx : x = none → m = 0 ∧ d = 0) (hm1 : m ≤ 1048576) (hf : uF up (nF id up ro ep su ma ot co n (V.map EkV.r)) = 0) (z : Int) (he : mlF id kd tgt me at1 pr has e1 k1 p1 m = z) (hz : ¬ z = 0) :
    Calls Try.prog 9 #[.agg #[.int .i64 id, .bool up, .int .i64 ro, .int .i64 ep, .slice A n c, .int .i64 su, .int .i64 ma, .int .i64 ot, .int .i64 co], .agg #[.int .i64 kd, .int .i64 tgt, .int .i64 me, .int .i64 at1, .int .i64 pr, .bool has, .int .i64 e1, .int .i64 k1, .int .i64 p1, .slice x m d]] w (NrA w (.bad z)) := by
  have hw := (((New.refl w).alloc (.cells #[.int .i64 id, .bool up, .int .i64 ro, .int .i64 ep, .slice A n c, .int .i64 su, .int .i64 ma, .int .i64 ot, .int .i64 co] 36)).alloc (.cells #[.int .i64 kd, .int .i64 tgt, .int .i64 me, .int .i64 at1, .int .i64 pr, .bool has, .int .i64 e1, .int .i64 k1, .int .i64 p1, .slice x m d] 46)).alloc (.cells #[.int .i64 0, .int .i64 0, .bool false, .int .i64 0, .int .i64 0, .slice none 0 0, .int .i64 0, .int .i64 0, .int .i64 0, .int .i64 0, .slice none 0 0] 39)
  have b0 := ((Blk.mk w w.heap.size 36 #[.int .i64 id, .bool up, .int .i64 ro, .int .i64 ep, .slice A n c, .int .i64 su, .int .i64 ma, .int .i64 ot, .int .i64 co] rfl).alloc (.cells #[.int .i64 kd, .int .i64 tgt, .int .i64 me, .int .i64 at1, .int .i64 pr, .bool has, .int .i64 e1, .int .i64 k1, .int .i64 p1, .slice x m d] 46)).alloc (.cells #[.int .i64 0, .int .i64 0, .bool false, .int .i64 0, .int .i64 0, .slice none 0 0, .int .i64 0, .int .i64 0, .int .i64 0, .int .i64 0, .slice none 0 0] 39)
  have bV := (Blk.mk (w.alloc (.cells #[.int .i64 id, .bool up, .int .i64 ro, .int .i64 ep, .slice A n c, .int .i64 su, .int .i64 ma, .int .i64 ot, .int .i64 co] 36)) (w.heap.size + 1) 46 #[.int .i64 kd, .int .i64 tgt, .int .i64 me, .int .i64 at1, .int .i64 pr, .bool has, .int .i64 e1, .int .i64 k1, .int .i64 p1, .slice x m d] (by simp)).alloc (.cells #[.int .i64 0, .int .i64 0, .bool false, .int .i64 0, .int .i64 0, .slice none 0 0, .int .i64 0, .int .i64 0, .int .i64 0, .int .i64 0, .slice none 0 0] 39)
  have b1 := Blk.mk ((w.alloc (.cells #[.int .i64 id, .bool up, .int .i64 ro, .int .i64 ep, .slice A n c, .int .i64 su, .int .i64 ma, .int .i64 ot, .int .i64 co] 36)).alloc (.cells #[.int .i64 kd, .int .i64 tgt, .int .i64 me, .int .i64 at1, .int .i64 pr, .bool has, .int .i64 e1, .int .i64 k1, .int .i64 p1, .slice x m d] 46)) (w.heap.size + 1 + 1) 39 #[.int .i64 0, .int .i64 0, .bool false, .int .i64 0, .int .i64 0, .slice none 0 0, .int .i64 0, .int .i64 0, .int .i64 0, .int .i64 0, .slice none 0 0] (by simp)
  have s0 : Hid ((((w.alloc (.cells #[.int .i64 id, .bool up, .int .i64 ro, .int .i64 ep, .slice A n c, .int .i64 su, .int .i64 ma, .int .i64 ot, .int .i64 co] 36)).alloc (.cells #[.int .i64 kd, .int .i64 tgt, .int .i64 me, .int .i64 at1, .int .i64 pr, .bool has, .int .i64 e1, .int .i64 k1, .int .i64 p1, .slice x m d] 46)).alloc (.cells #[.int .i64 0, .int .i64 0, .bool false, .int .i64 0, .int .i64 0, .slice none 0 0, .int .i64 0, .int .i64 0, .int .i64 0, .int .i64 0, .slice none 0 0] 39)).heap.size = w.heap.size + 1 + 1 + 1) := by unfold Hid; simp
  go_enter Try.func9, Try.ntmps9
  go_upto_region 1 with fail
  generalize ((w.alloc (.cells #[.int .i64 id, .bool up, .int .i64 ro, .int .i64 ep, .slice A n c, .int .i64 su, .int .i64 ma, .int .i64 ot, .int .i64 co] 36)).alloc (.cells #[.int .i64 kd, .int .i64 tgt, .int .i64 me, .int .i64 at1, .int .i64 pr, .bool has, .int .i64 e1, .int .i64 k1, .int .i64 p1, .slice x m d] 46)).alloc (.cells #[.int .i64 0, .int .i64 0, .bool false, .int .i64 0, .int .i64 0, .slice none 0 0, .int .i64 0, .int .i64 0, .int .i64 0, .int .i64 0, .slice none 0 0] 39) = w0 at *
  have S0 := s0.out
  have c0 := b0.cells
  go_wp2_with fail
  refine (upF_any 0 w.heap.size id up ro ep su ma ot co A n c V _ b0 (h.new hw) hn hm hf).mono ?_
  rintro e w1 ⟨rfl, hn1⟩
  have b11 := b1.new hn1
  have b01 := b0.new hn1
  have bV1 := bV.new hn1
  have c01 := b01.cells
  have hw1 := hw.trans hn1
  have z01 := hn1.size
  clear c0
  go_wp2_with fail
  refine (fFor_v z id (w.heap.size + 1) kd tgt me at1 pr has e1 k1 p1 x m d _ bV1 hm1 he).mono ?_
  rintro e w1b ⟨rfl, hn1b⟩
  have b11b := b11.new hn1b
  have b01b := b01.new hn1b
  have bV1b := bV1.new hn1b
  have hw1b := hw1.trans hn1b
  have z1b := hn1b.size
  have c01b := b01b.cells
  clear c01 b11 b01 bV1
  have c1 := (b11b).cells
  have f1 := (b11b).frees
  go_wp2
  refine bodyPost_ret (v := .agg #[.int .i64 z, .int .i64 0, .bool false, .int .i64 0, .int .i64 0, .slice none 0 0, .int .i64 0, .int .i64 0, .int .i64 0, .int .i64 0, .slice none 0 0]) (by simp [results, Try.results9, go_sem, c1]) rfl (nrAns_bad z ?_)
  exact ((((((((((((hw1b)).setCell (by simp; try omega) _).setCell (by simp; try omega) _).setCell (by simp; try omega) _).setCell (by simp; try omega) _).setCell (by simp; try omega) _).setCell (by simp; try omega) _).setCell (by simp; try omega) _).setCell (by simp; try omega) _).setCell (by simp; try omega) _).setCell (by simp; try omega) _).setCell (by simp; try omega) _

set_option maxHeartbeats 3200000 in
theorem iHr_old (id : Int) (up : Bool) (ro ep su ma ot co : Int) (A : Option Addr) (n c : Nat) (V : List EkV) (kd tgt me at1 pr : Int) (has : Bool) (e1 k1 p1 : Int) (x : Option Addr) (m d : Nat) (xs : List Int) (w : World) (h : LgAt w A V) (hN : NlK V) (hn : V.length = n) (hm : n ≤ 2097152) (hx : BsAt w x xs) (hX : xs.length = m) (hnx : x = none → m = 0 ∧ d = 0) (hm1 : m ≤ 1048576) (hf : uF up (nF id up ro ep su ma ot co n (V.map EkV.r)) = 0) (he : mlF id kd tgt me at1 pr has e1 k1 p1 m = 0) (hk : me < ep) (hd1 : decide (me < ep) = true) :
    Calls Try.prog 9 #[.agg #[.int .i64 id, .bool up, .int .i64 ro, .int .i64 ep, .slice A n c, .int .i64 su, .int .i64 ma, .int .i64 ot, .int .i64 co], .agg #[.int .i64 kd, .int .i64 tgt, .int .i64 me, .int .i64 at1, .int .i64 pr, .bool has, .int .i64 e1, .int .i64 k1, .int .i64 p1, .slice x m d]] w (NrA w ⟨0, id, up, ro, ep, su, ma, ot, co, V.map EkV.r, []⟩) := by
  have HLn : Hid (V.length = n) := hn
  have hw := (((New.refl w).alloc (.cells #[.int .i64 id, .bool up, .int .i64 ro, .int .i64 ep, .slice A n c, .int .i64 su, .int .i64 ma, .int .i64 ot, .int .i64 co] 36)).alloc (.cells #[.int .i64 kd, .int .i64 tgt, .int .i64 me, .int .i64 at1, .int .i64 pr, .bool has, .int .i64 e1, .int .i64 k1, .int .i64 p1, .slice x m d] 46)).alloc (.cells #[.int .i64 0, .int .i64 0, .bool false, .int .i64 0, .int .i64 0, .slice none 0 0, .int .i64 0, .int .i64 0, .int .i64 0, .int .i64 0, .slice none 0 0] 39)
  have b0 := ((Blk.mk w w.heap.size 36 #[.int .i64 id, .bool up, .int .i64 ro, .int .i64 ep, .slice A n c, .int .i64 su, .int .i64 ma, .int .i64 ot, .int .i64 co] rfl).alloc (.cells #[.int .i64 kd, .int .i64 tgt, .int .i64 me, .int .i64 at1, .int .i64 pr, .bool has, .int .i64 e1, .int .i64 k1, .int .i64 p1, .slice x m d] 46)).alloc (.cells #[.int .i64 0, .int .i64 0, .bool false, .int .i64 0, .int .i64 0, .slice none 0 0, .int .i64 0, .int .i64 0, .int .i64 0, .int .i64 0, .slice none 0 0] 39)
  have bV := (Blk.mk (w.alloc (.cells #[.int .i64 id, .bool up, .int .i64 ro, .int .i64 ep, .slice A n c, .int .i64 su, .int .i64 ma, .int .i64 ot, .int .i64 co] 36)) (w.heap.size + 1) 46 #[.int .i64 kd, .int .i64 tgt, .int .i64 me, .int .i64 at1, .int .i64 pr, .bool has, .int .i64 e1, .int .i64 k1, .int .i64 p1, .slice x m d] (by simp)).alloc (.cells #[.int .i64 0, .int .i64 0, .bool false, .int .i64 0, .int .i64 0, .slice none 0 0, .int .i64 0, .int .i64 0, .int .i64 0, .int .i64 0, .slice none 0 0] 39)
  have b1 := Blk.mk ((w.alloc (.cells #[.int .i64 id, .bool up, .int .i64 ro, .int .i64 ep, .slice A n c, .int .i64 su, .int .i64 ma, .int .i64 ot, .int .i64 co] 36)).alloc (.cells #[.int .i64 kd, .int .i64 tgt, .int .i64 me, .int .i64 at1, .int .i64 pr, .bool has, .int .i64 e1, .int .i64 k1, .int .i64 p1, .slice x m d] 46)) (w.heap.size + 1 + 1) 39 #[.int .i64 0, .int .i64 0, .bool false, .int .i64 0, .int .i64 0, .slice none 0 0, .int .i64 0, .int .i64 0, .int .i64 0, .int .i64 0, .slice none 0 0] (by simp)
  have s0 : Hid ((((w.alloc (.cells #[.int .i64 id, .bool up, .int .i64 ro, .int .i64 ep, .slice A n c, .int .i64 su, .int .i64 ma, .int .i64 ot, .int .i64 co] 36)).alloc (.cells #[.int .i64 kd, .int .i64 tgt, .int .i64 me, .int .i64 at1, .int .i64 pr, .bool has, .int .i64 e1, .int .i64 k1, .int .i64 p1, .slice x m d] 46)).alloc (.cells #[.int .i64 0, .int .i64 0, .bool false, .int .i64 0, .int .i64 0, .slice none 0 0, .int .i64 0, .int .i64 0, .int .i64 0, .int .i64 0, .slice none 0 0] 39)).heap.size = w.heap.size + 1 + 1 + 1) := by unfold Hid; simp
  go_enter Try.func9, Try.ntmps9
  go_upto_region 1 with fail
  generalize ((w.alloc (.cells #[.int .i64 id, .bool up, .int .i64 ro, .int .i64 ep, .slice A n c, .int .i64 su, .int .i64 ma, .int .i64 ot, .int .i64 co] 36)).alloc (.cells #[.int .i64 kd, .int .i64 tgt, .int .i64 me, .int .i64 at1, .int .i64 pr, .bool has, .int .i64 e1, .int .i64 k1, .int .i64 p1, .slice x m d] 46)).alloc (.cells #[.int .i64 0, .int .i64 0, .bool false, .int .i64 0, .int .i64 0, .slice none 0 0, .int .i64 0, .int .i64 0, .int .i64 0, .int .i64 0, .slice none 0 0] 39) = w0 at *
  have S0 := s0.out
  have c0 := b0.cells
  go_wp2_with fail
  refine (upF_any 0 w.heap.size id up ro ep su ma ot co A n c V _ b0 (h.new hw) hn hm hf).mono ?_
  rintro e w1 ⟨rfl, hn1⟩
  have b11 := b1.new hn1
  have b01 := b0.new hn1
  have bV1 := bV.new hn1
  have c01 := b01.cells
  have hw1 := hw.trans hn1
  have z01 := hn1.size
  clear c0
  go_wp2_with fail
  refine (fFor_v 0 id (w.heap.size + 1) kd tgt me at1 pr has e1 k1 p1 x m d _ bV1 hm1 he).mono ?_
  rintro e w1b ⟨rfl, hn1b⟩
  have b11b := b11.new hn1b
  have b01b := b01.new hn1b
  have bV1b := bV1.new hn1b
  have hw1b := hw1.trans hn1b
  have z1b := hn1b.size
  have c01b := b01b.cells
  clear c01 b11 b01 bV1
  go_wp2_with fail
  refine (copyNd_any w.heap.size id up ro ep su ma ot co A n c V _ b01b (h.new hw1b) hN hn hm).mono ?_
  rintro e w2 ⟨A3, c3, V1, rfl, hV, ho, hn2⟩
  have al := (New.refl w2).alloc (.cells #[.int .i64 id, .bool up, .int .i64 ro, .int .i64 ep, .slice A3 n c3, .int .i64 su, .int .i64 ma, .int .i64 ot, .int .i64 co] 36)
  have bV3 := (bV1b.new hn2).new al
  have b13 := (b11b.new hn2).new al
  have bB := Blk.mk w2 w2.heap.size 36 #[.int .i64 id, .bool up, .int .i64 ro, .int .i64 ep, .slice A3 n c3, .int .i64 su, .int .i64 ma, .int .i64 ot, .int .i64 co] rfl
  have z12 := hn2.size
  have z23 := al.size
  have hoL := (ho.new al).up al.size
  have hw3 := (hw1b.trans hn2).trans al
  have l3 := bB.lt
  clear ho hn2 c01b
  go_upto_region 8 with fail
  generalize w2.alloc (.cells #[.int .i64 id, .bool up, .int .i64 ro, .int .i64 ep, .slice A3 n c3, .int .i64 su, .int .i64 ma, .int .i64 ot, .int .i64 co] 36) = w3 at *
  generalize hNB : w2.heap.size = NB at *
  generalize hlo1 : w1b.heap.size = lo at *
  have cX := bB.cells
  have cV := bV3.cells
  have c1 := b13.cells
  have f1 := b13.frees
  go_wp2
  refine bodyPost_ret (v := .agg #[.int .i64 0, .int .i64 id, .bool up, .int .i64 ro, .int .i64 ep, .slice A3 n c3, .int .i64 su, .int .i64 ma, .int .i64 ot, .int .i64 co, .slice none 0 0]) (by simp [results, Try.results9, go_sem, c1]) rfl (nrAns_mk (U := V1) (Ms := []) (by simpa using HLn.out) rfl hV rfl (NrOw.log (lo := lo) (hi := w3.heap.size) (OwL.turn (w := w3) (S := fun i => i = w.heap.size + 1 + 1) hoL ?t1 (by intro k hk _ e; omega)) (by omega) ?u1) ?n1)
  case t1 => exact set11 (S := fun i => i = w.heap.size + 1 + 1) w3 (w.heap.size + 1 + 1) rfl _ _ _ _ _ _ _ _ _ _ _
  case u1 => exact Nat.le_trans (by omega) (Turn.size (S := fun i => i = w.heap.size + 1 + 1) (set11 (S := fun i => i = w.heap.size + 1 + 1) w3 (w.heap.size + 1 + 1) rfl _ _ _ _ _ _ _ _ _ _ _))
  case n1 => exact Turn.trans (S := fun _ => False) (T := fun i => i = w.heap.size + 1 + 1) hw3 (set11 (S := fun i => i = w.heap.size + 1 + 1) w3 (w.heap.size + 1 + 1) rfl _ _ _ _ _ _ _ _ _ _ _) (fun i hi e => by omega)

set_option maxHeartbeats 3200000 in
theorem iHr_te (id : Int) (up : Bool) (ro ep su ma ot co : Int) (A : Option Addr) (n c : Nat) (V : List EkV) (tgt me : Int) (o : Nat) (pr : Int) (has : Bool) (e1 k1 p1 : Int) (x : Option Addr) (m d : Nat) (xs : List Int) (w : World) (h : LgAt w A V) (hN : NlK V) (hn : V.length = n) (hm : n ≤ 2097152) (hx : BsAt w x xs) (hX : xs.length = m) (hnx : x = none → m = 0 ∧ d = 0) (hm1 : m ≤ 1048576) (hf : uF up (nF id up ro ep su ma ot co n (V.map EkV.r)) = 0) (he : mlF id 2 tgt me (o : Int) pr has e1 k1 p1 m = 0) (hk : me = ep) (hd1 : decide (me < ep) = false) (hd2 : decide (ep < me) = false) :
    Calls Try.prog 9 #[.agg #[.int .i64 id, .bool up, .int .i64 ro, .int .i64 ep, .slice A n c, .int .i64 su, .int .i64 ma, .int .i64 ot, .int .i64 co], .agg #[.int .i64 2, .int .i64 tgt, .int .i64 me, .int .i64 (o : Int), .int .i64 pr, .bool has, .int .i64 e1, .int .i64 k1, .int .i64 p1, .slice x m d]] w (NrA w ⟨0, id, up, ro, ep, su, ma, htO ro ot o n, htC ro su ot co o n, V.map EkV.r, []⟩) := by
  have HLn : Hid (V.length = n) := hn
  clear hk
  have hw := (((New.refl w).alloc (.cells #[.int .i64 id, .bool up, .int .i64 ro, .int .i64 ep, .slice A n c, .int .i64 su, .int .i64 ma, .int .i64 ot, .int .i64 co] 36)).alloc (.cells #[.int .i64 2, .int .i64 tgt, .int .i64 me, .int .i64 (o : Int), .int .i64 pr, .bool has, .int .i64 e1, .int .i64 k1, .int .i64 p1, .slice x m d] 46)).alloc (.cells #[.int .i64 0, .int .i64 0, .bool false, .int .i64 0, .int .i64 0, .slice none 0 0, .int .i64 0, .int .i64 0, .int .i64 0, .int .i64 0, .slice none 0 0] 39)
  have b0 := ((Blk.mk w w.heap.size 36 #[.int .i64 id, .bool up, .int .i64 ro, .int .i64 ep, .slice A n c, .int .i64 su, .int .i64 ma, .int .i64 ot, .int .i64 co] rfl).alloc (.cells #[.int .i64 2, .int .i64 tgt, .int .i64 me, .int .i64 (o : Int), .int .i64 pr, .bool has, .int .i64 e1, .int .i64 k1, .int .i64 p1, .slice x m d] 46)).alloc (.cells #[.int .i64 0, .int .i64 0, .bool false, .int .i64 0, .int .i64 0, .slice none 0 0, .int .i64 0, .int .i64 0, .int .i64 0, .int .i64 0, .slice none 0 0] 39)
  have bV := (Blk.mk (w.alloc (.cells #[.int .i64 id, .bool up, .int .i64 ro, .int .i64 ep, .slice A n c, .int .i64 su, .int .i64 ma, .int .i64 ot, .int .i64 co] 36)) (w.heap.size + 1) 46 #[.int .i64 2, .int .i64 tgt, .int .i64 me, .int .i64 (o : Int), .int .i64 pr, .bool has, .int .i64 e1, .int .i64 k1, .int .i64 p1, .slice x m d] (by simp)).alloc (.cells #[.int .i64 0, .int .i64 0, .bool false, .int .i64 0, .int .i64 0, .slice none 0 0, .int .i64 0, .int .i64 0, .int .i64 0, .int .i64 0, .slice none 0 0] 39)
  have b1 := Blk.mk ((w.alloc (.cells #[.int .i64 id, .bool up, .int .i64 ro, .int .i64 ep, .slice A n c, .int .i64 su, .int .i64 ma, .int .i64 ot, .int .i64 co] 36)).alloc (.cells #[.int .i64 2, .int .i64 tgt, .int .i64 me, .int .i64 (o : Int), .int .i64 pr, .bool has, .int .i64 e1, .int .i64 k1, .int .i64 p1, .slice x m d] 46)) (w.heap.size + 1 + 1) 39 #[.int .i64 0, .int .i64 0, .bool false, .int .i64 0, .int .i64 0, .slice none 0 0, .int .i64 0, .int .i64 0, .int .i64 0, .int .i64 0, .slice none 0 0] (by simp)
  have s0 : Hid ((((w.alloc (.cells #[.int .i64 id, .bool up, .int .i64 ro, .int .i64 ep, .slice A n c, .int .i64 su, .int .i64 ma, .int .i64 ot, .int .i64 co] 36)).alloc (.cells #[.int .i64 2, .int .i64 tgt, .int .i64 me, .int .i64 (o : Int), .int .i64 pr, .bool has, .int .i64 e1, .int .i64 k1, .int .i64 p1, .slice x m d] 46)).alloc (.cells #[.int .i64 0, .int .i64 0, .bool false, .int .i64 0, .int .i64 0, .slice none 0 0, .int .i64 0, .int .i64 0, .int .i64 0, .int .i64 0, .slice none 0 0] 39)).heap.size = w.heap.size + 1 + 1 + 1) := by unfold Hid; simp
  go_enter Try.func9, Try.ntmps9
  go_upto_region 1 with fail
  generalize ((w.alloc (.cells #[.int .i64 id, .bool up, .int .i64 ro, .int .i64 ep, .slice A n c, .int .i64 su, .int .i64 ma, .int .i64 ot, .int .i64 co] 36)).alloc (.cells #[.int .i64 2, .int .i64 tgt, .int .i64 me, .int .i64 (o : Int), .int .i64 pr, .bool has, .int .i64 e1, .int .i64 k1, .int .i64 p1, .slice x m d] 46)).alloc (.cells #[.int .i64 0, .int .i64 0, .bool false, .int .i64 0, .int .i64 0, .slice none 0 0, .int .i64 0, .int .i64 0, .int .i64 0, .int .i64 0, .slice none 0 0] 39) = w0 at *
  have S0 := s0.out
  have c0 := b0.cells
  go_wp2_with fail
  refine (upF_any 0 w.heap.size id up ro ep su ma ot co A n c V _ b0 (h.new hw) hn hm hf).mono ?_
  rintro e w1 ⟨rfl, hn1⟩
  have b11 := b1.new hn1
  have b01 := b0.new hn1
  have bV1 := bV.new hn1
  have c01 := b01.cells
  have hw1 := hw.trans hn1
  have z01 := hn1.size
  clear c0
  go_wp2_with fail
  refine (fFor_v 0 id (w.heap.size + 1) 2 tgt me (o : Int) pr has e1 k1 p1 x m d _ bV1 hm1 he).mono ?_
  rintro e w1b ⟨rfl, hn1b⟩
  have b11b := b11.new hn1b
  have b01b := b01.new hn1b
  have bV1b := bV1.new hn1b
  have hw1b := hw1.trans hn1b
  have z1b := hn1b.size
  have c01b := b01b.cells
  clear c01 b11 b01 bV1
  go_wp2_with fail
  refine (copyNd_any w.heap.size id up ro ep su ma ot co A n c V _ b01b (h.new hw1b) hN hn hm).mono ?_
  rintro e w2 ⟨A3, c3, V1, rfl, hV, ho, hn2⟩
  have al := (New.refl w2).alloc (.cells #[.int .i64 id, .bool up, .int .i64 ro, .int .i64 ep, .slice A3 n c3, .int .i64 su, .int .i64 ma, .int .i64 ot, .int .i64 co] 36)
  have bV3 := (bV1b.new hn2).new al
  have b13 := (b11b.new hn2).new al
  have bB := Blk.mk w2 w2.heap.size 36 #[.int .i64 id, .bool up, .int .i64 ro, .int .i64 ep, .slice A3 n c3, .int .i64 su, .int .i64 ma, .int .i64 ot, .int .i64 co] rfl
  have z12 := hn2.size
  have z23 := al.size
  have hoL := (ho.new al).up al.size
  have hw3 := (hw1b.trans hn2).trans al
  have l3 := bB.lt
  clear ho hn2 c01b
  go_upto_region 8 with fail
  generalize w2.alloc (.cells #[.int .i64 id, .bool up, .int .i64 ro, .int .i64 ep, .slice A3 n c3, .int .i64 su, .int .i64 ma, .int .i64 ot, .int .i64 co] 36) = w3 at *
  generalize hNB : w2.heap.size = NB at *
  generalize hlo1 : w1b.heap.size = lo at *
  have cX := bB.cells
  have cV := bV3.cells
  have hoL4 := hoL
  have bB4 := bB
  have bV4 := bV3
  have b14 := b13
  have hw4 := hw3
  have z4 : w3.heap.size ≤ w3.heap.size := Nat.le_refl _
  go_wp2_with fail
  refine (hearTaken_any o NB id up ro ep su ma ot co A3 n c3 _ bB4).mono ?_
  rintro e w5 ⟨rfl, bB5, t5⟩
  obtain ⟨o5, ho5⟩ : ∃ o5, o5 = htO ro ot o n := ⟨_, rfl⟩
  obtain ⟨c5, hc5⟩ : ∃ c5, c5 = htC ro su ot co o n := ⟨_, rfl⟩
  rw [← ho5, ← hc5] at bB5
  have HO5 : Hid (o5 = htO ro ot o n) := ho5
  have HC5 : Hid (c5 = htC ro su ot co o n) := hc5
  clear ho5 hc5
  have hoL5 := (hoL4.turnB bB4 (by decide) (by decide) t5).up t5.size
  have b15 := b14.turn t5 (by omega)
  have hw5 := hw4.before t5 (by intro i hi e; omega)
  have z5 := t5.size
  clear cX cV
  have c1 := b15.cells
  have f1 := b15.frees
  have cX := bB5.cells
  go_wp2
  rw [← HO5.out, ← HC5.out]
  refine bodyPost_ret (v := .agg #[.int .i64 0, .int .i64 id, .bool up, .int .i64 ro, .int .i64 ep, .slice A3 n c3, .int .i64 su, .int .i64 ma, .int .i64 o5, .int .i64 c5, .slice none 0 0]) (by simp [results, Try.results9, go_sem, c1]) rfl (nrAns_mk (U := V1) (Ms := []) (by simpa using HLn.out) rfl hV rfl (NrOw.log (lo := lo) (hi := w5.heap.size) (OwL.turn (w := w5) (S := fun i => i = w.heap.size + 1 + 1) hoL5 ?t1 (by intro k hk _ e; omega)) (by omega) ?u1) ?n1)
  case t1 => exact set11 (S := fun i => i = w.heap.size + 1 + 1) w5 (w.heap.size + 1 + 1) rfl _ _ _ _ _ _ _ _ _ _ _
  case u1 => exact Nat.le_trans (by omega) (Turn.size (S := fun i => i = w.heap.size + 1 + 1) (set11 (S := fun i => i = w.heap.size + 1 + 1) w5 (w.heap.size + 1 + 1) rfl _ _ _ _ _ _ _ _ _ _ _))
  case n1 => exact Turn.trans (S := fun _ => False) (T := fun i => i = w.heap.size + 1 + 1) hw5 (set11 (S := fun i => i = w.heap.size + 1 + 1) w5 (w.heap.size + 1 + 1) rfl _ _ _ _ _ _ _ _ _ _ _) (fun i hi e => by omega)

set_option maxHeartbeats 3200000 in
theorem iHr_tn (id : Int) (up : Bool) (ro ep su ma ot co : Int) (A : Option Addr) (n c : Nat) (V : List EkV) (tgt me : Int) (o : Nat) (pr : Int) (has : Bool) (e1 k1 p1 : Int) (x : Option Addr) (m d : Nat) (xs : List Int) (w : World) (h : LgAt w A V) (hN : NlK V) (hn : V.length = n) (hm : n ≤ 2097152) (hx : BsAt w x xs) (hX : xs.length = m) (hnx : x = none → m = 0 ∧ d = 0) (hm1 : m ≤ 1048576) (hf : uF up (nF id up ro ep su ma ot co n (V.map EkV.r)) = 0) (he : mlF id 2 tgt me (o : Int) pr has e1 k1 p1 m = 0) (hk : ep < me) (hd1 : decide (me < ep) = false) (hd2 : decide (ep < me) = true) :
    Calls Try.prog 9 #[.agg #[.int .i64 id, .bool up, .int .i64 ro, .int .i64 ep, .slice A n c, .int .i64 su, .int .i64 ma, .int .i64 ot, .int .i64 co], .agg #[.int .i64 2, .int .i64 tgt, .int .i64 me, .int .i64 (o : Int), .int .i64 pr, .bool has, .int .i64 e1, .int .i64 k1, .int .i64 p1, .slice x m d]] w (NrA w ⟨0, id, up, 0, me, su, 0, htO 0 0 o n, htC 0 su 0 co o n, V.map EkV.r, []⟩) := by
  have HLn : Hid (V.length = n) := hn
  have hw := (((New.refl w).alloc (.cells #[.int .i64 id, .bool up, .int .i64 ro, .int .i64 ep, .slice A n c, .int .i64 su, .int .i64 ma, .int .i64 ot, .int .i64 co] 36)).alloc (.cells #[.int .i64 2, .int .i64 tgt, .int .i64 me, .int .i64 (o : Int), .int .i64 pr, .bool has, .int .i64 e1, .int .i64 k1, .int .i64 p1, .slice x m d] 46)).alloc (.cells #[.int .i64 0, .int .i64 0, .bool false, .int .i64 0, .int .i64 0, .slice none 0 0, .int .i64 0, .int .i64 0, .int .i64 0, .int .i64 0, .slice none 0 0] 39)
  have b0 := ((Blk.mk w w.heap.size 36 #[.int .i64 id, .bool up, .int .i64 ro, .int .i64 ep, .slice A n c, .int .i64 su, .int .i64 ma, .int .i64 ot, .int .i64 co] rfl).alloc (.cells #[.int .i64 2, .int .i64 tgt, .int .i64 me, .int .i64 (o : Int), .int .i64 pr, .bool has, .int .i64 e1, .int .i64 k1, .int .i64 p1, .slice x m d] 46)).alloc (.cells #[.int .i64 0, .int .i64 0, .bool false, .int .i64 0, .int .i64 0, .slice none 0 0, .int .i64 0, .int .i64 0, .int .i64 0, .int .i64 0, .slice none 0 0] 39)
  have bV := (Blk.mk (w.alloc (.cells #[.int .i64 id, .bool up, .int .i64 ro, .int .i64 ep, .slice A n c, .int .i64 su, .int .i64 ma, .int .i64 ot, .int .i64 co] 36)) (w.heap.size + 1) 46 #[.int .i64 2, .int .i64 tgt, .int .i64 me, .int .i64 (o : Int), .int .i64 pr, .bool has, .int .i64 e1, .int .i64 k1, .int .i64 p1, .slice x m d] (by simp)).alloc (.cells #[.int .i64 0, .int .i64 0, .bool false, .int .i64 0, .int .i64 0, .slice none 0 0, .int .i64 0, .int .i64 0, .int .i64 0, .int .i64 0, .slice none 0 0] 39)
  have b1 := Blk.mk ((w.alloc (.cells #[.int .i64 id, .bool up, .int .i64 ro, .int .i64 ep, .slice A n c, .int .i64 su, .int .i64 ma, .int .i64 ot, .int .i64 co] 36)).alloc (.cells #[.int .i64 2, .int .i64 tgt, .int .i64 me, .int .i64 (o : Int), .int .i64 pr, .bool has, .int .i64 e1, .int .i64 k1, .int .i64 p1, .slice x m d] 46)) (w.heap.size + 1 + 1) 39 #[.int .i64 0, .int .i64 0, .bool false, .int .i64 0, .int .i64 0, .slice none 0 0, .int .i64 0, .int .i64 0, .int .i64 0, .int .i64 0, .slice none 0 0] (by simp)
  have s0 : Hid ((((w.alloc (.cells #[.int .i64 id, .bool up, .int .i64 ro, .int .i64 ep, .slice A n c, .int .i64 su, .int .i64 ma, .int .i64 ot, .int .i64 co] 36)).alloc (.cells #[.int .i64 2, .int .i64 tgt, .int .i64 me, .int .i64 (o : Int), .int .i64 pr, .bool has, .int .i64 e1, .int .i64 k1, .int .i64 p1, .slice x m d] 46)).alloc (.cells #[.int .i64 0, .int .i64 0, .bool false, .int .i64 0, .int .i64 0, .slice none 0 0, .int .i64 0, .int .i64 0, .int .i64 0, .int .i64 0, .slice none 0 0] 39)).heap.size = w.heap.size + 1 + 1 + 1) := by unfold Hid; simp
  go_enter Try.func9, Try.ntmps9
  go_upto_region 1 with fail
  generalize ((w.alloc (.cells #[.int .i64 id, .bool up, .int .i64 ro, .int .i64 ep, .slice A n c, .int .i64 su, .int .i64 ma, .int .i64 ot, .int .i64 co] 36)).alloc (.cells #[.int .i64 2, .int .i64 tgt, .int .i64 me, .int .i64 (o : Int), .int .i64 pr, .bool has, .int .i64 e1, .int .i64 k1, .int .i64 p1, .slice x m d] 46)).alloc (.cells #[.int .i64 0, .int .i64 0, .bool false, .int .i64 0, .int .i64 0, .slice none 0 0, .int .i64 0, .int .i64 0, .int .i64 0, .int .i64 0, .slice none 0 0] 39) = w0 at *
  have S0 := s0.out
  have c0 := b0.cells
  go_wp2_with fail
  refine (upF_any 0 w.heap.size id up ro ep su ma ot co A n c V _ b0 (h.new hw) hn hm hf).mono ?_
  rintro e w1 ⟨rfl, hn1⟩
  have b11 := b1.new hn1
  have b01 := b0.new hn1
  have bV1 := bV.new hn1
  have c01 := b01.cells
  have hw1 := hw.trans hn1
  have z01 := hn1.size
  clear c0
  go_wp2_with fail
  refine (fFor_v 0 id (w.heap.size + 1) 2 tgt me (o : Int) pr has e1 k1 p1 x m d _ bV1 hm1 he).mono ?_
  rintro e w1b ⟨rfl, hn1b⟩
  have b11b := b11.new hn1b
  have b01b := b01.new hn1b
  have bV1b := bV1.new hn1b
  have hw1b := hw1.trans hn1b
  have z1b := hn1b.size
  have c01b := b01b.cells
  clear c01 b11 b01 bV1
  go_wp2_with fail
  refine (copyNd_any w.heap.size id up ro ep su ma ot co A n c V _ b01b (h.new hw1b) hN hn hm).mono ?_
  rintro e w2 ⟨A3, c3, V1, rfl, hV, ho, hn2⟩
  have al := (New.refl w2).alloc (.cells #[.int .i64 id, .bool up, .int .i64 ro, .int .i64 ep, .slice A3 n c3, .int .i64 su, .int .i64 ma, .int .i64 ot, .int .i64 co] 36)
  have bV3 := (bV1b.new hn2).new al
  have b13 := (b11b.new hn2).new al
  have bB := Blk.mk w2 w2.heap.size 36 #[.int .i64 id, .bool up, .int .i64 ro, .int .i64 ep, .slice A3 n c3, .int .i64 su, .int .i64 ma, .int .i64 ot, .int .i64 co] rfl
  have z12 := hn2.size
  have z23 := al.size
  have hoL := (ho.new al).up al.size
  have hw3 := (hw1b.trans hn2).trans al
  have l3 := bB.lt
  clear ho hn2 c01b
  go_upto_region 8 with fail
  generalize w2.alloc (.cells #[.int .i64 id, .bool up, .int .i64 ro, .int .i64 ep, .slice A3 n c3, .int .i64 su, .int .i64 ma, .int .i64 ot, .int .i64 co] 36) = w3 at *
  generalize hNB : w2.heap.size = NB at *
  generalize hlo1 : w1b.heap.size = lo at *
  have cX := bB.cells
  have cV := bV3.cells
  go_wp2_with fail
  refine (enter_any me 0 NB id up ro ep su ma ot co A3 n c3 _ bB).mono ?_
  rintro e w4 ⟨rfl, bB4, t4⟩
  have hoL4 := (hoL.turnB bB (by decide) (by decide) t4).up t4.size
  have bV4 := bV3.turn t4 (by omega)
  have b14 := b13.turn t4 (by omega)
  have hw4 := hw3.before t4 (by intro i hi e; omega)
  have z4 := t4.size
  clear cX cV
  have cX := bB4.cells
  have cV := bV4.cells
  go_wp2_with fail
  refine (hearTaken_any o NB id up 0 me su 0 0 co A3 n c3 _ bB4).mono ?_
  rintro e w5 ⟨rfl, bB5, t5⟩
  obtain ⟨o5, ho5⟩ : ∃ o5, o5 = htO 0 0 o n := ⟨_, rfl⟩
  obtain ⟨c5, hc5⟩ : ∃ c5, c5 = htC 0 su 0 co o n := ⟨_, rfl⟩
  rw [← ho5, ← hc5] at bB5
  have HO5 : Hid (o5 = htO 0 0 o n) := ho5
  have HC5 : Hid (c5 = htC 0 su 0 co o n) := hc5
  clear ho5 hc5
  have hoL5 := (hoL4.turnB bB4 (by decide) (by decide) t5).up t5.size
  have b15 := b14.turn t5 (by omega)
  have hw5 := hw4.before t5 (by intro i hi e; omega)
  have z5 := t5.size
  clear cX cV
  have c1 := b15.cells
  have f1 := b15.frees
  have cX := bB5.cells
  go_wp2
  rw [← HO5.out, ← HC5.out]
  refine bodyPost_ret (v := .agg #[.int .i64 0, .int .i64 id, .bool up, .int .i64 0, .int .i64 me, .slice A3 n c3, .int .i64 su, .int .i64 0, .int .i64 o5, .int .i64 c5, .slice none 0 0]) (by simp [results, Try.results9, go_sem, c1]) rfl (nrAns_mk (U := V1) (Ms := []) (by simpa using HLn.out) rfl hV rfl (NrOw.log (lo := lo) (hi := w5.heap.size) (OwL.turn (w := w5) (S := fun i => i = w.heap.size + 1 + 1) hoL5 ?t1 (by intro k hk _ e; omega)) (by omega) ?u1) ?n1)
  case t1 => exact set11 (S := fun i => i = w.heap.size + 1 + 1) w5 (w.heap.size + 1 + 1) rfl _ _ _ _ _ _ _ _ _ _ _
  case u1 => exact Nat.le_trans (by omega) (Turn.size (S := fun i => i = w.heap.size + 1 + 1) (set11 (S := fun i => i = w.heap.size + 1 + 1) w5 (w.heap.size + 1 + 1) rfl _ _ _ _ _ _ _ _ _ _ _))
  case n1 => exact Turn.trans (S := fun _ => False) (T := fun i => i = w.heap.size + 1 + 1) hw5 (set11 (S := fun i => i = w.heap.size + 1 + 1) w5 (w.heap.size + 1 + 1) rfl _ _ _ _ _ _ _ _ _ _ _) (fun i hi e => by omega)

set_option maxHeartbeats 3200000 in
theorem iHr_ae (id : Int) (up : Bool) (ro ep su ma ot co : Int) (A : Option Addr) (n c : Nat) (V : List EkV) (tgt me : Int) (o : Nat) (pr : Int) (has : Bool) (e1 k1 p1 : Int) (x : Option Addr) (m d : Nat) (xs : List Int) (w : World) (h : LgAt w A V) (hN : NlK V) (hn : V.length = n) (hm : n ≤ 2097152) (hx : BsAt w x xs) (hX : xs.length = m) (hnx : x = none → m = 0 ∧ d = 0) (hm1 : m ≤ 1048576) (hf : uF up (nF id up ro ep su ma ot co n (V.map EkV.r)) = 0) (he : mlF id 1 tgt me (o : Int) pr has e1 k1 p1 m = 0) (hk : me = ep) (hd1 : decide (me < ep) = false) (hd2 : decide (ep < me) = false) (r : Nr) (hr : haF id up ro ep su ma ot co (V.map EkV.r) o pr has ⟨e1, k1, p1, xs⟩ = r) (hid : id = 0 ∨ id = 1) (hn100 : n ≤ 100) (hma : (0 : Int) ≤ ma ∧ ma ≤ (n : Int)) (hco : co ≤ n) (ho1 : o ≤ 100) :
    Calls Try.prog 9 #[.agg #[.int .i64 id, .bool up, .int .i64 ro, .int .i64 ep, .slice A n c, .int .i64 su, .int .i64 ma, .int .i64 ot, .int .i64 co], .agg #[.int .i64 1, .int .i64 tgt, .int .i64 me, .int .i64 (o : Int), .int .i64 pr, .bool has, .int .i64 e1, .int .i64 k1, .int .i64 p1, .slice x m d]] w (NrA w r) := by
  have HLn : Hid (V.length = n) := hn
  clear hk
  have hw := (((New.refl w).alloc (.cells #[.int .i64 id, .bool up, .int .i64 ro, .int .i64 ep, .slice A n c, .int .i64 su, .int .i64 ma, .int .i64 ot, .int .i64 co] 36)).alloc (.cells #[.int .i64 1, .int .i64 tgt, .int .i64 me, .int .i64 (o : Int), .int .i64 pr, .bool has, .int .i64 e1, .int .i64 k1, .int .i64 p1, .slice x m d] 46)).alloc (.cells #[.int .i64 0, .int .i64 0, .bool false, .int .i64 0, .int .i64 0, .slice none 0 0, .int .i64 0, .int .i64 0, .int .i64 0, .int .i64 0, .slice none 0 0] 39)
  have b0 := ((Blk.mk w w.heap.size 36 #[.int .i64 id, .bool up, .int .i64 ro, .int .i64 ep, .slice A n c, .int .i64 su, .int .i64 ma, .int .i64 ot, .int .i64 co] rfl).alloc (.cells #[.int .i64 1, .int .i64 tgt, .int .i64 me, .int .i64 (o : Int), .int .i64 pr, .bool has, .int .i64 e1, .int .i64 k1, .int .i64 p1, .slice x m d] 46)).alloc (.cells #[.int .i64 0, .int .i64 0, .bool false, .int .i64 0, .int .i64 0, .slice none 0 0, .int .i64 0, .int .i64 0, .int .i64 0, .int .i64 0, .slice none 0 0] 39)
  have bV := (Blk.mk (w.alloc (.cells #[.int .i64 id, .bool up, .int .i64 ro, .int .i64 ep, .slice A n c, .int .i64 su, .int .i64 ma, .int .i64 ot, .int .i64 co] 36)) (w.heap.size + 1) 46 #[.int .i64 1, .int .i64 tgt, .int .i64 me, .int .i64 (o : Int), .int .i64 pr, .bool has, .int .i64 e1, .int .i64 k1, .int .i64 p1, .slice x m d] (by simp)).alloc (.cells #[.int .i64 0, .int .i64 0, .bool false, .int .i64 0, .int .i64 0, .slice none 0 0, .int .i64 0, .int .i64 0, .int .i64 0, .int .i64 0, .slice none 0 0] 39)
  have b1 := Blk.mk ((w.alloc (.cells #[.int .i64 id, .bool up, .int .i64 ro, .int .i64 ep, .slice A n c, .int .i64 su, .int .i64 ma, .int .i64 ot, .int .i64 co] 36)).alloc (.cells #[.int .i64 1, .int .i64 tgt, .int .i64 me, .int .i64 (o : Int), .int .i64 pr, .bool has, .int .i64 e1, .int .i64 k1, .int .i64 p1, .slice x m d] 46)) (w.heap.size + 1 + 1) 39 #[.int .i64 0, .int .i64 0, .bool false, .int .i64 0, .int .i64 0, .slice none 0 0, .int .i64 0, .int .i64 0, .int .i64 0, .int .i64 0, .slice none 0 0] (by simp)
  have s0 : Hid ((((w.alloc (.cells #[.int .i64 id, .bool up, .int .i64 ro, .int .i64 ep, .slice A n c, .int .i64 su, .int .i64 ma, .int .i64 ot, .int .i64 co] 36)).alloc (.cells #[.int .i64 1, .int .i64 tgt, .int .i64 me, .int .i64 (o : Int), .int .i64 pr, .bool has, .int .i64 e1, .int .i64 k1, .int .i64 p1, .slice x m d] 46)).alloc (.cells #[.int .i64 0, .int .i64 0, .bool false, .int .i64 0, .int .i64 0, .slice none 0 0, .int .i64 0, .int .i64 0, .int .i64 0, .int .i64 0, .slice none 0 0] 39)).heap.size = w.heap.size + 1 + 1 + 1) := by unfold Hid; simp
  go_enter Try.func9, Try.ntmps9
  go_upto_region 1 with fail
  generalize ((w.alloc (.cells #[.int .i64 id, .bool up, .int .i64 ro, .int .i64 ep, .slice A n c, .int .i64 su, .int .i64 ma, .int .i64 ot, .int .i64 co] 36)).alloc (.cells #[.int .i64 1, .int .i64 tgt, .int .i64 me, .int .i64 (o : Int), .int .i64 pr, .bool has, .int .i64 e1, .int .i64 k1, .int .i64 p1, .slice x m d] 46)).alloc (.cells #[.int .i64 0, .int .i64 0, .bool false, .int .i64 0, .int .i64 0, .slice none 0 0, .int .i64 0, .int .i64 0, .int .i64 0, .int .i64 0, .slice none 0 0] 39) = w0 at *
  have S0 := s0.out
  have c0 := b0.cells
  go_wp2_with fail
  refine (upF_any 0 w.heap.size id up ro ep su ma ot co A n c V _ b0 (h.new hw) hn hm hf).mono ?_
  rintro e w1 ⟨rfl, hn1⟩
  have b11 := b1.new hn1
  have b01 := b0.new hn1
  have bV1 := bV.new hn1
  have c01 := b01.cells
  have hw1 := hw.trans hn1
  have z01 := hn1.size
  clear c0
  go_wp2_with fail
  refine (fFor_v 0 id (w.heap.size + 1) 1 tgt me (o : Int) pr has e1 k1 p1 x m d _ bV1 hm1 he).mono ?_
  rintro e w1b ⟨rfl, hn1b⟩
  have b11b := b11.new hn1b
  have b01b := b01.new hn1b
  have bV1b := bV1.new hn1b
  have hw1b := hw1.trans hn1b
  have z1b := hn1b.size
  have c01b := b01b.cells
  clear c01 b11 b01 bV1
  go_wp2_with fail
  refine (copyNd_any w.heap.size id up ro ep su ma ot co A n c V _ b01b (h.new hw1b) hN hn hm).mono ?_
  rintro e w2 ⟨A3, c3, V1, rfl, hV, ho, hn2⟩
  have al := (New.refl w2).alloc (.cells #[.int .i64 id, .bool up, .int .i64 ro, .int .i64 ep, .slice A3 n c3, .int .i64 su, .int .i64 ma, .int .i64 ot, .int .i64 co] 36)
  have bV3 := (bV1b.new hn2).new al
  have b13 := (b11b.new hn2).new al
  have bB := Blk.mk w2 w2.heap.size 36 #[.int .i64 id, .bool up, .int .i64 ro, .int .i64 ep, .slice A3 n c3, .int .i64 su, .int .i64 ma, .int .i64 ot, .int .i64 co] rfl
  have z12 := hn2.size
  have z23 := al.size
  have hoL := (ho.new al).up al.size
  have hw3 := (hw1b.trans hn2).trans al
  have l3 := bB.lt
  clear ho hn2 c01b
  go_upto_region 8 with fail
  generalize w2.alloc (.cells #[.int .i64 id, .bool up, .int .i64 ro, .int .i64 ep, .slice A3 n c3, .int .i64 su, .int .i64 ma, .int .i64 ot, .int .i64 co] 36) = w3 at *
  generalize hNB : w2.heap.size = NB at *
  generalize hlo1 : w1b.heap.size = lo at *
  have cX := bB.cells
  have cV := bV3.cells
  have hoL4 := hoL
  have bB4 := bB
  have bV4 := bV3
  have b14 := b13
  have hw4 := hw3
  have z4 : w3.heap.size ≤ w3.heap.size := Nat.le_refl _
  have hbl := hoL4.blocks.1
  have hE0 : ∀ k, k < lo → ¬ (k = NB ∨ (Value.slice A3 n c3).ownBlock = some k) := by
    intro k hk e
    rcases e with e | e
    · omega
    · cases A3 with
      | none => simp [Value.ownBlock] at e
      | some xx => simp [Value.ownBlock] at e; have := (hbl xx rfl).1; omega
  have HA := ha_any NB (w.heap.size + 1) lo o id up ro ep su ma ot co A3 n c3 V1 1 tgt me pr has e1 k1 p1 x m d xs w w3 bB4 bV4 hoL4 (by omega) (by omega) (by omega) hid hn100 hma hco hx hw4 (by omega) hX hnx hm1 ho1
  rw [hV, hr] at HA
  go_wp2_with fail
  refine HA.mono ?_
  rintro e w5 ⟨A2, c2, U, S, cs, Ms, rfl, hU, hMs, hoF, t5⟩
  have b15 := b14.turn t5 (hE0 _ (by omega))
  have hw5 := hw4.before t5 (by intro i hi e; exact hE0 i (by omega) e)
  have z5 := t5.size
  clear cX cV hr
  have c1 := b15.cells
  have f1 := b15.frees
  go_wp2
  refine bodyPost_ret (v := .agg #[.int .i64 r.z, .int .i64 r.id, .bool r.up, .int .i64 r.ro, .int .i64 r.ep, .slice A2 r.L.length c2, .int .i64 r.su, .int .i64 r.ma, .int .i64 r.ot, .int .i64 r.co, .slice S r.M.length cs]) (by simp [results, Try.results9, go_sem, c1]) rfl ⟨A2, c2, U, S, cs, Ms, rfl, hU, hMs, (hoF.turn (T := fun i => i = w.heap.size + 1 + 1) ?t1 (by intro k hk _ e; omega)).wide (by omega) ?u1, ?n1⟩
  case t1 => exact set11 (S := fun i => i = w.heap.size + 1 + 1) w5 (w.heap.size + 1 + 1) rfl _ _ _ _ _ _ _ _ _ _ _
  case u1 => exact Turn.size (S := fun i => i = w.heap.size + 1 + 1) (set11 (S := fun i => i = w.heap.size + 1 + 1) w5 (w.heap.size + 1 + 1) rfl _ _ _ _ _ _ _ _ _ _ _)
  case n1 => exact Turn.trans (S := fun _ => False) (T := fun i => i = w.heap.size + 1 + 1) hw5 (set11 (S := fun i => i = w.heap.size + 1 + 1) w5 (w.heap.size + 1 + 1) rfl _ _ _ _ _ _ _ _ _ _ _) (fun i hi e => by omega)

set_option maxHeartbeats 3200000 in
theorem iHr_an (id : Int) (up : Bool) (ro ep su ma ot co : Int) (A : Option Addr) (n c : Nat) (V : List EkV) (tgt me : Int) (o : Nat) (pr : Int) (has : Bool) (e1 k1 p1 : Int) (x : Option Addr) (m d : Nat) (xs : List Int) (w : World) (h : LgAt w A V) (hN : NlK V) (hn : V.length = n) (hm : n ≤ 2097152) (hx : BsAt w x xs) (hX : xs.length = m) (hnx : x = none → m = 0 ∧ d = 0) (hm1 : m ≤ 1048576) (hf : uF up (nF id up ro ep su ma ot co n (V.map EkV.r)) = 0) (he : mlF id 1 tgt me (o : Int) pr has e1 k1 p1 m = 0) (hk : ep < me) (hd1 : decide (me < ep) = false) (hd2 : decide (ep < me) = true) (r : Nr) (hr : haF id up 0 me su 0 0 co (V.map EkV.r) o pr has ⟨e1, k1, p1, xs⟩ = r) (hid : id = 0 ∨ id = 1) (hn100 : n ≤ 100) (hma : (0 : Int) ≤ 0 ∧ 0 ≤ (n : Int)) (hco : co ≤ n) (ho1 : o ≤ 100) :
    Calls Try.prog 9 #[.agg #[.int .i64 id, .bool up, .int .i64 ro, .int .i64 ep, .slice A n c, .int .i64 su, .int .i64 ma, .int .i64 ot, .int .i64 co], .agg #[.int .i64 1, .int .i64 tgt, .int .i64 me, .int .i64 (o : Int), .int .i64 pr, .bool has, .int .i64 e1, .int .i64 k1, .int .i64 p1, .slice x m d]] w (NrA w r) := by
  have HLn : Hid (V.length = n) := hn
  have hw := (((New.refl w).alloc (.cells #[.int .i64 id, .bool up, .int .i64 ro, .int .i64 ep, .slice A n c, .int .i64 su, .int .i64 ma, .int .i64 ot, .int .i64 co] 36)).alloc (.cells #[.int .i64 1, .int .i64 tgt, .int .i64 me, .int .i64 (o : Int), .int .i64 pr, .bool has, .int .i64 e1, .int .i64 k1, .int .i64 p1, .slice x m d] 46)).alloc (.cells #[.int .i64 0, .int .i64 0, .bool false, .int .i64 0, .int .i64 0, .slice none 0 0, .int .i64 0, .int .i64 0, .int .i64 0, .int .i64 0, .slice none 0 0] 39)
  have b0 := ((Blk.mk w w.heap.size 36 #[.int .i64 id, .bool up, .int .i64 ro, .int .i64 ep, .slice A n c, .int .i64 su, .int .i64 ma, .int .i64 ot, .int .i64 co] rfl).alloc (.cells #[.int .i64 1, .int .i64 tgt, .int .i64 me, .int .i64 (o : Int), .int .i64 pr, .bool has, .int .i64 e1, .int .i64 k1, .int .i64 p1, .slice x m d] 46)).alloc (.cells #[.int .i64 0, .int .i64 0, .bool false, .int .i64 0, .int .i64 0, .slice none 0 0, .int .i64 0, .int .i64 0, .int .i64 0, .int .i64 0, .slice none 0 0] 39)
  have bV := (Blk.mk (w.alloc (.cells #[.int .i64 id, .bool up, .int .i64 ro, .int .i64 ep, .slice A n c, .int .i64 su, .int .i64 ma, .int .i64 ot, .int .i64 co] 36)) (w.heap.size + 1) 46 #[.int .i64 1, .int .i64 tgt, .int .i64 me, .int .i64 (o : Int), .int .i64 pr, .bool has, .int .i64 e1, .int .i64 k1, .int .i64 p1, .slice x m d] (by simp)).alloc (.cells #[.int .i64 0, .int .i64 0, .bool false, .int .i64 0, .int .i64 0, .slice none 0 0, .int .i64 0, .int .i64 0, .int .i64 0, .int .i64 0, .slice none 0 0] 39)
  have b1 := Blk.mk ((w.alloc (.cells #[.int .i64 id, .bool up, .int .i64 ro, .int .i64 ep, .slice A n c, .int .i64 su, .int .i64 ma, .int .i64 ot, .int .i64 co] 36)).alloc (.cells #[.int .i64 1, .int .i64 tgt, .int .i64 me, .int .i64 (o : Int), .int .i64 pr, .bool has, .int .i64 e1, .int .i64 k1, .int .i64 p1, .slice x m d] 46)) (w.heap.size + 1 + 1) 39 #[.int .i64 0, .int .i64 0, .bool false, .int .i64 0, .int .i64 0, .slice none 0 0, .int .i64 0, .int .i64 0, .int .i64 0, .int .i64 0, .slice none 0 0] (by simp)
  have s0 : Hid ((((w.alloc (.cells #[.int .i64 id, .bool up, .int .i64 ro, .int .i64 ep, .slice A n c, .int .i64 su, .int .i64 ma, .int .i64 ot, .int .i64 co] 36)).alloc (.cells #[.int .i64 1, .int .i64 tgt, .int .i64 me, .int .i64 (o : Int), .int .i64 pr, .bool has, .int .i64 e1, .int .i64 k1, .int .i64 p1, .slice x m d] 46)).alloc (.cells #[.int .i64 0, .int .i64 0, .bool false, .int .i64 0, .int .i64 0, .slice none 0 0, .int .i64 0, .int .i64 0, .int .i64 0, .int .i64 0, .slice none 0 0] 39)).heap.size = w.heap.size + 1 + 1 + 1) := by unfold Hid; simp
  go_enter Try.func9, Try.ntmps9
  go_upto_region 1 with fail
  generalize ((w.alloc (.cells #[.int .i64 id, .bool up, .int .i64 ro, .int .i64 ep, .slice A n c, .int .i64 su, .int .i64 ma, .int .i64 ot, .int .i64 co] 36)).alloc (.cells #[.int .i64 1, .int .i64 tgt, .int .i64 me, .int .i64 (o : Int), .int .i64 pr, .bool has, .int .i64 e1, .int .i64 k1, .int .i64 p1, .slice x m d] 46)).alloc (.cells #[.int .i64 0, .int .i64 0, .bool false, .int .i64 0, .int .i64 0, .slice none 0 0, .int .i64 0, .int .i64 0, .int .i64 0, .int .i64 0, .slice none 0 0] 39) = w0 at *
  have S0 := s0.out
  have c0 := b0.cells
  go_wp2_with fail
  refine (upF_any 0 w.heap.size id up ro ep su ma ot co A n c V _ b0 (h.new hw) hn hm hf).mono ?_
  rintro e w1 ⟨rfl, hn1⟩
  have b11 := b1.new hn1
  have b01 := b0.new hn1
  have bV1 := bV.new hn1
  have c01 := b01.cells
  have hw1 := hw.trans hn1
  have z01 := hn1.size
  clear c0
  go_wp2_with fail
  refine (fFor_v 0 id (w.heap.size + 1) 1 tgt me (o : Int) pr has e1 k1 p1 x m d _ bV1 hm1 he).mono ?_
  rintro e w1b ⟨rfl, hn1b⟩
  have b11b := b11.new hn1b
  have b01b := b01.new hn1b
  have bV1b := bV1.new hn1b
  have hw1b := hw1.trans hn1b
  have z1b := hn1b.size
  have c01b := b01b.cells
  clear c01 b11 b01 bV1
  go_wp2_with fail
  refine (copyNd_any w.heap.size id up ro ep su ma ot co A n c V _ b01b (h.new hw1b) hN hn hm).mono ?_
  rintro e w2 ⟨A3, c3, V1, rfl, hV, ho, hn2⟩
  have al := (New.refl w2).alloc (.cells #[.int .i64 id, .bool up, .int .i64 ro, .int .i64 ep, .slice A3 n c3, .int .i64 su, .int .i64 ma, .int .i64 ot, .int .i64 co] 36)
  have bV3 := (bV1b.new hn2).new al
  have b13 := (b11b.new hn2).new al
  have bB := Blk.mk w2 w2.heap.size 36 #[.int .i64 id, .bool up, .int .i64 ro, .int .i64 ep, .slice A3 n c3, .int .i64 su, .int .i64 ma, .int .i64 ot, .int .i64 co] rfl
  have z12 := hn2.size
  have z23 := al.size
  have hoL := (ho.new al).up al.size
  have hw3 := (hw1b.trans hn2).trans al
  have l3 := bB.lt
  clear ho hn2 c01b
  go_upto_region 8 with fail
  generalize w2.alloc (.cells #[.int .i64 id, .bool up, .int .i64 ro, .int .i64 ep, .slice A3 n c3, .int .i64 su, .int .i64 ma, .int .i64 ot, .int .i64 co] 36) = w3 at *
  generalize hNB : w2.heap.size = NB at *
  generalize hlo1 : w1b.heap.size = lo at *
  have cX := bB.cells
  have cV := bV3.cells
  go_wp2_with fail
  refine (enter_any me 0 NB id up ro ep su ma ot co A3 n c3 _ bB).mono ?_
  rintro e w4 ⟨rfl, bB4, t4⟩
  have hoL4 := (hoL.turnB bB (by decide) (by decide) t4).up t4.size
  have bV4 := bV3.turn t4 (by omega)
  have b14 := b13.turn t4 (by omega)
  have hw4 := hw3.before t4 (by intro i hi e; omega)
  have z4 := t4.size
  clear cX cV
  have cX := bB4.cells
  have cV := bV4.cells
  have hbl := hoL4.blocks.1
  have hE0 : ∀ k, k < lo → ¬ (k = NB ∨ (Value.slice A3 n c3).ownBlock = some k) := by
    intro k hk e
    rcases e with e | e
    · omega
    · cases A3 with
      | none => simp [Value.ownBlock] at e
      | some xx => simp [Value.ownBlock] at e; have := (hbl xx rfl).1; omega
  have HA := ha_any NB (w.heap.size + 1) lo o id up 0 me su 0 0 co A3 n c3 V1 1 tgt me pr has e1 k1 p1 x m d xs w w4 bB4 bV4 hoL4 (by omega) (by omega) (by omega) hid hn100 hma hco hx hw4 (by omega) hX hnx hm1 ho1
  rw [hV, hr] at HA
  go_wp2_with fail
  refine HA.mono ?_
  rintro e w5 ⟨A2, c2, U, S, cs, Ms, rfl, hU, hMs, hoF, t5⟩
  have b15 := b14.turn t5 (hE0 _ (by omega))
  have hw5 := hw4.before t5 (by intro i hi e; exact hE0 i (by omega) e)
  have z5 := t5.size
  clear cX cV hr
  have c1 := b15.cells
  have f1 := b15.frees
  go_wp2
  refine bodyPost_ret (v := .agg #[.int .i64 r.z, .int .i64 r.id, .bool r.up, .int .i64 r.ro, .int .i64 r.ep, .slice A2 r.L.length c2, .int .i64 r.su, .int .i64 r.ma, .int .i64 r.ot, .int .i64 r.co, .slice S r.M.length cs]) (by simp [results, Try.results9, go_sem, c1]) rfl ⟨A2, c2, U, S, cs, Ms, rfl, hU, hMs, (hoF.turn (T := fun i => i = w.heap.size + 1 + 1) ?t1 (by intro k hk _ e; omega)).wide (by omega) ?u1, ?n1⟩
  case t1 => exact set11 (S := fun i => i = w.heap.size + 1 + 1) w5 (w.heap.size + 1 + 1) rfl _ _ _ _ _ _ _ _ _ _ _
  case u1 => exact Turn.size (S := fun i => i = w.heap.size + 1 + 1) (set11 (S := fun i => i = w.heap.size + 1 + 1) w5 (w.heap.size + 1 + 1) rfl _ _ _ _ _ _ _ _ _ _ _)
  case n1 => exact Turn.trans (S := fun _ => False) (T := fun i => i = w.heap.size + 1 + 1) hw5 (set11 (S := fun i => i = w.heap.size + 1 + 1) w5 (w.heap.size + 1 + 1) rfl _ _ _ _ _ _ _ _ _ _ _) (fun i hi e => by omega)

theorem iHear_any (id : Int) (up : Bool) (ro ep su ma ot co : Int) (A : Option Addr) (n c : Nat) (V : List EkV) (kd tgt me at1 pr : Int) (has : Bool) (e1 k1 p1 : Int) (x : Option Addr) (m d : Nat) (xs : List Int) (w : World) (h : LgAt w A V) (hN : NlK V) (hn : V.length = n) (hm : n ≤ 2097152) (hx : BsAt w x xs) (hX : xs.length = m) (hnx : x = none → m = 0 ∧ d = 0) (hm1 : m ≤ 1048576) :
    Calls Try.prog 9 #[.agg #[.int .i64 id, .bool up, .int .i64 ro, .int .i64 ep, .slice A n c, .int .i64 su, .int .i64 ma, .int .i64 ot, .int .i64 co], .agg #[.int .i64 kd, .int .i64 tgt, .int .i64 me, .int .i64 at1, .int .i64 pr, .bool has, .int .i64 e1, .int .i64 k1, .int .i64 p1, .slice x m d]] w (NrA w (hearF id up ro ep su ma ot co (V.map EkV.r) kd tgt me at1 pr has ⟨e1, k1, p1, xs⟩)) := by
  have hl : (V.map EkV.r).length = n := by rw [List.length_map]; exact hn
  unfold hearF
  rw [hl]
  simp only [hX]
  by_cases hf : uF up (nF id up ro ep su ma ot co n (V.map EkV.r)) = 0
  case neg =>
    rw [if_pos hf]
    exact iHr_f id up ro ep su ma ot co A n c V kd tgt me at1 pr has e1 k1 p1 x m d xs w h hN hn hm hx hX hnx hm1 _ rfl hf
  rw [if_neg (fun k => k hf)]
  by_cases he : mlF id kd tgt me at1 pr has e1 k1 p1 m = 0
  case neg =>
    rw [if_pos he]
    exact iHr_m id up ro ep su ma ot co A n c V kd tgt me at1 pr has e1 k1 p1 x m d xs w h hN hn hm hx hX hnx hm1 hf _ rfl he
  rw [if_neg (fun k => k he)]
  by_cases h1 : me < ep
  · rw [if_pos h1]
    exact iHr_old id up ro ep su ma ot co A n c V kd tgt me at1 pr has e1 k1 p1 x m d xs w h hN hn hm hx hX hnx hm1 hf he h1 (by simpa using h1)
  rw [if_neg h1]
  obtain ⟨hkd, -, -, ha0, ha1⟩ := mlF_ok he
  obtain ⟨o, rfl⟩ : ∃ o : Nat, at1 = (o : Int) := ⟨at1.toNat, by omega⟩
  rw [Int.toNat_natCast]
  obtain ⟨hh, hn1, -, hc, -, -⟩ := nF_ok id up ro ep su ma ot co n (V.map EkV.r) (uF_ok hf).1
  have hid : id = 0 ∨ id = 1 := hh.1
  have hma : 0 ≤ ma ∧ ma ≤ (n : Int) := hc.2.1
  have hco : co ≤ (n : Int) := by have := hc.1; have := hc.2.2.2; omega
  have d1 : decide (me < ep) = false := by simpa using h1
  by_cases h2 : ep < me
  · rw [if_pos h2]
    have d2 : decide (ep < me) = true := by simpa using h2
    unfold hmF
    rcases hkd with rfl | rfl
    · rw [if_pos rfl]
      exact iHr_an id up ro ep su ma ot co A n c V tgt me o pr has e1 k1 p1 x m d xs w h hN hn hm hx hX hnx hm1 hf he h2 d1 d2 _ rfl hid hn1 (by omega) hco (by omega)
    · rw [if_neg (by decide), hl]
      exact iHr_tn id up ro ep su ma ot co A n c V tgt me o pr has e1 k1 p1 x m d xs w h hN hn hm hx hX hnx hm1 hf he h2 d1 d2
  · rw [if_neg h2]
    have d2 : decide (ep < me) = false := by simpa using h2
    have e3 : me = ep := by omega
    unfold hmF
    rcases hkd with rfl | rfl
    · rw [if_pos rfl]
      exact iHr_ae id up ro ep su ma ot co A n c V tgt me o pr has e1 k1 p1 x m d xs w h hN hn hm hx hX hnx hm1 hf he e3 d1 d2 _ rfl hid hn1 hma hco (by omega)
    · rw [if_neg (by decide), hl]
      exact iHr_te id up ro ep su ma ot co A n c V tgt me o pr has e1 k1 p1 x m d xs w h hN hn hm hx hX hnx hm1 hf he e3 d1 d2

end Go.Proofs.Ythnigcalboobgaa

namespace Go.Proofs.Ythnigcalboobgaa
open Go.ChangeShapes Go.WideShapes Go.ChangeAt Go.RowKit
set_option linter.unusedVariables false
set_option linter.unusedSimpArgs false
set_option maxRecDepth 100000

set_option maxHeartbeats 3200000 in
theorem sh_ae (id : Int) (up : Bool) (ro ep su ma ot co : Int) (A : Option Addr) (n c : Nat) (V : List EkV) (tgt me : Int) (o : Nat) (pr : Int) (has : Bool) (e1 k1 p1 : Int) (x : Option Addr) (m d : Nat) (xs : List Int) (w : World) (h : LgAt w A V) (hN : NlK V) (hn : V.length = n) (hm : n ≤ 2097152) (hx : BsAt w x xs) (hX : xs.length = m) (hnx : x = none → m = 0 ∧ d = 0) (hm1 : m ≤ 1048576) (hk : me = ep) (hd1 : decide (me < ep) = false) (hd2 : decide (ep < me) = false) (r : Nr) (hr : haF id up ro ep su ma ot co (V.map EkV.r) o pr has ⟨e1, k1, p1, xs⟩ = r) (hid : id = 0 ∨ id = 1) (hn100 : n ≤ 100) (hma : (0 : Int) ≤ ma ∧ ma ≤ (n : Int)) (hco : co ≤ n) :
    Calls Try.prog 22 #[.agg #[.int .i64 id, .bool up, .int .i64 ro, .int .i64 ep, .slice A n c, .int .i64 su, .int .i64 ma, .int .i64 ot, .int .i64 co], .agg #[.int .i64 1, .int .i64 tgt, .int .i64 me, .int .i64 (o : Int), .int .i64 pr, .bool has, .int .i64 e1, .int .i64 k1, .int .i64 p1, .slice x m d]] w (NrA w r) := by
  clear hk
  have HLn : Hid (V.length = n) := hn
  have hw := (((New.refl w).alloc (.cells #[.int .i64 id, .bool up, .int .i64 ro, .int .i64 ep, .slice A n c, .int .i64 su, .int .i64 ma, .int .i64 ot, .int .i64 co] 36)).alloc (.cells #[.int .i64 1, .int .i64 tgt, .int .i64 me, .int .i64 (o : Int), .int .i64 pr, .bool has, .int .i64 e1, .int .i64 k1, .int .i64 p1, .slice x m d] 46)).alloc (.cells #[.int .i64 0, .int .i64 0, .bool false, .int .i64 0, .int .i64 0, .slice none 0 0, .int .i64 0, .int .i64 0, .int .i64 0, .int .i64 0, .slice none 0 0] 39)
  have b0 := ((Blk.mk w w.heap.size 36 #[.int .i64 id, .bool up, .int .i64 ro, .int .i64 ep, .slice A n c, .int .i64 su, .int .i64 ma, .int .i64 ot, .int .i64 co] rfl).alloc (.cells #[.int .i64 1, .int .i64 tgt, .int .i64 me, .int .i64 (o : Int), .int .i64 pr, .bool has, .int .i64 e1, .int .i64 k1, .int .i64 p1, .slice x m d] 46)).alloc (.cells #[.int .i64 0, .int .i64 0, .bool false, .int .i64 0, .int .i64 0, .slice none 0 0, .int .i64 0, .int .i64 0, .int .i64 0, .int .i64 0, .slice none 0 0] 39)
  have bM0 := (Blk.mk (w.alloc (.cells #[.int .i64 id, .bool up, .int .i64 ro, .int .i64 ep, .slice A n c, .int .i64 su, .int .i64 ma, .int .i64 ot, .int .i64 co] 36)) (w.heap.size + 1) 46 #[.int .i64 1, .int .i64 tgt, .int .i64 me, .int .i64 (o : Int), .int .i64 pr, .bool has, .int .i64 e1, .int .i64 k1, .int .i64 p1, .slice x m d] (by simp)).alloc (.cells #[.int .i64 0, .int .i64 0, .bool false, .int .i64 0, .int .i64 0, .slice none 0 0, .int .i64 0, .int .i64 0, .int .i64 0, .int .i64 0, .slice none 0 0] 39)
  have b1 := Blk.mk ((w.alloc (.cells #[.int .i64 id, .bool up, .int .i64 ro, .int .i64 ep, .slice A n c, .int .i64 su, .int .i64 ma, .int .i64 ot, .int .i64 co] 36)).alloc (.cells #[.int .i64 1, .int .i64 tgt, .int .i64 me, .int .i64 (o : Int), .int .i64 pr, .bool has, .int .i64 e1, .int .i64 k1, .int .i64 p1, .slice x m d] 46)) (w.heap.size + 1 + 1) 39 #[.int .i64 0, .int .i64 0, .bool false, .int .i64 0, .int .i64 0, .slice none 0 0, .int .i64 0, .int .i64 0, .int .i64 0, .int .i64 0, .slice none 0 0] (by simp)
  have s0 : Hid ((((w.alloc (.cells #[.int .i64 id, .bool up, .int .i64 ro, .int .i64 ep, .slice A n c, .int .i64 su, .int .i64 ma, .int .i64 ot, .int .i64 co] 36)).alloc (.cells #[.int .i64 1, .int .i64 tgt, .int .i64 me, .int .i64 (o : Int), .int .i64 pr, .bool has, .int .i64 e1, .int .i64 k1, .int .i64 p1, .slice x m d] 46)).alloc (.cells #[.int .i64 0, .int .i64 0, .bool false, .int .i64 0, .int .i64 0, .slice none 0 0, .int .i64 0, .int .i64 0, .int .i64 0, .int .i64 0, .slice none 0 0] 39)).heap.size = w.heap.size + 1 + 1 + 1) := by unfold Hid; simp
  go_enter Try.func22, Try.ntmps22
  go_upto_region 1 with fail
  generalize ((w.alloc (.cells #[.int .i64 id, .bool up, .int .i64 ro, .int .i64 ep, .slice A n c, .int .i64 su, .int .i64 ma, .int .i64 ot, .int .i64 co] 36)).alloc (.cells #[.int .i64 1, .int .i64 tgt, .int .i64 me, .int .i64 (o : Int), .int .i64 pr, .bool has, .int .i64 e1, .int .i64 k1, .int .i64 p1, .slice x m d] 46)).alloc (.cells #[.int .i64 0, .int .i64 0, .bool false, .int .i64 0, .int .i64 0, .slice none 0 0, .int .i64 0, .int .i64 0, .int .i64 0, .int .i64 0, .slice none 0 0] 39) = w0 at *
  have S0 := s0.out
  have c0 := b0.cells
  go_wp2_with fail
  refine (scopyNd_any id up ro ep su ma ot co A n c V _ (h.new hw) hN hn hm).mono ?_
  rintro e w2 ⟨A3, c3, V1, rfl, hV, ho0, hn2⟩
  have al := (New.refl w2).alloc (.cells #[.int .i64 0, .int .i64 id, .bool up, .int .i64 ro, .int .i64 ep, .slice A3 n c3, .int .i64 su, .int .i64 ma, .int .i64 ot, .int .i64 co, .slice none 0 0] 39)
  have bM := (bM0.new hn2).new al
  have bR := (b1.new hn2).new al
  have bX := Blk.mk w2 w2.heap.size 39 #[.int .i64 0, .int .i64 id, .bool up, .int .i64 ro, .int .i64 ep, .slice A3 n c3, .int .i64 su, .int .i64 ma, .int .i64 ot, .int .i64 co, .slice none 0 0] rfl
  have hoL := (ho0.new al).up al.size
  have hw3 := (hw.trans hn2).trans al
  have z12 := hn2.size
  have z23 := al.size
  have l3 := bX.lt
  clear ho0 hn2 c0 hw b0 bM0 b1
  go_upto_region 3 with fail
  generalize w2.alloc (.cells #[.int .i64 0, .int .i64 id, .bool up, .int .i64 ro, .int .i64 ep, .slice A3 n c3, .int .i64 su, .int .i64 ma, .int .i64 ot, .int .i64 co, .slice none 0 0] 39) = w3 at *
  generalize hNB : w2.heap.size = NB at *
  generalize hlo1 : w0.heap.size = lo at *
  refine hw_start (n := 7) (S := fun X => New w3 X) rfl (by kernel_rfl) ((New.refl _).drew) (fun hH => ?_)
  refine' hw_take 0 (some 13) _ rfl rfl (by kernel_rfl) (by kernel_rfl) (by kernel_rfl) (fun _ _ _ h => h) (by rfl) hH ?hy265 ?rest265
  case hy265 =>
    intro X hX
    go_simp
    try rfl
  simp only [Act.put, List.setIfInBounds_toArray, List.set_cons_zero, List.set_cons_succ]
  refine' hw_take 1 (some 14) _ rfl rfl (by kernel_rfl) (by kernel_rfl) (by kernel_rfl) (fun _ _ _ h => h) (by rfl) hH ?hy266 ?rest266
  case hy266 =>
    intro X hX
    have cX := (bM.new hX).cells
    go_simp
    try rfl
  simp only [Act.put, List.setIfInBounds_toArray, List.set_cons_zero, List.set_cons_succ]
  refine' hw_take 2 (some 15) _ rfl rfl (by kernel_rfl) (by kernel_rfl) (by kernel_rfl) (fun _ _ _ h => h) (by rfl) hH ?hy267 ?rest267
  case hy267 =>
    intro X hX
    go_simp
    try rfl
  simp only [Act.put, List.setIfInBounds_toArray, List.set_cons_zero, List.set_cons_succ]
  refine' hw_take 3 (some 16) _ rfl rfl (by kernel_rfl) (by kernel_rfl) (by kernel_rfl) (fun _ _ _ h => h) (by rfl) hH ?hy268 ?rest268
  case hy268 =>
    intro X hX
    go_simp
    try rfl
  simp only [Act.put, List.setIfInBounds_toArray, List.set_cons_zero, List.set_cons_succ]
  refine' hw_take 4 (some 17) _ rfl rfl (by kernel_rfl) (by kernel_rfl) (by kernel_rfl) (fun _ _ _ h => h) (by rfl) hH ?hy269 ?rest269
  case hy269 =>
    intro X hX
    go_simp
    try rfl
  simp only [Act.put, List.setIfInBounds_toArray, List.set_cons_zero, List.set_cons_succ]
  refine' hw_take 5 (some 18) _ rfl rfl (by kernel_rfl) (by kernel_rfl) (by kernel_rfl) (fun _ _ _ h => h) (by rfl) hH ?hy270 ?rest270
  case hy270 =>
    intro X hX
    have cX := (bX.new hX).cells
    go_simp
    try rfl
  simp only [Act.put, List.setIfInBounds_toArray, List.set_cons_zero, List.set_cons_succ]
  refine' hw_take 6 (some 19) (.bool false) rfl rfl (by kernel_rfl) (by kernel_rfl) (by kernel_rfl) (fun _ _ _ h => h) (by rfl) hH ?hyL271 ?restL271
  case hyL271 =>
    intro X hX
    go_simp
    try rfl
  simp only [Act.put, List.setIfInBounds_toArray, List.set_cons_zero, List.set_cons_succ]
  refine wpAnyH_done (by kernel_rfl) ?_ _
  have bM4 := bM.new hH
  have bR4 := bR.new hH
  have bX4 := bX.new hH
  have hoL4 := hoL.new hH
  have hw4 := hw3.trans hH
  have z4 : Hid (w3.drew.heap.size = w3.heap.size) := rfl
  clear hH bM bR bX
  try clear cX cM
  generalize w3.drew = w4 at *
  have Z4 := z4.out
  have cX := bX4.cells
  have cM := bM4.cells
  go_upto_region 5 with fail
  refine hw_start (n := 7) (S := fun X => New w4 X) rfl (by kernel_rfl) ((New.refl _).drew) (fun hH => ?_)
  refine' hw_take 0 (some 21) _ rfl rfl (by kernel_rfl) (by kernel_rfl) (by kernel_rfl) (fun _ _ _ h => h) (by rfl) hH ?hy272 ?rest272
  case hy272 =>
    intro X hX
    go_simp
    try rfl
  simp only [Act.put, List.setIfInBounds_toArray, List.set_cons_zero, List.set_cons_succ]
  refine' hw_take 1 (some 22) _ rfl rfl (by kernel_rfl) (by kernel_rfl) (by kernel_rfl) (fun _ _ _ h => h) (by rfl) hH ?hy273 ?rest273
  case hy273 =>
    intro X hX
    have cX := (bM4.new hX).cells
    go_simp
    try rfl
  simp only [Act.put, List.setIfInBounds_toArray, List.set_cons_zero, List.set_cons_succ]
  refine' hw_take 2 (some 23) _ rfl rfl (by kernel_rfl) (by kernel_rfl) (by kernel_rfl) (fun _ _ _ h => h) (by rfl) hH ?hy274 ?rest274
  case hy274 =>
    intro X hX
    go_simp
    try rfl
  simp only [Act.put, List.setIfInBounds_toArray, List.set_cons_zero, List.set_cons_succ]
  refine' hw_take 3 (some 24) _ rfl rfl (by kernel_rfl) (by kernel_rfl) (by kernel_rfl) (fun _ _ _ h => h) (by rfl) hH ?hy275 ?rest275
  case hy275 =>
    intro X hX
    go_simp
    try rfl
  simp only [Act.put, List.setIfInBounds_toArray, List.set_cons_zero, List.set_cons_succ]
  refine' hw_take 4 (some 25) _ rfl rfl (by kernel_rfl) (by kernel_rfl) (by kernel_rfl) (fun _ _ _ h => h) (by rfl) hH ?hy276 ?rest276
  case hy276 =>
    intro X hX
    go_simp
    try rfl
  simp only [Act.put, List.setIfInBounds_toArray, List.set_cons_zero, List.set_cons_succ]
  refine' hw_take 5 (some 26) _ rfl rfl (by kernel_rfl) (by kernel_rfl) (by kernel_rfl) (fun _ _ _ h => h) (by rfl) hH ?hy277 ?rest277
  case hy277 =>
    intro X hX
    have cX := (bX4.new hX).cells
    go_simp
    try rfl
  simp only [Act.put, List.setIfInBounds_toArray, List.set_cons_zero, List.set_cons_succ]
  refine' hw_take 6 (some 27) (.bool false) rfl rfl (by kernel_rfl) (by kernel_rfl) (by kernel_rfl) (fun _ _ _ h => h) (by rfl) hH ?hyL278 ?restL278
  case hyL278 =>
    intro X hX
    go_simp
    try rfl
  simp only [Act.put, List.setIfInBounds_toArray, List.set_cons_zero, List.set_cons_succ]
  refine wpAnyH_done (by kernel_rfl) ?_ _
  have bM5 := bM4.new hH
  have bR5 := bR4.new hH
  have bX5 := bX4.new hH
  have hoL5 := hoL4.new hH
  have hw5 := hw4.trans hH
  have z5 : Hid (w4.drew.heap.size = w4.heap.size) := rfl
  clear hH bM4 bR4 bX4
  try clear cX cM
  generalize w4.drew = w5 at *
  have Z5 := z5.out
  have cX := bX5.cells
  have cM := bM5.cells
  have hoL6 := hoL5
  have bX6 := bX5
  have bM6 := bM5
  have bR6 := bR5
  have hw6 := hw5
  have z6 : w5.heap.size ≤ w5.heap.size := Nat.le_refl _
  have HA := sa_any NB lo o id up ro ep su ma ot co A3 n c3 V1 1 tgt me pr has e1 k1 p1 x m d xs w5 bX6 (hoL6.up (by omega)) (by omega) hid hn100 hma hco (hx.new hw6) hX hnx hm1
  rw [hV, hr] at HA
  clear hr
  go_wp2_with fail
  refine HA.mono ?_
  rintro e w7 (⟨zr, rfl, hz, rfl, hn7⟩ | ⟨a, A2, c2, U, hz, hM, rfl, bX7, hU, hoL7, t7⟩)
  · have gz : (zr != 0) = true := by simp [hz]
    have bR7 := bR6.new hn7
    have hw7 := hw6.trans hn7
    have z7 := hn7.size
    clear cX cM
    go_wp2_with fail
    refine (bad12 zr _).mono ?_
    rintro e w9 ⟨rfl, hn9⟩
    have n9 : New w7 w9 := ((New.refl w7).alloc _).trans hn9
    have bR9 := bR7.new n9
    have hw9 := hw7.trans n9
    have c1 := bR9.cells
    have f1 := bR9.frees
    go_wp2
    refine bodyPost_ret (v := .agg #[.int .i64 zr, .int .i64 0, .bool false, .int .i64 0, .int .i64 0, .slice none 0 0, .int .i64 0, .int .i64 0, .int .i64 0, .int .i64 0, .slice none 0 0]) (by simp [results, Try.results22, go_sem, c1]) rfl (nrAns_bad zr ?_)
    exact Turn.trans (S := fun _ => False) (T := fun i => i = (w.heap.size + 1 + 1)) hw9 (set11 (S := fun i => i = (w.heap.size + 1 + 1)) w9 (w.heap.size + 1 + 1) rfl _ _ _ _ _ _ _ _ _ _ _) (fun i hi e => by omega)
  · obtain ⟨i0, hi, hz0, hz1, hz2⟩ := info_parts Try.infoMl
    have TKa : Hid (True) := trivial
    have bR7 := bR6.turn t7 (by omega)
    have hw7 := hw6.before t7 (by intro i hi e; omega)
    have z7 := t7.size
    have al8 := (New.refl w7).alloc (.cells #[.int .i64 2, .int .i64 (1 - r.id), .int .i64 r.ep, .int .i64 a, .int .i64 0, .bool false, .int .i64 0, .int .i64 0, .int .i64 0, .slice none 0 0] 46)
    have bQ := Blk.mk w7 w7.heap.size 46 #[.int .i64 2, .int .i64 (1 - r.id), .int .i64 r.ep, .int .i64 a, .int .i64 0, .bool false, .int .i64 0, .int .i64 0, .int .i64 0, .slice none 0 0] rfl
    have bX8 := bX7.new al8
    have bR8 := bR7.new al8
    have hw8 := hw7.trans al8
    have hoL8 := hoL7.new al8
    have z8 := al8.size
    have l8 := bQ.lt
    clear cX cM
    go_upto_region 17 with fail
    generalize w7.alloc (.cells #[.int .i64 2, .int .i64 (1 - r.id), .int .i64 r.ep, .int .i64 a, .int .i64 0, .bool false, .int .i64 0, .int .i64 0, .int .i64 0, .slice none 0 0] 46) = w8 at *
    generalize hQB : w7.heap.size = QB at *
    have al9 := (New.refl w8).alloc (.cells #[.int .i64 2, .int .i64 (1 - r.id), .int .i64 r.ep, .int .i64 a, .int .i64 0, .bool false, .int .i64 0, .int .i64 0, .int .i64 0, .slice none 0 0] 46)
    have bL := Blk.mk w8 w8.heap.size 46 #[.int .i64 2, .int .i64 (1 - r.id), .int .i64 r.ep, .int .i64 a, .int .i64 0, .bool false, .int .i64 0, .int .i64 0, .int .i64 0, .slice none 0 0] rfl
    have bX9 := bX8.new al9
    have bR9 := bR8.new al9
    have cL := bL.cells
    have cX := bX8.cells
    have cQ := bQ.cells
    have z9 := al9.size
    go_wp2_with (at_builtin; refine wpList_apV _ rfl (.tmp 86) (.tmp 88) rfl w8.heap.size 10 96 (.agg #[.int .i64 0, .int .i64 0, .int .i64 0, .int .i64 0, .int .i64 0, .bool false, .int .i64 0, .int .i64 0, .int .i64 0, .slice none 0 0]) Try.underlying37 hi hz0 hz1 hz2 rfl (by omega) (by omega) (.slice none 0 0) 0 [] rfl (World.ownsRow_nil _ _ _ _) w8.heap.size [.int .i64 2, .int .i64 (1 - r.id), .int .i64 r.ep, .int .i64 a, .int .i64 0, .bool false, .int .i64 0, .int .i64 0, .int .i64 0, .slice none 0 0] rfl (by simp [Value.oneCell']) rfl (by intro j u hu; rw [cL j, List.getElem?_toArray]; exact hu) (by omega) (by simp) ?_)
    intro v10 w10 hr10 hg10 hat10
    obtain ⟨y10, d10, hv10, -, hy10⟩ := row9_form hr10
    subst hv10
    have n10 : New w8 w10 := al9.grow hg10 (by intro k hk; simp [Value.ownBlock] at hk)
    have bX10 := bX8.new n10
    have bR10 := bR8.new n10
    have hw10 := hw8.trans n10
    have hoL10 := hoL8.new n10
    have z10 := n10.size
    have bX11 := bX10.set 10 (.slice y10 1 d10)
    have t11 := (Turn.refl (fun i => i = NB) w10).set (p := ⟨NB, 10, none⟩) rfl (.slice y10 1 d10)
    have hr11 := row9_turn hr10 t11 (fun k hk e => by have := (hy10 k hk).1; omega)
    have bR11 := bR10.turn t11 (by omega)
    have hoL11 := hoL10.turnB bX10 (by decide) (by decide) t11
    have hw11 := hw10.before t11 (by intro i hi e; omega)
    have z11 := t11.size
    obtain ⟨g10, rfl, hg0, hg1⟩ : ∃ g10, y10 = some ⟨g10, 0, none⟩ ∧ w8.heap.size ≤ g10 ∧ g10 < w10.heap.size := by
      rcases hr10.2 with ⟨h1, h2⟩ | ⟨g, c, cur, h1, h2, h3, r⟩
      · cases h2
      · simp at h1; exact ⟨g, h1.1, h2, (Array.getElem?_eq_some_iff.1 h3).1⟩
    have bX12 : Blk (w10.setCell ⟨NB, 10, none⟩ (.slice (some ⟨g10, 0, none⟩) 1 d10)) NB 39 #[.int .i64 0, .int .i64 r.id, .bool r.up, .int .i64 r.ro, .int .i64 r.ep, .slice A2 r.L.length c2, .int .i64 r.su, .int .i64 r.ma, .int .i64 r.ot, .int .i64 r.co, .slice (some ⟨g10, 0, none⟩) 1 d10] := bX11
    clear cX cQ cL hg10 hat10 bX11
    have cX := bX10.cells
    have fX := bX10.frees
    go_upto_region 20 with fail
    clear cX fX
    generalize w10.setCell ⟨NB, 10, none⟩ (.slice (some ⟨g10, 0, none⟩) 1 d10) = w12 at *
    have c1 := bR11.cells
    have f1 := bR11.frees
    have cX := bX12.cells
    go_wp2
    refine bodyPost_ret (v := .agg #[.int .i64 0, .int .i64 r.id, .bool r.up, .int .i64 r.ro, .int .i64 r.ep, .slice A2 r.L.length c2, .int .i64 r.su, .int .i64 r.ma, .int .i64 r.ot, .int .i64 r.co, .slice (some ⟨g10, 0, none⟩) 1 d10]) (by simp [results, Try.results22, go_sem, c1]) rfl ?_
    unfold NrA
    rw [hz]
    refine nrAns_mk (U := U) (Ms := [mlv0 2 (1 - r.id) r.ep a]) rfl (by rw [hM]; rfl) hU (by rw [hM]; rfl) (NrOw.one (lo := lo) (hi := QB) (OwL.turn (w := w12) (S := fun i => i = (w.heap.size + 1 + 1)) hoL11 ?t1 (by intro k hk _ e; omega)) (by omega) ?u1 (row9_turn (own_base hr11) ?t1 (by intro k hk e; simp [Value.ownBlock] at hk; omega)) (by omega) (by omega) ?u2) ?n1
    case t1 => exact set11 (S := fun i => i = (w.heap.size + 1 + 1)) w12 (w.heap.size + 1 + 1) rfl _ _ _ _ _ _ _ _ _ _ _
    case u1 => exact Nat.le_trans (by omega) (Turn.size (S := fun i => i = (w.heap.size + 1 + 1)) (set11 (S := fun i => i = (w.heap.size + 1 + 1)) w12 (w.heap.size + 1 + 1) rfl _ _ _ _ _ _ _ _ _ _ _))
    case u2 => exact Nat.lt_of_lt_of_le (by omega) (Turn.size (S := fun i => i = (w.heap.size + 1 + 1)) (set11 (S := fun i => i = (w.heap.size + 1 + 1)) w12 (w.heap.size + 1 + 1) rfl _ _ _ _ _ _ _ _ _ _ _))
    case n1 => exact Turn.trans (S := fun _ => False) (T := fun i => i = (w.heap.size + 1 + 1)) hw11 (set11 (S := fun i => i = (w.heap.size + 1 + 1)) w12 (w.heap.size + 1 + 1) rfl _ _ _ _ _ _ _ _ _ _ _) (fun i hi e => by omega)

set_option maxHeartbeats 3200000 in
theorem sh_an (id : Int) (up : Bool) (ro ep su ma ot co : Int) (A : Option Addr) (n c : Nat) (V : List EkV) (tgt me : Int) (o : Nat) (pr : Int) (has : Bool) (e1 k1 p1 : Int) (x : Option Addr) (m d : Nat) (xs : List Int) (w : World) (h : LgAt w A V) (hN : NlK V) (hn : V.length = n) (hm : n ≤ 2097152) (hx : BsAt w x xs) (hX : xs.length = m) (hnx : x = none → m = 0 ∧ d = 0) (hm1 : m ≤ 1048576) (hk : ep < me) (hd1 : decide (me < ep) = false) (hd2 : decide (ep < me) = true) (r : Nr) (hr : haF id up 0 me su 0 0 co (V.map EkV.r) o pr has ⟨e1, k1, p1, xs⟩ = r) (hid : id = 0 ∨ id = 1) (hn100 : n ≤ 100) (hma : (0 : Int) ≤ 0 ∧ 0 ≤ (n : Int)) (hco : co ≤ n) :
    Calls Try.prog 22 #[.agg #[.int .i64 id, .bool up, .int .i64 ro, .int .i64 ep, .slice A n c, .int .i64 su, .int .i64 ma, .int .i64 ot, .int .i64 co], .agg #[.int .i64 1, .int .i64 tgt, .int .i64 me, .int .i64 (o : Int), .int .i64 pr, .bool has, .int .i64 e1, .int .i64 k1, .int .i64 p1, .slice x m d]] w (NrA w r) := by
  have HLn : Hid (V.length = n) := hn
  have hw := (((New.refl w).alloc (.cells #[.int .i64 id, .bool up, .int .i64 ro, .int .i64 ep, .slice A n c, .int .i64 su, .int .i64 ma, .int .i64 ot, .int .i64 co] 36)).alloc (.cells #[.int .i64 1, .int .i64 tgt, .int .i64 me, .int .i64 (o : Int), .int .i64 pr, .bool has, .int .i64 e1, .int .i64 k1, .int .i64 p1, .slice x m d] 46)).alloc (.cells #[.int .i64 0, .int .i64 0, .bool false, .int .i64 0, .int .i64 0, .slice none 0 0, .int .i64 0, .int .i64 0, .int .i64 0, .int .i64 0, .slice none 0 0] 39)
  have b0 := ((Blk.mk w w.heap.size 36 #[.int .i64 id, .bool up, .int .i64 ro, .int .i64 ep, .slice A n c, .int .i64 su, .int .i64 ma, .int .i64 ot, .int .i64 co] rfl).alloc (.cells #[.int .i64 1, .int .i64 tgt, .int .i64 me, .int .i64 (o : Int), .int .i64 pr, .bool has, .int .i64 e1, .int .i64 k1, .int .i64 p1, .slice x m d] 46)).alloc (.cells #[.int .i64 0, .int .i64 0, .bool false, .int .i64 0, .int .i64 0, .slice none 0 0, .int .i64 0, .int .i64 0, .int .i64 0, .int .i64 0, .slice none 0 0] 39)
  have bM0 := (Blk.mk (w.alloc (.cells #[.int .i64 id, .bool up, .int .i64 ro, .int .i64 ep, .slice A n c, .int .i64 su, .int .i64 ma, .int .i64 ot, .int .i64 co] 36)) (w.heap.size + 1) 46 #[.int .i64 1, .int .i64 tgt, .int .i64 me, .int .i64 (o : Int), .int .i64 pr, .bool has, .int .i64 e1, .int .i64 k1, .int .i64 p1, .slice x m d] (by simp)).alloc (.cells #[.int .i64 0, .int .i64 0, .bool false, .int .i64 0, .int .i64 0, .slice none 0 0, .int .i64 0, .int .i64 0, .int .i64 0, .int .i64 0, .slice none 0 0] 39)
  have b1 := Blk.mk ((w.alloc (.cells #[.int .i64 id, .bool up, .int .i64 ro, .int .i64 ep, .slice A n c, .int .i64 su, .int .i64 ma, .int .i64 ot, .int .i64 co] 36)).alloc (.cells #[.int .i64 1, .int .i64 tgt, .int .i64 me, .int .i64 (o : Int), .int .i64 pr, .bool has, .int .i64 e1, .int .i64 k1, .int .i64 p1, .slice x m d] 46)) (w.heap.size + 1 + 1) 39 #[.int .i64 0, .int .i64 0, .bool false, .int .i64 0, .int .i64 0, .slice none 0 0, .int .i64 0, .int .i64 0, .int .i64 0, .int .i64 0, .slice none 0 0] (by simp)
  have s0 : Hid ((((w.alloc (.cells #[.int .i64 id, .bool up, .int .i64 ro, .int .i64 ep, .slice A n c, .int .i64 su, .int .i64 ma, .int .i64 ot, .int .i64 co] 36)).alloc (.cells #[.int .i64 1, .int .i64 tgt, .int .i64 me, .int .i64 (o : Int), .int .i64 pr, .bool has, .int .i64 e1, .int .i64 k1, .int .i64 p1, .slice x m d] 46)).alloc (.cells #[.int .i64 0, .int .i64 0, .bool false, .int .i64 0, .int .i64 0, .slice none 0 0, .int .i64 0, .int .i64 0, .int .i64 0, .int .i64 0, .slice none 0 0] 39)).heap.size = w.heap.size + 1 + 1 + 1) := by unfold Hid; simp
  go_enter Try.func22, Try.ntmps22
  go_upto_region 1 with fail
  generalize ((w.alloc (.cells #[.int .i64 id, .bool up, .int .i64 ro, .int .i64 ep, .slice A n c, .int .i64 su, .int .i64 ma, .int .i64 ot, .int .i64 co] 36)).alloc (.cells #[.int .i64 1, .int .i64 tgt, .int .i64 me, .int .i64 (o : Int), .int .i64 pr, .bool has, .int .i64 e1, .int .i64 k1, .int .i64 p1, .slice x m d] 46)).alloc (.cells #[.int .i64 0, .int .i64 0, .bool false, .int .i64 0, .int .i64 0, .slice none 0 0, .int .i64 0, .int .i64 0, .int .i64 0, .int .i64 0, .slice none 0 0] 39) = w0 at *
  have S0 := s0.out
  have c0 := b0.cells
  go_wp2_with fail
  refine (scopyNd_any id up ro ep su ma ot co A n c V _ (h.new hw) hN hn hm).mono ?_
  rintro e w2 ⟨A3, c3, V1, rfl, hV, ho0, hn2⟩
  have al := (New.refl w2).alloc (.cells #[.int .i64 0, .int .i64 id, .bool up, .int .i64 ro, .int .i64 ep, .slice A3 n c3, .int .i64 su, .int .i64 ma, .int .i64 ot, .int .i64 co, .slice none 0 0] 39)
  have bM := (bM0.new hn2).new al
  have bR := (b1.new hn2).new al
  have bX := Blk.mk w2 w2.heap.size 39 #[.int .i64 0, .int .i64 id, .bool up, .int .i64 ro, .int .i64 ep, .slice A3 n c3, .int .i64 su, .int .i64 ma, .int .i64 ot, .int .i64 co, .slice none 0 0] rfl
  have hoL := (ho0.new al).up al.size
  have hw3 := (hw.trans hn2).trans al
  have z12 := hn2.size
  have z23 := al.size
  have l3 := bX.lt
  clear ho0 hn2 c0 hw b0 bM0 b1
  go_upto_region 3 with fail
  generalize w2.alloc (.cells #[.int .i64 0, .int .i64 id, .bool up, .int .i64 ro, .int .i64 ep, .slice A3 n c3, .int .i64 su, .int .i64 ma, .int .i64 ot, .int .i64 co, .slice none 0 0] 39) = w3 at *
  generalize hNB : w2.heap.size = NB at *
  generalize hlo1 : w0.heap.size = lo at *
  refine hw_start (n := 7) (S := fun X => New w3 X) rfl (by kernel_rfl) ((New.refl _).drew) (fun hH => ?_)
  refine' hw_take 0 (some 13) _ rfl rfl (by kernel_rfl) (by kernel_rfl) (by kernel_rfl) (fun _ _ _ h => h) (by rfl) hH ?hy279 ?rest279
  case hy279 =>
    intro X hX
    go_simp
    try rfl
  simp only [Act.put, List.setIfInBounds_toArray, List.set_cons_zero, List.set_cons_succ]
  refine' hw_take 1 (some 14) _ rfl rfl (by kernel_rfl) (by kernel_rfl) (by kernel_rfl) (fun _ _ _ h => h) (by rfl) hH ?hy280 ?rest280
  case hy280 =>
    intro X hX
    have cX := (bM.new hX).cells
    go_simp
    try rfl
  simp only [Act.put, List.setIfInBounds_toArray, List.set_cons_zero, List.set_cons_succ]
  refine' hw_take 2 (some 15) _ rfl rfl (by kernel_rfl) (by kernel_rfl) (by kernel_rfl) (fun _ _ _ h => h) (by rfl) hH ?hy281 ?rest281
  case hy281 =>
    intro X hX
    go_simp
    try rfl
  simp only [Act.put, List.setIfInBounds_toArray, List.set_cons_zero, List.set_cons_succ]
  refine' hw_take 3 (some 16) _ rfl rfl (by kernel_rfl) (by kernel_rfl) (by kernel_rfl) (fun _ _ _ h => h) (by rfl) hH ?hy282 ?rest282
  case hy282 =>
    intro X hX
    go_simp
    try rfl
  simp only [Act.put, List.setIfInBounds_toArray, List.set_cons_zero, List.set_cons_succ]
  refine' hw_take 4 (some 17) _ rfl rfl (by kernel_rfl) (by kernel_rfl) (by kernel_rfl) (fun _ _ _ h => h) (by rfl) hH ?hy283 ?rest283
  case hy283 =>
    intro X hX
    go_simp
    try rfl
  simp only [Act.put, List.setIfInBounds_toArray, List.set_cons_zero, List.set_cons_succ]
  refine' hw_take 5 (some 18) _ rfl rfl (by kernel_rfl) (by kernel_rfl) (by kernel_rfl) (fun _ _ _ h => h) (by rfl) hH ?hy284 ?rest284
  case hy284 =>
    intro X hX
    have cX := (bX.new hX).cells
    go_simp
    try rfl
  simp only [Act.put, List.setIfInBounds_toArray, List.set_cons_zero, List.set_cons_succ]
  refine' hw_take 6 (some 19) (.bool false) rfl rfl (by kernel_rfl) (by kernel_rfl) (by kernel_rfl) (fun _ _ _ h => h) (by rfl) hH ?hyL285 ?restL285
  case hyL285 =>
    intro X hX
    go_simp
    try rfl
  simp only [Act.put, List.setIfInBounds_toArray, List.set_cons_zero, List.set_cons_succ]
  refine wpAnyH_done (by kernel_rfl) ?_ _
  have bM4 := bM.new hH
  have bR4 := bR.new hH
  have bX4 := bX.new hH
  have hoL4 := hoL.new hH
  have hw4 := hw3.trans hH
  have z4 : Hid (w3.drew.heap.size = w3.heap.size) := rfl
  clear hH bM bR bX
  try clear cX cM
  generalize w3.drew = w4 at *
  have Z4 := z4.out
  have cX := bX4.cells
  have cM := bM4.cells
  go_upto_region 5 with fail
  refine hw_start (n := 7) (S := fun X => New w4 X) rfl (by kernel_rfl) ((New.refl _).drew) (fun hH => ?_)
  refine' hw_take 0 (some 21) _ rfl rfl (by kernel_rfl) (by kernel_rfl) (by kernel_rfl) (fun _ _ _ h => h) (by rfl) hH ?hy286 ?rest286
  case hy286 =>
    intro X hX
    go_simp
    try rfl
  simp only [Act.put, List.setIfInBounds_toArray, List.set_cons_zero, List.set_cons_succ]
  refine' hw_take 1 (some 22) _ rfl rfl (by kernel_rfl) (by kernel_rfl) (by kernel_rfl) (fun _ _ _ h => h) (by rfl) hH ?hy287 ?rest287
  case hy287 =>
    intro X hX
    have cX := (bM4.new hX).cells
    go_simp
    try rfl
  simp only [Act.put, List.setIfInBounds_toArray, List.set_cons_zero, List.set_cons_succ]
  refine' hw_take 2 (some 23) _ rfl rfl (by kernel_rfl) (by kernel_rfl) (by kernel_rfl) (fun _ _ _ h => h) (by rfl) hH ?hy288 ?rest288
  case hy288 =>
    intro X hX
    go_simp
    try rfl
  simp only [Act.put, List.setIfInBounds_toArray, List.set_cons_zero, List.set_cons_succ]
  refine' hw_take 3 (some 24) _ rfl rfl (by kernel_rfl) (by kernel_rfl) (by kernel_rfl) (fun _ _ _ h => h) (by rfl) hH ?hy289 ?rest289
  case hy289 =>
    intro X hX
    go_simp
    try rfl
  simp only [Act.put, List.setIfInBounds_toArray, List.set_cons_zero, List.set_cons_succ]
  refine' hw_take 4 (some 25) _ rfl rfl (by kernel_rfl) (by kernel_rfl) (by kernel_rfl) (fun _ _ _ h => h) (by rfl) hH ?hy290 ?rest290
  case hy290 =>
    intro X hX
    go_simp
    try rfl
  simp only [Act.put, List.setIfInBounds_toArray, List.set_cons_zero, List.set_cons_succ]
  refine' hw_take 5 (some 26) _ rfl rfl (by kernel_rfl) (by kernel_rfl) (by kernel_rfl) (fun _ _ _ h => h) (by rfl) hH ?hy291 ?rest291
  case hy291 =>
    intro X hX
    have cX := (bX4.new hX).cells
    go_simp
    try rfl
  simp only [Act.put, List.setIfInBounds_toArray, List.set_cons_zero, List.set_cons_succ]
  refine' hw_take 6 (some 27) (.bool true) rfl rfl (by kernel_rfl) (by kernel_rfl) (by kernel_rfl) (fun _ _ _ h => h) (by rfl) hH ?hyL292 ?restL292
  case hyL292 =>
    intro X hX
    go_simp
    try rfl
  simp only [Act.put, List.setIfInBounds_toArray, List.set_cons_zero, List.set_cons_succ]
  refine wpAnyH_done (by kernel_rfl) ?_ _
  have bM5 := bM4.new hH
  have bR5 := bR4.new hH
  have bX5 := bX4.new hH
  have hoL5 := hoL4.new hH
  have hw5 := hw4.trans hH
  have z5 : Hid (w4.drew.heap.size = w4.heap.size) := rfl
  clear hH bM4 bR4 bX4
  try clear cX cM
  generalize w4.drew = w5 at *
  have Z5 := z5.out
  have cX := bX5.cells
  have cM := bM5.cells
  have fX := bX5.frees
  have bX6 : Blk ((((w5.setCell ⟨NB, 3, none⟩ (.int .i64 0)).setCell ⟨NB, 4, none⟩ (.int .i64 me)).setCell ⟨NB, 7, none⟩ (.int .i64 0)).setCell ⟨NB, 8, none⟩ (.int .i64 0)) NB 39 #[.int .i64 0, .int .i64 id, .bool up, .int .i64 0, .int .i64 me, .slice A3 n c3, .int .i64 su, .int .i64 0, .int .i64 0, .int .i64 co, .slice none 0 0] := (((bX5.set 3 (.int .i64 0)).set 4 (.int .i64 me)).set 7 (.int .i64 0)).set 8 (.int .i64 0)
  have t6 : Turn (fun i => i = NB) w5 ((((w5.setCell ⟨NB, 3, none⟩ (.int .i64 0)).setCell ⟨NB, 4, none⟩ (.int .i64 me)).setCell ⟨NB, 7, none⟩ (.int .i64 0)).setCell ⟨NB, 8, none⟩ (.int .i64 0)) := ((((Turn.refl (fun i => i = NB) w5).set (p := ⟨NB, 3, none⟩) rfl (.int .i64 0)).set (p := ⟨NB, 4, none⟩) rfl (.int .i64 me)).set (p := ⟨NB, 7, none⟩) rfl (.int .i64 0)).set (p := ⟨NB, 8, none⟩) rfl (.int .i64 0)
  have hoL6 := (hoL5.turnB bX5 (by decide) (by decide) t6)
  have bM6 := bM5.turn t6 (by omega)
  have bR6 := bR5.turn t6 (by omega)
  have hw6 := hw5.before t6 (by intro i hi e; omega)
  have z6 := t6.size
  go_upto_region 10 with fail
  clear cX cM fX
  generalize (((w5.setCell ⟨NB, 3, none⟩ (.int .i64 0)).setCell ⟨NB, 4, none⟩ (.int .i64 me)).setCell ⟨NB, 7, none⟩ (.int .i64 0)).setCell ⟨NB, 8, none⟩ (.int .i64 0) = w6 at *
  have cX := bX6.cells
  have cM := bM6.cells
  have HA := sa_any NB lo o id up 0 me su 0 0 co A3 n c3 V1 1 tgt me pr has e1 k1 p1 x m d xs w6 bX6 (hoL6.up (by omega)) (by omega) hid hn100 hma hco (hx.new hw6) hX hnx hm1
  rw [hV, hr] at HA
  clear hr
  go_wp2_with fail
  refine HA.mono ?_
  rintro e w7 (⟨zr, rfl, hz, rfl, hn7⟩ | ⟨a, A2, c2, U, hz, hM, rfl, bX7, hU, hoL7, t7⟩)
  · have gz : (zr != 0) = true := by simp [hz]
    have bR7 := bR6.new hn7
    have hw7 := hw6.trans hn7
    have z7 := hn7.size
    clear cX cM
    go_wp2_with fail
    refine (bad12 zr _).mono ?_
    rintro e w9 ⟨rfl, hn9⟩
    have n9 : New w7 w9 := ((New.refl w7).alloc _).trans hn9
    have bR9 := bR7.new n9
    have hw9 := hw7.trans n9
    have c1 := bR9.cells
    have f1 := bR9.frees
    go_wp2
    refine bodyPost_ret (v := .agg #[.int .i64 zr, .int .i64 0, .bool false, .int .i64 0, .int .i64 0, .slice none 0 0, .int .i64 0, .int .i64 0, .int .i64 0, .int .i64 0, .slice none 0 0]) (by simp [results, Try.results22, go_sem, c1]) rfl (nrAns_bad zr ?_)
    exact Turn.trans (S := fun _ => False) (T := fun i => i = (w.heap.size + 1 + 1)) hw9 (set11 (S := fun i => i = (w.heap.size + 1 + 1)) w9 (w.heap.size + 1 + 1) rfl _ _ _ _ _ _ _ _ _ _ _) (fun i hi e => by omega)
  · obtain ⟨i0, hi, hz0, hz1, hz2⟩ := info_parts Try.infoMl
    have TKa : Hid (True) := trivial
    have bR7 := bR6.turn t7 (by omega)
    have hw7 := hw6.before t7 (by intro i hi e; omega)
    have z7 := t7.size
    have al8 := (New.refl w7).alloc (.cells #[.int .i64 2, .int .i64 (1 - r.id), .int .i64 r.ep, .int .i64 a, .int .i64 0, .bool false, .int .i64 0, .int .i64 0, .int .i64 0, .slice none 0 0] 46)
    have bQ := Blk.mk w7 w7.heap.size 46 #[.int .i64 2, .int .i64 (1 - r.id), .int .i64 r.ep, .int .i64 a, .int .i64 0, .bool false, .int .i64 0, .int .i64 0, .int .i64 0, .slice none 0 0] rfl
    have bX8 := bX7.new al8
    have bR8 := bR7.new al8
    have hw8 := hw7.trans al8
    have hoL8 := hoL7.new al8
    have z8 := al8.size
    have l8 := bQ.lt
    clear cX cM
    go_upto_region 17 with fail
    generalize w7.alloc (.cells #[.int .i64 2, .int .i64 (1 - r.id), .int .i64 r.ep, .int .i64 a, .int .i64 0, .bool false, .int .i64 0, .int .i64 0, .int .i64 0, .slice none 0 0] 46) = w8 at *
    generalize hQB : w7.heap.size = QB at *
    have al9 := (New.refl w8).alloc (.cells #[.int .i64 2, .int .i64 (1 - r.id), .int .i64 r.ep, .int .i64 a, .int .i64 0, .bool false, .int .i64 0, .int .i64 0, .int .i64 0, .slice none 0 0] 46)
    have bL := Blk.mk w8 w8.heap.size 46 #[.int .i64 2, .int .i64 (1 - r.id), .int .i64 r.ep, .int .i64 a, .int .i64 0, .bool false, .int .i64 0, .int .i64 0, .int .i64 0, .slice none 0 0] rfl
    have bX9 := bX8.new al9
    have bR9 := bR8.new al9
    have cL := bL.cells
    have cX := bX8.cells
    have cQ := bQ.cells
    have z9 := al9.size
    go_wp2_with (at_builtin; refine wpList_apV _ rfl (.tmp 86) (.tmp 88) rfl w8.heap.size 10 96 (.agg #[.int .i64 0, .int .i64 0, .int .i64 0, .int .i64 0, .int .i64 0, .bool false, .int .i64 0, .int .i64 0, .int .i64 0, .slice none 0 0]) Try.underlying37 hi hz0 hz1 hz2 rfl (by omega) (by omega) (.slice none 0 0) 0 [] rfl (World.ownsRow_nil _ _ _ _) w8.heap.size [.int .i64 2, .int .i64 (1 - r.id), .int .i64 r.ep, .int .i64 a, .int .i64 0, .bool false, .int .i64 0, .int .i64 0, .int .i64 0, .slice none 0 0] rfl (by simp [Value.oneCell']) rfl (by intro j u hu; rw [cL j, List.getElem?_toArray]; exact hu) (by omega) (by simp) ?_)
    intro v10 w10 hr10 hg10 hat10
    obtain ⟨y10, d10, hv10, -, hy10⟩ := row9_form hr10
    subst hv10
    have n10 : New w8 w10 := al9.grow hg10 (by intro k hk; simp [Value.ownBlock] at hk)
    have bX10 := bX8.new n10
    have bR10 := bR8.new n10
    have hw10 := hw8.trans n10
    have hoL10 := hoL8.new n10
    have z10 := n10.size
    have bX11 := bX10.set 10 (.slice y10 1 d10)
    have t11 := (Turn.refl (fun i => i = NB) w10).set (p := ⟨NB, 10, none⟩) rfl (.slice y10 1 d10)
    have hr11 := row9_turn hr10 t11 (fun k hk e => by have := (hy10 k hk).1; omega)
    have bR11 := bR10.turn t11 (by omega)
    have hoL11 := hoL10.turnB bX10 (by decide) (by decide) t11
    have hw11 := hw10.before t11 (by intro i hi e; omega)
    have z11 := t11.size
    obtain ⟨g10, rfl, hg0, hg1⟩ : ∃ g10, y10 = some ⟨g10, 0, none⟩ ∧ w8.heap.size ≤ g10 ∧ g10 < w10.heap.size := by
      rcases hr10.2 with ⟨h1, h2⟩ | ⟨g, c, cur, h1, h2, h3, r⟩
      · cases h2
      · simp at h1; exact ⟨g, h1.1, h2, (Array.getElem?_eq_some_iff.1 h3).1⟩
    have bX12 : Blk (w10.setCell ⟨NB, 10, none⟩ (.slice (some ⟨g10, 0, none⟩) 1 d10)) NB 39 #[.int .i64 0, .int .i64 r.id, .bool r.up, .int .i64 r.ro, .int .i64 r.ep, .slice A2 r.L.length c2, .int .i64 r.su, .int .i64 r.ma, .int .i64 r.ot, .int .i64 r.co, .slice (some ⟨g10, 0, none⟩) 1 d10] := bX11
    clear cX cQ cL hg10 hat10 bX11
    have cX := bX10.cells
    have fX := bX10.frees
    go_upto_region 20 with fail
    clear cX fX
    generalize w10.setCell ⟨NB, 10, none⟩ (.slice (some ⟨g10, 0, none⟩) 1 d10) = w12 at *
    have c1 := bR11.cells
    have f1 := bR11.frees
    have cX := bX12.cells
    go_wp2
    refine bodyPost_ret (v := .agg #[.int .i64 0, .int .i64 r.id, .bool r.up, .int .i64 r.ro, .int .i64 r.ep, .slice A2 r.L.length c2, .int .i64 r.su, .int .i64 r.ma, .int .i64 r.ot, .int .i64 r.co, .slice (some ⟨g10, 0, none⟩) 1 d10]) (by simp [results, Try.results22, go_sem, c1]) rfl ?_
    unfold NrA
    rw [hz]
    refine nrAns_mk (U := U) (Ms := [mlv0 2 (1 - r.id) r.ep a]) rfl (by rw [hM]; rfl) hU (by rw [hM]; rfl) (NrOw.one (lo := lo) (hi := QB) (OwL.turn (w := w12) (S := fun i => i = (w.heap.size + 1 + 1)) hoL11 ?t1 (by intro k hk _ e; omega)) (by omega) ?u1 (row9_turn (own_base hr11) ?t1 (by intro k hk e; simp [Value.ownBlock] at hk; omega)) (by omega) (by omega) ?u2) ?n1
    case t1 => exact set11 (S := fun i => i = (w.heap.size + 1 + 1)) w12 (w.heap.size + 1 + 1) rfl _ _ _ _ _ _ _ _ _ _ _
    case u1 => exact Nat.le_trans (by omega) (Turn.size (S := fun i => i = (w.heap.size + 1 + 1)) (set11 (S := fun i => i = (w.heap.size + 1 + 1)) w12 (w.heap.size + 1 + 1) rfl _ _ _ _ _ _ _ _ _ _ _))
    case u2 => exact Nat.lt_of_lt_of_le (by omega) (Turn.size (S := fun i => i = (w.heap.size + 1 + 1)) (set11 (S := fun i => i = (w.heap.size + 1 + 1)) w12 (w.heap.size + 1 + 1) rfl _ _ _ _ _ _ _ _ _ _ _))
    case n1 => exact Turn.trans (S := fun _ => False) (T := fun i => i = (w.heap.size + 1 + 1)) hw11 (set11 (S := fun i => i = (w.heap.size + 1 + 1)) w12 (w.heap.size + 1 + 1) rfl _ _ _ _ _ _ _ _ _ _ _) (fun i hi e => by omega)

end Go.Proofs.Ythnigcalboobgaa

namespace Go.Proofs.Ythnigcalboobgaa
open Go.ChangeShapes Go.WideShapes Go.ChangeAt Go.RowKit
set_option linter.unusedVariables false
set_option linter.unusedSimpArgs false
set_option maxRecDepth 100000

theorem l12M_v (v : Int) (B : Nat) (id : Int) (up : Bool) (ro ep su ma ot co : Int) (A : Option Addr) (n c : Nat) (kd tgt me at1 pr : Int) (has : Bool) (ee ki pe : Int) (a : Option Addr) (m c1 : Nat) (w : World) (hb : Blk w B 36 #[.int .i64 id, .bool up, .int .i64 ro, .int .i64 ep, .slice A n c, .int .i64 su, .int .i64 ma, .int .i64 ot, .int .i64 co]) (hm : m ≤ 1048576) (hv : mlF id kd tgt me at1 pr has ee ki pe m = v) :
    Calls Try.prog 21 #[.pointer (some ⟨B, 0, none⟩), .agg #[.int .i64 kd, .int .i64 tgt, .int .i64 me, .int .i64 at1, .int .i64 pr, .bool has, .int .i64 ee, .int .i64 ki, .int .i64 pe, .slice a m c1]] w fun e w' => e = .returned (.int .i64 v) ∧ New w w' := by
  rw [← hv]; exact l12M_any B id up ro ep su ma ot co A n c kd tgt me at1 pr has ee ki pe a m c1 w hb hm

set_option maxHeartbeats 3200000 in
theorem sHr_f (id : Int) (up : Bool) (ro ep su ma ot co : Int) (A : Option Addr) (n c : Nat) (V : List EkV) (kd tgt me at1 pr : Int) (has : Bool) (e1 k1 p1 : Int) (x : Option Addr) (m d : Nat) (xs : List Int) (w : World) (h : LgAt w A V) (hN : NlK V) (hn : V.length = n) (hm : n ≤ 2097152) (hx : BsAt w x xs) (hX : xs.length = m) (hnx : x = none → m = 0 ∧ d = 0) (hm1 : m ≤ 1048576) (z : Int) (hf : uF up (nF id up ro ep su ma ot co n (V.map EkV.r)) = z) (hz : ¬ z = 0) :
    Calls Try.prog 6 #[.agg #[.int .i64 id, .bool up, .int .i64 ro, .int .i64 ep, .slice A n c, .int .i64 su, .int .i64 ma, .int .i64 ot, .int .i64 co], .agg #[.int .i64 kd, .int .i64 tgt, .int .i64 me, .int .i64 at1, .int .i64 pr, .bool has, .int .i64 e1, .int .i64 k1, .int .i64 p1, .slice x m d]] w (NrA w (.bad z)) := by
  have hw := (((New.refl w).alloc (.cells #[.int .i64 id, .bool up, .int .i64 ro, .int .i64 ep, .slice A n c, .int .i64 su, .int .i64 ma, .int .i64 ot, .int .i64 co] 36)).alloc (.cells #[.int .i64 kd, .int .i64 tgt, .int .i64 me, .int .i64 at1, .int .i64 pr, .bool has, .int .i64 e1, .int .i64 k1, .int .i64 p1, .slice x m d] 46)).alloc (.cells #[.int .i64 0, .int .i64 0, .bool false, .int .i64 0, .int .i64 0, .slice none 0 0, .int .i64 0, .int .i64 0, .int .i64 0, .int .i64 0, .slice none 0 0] 39)
  have b0 := ((Blk.mk w w.heap.size 36 #[.int .i64 id, .bool up, .int .i64 ro, .int .i64 ep, .slice A n c, .int .i64 su, .int .i64 ma, .int .i64 ot, .int .i64 co] rfl).alloc (.cells #[.int .i64 kd, .int .i64 tgt, .int .i64 me, .int .i64 at1, .int .i64 pr, .bool has, .int .i64 e1, .int .i64 k1, .int .i64 p1, .slice x m d] 46)).alloc (.cells #[.int .i64 0, .int .i64 0, .bool false, .int .i64 0, .int .i64 0, .slice none 0 0, .int .i64 0, .int .i64 0, .int .i64 0, .int .i64 0, .slice none 0 0] 39)
  have bV := (Blk.mk (w.alloc (.cells #[.int .i64 id, .bool up, .int .i64 ro, .int .i64 ep, .slice A n c, .int .i64 su, .int .i64 ma, .int .i64 ot, .int .i64 co] 36)) (w.heap.size + 1) 46 #[.int .i64 kd, .int .i64 tgt, .int .i64 me, .int .i64 at1, .int .i64 pr, .bool has, .int .i64 e1, .int .i64 k1, .int .i64 p1, .slice x m d] (by simp)).alloc (.cells #[.int .i64 0, .int .i64 0, .bool false, .int .i64 0, .int .i64 0, .slice none 0 0, .int .i64 0, .int .i64 0, .int .i64 0, .int .i64 0, .slice none 0 0] 39)
  have b1 := Blk.mk ((w.alloc (.cells #[.int .i64 id, .bool up, .int .i64 ro, .int .i64 ep, .slice A n c, .int .i64 su, .int .i64 ma, .int .i64 ot, .int .i64 co] 36)).alloc (.cells #[.int .i64 kd, .int .i64 tgt, .int .i64 me, .int .i64 at1, .int .i64 pr, .bool has, .int .i64 e1, .int .i64 k1, .int .i64 p1, .slice x m d] 46)) (w.heap.size + 1 + 1) 39 #[.int .i64 0, .int .i64 0, .bool false, .int .i64 0, .int .i64 0, .slice none 0 0, .int .i64 0, .int .i64 0, .int .i64 0, .int .i64 0, .slice none 0 0] (by simp)
  have s0 : Hid ((((w.alloc (.cells #[.int .i64 id, .bool up, .int .i64 ro, .int .i64 ep, .slice A n c, .int .i64 su, .int .i64 ma, .int .i64 ot, .int .i64 co] 36)).alloc (.cells #[.int .i64 kd, .int .i64 tgt, .int .i64 me, .int .i64 at1, .int .i64 pr, .bool has, .int .i64 e1, .int .i64 k1, .int .i64 p1, .slice x m d] 46)).alloc (.cells #[.int .i64 0, .int .i64 0, .bool false, .int .i64 0, .int .i64 0, .slice none 0 0, .int .i64 0, .int .i64 0, .int .i64 0, .int .i64 0, .slice none 0 0] 39)).heap.size = w.heap.size + 1 + 1 + 1) := by unfold Hid; simp
  go_enter Try.func6, Try.ntmps6
  go_upto_region 1 with fail
  generalize ((w.alloc (.cells #[.int .i64 id, .bool up, .int .i64 ro, .int .i64 ep, .slice A n c, .int .i64 su, .int .i64 ma, .int .i64 ot, .int .i64 co] 36)).alloc (.cells #[.int .i64 kd, .int .i64 tgt, .int .i64 me, .int .i64 at1, .int .i64 pr, .bool has, .int .i64 e1, .int .i64 k1, .int .i64 p1, .slice x m d] 46)).alloc (.cells #[.int .i64 0, .int .i64 0, .bool false, .int .i64 0, .int .i64 0, .slice none 0 0, .int .i64 0, .int .i64 0, .int .i64 0, .int .i64 0, .slice none 0 0] 39) = w0 at *
  have S0 := s0.out
  have c0 := b0.cells
  go_wp2_with fail
  refine (asked_any z w.heap.size id up ro ep su ma ot co A n c V _ b0 (h.new hw) hn hm hf).mono ?_
  rintro e w1 ⟨rfl, hn1⟩
  have b11 := b1.new hn1
  have b01 := b0.new hn1
  have bV1 := bV.new hn1
  have c01 := b01.cells
  have hw1 := hw.trans hn1
  have z01 := hn1.size
  clear c0
  have c1 := (b11).cells
  have f1 := (b11).frees
  go_wp2_with fail
  refine (bad12 z _).mono ?_
  rintro e wq ⟨rfl, hnq⟩
  have c1 := ((b11).new hnq).cells
  have f1 := ((b11).new hnq).frees
  go_wp2
  refine bodyPost_ret (v := .agg #[.int .i64 z, .int .i64 0, .bool false, .int .i64 0, .int .i64 0, .slice none 0 0, .int .i64 0, .int .i64 0, .int .i64 0, .int .i64 0, .slice none 0 0]) (by simp [results, Try.results6, go_sem, c1]) rfl (nrAns_bad z ?_)
  exact ((((((((((((hw1.trans hnq)).setCell (by simp; try omega) _).setCell (by simp; try omega) _).setCell (by simp; try omega) _).setCell (by simp; try omega) _).setCell (by simp; try omega) _).setCell (by simp; try omega) _).setCell (by simp; try omega) _).setCell (by simp; try omega) _).setCell (by simp; try omega) _).setCell (by simp; try omega) _).setCell (by simp; try omega) _

set_option maxHeartbeats 3200000 in
theorem sHr_m (id : Int) (up : Bool) (ro ep su ma ot co : Int) (A : Option Addr) (n c : Nat) (V : List EkV) (kd tgt me at1 pr : Int) (has : Bool) (e1 k1 p1 : Int) (x : Option Addr) (m d : Nat) (xs : List Int) (w : World) (h : LgAt w A V) (hN : NlK V) (hn : V.length = n) (hm : n ≤ 2097152) (hx : BsAt w x xs) (hX : xs.length = m) (hnx : x = none → m = 0 ∧ d = 0) (hm1 : m ≤ 1048576) (hf : uF up (nF id up ro ep su ma ot co n (V.map EkV.r)) = 0) (z : Int) (he : mlF id kd tgt me at1 pr has e1 k1 p1 m = z) (hz : ¬ z = 0) :
    Calls Try.prog 6 #[.agg #[.int .i64 id, .bool up, .int .i64 ro, .int .i64 ep, .slice A n c, .int .i64 su, .int .i64 ma, .int .i64 ot, .int .i64 co], .agg #[.int .i64 kd, .int .i64 tgt, .int .i64 me, .int .i64 at1, .int .i64 pr, .bool has, .int .i64 e1, .int .i64 k1, .int .i64 p1, .slice x m d]] w (NrA w (.bad z)) := by
  have hw := (((New.refl w).alloc (.cells #[.int .i64 id, .bool up, .int .i64 ro, .int .i64 ep, .slice A n c, .int .i64 su, .int .i64 ma, .int .i64 ot, .int .i64 co] 36)).alloc (.cells #[.int .i64 kd, .int .i64 tgt, .int .i64 me, .int .i64 at1, .int .i64 pr, .bool has, .int .i64 e1, .int .i64 k1, .int .i64 p1, .slice x m d] 46)).alloc (.cells #[.int .i64 0, .int .i64 0, .bool false, .int .i64 0, .int .i64 0, .slice none 0 0, .int .i64 0, .int .i64 0, .int .i64 0, .int .i64 0, .slice none 0 0] 39)
  have b0 := ((Blk.mk w w.heap.size 36 #[.int .i64 id, .bool up, .int .i64 ro, .int .i64 ep, .slice A n c, .int .i64 su, .int .i64 ma, .int .i64 ot, .int .i64 co] rfl).alloc (.cells #[.int .i64 kd, .int .i64 tgt, .int .i64 me, .int .i64 at1, .int .i64 pr, .bool has, .int .i64 e1, .int .i64 k1, .int .i64 p1, .slice x m d] 46)).alloc (.cells #[.int .i64 0, .int .i64 0, .bool false, .int .i64 0, .int .i64 0, .slice none 0 0, .int .i64 0, .int .i64 0, .int .i64 0, .int .i64 0, .slice none 0 0] 39)
  have bV := (Blk.mk (w.alloc (.cells #[.int .i64 id, .bool up, .int .i64 ro, .int .i64 ep, .slice A n c, .int .i64 su, .int .i64 ma, .int .i64 ot, .int .i64 co] 36)) (w.heap.size + 1) 46 #[.int .i64 kd, .int .i64 tgt, .int .i64 me, .int .i64 at1, .int .i64 pr, .bool has, .int .i64 e1, .int .i64 k1, .int .i64 p1, .slice x m d] (by simp)).alloc (.cells #[.int .i64 0, .int .i64 0, .bool false, .int .i64 0, .int .i64 0, .slice none 0 0, .int .i64 0, .int .i64 0, .int .i64 0, .int .i64 0, .slice none 0 0] 39)
  have b1 := Blk.mk ((w.alloc (.cells #[.int .i64 id, .bool up, .int .i64 ro, .int .i64 ep, .slice A n c, .int .i64 su, .int .i64 ma, .int .i64 ot, .int .i64 co] 36)).alloc (.cells #[.int .i64 kd, .int .i64 tgt, .int .i64 me, .int .i64 at1, .int .i64 pr, .bool has, .int .i64 e1, .int .i64 k1, .int .i64 p1, .slice x m d] 46)) (w.heap.size + 1 + 1) 39 #[.int .i64 0, .int .i64 0, .bool false, .int .i64 0, .int .i64 0, .slice none 0 0, .int .i64 0, .int .i64 0, .int .i64 0, .int .i64 0, .slice none 0 0] (by simp)
  have s0 : Hid ((((w.alloc (.cells #[.int .i64 id, .bool up, .int .i64 ro, .int .i64 ep, .slice A n c, .int .i64 su, .int .i64 ma, .int .i64 ot, .int .i64 co] 36)).alloc (.cells #[.int .i64 kd, .int .i64 tgt, .int .i64 me, .int .i64 at1, .int .i64 pr, .bool has, .int .i64 e1, .int .i64 k1, .int .i64 p1, .slice x m d] 46)).alloc (.cells #[.int .i64 0, .int .i64 0, .bool false, .int .i64 0, .int .i64 0, .slice none 0 0, .int .i64 0, .int .i64 0, .int .i64 0, .int .i64 0, .slice none 0 0] 39)).heap.size = w.heap.size + 1 + 1 + 1) := by unfold Hid; simp
  go_enter Try.func6, Try.ntmps6
  go_upto_region 1 with fail
  generalize ((w.alloc (.cells #[.int .i64 id, .bool up, .int .i64 ro, .int .i64 ep, .slice A n c, .int .i64 su, .int .i64 ma, .int .i64 ot, .int .i64 co] 36)).alloc (.cells #[.int .i64 kd, .int .i64 tgt, .int .i64 me, .int .i64 at1, .int .i64 pr, .bool has, .int .i64 e1, .int .i64 k1, .int .i64 p1, .slice x m d] 46)).alloc (.cells #[.int .i64 0, .int .i64 0, .bool false, .int .i64 0, .int .i64 0, .slice none 0 0, .int .i64 0, .int .i64 0, .int .i64 0, .int .i64 0, .slice none 0 0] 39) = w0 at *
  have S0 := s0.out
  have c0 := b0.cells
  go_wp2_with fail
  refine (asked_any 0 w.heap.size id up ro ep su ma ot co A n c V _ b0 (h.new hw) hn hm hf).mono ?_
  rintro e w1 ⟨rfl, hn1⟩
  have b11 := b1.new hn1
  have b01 := b0.new hn1
  have bV1 := bV.new hn1
  have c01 := b01.cells
  have hw1 := hw.trans hn1
  have z01 := hn1.size
  clear c0
  have cV1 := bV1.cells
  go_wp2_with fail
  refine (l12M_v z w.heap.size id up ro ep su ma ot co A n c kd tgt me at1 pr has e1 k1 p1 x m d _ b01 hm1 he).mono ?_
  rintro e w1b ⟨rfl, hn1b⟩
  have b11b := b11.new hn1b
  have b01b := b01.new hn1b
  have bV1b := bV1.new hn1b
  have hw1b := hw1.trans hn1b
  have z1b := hn1b.size
  have c01b := b01b.cells
  clear c01 b11 b01 bV1
  have c1 := (b11b).cells
  have f1 := (b11b).frees
  go_wp2_with fail
  refine (bad12 z _).mono ?_
  rintro e wq ⟨rfl, hnq⟩
  have c1 := ((b11b).new hnq).cells
  have f1 := ((b11b).new hnq).frees
  go_wp2
  refine bodyPost_ret (v := .agg #[.int .i64 z, .int .i64 0, .bool false, .int .i64 0, .int .i64 0, .slice none 0 0, .int .i64 0, .int .i64 0, .int .i64 0, .int .i64 0, .slice none 0 0]) (by simp [results, Try.results6, go_sem, c1]) rfl (nrAns_bad z ?_)
  exact ((((((((((((hw1b.trans hnq)).setCell (by simp; try omega) _).setCell (by simp; try omega) _).setCell (by simp; try omega) _).setCell (by simp; try omega) _).setCell (by simp; try omega) _).setCell (by simp; try omega) _).setCell (by simp; try omega) _).setCell (by simp; try omega) _).setCell (by simp; try omega) _).setCell (by simp; try omega) _).setCell (by simp; try omega) _

set_option maxHeartbeats 3200000 in
theorem sHr_ok (id : Int) (up : Bool) (ro ep su ma ot co : Int) (A : Option Addr) (n c : Nat) (V : List EkV) (kd tgt me at1 pr : Int) (has : Bool) (e1 k1 p1 : Int) (x : Option Addr) (m d : Nat) (xs : List Int) (w : World) (h : LgAt w A V) (hN : NlK V) (hn : V.length = n) (hm : n ≤ 2097152) (hx : BsAt w x xs) (hX : xs.length = m) (hnx : x = none → m = 0 ∧ d = 0) (hm1 : m ≤ 1048576) (hf : uF up (nF id up ro ep su ma ot co n (V.map EkV.r)) = 0) (he : mlF id kd tgt me at1 pr has e1 k1 p1 m = 0) (r : Nr) (HH : ∀ W, New w W → Calls Try.prog 22 #[.agg #[.int .i64 id, .bool up, .int .i64 ro, .int .i64 ep, .slice A n c, .int .i64 su, .int .i64 ma, .int .i64 ot, .int .i64 co], .agg #[.int .i64 kd, .int .i64 tgt, .int .i64 me, .int .i64 at1, .int .i64 pr, .bool has, .int .i64 e1, .int .i64 k1, .int .i64 p1, .slice x m d]] W (NrA W r)) :
    Calls Try.prog 6 #[.agg #[.int .i64 id, .bool up, .int .i64 ro, .int .i64 ep, .slice A n c, .int .i64 su, .int .i64 ma, .int .i64 ot, .int .i64 co], .agg #[.int .i64 kd, .int .i64 tgt, .int .i64 me, .int .i64 at1, .int .i64 pr, .bool has, .int .i64 e1, .int .i64 k1, .int .i64 p1, .slice x m d]] w (NrA w r) := by
  have hw := (((New.refl w).alloc (.cells #[.int .i64 id, .bool up, .int .i64 ro, .int .i64 ep, .slice A n c, .int .i64 su, .int .i64 ma, .int .i64 ot, .int .i64 co] 36)).alloc (.cells #[.int .i64 kd, .int .i64 tgt, .int .i64 me, .int .i64 at1, .int .i64 pr, .bool has, .int .i64 e1, .int .i64 k1, .int .i64 p1, .slice x m d] 46)).alloc (.cells #[.int .i64 0, .int .i64 0, .bool false, .int .i64 0, .int .i64 0, .slice none 0 0, .int .i64 0, .int .i64 0, .int .i64 0, .int .i64 0, .slice none 0 0] 39)
  have b0 := ((Blk.mk w w.heap.size 36 #[.int .i64 id, .bool up, .int .i64 ro, .int .i64 ep, .slice A n c, .int .i64 su, .int .i64 ma, .int .i64 ot, .int .i64 co] rfl).alloc (.cells #[.int .i64 kd, .int .i64 tgt, .int .i64 me, .int .i64 at1, .int .i64 pr, .bool has, .int .i64 e1, .int .i64 k1, .int .i64 p1, .slice x m d] 46)).alloc (.cells #[.int .i64 0, .int .i64 0, .bool false, .int .i64 0, .int .i64 0, .slice none 0 0, .int .i64 0, .int .i64 0, .int .i64 0, .int .i64 0, .slice none 0 0] 39)
  have bV := (Blk.mk (w.alloc (.cells #[.int .i64 id, .bool up, .int .i64 ro, .int .i64 ep, .slice A n c, .int .i64 su, .int .i64 ma, .int .i64 ot, .int .i64 co] 36)) (w.heap.size + 1) 46 #[.int .i64 kd, .int .i64 tgt, .int .i64 me, .int .i64 at1, .int .i64 pr, .bool has, .int .i64 e1, .int .i64 k1, .int .i64 p1, .slice x m d] (by simp)).alloc (.cells #[.int .i64 0, .int .i64 0, .bool false, .int .i64 0, .int .i64 0, .slice none 0 0, .int .i64 0, .int .i64 0, .int .i64 0, .int .i64 0, .slice none 0 0] 39)
  have b1 := Blk.mk ((w.alloc (.cells #[.int .i64 id, .bool up, .int .i64 ro, .int .i64 ep, .slice A n c, .int .i64 su, .int .i64 ma, .int .i64 ot, .int .i64 co] 36)).alloc (.cells #[.int .i64 kd, .int .i64 tgt, .int .i64 me, .int .i64 at1, .int .i64 pr, .bool has, .int .i64 e1, .int .i64 k1, .int .i64 p1, .slice x m d] 46)) (w.heap.size + 1 + 1) 39 #[.int .i64 0, .int .i64 0, .bool false, .int .i64 0, .int .i64 0, .slice none 0 0, .int .i64 0, .int .i64 0, .int .i64 0, .int .i64 0, .slice none 0 0] (by simp)
  have s0 : Hid ((((w.alloc (.cells #[.int .i64 id, .bool up, .int .i64 ro, .int .i64 ep, .slice A n c, .int .i64 su, .int .i64 ma, .int .i64 ot, .int .i64 co] 36)).alloc (.cells #[.int .i64 kd, .int .i64 tgt, .int .i64 me, .int .i64 at1, .int .i64 pr, .bool has, .int .i64 e1, .int .i64 k1, .int .i64 p1, .slice x m d] 46)).alloc (.cells #[.int .i64 0, .int .i64 0, .bool false, .int .i64 0, .int .i64 0, .slice none 0 0, .int .i64 0, .int .i64 0, .int .i64 0, .int .i64 0, .slice none 0 0] 39)).heap.size = w.heap.size + 1 + 1 + 1) := by unfold Hid; simp
  go_enter Try.func6, Try.ntmps6
  go_upto_region 1 with fail
  generalize ((w.alloc (.cells #[.int .i64 id, .bool up, .int .i64 ro, .int .i64 ep, .slice A n c, .int .i64 su, .int .i64 ma, .int .i64 ot, .int .i64 co] 36)).alloc (.cells #[.int .i64 kd, .int .i64 tgt, .int .i64 me, .int .i64 at1, .int .i64 pr, .bool has, .int .i64 e1, .int .i64 k1, .int .i64 p1, .slice x m d] 46)).alloc (.cells #[.int .i64 0, .int .i64 0, .bool false, .int .i64 0, .int .i64 0, .slice none 0 0, .int .i64 0, .int .i64 0, .int .i64 0, .int .i64 0, .slice none 0 0] 39) = w0 at *
  have S0 := s0.out
  have c0 := b0.cells
  go_wp2_with fail
  refine (asked_any 0 w.heap.size id up ro ep su ma ot co A n c V _ b0 (h.new hw) hn hm hf).mono ?_
  rintro e w1 ⟨rfl, hn1⟩
  have b11 := b1.new hn1
  have b01 := b0.new hn1
  have bV1 := bV.new hn1
  have c01 := b01.cells
  have hw1 := hw.trans hn1
  have z01 := hn1.size
  clear c0
  have cV1 := bV1.cells
  go_wp2_with fail
  refine (l12M_v 0 w.heap.size id up ro ep su ma ot co A n c kd tgt me at1 pr has e1 k1 p1 x m d _ b01 hm1 he).mono ?_
  rintro e w1b ⟨rfl, hn1b⟩
  have b11b := b11.new hn1b
  have b01b := b01.new hn1b
  have bV1b := bV1.new hn1b
  have hw1b := hw1.trans hn1b
  have z1b := hn1b.size
  have c01b := b01b.cells
  clear c01 b11 b01 bV1
  have cV1b := bV1b.cells
  go_wp2_with fail
  refine (HH _ hw1b).mono ?_
  rintro e w5 ⟨A2, c2, U, S, cs, Ms, rfl, hU, hMs, hoF, hn5⟩
  have b15 := b11b.new hn5
  have hw5 := hw1b.trans hn5
  have z5 := hn5.size
  clear c01b cV1b cV1
  have c1 := b15.cells
  have f1 := b15.frees
  go_wp2
  refine bodyPost_ret (v := .agg #[.int .i64 r.z, .int .i64 r.id, .bool r.up, .int .i64 r.ro, .int .i64 r.ep, .slice A2 r.L.length c2, .int .i64 r.su, .int .i64 r.ma, .int .i64 r.ot, .int .i64 r.co, .slice S r.M.length cs]) (by simp [results, Try.results6, go_sem, c1]) rfl ⟨A2, c2, U, S, cs, Ms, rfl, hU, hMs, (hoF.turn (T := fun i => i = w.heap.size + 1 + 1) ?t1 (by intro k hk _ e; omega)).wide (by omega) ?u1, ?n1⟩
  case t1 => exact set11 (S := fun i => i = w.heap.size + 1 + 1) w5 (w.heap.size + 1 + 1) rfl _ _ _ _ _ _ _ _ _ _ _
  case u1 => exact Turn.size (S := fun i => i = w.heap.size + 1 + 1) (set11 (S := fun i => i = w.heap.size + 1 + 1) w5 (w.heap.size + 1 + 1) rfl _ _ _ _ _ _ _ _ _ _ _)
  case n1 => exact Turn.trans (S := fun _ => False) (T := fun i => i = w.heap.size + 1 + 1) hw5 (set11 (S := fun i => i = w.heap.size + 1 + 1) w5 (w.heap.size + 1 + 1) rfl _ _ _ _ _ _ _ _ _ _ _) (fun i hi e => by omega)

theorem sHear_any (id : Int) (up : Bool) (ro ep su ma ot co : Int) (A : Option Addr) (n c : Nat) (V : List EkV) (kd tgt me at1 pr : Int) (has : Bool) (e1 k1 p1 : Int) (x : Option Addr) (m d : Nat) (xs : List Int) (w : World) (h : LgAt w A V) (hN : NlK V) (hn : V.length = n) (hm : n ≤ 2097152) (hx : BsAt w x xs) (hX : xs.length = m) (hnx : x = none → m = 0 ∧ d = 0) (hm1 : m ≤ 1048576) :
    Calls Try.prog 6 #[.agg #[.int .i64 id, .bool up, .int .i64 ro, .int .i64 ep, .slice A n c, .int .i64 su, .int .i64 ma, .int .i64 ot, .int .i64 co], .agg #[.int .i64 kd, .int .i64 tgt, .int .i64 me, .int .i64 at1, .int .i64 pr, .bool has, .int .i64 e1, .int .i64 k1, .int .i64 p1, .slice x m d]] w (NrA w (hearF id up ro ep su ma ot co (V.map EkV.r) kd tgt me at1 pr has ⟨e1, k1, p1, xs⟩)) := by
  have hl : (V.map EkV.r).length = n := by rw [List.length_map]; exact hn
  unfold hearF
  rw [hl]
  simp only [hX]
  by_cases hf : uF up (nF id up ro ep su ma ot co n (V.map EkV.r)) = 0
  case neg =>
    rw [if_pos hf]
    exact sHr_f id up ro ep su ma ot co A n c V kd tgt me at1 pr has e1 k1 p1 x m d xs w h hN hn hm hx hX hnx hm1 _ rfl hf
  rw [if_neg (fun k => k hf)]
  by_cases he : mlF id kd tgt me at1 pr has e1 k1 p1 m = 0
  case neg =>
    rw [if_pos he]
    exact sHr_m id up ro ep su ma ot co A n c V kd tgt me at1 pr has e1 k1 p1 x m d xs w h hN hn hm hx hX hnx hm1 hf _ rfl he
  rw [if_neg (fun k => k he)]
  refine sHr_ok id up ro ep su ma ot co A n c V kd tgt me at1 pr has e1 k1 p1 x m d xs w h hN hn hm hx hX hnx hm1 hf he _ (fun W nW => ?_)
  have hW := h.new nW
  have xW := hx.new nW
  by_cases h1 : me < ep
  · rw [if_pos h1]
    exact sh_old id up ro ep su ma ot co A n c V kd tgt me at1 pr has e1 k1 p1 x m d xs W hW hN hn hm xW hX hnx hm1 h1 (by simpa using h1)
  rw [if_neg h1]
  obtain ⟨hkd, -, -, ha0, ha1⟩ := mlF_ok he
  obtain ⟨o, rfl⟩ : ∃ o : Nat, at1 = (o : Int) := ⟨at1.toNat, by omega⟩
  rw [Int.toNat_natCast]
  obtain ⟨hh, hn1, -, hc, -, -⟩ := nF_ok id up ro ep su ma ot co n (V.map EkV.r) (uF_ok hf).1
  have hid : id = 0 ∨ id = 1 := hh.1
  have hma : 0 ≤ ma ∧ ma ≤ (n : Int) := hc.2.1
  have hco : co ≤ (n : Int) := by have := hc.1; have := hc.2.2.2; omega
  have d1 : decide (me < ep) = false := by simpa using h1
  by_cases h2 : ep < me
  · rw [if_pos h2]
    have d2 : decide (ep < me) = true := by simpa using h2
    unfold hmF
    rcases hkd with rfl | rfl
    · rw [if_pos rfl]
      exact sh_an id up ro ep su ma ot co A n c V tgt me o pr has e1 k1 p1 x m d xs W hW hN hn hm xW hX hnx hm1 h2 d1 d2 _ rfl hid hn1 (by omega) hco
    · rw [if_neg (by decide), hl]
      have e1' : htO 0 0 o n = 0 := by unfold htO; rw [if_neg (by rintro ⟨h, -⟩; exact absurd h (by decide))]
      have e2' : htC 0 su 0 co o n = co := by unfold htC; rw [if_neg (by decide)]
      rw [e1', e2']
      exact sh_tn id up ro ep su ma ot co A n c V tgt me o pr has e1 k1 p1 x m d xs W hW hN hn hm xW hX hnx hm1 h2 d1 d2
  · rw [if_neg h2]
    have d2 : decide (ep < me) = false := by simpa using h2
    have e3 : me = ep := by omega
    unfold hmF
    rcases hkd with rfl | rfl
    · rw [if_pos rfl]
      exact sh_ae id up ro ep su ma ot co A n c V tgt me o pr has e1 k1 p1 x m d xs W hW hN hn hm xW hX hnx hm1 e3 d1 d2 _ rfl hid hn1 hma hco
    · rw [if_neg (by decide), hl]
      exact sh_t id up ro ep su ma ot co A n c V tgt me o pr has e1 k1 p1 x m d xs W hW hN hn hm xW hX hnx hm1 e3 d1 d2

end Go.Proofs.Ythnigcalboobgaa
