/- What is proved here: what hearing an entry that is to be appended answers, where none is put in. -/
import Derived.Test.YthnigcalboobgaaHM2
import Derived.Test.YthnigcalboobgaaK12Tp
import Derived.Deep.RegionHeld3
namespace Go.Proofs.Ythnigcalboobgaa
open Go.ChangeShapes Go.WideShapes Go.ChangeAt Go.RowKit
set_option linter.unusedVariables false
set_option linter.unusedSimpArgs false
set_option maxRecDepth 100000

/-- An answer with a node that was worked upon in a block of the caller's. -/
def HaAns (w : World) (lo B : Nat) (A : Option Addr) (n c : Nat) (r : Nr) (e : Ending) (w' : World) : Prop :=
  ∃ (A2 : Option Addr) (c2 : Nat) (U : List EkV) (S : Option Addr) (cs : Nat) (Ms : List MlV), e = .returned (.agg #[.int .i64 r.z, .int .i64 r.id, .bool r.up, .int .i64 r.ro, .int .i64 r.ep, .slice A2 r.L.length c2, .int .i64 r.su, .int .i64 r.ma, .int .i64 r.ot, .int .i64 r.co, .slice S r.M.length cs]) ∧ U.map EkV.r = r.L ∧ Ms.map MlV.m = r.M ∧ NrOw w' lo w'.heap.size A2 r.L.length c2 U S r.M.length cs Ms ∧ Turn (fun i => i = B ∨ (Value.slice A n c).ownBlock = some i) w w'
theorem haAns_mk {w w' : World} {lo B : Nat} {A : Option Addr} {n c : Nat} {r : Nr} {A2 S : Option Addr} {n2 c2 q cs : Nat} {U : List EkV} {Ms : List MlV} (hL : r.L.length = n2) (hQ : r.M.length = q) (hU : U.map EkV.r = r.L) (hM : Ms.map MlV.m = r.M) (ho : NrOw w' lo w'.heap.size A2 n2 c2 U S q cs Ms) (ht : Turn (fun i => i = B ∨ (Value.slice A n c).ownBlock = some i) w w') :
    HaAns w lo B A n c r (.returned (.agg #[.int .i64 r.z, .int .i64 r.id, .bool r.up, .int .i64 r.ro, .int .i64 r.ep, .slice A2 n2 c2, .int .i64 r.su, .int .i64 r.ma, .int .i64 r.ot, .int .i64 r.co, .slice S q cs])) w' := by
  subst hL hQ
  exact ⟨A2, c2, U, S, cs, Ms, rfl, hU, hM, ho, ht⟩
theorem haAns_bad {w w' : World} {lo B : Nat} {A : Option Addr} {n c : Nat} (z : Int) (hlo : lo ≤ w'.heap.size) (ht : Turn (fun i => i = B ∨ (Value.slice A n c).ownBlock = some i) w w') : HaAns w lo B A n c (.bad z) (.returned (.agg #[.int .i64 z, .int .i64 0, .bool false, .int .i64 0, .int .i64 0, .slice none 0 0, .int .i64 0, .int .i64 0, .int .i64 0, .int .i64 0, .slice none 0 0])) w' :=
  haAns_mk (r := .bad z) (n2 := 0) (q := 0) (U := []) (Ms := []) rfl rfl rfl rfl ⟨lo, w'.heap.size, fun _ => False, OwL.nil _ _ _, SdOw.nil _ _, fun _ f => f.elim, fun _ f => f.elim, Nat.le_refl _, Nat.le_refl _⟩ ht

set_option maxHeartbeats 3200000 in
theorem ha_act (B MB lo o : Nat) (id : Int) (up : Bool) (ep su ma ot co : Int) (A : Option Addr) (n c : Nat) (V1 : List EkV) (kd tgt me pr : Int) (has : Bool) (e1 k1 p1 : Int) (x : Option Addr) (m d : Nat) (xs : List Int) (wb w : World) (hb : Blk w B 36 #[.int .i64 id, .bool up, .int .i64 1, .int .i64 ep, .slice A n c, .int .i64 su, .int .i64 ma, .int .i64 ot, .int .i64 co]) (hM : Blk w MB 46 #[.int .i64 kd, .int .i64 tgt, .int .i64 me, .int .i64 (o : Int), .int .i64 pr, .bool has, .int .i64 e1, .int .i64 k1, .int .i64 p1, .slice x m d]) (hoL0 : OwL w lo w.heap.size (.slice A n c) V1) (hlo0 : lo ≤ w.heap.size) (hMlo : MB < lo) (hlB : lo ≤ B) (hid : id = 0 ∨ id = 1) (hn : n ≤ 100) :
    Calls Try.prog 29 #[.pointer (some ⟨B, 0, none⟩), .pointer (some ⟨MB, 0, none⟩)] w (HaAns w lo B A n c (.bad 10)) := by
  have HL : Hid (V1.length = n) := hoL0.lg.2
  have hw := (New.refl w).alloc (.cells #[.int .i64 0, .int .i64 0, .bool false, .int .i64 0, .int .i64 0, .slice none 0 0, .int .i64 0, .int .i64 0, .int .i64 0, .int .i64 0, .slice none 0 0] 39)
  have bR := Blk.mk w w.heap.size 39 #[.int .i64 0, .int .i64 0, .bool false, .int .i64 0, .int .i64 0, .slice none 0 0, .int .i64 0, .int .i64 0, .int .i64 0, .int .i64 0, .slice none 0 0] rfl
  have hb0 := hb.new hw
  have hM0 := hM.new hw
  have hoL := (hoL0.new hw).up hw.size
  have hlt := hb.lt
  have hMt := hM.lt
  have s0 : Hid ((w.alloc (.cells #[.int .i64 0, .int .i64 0, .bool false, .int .i64 0, .int .i64 0, .slice none 0 0, .int .i64 0, .int .i64 0, .int .i64 0, .int .i64 0, .slice none 0 0] 39)).heap.size = w.heap.size + 1) := by unfold Hid; simp
  go_enter Try.func29, Try.ntmps29
  go_upto_region 1 with fail
  generalize w.alloc (.cells #[.int .i64 0, .int .i64 0, .bool false, .int .i64 0, .int .i64 0, .slice none 0 0, .int .i64 0, .int .i64 0, .int .i64 0, .int .i64 0, .slice none 0 0] 39) = w0 at *
  have S0 := s0.out
  go_wp2_with fail
  refine (active_yes B id up ep su ma ot co A n c _ hb0).mono ?_
  rintro e wz ⟨rfl, hwz⟩
  obtain rfl := hwz.symm
  have c1 := (bR).cells
  have f1 := (bR).frees
  go_wp2
  refine bodyPost_ret (v := .agg #[.int .i64 10, .int .i64 0, .bool false, .int .i64 0, .int .i64 0, .slice none 0 0, .int .i64 0, .int .i64 0, .int .i64 0, .int .i64 0, .slice none 0 0]) (by simp [results, Try.results29, go_sem, c1]) rfl (haAns_bad 10 ?z ?t)
  case z => exact Nat.le_trans hlo0 (Nat.le_trans hw.size (Turn.size (S := fun i => i = w.heap.size) (set11 (S := fun i => i = w.heap.size) w0 w.heap.size rfl _ _ _ _ _ _ _ _ _ _ _)))
  case t => exact Turn.trans (S := fun i => i = B ∨ (Value.slice A n c).ownBlock = some i) (T := fun i => i = w.heap.size) hw.turn (set11 (S := fun i => i = w.heap.size) w0 w.heap.size rfl _ _ _ _ _ _ _ _ _ _ _) (fun i hi e => by omega)

set_option maxHeartbeats 3200000 in
theorem ha_far (B MB lo o : Nat) (id : Int) (up : Bool) (ro ep su ma ot co : Int) (A : Option Addr) (n c : Nat) (V1 : List EkV) (kd tgt me pr : Int) (has : Bool) (e1 k1 p1 : Int) (x : Option Addr) (m d : Nat) (xs : List Int) (wb w : World) (hb : Blk w B 36 #[.int .i64 id, .bool up, .int .i64 ro, .int .i64 ep, .slice A n c, .int .i64 su, .int .i64 ma, .int .i64 ot, .int .i64 co]) (hM : Blk w MB 46 #[.int .i64 kd, .int .i64 tgt, .int .i64 me, .int .i64 (o : Int), .int .i64 pr, .bool has, .int .i64 e1, .int .i64 k1, .int .i64 p1, .slice x m d]) (hoL0 : OwL w lo w.heap.size (.slice A n c) V1) (hlo0 : lo ≤ w.heap.size) (hMlo : MB < lo) (hlB : lo ≤ B) (hid : id = 0 ∨ id = 1) (hn : n ≤ 100) (hr : ¬ ro = 1) (ho : n < o) :
    Calls Try.prog 29 #[.pointer (some ⟨B, 0, none⟩), .pointer (some ⟨MB, 0, none⟩)] w (HaAns w lo B A n c (⟨0, id, up, ro, ep, su, ma, ot, co, V1.map EkV.r, [tkM id ep ma]⟩)) := by
  have hd1 : decide ((n : Int) < (o : Int)) = true := by simp; omega
  have HL : Hid (V1.length = n) := hoL0.lg.2
  have hw := (New.refl w).alloc (.cells #[.int .i64 0, .int .i64 0, .bool false, .int .i64 0, .int .i64 0, .slice none 0 0, .int .i64 0, .int .i64 0, .int .i64 0, .int .i64 0, .slice none 0 0] 39)
  have bR := Blk.mk w w.heap.size 39 #[.int .i64 0, .int .i64 0, .bool false, .int .i64 0, .int .i64 0, .slice none 0 0, .int .i64 0, .int .i64 0, .int .i64 0, .int .i64 0, .slice none 0 0] rfl
  have hb0 := hb.new hw
  have hM0 := hM.new hw
  have hoL := (hoL0.new hw).up hw.size
  have hlt := hb.lt
  have hMt := hM.lt
  have s0 : Hid ((w.alloc (.cells #[.int .i64 0, .int .i64 0, .bool false, .int .i64 0, .int .i64 0, .slice none 0 0, .int .i64 0, .int .i64 0, .int .i64 0, .int .i64 0, .slice none 0 0] 39)).heap.size = w.heap.size + 1) := by unfold Hid; simp
  go_enter Try.func29, Try.ntmps29
  go_upto_region 1 with fail
  generalize w.alloc (.cells #[.int .i64 0, .int .i64 0, .bool false, .int .i64 0, .int .i64 0, .slice none 0 0, .int .i64 0, .int .i64 0, .int .i64 0, .int .i64 0, .slice none 0 0] 39) = w0 at *
  have S0 := s0.out
  go_wp2_with fail
  refine (active_no B id up ro ep su ma ot co A n c _ hb0 hr).mono ?_
  rintro e wz ⟨rfl, hwz⟩
  obtain rfl := hwz.symm
  go_upto_region 3 with fail
  refine hw_start (n := 20) (S := fun X => New w0 X) rfl (by kernel_rfl) ((New.refl _).drew) (fun hH => ?_)
  refine' hw_take 0 (some 10) _ rfl rfl (by kernel_rfl) (by kernel_rfl) (by kernel_rfl) (fun _ _ _ h => h) (by rfl) hH ?hy1 ?rest1
  case hy1 =>
    intro X hX
    go_simp
    try rfl
  simp only [Act.put, List.setIfInBounds_toArray, List.set_cons_zero, List.set_cons_succ]
  refine' hw_take 1 (some 11) _ rfl rfl (by kernel_rfl) (by kernel_rfl) (by kernel_rfl) (fun _ _ _ h => h) (by rfl) hH ?hy2 ?rest2
  case hy2 =>
    intro X hX
    go_simp
    try rfl
  simp only [Act.put, List.setIfInBounds_toArray, List.set_cons_zero, List.set_cons_succ]
  refine' hw_take 2 (some 12) _ rfl rfl (by kernel_rfl) (by kernel_rfl) (by kernel_rfl) (fun _ _ _ h => h) (by rfl) hH ?hy3 ?rest3
  case hy3 =>
    intro X hX
    go_simp
    try rfl
  simp only [Act.put, List.setIfInBounds_toArray, List.set_cons_zero, List.set_cons_succ]
  refine' hw_take 3 (some 13) _ rfl rfl (by kernel_rfl) (by kernel_rfl) (by kernel_rfl) (fun _ _ _ h => h) (by rfl) hH ?hy4 ?rest4
  case hy4 =>
    intro X hX
    have cX := (hM0.new hX).cells
    go_simp
    try rfl
  simp only [Act.put, List.setIfInBounds_toArray, List.set_cons_zero, List.set_cons_succ]
  refine' hw_take 4 (some 14) _ rfl rfl (by kernel_rfl) (by kernel_rfl) (by kernel_rfl) (fun _ _ _ h => h) (by rfl) hH ?hy5 ?rest5
  case hy5 =>
    intro X hX
    go_simp
    try rfl
  simp only [Act.put, List.setIfInBounds_toArray, List.set_cons_zero, List.set_cons_succ]
  refine hw_call 5 (some 15) rfl rfl (by kernel_rfl) (by rfl) (fun K hK => ?_)
  go_simp
  refine (count_any B id up ro ep su ma ot co A n c _ (hb0.new hH)).mono ?_
  rintro e wz ⟨rfl, hwz⟩
  subst hwz
  go_simp
  refine hK.out _ _ ((New.refl _).drew) (fun hH2 => ?_)
  simp only [Act.put, List.setIfInBounds_toArray, List.set_cons_zero, List.set_cons_succ]
  refine' hw_take 6 (some 16) (.bool true) rfl rfl (by kernel_rfl) (by kernel_rfl) (by kernel_rfl) (fun _ _ _ h => h) (by rfl) hH2 ?hyL ?restL
  case hyL =>
    intro X hX
    go_simp
    try rfl
  simp only [Act.put, List.setIfInBounds_toArray, List.set_cons_zero, List.set_cons_succ]
  refine' hw_take 7 (some 17) _ rfl rfl (by kernel_rfl) (by kernel_rfl) (by kernel_rfl) (fun _ _ _ h => h) (by rfl) hH2 ?hy6 ?rest6
  case hy6 =>
    intro X hX
    go_simp
    try rfl
  simp only [Act.put, List.setIfInBounds_toArray, List.set_cons_zero, List.set_cons_succ]
  refine hw_skip 8 (some 18) rfl rfl (by kernel_rfl) (by kernel_rfl) (by kernel_rfl) (fun _ _ _ h => h) (by rfl) hH2 ?_
  simp only [Act.put, List.setIfInBounds_toArray, List.set_cons_zero, List.set_cons_succ]
  refine hw_skip 9 (some 19) rfl rfl (by kernel_rfl) (by kernel_rfl) (by kernel_rfl) (fun _ _ _ h => h) (by rfl) hH2 ?_
  simp only [Act.put, List.setIfInBounds_toArray, List.set_cons_zero, List.set_cons_succ]
  refine hw_skip 10 (some 20) rfl rfl (by kernel_rfl) (by kernel_rfl) (by kernel_rfl) (fun _ _ _ h => h) (by rfl) hH2 ?_
  simp only [Act.put, List.setIfInBounds_toArray, List.set_cons_zero, List.set_cons_succ]
  refine hw_skip 11 (some 21) rfl rfl (by kernel_rfl) (by kernel_rfl) (by kernel_rfl) (fun _ _ _ h => h) (by rfl) hH2 ?_
  simp only [Act.put, List.setIfInBounds_toArray, List.set_cons_zero, List.set_cons_succ]
  refine hw_skip 12 (some 22) rfl rfl (by kernel_rfl) (by kernel_rfl) (by kernel_rfl) (fun _ _ _ h => h) (by rfl) hH2 ?_
  simp only [Act.put, List.setIfInBounds_toArray, List.set_cons_zero, List.set_cons_succ]
  refine hw_skip 13 (some 23) rfl rfl (by kernel_rfl) (by kernel_rfl) (by kernel_rfl) (fun _ _ _ h => h) (by rfl) hH2 ?_
  simp only [Act.put, List.setIfInBounds_toArray, List.set_cons_zero, List.set_cons_succ]
  refine hw_skip 14 (some 24) rfl rfl (by kernel_rfl) (by kernel_rfl) (by kernel_rfl) (fun _ _ _ h => h) (by rfl) hH2 ?_
  simp only [Act.put, List.setIfInBounds_toArray, List.set_cons_zero, List.set_cons_succ]
  refine hw_skip 15 (some 25) rfl rfl (by kernel_rfl) (by kernel_rfl) (by kernel_rfl) (fun _ _ _ h => h) (by rfl) hH2 ?_
  simp only [Act.put, List.setIfInBounds_toArray, List.set_cons_zero, List.set_cons_succ]
  refine hw_skip 16 (some 26) rfl rfl (by kernel_rfl) (by kernel_rfl) (by kernel_rfl) (fun _ _ _ h => h) (by rfl) hH2 ?_
  simp only [Act.put, List.setIfInBounds_toArray, List.set_cons_zero, List.set_cons_succ]
  refine hw_skip 17 (some 27) rfl rfl (by kernel_rfl) (by kernel_rfl) (by kernel_rfl) (fun _ _ _ h => h) (by rfl) hH2 ?_
  simp only [Act.put, List.setIfInBounds_toArray, List.set_cons_zero, List.set_cons_succ]
  refine hw_skip 18 (some 28) rfl rfl (by kernel_rfl) (by kernel_rfl) (by kernel_rfl) (fun _ _ _ h => h) (by rfl) hH2 ?_
  simp only [Act.put, List.setIfInBounds_toArray, List.set_cons_zero, List.set_cons_succ]
  refine' hw_take 19 (some 29) _ rfl rfl (by kernel_rfl) (by kernel_rfl) (by kernel_rfl) (fun _ _ _ h => h) (by rfl) hH2 ?hy7 ?rest7
  case hy7 =>
    intro X hX
    go_simp
    try rfl
  simp only [Act.put, List.setIfInBounds_toArray, List.set_cons_zero, List.set_cons_succ]
  refine wpAnyH_done (by kernel_rfl) ?_ _
  have hb1 := hb0.new hH2
  have hoL1 := hoL.new hH2
  have bR1 := bR.new hH2
  have hw1 := hw.trans hH2
  have zw1 : w0.heap.size ≤ w0.drew.heap.size := Nat.le_refl _
  clear hH hH2
  generalize w0.drew = w1 at *
  have tw1 : Turn (fun i => i = B ∨ (Value.slice A n c).ownBlock = some i) w w1 := hw1.turn
  go_upto_region 4 with fail
  refine hw_start (n := 12) (S := fun X => Turn (fun i => i = w.heap.size) w1 X) rfl (by kernel_rfl) (((New.refl _).drew).turn) (fun hH => ?_)
  refine' hw_take 0 (some 30) _ rfl rfl (by kernel_rfl) (by kernel_rfl) (by kernel_rfl) (fun _ _ _ h => h) (by rfl) hH ?hy8 ?rest8
  case hy8 =>
    intro X hX
    go_simp
    try rfl
  simp only [Act.put, List.setIfInBounds_toArray, List.set_cons_zero, List.set_cons_succ]
  refine' hw_take 1 (some 31) _ rfl rfl (by kernel_rfl) (by kernel_rfl) (by kernel_rfl) (fun _ _ _ h => h) (by rfl) hH ?hy9 ?rest9
  case hy9 =>
    intro X hX
    go_simp
    try rfl
  simp only [Act.put, List.setIfInBounds_toArray, List.set_cons_zero, List.set_cons_succ]
  refine' hw_take 2 (some 32) (.agg #[.int .i64 id, .bool up, .int .i64 ro, .int .i64 ep, .slice A n c, .int .i64 su, .int .i64 ma, .int .i64 ot, .int .i64 co]) rfl rfl (by kernel_rfl) (by kernel_rfl) (by kernel_rfl) (fun _ _ _ h => h) (by rfl) hH ?hyA4x10 ?restA4x10
  case hyA4x10 =>
    intro X hX
    exact run_load_blk 36 (.tmp 31) rfl B rfl #[.int .i64 id, .bool up, .int .i64 ro, .int .i64 ep, .slice A n c, .int .i64 su, .int .i64 ma, .int .i64 ot, .int .i64 co] _ (hb1.turn hX (by omega)) Try.underlying36 rfl (by kernel_rfl)
  simp only [Act.put, List.setIfInBounds_toArray, List.set_cons_zero, List.set_cons_succ]
  refine' hw_take 3 (some 33) _ rfl rfl (by kernel_rfl) (by kernel_rfl) (by kernel_rfl) (fun _ _ _ h => h) (by rfl) hH ?hy11 ?rest11
  case hy11 =>
    intro X hX
    go_simp
    try rfl
  simp only [Act.put, List.setIfInBounds_toArray, List.set_cons_zero, List.set_cons_succ]
  refine' hw_take 4 (some 34) _ rfl rfl (by kernel_rfl) (by kernel_rfl) (by kernel_rfl) (fun _ _ _ h => h) (by rfl) hH ?hy12 ?rest12
  case hy12 =>
    intro X hX
    go_simp
    try rfl
  simp only [Act.put, List.setIfInBounds_toArray, List.set_cons_zero, List.set_cons_succ]
  refine' hw_take 5 (some 35) _ rfl rfl (by kernel_rfl) (by kernel_rfl) (by kernel_rfl) (fun _ _ _ h => h) (by rfl) hH ?hy13 ?rest13
  case hy13 =>
    intro X hX
    go_simp
    try rfl
  simp only [Act.put, List.setIfInBounds_toArray, List.set_cons_zero, List.set_cons_succ]
  refine' hw_take 6 (some 36) _ rfl rfl (by kernel_rfl) (by kernel_rfl) (by kernel_rfl) (fun _ _ _ h => h) (by rfl) hH ?hy14 ?rest14
  case hy14 =>
    intro X hX
    go_simp
    try rfl
  simp only [Act.put, List.setIfInBounds_toArray, List.set_cons_zero, List.set_cons_succ]
  refine' hw_take 7 (some 37) _ rfl rfl (by kernel_rfl) (by kernel_rfl) (by kernel_rfl) (fun _ _ _ h => h) (by rfl) hH ?hy15 ?rest15
  case hy15 =>
    intro X hX
    have cX := (hb1.turn hX (by omega)).cells
    go_simp
    try rfl
  simp only [Act.put, List.setIfInBounds_toArray, List.set_cons_zero, List.set_cons_succ]
  refine hw_call 8 (some 38) rfl rfl (by kernel_rfl) (by rfl) (fun K hK => ?_)
  go_simp
  refine (mailAt_any 2 ma B id up ro ep su ma ot co A n c _ (hb1.turn hH (by omega)) hid).mono ?_
  rintro e w5 ⟨rfl, hn5⟩
  have t45 := Turn.trans hH hn5 (fun i _ f => f.elim)
  go_simp
  refine hK.out _ _ t45 (fun hH5 => ?_)
  simp only [Act.put, List.setIfInBounds_toArray, List.set_cons_zero, List.set_cons_succ]
  refine hw_call 9 (some 39) rfl rfl (by kernel_rfl) (by rfl) (fun K hK => ?_)
  go_simp
  have al6 := (New.refl w5).alloc (.cells #[.int .i64 2, .int .i64 (1 - id), .int .i64 ep, .int .i64 ma, .int .i64 0, .bool false, .int .i64 0, .int .i64 0, .int .i64 0, .slice none 0 0] 46)
  have bM := Blk.mk w5 w5.heap.size 46 #[.int .i64 2, .int .i64 (1 - id), .int .i64 ep, .int .i64 ma, .int .i64 0, .bool false, .int .i64 0, .int .i64 0, .int .i64 0, .slice none 0 0] rfl
  have t46 := Turn.trans t45 al6 (fun i _ f => f.elim)
  refine hK.out _ _ t46 (fun hH6 => ?_)
  simp only [Act.put, List.setIfInBounds_toArray, List.set_cons_zero, List.set_cons_succ]
  refine' hw_take 10 (some 40) _ rfl rfl (by kernel_rfl) (by kernel_rfl) (by kernel_rfl) (fun _ _ _ h => h) (by rfl) hH6 ?hy16 ?rest16
  case hy16 =>
    intro X hX
    go_simp
    try rfl
  simp only [Act.put, List.setIfInBounds_toArray, List.set_cons_zero, List.set_cons_succ]
  refine hw_call 11 none rfl rfl (by kernel_rfl) (by rfl) (fun K hK => ?_)
  have b16 : Blk (w5.alloc (.cells #[.int .i64 2, .int .i64 (1 - id), .int .i64 ep, .int .i64 ma, .int .i64 0, .bool false, .int .i64 0, .int .i64 0, .int .i64 0, .slice none 0 0] 46)) w.heap.size 39 #[.int .i64 0, .int .i64 0, .bool false, .int .i64 0, .int .i64 0, .slice none 0 0, .int .i64 0, .int .i64 0, .int .i64 0, .int .i64 0, .slice none 0 0] := ((bR1.new ((New.refl _).drew)).new hn5).new al6
  have ho6 := ((hoL1.new ((New.refl _).drew)).new hn5).new al6
  have tA6 := Turn.trans tw1 ((((New.refl _).drew).trans hn5).trans al6) (fun i _ f => f.elim)
  have z45 : w1.heap.size ≤ w5.heap.size := hn5.size
  have z6 := al6.size
  have zA : w.heap.size ≤ w1.heap.size := Turn.size tw1
  have l5 : w5.heap.size < (w5.alloc (.cells #[.int .i64 2, .int .i64 (1 - id), .int .i64 ep, .int .i64 ma, .int .i64 0, .bool false, .int .i64 0, .int .i64 0, .int .i64 0, .slice none 0 0] 46)).heap.size := bM.lt
  have lR : w.heap.size < w1.heap.size := bR1.lt
  refine hw_store 39 (.tmp 4) (.tmp 40) rfl rfl w.heap.size #[.int .i64 0, .int .i64 id, .bool up, .int .i64 ro, .int .i64 ep, .slice A n c, .int .i64 su, .int .i64 ma, .int .i64 ot, .int .i64 co, .slice (some ⟨w5.heap.size, 0, none⟩) 1 1] #[.int .i64 0, .int .i64 0, .bool false, .int .i64 0, .int .i64 0, .slice none 0 0, .int .i64 0, .int .i64 0, .int .i64 0, .int .i64 0, .slice none 0 0] rfl rfl b16 (by kernel_rfl) rfl (by kernel_rfl) ?_
  generalize w5.alloc (.cells #[.int .i64 2, .int .i64 (1 - id), .int .i64 ep, .int .i64 ma, .int .i64 0, .bool false, .int .i64 0, .int .i64 0, .int .i64 0, .slice none 0 0] 46) = w6 at *
  have tR := Turn.rowW (Turn.refl (fun i => i = w.heap.size) w6) rfl #[.int .i64 0, .int .i64 id, .bool up, .int .i64 ro, .int .i64 ep, .slice A n c, .int .i64 su, .int .i64 ma, .int .i64 ot, .int .i64 co, .slice (some ⟨w5.heap.size, 0, none⟩) 1 1]
  have bRR := b16.rowW #[.int .i64 0, .int .i64 id, .bool up, .int .i64 ro, .int .i64 ep, .slice A n c, .int .i64 su, .int .i64 ma, .int .i64 ot, .int .i64 co, .slice (some ⟨w5.heap.size, 0, none⟩) 1 1]
  have hoR := ho6.turnB b16 (by decide) (by decide) tR
  have bMR := bM.turn tR (by omega)
  have tF := Turn.trans tA6 tR (fun i hi e => by omega)
  have zR := tR.size
  refine hK.out undef _ (Turn.trans hH6 tR (fun i _ e => e)) (fun hS2 => ?_)
  refine wpAnyH_done (by kernel_rfl) ?_ _
  generalize World.setRow _ _ _ = wR at *
  go_wp2
  all_goals exact bodyPost_ret (results_row1 rfl rfl bRR ⟨_, Try.underlying39⟩ (by kernel_rfl)) rfl (haAns_mk (U := V1) (Ms := [mlv0 2 (1 - id) ep ma]) (by simp [HL.out]) rfl rfl rfl (NrOw.one (lo := lo) (hi := w1.heap.size) (hoR.up (by omega)) (Nat.le_refl _) (by omega) (row_of_blk bMR rfl) (by omega) (by omega) (by omega)) tF)

set_option maxHeartbeats 3200000 in
theorem ha_prev (B MB lo o : Nat) (id : Int) (up : Bool) (ro ep su ma ot co : Int) (A : Option Addr) (n c : Nat) (V1 : List EkV) (kd tgt me pr : Int) (has : Bool) (e1 k1 p1 : Int) (x : Option Addr) (m d : Nat) (xs : List Int) (wb w : World) (hb : Blk w B 36 #[.int .i64 id, .bool up, .int .i64 ro, .int .i64 ep, .slice A n c, .int .i64 su, .int .i64 ma, .int .i64 ot, .int .i64 co]) (hM : Blk w MB 46 #[.int .i64 kd, .int .i64 tgt, .int .i64 me, .int .i64 (o : Int), .int .i64 pr, .bool has, .int .i64 e1, .int .i64 k1, .int .i64 p1, .slice x m d]) (hoL0 : OwL w lo w.heap.size (.slice A n c) V1) (hlo0 : lo ≤ w.heap.size) (hMlo : MB < lo) (hlB : lo ≤ B) (hid : id = 0 ∨ id = 1) (hn : n ≤ 100) (hr : ¬ ro = 1) (ho : o ≤ n) (q : Int) (hq : prevE (V1.map EkV.r) o = q) (hp : ¬ q = pr) :
    Calls Try.prog 29 #[.pointer (some ⟨B, 0, none⟩), .pointer (some ⟨MB, 0, none⟩)] w (HaAns w lo B A n c (⟨0, id, up, ro, ep, su, ma, ot, co, V1.map EkV.r, [tkM id ep ma]⟩)) := by
  have hd1 : decide ((n : Int) < (o : Int)) = false := by simp; omega
  have hd2 : (q != pr) = true := by simp [hp]
  have HQ : Hid (prevE (V1.map EkV.r) o = q) := hq
  clear hq
  have HL : Hid (V1.length = n) := hoL0.lg.2
  have hw := (New.refl w).alloc (.cells #[.int .i64 0, .int .i64 0, .bool false, .int .i64 0, .int .i64 0, .slice none 0 0, .int .i64 0, .int .i64 0, .int .i64 0, .int .i64 0, .slice none 0 0] 39)
  have bR := Blk.mk w w.heap.size 39 #[.int .i64 0, .int .i64 0, .bool false, .int .i64 0, .int .i64 0, .slice none 0 0, .int .i64 0, .int .i64 0, .int .i64 0, .int .i64 0, .slice none 0 0] rfl
  have hb0 := hb.new hw
  have hM0 := hM.new hw
  have hoL := (hoL0.new hw).up hw.size
  have hlt := hb.lt
  have hMt := hM.lt
  have s0 : Hid ((w.alloc (.cells #[.int .i64 0, .int .i64 0, .bool false, .int .i64 0, .int .i64 0, .slice none 0 0, .int .i64 0, .int .i64 0, .int .i64 0, .int .i64 0, .slice none 0 0] 39)).heap.size = w.heap.size + 1) := by unfold Hid; simp
  go_enter Try.func29, Try.ntmps29
  go_upto_region 1 with fail
  generalize w.alloc (.cells #[.int .i64 0, .int .i64 0, .bool false, .int .i64 0, .int .i64 0, .slice none 0 0, .int .i64 0, .int .i64 0, .int .i64 0, .int .i64 0, .slice none 0 0] 39) = w0 at *
  have S0 := s0.out
  go_wp2_with fail
  refine (active_no B id up ro ep su ma ot co A n c _ hb0 hr).mono ?_
  rintro e wz ⟨rfl, hwz⟩
  obtain rfl := hwz.symm
  go_upto_region 3 with fail
  refine hw_start (n := 20) (S := fun X => New w0 X) rfl (by kernel_rfl) ((New.refl _).drew) (fun hH => ?_)
  refine' hw_take 0 (some 10) _ rfl rfl (by kernel_rfl) (by kernel_rfl) (by kernel_rfl) (fun _ _ _ h => h) (by rfl) hH ?hy17 ?rest17
  case hy17 =>
    intro X hX
    go_simp
    try rfl
  simp only [Act.put, List.setIfInBounds_toArray, List.set_cons_zero, List.set_cons_succ]
  refine' hw_take 1 (some 11) _ rfl rfl (by kernel_rfl) (by kernel_rfl) (by kernel_rfl) (fun _ _ _ h => h) (by rfl) hH ?hy18 ?rest18
  case hy18 =>
    intro X hX
    go_simp
    try rfl
  simp only [Act.put, List.setIfInBounds_toArray, List.set_cons_zero, List.set_cons_succ]
  refine' hw_take 2 (some 12) _ rfl rfl (by kernel_rfl) (by kernel_rfl) (by kernel_rfl) (fun _ _ _ h => h) (by rfl) hH ?hy19 ?rest19
  case hy19 =>
    intro X hX
    go_simp
    try rfl
  simp only [Act.put, List.setIfInBounds_toArray, List.set_cons_zero, List.set_cons_succ]
  refine' hw_take 3 (some 13) _ rfl rfl (by kernel_rfl) (by kernel_rfl) (by kernel_rfl) (fun _ _ _ h => h) (by rfl) hH ?hy20 ?rest20
  case hy20 =>
    intro X hX
    have cX := (hM0.new hX).cells
    go_simp
    try rfl
  simp only [Act.put, List.setIfInBounds_toArray, List.set_cons_zero, List.set_cons_succ]
  refine' hw_take 4 (some 14) _ rfl rfl (by kernel_rfl) (by kernel_rfl) (by kernel_rfl) (fun _ _ _ h => h) (by rfl) hH ?hy21 ?rest21
  case hy21 =>
    intro X hX
    go_simp
    try rfl
  simp only [Act.put, List.setIfInBounds_toArray, List.set_cons_zero, List.set_cons_succ]
  refine hw_call 5 (some 15) rfl rfl (by kernel_rfl) (by rfl) (fun K hK => ?_)
  go_simp
  refine (count_any B id up ro ep su ma ot co A n c _ (hb0.new hH)).mono ?_
  rintro e wz ⟨rfl, hwz⟩
  subst hwz
  go_simp
  refine hK.out _ _ ((New.refl _).drew) (fun hH2 => ?_)
  simp only [Act.put, List.setIfInBounds_toArray, List.set_cons_zero, List.set_cons_succ]
  refine' hw_take 6 (some 16) (.bool false) rfl rfl (by kernel_rfl) (by kernel_rfl) (by kernel_rfl) (fun _ _ _ h => h) (by rfl) hH2 ?hyL6 ?restL6
  case hyL6 =>
    intro X hX
    go_simp
    try rfl
  simp only [Act.put, List.setIfInBounds_toArray, List.set_cons_zero, List.set_cons_succ]
  refine' hw_take 7 (some 17) _ rfl rfl (by kernel_rfl) (by kernel_rfl) (by kernel_rfl) (fun _ _ _ h => h) (by rfl) hH2 ?hy22 ?rest22
  case hy22 =>
    intro X hX
    go_simp
    try rfl
  simp only [Act.put, List.setIfInBounds_toArray, List.set_cons_zero, List.set_cons_succ]
  refine' hw_take 8 (some 18) _ rfl rfl (by kernel_rfl) (by kernel_rfl) (by kernel_rfl) (fun _ _ _ h => h) (by rfl) hH2 ?hy23 ?rest23
  case hy23 =>
    intro X hX
    go_simp
    try rfl
  simp only [Act.put, List.setIfInBounds_toArray, List.set_cons_zero, List.set_cons_succ]
  refine' hw_take 9 (some 19) _ rfl rfl (by kernel_rfl) (by kernel_rfl) (by kernel_rfl) (fun _ _ _ h => h) (by rfl) hH2 ?hy24 ?rest24
  case hy24 =>
    intro X hX
    go_simp
    try rfl
  simp only [Act.put, List.setIfInBounds_toArray, List.set_cons_zero, List.set_cons_succ]
  refine' hw_take 10 (some 20) _ rfl rfl (by kernel_rfl) (by kernel_rfl) (by kernel_rfl) (fun _ _ _ h => h) (by rfl) hH2 ?hy25 ?rest25
  case hy25 =>
    intro X hX
    go_simp
    try rfl
  simp only [Act.put, List.setIfInBounds_toArray, List.set_cons_zero, List.set_cons_succ]
  refine' hw_take 11 (some 21) _ rfl rfl (by kernel_rfl) (by kernel_rfl) (by kernel_rfl) (fun _ _ _ h => h) (by rfl) hH2 ?hy26 ?rest26
  case hy26 =>
    intro X hX
    go_simp
    try rfl
  simp only [Act.put, List.setIfInBounds_toArray, List.set_cons_zero, List.set_cons_succ]
  refine' hw_take 12 (some 22) _ rfl rfl (by kernel_rfl) (by kernel_rfl) (by kernel_rfl) (fun _ _ _ h => h) (by rfl) hH2 ?hy27 ?rest27
  case hy27 =>
    intro X hX
    have cX := (hM0.new hX).cells
    go_simp
    try rfl
  simp only [Act.put, List.setIfInBounds_toArray, List.set_cons_zero, List.set_cons_succ]
  refine' hw_take 14 (some 24) _ rfl rfl (by kernel_rfl) (by kernel_rfl) (by kernel_rfl) (fun _ _ _ h => h) (by rfl) hH2 ?hy28 ?rest28
  case hy28 =>
    intro X hX
    go_simp
    try rfl
  simp only [Act.put, List.setIfInBounds_toArray, List.set_cons_zero, List.set_cons_succ]
  refine' hw_take 15 (some 25) _ rfl rfl (by kernel_rfl) (by kernel_rfl) (by kernel_rfl) (fun _ _ _ h => h) (by rfl) hH2 ?hy29 ?rest29
  case hy29 =>
    intro X hX
    go_simp
    try rfl
  simp only [Act.put, List.setIfInBounds_toArray, List.set_cons_zero, List.set_cons_succ]
  refine' hw_take 16 (some 26) _ rfl rfl (by kernel_rfl) (by kernel_rfl) (by kernel_rfl) (fun _ _ _ h => h) (by rfl) hH2 ?hy30 ?rest30
  case hy30 =>
    intro X hX
    go_simp
    try rfl
  simp only [Act.put, List.setIfInBounds_toArray, List.set_cons_zero, List.set_cons_succ]
  refine' hw_take 17 (some 27) _ rfl rfl (by kernel_rfl) (by kernel_rfl) (by kernel_rfl) (fun _ _ _ h => h) (by rfl) hH2 ?hy31 ?rest31
  case hy31 =>
    intro X hX
    have cX := (hM0.new hX).cells
    go_simp
    try rfl
  simp only [Act.put, List.setIfInBounds_toArray, List.set_cons_zero, List.set_cons_succ]
  refine hw_call 13 (some 23) rfl rfl (by kernel_rfl) (by rfl) (fun K hK => ?_)
  go_simp
  refine (eahead_any o B id up ro ep su ma ot co A n c V1 _ (hb0.new hH2) (hoL.lg.1.new hH2) HL.out (by omega) ho).mono ?_
  rintro e wz ⟨rfl, hwz⟩
  subst hwz
  rw [HQ.out]
  go_simp
  refine hK.out _ _ ((New.refl _).drew) (fun hH3 => ?_)
  simp only [Act.put, List.setIfInBounds_toArray, List.set_cons_zero, List.set_cons_succ]
  refine' hw_take 18 (some 28) (.bool true) rfl rfl (by kernel_rfl) (by kernel_rfl) (by kernel_rfl) (fun _ _ _ h => h) (by rfl) hH3 ?hyL18 ?restL18
  case hyL18 =>
    intro X hX
    go_simp
    try rfl
  simp only [Act.put, List.setIfInBounds_toArray, List.set_cons_zero, List.set_cons_succ]
  refine' hw_take 19 (some 29) _ rfl rfl (by kernel_rfl) (by kernel_rfl) (by kernel_rfl) (fun _ _ _ h => h) (by rfl) hH3 ?hy32 ?rest32
  case hy32 =>
    intro X hX
    go_simp
    try rfl
  simp only [Act.put, List.setIfInBounds_toArray, List.set_cons_zero, List.set_cons_succ]
  refine wpAnyH_done (by kernel_rfl) ?_ _
  have hb1 := hb0.new hH3
  have hM1 := hM0.new hH3
  have hoL1 := hoL.new hH3
  have bR1 := bR.new hH3
  have hw1 := hw.trans hH3
  have HZ : Hid (w0.drew.heap.size = w0.heap.size) := rfl
  have zw1 : w0.heap.size ≤ w0.drew.heap.size := Nat.le_refl _
  clear hH hH2 hH3
  generalize w0.drew = w1 at *
  have tw1 : Turn (fun i => i = B ∨ (Value.slice A n c).ownBlock = some i) w w1 := hw1.turn
  go_upto_region 4 with fail
  refine hw_start (n := 12) (S := fun X => Turn (fun i => i = w.heap.size) w1 X) rfl (by kernel_rfl) (((New.refl _).drew).turn) (fun hH => ?_)
  refine' hw_take 0 (some 30) _ rfl rfl (by kernel_rfl) (by kernel_rfl) (by kernel_rfl) (fun _ _ _ h => h) (by rfl) hH ?hy33 ?rest33
  case hy33 =>
    intro X hX
    go_simp
    try rfl
  simp only [Act.put, List.setIfInBounds_toArray, List.set_cons_zero, List.set_cons_succ]
  refine' hw_take 1 (some 31) _ rfl rfl (by kernel_rfl) (by kernel_rfl) (by kernel_rfl) (fun _ _ _ h => h) (by rfl) hH ?hy34 ?rest34
  case hy34 =>
    intro X hX
    go_simp
    try rfl
  simp only [Act.put, List.setIfInBounds_toArray, List.set_cons_zero, List.set_cons_succ]
  refine' hw_take 2 (some 32) (.agg #[.int .i64 id, .bool up, .int .i64 ro, .int .i64 ep, .slice A n c, .int .i64 su, .int .i64 ma, .int .i64 ot, .int .i64 co]) rfl rfl (by kernel_rfl) (by kernel_rfl) (by kernel_rfl) (fun _ _ _ h => h) (by rfl) hH ?hyA4x35 ?restA4x35
  case hyA4x35 =>
    intro X hX
    exact run_load_blk 36 (.tmp 31) rfl B rfl #[.int .i64 id, .bool up, .int .i64 ro, .int .i64 ep, .slice A n c, .int .i64 su, .int .i64 ma, .int .i64 ot, .int .i64 co] _ (hb1.turn hX (by omega)) Try.underlying36 rfl (by kernel_rfl)
  simp only [Act.put, List.setIfInBounds_toArray, List.set_cons_zero, List.set_cons_succ]
  refine' hw_take 3 (some 33) _ rfl rfl (by kernel_rfl) (by kernel_rfl) (by kernel_rfl) (fun _ _ _ h => h) (by rfl) hH ?hy36 ?rest36
  case hy36 =>
    intro X hX
    go_simp
    try rfl
  simp only [Act.put, List.setIfInBounds_toArray, List.set_cons_zero, List.set_cons_succ]
  refine' hw_take 4 (some 34) _ rfl rfl (by kernel_rfl) (by kernel_rfl) (by kernel_rfl) (fun _ _ _ h => h) (by rfl) hH ?hy37 ?rest37
  case hy37 =>
    intro X hX
    go_simp
    try rfl
  simp only [Act.put, List.setIfInBounds_toArray, List.set_cons_zero, List.set_cons_succ]
  refine' hw_take 5 (some 35) _ rfl rfl (by kernel_rfl) (by kernel_rfl) (by kernel_rfl) (fun _ _ _ h => h) (by rfl) hH ?hy38 ?rest38
  case hy38 =>
    intro X hX
    go_simp
    try rfl
  simp only [Act.put, List.setIfInBounds_toArray, List.set_cons_zero, List.set_cons_succ]
  refine' hw_take 6 (some 36) _ rfl rfl (by kernel_rfl) (by kernel_rfl) (by kernel_rfl) (fun _ _ _ h => h) (by rfl) hH ?hy39 ?rest39
  case hy39 =>
    intro X hX
    go_simp
    try rfl
  simp only [Act.put, List.setIfInBounds_toArray, List.set_cons_zero, List.set_cons_succ]
  refine' hw_take 7 (some 37) _ rfl rfl (by kernel_rfl) (by kernel_rfl) (by kernel_rfl) (fun _ _ _ h => h) (by rfl) hH ?hy40 ?rest40
  case hy40 =>
    intro X hX
    have cX := (hb1.turn hX (by omega)).cells
    go_simp
    try rfl
  simp only [Act.put, List.setIfInBounds_toArray, List.set_cons_zero, List.set_cons_succ]
  refine hw_call 8 (some 38) rfl rfl (by kernel_rfl) (by rfl) (fun K hK => ?_)
  go_simp
  refine (mailAt_any 2 ma B id up ro ep su ma ot co A n c _ (hb1.turn hH (by omega)) hid).mono ?_
  rintro e w5 ⟨rfl, hn5⟩
  have t45 := Turn.trans hH hn5 (fun i _ f => f.elim)
  go_simp
  refine hK.out _ _ t45 (fun hH5 => ?_)
  simp only [Act.put, List.setIfInBounds_toArray, List.set_cons_zero, List.set_cons_succ]
  refine hw_call 9 (some 39) rfl rfl (by kernel_rfl) (by rfl) (fun K hK => ?_)
  go_simp
  have al6 := (New.refl w5).alloc (.cells #[.int .i64 2, .int .i64 (1 - id), .int .i64 ep, .int .i64 ma, .int .i64 0, .bool false, .int .i64 0, .int .i64 0, .int .i64 0, .slice none 0 0] 46)
  have bM := Blk.mk w5 w5.heap.size 46 #[.int .i64 2, .int .i64 (1 - id), .int .i64 ep, .int .i64 ma, .int .i64 0, .bool false, .int .i64 0, .int .i64 0, .int .i64 0, .slice none 0 0] rfl
  have t46 := Turn.trans t45 al6 (fun i _ f => f.elim)
  refine hK.out _ _ t46 (fun hH6 => ?_)
  simp only [Act.put, List.setIfInBounds_toArray, List.set_cons_zero, List.set_cons_succ]
  refine' hw_take 10 (some 40) _ rfl rfl (by kernel_rfl) (by kernel_rfl) (by kernel_rfl) (fun _ _ _ h => h) (by rfl) hH6 ?hy41 ?rest41
  case hy41 =>
    intro X hX
    go_simp
    try rfl
  simp only [Act.put, List.setIfInBounds_toArray, List.set_cons_zero, List.set_cons_succ]
  refine hw_call 11 none rfl rfl (by kernel_rfl) (by rfl) (fun K hK => ?_)
  have b16 : Blk (w5.alloc (.cells #[.int .i64 2, .int .i64 (1 - id), .int .i64 ep, .int .i64 ma, .int .i64 0, .bool false, .int .i64 0, .int .i64 0, .int .i64 0, .slice none 0 0] 46)) w.heap.size 39 #[.int .i64 0, .int .i64 0, .bool false, .int .i64 0, .int .i64 0, .slice none 0 0, .int .i64 0, .int .i64 0, .int .i64 0, .int .i64 0, .slice none 0 0] := ((bR1.new ((New.refl _).drew)).new hn5).new al6
  have ho6 := ((hoL1.new ((New.refl _).drew)).new hn5).new al6
  have tA6 := Turn.trans tw1 ((((New.refl _).drew).trans hn5).trans al6) (fun i _ f => f.elim)
  have z45 : w1.heap.size ≤ w5.heap.size := hn5.size
  have z6 := al6.size
  have zA : w.heap.size ≤ w1.heap.size := Turn.size tw1
  have l5 : w5.heap.size < (w5.alloc (.cells #[.int .i64 2, .int .i64 (1 - id), .int .i64 ep, .int .i64 ma, .int .i64 0, .bool false, .int .i64 0, .int .i64 0, .int .i64 0, .slice none 0 0] 46)).heap.size := bM.lt
  have lR : w.heap.size < w1.heap.size := bR1.lt
  refine hw_store 39 (.tmp 4) (.tmp 40) rfl rfl w.heap.size #[.int .i64 0, .int .i64 id, .bool up, .int .i64 ro, .int .i64 ep, .slice A n c, .int .i64 su, .int .i64 ma, .int .i64 ot, .int .i64 co, .slice (some ⟨w5.heap.size, 0, none⟩) 1 1] #[.int .i64 0, .int .i64 0, .bool false, .int .i64 0, .int .i64 0, .slice none 0 0, .int .i64 0, .int .i64 0, .int .i64 0, .int .i64 0, .slice none 0 0] rfl rfl b16 (by kernel_rfl) rfl (by kernel_rfl) ?_
  generalize w5.alloc (.cells #[.int .i64 2, .int .i64 (1 - id), .int .i64 ep, .int .i64 ma, .int .i64 0, .bool false, .int .i64 0, .int .i64 0, .int .i64 0, .slice none 0 0] 46) = w6 at *
  have tR := Turn.rowW (Turn.refl (fun i => i = w.heap.size) w6) rfl #[.int .i64 0, .int .i64 id, .bool up, .int .i64 ro, .int .i64 ep, .slice A n c, .int .i64 su, .int .i64 ma, .int .i64 ot, .int .i64 co, .slice (some ⟨w5.heap.size, 0, none⟩) 1 1]
  have bRR := b16.rowW #[.int .i64 0, .int .i64 id, .bool up, .int .i64 ro, .int .i64 ep, .slice A n c, .int .i64 su, .int .i64 ma, .int .i64 ot, .int .i64 co, .slice (some ⟨w5.heap.size, 0, none⟩) 1 1]
  have hoR := ho6.turnB b16 (by decide) (by decide) tR
  have bMR := bM.turn tR (by omega)
  have tF := Turn.trans tA6 tR (fun i hi e => by omega)
  have zR := tR.size
  refine hK.out undef _ (Turn.trans hH6 tR (fun i _ e => e)) (fun hS2 => ?_)
  refine wpAnyH_done (by kernel_rfl) ?_ _
  generalize World.setRow _ _ _ = wR at *
  go_wp2
  all_goals exact bodyPost_ret (results_row1 rfl rfl bRR ⟨_, Try.underlying39⟩ (by kernel_rfl)) rfl (haAns_mk (U := V1) (Ms := [mlv0 2 (1 - id) ep ma]) (by simp [HL.out]) rfl rfl rfl (NrOw.one (lo := lo) (hi := w1.heap.size) (hoR.up (by omega)) (Nat.le_refl _) (by omega) (row_of_blk bMR rfl) (by omega) (by omega) (by omega)) tF)

set_option maxHeartbeats 3200000 in
theorem ha_no (B MB lo o : Nat) (id : Int) (up : Bool) (ro ep su ma ot co : Int) (A : Option Addr) (n c : Nat) (V1 : List EkV) (kd tgt me pr : Int) (e1 k1 p1 : Int) (x : Option Addr) (m d : Nat) (xs : List Int) (wb w : World) (hb : Blk w B 36 #[.int .i64 id, .bool up, .int .i64 ro, .int .i64 ep, .slice A n c, .int .i64 su, .int .i64 ma, .int .i64 ot, .int .i64 co]) (hM : Blk w MB 46 #[.int .i64 kd, .int .i64 tgt, .int .i64 me, .int .i64 (o : Int), .int .i64 pr, .bool false, .int .i64 e1, .int .i64 k1, .int .i64 p1, .slice x m d]) (hoL0 : OwL w lo w.heap.size (.slice A n c) V1) (hlo0 : lo ≤ w.heap.size) (hMlo : MB < lo) (hlB : lo ≤ B) (hid : id = 0 ∨ id = 1) (hn : n ≤ 100) (hr : ¬ ro = 1) (ho : o ≤ n) (hq : prevE (V1.map EkV.r) o = pr) (hma : 0 ≤ ma ∧ ma ≤ n) :
    Calls Try.prog 29 #[.pointer (some ⟨B, 0, none⟩), .pointer (some ⟨MB, 0, none⟩)] w (HaAns w lo B A n c (⟨0, id, up, ro, ep, su, max ma o, ot, co, V1.map EkV.r, [tkM id ep (min (max ma o) su)]⟩)) := by
  have hd1 : decide ((n : Int) < (o : Int)) = false := by simp; omega
  have hd2 : (pr != pr) = false := by simp
  have HQ : Hid (prevE (V1.map EkV.r) o = pr) := hq
  clear hq
  have HTG : Hid ((if (n : Int) < (if ma < (o : Int) then (o : Int) else ma) then (n : Int) else (if ma < (o : Int) then (o : Int) else ma)) = (max ma (o : Int))) := by unfold Hid; split <;> split <;> omega
  have HL : Hid (V1.length = n) := hoL0.lg.2
  have hw := (New.refl w).alloc (.cells #[.int .i64 0, .int .i64 0, .bool false, .int .i64 0, .int .i64 0, .slice none 0 0, .int .i64 0, .int .i64 0, .int .i64 0, .int .i64 0, .slice none 0 0] 39)
  have bR := Blk.mk w w.heap.size 39 #[.int .i64 0, .int .i64 0, .bool false, .int .i64 0, .int .i64 0, .slice none 0 0, .int .i64 0, .int .i64 0, .int .i64 0, .int .i64 0, .slice none 0 0] rfl
  have hb0 := hb.new hw
  have hM0 := hM.new hw
  have hoL := (hoL0.new hw).up hw.size
  have hlt := hb.lt
  have hMt := hM.lt
  have s0 : Hid ((w.alloc (.cells #[.int .i64 0, .int .i64 0, .bool false, .int .i64 0, .int .i64 0, .slice none 0 0, .int .i64 0, .int .i64 0, .int .i64 0, .int .i64 0, .slice none 0 0] 39)).heap.size = w.heap.size + 1) := by unfold Hid; simp
  go_enter Try.func29, Try.ntmps29
  go_upto_region 1 with fail
  generalize w.alloc (.cells #[.int .i64 0, .int .i64 0, .bool false, .int .i64 0, .int .i64 0, .slice none 0 0, .int .i64 0, .int .i64 0, .int .i64 0, .int .i64 0, .slice none 0 0] 39) = w0 at *
  have S0 := s0.out
  go_wp2_with fail
  refine (active_no B id up ro ep su ma ot co A n c _ hb0 hr).mono ?_
  rintro e wz ⟨rfl, hwz⟩
  obtain rfl := hwz.symm
  go_upto_region 3 with fail
  refine hw_start (n := 20) (S := fun X => New w0 X) rfl (by kernel_rfl) ((New.refl _).drew) (fun hH => ?_)
  refine' hw_take 0 (some 10) _ rfl rfl (by kernel_rfl) (by kernel_rfl) (by kernel_rfl) (fun _ _ _ h => h) (by rfl) hH ?hy42 ?rest42
  case hy42 =>
    intro X hX
    go_simp
    try rfl
  simp only [Act.put, List.setIfInBounds_toArray, List.set_cons_zero, List.set_cons_succ]
  refine' hw_take 1 (some 11) _ rfl rfl (by kernel_rfl) (by kernel_rfl) (by kernel_rfl) (fun _ _ _ h => h) (by rfl) hH ?hy43 ?rest43
  case hy43 =>
    intro X hX
    go_simp
    try rfl
  simp only [Act.put, List.setIfInBounds_toArray, List.set_cons_zero, List.set_cons_succ]
  refine' hw_take 2 (some 12) _ rfl rfl (by kernel_rfl) (by kernel_rfl) (by kernel_rfl) (fun _ _ _ h => h) (by rfl) hH ?hy44 ?rest44
  case hy44 =>
    intro X hX
    go_simp
    try rfl
  simp only [Act.put, List.setIfInBounds_toArray, List.set_cons_zero, List.set_cons_succ]
  refine' hw_take 3 (some 13) _ rfl rfl (by kernel_rfl) (by kernel_rfl) (by kernel_rfl) (fun _ _ _ h => h) (by rfl) hH ?hy45 ?rest45
  case hy45 =>
    intro X hX
    have cX := (hM0.new hX).cells
    go_simp
    try rfl
  simp only [Act.put, List.setIfInBounds_toArray, List.set_cons_zero, List.set_cons_succ]
  refine' hw_take 4 (some 14) _ rfl rfl (by kernel_rfl) (by kernel_rfl) (by kernel_rfl) (fun _ _ _ h => h) (by rfl) hH ?hy46 ?rest46
  case hy46 =>
    intro X hX
    go_simp
    try rfl
  simp only [Act.put, List.setIfInBounds_toArray, List.set_cons_zero, List.set_cons_succ]
  refine hw_call 5 (some 15) rfl rfl (by kernel_rfl) (by rfl) (fun K hK => ?_)
  go_simp
  refine (count_any B id up ro ep su ma ot co A n c _ (hb0.new hH)).mono ?_
  rintro e wz ⟨rfl, hwz⟩
  subst hwz
  go_simp
  refine hK.out _ _ ((New.refl _).drew) (fun hH2 => ?_)
  simp only [Act.put, List.setIfInBounds_toArray, List.set_cons_zero, List.set_cons_succ]
  refine' hw_take 6 (some 16) (.bool false) rfl rfl (by kernel_rfl) (by kernel_rfl) (by kernel_rfl) (fun _ _ _ h => h) (by rfl) hH2 ?hyL6 ?restL6
  case hyL6 =>
    intro X hX
    go_simp
    try rfl
  simp only [Act.put, List.setIfInBounds_toArray, List.set_cons_zero, List.set_cons_succ]
  refine' hw_take 7 (some 17) _ rfl rfl (by kernel_rfl) (by kernel_rfl) (by kernel_rfl) (fun _ _ _ h => h) (by rfl) hH2 ?hy47 ?rest47
  case hy47 =>
    intro X hX
    go_simp
    try rfl
  simp only [Act.put, List.setIfInBounds_toArray, List.set_cons_zero, List.set_cons_succ]
  refine' hw_take 8 (some 18) _ rfl rfl (by kernel_rfl) (by kernel_rfl) (by kernel_rfl) (fun _ _ _ h => h) (by rfl) hH2 ?hy48 ?rest48
  case hy48 =>
    intro X hX
    go_simp
    try rfl
  simp only [Act.put, List.setIfInBounds_toArray, List.set_cons_zero, List.set_cons_succ]
  refine' hw_take 9 (some 19) _ rfl rfl (by kernel_rfl) (by kernel_rfl) (by kernel_rfl) (fun _ _ _ h => h) (by rfl) hH2 ?hy49 ?rest49
  case hy49 =>
    intro X hX
    go_simp
    try rfl
  simp only [Act.put, List.setIfInBounds_toArray, List.set_cons_zero, List.set_cons_succ]
  refine' hw_take 10 (some 20) _ rfl rfl (by kernel_rfl) (by kernel_rfl) (by kernel_rfl) (fun _ _ _ h => h) (by rfl) hH2 ?hy50 ?rest50
  case hy50 =>
    intro X hX
    go_simp
    try rfl
  simp only [Act.put, List.setIfInBounds_toArray, List.set_cons_zero, List.set_cons_succ]
  refine' hw_take 11 (some 21) _ rfl rfl (by kernel_rfl) (by kernel_rfl) (by kernel_rfl) (fun _ _ _ h => h) (by rfl) hH2 ?hy51 ?rest51
  case hy51 =>
    intro X hX
    go_simp
    try rfl
  simp only [Act.put, List.setIfInBounds_toArray, List.set_cons_zero, List.set_cons_succ]
  refine' hw_take 12 (some 22) _ rfl rfl (by kernel_rfl) (by kernel_rfl) (by kernel_rfl) (fun _ _ _ h => h) (by rfl) hH2 ?hy52 ?rest52
  case hy52 =>
    intro X hX
    have cX := (hM0.new hX).cells
    go_simp
    try rfl
  simp only [Act.put, List.setIfInBounds_toArray, List.set_cons_zero, List.set_cons_succ]
  refine' hw_take 14 (some 24) _ rfl rfl (by kernel_rfl) (by kernel_rfl) (by kernel_rfl) (fun _ _ _ h => h) (by rfl) hH2 ?hy53 ?rest53
  case hy53 =>
    intro X hX
    go_simp
    try rfl
  simp only [Act.put, List.setIfInBounds_toArray, List.set_cons_zero, List.set_cons_succ]
  refine' hw_take 15 (some 25) _ rfl rfl (by kernel_rfl) (by kernel_rfl) (by kernel_rfl) (fun _ _ _ h => h) (by rfl) hH2 ?hy54 ?rest54
  case hy54 =>
    intro X hX
    go_simp
    try rfl
  simp only [Act.put, List.setIfInBounds_toArray, List.set_cons_zero, List.set_cons_succ]
  refine' hw_take 16 (some 26) _ rfl rfl (by kernel_rfl) (by kernel_rfl) (by kernel_rfl) (fun _ _ _ h => h) (by rfl) hH2 ?hy55 ?rest55
  case hy55 =>
    intro X hX
    go_simp
    try rfl
  simp only [Act.put, List.setIfInBounds_toArray, List.set_cons_zero, List.set_cons_succ]
  refine' hw_take 17 (some 27) _ rfl rfl (by kernel_rfl) (by kernel_rfl) (by kernel_rfl) (fun _ _ _ h => h) (by rfl) hH2 ?hy56 ?rest56
  case hy56 =>
    intro X hX
    have cX := (hM0.new hX).cells
    go_simp
    try rfl
  simp only [Act.put, List.setIfInBounds_toArray, List.set_cons_zero, List.set_cons_succ]
  refine hw_call 13 (some 23) rfl rfl (by kernel_rfl) (by rfl) (fun K hK => ?_)
  go_simp
  refine (eahead_any o B id up ro ep su ma ot co A n c V1 _ (hb0.new hH2) (hoL.lg.1.new hH2) HL.out (by omega) ho).mono ?_
  rintro e wz ⟨rfl, hwz⟩
  subst hwz
  rw [HQ.out]
  go_simp
  refine hK.out _ _ ((New.refl _).drew) (fun hH3 => ?_)
  simp only [Act.put, List.setIfInBounds_toArray, List.set_cons_zero, List.set_cons_succ]
  refine' hw_take 18 (some 28) (.bool false) rfl rfl (by kernel_rfl) (by kernel_rfl) (by kernel_rfl) (fun _ _ _ h => h) (by rfl) hH3 ?hyL18 ?restL18
  case hyL18 =>
    intro X hX
    go_simp
    try rfl
  simp only [Act.put, List.setIfInBounds_toArray, List.set_cons_zero, List.set_cons_succ]
  refine' hw_take 19 (some 29) _ rfl rfl (by kernel_rfl) (by kernel_rfl) (by kernel_rfl) (fun _ _ _ h => h) (by rfl) hH3 ?hy57 ?rest57
  case hy57 =>
    intro X hX
    go_simp
    try rfl
  simp only [Act.put, List.setIfInBounds_toArray, List.set_cons_zero, List.set_cons_succ]
  refine wpAnyH_done (by kernel_rfl) ?_ _
  have hb1 := hb0.new hH3
  have hM1 := hM0.new hH3
  have hoL1 := hoL.new hH3
  have bR1 := bR.new hH3
  have hw1 := hw.trans hH3
  have HZ : Hid (w0.drew.heap.size = w0.heap.size) := rfl
  have zw1 : w0.heap.size ≤ w0.drew.heap.size := Nat.le_refl _
  clear hH hH2 hH3
  generalize w0.drew = w1 at *
  have tw1 : Turn (fun i => i = B ∨ (Value.slice A n c).ownBlock = some i) w w1 := hw1.turn
  have cM := hM1.cells
  go_upto_region 11 with fail
  have bBd := hb1.new ((New.refl _).drew)
  have cD := bBd.cells
  have fD := bBd.frees
  refine hw_start (n := 13) (S := fun _ => True) rfl (by kernel_rfl) (trivial) (fun hH => ?_)
  refine' hw_take 0 (some 65) _ rfl rfl (by kernel_rfl) (by kernel_rfl) (by kernel_rfl) (fun _ _ _ h => h) (by rfl) hH ?hy58 ?rest58
  case hy58 =>
    intro X hX
    go_simp
    try rfl
  simp only [Act.put, List.setIfInBounds_toArray, List.set_cons_zero, List.set_cons_succ]
  refine' hw_take 1 (some 66) _ rfl rfl (by kernel_rfl) (by kernel_rfl) (by kernel_rfl) (fun _ _ _ h => h) (by rfl) hH ?hy59 ?rest59
  case hy59 =>
    intro X hX
    go_simp
    try rfl
  simp only [Act.put, List.setIfInBounds_toArray, List.set_cons_zero, List.set_cons_succ]
  refine' hw_take 2 (some 67) _ rfl rfl (by kernel_rfl) (by kernel_rfl) (by kernel_rfl) (fun _ _ _ h => h) (by rfl) hH ?hy60 ?rest60
  case hy60 =>
    intro X hX
    go_simp
    try rfl
  simp only [Act.put, List.setIfInBounds_toArray, List.set_cons_zero, List.set_cons_succ]
  refine' hw_take 3 (some 68) _ rfl rfl (by kernel_rfl) (by kernel_rfl) (by kernel_rfl) (fun _ _ _ h => h) (by rfl) hH ?hy61 ?rest61
  case hy61 =>
    intro X hX
    go_simp
    try rfl
  simp only [Act.put, List.setIfInBounds_toArray, List.set_cons_zero, List.set_cons_succ]
  refine' hw_take 5 (some 70) _ rfl rfl (by kernel_rfl) (by kernel_rfl) (by kernel_rfl) (fun _ _ _ h => h) (by rfl) hH ?hy62 ?rest62
  case hy62 =>
    intro X hX
    go_simp
    try rfl
  simp only [Act.put, List.setIfInBounds_toArray, List.set_cons_zero, List.set_cons_succ]
  refine' hw_take 7 (some 72) _ rfl rfl (by kernel_rfl) (by kernel_rfl) (by kernel_rfl) (fun _ _ _ h => h) (by rfl) hH ?hy63 ?rest63
  case hy63 =>
    intro X hX
    go_simp
    try rfl
  simp only [Act.put, List.setIfInBounds_toArray, List.set_cons_zero, List.set_cons_succ]
  refine wpAnyH_ready (rs := [4, 8]) (by kernel_rfl) (by simp) ?_
  refine hw_step 4 (some 69) rfl rfl (by rfl) (fun K hK => ?_) ?_
  · skip
    go_simp
    refine hK.out _ _ trivial (fun hH1 => ?_)
    simp only [Act.put, List.setIfInBounds_toArray, List.set_cons_zero, List.set_cons_succ]
    refine' hw_take 6 (some 71) _ rfl rfl (by kernel_rfl) (by kernel_rfl) (by kernel_rfl) (fun _ _ _ h => h) (by rfl) hH ?hy64 ?rest64
    case hy64 =>
      intro X hX
      go_simp
      try rfl
    simp only [Act.put, List.setIfInBounds_toArray, List.set_cons_zero, List.set_cons_succ]
    refine hw_call 8 (some 73) rfl rfl (by kernel_rfl) (by rfl) (fun K hK => ?_)
    go_simp
    refine (count_any B id up ro ep su ma ot co A n c _ bBd).mono ?_
    rintro e wz ⟨rfl, hwz⟩
    subst hwz
    go_simp
    refine hK.out _ _ trivial (fun hH2 => ?_)
    simp only [Act.put, List.setIfInBounds_toArray, List.set_cons_zero, List.set_cons_succ]
    refine' hw_take 9 (some 74) _ rfl rfl (by kernel_rfl) (by kernel_rfl) (by kernel_rfl) (fun _ _ _ h => h) (by rfl) hH ?hy65 ?rest65
    case hy65 =>
      intro X hX
      go_simp
      try rfl
    simp only [Act.put, List.setIfInBounds_toArray, List.set_cons_zero, List.set_cons_succ]
    refine' hw_take 10 (some 75) _ rfl rfl (by kernel_rfl) (by kernel_rfl) (by kernel_rfl) (fun _ _ _ h => h) (by rfl) hH ?hy66 ?rest66
    case hy66 =>
      intro X hX
      go_simp
      try rfl
    simp only [Act.put, List.setIfInBounds_toArray, List.set_cons_zero, List.set_cons_succ]
    refine' hw_take 11 (some 76) _ rfl rfl (by kernel_rfl) (by kernel_rfl) (by kernel_rfl) (fun _ _ _ h => h) (by rfl) hH ?hy67 ?rest67
    case hy67 =>
      intro X hX
      go_simp
      try rfl
    simp only [Act.put, List.setIfInBounds_toArray, List.set_cons_zero, List.set_cons_succ]
    refine hw_call 12 none rfl rfl (by kernel_rfl) (by rfl) (fun K hK => ?_)
    go_simp
    refine hK.out undef _ trivial (fun hS2 => ?_)
    refine wpAnyH_done (by kernel_rfl) ?_ _
    rw [HTG.out]
    have bE := bBd.set 6 (.int .i64 (max ma (o : Int)))
    have tE := (((New.refl w1).drew.turn (S := fun i => i = B))).set (p := ⟨B, 6, none⟩) rfl (.int .i64 (max ma (o : Int)))
    have HW : w1.drew.setCell ⟨B, 6, none⟩ (.int .i64 (max ma (o : Int))) = (w1.setCell ⟨B, 6, none⟩ (.int .i64 (max ma (o : Int)))).drew := rfl
    rw [HW] at bE tE
    have hoE := hoL1.turnB hb1 (by decide) (by decide) tE
    have bRE := bR1.turn tE (by omega)
    have tAE := Turn.trans tw1 tE (fun i _ e => .inl e)
    have zE := tE.size
    have hoE2 := hoE.up (Nat.le_trans (by omega) zE)
    clear cD fD
    clear HW
    generalize (w1.setCell ⟨B, 6, none⟩ (.int .i64 (max ma (o : Int)))).drew = wE at *
    go_upto_region 12 with fail
    refine hw_start (n := 17) (S := fun X => Turn (fun i => i = w.heap.size) wE X) rfl (by kernel_rfl) (((New.refl _).drew).turn) (fun hH => ?_)
    refine' hw_take 0 (some 77) _ rfl rfl (by kernel_rfl) (by kernel_rfl) (by kernel_rfl) (fun _ _ _ h => h) (by rfl) hH ?hy68 ?rest68
    case hy68 =>
      intro X hX
      go_simp
      try rfl
    simp only [Act.put, List.setIfInBounds_toArray, List.set_cons_zero, List.set_cons_succ]
    refine' hw_take 1 (some 78) _ rfl rfl (by kernel_rfl) (by kernel_rfl) (by kernel_rfl) (fun _ _ _ h => h) (by rfl) hH ?hy69 ?rest69
    case hy69 =>
      intro X hX
      go_simp
      try rfl
    simp only [Act.put, List.setIfInBounds_toArray, List.set_cons_zero, List.set_cons_succ]
    refine' hw_take 2 (some 79) (.agg #[.int .i64 id, .bool up, .int .i64 ro, .int .i64 ep, .slice A n c, .int .i64 su, .int .i64 (max ma (o : Int)), .int .i64 ot, .int .i64 co]) rfl rfl (by kernel_rfl) (by kernel_rfl) (by kernel_rfl) (fun _ _ _ h => h) (by rfl) hH ?hyA12x70 ?restA12x70
    case hyA12x70 =>
      intro X hX
      exact run_load_blk 36 (.tmp 78) rfl B rfl #[.int .i64 id, .bool up, .int .i64 ro, .int .i64 ep, .slice A n c, .int .i64 su, .int .i64 (max ma (o : Int)), .int .i64 ot, .int .i64 co] _ (bE.turn hX (by omega)) Try.underlying36 rfl (by kernel_rfl)
    simp only [Act.put, List.setIfInBounds_toArray, List.set_cons_zero, List.set_cons_succ]
    refine' hw_take 3 (some 80) _ rfl rfl (by kernel_rfl) (by kernel_rfl) (by kernel_rfl) (fun _ _ _ h => h) (by rfl) hH ?hy71 ?rest71
    case hy71 =>
      intro X hX
      go_simp
      try rfl
    simp only [Act.put, List.setIfInBounds_toArray, List.set_cons_zero, List.set_cons_succ]
    refine' hw_take 4 (some 81) _ rfl rfl (by kernel_rfl) (by kernel_rfl) (by kernel_rfl) (fun _ _ _ h => h) (by rfl) hH ?hy72 ?rest72
    case hy72 =>
      intro X hX
      go_simp
      try rfl
    simp only [Act.put, List.setIfInBounds_toArray, List.set_cons_zero, List.set_cons_succ]
    refine' hw_take 5 (some 82) _ rfl rfl (by kernel_rfl) (by kernel_rfl) (by kernel_rfl) (fun _ _ _ h => h) (by rfl) hH ?hy73 ?rest73
    case hy73 =>
      intro X hX
      go_simp
      try rfl
    simp only [Act.put, List.setIfInBounds_toArray, List.set_cons_zero, List.set_cons_succ]
    refine' hw_take 6 (some 83) _ rfl rfl (by kernel_rfl) (by kernel_rfl) (by kernel_rfl) (fun _ _ _ h => h) (by rfl) hH ?hy74 ?rest74
    case hy74 =>
      intro X hX
      go_simp
      try rfl
    simp only [Act.put, List.setIfInBounds_toArray, List.set_cons_zero, List.set_cons_succ]
    refine' hw_take 7 (some 84) _ rfl rfl (by kernel_rfl) (by kernel_rfl) (by kernel_rfl) (fun _ _ _ h => h) (by rfl) hH ?hy75 ?rest75
    case hy75 =>
      intro X hX
      have cX := (bE.turn hX (by omega)).cells
      go_simp
      try rfl
    simp only [Act.put, List.setIfInBounds_toArray, List.set_cons_zero, List.set_cons_succ]
    refine' hw_take 8 (some 85) _ rfl rfl (by kernel_rfl) (by kernel_rfl) (by kernel_rfl) (fun _ _ _ h => h) (by rfl) hH ?hy76 ?rest76
    case hy76 =>
      intro X hX
      go_simp
      try rfl
    simp only [Act.put, List.setIfInBounds_toArray, List.set_cons_zero, List.set_cons_succ]
    refine' hw_take 9 (some 86) _ rfl rfl (by kernel_rfl) (by kernel_rfl) (by kernel_rfl) (fun _ _ _ h => h) (by rfl) hH ?hy77 ?rest77
    case hy77 =>
      intro X hX
      go_simp
      try rfl
    simp only [Act.put, List.setIfInBounds_toArray, List.set_cons_zero, List.set_cons_succ]
    refine' hw_take 10 (some 87) _ rfl rfl (by kernel_rfl) (by kernel_rfl) (by kernel_rfl) (fun _ _ _ h => h) (by rfl) hH ?hy78 ?rest78
    case hy78 =>
      intro X hX
      go_simp
      try rfl
    simp only [Act.put, List.setIfInBounds_toArray, List.set_cons_zero, List.set_cons_succ]
    refine' hw_take 11 (some 88) _ rfl rfl (by kernel_rfl) (by kernel_rfl) (by kernel_rfl) (fun _ _ _ h => h) (by rfl) hH ?hy79 ?rest79
    case hy79 =>
      intro X hX
      have cX := (bE.turn hX (by omega)).cells
      go_simp
      try rfl
    simp only [Act.put, List.setIfInBounds_toArray, List.set_cons_zero, List.set_cons_succ]
    refine' hw_take 12 (some 89) _ rfl rfl (by kernel_rfl) (by kernel_rfl) (by kernel_rfl) (fun _ _ _ h => h) (by rfl) hH ?hy80 ?rest80
    case hy80 =>
      intro X hX
      go_simp
      try rfl
    simp only [Act.put, List.setIfInBounds_toArray, List.set_cons_zero, List.set_cons_succ]
    have HMN : (if su < (max ma (o : Int)) then su else (max ma (o : Int))) = (min (max ma (o : Int)) su) := by split <;> omega
    rw [HMN]
    refine hw_call 13 (some 90) rfl rfl (by kernel_rfl) (by rfl) (fun K hK => ?_)
    go_simp
    refine (mailAt_any 2 (min (max ma (o : Int)) su) B id up ro ep su (max ma (o : Int)) ot co A n c _ (bE.turn hH (by omega)) hid).mono ?_
    rintro e w5 ⟨rfl, hn5⟩
    have t45 := Turn.trans hH hn5 (fun i _ f => f.elim)
    go_simp
    refine hK.out _ _ t45 (fun hH5 => ?_)
    simp only [Act.put, List.setIfInBounds_toArray, List.set_cons_zero, List.set_cons_succ]
    refine hw_call 14 (some 91) rfl rfl (by kernel_rfl) (by rfl) (fun K hK => ?_)
    go_simp
    have al6 := (New.refl w5).alloc (.cells #[.int .i64 2, .int .i64 (1 - id), .int .i64 ep, .int .i64 (min (max ma (o : Int)) su), .int .i64 0, .bool false, .int .i64 0, .int .i64 0, .int .i64 0, .slice none 0 0] 46)
    have bM := Blk.mk w5 w5.heap.size 46 #[.int .i64 2, .int .i64 (1 - id), .int .i64 ep, .int .i64 (min (max ma (o : Int)) su), .int .i64 0, .bool false, .int .i64 0, .int .i64 0, .int .i64 0, .slice none 0 0] rfl
    have t46 := Turn.trans t45 al6 (fun i _ f => f.elim)
    refine hK.out _ _ t46 (fun hH6 => ?_)
    simp only [Act.put, List.setIfInBounds_toArray, List.set_cons_zero, List.set_cons_succ]
    refine' hw_take 15 (some 92) _ rfl rfl (by kernel_rfl) (by kernel_rfl) (by kernel_rfl) (fun _ _ _ h => h) (by rfl) hH6 ?hy81 ?rest81
    case hy81 =>
      intro X hX
      go_simp
      try rfl
    simp only [Act.put, List.setIfInBounds_toArray, List.set_cons_zero, List.set_cons_succ]
    refine hw_call 16 none rfl rfl (by kernel_rfl) (by rfl) (fun K hK => ?_)
    have b16 : Blk (w5.alloc (.cells #[.int .i64 2, .int .i64 (1 - id), .int .i64 ep, .int .i64 (min (max ma (o : Int)) su), .int .i64 0, .bool false, .int .i64 0, .int .i64 0, .int .i64 0, .slice none 0 0] 46)) w.heap.size 39 #[.int .i64 0, .int .i64 0, .bool false, .int .i64 0, .int .i64 0, .slice none 0 0, .int .i64 0, .int .i64 0, .int .i64 0, .int .i64 0, .slice none 0 0] := ((bRE.new ((New.refl _).drew)).new hn5).new al6
    have ho6 := ((hoE2.new ((New.refl _).drew)).new hn5).new al6
    have tA6 := Turn.trans tAE ((((New.refl _).drew).trans hn5).trans al6) (fun i _ f => f.elim)
    have z45 : wE.heap.size ≤ w5.heap.size := hn5.size
    have z6 := al6.size
    have zA : w.heap.size ≤ wE.heap.size := Turn.size tAE
    have l5 : w5.heap.size < (w5.alloc (.cells #[.int .i64 2, .int .i64 (1 - id), .int .i64 ep, .int .i64 (min (max ma (o : Int)) su), .int .i64 0, .bool false, .int .i64 0, .int .i64 0, .int .i64 0, .slice none 0 0] 46)).heap.size := bM.lt
    have lR : w.heap.size < wE.heap.size := bRE.lt
    refine hw_store 39 (.tmp 4) (.tmp 92) rfl rfl w.heap.size #[.int .i64 0, .int .i64 id, .bool up, .int .i64 ro, .int .i64 ep, .slice A n c, .int .i64 su, .int .i64 (max ma (o : Int)), .int .i64 ot, .int .i64 co, .slice (some ⟨w5.heap.size, 0, none⟩) 1 1] #[.int .i64 0, .int .i64 0, .bool false, .int .i64 0, .int .i64 0, .slice none 0 0, .int .i64 0, .int .i64 0, .int .i64 0, .int .i64 0, .slice none 0 0] rfl rfl b16 (by kernel_rfl) rfl (by kernel_rfl) ?_
    generalize w5.alloc (.cells #[.int .i64 2, .int .i64 (1 - id), .int .i64 ep, .int .i64 (min (max ma (o : Int)) su), .int .i64 0, .bool false, .int .i64 0, .int .i64 0, .int .i64 0, .slice none 0 0] 46) = w6 at *
    have tR := Turn.rowW (Turn.refl (fun i => i = w.heap.size) w6) rfl #[.int .i64 0, .int .i64 id, .bool up, .int .i64 ro, .int .i64 ep, .slice A n c, .int .i64 su, .int .i64 (max ma (o : Int)), .int .i64 ot, .int .i64 co, .slice (some ⟨w5.heap.size, 0, none⟩) 1 1]
    have bRR := b16.rowW #[.int .i64 0, .int .i64 id, .bool up, .int .i64 ro, .int .i64 ep, .slice A n c, .int .i64 su, .int .i64 (max ma (o : Int)), .int .i64 ot, .int .i64 co, .slice (some ⟨w5.heap.size, 0, none⟩) 1 1]
    have hoR := ho6.turnB b16 (by decide) (by decide) tR
    have bMR := bM.turn tR (by omega)
    have tF := Turn.trans tA6 tR (fun i hi e => by omega)
    have zR := tR.size
    refine hK.out undef _ (Turn.trans hH6 tR (fun i _ e => e)) (fun hS2 => ?_)
    refine wpAnyH_done (by kernel_rfl) ?_ _
    generalize World.setRow _ _ _ = wR at *
    go_wp2
    all_goals exact bodyPost_ret (results_row1 rfl rfl bRR ⟨_, Try.underlying39⟩ (by kernel_rfl)) rfl (haAns_mk (U := V1) (Ms := [mlv0 2 (1 - id) ep (min (max ma (o : Int)) su)]) (by simp [HL.out]) rfl rfl rfl (NrOw.one (lo := lo) (hi := wE.heap.size) (hoR.up (by omega)) (Nat.le_refl _) (by omega) (row_of_blk bMR rfl) (by omega) (by omega) (by omega)) tF)
  refine hw_step 8 (some 73) rfl rfl (by rfl) (fun K hK => ?_) ?_
  · skip
    go_simp
    refine (count_any B id up ro ep su ma ot co A n c _ bBd).mono ?_
    rintro e wz ⟨rfl, hwz⟩
    subst hwz
    go_simp
    refine hK.out _ _ trivial (fun hH2 => ?_)
    simp only [Act.put, List.setIfInBounds_toArray, List.set_cons_zero, List.set_cons_succ]
    refine hw_call 4 (some 69) rfl rfl (by kernel_rfl) (by rfl) (fun K hK => ?_)
    go_simp
    refine hK.out _ _ trivial (fun hH1 => ?_)
    simp only [Act.put, List.setIfInBounds_toArray, List.set_cons_zero, List.set_cons_succ]
    refine' hw_take 6 (some 71) _ rfl rfl (by kernel_rfl) (by kernel_rfl) (by kernel_rfl) (fun _ _ _ h => h) (by rfl) hH ?hy82 ?rest82
    case hy82 =>
      intro X hX
      go_simp
      try rfl
    simp only [Act.put, List.setIfInBounds_toArray, List.set_cons_zero, List.set_cons_succ]
    refine' hw_take 9 (some 74) _ rfl rfl (by kernel_rfl) (by kernel_rfl) (by kernel_rfl) (fun _ _ _ h => h) (by rfl) hH ?hy83 ?rest83
    case hy83 =>
      intro X hX
      go_simp
      try rfl
    simp only [Act.put, List.setIfInBounds_toArray, List.set_cons_zero, List.set_cons_succ]
    refine' hw_take 10 (some 75) _ rfl rfl (by kernel_rfl) (by kernel_rfl) (by kernel_rfl) (fun _ _ _ h => h) (by rfl) hH ?hy84 ?rest84
    case hy84 =>
      intro X hX
      go_simp
      try rfl
    simp only [Act.put, List.setIfInBounds_toArray, List.set_cons_zero, List.set_cons_succ]
    refine' hw_take 11 (some 76) _ rfl rfl (by kernel_rfl) (by kernel_rfl) (by kernel_rfl) (fun _ _ _ h => h) (by rfl) hH ?hy85 ?rest85
    case hy85 =>
      intro X hX
      go_simp
      try rfl
    simp only [Act.put, List.setIfInBounds_toArray, List.set_cons_zero, List.set_cons_succ]
    refine hw_call 12 none rfl rfl (by kernel_rfl) (by rfl) (fun K hK => ?_)
    go_simp
    refine hK.out undef _ trivial (fun hS2 => ?_)
    refine wpAnyH_done (by kernel_rfl) ?_ _
    rw [HTG.out]
    have bE := bBd.set 6 (.int .i64 (max ma (o : Int)))
    have tE := (((New.refl w1).drew.turn (S := fun i => i = B))).set (p := ⟨B, 6, none⟩) rfl (.int .i64 (max ma (o : Int)))
    have HW : w1.drew.setCell ⟨B, 6, none⟩ (.int .i64 (max ma (o : Int))) = (w1.setCell ⟨B, 6, none⟩ (.int .i64 (max ma (o : Int)))).drew := rfl
    rw [HW] at bE tE
    have hoE := hoL1.turnB hb1 (by decide) (by decide) tE
    have bRE := bR1.turn tE (by omega)
    have tAE := Turn.trans tw1 tE (fun i _ e => .inl e)
    have zE := tE.size
    have hoE2 := hoE.up (Nat.le_trans (by omega) zE)
    clear cD fD
    clear HW
    generalize (w1.setCell ⟨B, 6, none⟩ (.int .i64 (max ma (o : Int)))).drew = wE at *
    go_upto_region 12 with fail
    refine hw_start (n := 17) (S := fun X => Turn (fun i => i = w.heap.size) wE X) rfl (by kernel_rfl) (((New.refl _).drew).turn) (fun hH => ?_)
    refine' hw_take 0 (some 77) _ rfl rfl (by kernel_rfl) (by kernel_rfl) (by kernel_rfl) (fun _ _ _ h => h) (by rfl) hH ?hy86 ?rest86
    case hy86 =>
      intro X hX
      go_simp
      try rfl
    simp only [Act.put, List.setIfInBounds_toArray, List.set_cons_zero, List.set_cons_succ]
    refine' hw_take 1 (some 78) _ rfl rfl (by kernel_rfl) (by kernel_rfl) (by kernel_rfl) (fun _ _ _ h => h) (by rfl) hH ?hy87 ?rest87
    case hy87 =>
      intro X hX
      go_simp
      try rfl
    simp only [Act.put, List.setIfInBounds_toArray, List.set_cons_zero, List.set_cons_succ]
    refine' hw_take 2 (some 79) (.agg #[.int .i64 id, .bool up, .int .i64 ro, .int .i64 ep, .slice A n c, .int .i64 su, .int .i64 (max ma (o : Int)), .int .i64 ot, .int .i64 co]) rfl rfl (by kernel_rfl) (by kernel_rfl) (by kernel_rfl) (fun _ _ _ h => h) (by rfl) hH ?hyA12x88 ?restA12x88
    case hyA12x88 =>
      intro X hX
      exact run_load_blk 36 (.tmp 78) rfl B rfl #[.int .i64 id, .bool up, .int .i64 ro, .int .i64 ep, .slice A n c, .int .i64 su, .int .i64 (max ma (o : Int)), .int .i64 ot, .int .i64 co] _ (bE.turn hX (by omega)) Try.underlying36 rfl (by kernel_rfl)
    simp only [Act.put, List.setIfInBounds_toArray, List.set_cons_zero, List.set_cons_succ]
    refine' hw_take 3 (some 80) _ rfl rfl (by kernel_rfl) (by kernel_rfl) (by kernel_rfl) (fun _ _ _ h => h) (by rfl) hH ?hy89 ?rest89
    case hy89 =>
      intro X hX
      go_simp
      try rfl
    simp only [Act.put, List.setIfInBounds_toArray, List.set_cons_zero, List.set_cons_succ]
    refine' hw_take 4 (some 81) _ rfl rfl (by kernel_rfl) (by kernel_rfl) (by kernel_rfl) (fun _ _ _ h => h) (by rfl) hH ?hy90 ?rest90
    case hy90 =>
      intro X hX
      go_simp
      try rfl
    simp only [Act.put, List.setIfInBounds_toArray, List.set_cons_zero, List.set_cons_succ]
    refine' hw_take 5 (some 82) _ rfl rfl (by kernel_rfl) (by kernel_rfl) (by kernel_rfl) (fun _ _ _ h => h) (by rfl) hH ?hy91 ?rest91
    case hy91 =>
      intro X hX
      go_simp
      try rfl
    simp only [Act.put, List.setIfInBounds_toArray, List.set_cons_zero, List.set_cons_succ]
    refine' hw_take 6 (some 83) _ rfl rfl (by kernel_rfl) (by kernel_rfl) (by kernel_rfl) (fun _ _ _ h => h) (by rfl) hH ?hy92 ?rest92
    case hy92 =>
      intro X hX
      go_simp
      try rfl
    simp only [Act.put, List.setIfInBounds_toArray, List.set_cons_zero, List.set_cons_succ]
    refine' hw_take 7 (some 84) _ rfl rfl (by kernel_rfl) (by kernel_rfl) (by kernel_rfl) (fun _ _ _ h => h) (by rfl) hH ?hy93 ?rest93
    case hy93 =>
      intro X hX
      have cX := (bE.turn hX (by omega)).cells
      go_simp
      try rfl
    simp only [Act.put, List.setIfInBounds_toArray, List.set_cons_zero, List.set_cons_succ]
    refine' hw_take 8 (some 85) _ rfl rfl (by kernel_rfl) (by kernel_rfl) (by kernel_rfl) (fun _ _ _ h => h) (by rfl) hH ?hy94 ?rest94
    case hy94 =>
      intro X hX
      go_simp
      try rfl
    simp only [Act.put, List.setIfInBounds_toArray, List.set_cons_zero, List.set_cons_succ]
    refine' hw_take 9 (some 86) _ rfl rfl (by kernel_rfl) (by kernel_rfl) (by kernel_rfl) (fun _ _ _ h => h) (by rfl) hH ?hy95 ?rest95
    case hy95 =>
      intro X hX
      go_simp
      try rfl
    simp only [Act.put, List.setIfInBounds_toArray, List.set_cons_zero, List.set_cons_succ]
    refine' hw_take 10 (some 87) _ rfl rfl (by kernel_rfl) (by kernel_rfl) (by kernel_rfl) (fun _ _ _ h => h) (by rfl) hH ?hy96 ?rest96
    case hy96 =>
      intro X hX
      go_simp
      try rfl
    simp only [Act.put, List.setIfInBounds_toArray, List.set_cons_zero, List.set_cons_succ]
    refine' hw_take 11 (some 88) _ rfl rfl (by kernel_rfl) (by kernel_rfl) (by kernel_rfl) (fun _ _ _ h => h) (by rfl) hH ?hy97 ?rest97
    case hy97 =>
      intro X hX
      have cX := (bE.turn hX (by omega)).cells
      go_simp
      try rfl
    simp only [Act.put, List.setIfInBounds_toArray, List.set_cons_zero, List.set_cons_succ]
    refine' hw_take 12 (some 89) _ rfl rfl (by kernel_rfl) (by kernel_rfl) (by kernel_rfl) (fun _ _ _ h => h) (by rfl) hH ?hy98 ?rest98
    case hy98 =>
      intro X hX
      go_simp
      try rfl
    simp only [Act.put, List.setIfInBounds_toArray, List.set_cons_zero, List.set_cons_succ]
    have HMN : (if su < (max ma (o : Int)) then su else (max ma (o : Int))) = (min (max ma (o : Int)) su) := by split <;> omega
    rw [HMN]
    refine hw_call 13 (some 90) rfl rfl (by kernel_rfl) (by rfl) (fun K hK => ?_)
    go_simp
    refine (mailAt_any 2 (min (max ma (o : Int)) su) B id up ro ep su (max ma (o : Int)) ot co A n c _ (bE.turn hH (by omega)) hid).mono ?_
    rintro e w5 ⟨rfl, hn5⟩
    have t45 := Turn.trans hH hn5 (fun i _ f => f.elim)
    go_simp
    refine hK.out _ _ t45 (fun hH5 => ?_)
    simp only [Act.put, List.setIfInBounds_toArray, List.set_cons_zero, List.set_cons_succ]
    refine hw_call 14 (some 91) rfl rfl (by kernel_rfl) (by rfl) (fun K hK => ?_)
    go_simp
    have al6 := (New.refl w5).alloc (.cells #[.int .i64 2, .int .i64 (1 - id), .int .i64 ep, .int .i64 (min (max ma (o : Int)) su), .int .i64 0, .bool false, .int .i64 0, .int .i64 0, .int .i64 0, .slice none 0 0] 46)
    have bM := Blk.mk w5 w5.heap.size 46 #[.int .i64 2, .int .i64 (1 - id), .int .i64 ep, .int .i64 (min (max ma (o : Int)) su), .int .i64 0, .bool false, .int .i64 0, .int .i64 0, .int .i64 0, .slice none 0 0] rfl
    have t46 := Turn.trans t45 al6 (fun i _ f => f.elim)
    refine hK.out _ _ t46 (fun hH6 => ?_)
    simp only [Act.put, List.setIfInBounds_toArray, List.set_cons_zero, List.set_cons_succ]
    refine' hw_take 15 (some 92) _ rfl rfl (by kernel_rfl) (by kernel_rfl) (by kernel_rfl) (fun _ _ _ h => h) (by rfl) hH6 ?hy99 ?rest99
    case hy99 =>
      intro X hX
      go_simp
      try rfl
    simp only [Act.put, List.setIfInBounds_toArray, List.set_cons_zero, List.set_cons_succ]
    refine hw_call 16 none rfl rfl (by kernel_rfl) (by rfl) (fun K hK => ?_)
    have b16 : Blk (w5.alloc (.cells #[.int .i64 2, .int .i64 (1 - id), .int .i64 ep, .int .i64 (min (max ma (o : Int)) su), .int .i64 0, .bool false, .int .i64 0, .int .i64 0, .int .i64 0, .slice none 0 0] 46)) w.heap.size 39 #[.int .i64 0, .int .i64 0, .bool false, .int .i64 0, .int .i64 0, .slice none 0 0, .int .i64 0, .int .i64 0, .int .i64 0, .int .i64 0, .slice none 0 0] := ((bRE.new ((New.refl _).drew)).new hn5).new al6
    have ho6 := ((hoE2.new ((New.refl _).drew)).new hn5).new al6
    have tA6 := Turn.trans tAE ((((New.refl _).drew).trans hn5).trans al6) (fun i _ f => f.elim)
    have z45 : wE.heap.size ≤ w5.heap.size := hn5.size
    have z6 := al6.size
    have zA : w.heap.size ≤ wE.heap.size := Turn.size tAE
    have l5 : w5.heap.size < (w5.alloc (.cells #[.int .i64 2, .int .i64 (1 - id), .int .i64 ep, .int .i64 (min (max ma (o : Int)) su), .int .i64 0, .bool false, .int .i64 0, .int .i64 0, .int .i64 0, .slice none 0 0] 46)).heap.size := bM.lt
    have lR : w.heap.size < wE.heap.size := bRE.lt
    refine hw_store 39 (.tmp 4) (.tmp 92) rfl rfl w.heap.size #[.int .i64 0, .int .i64 id, .bool up, .int .i64 ro, .int .i64 ep, .slice A n c, .int .i64 su, .int .i64 (max ma (o : Int)), .int .i64 ot, .int .i64 co, .slice (some ⟨w5.heap.size, 0, none⟩) 1 1] #[.int .i64 0, .int .i64 0, .bool false, .int .i64 0, .int .i64 0, .slice none 0 0, .int .i64 0, .int .i64 0, .int .i64 0, .int .i64 0, .slice none 0 0] rfl rfl b16 (by kernel_rfl) rfl (by kernel_rfl) ?_
    generalize w5.alloc (.cells #[.int .i64 2, .int .i64 (1 - id), .int .i64 ep, .int .i64 (min (max ma (o : Int)) su), .int .i64 0, .bool false, .int .i64 0, .int .i64 0, .int .i64 0, .slice none 0 0] 46) = w6 at *
    have tR := Turn.rowW (Turn.refl (fun i => i = w.heap.size) w6) rfl #[.int .i64 0, .int .i64 id, .bool up, .int .i64 ro, .int .i64 ep, .slice A n c, .int .i64 su, .int .i64 (max ma (o : Int)), .int .i64 ot, .int .i64 co, .slice (some ⟨w5.heap.size, 0, none⟩) 1 1]
    have bRR := b16.rowW #[.int .i64 0, .int .i64 id, .bool up, .int .i64 ro, .int .i64 ep, .slice A n c, .int .i64 su, .int .i64 (max ma (o : Int)), .int .i64 ot, .int .i64 co, .slice (some ⟨w5.heap.size, 0, none⟩) 1 1]
    have hoR := ho6.turnB b16 (by decide) (by decide) tR
    have bMR := bM.turn tR (by omega)
    have tF := Turn.trans tA6 tR (fun i hi e => by omega)
    have zR := tR.size
    refine hK.out undef _ (Turn.trans hH6 tR (fun i _ e => e)) (fun hS2 => ?_)
    refine wpAnyH_done (by kernel_rfl) ?_ _
    generalize World.setRow _ _ _ = wR at *
    go_wp2
    all_goals exact bodyPost_ret (results_row1 rfl rfl bRR ⟨_, Try.underlying39⟩ (by kernel_rfl)) rfl (haAns_mk (U := V1) (Ms := [mlv0 2 (1 - id) ep (min (max ma (o : Int)) su)]) (by simp [HL.out]) rfl rfl rfl (NrOw.one (lo := lo) (hi := wE.heap.size) (hoR.up (by omega)) (Nat.le_refl _) (by omega) (row_of_blk bMR rfl) (by omega) (by omega) (by omega)) tF)
  exact fun j hj => by cases hj

end Go.Proofs.Ythnigcalboobgaa
