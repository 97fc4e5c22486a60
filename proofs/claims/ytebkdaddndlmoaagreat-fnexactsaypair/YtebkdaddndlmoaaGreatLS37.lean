/- What is proved here: what the model's judging of a mail answers where its node is the first of a row of two, for every mail of at most 1048576 bytes. No other condition. -/
import Derived.Test.YtebkdaddndlmoaaGreatLS10
namespace Go.Proofs.YtebkdaddndlmoaaGreat
open Go.RowKit Go.Sort
set_option linter.unusedVariables false
set_option linter.unusedSimpArgs false
set_option maxRecDepth 100000
variable {vx0 vx1 vx2 vx3 vx4 vx5 vx6 vx7 vx8 : Value}

set_option maxHeartbeats 1600000 in
theorem lm1_a (B : Nat) (id : Int) (up : Bool) (ro ep su ma ot co : Int) (A : Option Addr) (n c : Nat) (kd tgt me at1 pr : Int) (has : Bool) (ee ki pe : Int) (a : Option Addr) (m c1 : Nat) (w : World) (hb : Blk w B 108 #[.int .i64 id, .bool up, .int .i64 ro, .int .i64 ep, .slice A n c, .int .i64 su, .int .i64 ma, .int .i64 ot, .int .i64 co, vx0, vx1, vx2, vx3, vx4, vx5, vx6, vx7, vx8]) (hm : m ≤ 1048576) (hk : kd < 1 ∨ 2 < kd) :
    Calls Tryz.prog 177 #[.pointer (some ⟨B, 0, none⟩), .agg #[.int .i64 kd, .int .i64 tgt, .int .i64 me, .int .i64 at1, .int .i64 pr, .bool has, .int .i64 ee, .int .i64 ki, .int .i64 pe, .slice a m c1]] w fun e w' => e = .returned (.int .i64 1) ∧ New w w' := by
  have hw := (New.refl w).alloc (.cells #[.int .i64 kd, .int .i64 tgt, .int .i64 me, .int .i64 at1, .int .i64 pr, .bool has, .int .i64 ee, .int .i64 ki, .int .i64 pe, .slice a m c1] 137)
  have b0 := hb.new hw
  have b1 := Blk.mk w w.heap.size 137 #[.int .i64 kd, .int .i64 tgt, .int .i64 me, .int .i64 at1, .int .i64 pr, .bool has, .int .i64 ee, .int .i64 ki, .int .i64 pe, .slice a m c1] rfl
  go_enter Tryz.func177, Tryz.ntmps177
  go_upto_region 1 with fail
  generalize w.alloc (.cells #[.int .i64 kd, .int .i64 tgt, .int .i64 me, .int .i64 at1, .int .i64 pr, .bool has, .int .i64 ee, .int .i64 ki, .int .i64 pe, .slice a m c1] 137) = w0 at *
  have C0 := blk_regrown b0
  have C1 := blk_regrown b1
  refine wp_region_quiet_below (by kernel_rfl) (by kernel_rfl) ?_
  repeat (go_big_quiet_step ((go_at_call 121; exact calls_regrown_same (in_no kd 1 2 _ hk))))
  refine wpQuiet_nil ?_
  rintro w2 hn2
  replace hn2 := new_of_regrown hn2
  have hw2 := hw.trans hn2
  have b2 := b1.new hn2
  have c2 := b2.cells
  clear C0 C1
  go_wp2
  go_ret
  exact ⟨rfl, hw2⟩

set_option maxHeartbeats 1600000 in
theorem lm2_a (B : Nat) (id : Int) (up : Bool) (ro ep su ma ot co : Int) (A : Option Addr) (n c : Nat) (kd tgt me at1 pr : Int) (has : Bool) (ee ki pe : Int) (a : Option Addr) (m c1 : Nat) (w : World) (hb : Blk w B 108 #[.int .i64 id, .bool up, .int .i64 ro, .int .i64 ep, .slice A n c, .int .i64 su, .int .i64 ma, .int .i64 ot, .int .i64 co, vx0, vx1, vx2, vx3, vx4, vx5, vx6, vx7, vx8]) (hm : m ≤ 1048576) (hk : 1 ≤ kd ∧ kd ≤ 2) (ht : ¬ tgt = id) :
    Calls Tryz.prog 177 #[.pointer (some ⟨B, 0, none⟩), .agg #[.int .i64 kd, .int .i64 tgt, .int .i64 me, .int .i64 at1, .int .i64 pr, .bool has, .int .i64 ee, .int .i64 ki, .int .i64 pe, .slice a m c1]] w fun e w' => e = .returned (.int .i64 1) ∧ New w w' := by
  have hw := (New.refl w).alloc (.cells #[.int .i64 kd, .int .i64 tgt, .int .i64 me, .int .i64 at1, .int .i64 pr, .bool has, .int .i64 ee, .int .i64 ki, .int .i64 pe, .slice a m c1] 137)
  have b0 := hb.new hw
  have b1 := Blk.mk w w.heap.size 137 #[.int .i64 kd, .int .i64 tgt, .int .i64 me, .int .i64 at1, .int .i64 pr, .bool has, .int .i64 ee, .int .i64 ki, .int .i64 pe, .slice a m c1] rfl
  have kt : (tgt != id) = true := by simp [ht]
  go_enter Tryz.func177, Tryz.ntmps177
  go_upto_region 1 with fail
  generalize w.alloc (.cells #[.int .i64 kd, .int .i64 tgt, .int .i64 me, .int .i64 at1, .int .i64 pr, .bool has, .int .i64 ee, .int .i64 ki, .int .i64 pe, .slice a m c1] 137) = w0 at *
  have C0 := blk_regrown b0
  have C1 := blk_regrown b1
  refine wp_region_quiet_below (by kernel_rfl) (by kernel_rfl) ?_
  repeat (go_big_quiet_step ((go_at_call 121; exact calls_regrown_same (in_yes kd 1 2 _ hk))))
  refine wpQuiet_nil ?_
  rintro w2 hn2
  replace hn2 := new_of_regrown hn2
  have hw2 := hw.trans hn2
  have b2 := b1.new hn2
  have c2 := b2.cells
  clear C0 C1
  go_wp2
  go_ret
  exact ⟨rfl, hw2⟩

set_option maxHeartbeats 1600000 in
theorem lm3_a (B : Nat) (id : Int) (up : Bool) (ro ep su ma ot co : Int) (A : Option Addr) (n c : Nat) (kd me at1 pr : Int) (has : Bool) (ee ki pe : Int) (a : Option Addr) (m c1 : Nat) (w : World) (hb : Blk w B 108 #[.int .i64 id, .bool up, .int .i64 ro, .int .i64 ep, .slice A n c, .int .i64 su, .int .i64 ma, .int .i64 ot, .int .i64 co, vx0, vx1, vx2, vx3, vx4, vx5, vx6, vx7, vx8]) (hm : m ≤ 1048576) (hk : 1 ≤ kd ∧ kd ≤ 2) (hme : me < 1 ∨ 1000 < me) :
    Calls Tryz.prog 177 #[.pointer (some ⟨B, 0, none⟩), .agg #[.int .i64 kd, .int .i64 id, .int .i64 me, .int .i64 at1, .int .i64 pr, .bool has, .int .i64 ee, .int .i64 ki, .int .i64 pe, .slice a m c1]] w fun e w' => e = .returned (.int .i64 3) ∧ New w w' := by
  have hw := (New.refl w).alloc (.cells #[.int .i64 kd, .int .i64 id, .int .i64 me, .int .i64 at1, .int .i64 pr, .bool has, .int .i64 ee, .int .i64 ki, .int .i64 pe, .slice a m c1] 137)
  have b0 := hb.new hw
  have b1 := Blk.mk w w.heap.size 137 #[.int .i64 kd, .int .i64 id, .int .i64 me, .int .i64 at1, .int .i64 pr, .bool has, .int .i64 ee, .int .i64 ki, .int .i64 pe, .slice a m c1] rfl
  have kt : (id != id) = false := by simp
  go_enter Tryz.func177, Tryz.ntmps177
  go_upto_region 1 with fail
  generalize w.alloc (.cells #[.int .i64 kd, .int .i64 id, .int .i64 me, .int .i64 at1, .int .i64 pr, .bool has, .int .i64 ee, .int .i64 ki, .int .i64 pe, .slice a m c1] 137) = w0 at *
  have C0 := blk_regrown b0
  have C1 := blk_regrown b1
  refine wp_region_quiet_below (by kernel_rfl) (by kernel_rfl) ?_
  repeat (go_big_quiet_step ((go_at_call 121; exact calls_regrown_same (in_yes kd 1 2 _ hk))))
  refine wpQuiet_nil ?_
  rintro w2 hn2
  replace hn2 := new_of_regrown hn2
  have hw2 := hw.trans hn2
  have b2 := b1.new hn2
  have c2 := b2.cells
  clear C0 C1
  go_wp2_with fail
  refine (sepoch_no me _ hme).mono ?_
  rintro e wz ⟨rfl, hwz⟩
  obtain rfl := hwz.symm
  go_wp2
  go_ret
  exact ⟨rfl, hw2⟩

set_option maxHeartbeats 1600000 in
theorem lm4_a (B : Nat) (id : Int) (up : Bool) (ro ep su ma ot co : Int) (A : Option Addr) (n c : Nat) (kd me at1 pr : Int) (has : Bool) (ee ki pe : Int) (a : Option Addr) (m c1 : Nat) (w : World) (hb : Blk w B 108 #[.int .i64 id, .bool up, .int .i64 ro, .int .i64 ep, .slice A n c, .int .i64 su, .int .i64 ma, .int .i64 ot, .int .i64 co, vx0, vx1, vx2, vx3, vx4, vx5, vx6, vx7, vx8]) (hm : m ≤ 1048576) (hk : 1 ≤ kd ∧ kd ≤ 2) (hme : 1 ≤ me ∧ me ≤ 1000) (hat : at1 < 0 ∨ 100 < at1) :
    Calls Tryz.prog 177 #[.pointer (some ⟨B, 0, none⟩), .agg #[.int .i64 kd, .int .i64 id, .int .i64 me, .int .i64 at1, .int .i64 pr, .bool has, .int .i64 ee, .int .i64 ki, .int .i64 pe, .slice a m c1]] w fun e w' => e = .returned (.int .i64 3) ∧ New w w' := by
  have hw := (New.refl w).alloc (.cells #[.int .i64 kd, .int .i64 id, .int .i64 me, .int .i64 at1, .int .i64 pr, .bool has, .int .i64 ee, .int .i64 ki, .int .i64 pe, .slice a m c1] 137)
  have b0 := hb.new hw
  have b1 := Blk.mk w w.heap.size 137 #[.int .i64 kd, .int .i64 id, .int .i64 me, .int .i64 at1, .int .i64 pr, .bool has, .int .i64 ee, .int .i64 ki, .int .i64 pe, .slice a m c1] rfl
  have kt : (id != id) = false := by simp
  go_enter Tryz.func177, Tryz.ntmps177
  go_upto_region 1 with fail
  generalize w.alloc (.cells #[.int .i64 kd, .int .i64 id, .int .i64 me, .int .i64 at1, .int .i64 pr, .bool has, .int .i64 ee, .int .i64 ki, .int .i64 pe, .slice a m c1] 137) = w0 at *
  have C0 := blk_regrown b0
  have C1 := blk_regrown b1
  refine wp_region_quiet_below (by kernel_rfl) (by kernel_rfl) ?_
  repeat (go_big_quiet_step ((go_at_call 121; exact calls_regrown_same (in_yes kd 1 2 _ hk))))
  refine wpQuiet_nil ?_
  rintro w2 hn2
  replace hn2 := new_of_regrown hn2
  have hw2 := hw.trans hn2
  have b2 := b1.new hn2
  have c2 := b2.cells
  clear C0 C1
  go_wp2_with fail
  refine (sepoch_yes me _ hme).mono ?_
  rintro e wz ⟨rfl, hwz⟩
  obtain rfl := hwz.symm
  go_wp2_with fail
  refine (in_no at1 0 100 _ hat).mono ?_
  rintro e wz ⟨rfl, hwz⟩
  obtain rfl := hwz.symm
  go_wp2
  go_ret
  exact ⟨rfl, hw2⟩

set_option maxHeartbeats 1600000 in
theorem lm5_a (B : Nat) (id : Int) (up : Bool) (ro ep su ma ot co : Int) (A : Option Addr) (n c : Nat) (kd me at1 pr : Int) (has : Bool) (ee ki pe : Int) (a : Option Addr) (m c1 : Nat) (w : World) (hb : Blk w B 108 #[.int .i64 id, .bool up, .int .i64 ro, .int .i64 ep, .slice A n c, .int .i64 su, .int .i64 ma, .int .i64 ot, .int .i64 co, vx0, vx1, vx2, vx3, vx4, vx5, vx6, vx7, vx8]) (hm : m ≤ 1048576) (hk : 1 ≤ kd ∧ kd ≤ 2) (hme : 1 ≤ me ∧ me ≤ 1000) (hat : 0 ≤ at1 ∧ at1 ≤ 100) (hpr : pr < 0 ∨ 1000 < pr) :
    Calls Tryz.prog 177 #[.pointer (some ⟨B, 0, none⟩), .agg #[.int .i64 kd, .int .i64 id, .int .i64 me, .int .i64 at1, .int .i64 pr, .bool has, .int .i64 ee, .int .i64 ki, .int .i64 pe, .slice a m c1]] w fun e w' => e = .returned (.int .i64 3) ∧ New w w' := by
  have hw := (New.refl w).alloc (.cells #[.int .i64 kd, .int .i64 id, .int .i64 me, .int .i64 at1, .int .i64 pr, .bool has, .int .i64 ee, .int .i64 ki, .int .i64 pe, .slice a m c1] 137)
  have b0 := hb.new hw
  have b1 := Blk.mk w w.heap.size 137 #[.int .i64 kd, .int .i64 id, .int .i64 me, .int .i64 at1, .int .i64 pr, .bool has, .int .i64 ee, .int .i64 ki, .int .i64 pe, .slice a m c1] rfl
  have kt : (id != id) = false := by simp
  go_enter Tryz.func177, Tryz.ntmps177
  go_upto_region 1 with fail
  generalize w.alloc (.cells #[.int .i64 kd, .int .i64 id, .int .i64 me, .int .i64 at1, .int .i64 pr, .bool has, .int .i64 ee, .int .i64 ki, .int .i64 pe, .slice a m c1] 137) = w0 at *
  have C0 := blk_regrown b0
  have C1 := blk_regrown b1
  refine wp_region_quiet_below (by kernel_rfl) (by kernel_rfl) ?_
  repeat (go_big_quiet_step ((go_at_call 121; exact calls_regrown_same (in_yes kd 1 2 _ hk))))
  refine wpQuiet_nil ?_
  rintro w2 hn2
  replace hn2 := new_of_regrown hn2
  have hw2 := hw.trans hn2
  have b2 := b1.new hn2
  have c2 := b2.cells
  clear C0 C1
  go_wp2_with fail
  refine (sepoch_yes me _ hme).mono ?_
  rintro e wz ⟨rfl, hwz⟩
  obtain rfl := hwz.symm
  go_wp2_with fail
  refine (in_yes at1 0 100 _ hat).mono ?_
  rintro e wz ⟨rfl, hwz⟩
  obtain rfl := hwz.symm
  go_wp2_with fail
  refine (in_no pr 0 1000 _ hpr).mono ?_
  rintro e wz ⟨rfl, hwz⟩
  obtain rfl := hwz.symm
  go_wp2
  go_ret
  exact ⟨rfl, hw2⟩

set_option maxHeartbeats 1600000 in
theorem lm6_a (B : Nat) (id : Int) (up : Bool) (ro ep su ma ot co : Int) (A : Option Addr) (n c : Nat) (kd me at1 pr : Int) (has : Bool) (ee ki pe : Int) (a : Option Addr) (m c1 : Nat) (w : World) (hb : Blk w B 108 #[.int .i64 id, .bool up, .int .i64 ro, .int .i64 ep, .slice A n c, .int .i64 su, .int .i64 ma, .int .i64 ot, .int .i64 co, vx0, vx1, vx2, vx3, vx4, vx5, vx6, vx7, vx8]) (hm : m ≤ 1048576) (hk : 1 ≤ kd ∧ kd ≤ 2) (hme : 1 ≤ me ∧ me ≤ 1000) (hat : 0 ≤ at1 ∧ at1 ≤ 100) (hpr : 0 ≤ pr ∧ pr ≤ 1000) (hkk : kd = 1 ∨ kd = 2) (hf : ¬ Fo kd me at1 pr has ee ki pe m) :
    Calls Tryz.prog 177 #[.pointer (some ⟨B, 0, none⟩), .agg #[.int .i64 kd, .int .i64 id, .int .i64 me, .int .i64 at1, .int .i64 pr, .bool has, .int .i64 ee, .int .i64 ki, .int .i64 pe, .slice a m c1]] w fun e w' => e = .returned (.int .i64 1) ∧ New w w' := by
  have hw := (New.refl w).alloc (.cells #[.int .i64 kd, .int .i64 id, .int .i64 me, .int .i64 at1, .int .i64 pr, .bool has, .int .i64 ee, .int .i64 ki, .int .i64 pe, .slice a m c1] 137)
  have b0 := hb.new hw
  have b1 := Blk.mk w w.heap.size 137 #[.int .i64 kd, .int .i64 id, .int .i64 me, .int .i64 at1, .int .i64 pr, .bool has, .int .i64 ee, .int .i64 ki, .int .i64 pe, .slice a m c1] rfl
  have kt : (id != id) = false := by simp
  go_enter Tryz.func177, Tryz.ntmps177
  go_upto_region 1 with fail
  generalize w.alloc (.cells #[.int .i64 kd, .int .i64 id, .int .i64 me, .int .i64 at1, .int .i64 pr, .bool has, .int .i64 ee, .int .i64 ki, .int .i64 pe, .slice a m c1] 137) = w0 at *
  have C0 := blk_regrown b0
  have C1 := blk_regrown b1
  refine wp_region_quiet_below (by kernel_rfl) (by kernel_rfl) ?_
  repeat (go_big_quiet_step ((go_at_call 121; exact calls_regrown_same (in_yes kd 1 2 _ hk))))
  refine wpQuiet_nil ?_
  rintro w2 hn2
  replace hn2 := new_of_regrown hn2
  have hw2 := hw.trans hn2
  have b2 := b1.new hn2
  have c2 := b2.cells
  clear C0 C1
  go_wp2_with fail
  refine (sepoch_yes me _ hme).mono ?_
  rintro e wz ⟨rfl, hwz⟩
  obtain rfl := hwz.symm
  go_wp2_with fail
  refine (in_yes at1 0 100 _ hat).mono ?_
  rintro e wz ⟨rfl, hwz⟩
  obtain rfl := hwz.symm
  go_wp2_with fail
  refine (in_yes pr 0 1000 _ hpr).mono ?_
  rintro e wz ⟨rfl, hwz⟩
  obtain rfl := hwz.symm
  go_wp2_with fail
  refine (form_n kd id me at1 pr has ee ki pe a m c1 _ hm hkk (by omega) hf).mono ?_
  rintro e w3 ⟨rfl, hn3⟩
  go_wp2
  go_ret
  exact ⟨rfl, hw2.trans hn3⟩

set_option maxHeartbeats 1600000 in
theorem lm7_a (B : Nat) (id : Int) (up : Bool) (ro ep su ma ot co : Int) (A : Option Addr) (n c : Nat) (kd me at1 pr : Int) (ee ki pe : Int) (a : Option Addr) (m c1 : Nat) (w : World) (hb : Blk w B 108 #[.int .i64 id, .bool up, .int .i64 ro, .int .i64 ep, .slice A n c, .int .i64 su, .int .i64 ma, .int .i64 ot, .int .i64 co, vx0, vx1, vx2, vx3, vx4, vx5, vx6, vx7, vx8]) (hm : m ≤ 1048576) (hk : 1 ≤ kd ∧ kd ≤ 2) (hme : 1 ≤ me ∧ me ≤ 1000) (hat : 0 ≤ at1 ∧ at1 ≤ 100) (hpr : 0 ≤ pr ∧ pr ≤ 1000) (hkk : kd = 1 ∨ kd = 2) (hf : Fo kd me at1 pr false ee ki pe m) :
    Calls Tryz.prog 177 #[.pointer (some ⟨B, 0, none⟩), .agg #[.int .i64 kd, .int .i64 id, .int .i64 me, .int .i64 at1, .int .i64 pr, .bool false, .int .i64 ee, .int .i64 ki, .int .i64 pe, .slice a m c1]] w fun e w' => e = .returned (.int .i64 0) ∧ New w w' := by
  have hw := (New.refl w).alloc (.cells #[.int .i64 kd, .int .i64 id, .int .i64 me, .int .i64 at1, .int .i64 pr, .bool false, .int .i64 ee, .int .i64 ki, .int .i64 pe, .slice a m c1] 137)
  have b0 := hb.new hw
  have b1 := Blk.mk w w.heap.size 137 #[.int .i64 kd, .int .i64 id, .int .i64 me, .int .i64 at1, .int .i64 pr, .bool false, .int .i64 ee, .int .i64 ki, .int .i64 pe, .slice a m c1] rfl
  have kt : (id != id) = false := by simp
  go_enter Tryz.func177, Tryz.ntmps177
  go_upto_region 1 with fail
  generalize w.alloc (.cells #[.int .i64 kd, .int .i64 id, .int .i64 me, .int .i64 at1, .int .i64 pr, .bool false, .int .i64 ee, .int .i64 ki, .int .i64 pe, .slice a m c1] 137) = w0 at *
  have C0 := blk_regrown b0
  have C1 := blk_regrown b1
  refine wp_region_quiet_below (by kernel_rfl) (by kernel_rfl) ?_
  repeat (go_big_quiet_step ((go_at_call 121; exact calls_regrown_same (in_yes kd 1 2 _ hk))))
  refine wpQuiet_nil ?_
  rintro w2 hn2
  replace hn2 := new_of_regrown hn2
  have hw2 := hw.trans hn2
  have b2 := b1.new hn2
  have c2 := b2.cells
  clear C0 C1
  go_wp2_with fail
  refine (sepoch_yes me _ hme).mono ?_
  rintro e wz ⟨rfl, hwz⟩
  obtain rfl := hwz.symm
  go_wp2_with fail
  refine (in_yes at1 0 100 _ hat).mono ?_
  rintro e wz ⟨rfl, hwz⟩
  obtain rfl := hwz.symm
  go_wp2_with fail
  refine (in_yes pr 0 1000 _ hpr).mono ?_
  rintro e wz ⟨rfl, hwz⟩
  obtain rfl := hwz.symm
  go_wp2_with fail
  refine (form_y kd id me at1 pr false ee ki pe a m c1 _ hm hkk (by omega) hf).mono ?_
  rintro e w3 ⟨rfl, hn3⟩
  have b3 := b2.new hn3
  have c3 := b3.cells
  have hw3 := hw2.trans hn3
  go_wp2
  go_ret
  exact ⟨rfl, hw3⟩

set_option maxHeartbeats 1600000 in
theorem lm8_a (B : Nat) (id : Int) (up : Bool) (ro ep su ma ot co : Int) (A : Option Addr) (n c : Nat) (kd me at1 pr : Int) (ee ki pe : Int) (a : Option Addr) (m c1 : Nat) (w : World) (hb : Blk w B 108 #[.int .i64 id, .bool up, .int .i64 ro, .int .i64 ep, .slice A n c, .int .i64 su, .int .i64 ma, .int .i64 ot, .int .i64 co, vx0, vx1, vx2, vx3, vx4, vx5, vx6, vx7, vx8]) (hm : m ≤ 1048576) (hk : 1 ≤ kd ∧ kd ≤ 2) (hme : 1 ≤ me ∧ me ≤ 1000) (hat : 0 ≤ at1 ∧ at1 ≤ 100) (hpr : 0 ≤ pr ∧ pr ≤ 1000) (hkk : kd = 1 ∨ kd = 2) (hf : Fo kd me at1 pr true ee ki pe m) (v : Int) (he : enF ee ki pe m = v) (hv : ¬ v = 0) :
    Calls Tryz.prog 177 #[.pointer (some ⟨B, 0, none⟩), .agg #[.int .i64 kd, .int .i64 id, .int .i64 me, .int .i64 at1, .int .i64 pr, .bool true, .int .i64 ee, .int .i64 ki, .int .i64 pe, .slice a m c1]] w fun e w' => e = .returned (.int .i64 v) ∧ New w w' := by
  have hw := (New.refl w).alloc (.cells #[.int .i64 kd, .int .i64 id, .int .i64 me, .int .i64 at1, .int .i64 pr, .bool true, .int .i64 ee, .int .i64 ki, .int .i64 pe, .slice a m c1] 137)
  have b0 := hb.new hw
  have b1 := Blk.mk w w.heap.size 137 #[.int .i64 kd, .int .i64 id, .int .i64 me, .int .i64 at1, .int .i64 pr, .bool true, .int .i64 ee, .int .i64 ki, .int .i64 pe, .slice a m c1] rfl
  have kt : (id != id) = false := by simp
  go_enter Tryz.func177, Tryz.ntmps177
  go_upto_region 1 with fail
  generalize w.alloc (.cells #[.int .i64 kd, .int .i64 id, .int .i64 me, .int .i64 at1, .int .i64 pr, .bool true, .int .i64 ee, .int .i64 ki, .int .i64 pe, .slice a m c1] 137) = w0 at *
  have C0 := blk_regrown b0
  have C1 := blk_regrown b1
  refine wp_region_quiet_below (by kernel_rfl) (by kernel_rfl) ?_
  repeat (go_big_quiet_step ((go_at_call 121; exact calls_regrown_same (in_yes kd 1 2 _ hk))))
  refine wpQuiet_nil ?_
  rintro w2 hn2
  replace hn2 := new_of_regrown hn2
  have hw2 := hw.trans hn2
  have b2 := b1.new hn2
  have c2 := b2.cells
  clear C0 C1
  go_wp2_with fail
  refine (sepoch_yes me _ hme).mono ?_
  rintro e wz ⟨rfl, hwz⟩
  obtain rfl := hwz.symm
  go_wp2_with fail
  refine (in_yes at1 0 100 _ hat).mono ?_
  rintro e wz ⟨rfl, hwz⟩
  obtain rfl := hwz.symm
  go_wp2_with fail
  refine (in_yes pr 0 1000 _ hpr).mono ?_
  rintro e wz ⟨rfl, hwz⟩
  obtain rfl := hwz.symm
  go_wp2_with fail
  refine (form_y kd id me at1 pr true ee ki pe a m c1 _ hm hkk (by omega) hf).mono ?_
  rintro e w3 ⟨rfl, hn3⟩
  have b3 := b2.new hn3
  have c3 := b3.cells
  have hw3 := hw2.trans hn3
  go_wp2_with fail
  refine (specENv v ee ki pe a m c1 _ hm he).mono ?_
  rintro e w4 ⟨rfl, hn4⟩
  have c4 := (b3.new hn4).cells
  go_wp2
  go_ret
  exact ⟨rfl, hw3.trans hn4⟩

set_option maxHeartbeats 1600000 in
theorem lm9_a (B : Nat) (id : Int) (up : Bool) (ro ep su ma ot co : Int) (A : Option Addr) (n c : Nat) (kd me at1 pr : Int) (ee ki pe : Int) (a : Option Addr) (m c1 : Nat) (w : World) (hb : Blk w B 108 #[.int .i64 id, .bool up, .int .i64 ro, .int .i64 ep, .slice A n c, .int .i64 su, .int .i64 ma, .int .i64 ot, .int .i64 co, vx0, vx1, vx2, vx3, vx4, vx5, vx6, vx7, vx8]) (hm : m ≤ 1048576) (hk : 1 ≤ kd ∧ kd ≤ 2) (hme : 1 ≤ me ∧ me ≤ 1000) (hat : 0 ≤ at1 ∧ at1 ≤ 100) (hpr : 0 ≤ pr ∧ pr ≤ 1000) (hkk : kd = 1 ∨ kd = 2) (hf : Fo kd me at1 pr true ee ki pe m) (he : enF ee ki pe m = 0) (h1 : me < ee) :
    Calls Tryz.prog 177 #[.pointer (some ⟨B, 0, none⟩), .agg #[.int .i64 kd, .int .i64 id, .int .i64 me, .int .i64 at1, .int .i64 pr, .bool true, .int .i64 ee, .int .i64 ki, .int .i64 pe, .slice a m c1]] w fun e w' => e = .returned (.int .i64 1) ∧ New w w' := by
  have hw := (New.refl w).alloc (.cells #[.int .i64 kd, .int .i64 id, .int .i64 me, .int .i64 at1, .int .i64 pr, .bool true, .int .i64 ee, .int .i64 ki, .int .i64 pe, .slice a m c1] 137)
  have b0 := hb.new hw
  have b1 := Blk.mk w w.heap.size 137 #[.int .i64 kd, .int .i64 id, .int .i64 me, .int .i64 at1, .int .i64 pr, .bool true, .int .i64 ee, .int .i64 ki, .int .i64 pe, .slice a m c1] rfl
  have kt : (id != id) = false := by simp
  go_enter Tryz.func177, Tryz.ntmps177
  go_upto_region 1 with fail
  generalize w.alloc (.cells #[.int .i64 kd, .int .i64 id, .int .i64 me, .int .i64 at1, .int .i64 pr, .bool true, .int .i64 ee, .int .i64 ki, .int .i64 pe, .slice a m c1] 137) = w0 at *
  have C0 := blk_regrown b0
  have C1 := blk_regrown b1
  refine wp_region_quiet_below (by kernel_rfl) (by kernel_rfl) ?_
  repeat (go_big_quiet_step ((go_at_call 121; exact calls_regrown_same (in_yes kd 1 2 _ hk))))
  refine wpQuiet_nil ?_
  rintro w2 hn2
  replace hn2 := new_of_regrown hn2
  have hw2 := hw.trans hn2
  have b2 := b1.new hn2
  have c2 := b2.cells
  clear C0 C1
  go_wp2_with fail
  refine (sepoch_yes me _ hme).mono ?_
  rintro e wz ⟨rfl, hwz⟩
  obtain rfl := hwz.symm
  go_wp2_with fail
  refine (in_yes at1 0 100 _ hat).mono ?_
  rintro e wz ⟨rfl, hwz⟩
  obtain rfl := hwz.symm
  go_wp2_with fail
  refine (in_yes pr 0 1000 _ hpr).mono ?_
  rintro e wz ⟨rfl, hwz⟩
  obtain rfl := hwz.symm
  go_wp2_with fail
  refine (form_y kd id me at1 pr true ee ki pe a m c1 _ hm hkk (by omega) hf).mono ?_
  rintro e w3 ⟨rfl, hn3⟩
  have b3 := b2.new hn3
  have c3 := b3.cells
  have hw3 := hw2.trans hn3
  go_wp2_with fail
  refine (specENv 0 ee ki pe a m c1 _ hm he).mono ?_
  rintro e w4 ⟨rfl, hn4⟩
  have c4 := (b3.new hn4).cells
  go_wp2
  go_ret
  exact ⟨rfl, hw3.trans hn4⟩

set_option maxHeartbeats 1600000 in
theorem lmA_a (B : Nat) (id : Int) (up : Bool) (ro ep su ma ot co : Int) (A : Option Addr) (n c : Nat) (kd me at1 pr : Int) (ee ki pe : Int) (a : Option Addr) (m c1 : Nat) (w : World) (hb : Blk w B 108 #[.int .i64 id, .bool up, .int .i64 ro, .int .i64 ep, .slice A n c, .int .i64 su, .int .i64 ma, .int .i64 ot, .int .i64 co, vx0, vx1, vx2, vx3, vx4, vx5, vx6, vx7, vx8]) (hm : m ≤ 1048576) (hk : 1 ≤ kd ∧ kd ≤ 2) (hme : 1 ≤ me ∧ me ≤ 1000) (hat : 0 ≤ at1 ∧ at1 ≤ 100) (hpr : 0 ≤ pr ∧ pr ≤ 1000) (hkk : kd = 1 ∨ kd = 2) (hf : Fo kd me at1 pr true ee ki pe m) (he : enF ee ki pe m = 0) (h1 : ¬ me < ee) (h2 : ee < pr) :
    Calls Tryz.prog 177 #[.pointer (some ⟨B, 0, none⟩), .agg #[.int .i64 kd, .int .i64 id, .int .i64 me, .int .i64 at1, .int .i64 pr, .bool true, .int .i64 ee, .int .i64 ki, .int .i64 pe, .slice a m c1]] w fun e w' => e = .returned (.int .i64 1) ∧ New w w' := by
  have hw := (New.refl w).alloc (.cells #[.int .i64 kd, .int .i64 id, .int .i64 me, .int .i64 at1, .int .i64 pr, .bool true, .int .i64 ee, .int .i64 ki, .int .i64 pe, .slice a m c1] 137)
  have b0 := hb.new hw
  have b1 := Blk.mk w w.heap.size 137 #[.int .i64 kd, .int .i64 id, .int .i64 me, .int .i64 at1, .int .i64 pr, .bool true, .int .i64 ee, .int .i64 ki, .int .i64 pe, .slice a m c1] rfl
  have kt : (id != id) = false := by simp
  go_enter Tryz.func177, Tryz.ntmps177
  go_upto_region 1 with fail
  generalize w.alloc (.cells #[.int .i64 kd, .int .i64 id, .int .i64 me, .int .i64 at1, .int .i64 pr, .bool true, .int .i64 ee, .int .i64 ki, .int .i64 pe, .slice a m c1] 137) = w0 at *
  have C0 := blk_regrown b0
  have C1 := blk_regrown b1
  refine wp_region_quiet_below (by kernel_rfl) (by kernel_rfl) ?_
  repeat (go_big_quiet_step ((go_at_call 121; exact calls_regrown_same (in_yes kd 1 2 _ hk))))
  refine wpQuiet_nil ?_
  rintro w2 hn2
  replace hn2 := new_of_regrown hn2
  have hw2 := hw.trans hn2
  have b2 := b1.new hn2
  have c2 := b2.cells
  clear C0 C1
  go_wp2_with fail
  refine (sepoch_yes me _ hme).mono ?_
  rintro e wz ⟨rfl, hwz⟩
  obtain rfl := hwz.symm
  go_wp2_with fail
  refine (in_yes at1 0 100 _ hat).mono ?_
  rintro e wz ⟨rfl, hwz⟩
  obtain rfl := hwz.symm
  go_wp2_with fail
  refine (in_yes pr 0 1000 _ hpr).mono ?_
  rintro e wz ⟨rfl, hwz⟩
  obtain rfl := hwz.symm
  go_wp2_with fail
  refine (form_y kd id me at1 pr true ee ki pe a m c1 _ hm hkk (by omega) hf).mono ?_
  rintro e w3 ⟨rfl, hn3⟩
  have b3 := b2.new hn3
  have c3 := b3.cells
  have hw3 := hw2.trans hn3
  go_wp2_with fail
  refine (specENv 0 ee ki pe a m c1 _ hm he).mono ?_
  rintro e w4 ⟨rfl, hn4⟩
  have c4 := (b3.new hn4).cells
  go_wp2
  go_ret
  exact ⟨rfl, hw3.trans hn4⟩

set_option maxHeartbeats 1600000 in
theorem lmB_a (B : Nat) (id : Int) (up : Bool) (ro ep su ma ot co : Int) (A : Option Addr) (n c : Nat) (kd me at1 pr : Int) (ee ki pe : Int) (a : Option Addr) (m c1 : Nat) (w : World) (hb : Blk w B 108 #[.int .i64 id, .bool up, .int .i64 ro, .int .i64 ep, .slice A n c, .int .i64 su, .int .i64 ma, .int .i64 ot, .int .i64 co, vx0, vx1, vx2, vx3, vx4, vx5, vx6, vx7, vx8]) (hm : m ≤ 1048576) (hk : 1 ≤ kd ∧ kd ≤ 2) (hme : 1 ≤ me ∧ me ≤ 1000) (hat : 0 ≤ at1 ∧ at1 ≤ 100) (hpr : 0 ≤ pr ∧ pr ≤ 1000) (hkk : kd = 1 ∨ kd = 2) (hf : Fo kd me at1 pr true ee ki pe m) (he : enF ee ki pe m = 0) (h1 : ¬ me < ee) (h2 : ¬ ee < pr) :
    Calls Tryz.prog 177 #[.pointer (some ⟨B, 0, none⟩), .agg #[.int .i64 kd, .int .i64 id, .int .i64 me, .int .i64 at1, .int .i64 pr, .bool true, .int .i64 ee, .int .i64 ki, .int .i64 pe, .slice a m c1]] w fun e w' => e = .returned (.int .i64 0) ∧ New w w' := by
  have hw := (New.refl w).alloc (.cells #[.int .i64 kd, .int .i64 id, .int .i64 me, .int .i64 at1, .int .i64 pr, .bool true, .int .i64 ee, .int .i64 ki, .int .i64 pe, .slice a m c1] 137)
  have b0 := hb.new hw
  have b1 := Blk.mk w w.heap.size 137 #[.int .i64 kd, .int .i64 id, .int .i64 me, .int .i64 at1, .int .i64 pr, .bool true, .int .i64 ee, .int .i64 ki, .int .i64 pe, .slice a m c1] rfl
  have kt : (id != id) = false := by simp
  go_enter Tryz.func177, Tryz.ntmps177
  go_upto_region 1 with fail
  generalize w.alloc (.cells #[.int .i64 kd, .int .i64 id, .int .i64 me, .int .i64 at1, .int .i64 pr, .bool true, .int .i64 ee, .int .i64 ki, .int .i64 pe, .slice a m c1] 137) = w0 at *
  have C0 := blk_regrown b0
  have C1 := blk_regrown b1
  refine wp_region_quiet_below (by kernel_rfl) (by kernel_rfl) ?_
  repeat (go_big_quiet_step ((go_at_call 121; exact calls_regrown_same (in_yes kd 1 2 _ hk))))
  refine wpQuiet_nil ?_
  rintro w2 hn2
  replace hn2 := new_of_regrown hn2
  have hw2 := hw.trans hn2
  have b2 := b1.new hn2
  have c2 := b2.cells
  clear C0 C1
  go_wp2_with fail
  refine (sepoch_yes me _ hme).mono ?_
  rintro e wz ⟨rfl, hwz⟩
  obtain rfl := hwz.symm
  go_wp2_with fail
  refine (in_yes at1 0 100 _ hat).mono ?_
  rintro e wz ⟨rfl, hwz⟩
  obtain rfl := hwz.symm
  go_wp2_with fail
  refine (in_yes pr 0 1000 _ hpr).mono ?_
  rintro e wz ⟨rfl, hwz⟩
  obtain rfl := hwz.symm
  go_wp2_with fail
  refine (form_y kd id me at1 pr true ee ki pe a m c1 _ hm hkk (by omega) hf).mono ?_
  rintro e w3 ⟨rfl, hn3⟩
  have b3 := b2.new hn3
  have c3 := b3.cells
  have hw3 := hw2.trans hn3
  go_wp2_with fail
  refine (specENv 0 ee ki pe a m c1 _ hm he).mono ?_
  rintro e w4 ⟨rfl, hn4⟩
  have c4 := (b3.new hn4).cells
  go_wp2
  go_ret
  exact ⟨rfl, hw3.trans hn4⟩

theorem l12M_any_a (B : Nat) (id : Int) (up : Bool) (ro ep su ma ot co : Int) (A : Option Addr) (n c : Nat) (kd tgt me at1 pr : Int) (has : Bool) (ee ki pe : Int) (a : Option Addr) (m c1 : Nat) (w : World) (hb : Blk w B 108 #[.int .i64 id, .bool up, .int .i64 ro, .int .i64 ep, .slice A n c, .int .i64 su, .int .i64 ma, .int .i64 ot, .int .i64 co, vx0, vx1, vx2, vx3, vx4, vx5, vx6, vx7, vx8]) (hm : m ≤ 1048576) :
    Calls Tryz.prog 177 #[.pointer (some ⟨B, 0, none⟩), .agg #[.int .i64 kd, .int .i64 tgt, .int .i64 me, .int .i64 at1, .int .i64 pr, .bool has, .int .i64 ee, .int .i64 ki, .int .i64 pe, .slice a m c1]] w fun e w' => e = .returned (.int .i64 (mlF id kd tgt me at1 pr has ee ki pe m)) ∧ New w w' := by
  unfold mlF
  by_cases hk : kd = 1 ∨ kd = 2
  case neg => rw [if_pos (fun k => hk k.1)]; exact lm1_a B id up ro ep su ma ot co A n c kd tgt me at1 pr has ee ki pe a m c1 w hb hm (by omega)
  have hk' : 1 ≤ kd ∧ kd ≤ 2 := by omega
  by_cases ht : tgt = id
  case neg => rw [if_pos (fun k => ht k.2)]; exact lm2_a B id up ro ep su ma ot co A n c kd tgt me at1 pr has ee ki pe a m c1 w hb hm hk' ht
  rw [if_neg (fun k => k ⟨hk, ht⟩)]
  subst ht
  by_cases hme : 1 ≤ me ∧ me ≤ 1000
  case neg => rw [if_pos (fun k => hme k.1)]; exact lm3_a B tgt up ro ep su ma ot co A n c kd me at1 pr has ee ki pe a m c1 w hb hm hk' (by omega)
  by_cases hat : 0 ≤ at1 ∧ at1 ≤ 100
  case neg => rw [if_pos (fun k => hat k.2.1)]; exact lm4_a B tgt up ro ep su ma ot co A n c kd me at1 pr has ee ki pe a m c1 w hb hm hk' hme (by omega)
  by_cases hpr : 0 ≤ pr ∧ pr ≤ 1000
  case neg => rw [if_pos (fun k => hpr k.2.2)]; exact lm5_a B tgt up ro ep su ma ot co A n c kd me at1 pr has ee ki pe a m c1 w hb hm hk' hme hat (by omega)
  rw [if_neg (fun k => k ⟨hme, hat, hpr⟩)]
  by_cases hf : (kd = 2 → pr = 0) ∧ (kd ≠ 2 → ((at1 = 0 → pr = 0) ∧ (pr = 0 → at1 = 0)) ∧ pr ≤ me)
  case neg => rw [if_pos hf]; exact lm6_a B tgt up ro ep su ma ot co A n c kd me at1 pr has ee ki pe a m c1 w hb hm hk' hme hat hpr hk (fun k => hf k.1)
  rw [if_neg (fun k => k hf)]
  cases has with
  | true =>
    rcases hk with rfl | rfl
    · rw [if_pos ⟨rfl, rfl⟩]
      have hF : Fo 1 me at1 pr true ee ki pe m := ⟨hf, .inl ⟨rfl, rfl⟩⟩
      unfold efF
      by_cases he : enF ee ki pe m = 0
      · rw [if_neg (fun k => k he)]
        by_cases h1 : me < ee
        · rw [if_pos (.inl h1)]; exact lm9_a B tgt up ro ep su ma ot co A n c 1 me at1 pr ee ki pe a m c1 w hb hm hk' hme hat hpr (.inl rfl) hF he h1
        · by_cases h2 : ee < pr
          · rw [if_pos (.inr h2)]; exact lmA_a B tgt up ro ep su ma ot co A n c 1 me at1 pr ee ki pe a m c1 w hb hm hk' hme hat hpr (.inl rfl) hF he h1 h2
          · rw [if_neg (by omega)]; exact lmB_a B tgt up ro ep su ma ot co A n c 1 me at1 pr ee ki pe a m c1 w hb hm hk' hme hat hpr (.inl rfl) hF he h1 h2
      · rw [if_pos he]; exact lm8_a B tgt up ro ep su ma ot co A n c 1 me at1 pr ee ki pe a m c1 w hb hm hk' hme hat hpr (.inl rfl) hF _ rfl he
    · rw [if_neg (by omega), if_pos (.inl rfl)]
      exact lm6_a B tgt up ro ep su ma ot co A n c 2 me at1 pr true ee ki pe a m c1 w hb hm hk' hme hat hpr (.inr rfl) (fun k => by rcases k.2 with ⟨e, -⟩ | ⟨e, -⟩; omega; cases e)
  | false =>
    rw [if_neg (by simp)]
    by_cases hz : ee = 0 ∧ ki = 0 ∧ pe = 0 ∧ m = 0
    · rw [if_neg (fun k => by rcases k with k | k; cases k; exact k hz)]
      exact lm7_a B tgt up ro ep su ma ot co A n c kd me at1 pr ee ki pe a m c1 w hb hm hk' hme hat hpr hk ⟨hf, .inr ⟨rfl, hz⟩⟩
    · rw [if_pos (.inr hz)]
      exact lm6_a B tgt up ro ep su ma ot co A n c kd me at1 pr false ee ki pe a m c1 w hb hm hk' hme hat hpr hk (fun k => by rcases k.2 with ⟨-, e⟩ | ⟨-, e⟩; cases e; exact hz e)

end Go.Proofs.YtebkdaddndlmoaaGreat
