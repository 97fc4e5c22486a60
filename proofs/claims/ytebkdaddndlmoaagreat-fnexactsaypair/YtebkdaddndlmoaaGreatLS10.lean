/- What is proved here: what the model's judging of a mail answers, for every mail of at most 1048576 bytes. What is proved here: what MailFault answers, both sides; how mails are copied and come in, for every mail of at most 1048576 bytes. -/
import Derived.Test.YtebkdaddndlmoaaGreatLS9
namespace Go.Proofs.YtebkdaddndlmoaaGreat
open Go.RowKit Go.Sort
set_option linter.unusedVariables false
set_option linter.unusedSimpArgs false
set_option maxRecDepth 100000

theorem sz_yes (a : Option Addr) (c1 : Nat) (w : World) : Calls Tryz.prog 209 #[.agg #[.int .i64 0, .int .i64 0, .int .i64 0, .slice a 0 c1]] w fun e w' => e = .returned (.bool true) ∧ New w w' := by
  go_enter Tryz.func209, Tryz.ntmps209
  go_wp2
  go_ret
  exact ⟨rfl, (New.refl w).alloc _⟩
theorem sz_no (ee ki pe : Int) (a : Option Addr) (m c1 : Nat) (w : World) (hm : m ≤ 1048576) (h : ¬ Zr ee ki pe m) : Calls Tryz.prog 209 #[.agg #[.int .i64 ee, .int .i64 ki, .int .i64 pe, .slice a m c1]] w fun e w' => e = .returned (.bool false) ∧ New w w' := by
  by_cases h1 : ee = 0
  case neg =>
    have g : (ee == 0) = false := by simp [h1]
    clear h
    go_enter Tryz.func209, Tryz.ntmps209
    go_wp2
    go_ret
    exact ⟨rfl, (New.refl w).alloc _⟩
  by_cases h2 : ki = 0
  case neg =>
    have g : (ki == 0) = false := by simp [h2]
    clear h
    subst h1
    go_enter Tryz.func209, Tryz.ntmps209
    go_wp2
    go_ret
    exact ⟨rfl, (New.refl w).alloc _⟩
  by_cases h3 : pe = 0
  case neg =>
    have g : (pe == 0) = false := by simp [h3]
    clear h
    subst h1 h2
    go_enter Tryz.func209, Tryz.ntmps209
    go_wp2
    go_ret
    exact ⟨rfl, (New.refl w).alloc _⟩
  have h4 : ¬ m = 0 := fun e => h ⟨h1, h2, h3, e⟩
  have g : ((m : Int) == 0) = false := by simp [h4]
  clear h
  subst h1 h2 h3
  go_enter Tryz.func209, Tryz.ntmps209
  go_wp2
  go_ret
  exact ⟨rfl, (New.refl w).alloc _⟩

set_option maxHeartbeats 800000 in
theorem fo1 (tgt me at1 pr : Int) (ee ki pe : Int) (a : Option Addr) (m c1 : Nat) (w : World) (hm : m ≤ 1048576) :
    Calls Tryz.prog 197 #[.agg #[.int .i64 2, .int .i64 tgt, .int .i64 me, .int .i64 at1, .int .i64 pr, .bool true, .int .i64 ee, .int .i64 ki, .int .i64 pe, .slice a m c1]] w fun e w' => e = .returned (.bool false) ∧ New w w' := by
  have hw := (New.refl w).alloc (.cells #[.int .i64 2, .int .i64 tgt, .int .i64 me, .int .i64 at1, .int .i64 pr, .bool true, .int .i64 ee, .int .i64 ki, .int .i64 pe, .slice a m c1] 137)
  have b1 := Blk.mk w w.heap.size 137 #[.int .i64 2, .int .i64 tgt, .int .i64 me, .int .i64 at1, .int .i64 pr, .bool true, .int .i64 ee, .int .i64 ki, .int .i64 pe, .slice a m c1] rfl
  go_enter Tryz.func197, Tryz.ntmps197
  go_wp2
  go_ret
  exact ⟨rfl, hw⟩

set_option maxHeartbeats 800000 in
theorem fo2 (tgt me at1 pr : Int) (ee ki pe : Int) (a : Option Addr) (m c1 : Nat) (w : World) (hm : m ≤ 1048576) (hpr : ¬ pr = 0) :
    Calls Tryz.prog 197 #[.agg #[.int .i64 2, .int .i64 tgt, .int .i64 me, .int .i64 at1, .int .i64 pr, .bool false, .int .i64 ee, .int .i64 ki, .int .i64 pe, .slice a m c1]] w fun e w' => e = .returned (.bool false) ∧ New w w' := by
  have hw := (New.refl w).alloc (.cells #[.int .i64 2, .int .i64 tgt, .int .i64 me, .int .i64 at1, .int .i64 pr, .bool false, .int .i64 ee, .int .i64 ki, .int .i64 pe, .slice a m c1] 137)
  have b1 := Blk.mk w w.heap.size 137 #[.int .i64 2, .int .i64 tgt, .int .i64 me, .int .i64 at1, .int .i64 pr, .bool false, .int .i64 ee, .int .i64 ki, .int .i64 pe, .slice a m c1] rfl
  have gpr : (pr == 0) = false := by simp [hpr]
  go_enter Tryz.func197, Tryz.ntmps197
  go_wp2
  go_ret
  exact ⟨rfl, hw⟩

set_option maxHeartbeats 800000 in
theorem fo3 (tgt me at1 : Int) (ee ki pe : Int) (a : Option Addr) (m c1 : Nat) (w : World) (hm : m ≤ 1048576) (hz : ¬ Zr ee ki pe m) :
    Calls Tryz.prog 197 #[.agg #[.int .i64 2, .int .i64 tgt, .int .i64 me, .int .i64 at1, .int .i64 0, .bool false, .int .i64 ee, .int .i64 ki, .int .i64 pe, .slice a m c1]] w fun e w' => e = .returned (.bool false) ∧ New w w' := by
  have hw := (New.refl w).alloc (.cells #[.int .i64 2, .int .i64 tgt, .int .i64 me, .int .i64 at1, .int .i64 0, .bool false, .int .i64 ee, .int .i64 ki, .int .i64 pe, .slice a m c1] 137)
  have b1 := Blk.mk w w.heap.size 137 #[.int .i64 2, .int .i64 tgt, .int .i64 me, .int .i64 at1, .int .i64 0, .bool false, .int .i64 ee, .int .i64 ki, .int .i64 pe, .slice a m c1] rfl
  go_enter Tryz.func197, Tryz.ntmps197
  go_wp2_with fail
  refine (sz_no ee ki pe a m c1 _ hm hz).mono ?_
  rintro e w1 ⟨rfl, hn1⟩
  have c1x := (b1.new hn1).cells
  go_wp2
  go_ret
  exact ⟨rfl, hw.trans hn1⟩

set_option maxHeartbeats 800000 in
theorem fo4 (tgt me at1 : Int) (a : Option Addr) (c1 : Nat) (w : World) :
    Calls Tryz.prog 197 #[.agg #[.int .i64 2, .int .i64 tgt, .int .i64 me, .int .i64 at1, .int .i64 0, .bool false, .int .i64 0, .int .i64 0, .int .i64 0, .slice a 0 c1]] w fun e w' => e = .returned (.bool true) ∧ New w w' := by
  have hw := (New.refl w).alloc (.cells #[.int .i64 2, .int .i64 tgt, .int .i64 me, .int .i64 at1, .int .i64 0, .bool false, .int .i64 0, .int .i64 0, .int .i64 0, .slice a 0 c1] 137)
  have b1 := Blk.mk w w.heap.size 137 #[.int .i64 2, .int .i64 tgt, .int .i64 me, .int .i64 at1, .int .i64 0, .bool false, .int .i64 0, .int .i64 0, .int .i64 0, .slice a 0 c1] rfl
  go_enter Tryz.func197, Tryz.ntmps197
  go_wp2_with fail
  refine (sz_yes a c1 _).mono ?_
  rintro e w1 ⟨rfl, hn1⟩
  have c1x := (b1.new hn1).cells
  go_wp2
  go_ret
  exact ⟨rfl, hw.trans hn1⟩

set_option maxHeartbeats 800000 in
theorem fo5 (tgt me pr : Int) (has : Bool) (ee ki pe : Int) (a : Option Addr) (m c1 : Nat) (w : World) (hm : m ≤ 1048576) (hpr : ¬ pr = 0) :
    Calls Tryz.prog 197 #[.agg #[.int .i64 1, .int .i64 tgt, .int .i64 me, .int .i64 0, .int .i64 pr, .bool has, .int .i64 ee, .int .i64 ki, .int .i64 pe, .slice a m c1]] w fun e w' => e = .returned (.bool false) ∧ New w w' := by
  have hw := (New.refl w).alloc (.cells #[.int .i64 1, .int .i64 tgt, .int .i64 me, .int .i64 0, .int .i64 pr, .bool has, .int .i64 ee, .int .i64 ki, .int .i64 pe, .slice a m c1] 137)
  have b1 := Blk.mk w w.heap.size 137 #[.int .i64 1, .int .i64 tgt, .int .i64 me, .int .i64 0, .int .i64 pr, .bool has, .int .i64 ee, .int .i64 ki, .int .i64 pe, .slice a m c1] rfl
  have gpr : (pr == 0) = false := by simp [hpr]
  go_enter Tryz.func197, Tryz.ntmps197
  go_wp2
  go_ret
  exact ⟨rfl, hw⟩

set_option maxHeartbeats 800000 in
theorem fo6 (tgt me at1 : Int) (has : Bool) (ee ki pe : Int) (a : Option Addr) (m c1 : Nat) (w : World) (hm : m ≤ 1048576) (hat1 : ¬ at1 = 0) :
    Calls Tryz.prog 197 #[.agg #[.int .i64 1, .int .i64 tgt, .int .i64 me, .int .i64 at1, .int .i64 0, .bool has, .int .i64 ee, .int .i64 ki, .int .i64 pe, .slice a m c1]] w fun e w' => e = .returned (.bool false) ∧ New w w' := by
  have hw := (New.refl w).alloc (.cells #[.int .i64 1, .int .i64 tgt, .int .i64 me, .int .i64 at1, .int .i64 0, .bool has, .int .i64 ee, .int .i64 ki, .int .i64 pe, .slice a m c1] 137)
  have b1 := Blk.mk w w.heap.size 137 #[.int .i64 1, .int .i64 tgt, .int .i64 me, .int .i64 at1, .int .i64 0, .bool has, .int .i64 ee, .int .i64 ki, .int .i64 pe, .slice a m c1] rfl
  have gat1 : (at1 == 0) = false := by simp [hat1]
  go_enter Tryz.func197, Tryz.ntmps197
  go_wp2
  go_ret
  exact ⟨rfl, hw⟩

set_option maxHeartbeats 800000 in
theorem fo7 (tgt me : Int) (ee ki pe : Int) (a : Option Addr) (m c1 : Nat) (w : World) (hm : m ≤ 1048576) (hme : 0 ≤ me) :
    Calls Tryz.prog 197 #[.agg #[.int .i64 1, .int .i64 tgt, .int .i64 me, .int .i64 0, .int .i64 0, .bool true, .int .i64 ee, .int .i64 ki, .int .i64 pe, .slice a m c1]] w fun e w' => e = .returned (.bool true) ∧ New w w' := by
  have hw := (New.refl w).alloc (.cells #[.int .i64 1, .int .i64 tgt, .int .i64 me, .int .i64 0, .int .i64 0, .bool true, .int .i64 ee, .int .i64 ki, .int .i64 pe, .slice a m c1] 137)
  have b1 := Blk.mk w w.heap.size 137 #[.int .i64 1, .int .i64 tgt, .int .i64 me, .int .i64 0, .int .i64 0, .bool true, .int .i64 ee, .int .i64 ki, .int .i64 pe, .slice a m c1] rfl
  go_enter Tryz.func197, Tryz.ntmps197
  go_wp2
  go_ret
  exact ⟨rfl, hw⟩

set_option maxHeartbeats 800000 in
theorem fo8 (tgt me at1 pr : Int) (ee ki pe : Int) (a : Option Addr) (m c1 : Nat) (w : World) (hm : m ≤ 1048576) (hat1 : ¬ at1 = 0) (hpr : ¬ pr = 0) (hle : pr ≤ me) :
    Calls Tryz.prog 197 #[.agg #[.int .i64 1, .int .i64 tgt, .int .i64 me, .int .i64 at1, .int .i64 pr, .bool true, .int .i64 ee, .int .i64 ki, .int .i64 pe, .slice a m c1]] w fun e w' => e = .returned (.bool true) ∧ New w w' := by
  have hw := (New.refl w).alloc (.cells #[.int .i64 1, .int .i64 tgt, .int .i64 me, .int .i64 at1, .int .i64 pr, .bool true, .int .i64 ee, .int .i64 ki, .int .i64 pe, .slice a m c1] 137)
  have b1 := Blk.mk w w.heap.size 137 #[.int .i64 1, .int .i64 tgt, .int .i64 me, .int .i64 at1, .int .i64 pr, .bool true, .int .i64 ee, .int .i64 ki, .int .i64 pe, .slice a m c1] rfl
  have gat1 : (at1 == 0) = false := by simp [hat1]
  have gpr : (pr == 0) = false := by simp [hpr]
  go_enter Tryz.func197, Tryz.ntmps197
  go_wp2
  go_ret
  exact ⟨rfl, hw⟩

set_option maxHeartbeats 800000 in
theorem fo9 (tgt me at1 pr : Int) (ee ki pe : Int) (a : Option Addr) (m c1 : Nat) (w : World) (hm : m ≤ 1048576) (hat1 : ¬ at1 = 0) (hpr : ¬ pr = 0) (hle : ¬ pr ≤ me) :
    Calls Tryz.prog 197 #[.agg #[.int .i64 1, .int .i64 tgt, .int .i64 me, .int .i64 at1, .int .i64 pr, .bool true, .int .i64 ee, .int .i64 ki, .int .i64 pe, .slice a m c1]] w fun e w' => e = .returned (.bool false) ∧ New w w' := by
  have hw := (New.refl w).alloc (.cells #[.int .i64 1, .int .i64 tgt, .int .i64 me, .int .i64 at1, .int .i64 pr, .bool true, .int .i64 ee, .int .i64 ki, .int .i64 pe, .slice a m c1] 137)
  have b1 := Blk.mk w w.heap.size 137 #[.int .i64 1, .int .i64 tgt, .int .i64 me, .int .i64 at1, .int .i64 pr, .bool true, .int .i64 ee, .int .i64 ki, .int .i64 pe, .slice a m c1] rfl
  have gat1 : (at1 == 0) = false := by simp [hat1]
  have gpr : (pr == 0) = false := by simp [hpr]
  have gle : decide (pr ≤ me) = false := decide_eq_false hle
  go_enter Tryz.func197, Tryz.ntmps197
  go_wp2
  go_ret
  exact ⟨rfl, hw⟩

set_option maxHeartbeats 800000 in
theorem foA (tgt me : Int) (ee ki pe : Int) (a : Option Addr) (m c1 : Nat) (w : World) (hm : m ≤ 1048576) (hz : ¬ Zr ee ki pe m) :
    Calls Tryz.prog 197 #[.agg #[.int .i64 1, .int .i64 tgt, .int .i64 me, .int .i64 0, .int .i64 0, .bool false, .int .i64 ee, .int .i64 ki, .int .i64 pe, .slice a m c1]] w fun e w' => e = .returned (.bool false) ∧ New w w' := by
  have hw := (New.refl w).alloc (.cells #[.int .i64 1, .int .i64 tgt, .int .i64 me, .int .i64 0, .int .i64 0, .bool false, .int .i64 ee, .int .i64 ki, .int .i64 pe, .slice a m c1] 137)
  have b1 := Blk.mk w w.heap.size 137 #[.int .i64 1, .int .i64 tgt, .int .i64 me, .int .i64 0, .int .i64 0, .bool false, .int .i64 ee, .int .i64 ki, .int .i64 pe, .slice a m c1] rfl
  go_enter Tryz.func197, Tryz.ntmps197
  go_wp2_with fail
  refine (sz_no ee ki pe a m c1 _ hm hz).mono ?_
  rintro e w1 ⟨rfl, hn1⟩
  have c1x := (b1.new hn1).cells
  go_wp2
  go_ret
  exact ⟨rfl, hw.trans hn1⟩

set_option maxHeartbeats 800000 in
theorem foB (tgt me : Int) (a : Option Addr) (c1 : Nat) (w : World) (hme : 0 ≤ me) :
    Calls Tryz.prog 197 #[.agg #[.int .i64 1, .int .i64 tgt, .int .i64 me, .int .i64 0, .int .i64 0, .bool false, .int .i64 0, .int .i64 0, .int .i64 0, .slice a 0 c1]] w fun e w' => e = .returned (.bool true) ∧ New w w' := by
  have hw := (New.refl w).alloc (.cells #[.int .i64 1, .int .i64 tgt, .int .i64 me, .int .i64 0, .int .i64 0, .bool false, .int .i64 0, .int .i64 0, .int .i64 0, .slice a 0 c1] 137)
  have b1 := Blk.mk w w.heap.size 137 #[.int .i64 1, .int .i64 tgt, .int .i64 me, .int .i64 0, .int .i64 0, .bool false, .int .i64 0, .int .i64 0, .int .i64 0, .slice a 0 c1] rfl
  go_enter Tryz.func197, Tryz.ntmps197
  go_wp2_with fail
  refine (sz_yes a c1 _).mono ?_
  rintro e w1 ⟨rfl, hn1⟩
  have c1x := (b1.new hn1).cells
  go_wp2
  go_ret
  exact ⟨rfl, hw.trans hn1⟩

set_option maxHeartbeats 800000 in
theorem foC (tgt me at1 pr : Int) (ee ki pe : Int) (a : Option Addr) (m c1 : Nat) (w : World) (hm : m ≤ 1048576) (hat1 : ¬ at1 = 0) (hpr : ¬ pr = 0) (hz : ¬ Zr ee ki pe m) :
    Calls Tryz.prog 197 #[.agg #[.int .i64 1, .int .i64 tgt, .int .i64 me, .int .i64 at1, .int .i64 pr, .bool false, .int .i64 ee, .int .i64 ki, .int .i64 pe, .slice a m c1]] w fun e w' => e = .returned (.bool false) ∧ New w w' := by
  have hw := (New.refl w).alloc (.cells #[.int .i64 1, .int .i64 tgt, .int .i64 me, .int .i64 at1, .int .i64 pr, .bool false, .int .i64 ee, .int .i64 ki, .int .i64 pe, .slice a m c1] 137)
  have b1 := Blk.mk w w.heap.size 137 #[.int .i64 1, .int .i64 tgt, .int .i64 me, .int .i64 at1, .int .i64 pr, .bool false, .int .i64 ee, .int .i64 ki, .int .i64 pe, .slice a m c1] rfl
  have gat1 : (at1 == 0) = false := by simp [hat1]
  have gpr : (pr == 0) = false := by simp [hpr]
  go_enter Tryz.func197, Tryz.ntmps197
  go_wp2_with fail
  refine (sz_no ee ki pe a m c1 _ hm hz).mono ?_
  rintro e w1 ⟨rfl, hn1⟩
  have c1x := (b1.new hn1).cells
  go_wp2
  go_ret
  exact ⟨rfl, hw.trans hn1⟩

set_option maxHeartbeats 800000 in
theorem foD (tgt me at1 pr : Int) (a : Option Addr) (c1 : Nat) (w : World) (hat1 : ¬ at1 = 0) (hpr : ¬ pr = 0) (hle : pr ≤ me) :
    Calls Tryz.prog 197 #[.agg #[.int .i64 1, .int .i64 tgt, .int .i64 me, .int .i64 at1, .int .i64 pr, .bool false, .int .i64 0, .int .i64 0, .int .i64 0, .slice a 0 c1]] w fun e w' => e = .returned (.bool true) ∧ New w w' := by
  have hw := (New.refl w).alloc (.cells #[.int .i64 1, .int .i64 tgt, .int .i64 me, .int .i64 at1, .int .i64 pr, .bool false, .int .i64 0, .int .i64 0, .int .i64 0, .slice a 0 c1] 137)
  have b1 := Blk.mk w w.heap.size 137 #[.int .i64 1, .int .i64 tgt, .int .i64 me, .int .i64 at1, .int .i64 pr, .bool false, .int .i64 0, .int .i64 0, .int .i64 0, .slice a 0 c1] rfl
  have gat1 : (at1 == 0) = false := by simp [hat1]
  have gpr : (pr == 0) = false := by simp [hpr]
  go_enter Tryz.func197, Tryz.ntmps197
  go_wp2_with fail
  refine (sz_yes a c1 _).mono ?_
  rintro e w1 ⟨rfl, hn1⟩
  have c1x := (b1.new hn1).cells
  go_wp2
  go_ret
  exact ⟨rfl, hw.trans hn1⟩

set_option maxHeartbeats 800000 in
theorem foE (tgt me at1 pr : Int) (a : Option Addr) (c1 : Nat) (w : World) (hat1 : ¬ at1 = 0) (hpr : ¬ pr = 0) (hle : ¬ pr ≤ me) :
    Calls Tryz.prog 197 #[.agg #[.int .i64 1, .int .i64 tgt, .int .i64 me, .int .i64 at1, .int .i64 pr, .bool false, .int .i64 0, .int .i64 0, .int .i64 0, .slice a 0 c1]] w fun e w' => e = .returned (.bool false) ∧ New w w' := by
  have hw := (New.refl w).alloc (.cells #[.int .i64 1, .int .i64 tgt, .int .i64 me, .int .i64 at1, .int .i64 pr, .bool false, .int .i64 0, .int .i64 0, .int .i64 0, .slice a 0 c1] 137)
  have b1 := Blk.mk w w.heap.size 137 #[.int .i64 1, .int .i64 tgt, .int .i64 me, .int .i64 at1, .int .i64 pr, .bool false, .int .i64 0, .int .i64 0, .int .i64 0, .slice a 0 c1] rfl
  have gat1 : (at1 == 0) = false := by simp [hat1]
  have gpr : (pr == 0) = false := by simp [hpr]
  have gle : decide (pr ≤ me) = false := decide_eq_false hle
  go_enter Tryz.func197, Tryz.ntmps197
  go_wp2_with fail
  refine (sz_yes a c1 _).mono ?_
  rintro e w1 ⟨rfl, hn1⟩
  have c1x := (b1.new hn1).cells
  go_wp2
  go_ret
  exact ⟨rfl, hw.trans hn1⟩

/-- What a mail of its kind has. -/
def Fo (kd me at1 pr : Int) (has : Bool) (ee ki pe : Int) (m : Nat) : Prop := Fp kd me at1 pr ∧ ((kd = 1 ∧ has = true) ∨ (has = false ∧ Zr ee ki pe m))
theorem form_y (kd tgt me at1 pr : Int) (has : Bool) (ee ki pe : Int) (a : Option Addr) (m c1 : Nat) (w : World) (hm : m ≤ 1048576) (hk : kd = 1 ∨ kd = 2) (hme : 0 ≤ me) (h : Fo kd me at1 pr has ee ki pe m) :
    Calls Tryz.prog 197 #[.agg #[.int .i64 kd, .int .i64 tgt, .int .i64 me, .int .i64 at1, .int .i64 pr, .bool has, .int .i64 ee, .int .i64 ki, .int .i64 pe, .slice a m c1]] w fun e w' => e = .returned (.bool true) ∧ New w w' := by
  obtain ⟨h1, h2⟩ := h
  rcases hk with rfl | rfl
  · obtain ⟨⟨p1, p2⟩, p3⟩ := h1.2 (by omega)
    rcases h2 with ⟨-, rfl⟩ | ⟨rfl, rfl, rfl, rfl, rfl⟩
    · by_cases ha : at1 = 0
      · obtain rfl := p1 ha
        subst ha
        exact fo7 tgt me ee ki pe a m c1 w hm hme
      · exact fo8 tgt me at1 pr ee ki pe a m c1 w hm ha (fun e => ha (p2 e)) p3
    · by_cases ha : at1 = 0
      · obtain rfl := p1 ha
        subst ha
        exact foB tgt me a c1 w hme
      · exact foD tgt me at1 pr a c1 w ha (fun e => ha (p2 e)) p3
  · obtain rfl := h1.1 rfl
    rcases h2 with ⟨h3, -⟩ | ⟨rfl, rfl, rfl, rfl, rfl⟩
    · omega
    · exact fo4 tgt me at1 a c1 w
theorem form_n (kd tgt me at1 pr : Int) (has : Bool) (ee ki pe : Int) (a : Option Addr) (m c1 : Nat) (w : World) (hm : m ≤ 1048576) (hk : kd = 1 ∨ kd = 2) (hme : 0 ≤ me) (h : ¬ Fo kd me at1 pr has ee ki pe m) :
    Calls Tryz.prog 197 #[.agg #[.int .i64 kd, .int .i64 tgt, .int .i64 me, .int .i64 at1, .int .i64 pr, .bool has, .int .i64 ee, .int .i64 ki, .int .i64 pe, .slice a m c1]] w fun e w' => e = .returned (.bool false) ∧ New w w' := by
  rcases hk with rfl | rfl
  · by_cases ha : at1 = 0
    · subst ha
      by_cases hp : pr = 0
      · subst hp
        have hF : Fp 1 me 0 0 := ⟨fun e => by omega, fun _ => ⟨⟨fun _ => rfl, fun _ => rfl⟩, hme⟩⟩
        cases has with
        | true => exact absurd ⟨hF, .inl ⟨rfl, rfl⟩⟩ h
        | false => exact foA tgt me ee ki pe a m c1 w hm (fun z => h ⟨hF, .inr ⟨rfl, z⟩⟩)
      · exact fo5 tgt me pr has ee ki pe a m c1 w hm hp
    · by_cases hp : pr = 0
      · subst hp
        exact fo6 tgt me at1 has ee ki pe a m c1 w hm ha
      · by_cases hle : pr ≤ me
        · have hF : Fp 1 me at1 pr := ⟨fun e => by omega, fun _ => ⟨⟨fun e => absurd e ha, fun e => absurd e hp⟩, hle⟩⟩
          cases has with
          | true => exact absurd ⟨hF, .inl ⟨rfl, rfl⟩⟩ h
          | false => exact foC tgt me at1 pr ee ki pe a m c1 w hm ha hp (fun z => h ⟨hF, .inr ⟨rfl, z⟩⟩)
        · cases has with
          | true => exact fo9 tgt me at1 pr ee ki pe a m c1 w hm ha hp hle
          | false =>
            by_cases hz : Zr ee ki pe m
            · obtain ⟨rfl, rfl, rfl, rfl⟩ := hz
              exact foE tgt me at1 pr a c1 w ha hp hle
            · exact foC tgt me at1 pr ee ki pe a m c1 w hm ha hp hz
  · cases has with
    | true => exact fo1 tgt me at1 pr ee ki pe a m c1 w hm
    | false =>
      by_cases hp : pr = 0
      · subst hp
        have hF : Fp 2 me at1 0 := ⟨fun _ => rfl, fun e => absurd rfl e⟩
        exact fo3 tgt me at1 ee ki pe a m c1 w hm (fun z => h ⟨hF, .inr ⟨rfl, z⟩⟩)
      · exact fo2 tgt me at1 pr ee ki pe a m c1 w hm hp

end Go.Proofs.YtebkdaddndlmoaaGreat

namespace Go.Proofs.YtebkdaddndlmoaaGreat
open Go.ChangeShapes Go.WideShapes Go.ChangeAt Go.RowKit Go.Deep Go.Sort
set_option linter.unusedVariables false
set_option linter.unusedSimpArgs false
set_option maxRecDepth 100000


theorem szMl_okZ (kd tgt me at1 pr : Int) (has : Bool) (ee ki pe : Int) (a : Option Addr) (m c1 : Nat) (k : Int) (w : World) (h0 : 0 ≤ k) (hk : k ≤ 1048576) (h : (m : Int) ≤ k) : Calls Tryz.prog 85 #[.agg #[.int .i64 kd, .int .i64 tgt, .int .i64 me, .int .i64 at1, .int .i64 pr, .bool has, .int .i64 ee, .int .i64 ki, .int .i64 pe, .slice a m c1], .int .i64 k] w fun e w' => e = .returned (.int .i64 (k - m)) ∧ New w w' := by
  have hw := (New.refl w).alloc (.cells #[.int .i64 kd, .int .i64 tgt, .int .i64 me, .int .i64 at1, .int .i64 pr, .bool has, .int .i64 ee, .int .i64 ki, .int .i64 pe, .slice a m c1] 124)
  go_enter Tryz.func85, Tryz.ntmps85
  go_wp2_with fail
  refine (szEk_okZ ee ki pe a m c1 k _ h0 hk h).mono ?_
  rintro e w1 ⟨rfl, hn1⟩
  go_wp2
  go_ret
  exact ⟨rfl, hw.trans hn1⟩
theorem szMl_bigZ (kd tgt me at1 pr : Int) (has : Bool) (ee ki pe : Int) (a : Option Addr) (m c1 : Nat) (k : Int) (w : World) (h0 : 0 ≤ k) (hk : k ≤ 1048576) (hm : m ≤ maxLen) (h : k < (m : Int)) : Calls Tryz.prog 85 #[.agg #[.int .i64 kd, .int .i64 tgt, .int .i64 me, .int .i64 at1, .int .i64 pr, .bool has, .int .i64 ee, .int .i64 ki, .int .i64 pe, .slice a m c1], .int .i64 k] w fun e w' => e = .returned (.int .i64 (-1)) ∧ New w w' := by
  have hw := (New.refl w).alloc (.cells #[.int .i64 kd, .int .i64 tgt, .int .i64 me, .int .i64 at1, .int .i64 pr, .bool has, .int .i64 ee, .int .i64 ki, .int .i64 pe, .slice a m c1] 124)
  go_enter Tryz.func85, Tryz.ntmps85
  go_wp2_with fail
  refine (szEk_bigZ ee ki pe a m c1 k _ h0 hk hm h).mono ?_
  rintro e w1 ⟨rfl, hn1⟩
  go_wp2
  go_ret
  exact ⟨rfl, hw.trans hn1⟩

set_option maxHeartbeats 3200000 in
theorem toMl_any (kd tgt me at1 pr : Int) (has : Bool) (ee ki pe : Int) (a : Option Addr) (m c1 : Nat) (zs : List Int) (w : World) (h : BsAt w a zs) (hn : zs.length = m) (hm : m ≤ 1048576) :
    Calls Tryz.prog 100 #[.agg #[.int .i64 kd, .int .i64 tgt, .int .i64 me, .int .i64 at1, .int .i64 pr, .bool has, .int .i64 ee, .int .i64 ki, .int .i64 pe, .slice a m c1]] w fun e w' => ∃ g, e = .returned (.agg #[.int .i64 kd, .int .i64 tgt, .int .i64 me, .int .i64 at1, .int .i64 pr, .bool has, .int .i64 ee, .int .i64 ki, .int .i64 pe, .slice (some ⟨g, 0, none⟩) m m]) ∧ w.heap.size ≤ g ∧ w'.ownsRow 0 5 1 (.slice (some ⟨g, 0, none⟩) m m) m (zs.map (Value.int .u8)) ∧ New w w' := by
  have hw0 : New w (((w.alloc (.cells #[.int .i64 kd, .int .i64 tgt, .int .i64 me, .int .i64 at1, .int .i64 pr, .bool has, .int .i64 ee, .int .i64 ki, .int .i64 pe, .slice a m c1] 124)).alloc (.cells #[.int .i64 0, .int .i64 0, .int .i64 0, .int .i64 0, .int .i64 0, .bool false, .int .i64 0, .int .i64 0, .int .i64 0, .slice none 0 0] 137)).alloc (.cells #[.int .i64 kd, .int .i64 tgt, .int .i64 me, .int .i64 at1, .int .i64 pr, .bool has, .int .i64 0, .int .i64 0, .int .i64 0, .slice none 0 0] 137)) := (((New.refl w).alloc _).alloc _).alloc _
  have b0 : Blk (((w.alloc (.cells #[.int .i64 kd, .int .i64 tgt, .int .i64 me, .int .i64 at1, .int .i64 pr, .bool has, .int .i64 ee, .int .i64 ki, .int .i64 pe, .slice a m c1] 124)).alloc (.cells #[.int .i64 0, .int .i64 0, .int .i64 0, .int .i64 0, .int .i64 0, .bool false, .int .i64 0, .int .i64 0, .int .i64 0, .slice none 0 0] 137)).alloc (.cells #[.int .i64 kd, .int .i64 tgt, .int .i64 me, .int .i64 at1, .int .i64 pr, .bool has, .int .i64 0, .int .i64 0, .int .i64 0, .slice none 0 0] 137)) w.heap.size 124 #[.int .i64 kd, .int .i64 tgt, .int .i64 me, .int .i64 at1, .int .i64 pr, .bool has, .int .i64 ee, .int .i64 ki, .int .i64 pe, .slice a m c1] := ((Blk.mk _ _ _ _ rfl).alloc _).alloc _
  have b1 : Blk (((w.alloc (.cells #[.int .i64 kd, .int .i64 tgt, .int .i64 me, .int .i64 at1, .int .i64 pr, .bool has, .int .i64 ee, .int .i64 ki, .int .i64 pe, .slice a m c1] 124)).alloc (.cells #[.int .i64 0, .int .i64 0, .int .i64 0, .int .i64 0, .int .i64 0, .bool false, .int .i64 0, .int .i64 0, .int .i64 0, .slice none 0 0] 137)).alloc (.cells #[.int .i64 kd, .int .i64 tgt, .int .i64 me, .int .i64 at1, .int .i64 pr, .bool has, .int .i64 0, .int .i64 0, .int .i64 0, .slice none 0 0] 137)) (w.heap.size + 1) 137 #[.int .i64 0, .int .i64 0, .int .i64 0, .int .i64 0, .int .i64 0, .bool false, .int .i64 0, .int .i64 0, .int .i64 0, .slice none 0 0] := (Blk.mk _ _ _ _ (by simp)).alloc _
  have b2 : Blk (((w.alloc (.cells #[.int .i64 kd, .int .i64 tgt, .int .i64 me, .int .i64 at1, .int .i64 pr, .bool has, .int .i64 ee, .int .i64 ki, .int .i64 pe, .slice a m c1] 124)).alloc (.cells #[.int .i64 0, .int .i64 0, .int .i64 0, .int .i64 0, .int .i64 0, .bool false, .int .i64 0, .int .i64 0, .int .i64 0, .slice none 0 0] 137)).alloc (.cells #[.int .i64 kd, .int .i64 tgt, .int .i64 me, .int .i64 at1, .int .i64 pr, .bool has, .int .i64 0, .int .i64 0, .int .i64 0, .slice none 0 0] 137)) (w.heap.size + 1 + 1) 137 #[.int .i64 kd, .int .i64 tgt, .int .i64 me, .int .i64 at1, .int .i64 pr, .bool has, .int .i64 0, .int .i64 0, .int .i64 0, .slice none 0 0] := Blk.mk _ _ _ _ (by simp)
  have s0 : Hid ((((w.alloc (.cells #[.int .i64 kd, .int .i64 tgt, .int .i64 me, .int .i64 at1, .int .i64 pr, .bool has, .int .i64 ee, .int .i64 ki, .int .i64 pe, .slice a m c1] 124)).alloc (.cells #[.int .i64 0, .int .i64 0, .int .i64 0, .int .i64 0, .int .i64 0, .bool false, .int .i64 0, .int .i64 0, .int .i64 0, .slice none 0 0] 137)).alloc (.cells #[.int .i64 kd, .int .i64 tgt, .int .i64 me, .int .i64 at1, .int .i64 pr, .bool has, .int .i64 0, .int .i64 0, .int .i64 0, .slice none 0 0] 137)).heap.size = w.heap.size + 1 + 1 + 1) := by unfold Hid; simp
  go_enter Tryz.func100, Tryz.ntmps100
  go_upto_region 8 with fail
  generalize (((w.alloc (.cells #[.int .i64 kd, .int .i64 tgt, .int .i64 me, .int .i64 at1, .int .i64 pr, .bool has, .int .i64 ee, .int .i64 ki, .int .i64 pe, .slice a m c1] 124)).alloc (.cells #[.int .i64 0, .int .i64 0, .int .i64 0, .int .i64 0, .int .i64 0, .bool false, .int .i64 0, .int .i64 0, .int .i64 0, .slice none 0 0] 137)).alloc (.cells #[.int .i64 kd, .int .i64 tgt, .int .i64 me, .int .i64 at1, .int .i64 pr, .bool has, .int .i64 0, .int .i64 0, .int .i64 0, .slice none 0 0] 137)) = w0 at *
  have c0 := b0.cells
  go_wp2_with fail
  refine (toEntry_any ee ki pe a m c1 zs _ (h.new hw0) hn hm).mono ?_
  rintro e w1 ⟨g, rfl, hg, ho, hn1⟩
  have n1 := hw0.trans hn1
  have B1 := b1.new hn1
  have B2 := b2.new hn1
  have c1' := B1.cells
  have f1 := B1.frees
  have c2 := B2.cells
  have f2 := B2.frees
  clear b0 b1 b2 hn1 hw0 h c0
  have S0 := s0.out
  go_wp2
  refine bodyPost_ret (v := .agg #[.int .i64 kd, .int .i64 tgt, .int .i64 me, .int .i64 at1, .int .i64 pr, .bool has, .int .i64 ee, .int .i64 ki, .int .i64 pe, .slice (some ⟨g, 0, none⟩) m m]) (by simp [results, Tryz.results100, go_sem, c1']) rfl ⟨g, rfl, by omega, ?_, ?_⟩
  · refine own_turn (S := fun i => i = w.heap.size + 1 ∨ i = w.heap.size + 1 + 1) ho ?_ (by omega)
    exact Turn.set (S := fun i => i = w.heap.size + 1 ∨ i = w.heap.size + 1 + 1) (Turn.set (S := fun i => i = w.heap.size + 1 ∨ i = w.heap.size + 1 + 1) (Turn.set (S := fun i => i = w.heap.size + 1 ∨ i = w.heap.size + 1 + 1) (Turn.set (S := fun i => i = w.heap.size + 1 ∨ i = w.heap.size + 1 + 1) (Turn.set (S := fun i => i = w.heap.size + 1 ∨ i = w.heap.size + 1 + 1) (Turn.set (S := fun i => i = w.heap.size + 1 ∨ i = w.heap.size + 1 + 1) (Turn.set (S := fun i => i = w.heap.size + 1 ∨ i = w.heap.size + 1 + 1) (Turn.set (S := fun i => i = w.heap.size + 1 ∨ i = w.heap.size + 1 + 1) (Turn.set (S := fun i => i = w.heap.size + 1 ∨ i = w.heap.size + 1 + 1) (Turn.set (S := fun i => i = w.heap.size + 1 ∨ i = w.heap.size + 1 + 1) (Turn.set (S := fun i => i = w.heap.size + 1 ∨ i = w.heap.size + 1 + 1) (Turn.set (S := fun i => i = w.heap.size + 1 ∨ i = w.heap.size + 1 + 1) (Turn.set (S := fun i => i = w.heap.size + 1 ∨ i = w.heap.size + 1 + 1) (Turn.set (S := fun i => i = w.heap.size + 1 ∨ i = w.heap.size + 1 + 1) (Turn.refl _ _) (Or.inr rfl) _) (Or.inr rfl) _) (Or.inr rfl) _) (Or.inr rfl) _) (Or.inl rfl) _) (Or.inl rfl) _) (Or.inl rfl) _) (Or.inl rfl) _) (Or.inl rfl) _) (Or.inl rfl) _) (Or.inl rfl) _) (Or.inl rfl) _) (Or.inl rfl) _) (Or.inl rfl) _
  · exact ((((((((((((((n1).setCell (by simp; try omega) _).setCell (by simp; try omega) _).setCell (by simp; try omega) _).setCell (by simp; try omega) _).setCell (by simp; try omega) _).setCell (by simp; try omega) _).setCell (by simp; try omega) _).setCell (by simp; try omega) _).setCell (by simp; try omega) _).setCell (by simp; try omega) _).setCell (by simp; try omega) _).setCell (by simp; try omega) _).setCell (by simp; try omega) _).setCell (by simp; try omega) _

theorem Tryz.cMl : Tryz.prog.cellsOf 124 = 10 := by kernel_rfl

end Go.Proofs.YtebkdaddndlmoaaGreat
