/- Lemmas and contracts of one law. -/
import Derived.Test.YtdbnmkffinhdjaaGreatLV9
namespace Go.Proofs.YtdbnmkffinhdjaaGreat
open Go.RowKit Go.Sort
set_option linter.unusedVariables false
set_option linter.unusedSimpArgs false
set_option maxRecDepth 100000
set_option maxHeartbeats 25600000

theorem sz_yes (a : Option Addr) (c1 : Nat) (w : World) : Calls Tryz.prog 179 #[.agg #[.int .i64 0, .int .i64 0, .int .i64 0, .slice a 0 c1]] w fun e w' => e = .returned (.bool true) ∧ New w w' := by
  go_enter Tryz.func179, Tryz.ntmps179
  go_wp2
  go_ret
  exact ⟨rfl, (New.refl w).alloc _⟩
theorem sz_no (ee ki pe : Int) (a : Option Addr) (m c1 : Nat) (w : World) (hm : m ≤ 1048576) (h : ¬ Zr ee ki pe m) : Calls Tryz.prog 179 #[.agg #[.int .i64 ee, .int .i64 ki, .int .i64 pe, .slice a m c1]] w fun e w' => e = .returned (.bool false) ∧ New w w' := by
  by_cases h1 : ee = 0
  case neg =>
    have g : (ee == 0) = false := by simp [h1]
    clear h
    go_enter Tryz.func179, Tryz.ntmps179
    go_wp2
    go_ret
    exact ⟨rfl, (New.refl w).alloc _⟩
  by_cases h2 : ki = 0
  case neg =>
    have g : (ki == 0) = false := by simp [h2]
    clear h
    subst h1
    go_enter Tryz.func179, Tryz.ntmps179
    go_wp2
    go_ret
    exact ⟨rfl, (New.refl w).alloc _⟩
  by_cases h3 : pe = 0
  case neg =>
    have g : (pe == 0) = false := by simp [h3]
    clear h
    subst h1 h2
    go_enter Tryz.func179, Tryz.ntmps179
    go_wp2
    go_ret
    exact ⟨rfl, (New.refl w).alloc _⟩
  have h4 : ¬ m = 0 := fun e => h ⟨h1, h2, h3, e⟩
  have g : ((m : Int) == 0) = false := by simp [h4]
  clear h
  subst h1 h2 h3
  go_enter Tryz.func179, Tryz.ntmps179
  go_wp2
  go_ret
  exact ⟨rfl, (New.refl w).alloc _⟩

theorem fo1 (tgt me at1 pr : Int) (ee ki pe : Int) (a : Option Addr) (m c1 : Nat) (w : World) (hm : m ≤ 1048576) :
    Calls Tryz.prog 152 #[.agg #[.int .i64 2, .int .i64 tgt, .int .i64 me, .int .i64 at1, .int .i64 pr, .bool true, .int .i64 ee, .int .i64 ki, .int .i64 pe, .slice a m c1]] w fun e w' => e = .returned (.bool false) ∧ New w w' := by
  have hw := (New.refl w).alloc (.cells #[.int .i64 2, .int .i64 tgt, .int .i64 me, .int .i64 at1, .int .i64 pr, .bool true, .int .i64 ee, .int .i64 ki, .int .i64 pe, .slice a m c1] 120)
  have b1 := Blk.mk w w.heap.size 120 #[.int .i64 2, .int .i64 tgt, .int .i64 me, .int .i64 at1, .int .i64 pr, .bool true, .int .i64 ee, .int .i64 ki, .int .i64 pe, .slice a m c1] rfl
  go_enter Tryz.func152, Tryz.ntmps152
  go_wp2
  go_ret
  exact ⟨rfl, hw⟩

theorem fo2 (tgt me at1 pr : Int) (ee ki pe : Int) (a : Option Addr) (m c1 : Nat) (w : World) (hm : m ≤ 1048576) (hpr : ¬ pr = 0) :
    Calls Tryz.prog 152 #[.agg #[.int .i64 2, .int .i64 tgt, .int .i64 me, .int .i64 at1, .int .i64 pr, .bool false, .int .i64 ee, .int .i64 ki, .int .i64 pe, .slice a m c1]] w fun e w' => e = .returned (.bool false) ∧ New w w' := by
  have hw := (New.refl w).alloc (.cells #[.int .i64 2, .int .i64 tgt, .int .i64 me, .int .i64 at1, .int .i64 pr, .bool false, .int .i64 ee, .int .i64 ki, .int .i64 pe, .slice a m c1] 120)
  have b1 := Blk.mk w w.heap.size 120 #[.int .i64 2, .int .i64 tgt, .int .i64 me, .int .i64 at1, .int .i64 pr, .bool false, .int .i64 ee, .int .i64 ki, .int .i64 pe, .slice a m c1] rfl
  have gpr : (pr == 0) = false := by simp [hpr]
  go_enter Tryz.func152, Tryz.ntmps152
  go_wp2
  go_ret
  exact ⟨rfl, hw⟩

theorem fo3 (tgt me at1 : Int) (ee ki pe : Int) (a : Option Addr) (m c1 : Nat) (w : World) (hm : m ≤ 1048576) (hz : ¬ Zr ee ki pe m) :
    Calls Tryz.prog 152 #[.agg #[.int .i64 2, .int .i64 tgt, .int .i64 me, .int .i64 at1, .int .i64 0, .bool false, .int .i64 ee, .int .i64 ki, .int .i64 pe, .slice a m c1]] w fun e w' => e = .returned (.bool false) ∧ New w w' := by
  have hw := (New.refl w).alloc (.cells #[.int .i64 2, .int .i64 tgt, .int .i64 me, .int .i64 at1, .int .i64 0, .bool false, .int .i64 ee, .int .i64 ki, .int .i64 pe, .slice a m c1] 120)
  have b1 := Blk.mk w w.heap.size 120 #[.int .i64 2, .int .i64 tgt, .int .i64 me, .int .i64 at1, .int .i64 0, .bool false, .int .i64 ee, .int .i64 ki, .int .i64 pe, .slice a m c1] rfl
  go_enter Tryz.func152, Tryz.ntmps152
  go_wp2_with fail
  refine (sz_no ee ki pe a m c1 _ hm hz).mono ?_
  rintro e w1 ⟨rfl, hn1⟩
  have c1x := (b1.new hn1).cells
  go_wp2
  go_ret
  exact ⟨rfl, hw.trans hn1⟩

theorem fo4 (tgt me at1 : Int) (a : Option Addr) (c1 : Nat) (w : World) :
    Calls Tryz.prog 152 #[.agg #[.int .i64 2, .int .i64 tgt, .int .i64 me, .int .i64 at1, .int .i64 0, .bool false, .int .i64 0, .int .i64 0, .int .i64 0, .slice a 0 c1]] w fun e w' => e = .returned (.bool true) ∧ New w w' := by
  have hw := (New.refl w).alloc (.cells #[.int .i64 2, .int .i64 tgt, .int .i64 me, .int .i64 at1, .int .i64 0, .bool false, .int .i64 0, .int .i64 0, .int .i64 0, .slice a 0 c1] 120)
  have b1 := Blk.mk w w.heap.size 120 #[.int .i64 2, .int .i64 tgt, .int .i64 me, .int .i64 at1, .int .i64 0, .bool false, .int .i64 0, .int .i64 0, .int .i64 0, .slice a 0 c1] rfl
  go_enter Tryz.func152, Tryz.ntmps152
  go_wp2_with fail
  refine (sz_yes a c1 _).mono ?_
  rintro e w1 ⟨rfl, hn1⟩
  have c1x := (b1.new hn1).cells
  go_wp2
  go_ret
  exact ⟨rfl, hw.trans hn1⟩

theorem fo5 (tgt me pr : Int) (has : Bool) (ee ki pe : Int) (a : Option Addr) (m c1 : Nat) (w : World) (hm : m ≤ 1048576) (hpr : ¬ pr = 0) :
    Calls Tryz.prog 152 #[.agg #[.int .i64 1, .int .i64 tgt, .int .i64 me, .int .i64 0, .int .i64 pr, .bool has, .int .i64 ee, .int .i64 ki, .int .i64 pe, .slice a m c1]] w fun e w' => e = .returned (.bool false) ∧ New w w' := by
  have hw := (New.refl w).alloc (.cells #[.int .i64 1, .int .i64 tgt, .int .i64 me, .int .i64 0, .int .i64 pr, .bool has, .int .i64 ee, .int .i64 ki, .int .i64 pe, .slice a m c1] 120)
  have b1 := Blk.mk w w.heap.size 120 #[.int .i64 1, .int .i64 tgt, .int .i64 me, .int .i64 0, .int .i64 pr, .bool has, .int .i64 ee, .int .i64 ki, .int .i64 pe, .slice a m c1] rfl
  have gpr : (pr == 0) = false := by simp [hpr]
  go_enter Tryz.func152, Tryz.ntmps152
  go_wp2
  go_ret
  exact ⟨rfl, hw⟩

theorem fo6 (tgt me at1 : Int) (has : Bool) (ee ki pe : Int) (a : Option Addr) (m c1 : Nat) (w : World) (hm : m ≤ 1048576) (hat1 : ¬ at1 = 0) :
    Calls Tryz.prog 152 #[.agg #[.int .i64 1, .int .i64 tgt, .int .i64 me, .int .i64 at1, .int .i64 0, .bool has, .int .i64 ee, .int .i64 ki, .int .i64 pe, .slice a m c1]] w fun e w' => e = .returned (.bool false) ∧ New w w' := by
  have hw := (New.refl w).alloc (.cells #[.int .i64 1, .int .i64 tgt, .int .i64 me, .int .i64 at1, .int .i64 0, .bool has, .int .i64 ee, .int .i64 ki, .int .i64 pe, .slice a m c1] 120)
  have b1 := Blk.mk w w.heap.size 120 #[.int .i64 1, .int .i64 tgt, .int .i64 me, .int .i64 at1, .int .i64 0, .bool has, .int .i64 ee, .int .i64 ki, .int .i64 pe, .slice a m c1] rfl
  have gat1 : (at1 == 0) = false := by simp [hat1]
  go_enter Tryz.func152, Tryz.ntmps152
  go_wp2
  go_ret
  exact ⟨rfl, hw⟩

theorem fo7 (tgt me : Int) (ee ki pe : Int) (a : Option Addr) (m c1 : Nat) (w : World) (hm : m ≤ 1048576) (hme : 0 ≤ me) :
    Calls Tryz.prog 152 #[.agg #[.int .i64 1, .int .i64 tgt, .int .i64 me, .int .i64 0, .int .i64 0, .bool true, .int .i64 ee, .int .i64 ki, .int .i64 pe, .slice a m c1]] w fun e w' => e = .returned (.bool true) ∧ New w w' := by
  have hw := (New.refl w).alloc (.cells #[.int .i64 1, .int .i64 tgt, .int .i64 me, .int .i64 0, .int .i64 0, .bool true, .int .i64 ee, .int .i64 ki, .int .i64 pe, .slice a m c1] 120)
  have b1 := Blk.mk w w.heap.size 120 #[.int .i64 1, .int .i64 tgt, .int .i64 me, .int .i64 0, .int .i64 0, .bool true, .int .i64 ee, .int .i64 ki, .int .i64 pe, .slice a m c1] rfl
  go_enter Tryz.func152, Tryz.ntmps152
  go_wp2
  go_ret
  exact ⟨rfl, hw⟩

theorem fo8 (tgt me at1 pr : Int) (ee ki pe : Int) (a : Option Addr) (m c1 : Nat) (w : World) (hm : m ≤ 1048576) (hat1 : ¬ at1 = 0) (hpr : ¬ pr = 0) (hle : pr ≤ me) :
    Calls Tryz.prog 152 #[.agg #[.int .i64 1, .int .i64 tgt, .int .i64 me, .int .i64 at1, .int .i64 pr, .bool true, .int .i64 ee, .int .i64 ki, .int .i64 pe, .slice a m c1]] w fun e w' => e = .returned (.bool true) ∧ New w w' := by
  have hw := (New.refl w).alloc (.cells #[.int .i64 1, .int .i64 tgt, .int .i64 me, .int .i64 at1, .int .i64 pr, .bool true, .int .i64 ee, .int .i64 ki, .int .i64 pe, .slice a m c1] 120)
  have b1 := Blk.mk w w.heap.size 120 #[.int .i64 1, .int .i64 tgt, .int .i64 me, .int .i64 at1, .int .i64 pr, .bool true, .int .i64 ee, .int .i64 ki, .int .i64 pe, .slice a m c1] rfl
  have gat1 : (at1 == 0) = false := by simp [hat1]
  have gpr : (pr == 0) = false := by simp [hpr]
  go_enter Tryz.func152, Tryz.ntmps152
  go_wp2
  go_ret
  exact ⟨rfl, hw⟩

theorem fo9 (tgt me at1 pr : Int) (ee ki pe : Int) (a : Option Addr) (m c1 : Nat) (w : World) (hm : m ≤ 1048576) (hat1 : ¬ at1 = 0) (hpr : ¬ pr = 0) (hle : ¬ pr ≤ me) :
    Calls Tryz.prog 152 #[.agg #[.int .i64 1, .int .i64 tgt, .int .i64 me, .int .i64 at1, .int .i64 pr, .bool true, .int .i64 ee, .int .i64 ki, .int .i64 pe, .slice a m c1]] w fun e w' => e = .returned (.bool false) ∧ New w w' := by
  have hw := (New.refl w).alloc (.cells #[.int .i64 1, .int .i64 tgt, .int .i64 me, .int .i64 at1, .int .i64 pr, .bool true, .int .i64 ee, .int .i64 ki, .int .i64 pe, .slice a m c1] 120)
  have b1 := Blk.mk w w.heap.size 120 #[.int .i64 1, .int .i64 tgt, .int .i64 me, .int .i64 at1, .int .i64 pr, .bool true, .int .i64 ee, .int .i64 ki, .int .i64 pe, .slice a m c1] rfl
  have gat1 : (at1 == 0) = false := by simp [hat1]
  have gpr : (pr == 0) = false := by simp [hpr]
  have gle : decide (pr ≤ me) = false := decide_eq_false hle
  go_enter Tryz.func152, Tryz.ntmps152
  go_wp2
  go_ret
  exact ⟨rfl, hw⟩

theorem foA (tgt me : Int) (ee ki pe : Int) (a : Option Addr) (m c1 : Nat) (w : World) (hm : m ≤ 1048576) (hz : ¬ Zr ee ki pe m) :
    Calls Tryz.prog 152 #[.agg #[.int .i64 1, .int .i64 tgt, .int .i64 me, .int .i64 0, .int .i64 0, .bool false, .int .i64 ee, .int .i64 ki, .int .i64 pe, .slice a m c1]] w fun e w' => e = .returned (.bool false) ∧ New w w' := by
  have hw := (New.refl w).alloc (.cells #[.int .i64 1, .int .i64 tgt, .int .i64 me, .int .i64 0, .int .i64 0, .bool false, .int .i64 ee, .int .i64 ki, .int .i64 pe, .slice a m c1] 120)
  have b1 := Blk.mk w w.heap.size 120 #[.int .i64 1, .int .i64 tgt, .int .i64 me, .int .i64 0, .int .i64 0, .bool false, .int .i64 ee, .int .i64 ki, .int .i64 pe, .slice a m c1] rfl
  go_enter Tryz.func152, Tryz.ntmps152
  go_wp2_with fail
  refine (sz_no ee ki pe a m c1 _ hm hz).mono ?_
  rintro e w1 ⟨rfl, hn1⟩
  have c1x := (b1.new hn1).cells
  go_wp2
  go_ret
  exact ⟨rfl, hw.trans hn1⟩

theorem foB (tgt me : Int) (a : Option Addr) (c1 : Nat) (w : World) (hme : 0 ≤ me) :
    Calls Tryz.prog 152 #[.agg #[.int .i64 1, .int .i64 tgt, .int .i64 me, .int .i64 0, .int .i64 0, .bool false, .int .i64 0, .int .i64 0, .int .i64 0, .slice a 0 c1]] w fun e w' => e = .returned (.bool true) ∧ New w w' := by
  have hw := (New.refl w).alloc (.cells #[.int .i64 1, .int .i64 tgt, .int .i64 me, .int .i64 0, .int .i64 0, .bool false, .int .i64 0, .int .i64 0, .int .i64 0, .slice a 0 c1] 120)
  have b1 := Blk.mk w w.heap.size 120 #[.int .i64 1, .int .i64 tgt, .int .i64 me, .int .i64 0, .int .i64 0, .bool false, .int .i64 0, .int .i64 0, .int .i64 0, .slice a 0 c1] rfl
  go_enter Tryz.func152, Tryz.ntmps152
  go_wp2_with fail
  refine (sz_yes a c1 _).mono ?_
  rintro e w1 ⟨rfl, hn1⟩
  have c1x := (b1.new hn1).cells
  go_wp2
  go_ret
  exact ⟨rfl, hw.trans hn1⟩

theorem foC (tgt me at1 pr : Int) (ee ki pe : Int) (a : Option Addr) (m c1 : Nat) (w : World) (hm : m ≤ 1048576) (hat1 : ¬ at1 = 0) (hpr : ¬ pr = 0) (hz : ¬ Zr ee ki pe m) :
    Calls Tryz.prog 152 #[.agg #[.int .i64 1, .int .i64 tgt, .int .i64 me, .int .i64 at1, .int .i64 pr, .bool false, .int .i64 ee, .int .i64 ki, .int .i64 pe, .slice a m c1]] w fun e w' => e = .returned (.bool false) ∧ New w w' := by
  have hw := (New.refl w).alloc (.cells #[.int .i64 1, .int .i64 tgt, .int .i64 me, .int .i64 at1, .int .i64 pr, .bool false, .int .i64 ee, .int .i64 ki, .int .i64 pe, .slice a m c1] 120)
  have b1 := Blk.mk w w.heap.size 120 #[.int .i64 1, .int .i64 tgt, .int .i64 me, .int .i64 at1, .int .i64 pr, .bool false, .int .i64 ee, .int .i64 ki, .int .i64 pe, .slice a m c1] rfl
  have gat1 : (at1 == 0) = false := by simp [hat1]
  have gpr : (pr == 0) = false := by simp [hpr]
  go_enter Tryz.func152, Tryz.ntmps152
  go_wp2_with fail
  refine (sz_no ee ki pe a m c1 _ hm hz).mono ?_
  rintro e w1 ⟨rfl, hn1⟩
  have c1x := (b1.new hn1).cells
  go_wp2
  go_ret
  exact ⟨rfl, hw.trans hn1⟩

theorem foD (tgt me at1 pr : Int) (a : Option Addr) (c1 : Nat) (w : World) (hat1 : ¬ at1 = 0) (hpr : ¬ pr = 0) (hle : pr ≤ me) :
    Calls Tryz.prog 152 #[.agg #[.int .i64 1, .int .i64 tgt, .int .i64 me, .int .i64 at1, .int .i64 pr, .bool false, .int .i64 0, .int .i64 0, .int .i64 0, .slice a 0 c1]] w fun e w' => e = .returned (.bool true) ∧ New w w' := by
  have hw := (New.refl w).alloc (.cells #[.int .i64 1, .int .i64 tgt, .int .i64 me, .int .i64 at1, .int .i64 pr, .bool false, .int .i64 0, .int .i64 0, .int .i64 0, .slice a 0 c1] 120)
  have b1 := Blk.mk w w.heap.size 120 #[.int .i64 1, .int .i64 tgt, .int .i64 me, .int .i64 at1, .int .i64 pr, .bool false, .int .i64 0, .int .i64 0, .int .i64 0, .slice a 0 c1] rfl
  have gat1 : (at1 == 0) = false := by simp [hat1]
  have gpr : (pr == 0) = false := by simp [hpr]
  go_enter Tryz.func152, Tryz.ntmps152
  go_wp2_with fail
  refine (sz_yes a c1 _).mono ?_
  rintro e w1 ⟨rfl, hn1⟩
  have c1x := (b1.new hn1).cells
  go_wp2
  go_ret
  exact ⟨rfl, hw.trans hn1⟩

theorem foE (tgt me at1 pr : Int) (a : Option Addr) (c1 : Nat) (w : World) (hat1 : ¬ at1 = 0) (hpr : ¬ pr = 0) (hle : ¬ pr ≤ me) :
    Calls Tryz.prog 152 #[.agg #[.int .i64 1, .int .i64 tgt, .int .i64 me, .int .i64 at1, .int .i64 pr, .bool false, .int .i64 0, .int .i64 0, .int .i64 0, .slice a 0 c1]] w fun e w' => e = .returned (.bool false) ∧ New w w' := by
  have hw := (New.refl w).alloc (.cells #[.int .i64 1, .int .i64 tgt, .int .i64 me, .int .i64 at1, .int .i64 pr, .bool false, .int .i64 0, .int .i64 0, .int .i64 0, .slice a 0 c1] 120)
  have b1 := Blk.mk w w.heap.size 120 #[.int .i64 1, .int .i64 tgt, .int .i64 me, .int .i64 at1, .int .i64 pr, .bool false, .int .i64 0, .int .i64 0, .int .i64 0, .slice a 0 c1] rfl
  have gat1 : (at1 == 0) = false := by simp [hat1]
  have gpr : (pr == 0) = false := by simp [hpr]
  have gle : decide (pr ≤ me) = false := decide_eq_false hle
  go_enter Tryz.func152, Tryz.ntmps152
  go_wp2_with fail
  refine (sz_yes a c1 _).mono ?_
  rintro e w1 ⟨rfl, hn1⟩
  have c1x := (b1.new hn1).cells
  go_wp2
  go_ret
  exact ⟨rfl, hw.trans hn1⟩

/-- What a mail of its kind has. -/
def Fo (kd me at1 pr : Int) (has : Bool) (ee ki pe : Int) (m : Nat) : Prop := Fp kd me at1 pr ∧ ((kd = 1 ∧ has = true) ∨ (has = false ∧ Zr ee ki pe m))
theorem form_y (kd tgt me at1 pr : Int) (has : Bool) (ee ki pe : Int) (a : Option Addr) (m c1 : Nat) (w : World) (hm : m ≤ 1048576) (hk : kd = 1 ∨ kd = 2) (hme : 0 ≤ me) (h : Fo kd me at1 pr has ee ki pe m) :
    Calls Tryz.prog 152 #[.agg #[.int .i64 kd, .int .i64 tgt, .int .i64 me, .int .i64 at1, .int .i64 pr, .bool has, .int .i64 ee, .int .i64 ki, .int .i64 pe, .slice a m c1]] w fun e w' => e = .returned (.bool true) ∧ New w w' := by
  obtain ⟨h1, h2⟩ := h
  rcases hk with rfl | rfl
  · obtain ⟨⟨p1, p2⟩, p3⟩ := h1.2 (by omega)
    rcases h2 with ⟨-, rfl⟩ | ⟨rfl, rfl, rfl, rfl, rfl⟩
    · by_cases ha : at1 = 0
      · obtain rfl := p1 ha
        subst ha
        exact fo7 tgt me ee ki pe a m c1 w hm hme
      · exact fo8 tgt me at1 pr ee ki pe a m c1 w hm ha (fun e => ha (p2 e)) p3
    · by_cases ha : at1 = 0
      · obtain rfl := p1 ha
        subst ha
        exact foB tgt me a c1 w hme
      · exact foD tgt me at1 pr a c1 w ha (fun e => ha (p2 e)) p3
  · obtain rfl := h1.1 rfl
    rcases h2 with ⟨h3, -⟩ | ⟨rfl, rfl, rfl, rfl, rfl⟩
    · omega
    · exact fo4 tgt me at1 a c1 w
theorem form_n (kd tgt me at1 pr : Int) (has : Bool) (ee ki pe : Int) (a : Option Addr) (m c1 : Nat) (w : World) (hm : m ≤ 1048576) (hk : kd = 1 ∨ kd = 2) (hme : 0 ≤ me) (h : ¬ Fo kd me at1 pr has ee ki pe m) :
    Calls Tryz.prog 152 #[.agg #[.int .i64 kd, .int .i64 tgt, .int .i64 me, .int .i64 at1, .int .i64 pr, .bool has, .int .i64 ee, .int .i64 ki, .int .i64 pe, .slice a m c1]] w fun e w' => e = .returned (.bool false) ∧ New w w' := by
  rcases hk with rfl | rfl
  · by_cases ha : at1 = 0
    · subst ha
      by_cases hp : pr = 0
      · subst hp
        have hF : Fp 1 me 0 0 := ⟨fun e => by omega, fun _ => ⟨⟨fun _ => rfl, fun _ => rfl⟩, hme⟩⟩
        cases has with
        | true => exact absurd ⟨hF, .inl ⟨rfl, rfl⟩⟩ h
        | false => exact foA tgt me ee ki pe a m c1 w hm (fun z => h ⟨hF, .inr ⟨rfl, z⟩⟩)
      · exact fo5 tgt me pr has ee ki pe a m c1 w hm hp
    · by_cases hp : pr = 0
      · subst hp
        exact fo6 tgt me at1 has ee ki pe a m c1 w hm ha
      · by_cases hle : pr ≤ me
        · have hF : Fp 1 me at1 pr := ⟨fun e => by omega, fun _ => ⟨⟨fun e => absurd e ha, fun e => absurd e hp⟩, hle⟩⟩
          cases has with
          | true => exact absurd ⟨hF, .inl ⟨rfl, rfl⟩⟩ h
          | false => exact foC tgt me at1 pr ee ki pe a m c1 w hm ha hp (fun z => h ⟨hF, .inr ⟨rfl, z⟩⟩)
        · cases has with
          | true => exact fo9 tgt me at1 pr ee ki pe a m c1 w hm ha hp hle
          | false =>
            by_cases hz : Zr ee ki pe m
            · obtain ⟨rfl, rfl, rfl, rfl⟩ := hz
              exact foE tgt me at1 pr a c1 w ha hp hle
            · exact foC tgt me at1 pr ee ki pe a m c1 w hm ha hp hz
  · cases has with
    | true => exact fo1 tgt me at1 pr ee ki pe a m c1 w hm
    | false =>
      by_cases hp : pr = 0
      · subst hp
        have hF : Fp 2 me at1 0 := ⟨fun _ => rfl, fun e => absurd rfl e⟩
        exact fo3 tgt me at1 ee ki pe a m c1 w hm (fun z => h ⟨hF, .inr ⟨rfl, z⟩⟩)
      · exact fo2 tgt me at1 pr ee ki pe a m c1 w hm hp

variable {o : Nat}

theorem lm1 (B : Nat) (id : Int) (up : Bool) (ro ep su ma ot co : Int) (A : Option Addr) (n c : Nat) (kd tgt me at1 pr : Int) (has : Bool) (ee ki pe : Int) (a : Option Addr) (m c1 : Nat) (w : World) (hb : NdC w B o #[.int .i64 id, .bool up, .int .i64 ro, .int .i64 ep, .slice A n c, .int .i64 su, .int .i64 ma, .int .i64 ot, .int .i64 co]) (hm : m ≤ 1048576) (hk : kd < 1 ∨ 2 < kd) :
    Calls Tryz.prog 127 #[.pointer (some ⟨B, o, none⟩), .agg #[.int .i64 kd, .int .i64 tgt, .int .i64 me, .int .i64 at1, .int .i64 pr, .bool has, .int .i64 ee, .int .i64 ki, .int .i64 pe, .slice a m c1]] w fun e w' => e = .returned (.int .i64 1) ∧ New w w' := by
  have hw := (New.refl w).alloc (.cells #[.int .i64 kd, .int .i64 tgt, .int .i64 me, .int .i64 at1, .int .i64 pr, .bool has, .int .i64 ee, .int .i64 ki, .int .i64 pe, .slice a m c1] 120)
  have b0 := hb.new hw
  have b1 := Blk.mk w w.heap.size 120 #[.int .i64 kd, .int .i64 tgt, .int .i64 me, .int .i64 at1, .int .i64 pr, .bool has, .int .i64 ee, .int .i64 ki, .int .i64 pe, .slice a m c1] rfl
  go_enter Tryz.func127, Tryz.ntmps127
  go_upto_region 1 with fail
  generalize w.alloc (.cells #[.int .i64 kd, .int .i64 tgt, .int .i64 me, .int .i64 at1, .int .i64 pr, .bool has, .int .i64 ee, .int .i64 ki, .int .i64 pe, .slice a m c1] 120) = w0 at *
  have C0 := ndc_regrown b0
  have C1 := blk_regrown b1
  refine wp_region_quiet_below (by kernel_rfl) (by kernel_rfl) ?_
  repeat (go_big_quiet_step ((go_at_call 61; exact calls_regrown_same (in_no kd 1 2 _ hk))))
  refine wpQuiet_nil ?_
  rintro w2 hn2
  replace hn2 := new_of_regrown hn2
  have hw2 := hw.trans hn2
  have b2 := b1.new hn2
  have c2 := b2.cells
  clear C0 C1
  go_wp2
  go_ret
  exact ⟨rfl, hw2⟩

theorem lm2 (B : Nat) (id : Int) (up : Bool) (ro ep su ma ot co : Int) (A : Option Addr) (n c : Nat) (kd tgt me at1 pr : Int) (has : Bool) (ee ki pe : Int) (a : Option Addr) (m c1 : Nat) (w : World) (hb : NdC w B o #[.int .i64 id, .bool up, .int .i64 ro, .int .i64 ep, .slice A n c, .int .i64 su, .int .i64 ma, .int .i64 ot, .int .i64 co]) (hm : m ≤ 1048576) (hk : 1 ≤ kd ∧ kd ≤ 2) (ht : ¬ tgt = id) :
    Calls Tryz.prog 127 #[.pointer (some ⟨B, o, none⟩), .agg #[.int .i64 kd, .int .i64 tgt, .int .i64 me, .int .i64 at1, .int .i64 pr, .bool has, .int .i64 ee, .int .i64 ki, .int .i64 pe, .slice a m c1]] w fun e w' => e = .returned (.int .i64 1) ∧ New w w' := by
  have hw := (New.refl w).alloc (.cells #[.int .i64 kd, .int .i64 tgt, .int .i64 me, .int .i64 at1, .int .i64 pr, .bool has, .int .i64 ee, .int .i64 ki, .int .i64 pe, .slice a m c1] 120)
  have b0 := hb.new hw
  have b1 := Blk.mk w w.heap.size 120 #[.int .i64 kd, .int .i64 tgt, .int .i64 me, .int .i64 at1, .int .i64 pr, .bool has, .int .i64 ee, .int .i64 ki, .int .i64 pe, .slice a m c1] rfl
  have kt : (tgt != id) = true := by simp [ht]
  go_enter Tryz.func127, Tryz.ntmps127
  go_upto_region 1 with fail
  generalize w.alloc (.cells #[.int .i64 kd, .int .i64 tgt, .int .i64 me, .int .i64 at1, .int .i64 pr, .bool has, .int .i64 ee, .int .i64 ki, .int .i64 pe, .slice a m c1] 120) = w0 at *
  have C0 := ndc_regrown b0
  have C1 := blk_regrown b1
  refine wp_region_quiet_below (by kernel_rfl) (by kernel_rfl) ?_
  repeat (go_big_quiet_step ((go_at_call 61; exact calls_regrown_same (in_yes kd 1 2 _ hk))))
  refine wpQuiet_nil ?_
  rintro w2 hn2
  replace hn2 := new_of_regrown hn2
  have hw2 := hw.trans hn2
  have b2 := b1.new hn2
  have c2 := b2.cells
  clear C0 C1
  go_wp2
  go_ret
  exact ⟨rfl, hw2⟩

theorem lm3 (B : Nat) (id : Int) (up : Bool) (ro ep su ma ot co : Int) (A : Option Addr) (n c : Nat) (kd me at1 pr : Int) (has : Bool) (ee ki pe : Int) (a : Option Addr) (m c1 : Nat) (w : World) (hb : NdC w B o #[.int .i64 id, .bool up, .int .i64 ro, .int .i64 ep, .slice A n c, .int .i64 su, .int .i64 ma, .int .i64 ot, .int .i64 co]) (hm : m ≤ 1048576) (hk : 1 ≤ kd ∧ kd ≤ 2) (hme : me < 1 ∨ 1000 < me) :
    Calls Tryz.prog 127 #[.pointer (some ⟨B, o, none⟩), .agg #[.int .i64 kd, .int .i64 id, .int .i64 me, .int .i64 at1, .int .i64 pr, .bool has, .int .i64 ee, .int .i64 ki, .int .i64 pe, .slice a m c1]] w fun e w' => e = .returned (.int .i64 3) ∧ New w w' := by
  have hw := (New.refl w).alloc (.cells #[.int .i64 kd, .int .i64 id, .int .i64 me, .int .i64 at1, .int .i64 pr, .bool has, .int .i64 ee, .int .i64 ki, .int .i64 pe, .slice a m c1] 120)
  have b0 := hb.new hw
  have b1 := Blk.mk w w.heap.size 120 #[.int .i64 kd, .int .i64 id, .int .i64 me, .int .i64 at1, .int .i64 pr, .bool has, .int .i64 ee, .int .i64 ki, .int .i64 pe, .slice a m c1] rfl
  have kt : (id != id) = false := by simp
  go_enter Tryz.func127, Tryz.ntmps127
  go_upto_region 1 with fail
  generalize w.alloc (.cells #[.int .i64 kd, .int .i64 id, .int .i64 me, .int .i64 at1, .int .i64 pr, .bool has, .int .i64 ee, .int .i64 ki, .int .i64 pe, .slice a m c1] 120) = w0 at *
  have C0 := ndc_regrown b0
  have C1 := blk_regrown b1
  refine wp_region_quiet_below (by kernel_rfl) (by kernel_rfl) ?_
  repeat (go_big_quiet_step ((go_at_call 61; exact calls_regrown_same (in_yes kd 1 2 _ hk))))
  refine wpQuiet_nil ?_
  rintro w2 hn2
  replace hn2 := new_of_regrown hn2
  have hw2 := hw.trans hn2
  have b2 := b1.new hn2
  have c2 := b2.cells
  clear C0 C1
  go_wp2_with fail
  refine (sepoch_no me _ hme).mono ?_
  rintro e wz ⟨rfl, hwz⟩
  obtain rfl := hwz.symm
  go_wp2
  go_ret
  exact ⟨rfl, hw2⟩

theorem lm4 (B : Nat) (id : Int) (up : Bool) (ro ep su ma ot co : Int) (A : Option Addr) (n c : Nat) (kd me at1 pr : Int) (has : Bool) (ee ki pe : Int) (a : Option Addr) (m c1 : Nat) (w : World) (hb : NdC w B o #[.int .i64 id, .bool up, .int .i64 ro, .int .i64 ep, .slice A n c, .int .i64 su, .int .i64 ma, .int .i64 ot, .int .i64 co]) (hm : m ≤ 1048576) (hk : 1 ≤ kd ∧ kd ≤ 2) (hme : 1 ≤ me ∧ me ≤ 1000) (hat : at1 < 0 ∨ 100 < at1) :
    Calls Tryz.prog 127 #[.pointer (some ⟨B, o, none⟩), .agg #[.int .i64 kd, .int .i64 id, .int .i64 me, .int .i64 at1, .int .i64 pr, .bool has, .int .i64 ee, .int .i64 ki, .int .i64 pe, .slice a m c1]] w fun e w' => e = .returned (.int .i64 3) ∧ New w w' := by
  have hw := (New.refl w).alloc (.cells #[.int .i64 kd, .int .i64 id, .int .i64 me, .int .i64 at1, .int .i64 pr, .bool has, .int .i64 ee, .int .i64 ki, .int .i64 pe, .slice a m c1] 120)
  have b0 := hb.new hw
  have b1 := Blk.mk w w.heap.size 120 #[.int .i64 kd, .int .i64 id, .int .i64 me, .int .i64 at1, .int .i64 pr, .bool has, .int .i64 ee, .int .i64 ki, .int .i64 pe, .slice a m c1] rfl
  have kt : (id != id) = false := by simp
  go_enter Tryz.func127, Tryz.ntmps127
  go_upto_region 1 with fail
  generalize w.alloc (.cells #[.int .i64 kd, .int .i64 id, .int .i64 me, .int .i64 at1, .int .i64 pr, .bool has, .int .i64 ee, .int .i64 ki, .int .i64 pe, .slice a m c1] 120) = w0 at *
  have C0 := ndc_regrown b0
  have C1 := blk_regrown b1
  refine wp_region_quiet_below (by kernel_rfl) (by kernel_rfl) ?_
  repeat (go_big_quiet_step ((go_at_call 61; exact calls_regrown_same (in_yes kd 1 2 _ hk))))
  refine wpQuiet_nil ?_
  rintro w2 hn2
  replace hn2 := new_of_regrown hn2
  have hw2 := hw.trans hn2
  have b2 := b1.new hn2
  have c2 := b2.cells
  clear C0 C1
  go_wp2_with fail
  refine (sepoch_yes me _ hme).mono ?_
  rintro e wz ⟨rfl, hwz⟩
  obtain rfl := hwz.symm
  go_wp2_with fail
  refine (in_no at1 0 100 _ hat).mono ?_
  rintro e wz ⟨rfl, hwz⟩
  obtain rfl := hwz.symm
  go_wp2
  go_ret
  exact ⟨rfl, hw2⟩

theorem lm5 (B : Nat) (id : Int) (up : Bool) (ro ep su ma ot co : Int) (A : Option Addr) (n c : Nat) (kd me at1 pr : Int) (has : Bool) (ee ki pe : Int) (a : Option Addr) (m c1 : Nat) (w : World) (hb : NdC w B o #[.int .i64 id, .bool up, .int .i64 ro, .int .i64 ep, .slice A n c, .int .i64 su, .int .i64 ma, .int .i64 ot, .int .i64 co]) (hm : m ≤ 1048576) (hk : 1 ≤ kd ∧ kd ≤ 2) (hme : 1 ≤ me ∧ me ≤ 1000) (hat : 0 ≤ at1 ∧ at1 ≤ 100) (hpr : pr < 0 ∨ 1000 < pr) :
    Calls Tryz.prog 127 #[.pointer (some ⟨B, o, none⟩), .agg #[.int .i64 kd, .int .i64 id, .int .i64 me, .int .i64 at1, .int .i64 pr, .bool has, .int .i64 ee, .int .i64 ki, .int .i64 pe, .slice a m c1]] w fun e w' => e = .returned (.int .i64 3) ∧ New w w' := by
  have hw := (New.refl w).alloc (.cells #[.int .i64 kd, .int .i64 id, .int .i64 me, .int .i64 at1, .int .i64 pr, .bool has, .int .i64 ee, .int .i64 ki, .int .i64 pe, .slice a m c1] 120)
  have b0 := hb.new hw
  have b1 := Blk.mk w w.heap.size 120 #[.int .i64 kd, .int .i64 id, .int .i64 me, .int .i64 at1, .int .i64 pr, .bool has, .int .i64 ee, .int .i64 ki, .int .i64 pe, .slice a m c1] rfl
  have kt : (id != id) = false := by simp
  go_enter Tryz.func127, Tryz.ntmps127
  go_upto_region 1 with fail
  generalize w.alloc (.cells #[.int .i64 kd, .int .i64 id, .int .i64 me, .int .i64 at1, .int .i64 pr, .bool has, .int .i64 ee, .int .i64 ki, .int .i64 pe, .slice a m c1] 120) = w0 at *
  have C0 := ndc_regrown b0
  have C1 := blk_regrown b1
  refine wp_region_quiet_below (by kernel_rfl) (by kernel_rfl) ?_
  repeat (go_big_quiet_step ((go_at_call 61; exact calls_regrown_same (in_yes kd 1 2 _ hk))))
  refine wpQuiet_nil ?_
  rintro w2 hn2
  replace hn2 := new_of_regrown hn2
  have hw2 := hw.trans hn2
  have b2 := b1.new hn2
  have c2 := b2.cells
  clear C0 C1
  go_wp2_with fail
  refine (sepoch_yes me _ hme).mono ?_
  rintro e wz ⟨rfl, hwz⟩
  obtain rfl := hwz.symm
  go_wp2_with fail
  refine (in_yes at1 0 100 _ hat).mono ?_
  rintro e wz ⟨rfl, hwz⟩
  obtain rfl := hwz.symm
  go_wp2_with fail
  refine (in_no pr 0 1000 _ hpr).mono ?_
  rintro e wz ⟨rfl, hwz⟩
  obtain rfl := hwz.symm
  go_wp2
  go_ret
  exact ⟨rfl, hw2⟩

theorem lm6 (B : Nat) (id : Int) (up : Bool) (ro ep su ma ot co : Int) (A : Option Addr) (n c : Nat) (kd me at1 pr : Int) (has : Bool) (ee ki pe : Int) (a : Option Addr) (m c1 : Nat) (w : World) (hb : NdC w B o #[.int .i64 id, .bool up, .int .i64 ro, .int .i64 ep, .slice A n c, .int .i64 su, .int .i64 ma, .int .i64 ot, .int .i64 co]) (hm : m ≤ 1048576) (hk : 1 ≤ kd ∧ kd ≤ 2) (hme : 1 ≤ me ∧ me ≤ 1000) (hat : 0 ≤ at1 ∧ at1 ≤ 100) (hpr : 0 ≤ pr ∧ pr ≤ 1000) (hkk : kd = 1 ∨ kd = 2) (hf : ¬ Fo kd me at1 pr has ee ki pe m) :
    Calls Tryz.prog 127 #[.pointer (some ⟨B, o, none⟩), .agg #[.int .i64 kd, .int .i64 id, .int .i64 me, .int .i64 at1, .int .i64 pr, .bool has, .int .i64 ee, .int .i64 ki, .int .i64 pe, .slice a m c1]] w fun e w' => e = .returned (.int .i64 1) ∧ New w w' := by
  have hw := (New.refl w).alloc (.cells #[.int .i64 kd, .int .i64 id, .int .i64 me, .int .i64 at1, .int .i64 pr, .bool has, .int .i64 ee, .int .i64 ki, .int .i64 pe, .slice a m c1] 120)
  have b0 := hb.new hw
  have b1 := Blk.mk w w.heap.size 120 #[.int .i64 kd, .int .i64 id, .int .i64 me, .int .i64 at1, .int .i64 pr, .bool has, .int .i64 ee, .int .i64 ki, .int .i64 pe, .slice a m c1] rfl
  have kt : (id != id) = false := by simp
  go_enter Tryz.func127, Tryz.ntmps127
  go_upto_region 1 with fail
  generalize w.alloc (.cells #[.int .i64 kd, .int .i64 id, .int .i64 me, .int .i64 at1, .int .i64 pr, .bool has, .int .i64 ee, .int .i64 ki, .int .i64 pe, .slice a m c1] 120) = w0 at *
  have C0 := ndc_regrown b0
  have C1 := blk_regrown b1
  refine wp_region_quiet_below (by kernel_rfl) (by kernel_rfl) ?_
  repeat (go_big_quiet_step ((go_at_call 61; exact calls_regrown_same (in_yes kd 1 2 _ hk))))
  refine wpQuiet_nil ?_
  rintro w2 hn2
  replace hn2 := new_of_regrown hn2
  have hw2 := hw.trans hn2
  have b2 := b1.new hn2
  have c2 := b2.cells
  clear C0 C1
  go_wp2_with fail
  refine (sepoch_yes me _ hme).mono ?_
  rintro e wz ⟨rfl, hwz⟩
  obtain rfl := hwz.symm
  go_wp2_with fail
  refine (in_yes at1 0 100 _ hat).mono ?_
  rintro e wz ⟨rfl, hwz⟩
  obtain rfl := hwz.symm
  go_wp2_with fail
  refine (in_yes pr 0 1000 _ hpr).mono ?_
  rintro e wz ⟨rfl, hwz⟩
  obtain rfl := hwz.symm
  go_wp2_with fail
  refine (form_n kd id me at1 pr has ee ki pe a m c1 _ hm hkk (by omega) hf).mono ?_
  rintro e w3 ⟨rfl, hn3⟩
  go_wp2
  go_ret
  exact ⟨rfl, hw2.trans hn3⟩

theorem lm7 (B : Nat) (id : Int) (up : Bool) (ro ep su ma ot co : Int) (A : Option Addr) (n c : Nat) (kd me at1 pr : Int) (ee ki pe : Int) (a : Option Addr) (m c1 : Nat) (w : World) (hb : NdC w B o #[.int .i64 id, .bool up, .int .i64 ro, .int .i64 ep, .slice A n c, .int .i64 su, .int .i64 ma, .int .i64 ot, .int .i64 co]) (hm : m ≤ 1048576) (hk : 1 ≤ kd ∧ kd ≤ 2) (hme : 1 ≤ me ∧ me ≤ 1000) (hat : 0 ≤ at1 ∧ at1 ≤ 100) (hpr : 0 ≤ pr ∧ pr ≤ 1000) (hkk : kd = 1 ∨ kd = 2) (hf : Fo kd me at1 pr false ee ki pe m) :
    Calls Tryz.prog 127 #[.pointer (some ⟨B, o, none⟩), .agg #[.int .i64 kd, .int .i64 id, .int .i64 me, .int .i64 at1, .int .i64 pr, .bool false, .int .i64 ee, .int .i64 ki, .int .i64 pe, .slice a m c1]] w fun e w' => e = .returned (.int .i64 0) ∧ New w w' := by
  have hw := (New.refl w).alloc (.cells #[.int .i64 kd, .int .i64 id, .int .i64 me, .int .i64 at1, .int .i64 pr, .bool false, .int .i64 ee, .int .i64 ki, .int .i64 pe, .slice a m c1] 120)
  have b0 := hb.new hw
  have b1 := Blk.mk w w.heap.size 120 #[.int .i64 kd, .int .i64 id, .int .i64 me, .int .i64 at1, .int .i64 pr, .bool false, .int .i64 ee, .int .i64 ki, .int .i64 pe, .slice a m c1] rfl
  have kt : (id != id) = false := by simp
  go_enter Tryz.func127, Tryz.ntmps127
  go_upto_region 1 with fail
  generalize w.alloc (.cells #[.int .i64 kd, .int .i64 id, .int .i64 me, .int .i64 at1, .int .i64 pr, .bool false, .int .i64 ee, .int .i64 ki, .int .i64 pe, .slice a m c1] 120) = w0 at *
  have C0 := ndc_regrown b0
  have C1 := blk_regrown b1
  refine wp_region_quiet_below (by kernel_rfl) (by kernel_rfl) ?_
  repeat (go_big_quiet_step ((go_at_call 61; exact calls_regrown_same (in_yes kd 1 2 _ hk))))
  refine wpQuiet_nil ?_
  rintro w2 hn2
  replace hn2 := new_of_regrown hn2
  have hw2 := hw.trans hn2
  have b2 := b1.new hn2
  have c2 := b2.cells
  clear C0 C1
  go_wp2_with fail
  refine (sepoch_yes me _ hme).mono ?_
  rintro e wz ⟨rfl, hwz⟩
  obtain rfl := hwz.symm
  go_wp2_with fail
  refine (in_yes at1 0 100 _ hat).mono ?_
  rintro e wz ⟨rfl, hwz⟩
  obtain rfl := hwz.symm
  go_wp2_with fail
  refine (in_yes pr 0 1000 _ hpr).mono ?_
  rintro e wz ⟨rfl, hwz⟩
  obtain rfl := hwz.symm
  go_wp2_with fail
  refine (form_y kd id me at1 pr false ee ki pe a m c1 _ hm hkk (by omega) hf).mono ?_
  rintro e w3 ⟨rfl, hn3⟩
  have b3 := b2.new hn3
  have c3 := b3.cells
  have hw3 := hw2.trans hn3
  go_wp2
  go_ret
  exact ⟨rfl, hw3⟩

theorem lm8 (B : Nat) (id : Int) (up : Bool) (ro ep su ma ot co : Int) (A : Option Addr) (n c : Nat) (kd me at1 pr : Int) (ee ki pe : Int) (a : Option Addr) (m c1 : Nat) (w : World) (hb : NdC w B o #[.int .i64 id, .bool up, .int .i64 ro, .int .i64 ep, .slice A n c, .int .i64 su, .int .i64 ma, .int .i64 ot, .int .i64 co]) (hm : m ≤ 1048576) (hk : 1 ≤ kd ∧ kd ≤ 2) (hme : 1 ≤ me ∧ me ≤ 1000) (hat : 0 ≤ at1 ∧ at1 ≤ 100) (hpr : 0 ≤ pr ∧ pr ≤ 1000) (hkk : kd = 1 ∨ kd = 2) (hf : Fo kd me at1 pr true ee ki pe m) (v : Int) (he : enF ee ki pe m = v) (hv : ¬ v = 0) :
    Calls Tryz.prog 127 #[.pointer (some ⟨B, o, none⟩), .agg #[.int .i64 kd, .int .i64 id, .int .i64 me, .int .i64 at1, .int .i64 pr, .bool true, .int .i64 ee, .int .i64 ki, .int .i64 pe, .slice a m c1]] w fun e w' => e = .returned (.int .i64 v) ∧ New w w' := by
  have hw := (New.refl w).alloc (.cells #[.int .i64 kd, .int .i64 id, .int .i64 me, .int .i64 at1, .int .i64 pr, .bool true, .int .i64 ee, .int .i64 ki, .int .i64 pe, .slice a m c1] 120)
  have b0 := hb.new hw
  have b1 := Blk.mk w w.heap.size 120 #[.int .i64 kd, .int .i64 id, .int .i64 me, .int .i64 at1, .int .i64 pr, .bool true, .int .i64 ee, .int .i64 ki, .int .i64 pe, .slice a m c1] rfl
  have kt : (id != id) = false := by simp
  go_enter Tryz.func127, Tryz.ntmps127
  go_upto_region 1 with fail
  generalize w.alloc (.cells #[.int .i64 kd, .int .i64 id, .int .i64 me, .int .i64 at1, .int .i64 pr, .bool true, .int .i64 ee, .int .i64 ki, .int .i64 pe, .slice a m c1] 120) = w0 at *
  have C0 := ndc_regrown b0
  have C1 := blk_regrown b1
  refine wp_region_quiet_below (by kernel_rfl) (by kernel_rfl) ?_
  repeat (go_big_quiet_step ((go_at_call 61; exact calls_regrown_same (in_yes kd 1 2 _ hk))))
  refine wpQuiet_nil ?_
  rintro w2 hn2
  replace hn2 := new_of_regrown hn2
  have hw2 := hw.trans hn2
  have b2 := b1.new hn2
  have c2 := b2.cells
  clear C0 C1
  go_wp2_with fail
  refine (sepoch_yes me _ hme).mono ?_
  rintro e wz ⟨rfl, hwz⟩
  obtain rfl := hwz.symm
  go_wp2_with fail
  refine (in_yes at1 0 100 _ hat).mono ?_
  rintro e wz ⟨rfl, hwz⟩
  obtain rfl := hwz.symm
  go_wp2_with fail
  refine (in_yes pr 0 1000 _ hpr).mono ?_
  rintro e wz ⟨rfl, hwz⟩
  obtain rfl := hwz.symm
  go_wp2_with fail
  refine (form_y kd id me at1 pr true ee ki pe a m c1 _ hm hkk (by omega) hf).mono ?_
  rintro e w3 ⟨rfl, hn3⟩
  have b3 := b2.new hn3
  have c3 := b3.cells
  have hw3 := hw2.trans hn3
  go_wp2_with fail
  refine (specENv v ee ki pe a m c1 _ hm he).mono ?_
  rintro e w4 ⟨rfl, hn4⟩
  have c4 := (b3.new hn4).cells
  go_wp2
  go_ret
  exact ⟨rfl, hw3.trans hn4⟩

theorem lm9 (B : Nat) (id : Int) (up : Bool) (ro ep su ma ot co : Int) (A : Option Addr) (n c : Nat) (kd me at1 pr : Int) (ee ki pe : Int) (a : Option Addr) (m c1 : Nat) (w : World) (hb : NdC w B o #[.int .i64 id, .bool up, .int .i64 ro, .int .i64 ep, .slice A n c, .int .i64 su, .int .i64 ma, .int .i64 ot, .int .i64 co]) (hm : m ≤ 1048576) (hk : 1 ≤ kd ∧ kd ≤ 2) (hme : 1 ≤ me ∧ me ≤ 1000) (hat : 0 ≤ at1 ∧ at1 ≤ 100) (hpr : 0 ≤ pr ∧ pr ≤ 1000) (hkk : kd = 1 ∨ kd = 2) (hf : Fo kd me at1 pr true ee ki pe m) (he : enF ee ki pe m = 0) (h1 : me < ee) :
    Calls Tryz.prog 127 #[.pointer (some ⟨B, o, none⟩), .agg #[.int .i64 kd, .int .i64 id, .int .i64 me, .int .i64 at1, .int .i64 pr, .bool true, .int .i64 ee, .int .i64 ki, .int .i64 pe, .slice a m c1]] w fun e w' => e = .returned (.int .i64 1) ∧ New w w' := by
  have hw := (New.refl w).alloc (.cells #[.int .i64 kd, .int .i64 id, .int .i64 me, .int .i64 at1, .int .i64 pr, .bool true, .int .i64 ee, .int .i64 ki, .int .i64 pe, .slice a m c1] 120)
  have b0 := hb.new hw
  have b1 := Blk.mk w w.heap.size 120 #[.int .i64 kd, .int .i64 id, .int .i64 me, .int .i64 at1, .int .i64 pr, .bool true, .int .i64 ee, .int .i64 ki, .int .i64 pe, .slice a m c1] rfl
  have kt : (id != id) = false := by simp
  go_enter Tryz.func127, Tryz.ntmps127
  go_upto_region 1 with fail
  generalize w.alloc (.cells #[.int .i64 kd, .int .i64 id, .int .i64 me, .int .i64 at1, .int .i64 pr, .bool true, .int .i64 ee, .int .i64 ki, .int .i64 pe, .slice a m c1] 120) = w0 at *
  have C0 := ndc_regrown b0
  have C1 := blk_regrown b1
  refine wp_region_quiet_below (by kernel_rfl) (by kernel_rfl) ?_
  repeat (go_big_quiet_step ((go_at_call 61; exact calls_regrown_same (in_yes kd 1 2 _ hk))))
  refine wpQuiet_nil ?_
  rintro w2 hn2
  replace hn2 := new_of_regrown hn2
  have hw2 := hw.trans hn2
  have b2 := b1.new hn2
  have c2 := b2.cells
  clear C0 C1
  go_wp2_with fail
  refine (sepoch_yes me _ hme).mono ?_
  rintro e wz ⟨rfl, hwz⟩
  obtain rfl := hwz.symm
  go_wp2_with fail
  refine (in_yes at1 0 100 _ hat).mono ?_
  rintro e wz ⟨rfl, hwz⟩
  obtain rfl := hwz.symm
  go_wp2_with fail
  refine (in_yes pr 0 1000 _ hpr).mono ?_
  rintro e wz ⟨rfl, hwz⟩
  obtain rfl := hwz.symm
  go_wp2_with fail
  refine (form_y kd id me at1 pr true ee ki pe a m c1 _ hm hkk (by omega) hf).mono ?_
  rintro e w3 ⟨rfl, hn3⟩
  have b3 := b2.new hn3
  have c3 := b3.cells
  have hw3 := hw2.trans hn3
  go_wp2_with fail
  refine (specENv 0 ee ki pe a m c1 _ hm he).mono ?_
  rintro e w4 ⟨rfl, hn4⟩
  have c4 := (b3.new hn4).cells
  go_wp2
  go_ret
  exact ⟨rfl, hw3.trans hn4⟩

theorem lmA (B : Nat) (id : Int) (up : Bool) (ro ep su ma ot co : Int) (A : Option Addr) (n c : Nat) (kd me at1 pr : Int) (ee ki pe : Int) (a : Option Addr) (m c1 : Nat) (w : World) (hb : NdC w B o #[.int .i64 id, .bool up, .int .i64 ro, .int .i64 ep, .slice A n c, .int .i64 su, .int .i64 ma, .int .i64 ot, .int .i64 co]) (hm : m ≤ 1048576) (hk : 1 ≤ kd ∧ kd ≤ 2) (hme : 1 ≤ me ∧ me ≤ 1000) (hat : 0 ≤ at1 ∧ at1 ≤ 100) (hpr : 0 ≤ pr ∧ pr ≤ 1000) (hkk : kd = 1 ∨ kd = 2) (hf : Fo kd me at1 pr true ee ki pe m) (he : enF ee ki pe m = 0) (h1 : ¬ me < ee) (h2 : ee < pr) :
    Calls Tryz.prog 127 #[.pointer (some ⟨B, o, none⟩), .agg #[.int .i64 kd, .int .i64 id, .int .i64 me, .int .i64 at1, .int .i64 pr, .bool true, .int .i64 ee, .int .i64 ki, .int .i64 pe, .slice a m c1]] w fun e w' => e = .returned (.int .i64 1) ∧ New w w' := by
  have hw := (New.refl w).alloc (.cells #[.int .i64 kd, .int .i64 id, .int .i64 me, .int .i64 at1, .int .i64 pr, .bool true, .int .i64 ee, .int .i64 ki, .int .i64 pe, .slice a m c1] 120)
  have b0 := hb.new hw
  have b1 := Blk.mk w w.heap.size 120 #[.int .i64 kd, .int .i64 id, .int .i64 me, .int .i64 at1, .int .i64 pr, .bool true, .int .i64 ee, .int .i64 ki, .int .i64 pe, .slice a m c1] rfl
  have kt : (id != id) = false := by simp
  go_enter Tryz.func127, Tryz.ntmps127
  go_upto_region 1 with fail
  generalize w.alloc (.cells #[.int .i64 kd, .int .i64 id, .int .i64 me, .int .i64 at1, .int .i64 pr, .bool true, .int .i64 ee, .int .i64 ki, .int .i64 pe, .slice a m c1] 120) = w0 at *
  have C0 := ndc_regrown b0
  have C1 := blk_regrown b1
  refine wp_region_quiet_below (by kernel_rfl) (by kernel_rfl) ?_
  repeat (go_big_quiet_step ((go_at_call 61; exact calls_regrown_same (in_yes kd 1 2 _ hk))))
  refine wpQuiet_nil ?_
  rintro w2 hn2
  replace hn2 := new_of_regrown hn2
  have hw2 := hw.trans hn2
  have b2 := b1.new hn2
  have c2 := b2.cells
  clear C0 C1
  go_wp2_with fail
  refine (sepoch_yes me _ hme).mono ?_
  rintro e wz ⟨rfl, hwz⟩
  obtain rfl := hwz.symm
  go_wp2_with fail
  refine (in_yes at1 0 100 _ hat).mono ?_
  rintro e wz ⟨rfl, hwz⟩
  obtain rfl := hwz.symm
  go_wp2_with fail
  refine (in_yes pr 0 1000 _ hpr).mono ?_
  rintro e wz ⟨rfl, hwz⟩
  obtain rfl := hwz.symm
  go_wp2_with fail
  refine (form_y kd id me at1 pr true ee ki pe a m c1 _ hm hkk (by omega) hf).mono ?_
  rintro e w3 ⟨rfl, hn3⟩
  have b3 := b2.new hn3
  have c3 := b3.cells
  have hw3 := hw2.trans hn3
  go_wp2_with fail
  refine (specENv 0 ee ki pe a m c1 _ hm he).mono ?_
  rintro e w4 ⟨rfl, hn4⟩
  have c4 := (b3.new hn4).cells
  go_wp2
  go_ret
  exact ⟨rfl, hw3.trans hn4⟩

theorem lmB (B : Nat) (id : Int) (up : Bool) (ro ep su ma ot co : Int) (A : Option Addr) (n c : Nat) (kd me at1 pr : Int) (ee ki pe : Int) (a : Option Addr) (m c1 : Nat) (w : World) (hb : NdC w B o #[.int .i64 id, .bool up, .int .i64 ro, .int .i64 ep, .slice A n c, .int .i64 su, .int .i64 ma, .int .i64 ot, .int .i64 co]) (hm : m ≤ 1048576) (hk : 1 ≤ kd ∧ kd ≤ 2) (hme : 1 ≤ me ∧ me ≤ 1000) (hat : 0 ≤ at1 ∧ at1 ≤ 100) (hpr : 0 ≤ pr ∧ pr ≤ 1000) (hkk : kd = 1 ∨ kd = 2) (hf : Fo kd me at1 pr true ee ki pe m) (he : enF ee ki pe m = 0) (h1 : ¬ me < ee) (h2 : ¬ ee < pr) :
    Calls Tryz.prog 127 #[.pointer (some ⟨B, o, none⟩), .agg #[.int .i64 kd, .int .i64 id, .int .i64 me, .int .i64 at1, .int .i64 pr, .bool true, .int .i64 ee, .int .i64 ki, .int .i64 pe, .slice a m c1]] w fun e w' => e = .returned (.int .i64 0) ∧ New w w' := by
  have hw := (New.refl w).alloc (.cells #[.int .i64 kd, .int .i64 id, .int .i64 me, .int .i64 at1, .int .i64 pr, .bool true, .int .i64 ee, .int .i64 ki, .int .i64 pe, .slice a m c1] 120)
  have b0 := hb.new hw
  have b1 := Blk.mk w w.heap.size 120 #[.int .i64 kd, .int .i64 id, .int .i64 me, .int .i64 at1, .int .i64 pr, .bool true, .int .i64 ee, .int .i64 ki, .int .i64 pe, .slice a m c1] rfl
  have kt : (id != id) = false := by simp
  go_enter Tryz.func127, Tryz.ntmps127
  go_upto_region 1 with fail
  generalize w.alloc (.cells #[.int .i64 kd, .int .i64 id, .int .i64 me, .int .i64 at1, .int .i64 pr, .bool true, .int .i64 ee, .int .i64 ki, .int .i64 pe, .slice a m c1] 120) = w0 at *
  have C0 := ndc_regrown b0
  have C1 := blk_regrown b1
  refine wp_region_quiet_below (by kernel_rfl) (by kernel_rfl) ?_
  repeat (go_big_quiet_step ((go_at_call 61; exact calls_regrown_same (in_yes kd 1 2 _ hk))))
  refine wpQuiet_nil ?_
  rintro w2 hn2
  replace hn2 := new_of_regrown hn2
  have hw2 := hw.trans hn2
  have b2 := b1.new hn2
  have c2 := b2.cells
  clear C0 C1
  go_wp2_with fail
  refine (sepoch_yes me _ hme).mono ?_
  rintro e wz ⟨rfl, hwz⟩
  obtain rfl := hwz.symm
  go_wp2_with fail
  refine (in_yes at1 0 100 _ hat).mono ?_
  rintro e wz ⟨rfl, hwz⟩
  obtain rfl := hwz.symm
  go_wp2_with fail
  refine (in_yes pr 0 1000 _ hpr).mono ?_
  rintro e wz ⟨rfl, hwz⟩
  obtain rfl := hwz.symm
  go_wp2_with fail
  refine (form_y kd id me at1 pr true ee ki pe a m c1 _ hm hkk (by omega) hf).mono ?_
  rintro e w3 ⟨rfl, hn3⟩
  have b3 := b2.new hn3
  have c3 := b3.cells
  have hw3 := hw2.trans hn3
  go_wp2_with fail
  refine (specENv 0 ee ki pe a m c1 _ hm he).mono ?_
  rintro e w4 ⟨rfl, hn4⟩
  have c4 := (b3.new hn4).cells
  go_wp2
  go_ret
  exact ⟨rfl, hw3.trans hn4⟩

theorem l12M_x (B : Nat) (id : Int) (up : Bool) (ro ep su ma ot co : Int) (A : Option Addr) (n c : Nat) (kd tgt me at1 pr : Int) (has : Bool) (ee ki pe : Int) (a : Option Addr) (m c1 : Nat) (w : World) (hb : NdC w B o #[.int .i64 id, .bool up, .int .i64 ro, .int .i64 ep, .slice A n c, .int .i64 su, .int .i64 ma, .int .i64 ot, .int .i64 co]) (hm : m ≤ 1048576) :
    Calls Tryz.prog 127 #[.pointer (some ⟨B, o, none⟩), .agg #[.int .i64 kd, .int .i64 tgt, .int .i64 me, .int .i64 at1, .int .i64 pr, .bool has, .int .i64 ee, .int .i64 ki, .int .i64 pe, .slice a m c1]] w fun e w' => e = .returned (.int .i64 (mlF id kd tgt me at1 pr has ee ki pe m)) ∧ New w w' := by
  unfold mlF
  by_cases hk : kd = 1 ∨ kd = 2
  case neg => rw [if_pos (fun k => hk k.1)]; exact lm1 B id up ro ep su ma ot co A n c kd tgt me at1 pr has ee ki pe a m c1 w hb hm (by omega)
  have hk' : 1 ≤ kd ∧ kd ≤ 2 := by omega
  by_cases ht : tgt = id
  case neg => rw [if_pos (fun k => ht k.2)]; exact lm2 B id up ro ep su ma ot co A n c kd tgt me at1 pr has ee ki pe a m c1 w hb hm hk' ht
  rw [if_neg (fun k => k ⟨hk, ht⟩)]
  subst ht
  by_cases hme : 1 ≤ me ∧ me ≤ 1000
  case neg => rw [if_pos (fun k => hme k.1)]; exact lm3 B tgt up ro ep su ma ot co A n c kd me at1 pr has ee ki pe a m c1 w hb hm hk' (by omega)
  by_cases hat : 0 ≤ at1 ∧ at1 ≤ 100
  case neg => rw [if_pos (fun k => hat k.2.1)]; exact lm4 B tgt up ro ep su ma ot co A n c kd me at1 pr has ee ki pe a m c1 w hb hm hk' hme (by omega)
  by_cases hpr : 0 ≤ pr ∧ pr ≤ 1000
  case neg => rw [if_pos (fun k => hpr k.2.2)]; exact lm5 B tgt up ro ep su ma ot co A n c kd me at1 pr has ee ki pe a m c1 w hb hm hk' hme hat (by omega)
  rw [if_neg (fun k => k ⟨hme, hat, hpr⟩)]
  by_cases hf : (kd = 2 → pr = 0) ∧ (kd ≠ 2 → ((at1 = 0 → pr = 0) ∧ (pr = 0 → at1 = 0)) ∧ pr ≤ me)
  case neg => rw [if_pos hf]; exact lm6 B tgt up ro ep su ma ot co A n c kd me at1 pr has ee ki pe a m c1 w hb hm hk' hme hat hpr hk (fun k => hf k.1)
  rw [if_neg (fun k => k hf)]
  cases has with
  | true =>
    rcases hk with rfl | rfl
    · rw [if_pos ⟨rfl, rfl⟩]
      have hF : Fo 1 me at1 pr true ee ki pe m := ⟨hf, .inl ⟨rfl, rfl⟩⟩
      unfold efF
      by_cases he : enF ee ki pe m = 0
      · rw [if_neg (fun k => k he)]
        by_cases h1 : me < ee
        · rw [if_pos (.inl h1)]; exact lm9 B tgt up ro ep su ma ot co A n c 1 me at1 pr ee ki pe a m c1 w hb hm hk' hme hat hpr (.inl rfl) hF he h1
        · by_cases h2 : ee < pr
          · rw [if_pos (.inr h2)]; exact lmA B tgt up ro ep su ma ot co A n c 1 me at1 pr ee ki pe a m c1 w hb hm hk' hme hat hpr (.inl rfl) hF he h1 h2
          · rw [if_neg (by omega)]; exact lmB B tgt up ro ep su ma ot co A n c 1 me at1 pr ee ki pe a m c1 w hb hm hk' hme hat hpr (.inl rfl) hF he h1 h2
      · rw [if_pos he]; exact lm8 B tgt up ro ep su ma ot co A n c 1 me at1 pr ee ki pe a m c1 w hb hm hk' hme hat hpr (.inl rfl) hF _ rfl he
    · rw [if_neg (by omega), if_pos (.inl rfl)]
      exact lm6 B tgt up ro ep su ma ot co A n c 2 me at1 pr true ee ki pe a m c1 w hb hm hk' hme hat hpr (.inr rfl) (fun k => by rcases k.2 with ⟨e, -⟩ | ⟨e, -⟩; omega; cases e)
  | false =>
    rw [if_neg (by simp)]
    by_cases hz : ee = 0 ∧ ki = 0 ∧ pe = 0 ∧ m = 0
    · rw [if_neg (fun k => by rcases k with k | k; cases k; exact k hz)]
      exact lm7 B tgt up ro ep su ma ot co A n c kd me at1 pr ee ki pe a m c1 w hb hm hk' hme hat hpr hk ⟨hf, .inr ⟨rfl, hz⟩⟩
    · rw [if_pos (.inr hz)]
      exact lm6 B tgt up ro ep su ma ot co A n c kd me at1 pr false ee ki pe a m c1 w hb hm hk' hme hat hpr hk (fun k => by rcases k.2 with ⟨-, e⟩ | ⟨-, e⟩; cases e; exact hz e)

end Go.Proofs.YtdbnmkffinhdjaaGreat
