/- What is proved here: what the program's judging of a node answers, for every node of at most 2097152 entries and bytes. -/
import Derived.Test.YtlkhmnjghdbmoaaGreatDoorK12Lg
namespace Go.Proofs.YtlkhmnjghdbmoaaGreatDoor
open Go.RowKit Go.Sort
set_option linter.unusedVariables false
set_option linter.unusedSimpArgs false

/-- Who a node is. -/
def Hd (id ro ep : Int) : Prop := (id = 0 ∨ id = 1) ∧ (ro = 0 ∨ ro = 1) ∧ 0 ≤ ep ∧ ep ≤ 1000
/-- Its counts. -/
def Cn (su ma ot co : Int) (n : Nat) : Prop := (0 ≤ su ∧ su ≤ n) ∧ (0 ≤ ma ∧ ma ≤ n) ∧ (0 ≤ ot ∧ ot ≤ n) ∧ 0 ≤ co ∧ co ≤ su
/-- What fits its role. -/
def Ft (up : Bool) (ro ep ma ot : Int) : Prop := (ro = 1 → up = true ∧ 0 < ep ∧ ma = 0) ∧ (ro ≠ 1 → ot = 0)
/-- That it is at rest. -/
def Rs (su ma co : Int) (n : Nat) : Prop := su = n ∧ ma = 0 ∧ co = 0
/-- The fault of a node. -/
def nF (id : Int) (up : Bool) (ro ep su ma ot co : Int) (n : Nat) (L : List Ek) : Int :=
  if ¬ ((id = 0 ∨ id = 1) ∧ (ro = 0 ∨ ro = 1) ∧ 0 ≤ ep ∧ ep ≤ 1000) then 3 else if 100 < n then 2 else if lgF ep 0 L ≠ 0 then lgF ep 0 L else if ¬ ((0 ≤ su ∧ su ≤ n) ∧ (0 ≤ ma ∧ ma ≤ n) ∧ (0 ≤ ot ∧ ot ≤ n) ∧ 0 ≤ co ∧ co ≤ su) then 3 else if ¬ ((ro = 1 → up = true ∧ 0 < ep ∧ ma = 0) ∧ (ro ≠ 1 → ot = 0)) then 1 else if up = false ∧ ¬ (su = n ∧ ma = 0 ∧ co = 0) then 1 else 0

theorem isNode_yes (x : Int) (w : World) (h : x = 0 ∨ x = 1) : Calls Tryz.prog 83 #[.int .i64 x] w fun e w' => e = .returned (.bool true) ∧ w' = w := by
  rcases h with rfl | rfl
  · go_enter Tryz.func83, Tryz.ntmps83
    go_wp2
    go_ret
    exact ⟨rfl, rfl⟩
  · go_enter Tryz.func83, Tryz.ntmps83
    go_wp2
    go_ret
    exact ⟨rfl, rfl⟩
theorem isNode_no (x : Int) (w : World) (h : ¬ (x = 0 ∨ x = 1)) : Calls Tryz.prog 83 #[.int .i64 x] w fun e w' => e = .returned (.bool false) ∧ w' = w := by
  have h0 : ¬ x = 0 := fun e => h (.inl e)
  have h1 : ¬ x = 1 := fun e => h (.inr e)
  have g0 : (x == 0) = false := by simp [h0]
  have g1 : (x == 1) = false := by simp [h1]
  clear h
  go_enter Tryz.func83, Tryz.ntmps83
  go_wp2
  go_ret
  exact ⟨rfl, rfl⟩

theorem isRole_yes (x : Int) (w : World) (h : x = 0 ∨ x = 1) : Calls Tryz.prog 105 #[.int .i64 x] w fun e w' => e = .returned (.bool true) ∧ w' = w := by
  rcases h with rfl | rfl
  · go_enter Tryz.func105, Tryz.ntmps105
    go_wp2
    go_ret
    exact ⟨rfl, rfl⟩
  · go_enter Tryz.func105, Tryz.ntmps105
    go_wp2
    go_ret
    exact ⟨rfl, rfl⟩
theorem isRole_no (x : Int) (w : World) (h : ¬ (x = 0 ∨ x = 1)) : Calls Tryz.prog 105 #[.int .i64 x] w fun e w' => e = .returned (.bool false) ∧ w' = w := by
  have h0 : ¬ x = 0 := fun e => h (.inl e)
  have h1 : ¬ x = 1 := fun e => h (.inr e)
  have g0 : (x == 0) = false := by simp [h0]
  have g1 : (x == 1) = false := by simp [h1]
  clear h
  go_enter Tryz.func105, Tryz.ntmps105
  go_wp2
  go_ret
  exact ⟨rfl, rfl⟩


theorem count_any (B : Nat) (id : Int) (up : Bool) (ro ep su ma ot co : Int) (A : Option Addr) (n c : Nat) (w : World) (hb : Blk w B 107 #[.int .i64 id, .bool up, .int .i64 ro, .int .i64 ep, .slice A n c, .int .i64 su, .int .i64 ma, .int .i64 ot, .int .i64 co]) :
    Calls Tryz.prog 88 #[.pointer (some ⟨B, 0, none⟩)] w fun e w' => e = .returned (.int .i64 n) ∧ w' = w := by
  have cB := hb.cells
  go_enter Tryz.func88, Tryz.ntmps88
  go_wp2
  go_ret
  exact ⟨rfl, rfl⟩

theorem isCount_yes (x : Int) (B : Nat) (id : Int) (up : Bool) (ro ep su ma ot co : Int) (A : Option Addr) (n c : Nat) (w : World) (hb : Blk w B 107 #[.int .i64 id, .bool up, .int .i64 ro, .int .i64 ep, .slice A n c, .int .i64 su, .int .i64 ma, .int .i64 ot, .int .i64 co]) (h : 0 ≤ x ∧ x ≤ n) :
    Calls Tryz.prog 107 #[.pointer (some ⟨B, 0, none⟩), .int .i64 x] w fun e w' => e = .returned (.bool true) ∧ w' = w := by
  obtain ⟨h0, h1⟩ := h
  go_enter Tryz.func107, Tryz.ntmps107
  go_wp2_with fail
  refine (count_any B id up ro ep su ma ot co A n c _ hb).mono ?_
  rintro e w1 ⟨rfl, rfl⟩
  go_wp2
  go_ret
  exact ⟨rfl, rfl⟩

theorem isCount_no (x : Int) (B : Nat) (id : Int) (up : Bool) (ro ep su ma ot co : Int) (A : Option Addr) (n c : Nat) (w : World) (hb : Blk w B 107 #[.int .i64 id, .bool up, .int .i64 ro, .int .i64 ep, .slice A n c, .int .i64 su, .int .i64 ma, .int .i64 ot, .int .i64 co]) (h : ¬ (0 ≤ x ∧ x ≤ n)) :
    Calls Tryz.prog 107 #[.pointer (some ⟨B, 0, none⟩), .int .i64 x] w fun e w' => e = .returned (.bool false) ∧ w' = w := by
  by_cases h0 : 0 ≤ x
  · have h1 : ¬ x ≤ n := fun e => h ⟨h0, e⟩
    have g : decide (x ≤ (n : Int)) = false := decide_eq_false h1
    clear h
    go_enter Tryz.func107, Tryz.ntmps107
    go_wp2_with fail
    refine (count_any B id up ro ep su ma ot co A n c _ hb).mono ?_
    rintro e w1 ⟨rfl, rfl⟩
    go_wp2
    go_ret
    exact ⟨rfl, rfl⟩
  · clear h
    go_enter Tryz.func107, Tryz.ntmps107
    go_wp2
    go_ret
    exact ⟨rfl, rfl⟩

theorem active_yes (B : Nat) (id : Int) (up : Bool) (ep su ma ot co : Int) (A : Option Addr) (n c : Nat) (w : World) (hb : Blk w B 107 #[.int .i64 id, .bool up, .int .i64 1, .int .i64 ep, .slice A n c, .int .i64 su, .int .i64 ma, .int .i64 ot, .int .i64 co]) :
    Calls Tryz.prog 86 #[.pointer (some ⟨B, 0, none⟩)] w fun e w' => e = .returned (.bool true) ∧ w' = w := by
  have cB := hb.cells
  go_enter Tryz.func86, Tryz.ntmps86
  go_wp2
  go_ret
  exact ⟨rfl, rfl⟩
theorem active_no (B : Nat) (id : Int) (up : Bool) (ro ep su ma ot co : Int) (A : Option Addr) (n c : Nat) (w : World) (hb : Blk w B 107 #[.int .i64 id, .bool up, .int .i64 ro, .int .i64 ep, .slice A n c, .int .i64 su, .int .i64 ma, .int .i64 ot, .int .i64 co]) (h : ¬ ro = 1) :
    Calls Tryz.prog 86 #[.pointer (some ⟨B, 0, none⟩)] w fun e w' => e = .returned (.bool false) ∧ w' = w := by
  have cB := hb.cells
  have g : (ro == 1) = false := by simp [h]
  go_enter Tryz.func86, Tryz.ntmps86
  go_wp2
  go_ret
  exact ⟨rfl, rfl⟩

theorem fits_yes (B : Nat) (id : Int) (up : Bool) (ro ep su ma ot co : Int) (A : Option Addr) (n c : Nat) (w : World) (hb : Blk w B 107 #[.int .i64 id, .bool up, .int .i64 ro, .int .i64 ep, .slice A n c, .int .i64 su, .int .i64 ma, .int .i64 ot, .int .i64 co]) (h : Ft up ro ep ma ot) :
    Calls Tryz.prog 108 #[.pointer (some ⟨B, 0, none⟩)] w fun e w' => e = .returned (.bool true) ∧ w' = w := by
  by_cases hr : ro = 1
  · obtain ⟨rfl, he, rfl⟩ := h.1 hr
    subst hr
    have cB := hb.cells
    go_enter Tryz.func108, Tryz.ntmps108
    go_wp2_with fail
    refine (active_yes B id true ep su 0 ot co A n c _ hb).mono ?_
    rintro e w1 ⟨rfl, rfl⟩
    go_wp2
    go_ret
    exact ⟨rfl, rfl⟩
  · obtain rfl := h.2 hr
    have cB := hb.cells
    go_enter Tryz.func108, Tryz.ntmps108
    go_wp2_with fail
    refine (active_no B id up ro ep su ma 0 co A n c _ hb hr).mono ?_
    rintro e w1 ⟨rfl, rfl⟩
    go_wp2
    go_ret
    exact ⟨rfl, rfl⟩

theorem fits_no (B : Nat) (id : Int) (up : Bool) (ro ep su ma ot co : Int) (A : Option Addr) (n c : Nat) (w : World) (hb : Blk w B 107 #[.int .i64 id, .bool up, .int .i64 ro, .int .i64 ep, .slice A n c, .int .i64 su, .int .i64 ma, .int .i64 ot, .int .i64 co]) (h : ¬ Ft up ro ep ma ot) :
    Calls Tryz.prog 108 #[.pointer (some ⟨B, 0, none⟩)] w fun e w' => e = .returned (.bool false) ∧ w' = w := by
  by_cases hr : ro = 1
  · subst hr
    have cB := hb.cells
    cases up with
    | false =>
      clear h
      go_enter Tryz.func108, Tryz.ntmps108
      go_wp2_with fail
      refine (active_yes B id false ep su ma ot co A n c _ hb).mono ?_
      rintro e w1 ⟨rfl, rfl⟩
      go_wp2
      go_ret
      exact ⟨rfl, rfl⟩
    | true =>
      by_cases he : 0 < ep
      · have hm : ¬ ma = 0 := fun e => h ⟨fun _ => ⟨rfl, he, e⟩, fun f => absurd rfl f⟩
        have g : (ma == 0) = false := by simp [hm]
        clear h
        go_enter Tryz.func108, Tryz.ntmps108
        go_wp2_with fail
        refine (active_yes B id true ep su ma ot co A n c _ hb).mono ?_
        rintro e w1 ⟨rfl, rfl⟩
        go_wp2
        go_ret
        exact ⟨rfl, rfl⟩
      · clear h
        go_enter Tryz.func108, Tryz.ntmps108
        go_wp2_with fail
        refine (active_yes B id true ep su ma ot co A n c _ hb).mono ?_
        rintro e w1 ⟨rfl, rfl⟩
        go_wp2
        go_ret
        exact ⟨rfl, rfl⟩
  · have ho : ¬ ot = 0 := fun e => h ⟨fun f => absurd f hr, fun _ => e⟩
    have g : (ot == 0) = false := by simp [ho]
    have cB := hb.cells
    clear h
    go_enter Tryz.func108, Tryz.ntmps108
    go_wp2_with fail
    refine (active_no B id up ro ep su ma ot co A n c _ hb hr).mono ?_
    rintro e w1 ⟨rfl, rfl⟩
    go_wp2
    go_ret
    exact ⟨rfl, rfl⟩

theorem rest_yes (B : Nat) (id : Int) (up : Bool) (ro ep su ma ot co : Int) (A : Option Addr) (n c : Nat) (w : World) (hb : Blk w B 107 #[.int .i64 id, .bool up, .int .i64 ro, .int .i64 ep, .slice A n c, .int .i64 su, .int .i64 ma, .int .i64 ot, .int .i64 co]) (h : Rs su ma co n) :
    Calls Tryz.prog 109 #[.pointer (some ⟨B, 0, none⟩)] w fun e w' => e = .returned (.bool true) ∧ New w w' := by
  obtain ⟨rfl, rfl, rfl⟩ := h
  have cB := blk_regrown hb
  · skip
    go_enter Tryz.func109, Tryz.ntmps109
    go_wp2_with fail
    refine wp_region_quiet_below (by kernel_rfl) (by kernel_rfl) ?_
    repeat (go_big_quiet_step ((go_at_call 88; exact calls_regrown_same (count_any B id up ro ep n 0 ot 0 A n c _ (hb.new (new_regrown _ _ _))))))
    refine wpQuiet_nil ?_
    rintro w3 hn3
    replace hn3 := new_of_regrown hn3
    go_wp2
    go_ret
    exact ⟨rfl, hn3⟩

theorem rest_no (B : Nat) (id : Int) (up : Bool) (ro ep su ma ot co : Int) (A : Option Addr) (n c : Nat) (w : World) (hb : Blk w B 107 #[.int .i64 id, .bool up, .int .i64 ro, .int .i64 ep, .slice A n c, .int .i64 su, .int .i64 ma, .int .i64 ot, .int .i64 co]) (h : ¬ Rs su ma co n) :
    Calls Tryz.prog 109 #[.pointer (some ⟨B, 0, none⟩)] w fun e w' => e = .returned (.bool false) ∧ New w w' := by
  have cB := blk_regrown hb
  by_cases h1 : su = (n : Int)
  · by_cases h2 : ma = 0
    · have h3 : ¬ co = 0 := fun e => h ⟨h1, h2, e⟩
      have g3 : (co == 0) = false := by simp [h3]
      have g2 : (ma == 0) = true := by simp [h2]
      have g1 : (su == (n : Int)) = true := by simp [h1]
      clear h h1 h2 h3
      go_enter Tryz.func109, Tryz.ntmps109
      go_wp2_with fail
      refine wp_region_quiet_below (by kernel_rfl) (by kernel_rfl) ?_
      repeat (go_big_quiet_step ((go_at_call 88; exact calls_regrown_same (count_any B id up ro ep su ma ot co A n c _ (hb.new (new_regrown _ _ _))))))
      refine wpQuiet_nil ?_
      rintro w3 hn3
      replace hn3 := new_of_regrown hn3
      go_wp2
      go_ret
      exact ⟨rfl, hn3⟩

    · have g2 : (ma == 0) = false := by simp [h2]
      have g1 : (su == (n : Int)) = true := by simp [h1]
      clear h h1 h2
      go_enter Tryz.func109, Tryz.ntmps109
      go_wp2_with fail
      refine wp_region_quiet_below (by kernel_rfl) (by kernel_rfl) ?_
      repeat (go_big_quiet_step ((go_at_call 88; exact calls_regrown_same (count_any B id up ro ep su ma ot co A n c _ (hb.new (new_regrown _ _ _))))))
      refine wpQuiet_nil ?_
      rintro w3 hn3
      replace hn3 := new_of_regrown hn3
      go_wp2
      go_ret
      exact ⟨rfl, hn3⟩

  · have g1 : (su == (n : Int)) = false := by simp [h1]
    clear h h1
    go_enter Tryz.func109, Tryz.ntmps109
    go_wp2_with fail
    refine wp_region_quiet_below (by kernel_rfl) (by kernel_rfl) ?_
    repeat (go_big_quiet_step ((go_at_call 88; exact calls_regrown_same (count_any B id up ro ep su ma ot co A n c _ (hb.new (new_regrown _ _ _))))))
    refine wpQuiet_nil ?_
    rintro w3 hn3
    replace hn3 := new_of_regrown hn3
    go_wp2
    go_ret
    exact ⟨rfl, hn3⟩

theorem implLFv (v : Int) (B : Nat) (id : Int) (up : Bool) (ro ep su ma ot co : Int) (A : Option Addr) (n c : Nat) (V : List EkV) (w : World) (hb : Blk w B 107 #[.int .i64 id, .bool up, .int .i64 ro, .int .i64 ep, .slice A n c, .int .i64 su, .int .i64 ma, .int .i64 ot, .int .i64 co]) (h : LgAt w A V) (hn : V.length = n) (hm : n ≤ 2097152) (hv : lgF ep 0 (V.map EkV.r) = v) :
    Calls Tryz.prog 106 #[.pointer (some ⟨B, 0, none⟩)] w fun e w' => e = .returned (.int .i64 v) ∧ New w w' := by
  rw [← hv]
  exact implLF B id up ro ep su ma ot co A n c V w hb h hn hm

set_option maxHeartbeats 800000 in
theorem nf1 (id : Int) (up : Bool) (ro ep su ma ot co : Int) (A : Option Addr) (n c : Nat) (V : List EkV) (w : World) (h : LgAt w A V) (hn : V.length = n) (hm : n ≤ 2097152) (hid : ¬ (id = 0 ∨ id = 1)) :
    Calls Tryz.prog 81 #[.agg #[.int .i64 id, .bool up, .int .i64 ro, .int .i64 ep, .slice A n c, .int .i64 su, .int .i64 ma, .int .i64 ot, .int .i64 co]] w fun e w' => e = .returned (.int .i64 3) ∧ New w w' := by
  have hw := (New.refl w).alloc (.cells #[.int .i64 id, .bool up, .int .i64 ro, .int .i64 ep, .slice A n c, .int .i64 su, .int .i64 ma, .int .i64 ot, .int .i64 co] 107)
  have bN := Blk.mk w w.heap.size 107 #[.int .i64 id, .bool up, .int .i64 ro, .int .i64 ep, .slice A n c, .int .i64 su, .int .i64 ma, .int .i64 ot, .int .i64 co] rfl
  have cN := bN.cells
  go_enter Tryz.func81, Tryz.ntmps81
  go_wp2_with fail
  refine (isNode_no _ _ hid).mono ?_
  rintro e w1 ⟨rfl, rfl⟩
  go_wp2
  go_ret
  exact ⟨rfl, hw⟩

set_option maxHeartbeats 800000 in
theorem nf2 (id : Int) (up : Bool) (ro ep su ma ot co : Int) (A : Option Addr) (n c : Nat) (V : List EkV) (w : World) (h : LgAt w A V) (hn : V.length = n) (hm : n ≤ 2097152) (hid : id = 0 ∨ id = 1) (hro : ¬ (ro = 0 ∨ ro = 1)) :
    Calls Tryz.prog 81 #[.agg #[.int .i64 id, .bool up, .int .i64 ro, .int .i64 ep, .slice A n c, .int .i64 su, .int .i64 ma, .int .i64 ot, .int .i64 co]] w fun e w' => e = .returned (.int .i64 3) ∧ New w w' := by
  have hw := (New.refl w).alloc (.cells #[.int .i64 id, .bool up, .int .i64 ro, .int .i64 ep, .slice A n c, .int .i64 su, .int .i64 ma, .int .i64 ot, .int .i64 co] 107)
  have bN := Blk.mk w w.heap.size 107 #[.int .i64 id, .bool up, .int .i64 ro, .int .i64 ep, .slice A n c, .int .i64 su, .int .i64 ma, .int .i64 ot, .int .i64 co] rfl
  have cN := bN.cells
  go_enter Tryz.func81, Tryz.ntmps81
  go_wp2_with fail
  refine (isNode_yes _ _ hid).mono ?_
  rintro e w1 ⟨rfl, rfl⟩
  go_wp2_with fail
  refine (isRole_no _ _ hro).mono ?_
  rintro e w1 ⟨rfl, rfl⟩
  go_wp2
  go_ret
  exact ⟨rfl, hw⟩

set_option maxHeartbeats 800000 in
theorem nf3 (id : Int) (up : Bool) (ro ep su ma ot co : Int) (A : Option Addr) (n c : Nat) (V : List EkV) (w : World) (h : LgAt w A V) (hn : V.length = n) (hm : n ≤ 2097152) (hid : id = 0 ∨ id = 1) (hro : ro = 0 ∨ ro = 1) (he0 : ep < 0) :
    Calls Tryz.prog 81 #[.agg #[.int .i64 id, .bool up, .int .i64 ro, .int .i64 ep, .slice A n c, .int .i64 su, .int .i64 ma, .int .i64 ot, .int .i64 co]] w fun e w' => e = .returned (.int .i64 3) ∧ New w w' := by
  have hw := (New.refl w).alloc (.cells #[.int .i64 id, .bool up, .int .i64 ro, .int .i64 ep, .slice A n c, .int .i64 su, .int .i64 ma, .int .i64 ot, .int .i64 co] 107)
  have bN := Blk.mk w w.heap.size 107 #[.int .i64 id, .bool up, .int .i64 ro, .int .i64 ep, .slice A n c, .int .i64 su, .int .i64 ma, .int .i64 ot, .int .i64 co] rfl
  have cN := bN.cells
  go_enter Tryz.func81, Tryz.ntmps81
  go_wp2_with fail
  refine (isNode_yes _ _ hid).mono ?_
  rintro e w1 ⟨rfl, rfl⟩
  go_wp2_with fail
  refine (isRole_yes _ _ hro).mono ?_
  rintro e w1 ⟨rfl, rfl⟩
  go_wp2
  go_ret
  exact ⟨rfl, hw⟩

set_option maxHeartbeats 800000 in
theorem nf4 (id : Int) (up : Bool) (ro ep su ma ot co : Int) (A : Option Addr) (n c : Nat) (V : List EkV) (w : World) (h : LgAt w A V) (hn : V.length = n) (hm : n ≤ 2097152) (hid : id = 0 ∨ id = 1) (hro : ro = 0 ∨ ro = 1) (he0 : 0 ≤ ep) (he1 : 1000 < ep) :
    Calls Tryz.prog 81 #[.agg #[.int .i64 id, .bool up, .int .i64 ro, .int .i64 ep, .slice A n c, .int .i64 su, .int .i64 ma, .int .i64 ot, .int .i64 co]] w fun e w' => e = .returned (.int .i64 3) ∧ New w w' := by
  have hw := (New.refl w).alloc (.cells #[.int .i64 id, .bool up, .int .i64 ro, .int .i64 ep, .slice A n c, .int .i64 su, .int .i64 ma, .int .i64 ot, .int .i64 co] 107)
  have bN := Blk.mk w w.heap.size 107 #[.int .i64 id, .bool up, .int .i64 ro, .int .i64 ep, .slice A n c, .int .i64 su, .int .i64 ma, .int .i64 ot, .int .i64 co] rfl
  have cN := bN.cells
  go_enter Tryz.func81, Tryz.ntmps81
  go_wp2_with fail
  refine (isNode_yes _ _ hid).mono ?_
  rintro e w1 ⟨rfl, rfl⟩
  go_wp2_with fail
  refine (isRole_yes _ _ hro).mono ?_
  rintro e w1 ⟨rfl, rfl⟩
  go_wp2
  go_ret
  exact ⟨rfl, hw⟩

set_option maxHeartbeats 800000 in
theorem nf5 (id : Int) (up : Bool) (ro ep su ma ot co : Int) (A : Option Addr) (n c : Nat) (V : List EkV) (w : World) (h : LgAt w A V) (hn : V.length = n) (hm : n ≤ 2097152) (hid : id = 0 ∨ id = 1) (hro : ro = 0 ∨ ro = 1) (he0 : 0 ≤ ep) (he1 : ep ≤ 1000) (hn1 : 100 < n) :
    Calls Tryz.prog 81 #[.agg #[.int .i64 id, .bool up, .int .i64 ro, .int .i64 ep, .slice A n c, .int .i64 su, .int .i64 ma, .int .i64 ot, .int .i64 co]] w fun e w' => e = .returned (.int .i64 2) ∧ New w w' := by
  have hw := (New.refl w).alloc (.cells #[.int .i64 id, .bool up, .int .i64 ro, .int .i64 ep, .slice A n c, .int .i64 su, .int .i64 ma, .int .i64 ot, .int .i64 co] 107)
  have bN := Blk.mk w w.heap.size 107 #[.int .i64 id, .bool up, .int .i64 ro, .int .i64 ep, .slice A n c, .int .i64 su, .int .i64 ma, .int .i64 ot, .int .i64 co] rfl
  have cN := bN.cells
  go_enter Tryz.func81, Tryz.ntmps81
  go_wp2_with fail
  refine (isNode_yes _ _ hid).mono ?_
  rintro e w1 ⟨rfl, rfl⟩
  go_wp2_with fail
  refine (isRole_yes _ _ hro).mono ?_
  rintro e w1 ⟨rfl, rfl⟩
  go_wp2
  go_ret
  exact ⟨rfl, hw⟩

set_option maxHeartbeats 800000 in
theorem nf6 (id : Int) (up : Bool) (ro ep su ma ot co : Int) (A : Option Addr) (n c : Nat) (V : List EkV) (w : World) (h : LgAt w A V) (hn : V.length = n) (hm : n ≤ 2097152) (hid : id = 0 ∨ id = 1) (hro : ro = 0 ∨ ro = 1) (he0 : 0 ≤ ep) (he1 : ep ≤ 1000) (hn1 : ¬ 100 < n) (f : Int) (hlg : lgF ep 0 (V.map EkV.r) = f) (hf : ¬ f = 0) :
    Calls Tryz.prog 81 #[.agg #[.int .i64 id, .bool up, .int .i64 ro, .int .i64 ep, .slice A n c, .int .i64 su, .int .i64 ma, .int .i64 ot, .int .i64 co]] w fun e w' => e = .returned (.int .i64 f) ∧ New w w' := by
  have hw := (New.refl w).alloc (.cells #[.int .i64 id, .bool up, .int .i64 ro, .int .i64 ep, .slice A n c, .int .i64 su, .int .i64 ma, .int .i64 ot, .int .i64 co] 107)
  have bN := Blk.mk w w.heap.size 107 #[.int .i64 id, .bool up, .int .i64 ro, .int .i64 ep, .slice A n c, .int .i64 su, .int .i64 ma, .int .i64 ot, .int .i64 co] rfl
  have cN := bN.cells
  go_enter Tryz.func81, Tryz.ntmps81
  go_wp2_with fail
  refine (isNode_yes _ _ hid).mono ?_
  rintro e w1 ⟨rfl, rfl⟩
  go_wp2_with fail
  refine (isRole_yes _ _ hro).mono ?_
  rintro e w1 ⟨rfl, rfl⟩
  go_wp2_with fail
  refine (implLFv f w.heap.size id up ro ep su ma ot co A n c V _ bN (h.new hw) hn hm hlg).mono ?_
  rintro e w2 ⟨rfl, hn2⟩
  have b2 := bN.new hn2
  have c2 := b2.cells
  have hw2 := hw.trans hn2
  clear cN bN
  go_wp2
  go_ret
  exact ⟨rfl, hw2⟩

set_option maxHeartbeats 800000 in
theorem nf7 (id : Int) (up : Bool) (ro ep su ma ot co : Int) (A : Option Addr) (n c : Nat) (V : List EkV) (w : World) (h : LgAt w A V) (hn : V.length = n) (hm : n ≤ 2097152) (hid : id = 0 ∨ id = 1) (hro : ro = 0 ∨ ro = 1) (he0 : 0 ≤ ep) (he1 : ep ≤ 1000) (hn1 : ¬ 100 < n) (hlg : lgF ep 0 (V.map EkV.r) = 0) (hsu : ¬ (0 ≤ su ∧ su ≤ n)) :
    Calls Tryz.prog 81 #[.agg #[.int .i64 id, .bool up, .int .i64 ro, .int .i64 ep, .slice A n c, .int .i64 su, .int .i64 ma, .int .i64 ot, .int .i64 co]] w fun e w' => e = .returned (.int .i64 3) ∧ New w w' := by
  have hw := (New.refl w).alloc (.cells #[.int .i64 id, .bool up, .int .i64 ro, .int .i64 ep, .slice A n c, .int .i64 su, .int .i64 ma, .int .i64 ot, .int .i64 co] 107)
  have bN := Blk.mk w w.heap.size 107 #[.int .i64 id, .bool up, .int .i64 ro, .int .i64 ep, .slice A n c, .int .i64 su, .int .i64 ma, .int .i64 ot, .int .i64 co] rfl
  have cN := bN.cells
  go_enter Tryz.func81, Tryz.ntmps81
  go_wp2_with fail
  refine (isNode_yes _ _ hid).mono ?_
  rintro e w1 ⟨rfl, rfl⟩
  go_wp2_with fail
  refine (isRole_yes _ _ hro).mono ?_
  rintro e w1 ⟨rfl, rfl⟩
  go_wp2_with fail
  refine (implLFv 0 w.heap.size id up ro ep su ma ot co A n c V _ bN (h.new hw) hn hm hlg).mono ?_
  rintro e w2 ⟨rfl, hn2⟩
  have b2 := bN.new hn2
  have c2 := b2.cells
  have hw2 := hw.trans hn2
  clear cN bN
  go_wp2_with fail
  refine (isCount_no su w.heap.size id up ro ep su ma ot co A n c _ b2 hsu).mono ?_
  rintro e w3 ⟨rfl, rfl⟩
  go_wp2
  go_ret
  exact ⟨rfl, hw2⟩

set_option maxHeartbeats 800000 in
theorem nf8 (id : Int) (up : Bool) (ro ep su ma ot co : Int) (A : Option Addr) (n c : Nat) (V : List EkV) (w : World) (h : LgAt w A V) (hn : V.length = n) (hm : n ≤ 2097152) (hid : id = 0 ∨ id = 1) (hro : ro = 0 ∨ ro = 1) (he0 : 0 ≤ ep) (he1 : ep ≤ 1000) (hn1 : ¬ 100 < n) (hlg : lgF ep 0 (V.map EkV.r) = 0) (hsu : 0 ≤ su ∧ su ≤ n) (hma : ¬ (0 ≤ ma ∧ ma ≤ n)) :
    Calls Tryz.prog 81 #[.agg #[.int .i64 id, .bool up, .int .i64 ro, .int .i64 ep, .slice A n c, .int .i64 su, .int .i64 ma, .int .i64 ot, .int .i64 co]] w fun e w' => e = .returned (.int .i64 3) ∧ New w w' := by
  have hw := (New.refl w).alloc (.cells #[.int .i64 id, .bool up, .int .i64 ro, .int .i64 ep, .slice A n c, .int .i64 su, .int .i64 ma, .int .i64 ot, .int .i64 co] 107)
  have bN := Blk.mk w w.heap.size 107 #[.int .i64 id, .bool up, .int .i64 ro, .int .i64 ep, .slice A n c, .int .i64 su, .int .i64 ma, .int .i64 ot, .int .i64 co] rfl
  have cN := bN.cells
  go_enter Tryz.func81, Tryz.ntmps81
  go_wp2_with fail
  refine (isNode_yes _ _ hid).mono ?_
  rintro e w1 ⟨rfl, rfl⟩
  go_wp2_with fail
  refine (isRole_yes _ _ hro).mono ?_
  rintro e w1 ⟨rfl, rfl⟩
  go_wp2_with fail
  refine (implLFv 0 w.heap.size id up ro ep su ma ot co A n c V _ bN (h.new hw) hn hm hlg).mono ?_
  rintro e w2 ⟨rfl, hn2⟩
  have b2 := bN.new hn2
  have c2 := b2.cells
  have hw2 := hw.trans hn2
  clear cN bN
  go_wp2_with fail
  refine (isCount_yes su w.heap.size id up ro ep su ma ot co A n c _ b2 hsu).mono ?_
  rintro e w3 ⟨rfl, rfl⟩
  go_wp2_with fail
  refine (isCount_no ma w.heap.size id up ro ep su ma ot co A n c _ b2 hma).mono ?_
  rintro e w3 ⟨rfl, rfl⟩
  go_wp2
  go_ret
  exact ⟨rfl, hw2⟩

set_option maxHeartbeats 800000 in
theorem nf9 (id : Int) (up : Bool) (ro ep su ma ot co : Int) (A : Option Addr) (n c : Nat) (V : List EkV) (w : World) (h : LgAt w A V) (hn : V.length = n) (hm : n ≤ 2097152) (hid : id = 0 ∨ id = 1) (hro : ro = 0 ∨ ro = 1) (he0 : 0 ≤ ep) (he1 : ep ≤ 1000) (hn1 : ¬ 100 < n) (hlg : lgF ep 0 (V.map EkV.r) = 0) (hsu : 0 ≤ su ∧ su ≤ n) (hma : 0 ≤ ma ∧ ma ≤ n) (hot : ¬ (0 ≤ ot ∧ ot ≤ n)) :
    Calls Tryz.prog 81 #[.agg #[.int .i64 id, .bool up, .int .i64 ro, .int .i64 ep, .slice A n c, .int .i64 su, .int .i64 ma, .int .i64 ot, .int .i64 co]] w fun e w' => e = .returned (.int .i64 3) ∧ New w w' := by
  have hw := (New.refl w).alloc (.cells #[.int .i64 id, .bool up, .int .i64 ro, .int .i64 ep, .slice A n c, .int .i64 su, .int .i64 ma, .int .i64 ot, .int .i64 co] 107)
  have bN := Blk.mk w w.heap.size 107 #[.int .i64 id, .bool up, .int .i64 ro, .int .i64 ep, .slice A n c, .int .i64 su, .int .i64 ma, .int .i64 ot, .int .i64 co] rfl
  have cN := bN.cells
  go_enter Tryz.func81, Tryz.ntmps81
  go_wp2_with fail
  refine (isNode_yes _ _ hid).mono ?_
  rintro e w1 ⟨rfl, rfl⟩
  go_wp2_with fail
  refine (isRole_yes _ _ hro).mono ?_
  rintro e w1 ⟨rfl, rfl⟩
  go_wp2_with fail
  refine (implLFv 0 w.heap.size id up ro ep su ma ot co A n c V _ bN (h.new hw) hn hm hlg).mono ?_
  rintro e w2 ⟨rfl, hn2⟩
  have b2 := bN.new hn2
  have c2 := b2.cells
  have hw2 := hw.trans hn2
  clear cN bN
  go_wp2_with fail
  refine (isCount_yes su w.heap.size id up ro ep su ma ot co A n c _ b2 hsu).mono ?_
  rintro e w3 ⟨rfl, rfl⟩
  go_wp2_with fail
  refine (isCount_yes ma w.heap.size id up ro ep su ma ot co A n c _ b2 hma).mono ?_
  rintro e w3 ⟨rfl, rfl⟩
  go_wp2_with fail
  refine (isCount_no ot w.heap.size id up ro ep su ma ot co A n c _ b2 hot).mono ?_
  rintro e w3 ⟨rfl, rfl⟩
  go_wp2
  go_ret
  exact ⟨rfl, hw2⟩

set_option maxHeartbeats 800000 in
theorem nf10 (id : Int) (up : Bool) (ro ep su ma ot co : Int) (A : Option Addr) (n c : Nat) (V : List EkV) (w : World) (h : LgAt w A V) (hn : V.length = n) (hm : n ≤ 2097152) (hid : id = 0 ∨ id = 1) (hro : ro = 0 ∨ ro = 1) (he0 : 0 ≤ ep) (he1 : ep ≤ 1000) (hn1 : ¬ 100 < n) (hlg : lgF ep 0 (V.map EkV.r) = 0) (hsu : 0 ≤ su ∧ su ≤ n) (hma : 0 ≤ ma ∧ ma ≤ n) (hot : 0 ≤ ot ∧ ot ≤ n) (hc0 : co < 0) :
    Calls Tryz.prog 81 #[.agg #[.int .i64 id, .bool up, .int .i64 ro, .int .i64 ep, .slice A n c, .int .i64 su, .int .i64 ma, .int .i64 ot, .int .i64 co]] w fun e w' => e = .returned (.int .i64 3) ∧ New w w' := by
  have hw := (New.refl w).alloc (.cells #[.int .i64 id, .bool up, .int .i64 ro, .int .i64 ep, .slice A n c, .int .i64 su, .int .i64 ma, .int .i64 ot, .int .i64 co] 107)
  have bN := Blk.mk w w.heap.size 107 #[.int .i64 id, .bool up, .int .i64 ro, .int .i64 ep, .slice A n c, .int .i64 su, .int .i64 ma, .int .i64 ot, .int .i64 co] rfl
  have cN := bN.cells
  go_enter Tryz.func81, Tryz.ntmps81
  go_wp2_with fail
  refine (isNode_yes _ _ hid).mono ?_
  rintro e w1 ⟨rfl, rfl⟩
  go_wp2_with fail
  refine (isRole_yes _ _ hro).mono ?_
  rintro e w1 ⟨rfl, rfl⟩
  go_wp2_with fail
  refine (implLFv 0 w.heap.size id up ro ep su ma ot co A n c V _ bN (h.new hw) hn hm hlg).mono ?_
  rintro e w2 ⟨rfl, hn2⟩
  have b2 := bN.new hn2
  have c2 := b2.cells
  have hw2 := hw.trans hn2
  clear cN bN
  go_wp2_with fail
  refine (isCount_yes su w.heap.size id up ro ep su ma ot co A n c _ b2 hsu).mono ?_
  rintro e w3 ⟨rfl, rfl⟩
  go_wp2_with fail
  refine (isCount_yes ma w.heap.size id up ro ep su ma ot co A n c _ b2 hma).mono ?_
  rintro e w3 ⟨rfl, rfl⟩
  go_wp2_with fail
  refine (isCount_yes ot w.heap.size id up ro ep su ma ot co A n c _ b2 hot).mono ?_
  rintro e w3 ⟨rfl, rfl⟩
  go_wp2
  go_ret
  exact ⟨rfl, hw2⟩

set_option maxHeartbeats 800000 in
theorem nf11 (id : Int) (up : Bool) (ro ep su ma ot co : Int) (A : Option Addr) (n c : Nat) (V : List EkV) (w : World) (h : LgAt w A V) (hn : V.length = n) (hm : n ≤ 2097152) (hid : id = 0 ∨ id = 1) (hro : ro = 0 ∨ ro = 1) (he0 : 0 ≤ ep) (he1 : ep ≤ 1000) (hn1 : ¬ 100 < n) (hlg : lgF ep 0 (V.map EkV.r) = 0) (hsu : 0 ≤ su ∧ su ≤ n) (hma : 0 ≤ ma ∧ ma ≤ n) (hot : 0 ≤ ot ∧ ot ≤ n) (hc0 : 0 ≤ co) (hc1 : su < co) :
    Calls Tryz.prog 81 #[.agg #[.int .i64 id, .bool up, .int .i64 ro, .int .i64 ep, .slice A n c, .int .i64 su, .int .i64 ma, .int .i64 ot, .int .i64 co]] w fun e w' => e = .returned (.int .i64 3) ∧ New w w' := by
  have hw := (New.refl w).alloc (.cells #[.int .i64 id, .bool up, .int .i64 ro, .int .i64 ep, .slice A n c, .int .i64 su, .int .i64 ma, .int .i64 ot, .int .i64 co] 107)
  have bN := Blk.mk w w.heap.size 107 #[.int .i64 id, .bool up, .int .i64 ro, .int .i64 ep, .slice A n c, .int .i64 su, .int .i64 ma, .int .i64 ot, .int .i64 co] rfl
  have cN := bN.cells
  go_enter Tryz.func81, Tryz.ntmps81
  go_wp2_with fail
  refine (isNode_yes _ _ hid).mono ?_
  rintro e w1 ⟨rfl, rfl⟩
  go_wp2_with fail
  refine (isRole_yes _ _ hro).mono ?_
  rintro e w1 ⟨rfl, rfl⟩
  go_wp2_with fail
  refine (implLFv 0 w.heap.size id up ro ep su ma ot co A n c V _ bN (h.new hw) hn hm hlg).mono ?_
  rintro e w2 ⟨rfl, hn2⟩
  have b2 := bN.new hn2
  have c2 := b2.cells
  have hw2 := hw.trans hn2
  clear cN bN
  go_wp2_with fail
  refine (isCount_yes su w.heap.size id up ro ep su ma ot co A n c _ b2 hsu).mono ?_
  rintro e w3 ⟨rfl, rfl⟩
  go_wp2_with fail
  refine (isCount_yes ma w.heap.size id up ro ep su ma ot co A n c _ b2 hma).mono ?_
  rintro e w3 ⟨rfl, rfl⟩
  go_wp2_with fail
  refine (isCount_yes ot w.heap.size id up ro ep su ma ot co A n c _ b2 hot).mono ?_
  rintro e w3 ⟨rfl, rfl⟩
  go_wp2
  go_ret
  exact ⟨rfl, hw2⟩

set_option maxHeartbeats 800000 in
theorem nf12 (id : Int) (up : Bool) (ro ep su ma ot co : Int) (A : Option Addr) (n c : Nat) (V : List EkV) (w : World) (h : LgAt w A V) (hn : V.length = n) (hm : n ≤ 2097152) (hid : id = 0 ∨ id = 1) (hro : ro = 0 ∨ ro = 1) (he0 : 0 ≤ ep) (he1 : ep ≤ 1000) (hn1 : ¬ 100 < n) (hlg : lgF ep 0 (V.map EkV.r) = 0) (hsu : 0 ≤ su ∧ su ≤ n) (hma : 0 ≤ ma ∧ ma ≤ n) (hot : 0 ≤ ot ∧ ot ≤ n) (hc0 : 0 ≤ co) (hc1 : co ≤ su) (hf : ¬ Ft up ro ep ma ot) :
    Calls Tryz.prog 81 #[.agg #[.int .i64 id, .bool up, .int .i64 ro, .int .i64 ep, .slice A n c, .int .i64 su, .int .i64 ma, .int .i64 ot, .int .i64 co]] w fun e w' => e = .returned (.int .i64 1) ∧ New w w' := by
  have hw := (New.refl w).alloc (.cells #[.int .i64 id, .bool up, .int .i64 ro, .int .i64 ep, .slice A n c, .int .i64 su, .int .i64 ma, .int .i64 ot, .int .i64 co] 107)
  have bN := Blk.mk w w.heap.size 107 #[.int .i64 id, .bool up, .int .i64 ro, .int .i64 ep, .slice A n c, .int .i64 su, .int .i64 ma, .int .i64 ot, .int .i64 co] rfl
  have cN := bN.cells
  go_enter Tryz.func81, Tryz.ntmps81
  go_wp2_with fail
  refine (isNode_yes _ _ hid).mono ?_
  rintro e w1 ⟨rfl, rfl⟩
  go_wp2_with fail
  refine (isRole_yes _ _ hro).mono ?_
  rintro e w1 ⟨rfl, rfl⟩
  go_wp2_with fail
  refine (implLFv 0 w.heap.size id up ro ep su ma ot co A n c V _ bN (h.new hw) hn hm hlg).mono ?_
  rintro e w2 ⟨rfl, hn2⟩
  have b2 := bN.new hn2
  have c2 := b2.cells
  have hw2 := hw.trans hn2
  clear cN bN
  go_wp2_with fail
  refine (isCount_yes su w.heap.size id up ro ep su ma ot co A n c _ b2 hsu).mono ?_
  rintro e w3 ⟨rfl, rfl⟩
  go_wp2_with fail
  refine (isCount_yes ma w.heap.size id up ro ep su ma ot co A n c _ b2 hma).mono ?_
  rintro e w3 ⟨rfl, rfl⟩
  go_wp2_with fail
  refine (isCount_yes ot w.heap.size id up ro ep su ma ot co A n c _ b2 hot).mono ?_
  rintro e w3 ⟨rfl, rfl⟩
  go_wp2_with fail
  refine (fits_no w.heap.size id up ro ep su ma ot co A n c _ b2 hf).mono ?_
  rintro e w4 ⟨rfl, rfl⟩
  go_wp2
  go_ret
  exact ⟨rfl, hw2⟩

set_option maxHeartbeats 800000 in
theorem nf13 (id : Int) (ro ep su ma ot co : Int) (A : Option Addr) (n c : Nat) (V : List EkV) (w : World) (h : LgAt w A V) (hn : V.length = n) (hm : n ≤ 2097152) (hid : id = 0 ∨ id = 1) (hro : ro = 0 ∨ ro = 1) (he0 : 0 ≤ ep) (he1 : ep ≤ 1000) (hn1 : ¬ 100 < n) (hlg : lgF ep 0 (V.map EkV.r) = 0) (hsu : 0 ≤ su ∧ su ≤ n) (hma : 0 ≤ ma ∧ ma ≤ n) (hot : 0 ≤ ot ∧ ot ≤ n) (hc0 : 0 ≤ co) (hc1 : co ≤ su) (hf : Ft true ro ep ma ot) :
    Calls Tryz.prog 81 #[.agg #[.int .i64 id, .bool true, .int .i64 ro, .int .i64 ep, .slice A n c, .int .i64 su, .int .i64 ma, .int .i64 ot, .int .i64 co]] w fun e w' => e = .returned (.int .i64 0) ∧ New w w' := by
  have hw := (New.refl w).alloc (.cells #[.int .i64 id, .bool true, .int .i64 ro, .int .i64 ep, .slice A n c, .int .i64 su, .int .i64 ma, .int .i64 ot, .int .i64 co] 107)
  have bN := Blk.mk w w.heap.size 107 #[.int .i64 id, .bool true, .int .i64 ro, .int .i64 ep, .slice A n c, .int .i64 su, .int .i64 ma, .int .i64 ot, .int .i64 co] rfl
  have cN := bN.cells
  go_enter Tryz.func81, Tryz.ntmps81
  go_wp2_with fail
  refine (isNode_yes _ _ hid).mono ?_
  rintro e w1 ⟨rfl, rfl⟩
  go_wp2_with fail
  refine (isRole_yes _ _ hro).mono ?_
  rintro e w1 ⟨rfl, rfl⟩
  go_wp2_with fail
  refine (implLFv 0 w.heap.size id true ro ep su ma ot co A n c V _ bN (h.new hw) hn hm hlg).mono ?_
  rintro e w2 ⟨rfl, hn2⟩
  have b2 := bN.new hn2
  have c2 := b2.cells
  have hw2 := hw.trans hn2
  clear cN bN
  go_wp2_with fail
  refine (isCount_yes su w.heap.size id true ro ep su ma ot co A n c _ b2 hsu).mono ?_
  rintro e w3 ⟨rfl, rfl⟩
  go_wp2_with fail
  refine (isCount_yes ma w.heap.size id true ro ep su ma ot co A n c _ b2 hma).mono ?_
  rintro e w3 ⟨rfl, rfl⟩
  go_wp2_with fail
  refine (isCount_yes ot w.heap.size id true ro ep su ma ot co A n c _ b2 hot).mono ?_
  rintro e w3 ⟨rfl, rfl⟩
  go_wp2_with fail
  refine (fits_yes w.heap.size id true ro ep su ma ot co A n c _ b2 hf).mono ?_
  rintro e w4 ⟨rfl, rfl⟩
  go_wp2
  go_ret
  exact ⟨rfl, hw2⟩

set_option maxHeartbeats 800000 in
theorem nf14 (id : Int) (ro ep su ma ot co : Int) (A : Option Addr) (n c : Nat) (V : List EkV) (w : World) (h : LgAt w A V) (hn : V.length = n) (hm : n ≤ 2097152) (hid : id = 0 ∨ id = 1) (hro : ro = 0 ∨ ro = 1) (he0 : 0 ≤ ep) (he1 : ep ≤ 1000) (hn1 : ¬ 100 < n) (hlg : lgF ep 0 (V.map EkV.r) = 0) (hsu : 0 ≤ su ∧ su ≤ n) (hma : 0 ≤ ma ∧ ma ≤ n) (hot : 0 ≤ ot ∧ ot ≤ n) (hc0 : 0 ≤ co) (hc1 : co ≤ su) (hf : Ft false ro ep ma ot) (hr : Rs su ma co n) :
    Calls Tryz.prog 81 #[.agg #[.int .i64 id, .bool false, .int .i64 ro, .int .i64 ep, .slice A n c, .int .i64 su, .int .i64 ma, .int .i64 ot, .int .i64 co]] w fun e w' => e = .returned (.int .i64 0) ∧ New w w' := by
  have hw := (New.refl w).alloc (.cells #[.int .i64 id, .bool false, .int .i64 ro, .int .i64 ep, .slice A n c, .int .i64 su, .int .i64 ma, .int .i64 ot, .int .i64 co] 107)
  have bN := Blk.mk w w.heap.size 107 #[.int .i64 id, .bool false, .int .i64 ro, .int .i64 ep, .slice A n c, .int .i64 su, .int .i64 ma, .int .i64 ot, .int .i64 co] rfl
  have cN := bN.cells
  go_enter Tryz.func81, Tryz.ntmps81
  go_wp2_with fail
  refine (isNode_yes _ _ hid).mono ?_
  rintro e w1 ⟨rfl, rfl⟩
  go_wp2_with fail
  refine (isRole_yes _ _ hro).mono ?_
  rintro e w1 ⟨rfl, rfl⟩
  go_wp2_with fail
  refine (implLFv 0 w.heap.size id false ro ep su ma ot co A n c V _ bN (h.new hw) hn hm hlg).mono ?_
  rintro e w2 ⟨rfl, hn2⟩
  have b2 := bN.new hn2
  have c2 := b2.cells
  have hw2 := hw.trans hn2
  clear cN bN
  go_wp2_with fail
  refine (isCount_yes su w.heap.size id false ro ep su ma ot co A n c _ b2 hsu).mono ?_
  rintro e w3 ⟨rfl, rfl⟩
  go_wp2_with fail
  refine (isCount_yes ma w.heap.size id false ro ep su ma ot co A n c _ b2 hma).mono ?_
  rintro e w3 ⟨rfl, rfl⟩
  go_wp2_with fail
  refine (isCount_yes ot w.heap.size id false ro ep su ma ot co A n c _ b2 hot).mono ?_
  rintro e w3 ⟨rfl, rfl⟩
  go_wp2_with fail
  refine (fits_yes w.heap.size id false ro ep su ma ot co A n c _ b2 hf).mono ?_
  rintro e w4 ⟨rfl, rfl⟩
  go_wp2_with fail
  refine (rest_yes w.heap.size id false ro ep su ma ot co A n c _ b2 hr).mono ?_
  rintro e w5 ⟨rfl, hn5⟩
  go_wp2
  go_ret
  exact ⟨rfl, hw2.trans hn5⟩

set_option maxHeartbeats 800000 in
theorem nf15 (id : Int) (ro ep su ma ot co : Int) (A : Option Addr) (n c : Nat) (V : List EkV) (w : World) (h : LgAt w A V) (hn : V.length = n) (hm : n ≤ 2097152) (hid : id = 0 ∨ id = 1) (hro : ro = 0 ∨ ro = 1) (he0 : 0 ≤ ep) (he1 : ep ≤ 1000) (hn1 : ¬ 100 < n) (hlg : lgF ep 0 (V.map EkV.r) = 0) (hsu : 0 ≤ su ∧ su ≤ n) (hma : 0 ≤ ma ∧ ma ≤ n) (hot : 0 ≤ ot ∧ ot ≤ n) (hc0 : 0 ≤ co) (hc1 : co ≤ su) (hf : Ft false ro ep ma ot) (hr : ¬ Rs su ma co n) :
    Calls Tryz.prog 81 #[.agg #[.int .i64 id, .bool false, .int .i64 ro, .int .i64 ep, .slice A n c, .int .i64 su, .int .i64 ma, .int .i64 ot, .int .i64 co]] w fun e w' => e = .returned (.int .i64 1) ∧ New w w' := by
  have hw := (New.refl w).alloc (.cells #[.int .i64 id, .bool false, .int .i64 ro, .int .i64 ep, .slice A n c, .int .i64 su, .int .i64 ma, .int .i64 ot, .int .i64 co] 107)
  have bN := Blk.mk w w.heap.size 107 #[.int .i64 id, .bool false, .int .i64 ro, .int .i64 ep, .slice A n c, .int .i64 su, .int .i64 ma, .int .i64 ot, .int .i64 co] rfl
  have cN := bN.cells
  go_enter Tryz.func81, Tryz.ntmps81
  go_wp2_with fail
  refine (isNode_yes _ _ hid).mono ?_
  rintro e w1 ⟨rfl, rfl⟩
  go_wp2_with fail
  refine (isRole_yes _ _ hro).mono ?_
  rintro e w1 ⟨rfl, rfl⟩
  go_wp2_with fail
  refine (implLFv 0 w.heap.size id false ro ep su ma ot co A n c V _ bN (h.new hw) hn hm hlg).mono ?_
  rintro e w2 ⟨rfl, hn2⟩
  have b2 := bN.new hn2
  have c2 := b2.cells
  have hw2 := hw.trans hn2
  clear cN bN
  go_wp2_with fail
  refine (isCount_yes su w.heap.size id false ro ep su ma ot co A n c _ b2 hsu).mono ?_
  rintro e w3 ⟨rfl, rfl⟩
  go_wp2_with fail
  refine (isCount_yes ma w.heap.size id false ro ep su ma ot co A n c _ b2 hma).mono ?_
  rintro e w3 ⟨rfl, rfl⟩
  go_wp2_with fail
  refine (isCount_yes ot w.heap.size id false ro ep su ma ot co A n c _ b2 hot).mono ?_
  rintro e w3 ⟨rfl, rfl⟩
  go_wp2_with fail
  refine (fits_yes w.heap.size id false ro ep su ma ot co A n c _ b2 hf).mono ?_
  rintro e w4 ⟨rfl, rfl⟩
  go_wp2_with fail
  refine (rest_no w.heap.size id false ro ep su ma ot co A n c _ b2 hr).mono ?_
  rintro e w5 ⟨rfl, hn5⟩
  go_wp2
  go_ret
  exact ⟨rfl, hw2.trans hn5⟩

theorem implNF (id : Int) (up : Bool) (ro ep su ma ot co : Int) (A : Option Addr) (n c : Nat) (V : List EkV) (w : World) (h : LgAt w A V) (hn : V.length = n) (hm : n ≤ 2097152) :
    Calls Tryz.prog 81 #[.agg #[.int .i64 id, .bool up, .int .i64 ro, .int .i64 ep, .slice A n c, .int .i64 su, .int .i64 ma, .int .i64 ot, .int .i64 co]] w fun e w' => e = .returned (.int .i64 (nF id up ro ep su ma ot co n (V.map EkV.r))) ∧ New w w' := by
  unfold nF
  by_cases hid : id = 0 ∨ id = 1
  case neg => rw [if_pos (fun k => hid k.1)]; exact nf1 id up ro ep su ma ot co A n c V w h hn hm hid
  by_cases hro : ro = 0 ∨ ro = 1
  case neg => rw [if_pos (fun k => hro k.2.1)]; exact nf2 id up ro ep su ma ot co A n c V w h hn hm hid hro
  by_cases he0 : 0 ≤ ep
  case neg => rw [if_pos (fun k => he0 k.2.2.1)]; exact nf3 id up ro ep su ma ot co A n c V w h hn hm hid hro (by omega)
  by_cases he1 : ep ≤ 1000
  case neg => rw [if_pos (fun k => he1 k.2.2.2)]; exact nf4 id up ro ep su ma ot co A n c V w h hn hm hid hro he0 (by omega)
  rw [if_neg (fun k => k ⟨hid, hro, he0, he1⟩)]
  by_cases hn1 : 100 < n
  case pos => rw [if_pos hn1]; exact nf5 id up ro ep su ma ot co A n c V w h hn hm hid hro he0 he1 hn1
  rw [if_neg hn1]
  by_cases hlg : lgF ep 0 (V.map EkV.r) = 0
  case neg => rw [if_pos hlg]; exact nf6 id up ro ep su ma ot co A n c V w h hn hm hid hro he0 he1 hn1 _ rfl hlg
  rw [if_neg (fun k => k hlg)]
  by_cases hsu : 0 ≤ su ∧ su ≤ n
  case neg => rw [if_pos (fun k => hsu k.1)]; exact nf7 id up ro ep su ma ot co A n c V w h hn hm hid hro he0 he1 hn1 hlg hsu
  by_cases hma : 0 ≤ ma ∧ ma ≤ n
  case neg => rw [if_pos (fun k => hma k.2.1)]; exact nf8 id up ro ep su ma ot co A n c V w h hn hm hid hro he0 he1 hn1 hlg hsu hma
  by_cases hot : 0 ≤ ot ∧ ot ≤ n
  case neg => rw [if_pos (fun k => hot k.2.2.1)]; exact nf9 id up ro ep su ma ot co A n c V w h hn hm hid hro he0 he1 hn1 hlg hsu hma hot
  by_cases hc0 : 0 ≤ co
  case neg => rw [if_pos (fun k => hc0 k.2.2.2.1)]; exact nf10 id up ro ep su ma ot co A n c V w h hn hm hid hro he0 he1 hn1 hlg hsu hma hot (by omega)
  by_cases hc1 : co ≤ su
  case neg => rw [if_pos (fun k => hc1 k.2.2.2.2)]; exact nf11 id up ro ep su ma ot co A n c V w h hn hm hid hro he0 he1 hn1 hlg hsu hma hot hc0 (by omega)
  rw [if_neg (fun k => k ⟨hsu, hma, hot, hc0, hc1⟩)]
  by_cases hf : Ft up ro ep ma ot
  case neg => rw [if_pos (show ¬ ((ro = 1 → up = true ∧ 0 < ep ∧ ma = 0) ∧ (ro ≠ 1 → ot = 0)) from hf)]; exact nf12 id up ro ep su ma ot co A n c V w h hn hm hid hro he0 he1 hn1 hlg hsu hma hot hc0 hc1 hf
  rw [if_neg (fun k => k hf)]
  cases up with
  | true => rw [if_neg (by simp)]; exact nf13 id ro ep su ma ot co A n c V w h hn hm hid hro he0 he1 hn1 hlg hsu hma hot hc0 hc1 hf
  | false =>
    by_cases hr : Rs su ma co n
    · rw [if_neg (fun k => k.2 hr)]; exact nf14 id ro ep su ma ot co A n c V w h hn hm hid hro he0 he1 hn1 hlg hsu hma hot hc0 hc1 hf hr
    · rw [if_pos ⟨rfl, hr⟩]; exact nf15 id ro ep su ma ot co A n c V w h hn hm hid hro he0 he1 hn1 hlg hsu hma hot hc0 hc1 hf hr

end Go.Proofs.YtlkhmnjghdbmoaaGreatDoor
