/- What is proved here: what the comparing, the marking and the looking up of answers of sessions answer, where at most one message is said. No condition. -/
import Derived.Test.YtdkocmmcoigcgaaS5Ans
import Derived.Deep.RegionHeld3
import Derived.Below
namespace Go.Proofs.Ytdkocmmcoigcgaa
open Go.RowKit
set_option linter.unusedVariables false

theorem eqPx0 (w : World) : Calls Try.prog 148 #[.slice none 0 0, .slice none 0 0] w fun e w' => e = .returned (.bool true) ∧ w' = w := by
  go_enter Try.func148, Try.ntmps148
  go_wp2
  go_loopw [5] (fun i wr => i = .int .i64 0 ∧ wr = w) (fun _ _ => 0)
  case atStart => exact ⟨rfl, rfl⟩
  case round =>
    obtain ⟨rfl, rfl⟩ := hrel
    go_wp2
    go_ret
    exact ⟨rfl, rfl⟩

theorem eqNs0 (w : World) : Calls Try.prog 185 #[.slice none 0 0, .slice none 0 0] w fun e w' => e = .returned (.bool true) ∧ w' = w := by
  go_enter Try.func185, Try.ntmps185
  go_wp2
  go_loopw [5] (fun i wr => i = .int .i64 0 ∧ wr = w) (fun _ _ => 0)
  case atStart => exact ⟨rfl, rfl⟩
  case round =>
    obtain ⟨rfl, rfl⟩ := hrel
    go_wp2
    go_ret
    exact ⟨rfl, rfl⟩

theorem mkPx0 (k : Int) (w : World) : Calls Try.prog 140 #[.slice none 0 0, .int .i64 k] w fun e w' => e = .returned (.int .i64 k) ∧ w' = w := by
  go_enter Try.func140, Try.ntmps140
  go_wp2
  go_loopw [1, 5] (fun t i wr => t = .int .i64 k ∧ i = .int .i64 0 ∧ wr = w) (fun _ _ _ => 0)
  case atStart => exact ⟨rfl, rfl, rfl⟩
  case round =>
    obtain ⟨rfl, rfl, rfl⟩ := hrel
    go_wp2
    go_ret
    exact ⟨rfl, rfl⟩

theorem mkNs0 (k : Int) (w : World) : Calls Try.prog 141 #[.slice none 0 0, .int .i64 k] w fun e w' => e = .returned (.int .i64 k) ∧ w' = w := by
  go_enter Try.func141, Try.ntmps141
  go_wp2
  go_loopw [1, 5] (fun t i wr => t = .int .i64 k ∧ i = .int .i64 0 ∧ wr = w) (fun _ _ _ => 0)
  case atStart => exact ⟨rfl, rfl, rfl⟩
  case round =>
    obtain ⟨rfl, rfl, rfl⟩ := hrel
    go_wp2
    go_ret
    exact ⟨rfl, rfl⟩

theorem hdPx0 (k : Int) (w : World) : Calls Try.prog 142 #[.slice none 0 0, .int .i64 k] w fun e w' => e = .returned (.int .i64 k) ∧ w' = w := by
  go_enter Try.func142, Try.ntmps142
  go_wp2
  go_loopw [1, 5] (fun t i wr => t = .int .i64 k ∧ i = .int .i64 0 ∧ wr = w) (fun _ _ _ => 0)
  case atStart => exact ⟨rfl, rfl, rfl⟩
  case round =>
    obtain ⟨rfl, rfl, rfl⟩ := hrel
    go_wp2
    go_ret
    exact ⟨rfl, rfl⟩

theorem hdNs0 (k : Int) (w : World) : Calls Try.prog 143 #[.slice none 0 0, .int .i64 k] w fun e w' => e = .returned (.int .i64 k) ∧ w' = w := by
  go_enter Try.func143, Try.ntmps143
  go_wp2
  go_loopw [1, 5] (fun t i wr => t = .int .i64 k ∧ i = .int .i64 0 ∧ wr = w) (fun _ _ _ => 0)
  case atStart => exact ⟨rfl, rfl, rfl⟩
  case round =>
    obtain ⟨rfl, rfl, rfl⟩ := hrel
    go_wp2
    go_ret
    exact ⟨rfl, rfl⟩

theorem eqAt0 (w : World) : Calls Try.prog 149 #[.agg #[.int .i64 0, .slice none 0 0, .int .i64 0, .int .i64 0, .int .i64 0], .agg #[.int .i64 0, .slice none 0 0, .int .i64 0, .int .i64 0, .int .i64 0]] w fun e w' => e = .returned (.bool true) ∧ New w w' := by
  have hw := ((New.refl w).alloc (.cells #[.int .i64 0, .slice none 0 0, .int .i64 0, .int .i64 0, .int .i64 0] 31)).alloc (.cells #[.int .i64 0, .slice none 0 0, .int .i64 0, .int .i64 0, .int .i64 0] 31)
  go_enter Try.func149, Try.ntmps149
  go_wp2_with fail
  refine (eqNs0 _).mono ?_
  rintro e w1 ⟨rfl, rfl⟩
  go_wp2
  go_ret
  exact ⟨rfl, hw⟩

set_option maxHeartbeats 800000 in
theorem eqUp0 (w : World) : Calls Try.prog 94 #[.agg #[.slice none 0 0, .bool false, .int .i64 0, .slice none 0 0, .int .i64 0, .int .i64 0, .int .i64 0, .slice none 0 0], .agg #[.slice none 0 0, .bool false, .int .i64 0, .slice none 0 0, .int .i64 0, .int .i64 0, .int .i64 0, .slice none 0 0]] w fun e w' => e = .returned (.bool true) ∧ New w w' := by
  have hw := ((New.refl w).alloc (.cells #[.slice none 0 0, .bool false, .int .i64 0, .slice none 0 0, .int .i64 0, .int .i64 0, .int .i64 0, .slice none 0 0] 33)).alloc (.cells #[.slice none 0 0, .bool false, .int .i64 0, .slice none 0 0, .int .i64 0, .int .i64 0, .int .i64 0, .slice none 0 0] 33)
  have b0 : Blk ((w.alloc (.cells #[.slice none 0 0, .bool false, .int .i64 0, .slice none 0 0, .int .i64 0, .int .i64 0, .int .i64 0, .slice none 0 0] 33)).alloc (.cells #[.slice none 0 0, .bool false, .int .i64 0, .slice none 0 0, .int .i64 0, .int .i64 0, .int .i64 0, .slice none 0 0] 33)) w.heap.size 33 #[.slice none 0 0, .bool false, .int .i64 0, .slice none 0 0, .int .i64 0, .int .i64 0, .int .i64 0, .slice none 0 0] := (Blk.mk _ _ _ _ rfl).alloc _
  have b1 : Blk ((w.alloc (.cells #[.slice none 0 0, .bool false, .int .i64 0, .slice none 0 0, .int .i64 0, .int .i64 0, .int .i64 0, .slice none 0 0] 33)).alloc (.cells #[.slice none 0 0, .bool false, .int .i64 0, .slice none 0 0, .int .i64 0, .int .i64 0, .int .i64 0, .slice none 0 0] 33)) (w.heap.size + 1) 33 #[.slice none 0 0, .bool false, .int .i64 0, .slice none 0 0, .int .i64 0, .int .i64 0, .int .i64 0, .slice none 0 0] := Blk.mk _ _ _ _ (by simp)
  go_enter Try.func94, Try.ntmps94
  go_wp2_with fail
  refine (eqPx0 _).mono ?_
  rintro e w1 ⟨rfl, rfl⟩
  go_wp2_with fail
  refine (eqAt0 _).mono ?_
  rintro e w2 ⟨rfl, hn2⟩
  have c0 := (b0.new hn2).cells
  have c1 := (b1.new hn2).cells
  go_wp2_with fail
  refine (eqPx0 _).mono ?_
  rintro e w3 ⟨rfl, rfl⟩
  go_wp2
  go_ret
  exact ⟨rfl, hw.trans hn2⟩

set_option maxHeartbeats 1600000 in
theorem eqMg (kd sa ho si wh su : Int) (w : World) : Calls Try.prog 37 #[.agg #[.int .i64 kd, .int .i64 sa, .int .i64 ho, .int .i64 si, .int .i64 wh, .int .i64 su, .slice none 0 0, .bool false, .int .i64 0, .slice none 0 0, .int .i64 0, .int .i64 0, .int .i64 0, .slice none 0 0], .agg #[.int .i64 kd, .int .i64 sa, .int .i64 ho, .int .i64 si, .int .i64 wh, .int .i64 su, .slice none 0 0, .bool false, .int .i64 0, .slice none 0 0, .int .i64 0, .int .i64 0, .int .i64 0, .slice none 0 0]] w fun e w' => e = .returned (.bool true) ∧ New w w' := by
  have hw := ((New.refl w).alloc (.cells #[.int .i64 kd, .int .i64 sa, .int .i64 ho, .int .i64 si, .int .i64 wh, .int .i64 su, .slice none 0 0, .bool false, .int .i64 0, .slice none 0 0, .int .i64 0, .int .i64 0, .int .i64 0, .slice none 0 0] 35)).alloc (.cells #[.int .i64 kd, .int .i64 sa, .int .i64 ho, .int .i64 si, .int .i64 wh, .int .i64 su, .slice none 0 0, .bool false, .int .i64 0, .slice none 0 0, .int .i64 0, .int .i64 0, .int .i64 0, .slice none 0 0] 35)
  have z1 : (kd != kd) = false := by simp
  have z2 : (sa != sa) = false := by simp
  have z3 : (ho != ho) = false := by simp
  have z4 : (si != si) = false := by simp
  have z5 : (wh != wh) = false := by simp
  have z6 : (su != su) = false := by simp
  go_enter Try.func37, Try.ntmps37
  go_wp2_with fail
  refine (eqUp0 _).mono ?_
  rintro e w1 ⟨rfl, hn1⟩
  go_wp2
  go_ret
  exact ⟨rfl, hw.trans hn1⟩

theorem eqMgs0 (w : World) : Calls Try.prog 89 #[.slice none 0 0, .slice none 0 0] w fun e w' => e = .returned (.bool true) ∧ New w w' := by
  go_enter Try.func89, Try.ntmps89
  go_wp2
  go_loopw [5] (fun i wr => i = .int .i64 0 ∧ wr = w) (fun _ _ => 0)
  case atStart => exact ⟨rfl, rfl⟩
  case round =>
    obtain ⟨rfl, rfl⟩ := hrel
    go_wp2
    go_ret
    exact ⟨rfl, New.refl _⟩

set_option maxHeartbeats 1600000 in
theorem eqMgs1 (g h : Nat) (kd sa ho si wh su : Int) (w : World) (hg : Blk w g 35 #[.int .i64 kd, .int .i64 sa, .int .i64 ho, .int .i64 si, .int .i64 wh, .int .i64 su, .slice none 0 0, .bool false, .int .i64 0, .slice none 0 0, .int .i64 0, .int .i64 0, .int .i64 0, .slice none 0 0]) (hh : Blk w h 35 #[.int .i64 kd, .int .i64 sa, .int .i64 ho, .int .i64 si, .int .i64 wh, .int .i64 su, .slice none 0 0, .bool false, .int .i64 0, .slice none 0 0, .int .i64 0, .int .i64 0, .int .i64 0, .slice none 0 0]) :
    Calls Try.prog 89 #[.slice (some ⟨g, 0, none⟩) 1 1, .slice (some ⟨h, 0, none⟩) 1 1] w fun e w' => e = .returned (.bool true) ∧ New w w' := by
  go_enter Try.func89, Try.ntmps89
  go_wp2
  go_loopw [5] (fun i wr => ∃ k : Nat, k ≤ 1 ∧ i = .int .i64 k ∧ New w wr) (fun i _ => 1 - (intOf i).toNat)
  case atStart => exact ⟨0, by omega, rfl, New.refl _⟩
  case round =>
    obtain ⟨k, hk, rfl, hnw⟩ := hrel
    by_cases hlt : k < 1
    · obtain rfl : k = 0 := by omega
      have cg := (hg.new hnw).cells
      have ch := (hh.new hnw).cells
      have bg := hg.new hnw
      have bh := hh.new hnw
      clear hg hh
      go_wp2_with fail
      go_region_held3 (fun W => (∀ j, W.cell? ⟨g, j, none⟩ = (#[Value.int .i64 kd, .int .i64 sa, .int .i64 ho, .int .i64 si, .int .i64 wh, .int .i64 su, .slice none 0 0, .bool false, .int .i64 0, .slice none 0 0, .int .i64 0, .int .i64 0, .int .i64 0, .slice none 0 0])[j]?) ∧ (∀ j, W.cell? ⟨h, j, none⟩ = (#[Value.int .i64 kd, .int .i64 sa, .int .i64 ho, .int .i64 si, .int .i64 wh, .int .i64 su, .slice none 0 0, .bool false, .int .i64 0, .slice none 0 0, .int .i64 0, .int .i64 0, .int .i64 0, .slice none 0 0])[j]?)) (first | exact ⟨cg, ch⟩ | exact ⟨cg2, ch2⟩)
        ((go_at_call 37; refine (eqMg kd sa ho si wh su _).mono ?_; rintro e w2 ⟨rfl, hn2⟩; have cg2 := (bg.new (((New.refl _).drew).trans hn2)).cells; have ch2 := (bh.new (((New.refl _).drew).trans hn2)).cells))
      go_wp2
      go_roundw
      case rel => exact ⟨1, by omega, by go_num, (hnw.drew).trans hn2⟩
      case measure => simp [intOf]
    · obtain rfl : k = 1 := by omega
      go_wp2
      go_ret
      exact ⟨rfl, hnw⟩

theorem eqSes (st pe ho si sp : Int) (w : World) : Calls Try.prog 88 #[.agg #[.int .i64 st, .int .i64 pe, .int .i64 ho, .int .i64 si, .int .i64 sp], .agg #[.int .i64 st, .int .i64 pe, .int .i64 ho, .int .i64 si, .int .i64 sp]] w fun e w' => e = .returned (.bool true) ∧ New w w' := by
  have hw := ((New.refl w).alloc (.cells #[.int .i64 st, .int .i64 pe, .int .i64 ho, .int .i64 si, .int .i64 sp] 27)).alloc (.cells #[.int .i64 st, .int .i64 pe, .int .i64 ho, .int .i64 si, .int .i64 sp] 27)
  have z1 : (st != st) = false := by simp
  have z2 : (pe != pe) = false := by simp
  have z3 : (ho != ho) = false := by simp
  have z4 : (si != si) = false := by simp
  have z5 : (sp != sp) = false := by simp
  go_enter Try.func88, Try.ntmps88
  go_wp2
  go_ret
  exact ⟨rfl, hw⟩

/-- The message that is said, marked. -/
def MkAt (w : World) (g : Nat) (v : Value) : Option (Int × Int × Int × Int × Int × Int) → Prop
  | none => v = .slice none 0 0
  | some _ => v = .slice (some ⟨g, 0, none⟩) 1 1 ∧ Blk w g 35 #[.int .i64 1, .int .i64 2, .int .i64 3, .int .i64 4, .int .i64 5, .int .i64 6, .slice none 0 0, .bool false, .int .i64 8, .slice none 0 0, .int .i64 9, .int .i64 10, .int .i64 11, .slice none 0 0]
theorem MkAt.new {w w' : World} {g : Nat} {v : Value} {say : Option (Int × Int × Int × Int × Int × Int)} (h : MkAt w g v say) (t : New w w') : MkAt w' g v say := by
  cases say with
  | none => exact h
  | some m => exact ⟨h.1, h.2.new t⟩
/-- The number behind the marking. -/
def mkC5 : Option (Int × Int × Int × Int × Int × Int) → Int
  | none => 1
  | some _ => 12

theorem mkMgs0 (w : World) : Calls Try.prog 90 #[.slice none 0 0, .int .i64 1] w fun e w' => e = .returned (.int .i64 1) ∧ w' = w := by
  go_enter Try.func90, Try.ntmps90
  go_wp2
  go_loopw [1, 5] (fun t i wr => t = .int .i64 1 ∧ i = .int .i64 0 ∧ wr = w) (fun _ _ _ => 0)
  case atStart => exact ⟨rfl, rfl, rfl⟩
  case round =>
    obtain ⟨rfl, rfl, rfl⟩ := hrel
    go_wp2
    go_ret
    exact ⟨rfl, rfl⟩

theorem hdMgs0 (w : World) : Calls Try.prog 91 #[.slice none 0 0, .int .i64 1] w fun e w' => e = .returned (.int .i64 1) ∧ w' = w := by
  go_enter Try.func91, Try.ntmps91
  go_wp2
  go_loopw [1, 5] (fun t i wr => t = .int .i64 1 ∧ i = .int .i64 0 ∧ wr = w) (fun _ _ _ => 0)
  case atStart => exact ⟨rfl, rfl, rfl⟩
  case round =>
    obtain ⟨rfl, rfl, rfl⟩ := hrel
    go_wp2
    go_ret
    exact ⟨rfl, rfl⟩

set_option maxRecDepth 100000 in
set_option maxHeartbeats 3200000 in
theorem mkMgs1 (g : Nat) (kd sa ho si wh su : Int) (w : World) (hg : Blk w g 35 #[.int .i64 kd, .int .i64 sa, .int .i64 ho, .int .i64 si, .int .i64 wh, .int .i64 su, .slice none 0 0, .bool false, .int .i64 0, .slice none 0 0, .int .i64 0, .int .i64 0, .int .i64 0, .slice none 0 0]) :
    Calls Try.prog 90 #[.slice (some ⟨g, 0, none⟩) 1 1, .int .i64 1] w fun e w' => e = .returned (.int .i64 12) ∧ Blk w' g 35 #[.int .i64 1, .int .i64 2, .int .i64 3, .int .i64 4, .int .i64 5, .int .i64 6, .slice none 0 0, .bool false, .int .i64 8, .slice none 0 0, .int .i64 9, .int .i64 10, .int .i64 11, .slice none 0 0] ∧ Turn (fun k => k = g) w w' := by
  have cg := hg.cells
  have fg := hg.frees
  have lg := hg.lt
  go_enter Try.func90, Try.ntmps90
  go_wp2
  go_loopw [1, 5] (fun t i wr => (t = .int .i64 1 ∧ i = .int .i64 0 ∧ wr = w) ∨ (t = .int .i64 12 ∧ i = .int .i64 1 ∧ Blk wr g 35 #[.int .i64 1, .int .i64 2, .int .i64 3, .int .i64 4, .int .i64 5, .int .i64 6, .slice none 0 0, .bool false, .int .i64 8, .slice none 0 0, .int .i64 9, .int .i64 10, .int .i64 11, .slice none 0 0] ∧ Turn (fun k => k = g) w wr)) (fun _ i _ => 1 - (intOf i).toNat)
  case atStart => exact .inl ⟨rfl, rfl, rfl⟩
  case round =>
    rcases hrel with ⟨rfl, rfl, rfl⟩ | ⟨rfl, rfl, hb, ht⟩
    · go_wp2_with fail
      refine (mkPx0 7 _).mono ?_
      rintro e w1 ⟨rfl, rfl⟩
      go_wp2_with fail
      refine (mkNs0 9 _).mono ?_
      rintro e w1 ⟨rfl, rfl⟩
      go_wp2_with fail
      refine (mkPx0 12 _).mono ?_
      rintro e w1 ⟨rfl, rfl⟩
      go_wp2
      go_roundw
      case rel =>
        refine .inr ⟨rfl, by go_num, ?_, ?_⟩
        · have h11 := ((((((((((hg.set 0 (.int .i64 1)).set 1 (.int .i64 2)).set 2 (.int .i64 3)).set 3 (.int .i64 4)).set 4 (.int .i64 5)).set 5 (.int .i64 6)).set 7 (.bool false)).set 8 (.int .i64 8)).set 10 (.int .i64 9)).set 11 (.int .i64 10)).set 12 (.int .i64 11)
          simp only [List.setIfInBounds_toArray, List.set_cons_zero, List.set_cons_succ] at h11
          exact h11
        · exact ((((((((((((Turn.refl (fun k => k = g) _).set rfl _).set rfl _).set rfl _).set rfl _).set rfl _).set rfl _).set rfl _).set rfl _).set rfl _).set rfl _).set rfl _)
      case measure => simp [intOf]
    · go_wp2
      go_ret
      exact ⟨rfl, hb, ht⟩

set_option maxRecDepth 100000 in
set_option maxHeartbeats 3200000 in
theorem hdMgs1 (g : Nat) (w : World) (hg : Blk w g 35 #[.int .i64 1, .int .i64 2, .int .i64 3, .int .i64 4, .int .i64 5, .int .i64 6, .slice none 0 0, .bool false, .int .i64 8, .slice none 0 0, .int .i64 9, .int .i64 10, .int .i64 11, .slice none 0 0]) :
    Calls Try.prog 91 #[.slice (some ⟨g, 0, none⟩) 1 1, .int .i64 1] w fun e w' => e = .returned (.int .i64 12) ∧ New w w' := by
  have cg := hg.cells
  go_enter Try.func91, Try.ntmps91
  go_wp2
  go_loopw [1, 5] (fun t i wr => (t = .int .i64 1 ∧ i = .int .i64 0 ∧ wr = w) ∨ (t = .int .i64 12 ∧ i = .int .i64 1 ∧ New w wr)) (fun _ i _ => 1 - (intOf i).toNat)
  case atStart => exact .inl ⟨rfl, rfl, rfl⟩
  case round =>
    rcases hrel with ⟨rfl, rfl, rfl⟩ | ⟨rfl, rfl, hn⟩
    · go_wp2_with fail
      refine (hdPx0 7 _).mono ?_
      rintro e w1 ⟨rfl, rfl⟩
      go_wp2_with fail
      refine (hdNs0 9 _).mono ?_
      rintro e w1 ⟨rfl, rfl⟩
      go_wp2_with fail
      refine (hdPx0 12 _).mono ?_
      rintro e w1 ⟨rfl, rfl⟩
      go_wp2
      go_roundw
      case rel => exact .inr ⟨rfl, by go_num, by repeat (first | exact New.refl _ | refine New.drew ?_ | refine New.drewN ?_ _)⟩
      case measure => simp [intOf]
    · go_wp2
      go_ret
      exact ⟨rfl, hn⟩

end Go.Proofs.Ytdkocmmcoigcgaa
