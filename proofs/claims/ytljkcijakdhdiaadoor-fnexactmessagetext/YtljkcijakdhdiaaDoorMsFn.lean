/- What is proved here: what the judging of a message answers, in the program, for every lists of at most 1048576 elements. -/
import Derived.Test.YtljkcijakdhdiaaDoorUpLaw
namespace Go.Proofs.YtljkcijakdhdiaaDoor
open Go.RowKit Go.Sort
set_option linter.unusedVariables false

/-- A hold time. -/
abbrev Hl (x : Int) : Prop := x = 0 ∨ (3 ≤ x ∧ x ≤ 200)
/-- The numbers of an open. -/
abbrev Opn (sa ho si : Int) : Prop := (1 ≤ sa ∧ sa ≤ 65535) ∧ Hl ho ∧ (1 ≤ si ∧ si ≤ 65535)
/-- The numbers of a notify. -/
abbrev Nty (wh su : Int) : Prop := (1 ≤ wh ∧ wh ≤ 6) ∧ (0 ≤ su ∧ su ≤ 20)
/-- Two updates have all fields the same. -/
abbrev SuP (gs : List (Int × Int)) (has : Bool) (o : Int) (xs : List Int) (nx md lc : Int) (rs : List (Int × Int)) (gs' : List (Int × Int)) (has' : Bool) (o' : Int) (xs' : List Int) (nx' md' lc' : Int) (rs' : List (Int × Int)) : Prop :=
  gs = gs' ∧ has = has' ∧ SaP o xs nx md lc o' xs' nx' md' lc' ∧ rs = rs'
/-- All of the update is zero. -/
abbrev ZuP (gs : List (Int × Int)) (has : Bool) (o : Int) (xs : List Int) (nx md lc : Int) (rs : List (Int × Int)) : Prop := gs.length = 0 ∧ rs.length = 0 ∧ has = false ∧ ZaP o xs nx md lc

theorem take_eq_nextP {xs ys : List (Int × Int)} {k : Nat} {z : Int × Int} (h : xs.take k = ys.take k) (hx : xs[k]? = some z) (hy : ys[k]? = some z) : xs.take (k + 1) = ys.take (k + 1) := by
  obtain ⟨h1, rfl⟩ := List.getElem?_eq_some_iff.1 hx
  obtain ⟨h2, e2⟩ := List.getElem?_eq_some_iff.1 hy
  rw [List.take_succ_eq_append_getElem h1, List.take_succ_eq_append_getElem h2, h, e2]

theorem isId_yes (x : Int) (w : World) (h : 1 ≤ x ∧ x ≤ 65535) : Calls Tryd.prog 49 #[.int .i64 x] w fun e w' => e = .returned (.bool true) ∧ w' = w := by
  obtain ⟨h1, h2⟩ := h
  go_enter Tryd.func49, Tryd.ntmps49
  go_wp2
  go_ret
  exact ⟨by simp, rfl⟩

theorem isId_no (x : Int) (w : World) (h : ¬ (1 ≤ x ∧ x ≤ 65535)) : Calls Tryd.prog 49 #[.int .i64 x] w fun e w' => e = .returned (.bool false) ∧ w' = w := by
  by_cases h1 : 1 ≤ x
  · have h2 : 65535 < x := by omega
    go_enter Tryd.func49, Tryd.ntmps49
    go_wp2
    go_ret
    exact ⟨by simp; omega, rfl⟩
  · go_enter Tryd.func49, Tryd.ntmps49
    go_wp2
    go_ret
    exact ⟨rfl, rfl⟩

theorem isWhy_yes (x : Int) (w : World) (h : 1 ≤ x ∧ x ≤ 6) : Calls Tryd.prog 50 #[.int .i64 x] w fun e w' => e = .returned (.bool true) ∧ w' = w := by
  obtain ⟨h1, h2⟩ := h
  go_enter Tryd.func50, Tryd.ntmps50
  go_wp2
  go_ret
  exact ⟨by simp, rfl⟩

theorem isWhy_no (x : Int) (w : World) (h : ¬ (1 ≤ x ∧ x ≤ 6)) : Calls Tryd.prog 50 #[.int .i64 x] w fun e w' => e = .returned (.bool false) ∧ w' = w := by
  by_cases h1 : 1 ≤ x
  · have h2 : 6 < x := by omega
    go_enter Tryd.func50, Tryd.ntmps50
    go_wp2
    go_ret
    exact ⟨by simp; omega, rfl⟩
  · go_enter Tryd.func50, Tryd.ntmps50
    go_wp2
    go_ret
    exact ⟨rfl, rfl⟩

theorem isSub_yes (x : Int) (w : World) (h : 0 ≤ x ∧ x ≤ 20) : Calls Tryd.prog 51 #[.int .i64 x] w fun e w' => e = .returned (.bool true) ∧ w' = w := by
  obtain ⟨h1, h2⟩ := h
  go_enter Tryd.func51, Tryd.ntmps51
  go_wp2
  go_ret
  exact ⟨by simp, rfl⟩

theorem isSub_no (x : Int) (w : World) (h : ¬ (0 ≤ x ∧ x ≤ 20)) : Calls Tryd.prog 51 #[.int .i64 x] w fun e w' => e = .returned (.bool false) ∧ w' = w := by
  by_cases h1 : 0 ≤ x
  · have h2 : 20 < x := by omega
    go_enter Tryd.func51, Tryd.ntmps51
    go_wp2
    go_ret
    exact ⟨by simp; omega, rfl⟩
  · go_enter Tryd.func51, Tryd.ntmps51
    go_wp2
    go_ret
    exact ⟨rfl, rfl⟩

theorem isHold_yes (x : Int) (w : World) (h : x = 0 ∨ (3 ≤ x ∧ x ≤ 200)) : Calls Tryd.prog 48 #[.int .i64 x] w fun e w' => e = .returned (.bool true) ∧ w' = w := by
  by_cases h0 : x = 0
  · subst h0
    go_enter Tryd.func48, Tryd.ntmps48
    go_wp2
    go_ret
    exact ⟨rfl, rfl⟩
  · have e0 : (x == 0) = false := by simpa using h0
    obtain ⟨h1, h2⟩ : 3 ≤ x ∧ x ≤ 200 := by omega
    clear h
    go_enter Tryd.func48, Tryd.ntmps48
    go_wp2
    go_ret
    exact ⟨by simp, rfl⟩

theorem isHold_no (x : Int) (w : World) (h : ¬ (x = 0 ∨ (3 ≤ x ∧ x ≤ 200))) : Calls Tryd.prog 48 #[.int .i64 x] w fun e w' => e = .returned (.bool false) ∧ w' = w := by
  have h0 : ¬ x = 0 := by omega
  have e0 : (x == 0) = false := by simpa using h0
  by_cases h1 : 3 ≤ x
  · have h2 : 200 < x := by omega
    clear h
    go_enter Tryd.func48, Tryd.ntmps48
    go_wp2
    go_ret
    exact ⟨by simp; omega, rfl⟩
  · clear h
    go_enter Tryd.func48, Tryd.ntmps48
    go_wp2
    go_ret
    exact ⟨rfl, rfl⟩

set_option maxHeartbeats 800000 in
theorem equalPx (a b : Option Addr) (n m c d : Nat) (xs ys : List (Int × Int)) (v : Bool) (w : World) (ha : PsAt w a xs) (hb : PsAt w b ys) (hn : xs.length = n) (hm : ys.length = m) (hn1 : n ≤ 1048576) (hm1 : m ≤ 1048576) (hv : decide (xs = ys) = v) :
    Calls Tryd.prog 65 #[.slice a n c, .slice b m d] w fun e w' => e = .returned (.bool v) ∧ New w w' := by
  have HV : Hid (decide (xs = ys) = v) := hv
  clear hv
  by_cases hne : n = m
  · subst hne
    have HN : Hid (xs.length = n) := hn
    have HM : Hid (ys.length = n) := hm
    clear hn hm
    have hnn : ((n : Int) != (n : Int)) = false := by simp
    go_enter Tryd.func65, Tryd.ntmps65
    go_wp2
    go_loopw [13] (fun i wr => ∃ k : Nat, k ≤ n ∧ i = .int .i64 k ∧ New w wr ∧ Hid (xs.take k = ys.take k)) (fun i _ => n - (intOf i).toNat)
    case atStart => exact ⟨0, Nat.zero_le _, rfl, New.refl _, rfl⟩
    case round =>
      obtain ⟨k, hk, rfl, hnw, hl⟩ := hrel
      by_cases hlt : k < n
      · obtain ⟨b1, off1, x1, y1, rfl, hz, hc, hd⟩ := (ha.new hnw).at k (by rw [HN.out]; exact hlt)
        obtain ⟨b2, off2, x2, y2, rfl, hz', hc', hd'⟩ := (hb.new hnw).at k (by rw [HM.out]; exact hlt)
        by_cases e : x1 = x2 ∧ y1 = y2
        · obtain ⟨rfl, rfl⟩ := e
          have hl' : Hid (xs.take (k + 1) = ys.take (k + 1)) := take_eq_nextP hl.out hz hz'
          have e1 : (x1 != x1) = false := by simp
          have e2 : (y1 != y1) = false := by simp
          clear hz hz' hl ha hb
          go_wp2
          go_quiet (fail)
          go_wp2
          go_roundw
          case rel => exact ⟨k + 1, by omega, by go_num, hnw.drewN _, hl'⟩
          case measure => simp [intOf]; omega
        · have hx : Hid (v = false) := by
            unfold Hid
            rw [← HV.out]
            simp only [decide_eq_false_iff_not]
            rintro rfl
            rw [hz] at hz'
            have := Option.some.inj hz'
            simp only [Prod.mk.injEq] at this
            exact e this
          clear hz hz' hl ha hb
          by_cases ex : x1 = x2
          · subst ex
            have e1 : (x1 == x1) = true := by simp
            have e2 : (y1 == y2) = false := by simpa using e
            clear e
            go_wp2
            go_quiet (fail)
            go_wp2
            go_ret
            exact ⟨ret_bool hx.out.symm, hnw.drewN _⟩
          · have e1 : (x1 == x2) = false := by simpa using ex
            clear e ex
            go_wp2
            go_quiet (fail)
            go_wp2
            go_ret
            exact ⟨ret_bool hx.out.symm, hnw.drewN _⟩
      · have hx : Hid (v = true) := by
          unfold Hid
          rw [← HV.out]
          have := hl.out
          rw [List.take_of_length_le (by rw [HN.out]; omega), List.take_of_length_le (by rw [HM.out]; omega)] at this
          simpa using this
        go_wp2
        go_ret
        exact ⟨ret_bool hx.out.symm, hnw⟩
  · have hx : Hid (v = false) := by
      unfold Hid
      rw [← HV.out]
      simp only [decide_eq_false_iff_not]
      rintro rfl
      omega
    have e' : ((n : Int) != (m : Int)) = true := by simp; omega
    clear hn hm
    go_enter Tryd.func65, Tryd.ntmps65
    go_wp2
    go_ret
    exact ⟨ret_bool hx.out.symm, New.refl _⟩

theorem say_open (ga a ra : Option Addr) (gn gc n c rn rc : Nat) (has : Bool) (o nx md lc : Int) (gs rs : List (Int × Int)) (xs : List Int) (sa ho si wh su : Int) (w : World) : Calls Tryd.prog 17 #[.agg #[.int .i64 1, .int .i64 sa, .int .i64 ho, .int .i64 si, .int .i64 wh, .int .i64 su, .slice ga gn gc, .bool has, .int .i64 o, .slice a n c, .int .i64 nx, .int .i64 md, .int .i64 lc, .slice ra rn rc]] w fun e w' => e = .returned (.iface 81 (.agg #[.int .i64 sa, .int .i64 ho, .int .i64 si])) ∧ New w w' := by
  go_enter Tryd.func17, Tryd.ntmps17
  go_wp2
  go_ret
  exact ⟨rfl, (New.refl _).alloc _⟩

theorem say_upd (ga a ra : Option Addr) (gn gc n c rn rc : Nat) (has : Bool) (o nx md lc : Int) (gs rs : List (Int × Int)) (xs : List Int) (sa ho si wh su : Int) (w : World) : Calls Tryd.prog 17 #[.agg #[.int .i64 2, .int .i64 sa, .int .i64 ho, .int .i64 si, .int .i64 wh, .int .i64 su, .slice ga gn gc, .bool has, .int .i64 o, .slice a n c, .int .i64 nx, .int .i64 md, .int .i64 lc, .slice ra rn rc]] w fun e w' => e = .returned (.iface 84 (.agg #[.slice ga gn gc, .bool has, .int .i64 o, .slice a n c, .int .i64 nx, .int .i64 md, .int .i64 lc, .slice ra rn rc])) ∧ New w w' := by
  go_enter Tryd.func17, Tryd.ntmps17
  go_wp2
  go_ret
  exact ⟨rfl, (New.refl _).alloc _⟩

theorem say_not (ga a ra : Option Addr) (gn gc n c rn rc : Nat) (has : Bool) (o nx md lc : Int) (gs rs : List (Int × Int)) (xs : List Int) (sa ho si wh su : Int) (w : World) : Calls Tryd.prog 17 #[.agg #[.int .i64 3, .int .i64 sa, .int .i64 ho, .int .i64 si, .int .i64 wh, .int .i64 su, .slice ga gn gc, .bool has, .int .i64 o, .slice a n c, .int .i64 nx, .int .i64 md, .int .i64 lc, .slice ra rn rc]] w fun e w' => e = .returned (.iface 87 (.agg #[.int .i64 wh, .int .i64 su])) ∧ New w w' := by
  go_enter Tryd.func17, Tryd.ntmps17
  go_wp2
  go_ret
  exact ⟨rfl, (New.refl _).alloc _⟩

theorem say_keep (ga a ra : Option Addr) (gn gc n c rn rc : Nat) (has : Bool) (o nx md lc : Int) (gs rs : List (Int × Int)) (xs : List Int) (sa ho si wh su : Int) (w : World) : Calls Tryd.prog 17 #[.agg #[.int .i64 4, .int .i64 sa, .int .i64 ho, .int .i64 si, .int .i64 wh, .int .i64 su, .slice ga gn gc, .bool has, .int .i64 o, .slice a n c, .int .i64 nx, .int .i64 md, .int .i64 lc, .slice ra rn rc]] w fun e w' => e = .returned (.iface 89 (.agg #[])) ∧ New w w' := by
  go_enter Tryd.func17, Tryd.ntmps17
  go_wp2
  go_ret
  exact ⟨rfl, (New.refl _).alloc _⟩

theorem say_none (ga a ra : Option Addr) (gn gc n c rn rc : Nat) (has : Bool) (o nx md lc : Int) (gs rs : List (Int × Int)) (xs : List Int) (kd sa ho si wh su : Int) (w : World) (h : kd < 1 ∨ 4 < kd) : Calls Tryd.prog 17 #[.agg #[.int .i64 kd, .int .i64 sa, .int .i64 ho, .int .i64 si, .int .i64 wh, .int .i64 su, .slice ga gn gc, .bool has, .int .i64 o, .slice a n c, .int .i64 nx, .int .i64 md, .int .i64 lc, .slice ra rn rc]] w fun e w' => e = .returned .nilIface ∧ New w w' := by
  have h1 : (kd == 1) = false := by simp; omega
  have h2 : (kd == 2) = false := by simp; omega
  have h3 : (kd == 3) = false := by simp; omega
  have h4 : (kd == 4) = false := by simp; omega
  clear h
  go_enter Tryd.func17, Tryd.ntmps17
  go_wp2
  go_ret
  exact ⟨rfl, (New.refl _).alloc _⟩

theorem Tryd.as_open_open (v : Value) (w : World) : (Instr.typeAssert (.iface 81 v) 52 81 true).run Tryd.prog w = .ok (.tuple #[v, .bool true]) w := by kernel_rfl
theorem Tryd.as_open_upd (v : Value) (w : World) : (Instr.typeAssert (.iface 81 v) 52 84 true).run Tryd.prog w = .ok (.tuple #[.agg #[.slice none 0 0, .bool false, .int .i64 0, .slice none 0 0, .int .i64 0, .int .i64 0, .int .i64 0, .slice none 0 0], .bool false]) w := by kernel_rfl
theorem Tryd.as_open_not (v : Value) (w : World) : (Instr.typeAssert (.iface 81 v) 52 87 true).run Tryd.prog w = .ok (.tuple #[.agg #[.int .i64 0, .int .i64 0], .bool false]) w := by kernel_rfl
theorem Tryd.as_upd_open (v : Value) (w : World) : (Instr.typeAssert (.iface 84 v) 52 81 true).run Tryd.prog w = .ok (.tuple #[.agg #[.int .i64 0, .int .i64 0, .int .i64 0], .bool false]) w := by kernel_rfl
theorem Tryd.as_upd_upd (v : Value) (w : World) : (Instr.typeAssert (.iface 84 v) 52 84 true).run Tryd.prog w = .ok (.tuple #[v, .bool true]) w := by kernel_rfl
theorem Tryd.as_upd_not (v : Value) (w : World) : (Instr.typeAssert (.iface 84 v) 52 87 true).run Tryd.prog w = .ok (.tuple #[.agg #[.int .i64 0, .int .i64 0], .bool false]) w := by kernel_rfl
theorem Tryd.as_not_open (v : Value) (w : World) : (Instr.typeAssert (.iface 87 v) 52 81 true).run Tryd.prog w = .ok (.tuple #[.agg #[.int .i64 0, .int .i64 0, .int .i64 0], .bool false]) w := by kernel_rfl
theorem Tryd.as_not_upd (v : Value) (w : World) : (Instr.typeAssert (.iface 87 v) 52 84 true).run Tryd.prog w = .ok (.tuple #[.agg #[.slice none 0 0, .bool false, .int .i64 0, .slice none 0 0, .int .i64 0, .int .i64 0, .int .i64 0, .slice none 0 0], .bool false]) w := by kernel_rfl
theorem Tryd.as_not_not (v : Value) (w : World) : (Instr.typeAssert (.iface 87 v) 52 87 true).run Tryd.prog w = .ok (.tuple #[v, .bool true]) w := by kernel_rfl
theorem Tryd.as_keep_open (v : Value) (w : World) : (Instr.typeAssert (.iface 89 v) 52 81 true).run Tryd.prog w = .ok (.tuple #[.agg #[.int .i64 0, .int .i64 0, .int .i64 0], .bool false]) w := by kernel_rfl
theorem Tryd.as_keep_upd (v : Value) (w : World) : (Instr.typeAssert (.iface 89 v) 52 84 true).run Tryd.prog w = .ok (.tuple #[.agg #[.slice none 0 0, .bool false, .int .i64 0, .slice none 0 0, .int .i64 0, .int .i64 0, .int .i64 0, .slice none 0 0], .bool false]) w := by kernel_rfl
theorem Tryd.as_keep_not (v : Value) (w : World) : (Instr.typeAssert (.iface 89 v) 52 87 true).run Tryd.prog w = .ok (.tuple #[.agg #[.int .i64 0, .int .i64 0], .bool false]) w := by kernel_rfl

theorem iwb_open (sa ho si : Int) (v : Bool) (w : World) (hv : decide (Opn sa ho si) = v) : Calls Tryd.prog 30 #[.iface 81 (.agg #[.int .i64 sa, .int .i64 ho, .int .i64 si])] w fun e w' => e = .returned (.bool v) ∧ New w w' := by
  have ha0 := Tryd.as_open_open
  have ha1 := Tryd.as_open_upd
  have ha2 := Tryd.as_open_not
  by_cases g0 : 1 ≤ sa ∧ sa ≤ 65535
  case neg =>
    have hx : v = false := by rw [← hv]; simp only [decide_eq_false_iff_not]; intro k; exact g0 k.1
    clear hv
    go_enter Tryd.func30, Tryd.ntmps30
    go_wp2_with fail
    refine (isSys_no sa _ (by omega)).mono ?_
    rintro e w1 ⟨rfl, rfl⟩
    go_wp2
    go_ret
    exact ⟨ret_bool hx.symm, (New.refl _).alloc _⟩
  by_cases g1 : ho = 0 ∨ (3 ≤ ho ∧ ho ≤ 200)
  case neg =>
    have hx : v = false := by rw [← hv]; simp only [decide_eq_false_iff_not]; intro k; exact g1 k.2.1
    clear hv
    go_enter Tryd.func30, Tryd.ntmps30
    go_wp2_with fail
    refine (isSys_yes sa _ g0).mono ?_
    rintro e w1 ⟨rfl, rfl⟩
    go_wp2_with fail
    refine (isHold_no ho _ g1).mono ?_
    rintro e w1 ⟨rfl, rfl⟩
    go_wp2
    go_ret
    exact ⟨ret_bool hx.symm, (New.refl _).alloc _⟩
  by_cases g2 : 1 ≤ si ∧ si ≤ 65535
  case neg =>
    have hx : v = false := by rw [← hv]; simp only [decide_eq_false_iff_not]; intro k; exact g2 k.2.2
    clear hv
    go_enter Tryd.func30, Tryd.ntmps30
    go_wp2_with fail
    refine (isSys_yes sa _ g0).mono ?_
    rintro e w1 ⟨rfl, rfl⟩
    go_wp2_with fail
    refine (isHold_yes ho _ g1).mono ?_
    rintro e w1 ⟨rfl, rfl⟩
    go_wp2_with fail
    refine (isId_no si _ g2).mono ?_
    rintro e w1 ⟨rfl, rfl⟩
    go_wp2
    go_ret
    exact ⟨ret_bool hx.symm, (New.refl _).alloc _⟩
  have hx : v = true := by rw [← hv]; simp only [decide_eq_true_eq]; exact ⟨g0, g1, g2⟩
  clear hv
  go_enter Tryd.func30, Tryd.ntmps30
  go_wp2_with fail
  refine (isSys_yes sa _ g0).mono ?_
  rintro e w1 ⟨rfl, rfl⟩
  go_wp2_with fail
  refine (isHold_yes ho _ g1).mono ?_
  rintro e w1 ⟨rfl, rfl⟩
  go_wp2_with fail
  refine (isId_yes si _ g2).mono ?_
  rintro e w1 ⟨rfl, rfl⟩
  go_wp2
  go_ret
  exact ⟨ret_bool hx.symm, (New.refl _).alloc _⟩

theorem iwb_not (wh su : Int) (v : Bool) (w : World) (hv : decide (Nty wh su) = v) : Calls Tryd.prog 30 #[.iface 87 (.agg #[.int .i64 wh, .int .i64 su])] w fun e w' => e = .returned (.bool v) ∧ New w w' := by
  have ha0 := Tryd.as_not_open
  have ha1 := Tryd.as_not_upd
  have ha2 := Tryd.as_not_not
  by_cases g0 : 1 ≤ wh ∧ wh ≤ 6
  case neg =>
    have hx : v = false := by rw [← hv]; simp only [decide_eq_false_iff_not]; intro k; exact g0 k.1
    clear hv
    go_enter Tryd.func30, Tryd.ntmps30
    go_wp2_with fail
    refine (isWhy_no wh _ g0).mono ?_
    rintro e w1 ⟨rfl, rfl⟩
    go_wp2
    go_ret
    exact ⟨ret_bool hx.symm, (New.refl _).alloc _⟩
  by_cases g1 : 0 ≤ su ∧ su ≤ 20
  case neg =>
    have hx : v = false := by rw [← hv]; simp only [decide_eq_false_iff_not]; intro k; exact g1 k.2
    clear hv
    go_enter Tryd.func30, Tryd.ntmps30
    go_wp2_with fail
    refine (isWhy_yes wh _ g0).mono ?_
    rintro e w1 ⟨rfl, rfl⟩
    go_wp2_with fail
    refine (isSub_no su _ g1).mono ?_
    rintro e w1 ⟨rfl, rfl⟩
    go_wp2
    go_ret
    exact ⟨ret_bool hx.symm, (New.refl _).alloc _⟩
  have hx : v = true := by rw [← hv]; simp only [decide_eq_true_eq]; exact ⟨g0, g1⟩
  clear hv
  go_enter Tryd.func30, Tryd.ntmps30
  go_wp2_with fail
  refine (isWhy_yes wh _ g0).mono ?_
  rintro e w1 ⟨rfl, rfl⟩
  go_wp2_with fail
  refine (isSub_yes su _ g1).mono ?_
  rintro e w1 ⟨rfl, rfl⟩
  go_wp2
  go_ret
  exact ⟨ret_bool hx.symm, (New.refl _).alloc _⟩

theorem iwb_upd (ga a ra : Option Addr) (gn gc n c rn rc : Nat) (has : Bool) (o nx md lc : Int) (gs rs : List (Int × Int)) (xs : List Int) (w : World) : Calls Tryd.prog 30 #[.iface 84 (.agg #[.slice ga gn gc, .bool has, .int .i64 o, .slice a n c, .int .i64 nx, .int .i64 md, .int .i64 lc, .slice ra rn rc])] w fun e w' => e = .returned (.bool true) ∧ New w w' := by
  have ha0 := Tryd.as_upd_open
  have ha1 := Tryd.as_upd_upd
  have ha2 := Tryd.as_upd_not
  go_enter Tryd.func30, Tryd.ntmps30
  go_wp2
  go_ret
  exact ⟨rfl, New.refl _⟩

theorem iwb_keep  (w : World) : Calls Tryd.prog 30 #[.iface 89 (.agg #[])] w fun e w' => e = .returned (.bool true) ∧ New w w' := by
  have ha0 := Tryd.as_keep_open
  have ha1 := Tryd.as_keep_upd
  have ha2 := Tryd.as_keep_not
  go_enter Tryd.func30, Tryd.ntmps30
  go_wp2
  go_ret
  exact ⟨rfl, New.refl _⟩

theorem msg_open (sa ho si : Int) (w : World) : Calls Tryd.prog 104 #[.agg #[.int .i64 sa, .int .i64 ho, .int .i64 si]] w fun e w' => e = .returned (.agg #[.int .i64 1, .int .i64 sa, .int .i64 ho, .int .i64 si, .int .i64 0, .int .i64 0, .slice none 0 0, .bool false, .int .i64 0, .slice none 0 0, .int .i64 0, .int .i64 0, .int .i64 0, .slice none 0 0]) ∧ New w w' := by
  go_enter Tryd.func104, Tryd.ntmps104
  go_wp2
  refine bodyPost_ret (v := .agg #[.int .i64 1, .int .i64 sa, .int .i64 ho, .int .i64 si, .int .i64 0, .int .i64 0, .slice none 0 0, .bool false, .int .i64 0, .slice none 0 0, .int .i64 0, .int .i64 0, .int .i64 0, .slice none 0 0]) (by simp [results, Tryd.results104, go_sem]) rfl ⟨rfl, ?_⟩
  exact ((New.refl w).alloc _).alloc _

theorem msg_upd (ga a ra : Option Addr) (gn gc n c rn rc : Nat) (has : Bool) (o nx md lc : Int) (gs rs : List (Int × Int)) (xs : List Int) (w : World) : Calls Tryd.prog 105 #[.agg #[.slice ga gn gc, .bool has, .int .i64 o, .slice a n c, .int .i64 nx, .int .i64 md, .int .i64 lc, .slice ra rn rc]] w fun e w' => e = .returned (.agg #[.int .i64 2, .int .i64 0, .int .i64 0, .int .i64 0, .int .i64 0, .int .i64 0, .slice ga gn gc, .bool has, .int .i64 o, .slice a n c, .int .i64 nx, .int .i64 md, .int .i64 lc, .slice ra rn rc]) ∧ New w w' := by
  go_enter Tryd.func105, Tryd.ntmps105
  go_wp2
  refine bodyPost_ret (v := .agg #[.int .i64 2, .int .i64 0, .int .i64 0, .int .i64 0, .int .i64 0, .int .i64 0, .slice ga gn gc, .bool has, .int .i64 o, .slice a n c, .int .i64 nx, .int .i64 md, .int .i64 lc, .slice ra rn rc]) (by simp [results, Tryd.results105, go_sem]) rfl ⟨rfl, ?_⟩
  exact ((New.refl w).alloc _).alloc _

theorem msg_not (wh su : Int) (w : World) : Calls Tryd.prog 106 #[.agg #[.int .i64 wh, .int .i64 su]] w fun e w' => e = .returned (.agg #[.int .i64 3, .int .i64 0, .int .i64 0, .int .i64 0, .int .i64 wh, .int .i64 su, .slice none 0 0, .bool false, .int .i64 0, .slice none 0 0, .int .i64 0, .int .i64 0, .int .i64 0, .slice none 0 0]) ∧ New w w' := by
  go_enter Tryd.func106, Tryd.ntmps106
  go_wp2
  refine bodyPost_ret (v := .agg #[.int .i64 3, .int .i64 0, .int .i64 0, .int .i64 0, .int .i64 wh, .int .i64 su, .slice none 0 0, .bool false, .int .i64 0, .slice none 0 0, .int .i64 0, .int .i64 0, .int .i64 0, .slice none 0 0]) (by simp [results, Tryd.results106, go_sem]) rfl ⟨rfl, ?_⟩
  exact ((New.refl w).alloc _).alloc _

theorem msg_keep  (w : World) : Calls Tryd.prog 107 #[.agg #[]] w fun e w' => e = .returned (.agg #[.int .i64 4, .int .i64 0, .int .i64 0, .int .i64 0, .int .i64 0, .int .i64 0, .slice none 0 0, .bool false, .int .i64 0, .slice none 0 0, .int .i64 0, .int .i64 0, .int .i64 0, .slice none 0 0]) ∧ New w w' := by
  go_enter Tryd.func107, Tryd.ntmps107
  go_wp2
  refine bodyPost_ret (v := .agg #[.int .i64 4, .int .i64 0, .int .i64 0, .int .i64 0, .int .i64 0, .int .i64 0, .slice none 0 0, .bool false, .int .i64 0, .slice none 0 0, .int .i64 0, .int .i64 0, .int .i64 0, .slice none 0 0]) (by simp [results, Tryd.results107, go_sem]) rfl ⟨rfl, ?_⟩
  exact ((New.refl w).alloc _).alloc _

end Go.Proofs.YtljkcijakdhdiaaDoor
