/- What is proved here: what the judging of a single number of a session or of a configuration answers, in the program and in the model. No condition. -/
import Derived.Test.YtdknalegmlpimaaNumLib
namespace Go.Proofs.Ytdknalegmlpimaa
open Go.RowKit
set_option linter.unusedVariables false

/-- A hold time. -/
abbrev HoP (x : Int) : Prop := x = 0 ∨ (3 ≤ x ∧ x ≤ 200)
/-- The numbers of a configuration. -/
abbrev CfP (sa si ho : Int) : Prop := (1 ≤ sa ∧ sa ≤ 65535) ∧ (1 ≤ si ∧ si ≤ 65535) ∧ HoP ho
/-- The numbers of a session. -/
abbrev SsP (st pe ho si sp : Int) : Prop := (0 ≤ st ∧ st ≤ 3) ∧ (0 ≤ pe ∧ pe ≤ 65535) ∧ HoP ho ∧ (0 ≤ si ∧ si ≤ 1000) ∧ (0 ≤ sp ∧ sp ≤ 1000)
/-- The fault of a configuration. -/
def cf (sa si ho : Int) : Int := if CfP sa si ho then 0 else 3
/-- The fault of a session. -/
def sf (st pe ho si sp : Int) : Int :=
  if SsP st pe ho si sp then (if st = 0 then (if pe = 0 ∧ ho = 0 ∧ si = 0 ∧ sp = 0 then 0 else 1) else if st = 1 then (if pe = 0 ∧ ho = 0 then 0 else 1) else if pe = 0 then 1 else 0) else 3
theorem ret5_bool {a b : Bool} (h : a = b) : Ending.returned (.bool a) = .returned (.bool b) := by rw [h]

theorem sys5_yes (x : Int) (w : World) (h : 1 ≤ x ∧ x ≤ 65535) : Calls Try.prog 58 #[.int .i64 x] w fun e w' => e = .returned (.bool true) ∧ w' = w := by
  obtain ⟨h1, h2⟩ := h
  go_enter Try.func58, Try.ntmps58
  go_wp2
  go_ret
  exact ⟨by simp, rfl⟩

theorem sys5_no (x : Int) (w : World) (h : ¬ (1 ≤ x ∧ x ≤ 65535)) : Calls Try.prog 58 #[.int .i64 x] w fun e w' => e = .returned (.bool false) ∧ w' = w := by
  by_cases h1 : 1 ≤ x
  · have h2 : 65535 < x := by omega
    clear h
    go_enter Try.func58, Try.ntmps58
    go_wp2
    go_ret
    exact ⟨by simp; omega, rfl⟩
  · clear h
    go_enter Try.func58, Try.ntmps58
    go_wp2
    go_ret
    exact ⟨rfl, rfl⟩

theorem id5_yes (x : Int) (w : World) (h : 1 ≤ x ∧ x ≤ 65535) : Calls Try.prog 59 #[.int .i64 x] w fun e w' => e = .returned (.bool true) ∧ w' = w := by
  obtain ⟨h1, h2⟩ := h
  go_enter Try.func59, Try.ntmps59
  go_wp2
  go_ret
  exact ⟨by simp, rfl⟩

theorem id5_no (x : Int) (w : World) (h : ¬ (1 ≤ x ∧ x ≤ 65535)) : Calls Try.prog 59 #[.int .i64 x] w fun e w' => e = .returned (.bool false) ∧ w' = w := by
  by_cases h1 : 1 ≤ x
  · have h2 : 65535 < x := by omega
    clear h
    go_enter Try.func59, Try.ntmps59
    go_wp2
    go_ret
    exact ⟨by simp; omega, rfl⟩
  · clear h
    go_enter Try.func59, Try.ntmps59
    go_wp2
    go_ret
    exact ⟨rfl, rfl⟩

theorem hold5_yes (x : Int) (w : World) (h : HoP x) : Calls Try.prog 60 #[.int .i64 x] w fun e w' => e = .returned (.bool true) ∧ w' = w := by
  by_cases h0 : x = 0
  · subst h0
    go_enter Try.func60, Try.ntmps60
    go_wp2
    go_ret
    exact ⟨rfl, rfl⟩
  · have e0 : (x == 0) = false := by simpa using h0
    obtain ⟨h1, h2⟩ : 3 ≤ x ∧ x ≤ 200 := by rcases h with h | h <;> omega
    clear h
    go_enter Try.func60, Try.ntmps60
    go_wp2
    go_ret
    exact ⟨by simp, rfl⟩

theorem hold5_no (x : Int) (w : World) (h : ¬ HoP x) : Calls Try.prog 60 #[.int .i64 x] w fun e w' => e = .returned (.bool false) ∧ w' = w := by
  have h0 : ¬ x = 0 := fun e => h (.inl e)
  have e0 : (x == 0) = false := by simpa using h0
  by_cases h1 : 3 ≤ x
  · have h2 : 200 < x := by
      rcases Int.lt_or_le 200 x with q | q
      · exact q
      · exact absurd (Or.inr ⟨h1, q⟩) h
    clear h
    go_enter Try.func60, Try.ntmps60
    go_wp2
    go_ret
    exact ⟨by simp; omega, rfl⟩
  · clear h
    go_enter Try.func60, Try.ntmps60
    go_wp2
    go_ret
    exact ⟨rfl, rfl⟩

theorem holdS5_yes (x : Int) (w : World) (h : HoP x) : Calls Try.prog 55 #[.int .i64 x] w fun e w' => e = .returned (.bool true) ∧ w' = w := by
  by_cases h0 : x = 0
  · subst h0
    go_enter Try.func55, Try.ntmps55
    go_wp2
    go_ret
    exact ⟨rfl, rfl⟩
  · have e0 : (x == 0) = false := by simpa using h0
    have h1 : 3 ≤ x ∧ x ≤ 200 := by rcases h with h | h <;> omega
    clear h
    go_enter Try.func55, Try.ntmps55
    go_wp2_with fail
    refine (in_yes _ _ _ _ h1).mono ?_
    rintro e w1 ⟨rfl, rfl⟩
    go_wp2
    go_ret
    exact ⟨rfl, rfl⟩

theorem holdS5_no (x : Int) (w : World) (h : ¬ HoP x) : Calls Try.prog 55 #[.int .i64 x] w fun e w' => e = .returned (.bool false) ∧ w' = w := by
  have h0 : ¬ x = 0 := fun e => h (.inl e)
  have e0 : (x == 0) = false := by simpa using h0
  have h1 : x < 3 ∨ 200 < x := by
    by_cases q : 3 ≤ x ∧ x ≤ 200
    · exact absurd (.inr q) h
    · omega
  clear h
  go_enter Try.func55, Try.ntmps55
  go_wp2_with fail
  refine (in_no _ _ _ _ h1).mono ?_
  rintro e w1 ⟨rfl, rfl⟩
  go_wp2
  go_ret
  exact ⟨rfl, rfl⟩

theorem word5_yes (x : Int) (w : World) (h : 0 ≤ x ∧ x ≤ 65535) : Calls Try.prog 70 #[.int .i64 x] w fun e w' => e = .returned (.bool true) ∧ w' = w := by
  go_enter Try.func70, Try.ntmps70
  go_wp2_with fail
  refine (in_yes _ _ _ _ h).mono ?_
  rintro e w1 ⟨rfl, rfl⟩
  go_wp2
  go_ret
  exact ⟨rfl, rfl⟩

theorem word5_no (x : Int) (w : World) (h : ¬ (0 ≤ x ∧ x ≤ 65535)) : Calls Try.prog 70 #[.int .i64 x] w fun e w' => e = .returned (.bool false) ∧ w' = w := by
  go_enter Try.func70, Try.ntmps70
  go_wp2_with fail
  refine (in_no _ _ _ _ (by omega)).mono ?_
  rintro e w1 ⟨rfl, rfl⟩
  go_wp2
  go_ret
  exact ⟨rfl, rfl⟩

theorem in5_no (v lo hi : Int) (w : World) (h : ¬ (lo ≤ v ∧ v ≤ hi)) : Calls Try.prog 54 #[.int .i64 v, .int .i64 lo, .int .i64 hi] w fun e w' => e = .returned (.bool false) ∧ w' = w :=
  in_no v lo hi w (by omega)

end Go.Proofs.Ytdknalegmlpimaa
