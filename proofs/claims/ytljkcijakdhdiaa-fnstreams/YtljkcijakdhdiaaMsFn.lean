/- What is proved here: what the judging of a message answers, in the program, for every lists of at most 1048576 elements. -/
import Derived.Test.YtljkcijakdhdiaaUpLaw
namespace Go.Proofs.Ytljkcijakdhdiaa
open Go.RowKit Go.Sort
set_option linter.unusedVariables false

/-- A hold time. -/
abbrev Hl (x : Int) : Prop := x = 0 ∨ (3 ≤ x ∧ x ≤ 200)
/-- The numbers of an open. -/
abbrev Opn (sa ho si : Int) : Prop := (1 ≤ sa ∧ sa ≤ 65535) ∧ Hl ho ∧ (1 ≤ si ∧ si ≤ 65535)
/-- The numbers of a notify. -/
abbrev Nty (wh su : Int) : Prop := (1 ≤ wh ∧ wh ≤ 6) ∧ (0 ≤ su ∧ su ≤ 20)
/-- Two updates have all fields the same. -/
abbrev SuP (gs : List (Int × Int)) (has : Bool) (o : Int) (xs : List Int) (nx md lc : Int) (rs : List (Int × Int)) (gs' : List (Int × Int)) (has' : Bool) (o' : Int) (xs' : List Int) (nx' md' lc' : Int) (rs' : List (Int × Int)) : Prop :=
  gs = gs' ∧ has = has' ∧ SaP o xs nx md lc o' xs' nx' md' lc' ∧ rs = rs'
/-- All of the update is zero. -/
abbrev ZuP (gs : List (Int × Int)) (has : Bool) (o : Int) (xs : List Int) (nx md lc : Int) (rs : List (Int × Int)) : Prop := gs.length = 0 ∧ rs.length = 0 ∧ has = false ∧ ZaP o xs nx md lc

theorem take_eq_nextP {xs ys : List (Int × Int)} {k : Nat} {z : Int × Int} (h : xs.take k = ys.take k) (hx : xs[k]? = some z) (hy : ys[k]? = some z) : xs.take (k + 1) = ys.take (k + 1) := by
  obtain ⟨h1, rfl⟩ := List.getElem?_eq_some_iff.1 hx
  obtain ⟨h2, e2⟩ := List.getElem?_eq_some_iff.1 hy
  rw [List.take_succ_eq_append_getElem h1, List.take_succ_eq_append_getElem h2, h, e2]

theorem isId_yes (x : Int) (w : World) (h : 1 ≤ x ∧ x ≤ 65535) : Calls Try.prog 59 #[.int .i64 x] w fun e w' => e = .returned (.bool true) ∧ w' = w := by
  obtain ⟨h1, h2⟩ := h
  go_enter Try.func59, Try.ntmps59
  go_wp2
  go_ret
  exact ⟨by simp, rfl⟩

theorem isId_no (x : Int) (w : World) (h : ¬ (1 ≤ x ∧ x ≤ 65535)) : Calls Try.prog 59 #[.int .i64 x] w fun e w' => e = .returned (.bool false) ∧ w' = w := by
  by_cases h1 : 1 ≤ x
  · have h2 : 65535 < x := by omega
    go_enter Try.func59, Try.ntmps59
    go_wp2
    go_ret
    exact ⟨by simp; omega, rfl⟩
  · go_enter Try.func59, Try.ntmps59
    go_wp2
    go_ret
    exact ⟨rfl, rfl⟩

theorem isWhy_yes (x : Int) (w : World) (h : 1 ≤ x ∧ x ≤ 6) : Calls Try.prog 62 #[.int .i64 x] w fun e w' => e = .returned (.bool true) ∧ w' = w := by
  obtain ⟨h1, h2⟩ := h
  go_enter Try.func62, Try.ntmps62
  go_wp2
  go_ret
  exact ⟨by simp, rfl⟩

theorem isWhy_no (x : Int) (w : World) (h : ¬ (1 ≤ x ∧ x ≤ 6)) : Calls Try.prog 62 #[.int .i64 x] w fun e w' => e = .returned (.bool false) ∧ w' = w := by
  by_cases h1 : 1 ≤ x
  · have h2 : 6 < x := by omega
    go_enter Try.func62, Try.ntmps62
    go_wp2
    go_ret
    exact ⟨by simp; omega, rfl⟩
  · go_enter Try.func62, Try.ntmps62
    go_wp2
    go_ret
    exact ⟨rfl, rfl⟩

theorem isSub_yes (x : Int) (w : World) (h : 0 ≤ x ∧ x ≤ 20) : Calls Try.prog 63 #[.int .i64 x] w fun e w' => e = .returned (.bool true) ∧ w' = w := by
  obtain ⟨h1, h2⟩ := h
  go_enter Try.func63, Try.ntmps63
  go_wp2
  go_ret
  exact ⟨by simp, rfl⟩

theorem isSub_no (x : Int) (w : World) (h : ¬ (0 ≤ x ∧ x ≤ 20)) : Calls Try.prog 63 #[.int .i64 x] w fun e w' => e = .returned (.bool false) ∧ w' = w := by
  by_cases h1 : 0 ≤ x
  · have h2 : 20 < x := by omega
    go_enter Try.func63, Try.ntmps63
    go_wp2
    go_ret
    exact ⟨by simp; omega, rfl⟩
  · go_enter Try.func63, Try.ntmps63
    go_wp2
    go_ret
    exact ⟨rfl, rfl⟩

theorem isHold_yes (x : Int) (w : World) (h : x = 0 ∨ (3 ≤ x ∧ x ≤ 200)) : Calls Try.prog 60 #[.int .i64 x] w fun e w' => e = .returned (.bool true) ∧ w' = w := by
  by_cases h0 : x = 0
  · subst h0
    go_enter Try.func60, Try.ntmps60
    go_wp2
    go_ret
    exact ⟨rfl, rfl⟩
  · have e0 : (x == 0) = false := by simpa using h0
    obtain ⟨h1, h2⟩ : 3 ≤ x ∧ x ≤ 200 := by omega
    clear h
    go_enter Try.func60, Try.ntmps60
    go_wp2
    go_ret
    exact ⟨by simp, rfl⟩

theorem isHold_no (x : Int) (w : World) (h : ¬ (x = 0 ∨ (3 ≤ x ∧ x ≤ 200))) : Calls Try.prog 60 #[.int .i64 x] w fun e w' => e = .returned (.bool false) ∧ w' = w := by
  have h0 : ¬ x = 0 := by omega
  have e0 : (x == 0) = false := by simpa using h0
  by_cases h1 : 3 ≤ x
  · have h2 : 200 < x := by omega
    clear h
    go_enter Try.func60, Try.ntmps60
    go_wp2
    go_ret
    exact ⟨by simp; omega, rfl⟩
  · clear h
    go_enter Try.func60, Try.ntmps60
    go_wp2
    go_ret
    exact ⟨rfl, rfl⟩

end Go.Proofs.Ytljkcijakdhdiaa
