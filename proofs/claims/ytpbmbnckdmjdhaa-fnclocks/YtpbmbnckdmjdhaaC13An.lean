/- What is proved here: what an answer of a clock is. No condition. -/
import Derived.Test.YtpbmbnckdmjdhaaC13Cs
namespace Go.Proofs.Ytpbmbnckdmjdhaa
open Go.RowKit
set_option linter.unusedVariables false

/-- An answer of a clock. -/
structure Ck where
  c : Int
  nw : Int
  xs : List Int

/-- A list of numbers of the call's own, or nil. -/
def OvC (w : World) (lo : Nat) (v : Value) (xs : List Int) : Prop := (v = .slice none 0 0 ∧ xs = []) ∨ ∃ g k, v = .slice (some ⟨g, 0, none⟩) xs.length k ∧ lo ≤ g ∧ OwN w g xs.length k xs

/-- An answer of the call's own. -/
def CkAns (w : World) (r : Ck) (e : Ending) (w' : World) : Prop := ∃ v, e = .returned (.agg #[.int .i64 r.c, .int .i64 r.nw, v]) ∧ OvC w' w.heap.size v r.xs ∧ New w w'

/-- An off. -/
abbrev OfP (p : Int) : Prop := -2 ≤ p ∧ p ≤ 2

/-- What TickClock answers. -/
def tiR (nw : Int) (xs : List Int) (t : Int) (os : List Int) : Ck :=
  if ckF nw xs = 0 then (if (0 ≤ t ∧ t ≤ 1000) ∧ nw + t ≤ 1000000000 then (match xs, os with
    | [x, y], [p, q] => if OfP p ∧ OfP q then ⟨0, nw + t, [max x (nw + t + p), max y (nw + t + q)]⟩ else ⟨3, 0, []⟩
    | _, _ => ⟨1, 0, []⟩) else ⟨3, 0, []⟩) else ⟨ckF nw xs, 0, []⟩

theorem ckF_zero {nw : Int} {xs : List Int} (h : ckF nw xs = 0) : (0 ≤ nw ∧ nw ≤ 1000000000) ∧ ∃ x y, xs = [x, y] ∧ CkP nw x ∧ CkP nw y := by
  by_cases h0 : 0 ≤ nw ∧ nw ≤ 1000000000
  · refine ⟨h0, ?_⟩
    by_cases hl : xs.length = 2
    · obtain ⟨x, y, rfl⟩ := two13 hl
      by_cases hx : CkP nw x ∧ CkP nw y
      · exact ⟨x, y, rfl, hx.1, hx.2⟩
      · rw [ckF_no h0 hx] at h; cases h
    · rw [ckF_form h0 hl] at h; cases h
  · rw [ckF_far h0] at h; cases h

theorem ti_bad {nw : Int} {xs os : List Int} {t z : Int} (h : ckF nw xs = z) (hz : ¬ z = 0) : tiR nw xs t os = ⟨z, 0, []⟩ := by
  unfold tiR
  rw [if_neg (by rw [h]; exact hz), h]

theorem ti_by {nw : Int} {xs os : List Int} {t : Int} (h : ckF nw xs = 0) (hz : ¬ ((0 ≤ t ∧ t ≤ 1000) ∧ nw + t ≤ 1000000000)) : tiR nw xs t os = ⟨3, 0, []⟩ := by
  unfold tiR
  rw [if_pos h, if_neg hz]

theorem ti_form {nw x y : Int} {os : List Int} {t : Int} (h : ckF nw [x, y] = 0) (hz : (0 ≤ t ∧ t ≤ 1000) ∧ nw + t ≤ 1000000000) (hl : ¬ os.length = 2) : tiR nw [x, y] t os = ⟨1, 0, []⟩ := by
  unfold tiR
  rw [if_pos h, if_pos hz]
  split
  · exact absurd rfl hl
  · rfl

theorem ti_off {nw x y p q t : Int} (h : ckF nw [x, y] = 0) (hz : (0 ≤ t ∧ t ≤ 1000) ∧ nw + t ≤ 1000000000) (ho : ¬ (OfP p ∧ OfP q)) : tiR nw [x, y] t [p, q] = ⟨3, 0, []⟩ := by
  unfold tiR
  rw [if_pos h, if_pos hz]
  exact if_neg ho

theorem ti_ok {nw x y p q t : Int} (h : ckF nw [x, y] = 0) (hz : (0 ≤ t ∧ t ≤ 1000) ∧ nw + t ≤ 1000000000) (ho : OfP p ∧ OfP q) : tiR nw [x, y] t [p, q] = ⟨0, nw + t, [max x (nw + t + p), max y (nw + t + q)]⟩ := by
  unfold tiR
  rw [if_pos h, if_pos hz]
  exact if_pos ho

theorem implCkF_is (nw : Int) (a : Option Addr) (n c : Nat) (xs : List Int) (z : Int) (w : World) (h : NsAt w a xs) (hn : xs.length = n) (hm : n ≤ 1048576) (hz : ckF nw xs = z) :
    Calls Try.prog 15 #[.agg #[.int .i64 nw, .slice a n c]] w fun e w' => e = .returned (.int .i64 z) ∧ New w w' := hz ▸ implCkF nw a n c xs w h hn hm

theorem specCkF_is (nw : Int) (a : Option Addr) (n c : Nat) (xs : List Int) (z : Int) (w : World) (h : NsAt w a xs) (hn : xs.length = n) (hm : n ≤ 1048576) (hz : ckF nw xs = z) :
    Calls Try.prog 31 #[.agg #[.int .i64 nw, .slice a n c]] w fun e w' => e = .returned (.int .i64 z) ∧ New w w' := hz ▸ specCkF nw a n c xs w h hn hm

end Go.Proofs.Ytpbmbnckdmjdhaa
