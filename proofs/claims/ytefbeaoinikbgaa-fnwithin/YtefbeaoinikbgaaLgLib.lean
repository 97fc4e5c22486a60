/- What is proved here: which prefix of a list is the longest one that has an address: what is told of it is one number; and what the model's function answers, for every list of at most 1048576 prefixes. -/
import Derived.Test.YtefbeaoinikbgaaPsFn
namespace Go.Proofs.Ytefbeaoinikbgaa
open Go.RowKit Go.Sort

/-- The prefix has the address. -/
abbrev hs (p : Int × Int) (x : Int) : Prop := x - x % szp p.2 = p.1

/-- The place b is that of the longest of the first k that has the address, the first one of these. -/
def BestTo (ps : List (Int × Int)) (x : Int) (k b : Nat) : Prop :=
  b < k ∧ ∃ q, ps[b]? = some q ∧ hs q x ∧ ∀ i p, i < k → ps[i]? = some p → hs p x → p.2 ≤ q.2 ∧ (i < b → p.2 < q.2)
/-- None of the first k has it. -/
def NoneTo (ps : List (Int × Int)) (x : Int) (k : Nat) : Prop := ∀ i p, i < k → ps[i]? = some p → ¬ hs p x

/-- What is told of a list and an address. -/
def Lg (ps : List (Int × Int)) (x c v : Int) : Prop :=
  (lf ps ≠ 0 ∧ c = lf ps ∧ v = 0) ∨ (lf ps = 0 ∧ (x < 0 ∨ 65535 < x) ∧ c = 3 ∧ v = 0) ∨
  (lf ps = 0 ∧ (0 ≤ x ∧ x ≤ 65535) ∧ ((NoneTo ps x ps.length ∧ c = 4 ∧ v = 0) ∨ ∃ b : Nat, v = b ∧ c = 0 ∧ BestTo ps x ps.length b))

theorem Best_one {ps : List (Int × Int)} {x : Int} {k b b' : Nat} (h : BestTo ps x k b) (h' : BestTo ps x k b') : b = b' := by
  obtain ⟨hb, q, hq, hsq, hall⟩ := h
  obtain ⟨hb', q', hq', hsq', hall'⟩ := h'
  have h1 := hall b' q' hb' hq' hsq'
  have h2 := hall' b q hb hq hsq
  rcases Nat.lt_trichotomy b b' with hlt | rfl | hlt
  · have := h2.2 hlt; omega
  · rfl
  · have := h1.2 hlt; omega
theorem Best_none {ps : List (Int × Int)} {x : Int} {k b : Nat} (h : BestTo ps x k b) (h' : NoneTo ps x k) : False := by
  obtain ⟨hb, q, hq, hsq, _⟩ := h
  exact h' b q hb hq hsq

theorem Lg_one {ps : List (Int × Int)} {x c v c' v' : Int} (h : Lg ps x c v) (h' : Lg ps x c' v') : c = c' ∧ v = v' := by
  rcases h with ⟨h0, rfl, rfl⟩ | ⟨h0, hx, rfl, rfl⟩ | ⟨h0, hx, hr⟩ <;> rcases h' with ⟨k0, rfl, rfl⟩ | ⟨k0, kx, rfl, rfl⟩ | ⟨k0, kx, kr⟩
  all_goals first | exact ⟨rfl, rfl⟩ | exact absurd h0 k0 | exact absurd k0 h0 | (exfalso; omega) | skip
  rcases hr with ⟨hn, rfl, rfl⟩ | ⟨b, rfl, rfl, hb⟩ <;> rcases kr with ⟨kn, rfl, rfl⟩ | ⟨b', rfl, rfl, kb⟩
  · exact ⟨rfl, rfl⟩
  · exact (Best_none kb hn).elim
  · exact (Best_none hb kn).elim
  · exact ⟨rfl, by rw [Best_one hb kb]⟩

theorem NoneTo.next {ps : List (Int × Int)} {x : Int} {k : Nat} (h : NoneTo ps x k) {p : Int × Int} (hp : ps[k]? = some p) (hn : ¬ hs p x) : NoneTo ps x (k + 1) := by
  intro i q hi hq
  rcases Nat.lt_or_ge i k with hlt | hge
  · exact h i q hlt hq
  · obtain rfl : i = k := by omega
    rw [hp] at hq
    obtain rfl := Option.some.inj hq
    exact hn
theorem NoneTo.first {ps : List (Int × Int)} {x : Int} {k : Nat} (h : NoneTo ps x k) {p : Int × Int} (hp : ps[k]? = some p) (hh : hs p x) : BestTo ps x (k + 1) k := by
  refine ⟨by omega, p, hp, hh, fun i q hi hq hsq => ?_⟩
  rcases Nat.lt_or_ge i k with hlt | hge
  · exact absurd hsq (h i q hlt hq)
  · obtain rfl : i = k := by omega
    rw [hp] at hq
    obtain rfl := Option.some.inj hq
    exact ⟨Int.le_refl _, fun h => by omega⟩
theorem BestTo.stay {ps : List (Int × Int)} {x : Int} {k b : Nat} (h : BestTo ps x k b) {p q : Int × Int} (hp : ps[k]? = some p) (hq : ps[b]? = some q) (hn : hs p x → p.2 ≤ q.2) : BestTo ps x (k + 1) b := by
  obtain ⟨hb, q', hq', hsq, hall⟩ := h
  rw [hq] at hq'
  obtain rfl := Option.some.inj hq'
  refine ⟨by omega, q, hq, hsq, fun i r hi hr hsr => ?_⟩
  rcases Nat.lt_or_ge i k with hlt | hge
  · exact hall i r hlt hr hsr
  · obtain rfl : i = k := by omega
    rw [hp] at hr
    obtain rfl := Option.some.inj hr
    exact ⟨hn hsr, fun h => by omega⟩
theorem BestTo.more {ps : List (Int × Int)} {x : Int} {k b : Nat} (h : BestTo ps x k b) {p q : Int × Int} (hp : ps[k]? = some p) (hq : ps[b]? = some q) (hh : hs p x) (hn : q.2 < p.2) : BestTo ps x (k + 1) k := by
  obtain ⟨hb, q', hq', hsq, hall⟩ := h
  rw [hq] at hq'
  obtain rfl := Option.some.inj hq'
  refine ⟨by omega, p, hp, hh, fun i r hi hr hsr => ?_⟩
  rcases Nat.lt_or_ge i k with hlt | hge
  · have := hall i r hlt hr hsr; exact ⟨by omega, fun _ => by omega⟩
  · obtain rfl : i = k := by omega
    rw [hp] at hr
    obtain rfl := Option.some.inj hr
    exact ⟨Int.le_refl _, fun h => by omega⟩

theorem l2Has_is (a l x : Int) (v : Bool) (w : World) (hx : 0 ≤ x) (hx1 : x ≤ 65535) (h0 : 0 ≤ l) (h1 : l ≤ 16) (hv : decide (x - x % szp l = a) = v) :
    Calls Try.prog 24 #[.agg #[.int .i64 a, .int .i64 l], .int .i64 x] w fun e w' => e = .returned (.bool v) ∧ New w w' := hv ▸ l2Has_any a l x w hx hx1 h0 h1

/-- Where the model's loop stands. -/
def BstI (ps : List (Int × Int)) (x : Int) (k : Nat) (b : Int) : Prop := (b = -1 ∧ NoneTo ps x k) ∨ ∃ m : Nat, b = m ∧ BestTo ps x k m

end Go.Proofs.Ytefbeaoinikbgaa
