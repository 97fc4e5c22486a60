/- What is proved here: what hearing a mail should answer, as one function; facts on parts of logs. No condition. -/
import Derived.Test.YthnigcalboobgaaK12Ae
import Derived.Test.YthnigcalboobgaaK12Ht
import Derived.Test.YthnigcalboobgaaK12Tk
import Derived.Test.YthnigcalboobgaaK12Mf
namespace Go.Proofs.Ythnigcalboobgaa
open Go.RowKit Go.Sort
set_option linter.unusedVariables false
set_option linter.unusedSimpArgs false
set_option maxRecDepth 100000

/-- An answer with a node, as numbers. -/
structure Nr where
  z : Int
  id : Int
  up : Bool
  ro : Int
  ep : Int
  su : Int
  ma : Int
  ot : Int
  co : Int
  L : List Ek
  M : List Ml
def Nr.bad (z : Int) : Nr := ⟨z, 0, false, 0, 0, 0, 0, 0, 0, [], []⟩
/-- The mail that tells how much is there. -/
def tkM (id ep a : Int) : Ml := ⟨2, 1 - id, ep, a, 0, false, ⟨0, 0, 0, []⟩⟩
/-- What comes of an entry that is to be appended. -/
def haF (id : Int) (up : Bool) (ro ep su ma ot co : Int) (R : List Ek) (o : Nat) (pr : Int) (has : Bool) (x : Ek) : Nr :=
  if ro = 1 then .bad 10
  else if R.length < o ∨ ¬ prevE R o = pr then ⟨0, id, up, ro, ep, su, ma, ot, co, R, [tkM id ep ma]⟩
  else if has = false then ⟨0, id, up, ro, ep, su, max ma o, ot, co, R, [tkM id ep (min (max ma o) su)]⟩
  else if o < R.length ∧ prevE R (o + 1) = x.ep then ⟨0, id, up, ro, ep, su, max ma (o + 1), ot, co, R, [tkM id ep (min (max ma (o + 1)) su)]⟩
  else if (o : Int) < co then .bad 7
  else if 100 ≤ o then .bad 2
  else ⟨0, id, up, ro, ep, min su o, o + 1, ot, co, R.take o ++ [x], [tkM id ep (min (o + 1) (min su o))]⟩
/-- How much the other one has, behind a mail that tells it. -/
def htO (ro ot : Int) (o n : Nat) : Int := if ro = 1 ∧ ot < o ∧ o ≤ n then o else ot
def htC (ro su ot co : Int) (o n : Nat) : Int := if ro = 1 then max co (min su (htO ro ot o n)) else co
/-- What comes of a mail of the node's own epoch. -/
def hmF (id : Int) (up : Bool) (ro ep su ma ot co : Int) (R : List Ek) (kd : Int) (o : Nat) (pr : Int) (has : Bool) (x : Ek) : Nr :=
  if kd = 1 then haF id up ro ep su ma ot co R o pr has x
  else ⟨0, id, up, ro, ep, su, ma, htO ro ot o R.length, htC ro su ot co o R.length, R, []⟩
/-- What comes of a mail. -/
def hearF (id : Int) (up : Bool) (ro ep su ma ot co : Int) (R : List Ek) (kd tgt me at1 pr : Int) (has : Bool) (x : Ek) : Nr :=
  if ¬ uF up (nF id up ro ep su ma ot co R.length R) = 0 then .bad (uF up (nF id up ro ep su ma ot co R.length R))
  else if ¬ mlF id kd tgt me at1 pr has x.ep x.ki x.pe x.xs.length = 0 then .bad (mlF id kd tgt me at1 pr has x.ep x.ki x.pe x.xs.length)
  else if me < ep then ⟨0, id, up, ro, ep, su, ma, ot, co, R, []⟩
  else if ep < me then hmF id up 0 me su 0 0 co R kd at1.toNat pr has x
  else hmF id up ro ep su ma ot co R kd at1.toNat pr has x
/-- The answer with a node as a whole. -/
def NrA (w : World) (r : Nr) (e : Ending) (w' : World) : Prop := NrAns w r.z r.id r.up r.ro r.ep r.su r.ma r.ot r.co r.L r.M e w'

theorem mlF_ok {id kd tgt me at1 pr : Int} {has : Bool} {ee ki pe : Int} {m : Nat} (h : mlF id kd tgt me at1 pr has ee ki pe m = 0) : (kd = 1 ∨ kd = 2) ∧ 1 ≤ me ∧ me ≤ 1000 ∧ 0 ≤ at1 ∧ at1 ≤ 100 := by
  unfold mlF at h
  repeat' split at h
  all_goals first | omega | skip
/-- The first ones of a list of the call's own, also of none. -/
theorem OwL.takeN {w : World} {lo hi n c : Nat} {A : Option Addr} {V : List EkV} (h : OwL w lo hi (.slice A n c) V) (m : Nat) (hm : m ≤ n) : OwL w lo hi (.slice A m c) (V.take m) := by
  by_cases hA : A = none
  · subst hA
    obtain ⟨A', c', e, -, h2⟩ := h.form
    simp only [Value.slice.injEq] at e
    obtain ⟨rfl, rfl, rfl⟩ := e
    rcases h2 with ⟨-, rfl, rfl⟩ | ⟨g, h3, -⟩
    · obtain rfl : m = 0 := by simpa using hm
      exact OwL.nil _ _ _
    · cases h3
  · exact h.take m hm hA

set_option maxHeartbeats 1600000 in
theorem hearTaken_any (o : Nat) (B : Nat) (id : Int) (up : Bool) (ro ep su ma ot co : Int) (A : Option Addr) (n c : Nat) (w : World) (hb : Blk w B 36 #[.int .i64 id, .bool up, .int .i64 ro, .int .i64 ep, .slice A n c, .int .i64 su, .int .i64 ma, .int .i64 ot, .int .i64 co]) :
    Calls Try.prog 30 #[.pointer (some ⟨B, 0, none⟩), .int .i64 (o : Int)] w fun e w' => e = .returned (.tuple #[]) ∧ Blk w' B 36 #[.int .i64 id, .bool up, .int .i64 ro, .int .i64 ep, .slice A n c, .int .i64 su, .int .i64 ma, .int .i64 (htO ro ot o n), .int .i64 (htC ro su ot co o n)] ∧ Turn (fun i => i = B) w w' := by
  by_cases hr : ro = 1
  · subst hr
    by_cases h1 : ot < (o : Int)
    · by_cases h2 : (o : Int) ≤ (n : Int)
      · have e : htO 1 ot o n = o := by unfold htO; rw [if_pos ⟨rfl, h1, by omega⟩]
        have e2 : htC 1 su ot co o n = max co (min su o) := by unfold htC; rw [if_pos rfl, e]
        rw [e, e2]
        exact hearTaken_set o B id up ep su ma ot co A n c w hb h1 (by simpa using h1) h2 (by simpa using h2)
      · have e : htO 1 ot o n = ot := by unfold htO; rw [if_neg (by rintro ⟨-, -, h⟩; omega)]
        have e2 : htC 1 su ot co o n = max co (min su ot) := by unfold htC; rw [if_pos rfl, e]
        rw [e, e2]
        exact hearTaken_far o B id up ep su ma ot co A n c w hb h1 (by simpa using h1) (by omega) (by simp; omega)
    · have e : htO 1 ot o n = ot := by unfold htO; rw [if_neg (by rintro ⟨-, h, -⟩; omega)]
      have e2 : htC 1 su ot co o n = max co (min su ot) := by unfold htC; rw [if_pos rfl, e]
      rw [e, e2]
      exact hearTaken_low o B id up ep su ma ot co A n c w hb (by omega) (by simp; omega)
  · have e : htO ro ot o n = ot := by unfold htO; rw [if_neg (by rintro ⟨h, -, -⟩; exact hr h)]
    have e2 : htC ro su ot co o n = co := by unfold htC; rw [if_neg hr]
    rw [e, e2]
    refine (hearTaken_no o B id up ro ep su ma ot co A n c w hb hr).mono ?_
    rintro e w' ⟨rfl, rfl⟩
    exact ⟨rfl, hb, Turn.refl _ _⟩

end Go.Proofs.Ythnigcalboobgaa
