/- What is proved here: facts on ticks of a session, one behind the other: a session that hears nothing ends within its hold time, one that hears in time stays up. -/
import Derived.Test.YteniieagcehmpaaS5Hear
import Derived.Test.YteniieagcehmpaaS5TkS
namespace Go.Proofs.Yteniieagcehmpaa
open Go.RowKit
set_option linter.unusedVariables false

/-- A session's five numbers. -/
abbrev Ss5 : Type := Int × Int × Int × Int × Int
/-- The session that an answer tells. -/
def sesOf (r : Rs) : Ss5 := (r.st, r.pe, r.ho, r.si, r.sp)
/-- The session behind a tick. -/
def tick5 (ca ci ch : Int) (s : Ss5) : Ss5 := sesOf (ticksR ca ci ch s.1 s.2.1 s.2.2.1 s.2.2.2.1 s.2.2.2.2)
/-- The session behind a keep. -/
def hear5 (ca ci ch : Int) (s : Ss5) : Ss5 := sesOf (hearsR ca ci ch s.1 s.2.1 s.2.2.1 s.2.2.2.1 s.2.2.2.2 4 0 0 0)

theorem tk_le {x : Int} (h : 0 ≤ x ∧ x ≤ 1000) : 0 ≤ tk x ∧ tk x ≤ 1000 := by unfold tk; split <;> omega
theorem tk_lt {x : Int} (h : x < 1000) : tk x = x + 1 := by unfold tk; rw [if_pos h]

theorem cf_of_ask {ca ci ch st pe ho si sp : Int} (h : ask ca ci ch st pe ho si sp = 0) : cf ca ci ch = 0 ∧ sf st pe ho si sp = 0 := by
  unfold ask at h
  by_cases h0 : cf ca ci ch = 0
  · rw [if_pos h0] at h
    exact ⟨h0, h⟩
  · rw [if_neg h0] at h
    exact absurd h h0
theorem ask_of {ca ci ch st pe ho si sp : Int} (h0 : cf ca ci ch = 0) (h1 : sf st pe ho si sp = 0) : ask ca ci ch st pe ho si sp = 0 := by unfold ask; rw [if_pos h0]; exact h1
theorem sf_open {st pe ho si sp : Int} (h : SsP st pe ho si sp) (h0 : 2 ≤ st) (hp : ¬ pe = 0) : sf st pe ho si sp = 0 := by
  unfold sf
  rw [if_pos h, if_neg (by omega), if_neg (by omega), if_neg hp]
theorem sf_peer {st pe ho si sp : Int} (h : sf st pe ho si sp = 0) (h0 : 2 ≤ st) : ¬ pe = 0 := by
  intro hp
  unfold sf at h
  by_cases hs : SsP st pe ho si sp
  · rw [if_pos hs, if_neg (by omega), if_neg (by omega), if_pos hp] at h
    cases h
  · rw [if_neg hs] at h
    cases h
theorem sf_idle : sf 0 0 0 0 0 = 0 := by decide

/-- An idle session stays so. -/
theorem tick5_idle {ca ci ch : Int} (h : cf ca ci ch = 0) : tick5 ca ci ch (0, 0, 0, 0, 0) = (0, 0, 0, 0, 0) := by
  unfold tick5 ticksR
  rw [if_pos (ask_of h sf_idle)]
  rfl

/-- A tick of a session that has a peer and no hold time. -/
theorem tick5_free {ca ci ch st pe si sp : Int} (h : ask ca ci ch st pe 0 si sp = 0) (h2 : 2 ≤ st) : tick5 ca ci ch (st, pe, 0, si, sp) = (st, pe, 0, tk si, tk sp) ∧ ask ca ci ch st pe 0 (tk si) (tk sp) = 0 := by
  obtain ⟨hc, hf⟩ := cf_of_ask h
  have hs := ask_ok h
  constructor
  · unfold tick5 ticksR openedR
    rw [if_pos h, if_neg (by omega), if_neg (by omega), if_pos rfl]
    rfl
  · exact ask_of hc (sf_open ⟨hs.1, hs.2.1, hs.2.2.1, tk_le hs.2.2.2.1, tk_le hs.2.2.2.2⟩ h2 (sf_peer hf h2))

/-- A tick of a session that has a peer and a hold time: it ends, or Since is one more and below the hold time. -/
theorem tick5_held {ca ci ch st pe ho si sp : Int} (h : ask ca ci ch st pe ho si sp = 0) (h2 : 2 ≤ st) (h0 : ¬ ho = 0) :
    (ho ≤ tk si ∧ tick5 ca ci ch (st, pe, ho, si, sp) = (0, 0, 0, 0, 0)) ∨ ∃ sp', si + 1 < ho ∧ tick5 ca ci ch (st, pe, ho, si, sp) = (st, pe, ho, si + 1, sp') ∧ ask ca ci ch st pe ho (si + 1) sp' = 0 := by
  obtain ⟨hc, hf⟩ := cf_of_ask h
  have hs := ask_ok h
  have hho : 3 ≤ ho ∧ ho ≤ 200 := by rcases hs.2.2.1 with h | h <;> omega
  have hpe := sf_peer hf h2
  have hsi := hs.2.2.2.1
  have hsp := tk_le hs.2.2.2.2
  by_cases h1 : ho ≤ tk si
  · refine .inl ⟨h1, ?_⟩
    unfold tick5 ticksR openedR
    rw [if_pos h, if_neg (by omega), if_neg (by omega), if_neg h0, if_pos h1]
    rfl
  · right
    have hlt : si < 1000 := by
      unfold tk at h1
      split at h1 <;> omega
    have e1 : tk si = si + 1 := tk_lt hlt
    rw [e1] at h1
    by_cases h3 : (if ho < 6 then (1 : Int) else 3) ≤ tk sp
    · refine ⟨0, by omega, ?_, ask_of hc (sf_open ⟨hs.1, hs.2.1, hs.2.2.1, by omega, by omega⟩ h2 hpe)⟩
      unfold tick5 ticksR openedR
      rw [if_pos h, if_neg (by omega), if_neg (by omega), if_neg h0, e1, if_neg h1, if_pos h3]
      rfl
    · refine ⟨tk sp, by omega, ?_, ask_of hc (sf_open ⟨hs.1, hs.2.1, hs.2.2.1, by omega, hsp⟩ h2 hpe)⟩
      unfold tick5 ticksR openedR
      rw [if_pos h, if_neg (by omega), if_neg (by omega), if_neg h0, e1, if_neg h1, if_neg h3]
      rfl

/-- A session that is up and hears a keep at each tick stays up. -/
theorem keep5 {ca ci ch pe ho sp : Int} (h : ask ca ci ch 3 pe ho 0 sp = 0) :
    ∃ sp', hear5 ca ci ch (tick5 ca ci ch (3, pe, ho, 0, sp)) = (3, pe, ho, 0, sp') ∧ ask ca ci ch 3 pe ho 0 sp' = 0 := by
  have key : ∀ si sp', ask ca ci ch 3 pe ho si sp' = 0 → hear5 ca ci ch (3, pe, ho, si, sp') = (3, pe, ho, 0, sp') ∧ ask ca ci ch 3 pe ho 0 sp' = 0 := by
    intro si sp' hk
    obtain ⟨hc, hf⟩ := cf_of_ask hk
    have hs := ask_ok hk
    constructor
    · unfold hear5 hearsR
      rw [if_pos hk, if_pos rfl]
      rfl
    · exact ask_of hc (sf_open ⟨hs.1, hs.2.1, hs.2.2.1, by omega, hs.2.2.2.2⟩ (by omega) (sf_peer hf (by omega)))
  by_cases h0 : ho = 0
  · subst h0
    obtain ⟨e, hk⟩ := tick5_free h (by omega)
    rw [e]
    exact ⟨_, key _ _ hk⟩
  · rcases tick5_held h (by omega) h0 with ⟨hle, e⟩ | ⟨sp', hlt, e, hk⟩
    · exfalso
      have hs := ask_ok h
      have hho : 3 ≤ ho ∧ ho ≤ 200 := by rcases hs.2.2.1 with h | h <;> omega
      rw [tk_lt (by omega)] at hle
      omega
    · rw [e]
      exact ⟨_, key _ _ hk⟩

/-- Where the walk stands behind k ticks that heard nothing. -/
def At5 (ca ci ch st pe ho si : Int) (k : Nat) (s : Ss5) : Prop :=
  (2 ≤ st → ho = 0 → ∃ si' sp', s = (st, pe, 0, si', sp') ∧ ask ca ci ch st pe 0 si' sp' = 0) ∧
  (2 ≤ st → ¬ ho = 0 → s = (0, 0, 0, 0, 0) ∨ ∃ sp', s = (st, pe, ho, si + k, sp') ∧ ask ca ci ch st pe ho (si + k) sp' = 0 ∧ (k = 0 ∨ si + k < ho))

theorem At5.start {ca ci ch st pe ho si sp : Int} (h : ask ca ci ch st pe ho si sp = 0) : At5 ca ci ch st pe ho si 0 (st, pe, ho, si, sp) := by
  constructor
  · intro h2 h0
    subst h0
    exact ⟨si, sp, rfl, h⟩
  · intro h2 h0
    exact .inr ⟨sp, by simp, by simpa using h, .inl rfl⟩

theorem At5.next {ca ci ch st pe ho si : Int} {k : Nat} {s : Ss5} (hc : cf ca ci ch = 0) (h : At5 ca ci ch st pe ho si k s) : At5 ca ci ch st pe ho si (k + 1) (tick5 ca ci ch s) := by
  constructor
  · intro h2 h0
    obtain ⟨si', sp', rfl, hk⟩ := h.1 h2 h0
    obtain ⟨e, hk'⟩ := tick5_free hk h2
    exact ⟨_, _, e, hk'⟩
  · intro h2 h0
    rcases h.2 h2 h0 with rfl | ⟨sp', rfl, hk, -⟩
    · exact .inl (tick5_idle hc)
    · rcases tick5_held hk h2 h0 with ⟨-, e⟩ | ⟨sp'', hlt, e, hk'⟩
      · exact .inl e
      · refine .inr ⟨sp'', ?_, ?_, .inr (by omega)⟩
        · rw [e, show si + (k : Int) + 1 = si + ((k + 1 : Nat) : Int) by omega]
        · rw [show si + ((k + 1 : Nat) : Int) = si + (k : Int) + 1 by omega]
          exact hk'

/-- Behind 201 ticks it is idle just where it has a hold time. -/
theorem At5.done {ca ci ch st pe ho si sp : Int} {s : Ss5} (h0 : ask ca ci ch st pe ho si sp = 0) (h : At5 ca ci ch st pe ho si 201 s) (h2 : 2 ≤ st) : ((s.1 == 0) == decide (0 < ho)) = true := by
  have hs := ask_ok h0
  have hsi := hs.2.2.2.1
  by_cases hz : ho = 0
  · obtain ⟨si', sp', rfl, hk⟩ := h.1 h2 hz
    subst hz
    have : ¬ st = 0 := by omega
    simp [this]
  · have hho : 3 ≤ ho ∧ ho ≤ 200 := by rcases hs.2.2.1 with h | h <;> omega
    rcases h.2 h2 hz with rfl | ⟨sp', rfl, hk, hlt⟩
    · have : 0 < ho := by omega
      simp [this]
    · exfalso
      rcases hlt with h | h <;> omega

/-- What a tick answers to a session without a fault: no code, nobody comes up, and the session has no fault. -/
theorem ticks_shape {ca ci ch st pe ho si sp : Int} (h : ask ca ci ch st pe ho si sp = 0) :
    (ticksR ca ci ch st pe ho si sp).c = 0 ∧ (ticksR ca ci ch st pe ho si sp).up = false ∧ sf (ticksR ca ci ch st pe ho si sp).st (ticksR ca ci ch st pe ho si sp).pe (ticksR ca ci ch st pe ho si sp).ho (ticksR ca ci ch st pe ho si sp).si (ticksR ca ci ch st pe ho si sp).sp = 0 := by
  obtain ⟨hc, hf⟩ := cf_of_ask h
  have hs := ask_ok h
  by_cases t0 : st = 0
  · have e : ticksR ca ci ch st pe ho si sp = sesR st pe ho si sp := by
      unfold ticksR
      rw [if_pos h, if_pos t0]
      rfl
    rw [e]
    exact ⟨rfl, rfl, hf⟩
  by_cases t1 : st = 1
  · by_cases u : tk si = 50
    · have e : ticksR ca ci ch st pe ho si sp = failR st 4 0 := by
        unfold ticksR sentR
        rw [if_pos h, if_neg t0, if_pos t1, if_pos u]
        rfl
      rw [e]
      exact ⟨rfl, rfl, sf_idle⟩
    · have e : ticksR ca ci ch st pe ho si sp = sesR st pe ho (tk si) (tk sp) := by
        unfold ticksR sentR
        rw [if_pos h, if_neg t0, if_pos t1, if_neg u]
        rfl
      rw [e]
      refine ⟨rfl, rfl, ?_⟩
      have h2 : SsP st pe ho (tk si) (tk sp) := ⟨hs.1, hs.2.1, hs.2.2.1, tk_le hs.2.2.2.1, tk_le hs.2.2.2.2⟩
      unfold sf at hf ⊢
      rw [if_pos hs, if_neg t0, if_pos t1] at hf
      rw [if_pos h2, if_neg t0, if_pos t1]
      exact hf
  · have h2 : 2 ≤ st := by omega
    have hpe := sf_peer hf h2
    have hok : ∀ x y, 0 ≤ x ∧ x ≤ 1000 → 0 ≤ y ∧ y ≤ 1000 → sf st pe ho x y = 0 := fun x y hx hy => sf_open ⟨hs.1, hs.2.1, hs.2.2.1, hx, hy⟩ h2 hpe
    have hx := tk_le hs.2.2.2.1
    have hy := tk_le hs.2.2.2.2
    have e : ticksR ca ci ch st pe ho si sp = cntR (openedR st pe ho (tk si) (tk sp)) := by
      unfold ticksR
      rw [if_pos h, if_neg t0, if_neg t1]
    rw [e]
    unfold openedR
    by_cases u0 : ho = 0
    · rw [if_pos u0]
      exact ⟨rfl, rfl, hok _ _ hx hy⟩
    rw [if_neg u0]
    by_cases u1 : ho ≤ tk si
    · rw [if_pos u1]
      exact ⟨rfl, rfl, sf_idle⟩
    rw [if_neg u1]
    by_cases u2 : (if ho < 6 then (1 : Int) else 3) ≤ tk sp
    · rw [if_pos u2]
      exact ⟨rfl, rfl, hok (tk si) 0 hx (by omega)⟩
    · rw [if_neg u2]
      exact ⟨rfl, rfl, hok _ _ hx hy⟩

end Go.Proofs.Yteniieagcehmpaa
