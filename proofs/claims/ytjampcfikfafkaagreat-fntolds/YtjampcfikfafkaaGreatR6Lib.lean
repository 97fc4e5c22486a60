/- What is proved here: facts on rules and lists of rules in memory, and what a rule's fault is. No condition. -/
import Derived.Test.YtjampcfikfafkaaGreatAtLaw
namespace Go.Proofs.YtjampcfikfafkaaGreat
open Go.RowKit Go.Sort
set_option linter.unusedVariables false

/-- A rule. -/
structure Ru where
  a : Int
  l : Int
  ls : Int
  ms : Int
  s : Int
  d : Bool
  lc : Int
  pp : Int

/-- The cells of a rule. -/
def Ru.cs (r : Ru) : List Value := [.int .i64 r.a, .int .i64 r.l, .int .i64 r.ls, .int .i64 r.ms, .int .i64 r.s, .bool r.d, .int .i64 r.lc, .int .i64 r.pp]

/-- The numbers of a rule are in their bounds. -/
abbrev RuB (ls ms s lc pp : Int) : Prop := (0 ≤ ls ∧ ls ≤ 16) ∧ (0 ≤ ms ∧ ms ≤ 16) ∧ Wd s ∧ (-1 ≤ lc ∧ lc ≤ 65535) ∧ (0 ≤ pp ∧ pp ≤ 3)
/-- The parts of a rule do not fit. -/
abbrev RuX (ls ms : Int) (d : Bool) (lc pp : Int) : Prop := ms < ls ∨ (d = true ∧ (lc ≠ -1 ∨ pp ≠ 0))
/-- The fault of a rule. -/
def rf (a l ls ms s : Int) (d : Bool) (lc pp : Int) : Int := if pf a l = 0 then (if RuB ls ms s lc pp then (if RuX ls ms d lc pp then 1 else 0) else 3) else pf a l
def Ru.f (r : Ru) : Int := rf r.a r.l r.ls r.ms r.s r.d r.lc r.pp

def rfc : List Ru → Int
  | [] => 0
  | r :: q => if r.f = 0 then rfc q else r.f
/-- The fault of a list of rules. -/
def rsf (rs : List Ru) : Int := if 8 < rs.length then 2 else rfc rs

theorem rfc_next {rs : List Ru} {k : Nat} {r : Ru} (h : rs[k]? = some r) : rfc (rs.drop k) = if r.f = 0 then rfc (rs.drop (k + 1)) else r.f := by
  obtain ⟨hk, e⟩ := List.getElem?_eq_some_iff.1 h
  rw [List.drop_eq_getElem_cons hk, e]
  rfl
theorem rfc_ok {rs : List Ru} (h : rfc rs = 0) : ∀ r ∈ rs, r.f = 0 := by
  induction rs with
  | nil => simp
  | cons q r ih =>
    unfold rfc at h
    by_cases hq : q.f = 0
    · rw [if_pos hq] at h
      intro p hp
      rcases List.mem_cons.1 hp with rfl | hp
      · exact hq
      · exact ih h p hp
    · rw [if_neg hq] at h
      exact absurd h hq
theorem rsf_ok {rs : List Ru} (h : rsf rs = 0) : rs.length ≤ 8 ∧ ∀ r ∈ rs, r.f = 0 := by
  unfold rsf at h
  split at h
  · omega
  · exact ⟨by omega, rfc_ok h⟩

/-- The address leads to the rules rs. -/
def RsAt (w : World) (a : Option Addr) (rs : List Ru) : Prop :=
  ∀ i r, rs[i]? = some r → ∃ b off, a = some ⟨b, off, none⟩ ∧ ∀ j, j < 8 → w.cell? ⟨b, off + i * 8 + j, none⟩ = r.cs[j]?

theorem RsAt.nil (w : World) (a : Option Addr) : RsAt w a [] := by intro i z h; simp at h

theorem RsAt.at {w : World} {a : Option Addr} {rs : List Ru} (h : RsAt w a rs) (i : Nat) (hi : i < rs.length) :
    ∃ b off x l ls ms s d lc pp, a = some ⟨b, off, none⟩ ∧ rs[i]? = some ⟨x, l, ls, ms, s, d, lc, pp⟩ ∧ w.cell? ⟨b, off + i * 8, none⟩ = some (.int .i64 x) ∧ w.cell? ⟨b, off + i * 8 + 1, none⟩ = some (.int .i64 l) ∧ w.cell? ⟨b, off + i * 8 + 2, none⟩ = some (.int .i64 ls) ∧ w.cell? ⟨b, off + i * 8 + 3, none⟩ = some (.int .i64 ms) ∧ w.cell? ⟨b, off + i * 8 + 4, none⟩ = some (.int .i64 s) ∧ w.cell? ⟨b, off + i * 8 + 5, none⟩ = some (.bool d) ∧ w.cell? ⟨b, off + i * 8 + 6, none⟩ = some (.int .i64 lc) ∧ w.cell? ⟨b, off + i * 8 + 7, none⟩ = some (.int .i64 pp) := by
  obtain ⟨b, off, h1, h2⟩ := h i _ (List.getElem?_eq_getElem hi)
  exact ⟨b, off, _, _, _, _, _, _, _, _, h1, List.getElem?_eq_getElem hi, h2 0 (by omega), h2 1 (by omega), h2 2 (by omega), h2 3 (by omega), h2 4 (by omega), h2 5 (by omega), h2 6 (by omega), h2 7 (by omega)⟩

theorem RsAt.turn {w w' : World} {a : Option Addr} {rs : List Ru} {S : Nat → Prop} (h : RsAt w a rs) (t : Turn S w w') (hS : ∀ x, rs ≠ [] → a = some x → ¬ S x.block) : RsAt w' a rs := by
  intro i p hp
  obtain ⟨b, off, ha, hc⟩ := h i p hp
  have h0 : w.cell? ⟨b, off + i * 8, none⟩ = some (.int .i64 p.a) := hc 0 (by omega)
  have hb' := t.block b (World.block_lt_of_cell? w _ h0) (hS _ (by rintro rfl; simp at hp) ha)
  exact ⟨b, off, ha, fun j hj => (World.cell?_of_block hb').trans (hc j hj)⟩

theorem RsAt.new {w w' : World} {a : Option Addr} {rs : List Ru} (h : RsAt w a rs) (t : New w w') : RsAt w' a rs := h.turn t (fun _ _ _ f => f)

def cellsR (rs : List Ru) : List Value := rs.flatMap Ru.cs
theorem cellsR_cons (r : Ru) (rs : List Ru) : cellsR (r :: rs) = .int .i64 r.a :: .int .i64 r.l :: .int .i64 r.ls :: .int .i64 r.ms :: .int .i64 r.s :: .bool r.d :: .int .i64 r.lc :: .int .i64 r.pp :: cellsR rs := rfl
theorem cellsR_app (r : Ru) (rs : List Ru) : cellsR (r :: rs) = r.cs ++ cellsR rs := rfl
theorem cellsR_len : ∀ rs : List Ru, (cellsR rs).length = rs.length * 8
  | [] => rfl
  | r :: rs => by rw [cellsR_app, List.length_append, cellsR_len rs, List.length_cons]; simp [Ru.cs]; omega
theorem cellsR_get : ∀ (rs : List Ru) (i : Nat) (r : Ru), rs[i]? = some r → ∀ j, j < 8 → (cellsR rs)[i * 8 + j]? = r.cs[j]?
  | [], i, p, h => by simp at h
  | q :: rs, 0, p, h => by
    intro j hj
    simp at h
    subst h
    rw [cellsR_app, Nat.zero_mul, Nat.zero_add, List.getElem?_append_left (by simpa [Ru.cs] using hj)]
  | q :: rs, i + 1, p, h => by
    intro j hj
    have h' : rs[i]? = some p := by simpa using h
    rw [cellsR_app, List.getElem?_append_right (by simp [Ru.cs]; omega), show (i + 1) * 8 + j - q.cs.length = i * 8 + j by simp [Ru.cs]; omega]
    exact cellsR_get rs i p h' j hj
theorem cellsR_set : ∀ (rs : List Ru) (i : Nat) (r : Ru), ((((((((cellsR rs).set (i * 8) (.int .i64 r.a)).set (i * 8 + 1) (.int .i64 r.l)).set (i * 8 + 2) (.int .i64 r.ls)).set (i * 8 + 3) (.int .i64 r.ms)).set (i * 8 + 4) (.int .i64 r.s)).set (i * 8 + 5) (.bool r.d)).set (i * 8 + 6) (.int .i64 r.lc)).set (i * 8 + 7) (.int .i64 r.pp) = cellsR (rs.set i r)
  | [], i, p => by simp [cellsR]
  | q :: rs, 0, p => by simp [cellsR_cons]
  | q :: rs, i + 1, p => by
    have ih := cellsR_set rs i p
    rw [show (i + 1) * 8 = i * 8 + 8 by omega, cellsR_cons, show (q :: rs).set (i + 1) p = q :: rs.set i p from rfl, cellsR_cons, ← ih]
    simp only [Nat.add_assoc, Nat.reduceAdd, List.set_cons_succ]

/-- The block g is a row of rules that a call has made. -/
def OwR (w : World) (g n c : Nat) (rs : List Ru) : Prop := w.ownsRow 0 93 8 (.slice (some ⟨g, 0, none⟩) n c) n (cellsR rs)

theorem OwR.len {w : World} {g n c : Nat} {rs : List Ru} (h : OwR w g n c rs) : rs.length = n := by
  have := h.1
  rw [cellsR_len] at this
  omega
theorem OwR.lt {w : World} {g n c : Nat} {rs : List Ru} (h : OwR w g n c rs) : g < w.heap.size := (World.ownsRow.lt h g rfl).2
theorem OwR.turn {w w' : World} {g n c : Nat} {rs : List Ru} {S : Nat → Prop} (h : OwR w g n c rs) (t : Turn S w w') (hS : ¬ S g) : OwR w' g n c rs := by
  have hg := h.lt
  refine ⟨h.1, ?_⟩
  rcases h.2 with ⟨h', _⟩ | ⟨g', cap', cur, h', r⟩
  · simp at h'
  · simp only [Value.slice.injEq, Option.some.injEq, Addr.mk.injEq, and_true, true_and] at h'
    obtain ⟨rfl, rfl⟩ := h'
    exact .inr ⟨g, c, cur, rfl, r.1, (t.block g hg hS).trans r.2.1, r.2.2⟩
theorem OwR.new {w w' : World} {g n c : Nat} {rs : List Ru} (h : OwR w g n c rs) (t : New w w') : OwR w' g n c rs := h.turn t (fun f => f)
theorem OwR.rs {w : World} {g n c : Nat} {rs : List Ru} (h : OwR w g n c rs) : RsAt w (some ⟨g, 0, none⟩) rs := by
  intro i p hp
  have hl := h.len
  have hi : i < rs.length := (List.getElem?_eq_some_iff.1 hp).1
  refine ⟨g, 0, rfl, fun j hj => ?_⟩
  rw [Nat.zero_add, World.ownsRow.cellAt h (i * 8 + j) (by omega)]
  exact cellsR_get rs i p hp j hj
theorem OwR.put {w : World} {g n c : Nat} {rs : List Ru} (h : OwR w g n c rs) (i : Nat) (a l ls ms s : Int) (d : Bool) (lc pp : Int) : OwR ((((((((w.setCell ⟨g, i * 8, none⟩ (.int .i64 a)).setCell ⟨g, i * 8 + 1, none⟩ (.int .i64 l)).setCell ⟨g, i * 8 + 2, none⟩ (.int .i64 ls)).setCell ⟨g, i * 8 + 3, none⟩ (.int .i64 ms)).setCell ⟨g, i * 8 + 4, none⟩ (.int .i64 s)).setCell ⟨g, i * 8 + 5, none⟩ (.bool d)).setCell ⟨g, i * 8 + 6, none⟩ (.int .i64 lc)).setCell ⟨g, i * 8 + 7, none⟩ (.int .i64 pp)) g n c (rs.set i ⟨a, l, ls, ms, s, d, lc, pp⟩) := by
  have h1 := (World.ownsRow.stored h (i * 8) (.int .i64 a)).1
  have h2 := (World.ownsRow.stored h1 (i * 8 + 1) (.int .i64 l)).1
  have h3 := (World.ownsRow.stored h2 (i * 8 + 2) (.int .i64 ls)).1
  have h4 := (World.ownsRow.stored h3 (i * 8 + 3) (.int .i64 ms)).1
  have h5 := (World.ownsRow.stored h4 (i * 8 + 4) (.int .i64 s)).1
  have h6 := (World.ownsRow.stored h5 (i * 8 + 5) (.bool d)).1
  have h7 := (World.ownsRow.stored h6 (i * 8 + 6) (.int .i64 lc)).1
  have h8 := (World.ownsRow.stored h7 (i * 8 + 7) (.int .i64 pp)).1
  unfold OwR
  rw [← cellsR_set rs i ⟨a, l, ls, ms, s, d, lc, pp⟩]
  exact h8
theorem OwR.cell {w : World} {g n c : Nat} {rs : List Ru} (h : OwR w g n c rs) (j : Nat) (hj : j < n * 8) : ∃ v, w.cell? ⟨g, j, none⟩ = some v := by
  have hl := cellsR_len rs
  have := h.len
  exact ⟨_, (World.ownsRow.cellAt h j hj).trans (List.getElem?_eq_getElem (by omega))⟩

/-- The rule of zeros. -/
def ru0 : Ru := ⟨0, 0, 0, 0, 0, false, 0, 0⟩
theorem made_ru (n : Nat) : (madeCells #[.int .i64 0, .int .i64 0, .int .i64 0, .int .i64 0, .int .i64 0, .bool false, .int .i64 0, .int .i64 0] (n * 8)).toList = cellsR (List.replicate n ru0) := by
  apply List.ext_getElem?
  intro k
  by_cases hk : k < n * 8
  · have h1 : (cellsR (List.replicate n ru0))[k / 8 * 8 + k % 8]? = ru0.cs[k % 8]? := cellsR_get _ (k / 8) ru0 (by rw [List.getElem?_replicate]; simp; omega) (k % 8) (by omega)
    rw [show k / 8 * 8 + k % 8 = k by omega] at h1
    rw [h1]
    simp only [madeCells, Array.toList_map, Array.toList_range, List.getElem?_map, List.getElem?_range hk, Option.map_some]
    have h8 : k % 8 = 0 ∨ k % 8 = 1 ∨ k % 8 = 2 ∨ k % 8 = 3 ∨ k % 8 = 4 ∨ k % 8 = 5 ∨ k % 8 = 6 ∨ k % 8 = 7 := by omega
    rcases h8 with e | e | e | e | e | e | e | e <;> simp [e, Ru.cs, ru0]
  · rw [List.getElem?_eq_none (by simp [madeCells]; omega), List.getElem?_eq_none (by rw [cellsR_len]; simp; omega)]

theorem set_fillR (rs : List Ru) (k n : Nat) (hn : rs.length = n) (p : Ru) (hp : rs[k]? = some p) :
    (rs.take k ++ List.replicate (n - k) ru0).set k p = rs.take (k + 1) ++ List.replicate (n - (k + 1)) ru0 := by
  obtain ⟨hk, rfl⟩ := List.getElem?_eq_some_iff.1 hp
  have hl : (rs.take k).length = k := by simp; omega
  rw [List.set_append_right _ _ (by omega), hl, Nat.sub_self, show n - k = (n - (k + 1)) + 1 by omega, List.replicate_succ, List.set_cons_zero, List.take_succ_eq_append_getElem hk, List.append_assoc]
  rfl

theorem szRs_ok (a : Option Addr) (n c l : Nat) (w : World) (hl : l ≤ 1048576) (h : n ≤ l) : Calls Tryz.prog 13 #[.slice a n c, .int .i64 l] w fun e w' => e = .returned (.int .i64 ((l : Int) - n)) ∧ w' = w := by
  go_enter Tryz.func13, Tryz.ntmps13
  go_wp2
  go_ret
  exact ⟨rfl, rfl⟩

theorem szRs_big (a : Option Addr) (n c l : Nat) (w : World) (hl : l ≤ 1048576) (hn : n ≤ maxLen) (h : l < n) : Calls Tryz.prog 13 #[.slice a n c, .int .i64 l] w fun e w' => e = .returned (.int .i64 (-1)) ∧ w' = w := by
  unfold maxLen at hn
  go_enter Tryz.func13, Tryz.ntmps13
  go_wp2
  go_ret
  exact ⟨rfl, rfl⟩

theorem Tryz.infoRu : (Tryz.prog.info? 93).map (fun i => (i.zero, i.size, i.bytes)) = some (some (.agg #[.int .i64 0, .int .i64 0, .int .i64 0, .int .i64 0, .int .i64 0, .bool false, .int .i64 0, .int .i64 0]), 8, 64) := by kernel_rfl

end Go.Proofs.YtjampcfikfafkaaGreat
