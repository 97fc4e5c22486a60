/- What is proved here: what the judging and the comparing of attributes answer, in the program and in its model, for every list of at most 1048576 numbers. What is proved here: what the comparing of attributes and the judging of an update answer, in the program and in its model, for every lists of at most 1048576 elements. What is proved here: what the copying, the comparing and the counting of attributes answer, for every list of at most 1048576 numbers. What is proved here: facts on rules and lists of rules in memory, and what a rule's fault is. No condition. What is proved here: what the judging of a rule and of a list of rules answers, in the program and in the model, for every list of at most 1048576 rules. What is proved here: what the copying and the comparing of rules and of lists of rules answer, for every list of at most 1048576 rules. What is proved here: how an argument that is a list of prefixes comes in. No condition. What is proved here: how an argument that is attributes or an update comes in. No condition. What is proved here: how an argument that is a rule or a list of rules comes in. No condition. What is proved here: what the judging of a single number of a session or of a configuration answers, in the program and in the model. No condition. -/
import Derived.Test.YtkbdmcimgepakaaGreatPsFn
import Derived.Deep.SlicePairs
import Derived.Test.YtkbdmcimgepakaaGreatNumLib
namespace Go.Proofs.YtkbdmcimgepakaaGreat
open Go.RowKit Go.Sort
set_option linter.unusedVariables false

/-- The address leads to the numbers xs. -/
def NsAt (w : World) (a : Option Addr) (xs : List Int) : Prop :=
  ∀ i z, xs[i]? = some z → ∃ b off, a = some ⟨b, off, none⟩ ∧ w.cell? ⟨b, off + i, none⟩ = some (.int .i64 z) ∧ In6 z

theorem NsAt.nil (w : World) (a : Option Addr) : NsAt w a [] := by intro i z h; simp at h

theorem NsAt.at {w : World} {a : Option Addr} {xs : List Int} (h : NsAt w a xs) (i : Nat) (hi : i < xs.length) :
    ∃ b off z, a = some ⟨b, off, none⟩ ∧ xs[i]? = some z ∧ w.cell? ⟨b, off + i, none⟩ = some (.int .i64 z) ∧ In6 z := by
  obtain ⟨b, off, h1, h2, h3⟩ := h i _ (List.getElem?_eq_getElem hi)
  exact ⟨b, off, _, h1, List.getElem?_eq_getElem hi, h2, h3⟩

theorem NsAt.bd {w : World} {a : Option Addr} {xs : List Int} (h : NsAt w a xs) : ∀ z ∈ xs, In6 z := by
  intro z hz
  obtain ⟨i, hi, rfl⟩ := List.mem_iff_getElem.1 hz
  obtain ⟨_, _, _, _, h4⟩ := h i _ (List.getElem?_eq_getElem hi)
  exact h4

theorem NsAt.turn {w w' : World} {a : Option Addr} {xs : List Int} {S : Nat → Prop} (h : NsAt w a xs) (t : Turn S w w') (hS : ∀ x, xs ≠ [] → a = some x → ¬ S x.block) : NsAt w' a xs := by
  intro i z hz
  obtain ⟨b, off, ha, hc, hb⟩ := h i z hz
  exact ⟨b, off, ha, (World.cell?_of_block (t.block b (World.block_lt_of_cell? w _ hc) (hS _ (by rintro rfl; simp at hz) ha))).trans hc, hb⟩

theorem NsAt.new {w w' : World} {a : Option Addr} {xs : List Int} (h : NsAt w a xs) (t : New w w') : NsAt w' a xs := h.turn t (fun _ _ _ f => f)

theorem fits_yesA (x : Int) (w : World) (h : 0 ≤ x ∧ x ≤ 65535) : Calls Tryz.prog 134 #[.int .i64 x] w fun e w' => e = .returned (.bool true) ∧ w' = w := by
  obtain ⟨h1, h2⟩ := h
  go_enter Tryz.func134, Tryz.ntmps134
  go_wp2
  go_ret
  exact ⟨by simp, rfl⟩

theorem fits_noA (x : Int) (w : World) (h : x < 0 ∨ 65535 < x) : Calls Tryz.prog 134 #[.int .i64 x] w fun e w' => e = .returned (.bool false) ∧ w' = w := by
  by_cases h1 : 0 ≤ x
  · have h2 : 65535 < x := by omega
    go_enter Tryz.func134, Tryz.ntmps134
    go_wp2
    go_ret
    exact ⟨by simp; omega, rfl⟩
  · go_enter Tryz.func134, Tryz.ntmps134
    go_wp2
    go_ret
    exact ⟨rfl, rfl⟩

theorem isSys_yes (x : Int) (w : World) (h : 1 ≤ x ∧ x ≤ 65535) : Calls Tryz.prog 114 #[.int .i64 x] w fun e w' => e = .returned (.bool true) ∧ w' = w := by
  obtain ⟨h1, h2⟩ := h
  go_enter Tryz.func114, Tryz.ntmps114
  go_wp2
  go_ret
  exact ⟨by simp, rfl⟩

theorem isSys_no (x : Int) (w : World) (h : x < 1 ∨ 65535 < x) : Calls Tryz.prog 114 #[.int .i64 x] w fun e w' => e = .returned (.bool false) ∧ w' = w := by
  by_cases h1 : 1 ≤ x
  · have h2 : 65535 < x := by omega
    go_enter Tryz.func114, Tryz.ntmps114
    go_wp2
    go_ret
    exact ⟨by simp; omega, rfl⟩
  · go_enter Tryz.func114, Tryz.ntmps114
    go_wp2
    go_ret
    exact ⟨rfl, rfl⟩

theorem word_yes (x : Int) (w : World) (h : 0 ≤ x ∧ x ≤ 65535) : Calls Tryz.prog 130 #[.int .i64 x] w fun e w' => e = .returned (.bool true) ∧ w' = w := by
  go_enter Tryz.func130, Tryz.ntmps130
  go_wp2_with fail
  refine (in_yes _ _ _ _ h).mono ?_
  rintro e w1 ⟨rfl, rfl⟩
  go_wp2
  go_ret
  exact ⟨rfl, rfl⟩

theorem word_no (x : Int) (w : World) (h : x < 0 ∨ 65535 < x) : Calls Tryz.prog 130 #[.int .i64 x] w fun e w' => e = .returned (.bool false) ∧ w' = w := by
  go_enter Tryz.func130, Tryz.ntmps130
  go_wp2_with fail
  refine (in_no _ _ _ _ h).mono ?_
  rintro e w1 ⟨rfl, rfl⟩
  go_wp2
  go_ret
  exact ⟨rfl, rfl⟩

/-- The fault of a path's systems. -/
def afc : List Int → Int
  | [] => 0
  | x :: r => if 1 ≤ x ∧ x ≤ 65535 then afc r else 3
/-- A number that fits two bytes. -/
abbrev Wd (x : Int) : Prop := 0 ≤ x ∧ x ≤ 65535
/-- The numbers of attributes beside the path are right. -/
abbrev Ao (o nx md lc : Int) : Prop := (0 ≤ o ∧ o ≤ 2) ∧ Wd nx ∧ Wd md ∧ Wd lc
/-- The fault of attributes. -/
def af (o : Int) (xs : List Int) (nx md lc : Int) : Int := if Ao o nx md lc then (if 6 < xs.length then 2 else afc xs) else 3

theorem afc_next {xs : List Int} {k : Nat} {x : Int} (h : xs[k]? = some x) : afc (xs.drop k) = if 1 ≤ x ∧ x ≤ 65535 then afc (xs.drop (k + 1)) else 3 := by
  obtain ⟨hk, e⟩ := List.getElem?_eq_some_iff.1 h
  rw [List.drop_eq_getElem_cons hk, e]
  rfl
theorem af_bad {o nx md lc : Int} {xs : List Int} (h : ¬ Ao o nx md lc) : af o xs nx md lc = 3 := if_neg h
theorem af_many {o nx md lc : Int} {xs : List Int} (h : Ao o nx md lc) (hx : 6 < xs.length) : af o xs nx md lc = 2 := by unfold af; rw [if_pos h, if_pos hx]
theorem af_rest {o nx md lc : Int} {xs : List Int} (h : Ao o nx md lc) (hx : ¬ 6 < xs.length) : af o xs nx md lc = afc xs := by unfold af; rw [if_pos h, if_neg hx]

/-- The value of attributes. -/
def atV (o : Int) (a : Option Addr) (n c : Nat) (nx md lc : Int) : Value := .agg #[.int .i64 o, .slice a n c, .int .i64 nx, .int .i64 md, .int .i64 lc]

end Go.Proofs.YtkbdmcimgepakaaGreat

namespace Go.Proofs.YtkbdmcimgepakaaGreat
open Go.RowKit Go.Sort
set_option linter.unusedVariables false

theorem take_eq_next {xs ys : List Int} {k : Nat} {z : Int} (h : xs.take k = ys.take k) (hx : xs[k]? = some z) (hy : ys[k]? = some z) : xs.take (k + 1) = ys.take (k + 1) := by
  rw [take_snoc hx, take_snoc hy, h]

/-- Two attributes have all fields the same. -/
abbrev SaP (o : Int) (xs : List Int) (nx md lc p : Int) (ys : List Int) (ny me ld : Int) : Prop := o = p ∧ nx = ny ∧ md = me ∧ lc = ld ∧ xs = ys

/-- All of the attributes are zero. -/
abbrev ZaP (o : Int) (xs : List Int) (nx md lc : Int) : Prop := o = 0 ∧ xs.length = 0 ∧ nx = 0 ∧ md = 0 ∧ lc = 0

end Go.Proofs.YtkbdmcimgepakaaGreat

namespace Go.Proofs.YtkbdmcimgepakaaGreat
open Go.RowKit Go.Sort
set_option linter.unusedVariables false

/-- The block g is a row of numbers that a call has made. -/
def OwN (w : World) (g n c : Nat) (xs : List Int) : Prop := w.ownsRow 0 2 1 (.slice (some ⟨g, 0, none⟩) n c) n (xs.map (Value.int .i64))

theorem OwN.len {w : World} {g n c : Nat} {xs : List Int} (h : OwN w g n c xs) : xs.length = n := by simpa using h.1
theorem OwN.lt {w : World} {g n c : Nat} {xs : List Int} (h : OwN w g n c xs) : g < w.heap.size := (World.ownsRow.lt h g rfl).2
theorem OwN.turn {w w' : World} {g n c : Nat} {xs : List Int} {S : Nat → Prop} (h : OwN w g n c xs) (t : Turn S w w') (hS : ¬ S g) : OwN w' g n c xs := own_turn h t hS
theorem OwN.new {w w' : World} {g n c : Nat} {xs : List Int} (h : OwN w g n c xs) (t : New w w') : OwN w' g n c xs := own_new h t
theorem OwN.ns {w : World} {g n c : Nat} {xs : List Int} (h : OwN w g n c xs) (hb : ∀ z ∈ xs, In6 z) : NsAt w (some ⟨g, 0, none⟩) xs := by
  intro i z hz
  have hl := h.len
  have hi : i < xs.length := (List.getElem?_eq_some_iff.1 hz).1
  have hc := World.ownsRow.cellAt h i (by omega)
  refine ⟨g, 0, rfl, ?_, hb z (List.mem_of_getElem? hz)⟩
  rw [Nat.zero_add, hc]
  simp [hz]

theorem New.set_iff {a w : World} {p : Addr} {u : Value} (hp : a.heap.size ≤ p.block) : New a (w.setCell p u) ↔ New a w :=
  ⟨fun h => ⟨h.os, h.tape, h.output, by simpa [World.setCell] using h.size, fun k hk hs => (Below.heap_setCell w p u k (by omega)).symm.trans (h.block k hk hs)⟩, fun h => h.setCell hp u⟩
theorem New.drew_iff {a w : World} : New a w.drew ↔ New a w := ⟨fun h => ⟨h.os, h.tape, h.output, h.size, h.block⟩, fun h => h.drew⟩
theorem OwN.set_iff {w : World} {g n c : Nat} {xs : List Int} {p : Addr} {u : Value} (hp : ¬ p.block = g) : OwN (w.setCell p u) g n c xs ↔ OwN w g n c xs := by
  have hb : (w.setCell p u).heap[g]? = w.heap[g]? := Below.heap_setCell w p u g (fun e => hp e.symm)
  unfold OwN World.ownsRow
  constructor
  · rintro ⟨h1, h2⟩
    refine ⟨h1, ?_⟩
    rcases h2 with h' | ⟨g', cap', cur, h', r⟩
    · exact .inl h'
    · simp only [Value.slice.injEq, Option.some.injEq, Addr.mk.injEq, and_true, true_and] at h'
      obtain ⟨rfl, rfl⟩ := h'
      exact .inr ⟨g, c, cur, rfl, r.1, hb.symm.trans r.2.1, r.2.2⟩
  · rintro ⟨h1, h2⟩
    refine ⟨h1, ?_⟩
    rcases h2 with h' | ⟨g', cap', cur, h', r⟩
    · exact .inl h'
    · simp only [Value.slice.injEq, Option.some.injEq, Addr.mk.injEq, and_true, true_and] at h'
      obtain ⟨rfl, rfl⟩ := h'
      exact .inr ⟨g, c, cur, rfl, r.1, hb.trans r.2.1, r.2.2⟩

theorem Tryz.infoI64 : (Tryz.prog.info? 2).map (fun i => (i.zero, i.size, i.bytes)) = some (some (.int .i64 0), 1, 8) := by kernel_rfl

theorem obN (xs : List Int) (k n : Nat) (hn : xs.length = n) (z : Int) (hz : xs[k]? = some z) :
    (((xs.take k).map (Value.int .i64)) ++ List.replicate (n - k) (Value.int .i64 0)).set k (.int .i64 z) = ((xs.take (k + 1)).map (Value.int .i64)) ++ List.replicate (n - (k + 1)) (Value.int .i64 0) := by
  obtain ⟨hk, rfl⟩ := List.getElem?_eq_some_iff.1 hz
  have hl : ((xs.take k).map (Value.int .i64)).length = k := by simp; omega
  rw [List.set_append_right _ _ (by omega), hl, Nat.sub_self, show n - k = (n - (k + 1)) + 1 by omega, List.replicate_succ, List.set_cons_zero, List.take_succ_eq_append_getElem hk]
  simp only [List.map_append, List.map_cons, List.map_nil, List.append_assoc, List.singleton_append]

end Go.Proofs.YtkbdmcimgepakaaGreat

namespace Go.Proofs.YtkbdmcimgepakaaGreat
open Go.RowKit Go.Sort
set_option linter.unusedVariables false

/-- A rule. -/
structure Ru where
  a : Int
  l : Int
  ls : Int
  ms : Int
  s : Int
  d : Bool
  lc : Int
  pp : Int

/-- The cells of a rule. -/
def Ru.cs (r : Ru) : List Value := [.int .i64 r.a, .int .i64 r.l, .int .i64 r.ls, .int .i64 r.ms, .int .i64 r.s, .bool r.d, .int .i64 r.lc, .int .i64 r.pp]

/-- The numbers of a rule are in their bounds. -/
abbrev RuB (ls ms s lc pp : Int) : Prop := (0 ≤ ls ∧ ls ≤ 16) ∧ (0 ≤ ms ∧ ms ≤ 16) ∧ Wd s ∧ (-1 ≤ lc ∧ lc ≤ 65535) ∧ (0 ≤ pp ∧ pp ≤ 3)
/-- The parts of a rule do not fit. -/
abbrev RuX (ls ms : Int) (d : Bool) (lc pp : Int) : Prop := ms < ls ∨ (d = true ∧ (lc ≠ -1 ∨ pp ≠ 0))
/-- The fault of a rule. -/
def rf (a l ls ms s : Int) (d : Bool) (lc pp : Int) : Int := if pf a l = 0 then (if RuB ls ms s lc pp then (if RuX ls ms d lc pp then 1 else 0) else 3) else pf a l
def Ru.f (r : Ru) : Int := rf r.a r.l r.ls r.ms r.s r.d r.lc r.pp

def rfc : List Ru → Int
  | [] => 0
  | r :: q => if r.f = 0 then rfc q else r.f
/-- The fault of a list of rules. -/
def rsf (rs : List Ru) : Int := if 8 < rs.length then 2 else rfc rs

theorem rfc_next {rs : List Ru} {k : Nat} {r : Ru} (h : rs[k]? = some r) : rfc (rs.drop k) = if r.f = 0 then rfc (rs.drop (k + 1)) else r.f := by
  obtain ⟨hk, e⟩ := List.getElem?_eq_some_iff.1 h
  rw [List.drop_eq_getElem_cons hk, e]
  rfl
theorem rfc_ok {rs : List Ru} (h : rfc rs = 0) : ∀ r ∈ rs, r.f = 0 := by
  induction rs with
  | nil => simp
  | cons q r ih =>
    unfold rfc at h
    by_cases hq : q.f = 0
    · rw [if_pos hq] at h
      intro p hp
      rcases List.mem_cons.1 hp with rfl | hp
      · exact hq
      · exact ih h p hp
    · rw [if_neg hq] at h
      exact absurd h hq
theorem rsf_ok {rs : List Ru} (h : rsf rs = 0) : rs.length ≤ 8 ∧ ∀ r ∈ rs, r.f = 0 := by
  unfold rsf at h
  split at h
  · omega
  · exact ⟨by omega, rfc_ok h⟩

/-- The address leads to the rules rs. -/
def RsAt (w : World) (a : Option Addr) (rs : List Ru) : Prop :=
  ∀ i r, rs[i]? = some r → ∃ b off, a = some ⟨b, off, none⟩ ∧ ∀ j, j < 8 → w.cell? ⟨b, off + i * 8 + j, none⟩ = r.cs[j]?

theorem RsAt.nil (w : World) (a : Option Addr) : RsAt w a [] := by intro i z h; simp at h

theorem RsAt.at {w : World} {a : Option Addr} {rs : List Ru} (h : RsAt w a rs) (i : Nat) (hi : i < rs.length) :
    ∃ b off x l ls ms s d lc pp, a = some ⟨b, off, none⟩ ∧ rs[i]? = some ⟨x, l, ls, ms, s, d, lc, pp⟩ ∧ w.cell? ⟨b, off + i * 8, none⟩ = some (.int .i64 x) ∧ w.cell? ⟨b, off + i * 8 + 1, none⟩ = some (.int .i64 l) ∧ w.cell? ⟨b, off + i * 8 + 2, none⟩ = some (.int .i64 ls) ∧ w.cell? ⟨b, off + i * 8 + 3, none⟩ = some (.int .i64 ms) ∧ w.cell? ⟨b, off + i * 8 + 4, none⟩ = some (.int .i64 s) ∧ w.cell? ⟨b, off + i * 8 + 5, none⟩ = some (.bool d) ∧ w.cell? ⟨b, off + i * 8 + 6, none⟩ = some (.int .i64 lc) ∧ w.cell? ⟨b, off + i * 8 + 7, none⟩ = some (.int .i64 pp) := by
  obtain ⟨b, off, h1, h2⟩ := h i _ (List.getElem?_eq_getElem hi)
  exact ⟨b, off, _, _, _, _, _, _, _, _, h1, List.getElem?_eq_getElem hi, h2 0 (by omega), h2 1 (by omega), h2 2 (by omega), h2 3 (by omega), h2 4 (by omega), h2 5 (by omega), h2 6 (by omega), h2 7 (by omega)⟩

theorem RsAt.turn {w w' : World} {a : Option Addr} {rs : List Ru} {S : Nat → Prop} (h : RsAt w a rs) (t : Turn S w w') (hS : ∀ x, rs ≠ [] → a = some x → ¬ S x.block) : RsAt w' a rs := by
  intro i p hp
  obtain ⟨b, off, ha, hc⟩ := h i p hp
  have h0 : w.cell? ⟨b, off + i * 8, none⟩ = some (.int .i64 p.a) := hc 0 (by omega)
  have hb' := t.block b (World.block_lt_of_cell? w _ h0) (hS _ (by rintro rfl; simp at hp) ha)
  exact ⟨b, off, ha, fun j hj => (World.cell?_of_block hb').trans (hc j hj)⟩

theorem RsAt.new {w w' : World} {a : Option Addr} {rs : List Ru} (h : RsAt w a rs) (t : New w w') : RsAt w' a rs := h.turn t (fun _ _ _ f => f)

def cellsR (rs : List Ru) : List Value := rs.flatMap Ru.cs
theorem cellsR_cons (r : Ru) (rs : List Ru) : cellsR (r :: rs) = .int .i64 r.a :: .int .i64 r.l :: .int .i64 r.ls :: .int .i64 r.ms :: .int .i64 r.s :: .bool r.d :: .int .i64 r.lc :: .int .i64 r.pp :: cellsR rs := rfl
theorem cellsR_app (r : Ru) (rs : List Ru) : cellsR (r :: rs) = r.cs ++ cellsR rs := rfl
theorem cellsR_len : ∀ rs : List Ru, (cellsR rs).length = rs.length * 8
  | [] => rfl
  | r :: rs => by rw [cellsR_app, List.length_append, cellsR_len rs, List.length_cons]; simp [Ru.cs]; omega
theorem cellsR_get : ∀ (rs : List Ru) (i : Nat) (r : Ru), rs[i]? = some r → ∀ j, j < 8 → (cellsR rs)[i * 8 + j]? = r.cs[j]?
  | [], i, p, h => by simp at h
  | q :: rs, 0, p, h => by
    intro j hj
    simp at h
    subst h
    rw [cellsR_app, Nat.zero_mul, Nat.zero_add, List.getElem?_append_left (by simpa [Ru.cs] using hj)]
  | q :: rs, i + 1, p, h => by
    intro j hj
    have h' : rs[i]? = some p := by simpa using h
    rw [cellsR_app, List.getElem?_append_right (by simp [Ru.cs]; omega), show (i + 1) * 8 + j - q.cs.length = i * 8 + j by simp [Ru.cs]; omega]
    exact cellsR_get rs i p h' j hj
theorem cellsR_set : ∀ (rs : List Ru) (i : Nat) (r : Ru), ((((((((cellsR rs).set (i * 8) (.int .i64 r.a)).set (i * 8 + 1) (.int .i64 r.l)).set (i * 8 + 2) (.int .i64 r.ls)).set (i * 8 + 3) (.int .i64 r.ms)).set (i * 8 + 4) (.int .i64 r.s)).set (i * 8 + 5) (.bool r.d)).set (i * 8 + 6) (.int .i64 r.lc)).set (i * 8 + 7) (.int .i64 r.pp) = cellsR (rs.set i r)
  | [], i, p => by simp [cellsR]
  | q :: rs, 0, p => by simp [cellsR_cons]
  | q :: rs, i + 1, p => by
    have ih := cellsR_set rs i p
    rw [show (i + 1) * 8 = i * 8 + 8 by omega, cellsR_cons, show (q :: rs).set (i + 1) p = q :: rs.set i p from rfl, cellsR_cons, ← ih]
    simp only [Nat.add_assoc, Nat.reduceAdd, List.set_cons_succ]

/-- The block g is a row of rules that a call has made. -/
def OwR (w : World) (g n c : Nat) (rs : List Ru) : Prop := w.ownsRow 0 130 8 (.slice (some ⟨g, 0, none⟩) n c) n (cellsR rs)

theorem OwR.len {w : World} {g n c : Nat} {rs : List Ru} (h : OwR w g n c rs) : rs.length = n := by
  have := h.1
  rw [cellsR_len] at this
  omega
theorem OwR.lt {w : World} {g n c : Nat} {rs : List Ru} (h : OwR w g n c rs) : g < w.heap.size := (World.ownsRow.lt h g rfl).2
theorem OwR.turn {w w' : World} {g n c : Nat} {rs : List Ru} {S : Nat → Prop} (h : OwR w g n c rs) (t : Turn S w w') (hS : ¬ S g) : OwR w' g n c rs := by
  have hg := h.lt
  refine ⟨h.1, ?_⟩
  rcases h.2 with ⟨h', _⟩ | ⟨g', cap', cur, h', r⟩
  · simp at h'
  · simp only [Value.slice.injEq, Option.some.injEq, Addr.mk.injEq, and_true, true_and] at h'
    obtain ⟨rfl, rfl⟩ := h'
    exact .inr ⟨g, c, cur, rfl, r.1, (t.block g hg hS).trans r.2.1, r.2.2⟩
theorem OwR.new {w w' : World} {g n c : Nat} {rs : List Ru} (h : OwR w g n c rs) (t : New w w') : OwR w' g n c rs := h.turn t (fun f => f)
theorem OwR.rs {w : World} {g n c : Nat} {rs : List Ru} (h : OwR w g n c rs) : RsAt w (some ⟨g, 0, none⟩) rs := by
  intro i p hp
  have hl := h.len
  have hi : i < rs.length := (List.getElem?_eq_some_iff.1 hp).1
  refine ⟨g, 0, rfl, fun j hj => ?_⟩
  rw [Nat.zero_add, World.ownsRow.cellAt h (i * 8 + j) (by omega)]
  exact cellsR_get rs i p hp j hj
theorem OwR.put {w : World} {g n c : Nat} {rs : List Ru} (h : OwR w g n c rs) (i : Nat) (a l ls ms s : Int) (d : Bool) (lc pp : Int) : OwR ((((((((w.setCell ⟨g, i * 8, none⟩ (.int .i64 a)).setCell ⟨g, i * 8 + 1, none⟩ (.int .i64 l)).setCell ⟨g, i * 8 + 2, none⟩ (.int .i64 ls)).setCell ⟨g, i * 8 + 3, none⟩ (.int .i64 ms)).setCell ⟨g, i * 8 + 4, none⟩ (.int .i64 s)).setCell ⟨g, i * 8 + 5, none⟩ (.bool d)).setCell ⟨g, i * 8 + 6, none⟩ (.int .i64 lc)).setCell ⟨g, i * 8 + 7, none⟩ (.int .i64 pp)) g n c (rs.set i ⟨a, l, ls, ms, s, d, lc, pp⟩) := by
  have h1 := (World.ownsRow.stored h (i * 8) (.int .i64 a)).1
  have h2 := (World.ownsRow.stored h1 (i * 8 + 1) (.int .i64 l)).1
  have h3 := (World.ownsRow.stored h2 (i * 8 + 2) (.int .i64 ls)).1
  have h4 := (World.ownsRow.stored h3 (i * 8 + 3) (.int .i64 ms)).1
  have h5 := (World.ownsRow.stored h4 (i * 8 + 4) (.int .i64 s)).1
  have h6 := (World.ownsRow.stored h5 (i * 8 + 5) (.bool d)).1
  have h7 := (World.ownsRow.stored h6 (i * 8 + 6) (.int .i64 lc)).1
  have h8 := (World.ownsRow.stored h7 (i * 8 + 7) (.int .i64 pp)).1
  unfold OwR
  rw [← cellsR_set rs i ⟨a, l, ls, ms, s, d, lc, pp⟩]
  exact h8
theorem OwR.cell {w : World} {g n c : Nat} {rs : List Ru} (h : OwR w g n c rs) (j : Nat) (hj : j < n * 8) : ∃ v, w.cell? ⟨g, j, none⟩ = some v := by
  have hl := cellsR_len rs
  have := h.len
  exact ⟨_, (World.ownsRow.cellAt h j hj).trans (List.getElem?_eq_getElem (by omega))⟩

/-- The rule of zeros. -/
def ru0 : Ru := ⟨0, 0, 0, 0, 0, false, 0, 0⟩
theorem made_ru (n : Nat) : (madeCells #[.int .i64 0, .int .i64 0, .int .i64 0, .int .i64 0, .int .i64 0, .bool false, .int .i64 0, .int .i64 0] (n * 8)).toList = cellsR (List.replicate n ru0) := by
  apply List.ext_getElem?
  intro k
  by_cases hk : k < n * 8
  · have h1 : (cellsR (List.replicate n ru0))[k / 8 * 8 + k % 8]? = ru0.cs[k % 8]? := cellsR_get _ (k / 8) ru0 (by rw [List.getElem?_replicate]; simp; omega) (k % 8) (by omega)
    rw [show k / 8 * 8 + k % 8 = k by omega] at h1
    rw [h1]
    simp only [madeCells, Array.toList_map, Array.toList_range, List.getElem?_map, List.getElem?_range hk, Option.map_some]
    have h8 : k % 8 = 0 ∨ k % 8 = 1 ∨ k % 8 = 2 ∨ k % 8 = 3 ∨ k % 8 = 4 ∨ k % 8 = 5 ∨ k % 8 = 6 ∨ k % 8 = 7 := by omega
    rcases h8 with e | e | e | e | e | e | e | e <;> simp [e, Ru.cs, ru0]
  · rw [List.getElem?_eq_none (by simp [madeCells]; omega), List.getElem?_eq_none (by rw [cellsR_len]; simp; omega)]

theorem set_fillR (rs : List Ru) (k n : Nat) (hn : rs.length = n) (p : Ru) (hp : rs[k]? = some p) :
    (rs.take k ++ List.replicate (n - k) ru0).set k p = rs.take (k + 1) ++ List.replicate (n - (k + 1)) ru0 := by
  obtain ⟨hk, rfl⟩ := List.getElem?_eq_some_iff.1 hp
  have hl : (rs.take k).length = k := by simp; omega
  rw [List.set_append_right _ _ (by omega), hl, Nat.sub_self, show n - k = (n - (k + 1)) + 1 by omega, List.replicate_succ, List.set_cons_zero, List.take_succ_eq_append_getElem hk, List.append_assoc]
  rfl

theorem szRs_ok (a : Option Addr) (n c l : Nat) (w : World) (hl : l ≤ 1048576) (h : n ≤ l) : Calls Tryz.prog 45 #[.slice a n c, .int .i64 l] w fun e w' => e = .returned (.int .i64 ((l : Int) - n)) ∧ w' = w := by
  go_enter Tryz.func45, Tryz.ntmps45
  go_wp2
  go_ret
  exact ⟨rfl, rfl⟩

theorem szRs_big (a : Option Addr) (n c l : Nat) (w : World) (hl : l ≤ 1048576) (hn : n ≤ maxLen) (h : l < n) : Calls Tryz.prog 45 #[.slice a n c, .int .i64 l] w fun e w' => e = .returned (.int .i64 (-1)) ∧ w' = w := by
  unfold maxLen at hn
  go_enter Tryz.func45, Tryz.ntmps45
  go_wp2
  go_ret
  exact ⟨rfl, rfl⟩

theorem Tryz.infoRu : (Tryz.prog.info? 130).map (fun i => (i.zero, i.size, i.bytes)) = some (some (.agg #[.int .i64 0, .int .i64 0, .int .i64 0, .int .i64 0, .int .i64 0, .bool false, .int .i64 0, .int .i64 0]), 8, 64) := by kernel_rfl

end Go.Proofs.YtkbdmcimgepakaaGreat

namespace Go.Proofs.YtkbdmcimgepakaaGreat
open Go.RowKit Go.Sort
set_option linter.unusedVariables false

theorem isLen_yes (x : Int) (w : World) (h : 0 ≤ x ∧ x ≤ 16) : Calls Tryz.prog 133 #[.int .i64 x] w fun e w' => e = .returned (.bool true) ∧ w' = w := by
  obtain ⟨h1, h2⟩ := h
  go_enter Tryz.func133, Tryz.ntmps133
  go_wp2
  go_ret
  exact ⟨by simp, rfl⟩

theorem isLen_no (x : Int) (w : World) (h : x < 0 ∨ 16 < x) : Calls Tryz.prog 133 #[.int .i64 x] w fun e w' => e = .returned (.bool false) ∧ w' = w := by
  by_cases h1 : 0 ≤ x
  · have h2 : 16 < x := by omega
    go_enter Tryz.func133, Tryz.ntmps133
    go_wp2
    go_ret
    exact ⟨by simp; omega, rfl⟩
  · go_enter Tryz.func133, Tryz.ntmps133
    go_wp2
    go_ret
    exact ⟨rfl, rfl⟩

theorem newLc_yes (x : Int) (w : World) (h : -1 ≤ x ∧ x ≤ 65535) : Calls Tryz.prog 135 #[.int .i64 x] w fun e w' => e = .returned (.bool true) ∧ w' = w := by
  by_cases h1 : x = -1
  · subst h1
    go_enter Tryz.func135, Tryz.ntmps135
    go_wp2
    go_ret
    exact ⟨rfl, rfl⟩
  · have e1 : (x == -1) = false := by simpa using h1
    go_enter Tryz.func135, Tryz.ntmps135
    go_wp2_with fail
    refine (fits_yesA x _ (by omega)).mono ?_
    rintro e w1 ⟨rfl, rfl⟩
    go_wp2
    go_ret
    exact ⟨rfl, rfl⟩

theorem newLc_no (x : Int) (w : World) (h : x < -1 ∨ 65535 < x) : Calls Tryz.prog 135 #[.int .i64 x] w fun e w' => e = .returned (.bool false) ∧ w' = w := by
  have e1 : (x == -1) = false := by simp; omega
  go_enter Tryz.func135, Tryz.ntmps135
  go_wp2_with fail
  refine (fits_noA x _ (by omega)).mono ?_
  rintro e w1 ⟨rfl, rfl⟩
  go_wp2
  go_ret
  exact ⟨rfl, rfl⟩

set_option maxHeartbeats 1600000 in
theorem implRF (a l ls ms s : Int) (d : Bool) (lc pp : Int) (w : World) : Calls Tryz.prog 117 #[.agg #[.int .i64 a, .int .i64 l, .int .i64 ls, .int .i64 ms, .int .i64 s, .bool d, .int .i64 lc, .int .i64 pp]] w fun e w' => e = .returned (.int .i64 (rf a l ls ms s d lc pp)) ∧ New w w' := by
  have hw := (New.refl w).alloc (.cells #[.int .i64 a, .int .i64 l, .int .i64 ls, .int .i64 ms, .int .i64 s, .bool d, .int .i64 lc, .int .i64 pp] 130)
  have b0 := Blk.mk w w.heap.size 130 #[.int .i64 a, .int .i64 l, .int .i64 ls, .int .i64 ms, .int .i64 s, .bool d, .int .i64 lc, .int .i64 pp] rfl
  go_enter Tryz.func117, Tryz.ntmps117
  go_wp2_with fail
  by_cases g0 : pf a l = 0
  case neg =>
    have hx : rf a l ls ms s d lc pp = pf a l := if_neg g0
    have hz : (pf a l != 0) = true := by simpa using g0
    refine (implPF a l _).mono ?_
    rintro e w1 ⟨rfl, hn1⟩
    go_wp2
    go_ret
    exact ⟨ret_i64 hx.symm, hw.trans hn1⟩
  refine (implPF_is a l 0 _ g0).mono ?_
  rintro e w1 ⟨rfl, hn1⟩
  have b1 := b0.new hn1
  have c1 := b1.cells
  have hw1 := hw.trans hn1
  clear b0 hn1 hw
  go_wp2_with fail
  by_cases gA : 0 ≤ ls ∧ ls ≤ 16
  case neg =>
    have hx : rf a l ls ms s d lc pp = 3 := by unfold rf; rw [if_pos g0, if_neg (fun k => gA k.1)]
    refine (isLen_no ls _ (by omega)).mono ?_
    rintro e w2 ⟨rfl, rfl⟩
    go_wp2
    go_ret
    exact ⟨ret_i64 hx.symm, hw1⟩
  refine (isLen_yes ls _ gA).mono ?_
  rintro e w2 ⟨rfl, rfl⟩
  go_wp2_with fail
  by_cases gB : 0 ≤ ms ∧ ms ≤ 16
  case neg =>
    have hx : rf a l ls ms s d lc pp = 3 := by unfold rf; rw [if_pos g0, if_neg (fun k => gB k.2.1)]
    refine (isLen_no ms _ (by omega)).mono ?_
    rintro e w2 ⟨rfl, rfl⟩
    go_wp2
    go_ret
    exact ⟨ret_i64 hx.symm, hw1⟩
  refine (isLen_yes ms _ gB).mono ?_
  rintro e w2 ⟨rfl, rfl⟩
  go_wp2_with fail
  by_cases gC : 0 ≤ s ∧ s ≤ 65535
  case neg =>
    have hx : rf a l ls ms s d lc pp = 3 := by unfold rf; rw [if_pos g0, if_neg (fun k => gC k.2.2.1)]
    refine (fits_noA s _ (by omega)).mono ?_
    rintro e w2 ⟨rfl, rfl⟩
    go_wp2
    go_ret
    exact ⟨ret_i64 hx.symm, hw1⟩
  refine (fits_yesA s _ gC).mono ?_
  rintro e w2 ⟨rfl, rfl⟩
  go_wp2_with fail
  by_cases gD : -1 ≤ lc ∧ lc ≤ 65535
  case neg =>
    have hx : rf a l ls ms s d lc pp = 3 := by unfold rf; rw [if_pos g0, if_neg (fun k => gD k.2.2.2.1)]
    refine (newLc_no lc _ (by omega)).mono ?_
    rintro e w2 ⟨rfl, rfl⟩
    go_wp2
    go_ret
    exact ⟨ret_i64 hx.symm, hw1⟩
  refine (newLc_yes lc _ gD).mono ?_
  rintro e w2 ⟨rfl, rfl⟩
  by_cases gE : 0 ≤ pp ∧ pp ≤ 3
  case neg =>
    have hx : rf a l ls ms s d lc pp = 3 := by unfold rf; rw [if_pos g0, if_neg (fun k => gE k.2.2.2.2)]
    by_cases gF : 0 ≤ pp
    · have gG : 3 < pp := by omega
      go_wp2
      go_ret
      exact ⟨ret_i64 hx.symm, hw1⟩
    · go_wp2
      go_ret
      exact ⟨ret_i64 hx.symm, hw1⟩
  have hB : RuB ls ms s lc pp := ⟨gA, gB, gC, gD, gE⟩
  obtain ⟨gE0, gE1⟩ := gE
  by_cases k1 : ms < ls
  · have hx : rf a l ls ms s d lc pp = 1 := by unfold rf; rw [if_pos g0, if_pos hB, if_pos (Or.inl k1)]
    clear hB g0 gA gB gC gD
    go_wp2
    go_ret
    exact ⟨ret_i64 hx.symm, hw1⟩
  cases d
  · have hx : rf a l ls ms s false lc pp = 0 := by unfold rf; rw [if_pos g0, if_pos hB, if_neg (by simp [RuX]; omega)]
    clear hB g0 gA gB gC gD
    go_wp2
    go_ret
    exact ⟨ret_i64 hx.symm, hw1⟩
  by_cases k2 : lc = -1
  · subst k2
    by_cases k3 : pp = 0
    · subst k3
      have hx : rf a l ls ms s true (-1) 0 = 0 := by unfold rf; rw [if_pos g0, if_pos hB, if_neg (by simp [RuX]; omega)]
      clear hB g0 gA gB gC gD
      go_wp2
      go_ret
      exact ⟨ret_i64 hx.symm, hw1⟩
    · have hx : rf a l ls ms s true (-1) pp = 1 := by unfold rf; rw [if_pos g0, if_pos hB, if_pos (Or.inr ⟨rfl, Or.inr k3⟩)]
      have hz : (pp != 0) = true := by simpa using k3
      clear hB g0 gA gB gC gD
      go_wp2
      go_ret
      exact ⟨ret_i64 hx.symm, hw1⟩
  · have hx : rf a l ls ms s true lc pp = 1 := by unfold rf; rw [if_pos g0, if_pos hB, if_pos (Or.inr ⟨rfl, Or.inl k2⟩)]
    have hz : (lc != -1) = true := by simpa using k2
    clear hB g0 gA gB gC gD
    go_wp2
    go_ret
    exact ⟨ret_i64 hx.symm, hw1⟩

theorem implRF_is (a l ls ms s : Int) (d : Bool) (lc pp : Int) (c : Int) (w : World) (h : rf a l ls ms s d lc pp = c) : Calls Tryz.prog 117 #[.agg #[.int .i64 a, .int .i64 l, .int .i64 ls, .int .i64 ms, .int .i64 s, .bool d, .int .i64 lc, .int .i64 pp]] w fun e w' => e = .returned (.int .i64 c) ∧ New w w' := h ▸ implRF a l ls ms s d lc pp w

set_option maxHeartbeats 1600000 in
theorem specRF (a l ls ms s : Int) (d : Bool) (lc pp : Int) (w : World) : Calls Tryz.prog 110 #[.agg #[.int .i64 a, .int .i64 l, .int .i64 ls, .int .i64 ms, .int .i64 s, .bool d, .int .i64 lc, .int .i64 pp]] w fun e w' => e = .returned (.int .i64 (rf a l ls ms s d lc pp)) ∧ New w w' := by
  have hw := (New.refl w).alloc (.cells #[.int .i64 a, .int .i64 l, .int .i64 ls, .int .i64 ms, .int .i64 s, .bool d, .int .i64 lc, .int .i64 pp] 130)
  have b0 := Blk.mk w w.heap.size 130 #[.int .i64 a, .int .i64 l, .int .i64 ls, .int .i64 ms, .int .i64 s, .bool d, .int .i64 lc, .int .i64 pp] rfl
  go_enter Tryz.func110, Tryz.ntmps110
  go_wp2_with fail
  by_cases g0 : pf a l = 0
  case neg =>
    have hx : rf a l ls ms s d lc pp = pf a l := if_neg g0
    have hz : (pf a l != 0) = true := by simpa using g0
    refine (specPF a l _).mono ?_
    rintro e w1 ⟨rfl, hn1⟩
    go_wp2
    go_ret
    exact ⟨ret_i64 hx.symm, hw.trans hn1⟩
  refine (specPF_is a l 0 _ g0).mono ?_
  rintro e w1 ⟨rfl, hn1⟩
  have b1 := b0.new hn1
  have c1 := b1.cells
  have hw1 := hw.trans hn1
  clear b0 hn1 hw
  go_wp2_with fail
  by_cases gA : 0 ≤ ls ∧ ls ≤ 16
  case neg =>
    have hx : rf a l ls ms s d lc pp = 3 := by unfold rf; rw [if_pos g0, if_neg (fun k => gA k.1)]
    refine (in_no ls 0 16 _ (by omega)).mono ?_
    rintro e w2 ⟨rfl, rfl⟩
    go_wp2
    go_ret
    exact ⟨ret_i64 hx.symm, hw1⟩
  refine (in_yes ls 0 16 _ gA).mono ?_
  rintro e w2 ⟨rfl, rfl⟩
  go_wp2_with fail
  by_cases gB : 0 ≤ ms ∧ ms ≤ 16
  case neg =>
    have hx : rf a l ls ms s d lc pp = 3 := by unfold rf; rw [if_pos g0, if_neg (fun k => gB k.2.1)]
    refine (in_no ms 0 16 _ (by omega)).mono ?_
    rintro e w2 ⟨rfl, rfl⟩
    go_wp2
    go_ret
    exact ⟨ret_i64 hx.symm, hw1⟩
  refine (in_yes ms 0 16 _ gB).mono ?_
  rintro e w2 ⟨rfl, rfl⟩
  go_wp2_with fail
  by_cases gC : 0 ≤ s ∧ s ≤ 65535
  case neg =>
    have hx : rf a l ls ms s d lc pp = 3 := by unfold rf; rw [if_pos g0, if_neg (fun k => gC k.2.2.1)]
    refine (word_no s _ (by omega)).mono ?_
    rintro e w2 ⟨rfl, rfl⟩
    go_wp2
    go_ret
    exact ⟨ret_i64 hx.symm, hw1⟩
  refine (word_yes s _ gC).mono ?_
  rintro e w2 ⟨rfl, rfl⟩
  go_wp2_with fail
  by_cases gD : -1 ≤ lc ∧ lc ≤ 65535
  case neg =>
    have hx : rf a l ls ms s d lc pp = 3 := by unfold rf; rw [if_pos g0, if_neg (fun k => gD k.2.2.2.1)]
    refine (in_no lc (-1) 65535 _ (by omega)).mono ?_
    rintro e w2 ⟨rfl, rfl⟩
    go_wp2
    go_ret
    exact ⟨ret_i64 hx.symm, hw1⟩
  refine (in_yes lc (-1) 65535 _ gD).mono ?_
  rintro e w2 ⟨rfl, rfl⟩
  go_wp2_with fail
  by_cases gE : 0 ≤ pp ∧ pp ≤ 3
  case neg =>
    have hx : rf a l ls ms s d lc pp = 3 := by unfold rf; rw [if_pos g0, if_neg (fun k => gE k.2.2.2.2)]
    refine (in_no pp 0 3 _ (by omega)).mono ?_
    rintro e w2 ⟨rfl, rfl⟩
    go_wp2
    go_ret
    exact ⟨ret_i64 hx.symm, hw1⟩
  refine (in_yes pp 0 3 _ gE).mono ?_
  rintro e w2 ⟨rfl, rfl⟩
  have hB : RuB ls ms s lc pp := ⟨gA, gB, gC, gD, gE⟩
  obtain ⟨gE0, gE1⟩ := gE
  by_cases k1 : ms < ls
  · have hx : rf a l ls ms s d lc pp = 1 := by unfold rf; rw [if_pos g0, if_pos hB, if_pos (Or.inl k1)]
    clear hB g0 gA gB gC gD
    go_wp2
    go_ret
    exact ⟨ret_i64 hx.symm, hw1⟩
  cases d
  · have hx : rf a l ls ms s false lc pp = 0 := by unfold rf; rw [if_pos g0, if_pos hB, if_neg (by simp [RuX]; omega)]
    clear hB g0 gA gB gC gD
    go_wp2
    go_ret
    exact ⟨ret_i64 hx.symm, hw1⟩
  by_cases k2 : lc = -1
  · subst k2
    by_cases k3 : pp = 0
    · subst k3
      have hx : rf a l ls ms s true (-1) 0 = 0 := by unfold rf; rw [if_pos g0, if_pos hB, if_neg (by simp [RuX]; omega)]
      clear hB g0 gA gB gC gD
      go_wp2
      go_ret
      exact ⟨ret_i64 hx.symm, hw1⟩
    · have hx : rf a l ls ms s true (-1) pp = 1 := by unfold rf; rw [if_pos g0, if_pos hB, if_pos (Or.inr ⟨rfl, Or.inr k3⟩)]
      have hz : (pp != 0) = true := by simpa using k3
      clear hB g0 gA gB gC gD
      go_wp2
      go_ret
      exact ⟨ret_i64 hx.symm, hw1⟩
  · have hx : rf a l ls ms s true lc pp = 1 := by unfold rf; rw [if_pos g0, if_pos hB, if_pos (Or.inr ⟨rfl, Or.inl k2⟩)]
    have hz : (lc != -1) = true := by simpa using k2
    clear hB g0 gA gB gC gD
    go_wp2
    go_ret
    exact ⟨ret_i64 hx.symm, hw1⟩

theorem specRF_is (a l ls ms s : Int) (d : Bool) (lc pp : Int) (c : Int) (w : World) (h : rf a l ls ms s d lc pp = c) : Calls Tryz.prog 110 #[.agg #[.int .i64 a, .int .i64 l, .int .i64 ls, .int .i64 ms, .int .i64 s, .bool d, .int .i64 lc, .int .i64 pp]] w fun e w' => e = .returned (.int .i64 c) ∧ New w w' := h ▸ specRF a l ls ms s d lc pp w

set_option maxHeartbeats 1600000 in
theorem implRSF (x : Option Addr) (n c : Nat) (rs : List Ru) (w : World) (h : RsAt w x rs) (hn : rs.length = n) (hm : n ≤ 1048576) : Calls Tryz.prog 98 #[.slice x n c] w fun e w' => e = .returned (.int .i64 (rsf rs)) ∧ New w w' := by
  by_cases hbig : 8 < n
  · have hf : Hid (rsf rs = 2) := by unfold rsf Hid; rw [if_pos (by omega)]
    go_enter Tryz.func98, Tryz.ntmps98
    go_wp2
    go_ret
    exact ⟨ret_i64 hf.out.symm, New.refl _⟩
  · have hf : Hid (rsf rs = rfc (rs.drop 0)) := by unfold rsf Hid; rw [if_neg (by omega)]; rfl
    have HN : Hid (rs.length = n) := hn
    clear hn
    go_enter Tryz.func98, Tryz.ntmps98
    go_wp2
    go_loopw [11] (fun i wr => ∃ k : Nat, k ≤ n ∧ i = .int .i64 k ∧ New w wr ∧ Hid (rsf rs = rfc (rs.drop k))) (fun i _ => n - (intOf i).toNat)
    case atStart => exact ⟨0, Nat.zero_le _, rfl, New.refl _, hf⟩
    case round =>
      obtain ⟨k, hk, rfl, hnw, hl⟩ := hrel
      by_cases hlt : k < n
      · obtain ⟨b, off, a, l, ls, ms, s, d, lc, pp, rfl, hz, c0, c1, c2, c3, c4, c5, c6, c7⟩ := (h.new hnw).at k (by rw [HN.out]; exact hlt)
        have hx := rfc_next hz
        have hw2 := hnw.alloc (.cells #[.int .i64 a, .int .i64 l, .int .i64 ls, .int .i64 ms, .int .i64 s, .bool d, .int .i64 lc, .int .i64 pp] 130)
        by_cases hf0 : rf a l ls ms s d lc pp = 0
        · have hl' : Hid (rsf rs = rfc (rs.drop (k + 1))) := by unfold Hid; rw [hl.out, hx]; exact if_pos hf0
          clear hx hz hl
          go_wp2_with fail
          refine (implRF_is a l ls ms s d lc pp 0 _ hf0).mono ?_
          rintro e w2 ⟨rfl, hn2⟩
          go_wp2
          go_roundw
          case rel => exact ⟨k + 1, by omega, by go_num, hw2.trans hn2, hl'⟩
          case measure => simp [intOf]; omega
        · have hl' : Hid (rsf rs = rf a l ls ms s d lc pp) := by unfold Hid; rw [hl.out, hx]; exact if_neg hf0
          have hz0 : (rf a l ls ms s d lc pp != 0) = true := by simpa using hf0
          clear hx hz hl
          go_wp2_with fail
          refine (implRF a l ls ms s d lc pp _).mono ?_
          rintro e w2 ⟨rfl, hn2⟩
          go_wp2
          go_ret
          exact ⟨ret_i64 hl'.out.symm, hw2.trans hn2⟩
      · have hl' : Hid (rsf rs = 0) := by
          unfold Hid
          rw [hl.out, List.drop_of_length_le (by rw [HN.out]; omega)]
          rfl
        go_wp2
        go_ret
        exact ⟨ret_i64 hl'.out.symm, hnw⟩

set_option maxHeartbeats 1600000 in
theorem specRSF (x : Option Addr) (n c : Nat) (rs : List Ru) (w : World) (h : RsAt w x rs) (hn : rs.length = n) (hm : n ≤ 1048576) : Calls Tryz.prog 86 #[.slice x n c] w fun e w' => e = .returned (.int .i64 (rsf rs)) ∧ New w w' := by
  by_cases hbig : 8 < n
  · have hf : Hid (rsf rs = 2) := by unfold rsf Hid; rw [if_pos (by omega)]
    go_enter Tryz.func86, Tryz.ntmps86
    go_wp2
    go_ret
    exact ⟨ret_i64 hf.out.symm, New.refl _⟩
  · have hf : Hid (rsf rs = rfc (rs.drop 0)) := by unfold rsf Hid; rw [if_neg (by omega)]; rfl
    have HN : Hid (rs.length = n) := hn
    clear hn
    go_enter Tryz.func86, Tryz.ntmps86
    go_wp2
    go_loopw [3] (fun i wr => ∃ k : Nat, k ≤ n ∧ i = .int .i64 k ∧ New w wr ∧ Hid (rsf rs = rfc (rs.drop k))) (fun i _ => n - (intOf i).toNat)
    case atStart => exact ⟨0, Nat.zero_le _, rfl, New.refl _, hf⟩
    case round =>
      obtain ⟨k, hk, rfl, hnw, hl⟩ := hrel
      by_cases hlt : k < n
      · obtain ⟨b, off, a, l, ls, ms, s, d, lc, pp, rfl, hz, c0, c1, c2, c3, c4, c5, c6, c7⟩ := (h.new hnw).at k (by rw [HN.out]; exact hlt)
        have hx := rfc_next hz
        have hw2 := hnw
        by_cases hf0 : rf a l ls ms s d lc pp = 0
        · have hl' : Hid (rsf rs = rfc (rs.drop (k + 1))) := by unfold Hid; rw [hl.out, hx]; exact if_pos hf0
          clear hx hz hl
          go_wp2_with fail
          refine (specRF_is a l ls ms s d lc pp 0 _ hf0).mono ?_
          rintro e w2 ⟨rfl, hn2⟩
          go_wp2
          go_roundw
          case rel => exact ⟨k + 1, by omega, by go_num, hw2.trans hn2, hl'⟩
          case measure => simp [intOf]; omega
        · have hl' : Hid (rsf rs = rf a l ls ms s d lc pp) := by unfold Hid; rw [hl.out, hx]; exact if_neg hf0
          have hz0 : (rf a l ls ms s d lc pp != 0) = true := by simpa using hf0
          clear hx hz hl
          go_wp2_with fail
          refine (specRF a l ls ms s d lc pp _).mono ?_
          rintro e w2 ⟨rfl, hn2⟩
          go_wp2
          go_ret
          exact ⟨ret_i64 hl'.out.symm, hw2.trans hn2⟩
      · have hl' : Hid (rsf rs = 0) := by
          unfold Hid
          rw [hl.out, List.drop_of_length_le (by rw [HN.out]; omega)]
          rfl
        go_wp2
        go_ret
        exact ⟨ret_i64 hl'.out.symm, hnw⟩

end Go.Proofs.YtkbdmcimgepakaaGreat

namespace Go.Proofs.YtkbdmcimgepakaaGreat
open Go.RowKit Go.Sort
set_option linter.unusedVariables false

set_option maxHeartbeats 1600000 in
theorem toRule_any (a l ls ms s : Int) (d : Bool) (lc pp : Int) (w : World) : Calls Tryz.prog 93 #[.agg #[.int .i64 a, .int .i64 l, .int .i64 ls, .int .i64 ms, .int .i64 s, .bool d, .int .i64 lc, .int .i64 pp]] w fun e w' => e = .returned (.agg #[.int .i64 a, .int .i64 l, .int .i64 ls, .int .i64 ms, .int .i64 s, .bool d, .int .i64 lc, .int .i64 pp]) ∧ New w w' := by
  have hw0 := (((New.refl w).alloc (.cells #[.int .i64 a, .int .i64 l, .int .i64 ls, .int .i64 ms, .int .i64 s, .bool d, .int .i64 lc, .int .i64 pp] 134)).alloc (.cells #[.int .i64 0, .int .i64 0, .int .i64 0, .int .i64 0, .int .i64 0, .bool false, .int .i64 0, .int .i64 0] 130)).alloc (.cells #[.int .i64 0, .int .i64 0, .int .i64 0, .int .i64 0, .int .i64 0, .bool false, .int .i64 0, .int .i64 0] 130)
  have b0 : Blk (((w.alloc (.cells #[.int .i64 a, .int .i64 l, .int .i64 ls, .int .i64 ms, .int .i64 s, .bool d, .int .i64 lc, .int .i64 pp] 134)).alloc (.cells #[.int .i64 0, .int .i64 0, .int .i64 0, .int .i64 0, .int .i64 0, .bool false, .int .i64 0, .int .i64 0] 130)).alloc (.cells #[.int .i64 0, .int .i64 0, .int .i64 0, .int .i64 0, .int .i64 0, .bool false, .int .i64 0, .int .i64 0] 130)) w.heap.size 134 #[.int .i64 a, .int .i64 l, .int .i64 ls, .int .i64 ms, .int .i64 s, .bool d, .int .i64 lc, .int .i64 pp] := ((Blk.mk _ _ _ _ rfl).alloc _).alloc _
  have b1 : Blk (((w.alloc (.cells #[.int .i64 a, .int .i64 l, .int .i64 ls, .int .i64 ms, .int .i64 s, .bool d, .int .i64 lc, .int .i64 pp] 134)).alloc (.cells #[.int .i64 0, .int .i64 0, .int .i64 0, .int .i64 0, .int .i64 0, .bool false, .int .i64 0, .int .i64 0] 130)).alloc (.cells #[.int .i64 0, .int .i64 0, .int .i64 0, .int .i64 0, .int .i64 0, .bool false, .int .i64 0, .int .i64 0] 130)) (w.heap.size + 1) 130 #[.int .i64 0, .int .i64 0, .int .i64 0, .int .i64 0, .int .i64 0, .bool false, .int .i64 0, .int .i64 0] := (Blk.mk _ _ _ _ (by simp)).alloc _
  have b2 : Blk (((w.alloc (.cells #[.int .i64 a, .int .i64 l, .int .i64 ls, .int .i64 ms, .int .i64 s, .bool d, .int .i64 lc, .int .i64 pp] 134)).alloc (.cells #[.int .i64 0, .int .i64 0, .int .i64 0, .int .i64 0, .int .i64 0, .bool false, .int .i64 0, .int .i64 0] 130)).alloc (.cells #[.int .i64 0, .int .i64 0, .int .i64 0, .int .i64 0, .int .i64 0, .bool false, .int .i64 0, .int .i64 0] 130)) (w.heap.size + 1 + 1) 130 #[.int .i64 0, .int .i64 0, .int .i64 0, .int .i64 0, .int .i64 0, .bool false, .int .i64 0, .int .i64 0] := Blk.mk _ _ _ _ (by simp)
  go_enter Tryz.func93, Tryz.ntmps93
  go_wp2_with fail
  refine (toPrefix_any a l _).mono ?_
  rintro e w1 ⟨rfl, hn1⟩
  have n1 := hw0.trans hn1
  have c0 := (b0.new hn1).cells
  have c1 := (b1.new hn1).cells
  have c2 := (b2.new hn1).cells
  have f1 := (b1.new hn1).frees
  have f2 := (b2.new hn1).frees
  have ge1 : w.heap.size ≤ w.heap.size + 1 := by omega
  have ge2 : w.heap.size ≤ w.heap.size + 1 + 1 := by omega
  clear b0 b1 b2 hn1 hw0
  go_wp2
  refine bodyPost_ret (v := .agg #[.int .i64 a, .int .i64 l, .int .i64 ls, .int .i64 ms, .int .i64 s, .bool d, .int .i64 lc, .int .i64 pp]) (by simp [results, Tryz.results93, go_sem, c1]) rfl ⟨rfl, ?_⟩
  simp (disch := (first | exact ge1 | exact ge2)) only [New.set_iff, n1]

set_option maxHeartbeats 1600000 in
theorem eqRule_any (a l ls ms s : Int) (d : Bool) (lc pp : Int) (w : World) : Calls Tryz.prog 105 #[.agg #[.int .i64 a, .int .i64 l, .int .i64 ls, .int .i64 ms, .int .i64 s, .bool d, .int .i64 lc, .int .i64 pp], .agg #[.int .i64 a, .int .i64 l, .int .i64 ls, .int .i64 ms, .int .i64 s, .bool d, .int .i64 lc, .int .i64 pp]] w fun e w' => e = .returned (.bool true) ∧ New w w' := by
  have hw := ((New.refl w).alloc (.cells #[.int .i64 a, .int .i64 l, .int .i64 ls, .int .i64 ms, .int .i64 s, .bool d, .int .i64 lc, .int .i64 pp] 130)).alloc (.cells #[.int .i64 a, .int .i64 l, .int .i64 ls, .int .i64 ms, .int .i64 s, .bool d, .int .i64 lc, .int .i64 pp] 130)
  have hB : Blk ((w.alloc (.cells #[.int .i64 a, .int .i64 l, .int .i64 ls, .int .i64 ms, .int .i64 s, .bool d, .int .i64 lc, .int .i64 pp] 130)).alloc (.cells #[.int .i64 a, .int .i64 l, .int .i64 ls, .int .i64 ms, .int .i64 s, .bool d, .int .i64 lc, .int .i64 pp] 130)) w.heap.size 130 #[.int .i64 a, .int .i64 l, .int .i64 ls, .int .i64 ms, .int .i64 s, .bool d, .int .i64 lc, .int .i64 pp] := (Blk.mk _ _ _ _ rfl).alloc _
  have hD : Blk ((w.alloc (.cells #[.int .i64 a, .int .i64 l, .int .i64 ls, .int .i64 ms, .int .i64 s, .bool d, .int .i64 lc, .int .i64 pp] 130)).alloc (.cells #[.int .i64 a, .int .i64 l, .int .i64 ls, .int .i64 ms, .int .i64 s, .bool d, .int .i64 lc, .int .i64 pp] 130)) (w.heap.size + 1) 130 #[.int .i64 a, .int .i64 l, .int .i64 ls, .int .i64 ms, .int .i64 s, .bool d, .int .i64 lc, .int .i64 pp] := Blk.mk _ _ _ _ (by simp)
  have z1 : (ls != ls) = false := by simp
  have z2 : (ms != ms) = false := by simp
  have z3 : (s != s) = false := by simp
  have z4 : (lc != lc) = false := by simp
  have z5 : (pp != pp) = false := by simp
  have z6 : (d != d) = false := by simp
  go_enter Tryz.func105, Tryz.ntmps105
  go_wp2_with fail
  refine (eqPrefix_any a l _).mono ?_
  rintro e w1 ⟨rfl, hn1⟩
  have cB := (hB.new hn1).cells
  have cD := (hD.new hn1).cells
  clear hB hD
  go_wp2
  go_ret
  exact ⟨rfl, hw.trans hn1⟩

set_option maxHeartbeats 3200000 in
theorem toRs_any (x : Option Addr) (n c : Nat) (rs : List Ru) (w : World) (h : RsAt w x rs) (hn : rs.length = n) (hm : n ≤ 1048576) :
    Calls Tryz.prog 57 #[.slice x n c] w fun e w' => ∃ g, e = .returned (.slice (some ⟨g, 0, none⟩) n n) ∧ w.heap.size ≤ g ∧ OwR w' g n n rs ∧ New w w' := by
  obtain ⟨i0, hi, hz0, hz1, hz2⟩ := info_parts Tryz.infoRu
  go_enter Tryz.func57, Tryz.ntmps57
  go_wp2_with (at_make; refine wpList_make_full _ rfl _ _ 36 rfl w.heap.size 130 i0 (.agg #[.int .i64 0, .int .i64 0, .int .i64 0, .int .i64 0, .int .i64 0, .bool false, .int .i64 0, .int .i64 0]) 8 Tryz.underlying36 hi hz0 hz1 _ _ _ _ n rfl rfl rfl rfl ?b2 ?b3 (Nat.le_refl _) ?_)
  case b2 => rw [hz2]; omega
  case b3 => unfold maxLen; omega
  intro w0 hown0 hgrow0
  have hown : OwR w0 w.heap.size n n (rs.take 0 ++ List.replicate (n - 0) ru0) := by
    have := own_base hown0
    have e8 := made_ru n
    simp only [OwR, List.take_zero, List.nil_append, Nat.sub_zero]
    rw [← e8]
    exact this
  have hnew := New.of_grown hgrow0
  clear hown0 hgrow0
  go_wp2
  go_loopw [4] (fun i wr => ∃ k : Nat, k ≤ n ∧ i = .int .i64 k ∧ New w wr ∧ OwR wr w.heap.size n n (rs.take k ++ List.replicate (n - k) ru0)) (fun i _ => n - (intOf i).toNat)
  case atStart => exact ⟨0, Nat.zero_le _, rfl, hnew, hown⟩
  case round =>
    obtain ⟨k, hk, rfl, hnw, how⟩ := hrel
    by_cases hlt : k < n
    · obtain ⟨b, off, a, l, ls, ms, s, d, lc, pp, rfl, hz, q0, q1, q2, q3, q4, q5, q6, q7⟩ := (h.new hnw).at k (by omega)
      go_wp2_with fail
      refine (toRule_any a l ls ms s d lc pp _).mono ?_
      rintro e w1 ⟨rfl, hn1⟩
      have how1 := how.new hn1
      have hput := how1.put k a l ls ms s d lc pp
      rw [set_fillR rs k n hn _ hz] at hput
      have hn2 := hnw.trans hn1
      have f0 := fun j => World.ownsRow.frozenAt how1 j
      obtain ⟨v0, c0⟩ := how1.cell (k * 8) (by omega)
      obtain ⟨v1, c1⟩ := how1.cell (k * 8 + 1) (by omega)
      obtain ⟨v2, c2⟩ := how1.cell (k * 8 + 2) (by omega)
      obtain ⟨v3, c3⟩ := how1.cell (k * 8 + 3) (by omega)
      obtain ⟨v4, c4⟩ := how1.cell (k * 8 + 4) (by omega)
      obtain ⟨v5, c5⟩ := how1.cell (k * 8 + 5) (by omega)
      obtain ⟨v6, c6⟩ := how1.cell (k * 8 + 6) (by omega)
      obtain ⟨v7, c7⟩ := how1.cell (k * 8 + 7) (by omega)
      clear hz h how how1 q0 q1 q2 q3 q4 q5 q6 q7 hnw hn1
      go_wp2
      go_roundw
      case rel => exact ⟨k + 1, by omega, by go_num, ((((((((hn2.setCell (Nat.le_refl _) _).setCell (Nat.le_refl _) _).setCell (Nat.le_refl _) _).setCell (Nat.le_refl _) _).setCell (Nat.le_refl _) _).setCell (Nat.le_refl _) _).setCell (Nat.le_refl _) _).setCell (Nat.le_refl _) _), hput⟩
      case measure => simp [intOf]; omega
    · go_wp2
      go_ret
      refine ⟨_, rfl, Nat.le_refl _, ?_, hnw⟩
      have hkn : k = n := by omega
      subst hkn
      rw [List.take_of_length_le (by omega)] at how
      simpa using how

set_option maxHeartbeats 1600000 in
theorem eqRs_any (x y : Option Addr) (n c e0 : Nat) (rs : List Ru) (w : World) (hF : RsAt w x rs) (hG : RsAt w y rs) (hn : rs.length = n) (hm : n ≤ 1048576) :
    Calls Tryz.prog 69 #[.slice x n c, .slice y n e0] w fun e w' => e = .returned (.bool true) ∧ New w w' := by
  have hnn : ((n : Int) != (n : Int)) = false := by simp
  go_enter Tryz.func69, Tryz.ntmps69
  go_wp2
  go_loopw [5] (fun i wr => ∃ k : Nat, k ≤ n ∧ i = .int .i64 k ∧ New w wr) (fun i _ => n - (intOf i).toNat)
  case atStart => exact ⟨0, Nat.zero_le _, rfl, New.refl _⟩
  case round =>
    obtain ⟨k, hk, rfl, hnw⟩ := hrel
    by_cases hlt : k < n
    · obtain ⟨g1, o1, a, l, ls, ms, s, d, lc, pp, rfl, hp1, x0, x1, x2, x3, x4, x5, x6, x7⟩ := (hF.new hnw).at k (by omega)
      obtain ⟨g2, o2, a', l', ls', ms', s', d', lc', pp', rfl, hp2, y0, y1, y2, y3, y4, y5, y6, y7⟩ := (hG.new hnw).at k (by omega)
      obtain ⟨rfl, rfl, rfl, rfl, rfl, rfl, rfl, rfl⟩ : a = a' ∧ l = l' ∧ ls = ls' ∧ ms = ms' ∧ s = s' ∧ d = d' ∧ lc = lc' ∧ pp = pp' := by simpa using Option.some.inj (hp1.symm.trans hp2)
      clear hp1 hp2 hF hG
      have X0 := cell_regrown x0
      have X1 := cell_regrown x1
      have X2 := cell_regrown x2
      have X3 := cell_regrown x3
      have X4 := cell_regrown x4
      have X5 := cell_regrown x5
      have X6 := cell_regrown x6
      have X7 := cell_regrown x7
      have Y0 := cell_regrown y0
      have Y1 := cell_regrown y1
      have Y2 := cell_regrown y2
      have Y3 := cell_regrown y3
      have Y4 := cell_regrown y4
      have Y5 := cell_regrown y5
      have Y6 := cell_regrown y6
      have Y7 := cell_regrown y7
      go_wp2_with fail
      refine wp_region_quiet_below (by kernel_rfl) (by kernel_rfl) ?_
      repeat (go_big_quiet_step ((go_at_call 105; exact calls_regrown (eqRule_any a l ls ms s d lc pp _))))
      refine wpQuiet_nil ?_
      rintro w1 hn1
      replace hn1 := new_of_regrown hn1
      go_wp2
      go_roundw
      case rel => exact ⟨k + 1, by omega, by go_num, hnw.trans hn1⟩
      case measure => simp [intOf]; omega
    · go_wp2
      go_ret
      exact ⟨rfl, hnw⟩

end Go.Proofs.YtkbdmcimgepakaaGreat

namespace Go.Proofs.YtkbdmcimgepakaaGreat
open Go.ChangeShapes Go.WideShapes Go.ChangeAt Go.RowKit Go.Deep

theorem in6_of_wf {x : Int} (h : (Lit.int .i64 x).wf = true) : In6 x := by
  simpa [Lit.wf, IntKind.min, IntKind.max, IntKind.signed, IntKind.bits, In6] using h

end Go.Proofs.YtkbdmcimgepakaaGreat

namespace Go.Proofs.YtkbdmcimgepakaaGreat
open Go.ChangeShapes Go.WideShapes Go.ChangeAt Go.RowKit Go.Deep

theorem NsAt.of_cells {w : World} {x : Addr} {xs : List Int} (len : Nat) (hcell : ∀ i, i < xs.length → w.cell? (x.add i) = some (.int .i64 (xs.getD i 0))) (hw : ∀ n ∈ xs, (Lit.int .i64 n).wf = true) :
    NsAt w (some x) (xs.take len) := by
  intro i z hz
  rw [List.getElem?_take] at hz
  split at hz
  · obtain ⟨hi, rfl⟩ := List.getElem?_eq_some_iff.1 hz
    have hc := hcell i hi
    obtain ⟨b, off, spot⟩ := x
    have hspot : spot = none := by simpa [Addr.add] using World.cell?_spot (hcell 0 (by omega))
    subst hspot
    rw [Addr.add_lit] at hc
    exact ⟨b, off, rfl, by simpa [List.getD, hi] using hc, in6_of_wf (hw _ (List.getElem_mem hi))⟩
  · cases hz

theorem array5 {α : Type} {cs : Array α} (h : cs.size = 5) : ∃ c0 c1 c2 c3 c4, cs = #[c0, c1, c2, c3, c4] := by
  obtain ⟨l⟩ := cs
  match l, h with
  | [c0, c1, c2, c3, c4], _ => exact ⟨c0, c1, c2, c3, c4, rfl⟩
theorem array8 {α : Type} {cs : Array α} (h : cs.size = 8) : ∃ c0 c1 c2 c3 c4 c5 c6 c7, cs = #[c0, c1, c2, c3, c4, c5, c6, c7] := by
  obtain ⟨l⟩ := cs
  match l, h with
  | [c0, c1, c2, c3, c4, c5, c6, c7], _ => exact ⟨c0, c1, c2, c3, c4, c5, c6, c7, rfl⟩

end Go.Proofs.YtkbdmcimgepakaaGreat

namespace Go.Proofs.YtkbdmcimgepakaaGreat
open Go.ChangeShapes Go.WideShapes Go.ChangeAt Go.RowKit Go.Deep

theorem Tryz.cI64R : Tryz.prog.cellsOf 2 = 1 := by kernel_rfl
theorem Tryz.cRu : Tryz.prog.cellsOf 134 = 8 := by kernel_rfl
theorem Tryz.cPx : Tryz.prog.cellsOf 132 = 2 := by kernel_rfl
theorem Tryz.cBlR : Tryz.prog.cellsOf 4 = 1 := by kernel_rfl

set_option maxRecDepth 100000 in
theorem open_rule_cells {H : Type} {enc : TypeId × Value → H} {W : World} {base fuel : Nat} {t1 : Nat → Bool} {t2 : Bool} {c0 c1 c2 c3 c4 c5 c6 c7 : Value} {y : DataW H × List MemPlace}
    (h : DataW.trod enc Tryz.prog W base t1 t2 fuel 134 [c0, c1, c2, c3, c4, c5, c6, c7] = some y) :
    ∃ (r : Ru), [c0, c1, c2, c3, c4, c5, c6, c7] = r.cs ∧ In6 r.pp := by
  obtain ⟨xs, m, _, rfl, hl, hlen, hf⟩ := DataW.trod_struct Tryz.underlying134 h
  match xs, hlen with
  | [y0, y1, y2, y3, y4, y5, y6], _ =>
    have k0 := hf 0 _ rfl
    have k1 := hf 1 _ rfl
    have k2 := hf 2 _ rfl
    have k3 := hf 3 _ rfl
    have k4 := hf 4 _ rfl
    have k5 := hf 5 _ rfl
    have k6 := hf 6 _ rfl
    simp [Tryz.cI64R, Tryz.cPx, Tryz.cBlR] at k0 k1 k2 k3 k4 k5 k6
    obtain ⟨ys, m', _, rfl, hl', hlen', hf'⟩ := DataW.trod_struct Tryz.underlying132 k0
    match ys, hlen' with
    | [z0, z1], _ =>
      have j0 := hf' 0 _ rfl
      have j1 := hf' 1 _ rfl
      simp [Tryz.cI64R] at j0 j1
      obtain ⟨a, e0, -, w0⟩ := DataW.trod_int Tryz.underlying2 j0
      obtain ⟨l, e1, -, w1⟩ := DataW.trod_int Tryz.underlying2 j1
      obtain ⟨ls, e2, -, w2⟩ := DataW.trod_int Tryz.underlying2 k1
      obtain ⟨ms, e3, -, w3⟩ := DataW.trod_int Tryz.underlying2 k2
      obtain ⟨s, e4, -, w4⟩ := DataW.trod_int Tryz.underlying2 k3
      obtain ⟨d, e5, -⟩ := DataW.trod_bool Tryz.underlying4 k4
      obtain ⟨lc, e6, -, w6⟩ := DataW.trod_int Tryz.underlying2 k5
      obtain ⟨pp, e7, -, w7⟩ := DataW.trod_int Tryz.underlying2 k6
      simp only [List.cons.injEq, and_true] at e0 e1 e2 e3 e4 e5 e6 e7
      subst e0 e1 e2 e3 e4 e5 e6 e7
      exact ⟨⟨a, l, ls, ms, s, d, lc, pp⟩, rfl, in6_of_wf w7⟩

set_option maxRecDepth 100000 in
theorem open_rule {H : Type} {enc : TypeId × Value → H} {W : World} {base b0 : Nat} {r : Reach} {t1 : Nat → Bool} {t2 : Bool} {v : Value} {d : DataW H} {p : List MemPlace}
    (hv : Value.okWide Tryz.prog W r b0 134 v) (h0 : DataW.Trod enc Tryz.prog W base t1 t2 134 v d p) :
    ∃ (a l ls ms s : Int) (d : Bool) (lc pp : Int), v = .agg #[.int .i64 a, .int .i64 l, .int .i64 ls, .int .i64 ms, .int .i64 s, .bool d, .int .i64 lc, .int .i64 pp] := by
  obtain ⟨cs, rfl, hsz⟩ := okWide_struct Tryz.underlying134 hv
  obtain ⟨c0, c1, c2, c3, c4, c5, c6, c7, rfl⟩ := array8 (hsz.trans Tryz.cRu)
  obtain ⟨fuel, hf⟩ := h0
  have hf' : DataW.trod enc Tryz.prog W base t1 t2 fuel 134 [c0, c1, c2, c3, c4, c5, c6, c7] = some (d, p) := by simpa [Value.cells] using hf
  obtain ⟨r, hr, -⟩ := open_rule_cells hf'
  simp only [Ru.cs, List.cons.injEq, and_true] at hr
  obtain ⟨rfl, rfl, rfl, rfl, rfl, rfl, rfl, rfl⟩ := hr
  exact ⟨_, _, _, _, _, _, _, _, rfl⟩

set_option maxRecDepth 100000 in
theorem open_rules {H : Type} {enc : TypeId × Value → H} {W : World} {base : Nat} {t1 : Nat → Bool} {t2 : Bool} {a : Option Addr} {n c : Nat} {d : DataW H} {p : List MemPlace}
    (h0 : DataW.Trod enc Tryz.prog W base t1 t2 24 (.slice a n c) d p) : ∃ rs, RsAt W a rs ∧ rs.length = n ∧ n ≤ maxLen := by
  obtain ⟨fuel, hf⟩ := h0
  rcases open_slice Tryz.underlying24 hf with ⟨hcs, _⟩ | ⟨x, l, cc, m, k, D, Pl, hcs, _, hl, hm, hmm, _, hall⟩
  · simp [Value.cells] at hcs
    obtain ⟨rfl, rfl, rfl⟩ := hcs
    exact ⟨[], RsAt.nil _ _, rfl, Nat.zero_le _⟩
  · simp [Value.cells] at hcs
    obtain ⟨rfl, rfl, rfl⟩ := hcs
    have hlm : n ≤ m := by rw [hmm]; split <;> omega
    have each : ∀ i, i < n → ∃ r : Ru, ∀ j, j < 8 → W.cell? (x.add (i * 8 + j)) = r.cs[j]? := by
      intro i hi
      obtain ⟨cs', h1, h2⟩ := hall i (by omega)
      rw [Tryz.cRu] at h1
      obtain ⟨_, hlen, hcell⟩ := World.cells?_some h1
      match cs', hlen with
      | [c0, c1, c2, c3, c4, c5, c6, c7], _ =>
        obtain ⟨r, hr, -⟩ := open_rule_cells h2
        refine ⟨r, fun j hj => ?_⟩
        have hc := hcell j (by omega)
        rw [add_add] at hc
        rw [hc, hr]
    refine ⟨(List.range n).map (fun i => if h : i < n then (each i h).choose else ru0), ?_, by simp, Nat.le_trans hl hm⟩
    obtain ⟨b, off, spot⟩ := x
    intro i q hq
    have hi : i < n := by
      have := (List.getElem?_eq_some_iff.1 hq).1
      simpa using this
    have hq' : q = (each i hi).choose := by
      rw [List.getElem?_map, List.getElem?_range hi] at hq
      simpa [hi] using hq.symm
    have hs := (each i hi).choose_spec
    rw [← hq'] at hs
    have hspot : spot = none := by
      obtain ⟨r0, hr0⟩ := each 0 (by omega)
      have h2 : W.cell? (Addr.add ⟨b, off, spot⟩ (0 * 8 + 0)) = some (.int .i64 r0.a) := hr0 0 (by omega)
      simpa [Addr.add] using World.cell?_spot h2
    subst hspot
    refine ⟨b, off, rfl, fun j hj => ?_⟩
    have := hs j hj
    rw [Addr.add_lit] at this
    rw [Nat.add_assoc]
    exact this

end Go.Proofs.YtkbdmcimgepakaaGreat

namespace Go.Proofs.YtkbdmcimgepakaaGreat
open Go.RowKit
set_option linter.unusedVariables false

/-- A hold time. -/
abbrev HoP (x : Int) : Prop := x = 0 ∨ (3 ≤ x ∧ x ≤ 200)
/-- The numbers of a configuration. -/
abbrev CfP (sa si ho : Int) : Prop := (1 ≤ sa ∧ sa ≤ 65535) ∧ (1 ≤ si ∧ si ≤ 65535) ∧ HoP ho
/-- The numbers of a session. -/
abbrev SsP (st pe ho si sp : Int) : Prop := (0 ≤ st ∧ st ≤ 3) ∧ (0 ≤ pe ∧ pe ≤ 65535) ∧ HoP ho ∧ (0 ≤ si ∧ si ≤ 1000) ∧ (0 ≤ sp ∧ sp ≤ 1000)
/-- The fault of a configuration. -/
def cf (sa si ho : Int) : Int := if CfP sa si ho then 0 else 3
/-- The fault of a session. -/
def sf (st pe ho si sp : Int) : Int :=
  if SsP st pe ho si sp then (if st = 0 then (if pe = 0 ∧ ho = 0 ∧ si = 0 ∧ sp = 0 then 0 else 1) else if st = 1 then (if pe = 0 ∧ ho = 0 then 0 else 1) else if pe = 0 then 1 else 0) else 3
theorem ret5_bool {a b : Bool} (h : a = b) : Ending.returned (.bool a) = .returned (.bool b) := by rw [h]

theorem sys5_yes (x : Int) (w : World) (h : 1 ≤ x ∧ x ≤ 65535) : Calls Tryz.prog 114 #[.int .i64 x] w fun e w' => e = .returned (.bool true) ∧ w' = w := by
  obtain ⟨h1, h2⟩ := h
  go_enter Tryz.func114, Tryz.ntmps114
  go_wp2
  go_ret
  exact ⟨by simp, rfl⟩

theorem sys5_no (x : Int) (w : World) (h : ¬ (1 ≤ x ∧ x ≤ 65535)) : Calls Tryz.prog 114 #[.int .i64 x] w fun e w' => e = .returned (.bool false) ∧ w' = w := by
  by_cases h1 : 1 ≤ x
  · have h2 : 65535 < x := by omega
    clear h
    go_enter Tryz.func114, Tryz.ntmps114
    go_wp2
    go_ret
    exact ⟨by simp; omega, rfl⟩
  · clear h
    go_enter Tryz.func114, Tryz.ntmps114
    go_wp2
    go_ret
    exact ⟨rfl, rfl⟩

theorem id5_yes (x : Int) (w : World) (h : 1 ≤ x ∧ x ≤ 65535) : Calls Tryz.prog 115 #[.int .i64 x] w fun e w' => e = .returned (.bool true) ∧ w' = w := by
  obtain ⟨h1, h2⟩ := h
  go_enter Tryz.func115, Tryz.ntmps115
  go_wp2
  go_ret
  exact ⟨by simp, rfl⟩

theorem id5_no (x : Int) (w : World) (h : ¬ (1 ≤ x ∧ x ≤ 65535)) : Calls Tryz.prog 115 #[.int .i64 x] w fun e w' => e = .returned (.bool false) ∧ w' = w := by
  by_cases h1 : 1 ≤ x
  · have h2 : 65535 < x := by omega
    clear h
    go_enter Tryz.func115, Tryz.ntmps115
    go_wp2
    go_ret
    exact ⟨by simp; omega, rfl⟩
  · clear h
    go_enter Tryz.func115, Tryz.ntmps115
    go_wp2
    go_ret
    exact ⟨rfl, rfl⟩

theorem hold5_yes (x : Int) (w : World) (h : HoP x) : Calls Tryz.prog 116 #[.int .i64 x] w fun e w' => e = .returned (.bool true) ∧ w' = w := by
  by_cases h0 : x = 0
  · subst h0
    go_enter Tryz.func116, Tryz.ntmps116
    go_wp2
    go_ret
    exact ⟨rfl, rfl⟩
  · have e0 : (x == 0) = false := by simpa using h0
    obtain ⟨h1, h2⟩ : 3 ≤ x ∧ x ≤ 200 := by rcases h with h | h <;> omega
    clear h
    go_enter Tryz.func116, Tryz.ntmps116
    go_wp2
    go_ret
    exact ⟨by simp, rfl⟩

theorem hold5_no (x : Int) (w : World) (h : ¬ HoP x) : Calls Tryz.prog 116 #[.int .i64 x] w fun e w' => e = .returned (.bool false) ∧ w' = w := by
  have h0 : ¬ x = 0 := fun e => h (.inl e)
  have e0 : (x == 0) = false := by simpa using h0
  by_cases h1 : 3 ≤ x
  · have h2 : 200 < x := by
      rcases Int.lt_or_le 200 x with q | q
      · exact q
      · exact absurd (Or.inr ⟨h1, q⟩) h
    clear h
    go_enter Tryz.func116, Tryz.ntmps116
    go_wp2
    go_ret
    exact ⟨by simp; omega, rfl⟩
  · clear h
    go_enter Tryz.func116, Tryz.ntmps116
    go_wp2
    go_ret
    exact ⟨rfl, rfl⟩

theorem holdS5_yes (x : Int) (w : World) (h : HoP x) : Calls Tryz.prog 109 #[.int .i64 x] w fun e w' => e = .returned (.bool true) ∧ w' = w := by
  by_cases h0 : x = 0
  · subst h0
    go_enter Tryz.func109, Tryz.ntmps109
    go_wp2
    go_ret
    exact ⟨rfl, rfl⟩
  · have e0 : (x == 0) = false := by simpa using h0
    have h1 : 3 ≤ x ∧ x ≤ 200 := by rcases h with h | h <;> omega
    clear h
    go_enter Tryz.func109, Tryz.ntmps109
    go_wp2_with fail
    refine (in_yes _ _ _ _ h1).mono ?_
    rintro e w1 ⟨rfl, rfl⟩
    go_wp2
    go_ret
    exact ⟨rfl, rfl⟩

theorem holdS5_no (x : Int) (w : World) (h : ¬ HoP x) : Calls Tryz.prog 109 #[.int .i64 x] w fun e w' => e = .returned (.bool false) ∧ w' = w := by
  have h0 : ¬ x = 0 := fun e => h (.inl e)
  have e0 : (x == 0) = false := by simpa using h0
  have h1 : x < 3 ∨ 200 < x := by
    by_cases q : 3 ≤ x ∧ x ≤ 200
    · exact absurd (.inr q) h
    · omega
  clear h
  go_enter Tryz.func109, Tryz.ntmps109
  go_wp2_with fail
  refine (in_no _ _ _ _ h1).mono ?_
  rintro e w1 ⟨rfl, rfl⟩
  go_wp2
  go_ret
  exact ⟨rfl, rfl⟩

theorem word5_yes (x : Int) (w : World) (h : 0 ≤ x ∧ x ≤ 65535) : Calls Tryz.prog 130 #[.int .i64 x] w fun e w' => e = .returned (.bool true) ∧ w' = w := by
  go_enter Tryz.func130, Tryz.ntmps130
  go_wp2_with fail
  refine (in_yes _ _ _ _ h).mono ?_
  rintro e w1 ⟨rfl, rfl⟩
  go_wp2
  go_ret
  exact ⟨rfl, rfl⟩

theorem word5_no (x : Int) (w : World) (h : ¬ (0 ≤ x ∧ x ≤ 65535)) : Calls Tryz.prog 130 #[.int .i64 x] w fun e w' => e = .returned (.bool false) ∧ w' = w := by
  go_enter Tryz.func130, Tryz.ntmps130
  go_wp2_with fail
  refine (in_no _ _ _ _ (by omega)).mono ?_
  rintro e w1 ⟨rfl, rfl⟩
  go_wp2
  go_ret
  exact ⟨rfl, rfl⟩

theorem in5_no (v lo hi : Int) (w : World) (h : ¬ (lo ≤ v ∧ v ≤ hi)) : Calls Tryz.prog 88 #[.int .i64 v, .int .i64 lo, .int .i64 hi] w fun e w' => e = .returned (.bool false) ∧ w' = w :=
  in_no v lo hi w (by omega)

end Go.Proofs.YtkbdmcimgepakaaGreat
