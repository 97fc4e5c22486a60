/- What is proved here: facts on rules and lists of rules in memory, and what a rule's fault is. No condition. What is proved here: what the judging of a rule and of a list of rules answers, in the program and in the model, for every list of at most 1048576 rules. What is proved here: what the copying and the comparing of rules and of lists of rules answer, for every list of at most 1048576 rules. What is proved here: how an argument that is a list of prefixes comes in. No condition. What is proved here: how an argument that is attributes or an update comes in. No condition. What is proved here: how an argument that is a rule or a list of rules comes in. No condition. -/
import Derived.Test.YtlkhmnjghdbmoaaGreatDoorAtLaw
import Derived.Test.YtlkhmnjghdbmoaaGreatDoorPsFn
import Derived.Deep.SlicePairs
namespace Go.Proofs.YtlkhmnjghdbmoaaGreatDoor
open Go.RowKit Go.Sort
set_option linter.unusedVariables false

/-- A rule. -/
structure Ru where
  a : Int
  l : Int
  ls : Int
  ms : Int
  s : Int
  d : Bool
  lc : Int
  pp : Int

/-- The cells of a rule. -/
def Ru.cs (r : Ru) : List Value := [.int .i64 r.a, .int .i64 r.l, .int .i64 r.ls, .int .i64 r.ms, .int .i64 r.s, .bool r.d, .int .i64 r.lc, .int .i64 r.pp]

/-- The numbers of a rule are in their bounds. -/
abbrev RuB (ls ms s lc pp : Int) : Prop := (0 ≤ ls ∧ ls ≤ 16) ∧ (0 ≤ ms ∧ ms ≤ 16) ∧ Wd s ∧ (-1 ≤ lc ∧ lc ≤ 65535) ∧ (0 ≤ pp ∧ pp ≤ 3)
/-- The parts of a rule do not fit. -/
abbrev RuX (ls ms : Int) (d : Bool) (lc pp : Int) : Prop := ms < ls ∨ (d = true ∧ (lc ≠ -1 ∨ pp ≠ 0))
/-- The fault of a rule. -/
def rf (a l ls ms s : Int) (d : Bool) (lc pp : Int) : Int := if pf a l = 0 then (if RuB ls ms s lc pp then (if RuX ls ms d lc pp then 1 else 0) else 3) else pf a l
def Ru.f (r : Ru) : Int := rf r.a r.l r.ls r.ms r.s r.d r.lc r.pp

def rfc : List Ru → Int
  | [] => 0
  | r :: q => if r.f = 0 then rfc q else r.f
/-- The fault of a list of rules. -/
def rsf (rs : List Ru) : Int := if 8 < rs.length then 2 else rfc rs

theorem rfc_next {rs : List Ru} {k : Nat} {r : Ru} (h : rs[k]? = some r) : rfc (rs.drop k) = if r.f = 0 then rfc (rs.drop (k + 1)) else r.f := by
  obtain ⟨hk, e⟩ := List.getElem?_eq_some_iff.1 h
  rw [List.drop_eq_getElem_cons hk, e]
  rfl
theorem rfc_ok {rs : List Ru} (h : rfc rs = 0) : ∀ r ∈ rs, r.f = 0 := by
  induction rs with
  | nil => simp
  | cons q r ih =>
    unfold rfc at h
    by_cases hq : q.f = 0
    · rw [if_pos hq] at h
      intro p hp
      rcases List.mem_cons.1 hp with rfl | hp
      · exact hq
      · exact ih h p hp
    · rw [if_neg hq] at h
      exact absurd h hq
theorem rsf_ok {rs : List Ru} (h : rsf rs = 0) : rs.length ≤ 8 ∧ ∀ r ∈ rs, r.f = 0 := by
  unfold rsf at h
  split at h
  · omega
  · exact ⟨by omega, rfc_ok h⟩

/-- The address leads to the rules rs. -/
def RsAt (w : World) (a : Option Addr) (rs : List Ru) : Prop :=
  ∀ i r, rs[i]? = some r → ∃ b off, a = some ⟨b, off, none⟩ ∧ ∀ j, j < 8 → w.cell? ⟨b, off + i * 8 + j, none⟩ = r.cs[j]?

theorem RsAt.nil (w : World) (a : Option Addr) : RsAt w a [] := by intro i z h; simp at h

theorem RsAt.at {w : World} {a : Option Addr} {rs : List Ru} (h : RsAt w a rs) (i : Nat) (hi : i < rs.length) :
    ∃ b off x l ls ms s d lc pp, a = some ⟨b, off, none⟩ ∧ rs[i]? = some ⟨x, l, ls, ms, s, d, lc, pp⟩ ∧ w.cell? ⟨b, off + i * 8, none⟩ = some (.int .i64 x) ∧ w.cell? ⟨b, off + i * 8 + 1, none⟩ = some (.int .i64 l) ∧ w.cell? ⟨b, off + i * 8 + 2, none⟩ = some (.int .i64 ls) ∧ w.cell? ⟨b, off + i * 8 + 3, none⟩ = some (.int .i64 ms) ∧ w.cell? ⟨b, off + i * 8 + 4, none⟩ = some (.int .i64 s) ∧ w.cell? ⟨b, off + i * 8 + 5, none⟩ = some (.bool d) ∧ w.cell? ⟨b, off + i * 8 + 6, none⟩ = some (.int .i64 lc) ∧ w.cell? ⟨b, off + i * 8 + 7, none⟩ = some (.int .i64 pp) := by
  obtain ⟨b, off, h1, h2⟩ := h i _ (List.getElem?_eq_getElem hi)
  exact ⟨b, off, _, _, _, _, _, _, _, _, h1, List.getElem?_eq_getElem hi, h2 0 (by omega), h2 1 (by omega), h2 2 (by omega), h2 3 (by omega), h2 4 (by omega), h2 5 (by omega), h2 6 (by omega), h2 7 (by omega)⟩

theorem RsAt.turn {w w' : World} {a : Option Addr} {rs : List Ru} {S : Nat → Prop} (h : RsAt w a rs) (t : Turn S w w') (hS : ∀ x, rs ≠ [] → a = some x → ¬ S x.block) : RsAt w' a rs := by
  intro i p hp
  obtain ⟨b, off, ha, hc⟩ := h i p hp
  have h0 : w.cell? ⟨b, off + i * 8, none⟩ = some (.int .i64 p.a) := hc 0 (by omega)
  have hb' := t.block b (World.block_lt_of_cell? w _ h0) (hS _ (by rintro rfl; simp at hp) ha)
  exact ⟨b, off, ha, fun j hj => (World.cell?_of_block hb').trans (hc j hj)⟩

theorem RsAt.new {w w' : World} {a : Option Addr} {rs : List Ru} (h : RsAt w a rs) (t : New w w') : RsAt w' a rs := h.turn t (fun _ _ _ f => f)

def cellsR (rs : List Ru) : List Value := rs.flatMap Ru.cs
theorem cellsR_cons (r : Ru) (rs : List Ru) : cellsR (r :: rs) = .int .i64 r.a :: .int .i64 r.l :: .int .i64 r.ls :: .int .i64 r.ms :: .int .i64 r.s :: .bool r.d :: .int .i64 r.lc :: .int .i64 r.pp :: cellsR rs := rfl
theorem cellsR_app (r : Ru) (rs : List Ru) : cellsR (r :: rs) = r.cs ++ cellsR rs := rfl
theorem cellsR_len : ∀ rs : List Ru, (cellsR rs).length = rs.length * 8
  | [] => rfl
  | r :: rs => by rw [cellsR_app, List.length_append, cellsR_len rs, List.length_cons]; simp [Ru.cs]; omega
theorem cellsR_get : ∀ (rs : List Ru) (i : Nat) (r : Ru), rs[i]? = some r → ∀ j, j < 8 → (cellsR rs)[i * 8 + j]? = r.cs[j]?
  | [], i, p, h => by simp at h
  | q :: rs, 0, p, h => by
    intro j hj
    simp at h
    subst h
    rw [cellsR_app, Nat.zero_mul, Nat.zero_add, List.getElem?_append_left (by simpa [Ru.cs] using hj)]
  | q :: rs, i + 1, p, h => by
    intro j hj
    have h' : rs[i]? = some p := by simpa using h
    rw [cellsR_app, List.getElem?_append_right (by simp [Ru.cs]; omega), show (i + 1) * 8 + j - q.cs.length = i * 8 + j by simp [Ru.cs]; omega]
    exact cellsR_get rs i p h' j hj
theorem cellsR_set : ∀ (rs : List Ru) (i : Nat) (r : Ru), ((((((((cellsR rs).set (i * 8) (.int .i64 r.a)).set (i * 8 + 1) (.int .i64 r.l)).set (i * 8 + 2) (.int .i64 r.ls)).set (i * 8 + 3) (.int .i64 r.ms)).set (i * 8 + 4) (.int .i64 r.s)).set (i * 8 + 5) (.bool r.d)).set (i * 8 + 6) (.int .i64 r.lc)).set (i * 8 + 7) (.int .i64 r.pp) = cellsR (rs.set i r)
  | [], i, p => by simp [cellsR]
  | q :: rs, 0, p => by simp [cellsR_cons]
  | q :: rs, i + 1, p => by
    have ih := cellsR_set rs i p
    rw [show (i + 1) * 8 = i * 8 + 8 by omega, cellsR_cons, show (q :: rs).set (i + 1) p = q :: rs.set i p from rfl, cellsR_cons, ← ih]
    simp only [Nat.add_assoc, Nat.reduceAdd, List.set_cons_succ]

/-- The block g is a row of rules that a call has made. -/
def OwR (w : World) (g n c : Nat) (rs : List Ru) : Prop := w.ownsRow 0 143 8 (.slice (some ⟨g, 0, none⟩) n c) n (cellsR rs)

theorem OwR.len {w : World} {g n c : Nat} {rs : List Ru} (h : OwR w g n c rs) : rs.length = n := by
  have := h.1
  rw [cellsR_len] at this
  omega
theorem OwR.lt {w : World} {g n c : Nat} {rs : List Ru} (h : OwR w g n c rs) : g < w.heap.size := (World.ownsRow.lt h g rfl).2
theorem OwR.turn {w w' : World} {g n c : Nat} {rs : List Ru} {S : Nat → Prop} (h : OwR w g n c rs) (t : Turn S w w') (hS : ¬ S g) : OwR w' g n c rs := by
  have hg := h.lt
  refine ⟨h.1, ?_⟩
  rcases h.2 with ⟨h', _⟩ | ⟨g', cap', cur, h', r⟩
  · simp at h'
  · simp only [Value.slice.injEq, Option.some.injEq, Addr.mk.injEq, and_true, true_and] at h'
    obtain ⟨rfl, rfl⟩ := h'
    exact .inr ⟨g, c, cur, rfl, r.1, (t.block g hg hS).trans r.2.1, r.2.2⟩
theorem OwR.new {w w' : World} {g n c : Nat} {rs : List Ru} (h : OwR w g n c rs) (t : New w w') : OwR w' g n c rs := h.turn t (fun f => f)
theorem OwR.rs {w : World} {g n c : Nat} {rs : List Ru} (h : OwR w g n c rs) : RsAt w (some ⟨g, 0, none⟩) rs := by
  intro i p hp
  have hl := h.len
  have hi : i < rs.length := (List.getElem?_eq_some_iff.1 hp).1
  refine ⟨g, 0, rfl, fun j hj => ?_⟩
  rw [Nat.zero_add, World.ownsRow.cellAt h (i * 8 + j) (by omega)]
  exact cellsR_get rs i p hp j hj
theorem OwR.put {w : World} {g n c : Nat} {rs : List Ru} (h : OwR w g n c rs) (i : Nat) (a l ls ms s : Int) (d : Bool) (lc pp : Int) : OwR ((((((((w.setCell ⟨g, i * 8, none⟩ (.int .i64 a)).setCell ⟨g, i * 8 + 1, none⟩ (.int .i64 l)).setCell ⟨g, i * 8 + 2, none⟩ (.int .i64 ls)).setCell ⟨g, i * 8 + 3, none⟩ (.int .i64 ms)).setCell ⟨g, i * 8 + 4, none⟩ (.int .i64 s)).setCell ⟨g, i * 8 + 5, none⟩ (.bool d)).setCell ⟨g, i * 8 + 6, none⟩ (.int .i64 lc)).setCell ⟨g, i * 8 + 7, none⟩ (.int .i64 pp)) g n c (rs.set i ⟨a, l, ls, ms, s, d, lc, pp⟩) := by
  have h1 := (World.ownsRow.stored h (i * 8) (.int .i64 a)).1
  have h2 := (World.ownsRow.stored h1 (i * 8 + 1) (.int .i64 l)).1
  have h3 := (World.ownsRow.stored h2 (i * 8 + 2) (.int .i64 ls)).1
  have h4 := (World.ownsRow.stored h3 (i * 8 + 3) (.int .i64 ms)).1
  have h5 := (World.ownsRow.stored h4 (i * 8 + 4) (.int .i64 s)).1
  have h6 := (World.ownsRow.stored h5 (i * 8 + 5) (.bool d)).1
  have h7 := (World.ownsRow.stored h6 (i * 8 + 6) (.int .i64 lc)).1
  have h8 := (World.ownsRow.stored h7 (i * 8 + 7) (.int .i64 pp)).1
  unfold OwR
  rw [← cellsR_set rs i ⟨a, l, ls, ms, s, d, lc, pp⟩]
  exact h8
theorem OwR.cell {w : World} {g n c : Nat} {rs : List Ru} (h : OwR w g n c rs) (j : Nat) (hj : j < n * 8) : ∃ v, w.cell? ⟨g, j, none⟩ = some v := by
  have hl := cellsR_len rs
  have := h.len
  exact ⟨_, (World.ownsRow.cellAt h j hj).trans (List.getElem?_eq_getElem (by omega))⟩

/-- The rule of zeros. -/
def ru0 : Ru := ⟨0, 0, 0, 0, 0, false, 0, 0⟩
theorem made_ru (n : Nat) : (madeCells #[.int .i64 0, .int .i64 0, .int .i64 0, .int .i64 0, .int .i64 0, .bool false, .int .i64 0, .int .i64 0] (n * 8)).toList = cellsR (List.replicate n ru0) := by
  apply List.ext_getElem?
  intro k
  by_cases hk : k < n * 8
  · have h1 : (cellsR (List.replicate n ru0))[k / 8 * 8 + k % 8]? = ru0.cs[k % 8]? := cellsR_get _ (k / 8) ru0 (by rw [List.getElem?_replicate]; simp; omega) (k % 8) (by omega)
    rw [show k / 8 * 8 + k % 8 = k by omega] at h1
    rw [h1]
    simp only [madeCells, Array.toList_map, Array.toList_range, List.getElem?_map, List.getElem?_range hk, Option.map_some]
    have h8 : k % 8 = 0 ∨ k % 8 = 1 ∨ k % 8 = 2 ∨ k % 8 = 3 ∨ k % 8 = 4 ∨ k % 8 = 5 ∨ k % 8 = 6 ∨ k % 8 = 7 := by omega
    rcases h8 with e | e | e | e | e | e | e | e <;> simp [e, Ru.cs, ru0]
  · rw [List.getElem?_eq_none (by simp [madeCells]; omega), List.getElem?_eq_none (by rw [cellsR_len]; simp; omega)]

theorem set_fillR (rs : List Ru) (k n : Nat) (hn : rs.length = n) (p : Ru) (hp : rs[k]? = some p) :
    (rs.take k ++ List.replicate (n - k) ru0).set k p = rs.take (k + 1) ++ List.replicate (n - (k + 1)) ru0 := by
  obtain ⟨hk, rfl⟩ := List.getElem?_eq_some_iff.1 hp
  have hl : (rs.take k).length = k := by simp; omega
  rw [List.set_append_right _ _ (by omega), hl, Nat.sub_self, show n - k = (n - (k + 1)) + 1 by omega, List.replicate_succ, List.set_cons_zero, List.take_succ_eq_append_getElem hk, List.append_assoc]
  rfl

theorem szRs_ok (a : Option Addr) (n c l : Nat) (w : World) (hl : l ≤ 1048576) (h : n ≤ l) : Calls Tryz.prog 32 #[.slice a n c, .int .i64 l] w fun e w' => e = .returned (.int .i64 ((l : Int) - n)) ∧ w' = w := by
  go_enter Tryz.func32, Tryz.ntmps32
  go_wp2
  go_ret
  exact ⟨rfl, rfl⟩

theorem szRs_big (a : Option Addr) (n c l : Nat) (w : World) (hl : l ≤ 1048576) (hn : n ≤ maxLen) (h : l < n) : Calls Tryz.prog 32 #[.slice a n c, .int .i64 l] w fun e w' => e = .returned (.int .i64 (-1)) ∧ w' = w := by
  unfold maxLen at hn
  go_enter Tryz.func32, Tryz.ntmps32
  go_wp2
  go_ret
  exact ⟨rfl, rfl⟩

theorem Tryz.infoRu : (Tryz.prog.info? 143).map (fun i => (i.zero, i.size, i.bytes)) = some (some (.agg #[.int .i64 0, .int .i64 0, .int .i64 0, .int .i64 0, .int .i64 0, .bool false, .int .i64 0, .int .i64 0]), 8, 64) := by kernel_rfl

end Go.Proofs.YtlkhmnjghdbmoaaGreatDoor

namespace Go.Proofs.YtlkhmnjghdbmoaaGreatDoor
open Go.RowKit Go.Sort
set_option linter.unusedVariables false

theorem isLen_yes (x : Int) (w : World) (h : 0 ≤ x ∧ x ≤ 16) : Calls Tryz.prog 123 #[.int .i64 x] w fun e w' => e = .returned (.bool true) ∧ w' = w := by
  obtain ⟨h1, h2⟩ := h
  go_enter Tryz.func123, Tryz.ntmps123
  go_wp2
  go_ret
  exact ⟨by simp, rfl⟩

theorem isLen_no (x : Int) (w : World) (h : x < 0 ∨ 16 < x) : Calls Tryz.prog 123 #[.int .i64 x] w fun e w' => e = .returned (.bool false) ∧ w' = w := by
  by_cases h1 : 0 ≤ x
  · have h2 : 16 < x := by omega
    go_enter Tryz.func123, Tryz.ntmps123
    go_wp2
    go_ret
    exact ⟨by simp; omega, rfl⟩
  · go_enter Tryz.func123, Tryz.ntmps123
    go_wp2
    go_ret
    exact ⟨rfl, rfl⟩

theorem newLc_yes (x : Int) (w : World) (h : -1 ≤ x ∧ x ≤ 65535) : Calls Tryz.prog 125 #[.int .i64 x] w fun e w' => e = .returned (.bool true) ∧ w' = w := by
  by_cases h1 : x = -1
  · subst h1
    go_enter Tryz.func125, Tryz.ntmps125
    go_wp2
    go_ret
    exact ⟨rfl, rfl⟩
  · have e1 : (x == -1) = false := by simpa using h1
    go_enter Tryz.func125, Tryz.ntmps125
    go_wp2_with fail
    refine (fits_yesA x _ (by omega)).mono ?_
    rintro e w1 ⟨rfl, rfl⟩
    go_wp2
    go_ret
    exact ⟨rfl, rfl⟩

theorem newLc_no (x : Int) (w : World) (h : x < -1 ∨ 65535 < x) : Calls Tryz.prog 125 #[.int .i64 x] w fun e w' => e = .returned (.bool false) ∧ w' = w := by
  have e1 : (x == -1) = false := by simp; omega
  go_enter Tryz.func125, Tryz.ntmps125
  go_wp2_with fail
  refine (fits_noA x _ (by omega)).mono ?_
  rintro e w1 ⟨rfl, rfl⟩
  go_wp2
  go_ret
  exact ⟨rfl, rfl⟩

set_option maxHeartbeats 1600000 in
theorem implRF (a l ls ms s : Int) (d : Bool) (lc pp : Int) (w : World) : Calls Tryz.prog 104 #[.agg #[.int .i64 a, .int .i64 l, .int .i64 ls, .int .i64 ms, .int .i64 s, .bool d, .int .i64 lc, .int .i64 pp]] w fun e w' => e = .returned (.int .i64 (rf a l ls ms s d lc pp)) ∧ New w w' := by
  have hw := (New.refl w).alloc (.cells #[.int .i64 a, .int .i64 l, .int .i64 ls, .int .i64 ms, .int .i64 s, .bool d, .int .i64 lc, .int .i64 pp] 143)
  have b0 := Blk.mk w w.heap.size 143 #[.int .i64 a, .int .i64 l, .int .i64 ls, .int .i64 ms, .int .i64 s, .bool d, .int .i64 lc, .int .i64 pp] rfl
  go_enter Tryz.func104, Tryz.ntmps104
  go_wp2_with fail
  by_cases g0 : pf a l = 0
  case neg =>
    have hx : rf a l ls ms s d lc pp = pf a l := if_neg g0
    have hz : (pf a l != 0) = true := by simpa using g0
    refine (implPF a l _).mono ?_
    rintro e w1 ⟨rfl, hn1⟩
    go_wp2
    go_ret
    exact ⟨ret_i64 hx.symm, hw.trans hn1⟩
  refine (implPF_is a l 0 _ g0).mono ?_
  rintro e w1 ⟨rfl, hn1⟩
  have b1 := b0.new hn1
  have c1 := b1.cells
  have hw1 := hw.trans hn1
  clear b0 hn1 hw
  go_wp2_with fail
  by_cases gA : 0 ≤ ls ∧ ls ≤ 16
  case neg =>
    have hx : rf a l ls ms s d lc pp = 3 := by unfold rf; rw [if_pos g0, if_neg (fun k => gA k.1)]
    refine (isLen_no ls _ (by omega)).mono ?_
    rintro e w2 ⟨rfl, rfl⟩
    go_wp2
    go_ret
    exact ⟨ret_i64 hx.symm, hw1⟩
  refine (isLen_yes ls _ gA).mono ?_
  rintro e w2 ⟨rfl, rfl⟩
  go_wp2_with fail
  by_cases gB : 0 ≤ ms ∧ ms ≤ 16
  case neg =>
    have hx : rf a l ls ms s d lc pp = 3 := by unfold rf; rw [if_pos g0, if_neg (fun k => gB k.2.1)]
    refine (isLen_no ms _ (by omega)).mono ?_
    rintro e w2 ⟨rfl, rfl⟩
    go_wp2
    go_ret
    exact ⟨ret_i64 hx.symm, hw1⟩
  refine (isLen_yes ms _ gB).mono ?_
  rintro e w2 ⟨rfl, rfl⟩
  go_wp2_with fail
  by_cases gC : 0 ≤ s ∧ s ≤ 65535
  case neg =>
    have hx : rf a l ls ms s d lc pp = 3 := by unfold rf; rw [if_pos g0, if_neg (fun k => gC k.2.2.1)]
    refine (fits_noA s _ (by omega)).mono ?_
    rintro e w2 ⟨rfl, rfl⟩
    go_wp2
    go_ret
    exact ⟨ret_i64 hx.symm, hw1⟩
  refine (fits_yesA s _ gC).mono ?_
  rintro e w2 ⟨rfl, rfl⟩
  go_wp2_with fail
  by_cases gD : -1 ≤ lc ∧ lc ≤ 65535
  case neg =>
    have hx : rf a l ls ms s d lc pp = 3 := by unfold rf; rw [if_pos g0, if_neg (fun k => gD k.2.2.2.1)]
    refine (newLc_no lc _ (by omega)).mono ?_
    rintro e w2 ⟨rfl, rfl⟩
    go_wp2
    go_ret
    exact ⟨ret_i64 hx.symm, hw1⟩
  refine (newLc_yes lc _ gD).mono ?_
  rintro e w2 ⟨rfl, rfl⟩
  by_cases gE : 0 ≤ pp ∧ pp ≤ 3
  case neg =>
    have hx : rf a l ls ms s d lc pp = 3 := by unfold rf; rw [if_pos g0, if_neg (fun k => gE k.2.2.2.2)]
    by_cases gF : 0 ≤ pp
    · have gG : 3 < pp := by omega
      go_wp2
      go_ret
      exact ⟨ret_i64 hx.symm, hw1⟩
    · go_wp2
      go_ret
      exact ⟨ret_i64 hx.symm, hw1⟩
  have hB : RuB ls ms s lc pp := ⟨gA, gB, gC, gD, gE⟩
  obtain ⟨gE0, gE1⟩ := gE
  by_cases k1 : ms < ls
  · have hx : rf a l ls ms s d lc pp = 1 := by unfold rf; rw [if_pos g0, if_pos hB, if_pos (Or.inl k1)]
    clear hB g0 gA gB gC gD
    go_wp2
    go_ret
    exact ⟨ret_i64 hx.symm, hw1⟩
  cases d
  · have hx : rf a l ls ms s false lc pp = 0 := by unfold rf; rw [if_pos g0, if_pos hB, if_neg (by simp [RuX]; omega)]
    clear hB g0 gA gB gC gD
    go_wp2
    go_ret
    exact ⟨ret_i64 hx.symm, hw1⟩
  by_cases k2 : lc = -1
  · subst k2
    by_cases k3 : pp = 0
    · subst k3
      have hx : rf a l ls ms s true (-1) 0 = 0 := by unfold rf; rw [if_pos g0, if_pos hB, if_neg (by simp [RuX]; omega)]
      clear hB g0 gA gB gC gD
      go_wp2
      go_ret
      exact ⟨ret_i64 hx.symm, hw1⟩
    · have hx : rf a l ls ms s true (-1) pp = 1 := by unfold rf; rw [if_pos g0, if_pos hB, if_pos (Or.inr ⟨rfl, Or.inr k3⟩)]
      have hz : (pp != 0) = true := by simpa using k3
      clear hB g0 gA gB gC gD
      go_wp2
      go_ret
      exact ⟨ret_i64 hx.symm, hw1⟩
  · have hx : rf a l ls ms s true lc pp = 1 := by unfold rf; rw [if_pos g0, if_pos hB, if_pos (Or.inr ⟨rfl, Or.inl k2⟩)]
    have hz : (lc != -1) = true := by simpa using k2
    clear hB g0 gA gB gC gD
    go_wp2
    go_ret
    exact ⟨ret_i64 hx.symm, hw1⟩

theorem implRF_is (a l ls ms s : Int) (d : Bool) (lc pp : Int) (c : Int) (w : World) (h : rf a l ls ms s d lc pp = c) : Calls Tryz.prog 104 #[.agg #[.int .i64 a, .int .i64 l, .int .i64 ls, .int .i64 ms, .int .i64 s, .bool d, .int .i64 lc, .int .i64 pp]] w fun e w' => e = .returned (.int .i64 c) ∧ New w w' := h ▸ implRF a l ls ms s d lc pp w

set_option maxHeartbeats 1600000 in
theorem specRF (a l ls ms s : Int) (d : Bool) (lc pp : Int) (w : World) : Calls Tryz.prog 96 #[.agg #[.int .i64 a, .int .i64 l, .int .i64 ls, .int .i64 ms, .int .i64 s, .bool d, .int .i64 lc, .int .i64 pp]] w fun e w' => e = .returned (.int .i64 (rf a l ls ms s d lc pp)) ∧ New w w' := by
  have hw := (New.refl w).alloc (.cells #[.int .i64 a, .int .i64 l, .int .i64 ls, .int .i64 ms, .int .i64 s, .bool d, .int .i64 lc, .int .i64 pp] 143)
  have b0 := Blk.mk w w.heap.size 143 #[.int .i64 a, .int .i64 l, .int .i64 ls, .int .i64 ms, .int .i64 s, .bool d, .int .i64 lc, .int .i64 pp] rfl
  go_enter Tryz.func96, Tryz.ntmps96
  go_wp2_with fail
  by_cases g0 : pf a l = 0
  case neg =>
    have hx : rf a l ls ms s d lc pp = pf a l := if_neg g0
    have hz : (pf a l != 0) = true := by simpa using g0
    refine (specPF a l _).mono ?_
    rintro e w1 ⟨rfl, hn1⟩
    go_wp2
    go_ret
    exact ⟨ret_i64 hx.symm, hw.trans hn1⟩
  refine (specPF_is a l 0 _ g0).mono ?_
  rintro e w1 ⟨rfl, hn1⟩
  have b1 := b0.new hn1
  have c1 := b1.cells
  have hw1 := hw.trans hn1
  clear b0 hn1 hw
  go_wp2_with fail
  by_cases gA : 0 ≤ ls ∧ ls ≤ 16
  case neg =>
    have hx : rf a l ls ms s d lc pp = 3 := by unfold rf; rw [if_pos g0, if_neg (fun k => gA k.1)]
    refine (in_no ls 0 16 _ (by omega)).mono ?_
    rintro e w2 ⟨rfl, rfl⟩
    go_wp2
    go_ret
    exact ⟨ret_i64 hx.symm, hw1⟩
  refine (in_yes ls 0 16 _ gA).mono ?_
  rintro e w2 ⟨rfl, rfl⟩
  go_wp2_with fail
  by_cases gB : 0 ≤ ms ∧ ms ≤ 16
  case neg =>
    have hx : rf a l ls ms s d lc pp = 3 := by unfold rf; rw [if_pos g0, if_neg (fun k => gB k.2.1)]
    refine (in_no ms 0 16 _ (by omega)).mono ?_
    rintro e w2 ⟨rfl, rfl⟩
    go_wp2
    go_ret
    exact ⟨ret_i64 hx.symm, hw1⟩
  refine (in_yes ms 0 16 _ gB).mono ?_
  rintro e w2 ⟨rfl, rfl⟩
  go_wp2_with fail
  by_cases gC : 0 ≤ s ∧ s ≤ 65535
  case neg =>
    have hx : rf a l ls ms s d lc pp = 3 := by unfold rf; rw [if_pos g0, if_neg (fun k => gC k.2.2.1)]
    refine (word_no s _ (by omega)).mono ?_
    rintro e w2 ⟨rfl, rfl⟩
    go_wp2
    go_ret
    exact ⟨ret_i64 hx.symm, hw1⟩
  refine (word_yes s _ gC).mono ?_
  rintro e w2 ⟨rfl, rfl⟩
  go_wp2_with fail
  by_cases gD : -1 ≤ lc ∧ lc ≤ 65535
  case neg =>
    have hx : rf a l ls ms s d lc pp = 3 := by unfold rf; rw [if_pos g0, if_neg (fun k => gD k.2.2.2.1)]
    refine (in_no lc (-1) 65535 _ (by omega)).mono ?_
    rintro e w2 ⟨rfl, rfl⟩
    go_wp2
    go_ret
    exact ⟨ret_i64 hx.symm, hw1⟩
  refine (in_yes lc (-1) 65535 _ gD).mono ?_
  rintro e w2 ⟨rfl, rfl⟩
  go_wp2_with fail
  by_cases gE : 0 ≤ pp ∧ pp ≤ 3
  case neg =>
    have hx : rf a l ls ms s d lc pp = 3 := by unfold rf; rw [if_pos g0, if_neg (fun k => gE k.2.2.2.2)]
    refine (in_no pp 0 3 _ (by omega)).mono ?_
    rintro e w2 ⟨rfl, rfl⟩
    go_wp2
    go_ret
    exact ⟨ret_i64 hx.symm, hw1⟩
  refine (in_yes pp 0 3 _ gE).mono ?_
  rintro e w2 ⟨rfl, rfl⟩
  have hB : RuB ls ms s lc pp := ⟨gA, gB, gC, gD, gE⟩
  obtain ⟨gE0, gE1⟩ := gE
  by_cases k1 : ms < ls
  · have hx : rf a l ls ms s d lc pp = 1 := by unfold rf; rw [if_pos g0, if_pos hB, if_pos (Or.inl k1)]
    clear hB g0 gA gB gC gD
    go_wp2
    go_ret
    exact ⟨ret_i64 hx.symm, hw1⟩
  cases d
  · have hx : rf a l ls ms s false lc pp = 0 := by unfold rf; rw [if_pos g0, if_pos hB, if_neg (by simp [RuX]; omega)]
    clear hB g0 gA gB gC gD
    go_wp2
    go_ret
    exact ⟨ret_i64 hx.symm, hw1⟩
  by_cases k2 : lc = -1
  · subst k2
    by_cases k3 : pp = 0
    · subst k3
      have hx : rf a l ls ms s true (-1) 0 = 0 := by unfold rf; rw [if_pos g0, if_pos hB, if_neg (by simp [RuX]; omega)]
      clear hB g0 gA gB gC gD
      go_wp2
      go_ret
      exact ⟨ret_i64 hx.symm, hw1⟩
    · have hx : rf a l ls ms s true (-1) pp = 1 := by unfold rf; rw [if_pos g0, if_pos hB, if_pos (Or.inr ⟨rfl, Or.inr k3⟩)]
      have hz : (pp != 0) = true := by simpa using k3
      clear hB g0 gA gB gC gD
      go_wp2
      go_ret
      exact ⟨ret_i64 hx.symm, hw1⟩
  · have hx : rf a l ls ms s true lc pp = 1 := by unfold rf; rw [if_pos g0, if_pos hB, if_pos (Or.inr ⟨rfl, Or.inl k2⟩)]
    have hz : (lc != -1) = true := by simpa using k2
    clear hB g0 gA gB gC gD
    go_wp2
    go_ret
    exact ⟨ret_i64 hx.symm, hw1⟩

theorem specRF_is (a l ls ms s : Int) (d : Bool) (lc pp : Int) (c : Int) (w : World) (h : rf a l ls ms s d lc pp = c) : Calls Tryz.prog 96 #[.agg #[.int .i64 a, .int .i64 l, .int .i64 ls, .int .i64 ms, .int .i64 s, .bool d, .int .i64 lc, .int .i64 pp]] w fun e w' => e = .returned (.int .i64 c) ∧ New w w' := h ▸ specRF a l ls ms s d lc pp w

set_option maxHeartbeats 1600000 in
theorem implRSF (x : Option Addr) (n c : Nat) (rs : List Ru) (w : World) (h : RsAt w x rs) (hn : rs.length = n) (hm : n ≤ 1048576) : Calls Tryz.prog 80 #[.slice x n c] w fun e w' => e = .returned (.int .i64 (rsf rs)) ∧ New w w' := by
  by_cases hbig : 8 < n
  · have hf : Hid (rsf rs = 2) := by unfold rsf Hid; rw [if_pos (by omega)]
    go_enter Tryz.func80, Tryz.ntmps80
    go_wp2
    go_ret
    exact ⟨ret_i64 hf.out.symm, New.refl _⟩
  · have hf : Hid (rsf rs = rfc (rs.drop 0)) := by unfold rsf Hid; rw [if_neg (by omega)]; rfl
    have HN : Hid (rs.length = n) := hn
    clear hn
    go_enter Tryz.func80, Tryz.ntmps80
    go_wp2
    go_loopw [11] (fun i wr => ∃ k : Nat, k ≤ n ∧ i = .int .i64 k ∧ New w wr ∧ Hid (rsf rs = rfc (rs.drop k))) (fun i _ => n - (intOf i).toNat)
    case atStart => exact ⟨0, Nat.zero_le _, rfl, New.refl _, hf⟩
    case round =>
      obtain ⟨k, hk, rfl, hnw, hl⟩ := hrel
      by_cases hlt : k < n
      · obtain ⟨b, off, a, l, ls, ms, s, d, lc, pp, rfl, hz, c0, c1, c2, c3, c4, c5, c6, c7⟩ := (h.new hnw).at k (by rw [HN.out]; exact hlt)
        have hx := rfc_next hz
        have hw2 := hnw.alloc (.cells #[.int .i64 a, .int .i64 l, .int .i64 ls, .int .i64 ms, .int .i64 s, .bool d, .int .i64 lc, .int .i64 pp] 143)
        by_cases hf0 : rf a l ls ms s d lc pp = 0
        · have hl' : Hid (rsf rs = rfc (rs.drop (k + 1))) := by unfold Hid; rw [hl.out, hx]; exact if_pos hf0
          clear hx hz hl
          go_wp2_with fail
          refine (implRF_is a l ls ms s d lc pp 0 _ hf0).mono ?_
          rintro e w2 ⟨rfl, hn2⟩
          go_wp2
          go_roundw
          case rel => exact ⟨k + 1, by omega, by go_num, hw2.trans hn2, hl'⟩
          case measure => simp [intOf]; omega
        · have hl' : Hid (rsf rs = rf a l ls ms s d lc pp) := by unfold Hid; rw [hl.out, hx]; exact if_neg hf0
          have hz0 : (rf a l ls ms s d lc pp != 0) = true := by simpa using hf0
          clear hx hz hl
          go_wp2_with fail
          refine (implRF a l ls ms s d lc pp _).mono ?_
          rintro e w2 ⟨rfl, hn2⟩
          go_wp2
          go_ret
          exact ⟨ret_i64 hl'.out.symm, hw2.trans hn2⟩
      · have hl' : Hid (rsf rs = 0) := by
          unfold Hid
          rw [hl.out, List.drop_of_length_le (by rw [HN.out]; omega)]
          rfl
        go_wp2
        go_ret
        exact ⟨ret_i64 hl'.out.symm, hnw⟩

set_option maxHeartbeats 1600000 in
theorem specRSF (x : Option Addr) (n c : Nat) (rs : List Ru) (w : World) (h : RsAt w x rs) (hn : rs.length = n) (hm : n ≤ 1048576) : Calls Tryz.prog 68 #[.slice x n c] w fun e w' => e = .returned (.int .i64 (rsf rs)) ∧ New w w' := by
  by_cases hbig : 8 < n
  · have hf : Hid (rsf rs = 2) := by unfold rsf Hid; rw [if_pos (by omega)]
    go_enter Tryz.func68, Tryz.ntmps68
    go_wp2
    go_ret
    exact ⟨ret_i64 hf.out.symm, New.refl _⟩
  · have hf : Hid (rsf rs = rfc (rs.drop 0)) := by unfold rsf Hid; rw [if_neg (by omega)]; rfl
    have HN : Hid (rs.length = n) := hn
    clear hn
    go_enter Tryz.func68, Tryz.ntmps68
    go_wp2
    go_loopw [3] (fun i wr => ∃ k : Nat, k ≤ n ∧ i = .int .i64 k ∧ New w wr ∧ Hid (rsf rs = rfc (rs.drop k))) (fun i _ => n - (intOf i).toNat)
    case atStart => exact ⟨0, Nat.zero_le _, rfl, New.refl _, hf⟩
    case round =>
      obtain ⟨k, hk, rfl, hnw, hl⟩ := hrel
      by_cases hlt : k < n
      · obtain ⟨b, off, a, l, ls, ms, s, d, lc, pp, rfl, hz, c0, c1, c2, c3, c4, c5, c6, c7⟩ := (h.new hnw).at k (by rw [HN.out]; exact hlt)
        have hx := rfc_next hz
        have hw2 := hnw
        by_cases hf0 : rf a l ls ms s d lc pp = 0
        · have hl' : Hid (rsf rs = rfc (rs.drop (k + 1))) := by unfold Hid; rw [hl.out, hx]; exact if_pos hf0
          clear hx hz hl
          go_wp2_with fail
          refine (specRF_is a l ls ms s d lc pp 0 _ hf0).mono ?_
          rintro e w2 ⟨rfl, hn2⟩
          go_wp2
          go_roundw
          case rel => exact ⟨k + 1, by omega, by go_num, hw2.trans hn2, hl'⟩
          case measure => simp [intOf]; omega
        · have hl' : Hid (rsf rs = rf a l ls ms s d lc pp) := by unfold Hid; rw [hl.out, hx]; exact if_neg hf0
          have hz0 : (rf a l ls ms s d lc pp != 0) = true := by simpa using hf0
          clear hx hz hl
          go_wp2_with fail
          refine (specRF a l ls ms s d lc pp _).mono ?_
          rintro e w2 ⟨rfl, hn2⟩
          go_wp2
          go_ret
          exact ⟨ret_i64 hl'.out.symm, hw2.trans hn2⟩
      · have hl' : Hid (rsf rs = 0) := by
          unfold Hid
          rw [hl.out, List.drop_of_length_le (by rw [HN.out]; omega)]
          rfl
        go_wp2
        go_ret
        exact ⟨ret_i64 hl'.out.symm, hnw⟩

end Go.Proofs.YtlkhmnjghdbmoaaGreatDoor

namespace Go.Proofs.YtlkhmnjghdbmoaaGreatDoor
open Go.RowKit Go.Sort
set_option linter.unusedVariables false

set_option maxHeartbeats 1600000 in
theorem toRule_any (a l ls ms s : Int) (d : Bool) (lc pp : Int) (w : World) : Calls Tryz.prog 75 #[.agg #[.int .i64 a, .int .i64 l, .int .i64 ls, .int .i64 ms, .int .i64 s, .bool d, .int .i64 lc, .int .i64 pp]] w fun e w' => e = .returned (.agg #[.int .i64 a, .int .i64 l, .int .i64 ls, .int .i64 ms, .int .i64 s, .bool d, .int .i64 lc, .int .i64 pp]) ∧ New w w' := by
  have hw0 := (((New.refl w).alloc (.cells #[.int .i64 a, .int .i64 l, .int .i64 ls, .int .i64 ms, .int .i64 s, .bool d, .int .i64 lc, .int .i64 pp] 147)).alloc (.cells #[.int .i64 0, .int .i64 0, .int .i64 0, .int .i64 0, .int .i64 0, .bool false, .int .i64 0, .int .i64 0] 143)).alloc (.cells #[.int .i64 0, .int .i64 0, .int .i64 0, .int .i64 0, .int .i64 0, .bool false, .int .i64 0, .int .i64 0] 143)
  have b0 : Blk (((w.alloc (.cells #[.int .i64 a, .int .i64 l, .int .i64 ls, .int .i64 ms, .int .i64 s, .bool d, .int .i64 lc, .int .i64 pp] 147)).alloc (.cells #[.int .i64 0, .int .i64 0, .int .i64 0, .int .i64 0, .int .i64 0, .bool false, .int .i64 0, .int .i64 0] 143)).alloc (.cells #[.int .i64 0, .int .i64 0, .int .i64 0, .int .i64 0, .int .i64 0, .bool false, .int .i64 0, .int .i64 0] 143)) w.heap.size 147 #[.int .i64 a, .int .i64 l, .int .i64 ls, .int .i64 ms, .int .i64 s, .bool d, .int .i64 lc, .int .i64 pp] := ((Blk.mk _ _ _ _ rfl).alloc _).alloc _
  have b1 : Blk (((w.alloc (.cells #[.int .i64 a, .int .i64 l, .int .i64 ls, .int .i64 ms, .int .i64 s, .bool d, .int .i64 lc, .int .i64 pp] 147)).alloc (.cells #[.int .i64 0, .int .i64 0, .int .i64 0, .int .i64 0, .int .i64 0, .bool false, .int .i64 0, .int .i64 0] 143)).alloc (.cells #[.int .i64 0, .int .i64 0, .int .i64 0, .int .i64 0, .int .i64 0, .bool false, .int .i64 0, .int .i64 0] 143)) (w.heap.size + 1) 143 #[.int .i64 0, .int .i64 0, .int .i64 0, .int .i64 0, .int .i64 0, .bool false, .int .i64 0, .int .i64 0] := (Blk.mk _ _ _ _ (by simp)).alloc _
  have b2 : Blk (((w.alloc (.cells #[.int .i64 a, .int .i64 l, .int .i64 ls, .int .i64 ms, .int .i64 s, .bool d, .int .i64 lc, .int .i64 pp] 147)).alloc (.cells #[.int .i64 0, .int .i64 0, .int .i64 0, .int .i64 0, .int .i64 0, .bool false, .int .i64 0, .int .i64 0] 143)).alloc (.cells #[.int .i64 0, .int .i64 0, .int .i64 0, .int .i64 0, .int .i64 0, .bool false, .int .i64 0, .int .i64 0] 143)) (w.heap.size + 1 + 1) 143 #[.int .i64 0, .int .i64 0, .int .i64 0, .int .i64 0, .int .i64 0, .bool false, .int .i64 0, .int .i64 0] := Blk.mk _ _ _ _ (by simp)
  go_enter Tryz.func75, Tryz.ntmps75
  go_wp2_with fail
  refine (toPrefix_any a l _).mono ?_
  rintro e w1 ⟨rfl, hn1⟩
  have n1 := hw0.trans hn1
  have c0 := (b0.new hn1).cells
  have c1 := (b1.new hn1).cells
  have c2 := (b2.new hn1).cells
  have f1 := (b1.new hn1).frees
  have f2 := (b2.new hn1).frees
  have ge1 : w.heap.size ≤ w.heap.size + 1 := by omega
  have ge2 : w.heap.size ≤ w.heap.size + 1 + 1 := by omega
  clear b0 b1 b2 hn1 hw0
  go_wp2
  refine bodyPost_ret (v := .agg #[.int .i64 a, .int .i64 l, .int .i64 ls, .int .i64 ms, .int .i64 s, .bool d, .int .i64 lc, .int .i64 pp]) (by simp [results, Tryz.results75, go_sem, c1]) rfl ⟨rfl, ?_⟩
  simp (disch := (first | exact ge1 | exact ge2)) only [New.set_iff, n1]

set_option maxHeartbeats 1600000 in
theorem eqRule_any (a l ls ms s : Int) (d : Bool) (lc pp : Int) (w : World) : Calls Tryz.prog 92 #[.agg #[.int .i64 a, .int .i64 l, .int .i64 ls, .int .i64 ms, .int .i64 s, .bool d, .int .i64 lc, .int .i64 pp], .agg #[.int .i64 a, .int .i64 l, .int .i64 ls, .int .i64 ms, .int .i64 s, .bool d, .int .i64 lc, .int .i64 pp]] w fun e w' => e = .returned (.bool true) ∧ New w w' := by
  have hw := ((New.refl w).alloc (.cells #[.int .i64 a, .int .i64 l, .int .i64 ls, .int .i64 ms, .int .i64 s, .bool d, .int .i64 lc, .int .i64 pp] 143)).alloc (.cells #[.int .i64 a, .int .i64 l, .int .i64 ls, .int .i64 ms, .int .i64 s, .bool d, .int .i64 lc, .int .i64 pp] 143)
  have hB : Blk ((w.alloc (.cells #[.int .i64 a, .int .i64 l, .int .i64 ls, .int .i64 ms, .int .i64 s, .bool d, .int .i64 lc, .int .i64 pp] 143)).alloc (.cells #[.int .i64 a, .int .i64 l, .int .i64 ls, .int .i64 ms, .int .i64 s, .bool d, .int .i64 lc, .int .i64 pp] 143)) w.heap.size 143 #[.int .i64 a, .int .i64 l, .int .i64 ls, .int .i64 ms, .int .i64 s, .bool d, .int .i64 lc, .int .i64 pp] := (Blk.mk _ _ _ _ rfl).alloc _
  have hD : Blk ((w.alloc (.cells #[.int .i64 a, .int .i64 l, .int .i64 ls, .int .i64 ms, .int .i64 s, .bool d, .int .i64 lc, .int .i64 pp] 143)).alloc (.cells #[.int .i64 a, .int .i64 l, .int .i64 ls, .int .i64 ms, .int .i64 s, .bool d, .int .i64 lc, .int .i64 pp] 143)) (w.heap.size + 1) 143 #[.int .i64 a, .int .i64 l, .int .i64 ls, .int .i64 ms, .int .i64 s, .bool d, .int .i64 lc, .int .i64 pp] := Blk.mk _ _ _ _ (by simp)
  have z1 : (ls != ls) = false := by simp
  have z2 : (ms != ms) = false := by simp
  have z3 : (s != s) = false := by simp
  have z4 : (lc != lc) = false := by simp
  have z5 : (pp != pp) = false := by simp
  have z6 : (d != d) = false := by simp
  go_enter Tryz.func92, Tryz.ntmps92
  go_wp2_with fail
  refine (eqPrefix_any a l _).mono ?_
  rintro e w1 ⟨rfl, hn1⟩
  have cB := (hB.new hn1).cells
  have cD := (hD.new hn1).cells
  clear hB hD
  go_wp2
  go_ret
  exact ⟨rfl, hw.trans hn1⟩

set_option maxHeartbeats 3200000 in
theorem toRs_any (x : Option Addr) (n c : Nat) (rs : List Ru) (w : World) (h : RsAt w x rs) (hn : rs.length = n) (hm : n ≤ 1048576) :
    Calls Tryz.prog 44 #[.slice x n c] w fun e w' => ∃ g, e = .returned (.slice (some ⟨g, 0, none⟩) n n) ∧ w.heap.size ≤ g ∧ OwR w' g n n rs ∧ New w w' := by
  obtain ⟨i0, hi, hz0, hz1, hz2⟩ := info_parts Tryz.infoRu
  go_enter Tryz.func44, Tryz.ntmps44
  go_wp2_with (at_make; refine wpList_make_full _ rfl _ _ 38 rfl w.heap.size 143 i0 (.agg #[.int .i64 0, .int .i64 0, .int .i64 0, .int .i64 0, .int .i64 0, .bool false, .int .i64 0, .int .i64 0]) 8 Tryz.underlying38 hi hz0 hz1 _ _ _ _ n rfl rfl rfl rfl ?b2 ?b3 (Nat.le_refl _) ?_)
  case b2 => rw [hz2]; omega
  case b3 => unfold maxLen; omega
  intro w0 hown0 hgrow0
  have hown : OwR w0 w.heap.size n n (rs.take 0 ++ List.replicate (n - 0) ru0) := by
    have := own_base hown0
    have e8 := made_ru n
    simp only [OwR, List.take_zero, List.nil_append, Nat.sub_zero]
    rw [← e8]
    exact this
  have hnew := New.of_grown hgrow0
  clear hown0 hgrow0
  go_wp2
  go_loopw [4] (fun i wr => ∃ k : Nat, k ≤ n ∧ i = .int .i64 k ∧ New w wr ∧ OwR wr w.heap.size n n (rs.take k ++ List.replicate (n - k) ru0)) (fun i _ => n - (intOf i).toNat)
  case atStart => exact ⟨0, Nat.zero_le _, rfl, hnew, hown⟩
  case round =>
    obtain ⟨k, hk, rfl, hnw, how⟩ := hrel
    by_cases hlt : k < n
    · obtain ⟨b, off, a, l, ls, ms, s, d, lc, pp, rfl, hz, q0, q1, q2, q3, q4, q5, q6, q7⟩ := (h.new hnw).at k (by omega)
      go_wp2_with fail
      refine (toRule_any a l ls ms s d lc pp _).mono ?_
      rintro e w1 ⟨rfl, hn1⟩
      have how1 := how.new hn1
      have hput := how1.put k a l ls ms s d lc pp
      rw [set_fillR rs k n hn _ hz] at hput
      have hn2 := hnw.trans hn1
      have f0 := fun j => World.ownsRow.frozenAt how1 j
      obtain ⟨v0, c0⟩ := how1.cell (k * 8) (by omega)
      obtain ⟨v1, c1⟩ := how1.cell (k * 8 + 1) (by omega)
      obtain ⟨v2, c2⟩ := how1.cell (k * 8 + 2) (by omega)
      obtain ⟨v3, c3⟩ := how1.cell (k * 8 + 3) (by omega)
      obtain ⟨v4, c4⟩ := how1.cell (k * 8 + 4) (by omega)
      obtain ⟨v5, c5⟩ := how1.cell (k * 8 + 5) (by omega)
      obtain ⟨v6, c6⟩ := how1.cell (k * 8 + 6) (by omega)
      obtain ⟨v7, c7⟩ := how1.cell (k * 8 + 7) (by omega)
      clear hz h how how1 q0 q1 q2 q3 q4 q5 q6 q7 hnw hn1
      go_wp2
      go_roundw
      case rel => exact ⟨k + 1, by omega, by go_num, ((((((((hn2.setCell (Nat.le_refl _) _).setCell (Nat.le_refl _) _).setCell (Nat.le_refl _) _).setCell (Nat.le_refl _) _).setCell (Nat.le_refl _) _).setCell (Nat.le_refl _) _).setCell (Nat.le_refl _) _).setCell (Nat.le_refl _) _), hput⟩
      case measure => simp [intOf]; omega
    · go_wp2
      go_ret
      refine ⟨_, rfl, Nat.le_refl _, ?_, hnw⟩
      have hkn : k = n := by omega
      subst hkn
      rw [List.take_of_length_le (by omega)] at how
      simpa using how

set_option maxHeartbeats 1600000 in
theorem eqRs_any (x y : Option Addr) (n c e0 : Nat) (rs : List Ru) (w : World) (hF : RsAt w x rs) (hG : RsAt w y rs) (hn : rs.length = n) (hm : n ≤ 1048576) :
    Calls Tryz.prog 59 #[.slice x n c, .slice y n e0] w fun e w' => e = .returned (.bool true) ∧ New w w' := by
  have hnn : ((n : Int) != (n : Int)) = false := by simp
  go_enter Tryz.func59, Tryz.ntmps59
  go_wp2
  go_loopw [5] (fun i wr => ∃ k : Nat, k ≤ n ∧ i = .int .i64 k ∧ New w wr) (fun i _ => n - (intOf i).toNat)
  case atStart => exact ⟨0, Nat.zero_le _, rfl, New.refl _⟩
  case round =>
    obtain ⟨k, hk, rfl, hnw⟩ := hrel
    by_cases hlt : k < n
    · obtain ⟨g1, o1, a, l, ls, ms, s, d, lc, pp, rfl, hp1, x0, x1, x2, x3, x4, x5, x6, x7⟩ := (hF.new hnw).at k (by omega)
      obtain ⟨g2, o2, a', l', ls', ms', s', d', lc', pp', rfl, hp2, y0, y1, y2, y3, y4, y5, y6, y7⟩ := (hG.new hnw).at k (by omega)
      obtain ⟨rfl, rfl, rfl, rfl, rfl, rfl, rfl, rfl⟩ : a = a' ∧ l = l' ∧ ls = ls' ∧ ms = ms' ∧ s = s' ∧ d = d' ∧ lc = lc' ∧ pp = pp' := by simpa using Option.some.inj (hp1.symm.trans hp2)
      clear hp1 hp2 hF hG
      have X0 := cell_regrown x0
      have X1 := cell_regrown x1
      have X2 := cell_regrown x2
      have X3 := cell_regrown x3
      have X4 := cell_regrown x4
      have X5 := cell_regrown x5
      have X6 := cell_regrown x6
      have X7 := cell_regrown x7
      have Y0 := cell_regrown y0
      have Y1 := cell_regrown y1
      have Y2 := cell_regrown y2
      have Y3 := cell_regrown y3
      have Y4 := cell_regrown y4
      have Y5 := cell_regrown y5
      have Y6 := cell_regrown y6
      have Y7 := cell_regrown y7
      go_wp2_with fail
      refine wp_region_quiet_below (by kernel_rfl) (by kernel_rfl) ?_
      repeat (go_big_quiet_step ((go_at_call 92; exact calls_regrown (eqRule_any a l ls ms s d lc pp _))))
      refine wpQuiet_nil ?_
      rintro w1 hn1
      replace hn1 := new_of_regrown hn1
      go_wp2
      go_roundw
      case rel => exact ⟨k + 1, by omega, by go_num, hnw.trans hn1⟩
      case measure => simp [intOf]; omega
    · go_wp2
      go_ret
      exact ⟨rfl, hnw⟩

end Go.Proofs.YtlkhmnjghdbmoaaGreatDoor

namespace Go.Proofs.YtlkhmnjghdbmoaaGreatDoor
open Go.ChangeShapes Go.WideShapes Go.ChangeAt Go.RowKit Go.Deep

theorem in6_of_wf {x : Int} (h : (Lit.int .i64 x).wf = true) : In6 x := by
  simpa [Lit.wf, IntKind.min, IntKind.max, IntKind.signed, IntKind.bits, In6] using h

end Go.Proofs.YtlkhmnjghdbmoaaGreatDoor

namespace Go.Proofs.YtlkhmnjghdbmoaaGreatDoor
open Go.ChangeShapes Go.WideShapes Go.ChangeAt Go.RowKit Go.Deep

theorem NsAt.of_cells {w : World} {x : Addr} {xs : List Int} (len : Nat) (hcell : ∀ i, i < xs.length → w.cell? (x.add i) = some (.int .i64 (xs.getD i 0))) (hw : ∀ n ∈ xs, (Lit.int .i64 n).wf = true) :
    NsAt w (some x) (xs.take len) := by
  intro i z hz
  rw [List.getElem?_take] at hz
  split at hz
  · obtain ⟨hi, rfl⟩ := List.getElem?_eq_some_iff.1 hz
    have hc := hcell i hi
    obtain ⟨b, off, spot⟩ := x
    have hspot : spot = none := by simpa [Addr.add] using World.cell?_spot (hcell 0 (by omega))
    subst hspot
    rw [Addr.add_lit] at hc
    exact ⟨b, off, rfl, by simpa [List.getD, hi] using hc, in6_of_wf (hw _ (List.getElem_mem hi))⟩
  · cases hz

set_option maxRecDepth 100000 in
theorem open_nums {H : Type} {enc : TypeId × Value → H} {W : World} {base fuel : Nat} {t1 : Nat → Bool} {t2 : Bool} {cs : List Value} {y : DataW H × List MemPlace}
    (hf : DataW.trod enc Tryz.prog W base t1 t2 fuel 138 cs = some y) : ∃ a n c xs, cs = [.slice a n c] ∧ NsAt W a xs ∧ xs.length = n ∧ n ≤ maxLen := by
  rcases open_ints Tryz.underlying138 Tryz.underlying2 (by kernel_rfl) hf with ⟨hcs, _⟩ | ⟨x, l, c, zs, hcs, _, hl, hm, hz, _, hcell, hwz⟩
  · exact ⟨none, 0, 0, [], hcs, NsAt.nil _ _, rfl, Nat.zero_le _⟩
  · have hz' : l ≤ zs.length := by rw [hz]; split <;> omega
    exact ⟨some x, l, c, zs.take l, hcs, NsAt.of_cells l hcell hwz, by rw [List.length_take]; omega, Nat.le_trans hl hm⟩

theorem array5 {α : Type} {cs : Array α} (h : cs.size = 5) : ∃ c0 c1 c2 c3 c4, cs = #[c0, c1, c2, c3, c4] := by
  obtain ⟨l⟩ := cs
  match l, h with
  | [c0, c1, c2, c3, c4], _ => exact ⟨c0, c1, c2, c3, c4, rfl⟩
theorem array8 {α : Type} {cs : Array α} (h : cs.size = 8) : ∃ c0 c1 c2 c3 c4 c5 c6 c7, cs = #[c0, c1, c2, c3, c4, c5, c6, c7] := by
  obtain ⟨l⟩ := cs
  match l, h with
  | [c0, c1, c2, c3, c4, c5, c6, c7], _ => exact ⟨c0, c1, c2, c3, c4, c5, c6, c7, rfl⟩

theorem Tryz.cI64 : Tryz.prog.cellsOf 2 = 1 := by kernel_rfl
theorem Tryz.cNs : Tryz.prog.cellsOf 138 = 1 := by kernel_rfl

end Go.Proofs.YtlkhmnjghdbmoaaGreatDoor

namespace Go.Proofs.YtlkhmnjghdbmoaaGreatDoor
open Go.ChangeShapes Go.WideShapes Go.ChangeAt Go.RowKit Go.Deep

theorem Tryz.cI64R : Tryz.prog.cellsOf 2 = 1 := by kernel_rfl
theorem Tryz.cRu : Tryz.prog.cellsOf 147 = 8 := by kernel_rfl
theorem Tryz.cPx : Tryz.prog.cellsOf 145 = 2 := by kernel_rfl
theorem Tryz.cBlR : Tryz.prog.cellsOf 4 = 1 := by kernel_rfl

set_option maxRecDepth 100000 in
theorem open_rule_cells {H : Type} {enc : TypeId × Value → H} {W : World} {base fuel : Nat} {t1 : Nat → Bool} {t2 : Bool} {c0 c1 c2 c3 c4 c5 c6 c7 : Value} {y : DataW H × List MemPlace}
    (h : DataW.trod enc Tryz.prog W base t1 t2 fuel 147 [c0, c1, c2, c3, c4, c5, c6, c7] = some y) :
    ∃ (r : Ru), [c0, c1, c2, c3, c4, c5, c6, c7] = r.cs ∧ In6 r.pp := by
  obtain ⟨xs, m, _, rfl, hl, hlen, hf⟩ := DataW.trod_struct Tryz.underlying147 h
  match xs, hlen with
  | [y0, y1, y2, y3, y4, y5, y6], _ =>
    have k0 := hf 0 _ rfl
    have k1 := hf 1 _ rfl
    have k2 := hf 2 _ rfl
    have k3 := hf 3 _ rfl
    have k4 := hf 4 _ rfl
    have k5 := hf 5 _ rfl
    have k6 := hf 6 _ rfl
    simp [Tryz.cI64R, Tryz.cPx, Tryz.cBlR] at k0 k1 k2 k3 k4 k5 k6
    obtain ⟨ys, m', _, rfl, hl', hlen', hf'⟩ := DataW.trod_struct Tryz.underlying145 k0
    match ys, hlen' with
    | [z0, z1], _ =>
      have j0 := hf' 0 _ rfl
      have j1 := hf' 1 _ rfl
      simp [Tryz.cI64R] at j0 j1
      obtain ⟨a, e0, -, w0⟩ := DataW.trod_int Tryz.underlying2 j0
      obtain ⟨l, e1, -, w1⟩ := DataW.trod_int Tryz.underlying2 j1
      obtain ⟨ls, e2, -, w2⟩ := DataW.trod_int Tryz.underlying2 k1
      obtain ⟨ms, e3, -, w3⟩ := DataW.trod_int Tryz.underlying2 k2
      obtain ⟨s, e4, -, w4⟩ := DataW.trod_int Tryz.underlying2 k3
      obtain ⟨d, e5, -⟩ := DataW.trod_bool Tryz.underlying4 k4
      obtain ⟨lc, e6, -, w6⟩ := DataW.trod_int Tryz.underlying2 k5
      obtain ⟨pp, e7, -, w7⟩ := DataW.trod_int Tryz.underlying2 k6
      simp only [List.cons.injEq, and_true] at e0 e1 e2 e3 e4 e5 e6 e7
      subst e0 e1 e2 e3 e4 e5 e6 e7
      exact ⟨⟨a, l, ls, ms, s, d, lc, pp⟩, rfl, in6_of_wf w7⟩

set_option maxRecDepth 100000 in
theorem open_rule {H : Type} {enc : TypeId × Value → H} {W : World} {base b0 : Nat} {r : Reach} {t1 : Nat → Bool} {t2 : Bool} {v : Value} {d : DataW H} {p : List MemPlace}
    (hv : Value.okWide Tryz.prog W r b0 147 v) (h0 : DataW.Trod enc Tryz.prog W base t1 t2 147 v d p) :
    ∃ (a l ls ms s : Int) (d : Bool) (lc pp : Int), v = .agg #[.int .i64 a, .int .i64 l, .int .i64 ls, .int .i64 ms, .int .i64 s, .bool d, .int .i64 lc, .int .i64 pp] := by
  obtain ⟨cs, rfl, hsz⟩ := okWide_struct Tryz.underlying147 hv
  obtain ⟨c0, c1, c2, c3, c4, c5, c6, c7, rfl⟩ := array8 (hsz.trans Tryz.cRu)
  obtain ⟨fuel, hf⟩ := h0
  have hf' : DataW.trod enc Tryz.prog W base t1 t2 fuel 147 [c0, c1, c2, c3, c4, c5, c6, c7] = some (d, p) := by simpa [Value.cells] using hf
  obtain ⟨r, hr, -⟩ := open_rule_cells hf'
  simp only [Ru.cs, List.cons.injEq, and_true] at hr
  obtain ⟨rfl, rfl, rfl, rfl, rfl, rfl, rfl, rfl⟩ := hr
  exact ⟨_, _, _, _, _, _, _, _, rfl⟩

set_option maxRecDepth 100000 in
theorem open_rules {H : Type} {enc : TypeId × Value → H} {W : World} {base : Nat} {t1 : Nat → Bool} {t2 : Bool} {a : Option Addr} {n c : Nat} {d : DataW H} {p : List MemPlace}
    (h0 : DataW.Trod enc Tryz.prog W base t1 t2 24 (.slice a n c) d p) : ∃ rs, RsAt W a rs ∧ rs.length = n ∧ n ≤ maxLen := by
  obtain ⟨fuel, hf⟩ := h0
  rcases open_slice Tryz.underlying24 hf with ⟨hcs, _⟩ | ⟨x, l, cc, m, k, D, Pl, hcs, _, hl, hm, hmm, _, hall⟩
  · simp [Value.cells] at hcs
    obtain ⟨rfl, rfl, rfl⟩ := hcs
    exact ⟨[], RsAt.nil _ _, rfl, Nat.zero_le _⟩
  · simp [Value.cells] at hcs
    obtain ⟨rfl, rfl, rfl⟩ := hcs
    have hlm : n ≤ m := by rw [hmm]; split <;> omega
    have each : ∀ i, i < n → ∃ r : Ru, ∀ j, j < 8 → W.cell? (x.add (i * 8 + j)) = r.cs[j]? := by
      intro i hi
      obtain ⟨cs', h1, h2⟩ := hall i (by omega)
      rw [Tryz.cRu] at h1
      obtain ⟨_, hlen, hcell⟩ := World.cells?_some h1
      match cs', hlen with
      | [c0, c1, c2, c3, c4, c5, c6, c7], _ =>
        obtain ⟨r, hr, -⟩ := open_rule_cells h2
        refine ⟨r, fun j hj => ?_⟩
        have hc := hcell j (by omega)
        rw [add_add] at hc
        rw [hc, hr]
    refine ⟨(List.range n).map (fun i => if h : i < n then (each i h).choose else ru0), ?_, by simp, Nat.le_trans hl hm⟩
    obtain ⟨b, off, spot⟩ := x
    intro i q hq
    have hi : i < n := by
      have := (List.getElem?_eq_some_iff.1 hq).1
      simpa using this
    have hq' : q = (each i hi).choose := by
      rw [List.getElem?_map, List.getElem?_range hi] at hq
      simpa [hi] using hq.symm
    have hs := (each i hi).choose_spec
    rw [← hq'] at hs
    have hspot : spot = none := by
      obtain ⟨r0, hr0⟩ := each 0 (by omega)
      have h2 : W.cell? (Addr.add ⟨b, off, spot⟩ (0 * 8 + 0)) = some (.int .i64 r0.a) := hr0 0 (by omega)
      simpa [Addr.add] using World.cell?_spot h2
    subst hspot
    refine ⟨b, off, rfl, fun j hj => ?_⟩
    have := hs j hj
    rw [Addr.add_lit] at this
    rw [Nat.add_assoc]
    exact this

end Go.Proofs.YtlkhmnjghdbmoaaGreatDoor
