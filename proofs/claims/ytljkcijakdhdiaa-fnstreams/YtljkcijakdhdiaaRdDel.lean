/- What is proved here: what the library's copying, cutting out and joining of lists of prefixes answer, in this program's own copies of them. -/
import Derived.Test.YtljkcijakdhdiaaRdFn
import Derived.Deep.AppendLies
import Derived.Lib.SliceRun
import Derived.Lib.AppendZerosOnto
import Derived.Lib.Walk
namespace Go.Proofs.Ytljkcijakdhdiaa
open Go.RowKit Go.Sort
set_option linter.unusedVariables false

theorem cellsP_ones (L : List (Int × Int)) : ∀ u ∈ cellsP L, u.oneCell' = true := by
  intro u hu
  simp only [cellsP, List.mem_flatMap] at hu
  obtain ⟨p, _, hp⟩ := hu
  simp at hp
  rcases hp with rfl | rfl <;> rfl
theorem cellsP_take (L : List (Int × Int)) (k : Nat) : cellsP (L.take k) = (cellsP L).take (k * 2) := by
  induction L generalizing k with
  | nil => simp [cellsP]
  | cons q L ih =>
    cases k with
    | zero => simp [cellsP]
    | succ k => rw [List.take_succ_cons, cellsP_cons, cellsP_cons, ih, show (k + 1) * 2 = k * 2 + 1 + 1 by omega, List.take_succ_cons, List.take_succ_cons]

theorem PsAt.src {w : World} {ad : Addr} {ps : List (Int × Int)} (h : PsAt w (some ad) ps) : ∀ j u, (cellsP ps)[j]? = some u → w.cell? (ad.add j) = some u := by
  intro j u hj
  have hl : j < (cellsP ps).length := (List.getElem?_eq_some_iff.1 hj).1
  rw [cellsP_len] at hl
  have hi : j / 2 < ps.length := by omega
  obtain ⟨b, off, e, c0, c1, -⟩ := h (j / 2) _ (List.getElem?_eq_getElem hi)
  obtain rfl := Option.some.inj e
  obtain ⟨e0, e1⟩ := cellsP_get ps (j / 2) _ (List.getElem?_eq_getElem hi)
  rw [Addr.add_lit]
  rcases Nat.mod_two_eq_zero_or_one j with h2 | h2
  · have hj2 : j / 2 * 2 = j := by omega
    rw [hj2] at e0 c0
    rw [c0, ← e0, hj]
  · have hj2 : j / 2 * 2 + 1 = j := by omega
    rw [hj2] at e1
    rw [Nat.add_assoc, hj2] at c1
    rw [c1, ← e1, hj]

/-- The first i of a row. -/
theorem OwP.cut {w : World} {g n c : Nat} {ps : List (Int × Int)} (h : OwP w g n c ps) (i : Nat) (hi : i ≤ n) : OwP w g i c (ps.take i) := by
  have hl := h.len
  refine ⟨by rw [cellsP_len, List.length_take]; omega, ?_⟩
  rcases h.2 with ⟨h', _⟩ | ⟨g', cap', cur, h', r1, r2, r3, r4, r5, r6⟩
  · simp at h'
  · simp only [Value.slice.injEq, Option.some.injEq, Addr.mk.injEq, and_true, true_and] at h'
    obtain ⟨rfl, rfl⟩ := h'
    refine .inr ⟨g, c, cur, rfl, r1, r2, by omega, r4, r5, ?_⟩
    rw [cellsP_take, ← r6, List.take_take, Nat.min_eq_left (by omega)]

/-- What is written behind a row leaves it. -/
theorem OwP.clears : ∀ (vs : List Value) (o : Nat) (w : World) {g i c : Nat} {ps : List (Int × Int)}, OwP w g i c ps → i * 2 ≤ o → OwP (w.setCells g o vs) g i c ps ∧ Turn (fun k => k = g) w (w.setCells g o vs)
  | [], o, w, g, i, c, ps, h, ho => ⟨h, Turn.refl _ _⟩
  | v :: r, o, w, g, i, c, ps, h, ho => by
    have hl := h.len
    have h1 := (World.ownsRow.stored h o v).1
    rw [List.set_eq_of_length_le (by rw [cellsP_len]; omega)] at h1
    obtain ⟨h2, h3⟩ := OwP.clears r (o + 1) (w.setCell ⟨g, o, none⟩ v) (g := g) (i := i) (c := c) (ps := ps) h1 (by omega)
    exact ⟨h2, Turn.trans (Turn.here (Turn.refl _ _) v) h3 (fun _ _ e => e)⟩

/-- Clearing a part of a row of prefixes. -/
theorem run_clear_two {P : Program} (w : World) (t e ty : TypeId) (ht : P.underlying t = some (.slice e)) (hv : ∀ w, (zeroValue e).run P w = .ok (.agg #[.int .i64 0, .int .i64 0]) w) (b o n c : Nat) (hn : 0 < n)
    (hc : ∀ j, j < n * 2 → (w.cell? ⟨b, o + j, none⟩).isSome = true) (hf : ∀ j, j < n * 2 → w.frozen? ⟨b, o + j, none⟩ = false) :
    (Builtin.clear_ #[t] ty #[.slice (some ⟨b, o, none⟩) n c]).run P w = .ok (.tuple #[]) (w.setCells b o (List.replicate (n * 2) (.int .i64 0))) := by
  have hzc : (Builtin.zeroCells (Value.cells (.agg #[.int .i64 0, .int .i64 0])) n).toList = List.replicate (n * 2) (.int .i64 0) := by
    have hz : Value.cells (.agg #[.int .i64 0, .int .i64 0]) = #[.int .i64 0, .int .i64 0] := rfl
    rw [hz]
    apply List.eq_replicate_iff.2
    refine ⟨by simp [Builtin.zeroCells], ?_⟩
    intro b hb
    simp only [Builtin.zeroCells, Array.toList_map, List.mem_map] at hb
    obtain ⟨i, _, rfl⟩ := hb
    have : i % 2 = 0 ∨ i % 2 = 1 := by omega
    rcases this with h | h <;> simp [h]
  have hst := run_storeCells_cells (P := P) b o (List.replicate (n * 2) (.int .i64 0)) 0 w (by simpa using hc) (by simpa using hf) (by intro v hv'; rw [List.eq_of_mem_replicate hv']; rfl)
  simp only [Nat.add_zero] at hst
  obtain ⟨m, rfl⟩ : ∃ m, n = m + 1 := ⟨n - 1, by omega⟩
  simp [Builtin.clear_, run_underlying ht, hv, hzc, hst]

theorem clone_nil (w : World) : Calls Try.prog 102 #[.slice none 0 0] w fun e w' => e = .returned (.slice none 0 0) ∧ w' = w := by
  have hnl : ∀ W, (binOp .eql 44 (.slice none 0 0) (.slice none 0 0)).run Try.prog W = .ok (.bool true) W := fun W => Lib.run_eql_slice_nil W _ _ none 0 0 0 0 Try.underlying44
  go_enter Try.func102, Try.ntmps102
  go_wp2
  go_ret
  exact ⟨rfl, rfl⟩

set_option maxHeartbeats 800000 in
theorem clone_row (ad : Addr) (n c : Nat) (ps : List (Int × Int)) (w : World) (h : PsAt w (some ad) ps) (hn : ps.length = n) (hm : n ≤ 1048576) :
    Calls Try.prog 102 #[.slice (some ad) n c] w fun e w' => ∃ g c', e = .returned (.slice (some ⟨g, 0, none⟩) n c') ∧ w.heap.size ≤ g ∧ OwP w' g n c' ps ∧ New w w' := by
  obtain ⟨iP, hi, hz0, hz1, hz2⟩ := info_parts Try.infoPx
  have hnl : ∀ W, (binOp .eql 44 (.slice (some ad) n c) (.slice none 0 0)).run Try.prog W = .ok (.bool false) W := fun W => Lib.run_eql_slice_nil W _ _ (some ad) n c 0 0 Try.underlying44
  have HN : Hid (ps.length = n) := hn
  have hw := (New.refl w).alloc (.cells #[] 88)
  have hs := (h.new hw).src
  have hlit : (w.alloc (.cells #[] 88)).ownsRow w.heap.size 88 2 (.slice (some ⟨w.heap.size, 0, none⟩) 0 0) 0 [] := ⟨rfl, .inr ⟨w.heap.size, 0, #[], rfl, Nat.le_refl _, heap_alloc_new w _, Nat.le_refl _, by decide, rfl, rfl⟩⟩
  clear hn
  go_enter Try.func102, Try.ntmps102
  go_wp2_with (at_builtin; refine wpList_append_own_at _ rfl _ _ 44 rfl w.heap.size 88 iP (.agg #[.int .i64 0, .int .i64 0]) 2 16 Try.underlying44 hi hz0 hz1 hz2 rfl (by decide) (.slice (some ⟨w.heap.size, 0, none⟩) 0 0) 0 [] rfl hlit ad n c (cellsP ps) rfl (by rw [cellsP_len, HN.out]) hs (cellsP_ones ps) (by unfold maxLen; omega) (by omega) (by simp) ?_; intro v' w3 hown' hgrow hnil hloc)
  have N3 : New w w3 := hw.grow hgrow (fun k e => by obtain rfl := Option.some.inj e; exact Nat.le_refl _)
  rcases hown'.2 with ⟨hv, _⟩ | ⟨g, cap, cur, hv, hb, _⟩
  · have := hnil.1 hv
    simp at this
  · subst hv
    simp only [Nat.zero_add, List.nil_append] at hown'
    have ho : OwP w3 g n cap ps := own_base hown'
    clear hown' hgrow hnil hloc hs hlit h hw
    go_wp2
    go_ret
    exact ⟨g, cap, by simp, hb, ho, N3⟩

/-- Those without a fault. -/
def okL (ps : List (Int × Int)) : List (Int × Int) := ps.filter fun p => decide (pf p.1 p.2 = 0)
theorem okL_snoc_yes {ps : List (Int × Int)} {k : Nat} {p : Int × Int} (h : ps[k]? = some p) (hp : pf p.1 p.2 = 0) : okL (ps.take (k + 1)) = okL (ps.take k) ++ [p] := by
  obtain ⟨hk, rfl⟩ := List.getElem?_eq_some_iff.1 h
  rw [List.take_succ_eq_append_getElem hk]
  unfold okL
  rw [List.filter_append]
  simp [hp]
theorem okL_snoc_no {ps : List (Int × Int)} {k : Nat} {p : Int × Int} (h : ps[k]? = some p) (hp : ¬ pf p.1 p.2 = 0) : okL (ps.take (k + 1)) = okL (ps.take k) := by
  obtain ⟨hk, rfl⟩ := List.getElem?_eq_some_iff.1 h
  rw [List.take_succ_eq_append_getElem hk]
  unfold okL
  rw [List.filter_append]
  simp [hp]
theorem okL_all {ps : List (Int × Int)} (h : ∀ p ∈ ps, pf p.1 p.2 = 0) : okL ps = ps := by
  unfold okL
  rw [List.filter_eq_self]
  intro p hp
  simpa using h p hp
theorem ixF_at : ∀ ps : List (Int × Int), 0 ≤ ixF ps → ∃ (k : Nat) (p : Int × Int), ixF ps = (k : Int) ∧ ps[k]? = some p ∧ ¬ pf p.1 p.2 = 0 ∧ ∀ q ∈ ps.take k, pf q.1 q.2 = 0
  | [], h => by simp [ixF] at h
  | p :: r, h => by
    by_cases hp : pf p.1 p.2 = 0
    · have hs : ixF (p :: r) = if ixF r < 0 then -1 else ixF r + 1 := by simp [ixF, hp]
      rw [hs] at h ⊢
      by_cases hr : ixF r < 0
      · rw [if_pos hr] at h; omega
      · obtain ⟨k, q, e, hq, hb, ha⟩ := ixF_at r (by omega)
        rw [if_neg hr]
        refine ⟨k + 1, q, by rw [e]; simp, by simpa using hq, hb, ?_⟩
        intro x hx
        simp only [List.take_succ_cons, List.mem_cons] at hx
        rcases hx with rfl | hx
        · exact hp
        · exact ha x hx
    · exact ⟨0, p, by simp [ixF, hp], rfl, hp, by simp⟩

/-- How far the cutting out has come: of the first j the i that stay lie ahead. -/
structure KI (ps : List (Int × Int)) (j i : Nat) (L : List (Int × Int)) : Prop where
  len : L.length = ps.length
  low : L.take i = okL (ps.take j)
  num : (okL (ps.take j)).length = i
  high : ∀ k, j ≤ k → L[k]? = ps[k]?
  lt : i < j
theorem KI.start {ps : List (Int × Int)} {k : Nat} {p : Int × Int} (h : ps[k]? = some p) (hp : ¬ pf p.1 p.2 = 0) (ha : ∀ q ∈ ps.take k, pf q.1 q.2 = 0) : KI ps (k + 1) k ps := by
  have hk : k < ps.length := (List.getElem?_eq_some_iff.1 h).1
  refine ⟨rfl, ?_, ?_, fun _ _ => rfl, by omega⟩
  · rw [okL_snoc_no h hp, okL_all ha]
  · rw [okL_snoc_no h hp, okL_all ha, List.length_take]; omega
theorem KI.keep {ps L : List (Int × Int)} {i j : Nat} {p : Int × Int} (h : KI ps j i L) (hp : ps[j]? = some p) (h0 : pf p.1 p.2 = 0) : KI ps (j + 1) (i + 1) (L.set i p) := by
  have hj : j < ps.length := (List.getElem?_eq_some_iff.1 hp).1
  have hl := h.len
  have hlt := h.lt
  refine ⟨by simpa using h.len, ?_, ?_, ?_, by omega⟩
  · rw [okL_snoc_yes hp h0, ← h.low]
    rw [List.take_succ_eq_append_getElem (by simp; omega), List.getElem_set_self, List.take_set_of_le (Nat.le_refl _)]
  · rw [okL_snoc_yes hp h0, List.length_append, h.num]; rfl
  · intro k hk
    rw [List.getElem?_set_ne (by omega)]
    exact h.high k (by omega)
theorem KI.skip {ps L : List (Int × Int)} {i j : Nat} {p : Int × Int} (h : KI ps j i L) (hp : ps[j]? = some p) (h0 : ¬ pf p.1 p.2 = 0) : KI ps (j + 1) i L := by
  have hlt := h.lt
  refine ⟨h.len, ?_, ?_, fun k hk => h.high k (by omega), by omega⟩
  · rw [okL_snoc_no hp h0]; exact h.low
  · rw [okL_snoc_no hp h0]; exact h.num

end Go.Proofs.Ytljkcijakdhdiaa
