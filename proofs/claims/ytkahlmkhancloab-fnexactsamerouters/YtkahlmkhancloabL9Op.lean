/- What is proved here: how an argument that is a list of links comes in. No condition. -/
import Derived.Test.YtkahlmkhancloabL9Lib
import Derived.Test.YtkahlmkhancloabOpen
import Derived.Test.YtkahlmkhancloabS5Open
namespace Go.Proofs.Ytkahlmkhancloab
open Go.ChangeShapes Go.WideShapes Go.ChangeAt Go.RowKit Go.Deep
set_option linter.unusedVariables false

theorem Try.cLk9 : Try.prog.cellsOf 98 = 7 := by kernel_rfl
theorem Try.cBsL : Try.prog.cellsOf 44 = 1 := by kernel_rfl
theorem Try.cTdL : Try.prog.cellsOf 96 = 1 := by kernel_rfl

set_option maxRecDepth 100000 in
theorem open_bytes_cell {H : Type} {enc : TypeId × Value → H} {W : World} {base fuel : Nat} {t1 : Nat → Bool} {t2 : Bool} {v : Value} {y : DataW H × List MemPlace}
    (h : DataW.trod enc Try.prog W base t1 t2 fuel 44 [v] = some y) : ∃ (a : Option Addr) (n c : Nat) (zs : List Int), v = .slice a n c ∧ BsAt W a zs ∧ zs.length = n ∧ n ≤ maxLen := by
  have hb : ∃ (a : Option Addr) (n c : Nat), v = .slice a n c := by
    rcases open_ints Try.underlying44 Try.underlying5 (by kernel_rfl) h with ⟨hcs, _⟩ | ⟨x, l, c, zs, hcs, _⟩
    · simp only [List.cons.injEq, and_true] at hcs
      exact ⟨none, 0, 0, hcs⟩
    · simp only [List.cons.injEq, and_true] at hcs
      exact ⟨some x, l, c, hcs⟩
  obtain ⟨a, n, c, rfl⟩ := hb
  obtain ⟨zs, h1, h2, h3, h4⟩ := open_bytes (enc := enc) (W := W) (base := base) (t1 := t1) (t2 := t2) (a := a) (n := n) (c := c) (d := y.1) (p := y.2) ⟨fuel, by simpa [Value.cells] using h⟩
  exact ⟨a, n, c, zs, rfl, h1, h2, h4⟩

set_option maxRecDepth 100000 in
theorem open_tolds_cell {H : Type} {enc : TypeId × Value → H} {W : World} {base fuel : Nat} {t1 : Nat → Bool} {t2 : Bool} {v : Value} {y : DataW H × List MemPlace}
    (h : DataW.trod enc Try.prog W base t1 t2 fuel 96 [v] = some y) : ∃ (a : Option Addr) (n c : Nat) (V : List Tv), v = .slice a n c ∧ TdCame W a V ∧ V.length = n ∧ n ≤ maxLen := by
  have hb : ∃ (a : Option Addr) (n c : Nat), v = .slice a n c := by
    rcases open_slice Try.underlying96 h with ⟨hcs, _⟩ | ⟨x, l, cc, m, k, D, Pl, hcs, _⟩
    · simp only [List.cons.injEq, and_true] at hcs
      exact ⟨none, 0, 0, hcs⟩
    · simp only [List.cons.injEq, and_true] at hcs
      exact ⟨some x, l, cc, hcs⟩
  obtain ⟨a, n, c, rfl⟩ := hb
  obtain ⟨V, k1, k2, k3⟩ := open_tolds (enc := enc) (W := W) (base := base) (t1 := t1) (t2 := t2) (a := a) (n := n) (c := c) (d := y.1) (p := y.2) ⟨fuel, by simpa [Value.cells] using h⟩
  exact ⟨a, n, c, V, rfl, k1, k2, k3⟩

set_option maxRecDepth 100000 in
theorem open_link_cells {H : Type} {enc : TypeId × Value → H} {W : World} {base fuel : Nat} {t1 : Nat → Bool} {t2 : Bool} {c0 c1 c2 c3 c4 c5 c6 : Value} {y : DataW H × List MemPlace}
    (h : DataW.trod enc Try.prog W base t1 t2 fuel 98 [c0, c1, c2, c3, c4, c5, c6] = some y) :
    ∃ (v : Lv), [c0, c1, c2, c3, c4, c5, c6] = v.cs ∧ v.came W := by
  obtain ⟨xs, m, _, rfl, hl, hlen, hf⟩ := DataW.trod_struct Try.underlying98 h
  match xs, hlen with
  | [y1, y2, y3], _ =>
    have k1 := hf 0 _ rfl
    have k2 := hf 1 _ rfl
    have k3 := hf 2 _ rfl
    simp [Try.cSs5, Try.cBsL, Try.cTdL] at k1 k2 k3
    obtain ⟨us, m2, _, rfl, hl2, hlen2, hf2⟩ := DataW.trod_struct Try.underlying95 k1
    match us, hlen2 with
    | [u0, u1, u2, u3, u4], _ =>
      have q0 := hf2 0 _ rfl
      have q1 := hf2 1 _ rfl
      have q2 := hf2 2 _ rfl
      have q3 := hf2 3 _ rfl
      have q4 := hf2 4 _ rfl
      simp [Try.cI5] at q0 q1 q2 q3 q4
      obtain ⟨st, e1, -, w1⟩ := DataW.trod_int Try.underlying2 q0
      obtain ⟨pe, e2, -, w2⟩ := DataW.trod_int Try.underlying2 q1
      obtain ⟨ho, e3, -, w3⟩ := DataW.trod_int Try.underlying2 q2
      obtain ⟨si, e4, -, w4⟩ := DataW.trod_int Try.underlying2 q3
      obtain ⟨sp, e5, -, w5⟩ := DataW.trod_int Try.underlying2 q4
      obtain ⟨b, n, c, bs, rfl, b1, b2, b3⟩ := open_bytes_cell k2
      obtain ⟨t, m, d, V, rfl, v1, v2, v3⟩ := open_tolds_cell k3
      simp only [List.cons.injEq, and_true] at e1 e2 e3 e4 e5
      subst e1 e2 e3 e4 e5 b2 v2
      exact ⟨⟨st, pe, ho, si, sp, bs, b, c, V, t, d⟩, rfl, b1, b3, v1, v3⟩

set_option maxRecDepth 100000 in
theorem open_links {H : Type} {enc : TypeId × Value → H} {W : World} {base : Nat} {t1 : Nat → Bool} {t2 : Bool} {a : Option Addr} {n c : Nat} {d : DataW H} {p : List MemPlace}
    (h0 : DataW.Trod enc Try.prog W base t1 t2 27 (.slice a n c) d p) : ∃ V, LkCame W a V ∧ V.length = n ∧ n ≤ maxLen := by
  obtain ⟨fuel, hf⟩ := h0
  rcases open_slice Try.underlying27 hf with ⟨hcs, _⟩ | ⟨x, l, cc, m, k, D, Pl, hcs, _, hl, hm, hmm, _, hall⟩
  · simp [Value.cells] at hcs
    obtain ⟨rfl, rfl, rfl⟩ := hcs
    exact ⟨[], (by intro i v hv; simp at hv), rfl, Nat.zero_le _⟩
  · simp [Value.cells] at hcs
    obtain ⟨rfl, rfl, rfl⟩ := hcs
    have hlm : n ≤ m := by rw [hmm]; split <;> omega
    have each : ∀ i, i < n → ∃ r : Lv, (∀ j, j < 7 → W.cell? (x.add (i * 7 + j)) = r.cs[j]?) ∧ r.came W := by
      intro i hi
      obtain ⟨cs', h1, h2⟩ := hall i (by omega)
      rw [Try.cLk9] at h1
      obtain ⟨_, hlen, hcell⟩ := World.cells?_some h1
      match cs', hlen with
      | [c0, c1, c2, c3, c4, c5, c6], _ =>
        obtain ⟨r, hr, hcm⟩ := open_link_cells h2
        refine ⟨r, fun j hj => ?_, hcm⟩
        have hc := hcell j (by omega)
        rw [add_add] at hc
        rw [hc, hr]
    refine ⟨(List.range n).map (fun i => if h : i < n then (each i h).choose else lv0), ?_, by simp, Nat.le_trans hl hm⟩
    obtain ⟨b, off, spot⟩ := x
    intro i q hq
    have hi : i < n := by
      have := (List.getElem?_eq_some_iff.1 hq).1
      simpa using this
    have hq' : q = (each i hi).choose := by
      rw [List.getElem?_map, List.getElem?_range hi] at hq
      simpa [hi] using hq.symm
    have hs := (each i hi).choose_spec
    rw [← hq'] at hs
    have hspot : spot = none := by
      obtain ⟨r0, hr0, -⟩ := each 0 (by omega)
      have h2 : W.cell? (Addr.add ⟨b, off, spot⟩ (0 * 7 + 0)) = some (.int .i64 r0.st) := hr0 0 (by omega)
      simpa [Addr.add] using World.cell?_spot h2
    subst hspot
    refine ⟨⟨b, off, rfl, fun j hj => ?_⟩, hs.2⟩
    have := hs.1 j hj
    rw [Addr.add_lit] at this
    rw [Nat.add_assoc]
    exact this

end Go.Proofs.Ytkahlmkhancloab
