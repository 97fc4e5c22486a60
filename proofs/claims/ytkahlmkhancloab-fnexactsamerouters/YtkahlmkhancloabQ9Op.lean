/- What is proved here: how an argument that is a router comes in. No condition. -/
import Derived.Test.YtkahlmkhancloabQ9Rt
import Derived.Test.YtkahlmkhancloabG9Op
namespace Go.Proofs.Ytkahlmkhancloab
open Go.ChangeShapes Go.WideShapes Go.ChangeAt Go.RowKit Go.Deep
set_option linter.unusedVariables false

theorem arr8q {α : Type} {cs : Array α} (h : cs.size = 8) : ∃ c0 c1 c2 c3 c4 c5 c6 c7, cs = #[c0, c1, c2, c3, c4, c5, c6, c7] := by
  obtain ⟨l⟩ := cs
  match l, h with
  | [c0, c1, c2, c3, c4, c5, c6, c7], _ => exact ⟨c0, c1, c2, c3, c4, c5, c6, c7, rfl⟩
theorem Try.cRr9 : Try.prog.cellsOf 30 = 8 := by kernel_rfl
theorem Try.cLs9 : Try.prog.cellsOf 27 = 1 := by kernel_rfl
theorem Try.cTs9 : Try.prog.cellsOf 28 = 1 := by kernel_rfl

set_option maxRecDepth 100000 in
theorem open_links_cell {H : Type} {enc : TypeId × Value → H} {W : World} {base fuel : Nat} {t1 : Nat → Bool} {t2 : Bool} {v : Value} {y : DataW H × List MemPlace}
    (h : DataW.trod enc Try.prog W base t1 t2 fuel 27 [v] = some y) : ∃ (a : Option Addr) (n c : Nat) (V : List Lv), v = .slice a n c ∧ LkCame W a V ∧ V.length = n ∧ n ≤ maxLen := by
  have hb : ∃ (a : Option Addr) (n c : Nat), v = .slice a n c := by
    rcases open_slice Try.underlying27 h with ⟨hcs, _⟩ | ⟨x, l, cc, m, k, D, Pl, hcs, _⟩
    · simp only [List.cons.injEq, and_true] at hcs
      exact ⟨none, 0, 0, hcs⟩
    · simp only [List.cons.injEq, and_true] at hcs
      exact ⟨some x, l, cc, hcs⟩
  obtain ⟨a, n, c, rfl⟩ := hb
  obtain ⟨V, k1, k2, k3⟩ := open_links (enc := enc) (W := W) (base := base) (t1 := t1) (t2 := t2) (a := a) (n := n) (c := c) (d := y.1) (p := y.2) ⟨fuel, by simpa [Value.cells] using h⟩
  exact ⟨a, n, c, V, rfl, k1, k2, k3⟩

set_option maxRecDepth 100000 in
theorem open_routes_cell {H : Type} {enc : TypeId × Value → H} {W : World} {base fuel : Nat} {t1 : Nat → Bool} {t2 : Bool} {v : Value} {y : DataW H × List MemPlace}
    (h : DataW.trod enc Try.prog W base t1 t2 fuel 28 [v] = some y) : ∃ (a : Option Addr) (n c : Nat) (V : List Rv), v = .slice a n c ∧ RtCame W a V ∧ V.length = n ∧ n ≤ maxLen := by
  have hb : ∃ (a : Option Addr) (n c : Nat), v = .slice a n c := by
    rcases open_slice Try.underlying28 h with ⟨hcs, _⟩ | ⟨x, l, cc, m, k, D, Pl, hcs, _⟩
    · simp only [List.cons.injEq, and_true] at hcs
      exact ⟨none, 0, 0, hcs⟩
    · simp only [List.cons.injEq, and_true] at hcs
      exact ⟨some x, l, cc, hcs⟩
  obtain ⟨a, n, c, rfl⟩ := hb
  obtain ⟨V, k1, k2, k3⟩ := open_routes (enc := enc) (W := W) (base := base) (t1 := t1) (t2 := t2) (a := a) (n := n) (c := c) (d := y.1) (p := y.2) ⟨fuel, by simpa [Value.cells] using h⟩
  exact ⟨a, n, c, V, rfl, k1, k2, k3⟩

set_option maxRecDepth 100000 in
theorem open_router {H : Type} {enc : TypeId × Value → H} {W : World} {base b0 : Nat} {r : Reach} {t1 : Nat → Bool} {t2 : Bool} {v : Value} {d : DataW H} {p : List MemPlace}
    (hv : Value.okWide Try.prog W r b0 30 v) (h0 : DataW.Trod enc Try.prog W base t1 t2 30 v d p) :
    ∃ (sa si ho nx : Int) (a1 a2 la ra : Option Addr) (n1 c1 n2 c2 ln lc rn rc : Nat) (r1 r2 : List Ru) (L : List Lv) (R : List Rv), v = .agg #[.int .i64 sa, .int .i64 si, .int .i64 ho, .int .i64 nx, .slice a1 n1 c1, .slice a2 n2 c2, .slice la ln lc, .slice ra rn rc] ∧ (RsAt W a1 r1 ∧ r1.length = n1 ∧ n1 ≤ maxLen) ∧ (RsAt W a2 r2 ∧ r2.length = n2 ∧ n2 ≤ maxLen) ∧ (LkCame W la L ∧ L.length = ln ∧ ln ≤ maxLen) ∧ (RtCame W ra R ∧ R.length = rn ∧ rn ≤ maxLen) := by
  obtain ⟨cs, rfl, hsz⟩ := okWide_struct Try.underlying30 hv
  obtain ⟨c0, c1, c2, c3, c4, c5, c6, c7, rfl⟩ := arr8q (hsz.trans Try.cRr9)
  obtain ⟨fuel, hf⟩ := h0
  obtain ⟨y, hf'⟩ : ∃ y, DataW.trod enc Try.prog W base t1 t2 fuel 30 [c0, c1, c2, c3, c4, c5, c6, c7] = some y := ⟨(d, p), by simpa [Value.cells] using hf⟩
  obtain ⟨xs, m, _, rfl, hl, hlen, hq⟩ := DataW.trod_struct Try.underlying30 hf'
  match xs, hlen with
  | [y0, y1, y2], _ =>
    have k0 := hq 0 _ rfl
    have k1 := hq 1 _ rfl
    have k2 := hq 2 _ rfl
    simp [Try.cSe9, Try.cLs9, Try.cTs9] at k0 k1 k2
    obtain ⟨sa, si, ho, nx, a1, a2, n1, i1, n2, i2, r1, r2, hr, x1, x2⟩ := open_settings_cells k0
    obtain ⟨la, ln, lc, L, rfl, x3⟩ := open_links_cell k1
    obtain ⟨ra, rn, rc, R, rfl, x4⟩ := open_routes_cell k2
    simp only [List.cons.injEq, and_true] at hr
    obtain ⟨rfl, rfl, rfl, rfl, rfl, rfl⟩ := hr
    exact ⟨sa, si, ho, nx, a1, a2, la, ra, n1, i1, n2, i2, ln, lc, rn, rc, r1, r2, L, R, rfl, x1, x2, x3, x4⟩

end Go.Proofs.Ytkahlmkhancloab
