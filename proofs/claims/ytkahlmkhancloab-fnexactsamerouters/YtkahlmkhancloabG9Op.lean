/- What is proved here: how an argument that is a router's settings comes in. No condition. -/
import Derived.Test.YtkahlmkhancloabR6Open
import Derived.Test.YtkahlmkhancloabG9Se
namespace Go.Proofs.Ytkahlmkhancloab
open Go.ChangeShapes Go.WideShapes Go.ChangeAt Go.RowKit Go.Deep
set_option linter.unusedVariables false

theorem arr6g {α : Type} {cs : Array α} (h : cs.size = 6) : ∃ c0 c1 c2 c3 c4 c5, cs = #[c0, c1, c2, c3, c4, c5] := by
  obtain ⟨l⟩ := cs
  match l, h with
  | [c0, c1, c2, c3, c4, c5], _ => exact ⟨c0, c1, c2, c3, c4, c5, rfl⟩
theorem Try.cSe9 : Try.prog.cellsOf 26 = 6 := by kernel_rfl
theorem Try.cRs9 : Try.prog.cellsOf 24 = 1 := by kernel_rfl
theorem Try.cI9g : Try.prog.cellsOf 2 = 1 := by kernel_rfl
theorem Try.cCf9 : Try.prog.cellsOf 23 = 3 := by kernel_rfl

set_option maxRecDepth 100000 in
theorem open_rules_cell {H : Type} {enc : TypeId × Value → H} {W : World} {base fuel : Nat} {t1 : Nat → Bool} {t2 : Bool} {v : Value} {y : DataW H × List MemPlace}
    (h : DataW.trod enc Try.prog W base t1 t2 fuel 24 [v] = some y) : ∃ (a : Option Addr) (n c : Nat) (rs : List Ru), v = .slice a n c ∧ RsAt W a rs ∧ rs.length = n ∧ n ≤ maxLen := by
  have hb : ∃ (a : Option Addr) (n c : Nat), v = .slice a n c := by
    rcases open_slice Try.underlying24 h with ⟨hcs, _⟩ | ⟨x, l, cc, m, k, D, Pl, hcs, _⟩
    · simp only [List.cons.injEq, and_true] at hcs
      exact ⟨none, 0, 0, hcs⟩
    · simp only [List.cons.injEq, and_true] at hcs
      exact ⟨some x, l, cc, hcs⟩
  obtain ⟨a, n, c, rfl⟩ := hb
  obtain ⟨rs, k1, k2, k3⟩ := open_rules (enc := enc) (W := W) (base := base) (t1 := t1) (t2 := t2) (a := a) (n := n) (c := c) (d := y.1) (p := y.2) ⟨fuel, by simpa [Value.cells] using h⟩
  exact ⟨a, n, c, rs, rfl, k1, k2, k3⟩

set_option maxRecDepth 100000 in
theorem open_settings_cells {H : Type} {enc : TypeId × Value → H} {W : World} {base fuel : Nat} {t1 : Nat → Bool} {t2 : Bool} {c0 c1 c2 c3 c4 c5 : Value} {y : DataW H × List MemPlace}
    (h : DataW.trod enc Try.prog W base t1 t2 fuel 26 [c0, c1, c2, c3, c4, c5] = some y) :
    ∃ (sa si ho nx : Int) (a1 a2 : Option Addr) (n1 k1 n2 k2 : Nat) (r1 r2 : List Ru), [c0, c1, c2, c3, c4, c5] = [.int .i64 sa, .int .i64 si, .int .i64 ho, .int .i64 nx, .slice a1 n1 k1, .slice a2 n2 k2] ∧ (RsAt W a1 r1 ∧ r1.length = n1 ∧ n1 ≤ maxLen) ∧ (RsAt W a2 r2 ∧ r2.length = n2 ∧ n2 ≤ maxLen) := by
  obtain ⟨xs, m, _, rfl, hl, hlen, hf⟩ := DataW.trod_struct Try.underlying26 h
  match xs, hlen with
  | [y0, y1, y2, y3], _ =>
    have k0 := hf 0 _ rfl
    have k1 := hf 1 _ rfl
    have k2 := hf 2 _ rfl
    have k3 := hf 3 _ rfl
    simp [Try.cI9g, Try.cCf9, Try.cRs9] at k0 k1 k2 k3
    obtain ⟨ys, m', _, rfl, hl', hlen', hf'⟩ := DataW.trod_struct Try.underlying23 k0
    match ys, hlen' with
    | [z0, z1, z2], _ =>
      have j0 := hf' 0 _ rfl
      have j1 := hf' 1 _ rfl
      have j2 := hf' 2 _ rfl
      simp [Try.cI9g] at j0 j1 j2
      obtain ⟨sa, e0, -, w0⟩ := DataW.trod_int Try.underlying2 j0
      obtain ⟨si, e1, -, w1⟩ := DataW.trod_int Try.underlying2 j1
      obtain ⟨ho, e2, -, w2⟩ := DataW.trod_int Try.underlying2 j2
      obtain ⟨nx, e3, -, w3⟩ := DataW.trod_int Try.underlying2 k1
      obtain ⟨a1, n1, d1, r1, rfl, u1, u2, u3⟩ := open_rules_cell k2
      obtain ⟨a2, n2, d2, r2, rfl, v1, v2, v3⟩ := open_rules_cell k3
      simp only [List.cons.injEq, and_true] at e0 e1 e2 e3
      subst e0 e1 e2 e3
      exact ⟨sa, si, ho, nx, a1, a2, n1, d1, n2, d2, r1, r2, rfl, ⟨u1, u2, u3⟩, ⟨v1, v2, v3⟩⟩

set_option maxRecDepth 100000 in
theorem open_settings {H : Type} {enc : TypeId × Value → H} {W : World} {base b0 : Nat} {r : Reach} {t1 : Nat → Bool} {t2 : Bool} {v : Value} {d : DataW H} {p : List MemPlace}
    (hv : Value.okWide Try.prog W r b0 26 v) (h0 : DataW.Trod enc Try.prog W base t1 t2 26 v d p) :
    ∃ (sa si ho nx : Int) (a1 a2 : Option Addr) (n1 k1 n2 k2 : Nat) (r1 r2 : List Ru), v = .agg #[.int .i64 sa, .int .i64 si, .int .i64 ho, .int .i64 nx, .slice a1 n1 k1, .slice a2 n2 k2] ∧ (RsAt W a1 r1 ∧ r1.length = n1 ∧ n1 ≤ maxLen) ∧ (RsAt W a2 r2 ∧ r2.length = n2 ∧ n2 ≤ maxLen) := by
  obtain ⟨cs, rfl, hsz⟩ := okWide_struct Try.underlying26 hv
  obtain ⟨c0, c1, c2, c3, c4, c5, rfl⟩ := arr6g (hsz.trans Try.cSe9)
  obtain ⟨fuel, hf⟩ := h0
  have hf' : DataW.trod enc Try.prog W base t1 t2 fuel 26 [c0, c1, c2, c3, c4, c5] = some (d, p) := by simpa [Value.cells] using hf
  obtain ⟨sa, si, ho, nx, a1, a2, n1, k1, n2, k2, r1, r2, hr, x1, x2⟩ := open_settings_cells hf'
  simp only [List.cons.injEq, and_true] at hr
  obtain ⟨rfl, rfl, rfl, rfl, rfl, rfl⟩ := hr
  exact ⟨sa, si, ho, nx, a1, a2, n1, k1, n2, k2, r1, r2, rfl, x1, x2⟩

end Go.Proofs.Ytkahlmkhancloab
