/- What is proved here: how an argument that is a journal comes in. No condition. -/
import Derived.Test.YtmfmpcagoamffabOpen
namespace Go.Proofs.Ytmfmpcagoamffab
open Go.ChangeShapes Go.WideShapes Go.ChangeAt Go.RowKit Go.Deep
set_option linter.unusedVariables false

theorem arr2j {α : Type} {cs : Array α} (h : cs.size = 2) : ∃ c0 c1, cs = #[c0, c1] := by
  obtain ⟨l⟩ := cs
  match l, h with
  | [c0, c1], _ => exact ⟨c0, c1, rfl⟩
theorem Try.cJ10 : Try.prog.cellsOf 24 = 2 := by kernel_rfl
theorem Try.cB10 : Try.prog.cellsOf 22 = 1 := by kernel_rfl

set_option maxRecDepth 100000 in
theorem open_journal {H : Type} {enc : TypeId × Value → H} {W : World} {base b0 : Nat} {r : Reach} {t1 : Nat → Bool} {t2 : Bool} {v : Value} {d : DataW H} {p : List MemPlace}
    (hv : Value.okWide Try.prog W r b0 24 v) (h0 : DataW.Trod enc Try.prog W base t1 t2 24 v d p) :
    ∃ (a b : Option Addr) (n c m d : Nat) (zs ys : List Int), v = .agg #[.slice a n c, .slice b m d] ∧ BsAt W a zs ∧ BsAt W b ys ∧ zs.length = n ∧ ys.length = m ∧ n ≤ maxLen ∧ m ≤ maxLen := by
  obtain ⟨cs, rfl, hsz⟩ := okWide_struct Try.underlying24 hv
  obtain ⟨c0, c1, rfl⟩ := arr2j (hsz.trans Try.cJ10)
  obtain ⟨fuel, hf⟩ := h0
  obtain ⟨y, hf'⟩ : ∃ y, DataW.trod enc Try.prog W base t1 t2 fuel 24 [c0, c1] = some y := ⟨(d, p), by simpa [Value.cells] using hf⟩
  obtain ⟨ys, m, _, rfl, hl, hlen, hq⟩ := DataW.trod_struct Try.underlying24 hf'
  match ys, hlen with
  | [y0, y1], _ =>
    have k0 := hq 0 _ rfl
    have k1 := hq 1 _ rfl
    simp [Try.cB10] at k0 k1
    have hb0 : ∃ (a : Option Addr) (n c : Nat), c0 = .slice a n c := by
      rcases open_ints Try.underlying22 Try.underlying5 (by kernel_rfl) k0 with ⟨hcs, _⟩ | ⟨x, l, c, zs, hcs, _⟩
      · simp only [List.cons.injEq, and_true] at hcs
        exact ⟨none, 0, 0, hcs⟩
      · simp only [List.cons.injEq, and_true] at hcs
        exact ⟨some x, l, c, hcs⟩
    have hb1 : ∃ (a : Option Addr) (n c : Nat), c1 = .slice a n c := by
      rcases open_ints Try.underlying22 Try.underlying5 (by kernel_rfl) k1 with ⟨hcs, _⟩ | ⟨x, l, c, zs, hcs, _⟩
      · simp only [List.cons.injEq, and_true] at hcs
        exact ⟨none, 0, 0, hcs⟩
      · simp only [List.cons.injEq, and_true] at hcs
        exact ⟨some x, l, c, hcs⟩
    obtain ⟨a, n, c, rfl⟩ := hb0
    obtain ⟨b, m', d', rfl⟩ := hb1
    obtain ⟨zs, h1, h2, h3, h4⟩ := open_bytes (enc := enc) (W := W) (base := base) (t1 := t1) (t2 := t2) (a := a) (n := n) (c := c) (d := y0.1) (p := y0.2) ⟨m, by simpa [Value.cells] using k0⟩
    obtain ⟨us, i1, i2, i3, i4⟩ := open_bytes (enc := enc) (W := W) (base := base) (t1 := t1) (t2 := t2) (a := b) (n := m') (c := d') (d := y1.1) (p := y1.2) ⟨m, by simpa [Value.cells] using k1⟩
    exact ⟨a, b, n, c, m', d', zs, us, rfl, h1, i1, h2, i2, h4, i4⟩

end Go.Proofs.Ytmfmpcagoamffab
