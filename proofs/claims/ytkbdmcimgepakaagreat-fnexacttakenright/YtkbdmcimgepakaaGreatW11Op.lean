/- What is proved here: how an argument that is a wire comes in. No condition. -/
import Derived.Test.YtkbdmcimgepakaaGreatOpen
namespace Go.Proofs.YtkbdmcimgepakaaGreat
open Go.ChangeShapes Go.WideShapes Go.ChangeAt Go.RowKit Go.Deep
set_option linter.unusedVariables false

theorem arr4w {α : Type} {cs : Array α} (h : cs.size = 4) : ∃ c0 c1 c2 c3, cs = #[c0, c1, c2, c3] := by
  obtain ⟨l⟩ := cs
  match l, h with
  | [c0, c1, c2, c3], _ => exact ⟨c0, c1, c2, c3, rfl⟩
theorem Tryz.cW11 : Tryz.prog.cellsOf 80 = 4 := by kernel_rfl
theorem Tryz.cB11 : Tryz.prog.cellsOf 78 = 1 := by kernel_rfl
theorem Tryz.cI11 : Tryz.prog.cellsOf 2 = 1 := by kernel_rfl

set_option maxRecDepth 100000 in
theorem open_wire {H : Type} {enc : TypeId × Value → H} {W : World} {base b0 : Nat} {r : Reach} {t1 : Nat → Bool} {t2 : Bool} {v : Value} {d : DataW H} {p : List MemPlace}
    (hv : Value.okWide Tryz.prog W r b0 80 v) (h0 : DataW.Trod enc Tryz.prog W base t1 t2 80 v d p) :
    ∃ (E T : Int) (a b : Option Addr) (n c m d : Nat) (zs ys : List Int), v = .agg #[.int .i64 E, .slice a n c, .int .i64 T, .slice b m d] ∧ (Lit.int .i64 E).wf = true ∧ (Lit.int .i64 T).wf = true ∧ BsAt W a zs ∧ BsAt W b ys ∧ zs.length = n ∧ ys.length = m ∧ n ≤ maxLen ∧ m ≤ maxLen := by
  obtain ⟨cs, rfl, hsz⟩ := okWide_struct Tryz.underlying80 hv
  obtain ⟨c0, c1, c2, c3, rfl⟩ := arr4w (hsz.trans Tryz.cW11)
  obtain ⟨fuel, hf⟩ := h0
  obtain ⟨y, hf'⟩ : ∃ y, DataW.trod enc Tryz.prog W base t1 t2 fuel 80 [c0, c1, c2, c3] = some y := ⟨(d, p), by simpa [Value.cells] using hf⟩
  obtain ⟨ys, m, _, rfl, hl, hlen, hq⟩ := DataW.trod_struct Tryz.underlying80 hf'
  match ys, hlen with
  | [y0, y1, y2, y3], _ =>
    have k0 := hq 0 _ rfl
    have k1 := hq 1 _ rfl
    have k2 := hq 2 _ rfl
    have k3 := hq 3 _ rfl
    simp [Tryz.cB11, Tryz.cI11] at k0 k1 k2 k3
    obtain ⟨E, e0, -, wE⟩ := DataW.trod_int Tryz.underlying2 k0
    simp only [List.cons.injEq, and_true] at e0
    subst e0
    obtain ⟨T, e2, -, wT⟩ := DataW.trod_int Tryz.underlying2 k2
    simp only [List.cons.injEq, and_true] at e2
    subst e2
    have hb0 : ∃ (a : Option Addr) (n c : Nat), c1 = .slice a n c := by
      rcases open_ints Tryz.underlying78 Tryz.underlying5 (by kernel_rfl) k1 with ⟨hcs, _⟩ | ⟨x, l, c, zs, hcs, _⟩
      · simp only [List.cons.injEq, and_true] at hcs
        exact ⟨none, 0, 0, hcs⟩
      · simp only [List.cons.injEq, and_true] at hcs
        exact ⟨some x, l, c, hcs⟩
    have hb1 : ∃ (a : Option Addr) (n c : Nat), c3 = .slice a n c := by
      rcases open_ints Tryz.underlying78 Tryz.underlying5 (by kernel_rfl) k3 with ⟨hcs, _⟩ | ⟨x, l, c, zs, hcs, _⟩
      · simp only [List.cons.injEq, and_true] at hcs
        exact ⟨none, 0, 0, hcs⟩
      · simp only [List.cons.injEq, and_true] at hcs
        exact ⟨some x, l, c, hcs⟩
    obtain ⟨a, n, c, rfl⟩ := hb0
    obtain ⟨b, m', d', rfl⟩ := hb1
    obtain ⟨zs, h1, h2, h3, h4⟩ := open_bytes (enc := enc) (W := W) (base := base) (t1 := t1) (t2 := t2) (a := a) (n := n) (c := c) (d := y1.1) (p := y1.2) ⟨m, by simpa [Value.cells] using k1⟩
    obtain ⟨us, i1, i2, i3, i4⟩ := open_bytes (enc := enc) (W := W) (base := base) (t1 := t1) (t2 := t2) (a := b) (n := m') (c := d') (d := y3.1) (p := y3.2) ⟨m, by simpa [Value.cells] using k3⟩
    exact ⟨E, T, a, b, n, c, m', d', zs, us, rfl, wE, wT, h1, i1, h2, i2, h4, i4⟩

end Go.Proofs.YtkbdmcimgepakaaGreat
