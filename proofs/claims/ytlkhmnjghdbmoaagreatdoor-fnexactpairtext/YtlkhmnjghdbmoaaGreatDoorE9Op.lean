/- What is proved here: how an argument that is an event comes in. No condition. -/
import Derived.Test.YtlkhmnjghdbmoaaGreatDoorOpen
namespace Go.Proofs.YtlkhmnjghdbmoaaGreatDoor
open Go.ChangeShapes Go.WideShapes Go.ChangeAt Go.RowKit Go.Deep
set_option linter.unusedVariables false

theorem arr3e {α : Type} {cs : Array α} (h : cs.size = 3) : ∃ c0 c1 c2, cs = #[c0, c1, c2] := by
  obtain ⟨l⟩ := cs
  match l, h with
  | [c0, c1, c2], _ => exact ⟨c0, c1, c2, rfl⟩
theorem Tryz.cEv9 : Tryz.prog.cellsOf 92 = 3 := by kernel_rfl
theorem Tryz.cI9 : Tryz.prog.cellsOf 2 = 1 := by kernel_rfl
theorem Tryz.cBs9 : Tryz.prog.cellsOf 66 = 1 := by kernel_rfl

set_option maxRecDepth 100000 in
theorem open_event {H : Type} {enc : TypeId × Value → H} {W : World} {base b0 : Nat} {r : Reach} {t1 : Nat → Bool} {t2 : Bool} {v : Value} {d : DataW H} {p : List MemPlace}
    (hv : Value.okWide Tryz.prog W r b0 92 v) (h0 : DataW.Trod enc Tryz.prog W base t1 t2 92 v d p) :
    ∃ (k q : Int) (a : Option Addr) (n c : Nat) (zs : List Int), v = .agg #[.int .i64 k, .int .i64 q, .slice a n c] ∧ BsAt W a zs ∧ zs.length = n ∧ n ≤ maxLen := by
  obtain ⟨cs, rfl, hsz⟩ := okWide_struct Tryz.underlying92 hv
  obtain ⟨c0, c1, c2, rfl⟩ := arr3e (hsz.trans Tryz.cEv9)
  obtain ⟨fuel, hf⟩ := h0
  obtain ⟨y, hf'⟩ : ∃ y, DataW.trod enc Tryz.prog W base t1 t2 fuel 92 [c0, c1, c2] = some y := ⟨(d, p), by simpa [Value.cells] using hf⟩
  obtain ⟨ys, m, _, rfl, hl, hlen, hq⟩ := DataW.trod_struct Tryz.underlying92 hf'
  match ys, hlen with
  | [y0, y1, y2], _ =>
    have k0 := hq 0 _ rfl
    have k1 := hq 1 _ rfl
    have k2 := hq 2 _ rfl
    simp [Tryz.cI9, Tryz.cBs9] at k0 k1 k2
    obtain ⟨k, e0, -, w0⟩ := DataW.trod_int Tryz.underlying2 k0
    obtain ⟨q, e1, -, w1⟩ := DataW.trod_int Tryz.underlying2 k1
    simp only [List.cons.injEq, and_true] at e0 e1
    subst e0 e1
    have hb : ∃ (a : Option Addr) (n c : Nat), c2 = .slice a n c := by
      rcases open_ints Tryz.underlying66 Tryz.underlying5 (by kernel_rfl) k2 with ⟨hcs, _⟩ | ⟨x, l, c, zs, hcs, _⟩
      · simp only [List.cons.injEq, and_true] at hcs
        exact ⟨none, 0, 0, hcs⟩
      · simp only [List.cons.injEq, and_true] at hcs
        exact ⟨some x, l, c, hcs⟩
    obtain ⟨a, n, c, rfl⟩ := hb
    obtain ⟨zs, h1, h2, h3, h4⟩ := open_bytes (enc := enc) (W := W) (base := base) (t1 := t1) (t2 := t2) (a := a) (n := n) (c := c) (d := y2.1) (p := y2.2) ⟨m, by simpa [Value.cells] using k2⟩
    exact ⟨k, q, a, n, c, zs, rfl, h1, h2, h4⟩

end Go.Proofs.YtlkhmnjghdbmoaaGreatDoor
