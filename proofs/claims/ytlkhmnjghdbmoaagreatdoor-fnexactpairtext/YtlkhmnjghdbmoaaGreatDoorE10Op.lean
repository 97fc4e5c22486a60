/- What is proved here: how an argument that is an entry comes in. No condition. -/
import Derived.Test.YtlkhmnjghdbmoaaGreatDoorE9Op
namespace Go.Proofs.YtlkhmnjghdbmoaaGreatDoor
open Go.ChangeShapes Go.WideShapes Go.ChangeAt Go.RowKit Go.Deep
set_option linter.unusedVariables false

theorem arr4n {α : Type} {cs : Array α} (h : cs.size = 4) : ∃ c0 c1 c2 c3, cs = #[c0, c1, c2, c3] := by
  obtain ⟨l⟩ := cs
  match l, h with
  | [c0, c1, c2, c3], _ => exact ⟨c0, c1, c2, c3, rfl⟩
theorem Tryz.cEn10 : Tryz.prog.cellsOf 94 = 4 := by kernel_rfl

set_option maxRecDepth 100000 in
theorem open_entry {H : Type} {enc : TypeId × Value → H} {W : World} {base b0 : Nat} {r : Reach} {t1 : Nat → Bool} {t2 : Bool} {v : Value} {d : DataW H} {p : List MemPlace}
    (hv : Value.okWide Tryz.prog W r b0 94 v) (h0 : DataW.Trod enc Tryz.prog W base t1 t2 94 v d p) :
    ∃ (ep k q : Int) (a : Option Addr) (n c : Nat) (zs : List Int), v = .agg #[.int .i64 ep, .int .i64 k, .int .i64 q, .slice a n c] ∧ BsAt W a zs ∧ zs.length = n ∧ n ≤ maxLen := by
  obtain ⟨cs, rfl, hsz⟩ := okWide_struct Tryz.underlying94 hv
  obtain ⟨c9, c0, c1, c2, rfl⟩ := arr4n (hsz.trans Tryz.cEn10)
  obtain ⟨fuel, hf⟩ := h0
  obtain ⟨y, hf'⟩ : ∃ y, DataW.trod enc Tryz.prog W base t1 t2 fuel 94 [c9, c0, c1, c2] = some y := ⟨(d, p), by simpa [Value.cells] using hf⟩
  obtain ⟨yt, mt, _, rfl, hlt, hlent, hqt⟩ := DataW.trod_struct Tryz.underlying94 hf'
  match yt, hlent with
  | [u0, u1], _ =>
    have j0 := hqt 0 _ rfl
    have j1 := hqt 1 _ rfl
    simp [Tryz.cI9, Tryz.cEv9] at j0 j1
    obtain ⟨ep, e9, -, w9⟩ := DataW.trod_int Tryz.underlying2 j0
    simp only [List.cons.injEq, and_true] at e9
    subst e9
    obtain ⟨ys, m, _, rfl, hl, hlen, hq⟩ := DataW.trod_struct Tryz.underlying92 j1
    match ys, hlen with
    | [y0, y1, y2], _ =>
      have k0 := hq 0 _ rfl
      have k1 := hq 1 _ rfl
      have k2 := hq 2 _ rfl
      simp [Tryz.cI9, Tryz.cBs9] at k0 k1 k2
      obtain ⟨k, e0, -, w0⟩ := DataW.trod_int Tryz.underlying2 k0
      obtain ⟨q, e1, -, w1⟩ := DataW.trod_int Tryz.underlying2 k1
      simp only [List.cons.injEq, and_true] at e0 e1
      subst e0 e1
      have hb : ∃ (a : Option Addr) (n c : Nat), c2 = .slice a n c := by
        rcases open_ints Tryz.underlying66 Tryz.underlying5 (by kernel_rfl) k2 with ⟨hcs, _⟩ | ⟨x, l, c, zs, hcs, _⟩
        · simp only [List.cons.injEq, and_true] at hcs
          exact ⟨none, 0, 0, hcs⟩
        · simp only [List.cons.injEq, and_true] at hcs
          exact ⟨some x, l, c, hcs⟩
      obtain ⟨a, n, c, rfl⟩ := hb
      obtain ⟨zs, h1, h2, h3, h4⟩ := open_bytes (enc := enc) (W := W) (base := base) (t1 := t1) (t2 := t2) (a := a) (n := n) (c := c) (d := y2.1) (p := y2.2) ⟨m, by simpa [Value.cells] using k2⟩
      exact ⟨ep, k, q, a, n, c, zs, rfl, h1, h2, h4⟩

end Go.Proofs.YtlkhmnjghdbmoaaGreatDoor
