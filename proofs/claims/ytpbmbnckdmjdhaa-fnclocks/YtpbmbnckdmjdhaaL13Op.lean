/- What is proved here: how an argument that is a lease or a clock comes in. No condition. -/
import Derived.Test.YtpbmbnckdmjdhaaN13Ls
namespace Go.Proofs.Ytpbmbnckdmjdhaa
open Go.ChangeShapes Go.WideShapes Go.ChangeAt Go.RowKit Go.Deep
set_option linter.unusedVariables false

theorem arr13 {α : Type} {cs : Array α} (h : cs.size = 4) : ∃ c0 c1 c2 c3, cs = #[c0, c1, c2, c3] := by
  obtain ⟨l⟩ := cs
  match l, h with
  | [c0, c1, c2, c3], _ => exact ⟨c0, c1, c2, c3, rfl⟩

theorem arr132 {α : Type} {cs : Array α} (h : cs.size = 2) : ∃ c0 c1, cs = #[c0, c1] := by
  obtain ⟨l⟩ := cs
  match l, h with
  | [c0, c1], _ => exact ⟨c0, c1, rfl⟩

theorem Try.cLe13 : Try.prog.cellsOf 46 = 4 := by kernel_rfl

theorem Try.cCk13 : Try.prog.cellsOf 49 = 2 := by kernel_rfl

theorem Try.cI13 : Try.prog.cellsOf 2 = 1 := by kernel_rfl

theorem Try.cN13 : Try.prog.cellsOf 24 = 1 := by kernel_rfl

set_option maxRecDepth 100000 in
theorem open_lease {H : Type} {enc : TypeId × Value → H} {W : World} {base b0 : Nat} {r : Reach} {t1 : Nat → Bool} {t2 : Bool} {v : Value} {d : DataW H} {p : List MemPlace}
    (hv : Value.okWide Try.prog W r b0 46 v) (h0 : DataW.Trod enc Try.prog W base t1 t2 46 v d p) :
    ∃ (ho ep ak he : Int), v = .agg #[.int .i64 ho, .int .i64 ep, .int .i64 ak, .int .i64 he] ∧ In6 ho ∧ In6 ep ∧ In6 ak ∧ In6 he := by
  obtain ⟨cs, rfl, hsz⟩ := okWide_struct Try.underlying46 hv
  obtain ⟨c0, c1, c2, c3, rfl⟩ := arr13 (hsz.trans Try.cLe13)
  obtain ⟨fuel, hf⟩ := h0
  obtain ⟨y, hf'⟩ : ∃ y, DataW.trod enc Try.prog W base t1 t2 fuel 46 [c0, c1, c2, c3] = some y := ⟨(d, p), by simpa [Value.cells] using hf⟩
  obtain ⟨ys, m, _, rfl, hl, hlen, hq⟩ := DataW.trod_struct Try.underlying46 hf'
  match ys, hlen with
  | [y0, y1, y2, y3], _ =>
    have k0 := hq 0 _ rfl
    have k1 := hq 1 _ rfl
    have k2 := hq 2 _ rfl
    have k3 := hq 3 _ rfl
    simp [Try.cI13] at k0 k1 k2 k3
    obtain ⟨st, e0, -, w0⟩ := DataW.trod_int Try.underlying2 k0
    obtain ⟨pe, e1, -, w1⟩ := DataW.trod_int Try.underlying2 k1
    obtain ⟨ho, e2, -, w2⟩ := DataW.trod_int Try.underlying2 k2
    obtain ⟨si, e3, -, w3⟩ := DataW.trod_int Try.underlying2 k3
    simp only [List.cons.injEq, and_true] at e0 e1 e2 e3
    subst e0 e1 e2 e3
    exact ⟨st, pe, ho, si, rfl, in6_of_wf w0, in6_of_wf w1, in6_of_wf w2, in6_of_wf w3⟩

set_option maxRecDepth 100000 in
theorem open_clock {H : Type} {enc : TypeId × Value → H} {W : World} {base b0 : Nat} {r : Reach} {t1 : Nat → Bool} {t2 : Bool} {v : Value} {d : DataW H} {p : List MemPlace}
    (hv : Value.okWide Try.prog W r b0 49 v) (h0 : DataW.Trod enc Try.prog W base t1 t2 49 v d p) :
    ∃ (nw : Int) (a : Option Addr) (n c : Nat) (xs : List Int), v = .agg #[.int .i64 nw, .slice a n c] ∧ In6 nw ∧ NsAt W a xs ∧ xs.length = n ∧ n ≤ maxLen := by
  obtain ⟨cs, rfl, hsz⟩ := okWide_struct Try.underlying49 hv
  obtain ⟨c0, c1, rfl⟩ := arr132 (hsz.trans Try.cCk13)
  obtain ⟨fuel, hf⟩ := h0
  obtain ⟨y, hf'⟩ : ∃ y, DataW.trod enc Try.prog W base t1 t2 fuel 49 [c0, c1] = some y := ⟨(d, p), by simpa [Value.cells] using hf⟩
  obtain ⟨ys, m, _, rfl, hl, hlen, hq⟩ := DataW.trod_struct Try.underlying49 hf'
  match ys, hlen with
  | [y0, y1], _ =>
    have k0 := hq 0 _ rfl
    have k1 := hq 1 _ rfl
    simp [Try.cI13, Try.cN13] at k0 k1
    obtain ⟨nw, e0, -, w0⟩ := DataW.trod_int Try.underlying2 k0
    obtain ⟨a, n, c, xs, e1, h1, h2, h3⟩ := open_nums k1
    simp only [List.cons.injEq, and_true] at e0 e1
    subst e0 e1
    exact ⟨nw, a, n, c, xs, rfl, in6_of_wf w0, h1, h2, h3⟩

theorem open_list {H : Type} {enc : TypeId × Value → H} {W : World} {base b0 : Nat} {r : Reach} {t1 : Nat → Bool} {t2 : Bool} {v : Value} {d : DataW H} {p : List MemPlace}
    (hv : Value.okWide Try.prog W r b0 24 v) (h0 : DataW.Trod enc Try.prog W base t1 t2 24 v d p) :
    ∃ (a : Option Addr) (n c : Nat) (xs : List Int), v = .slice a n c ∧ NsAt W a xs ∧ xs.length = n ∧ n ≤ maxLen := by
  obtain ⟨x, len, cap, rfl⟩ : ∃ x len cap, v = .slice x len cap := okWide_slice Try.underlying24 hv
  obtain ⟨fuel, hf⟩ := h0
  obtain ⟨a, n, c, xs, e1, h1, h2, h3⟩ := open_nums hf
  simp only [Value.cells, List.cons.injEq, and_true] at e1
  exact ⟨a, n, c, xs, e1, h1, h2, h3⟩

end Go.Proofs.Ytpbmbnckdmjdhaa
