/- What is proved here: how an argument that is a message comes in. No condition. -/
import Derived.Test.YtljkcijakdhdiaaDoorAtOpen
namespace Go.Proofs.YtljkcijakdhdiaaDoor
open Go.ChangeShapes Go.WideShapes Go.ChangeAt Go.RowKit Go.Deep

theorem array14 {α : Type} {cs : Array α} (h : cs.size = 14) : ∃ c0 c1 c2 c3 c4 c5 c6 c7 c8 c9 c10 c11 c12 c13, cs = #[c0, c1, c2, c3, c4, c5, c6, c7, c8, c9, c10, c11, c12, c13] := by
  obtain ⟨l⟩ := cs
  match l, h with
  | [c0, c1, c2, c3, c4, c5, c6, c7, c8, c9, c10, c11, c12, c13], _ => exact ⟨c0, c1, c2, c3, c4, c5, c6, c7, c8, c9, c10, c11, c12, c13, rfl⟩

theorem Tryd.cMs : Tryd.prog.cellsOf 29 = 14 := by kernel_rfl

set_option maxRecDepth 100000 in
theorem open_message {H : Type} {enc : TypeId × Value → H} {W : World} {base b0 : Nat} {r : Reach} {t1 : Nat → Bool} {t2 : Bool} {v : Value} {d : DataW H} {p : List MemPlace}
    (hv : Value.okWide Tryd.prog W r b0 29 v) (h0 : DataW.Trod enc Tryd.prog W base t1 t2 29 v d p) :
    ∃ (kd sa ho si wh su : Int) (ga : Option Addr) (gn gc : Nat) (gs : List (Int × Int)) (has : Bool) (o nx md lc : Int) (a : Option Addr) (n c : Nat) (xs : List Int) (ra : Option Addr) (rn rc : Nat) (rs : List (Int × Int)),
      v = .agg #[.int .i64 kd, .int .i64 sa, .int .i64 ho, .int .i64 si, .int .i64 wh, .int .i64 su, .slice ga gn gc, .bool has, .int .i64 o, .slice a n c, .int .i64 nx, .int .i64 md, .int .i64 lc, .slice ra rn rc] ∧
      (PsAt W ga gs ∧ gs.length = gn ∧ gn ≤ maxLen) ∧ (NsAt W a xs ∧ xs.length = n ∧ n ≤ maxLen) ∧ (PsAt W ra rs ∧ rs.length = rn ∧ rn ≤ maxLen) ∧ (In6 kd ∧ In6 sa ∧ In6 ho ∧ In6 si ∧ In6 wh ∧ In6 su) := by
  obtain ⟨cs, rfl, hsz⟩ := okWide_struct Tryd.underlying29 hv
  obtain ⟨c0, c1, c2, c3, c4, c5, c6, c7, c8, c9, c10, c11, c12, c13, rfl⟩ := array14 (hsz.trans Tryd.cMs)
  obtain ⟨fuel, hf⟩ := h0
  obtain ⟨y, hf'⟩ : ∃ y, DataW.trod enc Tryd.prog W base t1 t2 fuel 29 [c0, c1, c2, c3, c4, c5, c6, c7, c8, c9, c10, c11, c12, c13] = some y := ⟨(d, p), by simpa [Value.cells] using hf⟩
  obtain ⟨ys, m, _, rfl, hl, hlen, hq⟩ := DataW.trod_struct Tryd.underlying29 hf'
  match ys, hlen with
  | [y0, y1, y2, y3, y4, y5, y6], _ =>
    have k0 := hq 0 _ rfl
    have k1 := hq 1 _ rfl
    have k2 := hq 2 _ rfl
    have k3 := hq 3 _ rfl
    have k4 := hq 4 _ rfl
    have k5 := hq 5 _ rfl
    have k6 := hq 6 _ rfl
    simp [Tryd.cI64, Tryd.cUp] at k0 k1 k2 k3 k4 k5 k6
    obtain ⟨kd, e0, -, w0⟩ := DataW.trod_int Tryd.underlying2 k0
    obtain ⟨sa, e1, -, w1⟩ := DataW.trod_int Tryd.underlying2 k1
    obtain ⟨ho, e2, -, w2⟩ := DataW.trod_int Tryd.underlying2 k2
    obtain ⟨si, e3, -, w3⟩ := DataW.trod_int Tryd.underlying2 k3
    obtain ⟨wh, e4, -, w4⟩ := DataW.trod_int Tryd.underlying2 k4
    obtain ⟨su, e5, -, w5⟩ := DataW.trod_int Tryd.underlying2 k5
    obtain ⟨ga, gn, gc, gs, has, o, nx, md, lc, a, n, c, xs, ra, rn, rc, rs, rfl, rfl, rfl, rfl, rfl, rfl, rfl, rfl, hh⟩ := open_update_cells k6
    simp only [List.cons.injEq, and_true] at e0 e1 e2 e3 e4 e5
    subst e0 e1 e2 e3 e4 e5
    exact ⟨kd, sa, ho, si, wh, su, ga, gn, gc, gs, has, o, nx, md, lc, a, n, c, xs, ra, rn, rc, rs, rfl, hh.1, hh.2.1, hh.2.2, in6_of_wf w0, in6_of_wf w1, in6_of_wf w2, in6_of_wf w3, in6_of_wf w4, in6_of_wf w5⟩

end Go.Proofs.YtljkcijakdhdiaaDoor
