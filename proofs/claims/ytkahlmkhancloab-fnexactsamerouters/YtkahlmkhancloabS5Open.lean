/- What is proved here: how an argument that is a session or a configuration comes in, and what the copying of one answers. No condition. -/
import Derived.Test.YtkahlmkhancloabOpen
import Derived.Test.YtkahlmkhancloabS5Fn
namespace Go.Proofs.Ytkahlmkhancloab
open Go.ChangeShapes Go.WideShapes Go.ChangeAt Go.RowKit Go.Deep
set_option linter.unusedVariables false

theorem arr5 {α : Type} {cs : Array α} (h : cs.size = 5) : ∃ c0 c1 c2 c3 c4, cs = #[c0, c1, c2, c3, c4] := by
  obtain ⟨l⟩ := cs
  match l, h with
  | [c0, c1, c2, c3, c4], _ => exact ⟨c0, c1, c2, c3, c4, rfl⟩
theorem arr3 {α : Type} {cs : Array α} (h : cs.size = 3) : ∃ c0 c1 c2, cs = #[c0, c1, c2] := by
  obtain ⟨l⟩ := cs
  match l, h with
  | [c0, c1, c2], _ => exact ⟨c0, c1, c2, rfl⟩
theorem Try.cSs5 : Try.prog.cellsOf 95 = 5 := by kernel_rfl
theorem Try.cCf5 : Try.prog.cellsOf 23 = 3 := by kernel_rfl
theorem Try.cI5 : Try.prog.cellsOf 2 = 1 := by kernel_rfl

/-- A whole number that an int64 holds. -/
def In5 (x : Int) : Prop := -9223372036854775808 ≤ x ∧ x ≤ 9223372036854775807
theorem in5_of_wf {x : Int} (h : (Lit.int .i64 x).wf = true) : In5 x := by simpa [In5, Lit.wf, IntKind.min, IntKind.max, IntKind.signed, IntKind.bits] using h

set_option maxRecDepth 100000 in
theorem open_session {H : Type} {enc : TypeId × Value → H} {W : World} {base b0 : Nat} {r : Reach} {t1 : Nat → Bool} {t2 : Bool} {v : Value} {d : DataW H} {p : List MemPlace}
    (hv : Value.okWide Try.prog W r b0 95 v) (h0 : DataW.Trod enc Try.prog W base t1 t2 95 v d p) :
    ∃ (st pe ho si sp : Int), v = .agg #[.int .i64 st, .int .i64 pe, .int .i64 ho, .int .i64 si, .int .i64 sp] ∧ In5 st ∧ In5 pe ∧ In5 ho ∧ In5 si ∧ In5 sp := by
  obtain ⟨cs, rfl, hsz⟩ := okWide_struct Try.underlying95 hv
  obtain ⟨c0, c1, c2, c3, c4, rfl⟩ := arr5 (hsz.trans Try.cSs5)
  obtain ⟨fuel, hf⟩ := h0
  obtain ⟨y, hf'⟩ : ∃ y, DataW.trod enc Try.prog W base t1 t2 fuel 95 [c0, c1, c2, c3, c4] = some y := ⟨(d, p), by simpa [Value.cells] using hf⟩
  obtain ⟨ys, m, _, rfl, hl, hlen, hq⟩ := DataW.trod_struct Try.underlying95 hf'
  match ys, hlen with
  | [y0, y1, y2, y3, y4], _ =>
    have k0 := hq 0 _ rfl
    have k1 := hq 1 _ rfl
    have k2 := hq 2 _ rfl
    have k3 := hq 3 _ rfl
    have k4 := hq 4 _ rfl
    simp [Try.cI5] at k0 k1 k2 k3 k4
    obtain ⟨st, e0, -, w0⟩ := DataW.trod_int Try.underlying2 k0
    obtain ⟨pe, e1, -, w1⟩ := DataW.trod_int Try.underlying2 k1
    obtain ⟨ho, e2, -, w2⟩ := DataW.trod_int Try.underlying2 k2
    obtain ⟨si, e3, -, w3⟩ := DataW.trod_int Try.underlying2 k3
    obtain ⟨sp, e4, -, w4⟩ := DataW.trod_int Try.underlying2 k4
    simp only [List.cons.injEq, and_true] at e0 e1 e2 e3 e4
    subst e0 e1 e2 e3 e4
    exact ⟨st, pe, ho, si, sp, rfl, in5_of_wf w0, in5_of_wf w1, in5_of_wf w2, in5_of_wf w3, in5_of_wf w4⟩

set_option maxRecDepth 100000 in
theorem open_config {H : Type} {enc : TypeId × Value → H} {W : World} {base b0 : Nat} {r : Reach} {t1 : Nat → Bool} {t2 : Bool} {v : Value} {d : DataW H} {p : List MemPlace}
    (hv : Value.okWide Try.prog W r b0 23 v) (h0 : DataW.Trod enc Try.prog W base t1 t2 23 v d p) :
    ∃ (sa si ho : Int), v = .agg #[.int .i64 sa, .int .i64 si, .int .i64 ho] ∧ In5 sa ∧ In5 si ∧ In5 ho := by
  obtain ⟨cs, rfl, hsz⟩ := okWide_struct Try.underlying23 hv
  obtain ⟨c0, c1, c2, rfl⟩ := arr3 (hsz.trans Try.cCf5)
  obtain ⟨fuel, hf⟩ := h0
  obtain ⟨y, hf'⟩ : ∃ y, DataW.trod enc Try.prog W base t1 t2 fuel 23 [c0, c1, c2] = some y := ⟨(d, p), by simpa [Value.cells] using hf⟩
  obtain ⟨ys, m, _, rfl, hl, hlen, hq⟩ := DataW.trod_struct Try.underlying23 hf'
  match ys, hlen with
  | [y0, y1, y2], _ =>
    have k0 := hq 0 _ rfl
    have k1 := hq 1 _ rfl
    have k2 := hq 2 _ rfl
    simp [Try.cI5] at k0 k1 k2
    obtain ⟨st, e0, -, w0⟩ := DataW.trod_int Try.underlying2 k0
    obtain ⟨pe, e1, -, w1⟩ := DataW.trod_int Try.underlying2 k1
    obtain ⟨ho, e2, -, w2⟩ := DataW.trod_int Try.underlying2 k2
    simp only [List.cons.injEq, and_true] at e0 e1 e2
    subst e0 e1 e2
    exact ⟨st, pe, ho, rfl, in5_of_wf w0, in5_of_wf w1, in5_of_wf w2⟩

set_option maxHeartbeats 400000 in
theorem toSes_any (st pe ho si sp : Int) (w : World) : Calls Try.prog 82 #[.agg #[.int .i64 st, .int .i64 pe, .int .i64 ho, .int .i64 si, .int .i64 sp]] w fun e w' => e = .returned (.agg #[.int .i64 st, .int .i64 pe, .int .i64 ho, .int .i64 si, .int .i64 sp]) ∧ New w w' := by
  go_enter Try.func82, Try.ntmps82
  go_wp2
  refine bodyPost_ret (v := .agg #[.int .i64 st, .int .i64 pe, .int .i64 ho, .int .i64 si, .int .i64 sp]) (by simp [results, Try.results82, go_sem]) rfl ⟨rfl, ?_⟩
  exact ((((New.refl w).alloc _).alloc _).alloc _)

set_option maxHeartbeats 400000 in
theorem toCfg_any (sa si ho : Int) (w : World) : Calls Try.prog 52 #[.agg #[.int .i64 sa, .int .i64 si, .int .i64 ho]] w fun e w' => e = .returned (.agg #[.int .i64 sa, .int .i64 si, .int .i64 ho]) ∧ New w w' := by
  go_enter Try.func52, Try.ntmps52
  go_wp2
  refine bodyPost_ret (v := .agg #[.int .i64 sa, .int .i64 si, .int .i64 ho]) (by simp [results, Try.results52, go_sem]) rfl ⟨rfl, ?_⟩
  exact ((((New.refl w).alloc _).alloc _).alloc _)

end Go.Proofs.Ytkahlmkhancloab
