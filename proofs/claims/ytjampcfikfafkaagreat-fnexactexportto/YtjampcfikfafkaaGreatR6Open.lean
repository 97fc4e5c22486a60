/- What is proved here: how an argument that is a rule or a list of rules comes in. No condition. -/
import Derived.Test.YtjampcfikfafkaaGreatR6Law
import Derived.Test.YtjampcfikfafkaaGreatAtOpen
import Derived.Deep.SlicePairs
namespace Go.Proofs.YtjampcfikfafkaaGreat
open Go.ChangeShapes Go.WideShapes Go.ChangeAt Go.RowKit Go.Deep

theorem Tryz.cI64R : Tryz.prog.cellsOf 2 = 1 := by kernel_rfl
theorem Tryz.cRu : Tryz.prog.cellsOf 96 = 8 := by kernel_rfl
theorem Tryz.cPx : Tryz.prog.cellsOf 87 = 2 := by kernel_rfl
theorem Tryz.cBlR : Tryz.prog.cellsOf 4 = 1 := by kernel_rfl

set_option maxRecDepth 100000 in
theorem open_rule_cells {H : Type} {enc : TypeId × Value → H} {W : World} {base fuel : Nat} {t1 : Nat → Bool} {t2 : Bool} {c0 c1 c2 c3 c4 c5 c6 c7 : Value} {y : DataW H × List MemPlace}
    (h : DataW.trod enc Tryz.prog W base t1 t2 fuel 96 [c0, c1, c2, c3, c4, c5, c6, c7] = some y) :
    ∃ (r : Ru), [c0, c1, c2, c3, c4, c5, c6, c7] = r.cs ∧ In6 r.pp := by
  obtain ⟨xs, m, _, rfl, hl, hlen, hf⟩ := DataW.trod_struct Tryz.underlying96 h
  match xs, hlen with
  | [y0, y1, y2, y3, y4, y5, y6], _ =>
    have k0 := hf 0 _ rfl
    have k1 := hf 1 _ rfl
    have k2 := hf 2 _ rfl
    have k3 := hf 3 _ rfl
    have k4 := hf 4 _ rfl
    have k5 := hf 5 _ rfl
    have k6 := hf 6 _ rfl
    simp [Tryz.cI64R, Tryz.cPx, Tryz.cBlR] at k0 k1 k2 k3 k4 k5 k6
    obtain ⟨ys, m', _, rfl, hl', hlen', hf'⟩ := DataW.trod_struct Tryz.underlying87 k0
    match ys, hlen' with
    | [z0, z1], _ =>
      have j0 := hf' 0 _ rfl
      have j1 := hf' 1 _ rfl
      simp [Tryz.cI64R] at j0 j1
      obtain ⟨a, e0, -, w0⟩ := DataW.trod_int Tryz.underlying2 j0
      obtain ⟨l, e1, -, w1⟩ := DataW.trod_int Tryz.underlying2 j1
      obtain ⟨ls, e2, -, w2⟩ := DataW.trod_int Tryz.underlying2 k1
      obtain ⟨ms, e3, -, w3⟩ := DataW.trod_int Tryz.underlying2 k2
      obtain ⟨s, e4, -, w4⟩ := DataW.trod_int Tryz.underlying2 k3
      obtain ⟨d, e5, -⟩ := DataW.trod_bool Tryz.underlying4 k4
      obtain ⟨lc, e6, -, w6⟩ := DataW.trod_int Tryz.underlying2 k5
      obtain ⟨pp, e7, -, w7⟩ := DataW.trod_int Tryz.underlying2 k6
      simp only [List.cons.injEq, and_true] at e0 e1 e2 e3 e4 e5 e6 e7
      subst e0 e1 e2 e3 e4 e5 e6 e7
      exact ⟨⟨a, l, ls, ms, s, d, lc, pp⟩, rfl, in6_of_wf w7⟩

set_option maxRecDepth 100000 in
theorem open_rule {H : Type} {enc : TypeId × Value → H} {W : World} {base b0 : Nat} {r : Reach} {t1 : Nat → Bool} {t2 : Bool} {v : Value} {d : DataW H} {p : List MemPlace}
    (hv : Value.okWide Tryz.prog W r b0 96 v) (h0 : DataW.Trod enc Tryz.prog W base t1 t2 96 v d p) :
    ∃ (a l ls ms s : Int) (d : Bool) (lc pp : Int), v = .agg #[.int .i64 a, .int .i64 l, .int .i64 ls, .int .i64 ms, .int .i64 s, .bool d, .int .i64 lc, .int .i64 pp] := by
  obtain ⟨cs, rfl, hsz⟩ := okWide_struct Tryz.underlying96 hv
  obtain ⟨c0, c1, c2, c3, c4, c5, c6, c7, rfl⟩ := array8 (hsz.trans Tryz.cRu)
  obtain ⟨fuel, hf⟩ := h0
  have hf' : DataW.trod enc Tryz.prog W base t1 t2 fuel 96 [c0, c1, c2, c3, c4, c5, c6, c7] = some (d, p) := by simpa [Value.cells] using hf
  obtain ⟨r, hr, -⟩ := open_rule_cells hf'
  simp only [Ru.cs, List.cons.injEq, and_true] at hr
  obtain ⟨rfl, rfl, rfl, rfl, rfl, rfl, rfl, rfl⟩ := hr
  exact ⟨_, _, _, _, _, _, _, _, rfl⟩

set_option maxRecDepth 100000 in
theorem open_rules {H : Type} {enc : TypeId × Value → H} {W : World} {base : Nat} {t1 : Nat → Bool} {t2 : Bool} {a : Option Addr} {n c : Nat} {d : DataW H} {p : List MemPlace}
    (h0 : DataW.Trod enc Tryz.prog W base t1 t2 47 (.slice a n c) d p) : ∃ rs, RsAt W a rs ∧ rs.length = n ∧ n ≤ maxLen := by
  obtain ⟨fuel, hf⟩ := h0
  rcases open_slice Tryz.underlying47 hf with ⟨hcs, _⟩ | ⟨x, l, cc, m, k, D, Pl, hcs, _, hl, hm, hmm, _, hall⟩
  · simp [Value.cells] at hcs
    obtain ⟨rfl, rfl, rfl⟩ := hcs
    exact ⟨[], RsAt.nil _ _, rfl, Nat.zero_le _⟩
  · simp [Value.cells] at hcs
    obtain ⟨rfl, rfl, rfl⟩ := hcs
    have hlm : n ≤ m := by rw [hmm]; split <;> omega
    have each : ∀ i, i < n → ∃ r : Ru, ∀ j, j < 8 → W.cell? (x.add (i * 8 + j)) = r.cs[j]? := by
      intro i hi
      obtain ⟨cs', h1, h2⟩ := hall i (by omega)
      rw [Tryz.cRu] at h1
      obtain ⟨_, hlen, hcell⟩ := World.cells?_some h1
      match cs', hlen with
      | [c0, c1, c2, c3, c4, c5, c6, c7], _ =>
        obtain ⟨r, hr, -⟩ := open_rule_cells h2
        refine ⟨r, fun j hj => ?_⟩
        have hc := hcell j (by omega)
        rw [add_add] at hc
        rw [hc, hr]
    refine ⟨(List.range n).map (fun i => if h : i < n then (each i h).choose else ru0), ?_, by simp, Nat.le_trans hl hm⟩
    obtain ⟨b, off, spot⟩ := x
    intro i q hq
    have hi : i < n := by
      have := (List.getElem?_eq_some_iff.1 hq).1
      simpa using this
    have hq' : q = (each i hi).choose := by
      rw [List.getElem?_map, List.getElem?_range hi] at hq
      simpa [hi] using hq.symm
    have hs := (each i hi).choose_spec
    rw [← hq'] at hs
    have hspot : spot = none := by
      obtain ⟨r0, hr0⟩ := each 0 (by omega)
      have h2 : W.cell? (Addr.add ⟨b, off, spot⟩ (0 * 8 + 0)) = some (.int .i64 r0.a) := hr0 0 (by omega)
      simpa [Addr.add] using World.cell?_spot h2
    subst hspot
    refine ⟨b, off, rfl, fun j hj => ?_⟩
    have := hs j hj
    rw [Addr.add_lit] at this
    rw [Nat.add_assoc]
    exact this

end Go.Proofs.YtjampcfikfafkaaGreat
