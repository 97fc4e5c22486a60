/- What is proved here: how an argument that is a route or a list of routes comes in. No condition. -/
import Derived.Test.YtjampcfikfafkaaGreatR7Lib
import Derived.Test.YtjampcfikfafkaaGreatAtOpen
import Derived.Deep.SlicePairs
namespace Go.Proofs.YtjampcfikfafkaaGreat
open Go.ChangeShapes Go.WideShapes Go.ChangeAt Go.RowKit Go.Deep

theorem Tryz.cRt : Tryz.prog.cellsOf 90 = 8 := by kernel_rfl
theorem Tryz.cPx7 : Tryz.prog.cellsOf 87 = 2 := by kernel_rfl

set_option maxRecDepth 100000 in
theorem open_nums7 {H : Type} {enc : TypeId × Value → H} {W : World} {base fuel : Nat} {t1 : Nat → Bool} {t2 : Bool} {cs : List Value} {y : DataW H × List MemPlace}
    (hf : DataW.trod enc Tryz.prog W base t1 t2 fuel 34 cs = some y) : ∃ a n c xs, cs = [.slice a n c] ∧ NsAt W a xs ∧ xs.length = n ∧ n ≤ maxLen ∧ (a = none → n = 0 ∧ c = 0) := by
  rcases open_ints Tryz.underlying34 Tryz.underlying2 (by kernel_rfl) hf with ⟨hcs, _⟩ | ⟨x, l, c, zs, hcs, _, hl, hm, hz, _, hcell, hwz⟩
  · exact ⟨none, 0, 0, [], hcs, NsAt.nil _ _, rfl, Nat.zero_le _, fun _ => ⟨rfl, rfl⟩⟩
  · have hz' : l ≤ zs.length := by rw [hz]; split <;> omega
    exact ⟨some x, l, c, zs.take l, hcs, NsAt.of_cells l hcell hwz, by rw [List.length_take]; omega, Nat.le_trans hl hm, by intro e; cases e⟩

/-- A route that came in: its path is there. -/
def Rv.came (w : World) (v : Rv) : Prop := NsAt w v.x v.r.xs ∧ (v.x = none → v.r.xs.length = 0 ∧ v.c = 0) ∧ v.r.xs.length ≤ maxLen

set_option maxRecDepth 100000 in
theorem open_route_cells {H : Type} {enc : TypeId × Value → H} {W : World} {base fuel : Nat} {t1 : Nat → Bool} {t2 : Bool} {c0 c1 c2 c3 c4 c5 c6 c7 : Value} {y : DataW H × List MemPlace}
    (h : DataW.trod enc Tryz.prog W base t1 t2 fuel 90 [c0, c1, c2, c3, c4, c5, c6, c7] = some y) :
    ∃ (v : Rv), [c0, c1, c2, c3, c4, c5, c6, c7] = v.cs ∧ v.came W := by
  obtain ⟨xs, m, _, rfl, hl, hlen, hf⟩ := DataW.trod_struct Tryz.underlying90 h
  match xs, hlen with
  | [y0, y1, y2], _ =>
    have k0 := hf 0 _ rfl
    have k1 := hf 1 _ rfl
    have k2 := hf 2 _ rfl
    simp [Tryz.cI64, Tryz.cPx7, Tryz.cAt] at k0 k1 k2
    obtain ⟨p, e0, -, w0⟩ := DataW.trod_int Tryz.underlying2 k0
    obtain ⟨ys, m', _, rfl, hl', hlen', hf'⟩ := DataW.trod_struct Tryz.underlying87 k1
    obtain ⟨us, m2, _, rfl, hl2, hlen2, hf2⟩ := DataW.trod_struct Tryz.underlying88 k2
    match ys, hlen', us, hlen2 with
    | [z0, z1], _, [u0, u1, u2, u3, u4], _ =>
      have j0 := hf' 0 _ rfl
      have j1 := hf' 1 _ rfl
      have q0 := hf2 0 _ rfl
      have q1 := hf2 1 _ rfl
      have q2 := hf2 2 _ rfl
      have q3 := hf2 3 _ rfl
      have q4 := hf2 4 _ rfl
      simp [Tryz.cI64, Tryz.cNs] at j0 j1 q0 q1 q2 q3 q4
      obtain ⟨a, e1, -, w1⟩ := DataW.trod_int Tryz.underlying2 j0
      obtain ⟨l, e2, -, w2⟩ := DataW.trod_int Tryz.underlying2 j1
      obtain ⟨o, e3, -, w3⟩ := DataW.trod_int Tryz.underlying2 q0
      obtain ⟨x, n, c, zs, e4, hns, hln, hmx, hnl⟩ := open_nums7 q1
      obtain ⟨nx, e5, -, w5⟩ := DataW.trod_int Tryz.underlying2 q2
      obtain ⟨md, e6, -, w6⟩ := DataW.trod_int Tryz.underlying2 q3
      obtain ⟨lc, e7, -, w7⟩ := DataW.trod_int Tryz.underlying2 q4
      simp only [List.cons.injEq, and_true] at e0 e1 e2 e3 e4 e5 e6 e7
      subst e0 e1 e2 e3 e4 e5 e6 e7
      subst hln
      exact ⟨⟨⟨p, a, l, o, zs, nx, md, lc⟩, x, c⟩, rfl, hns, hnl, hmx⟩

set_option maxRecDepth 100000 in
theorem open_route {H : Type} {enc : TypeId × Value → H} {W : World} {base b0 : Nat} {r : Reach} {t1 : Nat → Bool} {t2 : Bool} {v : Value} {d : DataW H} {p : List MemPlace}
    (hv : Value.okWide Tryz.prog W r b0 90 v) (h0 : DataW.Trod enc Tryz.prog W base t1 t2 90 v d p) :
    ∃ (p a l o nx md lc : Int) (x : Option Addr) (n c : Nat) (xs : List Int), v = .agg #[.int .i64 p, .int .i64 a, .int .i64 l, .int .i64 o, .slice x n c, .int .i64 nx, .int .i64 md, .int .i64 lc] ∧ NsAt W x xs ∧ xs.length = n ∧ n ≤ maxLen ∧ (x = none → n = 0 ∧ c = 0) := by
  obtain ⟨cs, rfl, hsz⟩ := okWide_struct Tryz.underlying90 hv
  obtain ⟨c0, c1, c2, c3, c4, c5, c6, c7, rfl⟩ := array8 (hsz.trans Tryz.cRt)
  obtain ⟨fuel, hf⟩ := h0
  have hf' : DataW.trod enc Tryz.prog W base t1 t2 fuel 90 [c0, c1, c2, c3, c4, c5, c6, c7] = some (d, p) := by simpa [Value.cells] using hf
  obtain ⟨r, hr, h1, h2, h3⟩ := open_route_cells hf'
  simp only [Rv.cs, List.cons.injEq, and_true] at hr
  obtain ⟨rfl, rfl, rfl, rfl, rfl, rfl, rfl, rfl⟩ := hr
  exact ⟨_, _, _, _, _, _, _, _, _, _, _, rfl, h1, rfl, h3, h2⟩

/-- The address leads to the routes that came in. -/
def RtCame (w : World) (A : Option Addr) (V : List Rv) : Prop :=
  ∀ i v, V[i]? = some v → (∃ b off, A = some ⟨b, off, none⟩ ∧ ∀ j, j < 8 → w.cell? ⟨b, off + i * 8 + j, none⟩ = v.cs[j]?) ∧ v.came w

set_option maxRecDepth 100000 in
theorem open_routes {H : Type} {enc : TypeId × Value → H} {W : World} {base : Nat} {t1 : Nat → Bool} {t2 : Bool} {a : Option Addr} {n c : Nat} {d : DataW H} {p : List MemPlace}
    (h0 : DataW.Trod enc Tryz.prog W base t1 t2 46 (.slice a n c) d p) : ∃ V, RtCame W a V ∧ V.length = n ∧ n ≤ maxLen := by
  obtain ⟨fuel, hf⟩ := h0
  rcases open_slice Tryz.underlying46 hf with ⟨hcs, _⟩ | ⟨x, l, cc, m, k, D, Pl, hcs, _, hl, hm, hmm, _, hall⟩
  · simp [Value.cells] at hcs
    obtain ⟨rfl, rfl, rfl⟩ := hcs
    exact ⟨[], (by intro i v hv; simp at hv), rfl, Nat.zero_le _⟩
  · simp [Value.cells] at hcs
    obtain ⟨rfl, rfl, rfl⟩ := hcs
    have hlm : n ≤ m := by rw [hmm]; split <;> omega
    have each : ∀ i, i < n → ∃ r : Rv, (∀ j, j < 8 → W.cell? (x.add (i * 8 + j)) = r.cs[j]?) ∧ r.came W := by
      intro i hi
      obtain ⟨cs', h1, h2⟩ := hall i (by omega)
      rw [Tryz.cRt] at h1
      obtain ⟨_, hlen, hcell⟩ := World.cells?_some h1
      match cs', hlen with
      | [c0, c1, c2, c3, c4, c5, c6, c7], _ =>
        obtain ⟨r, hr, hcm⟩ := open_route_cells h2
        refine ⟨r, fun j hj => ?_, hcm⟩
        have hc := hcell j (by omega)
        rw [add_add] at hc
        rw [hc, hr]
    refine ⟨(List.range n).map (fun i => if h : i < n then (each i h).choose else rv0), ?_, by simp, Nat.le_trans hl hm⟩
    obtain ⟨b, off, spot⟩ := x
    intro i q hq
    have hi : i < n := by
      have := (List.getElem?_eq_some_iff.1 hq).1
      simpa using this
    have hq' : q = (each i hi).choose := by
      rw [List.getElem?_map, List.getElem?_range hi] at hq
      simpa [hi] using hq.symm
    have hs := (each i hi).choose_spec
    rw [← hq'] at hs
    have hspot : spot = none := by
      obtain ⟨r0, hr0, -⟩ := each 0 (by omega)
      have h2 : W.cell? (Addr.add ⟨b, off, spot⟩ (0 * 8 + 0)) = some (.int .i64 r0.r.p) := hr0 0 (by omega)
      simpa [Addr.add] using World.cell?_spot h2
    subst hspot
    refine ⟨⟨b, off, rfl, fun j hj => ?_⟩, hs.2⟩
    have := hs.1 j hj
    rw [Addr.add_lit] at this
    rw [Nat.add_assoc]
    exact this

end Go.Proofs.YtjampcfikfafkaaGreat
