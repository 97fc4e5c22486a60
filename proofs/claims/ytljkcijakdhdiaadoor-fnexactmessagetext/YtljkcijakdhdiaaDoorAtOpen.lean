/- What is proved here: how an argument that is attributes or an update comes in. No condition. -/
import Derived.Test.YtljkcijakdhdiaaDoorAtLaw
import Derived.Test.YtljkcijakdhdiaaDoorPsOpen
namespace Go.Proofs.YtljkcijakdhdiaaDoor
open Go.ChangeShapes Go.WideShapes Go.ChangeAt Go.RowKit Go.Deep

theorem NsAt.of_cells {w : World} {x : Addr} {xs : List Int} (len : Nat) (hcell : ∀ i, i < xs.length → w.cell? (x.add i) = some (.int .i64 (xs.getD i 0))) (hw : ∀ n ∈ xs, (Lit.int .i64 n).wf = true) :
    NsAt w (some x) (xs.take len) := by
  intro i z hz
  rw [List.getElem?_take] at hz
  split at hz
  · obtain ⟨hi, rfl⟩ := List.getElem?_eq_some_iff.1 hz
    have hc := hcell i hi
    obtain ⟨b, off, spot⟩ := x
    have hspot : spot = none := by simpa [Addr.add] using World.cell?_spot (hcell 0 (by omega))
    subst hspot
    rw [Addr.add_lit] at hc
    exact ⟨b, off, rfl, by simpa [List.getD, hi] using hc, in6_of_wf (hw _ (List.getElem_mem hi))⟩
  · cases hz

set_option maxRecDepth 100000 in
theorem open_nums {H : Type} {enc : TypeId × Value → H} {W : World} {base fuel : Nat} {t1 : Nat → Bool} {t2 : Bool} {cs : List Value} {y : DataW H × List MemPlace}
    (hf : DataW.trod enc Tryd.prog W base t1 t2 fuel 23 cs = some y) : ∃ a n c xs, cs = [.slice a n c] ∧ NsAt W a xs ∧ xs.length = n ∧ n ≤ maxLen := by
  rcases open_ints Tryd.underlying23 Tryd.underlying2 (by kernel_rfl) hf with ⟨hcs, _⟩ | ⟨x, l, c, zs, hcs, _, hl, hm, hz, _, hcell, hwz⟩
  · exact ⟨none, 0, 0, [], hcs, NsAt.nil _ _, rfl, Nat.zero_le _⟩
  · have hz' : l ≤ zs.length := by rw [hz]; split <;> omega
    exact ⟨some x, l, c, zs.take l, hcs, NsAt.of_cells l hcell hwz, by rw [List.length_take]; omega, Nat.le_trans hl hm⟩

theorem array5 {α : Type} {cs : Array α} (h : cs.size = 5) : ∃ c0 c1 c2 c3 c4, cs = #[c0, c1, c2, c3, c4] := by
  obtain ⟨l⟩ := cs
  match l, h with
  | [c0, c1, c2, c3, c4], _ => exact ⟨c0, c1, c2, c3, c4, rfl⟩
theorem array8 {α : Type} {cs : Array α} (h : cs.size = 8) : ∃ c0 c1 c2 c3 c4 c5 c6 c7, cs = #[c0, c1, c2, c3, c4, c5, c6, c7] := by
  obtain ⟨l⟩ := cs
  match l, h with
  | [c0, c1, c2, c3, c4, c5, c6, c7], _ => exact ⟨c0, c1, c2, c3, c4, c5, c6, c7, rfl⟩

theorem Tryd.cI64 : Tryd.prog.cellsOf 2 = 1 := by kernel_rfl
theorem Tryd.cNs : Tryd.prog.cellsOf 23 = 1 := by kernel_rfl

set_option maxRecDepth 100000 in
theorem open_attrs_cells {H : Type} {enc : TypeId × Value → H} {W : World} {base fuel : Nat} {t1 : Nat → Bool} {t2 : Bool} {c0 c1 c2 c3 c4 : Value} {y : DataW H × List MemPlace}
    (h : DataW.trod enc Tryd.prog W base t1 t2 fuel 25 [c0, c1, c2, c3, c4] = some y) :
    ∃ (o nx md lc : Int) (a : Option Addr) (n c : Nat) (xs : List Int), c0 = .int .i64 o ∧ c1 = .slice a n c ∧ c2 = .int .i64 nx ∧ c3 = .int .i64 md ∧ c4 = .int .i64 lc ∧ NsAt W a xs ∧ xs.length = n ∧ n ≤ maxLen ∧ In6 o ∧ In6 nx ∧ In6 md ∧ In6 lc := by
  obtain ⟨xs, m, _, rfl, hl, hlen, hf⟩ := DataW.trod_struct Tryd.underlying25 h
  match xs, hlen with
  | [y0, y1, y2, y3, y4], _ =>
    have k0 := hf 0 _ rfl
    have k1 := hf 1 _ rfl
    have k2 := hf 2 _ rfl
    have k3 := hf 3 _ rfl
    have k4 := hf 4 _ rfl
    simp [Tryd.cI64, Tryd.cNs] at k0 k1 k2 k3 k4
    obtain ⟨o, e0, -, w0⟩ := DataW.trod_int Tryd.underlying2 k0
    obtain ⟨nx, e2, -, w2⟩ := DataW.trod_int Tryd.underlying2 k2
    obtain ⟨md, e3, -, w3⟩ := DataW.trod_int Tryd.underlying2 k3
    obtain ⟨lc, e4, -, w4⟩ := DataW.trod_int Tryd.underlying2 k4
    obtain ⟨a, n, c, xs, e1, h1, h2, h3⟩ := open_nums k1
    simp only [List.cons.injEq, and_true] at e0 e1 e2 e3 e4
    exact ⟨o, nx, md, lc, a, n, c, xs, e0, e1, e2, e3, e4, h1, h2, h3, in6_of_wf w0, in6_of_wf w2, in6_of_wf w3, in6_of_wf w4⟩

theorem Tryd.cAt : Tryd.prog.cellsOf 25 = 5 := by kernel_rfl

set_option maxRecDepth 100000 in
theorem open_attrs {H : Type} {enc : TypeId × Value → H} {W : World} {base b0 : Nat} {r : Reach} {t1 : Nat → Bool} {t2 : Bool} {v : Value} {d : DataW H} {p : List MemPlace}
    (hv : Value.okWide Tryd.prog W r b0 25 v) (h0 : DataW.Trod enc Tryd.prog W base t1 t2 25 v d p) :
    ∃ (o nx md lc : Int) (a : Option Addr) (n c : Nat) (xs : List Int), v = .agg #[.int .i64 o, .slice a n c, .int .i64 nx, .int .i64 md, .int .i64 lc] ∧ NsAt W a xs ∧ xs.length = n ∧ n ≤ maxLen ∧ In6 o ∧ In6 nx ∧ In6 md ∧ In6 lc := by
  obtain ⟨cs, rfl, hsz⟩ := okWide_struct Tryd.underlying25 hv
  obtain ⟨c0, c1, c2, c3, c4, rfl⟩ := array5 (hsz.trans Tryd.cAt)
  obtain ⟨fuel, hf⟩ := h0
  have hf' : DataW.trod enc Tryd.prog W base t1 t2 fuel 25 [c0, c1, c2, c3, c4] = some (d, p) := by simpa [Value.cells] using hf
  obtain ⟨o, nx, md, lc, a, n, c, xs, rfl, rfl, rfl, rfl, rfl, h1⟩ := open_attrs_cells hf'
  exact ⟨o, nx, md, lc, a, n, c, xs, rfl, h1⟩

theorem Tryd.cUp : Tryd.prog.cellsOf 27 = 8 := by kernel_rfl
theorem Tryd.cPs : Tryd.prog.cellsOf 22 = 1 := by kernel_rfl
theorem Tryd.cBo : Tryd.prog.cellsOf 4 = 1 := by kernel_rfl

set_option maxRecDepth 100000 in
theorem open_pxs {H : Type} {enc : TypeId × Value → H} {W : World} {base fuel : Nat} {t1 : Nat → Bool} {t2 : Bool} {cs : List Value} {y : DataW H × List MemPlace}
    (hf : DataW.trod enc Tryd.prog W base t1 t2 fuel 22 cs = some y) : ∃ a n c ps, cs = [.slice a n c] ∧ PsAt W a ps ∧ ps.length = n ∧ n ≤ maxLen := by
  obtain ⟨a, n, c, rfl⟩ := Joins.slice_form Tryd.underlying22 hf
  obtain ⟨ps, h1, h2, h3⟩ := open_prefixes (enc := enc) (W := W) (base := base) (t1 := t1) (t2 := t2) (a := a) (n := n) (c := c) (d := y.1) (p := y.2) ⟨fuel, by simpa [Value.cells] using hf⟩
  exact ⟨a, n, c, ps, rfl, h1, h2, h3⟩

set_option maxRecDepth 100000 in
theorem open_update_cells {H : Type} {enc : TypeId × Value → H} {W : World} {base fuel : Nat} {t1 : Nat → Bool} {t2 : Bool} {c0 c1 c2 c3 c4 c5 c6 c7 : Value} {y : DataW H × List MemPlace}
    (h : DataW.trod enc Tryd.prog W base t1 t2 fuel 27 [c0, c1, c2, c3, c4, c5, c6, c7] = some y) :
    ∃ (ga : Option Addr) (gn gc : Nat) (gs : List (Int × Int)) (has : Bool) (o nx md lc : Int) (a : Option Addr) (n c : Nat) (xs : List Int) (ra : Option Addr) (rn rc : Nat) (rs : List (Int × Int)),
      c0 = .slice ga gn gc ∧ c1 = .bool has ∧ c2 = .int .i64 o ∧ c3 = .slice a n c ∧ c4 = .int .i64 nx ∧ c5 = .int .i64 md ∧ c6 = .int .i64 lc ∧ c7 = .slice ra rn rc ∧
      (PsAt W ga gs ∧ gs.length = gn ∧ gn ≤ maxLen) ∧ (NsAt W a xs ∧ xs.length = n ∧ n ≤ maxLen) ∧ (PsAt W ra rs ∧ rs.length = rn ∧ rn ≤ maxLen) := by
  obtain ⟨xs, m, _, rfl, hl, hlen, hf⟩ := DataW.trod_struct Tryd.underlying27 h
  match xs, hlen with
  | [y0, y1, y2, y3], _ =>
    have k0 := hf 0 _ rfl
    have k1 := hf 1 _ rfl
    have k2 := hf 2 _ rfl
    have k3 := hf 3 _ rfl
    simp [Tryd.cPs, Tryd.cBo, Tryd.cAt] at k0 k1 k2 k3
    obtain ⟨ga, gn, gc, gs, e0, g1, g2, g3⟩ := open_pxs k0
    obtain ⟨has, e1, -⟩ := DataW.trod_bool Tryd.underlying4 k1
    obtain ⟨o, nx, md, lc, a, n, c, xs, e2, e3, e4, e5, e6, h1, h2, h3, -⟩ := open_attrs_cells k2
    obtain ⟨ra, rn, rc, rs, e7, r1, r2, r3⟩ := open_pxs k3
    simp only [List.cons.injEq, and_true] at e0 e1 e7
    exact ⟨ga, gn, gc, gs, has, o, nx, md, lc, a, n, c, xs, ra, rn, rc, rs, e0, e1, e2, e3, e4, e5, e6, e7, ⟨g1, g2, g3⟩, ⟨h1, h2, h3⟩, ⟨r1, r2, r3⟩⟩

set_option maxRecDepth 100000 in
theorem open_update {H : Type} {enc : TypeId × Value → H} {W : World} {base b0 : Nat} {r : Reach} {t1 : Nat → Bool} {t2 : Bool} {v : Value} {d : DataW H} {p : List MemPlace}
    (hv : Value.okWide Tryd.prog W r b0 27 v) (h0 : DataW.Trod enc Tryd.prog W base t1 t2 27 v d p) :
    ∃ (ga : Option Addr) (gn gc : Nat) (gs : List (Int × Int)) (has : Bool) (o nx md lc : Int) (a : Option Addr) (n c : Nat) (xs : List Int) (ra : Option Addr) (rn rc : Nat) (rs : List (Int × Int)),
      v = .agg #[.slice ga gn gc, .bool has, .int .i64 o, .slice a n c, .int .i64 nx, .int .i64 md, .int .i64 lc, .slice ra rn rc] ∧
      (PsAt W ga gs ∧ gs.length = gn ∧ gn ≤ maxLen) ∧ (NsAt W a xs ∧ xs.length = n ∧ n ≤ maxLen) ∧ (PsAt W ra rs ∧ rs.length = rn ∧ rn ≤ maxLen) := by
  obtain ⟨cs, rfl, hsz⟩ := okWide_struct Tryd.underlying27 hv
  obtain ⟨c0, c1, c2, c3, c4, c5, c6, c7, rfl⟩ := array8 (hsz.trans Tryd.cUp)
  obtain ⟨fuel, hf⟩ := h0
  have hf' : DataW.trod enc Tryd.prog W base t1 t2 fuel 27 [c0, c1, c2, c3, c4, c5, c6, c7] = some (d, p) := by simpa [Value.cells] using hf
  obtain ⟨ga, gn, gc, gs, has, o, nx, md, lc, a, n, c, xs, ra, rn, rc, rs, rfl, rfl, rfl, rfl, rfl, rfl, rfl, rfl, h1⟩ := open_update_cells hf'
  exact ⟨ga, gn, gc, gs, has, o, nx, md, lc, a, n, c, xs, ra, rn, rc, rs, rfl, h1⟩

end Go.Proofs.YtljkcijakdhdiaaDoor
