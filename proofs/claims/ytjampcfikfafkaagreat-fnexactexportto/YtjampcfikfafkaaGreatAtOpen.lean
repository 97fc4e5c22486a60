/- What is proved here: how an argument that is attributes or an update comes in. No condition. -/
import Derived.Test.YtjampcfikfafkaaGreatAtLaw
import Derived.Test.YtjampcfikfafkaaGreatPsOpen
namespace Go.Proofs.YtjampcfikfafkaaGreat
open Go.ChangeShapes Go.WideShapes Go.ChangeAt Go.RowKit Go.Deep

theorem NsAt.of_cells {w : World} {x : Addr} {xs : List Int} (len : Nat) (hcell : ∀ i, i < xs.length → w.cell? (x.add i) = some (.int .i64 (xs.getD i 0))) (hw : ∀ n ∈ xs, (Lit.int .i64 n).wf = true) :
    NsAt w (some x) (xs.take len) := by
  intro i z hz
  rw [List.getElem?_take] at hz
  split at hz
  · obtain ⟨hi, rfl⟩ := List.getElem?_eq_some_iff.1 hz
    have hc := hcell i hi
    obtain ⟨b, off, spot⟩ := x
    have hspot : spot = none := by simpa [Addr.add] using World.cell?_spot (hcell 0 (by omega))
    subst hspot
    rw [Addr.add_lit] at hc
    exact ⟨b, off, rfl, by simpa [List.getD, hi] using hc, in6_of_wf (hw _ (List.getElem_mem hi))⟩
  · cases hz

set_option maxRecDepth 100000 in
theorem open_nums {H : Type} {enc : TypeId × Value → H} {W : World} {base fuel : Nat} {t1 : Nat → Bool} {t2 : Bool} {cs : List Value} {y : DataW H × List MemPlace}
    (hf : DataW.trod enc Tryz.prog W base t1 t2 fuel 34 cs = some y) : ∃ a n c xs, cs = [.slice a n c] ∧ NsAt W a xs ∧ xs.length = n ∧ n ≤ maxLen := by
  rcases open_ints Tryz.underlying34 Tryz.underlying2 (by kernel_rfl) hf with ⟨hcs, _⟩ | ⟨x, l, c, zs, hcs, _, hl, hm, hz, _, hcell, hwz⟩
  · exact ⟨none, 0, 0, [], hcs, NsAt.nil _ _, rfl, Nat.zero_le _⟩
  · have hz' : l ≤ zs.length := by rw [hz]; split <;> omega
    exact ⟨some x, l, c, zs.take l, hcs, NsAt.of_cells l hcell hwz, by rw [List.length_take]; omega, Nat.le_trans hl hm⟩

theorem array5 {α : Type} {cs : Array α} (h : cs.size = 5) : ∃ c0 c1 c2 c3 c4, cs = #[c0, c1, c2, c3, c4] := by
  obtain ⟨l⟩ := cs
  match l, h with
  | [c0, c1, c2, c3, c4], _ => exact ⟨c0, c1, c2, c3, c4, rfl⟩
theorem array8 {α : Type} {cs : Array α} (h : cs.size = 8) : ∃ c0 c1 c2 c3 c4 c5 c6 c7, cs = #[c0, c1, c2, c3, c4, c5, c6, c7] := by
  obtain ⟨l⟩ := cs
  match l, h with
  | [c0, c1, c2, c3, c4, c5, c6, c7], _ => exact ⟨c0, c1, c2, c3, c4, c5, c6, c7, rfl⟩

theorem Tryz.cI64 : Tryz.prog.cellsOf 2 = 1 := by kernel_rfl
theorem Tryz.cNs : Tryz.prog.cellsOf 34 = 1 := by kernel_rfl

set_option maxRecDepth 100000 in
theorem open_attrs_cells {H : Type} {enc : TypeId × Value → H} {W : World} {base fuel : Nat} {t1 : Nat → Bool} {t2 : Bool} {c0 c1 c2 c3 c4 : Value} {y : DataW H × List MemPlace}
    (h : DataW.trod enc Tryz.prog W base t1 t2 fuel 88 [c0, c1, c2, c3, c4] = some y) :
    ∃ (o nx md lc : Int) (a : Option Addr) (n c : Nat) (xs : List Int), c0 = .int .i64 o ∧ c1 = .slice a n c ∧ c2 = .int .i64 nx ∧ c3 = .int .i64 md ∧ c4 = .int .i64 lc ∧ NsAt W a xs ∧ xs.length = n ∧ n ≤ maxLen ∧ In6 o ∧ In6 nx ∧ In6 md ∧ In6 lc := by
  obtain ⟨xs, m, _, rfl, hl, hlen, hf⟩ := DataW.trod_struct Tryz.underlying88 h
  match xs, hlen with
  | [y0, y1, y2, y3, y4], _ =>
    have k0 := hf 0 _ rfl
    have k1 := hf 1 _ rfl
    have k2 := hf 2 _ rfl
    have k3 := hf 3 _ rfl
    have k4 := hf 4 _ rfl
    simp [Tryz.cI64, Tryz.cNs] at k0 k1 k2 k3 k4
    obtain ⟨o, e0, -, w0⟩ := DataW.trod_int Tryz.underlying2 k0
    obtain ⟨nx, e2, -, w2⟩ := DataW.trod_int Tryz.underlying2 k2
    obtain ⟨md, e3, -, w3⟩ := DataW.trod_int Tryz.underlying2 k3
    obtain ⟨lc, e4, -, w4⟩ := DataW.trod_int Tryz.underlying2 k4
    obtain ⟨a, n, c, xs, e1, h1, h2, h3⟩ := open_nums k1
    simp only [List.cons.injEq, and_true] at e0 e1 e2 e3 e4
    exact ⟨o, nx, md, lc, a, n, c, xs, e0, e1, e2, e3, e4, h1, h2, h3, in6_of_wf w0, in6_of_wf w2, in6_of_wf w3, in6_of_wf w4⟩

theorem Tryz.cAt : Tryz.prog.cellsOf 88 = 5 := by kernel_rfl

set_option maxRecDepth 100000 in
theorem open_attrs {H : Type} {enc : TypeId × Value → H} {W : World} {base b0 : Nat} {r : Reach} {t1 : Nat → Bool} {t2 : Bool} {v : Value} {d : DataW H} {p : List MemPlace}
    (hv : Value.okWide Tryz.prog W r b0 88 v) (h0 : DataW.Trod enc Tryz.prog W base t1 t2 88 v d p) :
    ∃ (o nx md lc : Int) (a : Option Addr) (n c : Nat) (xs : List Int), v = .agg #[.int .i64 o, .slice a n c, .int .i64 nx, .int .i64 md, .int .i64 lc] ∧ NsAt W a xs ∧ xs.length = n ∧ n ≤ maxLen ∧ In6 o ∧ In6 nx ∧ In6 md ∧ In6 lc := by
  obtain ⟨cs, rfl, hsz⟩ := okWide_struct Tryz.underlying88 hv
  obtain ⟨c0, c1, c2, c3, c4, rfl⟩ := array5 (hsz.trans Tryz.cAt)
  obtain ⟨fuel, hf⟩ := h0
  have hf' : DataW.trod enc Tryz.prog W base t1 t2 fuel 88 [c0, c1, c2, c3, c4] = some (d, p) := by simpa [Value.cells] using hf
  obtain ⟨o, nx, md, lc, a, n, c, xs, rfl, rfl, rfl, rfl, rfl, h1⟩ := open_attrs_cells hf'
  exact ⟨o, nx, md, lc, a, n, c, xs, rfl, h1⟩

end Go.Proofs.YtjampcfikfafkaaGreat
