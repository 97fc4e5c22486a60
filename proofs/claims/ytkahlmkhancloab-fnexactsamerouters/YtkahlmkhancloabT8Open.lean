/- What is proved here: how an argument that is a thing told or a list of things told comes in. No condition. -/
import Derived.Test.YtkahlmkhancloabT8Lib
import Derived.Test.YtkahlmkhancloabAtOpen
import Derived.Deep.SlicePairs
namespace Go.Proofs.Ytkahlmkhancloab
open Go.ChangeShapes Go.WideShapes Go.ChangeAt Go.RowKit Go.Deep

theorem Try.cTd : Try.prog.cellsOf 144 = 7 := by kernel_rfl
theorem Try.cPx8 : Try.prog.cellsOf 100 = 2 := by kernel_rfl

set_option maxRecDepth 100000 in
theorem open_nums8 {H : Type} {enc : TypeId × Value → H} {W : World} {base fuel : Nat} {t1 : Nat → Bool} {t2 : Bool} {cs : List Value} {y : DataW H × List MemPlace}
    (hf : DataW.trod enc Try.prog W base t1 t2 fuel 72 cs = some y) : ∃ a n c xs, cs = [.slice a n c] ∧ NsAt W a xs ∧ xs.length = n ∧ n ≤ maxLen ∧ (a = none → n = 0 ∧ c = 0) := by
  rcases open_ints Try.underlying72 Try.underlying2 (by kernel_rfl) hf with ⟨hcs, _⟩ | ⟨x, l, c, zs, hcs, _, hl, hm, hz, _, hcell, hwz⟩
  · exact ⟨none, 0, 0, [], hcs, NsAt.nil _ _, rfl, Nat.zero_le _, fun _ => ⟨rfl, rfl⟩⟩
  · have hz' : l ≤ zs.length := by rw [hz]; split <;> omega
    exact ⟨some x, l, c, zs.take l, hcs, NsAt.of_cells l hcell hwz, by rw [List.length_take]; omega, Nat.le_trans hl hm, by intro e; cases e⟩

/-- A thing told that came in: its path is there. -/
def Tv.came (w : World) (v : Tv) : Prop := NsAt w v.x v.r.xs ∧ (v.x = none → v.r.xs.length = 0 ∧ v.c = 0) ∧ v.r.xs.length ≤ maxLen

set_option maxRecDepth 100000 in
theorem open_told_cells {H : Type} {enc : TypeId × Value → H} {W : World} {base fuel : Nat} {t1 : Nat → Bool} {t2 : Bool} {c0 c1 c2 c3 c4 c5 c6 : Value} {y : DataW H × List MemPlace}
    (h : DataW.trod enc Try.prog W base t1 t2 fuel 144 [c0, c1, c2, c3, c4, c5, c6] = some y) :
    ∃ (v : Tv), [c0, c1, c2, c3, c4, c5, c6] = v.cs ∧ v.came W := by
  obtain ⟨xs, m, _, rfl, hl, hlen, hf⟩ := DataW.trod_struct Try.underlying144 h
  match xs, hlen with
  | [y1, y2], _ =>
    have k1 := hf 0 _ rfl
    have k2 := hf 1 _ rfl
    simp [Try.cPx8, Try.cAt] at k1 k2
    obtain ⟨ys, m', _, rfl, hl', hlen', hf'⟩ := DataW.trod_struct Try.underlying100 k1
    obtain ⟨us, m2, _, rfl, hl2, hlen2, hf2⟩ := DataW.trod_struct Try.underlying101 k2
    match ys, hlen', us, hlen2 with
    | [z0, z1], _, [u0, u1, u2, u3, u4], _ =>
      have j0 := hf' 0 _ rfl
      have j1 := hf' 1 _ rfl
      have q0 := hf2 0 _ rfl
      have q1 := hf2 1 _ rfl
      have q2 := hf2 2 _ rfl
      have q3 := hf2 3 _ rfl
      have q4 := hf2 4 _ rfl
      simp [Try.cI64, Try.cNs] at j0 j1 q0 q1 q2 q3 q4
      obtain ⟨a, e1, -, w1⟩ := DataW.trod_int Try.underlying2 j0
      obtain ⟨l, e2, -, w2⟩ := DataW.trod_int Try.underlying2 j1
      obtain ⟨o, e3, -, w3⟩ := DataW.trod_int Try.underlying2 q0
      obtain ⟨x, n, c, zs, e4, hns, hln, hmx, hnl⟩ := open_nums8 q1
      obtain ⟨nx, e5, -, w5⟩ := DataW.trod_int Try.underlying2 q2
      obtain ⟨md, e6, -, w6⟩ := DataW.trod_int Try.underlying2 q3
      obtain ⟨lc, e7, -, w7⟩ := DataW.trod_int Try.underlying2 q4
      simp only [List.cons.injEq, and_true] at e1 e2 e3 e4 e5 e6 e7
      subst e1 e2 e3 e4 e5 e6 e7
      subst hln
      exact ⟨⟨⟨a, l, o, zs, nx, md, lc⟩, x, c⟩, rfl, hns, hnl, hmx⟩

/-- The address leads to the things told that came in. -/
def TdCame (w : World) (A : Option Addr) (V : List Tv) : Prop :=
  ∀ i v, V[i]? = some v → (∃ b off, A = some ⟨b, off, none⟩ ∧ ∀ j, j < 7 → w.cell? ⟨b, off + i * 7 + j, none⟩ = v.cs[j]?) ∧ v.came w

set_option maxRecDepth 100000 in
theorem open_tolds {H : Type} {enc : TypeId × Value → H} {W : World} {base : Nat} {t1 : Nat → Bool} {t2 : Bool} {a : Option Addr} {n c : Nat} {d : DataW H} {p : List MemPlace}
    (h0 : DataW.Trod enc Try.prog W base t1 t2 96 (.slice a n c) d p) : ∃ V, TdCame W a V ∧ V.length = n ∧ n ≤ maxLen := by
  obtain ⟨fuel, hf⟩ := h0
  rcases open_slice Try.underlying96 hf with ⟨hcs, _⟩ | ⟨x, l, cc, m, k, D, Pl, hcs, _, hl, hm, hmm, _, hall⟩
  · simp [Value.cells] at hcs
    obtain ⟨rfl, rfl, rfl⟩ := hcs
    exact ⟨[], (by intro i v hv; simp at hv), rfl, Nat.zero_le _⟩
  · simp [Value.cells] at hcs
    obtain ⟨rfl, rfl, rfl⟩ := hcs
    have hlm : n ≤ m := by rw [hmm]; split <;> omega
    have each : ∀ i, i < n → ∃ r : Tv, (∀ j, j < 7 → W.cell? (x.add (i * 7 + j)) = r.cs[j]?) ∧ r.came W := by
      intro i hi
      obtain ⟨cs', h1, h2⟩ := hall i (by omega)
      rw [Try.cTd] at h1
      obtain ⟨_, hlen, hcell⟩ := World.cells?_some h1
      match cs', hlen with
      | [c0, c1, c2, c3, c4, c5, c6], _ =>
        obtain ⟨r, hr, hcm⟩ := open_told_cells h2
        refine ⟨r, fun j hj => ?_, hcm⟩
        have hc := hcell j (by omega)
        rw [add_add] at hc
        rw [hc, hr]
    refine ⟨(List.range n).map (fun i => if h : i < n then (each i h).choose else tv0), ?_, by simp, Nat.le_trans hl hm⟩
    obtain ⟨b, off, spot⟩ := x
    intro i q hq
    have hi : i < n := by
      have := (List.getElem?_eq_some_iff.1 hq).1
      simpa using this
    have hq' : q = (each i hi).choose := by
      rw [List.getElem?_map, List.getElem?_range hi] at hq
      simpa [hi] using hq.symm
    have hs := (each i hi).choose_spec
    rw [← hq'] at hs
    have hspot : spot = none := by
      obtain ⟨r0, hr0, -⟩ := each 0 (by omega)
      have h2 : W.cell? (Addr.add ⟨b, off, spot⟩ (0 * 7 + 0)) = some (.int .i64 r0.r.a) := hr0 0 (by omega)
      simpa [Addr.add] using World.cell?_spot h2
    subst hspot
    refine ⟨⟨b, off, rfl, fun j hj => ?_⟩, hs.2⟩
    have := hs.1 j hj
    rw [Addr.add_lit] at this
    rw [Nat.add_assoc]
    exact this

end Go.Proofs.Ytkahlmkhancloab
