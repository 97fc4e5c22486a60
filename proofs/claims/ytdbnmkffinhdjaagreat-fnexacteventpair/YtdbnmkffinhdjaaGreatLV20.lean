/- Lemmas and contracts of one law. -/
import Derived.Test.YtdbnmkffinhdjaaGreatLV18
import Derived.Test.YtdbnmkffinhdjaaGreatLV19
import Derived.Test.YtdbnmkffinhdjaaGreatLV12
import Derived.Test.YtdbnmkffinhdjaaGreatLV14
import Derived.Test.YtdbnmkffinhdjaaGreatLV15
import Derived.Test.YtdbnmkffinhdjaaGreatLV17
import Derived.Test.YtdbnmkffinhdjaaGreatLV2
import Derived.Lib.AppendZeros
import Derived.Lib.SmallJoins
import Derived.LoopN
import Derived.Maps.AppendAt
import Derived.Deep.CutRange
namespace Go.Proofs.YtdbnmkffinhdjaaGreat
open Go.ChangeShapes Go.WideShapes Go.ChangeAt Go.RowKit Go.Deep
set_option linter.unusedVariables false
set_option maxHeartbeats 25600000

theorem Tryz.cRs9 : Tryz.prog.cellsOf 24 = 1 := by kernel_rfl
theorem Tryz.cI9g : Tryz.prog.cellsOf 2 = 1 := by kernel_rfl
theorem Tryz.cCf9 : Tryz.prog.cellsOf 23 = 3 := by kernel_rfl

set_option maxRecDepth 100000 in
theorem open_rules_cell {H : Type} {enc : TypeId × Value → H} {W : World} {base fuel : Nat} {t1 : Nat → Bool} {t2 : Bool} {v : Value} {y : DataW H × List MemPlace}
    (h : DataW.trod enc Tryz.prog W base t1 t2 fuel 24 [v] = some y) : ∃ (a : Option Addr) (n c : Nat) (rs : List Ru), v = .slice a n c ∧ RsAt W a rs ∧ rs.length = n ∧ n ≤ maxLen := by
  have hb : ∃ (a : Option Addr) (n c : Nat), v = .slice a n c := by
    rcases open_slice Tryz.underlying24 h with ⟨hcs, _⟩ | ⟨x, l, cc, m, k, D, Pl, hcs, _⟩
    · simp only [List.cons.injEq, and_true] at hcs
      exact ⟨none, 0, 0, hcs⟩
    · simp only [List.cons.injEq, and_true] at hcs
      exact ⟨some x, l, cc, hcs⟩
  obtain ⟨a, n, c, rfl⟩ := hb
  obtain ⟨rs, k1, k2, k3⟩ := open_rules (enc := enc) (W := W) (base := base) (t1 := t1) (t2 := t2) (a := a) (n := n) (c := c) (d := y.1) (p := y.2) ⟨fuel, by simpa [Value.cells] using h⟩
  exact ⟨a, n, c, rs, rfl, k1, k2, k3⟩

set_option maxRecDepth 100000 in
theorem open_settings_cells {H : Type} {enc : TypeId × Value → H} {W : World} {base fuel : Nat} {t1 : Nat → Bool} {t2 : Bool} {c0 c1 c2 c3 c4 c5 : Value} {y : DataW H × List MemPlace}
    (h : DataW.trod enc Tryz.prog W base t1 t2 fuel 26 [c0, c1, c2, c3, c4, c5] = some y) :
    ∃ (sa si ho nx : Int) (a1 a2 : Option Addr) (n1 k1 n2 k2 : Nat) (r1 r2 : List Ru), [c0, c1, c2, c3, c4, c5] = [.int .i64 sa, .int .i64 si, .int .i64 ho, .int .i64 nx, .slice a1 n1 k1, .slice a2 n2 k2] ∧ (RsAt W a1 r1 ∧ r1.length = n1 ∧ n1 ≤ maxLen) ∧ (RsAt W a2 r2 ∧ r2.length = n2 ∧ n2 ≤ maxLen) := by
  obtain ⟨xs, m, _, rfl, hl, hlen, hf⟩ := DataW.trod_struct Tryz.underlying26 h
  match xs, hlen with
  | [y0, y1, y2, y3], _ =>
    have k0 := hf 0 _ rfl
    have k1 := hf 1 _ rfl
    have k2 := hf 2 _ rfl
    have k3 := hf 3 _ rfl
    simp [Tryz.cI9g, Tryz.cCf9, Tryz.cRs9] at k0 k1 k2 k3
    obtain ⟨ys, m', _, rfl, hl', hlen', hf'⟩ := DataW.trod_struct Tryz.underlying23 k0
    match ys, hlen' with
    | [z0, z1, z2], _ =>
      have j0 := hf' 0 _ rfl
      have j1 := hf' 1 _ rfl
      have j2 := hf' 2 _ rfl
      simp [Tryz.cI9g] at j0 j1 j2
      obtain ⟨sa, e0, -, w0⟩ := DataW.trod_int Tryz.underlying2 j0
      obtain ⟨si, e1, -, w1⟩ := DataW.trod_int Tryz.underlying2 j1
      obtain ⟨ho, e2, -, w2⟩ := DataW.trod_int Tryz.underlying2 j2
      obtain ⟨nx, e3, -, w3⟩ := DataW.trod_int Tryz.underlying2 k1
      obtain ⟨a1, n1, d1, r1, rfl, u1, u2, u3⟩ := open_rules_cell k2
      obtain ⟨a2, n2, d2, r2, rfl, v1, v2, v3⟩ := open_rules_cell k3
      simp only [List.cons.injEq, and_true] at e0 e1 e2 e3
      subst e0 e1 e2 e3
      exact ⟨sa, si, ho, nx, a1, a2, n1, d1, n2, d2, r1, r2, rfl, ⟨u1, u2, u3⟩, ⟨v1, v2, v3⟩⟩

end Go.Proofs.YtdbnmkffinhdjaaGreat

namespace Go.Proofs.YtdbnmkffinhdjaaGreat
open Go.ChangeShapes Go.WideShapes Go.ChangeAt Go.RowKit Go.Deep Go.Sort
set_option linter.unusedVariables false
set_option linter.unusedSimpArgs false
set_option maxHeartbeats 25600000

/-- A pair that came in. -/
structure PCame (w : World) (a1 a2 aN aW aM aS : Option Addr) (n1 n2 nN nW nM nS : Nat) (r1 r2 : List Ru) (LN : List NdV) (LW : List WiV) (LM : List MlV) (LS : List EkV) : Prop where
  s1 : RsAt w a1 r1
  s2 : RsAt w a2 r2
  l1 : r1.length = n1
  l2 : r2.length = n2
  b1 : n1 ≤ maxLen
  b2 : n2 ≤ maxLen
  nd : NdCame w aN LN
  lN : LN.length = nN
  bN : nN ≤ maxLen
  wi : WiCame w aW LW
  lW : LW.length = nW
  bW : nW ≤ maxLen
  mq : MqCame w aM LM
  lM : LM.length = nM
  bM : nM ≤ maxLen
  se : EkCame w aS LS
  lS : LS.length = nS
  bS : nS ≤ maxLen
theorem PCame.new {w w' : World} {a1 a2 aN aW aM aS : Option Addr} {n1 n2 nN nW nM nS : Nat} {r1 r2 : List Ru} {LN : List NdV} {LW : List WiV} {LM : List MlV} {LS : List EkV} (h : PCame w a1 a2 aN aW aM aS n1 n2 nN nW nM nS r1 r2 LN LW LM LS) (t : New w w') : PCame w' a1 a2 aN aW aM aS n1 n2 nN nW nM nS r1 r2 LN LW LM LS :=
  ⟨h.s1.new t, h.s2.new t, h.l1, h.l2, h.b1, h.b2, h.nd.new t, h.lN, h.bN, h.wi.new t, h.lW, h.bW, h.mq.new t, h.lM, h.bM, h.se.new t, h.lS, h.bS⟩
/-- A list has its room: none, or a row from its first place on. -/
def FitK (A : Option Addr) (n c : Nat) : Prop := n ≤ c ∧ ((A = none ∧ n = 0 ∧ c = 0) ∨ ∃ g, A = some ⟨g, 0, none⟩)
/-- A pair that can be read. -/
structure PAt (w : World) (a1 a2 aN aW aM aS : Option Addr) (r1 r2 : List Ru) (VN : List NdV) (VW : List WiV) (VM : List MlV) (VS : List EkV) : Prop where
  s1 : RsAt w a1 r1
  s2 : RsAt w a2 r2
  nd : NdAt w aN VN
  wi : WiAt w aW VW
  mq : MqAt w aM VM
  se : LgAt w aS VS
  rowN : ∃ g, aN = some ⟨g, 0, none⟩ ∧ RwNd w g VN.length VN.length VN
  fitN : ∀ v ∈ VN, FitK v.A v.V.length v.c
  fitW : ∀ v ∈ VW, FitK v.a v.xs.length v.c ∧ FitK v.b v.ys.length v.d
  nlN : ∀ v ∈ VN, NlK v.V
  nlS : NlK VS
theorem PAt.new {w w' : World} {a1 a2 aN aW aM aS : Option Addr} {r1 r2 : List Ru} {VN : List NdV} {VW : List WiV} {VM : List MlV} {VS : List EkV} (h : PAt w a1 a2 aN aW aM aS r1 r2 VN VW VM VS) (t : New w w') : PAt w' a1 a2 aN aW aM aS r1 r2 VN VW VM VS :=
  ⟨h.s1.new t, h.s2.new t, h.nd.new t, h.wi.new t, h.mq.new t, h.se.new t, by obtain ⟨g, e, k⟩ := h.rowN; exact ⟨g, e, k.new t⟩, h.fitN, h.fitW, h.nlN, h.nlS⟩
/-- How great a pair is at most. -/
structure PSm (n1 n2 : Nat) (LN : List NdV) (LW : List WiV) (LM : List MlV) (LS : List EkV) : Prop where
  m1 : n1 ≤ 1048576
  m2 : n2 ≤ 1048576
  mN : totNd LN ≤ 1048576
  mW : totWi LW ≤ 1048576
  mM : totMq LM ≤ 1048576
  mS : totK LS ≤ 1048576
/-- Two pairs read alike. -/
structure PEq (LN VN : List NdV) (LW VW : List WiV) (LM VM : List MlV) (LS VS : List EkV) : Prop where
  nd : VN.map NdV.r = LN.map NdV.r
  wi : VW.map WiV.r = LW.map WiV.r
  mq : VM.map MlV.r = LM.map MlV.r
  se : VS.map EkV.r = LS.map EkV.r

theorem szPair_any (sa si ho nx : Int) (a1 a2 aN aW aM aS : Option Addr) (n1 c1 n2 c2 nN cN nW cW nM cM nS cS : Nat) (r1 r2 : List Ru) (LN : List NdV) (LW : List WiV) (LM : List MlV) (LS : List EkV) (w : World) (h : PCame w a1 a2 aN aW aM aS n1 n2 nN nW nM nS r1 r2 LN LW LM LS) :
    Calls Tryz.prog 5 #[.agg #[.int .i64 sa, .int .i64 si, .int .i64 ho, .int .i64 nx, .slice a1 n1 c1, .slice a2 n2 c2, .slice aN nN cN, .slice aW nW cW, .slice aM nM cM, .slice aS nS cS], .int .i64 1048576] w fun e w' => (∃ z : Int, e = .returned (.int .i64 z) ∧ (z = -1 ∨ ((0 ≤ z ∧ z ≤ 1048576) ∧ PSm n1 n2 LN LW LM LS))) ∧ New w w' := by
  have hw := (New.refl w).alloc (.cells #[.int .i64 sa, .int .i64 si, .int .i64 ho, .int .i64 nx, .slice a1 n1 c1, .slice a2 n2 c2, .slice aN nN cN, .slice aW nW cW, .slice aM nM cM, .slice aS nS cS] 32)
  have b0 := Blk.mk w w.heap.size 32 #[.int .i64 sa, .int .i64 si, .int .i64 ho, .int .i64 nx, .slice a1 n1 c1, .slice a2 n2 c2, .slice aN nN cN, .slice aW nW cW, .slice aM nM cM, .slice aS nS cS] rfl
  have c0 := b0.cells
  by_cases hbig : 1048576 < n1 + n2
  case pos =>
    go_enter Tryz.func5, Tryz.ntmps5
    go_wp2_with fail
    refine (szSe_big sa si ho nx a1 a2 n1 c1 n2 c2 1048576 _ (Nat.le_refl _) hbig h.b1 h.b2).mono ?_
    rintro e w1 ⟨rfl, hn1⟩
    go_wp2
    go_ret
    exact ⟨⟨_, rfl, .inl rfl⟩, hw.trans hn1⟩
  go_enter Tryz.func5, Tryz.ntmps5
  go_wp2_with fail
  refine (szSe_ok sa si ho nx a1 a2 n1 c1 n2 c2 1048576 _ (Nat.le_refl _) (by omega)).mono ?_
  rintro e w1 ⟨rfl, hn1⟩
  have hw1 := hw.trans hn1
  have b1 := b0.new hn1
  have hz0 : ((1048576 - n1 - n2 : Nat) : Int) + n1 + n2 = 1048576 := by omega
  have hp0 : (0 : Int) ≤ ((1048576 - n1 - n2 : Nat) : Int) := by omega
  generalize ((1048576 - n1 - n2 : Nat) : Int) = z0 at *
  clear c0 b0 hw hn1
  have c1 := b1.cells
  go_wp2_with fail
  refine (szNdS_gen aN nN cN LN z0 _ (by omega) (by omega) (h.nd.new hw1) h.lN h.bN).mono ?_
  rintro e w2 ⟨⟨z1, rfl, hy⟩, hm1⟩
  have hw2 := hw1.trans hm1
  have b2 := b1.new hm1
  clear c1 hm1 b1
  by_cases hy0 : z1 < 0
  · go_wp2
    go_ret
    exact ⟨⟨_, rfl, .inl rfl⟩, hw2⟩
  have hp1 : (0 : Int) ≤ z1 := by omega
  have hz1 : (totNd LN : Int) + z1 = z0 := by rcases hy with hy | hy; (exfalso; omega); exact hy.2
  clear hy hy0
  have c2 := b2.cells
  go_wp2_with fail
  refine (szWiS_gen aW nW cW LW z1 _ (by omega) (by omega) (h.wi.new hw2) h.lW h.bW).mono ?_
  rintro e w3 ⟨⟨z2, rfl, hy⟩, hm2⟩
  have hw3 := hw2.trans hm2
  have b3 := b2.new hm2
  clear c2 hm2 b2
  by_cases hy0 : z2 < 0
  · go_wp2
    go_ret
    exact ⟨⟨_, rfl, .inl rfl⟩, hw3⟩
  have hp2 : (0 : Int) ≤ z2 := by omega
  have hz2 : (totWi LW : Int) + z2 = z1 := by rcases hy with hy | hy; (exfalso; omega); exact hy.2
  clear hy hy0
  have c3 := b3.cells
  go_wp2_with fail
  refine (szMqS_gen aM nM cM LM z2 _ (by omega) (by omega) (h.mq.new hw3) h.lM h.bM).mono ?_
  rintro e w4 ⟨⟨z3, rfl, hy⟩, hm3⟩
  have hw4 := hw3.trans hm3
  have b4 := b3.new hm3
  clear c3 hm3 b3
  by_cases hy0 : z3 < 0
  · go_wp2
    go_ret
    exact ⟨⟨_, rfl, .inl rfl⟩, hw4⟩
  have hp3 : (0 : Int) ≤ z3 := by omega
  have hz3 : (totMq LM : Int) + z3 = z2 := by rcases hy with hy | hy; (exfalso; omega); exact hy.2
  clear hy hy0
  have c4 := b4.cells
  go_wp2_with fail
  refine (szEkS_gen aS nS cS LS z3 _ (by omega) (by omega) (h.se.new hw4) h.lS h.bS).mono ?_
  rintro e w5 ⟨⟨z4, rfl, hy⟩, hm4⟩
  have hw5 := hw4.trans hm4
  have b5 := b4.new hm4
  clear c4 hm4 b4
  by_cases hy0 : z4 < 0
  · go_wp2
    go_ret
    exact ⟨⟨_, rfl, .inl rfl⟩, hw5⟩
  have hp4 : (0 : Int) ≤ z4 := by omega
  have hz4 : (totK LS : Int) + z4 = z3 := by rcases hy with hy | hy; (exfalso; omega); exact hy.2
  clear hy hy0
  go_wp2
  go_ret
  exact ⟨⟨_, rfl, .inr ⟨⟨by omega, by omega⟩, ⟨by omega, by omega, by omega, by omega, by omega, by omega⟩⟩⟩, hw5⟩

theorem arr10p {α : Type} {cs : Array α} (h : cs.size = 10) : ∃ c0 c1 c2 c3 c4 c5 c6 c7 c8 c9, cs = #[c0, c1, c2, c3, c4, c5, c6, c7, c8, c9] := by
  obtain ⟨l⟩ := cs
  match l, h with
  | [c0, c1, c2, c3, c4, c5, c6, c7, c8, c9], _ => exact ⟨c0, c1, c2, c3, c4, c5, c6, c7, c8, c9, rfl⟩
theorem Tryz.cPrP : Tryz.prog.cellsOf 32 = 10 := by kernel_rfl
theorem Tryz.cSeP : Tryz.prog.cellsOf 26 = 6 := by kernel_rfl
theorem Tryz.cNsP : Tryz.prog.cellsOf 27 = 1 := by kernel_rfl
theorem Tryz.cWsP : Tryz.prog.cellsOf 28 = 1 := by kernel_rfl
theorem Tryz.cMsP : Tryz.prog.cellsOf 29 = 1 := by kernel_rfl

set_option maxRecDepth 100000 in
theorem open_pair {H : Type} {enc : TypeId × Value → H} {W : World} {base b0 : Nat} {r : Reach} {t1 : Nat → Bool} {t2 : Bool} {v : Value} {d : DataW H} {p : List MemPlace}
    (hv : Value.okWide Tryz.prog W r b0 32 v) (h0 : DataW.Trod enc Tryz.prog W base t1 t2 32 v d p) :
    ∃ (sa si ho nx : Int) (a1 a2 aN aW aM aS : Option Addr) (n1 c1 n2 c2 nN cN nW cW nM cM nS cS : Nat) (r1 r2 : List Ru) (LN : List NdV) (LW : List WiV) (LM : List MlV) (LS : List EkV), v = .agg #[.int .i64 sa, .int .i64 si, .int .i64 ho, .int .i64 nx, .slice a1 n1 c1, .slice a2 n2 c2, .slice aN nN cN, .slice aW nW cW, .slice aM nM cM, .slice aS nS cS] ∧ PCame W a1 a2 aN aW aM aS n1 n2 nN nW nM nS r1 r2 LN LW LM LS := by
  obtain ⟨cs, rfl, hsz⟩ := okWide_struct Tryz.underlying32 hv
  obtain ⟨c0, c1, c2, c3, c4, c5, c6, c7, c8, c9, rfl⟩ := arr10p (hsz.trans Tryz.cPrP)
  obtain ⟨fuel, hf⟩ := h0
  obtain ⟨y, hf'⟩ : ∃ y, DataW.trod enc Tryz.prog W base t1 t2 fuel 32 [c0, c1, c2, c3, c4, c5, c6, c7, c8, c9] = some y := ⟨(d, p), by simpa [Value.cells] using hf⟩
  obtain ⟨ys, m, _, rfl, hl, hlen, hq⟩ := DataW.trod_struct Tryz.underlying32 hf'
  match ys, hlen with
  | [y0, y1, y2, y3, y4], _ =>
    have k0 := hq 0 _ rfl
    have k1 := hq 1 _ rfl
    have k2 := hq 2 _ rfl
    have k3 := hq 3 _ rfl
    have k4 := hq 4 _ rfl
    simp [Tryz.cSeP, Tryz.cNsP, Tryz.cWsP, Tryz.cMsP, Tryz.cEs] at k0 k1 k2 k3 k4
    obtain ⟨sa, si, ho, nx, a1, a2, n1, d1, n2, d2, r1, r2, e0, ⟨u1, u2, u3⟩, ⟨v1, v2, v3⟩⟩ := open_settings_cells k0
    obtain ⟨aN, nN, dN, LN, e1, hN, lN, mN⟩ := open_NdS k1
    obtain ⟨aW, nW, dW, LW, e2, hW, lW, mW⟩ := open_WiS k2
    obtain ⟨aM, nM, dM, LM, e3, hM, lM, mM⟩ := open_MqS k3
    obtain ⟨aS, nS, dS, LS, e4, hS, lS, mS⟩ := open_entries k4
    simp only [List.cons.injEq, and_true] at e0 e1 e2 e3 e4
    obtain ⟨rfl, rfl, rfl, rfl, rfl, rfl⟩ := e0
    subst e1 e2 e3 e4
    exact ⟨sa, si, ho, nx, a1, a2, aN, aW, aM, aS, n1, d1, n2, d2, nN, dN, nW, dW, nM, dM, nS, dS, r1, r2, LN, LW, LM, LS, rfl, ⟨u1, v1, u2, v2, u3, v3, hN, lN, mN, hW, lW, mW, hM, lM, mM, hS, lS, mS⟩⟩

end Go.Proofs.YtdbnmkffinhdjaaGreat

namespace Go.Proofs.YtdbnmkffinhdjaaGreat
open Go.RowKit Go.Sort
set_option linter.unusedVariables false
set_option maxHeartbeats 25600000

section
variable {P : Program} {t e : TypeId} {i : TypeInfo}
end



/-- The value is a list of rules of the call's own, from lo on. -/
def OvR (w : World) (lo : Nat) (v : Value) (rs : List Ru) : Prop := w.ownsRow lo 159 8 v rs.length (cellsR rs)

theorem OvR.nil (w : World) (lo : Nat) : OvR w lo (.slice none 0 0) [] := ⟨rfl, .inl ⟨rfl, rfl⟩⟩
theorem OvR.form {w : World} {lo : Nat} {v : Value} {rs : List Ru} (h : OvR w lo v rs) : (v = .slice none 0 0 ∧ rs = []) ∨ ∃ g c, v = .slice (some ⟨g, 0, none⟩) rs.length c ∧ lo ≤ g ∧ g < w.heap.size ∧ OwR w g rs.length c rs := by
  rcases h.2 with ⟨h1, h2⟩ | ⟨g, c, cur, h1, h2, h3, r⟩
  · exact .inl ⟨h1, List.eq_nil_of_length_eq_zero h2⟩
  · have hlt : g < w.heap.size := (Array.getElem?_eq_some_iff.1 h3).1
    exact .inr ⟨g, c, h1, h2, hlt, h.1, .inr ⟨g, c, cur, rfl, Nat.zero_le _, h3, r⟩⟩
theorem OvR.turn {w w' : World} {lo : Nat} {v : Value} {rs : List Ru} {S : Nat → Prop} (h : OvR w lo v rs) (t : Turn S w w') (hS : ∀ k, v.ownBlock = some k → ¬ S k) : OvR w' lo v rs := by
  refine ⟨h.1, ?_⟩
  rcases h.2 with h' | ⟨g', cap', cur, h', hb, hh, r⟩
  · exact .inl h'
  · have hlt : g' < w.heap.size := (Array.getElem?_eq_some_iff.1 hh).1
    exact .inr ⟨g', cap', cur, h', hb, (t.block g' hlt (hS g' (by rw [h']; rfl))).trans hh, r⟩
theorem OvR.new {w w' : World} {lo : Nat} {v : Value} {rs : List Ru} (h : OvR w lo v rs) (t : New w w') : OvR w' lo v rs := h.turn t (fun _ _ f => f)
theorem OvR.blk {w : World} {lo : Nat} {v : Value} {rs : List Ru} (h : OvR w lo v rs) : ∀ k, v.ownBlock = some k → lo ≤ k ∧ k < w.heap.size := by
  intro k hk
  rcases h.form with ⟨rfl, _⟩ | ⟨g, cap, rfl, hg, hlt, _⟩
  · simp [Value.ownBlock] at hk
  · simp [Value.ownBlock] at hk
    subst hk
    exact ⟨hg, hlt⟩
theorem OvR.low {w : World} {lo lo' : Nat} {v : Value} {rs : List Ru} (h : OvR w lo v rs) (hl : lo' ≤ lo) : OvR w lo' v rs := by
  refine ⟨h.1, ?_⟩
  rcases h.2 with h' | ⟨g', cap', cur, h', hb, hh, r⟩
  · exact .inl h'
  · exact .inr ⟨g', cap', cur, h', by omega, hh, r⟩
theorem OvR.rs {w : World} {lo : Nat} {v : Value} {rs : List Ru} (h : OvR w lo v rs) : ∃ a c, v = .slice a rs.length c ∧ RsAt w a rs ∧ (a = none → rs.length = 0 ∧ c = 0) := by
  rcases h.form with ⟨rfl, rfl⟩ | ⟨g, c, rfl, hg, hlt, ho⟩
  · exact ⟨none, 0, rfl, RsAt.nil _ _, fun _ => ⟨rfl, rfl⟩⟩
  · exact ⟨_, c, rfl, ho.rs, (by intro e; cases e)⟩

theorem RsAt.cells {w : World} {ad : Addr} {rs : List Ru} (h : RsAt w (some ad) rs) : ∀ j u, (cellsR rs)[j]? = some u → w.cell? (ad.add j) = some u := by
  intro j u hu
  have hj : j < rs.length * 8 := by
    have := (List.getElem?_eq_some_iff.1 hu).1
    rwa [cellsR_len] at this
  obtain ⟨b, off, ha, hc⟩ := h (j / 8) _ (List.getElem?_eq_getElem (show j / 8 < rs.length by omega))
  obtain rfl := Option.some.inj ha
  have h1 := cellsR_get rs (j / 8) _ (List.getElem?_eq_getElem (show j / 8 < rs.length by omega)) (j % 8) (by omega)
  have h2 := hc (j % 8) (by omega)
  rw [← h1, show j / 8 * 8 + j % 8 = j by omega, hu, Nat.add_assoc, show j / 8 * 8 + j % 8 = j by omega] at h2
  rw [Addr.add_lit]
  exact h2
theorem cellsR_append (xs ys : List Ru) : cellsR (xs ++ ys) = cellsR xs ++ cellsR ys := by simp [cellsR]
theorem cellsR_one (rs : List Ru) : ∀ u ∈ cellsR rs, u.oneCell' = true := by
  intro u hu
  simp only [cellsR, List.mem_flatMap] at hu
  obtain ⟨r, -, hr⟩ := hu
  simp [Ru.cs] at hr
  rcases hr with rfl | rfl | rfl | rfl | rfl | rfl | rfl | rfl <;> rfl

section
variable {P : Program} {t e : TypeId} {i : TypeInfo}
/-- Appending rules, whatever their make, to a list that the call owns. -/
theorem run_apRs (w : World) (ty : TypeId) (base : Nat) (zero : Value) (ht : P.underlying t = some (.slice e)) (hi : P.info? e = some i) (hz : i.zero = some zero) (hs : i.size = 8) (hb : i.bytes = 64) (hz1 : zero.cells.size = 8)
    (v : Value) (xs : List Ru) (hown : w.ownsRow base e 8 v xs.length (cellsR xs))
    (a : Option Addr) (m c : Nat) (zs : List Ru) (hsrc : RsAt w a zs) (hm : zs.length = m) (hnone : a = none → m = 0 ∧ c = 0) (hle : xs.length + m ≤ 4194304) (hbase : base ≤ w.heap.size) :
    ∃ v' w', (Builtin.append_ #[t, t] ty #[v, .slice a m c]).run P w = .ok v' w' ∧ w'.ownsRow base e 8 v' (xs ++ zs).length (cellsR (xs ++ zs)) ∧ w.grownBy w' v.ownBlock := by
  cases a with
  | none =>
    obtain ⟨rfl, rfl⟩ := hnone rfl
    obtain rfl : zs = [] := List.eq_nil_of_length_eq_zero hm
    have hrun := run_append_owned_none (P := P) w base t ty e i 8 ht hi v xs.length _ hown
    exact ⟨v, w, by simpa using hrun, by simpa using hown, World.grownBy.refl _ _⟩
  | some ad =>
    obtain ⟨v', w', hr, h2, h3, _, h5⟩ := run_append_own_at (P := P) w base t ty e i zero 8 64 ht hi hz hs hb hz1 (by decide) v xs.length _ hown ad m c (cellsR zs) (by rw [cellsR_len, hm]) hsrc.cells (cellsR_one zs) (by unfold maxLen; omega) (by omega) hbase
    exact ⟨v', w', hr, by rw [cellsR_append]; simpa [hm] using h2, h3⟩

theorem wpList_apRs (w : World) {ops : Array Oper} {rest : List Oper} {o : Oper} {a : Act} {Q : Exit → Act → World → Prop} (hgd : o.guard = none) (s x : Operand)
    (ho : o.op = .call { callee := .builtin .append, args := #[s, x], argTypes := #[t, t] }) (base : Nat) (zero : Value) (ht : P.underlying t = some (.slice e)) (hi : P.info? e = some i) (hz : i.zero = some zero) (hs : i.size = 8) (hb : i.bytes = 64) (hz1 : zero.cells.size = 8)
    (v : Value) (xs : List Ru) (hsv : a.eval s = v) (hown : w.ownsRow base e 8 v xs.length (cellsR xs))
    (ao : Option Addr) (m c : Nat) (zs : List Ru) (hxv : a.eval x = .slice ao m c) (hsrc : RsAt w ao zs) (hm : zs.length = m) (hnone : ao = none → m = 0 ∧ c = 0) (hle : xs.length + m ≤ 4194304) (hbase : base ≤ w.heap.size)
    (h : ∀ v' w', w'.ownsRow base e 8 v' (xs ++ zs).length (cellsR (xs ++ zs)) → w.grownBy w' v.ownBlock → wpList P ops Q rest (a.put o.dst v') w') : wpList P ops Q (o :: rest) a w := by
  refine wpList_plain hgd fun _ hK => ?_
  obtain ⟨v', w', hr, h2, h3⟩ := run_apRs (P := P) w o.type base zero ht hi hz hs hb hz1 v xs hown ao m c zs hsrc hm hnone hle hbase
  unfold Oper.wp execOp
  simp only [ho, resolve, invoke, builtin, Sem.run_bind, Sem.run_pure, Result.andThen_ok, List.map_toArray, List.map_cons, List.map_nil, hsv, hxv, hr]
  exact hK _ _ (h v' w' h2 h3)
end

set_option maxRecDepth 100000 in
theorem growRu (N : Nat) (hN : N ≤ 1048576) (w : World) : Calls Tryz.prog 177 #[.slice none 0 0, .int .i64 N] w fun e w' => ∃ v, e = .returned v ∧ OvR w' w.heap.size v [] ∧ New w w' := by
  obtain ⟨i0, hi, hz0, hz1, hz2⟩ := info_parts Tryz.infoRu
  by_cases h0 : N = 0
  · subst h0
    go_enter Tryz.func177, Tryz.ntmps177
    go_wp2
    go_ret
    exact ⟨_, rfl, ⟨rfl, .inl ⟨rfl, rfl⟩⟩, New.refl _⟩
  · have hr := Lib.run_append_nil_zeros (P := Tryz.prog) w 39 3 39 159 i0 (.agg #[.int .i64 0, .int .i64 0, .int .i64 0, .int .i64 0, .int .i64 0, .bool false, .int .i64 0, .int .i64 0]) .i64 .i64 Tryz.underlying39 Tryz.underlying3 hi hz0 N (by omega) (by omega) (by omega) (by rw [hz2]; omega)
    have hge := grownCap_ge w N 0 159
    have hle := grownCap_le_maxLen w N 0 159 (by unfold maxLen; omega)
    go_enter Tryz.func177, Tryz.ntmps177
    go_wp2_with (at_builtin; refine Lib.wpList_append_run _ rfl (.tmp 20) (.tmp 21) 39 3 rfl _ _ rfl rfl _ _ hr ?_)
    generalize hcap : grownCap w N 0 159 = cap at *
    go_wp2
    go_ret
    refine ⟨_, rfl, ⟨rfl, .inr ⟨w.heap.size, cap, _, rfl, Nat.le_refl _, heap_alloc_new _ _, Nat.zero_le _, hle, ?_, by simp [cellsR]⟩⟩, ((New.refl w).drew).alloc _⟩
    simp [Builtin.zeroCells]
    omega

set_option maxRecDepth 100000 in
theorem concatRu (G : Nat) (x : Option Addr) (n c : Nat) (xs : List Ru) (w : World) (g0 : w.cell? ⟨G, 0, none⟩ = some (.slice x n c)) (hx : RsAt w x xs) (hn : xs.length = n) (hnx : x = none → n = 0 ∧ c = 0) (hn1 : n ≤ 1048576) :
    Calls Tryz.prog 147 #[.slice (some ⟨G, 0, none⟩) 1 1] w fun e w' => ∃ v, e = .returned v ∧ OvR w' w.heap.size v xs ∧ New w w' := by
  obtain ⟨i0, hi, hz0, hz1, hz2⟩ := info_parts Tryz.infoRu
  have HX : Hid (xs.length = n) := hn
  have HNX : Hid (x = none → n = 0 ∧ c = 0) := hnx
  have hG : G < w.heap.size := World.block_lt_of_cell? w _ g0
  clear hn hnx
  go_enter Tryz.func147, Tryz.ntmps147
  go_wp2
  refine wp_loop_rounds 2 ?_
  rw [rounds_succ]
  go_wp2
  rw [rounds_succ]
  go_wp2_with fail
  refine (growRu n (by omega) _).mono ?_
  rintro e w1 ⟨v1, rfl, ho1, hn1'⟩
  have G0 : w1.cell? ⟨G, 0, none⟩ = some (.slice x n c) := (World.cell?_of_block (hn1'.block G hG (fun f => f))).trans g0
  have sz1 := hn1'.size
  have lt1 : G < w1.heap.size := by omega
  clear g0
  go_wp2_with fail
  refine wp_loop_rounds 2 ?_
  rw [rounds_succ]
  go_wp2_with (at_builtin; refine wpList_apRs _ rfl (.tmp 31) (.tmp 32) rfl w.heap.size (.agg #[.int .i64 0, .int .i64 0, .int .i64 0, .int .i64 0, .int .i64 0, .bool false, .int .i64 0, .int .i64 0]) Tryz.underlying39 hi hz0 hz1 hz2 rfl v1 [] rfl ho1 x n c xs rfl (hx.new hn1') HX.out HNX.out (by simp; omega) sz1 ?_)
  intro v2 w2 ho2 hg2
  replace ho2 : OvR w2 w.heap.size v2 xs := by simpa [OvR] using ho2
  have N2 : New w w2 := hn1'.grow hg2 (fun k hk => (ho1.blk k hk).1)
  clear G0 hg2 ho1
  go_wp2_with fail
  rw [rounds_succ]
  go_wp2
  go_ret
  exact ⟨v2, rfl, ho2, N2⟩


theorem concatRs (G : Nat) (x : Option Addr) (n c : Nat) (xs : List Ru) (w : World) (g0 : w.cell? ⟨G, 0, none⟩ = some (.slice x n c)) (hx : RsAt w x xs) (hn : xs.length = n) (hnx : x = none → n = 0 ∧ c = 0) (hn1 : n ≤ 1048576) :
    Calls Tryz.prog 147 #[.slice (some ⟨G, 0, none⟩) 1 1] w fun e w' => ∃ y d, e = .returned (.slice y n d) ∧ OvR w' w.heap.size (.slice y n d) xs ∧ New w w' :=
  (concatRu G x n c xs w g0 hx hn hnx hn1).mono fun e w' ⟨v, h1, h2, h3⟩ => by
    obtain ⟨y, d, hv, -, -⟩ := h2.rs
    subst hv
    rw [hn] at h1 h2
    exact ⟨y, d, h1, h2, h3⟩

theorem copySe (sa si ho nx : Int) (a1 a2 : Option Addr) (n1 c1 n2 c2 : Nat) (r1 r2 : List Ru) (w : World) (h1 : RsAt w a1 r1) (h2 : RsAt w a2 r2) (e1 : r1.length = n1) (e2 : r2.length = n2) (m1 : n1 ≤ 1048576) (m2 : n2 ≤ 1048576) (z1 : a1 = none → n1 = 0 ∧ c1 = 0) (z2 : a2 = none → n2 = 0 ∧ c2 = 0) :
    Calls Tryz.prog 116 #[.agg #[.int .i64 sa, .int .i64 si, .int .i64 ho, .int .i64 nx, .slice a1 n1 c1, .slice a2 n2 c2]] w fun e w' => ∃ x1 d1 x2 d2, e = .returned (.agg #[.int .i64 sa, .int .i64 si, .int .i64 ho, .int .i64 nx, .slice x1 n1 d1, .slice x2 n2 d2]) ∧ OvR w' w.heap.size (.slice x1 n1 d1) r1 ∧ OvR w' w.heap.size (.slice x2 n2 d2) r2 ∧ (∀ k, (Value.slice x1 n1 d1).ownBlock = some k → (Value.slice x2 n2 d2).ownBlock ≠ some k) ∧ New w w' := by
  have E1 : Hid (r1.length = n1) := e1
  have E2 : Hid (r2.length = n2) := e2
  have Z1 : Hid (a1 = none → n1 = 0 ∧ c1 = 0) := z1
  have Z2 : Hid (a2 = none → n2 = 0 ∧ c2 = 0) := z2
  have hw : New w ((w.alloc (.cells #[.int .i64 sa, .int .i64 si, .int .i64 ho, .int .i64 nx, .slice a1 n1 c1, .slice a2 n2 c2] 41)).alloc (.cells #[.int .i64 0, .int .i64 0, .int .i64 0, .int .i64 0, .slice none 0 0, .slice none 0 0] 41)) := ((New.refl w).alloc _).alloc _
  have bA : Blk ((w.alloc (.cells #[.int .i64 sa, .int .i64 si, .int .i64 ho, .int .i64 nx, .slice a1 n1 c1, .slice a2 n2 c2] 41)).alloc (.cells #[.int .i64 0, .int .i64 0, .int .i64 0, .int .i64 0, .slice none 0 0, .slice none 0 0] 41)) w.heap.size 41 #[.int .i64 sa, .int .i64 si, .int .i64 ho, .int .i64 nx, .slice a1 n1 c1, .slice a2 n2 c2] := (Blk.mk _ _ _ _ rfl).alloc _
  have bB : Blk ((w.alloc (.cells #[.int .i64 sa, .int .i64 si, .int .i64 ho, .int .i64 nx, .slice a1 n1 c1, .slice a2 n2 c2] 41)).alloc (.cells #[.int .i64 0, .int .i64 0, .int .i64 0, .int .i64 0, .slice none 0 0, .slice none 0 0] 41)) (w.heap.size + 1) 41 #[.int .i64 0, .int .i64 0, .int .i64 0, .int .i64 0, .slice none 0 0, .slice none 0 0] := Blk.mk _ _ _ _ (by simp)
  have SZ0 : Hid (((w.alloc (.cells #[.int .i64 sa, .int .i64 si, .int .i64 ho, .int .i64 nx, .slice a1 n1 c1, .slice a2 n2 c2] 41)).alloc (.cells #[.int .i64 0, .int .i64 0, .int .i64 0, .int .i64 0, .slice none 0 0, .slice none 0 0] 41)).heap.size = w.heap.size + 2) := by show _ = _; simp
  clear e1 e2 z1 z2
  go_enter Tryz.func116, Tryz.ntmps116
  go_upto_region 1 with fail
  generalize ((w.alloc (.cells #[.int .i64 sa, .int .i64 si, .int .i64 ho, .int .i64 nx, .slice a1 n1 c1, .slice a2 n2 c2] 41)).alloc (.cells #[.int .i64 0, .int .i64 0, .int .i64 0, .int .i64 0, .slice none 0 0, .slice none 0 0] 41)) = w0 at *
  have cA := bA.cells
  have al0 := (New.refl w0).alloc (.cells #[.slice a1 n1 c1] 39)
  have g0 : (w0.alloc (.cells #[.slice a1 n1 c1] 39)).cell? ⟨w0.heap.size, 0, none⟩ = some (.slice a1 n1 c1) := by go_simp
  go_wp2_with fail
  refine (concatRs w0.heap.size a1 n1 c1 r1 _ g0 ((h1.new hw).new al0) E1.out Z1.out m1).mono ?_
  rintro e w1 ⟨x1, d1, rfl, ho1, hn1⟩
  have sa0 : (w0.alloc (.cells #[.slice a1 n1 c1] 39)).heap.size = w0.heap.size + 1 := by simp
  have sz0 := SZ0.out
  have n01 := al0.trans hn1
  have bA1 := bA.new n01
  have bB1 := bB.new n01
  have hw1 := hw.trans n01
  have cA1 := bA1.cells
  have fA1 := bA1.frees
  have sz1 := n01.size
  have ho1' := ho1.low (lo' := w.heap.size + 2) (by omega)
  have t1 : Turn (fun k => k = w.heap.size) w1 (w1.setCell ⟨w.heap.size, 4, none⟩ (.slice x1 n1 d1)) := Turn.here9 (Turn.refl _ _) _
  have bA2 : Blk (w1.setCell ⟨w.heap.size, 4, none⟩ (.slice x1 n1 d1)) w.heap.size 41 #[.int .i64 sa, .int .i64 si, .int .i64 ho, .int .i64 nx, .slice x1 n1 d1, .slice a2 n2 c2] := bA1.set 4 (.slice x1 n1 d1)
  have bB2 := bB1.turn t1 (by omega)
  have hw2 := hw1.setCell (p := ⟨w.heap.size, 4, none⟩) (Nat.le_refl _) (.slice x1 n1 d1)
  have ho2 := ho1'.turn t1 (by intro k hk e; have := (ho1'.blk k hk).1; omega)
  have szh := hn1.size
  have sze : (w1.setCell ⟨w.heap.size, 4, none⟩ (.slice x1 n1 d1)).heap.size = w1.heap.size := by simp
  have SZ2 : Hid (w.heap.size + 3 ≤ (w1.setCell ⟨w.heap.size, 4, none⟩ (.slice x1 n1 d1)).heap.size) := (show w.heap.size + 3 ≤ (w1.setCell ⟨w.heap.size, 4, none⟩ (.slice x1 n1 d1)).heap.size by omega)
  clear szh sze
  clear cA bA bB bA1 bB1 hw1 ho1 ho1' g0 al0 hn1 n01 t1 sa0 sz0 sz1
  go_upto_region 2 with fail
  generalize (w1.setCell ⟨w.heap.size, 4, none⟩ (.slice x1 n1 d1)) = w2 at *
  clear cA1 fA1
  have cA := bA2.cells
  have al0 := (New.refl w2).alloc (.cells #[.slice a2 n2 c2] 39)
  have g0 : (w2.alloc (.cells #[.slice a2 n2 c2] 39)).cell? ⟨w2.heap.size, 0, none⟩ = some (.slice a2 n2 c2) := by go_simp
  go_wp2_with fail
  refine (concatRs w2.heap.size a2 n2 c2 r2 _ g0 ((h2.new hw2).new al0) E2.out Z2.out m2).mono ?_
  rintro e w3 ⟨x2, d2, rfl, ho3, hn3⟩
  have sa0 : (w2.alloc (.cells #[.slice a2 n2 c2] 39)).heap.size = w2.heap.size + 1 := by simp
  have sz2 := SZ2.out
  have n23 := al0.trans hn3
  have bA3 := bA2.new n23
  have bB3 := bB2.new n23
  have hw3 := hw2.trans n23
  have o13 := ho2.new n23
  have hap : Hid (∀ k, (Value.slice x1 n1 d1).ownBlock = some k → (Value.slice x2 n2 d2).ownBlock ≠ some k) := by
    intro k h1 h2
    have := (ho2.blk k h1).2
    have := (ho3.blk k h2).1
    omega
  have O1 : Hid (OvR w3 (w.heap.size + 2) (.slice x1 n1 d1) r1) := o13
  have O2 : Hid (OvR w3 (w.heap.size + 2) (.slice x2 n2 d2) r2) := ho3.low (by omega)
  have cA3 := bA3.cells
  have fA3 := bA3.frees
  have cB3 := bB3.cells
  have fB3 := bB3.frees
  have ge0 : w.heap.size ≤ w.heap.size := Nat.le_refl _
  have ge1 : w.heap.size ≤ w.heap.size + 1 := by omega
  have d01 : ¬ w.heap.size + 1 = w.heap.size := by omega
  clear cA bA2 bB2 ho2 ho3 o13 g0 al0 hn3 n23 sa0 sz2 hw2
  go_wp2
  refine bodyPost_ret (v := .agg #[.int .i64 sa, .int .i64 si, .int .i64 ho, .int .i64 nx, .slice x1 n1 d1, .slice x2 n2 d2]) (by simp [results, Tryz.results116, go_sem, cB3]) rfl ⟨x1, d1, x2, d2, rfl, ?_, ?_, hap.out, ?_⟩
  · refine (OvR.turn (S := fun k => k = w.heap.size ∨ k = w.heap.size + 1) O1.out ?_ ?_).low (by omega)
    · simp (disch := (first | exact Or.inl rfl | exact Or.inr rfl)) only [turn_set_iff]
      exact Turn.refl _ _
    · intro k hk e; have := (O1.out.blk k hk).1; omega
  · refine (OvR.turn (S := fun k => k = w.heap.size ∨ k = w.heap.size + 1) O2.out ?_ ?_).low (by omega)
    · simp (disch := (first | exact Or.inl rfl | exact Or.inr rfl)) only [turn_set_iff]
      exact Turn.refl _ _
    · intro k hk e; have := (O2.out.blk k hk).1; omega
  · simp (disch := (first | exact ge0 | exact ge1)) only [New.set_iff, hw3]

end Go.Proofs.YtdbnmkffinhdjaaGreat
