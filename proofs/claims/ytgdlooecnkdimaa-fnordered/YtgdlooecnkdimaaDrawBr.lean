/- What is proved here: what the drawing of two routes answers. -/
import Derived.Test.YtgdlooecnkdimaaDrawRt
import Derived.Test.YtgdlooecnkdimaaR7Cp
import Derived.Deep.CutRange
namespace Go.Proofs.Ytgdlooecnkdimaa
open Go.RowKit Go.Sort
set_option linter.unusedVariables false

theorem set5d (w : World) (B j : Nat) (v0 v1 v2 v3 v4 : Value) : Turn (fun k => k = B) w (((((w.setCell ⟨B, j, none⟩ v0).setCell ⟨B, j + 1, none⟩ v1).setCell ⟨B, j + 2, none⟩ v2).setCell ⟨B, j + 3, none⟩ v3).setCell ⟨B, j + 4, none⟩ v4) :=
  (((((Turn.refl (fun k => k = B) w).set (p := ⟨B, j, none⟩) rfl v0).set (p := ⟨B, j + 1, none⟩) rfl v1).set (p := ⟨B, j + 2, none⟩) rfl v2).set (p := ⟨B, j + 3, none⟩) rfl v3).set (p := ⟨B, j + 4, none⟩) rfl v4

set_option maxHeartbeats 6400000 in
theorem drawBetter (a : Option Addr) (n c : Nat) (zs : List Int) (w : World) (h : BsAt w a zs) (hn : zs.length = n) (hm : n ≤ 2097152) (ha : ∀ x, zs ≠ [] → a = some x → x.block < w.heap.size) :
    Calls Try.prog 5 #[.slice a n c] w fun e w' => ∃ (p1 a1 l1 o1 nx1 md1 lc1 : Int) (x1 : Option Addr) (n1 c1 : Nat) (p2 a2 l2 o2 nx2 md2 lc2 : Int) (x2 : Option Addr) (n2 c2 : Nat), e = .returned (.tuple #[.agg #[.int .i64 p1, .int .i64 a1, .int .i64 l1, .int .i64 o1, .slice x1 n1 c1, .int .i64 nx1, .int .i64 md1, .int .i64 lc1], .agg #[.int .i64 p2, .int .i64 a2, .int .i64 l2, .int .i64 o2, .slice x2 n2 c2, .int .i64 nx2, .int .i64 md2, .int .i64 lc2]]) ∧ n1 ≤ 3 ∧ n2 ≤ 3 ∧ New w w' := by
  have N0 : New w ((w.alloc (.cells #[.int .i64 0, .int .i64 0, .int .i64 0, .int .i64 0, .slice none 0 0, .int .i64 0, .int .i64 0, .int .i64 0] 30)).alloc (.cells #[.int .i64 0, .int .i64 0, .int .i64 0, .int .i64 0, .slice none 0 0, .int .i64 0, .int .i64 0, .int .i64 0] 30)) := ((New.refl w).alloc _).alloc _
  have b0 : Blk ((w.alloc (.cells #[.int .i64 0, .int .i64 0, .int .i64 0, .int .i64 0, .slice none 0 0, .int .i64 0, .int .i64 0, .int .i64 0] 30)).alloc (.cells #[.int .i64 0, .int .i64 0, .int .i64 0, .int .i64 0, .slice none 0 0, .int .i64 0, .int .i64 0, .int .i64 0] 30)) w.heap.size 30 #[.int .i64 0, .int .i64 0, .int .i64 0, .int .i64 0, .slice none 0 0, .int .i64 0, .int .i64 0, .int .i64 0] := (Blk.mk _ _ _ _ rfl).alloc _
  have b1 : Blk ((w.alloc (.cells #[.int .i64 0, .int .i64 0, .int .i64 0, .int .i64 0, .slice none 0 0, .int .i64 0, .int .i64 0, .int .i64 0] 30)).alloc (.cells #[.int .i64 0, .int .i64 0, .int .i64 0, .int .i64 0, .slice none 0 0, .int .i64 0, .int .i64 0, .int .i64 0] 30)) (w.heap.size + 1) 30 #[.int .i64 0, .int .i64 0, .int .i64 0, .int .i64 0, .slice none 0 0, .int .i64 0, .int .i64 0, .int .i64 0] := Blk.mk _ _ _ _ (by simp)
  have z0 : w.heap.size + 1 < ((w.alloc (.cells #[.int .i64 0, .int .i64 0, .int .i64 0, .int .i64 0, .slice none 0 0, .int .i64 0, .int .i64 0, .int .i64 0] 30)).alloc (.cells #[.int .i64 0, .int .i64 0, .int .i64 0, .int .i64 0, .slice none 0 0, .int .i64 0, .int .i64 0, .int .i64 0] 30)).heap.size := by simp
  go_enter Try.func5, Try.ntmps5
  go_upto_region 1 with fail
  generalize (w.alloc (.cells #[.int .i64 0, .int .i64 0, .int .i64 0, .int .i64 0, .slice none 0 0, .int .i64 0, .int .i64 0, .int .i64 0] 30)).alloc (.cells #[.int .i64 0, .int .i64 0, .int .i64 0, .int .i64 0, .slice none 0 0, .int .i64 0, .int .i64 0, .int .i64 0] 30) = w0 at *
  go_wp2_with fail
  refine (source_any a n c zs _ (h.new N0) hn hm (fun x h1 h2 => by have := ha x h1 h2; omega)).mono ?_
  rintro e w1 ⟨B, rfl, hB, hs1, h1⟩
  have b0 := b0.new h1
  have b1 := b1.new h1
  have N1 := N0.trans h1
  have hne0 : ¬ w.heap.size = B := by omega
  have hne1 : ¬ w.heap.size + 1 = B := by omega
  have hNB : ∀ i, i < w.heap.size → ¬ i = B := fun i hi e => by omega
  have lB1 := hs1.blk.lt
  clear h1 N0
  go_wp2_with fail
  refine (l7DrawRoute_sc hs1 (by omega)).mono ?_
  rintro e w2 ⟨p1, a1, l1, o1, nx1, md1, lc1, xs, x1, c1, t2, rfl, hpe, hpf, haf, hx3, ht2, hM2, hs2, htr2⟩
  go_upto_region 3 with fail
  have hal : New w2 (w2.alloc (.cells #[.int .i64 p1, .int .i64 a1, .int .i64 l1, .int .i64 o1, .slice x1 xs.length c1, .int .i64 nx1, .int .i64 md1, .int .i64 lc1] 30)) := (New.refl w2).alloc _
  have bV := Blk.mk w2 w2.heap.size 30 #[.int .i64 p1, .int .i64 a1, .int .i64 l1, .int .i64 o1, .slice x1 xs.length c1, .int .i64 nx1, .int .i64 md1, .int .i64 lc1] rfl
  have b0 := (b0.turn htr2 hne0).new hal
  have b1 := (b1.turn htr2 hne1).new hal
  have N2 := (N1.before htr2 hNB).trans hal
  have hs2 := hs2.new hal
  have hM2 := hM2.new hal
  have l12 := htr2.size
  have hVB : ¬ w2.heap.size = B := by omega
  have l23 : w2.heap.size < (w2.alloc (.cells #[.int .i64 p1, .int .i64 a1, .int .i64 l1, .int .i64 o1, .slice x1 xs.length c1, .int .i64 nx1, .int .i64 md1, .int .i64 lc1] 30)).heap.size := by simp
  clear htr2 N1 hal hs1
  generalize w2.alloc (.cells #[.int .i64 p1, .int .i64 a1, .int .i64 l1, .int .i64 o1, .slice x1 xs.length c1, .int .i64 nx1, .int .i64 md1, .int .i64 lc1] 30) = w3 at *
  go_wp2_with fail
  refine (l7DrawRoute_sc hs2 (by omega)).mono ?_
  rintro e w4 ⟨p2, a2, l2, o2, nx2, md2, lc2, ys, x2, c2, t4, rfl, hpe2, hpf2, haf2, hy3, ht4, hM4, hs4, htr4⟩
  go_upto_region 4 with fail
  have hal : New w4 (w4.alloc (.cells #[.int .i64 p2, .int .i64 a2, .int .i64 l2, .int .i64 o2, .slice x2 ys.length c2, .int .i64 nx2, .int .i64 md2, .int .i64 lc2] 30)) := (New.refl w4).alloc _
  have bU := Blk.mk w4 w4.heap.size 30 #[.int .i64 p2, .int .i64 a2, .int .i64 l2, .int .i64 o2, .slice x2 ys.length c2, .int .i64 nx2, .int .i64 md2, .int .i64 lc2] rfl
  have bV := (bV.turn htr4 hVB).new hal
  have b0 := (b0.turn htr4 hne0).new hal
  have b1 := (b1.turn htr4 hne1).new hal
  have N4 := (N2.before htr4 hNB).trans hal
  have hs4 := hs4.new hal
  have hM2 := ((hM2.turn htr4 (fun g hg e => by omega))).new hal
  have l34 := htr4.size
  have hUB : ¬ w4.heap.size = B := by omega
  have l45 : w4.heap.size < (w4.alloc (.cells #[.int .i64 p2, .int .i64 a2, .int .i64 l2, .int .i64 o2, .slice x2 ys.length c2, .int .i64 nx2, .int .i64 md2, .int .i64 lc2] 30)).heap.size := by simp
  clear htr4 N2 hal hs2 hM4
  generalize w4.alloc (.cells #[.int .i64 p2, .int .i64 a2, .int .i64 l2, .int .i64 o2, .slice x2 ys.length c2, .int .i64 nx2, .int .i64 md2, .int .i64 lc2] 30) = w5 at *
  go_wp2_with fail
  refine (chance_sc hs4 2 (by omega) (by omega)).mono ?_
  rintro e w6 ⟨r, rfl, hs6, htr6⟩
  have bU := bU.turn htr6 hUB
  have bV := bV.turn htr6 hVB
  have b0 := b0.turn htr6 hne0
  have b1 := b1.turn htr6 hne1
  have N6 := N4.before htr6 hNB
  have hM6 := hM2.turn htr6 (fun g hg e => by omega)
  have l56 := htr6.size
  have ne1 : ¬ w.heap.size = w.heap.size + 1 := by omega
  have ne2 : ¬ w.heap.size = w2.heap.size := by omega
  have ne3 : ¬ w.heap.size = w4.heap.size := by omega
  have ne4 : ¬ w.heap.size + 1 = w2.heap.size := by omega
  have ne5 : ¬ w.heap.size + 1 = w4.heap.size := by omega
  have ne6 : ¬ w2.heap.size = w4.heap.size := by omega
  have ne1' : ¬ w.heap.size + 1 = w.heap.size := by omega
  have ge0 : w.heap.size ≤ w.heap.size := Nat.le_refl _
  have ge1 : w.heap.size ≤ w.heap.size + 1 := by omega
  clear htr6 N4 hM2 hs4
  cases r
  · have cU := bU.cells
    have cV := bV.cells
    have c0 := b0.cells
    have c1' := b1.cells
    have f0 := b0.frees
    have f1 := b1.frees
    go_upto_region 7 with fail
    go_region
    all_goals
      go_wp2
      refine bodyPost_ret (v := .tuple #[.agg #[.int .i64 p1, .int .i64 a1, .int .i64 l1, .int .i64 o1, .slice x1 xs.length c1, .int .i64 nx1, .int .i64 md1, .int .i64 lc1], .agg #[.int .i64 p2, .int .i64 a2, .int .i64 l2, .int .i64 o2, .slice x2 ys.length c2, .int .i64 nx2, .int .i64 md2, .int .i64 lc2]]) (by simp [results, Try.results5, go_sem, c0, c1']) rfl ?_
      refine ⟨p1, a1, l1, o1, nx1, md1, lc1, x1, xs.length, c1, p2, a2, l2, o2, nx2, md2, lc2, x2, ys.length, c2, rfl, hx3, hy3, ?_⟩
      simp (disch := (first | exact ge0 | exact ge1)) only [New.set_iff, New.drew_iff, N6]
  · obtain ⟨xq, cq, eq, hns, hpl⟩ := hM6.ns (fun z hz => by have := (af_ok haf).2.2 z hz; unfold In6; omega)
    simp only [Value.slice.injEq, true_and] at eq
    obtain ⟨rfl, rfl⟩ := eq
    have hnl : x1 = none → xs.length = 0 ∧ c1 = 0 := by
      intro e0
      rcases hM6 with ⟨e1, e2⟩ | ⟨g, cc, e1, _, _⟩
      · simp only [Value.slice.injEq] at e1
        exact e1.2
      · subst e0
        simp at e1
    have cV := bV.cells
    have HX : Hid (x1 = none → xs.length = 0 ∧ c1 = 0) := hnl
    clear hnl
    go_wp2_with fail
    refine (l6C7_any o1 nx1 md1 lc1 x1 xs.length c1 xs _ hns rfl (by omega) HX.out).mono ?_
    rintro e w7 ⟨x3, c3, rfl, -, -, h7⟩
    have bU := bU.new h7
    have bV := bV.new h7
    have b0 := b0.new h7
    have b1 := b1.new h7
    have hs7 := hs6.new h7
    have N7 := N6.trans h7
    have cU := bU.cells
    have fU := bU.frees
    clear hns hs6 h7 cV
    go_upto_region 6 with fail
    have tS : Turn (fun k => k = w4.heap.size) w7 (((((w7.setCell ⟨w4.heap.size, 3, none⟩ (.int .i64 o1)).setCell ⟨w4.heap.size, 3 + 1, none⟩ (.slice x3 xs.length c3)).setCell ⟨w4.heap.size, 3 + 2, none⟩ (.int .i64 nx1)).setCell ⟨w4.heap.size, 3 + 3, none⟩ (.int .i64 md1)).setCell ⟨w4.heap.size, 3 + 4, none⟩ (.int .i64 lc1)) := set5d w7 w4.heap.size 3 _ _ _ _ _
    have bS : Blk (((((w7.setCell ⟨w4.heap.size, 3, none⟩ (.int .i64 o1)).setCell ⟨w4.heap.size, 3 + 1, none⟩ (.slice x3 xs.length c3)).setCell ⟨w4.heap.size, 3 + 2, none⟩ (.int .i64 nx1)).setCell ⟨w4.heap.size, 3 + 3, none⟩ (.int .i64 md1)).setCell ⟨w4.heap.size, 3 + 4, none⟩ (.int .i64 lc1)) w4.heap.size 30 #[.int .i64 p2, .int .i64 a2, .int .i64 l2, .int .i64 o1, .slice x3 xs.length c3, .int .i64 nx1, .int .i64 md1, .int .i64 lc1] := ((((bU.set 3 (.int .i64 o1)).set 4 (.slice x3 xs.length c3)).set 5 (.int .i64 nx1)).set 6 (.int .i64 md1)).set 7 (.int .i64 lc1)
    have bV := bV.turn tS ne6
    have b0 := b0.turn tS ne3
    have b1 := b1.turn tS ne5
    have hs8 := hs7.turn tS (fun e => hUB e.symm) (fun x h1 h2 e => by have := ha x h1 h2; omega)
    have N8 := N7.before tS (fun i hi e => by omega)
    clear tS hs7 N7 cU fU bU
    generalize (((((w7.setCell ⟨w4.heap.size, 3, none⟩ (.int .i64 o1)).setCell ⟨w4.heap.size, 3 + 1, none⟩ (.slice x3 xs.length c3)).setCell ⟨w4.heap.size, 3 + 2, none⟩ (.int .i64 nx1)).setCell ⟨w4.heap.size, 3 + 3, none⟩ (.int .i64 md1)).setCell ⟨w4.heap.size, 3 + 4, none⟩ (.int .i64 lc1)) = w8 at *
    go_wp2_with fail
    refine (next_sc hs8 3 (by omega) (by omega)).mono ?_
    rintro e w9 ⟨y, rfl, -, hs9, htr9⟩
    have bS := bS.turn htr9 hUB
    have bV := bV.turn htr9 hVB
    have b0 := b0.turn htr9 hne0
    have b1 := b1.turn htr9 hne1
    have N9 := N8.before htr9 hNB
    have cS := bS.cells
    have fS := bS.frees
    clear hs8 hs9 htr9 N8
    go_upto_region 7 with fail
    have tQ : Turn (fun k => k = w4.heap.size) w9 (w9.setCell ⟨w4.heap.size, 3 + 3, none⟩ (.int .i64 y)) := (Turn.refl (fun k => k = w4.heap.size) w9).set (p := ⟨w4.heap.size, 3 + 3, none⟩) rfl _
    have bS := bS.set 6 (.int .i64 y)
    have bV := bV.turn tQ ne6
    have b0 := b0.turn tQ ne3
    have b1 := b1.turn tQ ne5
    have N10 := N9.before tQ (fun i hi e => by omega)
    have bS : Blk (w9.setCell ⟨w4.heap.size, 3 + 3, none⟩ (.int .i64 y)) w4.heap.size 30 #[.int .i64 p2, .int .i64 a2, .int .i64 l2, .int .i64 o1, .slice x3 xs.length c3, .int .i64 nx1, .int .i64 y, .int .i64 lc1] := bS
    clear tQ N9 cS fS
    generalize w9.setCell ⟨w4.heap.size, 3 + 3, none⟩ (.int .i64 y) = w10 at *
    have cS := bS.cells
    have cV := bV.cells
    have c0 := b0.cells
    have c1' := b1.cells
    have f0 := b0.frees
    have f1 := b1.frees
    go_region
    all_goals
      go_wp2
      refine bodyPost_ret (v := .tuple #[.agg #[.int .i64 p1, .int .i64 a1, .int .i64 l1, .int .i64 o1, .slice x1 xs.length c1, .int .i64 nx1, .int .i64 md1, .int .i64 lc1], .agg #[.int .i64 p2, .int .i64 a2, .int .i64 l2, .int .i64 o1, .slice x3 xs.length c3, .int .i64 nx1, .int .i64 y, .int .i64 lc1]]) (by simp [results, Try.results5, go_sem, c0, c1']) rfl ?_
      refine ⟨p1, a1, l1, o1, nx1, md1, lc1, x1, xs.length, c1, p2, a2, l2, o1, nx1, y, lc1, x3, xs.length, c3, rfl, hx3, hx3, ?_⟩
      simp (disch := (first | exact ge0 | exact ge1)) only [New.set_iff, New.drew_iff, N10]

end Go.Proofs.Ytgdlooecnkdimaa
