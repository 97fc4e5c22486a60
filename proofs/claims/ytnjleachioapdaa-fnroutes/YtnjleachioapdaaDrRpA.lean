/- What is proved here: what the drawing of a right list of routes answers. What is proved here: what the bending of a list of routes answers. What is proved here: what the drawing of a list of routes and of a route answers. -/
import Derived.Test.YtnjleachioapdaaDrawRt
import Derived.Test.YtnjleachioapdaaR7Ps
import Derived.Deep.CutRange
import Derived.Test.YtnjleachioapdaaDrawBt6
import Derived.Laws.OwnMore
namespace Go.Proofs.Ytnjleachioapdaa
open Go.RowKit Go.Sort
set_option linter.unusedVariables false

/-- The paths lie from lo on. -/
def LoP (U : List Rv) (lo : Nat) : Prop := ∀ v ∈ U, ∀ y, v.x = some y → lo ≤ y.block

/-- No path lies in the row's own block. -/
def Apart (A : Option Addr) (U : List Rv) : Prop := ∀ x, A = some x → ∀ v ∈ U, ∀ y, v.r.xs ≠ [] → v.x = some y → ¬ y.block = x.block

theorem RtAt.turnB {w w' : World} {A : Option Addr} {U : List Rv} {lo B d : Nat} (h : RtAt w A U) (hr : w.ownsRow lo 31 8 (.slice A U.length d) U.length (cellsT U)) (hl : LoP U lo) (t : Turn (fun k => k = B) w w') (hB : B < lo) : RtAt w' A U := by
  refine h.turn t ?_ ?_
  · intro x hne hx e
    rcases hr.2 with ⟨h1, h2⟩ | ⟨g, c, cur, h1, h2, r⟩
    · exact hne (List.eq_nil_of_length_eq_zero h2)
    · simp only [Value.slice.injEq] at h1
      rw [h1.1] at hx
      obtain rfl := Option.some.inj hx
      simp at e
      omega
  · intro v hv x _ hx e
    have := hl v hv x hx
    omega

theorem RtAt.lts {w : World} {A : Option Addr} {U : List Rv} (h : RtAt w A U) : (∀ x, U ≠ [] → A = some x → x.block < w.heap.size) ∧ (∀ v ∈ U, ∀ x, v.r.xs ≠ [] → v.x = some x → x.block < w.heap.size) := by
  constructor
  · intro x hne hx
    obtain ⟨b, off, p, a, l, o, nx, md, lc, x', m, d, ys, hA, -, -, -, -, -, q0, -⟩ := h.at 0 (List.length_pos_iff.2 hne)
    rw [hA] at hx
    obtain rfl := Option.some.inj hx
    exact World.block_lt_of_cell? w _ q0
  · intro v hv x hne hx
    obtain ⟨b, off, z, h1, -, h3, -⟩ := (h.here v hv).1.at 0 (List.length_pos_iff.2 hne)
    rw [h1] at hx
    obtain rfl := Option.some.inj hx
    exact World.block_lt_of_cell? w _ h3

theorem set2d (w : World) (B j : Nat) (v0 v1 : Value) : Turn (fun k => k = B) w ((w.setCell ⟨B, j, none⟩ v0).setCell ⟨B, j + 1, none⟩ v1) :=
  ((Turn.refl (fun k => k = B) w).set (p := ⟨B, j, none⟩) rfl v0).set (p := ⟨B, j + 1, none⟩) rfl v1

set_option maxRecDepth 100000 in
set_option maxHeartbeats 6400000 in
theorem l7Right_sc {B n c t : Nat} {a : Option Addr} {zs : List Int} {w : World} (h : Sc w B a n c zs t) (ht : t ≤ 1000) :
    Calls Try.prog 31 #[.pointer (some ⟨B, 0, none⟩)] w fun e w' => ∃ (A : Option Addr) (d : Nat) (U : List Rv) (t' : Nat), e = .returned (.slice A U.length d) ∧ U.length ≤ 8 ∧ RtAt w' A U ∧ w'.ownsRow w.heap.size 31 8 (.slice A U.length d) U.length (cellsT U) ∧ LoP U w.heap.size ∧ Apart A U ∧ t' ≤ t + 600 ∧ Sc w' B a n c zs t' ∧ Turn (fun k => k = B) w w' := by
  have hlt := h.blk.lt
  have hla := h.lt_of
  have NL : New w (w.alloc (.cells #[] 31)) := (New.refl w).alloc _
  have hL := row_lit7 (lo := w.heap.size) (Blk.mk w w.heap.size 31 #[] rfl) (Nat.le_refl _)
  have hs0 := h.new NL
  go_enter Try.func31, Try.ntmps31
  go_wp2_with fail
  refine (next_sc hs0 9 (by omega) (by omega)).mono ?_
  rintro e w1 ⟨k0, rfl, ⟨hk0, hk1, -⟩, hs1, t1⟩
  have hk1 := hk1 (by omega)
  obtain ⟨K, rfl⟩ : ∃ K : Nat, k0 = K := ⟨k0.toNat, by omega⟩
  have hL1 := row_turn7 hL t1 (fun k hk e => by have e' : w.heap.size = k := Option.some.inj hk; omega)
  have tW1 : Turn (fun k => k = B) w w1 := Turn.trans NL.turn t1 (fun _ _ e => e)
  clear hL hs0 NL
  go_wp2
  go_loopw [3, 4] (fun s i wr => ∃ (kk : Nat) (A : Option Addr) (d : Nat) (U : List Rv) (t' : Nat), kk ≤ 8 ∧ i = .int .i64 kk ∧ s = .slice A U.length d ∧ U.length + kk ≤ 8 ∧ RtAt wr A U ∧ wr.ownsRow w.heap.size 31 8 (.slice A U.length d) U.length (cellsT U) ∧ LoP U w.heap.size ∧ Apart A U ∧ t' + 60 * kk ≤ t + 500 ∧ Sc wr B a n c zs t' ∧ Turn (fun k => k = B) w wr) (fun _ i _ => (intOf i).toNat)
  case atStart => exact ⟨K, some ⟨w.heap.size, 0, none⟩, 0, [], t + 1, by omega, rfl, rfl, by simp; omega, RtAt.nil _ _, hL1, by intro v hv; simp at hv, by intro x hx v hv; simp at hv, by omega, hs1, tW1⟩
  case round =>
    clear hL1 tW1 hs1 t1
    obtain ⟨k2, A, d, U, t2, hk2, rfl, rfl, hUl, hU, hrow, hLo, hAp, ht2, hs2, tW⟩ := hrel
    cases k2 with
    | zero =>
      go_wp2
      go_ret
      exact ⟨A, d, U, t2, rfl, by omega, hU, hrow, hLo, hAp, by omega, hs2, tW⟩
    | succ kk =>
      go_wp2_with fail
      refine (l7DrawRoute_sc hs2 (by omega)).mono ?_
      rintro e w4 ⟨p1, a1, l1, o1, nx1, md1, lc1, xs, x1, c1, t4, rfl, hpe, hpf, haf, hx3, ht4, hM4, hs4, tr4⟩
      have s0 := tW.size
      have hU := hU.turnB hrow hLo tr4 (by omega)
      have hrow := row_turn7 hrow tr4 (fun k hk e => by have := (row_rng7 hrow k hk).1; omega)
      have tW := tW.both tr4
      obtain ⟨xq, cq, eq, hns, hpl⟩ := hM4.ns (fun z hz => by have := (af_ok haf).2.2 z hz; unfold In6; omega)
      simp only [Value.slice.injEq, true_and] at eq
      obtain ⟨rfl, rfl⟩ := eq
      have hnl : x1 = none → xs.length = 0 ∧ c1 = 0 := by
        intro e0
        rcases hM4 with ⟨e1, e2⟩ | ⟨g, cc, e1, _, _⟩
        · simp only [Value.slice.injEq] at e1
          exact e1.2
        · subst e0
          simp at e1
      have hlts := hU.lts
      have hrk := fun k hk => (row_rng7 hrow k hk).2
      go_upto_region 6 with fail
      have hal : New w4 (w4.alloc (.cells #[.int .i64 p1, .int .i64 a1, .int .i64 l1, .int .i64 o1, .slice x1 xs.length c1, .int .i64 nx1, .int .i64 md1, .int .i64 lc1] 31)) := (New.refl w4).alloc _
      have bV := Blk.mk w4 w4.heap.size 31 #[.int .i64 p1, .int .i64 a1, .int .i64 l1, .int .i64 o1, .slice x1 xs.length c1, .int .i64 nx1, .int .i64 md1, .int .i64 lc1] rfl
      have hU := hU.new hal
      have hrow := row_turn7 hrow hal (fun _ _ f => f)
      have tW := Turn.andNew tW hal
      have hns := hns.new hal
      have hs4 := hs4.new hal
      have l4 := tr4.size
      have l5 : w4.heap.size < (w4.alloc (.cells #[.int .i64 p1, .int .i64 a1, .int .i64 l1, .int .i64 o1, .slice x1 xs.length c1, .int .i64 nx1, .int .i64 md1, .int .i64 lc1] 31)).heap.size := by simp
      have hVB : ¬ w4.heap.size = B := by omega
      clear tr4 hal hs2 hM4
      generalize (w4.alloc (.cells #[.int .i64 p1, .int .i64 a1, .int .i64 l1, .int .i64 o1, .slice x1 xs.length c1, .int .i64 nx1, .int .i64 md1, .int .i64 lc1] 31)) = w5 at *
      have hxl : xs.length ≤ 1048576 := by omega
      rcases Nat.eq_zero_or_pos U.length with hU0 | hU0
      · obtain rfl : U = [] := List.eq_nil_of_length_eq_zero hU0
        have hx : Rv.here w5 (Rv.mk (Rt.mk p1 a1 l1 o1 xs nx1 md1 lc1) x1 c1) := ⟨hns, hnl, hxl⟩
        have cV := bV.cells
        go_upto_region 8 with fail
        have cV := bV.cells
        go_wp2_with fail
        refine (l7Put_any p1 a1 l1 o1 nx1 md1 lc1 x1 xs.length c1 xs A 0 d [] _ hU rfl (by omega) hx rfl).mono ?_
        rintro e wp ⟨A2, d2, U2, rfl, hm2, hr2, hn2, hw2, hsb2⟩
        have hlen2 : U2.length ≤ 0 + 1 := by
          have e1 := congrArg List.length hm2
          have e2 := tw_le (fun s => s.lt (Rt.mk p1 a1 l1 o1 xs nx1 md1 lc1)) ((([] : List Rv).map Rv.r).filter (keepE p1 a1 l1))
          have e3 := List.length_filter_le (keepE p1 a1 l1) (([] : List Rv).map Rv.r)
          unfold insR at e1
          simp at e1 e3
          omega
        have hLo2 : LoP U2 w.heap.size := by
          intro v hv y hy
          rcases hsb2 v hv with h5 | h5
          · exact hLo v h5 y hy
          · rw [h5] at hy
            have := (hpl y hy).1
            omega
        have hAp2 : Apart A2 U2 := by
          intro x hx0 v hv y hne hy
          subst hx0
          have g1 := (row_rng7 hw2 x.block (by rfl)).1
          rcases hsb2 v hv with h5 | h5
          · have := hU.lts.2 v h5 y hne hy
            omega
          · rw [h5] at hy
            have := (hpl y hy).2
            omega
        have tW2 := Turn.andNew tW hn2
        have hsN := hs4.new hn2
        have hrow2 := row_low7 hw2 (show w.heap.size ≤ w5.heap.size from tW.size)
        clear hm2 hsb2 hn2 hw2
        go_wp2
        go_roundw
        case rel => exact ⟨kk, A2, d2, U2, t4, by omega, by go_num, rfl, by omega, hr2, hrow2, hLo2, hAp2, by omega, hsN, tW2⟩
        case measure => simp [intOf]

      · have hg : (decide ((0:Int) < U.length)) = true := by simp; omega
        go_wp2_with fail
        refine (chance_sc hs4 2 (by omega) (by omega)).mono ?_
        rintro e w6 ⟨bb, rfl, hs6, t6⟩
        have l6 := t6.size
        have hU := hU.turnB hrow hLo t6 (by omega)
        have hrow := row_turn7 hrow t6 (fun k hk e => by have := (row_rng7 hrow k hk).1; omega)
        have tW := tW.both t6
        have hns := hns.turn t6 (fun x _ hx e => by have := (hpl x hx).1; omega)
        have bV := bV.turn t6 (fun e => hVB e)
        clear t6 hs4
        cases bb
        · have hx : Rv.here w6 (Rv.mk (Rt.mk p1 a1 l1 o1 xs nx1 md1 lc1) x1 c1) := ⟨hns, hnl, hxl⟩
          go_upto_region 8 with fail
          have cV := bV.cells
          go_wp2_with fail
          refine (l7Put_any p1 a1 l1 o1 nx1 md1 lc1 x1 xs.length c1 xs A U.length d U _ hU rfl (by omega) hx rfl).mono ?_
          rintro e wp ⟨A2, d2, U2, rfl, hm2, hr2, hn2, hw2, hsb2⟩
          have hlen2 : U2.length ≤ U.length + 1 := by
            have e1 := congrArg List.length hm2
            have e2 := tw_le (fun s => s.lt (Rt.mk p1 a1 l1 o1 xs nx1 md1 lc1)) ((U.map Rv.r).filter (keepE p1 a1 l1))
            have e3 := List.length_filter_le (keepE p1 a1 l1) (U.map Rv.r)
            unfold insR at e1
            simp at e1 e3
            omega
          have hLo2 : LoP U2 w.heap.size := by
            intro v hv y hy
            rcases hsb2 v hv with h5 | h5
            · exact hLo v h5 y hy
            · rw [h5] at hy
              have := (hpl y hy).1
              omega
          have hAp2 : Apart A2 U2 := by
            intro x hx0 v hv y hne hy
            subst hx0
            have g1 := (row_rng7 hw2 x.block (by rfl)).1
            rcases hsb2 v hv with h5 | h5
            · have := hU.lts.2 v h5 y hne hy
              omega
            · rw [h5] at hy
              have := (hpl y hy).2
              omega
          have tW2 := Turn.andNew tW hn2
          have hsN := hs6.new hn2
          have hrow2 := row_low7 hw2 (show w.heap.size ≤ w6.heap.size from tW.size)
          clear hm2 hsb2 hn2 hw2
          go_wp2
          go_roundw
          case rel => exact ⟨kk, A2, d2, U2, t4 + 1, by omega, by go_num, rfl, by omega, hr2, hrow2, hLo2, hAp2, by omega, hsN, tW2⟩
          case measure => simp [intOf]

        · go_wp2_with fail
          refine (next_sc hs6 U.length (by omega) (by omega)).mono ?_
          rintro e w7 ⟨r, rfl, ⟨hr0, hr1, -⟩, hs7, t7⟩
          have hr1 := hr1 (by omega)
          obtain ⟨rr, rfl⟩ : ∃ rr : Nat, r = rr := ⟨r.toNat, by omega⟩
          have l7 := t7.size
          have hU := hU.turnB hrow hLo t7 (by omega)
          have hrow := row_turn7 hrow t7 (fun k hk e => by have := (row_rng7 hrow k hk).1; omega)
          have tW := tW.both t7
          have hns := hns.turn t7 (fun x _ hx e => by have := (hpl x hx).1; omega)
          have bV := bV.turn t7 (fun e => hVB e)
          clear t7 hs6
          obtain ⟨b, off, p', a', l', o', nx', md', lc', x', m', d', ys, hA2, hv, hlen, hns', hnl', hmx, q0, q1, q2, q3, q4, q5, q6, q7⟩ := hU.at rr (by omega)
          subst hA2
          clear hv hlen hns' hnl' hmx q0 q3 q4 q5 q6 q7
          have X1 := cell_regrown q1
          have X2 := cell_regrown q2
          have cV := bV.cells
          have fV := bV.frees
          go_upto_region 8 with fail
          have T8 := set2d w7 w4.heap.size 1 (.int .i64 a') (.int .i64 l')
          have bV8 : Blk ((w7.setCell ⟨w4.heap.size, 1, none⟩ (.int .i64 a')).setCell ⟨w4.heap.size, 2, none⟩ (.int .i64 l')) w4.heap.size 31 #[.int .i64 p1, .int .i64 a', .int .i64 l', .int .i64 o1, .slice x1 xs.length c1, .int .i64 nx1, .int .i64 md1, .int .i64 lc1] := (bV.set 1 (.int .i64 a')).set 2 (.int .i64 l')
          clear X1 X2 q1 q2 cV fV bV
          simp only [Nat.reduceAdd] at T8
          generalize ((w7.setCell ⟨w4.heap.size, 1, none⟩ (.int .i64 a')).setCell ⟨w4.heap.size, 2, none⟩ (.int .i64 l')) = w8 at *
          have hU := hU.turn T8 (fun x h1 h2 e => by have := hlts.1 x h1 h2; omega) (fun v hv x h1 h2 e => by have := hlts.2 v hv x h1 h2; omega)
          have hrow := row_turn7 hrow T8 (fun k hk e => by have := hrk k hk; omega)
          have tW : Turn (fun k => k = B) w w8 := Turn.trans tW T8 (fun i hi e => by omega)
          have hns := hns.turn T8 (fun x _ hx e => by have := (hpl x hx).2; omega)
          have hs8 := hs7.turn T8 (fun e => hVB e.symm) (fun x h1 h2 e => by have := hla x h1 h2; omega)
          have hx : Rv.here w8 (Rv.mk (Rt.mk p1 a' l' o1 xs nx1 md1 lc1) x1 c1) := ⟨hns, hnl, hxl⟩
          have l8 := T8.size
          clear T8 hs7
          have cV := bV8.cells
          go_wp2_with fail
          refine (l7Put_any p1 a' l' o1 nx1 md1 lc1 x1 xs.length c1 xs _ U.length d U _ hU rfl (by omega) hx rfl).mono ?_
          rintro e wp ⟨A2, d2, U2, rfl, hm2, hr2, hn2, hw2, hsb2⟩
          have hlen2 : U2.length ≤ U.length + 1 := by
            have e1 := congrArg List.length hm2
            have e2 := tw_le (fun s => s.lt (Rt.mk p1 a' l' o1 xs nx1 md1 lc1)) ((U.map Rv.r).filter (keepE p1 a' l'))
            have e3 := List.length_filter_le (keepE p1 a' l') (U.map Rv.r)
            unfold insR at e1
            simp at e1 e3
            omega
          have hLo2 : LoP U2 w.heap.size := by
            intro v hv y hy
            rcases hsb2 v hv with h5 | h5
            · exact hLo v h5 y hy
            · rw [h5] at hy
              have := (hpl y hy).1
              omega
          have hAp2 : Apart A2 U2 := by
            intro x hx0 v hv y hne hy
            subst hx0
            have g1 := (row_rng7 hw2 x.block (by rfl)).1
            rcases hsb2 v hv with h5 | h5
            · have := hU.lts.2 v h5 y hne hy
              omega
            · rw [h5] at hy
              have := (hpl y hy).2
              omega
          have tW2 := Turn.andNew tW hn2
          have hsN := hs8.new hn2
          have hrow2 := row_low7 hw2 (show w.heap.size ≤ w8.heap.size from tW.size)
          clear hm2 hsb2 hn2 hw2
          go_wp2
          go_roundw
          case rel => exact ⟨kk, A2, d2, U2, t4 + 1 + 1, by omega, by go_num, rfl, by omega, hr2, hrow2, hLo2, hAp2, by omega, hsN, tW2⟩
          case measure => simp [intOf]

end Go.Proofs.Ytnjleachioapdaa

namespace Go.Proofs.Ytnjleachioapdaa
open Go.RowKit Go.Sort
set_option linter.unusedVariables false
set_option linter.unusedSimpArgs false

theorem cso {w : World} {p a : Addr} {v : Value} (h : p ≠ a) : (w.setCell p v).cell? a = w.cell? a := by apply World.cell?_setCell_other; exact h
theorem css {w : World} {a : Addr} {u v : Value} (h : w.cell? a = some u) : (w.setCell a v).cell? a = some v := by apply World.cell?_setCell_same; exact h
theorem Turn.grew {w w' : World} {row : Option Nat} (hg : w.grownBy w' row) : Turn (fun k => row = some k) w w' := ⟨hg.os, hg.tape, hg.output, hg.size, fun k hk hs => hg.block k hk (fun e => hs e.symm)⟩

/-- The route of zeros. -/
def zRv : Rv := Rv.mk (Rt.mk 0 0 0 0 [] 0 0 0) none 0
theorem zRv_cells : cellsT (List.replicate 61 zRv) = (madeCells (Value.agg #[.int .i64 0, .int .i64 0, .int .i64 0, .int .i64 0, .slice none 0 0, .int .i64 0, .int .i64 0, .int .i64 0]).cells (61 * 8)).toList := by kernel_rfl

theorem setA5 (w : World) (B j : Nat) (v0 v1 v2 v3 v4 : Value) : Turn (fun k => k = B) w (((((w.setCell ⟨B, j, none⟩ v0).setCell ⟨B, j + 1, none⟩ v1).setCell ⟨B, j + 2, none⟩ v2).setCell ⟨B, j + 3, none⟩ v3).setCell ⟨B, j + 4, none⟩ v4) :=
  (((((Turn.refl (fun k => k = B) w).set (p := ⟨B, j, none⟩) rfl v0).set (p := ⟨B, j + 1, none⟩) rfl v1).set (p := ⟨B, j + 2, none⟩) rfl v2).set (p := ⟨B, j + 3, none⟩) rfl v3).set (p := ⟨B, j + 4, none⟩) rfl v4

theorem RtAt.head {w w' : World} {b off : Nat} {u u' : Rv} {us : List Rv} (h : RtAt w (some ⟨b, off, none⟩) (u :: us)) (hA : Apart (some ⟨b, off, none⟩) (u :: us)) (t : Turn (fun k => k = b) w w') (h0 : ∀ j, j < 8 → w'.cell? ⟨b, off + j, none⟩ = u'.cs[j]?) (h1 : ∀ j, 8 ≤ j → w'.cell? ⟨b, off + j, none⟩ = w.cell? ⟨b, off + j, none⟩) (hu : u'.here w') : RtAt w' (some ⟨b, off, none⟩) (u' :: us) := by
  intro i v hv
  cases i with
  | zero =>
    simp at hv
    subst hv
    exact ⟨⟨b, off, rfl, fun j hj => by simpa using h0 j hj⟩, hu⟩
  | succ i =>
    have hv' : (u :: us)[i + 1]? = some v := by simpa using hv
    obtain ⟨⟨b', off', e, hc⟩, hh⟩ := h (i + 1) v hv'
    simp at e
    obtain ⟨rfl, rfl⟩ := e
    refine ⟨⟨b, off, rfl, fun j hj => ?_⟩, hh.turn t (fun x hne hx => hA _ rfl v (List.mem_of_getElem? hv') x hne hx)⟩
    rw [← hc j hj, show off + (i + 1) * 8 + j = off + ((i + 1) * 8 + j) by omega]
    exact h1 _ (by omega)

/-- A peer is stored into the first route. -/
theorem RtAt.peer {w : World} {b off : Nat} {u : Rv} {us : List Rv} (h : RtAt w (some ⟨b, off, none⟩) (u :: us)) (hA : Apart (some ⟨b, off, none⟩) (u :: us)) (q : Int) :
    RtAt (w.setCell ⟨b, off, none⟩ (.int .i64 q)) (some ⟨b, off, none⟩) (Rv.mk (Rt.mk q u.r.a u.r.l u.r.o u.r.xs u.r.nx u.r.md u.r.lc) u.x u.c :: us) := by
  have t : Turn (fun k => k = b) w (w.setCell ⟨b, off, none⟩ (.int .i64 q)) := (Turn.refl (fun k => k = b) w).set (p := ⟨b, off, none⟩) rfl _
  obtain ⟨⟨b', off', e, hc⟩, hh⟩ := h 0 u rfl
  simp at e
  obtain ⟨rfl, rfl⟩ := e
  refine h.head hA t ?_ ?_ (hh.turn t (fun x hne hx => hA _ rfl u List.mem_cons_self x hne hx))
  · intro j hj
    have hj' := hc j hj
    simp only [Nat.zero_mul, Nat.add_zero] at hj'
    by_cases h0 : j = 0
    · subst h0
      exact css (u := .int .i64 u.r.p) hj'
    · rw [cso (show (⟨b, off, none⟩ : Addr) ≠ ⟨b, off + j, none⟩ by simp <;> omega), hj']
      match j, hj, h0 with
      | 1, _, _ => rfl
      | 2, _, _ => rfl
      | 3, _, _ => rfl
      | 4, _, _ => rfl
      | 5, _, _ => rfl
      | 6, _, _ => rfl
      | 7, _, _ => rfl
  · intro j hj
    exact cso (show (⟨b, off, none⟩ : Addr) ≠ ⟨b, off + j, none⟩ by simp <;> omega)

/-- Attributes are stored into the first route. -/
theorem RtAt.attrs {w : World} {b off : Nat} {u : Rv} {us : List Rv} (h : RtAt w (some ⟨b, off, none⟩) (u :: us)) (hA : Apart (some ⟨b, off, none⟩) (u :: us)) (o nx md lc : Int) (xs : List Int) (x : Option Addr) (c : Nat) (hx : Rv.here w (Rv.mk (Rt.mk u.r.p u.r.a u.r.l o xs nx md lc) x c)) (hxb : ∀ y, x = some y → ¬ y.block = b) :
    RtAt (((((w.setCell ⟨b, off + 3, none⟩ (.int .i64 o)).setCell ⟨b, off + 3 + 1, none⟩ (.slice x xs.length c)).setCell ⟨b, off + 3 + 2, none⟩ (.int .i64 nx)).setCell ⟨b, off + 3 + 3, none⟩ (.int .i64 md)).setCell ⟨b, off + 3 + 4, none⟩ (.int .i64 lc)) (some ⟨b, off, none⟩) (Rv.mk (Rt.mk u.r.p u.r.a u.r.l o xs nx md lc) x c :: us) := by
  have t := setA5 w b (off + 3) (.int .i64 o) (.slice x xs.length c) (.int .i64 nx) (.int .i64 md) (.int .i64 lc)
  obtain ⟨⟨b', off', e, hc⟩, hh⟩ := h 0 u rfl
  simp at e
  obtain ⟨rfl, rfl⟩ := e
  simp only [Nat.zero_mul, Nat.add_zero] at hc
  have q0 : w.cell? ⟨b, off, none⟩ = some (.int .i64 u.r.p) := hc 0 (by omega)
  have q1 : w.cell? ⟨b, off + 1, none⟩ = some (.int .i64 u.r.a) := hc 1 (by omega)
  have q2 : w.cell? ⟨b, off + 2, none⟩ = some (.int .i64 u.r.l) := hc 2 (by omega)
  have q3 : w.cell? ⟨b, off + 3, none⟩ = some (.int .i64 u.r.o) := hc 3 (by omega)
  have q4 : w.cell? ⟨b, off + 4, none⟩ = some (.slice u.x u.r.xs.length u.c) := hc 4 (by omega)
  have q5 : w.cell? ⟨b, off + 5, none⟩ = some (.int .i64 u.r.nx) := hc 5 (by omega)
  have q6 : w.cell? ⟨b, off + 6, none⟩ = some (.int .i64 u.r.md) := hc 6 (by omega)
  have q7 : w.cell? ⟨b, off + 7, none⟩ = some (.int .i64 u.r.lc) := hc 7 (by omega)
  refine h.head hA t ?_ ?_ (hx.turn t (fun y _ hy => hxb y hy))
  · intro j hj
    match j, hj with
    | 0, _ => simp [go_sem, q0, q1, q2, q3, q4, q5, q6, q7, Rv.cs]
    | 1, _ => simp [go_sem, q0, q1, q2, q3, q4, q5, q6, q7, Rv.cs]
    | 2, _ => simp [go_sem, q0, q1, q2, q3, q4, q5, q6, q7, Rv.cs]
    | 3, _ => simp [go_sem, q0, q1, q2, q3, q4, q5, q6, q7, Rv.cs]
    | 4, _ => simp [go_sem, q0, q1, q2, q3, q4, q5, q6, q7, Rv.cs]
    | 5, _ => simp [go_sem, q0, q1, q2, q3, q4, q5, q6, q7, Rv.cs]
    | 6, _ => simp [go_sem, q0, q1, q2, q3, q4, q5, q6, q7, Rv.cs]
    | 7, _ => simp [go_sem, q0, q1, q2, q3, q4, q5, q6, q7, Rv.cs]
  · intro j hj
    rw [cso (show (⟨b, off + 3 + 4, none⟩ : Addr) ≠ ⟨b, off + j, none⟩ by simp <;> omega), cso (show (⟨b, off + 3 + 3, none⟩ : Addr) ≠ ⟨b, off + j, none⟩ by simp <;> omega), cso (show (⟨b, off + 3 + 2, none⟩ : Addr) ≠ ⟨b, off + j, none⟩ by simp <;> omega), cso (show (⟨b, off + 3 + 1, none⟩ : Addr) ≠ ⟨b, off + j, none⟩ by simp <;> omega), cso (show (⟨b, off + 3, none⟩ : Addr) ≠ ⟨b, off + j, none⟩ by simp <;> omega)]

theorem row_free7 {w : World} {lo n d b off : Nat} {cs : List Value} (h : w.ownsRow lo 31 8 (.slice (some ⟨b, off, none⟩) n d) n cs) : ∀ j, w.frozen? ⟨b, j, none⟩ = false := by
  rcases h.2 with ⟨h1, h2⟩ | ⟨g, c, cur, h1, h2, hh, r⟩
  · simp at h1
  · simp only [Value.slice.injEq, Option.some.injEq, Addr.mk.injEq] at h1
    obtain ⟨⟨rfl, -, -⟩, -⟩ := h1
    exact Blk.frees hh

/-- The row and the paths lie from lo on. -/
def FarT (A : Option Addr) (U : List Rv) (lo : Nat) : Prop := (∀ x, U ≠ [] → A = some x → lo ≤ x.block) ∧ LoP U lo
theorem FarT.nil (A : Option Addr) (lo : Nat) : FarT A [] lo := ⟨by intro x h; exact absurd rfl h, by intro v hv; simp at hv⟩
theorem RtAt.turnF {w w' : World} {A : Option Addr} {U : List Rv} {lo B : Nat} (h : RtAt w A U) (hf : FarT A U lo) (t : Turn (fun k => k = B) w w') (hB : B < lo) : RtAt w' A U :=
  h.turn t (fun x h1 h2 e => by have := hf.1 x h1 h2; omega) (fun v hv x _ hx e => by have := hf.2 v hv x hx; omega)

set_option maxRecDepth 100000 in
set_option maxHeartbeats 6400000 in
theorem l7Bent_sc {B n c t : Nat} {a : Option Addr} {zs : List Int} {w : World} (h : Sc w B a n c zs t) (ht : t ≤ 1000) :
    Calls Try.prog 12 #[.pointer (some ⟨B, 0, none⟩)] w fun e w' => ∃ (A : Option Addr) (d : Nat) (U : List Rv) (t' : Nat), e = .returned (.slice A U.length d) ∧ U.length ≤ 61 ∧ RtAt w' A U ∧ FarT A U w.heap.size ∧ t' ≤ t + 700 ∧ Sc w' B a n c zs t' ∧ Turn (fun k => k = B) w w' := by
  obtain ⟨i0, hi, hz0, hz1, hz2⟩ := info_parts Try.infoRt
  have hlt := h.blk.lt
  have hla := h.lt_of
  go_enter Try.func12, Try.ntmps12
  go_wp2_with fail
  refine (l7Right_sc h ht).mono ?_
  rintro e w1 ⟨A, d, U, t1, rfl, hUl, hU, hrow, hLo, hAp, ht1, hs1, T1⟩
  go_wp2_with fail
  refine (next_sc hs1 14 (by omega) (by omega)).mono ?_
  rintro e w2 ⟨r, rfl, ⟨hr0, hr1, -⟩, hs2, t2⟩
  have hr1 := hr1 (by omega)
  have hU := hU.turnB hrow hLo t2 (by omega)
  have hrow := row_turn7 hrow t2 (fun k hk e => by have := (row_rng7 hrow k hk).1; omega)
  have tW := T1.both t2
  have s1 := T1.size
  have s2 := t2.size
  clear hs1 t2 T1 h
  have hs2 := hs2
  by_cases r0 : r = 0
  · subst r0
    go_wp2_with fail
    refine (l7DrawRoute_sc hs2 (by omega)).mono ?_
    rintro e w4 ⟨p1, a1, l1, o1, nx1, md1, lc1, xs, x1, c1, t4, rfl, hpe, hpf, haf, hx3, ht4, hM4, hs4, tr4⟩
    have hrk := fun k hk => (row_rng7 hrow k hk).2
    have hU := hU.turnB hrow hLo tr4 (by omega)
    have hrow := row_turn7 hrow tr4 (fun k hk e => by have := (row_rng7 hrow k hk).1; omega)
    have tW := tW.both tr4
    obtain ⟨xq, cq, eq, hns, hpl⟩ := hM4.ns (fun z hz => by have := (af_ok haf).2.2 z hz; unfold In6; omega)
    simp only [Value.slice.injEq, true_and] at eq
    obtain ⟨rfl, rfl⟩ := eq
    have hnl : x1 = none → xs.length = 0 ∧ c1 = 0 := by
      intro e0
      rcases hM4 with ⟨e1, e2⟩ | ⟨g, cc, e1, _, _⟩
      · simp only [Value.slice.injEq] at e1
        exact e1.2
      · subst e0
        simp at e1
    have hx : Rv.here w4 (Rv.mk (Rt.mk p1 a1 l1 o1 xs nx1 md1 lc1) x1 c1) := ⟨hns, hnl, by show xs.length ≤ _; omega⟩
    have hal : New w4 (w4.alloc (.cells #[.int .i64 p1, .int .i64 a1, .int .i64 l1, .int .i64 o1, .slice x1 xs.length c1, .int .i64 nx1, .int .i64 md1, .int .i64 lc1] 31)) := (New.refl w4).alloc _
    have bL := Blk.mk w4 w4.heap.size 31 #[.int .i64 p1, .int .i64 a1, .int .i64 l1, .int .i64 o1, .slice x1 xs.length c1, .int .i64 nx1, .int .i64 md1, .int .i64 lc1] rfl
    have hrow3 : (w4.alloc (.cells #[.int .i64 p1, .int .i64 a1, .int .i64 l1, .int .i64 o1, .slice x1 xs.length c1, .int .i64 nx1, .int .i64 md1, .int .i64 lc1] 31)).ownsRow w.heap.size 31 8 _ U.length (cellsT U) := row_turn7 hrow hal (fun _ _ f => f)
    have hsrc : ∀ j, (w4.alloc (.cells #[.int .i64 p1, .int .i64 a1, .int .i64 l1, .int .i64 o1, .slice x1 xs.length c1, .int .i64 nx1, .int .i64 md1, .int .i64 lc1] 31)).cell? ⟨w4.heap.size, j, none⟩ = (Rv.mk (Rt.mk p1 a1 l1 o1 xs nx1 md1 lc1) x1 c1).cs[j]? := by
      intro j
      rw [bL.cells j]
      simp [Rv.cs]
    have s4 := tr4.size
    have hsz : w.heap.size ≤ (w4.alloc (.cells #[.int .i64 p1, .int .i64 a1, .int .i64 l1, .int .i64 o1, .slice x1 xs.length c1, .int .i64 nx1, .int .i64 md1, .int .i64 lc1] 31)).heap.size := by simp; omega
    clear bL tr4 hM4 hs2
    go_wp2_with (at_builtin; refine wpList_apT _ rfl (.tmp 10) (.tmp 13) rfl w.heap.size _ Try.underlying24 hi hz0 hz1 hz2 rfl _ U rfl hrow3 w4.heap.size (Rv.mk (Rt.mk p1 a1 l1 o1 xs nx1 md1 lc1) x1 c1) rfl hsrc (by omega) hsz ?_)
    intro v5 w5 hr5 hg5 _
    have T5 := Turn.grew hg5
    have hr5' : w5.ownsRow w.heap.size 31 8 v5 (U ++ [Rv.mk (Rt.mk p1 a1 l1 o1 xs nx1 md1 lc1) x1 c1]).length (cellsT (U ++ [Rv.mk (Rt.mk p1 a1 l1 o1 xs nx1 md1 lc1) x1 c1])) := by rw [List.length_append]; exact hr5
    obtain ⟨A5, d5, rfl, hU5, -, -⟩ := row_rt7 hr5' (fun v hv => by
      rcases List.mem_append.1 hv with h5 | h5
      · refine ((hU.here v h5).new hal).turn T5 (fun x hne hx e => ?_)
        cases A with
        | none => simp [Value.ownBlock] at e
        | some y => exact hAp y rfl v h5 x hne hx (by simpa [Value.ownBlock] using e.symm)
      · obtain rfl := List.mem_singleton.1 h5
        refine (hx.new hal).turn T5 (fun x hne hx e => ?_)
        have g1 := (hpl x hx).1
        have g2 := hrk x.block e
        omega)
    have tW5 : Turn (fun k => k = B) w w5 := Turn.trans (Turn.andNew tW hal) T5 (fun i hi e => by have := (row_rng7 hrow i e).1; omega)
    have hs5 := (hs4.new hal).turn T5 (fun e => by have := (row_rng7 hrow B e).1; omega) (fun x h1 h2 e => by have g1 := hla x h1 h2; have g2 := (row_rng7 hrow x.block e).1; omega)
    have hF5 : FarT A5 (U ++ [Rv.mk (Rt.mk p1 a1 l1 o1 xs nx1 md1 lc1) x1 c1]) w.heap.size := ⟨fun x _ hx => (row_rng7 hr5' x.block (by rw [hx]; rfl)).1, fun v hv y hy => by
      rcases List.mem_append.1 hv with h5 | h5
      · exact hLo v h5 y hy
      · obtain rfl := List.mem_singleton.1 h5
        have := (hpl y hy).1
        omega⟩
    clear hr5 hr5' hg5 hrow3 hsrc T5
    go_wp2
    go_ret
    exact ⟨A5, d5, _, t4, rfl, by simp; omega, hU5, hF5, by omega, hs5, tW5⟩
  · by_cases r1 : r = 1
    · subst r1
      rcases Nat.eq_zero_or_pos U.length with hU0 | hU0
      · obtain rfl : U = [] := List.eq_nil_of_length_eq_zero hU0
        go_wp2
        go_ret
        exact ⟨A, d, [], _, rfl, by simp, hU, FarT.nil _ _, by omega, hs2, tW⟩
      · have hg : (decide ((0:Int) < U.length)) = true := by simp; omega
        have hal := (New.refl w2).alloc (.cells #[.int .i64 (-1), .int .i64 3] 2)
        go_wp2_with fail
        refine (pick_sc (hs2.new hal) [-1, 3] (Blk.mk w2 w2.heap.size 2 #[.int .i64 (-1), .int .i64 3] rfl) 2 rfl (by omega) (by omega) (by omega)).mono ?_
        rintro e w5 ⟨q, rfl, hq, hs5, t5⟩
        have hU := (hU.new hal).turnB (row_turn7 hrow hal (fun _ _ f => f)) hLo t5 (by omega)
        have hrow := row_turn7 (row_turn7 hrow hal (fun _ _ f => f)) t5 (fun k hk e => by have := (row_rng7 hrow k hk).1; omega)
        have tW := (Turn.andNew tW hal).both t5
        clear t5 hal hs2
        obtain ⟨b, off, p', a', l', o', nx', md', lc', x', m', d', ys, rfl, hv, hlen, hns', hnl', hmx, q0, -⟩ := hU.at 0 hU0
        have fV := row_free7 hrow
        have hb := (row_rng7 hrow b rfl).1
        obtain ⟨u, us, rfl⟩ : ∃ u us, U = u :: us := by cases U with | nil => simp at hU0 | cons u us => exact ⟨u, us, rfl⟩
        clear hv hlen hns' hnl' hmx
        simp only [Nat.zero_mul, Nat.add_zero] at q0
        go_wp2
        go_ret
        have T6 : Turn (fun k => k = b) w5 (w5.setCell ⟨b, off, none⟩ (.int .i64 q)) := (Turn.refl (fun k => k = b) w5).set (p := ⟨b, off, none⟩) rfl _
        exact ⟨_, d, _, _, rfl, by simp at hUl ⊢; omega, hU.peer hAp q, ⟨fun x _ hx => by obtain rfl := Option.some.inj hx; exact hb, fun v hv y hy => by rcases List.mem_cons.1 hv with rfl | hv; exact hLo u List.mem_cons_self y hy; exact hLo v (List.mem_cons_of_mem _ hv) y hy⟩, by omega, hs5.turn T6 (fun e => by omega) (fun x h1 h2 e => by have := hla x h1 h2; omega), Turn.trans tW T6 (fun i hi e => by omega)⟩
    · by_cases r2 : r = 2
      · subst r2
        rcases Nat.eq_zero_or_pos U.length with hU0 | hU0
        · obtain rfl : U = [] := List.eq_nil_of_length_eq_zero hU0
          go_wp2
          go_ret
          exact ⟨A, d, [], _, rfl, by simp, hU, FarT.nil _ _, by omega, hs2, tW⟩
        · have hg : (decide ((0:Int) < U.length)) = true := by simp; omega
          go_wp2_with fail
          refine (l3BentAttrs_sc hs2 (by omega)).mono ?_
          rintro e w5 ⟨o5, nx5, md5, lc5, xs, xa, xc, m, t5, rfl, rfl, hm7, hbl, hbh, hall, ht5, hM5, hs5, tr5⟩
          have hrk := fun k hk => (row_rng7 hrow k hk).2
          have hU := hU.turnB hrow hLo tr5 (by omega)
          have hrow := row_turn7 hrow tr5 (fun k hk e => by have := (row_rng7 hrow k hk).1; omega)
          have tW := tW.both tr5
          obtain ⟨xq, cq, eq, hns, hpl⟩ := hM5.ns (fun z hz => by have := hall z hz; unfold In6; omega)
          simp only [Value.slice.injEq, true_and] at eq
          obtain ⟨rfl, rfl⟩ := eq
          have hnl : xa = none → xs.length = 0 ∧ xc = 0 := by
            intro e0
            rcases hM5 with ⟨e1, e2⟩ | ⟨g, cc, e1, _, _⟩
            · simp only [Value.slice.injEq] at e1
              exact e1.2
            · subst e0
              simp at e1
          clear tr5 hs2 hM5
          obtain ⟨b, off, p', a', l', o', nx', md', lc', x', m', d', ys, rfl, hv, hlen, hns', hnl', hmx, q0, q1, q2, q3, q4, q5, q6, q7⟩ := hU.at 0 hU0
          have fV := row_free7 hrow
          have hb := (row_rng7 hrow b rfl).1
          have hb2 := hrk b rfl
          obtain ⟨u, us, rfl⟩ : ∃ u us, U = u :: us := by cases U with | nil => simp at hU0 | cons u us => exact ⟨u, us, rfl⟩
          clear hv hlen hns' hnl' hmx
          simp only [Nat.zero_mul, Nat.add_zero] at q0 q1 q2 q3 q4 q5 q6 q7
          go_wp2
          go_ret
          have T6 := setA5 w5 b (off + 3) (.int .i64 o5) (.slice xa xs.length xc) (.int .i64 nx5) (.int .i64 md5) (.int .i64 lc5)
          exact ⟨_, d, _, _, rfl, by simp at hUl ⊢; omega, hU.attrs hAp o5 nx5 md5 lc5 xs xa xc ⟨hns, hnl, by show xs.length ≤ _; omega⟩ (fun y hy e => by have := (hpl y hy).1; omega), ⟨fun x _ hx => by obtain rfl := Option.some.inj hx; exact hb, fun v hv y hy => by rcases List.mem_cons.1 hv with rfl | hv; (have := (hpl y hy).1; omega); exact hLo v (List.mem_cons_of_mem _ hv) y hy⟩, by omega, hs5.turn T6 (fun e => by omega) (fun x h1 h2 e => by have := hla x h1 h2; omega), Turn.trans tW T6 (fun i hi e => by omega)⟩
      · by_cases r3 : r = 3
        · subst r3
          obtain ⟨w9, hmk, hr9, hg9⟩ := run_makeSlice_full (P := Try.prog) (w := w2) w.heap.size 24 31 i0 _ 8 Try.underlying24 hi hz0 hz1 .i64 .i64 61 (by omega) (by rw [hz2]; omega) (by unfold maxLen; omega) (by omega)
          replace hmk : (Instr.makeSlice 24 (.int .i64 61) (.int .i64 61)).run Try.prog w2 = .ok (.slice (some ⟨w2.heap.size, 0, none⟩) 61 61) w9 := hmk
          have hr9' : w9.ownsRow w.heap.size 31 8 (.slice (some ⟨w2.heap.size, 0, none⟩) 61 61) (List.replicate 61 zRv).length (cellsT (List.replicate 61 zRv)) := by rw [zRv_cells]; exact hr9
          obtain ⟨A9, d9, e9, hU9, -, -⟩ := row_rt7 hr9' (fun v hv => by obtain rfl := List.eq_of_mem_replicate hv; exact ⟨NsAt.nil _ _, fun _ => ⟨rfl, rfl⟩, by show 0 ≤ _; omega⟩)
          have N9 : New w2 w9 := (New.refl w2).grow hg9 (fun k e => by cases e)
          clear hr9 hr9' hg9
          have lo9 : LoP (List.replicate 61 zRv) w.heap.size := by intro v hv y hy; obtain rfl := List.eq_of_mem_replicate hv; cases hy
          generalize List.replicate 61 zRv = W9 at *
          simp only [Value.slice.injEq] at e9
          obtain ⟨rfl, h61, rfl⟩ := e9
          have H61 : Hid (61 = W9.length) := h61
          clear h61
          go_wp2
          go_ret
          exact ⟨_, 61, W9, _, by rw [← H61.out]; rfl, by have := H61.out; omega, hU9, ⟨fun x _ hx => by obtain rfl := Option.some.inj hx; show w.heap.size ≤ w2.heap.size; omega, lo9⟩, by omega, hs2.new N9, Turn.andNew tW N9⟩
        · go_wp2
          go_ret
          exact ⟨A, d, U, _, rfl, by omega, hU, ⟨fun x _ hx => (row_rng7 hrow x.block (by rw [hx]; rfl)).1, hLo⟩, by omega, hs2, tW⟩

end Go.Proofs.Ytnjleachioapdaa

namespace Go.Proofs.Ytnjleachioapdaa
open Go.RowKit Go.Sort
set_option linter.unusedVariables false

theorem TurnB.set_iff {B j : Nat} {a w : World} {u : Value} : Turn (fun k => k = B) a (w.setCell ⟨B, j, none⟩ u) ↔ Turn (fun k => k = B) a w :=
  ⟨fun h => ⟨h.os, h.tape, h.output, by simpa [World.setCell] using h.size, fun k hk hs => (Below.heap_setCell w ⟨B, j, none⟩ u k hs).symm.trans (h.block k hk hs)⟩, fun h => h.set (p := ⟨B, j, none⟩) rfl u⟩
theorem TurnB.drew_iff {S : Nat → Prop} {a w : World} : Turn S a w.drew ↔ Turn S a w := ⟨fun h => ⟨h.os, h.tape, h.output, h.size, h.block⟩, fun h => ⟨h.os, h.tape, h.output, h.size, h.block⟩⟩

set_option maxRecDepth 100000 in
set_option maxHeartbeats 6400000 in
theorem drawPut (a : Option Addr) (n c : Nat) (zs : List Int) (w : World) (h : BsAt w a zs) (hn : zs.length = n) (hm : n ≤ 2097152) (ha : ∀ x, zs ≠ [] → a = some x → x.block < w.heap.size) :
    Calls Try.prog 5 #[.slice a n c] w fun e w' => ∃ (A : Option Addr) (d : Nat) (U : List Rv) (p1 a1 l1 o1 nx1 md1 lc1 : Int) (xs : List Int) (x1 : Option Addr) (c1 : Nat), e = .returned (.tuple #[.slice A U.length d, .agg #[.int .i64 p1, .int .i64 a1, .int .i64 l1, .int .i64 o1, .slice x1 xs.length c1, .int .i64 nx1, .int .i64 md1, .int .i64 lc1]]) ∧ U.length ≤ 61 ∧ xs.length ≤ 3 ∧ RtAt w' A U ∧ Rv.here w' (Rv.mk (Rt.mk p1 a1 l1 o1 xs nx1 md1 lc1) x1 c1) ∧ New w w' := by
  have N0 : New w (w.alloc (.cells #[.int .i64 0, .int .i64 0, .int .i64 0, .int .i64 0, .slice none 0 0, .int .i64 0, .int .i64 0, .int .i64 0] 31)) := (New.refl w).alloc _
  have b0 := Blk.mk w w.heap.size 31 #[.int .i64 0, .int .i64 0, .int .i64 0, .int .i64 0, .slice none 0 0, .int .i64 0, .int .i64 0, .int .i64 0] rfl
  have z0 : w.heap.size < (w.alloc (.cells #[.int .i64 0, .int .i64 0, .int .i64 0, .int .i64 0, .slice none 0 0, .int .i64 0, .int .i64 0, .int .i64 0] 31)).heap.size := by simp
  go_enter Try.func5, Try.ntmps5
  go_upto_region 1 with fail
  generalize (w.alloc (.cells #[.int .i64 0, .int .i64 0, .int .i64 0, .int .i64 0, .slice none 0 0, .int .i64 0, .int .i64 0, .int .i64 0] 31)) = w0 at *
  go_wp2_with fail
  refine (source_any a n c zs _ (h.new N0) hn hm (fun x h1 h2 => by have := ha x h1 h2; omega)).mono ?_
  rintro e w1 ⟨B, rfl, hB, hs1, h1⟩
  have b0 := b0.new h1
  have N1 := N0.trans h1
  have hB0 : ¬ w.heap.size = B := by omega
  have hNB : ∀ i, i < w.heap.size → ¬ i = B := fun i hi e => by omega
  have lB1 := hs1.blk.lt
  clear h1 N0
  go_wp2_with fail
  refine (l7Bent_sc hs1 (by omega)).mono ?_
  rintro e w2 ⟨A, d, U, t2, rfl, hUl, hU, hF, ht2, hs2, htr2⟩
  have b0 := b0.turn htr2 hB0
  have N2 := N1.before htr2 hNB
  have s2 := htr2.size
  clear htr2 N1 hs1
  go_wp2_with fail
  refine (l7DrawRoute_sc hs2 (by omega)).mono ?_
  rintro e w3 ⟨p1, a1, l1, o1, nx1, md1, lc1, xs, x1, c1, t3, rfl, hpe, hpf, haf, hxs, ht3, hM3, hs3, htr3⟩
  obtain ⟨xq, cq, eq, hns, hpl0⟩ := hM3.ns (fun z hz => by have := (af_ok haf).2.2 z hz; unfold In6; omega)
  simp only [Value.slice.injEq, true_and] at eq
  obtain ⟨rfl, rfl⟩ := eq
  have hnl : x1 = none → xs.length = 0 ∧ c1 = 0 := by
    intro e0
    rcases hM3 with ⟨e1, e2⟩ | ⟨g, cc, e1, _, _⟩
    · simp only [Value.slice.injEq] at e1
      exact e1.2
    · subst e0
      simp at e1
  have hU := hU.turnF hF htr3 (by omega)
  have b0 := b0.turn htr3 hB0
  have N3 := N2.before htr3 hNB
  have s3 := htr3.size
  have hpl : ∀ y, x1 = some y → w2.heap.size ≤ y.block ∧ y.block < w3.heap.size := fun y hy => hpl0 y hy
  have hlt3 := hU.lts
  clear htr3 N2 hs2 hM3 hpl0
  go_upto_region 4 with fail
  have hal : New w3 (w3.alloc (.cells #[.int .i64 p1, .int .i64 a1, .int .i64 l1, .int .i64 o1, .slice x1 xs.length c1, .int .i64 nx1, .int .i64 md1, .int .i64 lc1] 31)) := (New.refl w3).alloc _
  have bV := Blk.mk w3 w3.heap.size 31 #[.int .i64 p1, .int .i64 a1, .int .i64 l1, .int .i64 o1, .slice x1 xs.length c1, .int .i64 nx1, .int .i64 md1, .int .i64 lc1] rfl
  have hU := hU.new hal
  have b0 := b0.new hal
  have N4 := N3.trans hal
  have hs4 := hs3.new hal
  have hns := hns.new hal
  have hVB : ¬ w3.heap.size = B := by omega
  have hV0 : ¬ w.heap.size = w3.heap.size := by omega
  have l4 : w3.heap.size < (w3.alloc (.cells #[.int .i64 p1, .int .i64 a1, .int .i64 l1, .int .i64 o1, .slice x1 xs.length c1, .int .i64 nx1, .int .i64 md1, .int .i64 lc1] 31)).heap.size := by simp
  clear N3 hal hs3
  generalize (w3.alloc (.cells #[.int .i64 p1, .int .i64 a1, .int .i64 l1, .int .i64 o1, .slice x1 xs.length c1, .int .i64 nx1, .int .i64 md1, .int .i64 lc1] 31)) = w4 at *
  have hxl : xs.length ≤ 1048576 := by omega
  have HX : Hid (x1 = none → xs.length = 0 ∧ c1 = 0) := hnl
  clear hnl h
  have N := N4
  have hs := hs4
  have z1 : w.heap.size < w1.heap.size := by omega
  clear N4 hs4
  rcases Nat.eq_zero_or_pos U.length with hU0 | hU0
  · obtain rfl : U = [] := List.eq_nil_of_length_eq_zero hU0
    go_upto_region 6 with fail
    go_wp2_with fail
    refine (chance_sc hs 10 (by omega) (by omega)).mono ?_
    rintro e w9 ⟨cc, rfl, hs9, t9⟩
    have hU := hU.turnF hF t9 (by omega)
    have hns := hns.turn t9 (fun x _ h2 e => by have := hpl x h2; omega)
    have bV := bV.turn t9 hVB
    have b0 := b0.turn t9 hB0
    have N := N.before t9 hNB
    have s9 := t9.size
    clear t9 hs
    cases cc
    · go_upto_region 8 with fail
      have cV := bV.cells
      have c0 := b0.cells
      have f0 := b0.frees
      have hx : Rv.here w9 (Rv.mk (Rt.mk p1 a1 l1 o1 xs nx1 md1 lc1) x1 c1) := ⟨hns, HX.out, hxl⟩
      go_region
      all_goals
        go_wp2
        refine bodyPost_ret (v := .tuple #[.slice A 0 d, .agg #[.int .i64 p1, .int .i64 a1, .int .i64 l1, .int .i64 o1, .slice x1 xs.length c1, .int .i64 nx1, .int .i64 md1, .int .i64 lc1]]) (by simp [results, Try.results5, go_sem, c0]) rfl ?_
        refine (fun (TE : Turn (fun k => k = w.heap.size) w9 _) => ⟨A, d, [], p1, a1, l1, o1, nx1, md1, lc1, xs, x1, c1, rfl, hUl, hxs, hU.turn TE (fun x h1 h2 e => by have := hF.1 x h1 h2; omega) (fun v hv x _ hx e => by have := hF.2 v hv x hx; omega), hx.turn TE (fun x _ h2 e => by have := hpl x h2; omega), N.before TE (fun i hi e => by omega)⟩) ?_
        simp only [TurnB.set_iff, TurnB.drew_iff, Turn.refl]
    · go_wp2_with fail
      refine (l2Bent_sc hs9 (by omega)).mono ?_
      rintro e w10 ⟨a9, l9, tq, rfl, -, -, htq, hs10, t10⟩
      have hU := hU.turnF hF t10 (by omega)
      have hns := hns.turn t10 (fun x _ h2 e => by have := hpl x h2; omega)
      have bV := bV.turn t10 hVB
      have b0 := b0.turn t10 hB0
      have N := N.before t10 hNB
      have s10 := t10.size
      have cV := bV.cells
      have fV := bV.frees
      clear t10 hs9 hs10
      go_upto_region 8 with fail
      have T8 := set2d w10 w3.heap.size 1 (.int .i64 a9) (.int .i64 l9)
      have bV : Blk ((w10.setCell ⟨w3.heap.size, 1, none⟩ (.int .i64 a9)).setCell ⟨w3.heap.size, 2, none⟩ (.int .i64 l9)) w3.heap.size 31 #[.int .i64 p1, .int .i64 a9, .int .i64 l9, .int .i64 o1, .slice x1 xs.length c1, .int .i64 nx1, .int .i64 md1, .int .i64 lc1] := (bV.set 1 (.int .i64 a9)).set 2 (.int .i64 l9)
      clear cV fV
      simp only [Nat.reduceAdd] at T8
      generalize ((w10.setCell ⟨w3.heap.size, 1, none⟩ (.int .i64 a9)).setCell ⟨w3.heap.size, 2, none⟩ (.int .i64 l9)) = w11 at *
      have hU := hU.turn T8 (fun x h1 h2 e => by have := hlt3.1 x h1 h2; omega) (fun v hv x h1 h2 e => by have := hlt3.2 v hv x h1 h2; omega)
      have b0 := b0.turn T8 hV0
      have N := N.before T8 (fun i hi e => by omega)
      have hns := hns.turn T8 (fun x _ h2 e => by have := hpl x h2; omega)
      have s8w11 := T8.size
      have cV := bV.cells
      have c0 := b0.cells
      have f0 := b0.frees
      have hx : Rv.here w11 (Rv.mk (Rt.mk p1 a9 l9 o1 xs nx1 md1 lc1) x1 c1) := ⟨hns, HX.out, hxl⟩
      go_region
      all_goals
        go_wp2
        refine bodyPost_ret (v := .tuple #[.slice A 0 d, .agg #[.int .i64 p1, .int .i64 a9, .int .i64 l9, .int .i64 o1, .slice x1 xs.length c1, .int .i64 nx1, .int .i64 md1, .int .i64 lc1]]) (by simp [results, Try.results5, go_sem, c0]) rfl ?_
        refine (fun (TE : Turn (fun k => k = w.heap.size) w11 _) => ⟨A, d, [], p1, a9, l9, o1, nx1, md1, lc1, xs, x1, c1, rfl, hUl, hxs, hU.turn TE (fun x h1 h2 e => by have := hF.1 x h1 h2; omega) (fun v hv x _ hx e => by have := hF.2 v hv x hx; omega), hx.turn TE (fun x _ h2 e => by have := hpl x h2; omega), N.before TE (fun i hi e => by omega)⟩) ?_
        simp only [TurnB.set_iff, TurnB.drew_iff, Turn.refl]

  · have hg : (decide ((0:Int) < U.length)) = true := by simp; omega
    go_wp2_with fail
    refine (chance_sc hs 2 (by omega) (by omega)).mono ?_
    rintro e w6 ⟨bb, rfl, hs6, t6⟩
    have hU := hU.turnF hF t6 (by omega)
    have hns := hns.turn t6 (fun x _ h2 e => by have := hpl x h2; omega)
    have bV := bV.turn t6 hVB
    have b0 := b0.turn t6 hB0
    have N := N.before t6 hNB
    have s6 := t6.size
    have hs := hs6
    clear t6 hs6
    cases bb
    · go_upto_region 6 with fail
      go_wp2_with fail
      refine (chance_sc hs 10 (by omega) (by omega)).mono ?_
      rintro e w9 ⟨cc, rfl, hs9, t9⟩
      have hU := hU.turnF hF t9 (by omega)
      have hns := hns.turn t9 (fun x _ h2 e => by have := hpl x h2; omega)
      have bV := bV.turn t9 hVB
      have b0 := b0.turn t9 hB0
      have N := N.before t9 hNB
      have s9 := t9.size
      clear t9 hs
      cases cc
      · go_upto_region 8 with fail
        have cV := bV.cells
        have c0 := b0.cells
        have f0 := b0.frees
        have hx : Rv.here w9 (Rv.mk (Rt.mk p1 a1 l1 o1 xs nx1 md1 lc1) x1 c1) := ⟨hns, HX.out, hxl⟩
        go_region
        all_goals
          go_wp2
          refine bodyPost_ret (v := .tuple #[.slice A U.length d, .agg #[.int .i64 p1, .int .i64 a1, .int .i64 l1, .int .i64 o1, .slice x1 xs.length c1, .int .i64 nx1, .int .i64 md1, .int .i64 lc1]]) (by simp [results, Try.results5, go_sem, c0]) rfl ?_
          refine (fun (TE : Turn (fun k => k = w.heap.size) w9 _) => ⟨A, d, U, p1, a1, l1, o1, nx1, md1, lc1, xs, x1, c1, rfl, hUl, hxs, hU.turn TE (fun x h1 h2 e => by have := hF.1 x h1 h2; omega) (fun v hv x _ hx e => by have := hF.2 v hv x hx; omega), hx.turn TE (fun x _ h2 e => by have := hpl x h2; omega), N.before TE (fun i hi e => by omega)⟩) ?_
          simp only [TurnB.set_iff, TurnB.drew_iff, Turn.refl]
      · go_wp2_with fail
        refine (l2Bent_sc hs9 (by omega)).mono ?_
        rintro e w10 ⟨a9, l9, tq, rfl, -, -, htq, hs10, t10⟩
        have hU := hU.turnF hF t10 (by omega)
        have hns := hns.turn t10 (fun x _ h2 e => by have := hpl x h2; omega)
        have bV := bV.turn t10 hVB
        have b0 := b0.turn t10 hB0
        have N := N.before t10 hNB
        have s10 := t10.size
        have cV := bV.cells
        have fV := bV.frees
        clear t10 hs9 hs10
        go_upto_region 8 with fail
        have T8 := set2d w10 w3.heap.size 1 (.int .i64 a9) (.int .i64 l9)
        have bV : Blk ((w10.setCell ⟨w3.heap.size, 1, none⟩ (.int .i64 a9)).setCell ⟨w3.heap.size, 2, none⟩ (.int .i64 l9)) w3.heap.size 31 #[.int .i64 p1, .int .i64 a9, .int .i64 l9, .int .i64 o1, .slice x1 xs.length c1, .int .i64 nx1, .int .i64 md1, .int .i64 lc1] := (bV.set 1 (.int .i64 a9)).set 2 (.int .i64 l9)
        clear cV fV
        simp only [Nat.reduceAdd] at T8
        generalize ((w10.setCell ⟨w3.heap.size, 1, none⟩ (.int .i64 a9)).setCell ⟨w3.heap.size, 2, none⟩ (.int .i64 l9)) = w11 at *
        have hU := hU.turn T8 (fun x h1 h2 e => by have := hlt3.1 x h1 h2; omega) (fun v hv x h1 h2 e => by have := hlt3.2 v hv x h1 h2; omega)
        have b0 := b0.turn T8 hV0
        have N := N.before T8 (fun i hi e => by omega)
        have hns := hns.turn T8 (fun x _ h2 e => by have := hpl x h2; omega)
        have s8w11 := T8.size
        have cV := bV.cells
        have c0 := b0.cells
        have f0 := b0.frees
        have hx : Rv.here w11 (Rv.mk (Rt.mk p1 a9 l9 o1 xs nx1 md1 lc1) x1 c1) := ⟨hns, HX.out, hxl⟩
        go_region
        all_goals
          go_wp2
          refine bodyPost_ret (v := .tuple #[.slice A U.length d, .agg #[.int .i64 p1, .int .i64 a9, .int .i64 l9, .int .i64 o1, .slice x1 xs.length c1, .int .i64 nx1, .int .i64 md1, .int .i64 lc1]]) (by simp [results, Try.results5, go_sem, c0]) rfl ?_
          refine (fun (TE : Turn (fun k => k = w.heap.size) w11 _) => ⟨A, d, U, p1, a9, l9, o1, nx1, md1, lc1, xs, x1, c1, rfl, hUl, hxs, hU.turn TE (fun x h1 h2 e => by have := hF.1 x h1 h2; omega) (fun v hv x _ hx e => by have := hF.2 v hv x hx; omega), hx.turn TE (fun x _ h2 e => by have := hpl x h2; omega), N.before TE (fun i hi e => by omega)⟩) ?_
          simp only [TurnB.set_iff, TurnB.drew_iff, Turn.refl]

    · go_wp2_with fail
      refine (next_sc hs U.length (by omega) (by omega)).mono ?_
      rintro e w7 ⟨r, rfl, ⟨hr0, hr1, -⟩, hs7, t7⟩
      have hr1 := hr1 (by omega)
      obtain ⟨rr, rfl⟩ : ∃ rr : Nat, r = rr := ⟨r.toNat, by omega⟩
      have hU := hU.turnF hF t7 (by omega)
      have hns := hns.turn t7 (fun x _ h2 e => by have := hpl x h2; omega)
      have bV := bV.turn t7 hVB
      have b0 := b0.turn t7 hB0
      have N := N.before t7 hNB
      have s7 := t7.size
      clear t7 hs
      obtain ⟨b, off, p', a', l', o', nx', md', lc', x', m', d', ys, hA2, hv, hlen, hns', hnl', hmx, q0, q1, q2, q3, q4, q5, q6, q7⟩ := hU.at rr (by omega)
      subst hA2
      clear hv hlen hns' hnl' hmx q0 q3 q4 q5 q6 q7
      have X1 := cell_regrown q1
      have X2 := cell_regrown q2
      have cV := bV.cells
      have fV := bV.frees
      go_upto_region 6 with fail
      clear X1 X2 q1 q2
      have T8 := set2d w7 w3.heap.size 1 (.int .i64 a') (.int .i64 l')
      have bV : Blk ((w7.setCell ⟨w3.heap.size, 1, none⟩ (.int .i64 a')).setCell ⟨w3.heap.size, 2, none⟩ (.int .i64 l')) w3.heap.size 31 #[.int .i64 p1, .int .i64 a', .int .i64 l', .int .i64 o1, .slice x1 xs.length c1, .int .i64 nx1, .int .i64 md1, .int .i64 lc1] := (bV.set 1 (.int .i64 a')).set 2 (.int .i64 l')
      clear cV fV
      simp only [Nat.reduceAdd] at T8
      generalize ((w7.setCell ⟨w3.heap.size, 1, none⟩ (.int .i64 a')).setCell ⟨w3.heap.size, 2, none⟩ (.int .i64 l')) = w8 at *
      have hU := hU.turn T8 (fun x h1 h2 e => by have := hlt3.1 x h1 h2; omega) (fun v hv x h1 h2 e => by have := hlt3.2 v hv x h1 h2; omega)
      have b0 := b0.turn T8 hV0
      have N := N.before T8 (fun i hi e => by omega)
      have hns := hns.turn T8 (fun x _ h2 e => by have := hpl x h2; omega)
      have s8w8 := T8.size

      have hs := hs7.turn T8 (fun e => hVB e.symm) (fun x h1 h2 e => by have := ha x h1 h2; omega)
      clear T8 hs7
      go_wp2_with fail
      refine (chance_sc hs 10 (by omega) (by omega)).mono ?_
      rintro e w9 ⟨cc, rfl, hs9, t9⟩
      have hU := hU.turnF hF t9 (by omega)
      have hns := hns.turn t9 (fun x _ h2 e => by have := hpl x h2; omega)
      have bV := bV.turn t9 hVB
      have b0 := b0.turn t9 hB0
      have N := N.before t9 hNB
      have s9 := t9.size
      clear t9 hs
      cases cc
      · go_upto_region 8 with fail
        have cV := bV.cells
        have c0 := b0.cells
        have f0 := b0.frees
        have hx : Rv.here w9 (Rv.mk (Rt.mk p1 a' l' o1 xs nx1 md1 lc1) x1 c1) := ⟨hns, HX.out, hxl⟩
        go_region
        all_goals
          go_wp2
          refine bodyPost_ret (v := .tuple #[.slice (some ⟨b, off, none⟩) U.length d, .agg #[.int .i64 p1, .int .i64 a', .int .i64 l', .int .i64 o1, .slice x1 xs.length c1, .int .i64 nx1, .int .i64 md1, .int .i64 lc1]]) (by simp [results, Try.results5, go_sem, c0]) rfl ?_
          refine (fun (TE : Turn (fun k => k = w.heap.size) w9 _) => ⟨some ⟨b, off, none⟩, d, U, p1, a', l', o1, nx1, md1, lc1, xs, x1, c1, rfl, hUl, hxs, hU.turn TE (fun x h1 h2 e => by have := hF.1 x h1 h2; omega) (fun v hv x _ hx e => by have := hF.2 v hv x hx; omega), hx.turn TE (fun x _ h2 e => by have := hpl x h2; omega), N.before TE (fun i hi e => by omega)⟩) ?_
          simp only [TurnB.set_iff, TurnB.drew_iff, Turn.refl]
      · go_wp2_with fail
        refine (l2Bent_sc hs9 (by omega)).mono ?_
        rintro e w10 ⟨a9, l9, tq, rfl, -, -, htq, hs10, t10⟩
        have hU := hU.turnF hF t10 (by omega)
        have hns := hns.turn t10 (fun x _ h2 e => by have := hpl x h2; omega)
        have bV := bV.turn t10 hVB
        have b0 := b0.turn t10 hB0
        have N := N.before t10 hNB
        have s10 := t10.size
        have cV := bV.cells
        have fV := bV.frees
        clear t10 hs9 hs10
        go_upto_region 8 with fail
        have T8 := set2d w10 w3.heap.size 1 (.int .i64 a9) (.int .i64 l9)
        have bV : Blk ((w10.setCell ⟨w3.heap.size, 1, none⟩ (.int .i64 a9)).setCell ⟨w3.heap.size, 2, none⟩ (.int .i64 l9)) w3.heap.size 31 #[.int .i64 p1, .int .i64 a9, .int .i64 l9, .int .i64 o1, .slice x1 xs.length c1, .int .i64 nx1, .int .i64 md1, .int .i64 lc1] := (bV.set 1 (.int .i64 a9)).set 2 (.int .i64 l9)
        clear cV fV
        simp only [Nat.reduceAdd] at T8
        generalize ((w10.setCell ⟨w3.heap.size, 1, none⟩ (.int .i64 a9)).setCell ⟨w3.heap.size, 2, none⟩ (.int .i64 l9)) = w11 at *
        have hU := hU.turn T8 (fun x h1 h2 e => by have := hlt3.1 x h1 h2; omega) (fun v hv x h1 h2 e => by have := hlt3.2 v hv x h1 h2; omega)
        have b0 := b0.turn T8 hV0
        have N := N.before T8 (fun i hi e => by omega)
        have hns := hns.turn T8 (fun x _ h2 e => by have := hpl x h2; omega)
        have s8w11 := T8.size
        have cV := bV.cells
        have c0 := b0.cells
        have f0 := b0.frees
        have hx : Rv.here w11 (Rv.mk (Rt.mk p1 a9 l9 o1 xs nx1 md1 lc1) x1 c1) := ⟨hns, HX.out, hxl⟩
        go_region
        all_goals
          go_wp2
          refine bodyPost_ret (v := .tuple #[.slice (some ⟨b, off, none⟩) U.length d, .agg #[.int .i64 p1, .int .i64 a9, .int .i64 l9, .int .i64 o1, .slice x1 xs.length c1, .int .i64 nx1, .int .i64 md1, .int .i64 lc1]]) (by simp [results, Try.results5, go_sem, c0]) rfl ?_
          refine (fun (TE : Turn (fun k => k = w.heap.size) w11 _) => ⟨some ⟨b, off, none⟩, d, U, p1, a9, l9, o1, nx1, md1, lc1, xs, x1, c1, rfl, hUl, hxs, hU.turn TE (fun x h1 h2 e => by have := hF.1 x h1 h2; omega) (fun v hv x _ hx e => by have := hF.2 v hv x hx; omega), hx.turn TE (fun x _ h2 e => by have := hpl x h2; omega), N.before TE (fun i hi e => by omega)⟩) ?_
          simp only [TurnB.set_iff, TurnB.drew_iff, Turn.refl]


end Go.Proofs.Ytnjleachioapdaa
