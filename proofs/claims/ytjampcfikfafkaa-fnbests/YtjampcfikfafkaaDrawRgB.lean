/- What is proved here: what the drawing of a right list of routes answers. -/
import Derived.Test.YtjampcfikfafkaaDrawRt
import Derived.Test.YtjampcfikfafkaaH8Dk
import Derived.Deep.CutRange
namespace Go.Proofs.Ytjampcfikfafkaa
open Go.RowKit Go.Sort
set_option linter.unusedVariables false

/-- The paths lie from lo on. -/
def LoP (U : List Rv) (lo : Nat) : Prop := ∀ v ∈ U, ∀ y, v.x = some y → lo ≤ y.block

/-- No path lies in the row's own block. -/
def Apart (A : Option Addr) (U : List Rv) : Prop := ∀ x, A = some x → ∀ v ∈ U, ∀ y, v.r.xs ≠ [] → v.x = some y → ¬ y.block = x.block

theorem RtAt.turnB {w w' : World} {A : Option Addr} {U : List Rv} {lo B d : Nat} (h : RtAt w A U) (hr : w.ownsRow lo 35 8 (.slice A U.length d) U.length (cellsT U)) (hl : LoP U lo) (t : Turn (fun k => k = B) w w') (hB : B < lo) : RtAt w' A U := by
  refine h.turn t ?_ ?_
  · intro x hne hx e
    rcases hr.2 with ⟨h1, h2⟩ | ⟨g, c, cur, h1, h2, r⟩
    · exact hne (List.eq_nil_of_length_eq_zero h2)
    · simp only [Value.slice.injEq] at h1
      rw [h1.1] at hx
      obtain rfl := Option.some.inj hx
      simp at e
      omega
  · intro v hv x _ hx e
    have := hl v hv x hx
    omega

theorem RtAt.lts {w : World} {A : Option Addr} {U : List Rv} (h : RtAt w A U) : (∀ x, U ≠ [] → A = some x → x.block < w.heap.size) ∧ (∀ v ∈ U, ∀ x, v.r.xs ≠ [] → v.x = some x → x.block < w.heap.size) := by
  constructor
  · intro x hne hx
    obtain ⟨b, off, p, a, l, o, nx, md, lc, x', m, d, ys, hA, -, -, -, -, -, q0, -⟩ := h.at 0 (List.length_pos_iff.2 hne)
    rw [hA] at hx
    obtain rfl := Option.some.inj hx
    exact World.block_lt_of_cell? w _ q0
  · intro v hv x hne hx
    obtain ⟨b, off, z, h1, -, h3, -⟩ := (h.here v hv).1.at 0 (List.length_pos_iff.2 hne)
    rw [h1] at hx
    obtain rfl := Option.some.inj hx
    exact World.block_lt_of_cell? w _ h3

theorem set2d (w : World) (B j : Nat) (v0 v1 : Value) : Turn (fun k => k = B) w ((w.setCell ⟨B, j, none⟩ v0).setCell ⟨B, j + 1, none⟩ v1) :=
  ((Turn.refl (fun k => k = B) w).set (p := ⟨B, j, none⟩) rfl v0).set (p := ⟨B, j + 1, none⟩) rfl v1

set_option maxRecDepth 100000 in
set_option maxHeartbeats 6400000 in
theorem l7Right_sc {B n c t : Nat} {a : Option Addr} {zs : List Int} {w : World} (h : Sc w B a n c zs t) (ht : t ≤ 1000) :
    Calls Try.prog 23 #[.pointer (some ⟨B, 0, none⟩)] w fun e w' => ∃ (A : Option Addr) (d : Nat) (U : List Rv) (t' : Nat), e = .returned (.slice A U.length d) ∧ U.length ≤ 8 ∧ RtAt w' A U ∧ w'.ownsRow w.heap.size 35 8 (.slice A U.length d) U.length (cellsT U) ∧ LoP U w.heap.size ∧ Apart A U ∧ t' ≤ t + 600 ∧ Sc w' B a n c zs t' ∧ Turn (fun k => k = B) w w' := by
  have hlt := h.blk.lt
  have hla := h.lt_of
  have NL : New w (w.alloc (.cells #[] 35)) := (New.refl w).alloc _
  have hL := row_lit7 (lo := w.heap.size) (Blk.mk w w.heap.size 35 #[] rfl) (Nat.le_refl _)
  have hs0 := h.new NL
  go_enter Try.func23, Try.ntmps23
  go_wp2_with fail
  refine (next_sc hs0 9 (by omega) (by omega)).mono ?_
  rintro e w1 ⟨k0, rfl, ⟨hk0, hk1, -⟩, hs1, t1⟩
  have hk1 := hk1 (by omega)
  obtain ⟨K, rfl⟩ : ∃ K : Nat, k0 = K := ⟨k0.toNat, by omega⟩
  have hL1 := row_turn7 hL t1 (fun k hk e => by have e' : w.heap.size = k := Option.some.inj hk; omega)
  have tW1 : Turn (fun k => k = B) w w1 := Turn.trans NL.turn t1 (fun _ _ e => e)
  clear hL hs0 NL
  go_wp2
  go_loopw [3, 4] (fun s i wr => ∃ (kk : Nat) (A : Option Addr) (d : Nat) (U : List Rv) (t' : Nat), kk ≤ 8 ∧ i = .int .i64 kk ∧ s = .slice A U.length d ∧ U.length + kk ≤ 8 ∧ RtAt wr A U ∧ wr.ownsRow w.heap.size 35 8 (.slice A U.length d) U.length (cellsT U) ∧ LoP U w.heap.size ∧ Apart A U ∧ t' + 60 * kk ≤ t + 500 ∧ Sc wr B a n c zs t' ∧ Turn (fun k => k = B) w wr) (fun _ i _ => (intOf i).toNat)
  case atStart => exact ⟨K, some ⟨w.heap.size, 0, none⟩, 0, [], t + 1, by omega, rfl, rfl, by simp; omega, RtAt.nil _ _, hL1, by intro v hv; simp at hv, by intro x hx v hv; simp at hv, by omega, hs1, tW1⟩
  case round =>
    clear hL1 tW1 hs1 t1
    obtain ⟨k2, A, d, U, t2, hk2, rfl, rfl, hUl, hU, hrow, hLo, hAp, ht2, hs2, tW⟩ := hrel
    cases k2 with
    | zero =>
      go_wp2
      go_ret
      exact ⟨A, d, U, t2, rfl, by omega, hU, hrow, hLo, hAp, by omega, hs2, tW⟩
    | succ kk =>
      go_wp2_with fail
      refine (l7DrawRoute_sc hs2 (by omega)).mono ?_
      rintro e w4 ⟨p1, a1, l1, o1, nx1, md1, lc1, xs, x1, c1, t4, rfl, hpe, hpf, haf, hx3, ht4, hM4, hs4, tr4⟩
      have s0 := tW.size
      have hU := hU.turnB hrow hLo tr4 (by omega)
      have hrow := row_turn7 hrow tr4 (fun k hk e => by have := (row_rng7 hrow k hk).1; omega)
      have tW := tW.both tr4
      obtain ⟨xq, cq, eq, hns, hpl⟩ := hM4.ns (fun z hz => by have := (af_ok haf).2.2 z hz; unfold In6; omega)
      simp only [Value.slice.injEq, true_and] at eq
      obtain ⟨rfl, rfl⟩ := eq
      have hnl : x1 = none → xs.length = 0 ∧ c1 = 0 := by
        intro e0
        rcases hM4 with ⟨e1, e2⟩ | ⟨g, cc, e1, _, _⟩
        · simp only [Value.slice.injEq] at e1
          exact e1.2
        · subst e0
          simp at e1
      have hlts := hU.lts
      have hrk := fun k hk => (row_rng7 hrow k hk).2
      go_upto_region 6 with fail
      have hal : New w4 (w4.alloc (.cells #[.int .i64 p1, .int .i64 a1, .int .i64 l1, .int .i64 o1, .slice x1 xs.length c1, .int .i64 nx1, .int .i64 md1, .int .i64 lc1] 35)) := (New.refl w4).alloc _
      have bV := Blk.mk w4 w4.heap.size 35 #[.int .i64 p1, .int .i64 a1, .int .i64 l1, .int .i64 o1, .slice x1 xs.length c1, .int .i64 nx1, .int .i64 md1, .int .i64 lc1] rfl
      have hU := hU.new hal
      have hrow := row_turn7 hrow hal (fun _ _ f => f)
      have tW := Turn.andNew tW hal
      have hns := hns.new hal
      have hs4 := hs4.new hal
      have l4 := tr4.size
      have l5 : w4.heap.size < (w4.alloc (.cells #[.int .i64 p1, .int .i64 a1, .int .i64 l1, .int .i64 o1, .slice x1 xs.length c1, .int .i64 nx1, .int .i64 md1, .int .i64 lc1] 35)).heap.size := by simp
      have hVB : ¬ w4.heap.size = B := by omega
      clear tr4 hal hs2 hM4
      generalize (w4.alloc (.cells #[.int .i64 p1, .int .i64 a1, .int .i64 l1, .int .i64 o1, .slice x1 xs.length c1, .int .i64 nx1, .int .i64 md1, .int .i64 lc1] 35)) = w5 at *
      have hxl : xs.length ≤ 1048576 := by omega
      rcases Nat.eq_zero_or_pos U.length with hU0 | hU0
      · obtain rfl : U = [] := List.eq_nil_of_length_eq_zero hU0
        have hx : Rv.here w5 (Rv.mk (Rt.mk p1 a1 l1 o1 xs nx1 md1 lc1) x1 c1) := ⟨hns, hnl, hxl⟩
        have cV := bV.cells
        go_upto_region 8 with fail
        have cV := bV.cells
        go_wp2_with fail
        refine (l7Put_any p1 a1 l1 o1 nx1 md1 lc1 x1 xs.length c1 xs A 0 d [] _ hU rfl (by omega) hx rfl).mono ?_
        rintro e wp ⟨A2, d2, U2, rfl, hm2, hr2, hn2, hw2, hsb2⟩
        have hlen2 : U2.length ≤ 0 + 1 := by
          have e1 := congrArg List.length hm2
          have e2 := tw_le (fun s => s.lt (Rt.mk p1 a1 l1 o1 xs nx1 md1 lc1)) ((([] : List Rv).map Rv.r).filter (keepE p1 a1 l1))
          have e3 := List.length_filter_le (keepE p1 a1 l1) (([] : List Rv).map Rv.r)
          unfold insR at e1
          simp at e1 e3
          omega
        have hLo2 : LoP U2 w.heap.size := by
          intro v hv y hy
          rcases hsb2 v hv with h5 | h5
          · exact hLo v h5 y hy
          · rw [h5] at hy
            have := (hpl y hy).1
            omega
        have hAp2 : Apart A2 U2 := by
          intro x hx0 v hv y hne hy
          subst hx0
          have g1 := (row_rng7 hw2 x.block (by rfl)).1
          rcases hsb2 v hv with h5 | h5
          · have := hU.lts.2 v h5 y hne hy
            omega
          · rw [h5] at hy
            have := (hpl y hy).2
            omega
        have tW2 := Turn.andNew tW hn2
        have hsN := hs4.new hn2
        have hrow2 := row_low7 hw2 (show w.heap.size ≤ w5.heap.size from tW.size)
        clear hm2 hsb2 hn2 hw2
        go_wp2
        go_roundw
        case rel => exact ⟨kk, A2, d2, U2, t4, by omega, by go_num, rfl, by omega, hr2, hrow2, hLo2, hAp2, by omega, hsN, tW2⟩
        case measure => simp [intOf]

      · have hg : (decide ((0:Int) < U.length)) = true := by simp; omega
        go_wp2_with fail
        refine (chance_sc hs4 2 (by omega) (by omega)).mono ?_
        rintro e w6 ⟨bb, rfl, hs6, t6⟩
        have l6 := t6.size
        have hU := hU.turnB hrow hLo t6 (by omega)
        have hrow := row_turn7 hrow t6 (fun k hk e => by have := (row_rng7 hrow k hk).1; omega)
        have tW := tW.both t6
        have hns := hns.turn t6 (fun x _ hx e => by have := (hpl x hx).1; omega)
        have bV := bV.turn t6 (fun e => hVB e)
        clear t6 hs4
        cases bb
        · have hx : Rv.here w6 (Rv.mk (Rt.mk p1 a1 l1 o1 xs nx1 md1 lc1) x1 c1) := ⟨hns, hnl, hxl⟩
          go_upto_region 8 with fail
          have cV := bV.cells
          go_wp2_with fail
          refine (l7Put_any p1 a1 l1 o1 nx1 md1 lc1 x1 xs.length c1 xs A U.length d U _ hU rfl (by omega) hx rfl).mono ?_
          rintro e wp ⟨A2, d2, U2, rfl, hm2, hr2, hn2, hw2, hsb2⟩
          have hlen2 : U2.length ≤ U.length + 1 := by
            have e1 := congrArg List.length hm2
            have e2 := tw_le (fun s => s.lt (Rt.mk p1 a1 l1 o1 xs nx1 md1 lc1)) ((U.map Rv.r).filter (keepE p1 a1 l1))
            have e3 := List.length_filter_le (keepE p1 a1 l1) (U.map Rv.r)
            unfold insR at e1
            simp at e1 e3
            omega
          have hLo2 : LoP U2 w.heap.size := by
            intro v hv y hy
            rcases hsb2 v hv with h5 | h5
            · exact hLo v h5 y hy
            · rw [h5] at hy
              have := (hpl y hy).1
              omega
          have hAp2 : Apart A2 U2 := by
            intro x hx0 v hv y hne hy
            subst hx0
            have g1 := (row_rng7 hw2 x.block (by rfl)).1
            rcases hsb2 v hv with h5 | h5
            · have := hU.lts.2 v h5 y hne hy
              omega
            · rw [h5] at hy
              have := (hpl y hy).2
              omega
          have tW2 := Turn.andNew tW hn2
          have hsN := hs6.new hn2
          have hrow2 := row_low7 hw2 (show w.heap.size ≤ w6.heap.size from tW.size)
          clear hm2 hsb2 hn2 hw2
          go_wp2
          go_roundw
          case rel => exact ⟨kk, A2, d2, U2, t4 + 1, by omega, by go_num, rfl, by omega, hr2, hrow2, hLo2, hAp2, by omega, hsN, tW2⟩
          case measure => simp [intOf]

        · go_wp2_with fail
          refine (next_sc hs6 U.length (by omega) (by omega)).mono ?_
          rintro e w7 ⟨r, rfl, ⟨hr0, hr1, -⟩, hs7, t7⟩
          have hr1 := hr1 (by omega)
          obtain ⟨rr, rfl⟩ : ∃ rr : Nat, r = rr := ⟨r.toNat, by omega⟩
          have l7 := t7.size
          have hU := hU.turnB hrow hLo t7 (by omega)
          have hrow := row_turn7 hrow t7 (fun k hk e => by have := (row_rng7 hrow k hk).1; omega)
          have tW := tW.both t7
          have hns := hns.turn t7 (fun x _ hx e => by have := (hpl x hx).1; omega)
          have bV := bV.turn t7 (fun e => hVB e)
          clear t7 hs6
          obtain ⟨b, off, p', a', l', o', nx', md', lc', x', m', d', ys, hA2, hv, hlen, hns', hnl', hmx, q0, q1, q2, q3, q4, q5, q6, q7⟩ := hU.at rr (by omega)
          subst hA2
          clear hv hlen hns' hnl' hmx q0 q3 q4 q5 q6 q7
          have X1 := cell_regrown q1
          have X2 := cell_regrown q2
          have cV := bV.cells
          have fV := bV.frees
          go_upto_region 8 with fail
          have T8 := set2d w7 w4.heap.size 1 (.int .i64 a') (.int .i64 l')
          have bV8 : Blk ((w7.setCell ⟨w4.heap.size, 1, none⟩ (.int .i64 a')).setCell ⟨w4.heap.size, 2, none⟩ (.int .i64 l')) w4.heap.size 35 #[.int .i64 p1, .int .i64 a', .int .i64 l', .int .i64 o1, .slice x1 xs.length c1, .int .i64 nx1, .int .i64 md1, .int .i64 lc1] := (bV.set 1 (.int .i64 a')).set 2 (.int .i64 l')
          clear X1 X2 q1 q2 cV fV bV
          simp only [Nat.reduceAdd] at T8
          generalize ((w7.setCell ⟨w4.heap.size, 1, none⟩ (.int .i64 a')).setCell ⟨w4.heap.size, 2, none⟩ (.int .i64 l')) = w8 at *
          have hU := hU.turn T8 (fun x h1 h2 e => by have := hlts.1 x h1 h2; omega) (fun v hv x h1 h2 e => by have := hlts.2 v hv x h1 h2; omega)
          have hrow := row_turn7 hrow T8 (fun k hk e => by have := hrk k hk; omega)
          have tW : Turn (fun k => k = B) w w8 := Turn.trans tW T8 (fun i hi e => by omega)
          have hns := hns.turn T8 (fun x _ hx e => by have := (hpl x hx).2; omega)
          have hs8 := hs7.turn T8 (fun e => hVB e.symm) (fun x h1 h2 e => by have := hla x h1 h2; omega)
          have hx : Rv.here w8 (Rv.mk (Rt.mk p1 a' l' o1 xs nx1 md1 lc1) x1 c1) := ⟨hns, hnl, hxl⟩
          have l8 := T8.size
          clear T8 hs7
          have cV := bV8.cells
          go_wp2_with fail
          refine (l7Put_any p1 a' l' o1 nx1 md1 lc1 x1 xs.length c1 xs _ U.length d U _ hU rfl (by omega) hx rfl).mono ?_
          rintro e wp ⟨A2, d2, U2, rfl, hm2, hr2, hn2, hw2, hsb2⟩
          have hlen2 : U2.length ≤ U.length + 1 := by
            have e1 := congrArg List.length hm2
            have e2 := tw_le (fun s => s.lt (Rt.mk p1 a' l' o1 xs nx1 md1 lc1)) ((U.map Rv.r).filter (keepE p1 a' l'))
            have e3 := List.length_filter_le (keepE p1 a' l') (U.map Rv.r)
            unfold insR at e1
            simp at e1 e3
            omega
          have hLo2 : LoP U2 w.heap.size := by
            intro v hv y hy
            rcases hsb2 v hv with h5 | h5
            · exact hLo v h5 y hy
            · rw [h5] at hy
              have := (hpl y hy).1
              omega
          have hAp2 : Apart A2 U2 := by
            intro x hx0 v hv y hne hy
            subst hx0
            have g1 := (row_rng7 hw2 x.block (by rfl)).1
            rcases hsb2 v hv with h5 | h5
            · have := hU.lts.2 v h5 y hne hy
              omega
            · rw [h5] at hy
              have := (hpl y hy).2
              omega
          have tW2 := Turn.andNew tW hn2
          have hsN := hs8.new hn2
          have hrow2 := row_low7 hw2 (show w.heap.size ≤ w8.heap.size from tW.size)
          clear hm2 hsb2 hn2 hw2
          go_wp2
          go_roundw
          case rel => exact ⟨kk, A2, d2, U2, t4 + 1 + 1, by omega, by go_num, rfl, by omega, hr2, hrow2, hLo2, hAp2, by omega, hsN, tW2⟩
          case measure => simp [intOf]

end Go.Proofs.Ytjampcfikfafkaa
