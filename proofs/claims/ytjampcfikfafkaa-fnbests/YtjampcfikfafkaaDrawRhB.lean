/- What is proved here: what the bending of a list of routes answers. -/
import Derived.Test.YtjampcfikfafkaaDrawRgB
import Derived.Test.YtjampcfikfafkaaDrawBt6
import Derived.Laws.OwnMore
namespace Go.Proofs.Ytjampcfikfafkaa
open Go.RowKit Go.Sort
set_option linter.unusedVariables false
set_option linter.unusedSimpArgs false

theorem cso {w : World} {p a : Addr} {v : Value} (h : p ≠ a) : (w.setCell p v).cell? a = w.cell? a := by apply World.cell?_setCell_other; exact h
theorem css {w : World} {a : Addr} {u v : Value} (h : w.cell? a = some u) : (w.setCell a v).cell? a = some v := by apply World.cell?_setCell_same; exact h
theorem Turn.grew {w w' : World} {row : Option Nat} (hg : w.grownBy w' row) : Turn (fun k => row = some k) w w' := ⟨hg.os, hg.tape, hg.output, hg.size, fun k hk hs => hg.block k hk (fun e => hs e.symm)⟩

/-- The route of zeros. -/
def zRv : Rv := Rv.mk (Rt.mk 0 0 0 0 [] 0 0 0) none 0
theorem zRv_cells : cellsT (List.replicate 61 zRv) = (madeCells (Value.agg #[.int .i64 0, .int .i64 0, .int .i64 0, .int .i64 0, .slice none 0 0, .int .i64 0, .int .i64 0, .int .i64 0]).cells (61 * 8)).toList := by kernel_rfl

theorem setA5 (w : World) (B j : Nat) (v0 v1 v2 v3 v4 : Value) : Turn (fun k => k = B) w (((((w.setCell ⟨B, j, none⟩ v0).setCell ⟨B, j + 1, none⟩ v1).setCell ⟨B, j + 2, none⟩ v2).setCell ⟨B, j + 3, none⟩ v3).setCell ⟨B, j + 4, none⟩ v4) :=
  (((((Turn.refl (fun k => k = B) w).set (p := ⟨B, j, none⟩) rfl v0).set (p := ⟨B, j + 1, none⟩) rfl v1).set (p := ⟨B, j + 2, none⟩) rfl v2).set (p := ⟨B, j + 3, none⟩) rfl v3).set (p := ⟨B, j + 4, none⟩) rfl v4

theorem RtAt.head {w w' : World} {b off : Nat} {u u' : Rv} {us : List Rv} (h : RtAt w (some ⟨b, off, none⟩) (u :: us)) (hA : Apart (some ⟨b, off, none⟩) (u :: us)) (t : Turn (fun k => k = b) w w') (h0 : ∀ j, j < 8 → w'.cell? ⟨b, off + j, none⟩ = u'.cs[j]?) (h1 : ∀ j, 8 ≤ j → w'.cell? ⟨b, off + j, none⟩ = w.cell? ⟨b, off + j, none⟩) (hu : u'.here w') : RtAt w' (some ⟨b, off, none⟩) (u' :: us) := by
  intro i v hv
  cases i with
  | zero =>
    simp at hv
    subst hv
    exact ⟨⟨b, off, rfl, fun j hj => by simpa using h0 j hj⟩, hu⟩
  | succ i =>
    have hv' : (u :: us)[i + 1]? = some v := by simpa using hv
    obtain ⟨⟨b', off', e, hc⟩, hh⟩ := h (i + 1) v hv'
    simp at e
    obtain ⟨rfl, rfl⟩ := e
    refine ⟨⟨b, off, rfl, fun j hj => ?_⟩, hh.turn t (fun x hne hx => hA _ rfl v (List.mem_of_getElem? hv') x hne hx)⟩
    rw [← hc j hj, show off + (i + 1) * 8 + j = off + ((i + 1) * 8 + j) by omega]
    exact h1 _ (by omega)

/-- A peer is stored into the first route. -/
theorem RtAt.peer {w : World} {b off : Nat} {u : Rv} {us : List Rv} (h : RtAt w (some ⟨b, off, none⟩) (u :: us)) (hA : Apart (some ⟨b, off, none⟩) (u :: us)) (q : Int) :
    RtAt (w.setCell ⟨b, off, none⟩ (.int .i64 q)) (some ⟨b, off, none⟩) (Rv.mk (Rt.mk q u.r.a u.r.l u.r.o u.r.xs u.r.nx u.r.md u.r.lc) u.x u.c :: us) := by
  have t : Turn (fun k => k = b) w (w.setCell ⟨b, off, none⟩ (.int .i64 q)) := (Turn.refl (fun k => k = b) w).set (p := ⟨b, off, none⟩) rfl _
  obtain ⟨⟨b', off', e, hc⟩, hh⟩ := h 0 u rfl
  simp at e
  obtain ⟨rfl, rfl⟩ := e
  refine h.head hA t ?_ ?_ (hh.turn t (fun x hne hx => hA _ rfl u List.mem_cons_self x hne hx))
  · intro j hj
    have hj' := hc j hj
    simp only [Nat.zero_mul, Nat.add_zero] at hj'
    by_cases h0 : j = 0
    · subst h0
      exact css (u := .int .i64 u.r.p) hj'
    · rw [cso (show (⟨b, off, none⟩ : Addr) ≠ ⟨b, off + j, none⟩ by simp <;> omega), hj']
      match j, hj, h0 with
      | 1, _, _ => rfl
      | 2, _, _ => rfl
      | 3, _, _ => rfl
      | 4, _, _ => rfl
      | 5, _, _ => rfl
      | 6, _, _ => rfl
      | 7, _, _ => rfl
  · intro j hj
    exact cso (show (⟨b, off, none⟩ : Addr) ≠ ⟨b, off + j, none⟩ by simp <;> omega)

/-- Attributes are stored into the first route. -/
theorem RtAt.attrs {w : World} {b off : Nat} {u : Rv} {us : List Rv} (h : RtAt w (some ⟨b, off, none⟩) (u :: us)) (hA : Apart (some ⟨b, off, none⟩) (u :: us)) (o nx md lc : Int) (xs : List Int) (x : Option Addr) (c : Nat) (hx : Rv.here w (Rv.mk (Rt.mk u.r.p u.r.a u.r.l o xs nx md lc) x c)) (hxb : ∀ y, x = some y → ¬ y.block = b) :
    RtAt (((((w.setCell ⟨b, off + 3, none⟩ (.int .i64 o)).setCell ⟨b, off + 3 + 1, none⟩ (.slice x xs.length c)).setCell ⟨b, off + 3 + 2, none⟩ (.int .i64 nx)).setCell ⟨b, off + 3 + 3, none⟩ (.int .i64 md)).setCell ⟨b, off + 3 + 4, none⟩ (.int .i64 lc)) (some ⟨b, off, none⟩) (Rv.mk (Rt.mk u.r.p u.r.a u.r.l o xs nx md lc) x c :: us) := by
  have t := setA5 w b (off + 3) (.int .i64 o) (.slice x xs.length c) (.int .i64 nx) (.int .i64 md) (.int .i64 lc)
  obtain ⟨⟨b', off', e, hc⟩, hh⟩ := h 0 u rfl
  simp at e
  obtain ⟨rfl, rfl⟩ := e
  simp only [Nat.zero_mul, Nat.add_zero] at hc
  have q0 : w.cell? ⟨b, off, none⟩ = some (.int .i64 u.r.p) := hc 0 (by omega)
  have q1 : w.cell? ⟨b, off + 1, none⟩ = some (.int .i64 u.r.a) := hc 1 (by omega)
  have q2 : w.cell? ⟨b, off + 2, none⟩ = some (.int .i64 u.r.l) := hc 2 (by omega)
  have q3 : w.cell? ⟨b, off + 3, none⟩ = some (.int .i64 u.r.o) := hc 3 (by omega)
  have q4 : w.cell? ⟨b, off + 4, none⟩ = some (.slice u.x u.r.xs.length u.c) := hc 4 (by omega)
  have q5 : w.cell? ⟨b, off + 5, none⟩ = some (.int .i64 u.r.nx) := hc 5 (by omega)
  have q6 : w.cell? ⟨b, off + 6, none⟩ = some (.int .i64 u.r.md) := hc 6 (by omega)
  have q7 : w.cell? ⟨b, off + 7, none⟩ = some (.int .i64 u.r.lc) := hc 7 (by omega)
  refine h.head hA t ?_ ?_ (hx.turn t (fun y _ hy => hxb y hy))
  · intro j hj
    match j, hj with
    | 0, _ => simp [go_sem, q0, q1, q2, q3, q4, q5, q6, q7, Rv.cs]
    | 1, _ => simp [go_sem, q0, q1, q2, q3, q4, q5, q6, q7, Rv.cs]
    | 2, _ => simp [go_sem, q0, q1, q2, q3, q4, q5, q6, q7, Rv.cs]
    | 3, _ => simp [go_sem, q0, q1, q2, q3, q4, q5, q6, q7, Rv.cs]
    | 4, _ => simp [go_sem, q0, q1, q2, q3, q4, q5, q6, q7, Rv.cs]
    | 5, _ => simp [go_sem, q0, q1, q2, q3, q4, q5, q6, q7, Rv.cs]
    | 6, _ => simp [go_sem, q0, q1, q2, q3, q4, q5, q6, q7, Rv.cs]
    | 7, _ => simp [go_sem, q0, q1, q2, q3, q4, q5, q6, q7, Rv.cs]
  · intro j hj
    rw [cso (show (⟨b, off + 3 + 4, none⟩ : Addr) ≠ ⟨b, off + j, none⟩ by simp <;> omega), cso (show (⟨b, off + 3 + 3, none⟩ : Addr) ≠ ⟨b, off + j, none⟩ by simp <;> omega), cso (show (⟨b, off + 3 + 2, none⟩ : Addr) ≠ ⟨b, off + j, none⟩ by simp <;> omega), cso (show (⟨b, off + 3 + 1, none⟩ : Addr) ≠ ⟨b, off + j, none⟩ by simp <;> omega), cso (show (⟨b, off + 3, none⟩ : Addr) ≠ ⟨b, off + j, none⟩ by simp <;> omega)]

theorem row_free7 {w : World} {lo n d b off : Nat} {cs : List Value} (h : w.ownsRow lo 35 8 (.slice (some ⟨b, off, none⟩) n d) n cs) : ∀ j, w.frozen? ⟨b, j, none⟩ = false := by
  rcases h.2 with ⟨h1, h2⟩ | ⟨g, c, cur, h1, h2, hh, r⟩
  · simp at h1
  · simp only [Value.slice.injEq, Option.some.injEq, Addr.mk.injEq] at h1
    obtain ⟨⟨rfl, -, -⟩, -⟩ := h1
    exact Blk.frees hh

/-- The row and the paths lie from lo on. -/
def FarT (A : Option Addr) (U : List Rv) (lo : Nat) : Prop := (∀ x, U ≠ [] → A = some x → lo ≤ x.block) ∧ LoP U lo
theorem FarT.nil (A : Option Addr) (lo : Nat) : FarT A [] lo := ⟨by intro x h; exact absurd rfl h, by intro v hv; simp at hv⟩
theorem RtAt.turnF {w w' : World} {A : Option Addr} {U : List Rv} {lo B : Nat} (h : RtAt w A U) (hf : FarT A U lo) (t : Turn (fun k => k = B) w w') (hB : B < lo) : RtAt w' A U :=
  h.turn t (fun x h1 h2 e => by have := hf.1 x h1 h2; omega) (fun v hv x _ hx e => by have := hf.2 v hv x hx; omega)

set_option maxRecDepth 100000 in
set_option maxHeartbeats 6400000 in
theorem l7Bent_sc {B n c t : Nat} {a : Option Addr} {zs : List Int} {w : World} (h : Sc w B a n c zs t) (ht : t ≤ 1000) :
    Calls Try.prog 10 #[.pointer (some ⟨B, 0, none⟩)] w fun e w' => ∃ (A : Option Addr) (d : Nat) (U : List Rv) (t' : Nat), e = .returned (.slice A U.length d) ∧ U.length ≤ 61 ∧ RtAt w' A U ∧ FarT A U w.heap.size ∧ t' ≤ t + 700 ∧ Sc w' B a n c zs t' ∧ Turn (fun k => k = B) w w' := by
  obtain ⟨i0, hi, hz0, hz1, hz2⟩ := info_parts Try.infoRt
  have hlt := h.blk.lt
  have hla := h.lt_of
  go_enter Try.func10, Try.ntmps10
  go_wp2_with fail
  refine (l7Right_sc h ht).mono ?_
  rintro e w1 ⟨A, d, U, t1, rfl, hUl, hU, hrow, hLo, hAp, ht1, hs1, T1⟩
  go_wp2_with fail
  refine (next_sc hs1 14 (by omega) (by omega)).mono ?_
  rintro e w2 ⟨r, rfl, ⟨hr0, hr1, -⟩, hs2, t2⟩
  have hr1 := hr1 (by omega)
  have hU := hU.turnB hrow hLo t2 (by omega)
  have hrow := row_turn7 hrow t2 (fun k hk e => by have := (row_rng7 hrow k hk).1; omega)
  have tW := T1.both t2
  have s1 := T1.size
  have s2 := t2.size
  clear hs1 t2 T1 h
  have hs2 := hs2
  by_cases r0 : r = 0
  · subst r0
    go_wp2_with fail
    refine (l7DrawRoute_sc hs2 (by omega)).mono ?_
    rintro e w4 ⟨p1, a1, l1, o1, nx1, md1, lc1, xs, x1, c1, t4, rfl, hpe, hpf, haf, hx3, ht4, hM4, hs4, tr4⟩
    have hrk := fun k hk => (row_rng7 hrow k hk).2
    have hU := hU.turnB hrow hLo tr4 (by omega)
    have hrow := row_turn7 hrow tr4 (fun k hk e => by have := (row_rng7 hrow k hk).1; omega)
    have tW := tW.both tr4
    obtain ⟨xq, cq, eq, hns, hpl⟩ := hM4.ns (fun z hz => by have := (af_ok haf).2.2 z hz; unfold In6; omega)
    simp only [Value.slice.injEq, true_and] at eq
    obtain ⟨rfl, rfl⟩ := eq
    have hnl : x1 = none → xs.length = 0 ∧ c1 = 0 := by
      intro e0
      rcases hM4 with ⟨e1, e2⟩ | ⟨g, cc, e1, _, _⟩
      · simp only [Value.slice.injEq] at e1
        exact e1.2
      · subst e0
        simp at e1
    have hx : Rv.here w4 (Rv.mk (Rt.mk p1 a1 l1 o1 xs nx1 md1 lc1) x1 c1) := ⟨hns, hnl, by show xs.length ≤ _; omega⟩
    have hal : New w4 (w4.alloc (.cells #[.int .i64 p1, .int .i64 a1, .int .i64 l1, .int .i64 o1, .slice x1 xs.length c1, .int .i64 nx1, .int .i64 md1, .int .i64 lc1] 35)) := (New.refl w4).alloc _
    have bL := Blk.mk w4 w4.heap.size 35 #[.int .i64 p1, .int .i64 a1, .int .i64 l1, .int .i64 o1, .slice x1 xs.length c1, .int .i64 nx1, .int .i64 md1, .int .i64 lc1] rfl
    have hrow3 : (w4.alloc (.cells #[.int .i64 p1, .int .i64 a1, .int .i64 l1, .int .i64 o1, .slice x1 xs.length c1, .int .i64 nx1, .int .i64 md1, .int .i64 lc1] 35)).ownsRow w.heap.size 35 8 _ U.length (cellsT U) := row_turn7 hrow hal (fun _ _ f => f)
    have hsrc : ∀ j, (w4.alloc (.cells #[.int .i64 p1, .int .i64 a1, .int .i64 l1, .int .i64 o1, .slice x1 xs.length c1, .int .i64 nx1, .int .i64 md1, .int .i64 lc1] 35)).cell? ⟨w4.heap.size, j, none⟩ = (Rv.mk (Rt.mk p1 a1 l1 o1 xs nx1 md1 lc1) x1 c1).cs[j]? := by
      intro j
      rw [bL.cells j]
      simp [Rv.cs]
    have s4 := tr4.size
    have hsz : w.heap.size ≤ (w4.alloc (.cells #[.int .i64 p1, .int .i64 a1, .int .i64 l1, .int .i64 o1, .slice x1 xs.length c1, .int .i64 nx1, .int .i64 md1, .int .i64 lc1] 35)).heap.size := by simp; omega
    clear bL tr4 hM4 hs2
    go_wp2_with (at_builtin; refine wpList_apT _ rfl (.tmp 10) (.tmp 13) rfl w.heap.size _ Try.underlying24 hi hz0 hz1 hz2 rfl _ U rfl hrow3 w4.heap.size (Rv.mk (Rt.mk p1 a1 l1 o1 xs nx1 md1 lc1) x1 c1) rfl hsrc (by omega) hsz ?_)
    intro v5 w5 hr5 hg5 _
    have T5 := Turn.grew hg5
    have hr5' : w5.ownsRow w.heap.size 35 8 v5 (U ++ [Rv.mk (Rt.mk p1 a1 l1 o1 xs nx1 md1 lc1) x1 c1]).length (cellsT (U ++ [Rv.mk (Rt.mk p1 a1 l1 o1 xs nx1 md1 lc1) x1 c1])) := by rw [List.length_append]; exact hr5
    obtain ⟨A5, d5, rfl, hU5, -, -⟩ := row_rt7 hr5' (fun v hv => by
      rcases List.mem_append.1 hv with h5 | h5
      · refine ((hU.here v h5).new hal).turn T5 (fun x hne hx e => ?_)
        cases A with
        | none => simp [Value.ownBlock] at e
        | some y => exact hAp y rfl v h5 x hne hx (by simpa [Value.ownBlock] using e.symm)
      · obtain rfl := List.mem_singleton.1 h5
        refine (hx.new hal).turn T5 (fun x hne hx e => ?_)
        have g1 := (hpl x hx).1
        have g2 := hrk x.block e
        omega)
    have tW5 : Turn (fun k => k = B) w w5 := Turn.trans (Turn.andNew tW hal) T5 (fun i hi e => by have := (row_rng7 hrow i e).1; omega)
    have hs5 := (hs4.new hal).turn T5 (fun e => by have := (row_rng7 hrow B e).1; omega) (fun x h1 h2 e => by have g1 := hla x h1 h2; have g2 := (row_rng7 hrow x.block e).1; omega)
    have hF5 : FarT A5 (U ++ [Rv.mk (Rt.mk p1 a1 l1 o1 xs nx1 md1 lc1) x1 c1]) w.heap.size := ⟨fun x _ hx => (row_rng7 hr5' x.block (by rw [hx]; rfl)).1, fun v hv y hy => by
      rcases List.mem_append.1 hv with h5 | h5
      · exact hLo v h5 y hy
      · obtain rfl := List.mem_singleton.1 h5
        have := (hpl y hy).1
        omega⟩
    clear hr5 hr5' hg5 hrow3 hsrc T5
    go_wp2
    go_ret
    exact ⟨A5, d5, _, t4, rfl, by simp; omega, hU5, hF5, by omega, hs5, tW5⟩
  · by_cases r1 : r = 1
    · subst r1
      rcases Nat.eq_zero_or_pos U.length with hU0 | hU0
      · obtain rfl : U = [] := List.eq_nil_of_length_eq_zero hU0
        go_wp2
        go_ret
        exact ⟨A, d, [], _, rfl, by simp, hU, FarT.nil _ _, by omega, hs2, tW⟩
      · have hg : (decide ((0:Int) < U.length)) = true := by simp; omega
        have hal := (New.refl w2).alloc (.cells #[.int .i64 (-1), .int .i64 3] 2)
        go_wp2_with fail
        refine (pick_sc (hs2.new hal) [-1, 3] (Blk.mk w2 w2.heap.size 2 #[.int .i64 (-1), .int .i64 3] rfl) 2 rfl (by omega) (by omega) (by omega)).mono ?_
        rintro e w5 ⟨q, rfl, hq, hs5, t5⟩
        have hU := (hU.new hal).turnB (row_turn7 hrow hal (fun _ _ f => f)) hLo t5 (by omega)
        have hrow := row_turn7 (row_turn7 hrow hal (fun _ _ f => f)) t5 (fun k hk e => by have := (row_rng7 hrow k hk).1; omega)
        have tW := (Turn.andNew tW hal).both t5
        clear t5 hal hs2
        obtain ⟨b, off, p', a', l', o', nx', md', lc', x', m', d', ys, rfl, hv, hlen, hns', hnl', hmx, q0, -⟩ := hU.at 0 hU0
        have fV := row_free7 hrow
        have hb := (row_rng7 hrow b rfl).1
        obtain ⟨u, us, rfl⟩ : ∃ u us, U = u :: us := by cases U with | nil => simp at hU0 | cons u us => exact ⟨u, us, rfl⟩
        clear hv hlen hns' hnl' hmx
        simp only [Nat.zero_mul, Nat.add_zero] at q0
        go_wp2
        go_ret
        have T6 : Turn (fun k => k = b) w5 (w5.setCell ⟨b, off, none⟩ (.int .i64 q)) := (Turn.refl (fun k => k = b) w5).set (p := ⟨b, off, none⟩) rfl _
        exact ⟨_, d, _, _, rfl, by simp at hUl ⊢; omega, hU.peer hAp q, ⟨fun x _ hx => by obtain rfl := Option.some.inj hx; exact hb, fun v hv y hy => by rcases List.mem_cons.1 hv with rfl | hv; exact hLo u List.mem_cons_self y hy; exact hLo v (List.mem_cons_of_mem _ hv) y hy⟩, by omega, hs5.turn T6 (fun e => by omega) (fun x h1 h2 e => by have := hla x h1 h2; omega), Turn.trans tW T6 (fun i hi e => by omega)⟩
    · by_cases r2 : r = 2
      · subst r2
        rcases Nat.eq_zero_or_pos U.length with hU0 | hU0
        · obtain rfl : U = [] := List.eq_nil_of_length_eq_zero hU0
          go_wp2
          go_ret
          exact ⟨A, d, [], _, rfl, by simp, hU, FarT.nil _ _, by omega, hs2, tW⟩
        · have hg : (decide ((0:Int) < U.length)) = true := by simp; omega
          go_wp2_with fail
          refine (l3BentAttrs_sc hs2 (by omega)).mono ?_
          rintro e w5 ⟨o5, nx5, md5, lc5, xs, xa, xc, m, t5, rfl, rfl, hm7, hbl, hbh, hall, ht5, hM5, hs5, tr5⟩
          have hrk := fun k hk => (row_rng7 hrow k hk).2
          have hU := hU.turnB hrow hLo tr5 (by omega)
          have hrow := row_turn7 hrow tr5 (fun k hk e => by have := (row_rng7 hrow k hk).1; omega)
          have tW := tW.both tr5
          obtain ⟨xq, cq, eq, hns, hpl⟩ := hM5.ns (fun z hz => by have := hall z hz; unfold In6; omega)
          simp only [Value.slice.injEq, true_and] at eq
          obtain ⟨rfl, rfl⟩ := eq
          have hnl : xa = none → xs.length = 0 ∧ xc = 0 := by
            intro e0
            rcases hM5 with ⟨e1, e2⟩ | ⟨g, cc, e1, _, _⟩
            · simp only [Value.slice.injEq] at e1
              exact e1.2
            · subst e0
              simp at e1
          clear tr5 hs2 hM5
          obtain ⟨b, off, p', a', l', o', nx', md', lc', x', m', d', ys, rfl, hv, hlen, hns', hnl', hmx, q0, q1, q2, q3, q4, q5, q6, q7⟩ := hU.at 0 hU0
          have fV := row_free7 hrow
          have hb := (row_rng7 hrow b rfl).1
          have hb2 := hrk b rfl
          obtain ⟨u, us, rfl⟩ : ∃ u us, U = u :: us := by cases U with | nil => simp at hU0 | cons u us => exact ⟨u, us, rfl⟩
          clear hv hlen hns' hnl' hmx
          simp only [Nat.zero_mul, Nat.add_zero] at q0 q1 q2 q3 q4 q5 q6 q7
          go_wp2
          go_ret
          have T6 := setA5 w5 b (off + 3) (.int .i64 o5) (.slice xa xs.length xc) (.int .i64 nx5) (.int .i64 md5) (.int .i64 lc5)
          exact ⟨_, d, _, _, rfl, by simp at hUl ⊢; omega, hU.attrs hAp o5 nx5 md5 lc5 xs xa xc ⟨hns, hnl, by show xs.length ≤ _; omega⟩ (fun y hy e => by have := (hpl y hy).1; omega), ⟨fun x _ hx => by obtain rfl := Option.some.inj hx; exact hb, fun v hv y hy => by rcases List.mem_cons.1 hv with rfl | hv; (have := (hpl y hy).1; omega); exact hLo v (List.mem_cons_of_mem _ hv) y hy⟩, by omega, hs5.turn T6 (fun e => by omega) (fun x h1 h2 e => by have := hla x h1 h2; omega), Turn.trans tW T6 (fun i hi e => by omega)⟩
      · by_cases r3 : r = 3
        · subst r3
          obtain ⟨w9, hmk, hr9, hg9⟩ := run_makeSlice_full (P := Try.prog) (w := w2) w.heap.size 24 35 i0 _ 8 Try.underlying24 hi hz0 hz1 .i64 .i64 61 (by omega) (by rw [hz2]; omega) (by unfold maxLen; omega) (by omega)
          replace hmk : (Instr.makeSlice 24 (.int .i64 61) (.int .i64 61)).run Try.prog w2 = .ok (.slice (some ⟨w2.heap.size, 0, none⟩) 61 61) w9 := hmk
          have hr9' : w9.ownsRow w.heap.size 35 8 (.slice (some ⟨w2.heap.size, 0, none⟩) 61 61) (List.replicate 61 zRv).length (cellsT (List.replicate 61 zRv)) := by rw [zRv_cells]; exact hr9
          obtain ⟨A9, d9, e9, hU9, -, -⟩ := row_rt7 hr9' (fun v hv => by obtain rfl := List.eq_of_mem_replicate hv; exact ⟨NsAt.nil _ _, fun _ => ⟨rfl, rfl⟩, by show 0 ≤ _; omega⟩)
          have N9 : New w2 w9 := (New.refl w2).grow hg9 (fun k e => by cases e)
          clear hr9 hr9' hg9
          have lo9 : LoP (List.replicate 61 zRv) w.heap.size := by intro v hv y hy; obtain rfl := List.eq_of_mem_replicate hv; cases hy
          generalize List.replicate 61 zRv = W9 at *
          simp only [Value.slice.injEq] at e9
          obtain ⟨rfl, h61, rfl⟩ := e9
          have H61 : Hid (61 = W9.length) := h61
          clear h61
          go_wp2
          go_ret
          exact ⟨_, 61, W9, _, by rw [← H61.out]; rfl, by have := H61.out; omega, hU9, ⟨fun x _ hx => by obtain rfl := Option.some.inj hx; show w.heap.size ≤ w2.heap.size; omega, lo9⟩, by omega, hs2.new N9, Turn.andNew tW N9⟩
        · go_wp2
          go_ret
          exact ⟨A, d, U, _, rfl, by omega, hU, ⟨fun x _ hx => (row_rng7 hrow x.block (by rw [hx]; rfl)).1, hLo⟩, by omega, hs2, tW⟩

end Go.Proofs.Ytjampcfikfafkaa
