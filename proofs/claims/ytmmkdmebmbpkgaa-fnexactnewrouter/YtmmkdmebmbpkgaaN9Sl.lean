/- What is proved here: what the model's new router is, for rules of at most 1048576. -/
import Derived.Test.YtmmkdmebmbpkgaaN9So
namespace Go.Proofs.Ytmmkdmebmbpkgaa
open Go.RowKit Go.Sort
set_option linter.unusedVariables false

/-- What is made, behind so many links. -/
structure SpIn (w wr : World) (B3 : Nat) (sa si ho nx : Int) (n1 n2 : Nat) (x1 : Option Addr) (d1 : Nat) (x2 : Option Addr) (d2 : Nat) (r1 r2 : List Ru) (k : Nat) (yl : Option Addr) (dl : Nat) : Prop where
  nw : New w wr
  br : Blk wr B3 35 #[.int .i64 sa, .int .i64 si, .int .i64 ho, .int .i64 nx, .slice x1 n1 d1, .slice x2 n2 d2, .slice yl k dl, .slice none 0 0]
  bb : Blk wr (w.heap.size + 1) 35 #[.int .i64 0, .int .i64 0, .int .i64 0, .int .i64 0, .slice none 0 0, .slice none 0 0, .slice none 0 0, .slice none 0 0]
  o1 : OvR wr (w.heap.size + 2) (.slice x1 n1 d1) r1
  o2 : OvR wr (w.heap.size + 2) (.slice x2 n2 d2) r2
  ol : wr.ownsRow (w.heap.size + 2) 76 7 (.slice yl k dl) k (lz9 k)
  a1l : ∀ j, (Value.slice x1 n1 d1).ownBlock = some j → (Value.slice yl k dl).ownBlock ≠ some j
  a2l : ∀ j, (Value.slice x2 n2 d2).ownBlock = some j → (Value.slice yl k dl).ownBlock ≠ some j
  b1 : ∀ j, (Value.slice x1 n1 d1).ownBlock = some j → j ≠ B3
  b2 : ∀ j, (Value.slice x2 n2 d2).ownBlock = some j → j ≠ B3
  bl : ∀ j, (Value.slice yl k dl).ownBlock = some j → j ≠ B3
  hb : w.heap.size + 2 ≤ B3

theorem SpIn.new {w W : World} {B3 : Nat} {sa si ho nx : Int} {n1 n2 : Nat} {x1 : Option Addr} {d1 : Nat} {x2 : Option Addr} {d2 : Nat} {r1 r2 : List Ru} {k : Nat} {yl : Option Addr} {dl : Nat} {W' : World} (h : SpIn w W B3 sa si ho nx n1 n2 x1 d1 x2 d2 r1 r2 k yl dl) (t : New W W') : SpIn w W' B3 sa si ho nx n1 n2 x1 d1 x2 d2 r1 r2 k yl dl :=
  ⟨h.nw.trans t, h.br.new t, h.bb.new t, h.o1.new t, h.o2.new t, row9_new h.ol t, h.a1l, h.a2l, h.b1, h.b2, h.bl, h.hb⟩
theorem SpIn.b3 {w W : World} {B3 : Nat} {sa si ho nx : Int} {n1 n2 : Nat} {x1 : Option Addr} {d1 : Nat} {x2 : Option Addr} {d2 : Nat} {r1 r2 : List Ru} {k : Nat} {yl : Option Addr} {dl : Nat} (h : SpIn w W B3 sa si ho nx n1 n2 x1 d1 x2 d2 r1 r2 k yl dl) : B3 < W.heap.size := (Array.getElem?_eq_some_iff.1 h.br).1

theorem SpIn.link {w W : World} {B3 : Nat} {sa si ho nx : Int} {n1 n2 : Nat} {x1 : Option Addr} {d1 : Nat} {x2 : Option Addr} {d2 : Nat} {r1 r2 : List Ru} {k : Nat} {yl : Option Addr} {dl : Nat} {W' : World} {y : Option Addr} {d : Nat} (h : SpIn w W B3 sa si ho nx n1 n2 x1 d1 x2 d2 r1 r2 k yl dl) (hrow : W'.ownsRow (w.heap.size + 2) 76 7 (.slice y (k + 1) d) (k + 1) (lz9 k ++ [Value.int .i64 0, .int .i64 0, .int .i64 0, .int .i64 0, .int .i64 0, .slice none 0 0, .slice none 0 0])) (hg : W.grownBy W' (Value.slice yl k dl).ownBlock) (hob : (Value.slice y (k + 1) d).ownBlock = (Value.slice yl k dl).ownBlock ∨ (Value.slice y (k + 1) d).ownBlock = some W.heap.size) :
    SpIn w (W'.setCell ⟨B3, 6, none⟩ (.slice y (k + 1) d)) B3 sa si ho nx n1 n2 x1 d1 x2 d2 r1 r2 (k + 1) y d := by
  have t1 := turn_of_grown hg
  have t2 : Turn (fun k => k = B3) W' (W'.setCell ⟨B3, 6, none⟩ (.slice y (k + 1) d)) := Turn.here9 (Turn.refl _ _) _
  have f1 := fun j hj => (h.o1.blk j hj).2
  have f2 := fun j hj => (h.o2.blk j hj).2
  obtain ⟨_, _, _, _, fl⟩ := row9_form h.ol
  have f3 := h.b3
  have key : ∀ {u : Value}, (∀ j, u.ownBlock = some j → j < W.heap.size) → (∀ j, u.ownBlock = some j → (Value.slice yl k dl).ownBlock ≠ some j) → ∀ j, u.ownBlock = some j → (Value.slice y (k + 1) d).ownBlock ≠ some j := by
    intro u hu hl j hj e
    rcases hob with e1 | e1
    · exact hl j hj (e1 ▸ e)
    · have := hu j hj
      rw [e1] at e
      have := Option.some.inj e
      omega
  have bb2 := h.bb
  have hbs : w.heap.size + 1 < W.heap.size := (Array.getElem?_eq_some_iff.1 bb2).1
  have n1' : New w W' := h.nw.grow hg (fun k hk => by have := (fl k hk).1; omega)
  have hbl : ∀ j, (Value.slice y (k + 1) d).ownBlock = some j → j ≠ B3 := by
    intro j hj e
    subst e
    rcases hob with e1 | e1
    · exact h.bl _ (e1 ▸ hj) rfl
    · rw [e1] at hj
      have := Option.some.inj hj
      omega
  refine ⟨n1'.before t2 (by intro i hi e; have := h.hb; omega), ?_, ?_, ?_, ?_, ?_, key f1 h.a1l, key f2 h.a2l, h.b1, h.b2, hbl, h.hb⟩
  · exact (h.br.turn t1 (fun e => h.bl B3 e rfl)).set 6 (.slice y (k + 1) d)
  · exact (bb2.turn t1 (fun e => by have := (fl _ e).1; omega)).turn t2 (by have := h.hb; omega)
  · exact (h.o1.turn t1 (fun j hj e => h.a1l j hj e)).turn t2 (fun j hj e => h.b1 j hj e)
  · exact (h.o2.turn t1 (fun j hj e => h.a2l j hj e)).turn t2 (fun j hj e => h.b2 j hj e)
  · rw [lz9_succ]
    exact row9_turn hrow t2 (fun j hj e => hbl j hj e)

theorem set8n (w : World) (B : Nat) (v0 v1 v2 v3 v4 v5 v6 v7 : Value) : Turn (fun k => k = B) w ((((((((w.setCell ⟨B, 0, none⟩ v0).setCell ⟨B, 1, none⟩ v1).setCell ⟨B, 2, none⟩ v2).setCell ⟨B, 3, none⟩ v3).setCell ⟨B, 4, none⟩ v4).setCell ⟨B, 5, none⟩ v5).setCell ⟨B, 6, none⟩ v6).setCell ⟨B, 7, none⟩ v7) :=
  Turn.here9 (Turn.here9 (Turn.here9 (Turn.here9 (Turn.here9 (Turn.here9 (Turn.here9 (Turn.here9 (Turn.refl _ _) _) _) _) _) _) _) _) _

set_option maxRecDepth 100000 in
set_option maxHeartbeats 6400000 in
theorem specNew (sa si ho nx : Int) (a1 a2 : Option Addr) (n1 c1 n2 c2 : Nat) (r1 r2 : List Ru) (w : World) (h1 : RsAt w a1 r1) (h2 : RsAt w a2 r2) (e1 : r1.length = n1) (e2 : r2.length = n2) (m1 : n1 ≤ 1048576) (m2 : n2 ≤ 1048576) (z1 : a1 = none → n1 = 0 ∧ c1 = 0) (z2 : a2 = none → n2 = 0 ∧ c2 = 0) :
    Calls Try.prog 15 #[.agg #[.int .i64 sa, .int .i64 si, .int .i64 ho, .int .i64 nx, .slice a1 n1 c1, .slice a2 n2 c2]] w fun e w' => (∃ x1 d1 x2 d2 yl dl, e = .returned (.agg #[.int .i64 sa, .int .i64 si, .int .i64 ho, .int .i64 nx, .slice x1 n1 d1, .slice x2 n2 d2, .slice yl 3 dl, .slice none 0 0]) ∧ OvR w' (w.heap.size + 2) (.slice x1 n1 d1) r1 ∧ OvR w' (w.heap.size + 2) (.slice x2 n2 d2) r2 ∧ w'.ownsRow (w.heap.size + 2) 76 7 (.slice yl 3 dl) 3 (lz9 3)) ∧ New w w' := by
  have E1 : Hid (r1.length = n1) := e1
  have E2 : Hid (r2.length = n2) := e2
  have Z1 : Hid (a1 = none → n1 = 0 ∧ c1 = 0) := z1
  have Z2 : Hid (a2 = none → n2 = 0 ∧ c2 = 0) := z2
  obtain ⟨iL, hiL, hzL0, hzL1, hzL2⟩ := info_parts Try.infoLk9
  have hw : New w ((w.alloc (.cells #[.int .i64 sa, .int .i64 si, .int .i64 ho, .int .i64 nx, .slice a1 n1 c1, .slice a2 n2 c2] 31)).alloc (.cells #[.int .i64 0, .int .i64 0, .int .i64 0, .int .i64 0, .slice none 0 0, .slice none 0 0, .slice none 0 0, .slice none 0 0] 35)) := ((New.refl w).alloc _).alloc _
  have bA : Blk ((w.alloc (.cells #[.int .i64 sa, .int .i64 si, .int .i64 ho, .int .i64 nx, .slice a1 n1 c1, .slice a2 n2 c2] 31)).alloc (.cells #[.int .i64 0, .int .i64 0, .int .i64 0, .int .i64 0, .slice none 0 0, .slice none 0 0, .slice none 0 0, .slice none 0 0] 35)) w.heap.size 31 #[.int .i64 sa, .int .i64 si, .int .i64 ho, .int .i64 nx, .slice a1 n1 c1, .slice a2 n2 c2] := (Blk.mk _ _ _ _ rfl).alloc _
  have bB : Blk ((w.alloc (.cells #[.int .i64 sa, .int .i64 si, .int .i64 ho, .int .i64 nx, .slice a1 n1 c1, .slice a2 n2 c2] 31)).alloc (.cells #[.int .i64 0, .int .i64 0, .int .i64 0, .int .i64 0, .slice none 0 0, .slice none 0 0, .slice none 0 0, .slice none 0 0] 35)) (w.heap.size + 1) 35 #[.int .i64 0, .int .i64 0, .int .i64 0, .int .i64 0, .slice none 0 0, .slice none 0 0, .slice none 0 0, .slice none 0 0] := Blk.mk _ _ _ _ (by simp)
  have SZ0 : Hid (((w.alloc (.cells #[.int .i64 sa, .int .i64 si, .int .i64 ho, .int .i64 nx, .slice a1 n1 c1, .slice a2 n2 c2] 31)).alloc (.cells #[.int .i64 0, .int .i64 0, .int .i64 0, .int .i64 0, .slice none 0 0, .slice none 0 0, .slice none 0 0, .slice none 0 0] 35)).heap.size = w.heap.size + 2) := by show _ = _; simp
  clear e1 e2 z1 z2
  go_enter Try.func15, Try.ntmps15
  go_upto_region 1 with fail
  generalize ((w.alloc (.cells #[.int .i64 sa, .int .i64 si, .int .i64 ho, .int .i64 nx, .slice a1 n1 c1, .slice a2 n2 c2] 31)).alloc (.cells #[.int .i64 0, .int .i64 0, .int .i64 0, .int .i64 0, .slice none 0 0, .slice none 0 0, .slice none 0 0, .slice none 0 0] 35)) = w0 at *
  have cA := bA.cells
  go_wp2_with fail
  refine (specSe9 sa si ho nx a1 a2 n1 c1 n2 c2 r1 r2 _ (h1.new hw) (h2.new hw) E1.out E2.out m1 m2 Z1.out Z2.out).mono ?_
  rintro e wS ⟨x1, d1, x2, d2, rfl, o1, o2, hn1⟩
  have sz0 := SZ0.out
  have szS := hn1.size
  have p1 := o1.low (lo' := w.heap.size + 2) (by omega)
  have p2 := o2.low (lo' := w.heap.size + 2) (by omega)
  have al : New wS (wS.alloc (.cells #[.int .i64 sa, .int .i64 si, .int .i64 ho, .int .i64 nx, .slice x1 n1 d1, .slice x2 n2 d2, .slice none 0 0, .slice none 0 0] 35)) := (New.refl wS).alloc _
  have HI0 : SpIn w (wS.alloc (.cells #[.int .i64 sa, .int .i64 si, .int .i64 ho, .int .i64 nx, .slice x1 n1 d1, .slice x2 n2 d2, .slice none 0 0, .slice none 0 0] 35)) wS.heap.size sa si ho nx n1 n2 x1 d1 x2 d2 r1 r2 0 none 0 := ⟨(hw.trans hn1).trans al, Blk.mk _ _ _ _ rfl, (bB.new hn1).new al, p1.new al, p2.new al, ⟨rfl, .inl ⟨rfl, rfl⟩⟩, by intro k _ h; simp [Value.ownBlock] at h, by intro k _ h; simp [Value.ownBlock] at h, fun k hk => by have := (p1.blk k hk).2; omega, fun k hk => by have := (p2.blk k hk).2; omega, by intro k h; simp [Value.ownBlock] at h, by omega⟩
  clear cA bA bB o1 o2 p1 p2 hn1 al sz0 szS hw h1 h2
  go_upto_region 2 with fail
  generalize wS.alloc (.cells #[.int .i64 sa, .int .i64 si, .int .i64 ho, .int .i64 nx, .slice x1 n1 d1, .slice x2 n2 d2, .slice none 0 0, .slice none 0 0] 35) = V0 at *
  generalize wS.heap.size = B3 at *
  go_wp2
  refine wp_loop_rounds 4 ?_
  rw [rounds_succ]
  have al0 : New V0 (V0.alloc (.cells #[.int .i64 0, .int .i64 0, .int .i64 0, .int .i64 0, .int .i64 0, .slice none 0 0, .slice none 0 0] 76)) := (New.refl V0).alloc _
  have hJ0 := HI0.new al0
  have cR := hJ0.br.cells
  have cR' := HI0.br.cells
  have c0 := (Blk.mk V0 V0.heap.size 76 #[.int .i64 0, .int .i64 0, .int .i64 0, .int .i64 0, .int .i64 0, .slice none 0 0, .slice none 0 0] rfl).cells
  have ba0 : Hid (w.heap.size + 2 ≤ (V0.alloc (.cells #[.int .i64 0, .int .i64 0, .int .i64 0, .int .i64 0, .int .i64 0, .slice none 0 0, .slice none 0 0] 76)).heap.size) := (show w.heap.size + 2 ≤ (V0.alloc (.cells #[.int .i64 0, .int .i64 0, .int .i64 0, .int .i64 0, .int .i64 0, .slice none 0 0, .slice none 0 0] 76)).heap.size by have := hJ0.hb; have := hJ0.b3; omega)
  go_wp2_with (at_builtin; refine wpList_apV _ rfl (.tmp 13) (.tmp 15) rfl (w.heap.size + 2) 7 88 (.agg #[.int .i64 0, .int .i64 0, .int .i64 0, .int .i64 0, .int .i64 0, .slice none 0 0, .slice none 0 0]) Try.underlying32 hiL hzL0 hzL1 hzL2 rfl (by omega) (by omega) _ _ _ rfl hJ0.ol V0.heap.size [Value.int .i64 0, .int .i64 0, .int .i64 0, .int .i64 0, .int .i64 0, .slice none 0 0, .slice none 0 0] rfl (by simp [Value.oneCell']) rfl (by intro j u hu; rw [c0 j, List.getElem?_toArray]; exact hu) (by omega) ba0.out ?_)
  intro v1 u1 o1 g1 ob1
  obtain ⟨y1, e1, hv, -, -⟩ := row9_form o1
  have hv' : v1 = .slice y1 1 e1 := hv
  subst hv'
  have HI1 : SpIn w (u1.setCell ⟨B3, 6, none⟩ (.slice y1 1 e1)) B3 sa si ho nx n1 n2 x1 d1 x2 d2 r1 r2 1 y1 e1 := hJ0.link o1 g1 (by simpa using ob1)
  have b36 := hJ0.br.turn (turn_of_grown g1) (fun e => hJ0.bl B3 e rfl)
  have c36 := b36.cells
  have f36 := b36.frees
  clear cR cR' c0 ba0 al0 hJ0 HI0 b36 o1 g1 ob1 hv
  go_wp2_with fail
  generalize (u1.setCell ⟨B3, 6, none⟩ (.slice y1 1 e1)) = V1 at *
  clear c36 f36
  rw [rounds_succ]
  have al1 : New V1 (V1.alloc (.cells #[.int .i64 0, .int .i64 0, .int .i64 0, .int .i64 0, .int .i64 0, .slice none 0 0, .slice none 0 0] 76)) := (New.refl V1).alloc _
  have hJ1 := HI1.new al1
  have cR := hJ1.br.cells
  have cR' := HI1.br.cells
  have c1 := (Blk.mk V1 V1.heap.size 76 #[.int .i64 0, .int .i64 0, .int .i64 0, .int .i64 0, .int .i64 0, .slice none 0 0, .slice none 0 0] rfl).cells
  have ba1 : Hid (w.heap.size + 2 ≤ (V1.alloc (.cells #[.int .i64 0, .int .i64 0, .int .i64 0, .int .i64 0, .int .i64 0, .slice none 0 0, .slice none 0 0] 76)).heap.size) := (show w.heap.size + 2 ≤ (V1.alloc (.cells #[.int .i64 0, .int .i64 0, .int .i64 0, .int .i64 0, .int .i64 0, .slice none 0 0, .slice none 0 0] 76)).heap.size by have := hJ1.hb; have := hJ1.b3; omega)
  go_wp2_with (at_builtin; refine wpList_apV _ rfl (.tmp 13) (.tmp 15) rfl (w.heap.size + 2) 7 88 (.agg #[.int .i64 0, .int .i64 0, .int .i64 0, .int .i64 0, .int .i64 0, .slice none 0 0, .slice none 0 0]) Try.underlying32 hiL hzL0 hzL1 hzL2 rfl (by omega) (by omega) _ _ _ rfl hJ1.ol V1.heap.size [Value.int .i64 0, .int .i64 0, .int .i64 0, .int .i64 0, .int .i64 0, .slice none 0 0, .slice none 0 0] rfl (by simp [Value.oneCell']) rfl (by intro j u hu; rw [c1 j, List.getElem?_toArray]; exact hu) (by omega) ba1.out ?_)
  intro v2 u2 o2 g2 ob2
  obtain ⟨y2, e2, hv, -, -⟩ := row9_form o2
  have hv' : v2 = .slice y2 2 e2 := hv
  subst hv'
  have HI2 : SpIn w (u2.setCell ⟨B3, 6, none⟩ (.slice y2 2 e2)) B3 sa si ho nx n1 n2 x1 d1 x2 d2 r1 r2 2 y2 e2 := hJ1.link o2 g2 (by simpa using ob2)
  have b36 := hJ1.br.turn (turn_of_grown g2) (fun e => hJ1.bl B3 e rfl)
  have c36 := b36.cells
  have f36 := b36.frees
  clear cR cR' c1 ba1 al1 hJ1 HI1 b36 o2 g2 ob2 hv
  go_wp2_with fail
  generalize (u2.setCell ⟨B3, 6, none⟩ (.slice y2 2 e2)) = V2 at *
  clear c36 f36
  rw [rounds_succ]
  have al2 : New V2 (V2.alloc (.cells #[.int .i64 0, .int .i64 0, .int .i64 0, .int .i64 0, .int .i64 0, .slice none 0 0, .slice none 0 0] 76)) := (New.refl V2).alloc _
  have hJ2 := HI2.new al2
  have cR := hJ2.br.cells
  have cR' := HI2.br.cells
  have c2 := (Blk.mk V2 V2.heap.size 76 #[.int .i64 0, .int .i64 0, .int .i64 0, .int .i64 0, .int .i64 0, .slice none 0 0, .slice none 0 0] rfl).cells
  have ba2 : Hid (w.heap.size + 2 ≤ (V2.alloc (.cells #[.int .i64 0, .int .i64 0, .int .i64 0, .int .i64 0, .int .i64 0, .slice none 0 0, .slice none 0 0] 76)).heap.size) := (show w.heap.size + 2 ≤ (V2.alloc (.cells #[.int .i64 0, .int .i64 0, .int .i64 0, .int .i64 0, .int .i64 0, .slice none 0 0, .slice none 0 0] 76)).heap.size by have := hJ2.hb; have := hJ2.b3; omega)
  go_wp2_with (at_builtin; refine wpList_apV _ rfl (.tmp 13) (.tmp 15) rfl (w.heap.size + 2) 7 88 (.agg #[.int .i64 0, .int .i64 0, .int .i64 0, .int .i64 0, .int .i64 0, .slice none 0 0, .slice none 0 0]) Try.underlying32 hiL hzL0 hzL1 hzL2 rfl (by omega) (by omega) _ _ _ rfl hJ2.ol V2.heap.size [Value.int .i64 0, .int .i64 0, .int .i64 0, .int .i64 0, .int .i64 0, .slice none 0 0, .slice none 0 0] rfl (by simp [Value.oneCell']) rfl (by intro j u hu; rw [c2 j, List.getElem?_toArray]; exact hu) (by omega) ba2.out ?_)
  intro v3 u3 o3 g3 ob3
  obtain ⟨y3, e3, hv, -, -⟩ := row9_form o3
  have hv' : v3 = .slice y3 3 e3 := hv
  subst hv'
  have HI3 : SpIn w (u3.setCell ⟨B3, 6, none⟩ (.slice y3 3 e3)) B3 sa si ho nx n1 n2 x1 d1 x2 d2 r1 r2 3 y3 e3 := hJ2.link o3 g3 (by simpa using ob3)
  have b36 := hJ2.br.turn (turn_of_grown g3) (fun e => hJ2.bl B3 e rfl)
  have c36 := b36.cells
  have f36 := b36.frees
  clear cR cR' c2 ba2 al2 hJ2 HI2 b36 o3 g3 ob3 hv
  go_wp2_with fail
  generalize (u3.setCell ⟨B3, 6, none⟩ (.slice y3 3 e3)) = V3 at *
  clear c36 f36
  rw [rounds_succ]
  have cR := HI3.br.cells
  have cB := HI3.bb.cells
  have fB := HI3.bb.frees
  have H3 : Hid _ := HI3
  clear HI3
  go_wp2
  have t8 := set8n V3 (w.heap.size + 1) (.int .i64 sa) (.int .i64 si) (.int .i64 ho) (.int .i64 nx) (.slice x1 n1 d1) (.slice x2 n2 d2) (.slice y3 3 e3) (.slice none 0 0)
  refine bodyPost_ret (v := .agg #[.int .i64 sa, .int .i64 si, .int .i64 ho, .int .i64 nx, .slice x1 n1 d1, .slice x2 n2 d2, .slice y3 3 e3, .slice none 0 0]) (by simp [results, Try.results15, go_sem, cB]) rfl ⟨⟨x1, d1, x2, d2, y3, e3, rfl, ?_, ?_, ?_⟩, ?_⟩
  · exact H3.out.o1.turn t8 (fun j hj e => by have := (H3.out.o1.blk j hj).1; omega)
  · exact H3.out.o2.turn t8 (fun j hj e => by have := (H3.out.o2.blk j hj).1; omega)
  · obtain ⟨_, _, _, _, fl⟩ := row9_form H3.out.ol
    exact row9_turn H3.out.ol t8 (fun j hj e => by have := (fl j hj).1; omega)
  · exact H3.out.nw.before t8 (by intro i hi e; omega)

end Go.Proofs.Ytmmkdmebmbpkgaa
