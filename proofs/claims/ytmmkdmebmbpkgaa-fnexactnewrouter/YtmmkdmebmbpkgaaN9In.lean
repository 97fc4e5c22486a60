/- What is proved here: what is kept while the result of a new router is made. No condition. -/
import Derived.Test.YtmmkdmebmbpkgaaN9Ap
import Derived.Test.YtmmkdmebmbpkgaaN9Ix
namespace Go.Proofs.Ytmmkdmebmbpkgaa
open Go.RowKit Go.Sort
set_option linter.unusedVariables false

/-- The cells of so many links of zeros. -/
def lz9 (k : Nat) : List Value := (List.replicate k [Value.int .i64 0, .int .i64 0, .int .i64 0, .int .i64 0, .int .i64 0, .slice none 0 0, .slice none 0 0]).flatten
theorem lz9_succ (k : Nat) : lz9 (k + 1) = lz9 k ++ [Value.int .i64 0, .int .i64 0, .int .i64 0, .int .i64 0, .int .i64 0, .slice none 0 0, .slice none 0 0] := by
  unfold lz9
  rw [List.replicate_succ', List.flatten_append]
  simp

/-- What is made, behind so many links and outs. -/
structure ResIn (w wr : World) (B3 : Nat) (sa si ho nx : Int) (n1 n2 : Nat) (x1 : Option Addr) (d1 : Nat) (x2 : Option Addr) (d2 : Nat) (r1 r2 : List Ru) (kl ko : Nat) (yl : Option Addr) (dl : Nat) (yo : Option Addr) (dO : Nat) : Prop where
  nw : New w wr
  br : Blk wr B3 38 #[.int .i64 0, .int .i64 sa, .int .i64 si, .int .i64 ho, .int .i64 nx, .slice x1 n1 d1, .slice x2 n2 d2, .slice yl kl dl, .slice none 0 0, .slice yo ko dO]
  bb : Blk wr (w.heap.size + 1) 38 #[.int .i64 0, .int .i64 0, .int .i64 0, .int .i64 0, .int .i64 0, .slice none 0 0, .slice none 0 0, .slice none 0 0, .slice none 0 0, .slice none 0 0]
  o1 : OvR wr (w.heap.size + 2) (.slice x1 n1 d1) r1
  o2 : OvR wr (w.heap.size + 2) (.slice x2 n2 d2) r2
  ol : wr.ownsRow (w.heap.size + 2) 76 7 (.slice yl kl dl) kl (lz9 kl)
  oo : wr.ownsRow (w.heap.size + 2) 54 1 (.slice yo ko dO) ko (List.replicate ko (.slice none 0 0))
  a12 : ∀ j, (Value.slice x1 n1 d1).ownBlock = some j → (Value.slice x2 n2 d2).ownBlock ≠ some j
  a1l : ∀ j, (Value.slice x1 n1 d1).ownBlock = some j → (Value.slice yl kl dl).ownBlock ≠ some j
  a1o : ∀ j, (Value.slice x1 n1 d1).ownBlock = some j → (Value.slice yo ko dO).ownBlock ≠ some j
  a2l : ∀ j, (Value.slice x2 n2 d2).ownBlock = some j → (Value.slice yl kl dl).ownBlock ≠ some j
  a2o : ∀ j, (Value.slice x2 n2 d2).ownBlock = some j → (Value.slice yo ko dO).ownBlock ≠ some j
  alo : ∀ j, (Value.slice yl kl dl).ownBlock = some j → (Value.slice yo ko dO).ownBlock ≠ some j
  b1 : ∀ j, (Value.slice x1 n1 d1).ownBlock = some j → j ≠ B3
  b2 : ∀ j, (Value.slice x2 n2 d2).ownBlock = some j → j ≠ B3
  bl : ∀ j, (Value.slice yl kl dl).ownBlock = some j → j ≠ B3
  bo : ∀ j, (Value.slice yo ko dO).ownBlock = some j → j ≠ B3
  hb : w.heap.size + 2 ≤ B3

theorem ResIn.new {w W : World} {B3 : Nat} {sa si ho nx : Int} {n1 n2 : Nat} {x1 : Option Addr} {d1 : Nat} {x2 : Option Addr} {d2 : Nat} {r1 r2 : List Ru} {kl ko : Nat} {yl : Option Addr} {dl : Nat} {yo : Option Addr} {dO : Nat} {W' : World} (h : ResIn w W B3 sa si ho nx n1 n2 x1 d1 x2 d2 r1 r2 kl ko yl dl yo dO) (t : New W W') : ResIn w W' B3 sa si ho nx n1 n2 x1 d1 x2 d2 r1 r2 kl ko yl dl yo dO :=
  ⟨h.nw.trans t, h.br.new t, h.bb.new t, h.o1.new t, h.o2.new t, row9_new h.ol t, row9_new h.oo t, h.a12, h.a1l, h.a1o, h.a2l, h.a2o, h.alo, h.b1, h.b2, h.bl, h.bo, h.hb⟩
theorem ResIn.b3 {w W : World} {B3 : Nat} {sa si ho nx : Int} {n1 n2 : Nat} {x1 : Option Addr} {d1 : Nat} {x2 : Option Addr} {d2 : Nat} {r1 r2 : List Ru} {kl ko : Nat} {yl : Option Addr} {dl : Nat} {yo : Option Addr} {dO : Nat} (h : ResIn w W B3 sa si ho nx n1 n2 x1 d1 x2 d2 r1 r2 kl ko yl dl yo dO) : B3 < W.heap.size := (Array.getElem?_eq_some_iff.1 h.br).1

/-- A link is put behind the others. -/
theorem ResIn.link {w W : World} {B3 : Nat} {sa si ho nx : Int} {n1 n2 : Nat} {x1 : Option Addr} {d1 : Nat} {x2 : Option Addr} {d2 : Nat} {r1 r2 : List Ru} {kl ko : Nat} {yl : Option Addr} {dl : Nat} {yo : Option Addr} {dO : Nat} {W' : World} {y : Option Addr} {d : Nat} (h : ResIn w W B3 sa si ho nx n1 n2 x1 d1 x2 d2 r1 r2 kl ko yl dl yo dO) (hrow : W'.ownsRow (w.heap.size + 2) 76 7 (.slice y (kl + 1) d) (kl + 1) (lz9 kl ++ [Value.int .i64 0, .int .i64 0, .int .i64 0, .int .i64 0, .int .i64 0, .slice none 0 0, .slice none 0 0])) (hg : W.grownBy W' (Value.slice yl kl dl).ownBlock) (hob : (Value.slice y (kl + 1) d).ownBlock = (Value.slice yl kl dl).ownBlock ∨ (Value.slice y (kl + 1) d).ownBlock = some W.heap.size) :
    ResIn w (W'.setCell ⟨B3, 7, none⟩ (.slice y (kl + 1) d)) B3 sa si ho nx n1 n2 x1 d1 x2 d2 r1 r2 (kl + 1) ko y d yo dO := by
  have t1 := turn_of_grown hg
  have t2 : Turn (fun k => k = B3) W' (W'.setCell ⟨B3, 7, none⟩ (.slice y (kl + 1) d)) := Turn.here9 (Turn.refl _ _) _
  have f1 := fun j hj => (h.o1.blk j hj).2
  have f2 := fun j hj => (h.o2.blk j hj).2
  obtain ⟨_, _, _, _, fo⟩ := row9_form h.oo
  obtain ⟨_, _, _, _, fl⟩ := row9_form h.ol
  have f3 := h.b3
  have key : ∀ {u : Value}, (∀ j, u.ownBlock = some j → j < W.heap.size) → (∀ j, u.ownBlock = some j → (Value.slice yl kl dl).ownBlock ≠ some j) → ∀ j, u.ownBlock = some j → (Value.slice y (kl + 1) d).ownBlock ≠ some j := by
    intro u hu hl j hj e
    rcases hob with e1 | e1
    · exact hl j hj (e1 ▸ e)
    · have := hu j hj
      rw [e1] at e
      have := Option.some.inj e
      omega
  have bb2 := h.bb
  have hbs : w.heap.size + 1 < W.heap.size := (Array.getElem?_eq_some_iff.1 bb2).1
  have n1' : New w W' := h.nw.grow hg (fun k hk => by have := (fl k hk).1; omega)
  refine ⟨n1'.before t2 (by intro i hi e; have := h.hb; omega), ?_, ?_, ?_, ?_, ?_, ?_, h.a12, ?_, h.a1o, ?_, h.a2o, ?_, h.b1, h.b2, ?_, h.bo, h.hb⟩
  · have hB := h.br.turn t1 (fun e => h.bl B3 e rfl)
    exact hB.set 7 (.slice y (kl + 1) d)
  · exact (bb2.turn t1 (fun e => by have := (fl _ e).1; omega)).turn t2 (by have := h.hb; omega)
  · exact (h.o1.turn t1 (fun j hj e => h.a1l j hj e)).turn t2 (fun j hj e => h.b1 j hj e)
  · exact (h.o2.turn t1 (fun j hj e => h.a2l j hj e)).turn t2 (fun j hj e => h.b2 j hj e)
  · rw [lz9_succ]
    refine row9_turn hrow t2 (fun j hj e => ?_)
    subst e
    rcases hob with e1 | e1
    · exact h.bl _ (e1 ▸ hj) rfl
    · rw [e1] at hj
      have := Option.some.inj hj
      omega
  · exact row9_turn (row9_turn h.oo t1 (fun j hj e => h.alo j e hj)) t2 (fun j hj e => h.bo j hj e)
  · exact key f1 h.a1l
  · exact key f2 h.a2l
  · intro j hj e
    exact key (u := .slice yo ko dO) (fun j hj => (fo j hj).2) (fun j hj e => h.alo j e hj) j e hj
  · intro j hj e
    subst e
    rcases hob with e1 | e1
    · exact h.bl _ (e1 ▸ hj) rfl
    · rw [e1] at hj
      have := Option.some.inj hj
      omega

/-- An out is put behind the others. -/
theorem ResIn.out {w W : World} {B3 : Nat} {sa si ho nx : Int} {n1 n2 : Nat} {x1 : Option Addr} {d1 : Nat} {x2 : Option Addr} {d2 : Nat} {r1 r2 : List Ru} {kl ko : Nat} {yl : Option Addr} {dl : Nat} {yo : Option Addr} {dO : Nat} {W' : World} {y : Option Addr} {d : Nat} (h : ResIn w W B3 sa si ho nx n1 n2 x1 d1 x2 d2 r1 r2 kl ko yl dl yo dO) (hrow : W'.ownsRow (w.heap.size + 2) 54 1 (.slice y (ko + 1) d) (ko + 1) (List.replicate ko (.slice none 0 0) ++ [Value.slice none 0 0])) (hg : W.grownBy W' (Value.slice yo ko dO).ownBlock) (hob : (Value.slice y (ko + 1) d).ownBlock = (Value.slice yo ko dO).ownBlock ∨ (Value.slice y (ko + 1) d).ownBlock = some W.heap.size) :
    ResIn w (W'.setCell ⟨B3, 9, none⟩ (.slice y (ko + 1) d)) B3 sa si ho nx n1 n2 x1 d1 x2 d2 r1 r2 kl (ko + 1) yl dl y d := by
  have t1 := turn_of_grown hg
  have t2 : Turn (fun k => k = B3) W' (W'.setCell ⟨B3, 9, none⟩ (.slice y (ko + 1) d)) := Turn.here9 (Turn.refl _ _) _
  have f1 := fun j hj => (h.o1.blk j hj).2
  have f2 := fun j hj => (h.o2.blk j hj).2
  obtain ⟨_, _, _, _, fo⟩ := row9_form h.oo
  obtain ⟨_, _, _, _, fl⟩ := row9_form h.ol
  have f3 := h.b3
  have key : ∀ {u : Value}, (∀ j, u.ownBlock = some j → j < W.heap.size) → (∀ j, u.ownBlock = some j → (Value.slice yo ko dO).ownBlock ≠ some j) → ∀ j, u.ownBlock = some j → (Value.slice y (ko + 1) d).ownBlock ≠ some j := by
    intro u hu hl j hj e
    rcases hob with e1 | e1
    · exact hl j hj (e1 ▸ e)
    · have := hu j hj
      rw [e1] at e
      have := Option.some.inj e
      omega
  have bb2 := h.bb
  have hbs : w.heap.size + 1 < W.heap.size := (Array.getElem?_eq_some_iff.1 bb2).1
  have n1' : New w W' := h.nw.grow hg (fun k hk => by have := (fo k hk).1; omega)
  refine ⟨n1'.before t2 (by intro i hi e; have := h.hb; omega), ?_, ?_, ?_, ?_, ?_, ?_, h.a12, h.a1l, ?_, h.a2l, ?_, ?_, h.b1, h.b2, h.bl, ?_, h.hb⟩
  · have hB := h.br.turn t1 (fun e => h.bo B3 e rfl)
    exact hB.set 9 (.slice y (ko + 1) d)
  · exact (bb2.turn t1 (fun e => by have := (fo _ e).1; omega)).turn t2 (by have := h.hb; omega)
  · exact (h.o1.turn t1 (fun j hj e => h.a1o j hj e)).turn t2 (fun j hj e => h.b1 j hj e)
  · exact (h.o2.turn t1 (fun j hj e => h.a2o j hj e)).turn t2 (fun j hj e => h.b2 j hj e)
  · exact row9_turn (row9_turn h.ol t1 (fun j hj e => h.alo j hj e)) t2 (fun j hj e => h.bl j hj e)
  · rw [List.replicate_succ']
    refine row9_turn hrow t2 (fun j hj e => ?_)
    subst e
    rcases hob with e1 | e1
    · exact h.bo _ (e1 ▸ hj) rfl
    · rw [e1] at hj
      have := Option.some.inj hj
      omega
  · exact key f1 h.a1o
  · exact key f2 h.a2o
  · exact key (fun j hj => (fl j hj).2) h.alo
  · intro j hj e
    subst e
    rcases hob with e1 | e1
    · exact h.bo _ (e1 ▸ hj) rfl
    · rw [e1] at hj
      have := Option.some.inj hj
      omega

/-- The lists of a new router and of what it sends are the call's own, and lie apart. -/
structure NwOwn (w W : World) (n1 n2 : Nat) (x1 : Option Addr) (d1 : Nat) (x2 : Option Addr) (d2 : Nat) (r1 r2 : List Ru) (yl : Option Addr) (dl : Nat) (yo : Option Addr) (dO : Nat) : Prop where
  nw : New w W
  o1 : OvR W (w.heap.size + 2) (.slice x1 n1 d1) r1
  o2 : OvR W (w.heap.size + 2) (.slice x2 n2 d2) r2
  ol : W.ownsRow (w.heap.size + 2) 76 7 (.slice yl 3 dl) 3 (lz9 3)
  oo : W.ownsRow (w.heap.size + 2) 54 1 (.slice yo 3 dO) 3 (List.replicate 3 (.slice none 0 0))
  a12 : ∀ j, (Value.slice x1 n1 d1).ownBlock = some j → (Value.slice x2 n2 d2).ownBlock ≠ some j
  a1l : ∀ j, (Value.slice x1 n1 d1).ownBlock = some j → (Value.slice yl 3 dl).ownBlock ≠ some j
  a1o : ∀ j, (Value.slice x1 n1 d1).ownBlock = some j → (Value.slice yo 3 dO).ownBlock ≠ some j
  a2l : ∀ j, (Value.slice x2 n2 d2).ownBlock = some j → (Value.slice yl 3 dl).ownBlock ≠ some j
  a2o : ∀ j, (Value.slice x2 n2 d2).ownBlock = some j → (Value.slice yo 3 dO).ownBlock ≠ some j
  alo : ∀ j, (Value.slice yl 3 dl).ownBlock = some j → (Value.slice yo 3 dO).ownBlock ≠ some j

theorem ResIn.done {w W : World} {B3 : Nat} {sa si ho nx : Int} {n1 n2 : Nat} {x1 : Option Addr} {d1 : Nat} {x2 : Option Addr} {d2 : Nat} {r1 r2 : List Ru} {yl : Option Addr} {dl : Nat} {yo : Option Addr} {dO : Nat} {W' : World} (h : ResIn w W B3 sa si ho nx n1 n2 x1 d1 x2 d2 r1 r2 3 3 yl dl yo dO) (t : Turn (fun k => k = w.heap.size + 1) W W') : NwOwn w W' n1 n2 x1 d1 x2 d2 r1 r2 yl dl yo dO := by
  obtain ⟨_, _, _, _, fo⟩ := row9_form h.oo
  obtain ⟨_, _, _, _, fl⟩ := row9_form h.ol
  refine ⟨h.nw.before t (by intro i hi e; omega), h.o1.turn t (fun j hj e => by have := (h.o1.blk j hj).1; omega), h.o2.turn t (fun j hj e => by have := (h.o2.blk j hj).1; omega), row9_turn h.ol t (fun j hj e => by have := (fl j hj).1; omega), row9_turn h.oo t (fun j hj e => by have := (fo j hj).1; omega), h.a12, h.a1l, h.a1o, h.a2l, h.a2o, h.alo⟩

end Go.Proofs.Ytmmkdmebmbpkgaa
