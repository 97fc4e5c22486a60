/- What is proved here: what the program's copy of an entry answers, for every entry of at most 1048576 bytes. -/
import Derived.Test.YthnigcalboobgaaE10Cc
namespace Go.Proofs.Ythnigcalboobgaa
open Go.RowKit
set_option linter.unusedVariables false
set_option linter.unusedSimpArgs false
set_option maxRecDepth 100000

set_option maxHeartbeats 1600000 in
theorem copyE (ep ki pe : Int) (x : Option Addr) (n c : Nat) (zs : List Int) (w : World) (hx : BsAt w x zs) (hn : zs.length = n) (hnx : x = none → n = 0 ∧ c = 0) (hn1 : n ≤ 1048576) :
    Calls Try.prog 83 #[.agg #[.int .i64 ep, .int .i64 ki, .int .i64 pe, .slice x n c]] w fun e w' => ∃ (a' : Option Addr) (c' : Nat), e = .returned (.agg #[.int .i64 ep, .int .i64 ki, .int .i64 pe, .slice a' n c']) ∧ OvB w' w.heap.size (.slice a' n c') zs ∧ New w w' := by
  have hw := (((New.refl w).alloc (.cells #[.int .i64 ep, .int .i64 ki, .int .i64 pe, .slice x n c] 44)).alloc (.cells #[.int .i64 0, .int .i64 0, .int .i64 0, .slice none 0 0] 44)).alloc (.cells #[.slice x n c] 25)
  have b0 := ((Blk.mk w w.heap.size 44 #[.int .i64 ep, .int .i64 ki, .int .i64 pe, .slice x n c] rfl).alloc (.cells #[.int .i64 0, .int .i64 0, .int .i64 0, .slice none 0 0] 44)).alloc (.cells #[.slice x n c] 25)
  have b1 := (Blk.mk (w.alloc (.cells #[.int .i64 ep, .int .i64 ki, .int .i64 pe, .slice x n c] 44)) (w.heap.size + 1) 44 #[.int .i64 0, .int .i64 0, .int .i64 0, .slice none 0 0] (by simp)).alloc (.cells #[.slice x n c] 25)
  have b2 := Blk.mk ((w.alloc (.cells #[.int .i64 ep, .int .i64 ki, .int .i64 pe, .slice x n c] 44)).alloc (.cells #[.int .i64 0, .int .i64 0, .int .i64 0, .slice none 0 0] 44)) (w.heap.size + 1 + 1) 25 #[.slice x n c] (by simp)
  have hz := hx.lt
  go_enter Try.func83, Try.ntmps83
  go_wp2_with fail
  refine (concat1 (w.heap.size + 1 + 1) x n c zs _ (b2.cells 0) (hx.new hw) hn hnx hn1).mono ?_
  rintro e w1 ⟨v, rfl, ho, hn1'⟩
  obtain ⟨a', c', rfl, -, -, -, -⟩ := ho.bs hz
  rw [hn] at ho ⊢
  have b01 := b0.new hn1'
  have b11 := b1.new hn1'
  have c0 := b01.cells
  have f0 := b01.frees
  have c1 := b11.cells
  have f1 := b11.frees
  have hw1 := hw.trans hn1'
  go_wp2
  refine bodyPost_ret (v := .agg #[.int .i64 ep, .int .i64 ki, .int .i64 pe, .slice a' n c']) (by simp [results, Try.results83, go_sem, c1]) rfl ⟨a', c', rfl, ?_, ?_⟩
  · refine (OvB.turn (S := fun i => i = w.heap.size + 1 ∨ i = w.heap.size) ho ?_ (by intro k hk _ e; simp at hk; omega)).low (by simp; omega)
    exact Turn.set (S := fun i => i = w.heap.size + 1 ∨ i = w.heap.size) (Turn.set (S := fun i => i = w.heap.size + 1 ∨ i = w.heap.size) (Turn.set (S := fun i => i = w.heap.size + 1 ∨ i = w.heap.size) (Turn.set (S := fun i => i = w.heap.size + 1 ∨ i = w.heap.size) (Turn.set (S := fun i => i = w.heap.size + 1 ∨ i = w.heap.size) (Turn.refl _ _) (Or.inr rfl) _) (Or.inl rfl) _) (Or.inl rfl) _) (Or.inl rfl) _) (Or.inl rfl) _
  · exact ((((hw1.setCell (by simp) _).setCell (by simp) _).setCell (by simp) _).setCell (by simp) _).setCell (by simp) _

end Go.Proofs.Ythnigcalboobgaa
