/- What is proved here: a range over a method value whose iterator turns memory that lay ahead of the loop; and what the heap's iterator hands over first. -/
import Derived.RangeFuncNested
import Derived.RangeFuncBound
import Derived.RangeFuncCalls
import Derived.RangeFuncLeaves
import Derived.Shelf.Abstract
import Derived.Shelf.RegionOpen
import Derived.WalkKit
import Derived.OwnWalkIn
import Derived.TacticsInMore
import Derived.LoopNIn
import Derived.LoopIn
import Derived.Test.YtkaaefieglhdlaaH8Hp
namespace Go.Proofs.Ytkaaefieglhdlaa
open Go.RowKit Go.Sort Go.Shelf
set_option linter.unusedVariables false
set_option linter.unusedSimpArgs false
set_option maxRecDepth 100000
attribute [local go_sem] Oper.semAt_some

section
variable {F : Fence} {n : Nat} {P : Program}
/-- The statement, told by the loop's record and the block of the rounds' deferred calls. -/
theorem wpIn_range8 {g : Operand} {ps : Array Tmp} {assign body : Code} {Q : Exit → Act → World → Prop} {a : Act} {w : World} (hro : F.round = none) (h1 : 1 ≤ n) {gf : Nat} {v0 : Value} (hg : a.eval g = .func (.func gf) #[v0] #[]) (hFg : F.fn gf) (eg : ∀ args w, (callFunc gf args).run P w = .ok (.enter gf args) w)
    (h : ∀ (fn : FuncId) (W1 : World) (rec : Loop), F.fn fn → New w W1 → W1.heap.size = w.heap.size + 2 → rec = { state := .ready, pending := none, fn, tmps := a.tmps, params := ps, assign, body, defers := w.heap.size } → W1.heap[w.heap.size + 1]? = some (.loop rec) → W1.heap[w.heap.size]? = some (.deferred (some [])) →
      CallsIn F (n - 1) P gf #[v0, .func (.yield (w.heap.size + 1)) #[] #[]] W1 fun e W2 => (∃ v, e = .returned v) ∧ ∃ st pe, st ≠ .busy ∧ W2.heap[w.heap.size + 1]? = some (.loop { rec with state := st, pending := pe }) ∧ W2.heap[w.heap.size]? = some (.deferred (some [])) ∧
        ∀ W3, W3 = W2.putObj (w.heap.size + 1) (.loop { rec with state := .exhausted, pending := pe }) →
          (match pe with
          | none => Q .normal { a with defers := { target := .collected w.heap.size, args := #[] } :: a.defers } W3
          | some c => c.wpIn F n P Q { a with defers := { target := .collected w.heap.size, args := #[] } :: a.defers } W3)) :
    (Code.rangeFunc g ps assign body).wpIn F n P Q a w := by
  refine wpIn_rangeFunc fun fn hfn => ?_
  rw [hro]
  have N1 : New w ((w.alloc (.deferred (some []))).alloc (.loop { state := .ready, pending := none, fn, tmps := a.tmps, params := ps, assign, body, defers := w.heap.size })) := ((New.refl w).alloc _).alloc _
  have hL : ((w.alloc (.deferred (some []))).alloc (.loop { state := .ready, pending := none, fn, tmps := a.tmps, params := ps, assign, body, defers := w.heap.size })).heap[w.heap.size + 1]? = some (.loop { state := .ready, pending := none, fn, tmps := a.tmps, params := ps, assign, body, defers := w.heap.size }) := by
    have e := World.alloc_heap_new (w.alloc (.deferred (some []))) (.loop { state := .ready, pending := none, fn, tmps := a.tmps, params := ps, assign, body, defers := w.heap.size })
    rw [World.size_alloc] at e
    exact e
  have hD : ((w.alloc (.deferred (some []))).alloc (.loop { state := .ready, pending := none, fn, tmps := a.tmps, params := ps, assign, body, defers := w.heap.size })).heap[w.heap.size]? = some (.deferred (some [])) :=
    (((New.refl (w.alloc (.deferred (some [])))).alloc _).block w.heap.size (by simp) (fun f => f)).trans (World.alloc_heap_new w _)
  have hsz : ((w.alloc (.deferred (some []))).alloc (.loop { state := .ready, pending := none, fn, tmps := a.tmps, params := ps, assign, body, defers := w.heap.size })).heap.size = w.heap.size + 2 := by simp
  have hE := run_enterLoop_outer (P := P) (w := w) fn a.tmps ps assign body
  generalize hrec : ({ state := .ready, pending := none, fn, tmps := a.tmps, params := ps, assign, body, defers := w.heap.size } : Loop) = rec at N1 hL hD hsz hE
  generalize (w.alloc (.deferred (some []))).alloc (.loop rec) = W1 at N1 hL hD hsz hE
  have hc := h fn W1 rec hfn N1 hsz hrec.symm hL hD
  refine ⟨w.heap.size + 1, [{ target := .collected w.heap.size, args := #[] }], W1, { target := .fn (.func gf) #[], args := #[v0, .func (.yield (w.heap.size + 1)) #[] #[]] }, W1, gf, #[v0, .func (.yield (w.heap.size + 1)) #[] #[]], W1, hE, ?_, ?_, ?_, fun _ => h1, ?_⟩
  · simp only [resolve, hg]
    simp [go_sem]
  · intro f' hf'
    simp [Target.leads] at hf'
    subst hf'
    exact hFg
  · simp [invoke, go_sem, eg]
  · refine hc.mono ?_
    rintro e W2 ⟨⟨v, rfl⟩, st, pe, hst, hl, hd, hQ⟩
    exact ⟨pe, _, run_endLoop (P := P) hl hst, hQ _ rfl⟩

/-- A round, told by its record. -/
theorem yield8 {m l : Nat} {rec : Loop} {W : World} {args : Array Value} {R : Ending → World → Prop} (hf : F.fn rec.fn) (hl : W.heap[l]? = some (.loop rec)) (hs : args.size = rec.params.size)
    (h : rec.assign.wpIn (F.inRound l) m P (Exit.then (fun a₁ w₁ => ∃ w₂, (Instr.beginRound l).run P w₁ = .ok () w₂ ∧ rec.body.wpIn (F.inRound l) m P (roundPost P l R) a₁ w₂) (fun _ _ _ => False)) { tmps := (rec.params.zip args).foldl (fun tmps (t, a) => tmps.setIfInBounds t a) rec.tmps, defers := [] } W) :
    YieldAt F m P l args W R := ⟨rec.fn, _, rec.assign, rec.body, run_yield hl hs, roundIn_of_wpIn hf h⟩
end

theorem Try.as_route (v : Value) (w : World) : (Instr.typeAssert (.iface 31 v) 20 31 false).run Try.prog w = .ok v w := by kernel_rfl

set_option maxHeartbeats 3200000 in
/-- What the heap's iterator hands over first; the round leaves. -/
theorem top8_first (l H b c : Nat) (V : List Rv) (n : Nat) (W : World) (R : World → Prop) (hp : HpAt W H b c V) (hn : V.length = n + 1) (hm : n + 1 ≤ 1048576) (hu : hpOK hlt (hf V) (n + 1))
    (hY : ∀ W2, Turn (fun k => k = b ∨ k = H) W W2 → YieldAt Fence.wide (3 - 1) Try.prog l #[(hf V 0).val] W2 fun e W3 => e = .returned (.bool false) ∧ R W3) :
    CallsIn Fence.wide 3 Try.prog 31 #[.pointer (some ⟨H, 0, none⟩), .func (.yield l) #[] #[]] W fun e W' => (∃ v, e = .returned v) ∧ R W' := by
  have hro : Fence.wide.round = none := rfl
  refine callsIn_of_wp Try.func31 rfl trivial ?_ hro
  simp only [Try.ntmps31, List.size_toArray, List.length_cons, List.length_nil, Nat.reduceAdd, Nat.reduceSub, Array.replicate_succ, Array.replicate_zero, List.push_toArray, List.append_toArray, List.nil_append, List.cons_append]
  gi_wp2
  gi_loopw [4] (fun p wr => wr = W) (fun _ _ => 0)
  case atStart => rfl
  case round =>
    subst hrel
    gi_wp2_with fail
    refine ⟨trivial, ?_⟩
    refine (callsIn_wide.2 (len_heap H b c V (n + 1) _ hp hn)).mono ?_
    rintro e w2 ⟨rfl, rfl⟩
    gi_wp2_with fail
    refine ⟨trivial, ?_⟩
    refine (callsIn_wide.2 (pop_heap H b c V n _ hp hn hm hu)).mono ?_
    rintro e w3 ⟨rfl, V', hp3, hl3, hpm, hk, ht⟩
    obtain ⟨fn, tmps, assign, body, hy, hR⟩ := hY w3 ht
    unfold Rv.val at hy
    unfold Rv.val
    have hta := Try.as_route
    gi_wp2
    refine hR.mono ?_
    rintro e w4 ⟨rfl, hR4⟩
    gi_wp2
    refine bodyPost_end (results_none rfl _ _ _) rfl ?_
    exact ⟨⟨_, rfl⟩, hR4⟩

/-- What the heap's iterator does of an empty heap: nothing. -/
theorem top8_none (l H b c : Nat) (W : World) (hp : HpAt W H b c []) :
    CallsIn Fence.wide 3 Try.prog 31 #[.pointer (some ⟨H, 0, none⟩), .func (.yield l) #[] #[]] W fun e W' => (∃ v, e = .returned v) ∧ W' = W := by
  have hro : Fence.wide.round = none := rfl
  refine callsIn_of_wp Try.func31 rfl trivial ?_ hro
  simp only [Try.ntmps31, List.size_toArray, List.length_cons, List.length_nil, Nat.reduceAdd, Nat.reduceSub, Array.replicate_succ, Array.replicate_zero, List.push_toArray, List.append_toArray, List.nil_append, List.cons_append]
  gi_wp2
  gi_loopw [4] (fun p wr => wr = W) (fun _ _ => 0)
  case atStart => rfl
  case round =>
    subst hrel
    gi_wp2_with fail
    refine ⟨trivial, ?_⟩
    refine (callsIn_wide.2 (len_heap H b c [] 0 _ hp rfl)).mono ?_
    rintro e w2 ⟨rfl, rfl⟩
    gi_wp2
    refine ⟨trivial, ?_⟩
    gi_wp2
    refine ⟨fun _ h => (by cases h), ?_⟩
    gi_wp2
    refine bodyPost_end (results_none rfl _ _ _) rfl ?_
    exact ⟨⟨_, rfl⟩, rfl⟩

end Go.Proofs.Ytkaaefieglhdlaa
