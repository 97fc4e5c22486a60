/- What is proved here: what the copying, the comparing and the counting of an update answer, for lists of at most 1048576 elements. -/
import Derived.Test.YtljkcijakdhdiaaAtLaw
import Derived.Test.YtljkcijakdhdiaaUpFn
namespace Go.Proofs.Ytljkcijakdhdiaa
open Go.RowKit Go.Sort
set_option linter.unusedVariables false

theorem OwP.set_iff {w : World} {g n c : Nat} {ps : List (Int × Int)} {p : Addr} {u : Value} (hp : ¬ p.block = g) : OwP (w.setCell p u) g n c ps ↔ OwP w g n c ps := by
  have hb : (w.setCell p u).heap[g]? = w.heap[g]? := Below.heap_setCell w p u g (fun e => hp e.symm)
  unfold OwP World.ownsRow
  constructor
  · rintro ⟨h1, h2⟩
    refine ⟨h1, ?_⟩
    rcases h2 with h' | ⟨g', cap', cur, h', r⟩
    · exact .inl h'
    · simp only [Value.slice.injEq, Option.some.injEq, Addr.mk.injEq, and_true, true_and] at h'
      obtain ⟨rfl, rfl⟩ := h'
      exact .inr ⟨g, c, cur, rfl, r.1, hb.symm.trans r.2.1, r.2.2⟩
  · rintro ⟨h1, h2⟩
    refine ⟨h1, ?_⟩
    rcases h2 with h' | ⟨g', cap', cur, h', r⟩
    · exact .inl h'
    · simp only [Value.slice.injEq, Option.some.injEq, Addr.mk.injEq, and_true, true_and] at h'
      obtain ⟨rfl, rfl⟩ := h'
      exact .inr ⟨g, c, cur, rfl, r.1, hb.trans r.2.1, r.2.2⟩

theorem Turn.here {a w : World} {B j : Nat} (h : Turn (fun k => k = B) a w) (u : Value) : Turn (fun k => k = B) a (w.setCell ⟨B, j, none⟩ u) := Turn.set (S := fun k => k = B) h rfl u

set_option maxHeartbeats 1600000 in
theorem eqUp_any (ga a ra gb b rb : Option Addr) (gn gc n c rn rc gd d rd : Nat) (has : Bool) (o nx md lc : Int) (gs rs : List (Int × Int)) (xs : List Int) (w : World)
    (hg : PsAt w ga gs) (hx : NsAt w a xs) (hr : PsAt w ra rs) (kg : PsAt w gb gs) (kx : NsAt w b xs) (kr : PsAt w rb rs) (hgn : gs.length = gn) (hn : xs.length = n) (hrn : rs.length = rn) (hm1 : gn ≤ 1048576) (hm2 : n ≤ 1048576) (hm3 : rn ≤ 1048576) :
    Calls Try.prog 68 #[.agg #[.slice ga gn gc, .bool has, .int .i64 o, .slice a n c, .int .i64 nx, .int .i64 md, .int .i64 lc, .slice ra rn rc], .agg #[.slice gb gn gd, .bool has, .int .i64 o, .slice b n d, .int .i64 nx, .int .i64 md, .int .i64 lc, .slice rb rn rd]] w fun e w' => e = .returned (.bool true) ∧ New w w' := by
  have hw := ((New.refl w).alloc (.cells #[.slice ga gn gc, .bool has, .int .i64 o, .slice a n c, .int .i64 nx, .int .i64 md, .int .i64 lc, .slice ra rn rc] 49)).alloc (.cells #[.slice gb gn gd, .bool has, .int .i64 o, .slice b n d, .int .i64 nx, .int .i64 md, .int .i64 lc, .slice rb rn rd] 49)
  have bA : Blk ((w.alloc (.cells #[.slice ga gn gc, .bool has, .int .i64 o, .slice a n c, .int .i64 nx, .int .i64 md, .int .i64 lc, .slice ra rn rc] 49)).alloc (.cells #[.slice gb gn gd, .bool has, .int .i64 o, .slice b n d, .int .i64 nx, .int .i64 md, .int .i64 lc, .slice rb rn rd] 49)) w.heap.size 49 #[.slice ga gn gc, .bool has, .int .i64 o, .slice a n c, .int .i64 nx, .int .i64 md, .int .i64 lc, .slice ra rn rc] := (Blk.mk _ _ _ _ rfl).alloc _
  have bB : Blk ((w.alloc (.cells #[.slice ga gn gc, .bool has, .int .i64 o, .slice a n c, .int .i64 nx, .int .i64 md, .int .i64 lc, .slice ra rn rc] 49)).alloc (.cells #[.slice gb gn gd, .bool has, .int .i64 o, .slice b n d, .int .i64 nx, .int .i64 md, .int .i64 lc, .slice rb rn rd] 49)) (w.heap.size + 1) 49 #[.slice gb gn gd, .bool has, .int .i64 o, .slice b n d, .int .i64 nx, .int .i64 md, .int .i64 lc, .slice rb rn rd] := Blk.mk _ _ _ _ (by simp)
  have hb : (has != has) = false := by simp
  go_enter Try.func68, Try.ntmps68
  go_wp2_with fail
  refine (eqPs_any ga gb gn gc gd gs _ (hg.new hw) (kg.new hw) hgn hm1).mono ?_
  rintro e w1 ⟨rfl, hn1⟩
  have hw1 := hw.trans hn1
  have cA := (bA.new hn1).cells
  have cB := (bB.new hn1).cells
  go_wp2_with fail
  refine (eqAt_any o nx md lc a b n c d xs _ (hx.new hw1) (kx.new hw1) hn hm2).mono ?_
  rintro e w2 ⟨rfl, hn2⟩
  have hw2 := hw1.trans hn2
  clear cA cB
  have cA := ((bA.new hn1).new hn2).cells
  have cB := ((bB.new hn1).new hn2).cells
  go_wp2_with fail
  refine (eqPs_any ra rb rn rc rd rs _ (hr.new hw2) (kr.new hw2) hrn hm3).mono ?_
  rintro e w3 ⟨rfl, hn3⟩
  go_wp2
  go_ret
  exact ⟨rfl, hw2.trans hn3⟩

end Go.Proofs.Ytljkcijakdhdiaa
