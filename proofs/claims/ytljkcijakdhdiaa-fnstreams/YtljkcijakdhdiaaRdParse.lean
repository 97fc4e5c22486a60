/- What is proved here: what the program's reading of an update answers, for every list of at most 1048576 bytes. -/
import Derived.Test.YtljkcijakdhdiaaRdUp4
namespace Go.Proofs.Ytljkcijakdhdiaa
open Go.RowKit Go.Sort
set_option linter.unusedVariables false

set_option maxHeartbeats 1600000 in
theorem parse_soft (v : Value) (L : List (Int × Int)) (w : World) (hv : ∃ a n c, v = .slice a n c)
    (hr : ∀ W, New w W → Calls Try.prog 73 #[v] W fun e W1 => ∃ (a1 : Option Addr) (k c1 : Nat) (ba : Option Addr) (ln lc : Nat), e = .returned (.tuple #[.slice a1 k c1, .slice ba ln lc]) ∧ New W W1 ∧
      Calls Try.prog 74 #[.slice a1 k c1, .slice ba ln lc] W1 fun e W2 => (∃ a m c, e = .panicked [{ v := sfV a m c, recovered := false }] ∧ OwQ W2 W.heap.size (.slice a m c) L) ∧ New W1 W2) :
    Calls Try.prog 61 #[v] w fun e w' => (∃ a m c, e = .returned (.agg #[.int .i64 1, .bool true, .slice a m c, .bool false, .int .i64 0, .slice none 0 0, .int .i64 0, .int .i64 0, .int .i64 0, .slice none 0 0]) ∧ OwQ w' w.heap.size (.slice a m c) L) ∧ New w w' := by
  obtain ⟨a, n, c, rfl⟩ := hv
  have hmf : ∀ (fn : Fn) (first cap : Array Value) (w : World), (Instr.makeFunc fn first cap).run Try.prog w = .ok (.func fn first cap) w := fun _ _ _ _ => rfl
  have hw := (New.refl w).alloc (.cells #[.int .i64 0, .bool false, .slice none 0 0, .bool false, .int .i64 0, .slice none 0 0, .int .i64 0, .int .i64 0, .int .i64 0, .slice none 0 0] 82)
  have bR := Blk.mk w w.heap.size 82 #[.int .i64 0, .bool false, .slice none 0 0, .bool false, .int .i64 0, .slice none 0 0, .int .i64 0, .int .i64 0, .int .i64 0, .slice none 0 0] rfl
  have h1 := hr _ hw
  clear hr
  go_enter_defers Try.func61, Try.ntmps61
  go_wp2_with fail
  refine h1.mono ?_
  rintro e w1 ⟨a1, k, c1, ba, ln, lc, rfl, hn1, h2⟩
  clear h1
  go_wp2_with fail
  refine h2.mono ?_
  rintro e w2 ⟨⟨ta, tm, tc, rfl, hq⟩, hn2⟩
  have hn := hn1.trans hn2
  have bR1 := bR.new hn
  unfold sfV
  go_wp2
  refine leaves_cons (f := 72) (args := #[.pointer (some ⟨w.heap.size, 0, none⟩)]) (by simp) (by simp [go_sem]) ?_
  refine (catch_one w.heap.size 1 true ta tm tc [] _ bR1).mono ?_
  rintro e u' w3 ⟨rfl, rfl, bR2, ht2⟩
  have c2 := bR2.cells
  have N2 : New w w3 := (hw.trans hn).before ht2 (fun i hi e => by omega)
  have hs : (w.alloc (.cells #[.int .i64 0, .bool false, .slice none 0 0, .bool false, .int .i64 0, .slice none 0 0, .int .i64 0, .int .i64 0, .int .i64 0, .slice none 0 0] 82)).heap.size = w.heap.size + 1 := by simp
  rw [hs] at hq
  have hq2 := (hq.turn ht2 (fun g hg e => by omega)).low (Nat.le_succ _)
  simp [Leaves, settle, results, Try.results61, go_sem, c2]
  exact ⟨⟨ta, tm, tc, ⟨rfl, rfl, rfl⟩, hq2⟩, N2⟩

set_option maxHeartbeats 1600000 in
theorem parse_good (v : Value) (w : World) (hv : ∃ a n c, v = .slice a n c) (R : World → Value → Value → Value → Prop) (hR : ∀ W W' x y z, Turn (fun k => k = w.heap.size) W W' → R W x y z → R W' x y z) (has : Bool) (o nx md lc : Int)
    (hr : ∀ W, New w W → W.heap.size = w.heap.size + 1 → Calls Try.prog 73 #[v] W fun e W1 => ∃ (a1 : Option Addr) (k c1 : Nat) (ba : Option Addr) (ln lc' : Nat), e = .returned (.tuple #[.slice a1 k c1, .slice ba ln lc']) ∧ New W W1 ∧
      Calls Try.prog 74 #[.slice a1 k c1, .slice ba ln lc'] W1 fun e W2 => (∃ ga gn gc a n c ra rn rc, e = .returned (.agg #[.slice ga gn gc, .bool has, .int .i64 o, .slice a n c, .int .i64 nx, .int .i64 md, .int .i64 lc, .slice ra rn rc]) ∧ R W2 (.slice ga gn gc) (.slice a n c) (.slice ra rn rc)) ∧ New W1 W2) :
    Calls Try.prog 61 #[v] w fun e w' => (∃ ga gn gc a n c ra rn rc, e = .returned (.agg #[.int .i64 0, .bool false, .slice ga gn gc, .bool has, .int .i64 o, .slice a n c, .int .i64 nx, .int .i64 md, .int .i64 lc, .slice ra rn rc]) ∧ R w' (.slice ga gn gc) (.slice a n c) (.slice ra rn rc)) ∧ New w w' := by
  obtain ⟨a, n, c, rfl⟩ := hv
  have hmf : ∀ (fn : Fn) (first cap : Array Value) (w : World), (Instr.makeFunc fn first cap).run Try.prog w = .ok (.func fn first cap) w := fun _ _ _ _ => rfl
  have hw := (New.refl w).alloc (.cells #[.int .i64 0, .bool false, .slice none 0 0, .bool false, .int .i64 0, .slice none 0 0, .int .i64 0, .int .i64 0, .int .i64 0, .slice none 0 0] 82)
  have bR := Blk.mk w w.heap.size 82 #[.int .i64 0, .bool false, .slice none 0 0, .bool false, .int .i64 0, .slice none 0 0, .int .i64 0, .int .i64 0, .int .i64 0, .slice none 0 0] rfl
  have h1 := hr _ hw (by simp)
  clear hr
  go_enter_defers Try.func61, Try.ntmps61
  go_wp2_with fail
  refine h1.mono ?_
  rintro e w1 ⟨a1, k, c1, ba, ln, lc', rfl, hn1, h2⟩
  clear h1
  go_wp2_with fail
  refine h2.mono ?_
  rintro e w2 ⟨⟨ga, gn, gc, xa, xn, xc, ra, rn, rc, rfl, hrr⟩, hn2⟩
  have hn := hn1.trans hn2
  have bR1 := bR.new hn
  have cR := bR1.cells
  have fR := bR1.frees
  have lR := bR1.lt
  go_wp2
  refine leaves_cons (f := 72) (args := #[.pointer (some ⟨w.heap.size, 0, none⟩)]) (by simp) (by simp [go_sem]) ?_
  refine (catch_none w.heap.size _).mono ?_
  rintro e u' w3 ⟨rfl, rfl, hn3⟩
  have b10 := (((((((((bR1.set 0 (.int .i64 0)).set 1 (.bool false)).set 2 (.slice ga gn gc)).set 3 (.bool has)).set 4 (.int .i64 o)).set 5 (.slice xa xn xc)).set 6 (.int .i64 nx)).set 7 (.int .i64 md)).set 8 (.int .i64 lc)).set 9 (.slice ra rn rc)
  have T10 := Turn.here (B := w.heap.size) (j := 9) (Turn.here (B := w.heap.size) (j := 8) (Turn.here (B := w.heap.size) (j := 7) (Turn.here (B := w.heap.size) (j := 6) (Turn.here (B := w.heap.size) (j := 5) (Turn.here (B := w.heap.size) (j := 4) (Turn.here (B := w.heap.size) (j := 3) (Turn.here (B := w.heap.size) (j := 2) (Turn.here (B := w.heap.size) (j := 1) (Turn.here (B := w.heap.size) (j := 0) (Turn.refl _ w2) (.int .i64 0)) (.bool false)) (.slice ga gn gc)) (.bool has)) (.int .i64 o)) (.slice xa xn xc)) (.int .i64 nx)) (.int .i64 md)) (.int .i64 lc)) (.slice ra rn rc)
  simp only [List.setIfInBounds_toArray, List.set_cons_zero, List.set_cons_succ] at b10
  have c3 := (b10.new hn3).cells
  have T3 := Turn.trans T10 (hn3.turn (S := fun k => k = w.heap.size)) (fun _ _ e => e)
  have N3 : New w w3 := (hw.trans hn).before T3 (fun i hi e => by omega)
  have hr3 := hR _ _ _ _ _ T3 hrr
  clear b10 T10 T3 bR1 cR fR lR
  simp [Leaves, settle, results, Try.results61, go_sem, c3]
  exact ⟨⟨ga, gn, gc, xa, xn, xc, ra, rn, rc, by simp, hr3⟩, N3⟩

end Go.Proofs.Ytljkcijakdhdiaa
