/- What is proved here: what the recovering of a panic of the readers leaves, and what the program's reading of an update answers where nothing can be taken back. -/
import Derived.Test.YtljkcijakdhdiaaRdGone
namespace Go.Proofs.Ytljkcijakdhdiaa
open Go.RowKit Go.Sort
set_option linter.unusedVariables false

theorem Try.assertU (v : Value) (w : World) : (Instr.typeAssert (.iface 93 v) 20 93 true).run Try.prog w = .ok (.tuple #[v, .bool true]) w := by kernel_rfl

set_option maxRecDepth 100000 in
set_option maxHeartbeats 3200000 in
theorem catch_some (B : Nat) (code : Int) (soft : Bool) (ga : Option Addr) (gn gc : Nat) (older : List PanicEntry) (w : World)
    (hb : Blk w B 82 #[.int .i64 0, .bool false, .slice none 0 0, .bool false, .int .i64 0, .slice none 0 0, .int .i64 0, .int .i64 0, .int .i64 0, .slice none 0 0]) :
    CallsD Try.prog 72 #[.pointer (some ⟨B, 0, none⟩)] (.panicking ({ v := .iface 93 (.agg #[.int .i64 code, .bool soft, .slice ga gn gc, .bool false, .int .i64 0, .slice none 0 0, .int .i64 0, .int .i64 0, .int .i64 0, .slice none 0 0]), recovered := false } :: older)) w fun e u' w' =>
      e = .returned (.tuple #[]) ∧ u' = .panicking ({ v := .iface 93 (.agg #[.int .i64 code, .bool soft, .slice ga gn gc, .bool false, .int .i64 0, .slice none 0 0, .int .i64 0, .int .i64 0, .int .i64 0, .slice none 0 0]), recovered := true } :: older) ∧
        (∃ o, w' = ((((((((((w.alloc o).setCell ⟨B, 0, none⟩ (.int .i64 code)).setCell ⟨B, 1, none⟩ (.bool soft)).setCell ⟨B, 2, none⟩ (.slice ga gn gc)).setCell ⟨B, 3, none⟩ (.bool false)).setCell ⟨B, 4, none⟩ (.int .i64 0)).setCell ⟨B, 5, none⟩ (.slice none 0 0)).setCell ⟨B, 6, none⟩ (.int .i64 0)).setCell ⟨B, 7, none⟩ (.int .i64 0)).setCell ⟨B, 8, none⟩ (.int .i64 0)).setCell ⟨B, 9, none⟩ (.slice none 0 0)) := by
  have cB := hb.cells
  have fB := hb.frees
  have hlt := hb.lt
  refine callsD_of_wpS Try.func72 rfl fun c₀ cs hu => ?_
  apply wpS_seq
  apply wpS_region
  simp [wpOpsS, go_sem, recoverD, hu, Try.ntmps72, Exit.thenS, Try.assertU]
  apply wpS_seq
  apply wpS_region
  simp [wpOpsS, go_sem, Exit.thenS]
  refine wpS_cond (t := true) (by simp [Act.eval, Array.replicate]) ?_
  simp only [if_true]
  apply wpS_region
  have hne : ¬ w.heap.size = B := by omega
  have hne' : ¬ B = w.heap.size := by omega
  simp [wpOpsS, go_sem, cB, fB, hlt, bodyPostS, results, Try.results72]
  exact ⟨_, rfl⟩

/-- The cells of an answer that has a code, whether it is soft, and prefixes that are gone. -/
def softC (code : Int) (soft : Bool) (v : Value) : Array Value := #[.int .i64 code, .bool soft, v, .bool false, .int .i64 0, .slice none 0 0, .int .i64 0, .int .i64 0, .int .i64 0, .slice none 0 0]

theorem catch_one (B : Nat) (code : Int) (soft : Bool) (ga : Option Addr) (gn gc : Nat) (older : List PanicEntry) (w : World) (hb : Blk w B 82 #[.int .i64 0, .bool false, .slice none 0 0, .bool false, .int .i64 0, .slice none 0 0, .int .i64 0, .int .i64 0, .int .i64 0, .slice none 0 0]) :
    CallsD Try.prog 72 #[.pointer (some ⟨B, 0, none⟩)] (.panicking ({ v := .iface 93 (.agg #[.int .i64 code, .bool soft, .slice ga gn gc, .bool false, .int .i64 0, .slice none 0 0, .int .i64 0, .int .i64 0, .int .i64 0, .slice none 0 0]), recovered := false } :: older)) w fun e u' w' =>
      e = .returned (.tuple #[]) ∧ u' = .panicking ({ v := .iface 93 (.agg #[.int .i64 code, .bool soft, .slice ga gn gc, .bool false, .int .i64 0, .slice none 0 0, .int .i64 0, .int .i64 0, .int .i64 0, .slice none 0 0]), recovered := true } :: older) ∧
        Blk w' B 82 #[.int .i64 code, .bool soft, .slice ga gn gc, .bool false, .int .i64 0, .slice none 0 0, .int .i64 0, .int .i64 0, .int .i64 0, .slice none 0 0] ∧ Turn (fun k => k = B) w w' := by
  refine (catch_some B code soft ga gn gc older w hb).mono ?_
  rintro e u' w' ⟨rfl, rfl, o, rfl⟩
  refine ⟨rfl, rfl, ?_, ?_⟩
  · have h10 := ((((((((((hb.alloc o).set 0 (.int .i64 code)).set 1 (.bool soft)).set 2 (.slice ga gn gc)).set 3 (.bool false)).set 4 (.int .i64 0)).set 5 (.slice none 0 0)).set 6 (.int .i64 0)).set 7 (.int .i64 0)).set 8 (.int .i64 0)).set 9 (.slice none 0 0)
    simp only [List.setIfInBounds_toArray, List.set_cons_zero, List.set_cons_succ] at h10
    exact h10
  · exact Turn.here (Turn.here (Turn.here (Turn.here (Turn.here (Turn.here (Turn.here (Turn.here (Turn.here (Turn.here (New.turn ((New.refl w).alloc o)) _) _) _) _) _) _) _) _) _) _

theorem Try.assertN (w : World) : (Instr.typeAssert .nilIface 20 93 true).run Try.prog w = .ok (.tuple #[.agg #[.int .i64 0, .bool false, .slice none 0 0, .bool false, .int .i64 0, .slice none 0 0, .int .i64 0, .int .i64 0, .int .i64 0, .slice none 0 0], .bool false]) w := by kernel_rfl

set_option maxRecDepth 100000 in
set_option maxHeartbeats 3200000 in
theorem catch_none (B : Nat) (w : World) :
    CallsD Try.prog 72 #[.pointer (some ⟨B, 0, none⟩)] .returning w fun e u' w' => e = .returned (.tuple #[]) ∧ u' = .returning ∧ New w w' := by
  refine callsD_of_wpS Try.func72 rfl fun c₀ cs hu => ?_
  apply wpS_seq
  apply wpS_region
  simp [wpOpsS, go_sem, recoverD, hu, Try.ntmps72, Exit.thenS, Try.assertN]
  apply wpS_seq
  apply wpS_region
  simp [wpOpsS, go_sem, Exit.thenS]
  refine wpS_cond (t := false) (by simp [Act.eval, Array.replicate]) ?_
  simp only [Bool.false_eq_true, if_false]
  refine wpS_of_wp (wp_skip ?_)
  cases c₀
  simp_all [bodyPostS, results, Try.results72]
  exact (New.refl _).alloc _

set_option maxHeartbeats 1600000 in
/-- Where the reading of what is gone panics with a code alone, that code is the answer. -/
theorem parse_code (v : Value) (code : Int) (w : World) (hv : ∃ a n c, v = .slice a n c)
    (hr : ∀ W, New w W → Calls Try.prog 73 #[v] W fun e w' => e = .panicked [{ v := unrV code, recovered := false }] ∧ New W w') :
    Calls Try.prog 61 #[v] w fun e w' => e = .returned (.agg #[.int .i64 code, .bool false, .slice none 0 0, .bool false, .int .i64 0, .slice none 0 0, .int .i64 0, .int .i64 0, .int .i64 0, .slice none 0 0]) ∧ New w w' := by
  obtain ⟨a, n, c, rfl⟩ := hv
  have hmf : ∀ (fn : Fn) (first cap : Array Value) (w : World), (Instr.makeFunc fn first cap).run Try.prog w = .ok (.func fn first cap) w := fun _ _ _ _ => rfl
  have hw := (New.refl w).alloc (.cells #[.int .i64 0, .bool false, .slice none 0 0, .bool false, .int .i64 0, .slice none 0 0, .int .i64 0, .int .i64 0, .int .i64 0, .slice none 0 0] 82)
  have bR := Blk.mk w w.heap.size 82 #[.int .i64 0, .bool false, .slice none 0 0, .bool false, .int .i64 0, .slice none 0 0, .int .i64 0, .int .i64 0, .int .i64 0, .slice none 0 0] rfl
  go_enter_defers Try.func61, Try.ntmps61
  go_wp2_with fail
  refine (hr _ hw).mono ?_
  rintro e w1 ⟨rfl, hn1⟩
  have bR1 := bR.new hn1
  go_wp2
  refine leaves_cons (f := 72) (args := #[.pointer (some ⟨w.heap.size, 0, none⟩)]) (by simp) (by simp [go_sem]) ?_
  refine (catch_one w.heap.size code false none 0 0 [] _ bR1).mono ?_
  rintro e u' w2 ⟨rfl, rfl, bR2, ht2⟩
  have c2 := bR2.cells
  have N2 : New w w2 := (hw.trans hn1).before ht2 (fun i hi e => by omega)
  simp [Leaves, settle, results, Try.results61, go_sem, c2]
  exact N2

end Go.Proofs.Ytljkcijakdhdiaa
