/- What is proved here: what the model's outs of a new router are. No condition. -/
import Derived.Test.YtmmkdmebmbpkgaaN9Ss
namespace Go.Proofs.Ytmmkdmebmbpkgaa
open Go.RowKit Go.Sort
set_option linter.unusedVariables false

theorem lit_outs (w : World) : (w.alloc (.cells #[] 54)).ownsRow w.heap.size 54 1 (.slice (some ⟨w.heap.size, 0, none⟩) 0 0) 0 [] :=
  ⟨rfl, .inr ⟨w.heap.size, 0, #[], rfl, Nat.le_refl _, heap_alloc_new _ _, Nat.le_refl _, Nat.zero_le _, by simp, by simp⟩⟩

set_option maxRecDepth 100000 in
set_option maxHeartbeats 3200000 in
theorem specOuts (w : World) : Calls Try.prog 16 #[] w fun e w' => ∃ y d, e = .returned (.slice y 3 d) ∧ w'.ownsRow w.heap.size 54 1 (.slice y 3 d) 3 (List.replicate 3 (.slice none 0 0)) ∧ New w w' := by
  obtain ⟨iB, hiB, hzB0, hzB1, hzB2⟩ := info_parts Try.infoBs9
  have N0 : New w (w.alloc (.cells #[] 54)) := (New.refl w).alloc _
  have o0 := lit_outs w
  go_enter Try.func16, Try.ntmps16
  go_wp2
  generalize hv0 : Value.slice (some (Addr.mk w.heap.size 0 none)) 0 0 = v0 at *
  clear hv0
  generalize w.alloc (.cells #[] 54) = w0 at *
  refine wp_loop_rounds 4 ?_
  rw [rounds_succ]
  have al0 : New w0 (w0.alloc (.cells #[.slice none 0 0] 54)) := (New.refl w0).alloc _
  have c0 := (Blk.mk w0 w0.heap.size 54 #[.slice none 0 0] rfl).cells
  have ba0 : Hid (w.heap.size ≤ (w0.alloc (.cells #[.slice none 0 0] 54)).heap.size) := (N0.trans al0).size
  go_wp2_with (at_builtin; refine wpList_apV _ rfl (.tmp 8) (.tmp 9) rfl w.heap.size 1 24 (.slice none 0 0) Try.underlying36 hiB hzB0 hzB1 hzB2 rfl (by omega) (by omega) v0 0 [] rfl (row9_new o0 al0) w0.heap.size [Value.slice none 0 0] rfl (by simp [Value.oneCell']) rfl (by intro j u hu; rw [c0 j, List.getElem?_toArray]; exact hu) (by omega) ba0.out ?_)
  intro v1 w1 o1 g1 _
  replace o1 : w1.ownsRow w.heap.size 54 1 v1 1 [Value.slice none 0 0] := o1
  have N1 : New w w1 := (N0.trans al0).grow g1 (fun j hj => by obtain ⟨_, _, _, _, f⟩ := row9_form o0; exact (f j hj).1)
  clear al0 c0 ba0 g1 o0
  go_wp2_with fail
  rw [rounds_succ]
  have al1 : New w1 (w1.alloc (.cells #[.slice none 0 0] 54)) := (New.refl w1).alloc _
  have c1 := (Blk.mk w1 w1.heap.size 54 #[.slice none 0 0] rfl).cells
  have ba1 : Hid (w.heap.size ≤ (w1.alloc (.cells #[.slice none 0 0] 54)).heap.size) := (N1.trans al1).size
  go_wp2_with (at_builtin; refine wpList_apV _ rfl (.tmp 8) (.tmp 9) rfl w.heap.size 1 24 (.slice none 0 0) Try.underlying36 hiB hzB0 hzB1 hzB2 rfl (by omega) (by omega) v1 1 [Value.slice none 0 0] rfl (row9_new o1 al1) w1.heap.size [Value.slice none 0 0] rfl (by simp [Value.oneCell']) rfl (by intro j u hu; rw [c1 j, List.getElem?_toArray]; exact hu) (by omega) ba1.out ?_)
  intro v2 w2 o2 g2 _
  replace o2 : w2.ownsRow w.heap.size 54 1 v2 2 [Value.slice none 0 0, Value.slice none 0 0] := o2
  have N2 : New w w2 := (N1.trans al1).grow g2 (fun j hj => by obtain ⟨_, _, _, _, f⟩ := row9_form o1; exact (f j hj).1)
  clear al1 c1 ba1 g2 o1
  go_wp2_with fail
  rw [rounds_succ]
  have al2 : New w2 (w2.alloc (.cells #[.slice none 0 0] 54)) := (New.refl w2).alloc _
  have c2 := (Blk.mk w2 w2.heap.size 54 #[.slice none 0 0] rfl).cells
  have ba2 : Hid (w.heap.size ≤ (w2.alloc (.cells #[.slice none 0 0] 54)).heap.size) := (N2.trans al2).size
  go_wp2_with (at_builtin; refine wpList_apV _ rfl (.tmp 8) (.tmp 9) rfl w.heap.size 1 24 (.slice none 0 0) Try.underlying36 hiB hzB0 hzB1 hzB2 rfl (by omega) (by omega) v2 2 [Value.slice none 0 0, Value.slice none 0 0] rfl (row9_new o2 al2) w2.heap.size [Value.slice none 0 0] rfl (by simp [Value.oneCell']) rfl (by intro j u hu; rw [c2 j, List.getElem?_toArray]; exact hu) (by omega) ba2.out ?_)
  intro v3 w3 o3 g3 _
  replace o3 : w3.ownsRow w.heap.size 54 1 v3 3 [Value.slice none 0 0, Value.slice none 0 0, Value.slice none 0 0] := o3
  have N3 : New w w3 := (N2.trans al2).grow g3 (fun j hj => by obtain ⟨_, _, _, _, f⟩ := row9_form o2; exact (f j hj).1)
  clear al2 c2 ba2 g3 o2
  go_wp2_with fail
  rw [rounds_succ]
  obtain ⟨y, d, hv, -, -⟩ := row9_form o3
  subst hv
  go_wp2
  go_ret
  exact ⟨y, d, rfl, o3, N3⟩

end Go.Proofs.Ytmmkdmebmbpkgaa
