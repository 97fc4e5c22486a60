/- What is proved here: what the model's copying of settings answers, for rules of at most 1048576. -/
import Derived.Test.YtdknalegmlpimaaN9Nr
namespace Go.Proofs.Ytdknalegmlpimaa
open Go.RowKit Go.Sort
set_option linter.unusedVariables false

theorem lit_rules (w : World) (lo : Nat) (h : lo ≤ w.heap.size) : (w.alloc (.cells #[] 74)).ownsRow lo 74 8 (.slice (some ⟨w.heap.size, 0, none⟩) 0 0) ([] : List Ru).length (cellsR []) :=
  ⟨rfl, .inr ⟨w.heap.size, 0, #[], rfl, h, heap_alloc_new _ _, Nat.le_refl _, Nat.zero_le _, by simp, by simp [cellsR]⟩⟩

set_option maxHeartbeats 3200000 in
theorem specSe9 (sa si ho nx : Int) (a1 a2 : Option Addr) (n1 c1 n2 c2 : Nat) (r1 r2 : List Ru) (w : World) (h1 : RsAt w a1 r1) (h2 : RsAt w a2 r2) (e1 : r1.length = n1) (e2 : r2.length = n2) (m1 : n1 ≤ 1048576) (m2 : n2 ≤ 1048576) (z1 : a1 = none → n1 = 0 ∧ c1 = 0) (z2 : a2 = none → n2 = 0 ∧ c2 = 0) :
    Calls Try.prog 16 #[.agg #[.int .i64 sa, .int .i64 si, .int .i64 ho, .int .i64 nx, .slice a1 n1 c1, .slice a2 n2 c2]] w fun e w' => ∃ x1 d1 x2 d2, e = .returned (.agg #[.int .i64 sa, .int .i64 si, .int .i64 ho, .int .i64 nx, .slice x1 n1 d1, .slice x2 n2 d2]) ∧ OvR w' (w.heap.size + 2) (.slice x1 n1 d1) r1 ∧ OvR w' (w.heap.size + 2) (.slice x2 n2 d2) r2 ∧ New w w' := by
  have E1 : Hid (r1.length = n1) := e1
  have E2 : Hid (r2.length = n2) := e2
  have Z1 : Hid (a1 = none → n1 = 0 ∧ c1 = 0) := z1
  have Z2 : Hid (a2 = none → n2 = 0 ∧ c2 = 0) := z2
  obtain ⟨i0, hi, hz0, hz1, hz2⟩ := info_parts Try.infoRu
  have hw : New w ((w.alloc (.cells #[.int .i64 sa, .int .i64 si, .int .i64 ho, .int .i64 nx, .slice a1 n1 c1, .slice a2 n2 c2] 32)).alloc (.cells #[.int .i64 0, .int .i64 0, .int .i64 0, .int .i64 0, .slice none 0 0, .slice none 0 0] 32)) := ((New.refl w).alloc _).alloc _
  have bA : Blk ((w.alloc (.cells #[.int .i64 sa, .int .i64 si, .int .i64 ho, .int .i64 nx, .slice a1 n1 c1, .slice a2 n2 c2] 32)).alloc (.cells #[.int .i64 0, .int .i64 0, .int .i64 0, .int .i64 0, .slice none 0 0, .slice none 0 0] 32)) w.heap.size 32 #[.int .i64 sa, .int .i64 si, .int .i64 ho, .int .i64 nx, .slice a1 n1 c1, .slice a2 n2 c2] := (Blk.mk _ _ _ _ rfl).alloc _
  have bB : Blk ((w.alloc (.cells #[.int .i64 sa, .int .i64 si, .int .i64 ho, .int .i64 nx, .slice a1 n1 c1, .slice a2 n2 c2] 32)).alloc (.cells #[.int .i64 0, .int .i64 0, .int .i64 0, .int .i64 0, .slice none 0 0, .slice none 0 0] 32)) (w.heap.size + 1) 32 #[.int .i64 0, .int .i64 0, .int .i64 0, .int .i64 0, .slice none 0 0, .slice none 0 0] := Blk.mk _ _ _ _ (by simp)
  have SZ0 : Hid (((w.alloc (.cells #[.int .i64 sa, .int .i64 si, .int .i64 ho, .int .i64 nx, .slice a1 n1 c1, .slice a2 n2 c2] 32)).alloc (.cells #[.int .i64 0, .int .i64 0, .int .i64 0, .int .i64 0, .slice none 0 0, .slice none 0 0] 32)).heap.size = w.heap.size + 2) := by show _ = _; simp
  clear e1 e2 z1 z2
  go_enter Try.func16, Try.ntmps16
  go_upto_region 1 with fail
  generalize ((w.alloc (.cells #[.int .i64 sa, .int .i64 si, .int .i64 ho, .int .i64 nx, .slice a1 n1 c1, .slice a2 n2 c2] 32)).alloc (.cells #[.int .i64 0, .int .i64 0, .int .i64 0, .int .i64 0, .slice none 0 0, .slice none 0 0] 32)) = w0 at *
  have al0 : New w0 (w0.alloc (.cells #[] 74)) := (New.refl w0).alloc _
  have cA := (bA.new al0).cells
  go_wp2_with (at_builtin; refine wpList_apRs _ rfl (.tmp 3) (.tmp 5) rfl w0.heap.size (.agg #[.int .i64 0, .int .i64 0, .int .i64 0, .int .i64 0, .int .i64 0, .bool false, .int .i64 0, .int .i64 0]) Try.underlying30 hi hz0 hz1 hz2 rfl (.slice (some ⟨w0.heap.size, 0, none⟩) 0 0) [] rfl (lit_rules w0 w0.heap.size (Nat.le_refl _)) a1 n1 c1 r1 rfl ((h1.new hw).new al0) E1.out Z1.out (by simp; omega) (by simp) ?_)
  intro v1 w1 o1 g1
  replace o1 : OvR w1 w0.heap.size v1 r1 := by simpa [OvR] using o1
  have N1 : New w0 w1 := al0.grow g1 (fun k hk => by simp [Value.ownBlock] at hk; omega)
  obtain ⟨x1, d1, hv1, -, -⟩ := o1.rs
  rw [E1.out] at hv1
  subst hv1
  have sz0 := SZ0.out
  have hs1 := N1.size
  have bA1 := bA.new N1
  have bB1 := bB.new N1
  have hw1 := hw.trans N1
  have cA1 := bA1.cells
  have fA1 := bA1.frees
  have p1 := o1.low (lo' := w.heap.size + 2) (by omega)
  have t1 : Turn (fun k => k = w.heap.size) w1 (w1.setCell ⟨w.heap.size, 4, none⟩ (.slice x1 n1 d1)) := Turn.here9 (Turn.refl _ _) _
  have bA2 : Blk (w1.setCell ⟨w.heap.size, 4, none⟩ (.slice x1 n1 d1)) w.heap.size 32 #[.int .i64 sa, .int .i64 si, .int .i64 ho, .int .i64 nx, .slice x1 n1 d1, .slice a2 n2 c2] := bA1.set 4 (.slice x1 n1 d1)
  have bB2 := bB1.turn t1 (by omega)
  have hw2 := hw1.setCell (p := ⟨w.heap.size, 4, none⟩) (Nat.le_refl _) (.slice x1 n1 d1)
  have p2 := p1.turn t1 (by intro k hk e; have := (p1.blk k hk).1; omega)
  have hs2 : (w1.setCell ⟨w.heap.size, 4, none⟩ (.slice x1 n1 d1)).heap.size = w1.heap.size := by simp
  have SZ2 : Hid (w.heap.size + 2 ≤ (w1.setCell ⟨w.heap.size, 4, none⟩ (.slice x1 n1 d1)).heap.size) := (show w.heap.size + 2 ≤ (w1.setCell ⟨w.heap.size, 4, none⟩ (.slice x1 n1 d1)).heap.size by omega)
  clear cA bA bB bA1 bB1 hw1 o1 p1 al0 N1 t1 sz0 g1 hs1 hs2
  go_upto_region 2 with fail
  generalize (w1.setCell ⟨w.heap.size, 4, none⟩ (.slice x1 n1 d1)) = w2 at *
  clear cA1 fA1
  have al0 : New w2 (w2.alloc (.cells #[] 74)) := (New.refl w2).alloc _
  have cA := (bA2.new al0).cells
  go_wp2_with (at_builtin; refine wpList_apRs _ rfl (.tmp 8) (.tmp 10) rfl w2.heap.size (.agg #[.int .i64 0, .int .i64 0, .int .i64 0, .int .i64 0, .int .i64 0, .bool false, .int .i64 0, .int .i64 0]) Try.underlying30 hi hz0 hz1 hz2 rfl (.slice (some ⟨w2.heap.size, 0, none⟩) 0 0) [] rfl (lit_rules w2 w2.heap.size (Nat.le_refl _)) a2 n2 c2 r2 rfl ((h2.new hw2).new al0) E2.out Z2.out (by simp; omega) (by simp) ?_)
  intro v3 w3 o3 g3
  replace o3 : OvR w3 w2.heap.size v3 r2 := by simpa [OvR] using o3
  have N3 : New w2 w3 := al0.grow g3 (fun k hk => by simp [Value.ownBlock] at hk; omega)
  obtain ⟨x2, d2, hv3, -, -⟩ := o3.rs
  rw [E2.out] at hv3
  subst hv3
  have sz2 := SZ2.out
  have hw3 := hw2.trans N3
  have bA3 := bA2.new N3
  have bB3 := bB2.new N3
  have O1 : Hid (OvR w3 (w.heap.size + 2) (.slice x1 n1 d1) r1) := p2.new N3
  have O2 : Hid (OvR w3 (w.heap.size + 2) (.slice x2 n2 d2) r2) := o3.low (by omega)
  have cA3 := bA3.cells
  have fA3 := bA3.frees
  have cB3 := bB3.cells
  have fB3 := bB3.frees
  have ge0 : w.heap.size ≤ w.heap.size := Nat.le_refl _
  have ge1 : w.heap.size ≤ w.heap.size + 1 := by omega
  have d01 : ¬ w.heap.size + 1 = w.heap.size := by omega
  clear cA bA2 bB2 p2 o3 al0 N3 g3 hw2 sz2
  go_wp2
  refine bodyPost_ret (v := .agg #[.int .i64 sa, .int .i64 si, .int .i64 ho, .int .i64 nx, .slice x1 n1 d1, .slice x2 n2 d2]) (by simp [results, Try.results16, go_sem, cB3]) rfl ⟨x1, d1, x2, d2, rfl, ?_, ?_, ?_⟩
  · refine OvR.turn (S := fun k => k = w.heap.size ∨ k = w.heap.size + 1) O1.out ?_ ?_
    · simp (disch := (first | exact Or.inl rfl | exact Or.inr rfl)) only [turn_set_iff]
      exact Turn.refl _ _
    · intro k hk e; have := (O1.out.blk k hk).1; omega
  · refine OvR.turn (S := fun k => k = w.heap.size ∨ k = w.heap.size + 1) O2.out ?_ ?_
    · simp (disch := (first | exact Or.inl rfl | exact Or.inr rfl)) only [turn_set_iff]
      exact Turn.refl _ _
    · intro k hk e; have := (O2.out.blk k hk).1; omega
  · simp (disch := (first | exact ge0 | exact ge1)) only [New.set_iff, hw3]

end Go.Proofs.Ytdknalegmlpimaa
