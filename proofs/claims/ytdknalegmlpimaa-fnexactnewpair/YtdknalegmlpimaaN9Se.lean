/- What is proved here: what the program's copying of settings answers, for rules of at most 1048576, and its copying of nothing. -/
import Derived.Test.YtdknalegmlpimaaN9Ru
import Derived.Test.YtdknalegmlpimaaTn9
import Derived.Deep.CutRange
namespace Go.Proofs.Ytdknalegmlpimaa
open Go.RowKit Go.Sort
set_option linter.unusedVariables false

theorem concatRs (G : Nat) (x : Option Addr) (n c : Nat) (xs : List Ru) (w : World) (g0 : w.cell? ⟨G, 0, none⟩ = some (.slice x n c)) (hx : RsAt w x xs) (hn : xs.length = n) (hnx : x = none → n = 0 ∧ c = 0) (hn1 : n ≤ 1048576) :
    Calls Try.prog 38 #[.slice (some ⟨G, 0, none⟩) 1 1] w fun e w' => ∃ y d, e = .returned (.slice y n d) ∧ OvR w' w.heap.size (.slice y n d) xs ∧ New w w' :=
  (concatRu G x n c xs w g0 hx hn hnx hn1).mono fun e w' ⟨v, h1, h2, h3⟩ => by
    obtain ⟨y, d, hv, -, -⟩ := h2.rs
    subst hv
    rw [hn] at h1 h2
    exact ⟨y, d, h1, h2, h3⟩

set_option maxHeartbeats 3200000 in
theorem copySe (sa si ho nx : Int) (a1 a2 : Option Addr) (n1 c1 n2 c2 : Nat) (r1 r2 : List Ru) (w : World) (h1 : RsAt w a1 r1) (h2 : RsAt w a2 r2) (e1 : r1.length = n1) (e2 : r2.length = n2) (m1 : n1 ≤ 1048576) (m2 : n2 ≤ 1048576) (z1 : a1 = none → n1 = 0 ∧ c1 = 0) (z2 : a2 = none → n2 = 0 ∧ c2 = 0) :
    Calls Try.prog 20 #[.agg #[.int .i64 sa, .int .i64 si, .int .i64 ho, .int .i64 nx, .slice a1 n1 c1, .slice a2 n2 c2]] w fun e w' => ∃ x1 d1 x2 d2, e = .returned (.agg #[.int .i64 sa, .int .i64 si, .int .i64 ho, .int .i64 nx, .slice x1 n1 d1, .slice x2 n2 d2]) ∧ OvR w' w.heap.size (.slice x1 n1 d1) r1 ∧ OvR w' w.heap.size (.slice x2 n2 d2) r2 ∧ (∀ k, (Value.slice x1 n1 d1).ownBlock = some k → (Value.slice x2 n2 d2).ownBlock ≠ some k) ∧ New w w' := by
  have E1 : Hid (r1.length = n1) := e1
  have E2 : Hid (r2.length = n2) := e2
  have Z1 : Hid (a1 = none → n1 = 0 ∧ c1 = 0) := z1
  have Z2 : Hid (a2 = none → n2 = 0 ∧ c2 = 0) := z2
  have hw : New w ((w.alloc (.cells #[.int .i64 sa, .int .i64 si, .int .i64 ho, .int .i64 nx, .slice a1 n1 c1, .slice a2 n2 c2] 32)).alloc (.cells #[.int .i64 0, .int .i64 0, .int .i64 0, .int .i64 0, .slice none 0 0, .slice none 0 0] 32)) := ((New.refl w).alloc _).alloc _
  have bA : Blk ((w.alloc (.cells #[.int .i64 sa, .int .i64 si, .int .i64 ho, .int .i64 nx, .slice a1 n1 c1, .slice a2 n2 c2] 32)).alloc (.cells #[.int .i64 0, .int .i64 0, .int .i64 0, .int .i64 0, .slice none 0 0, .slice none 0 0] 32)) w.heap.size 32 #[.int .i64 sa, .int .i64 si, .int .i64 ho, .int .i64 nx, .slice a1 n1 c1, .slice a2 n2 c2] := (Blk.mk _ _ _ _ rfl).alloc _
  have bB : Blk ((w.alloc (.cells #[.int .i64 sa, .int .i64 si, .int .i64 ho, .int .i64 nx, .slice a1 n1 c1, .slice a2 n2 c2] 32)).alloc (.cells #[.int .i64 0, .int .i64 0, .int .i64 0, .int .i64 0, .slice none 0 0, .slice none 0 0] 32)) (w.heap.size + 1) 32 #[.int .i64 0, .int .i64 0, .int .i64 0, .int .i64 0, .slice none 0 0, .slice none 0 0] := Blk.mk _ _ _ _ (by simp)
  have SZ0 : Hid (((w.alloc (.cells #[.int .i64 sa, .int .i64 si, .int .i64 ho, .int .i64 nx, .slice a1 n1 c1, .slice a2 n2 c2] 32)).alloc (.cells #[.int .i64 0, .int .i64 0, .int .i64 0, .int .i64 0, .slice none 0 0, .slice none 0 0] 32)).heap.size = w.heap.size + 2) := by show _ = _; simp
  clear e1 e2 z1 z2
  go_enter Try.func20, Try.ntmps20
  go_upto_region 1 with fail
  generalize ((w.alloc (.cells #[.int .i64 sa, .int .i64 si, .int .i64 ho, .int .i64 nx, .slice a1 n1 c1, .slice a2 n2 c2] 32)).alloc (.cells #[.int .i64 0, .int .i64 0, .int .i64 0, .int .i64 0, .slice none 0 0, .slice none 0 0] 32)) = w0 at *
  have cA := bA.cells
  have al0 := (New.refl w0).alloc (.cells #[.slice a1 n1 c1] 30)
  have g0 : (w0.alloc (.cells #[.slice a1 n1 c1] 30)).cell? ⟨w0.heap.size, 0, none⟩ = some (.slice a1 n1 c1) := by go_simp
  go_wp2_with fail
  refine (concatRs w0.heap.size a1 n1 c1 r1 _ g0 ((h1.new hw).new al0) E1.out Z1.out m1).mono ?_
  rintro e w1 ⟨x1, d1, rfl, ho1, hn1⟩
  have sa0 : (w0.alloc (.cells #[.slice a1 n1 c1] 30)).heap.size = w0.heap.size + 1 := by simp
  have sz0 := SZ0.out
  have n01 := al0.trans hn1
  have bA1 := bA.new n01
  have bB1 := bB.new n01
  have hw1 := hw.trans n01
  have cA1 := bA1.cells
  have fA1 := bA1.frees
  have sz1 := n01.size
  have ho1' := ho1.low (lo' := w.heap.size + 2) (by omega)
  have t1 : Turn (fun k => k = w.heap.size) w1 (w1.setCell ⟨w.heap.size, 4, none⟩ (.slice x1 n1 d1)) := Turn.here9 (Turn.refl _ _) _
  have bA2 : Blk (w1.setCell ⟨w.heap.size, 4, none⟩ (.slice x1 n1 d1)) w.heap.size 32 #[.int .i64 sa, .int .i64 si, .int .i64 ho, .int .i64 nx, .slice x1 n1 d1, .slice a2 n2 c2] := bA1.set 4 (.slice x1 n1 d1)
  have bB2 := bB1.turn t1 (by omega)
  have hw2 := hw1.setCell (p := ⟨w.heap.size, 4, none⟩) (Nat.le_refl _) (.slice x1 n1 d1)
  have ho2 := ho1'.turn t1 (by intro k hk e; have := (ho1'.blk k hk).1; omega)
  have szh := hn1.size
  have sze : (w1.setCell ⟨w.heap.size, 4, none⟩ (.slice x1 n1 d1)).heap.size = w1.heap.size := by simp
  have SZ2 : Hid (w.heap.size + 3 ≤ (w1.setCell ⟨w.heap.size, 4, none⟩ (.slice x1 n1 d1)).heap.size) := (show w.heap.size + 3 ≤ (w1.setCell ⟨w.heap.size, 4, none⟩ (.slice x1 n1 d1)).heap.size by omega)
  clear szh sze
  clear cA bA bB bA1 bB1 hw1 ho1 ho1' g0 al0 hn1 n01 t1 sa0 sz0 sz1
  go_upto_region 2 with fail
  generalize (w1.setCell ⟨w.heap.size, 4, none⟩ (.slice x1 n1 d1)) = w2 at *
  clear cA1 fA1
  have cA := bA2.cells
  have al0 := (New.refl w2).alloc (.cells #[.slice a2 n2 c2] 30)
  have g0 : (w2.alloc (.cells #[.slice a2 n2 c2] 30)).cell? ⟨w2.heap.size, 0, none⟩ = some (.slice a2 n2 c2) := by go_simp
  go_wp2_with fail
  refine (concatRs w2.heap.size a2 n2 c2 r2 _ g0 ((h2.new hw2).new al0) E2.out Z2.out m2).mono ?_
  rintro e w3 ⟨x2, d2, rfl, ho3, hn3⟩
  have sa0 : (w2.alloc (.cells #[.slice a2 n2 c2] 30)).heap.size = w2.heap.size + 1 := by simp
  have sz2 := SZ2.out
  have n23 := al0.trans hn3
  have bA3 := bA2.new n23
  have bB3 := bB2.new n23
  have hw3 := hw2.trans n23
  have o13 := ho2.new n23
  have hap : Hid (∀ k, (Value.slice x1 n1 d1).ownBlock = some k → (Value.slice x2 n2 d2).ownBlock ≠ some k) := by
    intro k h1 h2
    have := (ho2.blk k h1).2
    have := (ho3.blk k h2).1
    omega
  have O1 : Hid (OvR w3 (w.heap.size + 2) (.slice x1 n1 d1) r1) := o13
  have O2 : Hid (OvR w3 (w.heap.size + 2) (.slice x2 n2 d2) r2) := ho3.low (by omega)
  have cA3 := bA3.cells
  have fA3 := bA3.frees
  have cB3 := bB3.cells
  have fB3 := bB3.frees
  have ge0 : w.heap.size ≤ w.heap.size := Nat.le_refl _
  have ge1 : w.heap.size ≤ w.heap.size + 1 := by omega
  have d01 : ¬ w.heap.size + 1 = w.heap.size := by omega
  clear cA bA2 bB2 ho2 ho3 o13 g0 al0 hn3 n23 sa0 sz2 hw2
  go_wp2
  refine bodyPost_ret (v := .agg #[.int .i64 sa, .int .i64 si, .int .i64 ho, .int .i64 nx, .slice x1 n1 d1, .slice x2 n2 d2]) (by simp [results, Try.results20, go_sem, cB3]) rfl ⟨x1, d1, x2, d2, rfl, ?_, ?_, hap.out, ?_⟩
  · refine (OvR.turn (S := fun k => k = w.heap.size ∨ k = w.heap.size + 1) O1.out ?_ ?_).low (by omega)
    · simp (disch := (first | exact Or.inl rfl | exact Or.inr rfl)) only [turn_set_iff]
      exact Turn.refl _ _
    · intro k hk e; have := (O1.out.blk k hk).1; omega
  · refine (OvR.turn (S := fun k => k = w.heap.size ∨ k = w.heap.size + 1) O2.out ?_ ?_).low (by omega)
    · simp (disch := (first | exact Or.inl rfl | exact Or.inr rfl)) only [turn_set_iff]
      exact Turn.refl _ _
    · intro k hk e; have := (O2.out.blk k hk).1; omega
  · simp (disch := (first | exact ge0 | exact ge1)) only [New.set_iff, hw3]

end Go.Proofs.Ytdknalegmlpimaa
