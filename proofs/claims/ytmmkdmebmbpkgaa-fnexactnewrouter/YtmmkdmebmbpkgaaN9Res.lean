/- What is proved here: what the program makes of a new router at work, for rules of at most 1048576. -/
import Derived.Test.YtmmkdmebmbpkgaaN9Ap
import Derived.Test.YtmmkdmebmbpkgaaN9In
import Derived.Deep.RegionHeld3
import Derived.Deep.MidRow
namespace Go.Proofs.Ytmmkdmebmbpkgaa
open Go.RowKit Go.Sort
set_option linter.unusedVariables false

theorem Try.infoLk9 : (Try.prog.info? 76).map (fun i => (i.zero, i.size, i.bytes)) = some (some (.agg #[.int .i64 0, .int .i64 0, .int .i64 0, .int .i64 0, .int .i64 0, .slice none 0 0, .slice none 0 0]), 7, 88) := by kernel_rfl
theorem Try.infoBs9 : (Try.prog.info? 54).map (fun i => (i.zero, i.size, i.bytes)) = some (some (.slice none 0 0), 1, 24) := by kernel_rfl

theorem set10 (w : World) (B : Nat) (v0 v1 v2 v3 v4 v5 v6 v7 v8 v9 : Value) : Turn (fun k => k = B) w ((((((((((w.setCell ⟨B, 0, none⟩ v0).setCell ⟨B, 1, none⟩ v1).setCell ⟨B, 2, none⟩ v2).setCell ⟨B, 3, none⟩ v3).setCell ⟨B, 4, none⟩ v4).setCell ⟨B, 5, none⟩ v5).setCell ⟨B, 6, none⟩ v6).setCell ⟨B, 7, none⟩ v7).setCell ⟨B, 8, none⟩ v8).setCell ⟨B, 9, none⟩ v9) :=
  Turn.here9 (Turn.here9 (Turn.here9 (Turn.here9 (Turn.here9 (Turn.here9 (Turn.here9 (Turn.here9 (Turn.here9 (Turn.here9 (Turn.refl _ _) _) _) _) _) _) _) _) _) _) _

set_option maxRecDepth 100000 in
set_option maxHeartbeats 6400000 in
theorem resNew (sa si ho nx : Int) (a1 a2 : Option Addr) (n1 c1 n2 c2 : Nat) (r1 r2 : List Ru) (w : World) (h1 : RsAt w a1 r1) (h2 : RsAt w a2 r2) (e1 : r1.length = n1) (e2 : r2.length = n2) (m1 : n1 ≤ 1048576) (m2 : n2 ≤ 1048576) (z1 : a1 = none → n1 = 0 ∧ c1 = 0) (z2 : a2 = none → n2 = 0 ∧ c2 = 0) :
    Calls Try.prog 20 #[.agg #[.int .i64 sa, .int .i64 si, .int .i64 ho, .int .i64 nx, .slice a1 n1 c1, .slice a2 n2 c2, .int .i64 0, .int .i64 0, .int .i64 0, .int .i64 0, .int .i64 0, .int .i64 0, .int .i64 0, .int .i64 0, .slice none 0 0, .slice none 0 0, .slice none 0 0, .int .i64 0, .int .i64 0, .int .i64 0, .int .i64 0, .int .i64 0, .int .i64 0, .int .i64 0, .int .i64 0, .slice none 0 0, .slice none 0 0, .slice none 0 0, .int .i64 0, .int .i64 0, .int .i64 0, .int .i64 0, .int .i64 0, .int .i64 0, .int .i64 0, .int .i64 0, .slice none 0 0, .slice none 0 0, .slice none 0 0, .slice none 0 0]] w fun e w' => ∃ x1 d1 x2 d2 yl dl yo dO, e = .returned (.agg #[.int .i64 0, .int .i64 sa, .int .i64 si, .int .i64 ho, .int .i64 nx, .slice x1 n1 d1, .slice x2 n2 d2, .slice yl 3 dl, .slice none 0 0, .slice yo 3 dO]) ∧ NwOwn w w' n1 n2 x1 d1 x2 d2 r1 r2 yl dl yo dO := by
  have E1 : Hid (r1.length = n1) := e1
  have E2 : Hid (r2.length = n2) := e2
  have Z1 : Hid (a1 = none → n1 = 0 ∧ c1 = 0) := z1
  have Z2 : Hid (a2 = none → n2 = 0 ∧ c2 = 0) := z2
  have hw : New w ((w.alloc (.cells #[.int .i64 sa, .int .i64 si, .int .i64 ho, .int .i64 nx, .slice a1 n1 c1, .slice a2 n2 c2, .int .i64 0, .int .i64 0, .int .i64 0, .int .i64 0, .int .i64 0, .int .i64 0, .int .i64 0, .int .i64 0, .slice none 0 0, .slice none 0 0, .slice none 0 0, .int .i64 0, .int .i64 0, .int .i64 0, .int .i64 0, .int .i64 0, .int .i64 0, .int .i64 0, .int .i64 0, .slice none 0 0, .slice none 0 0, .slice none 0 0, .int .i64 0, .int .i64 0, .int .i64 0, .int .i64 0, .int .i64 0, .int .i64 0, .int .i64 0, .int .i64 0, .slice none 0 0, .slice none 0 0, .slice none 0 0, .slice none 0 0] 62)).alloc (.cells #[.int .i64 0, .int .i64 0, .int .i64 0, .int .i64 0, .int .i64 0, .slice none 0 0, .slice none 0 0, .slice none 0 0, .slice none 0 0, .slice none 0 0] 38)) := ((New.refl w).alloc _).alloc _
  have bA : Blk ((w.alloc (.cells #[.int .i64 sa, .int .i64 si, .int .i64 ho, .int .i64 nx, .slice a1 n1 c1, .slice a2 n2 c2, .int .i64 0, .int .i64 0, .int .i64 0, .int .i64 0, .int .i64 0, .int .i64 0, .int .i64 0, .int .i64 0, .slice none 0 0, .slice none 0 0, .slice none 0 0, .int .i64 0, .int .i64 0, .int .i64 0, .int .i64 0, .int .i64 0, .int .i64 0, .int .i64 0, .int .i64 0, .slice none 0 0, .slice none 0 0, .slice none 0 0, .int .i64 0, .int .i64 0, .int .i64 0, .int .i64 0, .int .i64 0, .int .i64 0, .int .i64 0, .int .i64 0, .slice none 0 0, .slice none 0 0, .slice none 0 0, .slice none 0 0] 62)).alloc (.cells #[.int .i64 0, .int .i64 0, .int .i64 0, .int .i64 0, .int .i64 0, .slice none 0 0, .slice none 0 0, .slice none 0 0, .slice none 0 0, .slice none 0 0] 38)) w.heap.size 62 #[.int .i64 sa, .int .i64 si, .int .i64 ho, .int .i64 nx, .slice a1 n1 c1, .slice a2 n2 c2, .int .i64 0, .int .i64 0, .int .i64 0, .int .i64 0, .int .i64 0, .int .i64 0, .int .i64 0, .int .i64 0, .slice none 0 0, .slice none 0 0, .slice none 0 0, .int .i64 0, .int .i64 0, .int .i64 0, .int .i64 0, .int .i64 0, .int .i64 0, .int .i64 0, .int .i64 0, .slice none 0 0, .slice none 0 0, .slice none 0 0, .int .i64 0, .int .i64 0, .int .i64 0, .int .i64 0, .int .i64 0, .int .i64 0, .int .i64 0, .int .i64 0, .slice none 0 0, .slice none 0 0, .slice none 0 0, .slice none 0 0] := (Blk.mk _ _ _ _ rfl).alloc _
  have bB : Blk ((w.alloc (.cells #[.int .i64 sa, .int .i64 si, .int .i64 ho, .int .i64 nx, .slice a1 n1 c1, .slice a2 n2 c2, .int .i64 0, .int .i64 0, .int .i64 0, .int .i64 0, .int .i64 0, .int .i64 0, .int .i64 0, .int .i64 0, .slice none 0 0, .slice none 0 0, .slice none 0 0, .int .i64 0, .int .i64 0, .int .i64 0, .int .i64 0, .int .i64 0, .int .i64 0, .int .i64 0, .int .i64 0, .slice none 0 0, .slice none 0 0, .slice none 0 0, .int .i64 0, .int .i64 0, .int .i64 0, .int .i64 0, .int .i64 0, .int .i64 0, .int .i64 0, .int .i64 0, .slice none 0 0, .slice none 0 0, .slice none 0 0, .slice none 0 0] 62)).alloc (.cells #[.int .i64 0, .int .i64 0, .int .i64 0, .int .i64 0, .int .i64 0, .slice none 0 0, .slice none 0 0, .slice none 0 0, .slice none 0 0, .slice none 0 0] 38)) (w.heap.size + 1) 38 #[.int .i64 0, .int .i64 0, .int .i64 0, .int .i64 0, .int .i64 0, .slice none 0 0, .slice none 0 0, .slice none 0 0, .slice none 0 0, .slice none 0 0] := Blk.mk _ _ _ _ (by simp)
  have SZ0 : Hid (((w.alloc (.cells #[.int .i64 sa, .int .i64 si, .int .i64 ho, .int .i64 nx, .slice a1 n1 c1, .slice a2 n2 c2, .int .i64 0, .int .i64 0, .int .i64 0, .int .i64 0, .int .i64 0, .int .i64 0, .int .i64 0, .int .i64 0, .slice none 0 0, .slice none 0 0, .slice none 0 0, .int .i64 0, .int .i64 0, .int .i64 0, .int .i64 0, .int .i64 0, .int .i64 0, .int .i64 0, .int .i64 0, .slice none 0 0, .slice none 0 0, .slice none 0 0, .int .i64 0, .int .i64 0, .int .i64 0, .int .i64 0, .int .i64 0, .int .i64 0, .int .i64 0, .int .i64 0, .slice none 0 0, .slice none 0 0, .slice none 0 0, .slice none 0 0] 62)).alloc (.cells #[.int .i64 0, .int .i64 0, .int .i64 0, .int .i64 0, .int .i64 0, .slice none 0 0, .slice none 0 0, .slice none 0 0, .slice none 0 0, .slice none 0 0] 38)).heap.size = w.heap.size + 2) := by show _ = _; simp
  clear e1 e2 z1 z2
  go_enter Try.func20, Try.ntmps20
  go_upto_region 1 with fail
  generalize ((w.alloc (.cells #[.int .i64 sa, .int .i64 si, .int .i64 ho, .int .i64 nx, .slice a1 n1 c1, .slice a2 n2 c2, .int .i64 0, .int .i64 0, .int .i64 0, .int .i64 0, .int .i64 0, .int .i64 0, .int .i64 0, .int .i64 0, .slice none 0 0, .slice none 0 0, .slice none 0 0, .int .i64 0, .int .i64 0, .int .i64 0, .int .i64 0, .int .i64 0, .int .i64 0, .int .i64 0, .int .i64 0, .slice none 0 0, .slice none 0 0, .slice none 0 0, .int .i64 0, .int .i64 0, .int .i64 0, .int .i64 0, .int .i64 0, .int .i64 0, .int .i64 0, .int .i64 0, .slice none 0 0, .slice none 0 0, .slice none 0 0, .slice none 0 0] 62)).alloc (.cells #[.int .i64 0, .int .i64 0, .int .i64 0, .int .i64 0, .int .i64 0, .slice none 0 0, .slice none 0 0, .slice none 0 0, .slice none 0 0, .slice none 0 0] 38)) = w0 at *
  have cA := bA.cells
  have i1 := h1.new hw
  have i2 := h2.new hw
  have al0 : New w0 (w0.alloc (.cells #[.int .i64 0, .int .i64 0, .int .i64 0, .int .i64 0, .int .i64 0, .slice none 0 0, .slice none 0 0, .slice none 0 0, .slice none 0 0, .slice none 0 0] 38)).drew := ((New.refl w0).alloc _).drew
  have bZ : Blk (w0.alloc (.cells #[.int .i64 0, .int .i64 0, .int .i64 0, .int .i64 0, .int .i64 0, .slice none 0 0, .slice none 0 0, .slice none 0 0, .slice none 0 0, .slice none 0 0] 38)).drew w0.heap.size 38 #[.int .i64 0, .int .i64 0, .int .i64 0, .int .i64 0, .int .i64 0, .slice none 0 0, .slice none 0 0, .slice none 0 0, .slice none 0 0, .slice none 0 0] := (Blk.mk w0 _ _ _ rfl).new ((New.refl _).drew)
  have cA' := (bA.new al0).cells
  have cA2 : ∀ j, w0.drew.cell? ⟨w.heap.size, j, none⟩ = #[Value.int .i64 sa, .int .i64 si, .int .i64 ho, .int .i64 nx, .slice a1 n1 c1, .slice a2 n2 c2, .int .i64 0, .int .i64 0, .int .i64 0, .int .i64 0, .int .i64 0, .int .i64 0, .int .i64 0, .int .i64 0, .slice none 0 0, .slice none 0 0, .slice none 0 0, .int .i64 0, .int .i64 0, .int .i64 0, .int .i64 0, .int .i64 0, .int .i64 0, .int .i64 0, .int .i64 0, .slice none 0 0, .slice none 0 0, .slice none 0 0, .int .i64 0, .int .i64 0, .int .i64 0, .int .i64 0, .int .i64 0, .int .i64 0, .int .i64 0, .int .i64 0, .slice none 0 0, .slice none 0 0, .slice none 0 0, .slice none 0 0][j]? := (bA.new ((New.refl _).drew)).cells
  have K0 : ∀ (X : World) (i j : Nat) (u : Value), (X.setCell ⟨w0.heap.size, i, none⟩ u).cell? ⟨w.heap.size, j, none⟩ = X.cell? ⟨w.heap.size, j, none⟩ := fun X i j u => World.cell?_of_block (Below.heap_setCell X ⟨w0.heap.size, i, none⟩ u w.heap.size (by have := SZ0.out; show w.heap.size ≠ w0.heap.size; omega))
  refine Code.wp_mono (Q := fun e a' W => match e with | .normal => ∃ (B3 : Nat) (x1 : Option Addr) (d1 : Nat) (x2 : Option Addr) (d2 : Nat) (g0 g7 g8 g9 g10 g11 g12 g13 g14 : Value), a' = { tmps := #[g0, .pointer (some ⟨w.heap.size, 0, none⟩), .pointer (some ⟨w.heap.size + 1, 0, none⟩), .pointer (some ⟨B3, 0, none⟩), undef, undef, undef, g7, g8, g9, g10, g11, g12, g13, g14, undef, undef, undef, undef, undef, undef, undef, undef, undef, undef, undef, undef, undef, undef, undef, undef, undef, undef, undef, undef, undef, undef, undef, undef, undef, undef, undef, undef, undef, undef, undef, undef, undef, undef], defers := [] } ∧ New w W ∧ Blk W w.heap.size 62 #[.int .i64 sa, .int .i64 si, .int .i64 ho, .int .i64 nx, .slice a1 n1 c1, .slice a2 n2 c2, .int .i64 0, .int .i64 0, .int .i64 0, .int .i64 0, .int .i64 0, .int .i64 0, .int .i64 0, .int .i64 0, .slice none 0 0, .slice none 0 0, .slice none 0 0, .int .i64 0, .int .i64 0, .int .i64 0, .int .i64 0, .int .i64 0, .int .i64 0, .int .i64 0, .int .i64 0, .slice none 0 0, .slice none 0 0, .slice none 0 0, .int .i64 0, .int .i64 0, .int .i64 0, .int .i64 0, .int .i64 0, .int .i64 0, .int .i64 0, .int .i64 0, .slice none 0 0, .slice none 0 0, .slice none 0 0, .slice none 0 0] ∧ Blk W B3 38 #[.int .i64 0, .int .i64 sa, .int .i64 si, .int .i64 ho, .int .i64 nx, .slice x1 n1 d1, .slice x2 n2 d2, .slice none 0 0, .slice none 0 0, .slice none 0 0] ∧ Blk W (w.heap.size + 1) 38 #[.int .i64 0, .int .i64 0, .int .i64 0, .int .i64 0, .int .i64 0, .slice none 0 0, .slice none 0 0, .slice none 0 0, .slice none 0 0, .slice none 0 0] ∧ OvR W (w.heap.size + 2) (.slice x1 n1 d1) r1 ∧ OvR W (w.heap.size + 2) (.slice x2 n2 d2) r2 ∧ (∀ k, (Value.slice x1 n1 d1).ownBlock = some k → (Value.slice x2 n2 d2).ownBlock ≠ some k ∧ k ≠ B3) ∧ (∀ k, (Value.slice x2 n2 d2).ownBlock = some k → k ≠ B3) ∧ w.heap.size + 2 ≤ B3 | _ => False) ?hq ?h
  case h =>
    go_region_held3 (fun W => ∀ j, W.cell? ⟨w.heap.size, j, none⟩ = #[Value.int .i64 sa, .int .i64 si, .int .i64 ho, .int .i64 nx, .slice a1 n1 c1, .slice a2 n2 c2, .int .i64 0, .int .i64 0, .int .i64 0, .int .i64 0, .int .i64 0, .int .i64 0, .int .i64 0, .int .i64 0, .slice none 0 0, .slice none 0 0, .slice none 0 0, .int .i64 0, .int .i64 0, .int .i64 0, .int .i64 0, .int .i64 0, .int .i64 0, .int .i64 0, .int .i64 0, .slice none 0 0, .slice none 0 0, .slice none 0 0, .int .i64 0, .int .i64 0, .int .i64 0, .int .i64 0, .int .i64 0, .int .i64 0, .int .i64 0, .int .i64 0, .slice none 0 0, .slice none 0 0, .slice none 0 0, .slice none 0 0][j]?) (first | (intro j; rw [K0, K0, K0, K0, K0, K0, K0, K0, K0, K0]; exact cA3 j) | exact cA5 | exact cA4 | exact cA' | exact cA2 | exact cA3)
      (first
        | (go_at_call 38; refine (copySe sa si ho nx a1 a2 n1 c1 n2 c2 r1 r2 _ ?_ ?_ E1.out E2.out m1 m2 Z1.out Z2.out).mono ?_; (first | exact i1.new ((New.refl _).drew) | exact i1.new al0); (first | exact i2.new ((New.refl _).drew) | exact i2.new al0); rintro e w2 ⟨x1, d1, x2, d2, rfl, o1, o2, ap, hn2⟩; (first | have hm2 := al0.trans hn2 | have hm2 := ((New.refl _).drew).trans hn2); have bA2 := bA.new hm2; have cA3 := bA2.cells; have cA4 := (bA2.new ((New.refl _).alloc (.cells #[.int .i64 0, .int .i64 0, .int .i64 0, .int .i64 0, .int .i64 0, .slice none 0 0, .slice none 0 0, .slice none 0 0, .slice none 0 0, .slice none 0 0] 38))).cells; have cA5 := (bA2.new ((New.refl _).alloc (.cells #[.int .i64 0, .int .i64 sa, .int .i64 si, .int .i64 ho, .int .i64 nx, .slice x1 n1 d1, .slice x2 n2 d2, .slice none 0 0, .slice none 0 0, .slice none 0 0] 38))).cells; try (have bZ2 := bZ.new hn2; have cZ2 := bZ2.cells; have fZ2 := bZ2.frees))
        | (go_at_call 39; refine (copyRts0 _).mono ?_; rintro e w3 ⟨rfl, hw3⟩; obtain rfl := hw3.symm))
    all_goals
      have sz0 := SZ0.out
      have szm := hm2.size
      have hdz : (w0.drew).heap.size = w0.heap.size := rfl
      have hda : ((w0.alloc (.cells #[.int .i64 0, .int .i64 0, .int .i64 0, .int .i64 0, .int .i64 0, .slice none 0 0, .slice none 0 0, .slice none 0 0, .slice none 0 0, .slice none 0 0] 38)).drew).heap.size = w0.heap.size + 1 := by show (w0.alloc (.cells #[.int .i64 0, .int .i64 0, .int .i64 0, .int .i64 0, .int .i64 0, .slice none 0 0, .slice none 0 0, .slice none 0 0, .slice none 0 0, .slice none 0 0] 38)).heap.size = _; simp
    · have al := (New.refl w2).alloc (.cells #[.int .i64 0, .int .i64 sa, .int .i64 si, .int .i64 ho, .int .i64 nx, .slice x1 n1 d1, .slice x2 n2 d2, .slice none 0 0, .slice none 0 0, .slice none 0 0] 38)
      have p1 := o1.low (lo' := w.heap.size + 2) (by omega)
      have p2 := o2.low (lo' := w.heap.size + 2) (by omega)
      exact ⟨w2.heap.size, x1, d1, x2, d2, _, _, _, _, _, _, _, _, _, rfl, (hw.trans hm2).trans al, (bA.new hm2).new al, Blk.mk _ _ _ _ rfl, (bB.new hm2).new al, p1.new al, p2.new al, fun k hk => ⟨ap k hk, by have := (p1.blk k hk).2; omega⟩, fun k hk => by have := (p2.blk k hk).2; omega, by omega⟩
    · have al := (New.refl w2).alloc (.cells #[.int .i64 0, .int .i64 sa, .int .i64 si, .int .i64 ho, .int .i64 nx, .slice x1 n1 d1, .slice x2 n2 d2, .slice none 0 0, .slice none 0 0, .slice none 0 0] 38)
      have p1 := o1.low (lo' := w.heap.size + 2) (by omega)
      have p2 := o2.low (lo' := w.heap.size + 2) (by omega)
      exact ⟨w2.heap.size, x1, d1, x2, d2, _, _, _, _, _, _, _, _, _, rfl, (hw.trans hm2).trans al, (bA.new hm2).new al, Blk.mk _ _ _ _ rfl, (bB.new hm2).new al, p1.new al, p2.new al, fun k hk => ⟨ap k hk, by have := (p1.blk k hk).2; omega⟩, fun k hk => by have := (p2.blk k hk).2; omega, by omega⟩
    · have t10 := set10 w2 w0.heap.size (.int .i64 0) (.int .i64 sa) (.int .i64 si) (.int .i64 ho) (.int .i64 nx) (.slice x1 n1 d1) (.slice x2 n2 d2) (.slice none 0 0) (.slice none 0 0) (.slice none 0 0)
      have p1 := o1.low (lo' := w.heap.size + 3) (by omega)
      have p2 := o2.low (lo' := w.heap.size + 3) (by omega)
      refine ⟨w0.heap.size, x1, d1, x2, d2, _, _, _, _, _, _, _, _, _, rfl, (hw.trans hm2).before t10 (by intro i hi e; omega), (bA.new hm2).turn t10 (by omega), ?_, (bB.new hm2).turn t10 (by omega), (p1.turn t10 (by intro k hk e; have := (p1.blk k hk).1; omega)).low (by omega), (p2.turn t10 (by intro k hk e; have := (p2.blk k hk).1; omega)).low (by omega), fun k hk => ⟨ap k hk, by have := (p1.blk k hk).1; omega⟩, fun k hk => by have := (p2.blk k hk).1; omega, by omega⟩
      have g0 : Blk (w2.setCell ⟨w0.heap.size, 0, none⟩ (.int .i64 0)) w0.heap.size 38 #[.int .i64 0, .int .i64 0, .int .i64 0, .int .i64 0, .int .i64 0, .slice none 0 0, .slice none 0 0, .slice none 0 0, .slice none 0 0, .slice none 0 0] := bZ2.set 0 (.int .i64 0)
      have g1 : Blk ((w2.setCell ⟨w0.heap.size, 0, none⟩ (.int .i64 0)).setCell ⟨w0.heap.size, 1, none⟩ (.int .i64 sa)) w0.heap.size 38 #[.int .i64 0, .int .i64 sa, .int .i64 0, .int .i64 0, .int .i64 0, .slice none 0 0, .slice none 0 0, .slice none 0 0, .slice none 0 0, .slice none 0 0] := g0.set 1 (.int .i64 sa)
      have g2 : Blk (((w2.setCell ⟨w0.heap.size, 0, none⟩ (.int .i64 0)).setCell ⟨w0.heap.size, 1, none⟩ (.int .i64 sa)).setCell ⟨w0.heap.size, 2, none⟩ (.int .i64 si)) w0.heap.size 38 #[.int .i64 0, .int .i64 sa, .int .i64 si, .int .i64 0, .int .i64 0, .slice none 0 0, .slice none 0 0, .slice none 0 0, .slice none 0 0, .slice none 0 0] := g1.set 2 (.int .i64 si)
      have g3 : Blk ((((w2.setCell ⟨w0.heap.size, 0, none⟩ (.int .i64 0)).setCell ⟨w0.heap.size, 1, none⟩ (.int .i64 sa)).setCell ⟨w0.heap.size, 2, none⟩ (.int .i64 si)).setCell ⟨w0.heap.size, 3, none⟩ (.int .i64 ho)) w0.heap.size 38 #[.int .i64 0, .int .i64 sa, .int .i64 si, .int .i64 ho, .int .i64 0, .slice none 0 0, .slice none 0 0, .slice none 0 0, .slice none 0 0, .slice none 0 0] := g2.set 3 (.int .i64 ho)
      have g4 : Blk (((((w2.setCell ⟨w0.heap.size, 0, none⟩ (.int .i64 0)).setCell ⟨w0.heap.size, 1, none⟩ (.int .i64 sa)).setCell ⟨w0.heap.size, 2, none⟩ (.int .i64 si)).setCell ⟨w0.heap.size, 3, none⟩ (.int .i64 ho)).setCell ⟨w0.heap.size, 4, none⟩ (.int .i64 nx)) w0.heap.size 38 #[.int .i64 0, .int .i64 sa, .int .i64 si, .int .i64 ho, .int .i64 nx, .slice none 0 0, .slice none 0 0, .slice none 0 0, .slice none 0 0, .slice none 0 0] := g3.set 4 (.int .i64 nx)
      have g5 : Blk ((((((w2.setCell ⟨w0.heap.size, 0, none⟩ (.int .i64 0)).setCell ⟨w0.heap.size, 1, none⟩ (.int .i64 sa)).setCell ⟨w0.heap.size, 2, none⟩ (.int .i64 si)).setCell ⟨w0.heap.size, 3, none⟩ (.int .i64 ho)).setCell ⟨w0.heap.size, 4, none⟩ (.int .i64 nx)).setCell ⟨w0.heap.size, 5, none⟩ (.slice x1 n1 d1)) w0.heap.size 38 #[.int .i64 0, .int .i64 sa, .int .i64 si, .int .i64 ho, .int .i64 nx, .slice x1 n1 d1, .slice none 0 0, .slice none 0 0, .slice none 0 0, .slice none 0 0] := g4.set 5 (.slice x1 n1 d1)
      have g6 : Blk (((((((w2.setCell ⟨w0.heap.size, 0, none⟩ (.int .i64 0)).setCell ⟨w0.heap.size, 1, none⟩ (.int .i64 sa)).setCell ⟨w0.heap.size, 2, none⟩ (.int .i64 si)).setCell ⟨w0.heap.size, 3, none⟩ (.int .i64 ho)).setCell ⟨w0.heap.size, 4, none⟩ (.int .i64 nx)).setCell ⟨w0.heap.size, 5, none⟩ (.slice x1 n1 d1)).setCell ⟨w0.heap.size, 6, none⟩ (.slice x2 n2 d2)) w0.heap.size 38 #[.int .i64 0, .int .i64 sa, .int .i64 si, .int .i64 ho, .int .i64 nx, .slice x1 n1 d1, .slice x2 n2 d2, .slice none 0 0, .slice none 0 0, .slice none 0 0] := g5.set 6 (.slice x2 n2 d2)
      have g7 : Blk ((((((((w2.setCell ⟨w0.heap.size, 0, none⟩ (.int .i64 0)).setCell ⟨w0.heap.size, 1, none⟩ (.int .i64 sa)).setCell ⟨w0.heap.size, 2, none⟩ (.int .i64 si)).setCell ⟨w0.heap.size, 3, none⟩ (.int .i64 ho)).setCell ⟨w0.heap.size, 4, none⟩ (.int .i64 nx)).setCell ⟨w0.heap.size, 5, none⟩ (.slice x1 n1 d1)).setCell ⟨w0.heap.size, 6, none⟩ (.slice x2 n2 d2)).setCell ⟨w0.heap.size, 7, none⟩ (.slice none 0 0)) w0.heap.size 38 #[.int .i64 0, .int .i64 sa, .int .i64 si, .int .i64 ho, .int .i64 nx, .slice x1 n1 d1, .slice x2 n2 d2, .slice none 0 0, .slice none 0 0, .slice none 0 0] := g6.set 7 (.slice none 0 0)
      have g8 : Blk (((((((((w2.setCell ⟨w0.heap.size, 0, none⟩ (.int .i64 0)).setCell ⟨w0.heap.size, 1, none⟩ (.int .i64 sa)).setCell ⟨w0.heap.size, 2, none⟩ (.int .i64 si)).setCell ⟨w0.heap.size, 3, none⟩ (.int .i64 ho)).setCell ⟨w0.heap.size, 4, none⟩ (.int .i64 nx)).setCell ⟨w0.heap.size, 5, none⟩ (.slice x1 n1 d1)).setCell ⟨w0.heap.size, 6, none⟩ (.slice x2 n2 d2)).setCell ⟨w0.heap.size, 7, none⟩ (.slice none 0 0)).setCell ⟨w0.heap.size, 8, none⟩ (.slice none 0 0)) w0.heap.size 38 #[.int .i64 0, .int .i64 sa, .int .i64 si, .int .i64 ho, .int .i64 nx, .slice x1 n1 d1, .slice x2 n2 d2, .slice none 0 0, .slice none 0 0, .slice none 0 0] := g7.set 8 (.slice none 0 0)
      have g9 : Blk ((((((((((w2.setCell ⟨w0.heap.size, 0, none⟩ (.int .i64 0)).setCell ⟨w0.heap.size, 1, none⟩ (.int .i64 sa)).setCell ⟨w0.heap.size, 2, none⟩ (.int .i64 si)).setCell ⟨w0.heap.size, 3, none⟩ (.int .i64 ho)).setCell ⟨w0.heap.size, 4, none⟩ (.int .i64 nx)).setCell ⟨w0.heap.size, 5, none⟩ (.slice x1 n1 d1)).setCell ⟨w0.heap.size, 6, none⟩ (.slice x2 n2 d2)).setCell ⟨w0.heap.size, 7, none⟩ (.slice none 0 0)).setCell ⟨w0.heap.size, 8, none⟩ (.slice none 0 0)).setCell ⟨w0.heap.size, 9, none⟩ (.slice none 0 0)) w0.heap.size 38 #[.int .i64 0, .int .i64 sa, .int .i64 si, .int .i64 ho, .int .i64 nx, .slice x1 n1 d1, .slice x2 n2 d2, .slice none 0 0, .slice none 0 0, .slice none 0 0] := g8.set 9 (.slice none 0 0)
      exact g9
  case hq =>
    rintro e a' wX hX
    cases e
    case normal =>
      obtain ⟨B3, x1, d1, x2, d2, g0, g7, g8, g9, g10, g11, g12, g13, g14, rfl, nX, bP, bR, bBX, o1, o2, apx, apy, hB3⟩ := hX
      clear hw bA bB i1 i2 al0 bZ cA' cA2 K0 cA h1 h2
      have hr : wX.rangeAt w.heap.size 6 [Value.int .i64 0, .int .i64 0, .int .i64 0, .int .i64 0, .int .i64 0, .int .i64 0, .int .i64 0, .int .i64 0, .slice none 0 0, .slice none 0 0, .slice none 0 0, .int .i64 0, .int .i64 0, .int .i64 0, .int .i64 0, .int .i64 0, .int .i64 0, .int .i64 0, .int .i64 0, .slice none 0 0, .slice none 0 0, .slice none 0 0, .int .i64 0, .int .i64 0, .int .i64 0, .int .i64 0, .int .i64 0, .int .i64 0, .int .i64 0, .int .i64 0, .slice none 0 0, .slice none 0 0, .slice none 0 0] := by
        intro j v hv
        have e : [Value.int .i64 sa, .int .i64 si, .int .i64 ho, .int .i64 nx, .slice a1 n1 c1, .slice a2 n2 c2, .int .i64 0, .int .i64 0, .int .i64 0, .int .i64 0, .int .i64 0, .int .i64 0, .int .i64 0, .int .i64 0, .slice none 0 0, .slice none 0 0, .slice none 0 0, .int .i64 0, .int .i64 0, .int .i64 0, .int .i64 0, .int .i64 0, .int .i64 0, .int .i64 0, .int .i64 0, .slice none 0 0, .slice none 0 0, .slice none 0 0, .int .i64 0, .int .i64 0, .int .i64 0, .int .i64 0, .int .i64 0, .int .i64 0, .int .i64 0, .int .i64 0, .slice none 0 0, .slice none 0 0, .slice none 0 0, .slice none 0 0][6 + j]? = ([Value.int .i64 0, .int .i64 0, .int .i64 0, .int .i64 0, .int .i64 0, .int .i64 0, .int .i64 0, .int .i64 0, .slice none 0 0, .slice none 0 0, .slice none 0 0, .int .i64 0, .int .i64 0, .int .i64 0, .int .i64 0, .int .i64 0, .int .i64 0, .int .i64 0, .int .i64 0, .slice none 0 0, .slice none 0 0, .slice none 0 0, .int .i64 0, .int .i64 0, .int .i64 0, .int .i64 0, .int .i64 0, .int .i64 0, .int .i64 0, .int .i64 0, .slice none 0 0, .slice none 0 0, .slice none 0 0] ++ [Value.slice none 0 0])[j]? := by rw [← List.getElem?_drop]; rfl
        have hj := (List.getElem?_eq_some_iff.1 hv).1
        rw [bP.cells (6 + j), List.getElem?_toArray, e, List.getElem?_append_left hj]
        exact hv
      have X0 := ix9_0
      have X1 := ix9_1
      have X2 := ix9_2
      have HI0 : Hid (ResIn w wX B3 sa si ho nx n1 n2 x1 d1 x2 d2 r1 r2 0 0 none 0 none 0) := ⟨nX, bR, bBX, o1, o2, ⟨rfl, .inl ⟨rfl, rfl⟩⟩, ⟨rfl, .inl ⟨rfl, rfl⟩⟩, fun k hk => (apx k hk).1, by intro k _ h; simp [Value.ownBlock] at h, by intro k _ h; simp [Value.ownBlock] at h, by intro k _ h; simp [Value.ownBlock] at h, by intro k _ h; simp [Value.ownBlock] at h, by intro k h; simp [Value.ownBlock] at h, fun k hk => (apx k hk).2, apy, by intro k h; simp [Value.ownBlock] at h, by intro k h; simp [Value.ownBlock] at h, hB3⟩
      clear nX bR bBX o1 o2 apx apy bP
      go_wp2_with (refine wpList_load_mid rfl 60 (.tmp 15) rfl w.heap.size 6 rfl [Value.int .i64 0, .int .i64 0, .int .i64 0, .int .i64 0, .int .i64 0, .int .i64 0, .int .i64 0, .int .i64 0, .slice none 0 0, .slice none 0 0, .slice none 0 0, .int .i64 0, .int .i64 0, .int .i64 0, .int .i64 0, .int .i64 0, .int .i64 0, .int .i64 0, .int .i64 0, .slice none 0 0, .slice none 0 0, .slice none 0 0, .int .i64 0, .int .i64 0, .int .i64 0, .int .i64 0, .int .i64 0, .int .i64 0, .int .i64 0, .int .i64 0, .slice none 0 0, .slice none 0 0, .slice none 0 0] _ hr Try.underlying60 rfl (by kernel_rfl) ?_)
      generalize Value.agg #[Value.int .i64 0, .int .i64 0, .int .i64 0, .int .i64 0, .int .i64 0, .int .i64 0, .int .i64 0, .int .i64 0, .slice none 0 0, .slice none 0 0, .slice none 0 0, .int .i64 0, .int .i64 0, .int .i64 0, .int .i64 0, .int .i64 0, .int .i64 0, .int .i64 0, .int .i64 0, .slice none 0 0, .slice none 0 0, .slice none 0 0, .int .i64 0, .int .i64 0, .int .i64 0, .int .i64 0, .int .i64 0, .int .i64 0, .int .i64 0, .int .i64 0, .slice none 0 0, .slice none 0 0, .slice none 0 0] = VA at *
      clear hr
      go_loopw [17] (fun i wr => ∃ (k : Nat) (yl : Option Addr) (dl : Nat) (yo : Option Addr) (dO : Nat), k ≤ 3 ∧ i = .int .i64 k ∧ Hid (ResIn w wr B3 sa si ho nx n1 n2 x1 d1 x2 d2 r1 r2 k k yl dl yo dO)) (fun i _ => 3 - (intOf i).toNat)
      case atStart => exact ⟨0, none, 0, none, 0, Nat.zero_le _, rfl, HI0⟩
      case round =>
        obtain ⟨k, yl, dl, yo, dO, hk, rfl, HI⟩ := hrel
        obtain ⟨iL, hiL, hzL0, hzL1, hzL2⟩ := info_parts Try.infoLk9
        obtain ⟨iB, hiB, hzB0, hzB1, hzB2⟩ := info_parts Try.infoBs9
        by_cases hlt : k < 3
        · have hk3 : k = 0 ∨ k = 1 ∨ k = 2 := by omega
          have al4 : New wr (wr.alloc (.cells #[.int .i64 0, .int .i64 0, .int .i64 0, .int .i64 0, .int .i64 0, .int .i64 0, .int .i64 0, .int .i64 0, .slice none 0 0, .slice none 0 0, .slice none 0 0] 59)) := (New.refl wr).alloc _
          have b5 : Blk (wr.alloc (.cells #[.int .i64 0, .int .i64 0, .int .i64 0, .int .i64 0, .int .i64 0, .int .i64 0, .int .i64 0, .int .i64 0, .slice none 0 0, .slice none 0 0, .slice none 0 0] 59)) wr.heap.size 59 #[.int .i64 0, .int .i64 0, .int .i64 0, .int .i64 0, .int .i64 0, .int .i64 0, .int .i64 0, .int .i64 0, .slice none 0 0, .slice none 0 0, .slice none 0 0] := Blk.mk _ _ _ _ rfl
          rcases hk3 with rfl | rfl | rfl
          · go_upto_region 5 with fail
            generalize wr.alloc (.cells #[.int .i64 0, .int .i64 0, .int .i64 0, .int .i64 0, .int .i64 0, .int .i64 0, .int .i64 0, .int .i64 0, .slice none 0 0, .slice none 0 0, .slice none 0 0] 59) = w4 at *
            clear X0 X1 X2
            have hI4 := HI.out.new al4
            have fl0 : ∀ j, (Value.slice yl 0 dl).ownBlock = some j → j < wr.heap.size := by
              obtain ⟨_, _, _, _, f⟩ := row9_form HI.out.ol
              exact fun j hj => (f j hj).2
            have hb3 := HI.out.b3
            clear HI
            go_region_held3 (fun W => ∀ j, W.cell? ⟨wr.heap.size, j, none⟩ = #[Value.int .i64 0, .int .i64 0, .int .i64 0, .int .i64 0, .int .i64 0, .int .i64 0, .int .i64 0, .int .i64 0, .slice none 0 0, .slice none 0 0, .slice none 0 0][j]?) (first | exact (b5.new ((((New.refl _).alloc _).alloc _).drew)).cells | exact (b5.new (((New.refl _).alloc _).drew)).cells | exact (b5.new ((New.refl _).drew)).cells)
              (first
                | (go_at_call 40; refine (concatB0 _ _ ?_).mono ?_; go_simp; rintro e w5 ⟨rfl, h5⟩; obtain rfl := h5.symm)
                | (go_at_call 41; refine (copyTds0 _).mono ?_; rintro e w6 ⟨rfl, h6⟩; obtain rfl := h6.symm))
            · have t5 : New w4 ((w4.alloc (.cells #[.slice none 0 0] 54)).alloc (.cells #[.int .i64 0, .int .i64 0, .int .i64 0, .int .i64 0, .int .i64 0, .slice none 0 0, .slice none 0 0] 76)).drew := (((New.refl w4).alloc _).alloc _).drew
              have bK : Blk ((w4.alloc (.cells #[.slice none 0 0] 54)).alloc (.cells #[.int .i64 0, .int .i64 0, .int .i64 0, .int .i64 0, .int .i64 0, .slice none 0 0, .slice none 0 0] 76)).drew (w4.heap.size + 1) 76 #[.int .i64 0, .int .i64 0, .int .i64 0, .int .i64 0, .int .i64 0, .slice none 0 0, .slice none 0 0] := (Blk.mk _ _ _ _ (by simp)).new ((New.refl _).drew)
              have hI5 := hI4.new t5
              have b55 := b5.new t5
              generalize ((w4.alloc (.cells #[.slice none 0 0] 54)).alloc (.cells #[.int .i64 0, .int .i64 0, .int .i64 0, .int .i64 0, .int .i64 0, .slice none 0 0, .slice none 0 0] 76)).drew = W5 at *
              generalize w4.heap.size + 1 = B6 at *
              clear t5 hI4
              have cR := hI5.br.cells
              have cK := bK.cells
              have al6 : New W5 (W5.alloc (.cells #[.int .i64 0, .int .i64 0, .int .i64 0, .int .i64 0, .int .i64 0, .slice none 0 0, .slice none 0 0] 76)) := (New.refl W5).alloc _
              have hI6 := hI5.new al6
              have c6 := (Blk.mk W5 W5.heap.size 76 #[.int .i64 0, .int .i64 0, .int .i64 0, .int .i64 0, .int .i64 0, .slice none 0 0, .slice none 0 0] rfl).cells
              go_wp2_with (at_builtin; refine wpList_apV _ rfl (.tmp 33) (.tmp 35) rfl (w.heap.size + 2) 7 88 (.agg #[.int .i64 0, .int .i64 0, .int .i64 0, .int .i64 0, .int .i64 0, .slice none 0 0, .slice none 0 0]) Try.underlying32 hiL hzL0 hzL1 hzL2 rfl (by omega) (by omega) _ _ _ rfl hI6.ol W5.heap.size [Value.int .i64 0, .int .i64 0, .int .i64 0, .int .i64 0, .int .i64 0, .slice none 0 0, .slice none 0 0] rfl (by simp [Value.oneCell']) rfl (by intro j u hu; rw [c6 j, List.getElem?_toArray]; exact hu) (by omega) (by have := hI6.nw.size; have := hI6.hb; have := hI6.b3; omega) ?_)
              intro v6 w6 o6 g6 ob6
              obtain ⟨y6, d6, hv6, -, -⟩ := row9_form o6
              have hv6' : v6 = .slice y6 1 d6 := hv6
              subst hv6'
              have hI7 : ResIn w (w6.setCell ⟨B3, 7, none⟩ (.slice y6 1 d6)) B3 sa si ho nx n1 n2 x1 d1 x2 d2 r1 r2 1 0 y6 d6 yo dO := hI6.link o6 g6 (by simpa using ob6)
              have b36 := hI6.br.turn (turn_of_grown g6) (fun e => hI6.bl B3 e rfl)
              have c36 := b36.cells
              have f36 := b36.frees
              have b56 := (b55.new al6).turn (turn_of_grown g6) (fun e => by have := fl0 _ e; omega)
              have b57 := b56.turn (S := fun j => j = B3) (Turn.here9 (j := 7) (Turn.refl _ _) (.slice y6 1 d6)) (by omega)
              clear cR cK c6 hI5 b55 b36 b56 hI6 o6 g6 ob6 al6 bK hv6
              go_upto_region 7 with fail
              generalize (w6.setCell ⟨B3, 7, none⟩ (.slice y6 1 d6)) = w7 at *
              clear c36 f36
              have cR := hI7.br.cells
              have cK := b57.cells
              have al8 : New w7 (w7.alloc (.cells #[.slice none 0 0] 54)) := (New.refl w7).alloc _
              have hI8 := hI7.new al8
              have c8 := (Blk.mk w7 w7.heap.size 54 #[.slice none 0 0] rfl).cells
              go_wp2_with (at_builtin; refine wpList_apV _ rfl (.tmp 40) (.tmp 44) rfl (w.heap.size + 2) 1 24 (.slice none 0 0) Try.underlying36 hiB hzB0 hzB1 hzB2 rfl (by omega) (by omega) _ _ _ rfl hI8.oo w7.heap.size [Value.slice none 0 0] rfl (by simp [Value.oneCell']) rfl (by intro j u hu; rw [c8 j, List.getElem?_toArray]; exact hu) (by omega) (by have := hI8.nw.size; have := hI8.hb; have := hI8.b3; omega) ?_)
              intro v8 w8 o8 g8 ob8
              obtain ⟨y8, d8, hv8, -, -⟩ := row9_form o8
              have hv8' : v8 = .slice y8 1 d8 := hv8
              subst hv8'
              have hI9 : Hid (ResIn w (w8.setCell ⟨B3, 9, none⟩ (.slice y8 1 d8)) B3 sa si ho nx n1 n2 x1 d1 x2 d2 r1 r2 1 1 y6 d6 y8 d8) := hI8.out o8 g8 (by simpa using ob8)
              have b38 := hI8.br.turn (turn_of_grown g8) (fun e => hI8.bo B3 e rfl)
              have c38 := b38.cells
              have f38 := b38.frees
              clear cR cK c8 hI7 b38 hI8 o8 g8 ob8 al8 hv8 b57
              go_wp2
              go_roundw
              case rel => exact ⟨1, y6, d6, y8, d8, by omega, by go_num, hI9⟩
              case measure => simp [intOf]
            · have t5 : New w4 ((w4.alloc (.cells #[.slice none 0 0] 54)).alloc (.cells #[.int .i64 0, .int .i64 0, .int .i64 0, .int .i64 0, .int .i64 0, .slice none 0 0, .slice none 0 0] 76)).drew := (((New.refl w4).alloc _).alloc _).drew
              have bK : Blk ((w4.alloc (.cells #[.slice none 0 0] 54)).alloc (.cells #[.int .i64 0, .int .i64 0, .int .i64 0, .int .i64 0, .int .i64 0, .slice none 0 0, .slice none 0 0] 76)).drew (w4.heap.size + 1) 76 #[.int .i64 0, .int .i64 0, .int .i64 0, .int .i64 0, .int .i64 0, .slice none 0 0, .slice none 0 0] := (Blk.mk _ _ _ _ (by simp)).new ((New.refl _).drew)
              have hI5 := hI4.new t5
              have b55 := b5.new t5
              generalize ((w4.alloc (.cells #[.slice none 0 0] 54)).alloc (.cells #[.int .i64 0, .int .i64 0, .int .i64 0, .int .i64 0, .int .i64 0, .slice none 0 0, .slice none 0 0] 76)).drew = W5 at *
              generalize w4.heap.size + 1 = B6 at *
              clear t5 hI4
              have cR := hI5.br.cells
              have cK := bK.cells
              have al6 : New W5 (W5.alloc (.cells #[.int .i64 0, .int .i64 0, .int .i64 0, .int .i64 0, .int .i64 0, .slice none 0 0, .slice none 0 0] 76)) := (New.refl W5).alloc _
              have hI6 := hI5.new al6
              have c6 := (Blk.mk W5 W5.heap.size 76 #[.int .i64 0, .int .i64 0, .int .i64 0, .int .i64 0, .int .i64 0, .slice none 0 0, .slice none 0 0] rfl).cells
              go_wp2_with (at_builtin; refine wpList_apV _ rfl (.tmp 33) (.tmp 35) rfl (w.heap.size + 2) 7 88 (.agg #[.int .i64 0, .int .i64 0, .int .i64 0, .int .i64 0, .int .i64 0, .slice none 0 0, .slice none 0 0]) Try.underlying32 hiL hzL0 hzL1 hzL2 rfl (by omega) (by omega) _ _ _ rfl hI6.ol W5.heap.size [Value.int .i64 0, .int .i64 0, .int .i64 0, .int .i64 0, .int .i64 0, .slice none 0 0, .slice none 0 0] rfl (by simp [Value.oneCell']) rfl (by intro j u hu; rw [c6 j, List.getElem?_toArray]; exact hu) (by omega) (by have := hI6.nw.size; have := hI6.hb; have := hI6.b3; omega) ?_)
              intro v6 w6 o6 g6 ob6
              obtain ⟨y6, d6, hv6, -, -⟩ := row9_form o6
              have hv6' : v6 = .slice y6 1 d6 := hv6
              subst hv6'
              have hI7 : ResIn w (w6.setCell ⟨B3, 7, none⟩ (.slice y6 1 d6)) B3 sa si ho nx n1 n2 x1 d1 x2 d2 r1 r2 1 0 y6 d6 yo dO := hI6.link o6 g6 (by simpa using ob6)
              have b36 := hI6.br.turn (turn_of_grown g6) (fun e => hI6.bl B3 e rfl)
              have c36 := b36.cells
              have f36 := b36.frees
              have b56 := (b55.new al6).turn (turn_of_grown g6) (fun e => by have := fl0 _ e; omega)
              have b57 := b56.turn (S := fun j => j = B3) (Turn.here9 (j := 7) (Turn.refl _ _) (.slice y6 1 d6)) (by omega)
              clear cR cK c6 hI5 b55 b36 b56 hI6 o6 g6 ob6 al6 bK hv6
              go_upto_region 7 with fail
              generalize (w6.setCell ⟨B3, 7, none⟩ (.slice y6 1 d6)) = w7 at *
              clear c36 f36
              have cR := hI7.br.cells
              have cK := b57.cells
              have al8 : New w7 (w7.alloc (.cells #[.slice none 0 0] 54)) := (New.refl w7).alloc _
              have hI8 := hI7.new al8
              have c8 := (Blk.mk w7 w7.heap.size 54 #[.slice none 0 0] rfl).cells
              go_wp2_with (at_builtin; refine wpList_apV _ rfl (.tmp 40) (.tmp 44) rfl (w.heap.size + 2) 1 24 (.slice none 0 0) Try.underlying36 hiB hzB0 hzB1 hzB2 rfl (by omega) (by omega) _ _ _ rfl hI8.oo w7.heap.size [Value.slice none 0 0] rfl (by simp [Value.oneCell']) rfl (by intro j u hu; rw [c8 j, List.getElem?_toArray]; exact hu) (by omega) (by have := hI8.nw.size; have := hI8.hb; have := hI8.b3; omega) ?_)
              intro v8 w8 o8 g8 ob8
              obtain ⟨y8, d8, hv8, -, -⟩ := row9_form o8
              have hv8' : v8 = .slice y8 1 d8 := hv8
              subst hv8'
              have hI9 : Hid (ResIn w (w8.setCell ⟨B3, 9, none⟩ (.slice y8 1 d8)) B3 sa si ho nx n1 n2 x1 d1 x2 d2 r1 r2 1 1 y6 d6 y8 d8) := hI8.out o8 g8 (by simpa using ob8)
              have b38 := hI8.br.turn (turn_of_grown g8) (fun e => hI8.bo B3 e rfl)
              have c38 := b38.cells
              have f38 := b38.frees
              clear cR cK c8 hI7 b38 hI8 o8 g8 ob8 al8 hv8 b57
              go_wp2
              go_roundw
              case rel => exact ⟨1, y6, d6, y8, d8, by omega, by go_num, hI9⟩
              case measure => simp [intOf]
            · have t5 : New w4 ((w4.alloc (.cells #[.slice none 0 0] 54)).alloc (.cells #[.int .i64 0, .int .i64 0, .int .i64 0, .int .i64 0, .int .i64 0, .slice none 0 0, .slice none 0 0] 76)).drew := (((New.refl w4).alloc _).alloc _).drew
              have bK : Blk ((w4.alloc (.cells #[.slice none 0 0] 54)).alloc (.cells #[.int .i64 0, .int .i64 0, .int .i64 0, .int .i64 0, .int .i64 0, .slice none 0 0, .slice none 0 0] 76)).drew (w4.heap.size + 1) 76 #[.int .i64 0, .int .i64 0, .int .i64 0, .int .i64 0, .int .i64 0, .slice none 0 0, .slice none 0 0] := (Blk.mk _ _ _ _ (by simp)).new ((New.refl _).drew)
              have hI5 := hI4.new t5
              have b55 := b5.new t5
              generalize ((w4.alloc (.cells #[.slice none 0 0] 54)).alloc (.cells #[.int .i64 0, .int .i64 0, .int .i64 0, .int .i64 0, .int .i64 0, .slice none 0 0, .slice none 0 0] 76)).drew = W5 at *
              generalize w4.heap.size + 1 = B6 at *
              clear t5 hI4
              have cR := hI5.br.cells
              have cK := bK.cells
              have al6 : New W5 (W5.alloc (.cells #[.int .i64 0, .int .i64 0, .int .i64 0, .int .i64 0, .int .i64 0, .slice none 0 0, .slice none 0 0] 76)) := (New.refl W5).alloc _
              have hI6 := hI5.new al6
              have c6 := (Blk.mk W5 W5.heap.size 76 #[.int .i64 0, .int .i64 0, .int .i64 0, .int .i64 0, .int .i64 0, .slice none 0 0, .slice none 0 0] rfl).cells
              go_wp2_with (at_builtin; refine wpList_apV _ rfl (.tmp 33) (.tmp 35) rfl (w.heap.size + 2) 7 88 (.agg #[.int .i64 0, .int .i64 0, .int .i64 0, .int .i64 0, .int .i64 0, .slice none 0 0, .slice none 0 0]) Try.underlying32 hiL hzL0 hzL1 hzL2 rfl (by omega) (by omega) _ _ _ rfl hI6.ol W5.heap.size [Value.int .i64 0, .int .i64 0, .int .i64 0, .int .i64 0, .int .i64 0, .slice none 0 0, .slice none 0 0] rfl (by simp [Value.oneCell']) rfl (by intro j u hu; rw [c6 j, List.getElem?_toArray]; exact hu) (by omega) (by have := hI6.nw.size; have := hI6.hb; have := hI6.b3; omega) ?_)
              intro v6 w6 o6 g6 ob6
              obtain ⟨y6, d6, hv6, -, -⟩ := row9_form o6
              have hv6' : v6 = .slice y6 1 d6 := hv6
              subst hv6'
              have hI7 : ResIn w (w6.setCell ⟨B3, 7, none⟩ (.slice y6 1 d6)) B3 sa si ho nx n1 n2 x1 d1 x2 d2 r1 r2 1 0 y6 d6 yo dO := hI6.link o6 g6 (by simpa using ob6)
              have b36 := hI6.br.turn (turn_of_grown g6) (fun e => hI6.bl B3 e rfl)
              have c36 := b36.cells
              have f36 := b36.frees
              have b56 := (b55.new al6).turn (turn_of_grown g6) (fun e => by have := fl0 _ e; omega)
              have b57 := b56.turn (S := fun j => j = B3) (Turn.here9 (j := 7) (Turn.refl _ _) (.slice y6 1 d6)) (by omega)
              clear cR cK c6 hI5 b55 b36 b56 hI6 o6 g6 ob6 al6 bK hv6
              go_upto_region 7 with fail
              generalize (w6.setCell ⟨B3, 7, none⟩ (.slice y6 1 d6)) = w7 at *
              clear c36 f36
              have cR := hI7.br.cells
              have cK := b57.cells
              have al8 : New w7 (w7.alloc (.cells #[.slice none 0 0] 54)) := (New.refl w7).alloc _
              have hI8 := hI7.new al8
              have c8 := (Blk.mk w7 w7.heap.size 54 #[.slice none 0 0] rfl).cells
              go_wp2_with (at_builtin; refine wpList_apV _ rfl (.tmp 40) (.tmp 44) rfl (w.heap.size + 2) 1 24 (.slice none 0 0) Try.underlying36 hiB hzB0 hzB1 hzB2 rfl (by omega) (by omega) _ _ _ rfl hI8.oo w7.heap.size [Value.slice none 0 0] rfl (by simp [Value.oneCell']) rfl (by intro j u hu; rw [c8 j, List.getElem?_toArray]; exact hu) (by omega) (by have := hI8.nw.size; have := hI8.hb; have := hI8.b3; omega) ?_)
              intro v8 w8 o8 g8 ob8
              obtain ⟨y8, d8, hv8, -, -⟩ := row9_form o8
              have hv8' : v8 = .slice y8 1 d8 := hv8
              subst hv8'
              have hI9 : Hid (ResIn w (w8.setCell ⟨B3, 9, none⟩ (.slice y8 1 d8)) B3 sa si ho nx n1 n2 x1 d1 x2 d2 r1 r2 1 1 y6 d6 y8 d8) := hI8.out o8 g8 (by simpa using ob8)
              have b38 := hI8.br.turn (turn_of_grown g8) (fun e => hI8.bo B3 e rfl)
              have c38 := b38.cells
              have f38 := b38.frees
              clear cR cK c8 hI7 b38 hI8 o8 g8 ob8 al8 hv8 b57
              go_wp2
              go_roundw
              case rel => exact ⟨1, y6, d6, y8, d8, by omega, by go_num, hI9⟩
              case measure => simp [intOf]
            · have t5 : New w4 ((w4.alloc (.cells #[.int .i64 0, .int .i64 0, .int .i64 0, .int .i64 0, .int .i64 0, .slice none 0 0, .slice none 0 0] 76)).alloc (.cells #[.slice none 0 0] 54)).drew := (((New.refl w4).alloc _).alloc _).drew
              have bK : Blk ((w4.alloc (.cells #[.int .i64 0, .int .i64 0, .int .i64 0, .int .i64 0, .int .i64 0, .slice none 0 0, .slice none 0 0] 76)).alloc (.cells #[.slice none 0 0] 54)).drew (w4.heap.size) 76 #[.int .i64 0, .int .i64 0, .int .i64 0, .int .i64 0, .int .i64 0, .slice none 0 0, .slice none 0 0] := ((Blk.mk w4 _ _ _ rfl).new ((New.refl _).alloc _)).new ((New.refl _).drew)
              have hI5 := hI4.new t5
              have b55 := b5.new t5
              generalize ((w4.alloc (.cells #[.int .i64 0, .int .i64 0, .int .i64 0, .int .i64 0, .int .i64 0, .slice none 0 0, .slice none 0 0] 76)).alloc (.cells #[.slice none 0 0] 54)).drew = W5 at *
              generalize w4.heap.size = B6 at *
              clear t5 hI4
              have cR := hI5.br.cells
              have cK := bK.cells
              have al6 : New W5 (W5.alloc (.cells #[.int .i64 0, .int .i64 0, .int .i64 0, .int .i64 0, .int .i64 0, .slice none 0 0, .slice none 0 0] 76)) := (New.refl W5).alloc _
              have hI6 := hI5.new al6
              have c6 := (Blk.mk W5 W5.heap.size 76 #[.int .i64 0, .int .i64 0, .int .i64 0, .int .i64 0, .int .i64 0, .slice none 0 0, .slice none 0 0] rfl).cells
              go_wp2_with (at_builtin; refine wpList_apV _ rfl (.tmp 33) (.tmp 35) rfl (w.heap.size + 2) 7 88 (.agg #[.int .i64 0, .int .i64 0, .int .i64 0, .int .i64 0, .int .i64 0, .slice none 0 0, .slice none 0 0]) Try.underlying32 hiL hzL0 hzL1 hzL2 rfl (by omega) (by omega) _ _ _ rfl hI6.ol W5.heap.size [Value.int .i64 0, .int .i64 0, .int .i64 0, .int .i64 0, .int .i64 0, .slice none 0 0, .slice none 0 0] rfl (by simp [Value.oneCell']) rfl (by intro j u hu; rw [c6 j, List.getElem?_toArray]; exact hu) (by omega) (by have := hI6.nw.size; have := hI6.hb; have := hI6.b3; omega) ?_)
              intro v6 w6 o6 g6 ob6
              obtain ⟨y6, d6, hv6, -, -⟩ := row9_form o6
              have hv6' : v6 = .slice y6 1 d6 := hv6
              subst hv6'
              have hI7 : ResIn w (w6.setCell ⟨B3, 7, none⟩ (.slice y6 1 d6)) B3 sa si ho nx n1 n2 x1 d1 x2 d2 r1 r2 1 0 y6 d6 yo dO := hI6.link o6 g6 (by simpa using ob6)
              have b36 := hI6.br.turn (turn_of_grown g6) (fun e => hI6.bl B3 e rfl)
              have c36 := b36.cells
              have f36 := b36.frees
              have b56 := (b55.new al6).turn (turn_of_grown g6) (fun e => by have := fl0 _ e; omega)
              have b57 := b56.turn (S := fun j => j = B3) (Turn.here9 (j := 7) (Turn.refl _ _) (.slice y6 1 d6)) (by omega)
              clear cR cK c6 hI5 b55 b36 b56 hI6 o6 g6 ob6 al6 bK hv6
              go_upto_region 7 with fail
              generalize (w6.setCell ⟨B3, 7, none⟩ (.slice y6 1 d6)) = w7 at *
              clear c36 f36
              have cR := hI7.br.cells
              have cK := b57.cells
              have al8 : New w7 (w7.alloc (.cells #[.slice none 0 0] 54)) := (New.refl w7).alloc _
              have hI8 := hI7.new al8
              have c8 := (Blk.mk w7 w7.heap.size 54 #[.slice none 0 0] rfl).cells
              go_wp2_with (at_builtin; refine wpList_apV _ rfl (.tmp 40) (.tmp 44) rfl (w.heap.size + 2) 1 24 (.slice none 0 0) Try.underlying36 hiB hzB0 hzB1 hzB2 rfl (by omega) (by omega) _ _ _ rfl hI8.oo w7.heap.size [Value.slice none 0 0] rfl (by simp [Value.oneCell']) rfl (by intro j u hu; rw [c8 j, List.getElem?_toArray]; exact hu) (by omega) (by have := hI8.nw.size; have := hI8.hb; have := hI8.b3; omega) ?_)
              intro v8 w8 o8 g8 ob8
              obtain ⟨y8, d8, hv8, -, -⟩ := row9_form o8
              have hv8' : v8 = .slice y8 1 d8 := hv8
              subst hv8'
              have hI9 : Hid (ResIn w (w8.setCell ⟨B3, 9, none⟩ (.slice y8 1 d8)) B3 sa si ho nx n1 n2 x1 d1 x2 d2 r1 r2 1 1 y6 d6 y8 d8) := hI8.out o8 g8 (by simpa using ob8)
              have b38 := hI8.br.turn (turn_of_grown g8) (fun e => hI8.bo B3 e rfl)
              have c38 := b38.cells
              have f38 := b38.frees
              clear cR cK c8 hI7 b38 hI8 o8 g8 ob8 al8 hv8 b57
              go_wp2
              go_roundw
              case rel => exact ⟨1, y6, d6, y8, d8, by omega, by go_num, hI9⟩
              case measure => simp [intOf]
          · go_upto_region 5 with fail
            generalize wr.alloc (.cells #[.int .i64 0, .int .i64 0, .int .i64 0, .int .i64 0, .int .i64 0, .int .i64 0, .int .i64 0, .int .i64 0, .slice none 0 0, .slice none 0 0, .slice none 0 0] 59) = w4 at *
            clear X0 X1 X2
            have hI4 := HI.out.new al4
            have fl0 : ∀ j, (Value.slice yl 1 dl).ownBlock = some j → j < wr.heap.size := by
              obtain ⟨_, _, _, _, f⟩ := row9_form HI.out.ol
              exact fun j hj => (f j hj).2
            have hb3 := HI.out.b3
            clear HI
            go_region_held3 (fun W => ∀ j, W.cell? ⟨wr.heap.size, j, none⟩ = #[Value.int .i64 0, .int .i64 0, .int .i64 0, .int .i64 0, .int .i64 0, .int .i64 0, .int .i64 0, .int .i64 0, .slice none 0 0, .slice none 0 0, .slice none 0 0][j]?) (first | exact (b5.new ((((New.refl _).alloc _).alloc _).drew)).cells | exact (b5.new (((New.refl _).alloc _).drew)).cells | exact (b5.new ((New.refl _).drew)).cells)
              (first
                | (go_at_call 40; refine (concatB0 _ _ ?_).mono ?_; go_simp; rintro e w5 ⟨rfl, h5⟩; obtain rfl := h5.symm)
                | (go_at_call 41; refine (copyTds0 _).mono ?_; rintro e w6 ⟨rfl, h6⟩; obtain rfl := h6.symm))
            · have t5 : New w4 ((w4.alloc (.cells #[.slice none 0 0] 54)).alloc (.cells #[.int .i64 0, .int .i64 0, .int .i64 0, .int .i64 0, .int .i64 0, .slice none 0 0, .slice none 0 0] 76)).drew := (((New.refl w4).alloc _).alloc _).drew
              have bK : Blk ((w4.alloc (.cells #[.slice none 0 0] 54)).alloc (.cells #[.int .i64 0, .int .i64 0, .int .i64 0, .int .i64 0, .int .i64 0, .slice none 0 0, .slice none 0 0] 76)).drew (w4.heap.size + 1) 76 #[.int .i64 0, .int .i64 0, .int .i64 0, .int .i64 0, .int .i64 0, .slice none 0 0, .slice none 0 0] := (Blk.mk _ _ _ _ (by simp)).new ((New.refl _).drew)
              have hI5 := hI4.new t5
              have b55 := b5.new t5
              generalize ((w4.alloc (.cells #[.slice none 0 0] 54)).alloc (.cells #[.int .i64 0, .int .i64 0, .int .i64 0, .int .i64 0, .int .i64 0, .slice none 0 0, .slice none 0 0] 76)).drew = W5 at *
              generalize w4.heap.size + 1 = B6 at *
              clear t5 hI4
              have cR := hI5.br.cells
              have cK := bK.cells
              have al6 : New W5 (W5.alloc (.cells #[.int .i64 0, .int .i64 0, .int .i64 0, .int .i64 0, .int .i64 0, .slice none 0 0, .slice none 0 0] 76)) := (New.refl W5).alloc _
              have hI6 := hI5.new al6
              have c6 := (Blk.mk W5 W5.heap.size 76 #[.int .i64 0, .int .i64 0, .int .i64 0, .int .i64 0, .int .i64 0, .slice none 0 0, .slice none 0 0] rfl).cells
              go_wp2_with (at_builtin; refine wpList_apV _ rfl (.tmp 33) (.tmp 35) rfl (w.heap.size + 2) 7 88 (.agg #[.int .i64 0, .int .i64 0, .int .i64 0, .int .i64 0, .int .i64 0, .slice none 0 0, .slice none 0 0]) Try.underlying32 hiL hzL0 hzL1 hzL2 rfl (by omega) (by omega) _ _ _ rfl hI6.ol W5.heap.size [Value.int .i64 0, .int .i64 0, .int .i64 0, .int .i64 0, .int .i64 0, .slice none 0 0, .slice none 0 0] rfl (by simp [Value.oneCell']) rfl (by intro j u hu; rw [c6 j, List.getElem?_toArray]; exact hu) (by omega) (by have := hI6.nw.size; have := hI6.hb; have := hI6.b3; omega) ?_)
              intro v6 w6 o6 g6 ob6
              obtain ⟨y6, d6, hv6, -, -⟩ := row9_form o6
              have hv6' : v6 = .slice y6 2 d6 := hv6
              subst hv6'
              have hI7 : ResIn w (w6.setCell ⟨B3, 7, none⟩ (.slice y6 2 d6)) B3 sa si ho nx n1 n2 x1 d1 x2 d2 r1 r2 2 1 y6 d6 yo dO := hI6.link o6 g6 (by simpa using ob6)
              have b36 := hI6.br.turn (turn_of_grown g6) (fun e => hI6.bl B3 e rfl)
              have c36 := b36.cells
              have f36 := b36.frees
              have b56 := (b55.new al6).turn (turn_of_grown g6) (fun e => by have := fl0 _ e; omega)
              have b57 := b56.turn (S := fun j => j = B3) (Turn.here9 (j := 7) (Turn.refl _ _) (.slice y6 2 d6)) (by omega)
              clear cR cK c6 hI5 b55 b36 b56 hI6 o6 g6 ob6 al6 bK hv6
              go_upto_region 7 with fail
              generalize (w6.setCell ⟨B3, 7, none⟩ (.slice y6 2 d6)) = w7 at *
              clear c36 f36
              have cR := hI7.br.cells
              have cK := b57.cells
              have al8 : New w7 (w7.alloc (.cells #[.slice none 0 0] 54)) := (New.refl w7).alloc _
              have hI8 := hI7.new al8
              have c8 := (Blk.mk w7 w7.heap.size 54 #[.slice none 0 0] rfl).cells
              go_wp2_with (at_builtin; refine wpList_apV _ rfl (.tmp 40) (.tmp 44) rfl (w.heap.size + 2) 1 24 (.slice none 0 0) Try.underlying36 hiB hzB0 hzB1 hzB2 rfl (by omega) (by omega) _ _ _ rfl hI8.oo w7.heap.size [Value.slice none 0 0] rfl (by simp [Value.oneCell']) rfl (by intro j u hu; rw [c8 j, List.getElem?_toArray]; exact hu) (by omega) (by have := hI8.nw.size; have := hI8.hb; have := hI8.b3; omega) ?_)
              intro v8 w8 o8 g8 ob8
              obtain ⟨y8, d8, hv8, -, -⟩ := row9_form o8
              have hv8' : v8 = .slice y8 2 d8 := hv8
              subst hv8'
              have hI9 : Hid (ResIn w (w8.setCell ⟨B3, 9, none⟩ (.slice y8 2 d8)) B3 sa si ho nx n1 n2 x1 d1 x2 d2 r1 r2 2 2 y6 d6 y8 d8) := hI8.out o8 g8 (by simpa using ob8)
              have b38 := hI8.br.turn (turn_of_grown g8) (fun e => hI8.bo B3 e rfl)
              have c38 := b38.cells
              have f38 := b38.frees
              clear cR cK c8 hI7 b38 hI8 o8 g8 ob8 al8 hv8 b57
              go_wp2
              go_roundw
              case rel => exact ⟨2, y6, d6, y8, d8, by omega, by go_num, hI9⟩
              case measure => simp [intOf]
            · have t5 : New w4 ((w4.alloc (.cells #[.slice none 0 0] 54)).alloc (.cells #[.int .i64 0, .int .i64 0, .int .i64 0, .int .i64 0, .int .i64 0, .slice none 0 0, .slice none 0 0] 76)).drew := (((New.refl w4).alloc _).alloc _).drew
              have bK : Blk ((w4.alloc (.cells #[.slice none 0 0] 54)).alloc (.cells #[.int .i64 0, .int .i64 0, .int .i64 0, .int .i64 0, .int .i64 0, .slice none 0 0, .slice none 0 0] 76)).drew (w4.heap.size + 1) 76 #[.int .i64 0, .int .i64 0, .int .i64 0, .int .i64 0, .int .i64 0, .slice none 0 0, .slice none 0 0] := (Blk.mk _ _ _ _ (by simp)).new ((New.refl _).drew)
              have hI5 := hI4.new t5
              have b55 := b5.new t5
              generalize ((w4.alloc (.cells #[.slice none 0 0] 54)).alloc (.cells #[.int .i64 0, .int .i64 0, .int .i64 0, .int .i64 0, .int .i64 0, .slice none 0 0, .slice none 0 0] 76)).drew = W5 at *
              generalize w4.heap.size + 1 = B6 at *
              clear t5 hI4
              have cR := hI5.br.cells
              have cK := bK.cells
              have al6 : New W5 (W5.alloc (.cells #[.int .i64 0, .int .i64 0, .int .i64 0, .int .i64 0, .int .i64 0, .slice none 0 0, .slice none 0 0] 76)) := (New.refl W5).alloc _
              have hI6 := hI5.new al6
              have c6 := (Blk.mk W5 W5.heap.size 76 #[.int .i64 0, .int .i64 0, .int .i64 0, .int .i64 0, .int .i64 0, .slice none 0 0, .slice none 0 0] rfl).cells
              go_wp2_with (at_builtin; refine wpList_apV _ rfl (.tmp 33) (.tmp 35) rfl (w.heap.size + 2) 7 88 (.agg #[.int .i64 0, .int .i64 0, .int .i64 0, .int .i64 0, .int .i64 0, .slice none 0 0, .slice none 0 0]) Try.underlying32 hiL hzL0 hzL1 hzL2 rfl (by omega) (by omega) _ _ _ rfl hI6.ol W5.heap.size [Value.int .i64 0, .int .i64 0, .int .i64 0, .int .i64 0, .int .i64 0, .slice none 0 0, .slice none 0 0] rfl (by simp [Value.oneCell']) rfl (by intro j u hu; rw [c6 j, List.getElem?_toArray]; exact hu) (by omega) (by have := hI6.nw.size; have := hI6.hb; have := hI6.b3; omega) ?_)
              intro v6 w6 o6 g6 ob6
              obtain ⟨y6, d6, hv6, -, -⟩ := row9_form o6
              have hv6' : v6 = .slice y6 2 d6 := hv6
              subst hv6'
              have hI7 : ResIn w (w6.setCell ⟨B3, 7, none⟩ (.slice y6 2 d6)) B3 sa si ho nx n1 n2 x1 d1 x2 d2 r1 r2 2 1 y6 d6 yo dO := hI6.link o6 g6 (by simpa using ob6)
              have b36 := hI6.br.turn (turn_of_grown g6) (fun e => hI6.bl B3 e rfl)
              have c36 := b36.cells
              have f36 := b36.frees
              have b56 := (b55.new al6).turn (turn_of_grown g6) (fun e => by have := fl0 _ e; omega)
              have b57 := b56.turn (S := fun j => j = B3) (Turn.here9 (j := 7) (Turn.refl _ _) (.slice y6 2 d6)) (by omega)
              clear cR cK c6 hI5 b55 b36 b56 hI6 o6 g6 ob6 al6 bK hv6
              go_upto_region 7 with fail
              generalize (w6.setCell ⟨B3, 7, none⟩ (.slice y6 2 d6)) = w7 at *
              clear c36 f36
              have cR := hI7.br.cells
              have cK := b57.cells
              have al8 : New w7 (w7.alloc (.cells #[.slice none 0 0] 54)) := (New.refl w7).alloc _
              have hI8 := hI7.new al8
              have c8 := (Blk.mk w7 w7.heap.size 54 #[.slice none 0 0] rfl).cells
              go_wp2_with (at_builtin; refine wpList_apV _ rfl (.tmp 40) (.tmp 44) rfl (w.heap.size + 2) 1 24 (.slice none 0 0) Try.underlying36 hiB hzB0 hzB1 hzB2 rfl (by omega) (by omega) _ _ _ rfl hI8.oo w7.heap.size [Value.slice none 0 0] rfl (by simp [Value.oneCell']) rfl (by intro j u hu; rw [c8 j, List.getElem?_toArray]; exact hu) (by omega) (by have := hI8.nw.size; have := hI8.hb; have := hI8.b3; omega) ?_)
              intro v8 w8 o8 g8 ob8
              obtain ⟨y8, d8, hv8, -, -⟩ := row9_form o8
              have hv8' : v8 = .slice y8 2 d8 := hv8
              subst hv8'
              have hI9 : Hid (ResIn w (w8.setCell ⟨B3, 9, none⟩ (.slice y8 2 d8)) B3 sa si ho nx n1 n2 x1 d1 x2 d2 r1 r2 2 2 y6 d6 y8 d8) := hI8.out o8 g8 (by simpa using ob8)
              have b38 := hI8.br.turn (turn_of_grown g8) (fun e => hI8.bo B3 e rfl)
              have c38 := b38.cells
              have f38 := b38.frees
              clear cR cK c8 hI7 b38 hI8 o8 g8 ob8 al8 hv8 b57
              go_wp2
              go_roundw
              case rel => exact ⟨2, y6, d6, y8, d8, by omega, by go_num, hI9⟩
              case measure => simp [intOf]
            · have t5 : New w4 ((w4.alloc (.cells #[.slice none 0 0] 54)).alloc (.cells #[.int .i64 0, .int .i64 0, .int .i64 0, .int .i64 0, .int .i64 0, .slice none 0 0, .slice none 0 0] 76)).drew := (((New.refl w4).alloc _).alloc _).drew
              have bK : Blk ((w4.alloc (.cells #[.slice none 0 0] 54)).alloc (.cells #[.int .i64 0, .int .i64 0, .int .i64 0, .int .i64 0, .int .i64 0, .slice none 0 0, .slice none 0 0] 76)).drew (w4.heap.size + 1) 76 #[.int .i64 0, .int .i64 0, .int .i64 0, .int .i64 0, .int .i64 0, .slice none 0 0, .slice none 0 0] := (Blk.mk _ _ _ _ (by simp)).new ((New.refl _).drew)
              have hI5 := hI4.new t5
              have b55 := b5.new t5
              generalize ((w4.alloc (.cells #[.slice none 0 0] 54)).alloc (.cells #[.int .i64 0, .int .i64 0, .int .i64 0, .int .i64 0, .int .i64 0, .slice none 0 0, .slice none 0 0] 76)).drew = W5 at *
              generalize w4.heap.size + 1 = B6 at *
              clear t5 hI4
              have cR := hI5.br.cells
              have cK := bK.cells
              have al6 : New W5 (W5.alloc (.cells #[.int .i64 0, .int .i64 0, .int .i64 0, .int .i64 0, .int .i64 0, .slice none 0 0, .slice none 0 0] 76)) := (New.refl W5).alloc _
              have hI6 := hI5.new al6
              have c6 := (Blk.mk W5 W5.heap.size 76 #[.int .i64 0, .int .i64 0, .int .i64 0, .int .i64 0, .int .i64 0, .slice none 0 0, .slice none 0 0] rfl).cells
              go_wp2_with (at_builtin; refine wpList_apV _ rfl (.tmp 33) (.tmp 35) rfl (w.heap.size + 2) 7 88 (.agg #[.int .i64 0, .int .i64 0, .int .i64 0, .int .i64 0, .int .i64 0, .slice none 0 0, .slice none 0 0]) Try.underlying32 hiL hzL0 hzL1 hzL2 rfl (by omega) (by omega) _ _ _ rfl hI6.ol W5.heap.size [Value.int .i64 0, .int .i64 0, .int .i64 0, .int .i64 0, .int .i64 0, .slice none 0 0, .slice none 0 0] rfl (by simp [Value.oneCell']) rfl (by intro j u hu; rw [c6 j, List.getElem?_toArray]; exact hu) (by omega) (by have := hI6.nw.size; have := hI6.hb; have := hI6.b3; omega) ?_)
              intro v6 w6 o6 g6 ob6
              obtain ⟨y6, d6, hv6, -, -⟩ := row9_form o6
              have hv6' : v6 = .slice y6 2 d6 := hv6
              subst hv6'
              have hI7 : ResIn w (w6.setCell ⟨B3, 7, none⟩ (.slice y6 2 d6)) B3 sa si ho nx n1 n2 x1 d1 x2 d2 r1 r2 2 1 y6 d6 yo dO := hI6.link o6 g6 (by simpa using ob6)
              have b36 := hI6.br.turn (turn_of_grown g6) (fun e => hI6.bl B3 e rfl)
              have c36 := b36.cells
              have f36 := b36.frees
              have b56 := (b55.new al6).turn (turn_of_grown g6) (fun e => by have := fl0 _ e; omega)
              have b57 := b56.turn (S := fun j => j = B3) (Turn.here9 (j := 7) (Turn.refl _ _) (.slice y6 2 d6)) (by omega)
              clear cR cK c6 hI5 b55 b36 b56 hI6 o6 g6 ob6 al6 bK hv6
              go_upto_region 7 with fail
              generalize (w6.setCell ⟨B3, 7, none⟩ (.slice y6 2 d6)) = w7 at *
              clear c36 f36
              have cR := hI7.br.cells
              have cK := b57.cells
              have al8 : New w7 (w7.alloc (.cells #[.slice none 0 0] 54)) := (New.refl w7).alloc _
              have hI8 := hI7.new al8
              have c8 := (Blk.mk w7 w7.heap.size 54 #[.slice none 0 0] rfl).cells
              go_wp2_with (at_builtin; refine wpList_apV _ rfl (.tmp 40) (.tmp 44) rfl (w.heap.size + 2) 1 24 (.slice none 0 0) Try.underlying36 hiB hzB0 hzB1 hzB2 rfl (by omega) (by omega) _ _ _ rfl hI8.oo w7.heap.size [Value.slice none 0 0] rfl (by simp [Value.oneCell']) rfl (by intro j u hu; rw [c8 j, List.getElem?_toArray]; exact hu) (by omega) (by have := hI8.nw.size; have := hI8.hb; have := hI8.b3; omega) ?_)
              intro v8 w8 o8 g8 ob8
              obtain ⟨y8, d8, hv8, -, -⟩ := row9_form o8
              have hv8' : v8 = .slice y8 2 d8 := hv8
              subst hv8'
              have hI9 : Hid (ResIn w (w8.setCell ⟨B3, 9, none⟩ (.slice y8 2 d8)) B3 sa si ho nx n1 n2 x1 d1 x2 d2 r1 r2 2 2 y6 d6 y8 d8) := hI8.out o8 g8 (by simpa using ob8)
              have b38 := hI8.br.turn (turn_of_grown g8) (fun e => hI8.bo B3 e rfl)
              have c38 := b38.cells
              have f38 := b38.frees
              clear cR cK c8 hI7 b38 hI8 o8 g8 ob8 al8 hv8 b57
              go_wp2
              go_roundw
              case rel => exact ⟨2, y6, d6, y8, d8, by omega, by go_num, hI9⟩
              case measure => simp [intOf]
            · have t5 : New w4 ((w4.alloc (.cells #[.int .i64 0, .int .i64 0, .int .i64 0, .int .i64 0, .int .i64 0, .slice none 0 0, .slice none 0 0] 76)).alloc (.cells #[.slice none 0 0] 54)).drew := (((New.refl w4).alloc _).alloc _).drew
              have bK : Blk ((w4.alloc (.cells #[.int .i64 0, .int .i64 0, .int .i64 0, .int .i64 0, .int .i64 0, .slice none 0 0, .slice none 0 0] 76)).alloc (.cells #[.slice none 0 0] 54)).drew (w4.heap.size) 76 #[.int .i64 0, .int .i64 0, .int .i64 0, .int .i64 0, .int .i64 0, .slice none 0 0, .slice none 0 0] := ((Blk.mk w4 _ _ _ rfl).new ((New.refl _).alloc _)).new ((New.refl _).drew)
              have hI5 := hI4.new t5
              have b55 := b5.new t5
              generalize ((w4.alloc (.cells #[.int .i64 0, .int .i64 0, .int .i64 0, .int .i64 0, .int .i64 0, .slice none 0 0, .slice none 0 0] 76)).alloc (.cells #[.slice none 0 0] 54)).drew = W5 at *
              generalize w4.heap.size = B6 at *
              clear t5 hI4
              have cR := hI5.br.cells
              have cK := bK.cells
              have al6 : New W5 (W5.alloc (.cells #[.int .i64 0, .int .i64 0, .int .i64 0, .int .i64 0, .int .i64 0, .slice none 0 0, .slice none 0 0] 76)) := (New.refl W5).alloc _
              have hI6 := hI5.new al6
              have c6 := (Blk.mk W5 W5.heap.size 76 #[.int .i64 0, .int .i64 0, .int .i64 0, .int .i64 0, .int .i64 0, .slice none 0 0, .slice none 0 0] rfl).cells
              go_wp2_with (at_builtin; refine wpList_apV _ rfl (.tmp 33) (.tmp 35) rfl (w.heap.size + 2) 7 88 (.agg #[.int .i64 0, .int .i64 0, .int .i64 0, .int .i64 0, .int .i64 0, .slice none 0 0, .slice none 0 0]) Try.underlying32 hiL hzL0 hzL1 hzL2 rfl (by omega) (by omega) _ _ _ rfl hI6.ol W5.heap.size [Value.int .i64 0, .int .i64 0, .int .i64 0, .int .i64 0, .int .i64 0, .slice none 0 0, .slice none 0 0] rfl (by simp [Value.oneCell']) rfl (by intro j u hu; rw [c6 j, List.getElem?_toArray]; exact hu) (by omega) (by have := hI6.nw.size; have := hI6.hb; have := hI6.b3; omega) ?_)
              intro v6 w6 o6 g6 ob6
              obtain ⟨y6, d6, hv6, -, -⟩ := row9_form o6
              have hv6' : v6 = .slice y6 2 d6 := hv6
              subst hv6'
              have hI7 : ResIn w (w6.setCell ⟨B3, 7, none⟩ (.slice y6 2 d6)) B3 sa si ho nx n1 n2 x1 d1 x2 d2 r1 r2 2 1 y6 d6 yo dO := hI6.link o6 g6 (by simpa using ob6)
              have b36 := hI6.br.turn (turn_of_grown g6) (fun e => hI6.bl B3 e rfl)
              have c36 := b36.cells
              have f36 := b36.frees
              have b56 := (b55.new al6).turn (turn_of_grown g6) (fun e => by have := fl0 _ e; omega)
              have b57 := b56.turn (S := fun j => j = B3) (Turn.here9 (j := 7) (Turn.refl _ _) (.slice y6 2 d6)) (by omega)
              clear cR cK c6 hI5 b55 b36 b56 hI6 o6 g6 ob6 al6 bK hv6
              go_upto_region 7 with fail
              generalize (w6.setCell ⟨B3, 7, none⟩ (.slice y6 2 d6)) = w7 at *
              clear c36 f36
              have cR := hI7.br.cells
              have cK := b57.cells
              have al8 : New w7 (w7.alloc (.cells #[.slice none 0 0] 54)) := (New.refl w7).alloc _
              have hI8 := hI7.new al8
              have c8 := (Blk.mk w7 w7.heap.size 54 #[.slice none 0 0] rfl).cells
              go_wp2_with (at_builtin; refine wpList_apV _ rfl (.tmp 40) (.tmp 44) rfl (w.heap.size + 2) 1 24 (.slice none 0 0) Try.underlying36 hiB hzB0 hzB1 hzB2 rfl (by omega) (by omega) _ _ _ rfl hI8.oo w7.heap.size [Value.slice none 0 0] rfl (by simp [Value.oneCell']) rfl (by intro j u hu; rw [c8 j, List.getElem?_toArray]; exact hu) (by omega) (by have := hI8.nw.size; have := hI8.hb; have := hI8.b3; omega) ?_)
              intro v8 w8 o8 g8 ob8
              obtain ⟨y8, d8, hv8, -, -⟩ := row9_form o8
              have hv8' : v8 = .slice y8 2 d8 := hv8
              subst hv8'
              have hI9 : Hid (ResIn w (w8.setCell ⟨B3, 9, none⟩ (.slice y8 2 d8)) B3 sa si ho nx n1 n2 x1 d1 x2 d2 r1 r2 2 2 y6 d6 y8 d8) := hI8.out o8 g8 (by simpa using ob8)
              have b38 := hI8.br.turn (turn_of_grown g8) (fun e => hI8.bo B3 e rfl)
              have c38 := b38.cells
              have f38 := b38.frees
              clear cR cK c8 hI7 b38 hI8 o8 g8 ob8 al8 hv8 b57
              go_wp2
              go_roundw
              case rel => exact ⟨2, y6, d6, y8, d8, by omega, by go_num, hI9⟩
              case measure => simp [intOf]
          · go_upto_region 5 with fail
            generalize wr.alloc (.cells #[.int .i64 0, .int .i64 0, .int .i64 0, .int .i64 0, .int .i64 0, .int .i64 0, .int .i64 0, .int .i64 0, .slice none 0 0, .slice none 0 0, .slice none 0 0] 59) = w4 at *
            clear X0 X1 X2
            have hI4 := HI.out.new al4
            have fl0 : ∀ j, (Value.slice yl 2 dl).ownBlock = some j → j < wr.heap.size := by
              obtain ⟨_, _, _, _, f⟩ := row9_form HI.out.ol
              exact fun j hj => (f j hj).2
            have hb3 := HI.out.b3
            clear HI
            go_region_held3 (fun W => ∀ j, W.cell? ⟨wr.heap.size, j, none⟩ = #[Value.int .i64 0, .int .i64 0, .int .i64 0, .int .i64 0, .int .i64 0, .int .i64 0, .int .i64 0, .int .i64 0, .slice none 0 0, .slice none 0 0, .slice none 0 0][j]?) (first | exact (b5.new ((((New.refl _).alloc _).alloc _).drew)).cells | exact (b5.new (((New.refl _).alloc _).drew)).cells | exact (b5.new ((New.refl _).drew)).cells)
              (first
                | (go_at_call 40; refine (concatB0 _ _ ?_).mono ?_; go_simp; rintro e w5 ⟨rfl, h5⟩; obtain rfl := h5.symm)
                | (go_at_call 41; refine (copyTds0 _).mono ?_; rintro e w6 ⟨rfl, h6⟩; obtain rfl := h6.symm))
            · have t5 : New w4 ((w4.alloc (.cells #[.slice none 0 0] 54)).alloc (.cells #[.int .i64 0, .int .i64 0, .int .i64 0, .int .i64 0, .int .i64 0, .slice none 0 0, .slice none 0 0] 76)).drew := (((New.refl w4).alloc _).alloc _).drew
              have bK : Blk ((w4.alloc (.cells #[.slice none 0 0] 54)).alloc (.cells #[.int .i64 0, .int .i64 0, .int .i64 0, .int .i64 0, .int .i64 0, .slice none 0 0, .slice none 0 0] 76)).drew (w4.heap.size + 1) 76 #[.int .i64 0, .int .i64 0, .int .i64 0, .int .i64 0, .int .i64 0, .slice none 0 0, .slice none 0 0] := (Blk.mk _ _ _ _ (by simp)).new ((New.refl _).drew)
              have hI5 := hI4.new t5
              have b55 := b5.new t5
              generalize ((w4.alloc (.cells #[.slice none 0 0] 54)).alloc (.cells #[.int .i64 0, .int .i64 0, .int .i64 0, .int .i64 0, .int .i64 0, .slice none 0 0, .slice none 0 0] 76)).drew = W5 at *
              generalize w4.heap.size + 1 = B6 at *
              clear t5 hI4
              have cR := hI5.br.cells
              have cK := bK.cells
              have al6 : New W5 (W5.alloc (.cells #[.int .i64 0, .int .i64 0, .int .i64 0, .int .i64 0, .int .i64 0, .slice none 0 0, .slice none 0 0] 76)) := (New.refl W5).alloc _
              have hI6 := hI5.new al6
              have c6 := (Blk.mk W5 W5.heap.size 76 #[.int .i64 0, .int .i64 0, .int .i64 0, .int .i64 0, .int .i64 0, .slice none 0 0, .slice none 0 0] rfl).cells
              go_wp2_with (at_builtin; refine wpList_apV _ rfl (.tmp 33) (.tmp 35) rfl (w.heap.size + 2) 7 88 (.agg #[.int .i64 0, .int .i64 0, .int .i64 0, .int .i64 0, .int .i64 0, .slice none 0 0, .slice none 0 0]) Try.underlying32 hiL hzL0 hzL1 hzL2 rfl (by omega) (by omega) _ _ _ rfl hI6.ol W5.heap.size [Value.int .i64 0, .int .i64 0, .int .i64 0, .int .i64 0, .int .i64 0, .slice none 0 0, .slice none 0 0] rfl (by simp [Value.oneCell']) rfl (by intro j u hu; rw [c6 j, List.getElem?_toArray]; exact hu) (by omega) (by have := hI6.nw.size; have := hI6.hb; have := hI6.b3; omega) ?_)
              intro v6 w6 o6 g6 ob6
              obtain ⟨y6, d6, hv6, -, -⟩ := row9_form o6
              have hv6' : v6 = .slice y6 3 d6 := hv6
              subst hv6'
              have hI7 : ResIn w (w6.setCell ⟨B3, 7, none⟩ (.slice y6 3 d6)) B3 sa si ho nx n1 n2 x1 d1 x2 d2 r1 r2 3 2 y6 d6 yo dO := hI6.link o6 g6 (by simpa using ob6)
              have b36 := hI6.br.turn (turn_of_grown g6) (fun e => hI6.bl B3 e rfl)
              have c36 := b36.cells
              have f36 := b36.frees
              have b56 := (b55.new al6).turn (turn_of_grown g6) (fun e => by have := fl0 _ e; omega)
              have b57 := b56.turn (S := fun j => j = B3) (Turn.here9 (j := 7) (Turn.refl _ _) (.slice y6 3 d6)) (by omega)
              clear cR cK c6 hI5 b55 b36 b56 hI6 o6 g6 ob6 al6 bK hv6
              go_upto_region 7 with fail
              generalize (w6.setCell ⟨B3, 7, none⟩ (.slice y6 3 d6)) = w7 at *
              clear c36 f36
              have cR := hI7.br.cells
              have cK := b57.cells
              have al8 : New w7 (w7.alloc (.cells #[.slice none 0 0] 54)) := (New.refl w7).alloc _
              have hI8 := hI7.new al8
              have c8 := (Blk.mk w7 w7.heap.size 54 #[.slice none 0 0] rfl).cells
              go_wp2_with (at_builtin; refine wpList_apV _ rfl (.tmp 40) (.tmp 44) rfl (w.heap.size + 2) 1 24 (.slice none 0 0) Try.underlying36 hiB hzB0 hzB1 hzB2 rfl (by omega) (by omega) _ _ _ rfl hI8.oo w7.heap.size [Value.slice none 0 0] rfl (by simp [Value.oneCell']) rfl (by intro j u hu; rw [c8 j, List.getElem?_toArray]; exact hu) (by omega) (by have := hI8.nw.size; have := hI8.hb; have := hI8.b3; omega) ?_)
              intro v8 w8 o8 g8 ob8
              obtain ⟨y8, d8, hv8, -, -⟩ := row9_form o8
              have hv8' : v8 = .slice y8 3 d8 := hv8
              subst hv8'
              have hI9 : Hid (ResIn w (w8.setCell ⟨B3, 9, none⟩ (.slice y8 3 d8)) B3 sa si ho nx n1 n2 x1 d1 x2 d2 r1 r2 3 3 y6 d6 y8 d8) := hI8.out o8 g8 (by simpa using ob8)
              have b38 := hI8.br.turn (turn_of_grown g8) (fun e => hI8.bo B3 e rfl)
              have c38 := b38.cells
              have f38 := b38.frees
              clear cR cK c8 hI7 b38 hI8 o8 g8 ob8 al8 hv8 b57
              go_wp2
              go_roundw
              case rel => exact ⟨3, y6, d6, y8, d8, by omega, by go_num, hI9⟩
              case measure => simp [intOf]
            · have t5 : New w4 ((w4.alloc (.cells #[.slice none 0 0] 54)).alloc (.cells #[.int .i64 0, .int .i64 0, .int .i64 0, .int .i64 0, .int .i64 0, .slice none 0 0, .slice none 0 0] 76)).drew := (((New.refl w4).alloc _).alloc _).drew
              have bK : Blk ((w4.alloc (.cells #[.slice none 0 0] 54)).alloc (.cells #[.int .i64 0, .int .i64 0, .int .i64 0, .int .i64 0, .int .i64 0, .slice none 0 0, .slice none 0 0] 76)).drew (w4.heap.size + 1) 76 #[.int .i64 0, .int .i64 0, .int .i64 0, .int .i64 0, .int .i64 0, .slice none 0 0, .slice none 0 0] := (Blk.mk _ _ _ _ (by simp)).new ((New.refl _).drew)
              have hI5 := hI4.new t5
              have b55 := b5.new t5
              generalize ((w4.alloc (.cells #[.slice none 0 0] 54)).alloc (.cells #[.int .i64 0, .int .i64 0, .int .i64 0, .int .i64 0, .int .i64 0, .slice none 0 0, .slice none 0 0] 76)).drew = W5 at *
              generalize w4.heap.size + 1 = B6 at *
              clear t5 hI4
              have cR := hI5.br.cells
              have cK := bK.cells
              have al6 : New W5 (W5.alloc (.cells #[.int .i64 0, .int .i64 0, .int .i64 0, .int .i64 0, .int .i64 0, .slice none 0 0, .slice none 0 0] 76)) := (New.refl W5).alloc _
              have hI6 := hI5.new al6
              have c6 := (Blk.mk W5 W5.heap.size 76 #[.int .i64 0, .int .i64 0, .int .i64 0, .int .i64 0, .int .i64 0, .slice none 0 0, .slice none 0 0] rfl).cells
              go_wp2_with (at_builtin; refine wpList_apV _ rfl (.tmp 33) (.tmp 35) rfl (w.heap.size + 2) 7 88 (.agg #[.int .i64 0, .int .i64 0, .int .i64 0, .int .i64 0, .int .i64 0, .slice none 0 0, .slice none 0 0]) Try.underlying32 hiL hzL0 hzL1 hzL2 rfl (by omega) (by omega) _ _ _ rfl hI6.ol W5.heap.size [Value.int .i64 0, .int .i64 0, .int .i64 0, .int .i64 0, .int .i64 0, .slice none 0 0, .slice none 0 0] rfl (by simp [Value.oneCell']) rfl (by intro j u hu; rw [c6 j, List.getElem?_toArray]; exact hu) (by omega) (by have := hI6.nw.size; have := hI6.hb; have := hI6.b3; omega) ?_)
              intro v6 w6 o6 g6 ob6
              obtain ⟨y6, d6, hv6, -, -⟩ := row9_form o6
              have hv6' : v6 = .slice y6 3 d6 := hv6
              subst hv6'
              have hI7 : ResIn w (w6.setCell ⟨B3, 7, none⟩ (.slice y6 3 d6)) B3 sa si ho nx n1 n2 x1 d1 x2 d2 r1 r2 3 2 y6 d6 yo dO := hI6.link o6 g6 (by simpa using ob6)
              have b36 := hI6.br.turn (turn_of_grown g6) (fun e => hI6.bl B3 e rfl)
              have c36 := b36.cells
              have f36 := b36.frees
              have b56 := (b55.new al6).turn (turn_of_grown g6) (fun e => by have := fl0 _ e; omega)
              have b57 := b56.turn (S := fun j => j = B3) (Turn.here9 (j := 7) (Turn.refl _ _) (.slice y6 3 d6)) (by omega)
              clear cR cK c6 hI5 b55 b36 b56 hI6 o6 g6 ob6 al6 bK hv6
              go_upto_region 7 with fail
              generalize (w6.setCell ⟨B3, 7, none⟩ (.slice y6 3 d6)) = w7 at *
              clear c36 f36
              have cR := hI7.br.cells
              have cK := b57.cells
              have al8 : New w7 (w7.alloc (.cells #[.slice none 0 0] 54)) := (New.refl w7).alloc _
              have hI8 := hI7.new al8
              have c8 := (Blk.mk w7 w7.heap.size 54 #[.slice none 0 0] rfl).cells
              go_wp2_with (at_builtin; refine wpList_apV _ rfl (.tmp 40) (.tmp 44) rfl (w.heap.size + 2) 1 24 (.slice none 0 0) Try.underlying36 hiB hzB0 hzB1 hzB2 rfl (by omega) (by omega) _ _ _ rfl hI8.oo w7.heap.size [Value.slice none 0 0] rfl (by simp [Value.oneCell']) rfl (by intro j u hu; rw [c8 j, List.getElem?_toArray]; exact hu) (by omega) (by have := hI8.nw.size; have := hI8.hb; have := hI8.b3; omega) ?_)
              intro v8 w8 o8 g8 ob8
              obtain ⟨y8, d8, hv8, -, -⟩ := row9_form o8
              have hv8' : v8 = .slice y8 3 d8 := hv8
              subst hv8'
              have hI9 : Hid (ResIn w (w8.setCell ⟨B3, 9, none⟩ (.slice y8 3 d8)) B3 sa si ho nx n1 n2 x1 d1 x2 d2 r1 r2 3 3 y6 d6 y8 d8) := hI8.out o8 g8 (by simpa using ob8)
              have b38 := hI8.br.turn (turn_of_grown g8) (fun e => hI8.bo B3 e rfl)
              have c38 := b38.cells
              have f38 := b38.frees
              clear cR cK c8 hI7 b38 hI8 o8 g8 ob8 al8 hv8 b57
              go_wp2
              go_roundw
              case rel => exact ⟨3, y6, d6, y8, d8, by omega, by go_num, hI9⟩
              case measure => simp [intOf]
            · have t5 : New w4 ((w4.alloc (.cells #[.slice none 0 0] 54)).alloc (.cells #[.int .i64 0, .int .i64 0, .int .i64 0, .int .i64 0, .int .i64 0, .slice none 0 0, .slice none 0 0] 76)).drew := (((New.refl w4).alloc _).alloc _).drew
              have bK : Blk ((w4.alloc (.cells #[.slice none 0 0] 54)).alloc (.cells #[.int .i64 0, .int .i64 0, .int .i64 0, .int .i64 0, .int .i64 0, .slice none 0 0, .slice none 0 0] 76)).drew (w4.heap.size + 1) 76 #[.int .i64 0, .int .i64 0, .int .i64 0, .int .i64 0, .int .i64 0, .slice none 0 0, .slice none 0 0] := (Blk.mk _ _ _ _ (by simp)).new ((New.refl _).drew)
              have hI5 := hI4.new t5
              have b55 := b5.new t5
              generalize ((w4.alloc (.cells #[.slice none 0 0] 54)).alloc (.cells #[.int .i64 0, .int .i64 0, .int .i64 0, .int .i64 0, .int .i64 0, .slice none 0 0, .slice none 0 0] 76)).drew = W5 at *
              generalize w4.heap.size + 1 = B6 at *
              clear t5 hI4
              have cR := hI5.br.cells
              have cK := bK.cells
              have al6 : New W5 (W5.alloc (.cells #[.int .i64 0, .int .i64 0, .int .i64 0, .int .i64 0, .int .i64 0, .slice none 0 0, .slice none 0 0] 76)) := (New.refl W5).alloc _
              have hI6 := hI5.new al6
              have c6 := (Blk.mk W5 W5.heap.size 76 #[.int .i64 0, .int .i64 0, .int .i64 0, .int .i64 0, .int .i64 0, .slice none 0 0, .slice none 0 0] rfl).cells
              go_wp2_with (at_builtin; refine wpList_apV _ rfl (.tmp 33) (.tmp 35) rfl (w.heap.size + 2) 7 88 (.agg #[.int .i64 0, .int .i64 0, .int .i64 0, .int .i64 0, .int .i64 0, .slice none 0 0, .slice none 0 0]) Try.underlying32 hiL hzL0 hzL1 hzL2 rfl (by omega) (by omega) _ _ _ rfl hI6.ol W5.heap.size [Value.int .i64 0, .int .i64 0, .int .i64 0, .int .i64 0, .int .i64 0, .slice none 0 0, .slice none 0 0] rfl (by simp [Value.oneCell']) rfl (by intro j u hu; rw [c6 j, List.getElem?_toArray]; exact hu) (by omega) (by have := hI6.nw.size; have := hI6.hb; have := hI6.b3; omega) ?_)
              intro v6 w6 o6 g6 ob6
              obtain ⟨y6, d6, hv6, -, -⟩ := row9_form o6
              have hv6' : v6 = .slice y6 3 d6 := hv6
              subst hv6'
              have hI7 : ResIn w (w6.setCell ⟨B3, 7, none⟩ (.slice y6 3 d6)) B3 sa si ho nx n1 n2 x1 d1 x2 d2 r1 r2 3 2 y6 d6 yo dO := hI6.link o6 g6 (by simpa using ob6)
              have b36 := hI6.br.turn (turn_of_grown g6) (fun e => hI6.bl B3 e rfl)
              have c36 := b36.cells
              have f36 := b36.frees
              have b56 := (b55.new al6).turn (turn_of_grown g6) (fun e => by have := fl0 _ e; omega)
              have b57 := b56.turn (S := fun j => j = B3) (Turn.here9 (j := 7) (Turn.refl _ _) (.slice y6 3 d6)) (by omega)
              clear cR cK c6 hI5 b55 b36 b56 hI6 o6 g6 ob6 al6 bK hv6
              go_upto_region 7 with fail
              generalize (w6.setCell ⟨B3, 7, none⟩ (.slice y6 3 d6)) = w7 at *
              clear c36 f36
              have cR := hI7.br.cells
              have cK := b57.cells
              have al8 : New w7 (w7.alloc (.cells #[.slice none 0 0] 54)) := (New.refl w7).alloc _
              have hI8 := hI7.new al8
              have c8 := (Blk.mk w7 w7.heap.size 54 #[.slice none 0 0] rfl).cells
              go_wp2_with (at_builtin; refine wpList_apV _ rfl (.tmp 40) (.tmp 44) rfl (w.heap.size + 2) 1 24 (.slice none 0 0) Try.underlying36 hiB hzB0 hzB1 hzB2 rfl (by omega) (by omega) _ _ _ rfl hI8.oo w7.heap.size [Value.slice none 0 0] rfl (by simp [Value.oneCell']) rfl (by intro j u hu; rw [c8 j, List.getElem?_toArray]; exact hu) (by omega) (by have := hI8.nw.size; have := hI8.hb; have := hI8.b3; omega) ?_)
              intro v8 w8 o8 g8 ob8
              obtain ⟨y8, d8, hv8, -, -⟩ := row9_form o8
              have hv8' : v8 = .slice y8 3 d8 := hv8
              subst hv8'
              have hI9 : Hid (ResIn w (w8.setCell ⟨B3, 9, none⟩ (.slice y8 3 d8)) B3 sa si ho nx n1 n2 x1 d1 x2 d2 r1 r2 3 3 y6 d6 y8 d8) := hI8.out o8 g8 (by simpa using ob8)
              have b38 := hI8.br.turn (turn_of_grown g8) (fun e => hI8.bo B3 e rfl)
              have c38 := b38.cells
              have f38 := b38.frees
              clear cR cK c8 hI7 b38 hI8 o8 g8 ob8 al8 hv8 b57
              go_wp2
              go_roundw
              case rel => exact ⟨3, y6, d6, y8, d8, by omega, by go_num, hI9⟩
              case measure => simp [intOf]
            · have t5 : New w4 ((w4.alloc (.cells #[.int .i64 0, .int .i64 0, .int .i64 0, .int .i64 0, .int .i64 0, .slice none 0 0, .slice none 0 0] 76)).alloc (.cells #[.slice none 0 0] 54)).drew := (((New.refl w4).alloc _).alloc _).drew
              have bK : Blk ((w4.alloc (.cells #[.int .i64 0, .int .i64 0, .int .i64 0, .int .i64 0, .int .i64 0, .slice none 0 0, .slice none 0 0] 76)).alloc (.cells #[.slice none 0 0] 54)).drew (w4.heap.size) 76 #[.int .i64 0, .int .i64 0, .int .i64 0, .int .i64 0, .int .i64 0, .slice none 0 0, .slice none 0 0] := ((Blk.mk w4 _ _ _ rfl).new ((New.refl _).alloc _)).new ((New.refl _).drew)
              have hI5 := hI4.new t5
              have b55 := b5.new t5
              generalize ((w4.alloc (.cells #[.int .i64 0, .int .i64 0, .int .i64 0, .int .i64 0, .int .i64 0, .slice none 0 0, .slice none 0 0] 76)).alloc (.cells #[.slice none 0 0] 54)).drew = W5 at *
              generalize w4.heap.size = B6 at *
              clear t5 hI4
              have cR := hI5.br.cells
              have cK := bK.cells
              have al6 : New W5 (W5.alloc (.cells #[.int .i64 0, .int .i64 0, .int .i64 0, .int .i64 0, .int .i64 0, .slice none 0 0, .slice none 0 0] 76)) := (New.refl W5).alloc _
              have hI6 := hI5.new al6
              have c6 := (Blk.mk W5 W5.heap.size 76 #[.int .i64 0, .int .i64 0, .int .i64 0, .int .i64 0, .int .i64 0, .slice none 0 0, .slice none 0 0] rfl).cells
              go_wp2_with (at_builtin; refine wpList_apV _ rfl (.tmp 33) (.tmp 35) rfl (w.heap.size + 2) 7 88 (.agg #[.int .i64 0, .int .i64 0, .int .i64 0, .int .i64 0, .int .i64 0, .slice none 0 0, .slice none 0 0]) Try.underlying32 hiL hzL0 hzL1 hzL2 rfl (by omega) (by omega) _ _ _ rfl hI6.ol W5.heap.size [Value.int .i64 0, .int .i64 0, .int .i64 0, .int .i64 0, .int .i64 0, .slice none 0 0, .slice none 0 0] rfl (by simp [Value.oneCell']) rfl (by intro j u hu; rw [c6 j, List.getElem?_toArray]; exact hu) (by omega) (by have := hI6.nw.size; have := hI6.hb; have := hI6.b3; omega) ?_)
              intro v6 w6 o6 g6 ob6
              obtain ⟨y6, d6, hv6, -, -⟩ := row9_form o6
              have hv6' : v6 = .slice y6 3 d6 := hv6
              subst hv6'
              have hI7 : ResIn w (w6.setCell ⟨B3, 7, none⟩ (.slice y6 3 d6)) B3 sa si ho nx n1 n2 x1 d1 x2 d2 r1 r2 3 2 y6 d6 yo dO := hI6.link o6 g6 (by simpa using ob6)
              have b36 := hI6.br.turn (turn_of_grown g6) (fun e => hI6.bl B3 e rfl)
              have c36 := b36.cells
              have f36 := b36.frees
              have b56 := (b55.new al6).turn (turn_of_grown g6) (fun e => by have := fl0 _ e; omega)
              have b57 := b56.turn (S := fun j => j = B3) (Turn.here9 (j := 7) (Turn.refl _ _) (.slice y6 3 d6)) (by omega)
              clear cR cK c6 hI5 b55 b36 b56 hI6 o6 g6 ob6 al6 bK hv6
              go_upto_region 7 with fail
              generalize (w6.setCell ⟨B3, 7, none⟩ (.slice y6 3 d6)) = w7 at *
              clear c36 f36
              have cR := hI7.br.cells
              have cK := b57.cells
              have al8 : New w7 (w7.alloc (.cells #[.slice none 0 0] 54)) := (New.refl w7).alloc _
              have hI8 := hI7.new al8
              have c8 := (Blk.mk w7 w7.heap.size 54 #[.slice none 0 0] rfl).cells
              go_wp2_with (at_builtin; refine wpList_apV _ rfl (.tmp 40) (.tmp 44) rfl (w.heap.size + 2) 1 24 (.slice none 0 0) Try.underlying36 hiB hzB0 hzB1 hzB2 rfl (by omega) (by omega) _ _ _ rfl hI8.oo w7.heap.size [Value.slice none 0 0] rfl (by simp [Value.oneCell']) rfl (by intro j u hu; rw [c8 j, List.getElem?_toArray]; exact hu) (by omega) (by have := hI8.nw.size; have := hI8.hb; have := hI8.b3; omega) ?_)
              intro v8 w8 o8 g8 ob8
              obtain ⟨y8, d8, hv8, -, -⟩ := row9_form o8
              have hv8' : v8 = .slice y8 3 d8 := hv8
              subst hv8'
              have hI9 : Hid (ResIn w (w8.setCell ⟨B3, 9, none⟩ (.slice y8 3 d8)) B3 sa si ho nx n1 n2 x1 d1 x2 d2 r1 r2 3 3 y6 d6 y8 d8) := hI8.out o8 g8 (by simpa using ob8)
              have b38 := hI8.br.turn (turn_of_grown g8) (fun e => hI8.bo B3 e rfl)
              have c38 := b38.cells
              have f38 := b38.frees
              clear cR cK c8 hI7 b38 hI8 o8 g8 ob8 al8 hv8 b57
              go_wp2
              go_roundw
              case rel => exact ⟨3, y6, d6, y8, d8, by omega, by go_num, hI9⟩
              case measure => simp [intOf]
        · obtain rfl : k = 3 := by omega
          have cR := HI.out.br.cells
          have cB := HI.out.bb.cells
          have fB := HI.out.bb.frees
          clear X0 X1 X2
          go_wp2
          refine bodyPost_ret (v := .agg #[.int .i64 0, .int .i64 sa, .int .i64 si, .int .i64 ho, .int .i64 nx, .slice x1 n1 d1, .slice x2 n2 d2, .slice yl 3 dl, .slice none 0 0, .slice yo 3 dO]) (by simp [results, Try.results20, go_sem, cB]) rfl ⟨x1, d1, x2, d2, yl, dl, yo, dO, rfl, ?_⟩
          exact HI.out.done (set10 wr (w.heap.size + 1) _ _ _ _ _ _ _ _ _ _)
    all_goals exact hX.elim

end Go.Proofs.Ytmmkdmebmbpkgaa
