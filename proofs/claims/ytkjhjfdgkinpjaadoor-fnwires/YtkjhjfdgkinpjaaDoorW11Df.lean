/- What is proved here: what the drawing of an epoch, and of a wire with an epoch, leaves. -/
import Derived.Test.YtkjhjfdgkinpjaaDoorW11Dw
import Derived.Deep.RegionHeld3
namespace Go.Proofs.YtkjhjfdgkinpjaaDoor
open Go.RowKit
set_option linter.unusedVariables false
set_option linter.unusedSimpArgs false
set_option maxRecDepth 100000

set_option maxHeartbeats 1600000 in
theorem l11Epoch_sc {B n c t : Nat} {a : Option Addr} {zs : List Int} {w : World} (h : Sc w B a n c zs t) (ht : t ≤ 100000) (E T : Int) (a1 a2 : Option Addr) (n1 c1 n2 c2 : Nat) (hE0 : -1 ≤ E) (hE1 : E ≤ 1001) :
    Calls Tryd.prog 24 #[.pointer (some ⟨B, 0, none⟩), .agg #[.int .i64 E, .slice a1 n1 c1, .int .i64 T, .slice a2 n2 c2]] w fun e w' => ∃ r : Int, e = .returned (.int .i64 r) ∧ Sc w' B a n c zs (t + 1) ∧ Turn (fun k => k = B) w w' := by
  have al := ((New.refl w).alloc (.cells #[.int .i64 E, .slice a1 n1 c1, .int .i64 T, .slice a2 n2 c2] 25)).alloc (.cells #[.int .i64 E, .int .i64 (E + 1), .int .i64 E, .int .i64 (E - 1), .int .i64 1001] 2)
  have bL := Blk.mk (w.alloc (.cells #[.int .i64 E, .slice a1 n1 c1, .int .i64 T, .slice a2 n2 c2] 25)) (w.heap.size + 1) 2 #[.int .i64 E, .int .i64 (E + 1), .int .i64 E, .int .i64 (E - 1), .int .i64 1001] (by simp)
  go_enter Tryd.func24, Tryd.ntmps24
  go_wp2_with fail
  refine (pick_sc (h.new al) [E, E + 1, E, E - 1, 1001] bL 5 rfl (by omega) (by omega) (by omega)).mono ?_
  rintro e w1 ⟨r, rfl, -, h1, t1⟩
  go_wp2
  go_ret
  exact ⟨r, rfl, h1, al.turn.trans t1 (fun _ _ e => e)⟩

set_option maxHeartbeats 3200000 in
theorem drawFence_any (a : Option Addr) (n c : Nat) (zs : List Int) (w : World) (h : BsAt w a zs) (hn : zs.length = n) (hm : n ≤ 2097152) (ha : ∀ x, zs ≠ [] → a = some x → x.block < w.heap.size) :
    Calls Tryd.prog 13 #[.slice a n c] w fun e w' => ∃ (E T ep : Int) (g1 c1 g2 c2 : Nat) (xs ys : List Int), e = .returned (.tuple #[.agg #[.int .i64 E, .slice (some ⟨g1, 0, none⟩) xs.length c1, .int .i64 T, .slice (some ⟨g2, 0, none⟩) ys.length c2], .int .i64 ep]) ∧ WirAt w' w.heap.size E T g1 c1 g2 c2 xs ys ∧ New w w' := by
  have HN : Hid (zs.length = n) := hn
  clear hn
  have hw := (New.refl w).alloc (.cells #[.int .i64 0, .slice none 0 0, .int .i64 0, .slice none 0 0] 25)
  have bR := Blk.mk w w.heap.size 25 #[.int .i64 0, .slice none 0 0, .int .i64 0, .slice none 0 0] rfl
  go_enter Tryd.func13, Tryd.ntmps13
  go_wp2_with fail
  refine (source_any a n c zs _ (h.new hw) HN.out hm (by intro x hz hx; have := ha x hz hx; simp; omega)).mono ?_
  rintro e w1 ⟨B, rfl, hB, hs1, hn1⟩
  simp at hB
  have N1 := hw.trans hn1
  have bR1 := bR.new hn1
  have lB := hs1.blk.lt
  have lR := bR1.lt
  have s1 := N1.size
  go_wp2_with fail
  refine (l11Wire_sc hs1 (by omega) (by intro x hz hx; have := ha x hz hx; omega)).mono ?_
  rintro e w2 ⟨E, T, g1, c1, g2, c2, t2, xs, ys, rfl, hW, ht2, hs2, tn2⟩
  have N2 := N1.before tn2 (fun i hi e => by omega)
  have bR2 := bR1.turn tn2 (by omega)
  have s2 := tn2.size
  have al := (New.refl w2).alloc (.cells #[.int .i64 E, .slice (some ⟨g1, 0, none⟩) xs.length c1, .int .i64 T, .slice (some ⟨g2, 0, none⟩) ys.length c2] 25)
  have bV := Blk.mk w2 w2.heap.size 25 #[.int .i64 E, .slice (some ⟨g1, 0, none⟩) xs.length c1, .int .i64 T, .slice (some ⟨g2, 0, none⟩) ys.length c2] rfl
  go_upto_region 3 with fail
  have N3 := N2.trans al
  have bR3 := bR2.new al
  have hs3 := hs2.new al
  have hW3 := hW.new al
  generalize w2.alloc (.cells #[.int .i64 E, .slice (some ⟨g1, 0, none⟩) xs.length c1, .int .i64 T, .slice (some ⟨g2, 0, none⟩) ys.length c2] 25) = w3 at *
  have cV := bV.cells
  have cVd := (bV.new ((New.refl _).drew)).cells
  have hne : ¬ w.heap.size = w2.heap.size := by omega
  have e0 := hW.e0
  have e1 := hW.e1
  clear hs1 hs2 hW bR bR1 bR2 N1 N2 al hn1 tn2
  go_region_held3 (fun X => ∀ j, X.cell? ⟨w2.heap.size, j, none⟩ = (#[.int .i64 E, .slice (some ⟨g1, 0, none⟩) xs.length c1, .int .i64 T, .slice (some ⟨g2, 0, none⟩) ys.length c2] : Array Value)[j]?) (first | (with_reducible exact cV) | (with_reducible exact cVd) | (with_reducible exact cV4) | (intro j; rw [cellW hne, cellW hne, cellW hne, cellW hne]; with_reducible exact cV4 j))
    (first
      | (go_at_call 24; refine (l11Epoch_sc (hs3.new ((New.refl _).drew)) (by omega) E T _ _ _ _ _ _ e0 e1).mono ?_; rintro e w4 ⟨ep, rfl, hs4, tn4⟩; have cV4 := ((bV.new ((New.refl _).drew)).turn tn4 (by omega)).cells; have bR4 := (bR3.new ((New.refl _).drew)).turn tn4 (by omega); have N4 := (N3.drew).before tn4 (fun i hi e => by omega); have hW4 := (hW3.new ((New.refl _).drew)).turn tn4 (fun k hk e => by omega); have cR := bR4.cells; have fR := bR4.frees))
  all_goals
    clear cV cVd cV4
    go_wp2
    refine bodyPost_ret (v := .tuple #[.agg #[.int .i64 E, .slice (some ⟨g1, 0, none⟩) xs.length c1, .int .i64 T, .slice (some ⟨g2, 0, none⟩) ys.length c2], .int .i64 ep]) (by simp [results, Tryd.results13, go_sem, cR]) rfl ?_
    have tr := fin4 w4 w.heap.size (.int .i64 E) (.slice (some ⟨g1, 0, none⟩) xs.length c1) (.int .i64 T) (.slice (some ⟨g2, 0, none⟩) ys.length c2)
    have hWf := hW4.turn tr (fun k hk e => by omega)
    exact ⟨E, T, ep, g1, c1, g2, c2, xs, ys, rfl, ⟨hWf.e0, hWf.e1, hWf.b1, hWf.b2, hWf.l1, hWf.l2, hWf.n1, hWf.n2, by have := hWf.h1; omega, by have := hWf.h2; omega⟩, N4.before tr (fun i hi e => by omega)⟩

end Go.Proofs.YtkjhjfdgkinpjaaDoor
