/- What is proved here: what the drawing of a bent message answers. -/
import Derived.Test.YteniieagcehmpaaDrawMs
import Derived.Test.YteniieagcehmpaaDrawBn6
import Derived.Deep.CutRange
namespace Go.Proofs.Yteniieagcehmpaa
open Go.RowKit Go.Sort
set_option linter.unusedVariables false

theorem w0sz {w : World} {o : Obj} : (w.alloc o).heap.size = w.heap.size + 1 := by simp

set_option maxHeartbeats 12800000 in
theorem l4Bent_sc {B n c t : Nat} {a : Option Addr} {zs : List Int} {w : World} (h : Sc w B a n c zs t) (ht : t ≤ 500) :
    Calls Try.prog 15 #[.pointer (some ⟨B, 0, none⟩)] w fun e w' => ∃ (kd sa mh mi wh su : Int) (gs rs : List (Int × Int)) (xs : List Int) (has : Bool) (o nx md lc : Int) (x y z : Value), e = .returned (.agg #[.int .i64 kd, .int .i64 sa, .int .i64 mh, .int .i64 mi, .int .i64 wh, .int .i64 su, x, .bool has, .int .i64 o, y, .int .i64 nx, .int .i64 md, .int .i64 lc, z]) ∧ gs.length ≤ 9 ∧ xs.length ≤ 7 ∧ rs.length ≤ 4 ∧ (∀ p ∈ gs, In6 p.1 ∧ In6 p.2) ∧ (∀ z ∈ xs, In6 z) ∧ (∀ p ∈ rs, In6 p.1 ∧ In6 p.2) ∧ OwQ w' w.heap.size x gs ∧ OwM w' w.heap.size y xs ∧ OwQ w' w.heap.size z rs ∧ Turn (fun k => k = B) w w' := by
  have hlt := h.blk.lt
  have hA := h.lt_of
  have N0 : New w (w.alloc (.cells #[.int .i64 0, .int .i64 0, .int .i64 0, .int .i64 0, .int .i64 0, .int .i64 0, .slice none 0 0, .bool false, .int .i64 0, .slice none 0 0, .int .i64 0, .int .i64 0, .int .i64 0, .slice none 0 0] 35)) := (New.refl w).alloc _
  have bR0 := Blk.mk w w.heap.size 35 #[.int .i64 0, .int .i64 0, .int .i64 0, .int .i64 0, .int .i64 0, .int .i64 0, .slice none 0 0, .bool false, .int .i64 0, .slice none 0 0, .int .i64 0, .int .i64 0, .int .i64 0, .slice none 0 0] rfl
  have hs0 := h.new N0
  have tT0 : Turn (fun k => k = B) w (w.alloc (.cells #[.int .i64 0, .int .i64 0, .int .i64 0, .int .i64 0, .int .i64 0, .int .i64 0, .slice none 0 0, .bool false, .int .i64 0, .slice none 0 0, .int .i64 0, .int .i64 0, .int .i64 0, .slice none 0 0] 35)) := N0.turn
  have hRB : ¬ w.heap.size = B := by omega
  have hSR : ∀ x, zs ≠ [] → a = some x → ¬ x.block = w.heap.size := fun x h1 h2 e => by have := hA x h1 h2; omega
  go_enter Try.func15, Try.ntmps15
  go_wp2_with fail
  refine (l4Message_sc hs0 (by omega)).mono ?_
  rintro e w1 ⟨kd, sa, mh, mi, wh, su, gs, rs, xs, has, o, nx, md, lc, x, y, z, t1, rfl, lg, lx, lr, ig, ix, ir, oQ1, oM1, oR1, ht1, hs1, tn1⟩
  have bR1 := bR0.turn tn1 hRB
  have tT1 := Turn.both tT0 tn1
  clear bR0 tT0
  obtain ⟨xa, xc, rfl⟩ := oQ1.slice
  obtain ⟨ya, yc, rfl⟩ := oM1.slice
  obtain ⟨za, zc, rfl⟩ := oR1.slice
  generalize hxn : gs.length = xn at *
  generalize hyn : xs.length = yn at *
  generalize hzn : rs.length = zn at *
  have HXN : Hid (gs.length = xn) := hxn
  have HYN : Hid (xs.length = yn) := hyn
  have HZN : Hid (rs.length = zn) := hzn
  clear hxn hyn hzn
  have rgX := oQ1.blk
  have rgY := oM1.blk
  have rgZ := oR1.blk
  have zB : B < w1.heap.size := by have := tn1.size; simp at this; omega
  have z0 : w.heap.size + 1 ≤ w1.heap.size := by have := tn1.size; simp at this; omega
  simp only [w0sz] at rgX rgY rgZ oQ1 oM1 oR1
  go_upto_region 2 with fail
  have hal : New w1 (w1.alloc (.cells #[.int .i64 kd, .int .i64 sa, .int .i64 mh, .int .i64 mi, .int .i64 wh, .int .i64 su, .slice xa xn xc, .bool has, .int .i64 o, .slice ya yn yc, .int .i64 nx, .int .i64 md, .int .i64 lc, .slice za zn zc] 35)) := (New.refl _).alloc _
  have bV2 : Blk (w1.alloc (.cells #[.int .i64 kd, .int .i64 sa, .int .i64 mh, .int .i64 mi, .int .i64 wh, .int .i64 su, .slice xa xn xc, .bool has, .int .i64 o, .slice ya yn yc, .int .i64 nx, .int .i64 md, .int .i64 lc, .slice za zn zc] 35)) w1.heap.size 35 #[.int .i64 kd, .int .i64 sa, .int .i64 mh, .int .i64 mi, .int .i64 wh, .int .i64 su, .slice xa xn xc, .bool has, .int .i64 o, .slice ya yn yc, .int .i64 nx, .int .i64 md, .int .i64 lc, .slice za zn zc] := Blk.mk _ _ _ _ rfl
  have bR2 := bR1.new hal
  have hs2 := hs1.new hal
  have tT2 := Turn.andNew tT1 hal
  have oQ2 := oQ1.new hal
  have oM2 := oM1.new hal
  have oR2 := oR1.new hal
  have hVB : ¬ w1.heap.size = B := by omega
  have v2 : w1.heap.size < (w1.alloc (.cells #[.int .i64 kd, .int .i64 sa, .int .i64 mh, .int .i64 mi, .int .i64 wh, .int .i64 su, .slice xa xn xc, .bool has, .int .i64 o, .slice ya yn yc, .int .i64 nx, .int .i64 md, .int .i64 lc, .slice za zn zc] 35)).heap.size := by simp
  clear bR1 hs1 tT1 hal oQ1 oM1 oR1
  generalize (w1.alloc (.cells #[.int .i64 kd, .int .i64 sa, .int .i64 mh, .int .i64 mi, .int .i64 wh, .int .i64 su, .slice xa xn xc, .bool has, .int .i64 o, .slice ya yn yc, .int .i64 nx, .int .i64 md, .int .i64 lc, .slice za zn zc] 35)) = w2 at *
  go_wp2_with fail
  refine (next_sc hs2 14 (by omega) (by omega)).mono ?_
  rintro e w3 ⟨yy, rfl, -, hs3, tn3⟩
  have bV3 := bV2.turn tn3 hVB
  have bR3 := bR2.turn tn3 hRB
  have tT3 := Turn.both tT2 tn3
  have oQ3 := oQ2.turnB' tn3 (fun g hg e => by have := rgX g hg; omega)
  have oM3 := oM2.turnB' tn3 (fun g hg e => by have := rgY g hg; omega)
  have oR3 := oR2.turnB' tn3 (fun g hg e => by have := rgZ g hg; omega)
  have s3 := tn3.size
  clear bV2 bR2 tT2 tn3 hs2 oQ2 oM2 oR2
  by_cases g0 : yy = 0
  · subst g0
    go_wp2_with fail
    refine (pick_sc (hs3.new ((New.refl _).alloc (.cells #[.int .i64 (0), .int .i64 (5), .int .i64 (1), .int .i64 (4)] 2))) [0, 5, 1, 4] (Blk.mk w3 w3.heap.size 2 #[.int .i64 (0), .int .i64 (5), .int .i64 (1), .int .i64 (4)] rfl) 4 rfl (by omega) (by omega) (by omega)).mono ?_
    rintro e w4 ⟨qq, rfl, -, hs4, tn4⟩
    have hal : New w3 (w3.alloc (.cells #[.int .i64 (0), .int .i64 (5), .int .i64 (1), .int .i64 (4)] 2)) := (New.refl _).alloc _
    have bV4 := (bV3.new hal).turn tn4 hVB
    have bR4 := (bR3.new hal).turn tn4 hRB
    have tT4 := Turn.both (Turn.andNew tT3 hal) tn4
    have oQ4a := oQ3.new hal
    have oM4a := oM3.new hal
    have oR4a := oR3.new hal
    have oQ4 := oQ4a.turnB' tn4 (fun g hg e => by have := rgX g hg; omega)
    have oM4 := oM4a.turnB' tn4 (fun g hg e => by have := rgY g hg; omega)
    have oR4 := oR4a.turnB' tn4 (fun g hg e => by have := rgZ g hg; omega)
    have s4 : w3.heap.size ≤ w4.heap.size := by have := tn4.size; simp at this; omega
    clear bV3 bR3 tT3 hs3 oQ3 oM3 oR3 oQ4a oM4a oR4a hal tn4
    have hTs : Turn (fun k => k = w1.heap.size) w4 (w4.setCell ⟨w1.heap.size, 0, none⟩ (.int .i64 qq)) := Turn.hereD (Turn.refl _ _) _
    have bV5 : Blk (w4.setCell ⟨w1.heap.size, 0, none⟩ (.int .i64 qq)) w1.heap.size 35 #[.int .i64 qq, .int .i64 sa, .int .i64 mh, .int .i64 mi, .int .i64 wh, .int .i64 su, .slice xa xn xc, .bool has, .int .i64 o, .slice ya yn yc, .int .i64 nx, .int .i64 md, .int .i64 lc, .slice za zn zc] := (bV4.set 0 _)
    have bR5 := bR4.turn hTs (by omega)
    have tT5 := Turn.trans tT4 hTs (fun i hi e => by omega)
    have oQ5 := oQ4.turnB' hTs (fun g hg e => by have := rgX g hg; omega)
    have oM5 := oM4.turnB' hTs (fun g hg e => by have := rgY g hg; omega)
    have oR5 := oR4.turnB' hTs (fun g hg e => by have := rgZ g hg; omega)
    have cV4 := bV4.cells
    have fV4 := bV4.frees
    go_upto_region 13 with fail
    clear bV4 bR4 tT4 hTs cV4 fV4 oQ4 oM4 oR4
    generalize (w4.setCell ⟨w1.heap.size, 0, none⟩ (.int .i64 qq)) = w5 at *
    have cR := bR5.cells
    have fR := bR5.frees
    have cV := bV5.cells
    go_wp2
    refine bodyPost_ret (v := .agg #[.int .i64 qq, .int .i64 sa, .int .i64 mh, .int .i64 mi, .int .i64 wh, .int .i64 su, .slice xa xn xc, .bool has, .int .i64 o, .slice ya yn yc, .int .i64 nx, .int .i64 md, .int .i64 lc, .slice za zn zc]) (by simp [results, Try.results15, go_sem, cR]) rfl ?_
    refine (fun (hT : Turn (fun k => k = w.heap.size) w5 _) => ⟨qq, sa, mh, mi, wh, su, gs, rs, xs, has, o, nx, md, lc, _, _, _, rfl, (by rw [HXN.out]; exact lg), (by rw [HYN.out]; exact lx), (by rw [HZN.out]; exact lr), ig, ix, ir, (oQ5.turn hT (fun g hg e => by omega)).low (by omega), (oM5.turn hT (fun g hg e => by omega)).low (by omega), (oR5.turn hT (fun g hg e => by omega)).low (by omega), Turn.trans tT5 hT (fun i hi e => by omega)⟩) ?_
    exact Turn.hereD (Turn.hereD (Turn.hereD (Turn.hereD (Turn.hereD (Turn.hereD (Turn.hereD (Turn.hereD (Turn.hereD (Turn.hereD (Turn.hereD (Turn.hereD (Turn.hereD (Turn.hereD (Turn.refl _ _) _) _) _) _) _) _) _) _) _) _) _) _) _) _
  have e0 : (yy == 0) = false := by simpa using g0
  by_cases g1 : yy = 1
  · subst g1
    go_wp2_with fail
    refine (pick_sc (hs3.new ((New.refl _).alloc (.cells #[.int .i64 (0), .int .i64 (3), .int .i64 (65536)] 2))) [0, 3, 65536] (Blk.mk w3 w3.heap.size 2 #[.int .i64 (0), .int .i64 (3), .int .i64 (65536)] rfl) 3 rfl (by omega) (by omega) (by omega)).mono ?_
    rintro e w4 ⟨qq, rfl, -, hs4, tn4⟩
    have hal : New w3 (w3.alloc (.cells #[.int .i64 (0), .int .i64 (3), .int .i64 (65536)] 2)) := (New.refl _).alloc _
    have bV4 := (bV3.new hal).turn tn4 hVB
    have bR4 := (bR3.new hal).turn tn4 hRB
    have tT4 := Turn.both (Turn.andNew tT3 hal) tn4
    have oQ4a := oQ3.new hal
    have oM4a := oM3.new hal
    have oR4a := oR3.new hal
    have oQ4 := oQ4a.turnB' tn4 (fun g hg e => by have := rgX g hg; omega)
    have oM4 := oM4a.turnB' tn4 (fun g hg e => by have := rgY g hg; omega)
    have oR4 := oR4a.turnB' tn4 (fun g hg e => by have := rgZ g hg; omega)
    have s4 : w3.heap.size ≤ w4.heap.size := by have := tn4.size; simp at this; omega
    clear bV3 bR3 tT3 hs3 oQ3 oM3 oR3 oQ4a oM4a oR4a hal tn4
    have hTs : Turn (fun k => k = w1.heap.size) w4 (w4.setCell ⟨w1.heap.size, 1, none⟩ (.int .i64 qq)) := Turn.hereD (Turn.refl _ _) _
    have bV5 : Blk (w4.setCell ⟨w1.heap.size, 1, none⟩ (.int .i64 qq)) w1.heap.size 35 #[.int .i64 kd, .int .i64 qq, .int .i64 mh, .int .i64 mi, .int .i64 wh, .int .i64 su, .slice xa xn xc, .bool has, .int .i64 o, .slice ya yn yc, .int .i64 nx, .int .i64 md, .int .i64 lc, .slice za zn zc] := (bV4.set 1 _)
    have bR5 := bR4.turn hTs (by omega)
    have tT5 := Turn.trans tT4 hTs (fun i hi e => by omega)
    have oQ5 := oQ4.turnB' hTs (fun g hg e => by have := rgX g hg; omega)
    have oM5 := oM4.turnB' hTs (fun g hg e => by have := rgY g hg; omega)
    have oR5 := oR4.turnB' hTs (fun g hg e => by have := rgZ g hg; omega)
    have cV4 := bV4.cells
    have fV4 := bV4.frees
    go_upto_region 13 with fail
    clear bV4 bR4 tT4 hTs cV4 fV4 oQ4 oM4 oR4
    generalize (w4.setCell ⟨w1.heap.size, 1, none⟩ (.int .i64 qq)) = w5 at *
    have cR := bR5.cells
    have fR := bR5.frees
    have cV := bV5.cells
    go_wp2
    refine bodyPost_ret (v := .agg #[.int .i64 kd, .int .i64 qq, .int .i64 mh, .int .i64 mi, .int .i64 wh, .int .i64 su, .slice xa xn xc, .bool has, .int .i64 o, .slice ya yn yc, .int .i64 nx, .int .i64 md, .int .i64 lc, .slice za zn zc]) (by simp [results, Try.results15, go_sem, cR]) rfl ?_
    refine (fun (hT : Turn (fun k => k = w.heap.size) w5 _) => ⟨kd, qq, mh, mi, wh, su, gs, rs, xs, has, o, nx, md, lc, _, _, _, rfl, (by rw [HXN.out]; exact lg), (by rw [HYN.out]; exact lx), (by rw [HZN.out]; exact lr), ig, ix, ir, (oQ5.turn hT (fun g hg e => by omega)).low (by omega), (oM5.turn hT (fun g hg e => by omega)).low (by omega), (oR5.turn hT (fun g hg e => by omega)).low (by omega), Turn.trans tT5 hT (fun i hi e => by omega)⟩) ?_
    exact Turn.hereD (Turn.hereD (Turn.hereD (Turn.hereD (Turn.hereD (Turn.hereD (Turn.hereD (Turn.hereD (Turn.hereD (Turn.hereD (Turn.hereD (Turn.hereD (Turn.hereD (Turn.hereD (Turn.refl _ _) _) _) _) _) _) _) _) _) _) _) _) _) _) _
  have e1 : (yy == 1) = false := by simpa using g1
  by_cases g2 : yy = 2
  · subst g2
    go_wp2_with fail
    refine (pick_sc (hs3.new ((New.refl _).alloc (.cells #[.int .i64 (1), .int .i64 (2), .int .i64 (201)] 2))) [1, 2, 201] (Blk.mk w3 w3.heap.size 2 #[.int .i64 (1), .int .i64 (2), .int .i64 (201)] rfl) 3 rfl (by omega) (by omega) (by omega)).mono ?_
    rintro e w4 ⟨qq, rfl, -, hs4, tn4⟩
    have hal : New w3 (w3.alloc (.cells #[.int .i64 (1), .int .i64 (2), .int .i64 (201)] 2)) := (New.refl _).alloc _
    have bV4 := (bV3.new hal).turn tn4 hVB
    have bR4 := (bR3.new hal).turn tn4 hRB
    have tT4 := Turn.both (Turn.andNew tT3 hal) tn4
    have oQ4a := oQ3.new hal
    have oM4a := oM3.new hal
    have oR4a := oR3.new hal
    have oQ4 := oQ4a.turnB' tn4 (fun g hg e => by have := rgX g hg; omega)
    have oM4 := oM4a.turnB' tn4 (fun g hg e => by have := rgY g hg; omega)
    have oR4 := oR4a.turnB' tn4 (fun g hg e => by have := rgZ g hg; omega)
    have s4 : w3.heap.size ≤ w4.heap.size := by have := tn4.size; simp at this; omega
    clear bV3 bR3 tT3 hs3 oQ3 oM3 oR3 oQ4a oM4a oR4a hal tn4
    have hTs : Turn (fun k => k = w1.heap.size) w4 (w4.setCell ⟨w1.heap.size, 2, none⟩ (.int .i64 qq)) := Turn.hereD (Turn.refl _ _) _
    have bV5 : Blk (w4.setCell ⟨w1.heap.size, 2, none⟩ (.int .i64 qq)) w1.heap.size 35 #[.int .i64 kd, .int .i64 sa, .int .i64 qq, .int .i64 mi, .int .i64 wh, .int .i64 su, .slice xa xn xc, .bool has, .int .i64 o, .slice ya yn yc, .int .i64 nx, .int .i64 md, .int .i64 lc, .slice za zn zc] := (bV4.set 2 _)
    have bR5 := bR4.turn hTs (by omega)
    have tT5 := Turn.trans tT4 hTs (fun i hi e => by omega)
    have oQ5 := oQ4.turnB' hTs (fun g hg e => by have := rgX g hg; omega)
    have oM5 := oM4.turnB' hTs (fun g hg e => by have := rgY g hg; omega)
    have oR5 := oR4.turnB' hTs (fun g hg e => by have := rgZ g hg; omega)
    have cV4 := bV4.cells
    have fV4 := bV4.frees
    go_upto_region 13 with fail
    clear bV4 bR4 tT4 hTs cV4 fV4 oQ4 oM4 oR4
    generalize (w4.setCell ⟨w1.heap.size, 2, none⟩ (.int .i64 qq)) = w5 at *
    have cR := bR5.cells
    have fR := bR5.frees
    have cV := bV5.cells
    go_wp2
    refine bodyPost_ret (v := .agg #[.int .i64 kd, .int .i64 sa, .int .i64 qq, .int .i64 mi, .int .i64 wh, .int .i64 su, .slice xa xn xc, .bool has, .int .i64 o, .slice ya yn yc, .int .i64 nx, .int .i64 md, .int .i64 lc, .slice za zn zc]) (by simp [results, Try.results15, go_sem, cR]) rfl ?_
    refine (fun (hT : Turn (fun k => k = w.heap.size) w5 _) => ⟨kd, sa, qq, mi, wh, su, gs, rs, xs, has, o, nx, md, lc, _, _, _, rfl, (by rw [HXN.out]; exact lg), (by rw [HYN.out]; exact lx), (by rw [HZN.out]; exact lr), ig, ix, ir, (oQ5.turn hT (fun g hg e => by omega)).low (by omega), (oM5.turn hT (fun g hg e => by omega)).low (by omega), (oR5.turn hT (fun g hg e => by omega)).low (by omega), Turn.trans tT5 hT (fun i hi e => by omega)⟩) ?_
    exact Turn.hereD (Turn.hereD (Turn.hereD (Turn.hereD (Turn.hereD (Turn.hereD (Turn.hereD (Turn.hereD (Turn.hereD (Turn.hereD (Turn.hereD (Turn.hereD (Turn.hereD (Turn.hereD (Turn.refl _ _) _) _) _) _) _) _) _) _) _) _) _) _) _) _
  have e2 : (yy == 2) = false := by simpa using g2
  by_cases g3 : yy = 3
  · subst g3
    go_wp2_with fail
    refine (pick_sc (hs3.new ((New.refl _).alloc (.cells #[.int .i64 (0), .int .i64 (7), .int .i64 (1)] 2))) [0, 7, 1] (Blk.mk w3 w3.heap.size 2 #[.int .i64 (0), .int .i64 (7), .int .i64 (1)] rfl) 3 rfl (by omega) (by omega) (by omega)).mono ?_
    rintro e w4 ⟨qq, rfl, -, hs4, tn4⟩
    have hal : New w3 (w3.alloc (.cells #[.int .i64 (0), .int .i64 (7), .int .i64 (1)] 2)) := (New.refl _).alloc _
    have bV4 := (bV3.new hal).turn tn4 hVB
    have bR4 := (bR3.new hal).turn tn4 hRB
    have tT4 := Turn.both (Turn.andNew tT3 hal) tn4
    have oQ4a := oQ3.new hal
    have oM4a := oM3.new hal
    have oR4a := oR3.new hal
    have oQ4 := oQ4a.turnB' tn4 (fun g hg e => by have := rgX g hg; omega)
    have oM4 := oM4a.turnB' tn4 (fun g hg e => by have := rgY g hg; omega)
    have oR4 := oR4a.turnB' tn4 (fun g hg e => by have := rgZ g hg; omega)
    have s4 : w3.heap.size ≤ w4.heap.size := by have := tn4.size; simp at this; omega
    clear bV3 bR3 tT3 hs3 oQ3 oM3 oR3 oQ4a oM4a oR4a hal tn4
    have hTs : Turn (fun k => k = w1.heap.size) w4 (w4.setCell ⟨w1.heap.size, 4, none⟩ (.int .i64 qq)) := Turn.hereD (Turn.refl _ _) _
    have bV5 : Blk (w4.setCell ⟨w1.heap.size, 4, none⟩ (.int .i64 qq)) w1.heap.size 35 #[.int .i64 kd, .int .i64 sa, .int .i64 mh, .int .i64 mi, .int .i64 qq, .int .i64 su, .slice xa xn xc, .bool has, .int .i64 o, .slice ya yn yc, .int .i64 nx, .int .i64 md, .int .i64 lc, .slice za zn zc] := (bV4.set 4 _)
    have bR5 := bR4.turn hTs (by omega)
    have tT5 := Turn.trans tT4 hTs (fun i hi e => by omega)
    have oQ5 := oQ4.turnB' hTs (fun g hg e => by have := rgX g hg; omega)
    have oM5 := oM4.turnB' hTs (fun g hg e => by have := rgY g hg; omega)
    have oR5 := oR4.turnB' hTs (fun g hg e => by have := rgZ g hg; omega)
    have cV4 := bV4.cells
    have fV4 := bV4.frees
    go_upto_region 13 with fail
    clear bV4 bR4 tT4 hTs cV4 fV4 oQ4 oM4 oR4
    generalize (w4.setCell ⟨w1.heap.size, 4, none⟩ (.int .i64 qq)) = w5 at *
    have cR := bR5.cells
    have fR := bR5.frees
    have cV := bV5.cells
    go_wp2
    refine bodyPost_ret (v := .agg #[.int .i64 kd, .int .i64 sa, .int .i64 mh, .int .i64 mi, .int .i64 qq, .int .i64 su, .slice xa xn xc, .bool has, .int .i64 o, .slice ya yn yc, .int .i64 nx, .int .i64 md, .int .i64 lc, .slice za zn zc]) (by simp [results, Try.results15, go_sem, cR]) rfl ?_
    refine (fun (hT : Turn (fun k => k = w.heap.size) w5 _) => ⟨kd, sa, mh, mi, qq, su, gs, rs, xs, has, o, nx, md, lc, _, _, _, rfl, (by rw [HXN.out]; exact lg), (by rw [HYN.out]; exact lx), (by rw [HZN.out]; exact lr), ig, ix, ir, (oQ5.turn hT (fun g hg e => by omega)).low (by omega), (oM5.turn hT (fun g hg e => by omega)).low (by omega), (oR5.turn hT (fun g hg e => by omega)).low (by omega), Turn.trans tT5 hT (fun i hi e => by omega)⟩) ?_
    exact Turn.hereD (Turn.hereD (Turn.hereD (Turn.hereD (Turn.hereD (Turn.hereD (Turn.hereD (Turn.hereD (Turn.hereD (Turn.hereD (Turn.hereD (Turn.hereD (Turn.hereD (Turn.hereD (Turn.refl _ _) _) _) _) _) _) _) _) _) _) _) _) _) _) _
  have e3 : (yy == 3) = false := by simpa using g3
  by_cases g4 : yy = 4
  · subst g4
    go_wp2_with fail
    refine (l3Bent_sc hs3 (by omega)).mono ?_
    rintro e w4 ⟨gs4, rs4, xs4, has4, o4, nx4, md4, lc4, x4, y4, z4, rfl, lg4, lx4, lr4, ig4, ix4, ir4, oQ4, oM4, oR4, tn4⟩
    obtain ⟨xb, xd, rfl⟩ := oQ4.slice
    obtain ⟨yb, yd, rfl⟩ := oM4.slice
    obtain ⟨zb, zd, rfl⟩ := oR4.slice
    generalize hxm : gs4.length = xm at *
    generalize hym : xs4.length = ym at *
    generalize hzm : rs4.length = zm at *
    have HXM : Hid (gs4.length = xm) := hxm
    have HYM : Hid (xs4.length = ym) := hym
    have HZM : Hid (rs4.length = zm) := hzm
    clear hxm hym hzm
    have bV4 := bV3.turn tn4 hVB
    have bR4 := bR3.turn tn4 hRB
    have tT4 := Turn.both tT3 tn4
    have s4 := tn4.size
    clear bV3 bR3 tT3 hs3 oQ3 oM3 oR3 tn4
    have hTs : Turn (fun k => k = w1.heap.size) w4 ((((((((w4.setCell ⟨w1.heap.size, 6, none⟩ (.slice xb xm xd)).setCell ⟨w1.heap.size, 7, none⟩ (.bool has4)).setCell ⟨w1.heap.size, 8, none⟩ (.int .i64 o4)).setCell ⟨w1.heap.size, 9, none⟩ (.slice yb ym yd)).setCell ⟨w1.heap.size, 10, none⟩ (.int .i64 nx4)).setCell ⟨w1.heap.size, 11, none⟩ (.int .i64 md4)).setCell ⟨w1.heap.size, 12, none⟩ (.int .i64 lc4)).setCell ⟨w1.heap.size, 13, none⟩ (.slice zb zm zd)) := Turn.hereD (Turn.hereD (Turn.hereD (Turn.hereD (Turn.hereD (Turn.hereD (Turn.hereD (Turn.hereD (Turn.refl _ _) _) _) _) _) _) _) _) _
    have bV5 : Blk ((((((((w4.setCell ⟨w1.heap.size, 6, none⟩ (.slice xb xm xd)).setCell ⟨w1.heap.size, 7, none⟩ (.bool has4)).setCell ⟨w1.heap.size, 8, none⟩ (.int .i64 o4)).setCell ⟨w1.heap.size, 9, none⟩ (.slice yb ym yd)).setCell ⟨w1.heap.size, 10, none⟩ (.int .i64 nx4)).setCell ⟨w1.heap.size, 11, none⟩ (.int .i64 md4)).setCell ⟨w1.heap.size, 12, none⟩ (.int .i64 lc4)).setCell ⟨w1.heap.size, 13, none⟩ (.slice zb zm zd)) w1.heap.size 35 #[.int .i64 kd, .int .i64 sa, .int .i64 mh, .int .i64 mi, .int .i64 wh, .int .i64 su, .slice xb xm xd, .bool has4, .int .i64 o4, .slice yb ym yd, .int .i64 nx4, .int .i64 md4, .int .i64 lc4, .slice zb zm zd] := ((((((((bV4.set 6 _).set 7 _).set 8 _).set 9 _).set 10 _).set 11 _).set 12 _).set 13 _)
    have bR5 := bR4.turn hTs (by omega)
    have tT5 := Turn.trans tT4 hTs (fun i hi e => by omega)
    have oQ5 := oQ4.turn hTs (fun g hg e => by omega)
    have oM5 := oM4.turn hTs (fun g hg e => by omega)
    have oR5 := oR4.turn hTs (fun g hg e => by omega)
    have cV4 := bV4.cells
    have fV4 := bV4.frees
    go_upto_region 13 with fail
    clear bV4 bR4 tT4 hTs cV4 fV4 oQ4 oM4 oR4
    generalize ((((((((w4.setCell ⟨w1.heap.size, 6, none⟩ (.slice xb xm xd)).setCell ⟨w1.heap.size, 7, none⟩ (.bool has4)).setCell ⟨w1.heap.size, 8, none⟩ (.int .i64 o4)).setCell ⟨w1.heap.size, 9, none⟩ (.slice yb ym yd)).setCell ⟨w1.heap.size, 10, none⟩ (.int .i64 nx4)).setCell ⟨w1.heap.size, 11, none⟩ (.int .i64 md4)).setCell ⟨w1.heap.size, 12, none⟩ (.int .i64 lc4)).setCell ⟨w1.heap.size, 13, none⟩ (.slice zb zm zd)) = w5 at *
    have cR := bR5.cells
    have fR := bR5.frees
    have cV := bV5.cells
    go_wp2
    refine bodyPost_ret (v := .agg #[.int .i64 kd, .int .i64 sa, .int .i64 mh, .int .i64 mi, .int .i64 wh, .int .i64 su, .slice xb xm xd, .bool has4, .int .i64 o4, .slice yb ym yd, .int .i64 nx4, .int .i64 md4, .int .i64 lc4, .slice zb zm zd]) (by simp [results, Try.results15, go_sem, cR]) rfl ?_
    refine (fun (hT : Turn (fun k => k = w.heap.size) w5 _) => ⟨kd, sa, mh, mi, wh, su, gs4, rs4, xs4, has4, o4, nx4, md4, lc4, _, _, _, rfl, (by rw [HXM.out]; exact lg4), (by rw [HYM.out]; exact lx4), (by rw [HZM.out]; exact lr4), ig4, ix4, ir4, (oQ5.turn hT (fun g hg e => by omega)).low (by omega), (oM5.turn hT (fun g hg e => by omega)).low (by omega), (oR5.turn hT (fun g hg e => by omega)).low (by omega), Turn.trans tT5 hT (fun i hi e => by omega)⟩) ?_
    exact Turn.hereD (Turn.hereD (Turn.hereD (Turn.hereD (Turn.hereD (Turn.hereD (Turn.hereD (Turn.hereD (Turn.hereD (Turn.hereD (Turn.hereD (Turn.hereD (Turn.hereD (Turn.hereD (Turn.refl _ _) _) _) _) _) _) _) _) _) _) _) _) _) _) _
  have e4 : (yy == 4) = false := by simpa using g4
  have cR := bR3.cells
  have fR := bR3.frees
  have cV := bV3.cells
  go_wp2
  refine bodyPost_ret (v := .agg #[.int .i64 kd, .int .i64 sa, .int .i64 mh, .int .i64 mi, .int .i64 wh, .int .i64 su, .slice xa xn xc, .bool has, .int .i64 o, .slice ya yn yc, .int .i64 nx, .int .i64 md, .int .i64 lc, .slice za zn zc]) (by simp [results, Try.results15, go_sem, cR]) rfl ?_
  refine (fun (hT : Turn (fun k => k = w.heap.size) w3 _) => ⟨kd, sa, mh, mi, wh, su, gs, rs, xs, has, o, nx, md, lc, _, _, _, rfl, (by rw [HXN.out]; exact lg), (by rw [HYN.out]; exact lx), (by rw [HZN.out]; exact lr), ig, ix, ir, (oQ3.turn hT (fun g hg e => by omega)).low (by omega), (oM3.turn hT (fun g hg e => by omega)).low (by omega), (oR3.turn hT (fun g hg e => by omega)).low (by omega), Turn.trans tT3 hT (fun i hi e => by omega)⟩) ?_
  exact Turn.hereD (Turn.hereD (Turn.hereD (Turn.hereD (Turn.hereD (Turn.hereD (Turn.hereD (Turn.hereD (Turn.hereD (Turn.hereD (Turn.hereD (Turn.hereD (Turn.hereD (Turn.hereD (Turn.refl _ _) _) _) _) _) _) _) _) _) _) _) _) _) _) _

end Go.Proofs.Yteniieagcehmpaa
