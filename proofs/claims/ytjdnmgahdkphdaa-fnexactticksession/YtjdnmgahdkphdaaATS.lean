/- What is proved here: for every configuration and session the law on TickSession returns true, and they read as they did. No condition. -/
import Derived.Test.YtjdnmgahdkphdaaS5Open
import Derived.Test.YtjdnmgahdkphdaaS5Res
import Derived.Test.YtjdnmgahdkphdaaS5TkS
import Derived.Deep.RegionHeld3
import Derived.Deep.CutRange
namespace Go.Proofs.Ytjdnmgahdkphdaa
open Go.ChangeShapes Go.WideShapes Go.ChangeAt Go.RowKit
set_option linter.unusedVariables false
set_option linter.unusedSimpArgs false

set_option maxHeartbeats 6400000 in
theorem ats_walk (ca ci ch st pe ho si sp  : Int) (w : World) :
    Calls Try.prog 8 #[.agg #[.int .i64 ca, .int .i64 ci, .int .i64 ch], .agg #[.int .i64 st, .int .i64 pe, .int .i64 ho, .int .i64 si, .int .i64 sp]] w fun e w' => e = .returned (.bool true) ∧ New w w' := by
  have hS : Hid (∀ W, Calls Try.prog 24 #[.agg #[.int .i64 ca, .int .i64 ci, .int .i64 ch], .agg #[.int .i64 st, .int .i64 pe, .int .i64 ho, .int .i64 si, .int .i64 sp]] W (Ans W (ticksR ca ci ch st pe ho si sp))) := fun W => specTick ca ci ch st pe ho si sp W
  have hI : Hid (∀ W, Calls Try.prog 25 #[.agg #[.int .i64 ca, .int .i64 ci, .int .i64 ch], .agg #[.int .i64 st, .int .i64 pe, .int .i64 ho, .int .i64 si, .int .i64 sp]] W (Ans W (ticksR ca ci ch st pe ho si sp))) := fun W => implTick ca ci ch st pe ho si sp W
  generalize ticksR ca ci ch st pe ho si sp = r at hS hI
  obtain ⟨c, rt, rp, rh, ri, rs, say, up, dn, ud⟩ := r
  obtain ⟨n, hn⟩ : ∃ n, Hid (sayN say = n) := ⟨_, rfl⟩
  obtain ⟨N, hN⟩ : ∃ N, Hid (mkN say = N) := ⟨_, rfl⟩
  have hN0 : 0 ≤ N := by rw [← hN.out]; cases say <;> simp [mkN]
  have zN : (N != N) = false := by simp
  have N0 : New w ((w.alloc (.cells #[.int .i64 ca, .int .i64 ci, .int .i64 ch] 29)).alloc (.cells #[.int .i64 st, .int .i64 pe, .int .i64 ho, .int .i64 si, .int .i64 sp] 23)) := ((New.refl w).alloc _).alloc _
  have bA0 : Blk ((w.alloc (.cells #[.int .i64 ca, .int .i64 ci, .int .i64 ch] 29)).alloc (.cells #[.int .i64 st, .int .i64 pe, .int .i64 ho, .int .i64 si, .int .i64 sp] 23)) w.heap.size 29 #[.int .i64 ca, .int .i64 ci, .int .i64 ch] := (Blk.mk _ _ _ _ rfl).alloc _
  have bB0 : Blk ((w.alloc (.cells #[.int .i64 ca, .int .i64 ci, .int .i64 ch] 29)).alloc (.cells #[.int .i64 st, .int .i64 pe, .int .i64 ho, .int .i64 si, .int .i64 sp] 23)) (w.heap.size + 1) 23 #[.int .i64 st, .int .i64 pe, .int .i64 ho, .int .i64 si, .int .i64 sp] := Blk.mk _ _ _ _ (by simp)
  have sz0 : w.heap.size + 2 ≤ ((w.alloc (.cells #[.int .i64 ca, .int .i64 ci, .int .i64 ch] 29)).alloc (.cells #[.int .i64 st, .int .i64 pe, .int .i64 ho, .int .i64 si, .int .i64 sp] 23)).heap.size := by simp
  go_enter Try.func8, Try.ntmps8
  go_upto_region 1 with fail
  generalize ((w.alloc (.cells #[.int .i64 ca, .int .i64 ci, .int .i64 ch] 29)).alloc (.cells #[.int .i64 st, .int .i64 pe, .int .i64 ho, .int .i64 si, .int .i64 sp] 23)) = w0 at *
  go_cut [5] from 10 to 14 (fun v wx => ∃ B g a, v = .pointer (some ⟨B, 0, none⟩) ∧ Blk wx B 36 #[.int .i64 c, .int .i64 rt, .int .i64 rp, .int .i64 rh, .int .i64 ri, .int .i64 rs, .slice a n n, .bool up, .bool dn, .bool ud] ∧ SayAt wx g (.slice a n n) say ∧ w0.heap.size ≤ B ∧ w0.heap.size ≤ g ∧ B ≠ g ∧ B < wx.heap.size ∧ g < wx.heap.size ∧ New w0 wx)
  case first =>
    have cA := bA0.cells
    have cB := bB0.cells
    have dA := bA0
    have dB := bB0
    have dN : New w0 w0 := New.refl _
    go_region_held3 (fun W => (∀ j, W.cell? ⟨w.heap.size, j, none⟩ = #[Value.int .i64 ca, .int .i64 ci, .int .i64 ch][j]?) ∧ (∀ j, W.cell? ⟨w.heap.size + 1, j, none⟩ = #[Value.int .i64 st, .int .i64 pe, .int .i64 ho, .int .i64 si, .int .i64 sp][j]?)) (exact ⟨by intro j; (try simp (disch := exact neA) only [cell_set5]); first | exact cA j | exact dA.cells j | exact (dA.alloc _).cells j, by intro j; (try simp (disch := exact neB) only [cell_set5]); first | exact cB j | exact dB.cells j | exact (dB.alloc _).cells j⟩)
      (first
        | (go_at_call 13; refine (toCfg_any ca ci ch _).mono ?_; rintro e wx ⟨rfl, h1⟩; (try simp only [New.drew_mark, New.alloc_mark] at h1); first | (have hM := And.right h1; have h1 := And.left h1; have dV := Blk.laid hM; have cV := dV.cells; have fV := dV.frees; have lV := dV.lt; have dL := dN.size; have neA := ne5a dL sz0; have neB := ne5b dL sz0; have dA := dA.new h1; have dB := dB.new h1; have dN := dN.trans h1; have dS := dN.size) | (have dA := dA.new h1; have dB := dB.new h1; have dN := dN.trans h1; have dS := dN.size; (try (have dV := dV.new h1; have cV := dV.cells; have fV := dV.frees; have lV := dV.lt))))
        | (go_at_call 10; refine (toSes_any st pe ho si sp _).mono ?_; rintro e wx ⟨rfl, h2⟩; (try simp only [New.drew_mark, New.alloc_mark] at h2); first | (have hM := And.right h2; have h2 := And.left h2; have dV := Blk.laid hM; have cV := dV.cells; have fV := dV.frees; have lV := dV.lt; have dL := dN.size; have neA := ne5a dL sz0; have neB := ne5b dL sz0; have dA := dA.new h2; have dB := dB.new h2; have dN := dN.trans h2; have dS := dN.size) | (have dA := dA.new h2; have dB := dB.new h2; have dN := dN.trans h2; have dS := dN.size; (try (have dV := dV.new h2; have cV := dV.cells; have fV := dV.frees; have lV := dV.lt))))
        | (go_at_call 24; refine (hS.out _).mono ?_; rintro e wx hx; obtain ⟨g, a, rfl, hg, hl, hs, h3⟩ := hx.opened hn; (try simp at hg); (try simp only [New.drew_mark, New.alloc_mark] at h3); first | (have hM := And.right h3; have h3 := And.left h3; have dV := Blk.laid hM; have cV := dV.cells; have fV := dV.frees; have lV := dV.lt; have dL := dN.size; have neA := ne5a dL sz0; have neB := ne5b dL sz0; have dA := dA.new h3; have dB := dB.new h3; have dN := dN.trans h3; have dS := dN.size; have neG := neg5' hg) | ((try have neG := neg5 lV hg); have dA := dA.new h3; have dB := dB.new h3; have dN := dN.trans h3; have dS := dN.size; (try (have dV := dV.new h3; have cV := dV.cells; have fV := dV.frees; have lV := dV.lt)))))
    all_goals
      go_wp2_with fail
      go_meet
      case rel =>
        first
        | (have hq := dV
           refine ⟨_, g, a, rfl, blk10 _ _ _ _ _ _ _ _ _ _ hq, ?_, dL, ?_, neG, ?_, ?_, ?_⟩
           · simp (disch := exact neG) only [SayAt.set5]; exact hs
           · omega
           · simp [World.setCell]; exact lV
           · simp [World.setCell]; exact hl
           · simp (disch := exact dL) only [New.set5]; exact dN)
        | (refine ⟨_, g, a, rfl, Blk.mk _ _ _ _ rfl, hs.new ((New.refl _).alloc _), dS, ?_, ?_, ?_, ?_, dN.alloc _⟩
           · omega
           · omega
           · simp
           · simp; omega)
  case rest =>
  obtain ⟨B3, g3, a3, rfl, bX3, sX3, lB3, lg3, ne3, ltB3, ltg3, hc3⟩ := hcut
  have bA3 := bA0.new hc3
  have bB3 := bB0.new hc3
  have N3 := N0.trans hc3
  have sz3 := Nat.le_trans sz0 hc3.size
  generalize wc = w3 at *
  go_upto_region 2 with fail
  go_cut [6] from 15 to 19 (fun v wx => ∃ B g a, v = .pointer (some ⟨B, 0, none⟩) ∧ Blk wx B 36 #[.int .i64 c, .int .i64 rt, .int .i64 rp, .int .i64 rh, .int .i64 ri, .int .i64 rs, .slice a n n, .bool up, .bool dn, .bool ud] ∧ SayAt wx g (.slice a n n) say ∧ w3.heap.size ≤ B ∧ w3.heap.size ≤ g ∧ B ≠ g ∧ B < wx.heap.size ∧ g < wx.heap.size ∧ New w3 wx)
  case first =>
    have cA := bA3.cells
    have cB := bB3.cells
    have dA := bA3
    have dB := bB3
    have dN : New w3 w3 := New.refl _
    go_region_held3 (fun W => (∀ j, W.cell? ⟨w.heap.size, j, none⟩ = #[Value.int .i64 ca, .int .i64 ci, .int .i64 ch][j]?) ∧ (∀ j, W.cell? ⟨w.heap.size + 1, j, none⟩ = #[Value.int .i64 st, .int .i64 pe, .int .i64 ho, .int .i64 si, .int .i64 sp][j]?)) (exact ⟨by intro j; (try simp (disch := exact neA) only [cell_set5]); first | exact cA j | exact dA.cells j | exact (dA.alloc _).cells j, by intro j; (try simp (disch := exact neB) only [cell_set5]); first | exact cB j | exact dB.cells j | exact (dB.alloc _).cells j⟩)
      (first
        | (go_at_call 13; refine (toCfg_any ca ci ch _).mono ?_; rintro e wx ⟨rfl, h1⟩; (try simp only [New.drew_mark, New.alloc_mark] at h1); first | (have hM := And.right h1; have h1 := And.left h1; have dV := Blk.laid hM; have cV := dV.cells; have fV := dV.frees; have lV := dV.lt; have dL := dN.size; have neA := ne5a dL sz3; have neB := ne5b dL sz3; have dA := dA.new h1; have dB := dB.new h1; have dN := dN.trans h1; have dS := dN.size) | (have dA := dA.new h1; have dB := dB.new h1; have dN := dN.trans h1; have dS := dN.size; (try (have dV := dV.new h1; have cV := dV.cells; have fV := dV.frees; have lV := dV.lt))))
        | (go_at_call 10; refine (toSes_any st pe ho si sp _).mono ?_; rintro e wx ⟨rfl, h2⟩; (try simp only [New.drew_mark, New.alloc_mark] at h2); first | (have hM := And.right h2; have h2 := And.left h2; have dV := Blk.laid hM; have cV := dV.cells; have fV := dV.frees; have lV := dV.lt; have dL := dN.size; have neA := ne5a dL sz3; have neB := ne5b dL sz3; have dA := dA.new h2; have dB := dB.new h2; have dN := dN.trans h2; have dS := dN.size) | (have dA := dA.new h2; have dB := dB.new h2; have dN := dN.trans h2; have dS := dN.size; (try (have dV := dV.new h2; have cV := dV.cells; have fV := dV.frees; have lV := dV.lt))))
        | (go_at_call 25; refine (hI.out _).mono ?_; rintro e wx hx; obtain ⟨g, a, rfl, hg, hl, hs, h3⟩ := hx.opened hn; (try simp at hg); (try simp only [New.drew_mark, New.alloc_mark] at h3); first | (have hM := And.right h3; have h3 := And.left h3; have dV := Blk.laid hM; have cV := dV.cells; have fV := dV.frees; have lV := dV.lt; have dL := dN.size; have neA := ne5a dL sz3; have neB := ne5b dL sz3; have dA := dA.new h3; have dB := dB.new h3; have dN := dN.trans h3; have dS := dN.size; have neG := neg5' hg) | ((try have neG := neg5 lV hg); have dA := dA.new h3; have dB := dB.new h3; have dN := dN.trans h3; have dS := dN.size; (try (have dV := dV.new h3; have cV := dV.cells; have fV := dV.frees; have lV := dV.lt)))))
    all_goals
      go_wp2_with fail
      go_meet
      case rel =>
        first
        | (have hq := dV
           refine ⟨_, g, a, rfl, blk10 _ _ _ _ _ _ _ _ _ _ hq, ?_, dL, ?_, neG, ?_, ?_, ?_⟩
           · simp (disch := exact neG) only [SayAt.set5]; exact hs
           · omega
           · simp [World.setCell]; exact lV
           · simp [World.setCell]; exact hl
           · simp (disch := exact dL) only [New.set5]; exact dN)
        | (refine ⟨_, g, a, rfl, Blk.mk _ _ _ _ rfl, hs.new ((New.refl _).alloc _), dS, ?_, ?_, ?_, ?_, dN.alloc _⟩
           · omega
           · omega
           · simp
           · simp; omega)
  case rest =>
  obtain ⟨B7, g7, a7, rfl, bX7, sX7, lB7, lg7, ne7, ltB7, ltg7, hc7⟩ := hcut
  have bA7 := bA3.new hc7
  have bB7 := bB3.new hc7
  have N7 := N3.trans hc7
  have sz7 := Nat.le_trans sz3 hc7.size
  generalize wc = w7 at *
  have bW7 := bX3.new hc7
  have sW7 := sX3.new hc7
  have lt3 := hc7.size
  clear bA0 bB0 N0 bA3 bB3 N3 bX3 sX3 hc3 hc7
  have cW := bW7.cells
  have cG := bX7.cells
  go_wp2_with fail
  refine (eqSR ⟨c, rt, rp, rh, ri, rs, say, up, dn, ud⟩ g7 g3 _ _ _ sX7 sW7).mono ?_
  rintro e w9 ⟨rfl, hn9⟩
  have bA9 := bA7.new hn9
  have bB9 := bB7.new hn9
  have bW9 := bW7.new hn9
  have sW9 := sW7.new hn9
  have bG9 := bX7.new hn9
  have sG9 := sX7.new hn9
  have N9 := N7.trans hn9
  have k9 := hn9.size
  clear cW cG bA7 bB7 bW7 sW7 bX7 sX7 N7 hn9
  have cG := bG9.cells
  go_wp2_with fail
  refine (mkSR ⟨c, rt, rp, rh, ri, rs, say, up, dn, ud⟩ g7 _ _ sG9).mono ?_
  rintro e w10 ⟨rfl, hm10, ht10⟩
  rw [show mkN (Rs.say ⟨c, rt, rp, rh, ri, rs, say, up, dn, ud⟩) = N from hN.out]
  have k10 := ht10.size
  have bA10 := bA9.turn ht10 (by omega)
  have bB10 := bB9.turn ht10 (by omega)
  have bW10 := bW9.turn ht10 (by omega)
  have bG10 := bG9.turn ht10 (by omega)
  have sW10 := sW9.turn ht10 (by omega)
  have N10 := N9.before ht10 (fun i hi e => by omega)
  clear bA9 bB9 bW9 bG9 sW9 sG9 N9 ht10 cG
  have cG := bG10.cells
  go_wp2_with fail
  refine (hdSR ⟨c, rt, rp, rh, ri, rs, say, up, dn, ud⟩ g7 _ _ hm10).mono ?_
  rintro e w11 ⟨rfl, hn11⟩
  rw [show mkN (Rs.say ⟨c, rt, rp, rh, ri, rs, say, up, dn, ud⟩) = N from hN.out]
  have bA11 := bA10.new hn11
  have bB11 := bB10.new hn11
  have bW11 := bW10.new hn11
  have bG11 := bG10.new hn11
  have sW11 := sW10.new hn11
  have hm11 := hm10.new hn11
  have N11 := N10.trans hn11
  have k11 := hn11.size
  have sz11 : w.heap.size + 2 ≤ w11.heap.size := by omega
  clear bA10 bB10 bW10 bG10 sW10 hm10 N10 hn11 cG
  go_upto_region 13 with fail
  go_cut [9] from 35 to 39 (fun v wx => ∃ B g a, v = .pointer (some ⟨B, 0, none⟩) ∧ Blk wx B 36 #[.int .i64 c, .int .i64 rt, .int .i64 rp, .int .i64 rh, .int .i64 ri, .int .i64 rs, .slice a n n, .bool up, .bool dn, .bool ud] ∧ SayAt wx g (.slice a n n) say ∧ w11.heap.size ≤ B ∧ w11.heap.size ≤ g ∧ B ≠ g ∧ B < wx.heap.size ∧ g < wx.heap.size ∧ New w11 wx)
  case first =>
    have cA := bA11.cells
    have cB := bB11.cells
    have dA := bA11
    have dB := bB11
    have dN : New w11 w11 := New.refl _
    go_region_held3 (fun W => (∀ j, W.cell? ⟨w.heap.size, j, none⟩ = #[Value.int .i64 ca, .int .i64 ci, .int .i64 ch][j]?) ∧ (∀ j, W.cell? ⟨w.heap.size + 1, j, none⟩ = #[Value.int .i64 st, .int .i64 pe, .int .i64 ho, .int .i64 si, .int .i64 sp][j]?)) (exact ⟨by intro j; (try simp (disch := exact neA) only [cell_set5]); first | exact cA j | exact dA.cells j | exact (dA.alloc _).cells j, by intro j; (try simp (disch := exact neB) only [cell_set5]); first | exact cB j | exact dB.cells j | exact (dB.alloc _).cells j⟩)
      (first
        | (go_at_call 13; refine (toCfg_any ca ci ch _).mono ?_; rintro e wx ⟨rfl, h1⟩; (try simp only [New.drew_mark, New.alloc_mark] at h1); first | (have hM := And.right h1; have h1 := And.left h1; have dV := Blk.laid hM; have cV := dV.cells; have fV := dV.frees; have lV := dV.lt; have dL := dN.size; have neA := ne5a dL sz11; have neB := ne5b dL sz11; have dA := dA.new h1; have dB := dB.new h1; have dN := dN.trans h1; have dS := dN.size) | (have dA := dA.new h1; have dB := dB.new h1; have dN := dN.trans h1; have dS := dN.size; (try (have dV := dV.new h1; have cV := dV.cells; have fV := dV.frees; have lV := dV.lt))))
        | (go_at_call 10; refine (toSes_any st pe ho si sp _).mono ?_; rintro e wx ⟨rfl, h2⟩; (try simp only [New.drew_mark, New.alloc_mark] at h2); first | (have hM := And.right h2; have h2 := And.left h2; have dV := Blk.laid hM; have cV := dV.cells; have fV := dV.frees; have lV := dV.lt; have dL := dN.size; have neA := ne5a dL sz11; have neB := ne5b dL sz11; have dA := dA.new h2; have dB := dB.new h2; have dN := dN.trans h2; have dS := dN.size) | (have dA := dA.new h2; have dB := dB.new h2; have dN := dN.trans h2; have dS := dN.size; (try (have dV := dV.new h2; have cV := dV.cells; have fV := dV.frees; have lV := dV.lt))))
        | (go_at_call 25; refine (hI.out _).mono ?_; rintro e wx hx; obtain ⟨g, a, rfl, hg, hl, hs, h3⟩ := hx.opened hn; (try simp at hg); (try simp only [New.drew_mark, New.alloc_mark] at h3); first | (have hM := And.right h3; have h3 := And.left h3; have dV := Blk.laid hM; have cV := dV.cells; have fV := dV.frees; have lV := dV.lt; have dL := dN.size; have neA := ne5a dL sz11; have neB := ne5b dL sz11; have dA := dA.new h3; have dB := dB.new h3; have dN := dN.trans h3; have dS := dN.size; have neG := neg5' hg) | ((try have neG := neg5 lV hg); have dA := dA.new h3; have dB := dB.new h3; have dN := dN.trans h3; have dS := dN.size; (try (have dV := dV.new h3; have cV := dV.cells; have fV := dV.frees; have lV := dV.lt)))))
    all_goals
      go_wp2_with fail
      go_meet
      case rel =>
        first
        | (have hq := dV
           refine ⟨_, g, a, rfl, blk10 _ _ _ _ _ _ _ _ _ _ hq, ?_, dL, ?_, neG, ?_, ?_, ?_⟩
           · simp (disch := exact neG) only [SayAt.set5]; exact hs
           · omega
           · simp [World.setCell]; exact lV
           · simp [World.setCell]; exact hl
           · simp (disch := exact dL) only [New.set5]; exact dN)
        | (refine ⟨_, g, a, rfl, Blk.mk _ _ _ _ rfl, hs.new ((New.refl _).alloc _), dS, ?_, ?_, ?_, ?_, dN.alloc _⟩
           · omega
           · omega
           · simp
           · simp; omega)
  case rest =>
  obtain ⟨B15, g15, a15, rfl, bX15, sX15, lB15, lg15, ne15, ltB15, ltg15, hc15⟩ := hcut
  have bA15 := bA11.new hc15
  have bB15 := bB11.new hc15
  have N15 := N11.trans hc15
  have sz15 := Nat.le_trans sz11 hc15.size
  generalize wc = w15 at *
  have bW15 := bW11.new hc15
  have sW15 := sW11.new hc15
  have bG15 := bG11.new hc15
  have hm15 := hm11.new hc15
  clear bA11 bB11 bW11 bG11 sW11 hm11 N11 hc15
  have cW := bW15.cells
  have cH := bX15.cells
  go_wp2_with fail
  refine (eqSR ⟨c, rt, rp, rh, ri, rs, say, up, dn, ud⟩ g15 g3 _ _ _ sX15 sW15).mono ?_
  rintro e w16 ⟨rfl, hn16⟩
  have bG16 := bG15.new hn16
  have hm16 := hm15.new hn16
  have N16 := N15.trans hn16
  clear cW cH
  have cG := bG16.cells
  go_wp2_with fail
  refine (hdSR ⟨c, rt, rp, rh, ri, rs, say, up, dn, ud⟩ g7 _ _ hm16).mono ?_
  rintro e w17 ⟨rfl, hn17⟩
  rw [show mkN (Rs.say ⟨c, rt, rp, rh, ri, rs, say, up, dn, ud⟩) = N from hN.out]
  go_wp2
  go_ret
  exact ⟨rfl, N16.trans hn17⟩

set_option maxRecDepth 100000 in
theorem ats_lifted (os : Os) (started : os.Started) (H : Type) (enc : TypeId × Value → H) :
    ReturnsInHanded {} Try.checked os 8 .any (Rows.fnExactTickSessionSpec.pre6 enc Try.prog Try.f8 Rows.fnExactTickSessionRow.domain false) (Rows.fnExactTickSessionSpec.post enc Try.prog Try.f8 false true false false) := by
  refine returnsInHanded_of_change (C := Try.checked) own started (by kernel_rfl) Try.func8
    (ChangeSpec.witness6 (enc := enc) (C := Try.checked) false ⟨#[], #[.agg #[.int .i64 0, .int .i64 0, .int .i64 0], .agg #[.int .i64 0, .int .i64 0, .int .i64 0, .int .i64 0, .int .i64 0]], []⟩ 8 (by kernel_rfl) (by kernel_rfl) (by kernel_rfl) (by kernel_rfl)) ?_
  intro W base args ds gs before hval0 hW hcnd _
  have hval : ∀ (j : Nat) t v, Try.f8.params[j]? = some t → args[j]? = some v → Value.okWide Try.prog W .any base t v := hval0
  have hW' := hW
  obtain ⟨p, q, hA0, hV, rfl, hfz, hnd⟩ := hW
  have hA : DataW.TrodAll enc Try.prog W 0 (fun _ => true) true Try.f8.params.toList args.toList ds p := hA0
  rw [Try.params8] at hA hval
  obtain ⟨v0, vs0, d0, ds0, p0, q0, hargs, rfl, rfl, h0, r0⟩ := trodAll_cons hA
  obtain ⟨v1, vs1, d1, ds1, p1, q1, rfl, rfl, rfl, h1, r1⟩ := trodAll_cons r0
  obtain ⟨rfl, rfl, rfl⟩ := trodAll_nil r1
  obtain rfl : args = #[v0, v1] := by cases args; simp_all
  obtain ⟨rfl, rfl⟩ := trodVars_none hV
  have k0 := h0
  have lt0 : ∀ x ∈ p0, x.block < W.heap.size := by obtain ⟨m, hm⟩ := k0; exact DataW.trod_lt m _ _ _ hm
  obtain ⟨ca0, ci0, ch0, rfl, xa0, xi0, xh0⟩ := open_config (hval 0 29 v0 rfl rfl) h0
  have k1 := h1
  have lt1 : ∀ x ∈ p1, x.block < W.heap.size := by obtain ⟨m, hm⟩ := k1; exact DataW.trod_lt m _ _ _ hm
  obtain ⟨st1, pe1, sh1, sn1, sp1, rfl, wt1, wp1, wh1, wn1, ws1⟩ := open_session (hval 1 23 v1 rfl rfl) h1
  clear hA0 hval0
  refine (ats_walk ca0 ci0 ch0 st1 pe1 sh1 sn1 sp1  W).mono fun e W' ⟨he, new⟩ => ?_
  have bel := new.below
  subst he
  exact ⟨_, rfl, _, _, _, [], _, [], hW', trodAll_mk1 (shut_bool Try.underlying4 _), (trodAll_cons_mk (Below.trod laidOut (by kernel_rfl) (of_decide_eq_true (by kernel_rfl)) k0 bel lt0) (trodAll_cons_mk (Below.trod laidOut (by kernel_rfl) (of_decide_eq_true (by kernel_rfl)) k1 bel lt1) trodAll_mk0)), rfl, bel.frame _, fun h => by cases h⟩

theorem ats_holds : Rows.FnExactTickSessionSaid :=
  OpenClaim.holds_of_wide 8 Try.f8 rfl rfl rfl rfl rfl rfl rfl ⟨rfl, rfl, rfl, rfl, rfl⟩ rfl rfl rfl rfl rfl (by kernel_rfl) Try.func8 (by kernel_rfl)
    (of_decide_eq_true (by kernel_rfl)) (by unfold Func.isWrapper; first | (rw [if_pos (by decide +kernel)]; kernel_rfl) | (rw [if_neg (by decide +kernel)]; exact ⟨rfl, rfl⟩))
    (fun os started H enc _ => ats_lifted os started H enc)

end Go.Proofs.Ytjdnmgahdkphdaa
