/- What is proved here: for every list of routes and every prefix the law on BestFor returns true, and the list reads as it did. No condition. -/
import Derived.Test.YtkaaefieglhdlaaR7Ls
import Derived.Test.YtkaaefieglhdlaaH8Lw
import Derived.Test.YtkaaefieglhdlaaR7Held
import Derived.Deep.CutRange
import Derived.Deep.RegionHeld3
namespace Go.Proofs.Ytkaaefieglhdlaa
open Go.ChangeShapes Go.WideShapes Go.ChangeAt Go.RowKit Go.Sort
set_option linter.unusedVariables false

theorem blk2 {w : World} {B : Nat} {t : TypeId} {u0 u1 : Value} (v0 v1 : Value) (h : Blk w B t #[u0, u1]) : Blk ((w.setCell ⟨B, 0, none⟩ v0).setCell ⟨B, 1, none⟩ v1) B t #[v0, v1] := (h.set 0 v0).set 1 v1
theorem stored2 {wx : World} {lo B n c j1 j2 : Nat} {A : Option Addr} {V : List Rv} {v1 v2 : Value} (o : OwT wx lo wx.heap.size (.slice A n c) V) (hB : B < lo) : RtAt ((wx.setCell ⟨B, j1, none⟩ v1).setCell ⟨B, j2, none⟩ v2) A V :=
  (o.turn (((Turn.refl (fun k => k = B) wx).set (p := ⟨B, j1, none⟩) rfl v1).set (p := ⟨B, j2, none⟩) rfl v2) (fun k hk _ e => by omega)).rt.1
theorem cell_set7 {W : World} {B b j j' : Nat} {v : Value} (h : ¬ B = b) : (W.setCell ⟨B, j', none⟩ v).cell? ⟨b, j, none⟩ = W.cell? ⟨b, j, none⟩ := World.cell?_of_block (Below.heap_setCell W ⟨B, j', none⟩ v b (fun e => h e.symm))
theorem ne7 {a b c : Nat} (h : b ≤ c) (h' : a < b) : ¬ c = a := by omega

set_option maxHeartbeats 12800000 in
theorem abf_walk (a0 l0 : Int) (x : Option Addr) (n c : Nat) (V : List Rv) (w : World) (h : RtCame w x V) (hn : V.length = n) (hm : n ≤ maxLen) : Calls Try.prog 3 #[.slice x n c, .agg #[.int .i64 a0, .int .i64 l0]] w fun e w' => e = .returned (.bool true) ∧ New w w' := by
  have HN : Hid (V.length = n) := hn
  have NB : New w (w.alloc (.cells #[.int .i64 a0, .int .i64 l0] 24)) := (New.refl w).alloc _
  have bP := Blk.mk w w.heap.size 24 #[.int .i64 a0, .int .i64 l0] rfl
  go_enter Try.func3, Try.ntmps3
  go_wp2_with fail
  refine (szRts_any x n c V _ (h.new NB) hn hm).mono ?_
  rintro e w1 ⟨⟨zs, rfl, hzs⟩, hn1⟩
  have bP1 := bP.new hn1
  replace hn1 := NB.trans hn1
  have ltP := bP1.lt
  clear bP NB
  clear hn hm
  rcases hzs with rfl | ⟨hz0, hz1, hm', hall⟩
  · go_wp2
    go_ret
    exact ⟨rfl, hn1⟩
  have hR := h.rt hall
  clear h hall
  have Nw1 := hn1
  have bPw1 := bP1
  have ltPw1 := ltP
  go_upto_region 5 with fail
  go_cut [6] from 18 to 23 (fun u wx => ∃ B z3 p a l o xs nx md lc x3 d3, u = .pointer (some ⟨B, 0, none⟩) ∧ Blk wx B 33 #[.int .i64 z3, .int .i64 p, .int .i64 a, .int .i64 l, .int .i64 o, .slice x3 xs.length d3, .int .i64 nx, .int .i64 md, .int .i64 lc] ∧ BfA (V.map Rv.r) a0 l0 z3 ⟨p, a, l, o, xs, nx, md, lc⟩ ∧ NsAt wx x3 xs ∧ xs.length ≤ 1048576 ∧ New w1 wx)
  case first =>
    have dP := bPw1
    have dR := hR.new Nw1
    have dN : New w1 w1 := New.refl _
    go_region_held3 (fun W => ∀ j, W.cell? ⟨w.heap.size, j, none⟩ = #[Value.int .i64 a0, .int .i64 l0][j]?) (exact (by intro j; (try simp (disch := exact neP) only [cell_set7]); first | exact dP.cells j | exact (dP.alloc _).cells j))
      (first
        | (go_at_call 7; refine (toRts_any x n c V _ (by first | exact dR | exact dR.new ((New.refl _).drew) | exact dR.new ((New.refl _).alloc _) | exact dR.new (((New.refl _).alloc _).drew)) HN.out hm').mono ?_; rintro e wx ⟨g2, V2, rfl, hv2, o2, h1⟩; (try simp only [New.drew_mark7, New.alloc_mark7] at h1); (first | (have hM := And.right h1; have h1 := And.left h1; have dV := Blk.laid7 hM; have cV := dV.cells; have fV := dV.frees; have dL := dN.size; have neP := ne7 dL ltPw1; have dP := dP.new h1; have dR := dR.new h1; (try have r2 := r2.new h1); (try have o3 := o3.new h1); have dN := dN.trans h1) | (have dP := dP.new h1; have dR := dR.new h1; (try have r2 := r2.new h1); (try have o3 := o3.new h1); have dN := dN.trans h1; (try (have dV := dV.new h1; have cV := dV.cells; have fV := dV.frees)))); have r2 := o2.rt.1; have r2l := o2.rt.2)
        | (go_at_call 8; refine (toPrefix_any a0 l0 _).mono ?_; rintro e wx ⟨rfl, h1⟩; (try simp only [New.alloc_mark7] at h1); (first | (have hM := And.right h1; have h1 := And.left h1; have dV := Blk.laid7 hM; have cV := dV.cells; have fV := dV.frees; have dL := dN.size; have neP := ne7 dL ltPw1; have dP := dP.new h1; have dR := dR.new h1; (try have r2 := r2.new h1); (try have o3 := o3.new h1); have dN := dN.trans h1) | (have dP := dP.new h1; have dR := dR.new h1; (try have r2 := r2.new h1); (try have o3 := o3.new h1); have dN := dN.trans h1; (try (have dV := dV.new h1; have cV := dV.cells; have fV := dV.frees)))))
        | (go_at_call 6; (try have lV0 := dV.lt); refine (specBF a0 l0 _ n n V2 _ (by first | exact r2 | exact r2.new ((New.refl _).drew) | exact r2.new ((New.refl _).alloc _) | exact r2.new (((New.refl _).alloc _).drew)) r2l hm' (Nat.le_refl _)).mono ?_; rintro e wx ⟨z3, ⟨p, a, l, o, xs, nx, md, lc⟩, x3, d3, hb3, rfl, o3, q3, h1⟩; rw [hv2] at hb3; dsimp only at o3 q3; (try simp only [New.alloc_mark7] at h1); (first | (have hM := And.right h1; have h1 := And.left h1; have dV := Blk.laid7 hM; have cV := dV.cells; have fV := dV.frees; have dL := dN.size; have neP := ne7 dL ltPw1; have dP := dP.new h1; have dR := dR.new h1; (try have r2 := r2.new h1); (try have o3 := o3.new h1); have dN := dN.trans h1) | (have dP := dP.new h1; have dR := dR.new h1; (try have r2 := r2.new h1); (try have o3 := o3.new h1); have dN := dN.trans h1; (try (have dV := dV.new h1; have cV := dV.cells; have fV := dV.frees))))))
    all_goals
      go_wp2_with fail
      go_meet
      case rel =>
        first
        | (have hb := blk9 (v0 := .int .i64 z3) (v1 := .int .i64 p) (v2 := .int .i64 a) (v3 := .int .i64 l) (v4 := .int .i64 o) (v5 := .slice x3 xs.length d3) (v6 := .int .i64 nx) (v7 := .int .i64 md) (v8 := .int .i64 lc) dV
           refine ⟨_, z3, p, a, l, o, xs, nx, md, lc, x3, d3, rfl, hb, hb3, ?_, q3.2, ?_⟩
           · exact stored9 o3 q3.1 (by first | exact lV0 | (simp; done) | (simp; omega))
           · exact nine_new dN (nine9t _ _ _ _ _ _ _ _ _ _ _) dL)
        | exact ⟨_, z3, p, a, l, o, xs, nx, md, lc, x3, d3, rfl, Blk.mk _ _ _ _ rfl, hb3, (o3.new ((New.refl _).alloc _)).nsAt7 q3.1, q3.2, dN.alloc _⟩
  case rest =>
  obtain ⟨BS, z3, p, a, l, o, xs, nx, md, lc, x3, d3, rfl, bS, hb3, rS, lS, hc4⟩ := hcut
  have bP4 := bP1.new hc4
  have N4 := hn1.trans hc4
  clear hn1 hc4 Nw1 bPw1 ltPw1 bP1
  generalize wc = w4 at *
  go_wp2_with fail
  refine (toRts_any x n c V _ (hR.new N4) HN.out hm').mono ?_
  rintro e w5 ⟨g5, V5, rfl, hv5, ho5, hn5⟩
  have r5 := ho5.rt
  have cP := (bP4.new hn5).cells
  go_wp2_with fail
  refine (toPrefix_any a0 l0 _).mono ?_
  rintro e w5b ⟨rfl, h5b⟩
  go_wp2_with fail
  refine (implBF a0 l0 _ n n V5 _ (r5.1.new h5b) r5.2 hm').mono ?_
  rintro e w6 ⟨z6, ⟨p6, a6, l6, o6, xs6, nx6, md6, lc6⟩, x6, d6, hb6, rfl, ho6, q6, hn6⟩
  dsimp only at ho6 q6 ⊢
  rw [hv5] at hb6
  obtain ⟨rfl, he6⟩ := hb3.det hb6
  simp only [Rt.mk.injEq] at he6
  obtain ⟨rfl, rfl, rfl, rfl, rfl, rfl, rfl, rfl⟩ := he6
  have l5b := h5b.size
  replace hn6 := h5b.trans hn6
  clear cP
  go_upto_region 8 with fail
  have hal : New w6 (w6.alloc (.cells #[.int .i64 z3, .int .i64 p, .int .i64 a, .int .i64 l, .int .i64 o, .slice x6 xs.length d6, .int .i64 nx, .int .i64 md, .int .i64 lc] 33)) := (New.refl w6).alloc _
  have bG := Blk.mk w6 w6.heap.size 33 #[.int .i64 z3, .int .i64 p, .int .i64 a, .int .i64 l, .int .i64 o, .slice x6 xs.length d6, .int .i64 nx, .int .i64 md, .int .i64 lc] rfl
  have oG := ho6.new hal
  have HRG : Hid (∀ k, (Value.slice x6 xs.length d6).ownBlock = some k → k < w6.heap.size) := fun k hk => (ho6.rng7 k hk).2
  have oX := (ho5.new hn6).new hal
  have NS := (hn5.trans hn6).trans hal
  have l56 := hn5.size
  have l67 := hn6.size
  have l78 := hal.size
  clear ho5 r5 ho6 hn5 hn6 hal
  generalize w6.alloc (.cells #[.int .i64 z3, .int .i64 p, .int .i64 a, .int .i64 l, .int .i64 o, .slice x6 xs.length d6, .int .i64 nx, .int .i64 md, .int .i64 lc] 33) = w7 at *
  have cS := (bS.new NS).cells
  have cG := bG.cells
  go_wp2_with fail
  refine (eqBR z3 p a l o nx md lc x6 x3 d6 d3 xs _ (oG.nsAt7 q6.1) (rS.new NS) lS).mono ?_
  rintro e w8 ⟨rfl, h8⟩
  have bG := bG.new h8
  have oG := oG.new h8
  have oX := oX.new h8
  have NS := NS.trans h8
  clear cS cG h8
  go_wp2_with fail
  refine (toRts_any x n c V _ (hR.new (N4.trans NS)) HN.out hm').mono ?_
  rintro e w9 ⟨g9, V9, rfl, hv9, ho9, hn9⟩
  have oX := oX.new hn9
  go_wp2_with fail
  refine (eqRts_any _ _ n n n V5 V9 _ oX.rt.1 ho9.rt.1 (by rw [hv5, hv9]) oX.rt.2 hm').mono ?_
  rintro e w10 ⟨rfl, h10⟩
  have bG := (bG.new hn9).new h10
  have oG := (oG.new hn9).new h10
  have oX := oX.new h10
  have NS := (NS.trans hn9).trans h10
  clear ho9 hv9 hn9 h10
  go_wp2_with fail
  refine (markRts_any _ n n _ _ 1 V5 _ oX hm' (by omega) (by omega)).mono ?_
  rintro e w11 ⟨rfl, -, t11⟩
  have bG := bG.turn t11 (by omega)
  have oG := oG.turn7 t11 (fun k hk e => by have := oG.rng7 k hk; omega)
  have NS := NS.before t11 (by intro i hi e; omega)
  have hk5 := (endT_bd V5 1 (fun v hv => (oX.path.bd v hv).2)).1
  clear oX t11
  generalize endT 1 V5 = k5 at *
  have cS := (bS.new NS).cells
  have cG := bG.cells
  go_wp2_with fail
  refine (eqBR z3 p a l o nx md lc x6 x3 d6 d3 xs _ (oG.nsAt7 q6.1) (rS.new NS) lS).mono ?_
  rintro e w12 ⟨rfl, h12⟩
  have bG := bG.new h12
  have oG := oG.new h12
  have NS := NS.trans h12
  clear cS cG h12
  have cG := bG.cells
  have hGl : w4.heap.size ≤ w5.heap.size := l56
  go_wp2_with fail
  refine (markBR z3 p a l o nx md lc _ x6 d6 xs 1 _ oG lS (by omega) (by omega)).mono ?_
  rintro e w13 ⟨rfl, oM, t13⟩
  have hmk := mkN7_in 1 xs.length (by omega) (by omega) lS
  have bG := bG.turn t13 (fun e => by have := HRG.out _ e; omega)
  have NS := NS.before t13 (fun i hi e => by have := oG.rng7 _ e; omega)
  clear oG t13 cG
  have cG := bG.cells
  go_wp2_with fail
  refine (heldBR z3 p a l o nx md lc x6 d6 xs 1 _ (oM.nsAt7 hmk) lS (by omega) (by omega)).mono ?_
  rintro e w14 ⟨rfl, h14⟩
  have bG := bG.new h14
  have oM := oM.new h14
  have NS := NS.trans h14
  have hee : ((1 : Int) + (xs.length : Int) != 1 + (xs.length : Int)) = false := by simp
  clear h14 cG
  have Nw14 := N4.trans NS
  have bPw14 := bP4.new NS
  have ltPw14 := bPw14.lt
  go_upto_region 24 with fail
  go_cut [12] from 60 to 65 (fun u wx => ∃ B z3 p a l o xs nx md lc x3 d3, u = .pointer (some ⟨B, 0, none⟩) ∧ Blk wx B 33 #[.int .i64 z3, .int .i64 p, .int .i64 a, .int .i64 l, .int .i64 o, .slice x3 xs.length d3, .int .i64 nx, .int .i64 md, .int .i64 lc] ∧ BfA (V.map Rv.r) a0 l0 z3 ⟨p, a, l, o, xs, nx, md, lc⟩ ∧ NsAt wx x3 xs ∧ xs.length ≤ 1048576 ∧ New w14 wx)
  case first =>
    have dP := bPw14
    have dR := hR.new Nw14
    have dN : New w14 w14 := New.refl _
    go_region_held3 (fun W => ∀ j, W.cell? ⟨w.heap.size, j, none⟩ = #[Value.int .i64 a0, .int .i64 l0][j]?) (exact (by intro j; (try simp (disch := exact neP) only [cell_set7]); first | exact dP.cells j | exact (dP.alloc _).cells j))
      (first
        | (go_at_call 7; refine (toRts_any x n c V _ (by first | exact dR | exact dR.new ((New.refl _).drew) | exact dR.new ((New.refl _).alloc _) | exact dR.new (((New.refl _).alloc _).drew)) HN.out hm').mono ?_; rintro e wx ⟨g2, V2, rfl, hv2, o2, h1⟩; (try simp only [New.drew_mark7, New.alloc_mark7] at h1); (first | (have hM := And.right h1; have h1 := And.left h1; have dV := Blk.laid7 hM; have cV := dV.cells; have fV := dV.frees; have dL := dN.size; have neP := ne7 dL ltPw14; have dP := dP.new h1; have dR := dR.new h1; (try have r2 := r2.new h1); (try have o3 := o3.new h1); have dN := dN.trans h1) | (have dP := dP.new h1; have dR := dR.new h1; (try have r2 := r2.new h1); (try have o3 := o3.new h1); have dN := dN.trans h1; (try (have dV := dV.new h1; have cV := dV.cells; have fV := dV.frees)))); have r2 := o2.rt.1; have r2l := o2.rt.2)
        | (go_at_call 8; refine (toPrefix_any a0 l0 _).mono ?_; rintro e wx ⟨rfl, h1⟩; (try simp only [New.alloc_mark7] at h1); (first | (have hM := And.right h1; have h1 := And.left h1; have dV := Blk.laid7 hM; have cV := dV.cells; have fV := dV.frees; have dL := dN.size; have neP := ne7 dL ltPw14; have dP := dP.new h1; have dR := dR.new h1; (try have r2 := r2.new h1); (try have o3 := o3.new h1); have dN := dN.trans h1) | (have dP := dP.new h1; have dR := dR.new h1; (try have r2 := r2.new h1); (try have o3 := o3.new h1); have dN := dN.trans h1; (try (have dV := dV.new h1; have cV := dV.cells; have fV := dV.frees)))))
        | (go_at_call 9; (try have lV0 := dV.lt); refine (implBF a0 l0 _ n n V2 _ (by first | exact r2 | exact r2.new ((New.refl _).drew) | exact r2.new ((New.refl _).alloc _) | exact r2.new (((New.refl _).alloc _).drew)) r2l hm').mono ?_; rintro e wx ⟨z3, ⟨p, a, l, o, xs, nx, md, lc⟩, x3, d3, hb3, rfl, o3, q3, h1⟩; rw [hv2] at hb3; dsimp only at o3 q3; (try simp only [New.alloc_mark7] at h1); (first | (have hM := And.right h1; have h1 := And.left h1; have dV := Blk.laid7 hM; have cV := dV.cells; have fV := dV.frees; have dL := dN.size; have neP := ne7 dL ltPw14; have dP := dP.new h1; have dR := dR.new h1; (try have r2 := r2.new h1); (try have o3 := o3.new h1); have dN := dN.trans h1) | (have dP := dP.new h1; have dR := dR.new h1; (try have r2 := r2.new h1); (try have o3 := o3.new h1); have dN := dN.trans h1; (try (have dV := dV.new h1; have cV := dV.cells; have fV := dV.frees))))))
    all_goals
      go_wp2_with fail
      go_meet
      case rel =>
        first
        | (have hb := blk9 (v0 := .int .i64 z3) (v1 := .int .i64 p) (v2 := .int .i64 a) (v3 := .int .i64 l) (v4 := .int .i64 o) (v5 := .slice x3 xs.length d3) (v6 := .int .i64 nx) (v7 := .int .i64 md) (v8 := .int .i64 lc) dV
           refine ⟨_, z3, p, a, l, o, xs, nx, md, lc, x3, d3, rfl, hb, hb3, ?_, q3.2, ?_⟩
           · exact stored9 o3 q3.1 (by first | exact lV0 | (simp; done) | (simp; omega))
           · exact nine_new dN (nine9t _ _ _ _ _ _ _ _ _ _ _) dL)
        | exact ⟨_, z3, p, a, l, o, xs, nx, md, lc, x3, d3, rfl, Blk.mk _ _ _ _ rfl, hb3, (o3.new ((New.refl _).alloc _)).nsAt7 q3.1, q3.2, dN.alloc _⟩
  case rest =>
  obtain ⟨BH, z16, p16, a16, l16, o16, xs16, nx16, md16, lc16, x16, d16, rfl, bH, hb16, rH, lH, hx⟩ := hcut
  obtain ⟨rfl, he16⟩ := hb3.det hb16
  simp only [Rt.mk.injEq] at he16
  obtain ⟨rfl, rfl, rfl, rfl, rfl, rfl, rfl, rfl⟩ := he16
  have bG := bG.new hx
  have oM := oM.new hx
  have NS := NS.trans hx
  clear Nw14 bPw14 ltPw14 hx
  generalize wc = w17 at *
  have cS := (bS.new NS).cells
  have cH := bH.cells
  go_wp2_with fail
  refine (eqBR z3 p a l o nx md lc x16 x3 d16 d3 xs _ rH (rS.new NS) lS).mono ?_
  rintro e w18 ⟨rfl, h18⟩
  have bG := bG.new h18
  have oM := oM.new h18
  have NS := NS.trans h18
  clear cS cH h18
  have cG := bG.cells
  go_wp2_with fail
  refine (heldBR z3 p a l o nx md lc x6 d6 xs 1 _ (oM.nsAt7 hmk) lS (by omega) (by omega)).mono ?_
  rintro e w19 ⟨rfl, h19⟩
  go_wp2
  go_ret
  exact ⟨rfl, N4.trans (NS.trans h19)⟩


set_option maxRecDepth 100000 in
theorem abf_lifted (os : Os) (started : os.Started) (H : Type) (enc : TypeId × Value → H) :
    ReturnsInHanded {} Try.checked os 3 .any (Rows.fnExactBestForSpec.pre6 enc Try.prog Try.f3 Rows.fnExactBestForRow.domain false) (Rows.fnExactBestForSpec.post enc Try.prog Try.f3 false true false false) := by
  refine returnsInHanded_of_change (C := Try.checked) own started (by kernel_rfl) Try.func3
    (ChangeSpec.witness6 (enc := enc) (C := Try.checked) false ⟨#[], #[.slice none 0 0, .agg #[.int .i64 0, .int .i64 0]], []⟩ 8 (by kernel_rfl) (by kernel_rfl) (by kernel_rfl) (by kernel_rfl)) ?_
  intro W base args ds gs before hval0 hW hcnd _
  have hval : ∀ (j : Nat) t v, Try.f3.params[j]? = some t → args[j]? = some v → Value.okWide Try.prog W .any base t v := hval0
  have hW' := hW
  obtain ⟨p, q, hA0, hV, rfl, hfz, hnd⟩ := hW
  have hA : DataW.TrodAll enc Try.prog W 0 (fun _ => true) true Try.f3.params.toList args.toList ds p := hA0
  rw [Try.params3] at hA hval
  obtain ⟨v0, vs0, d0, ds0, p0, q0, hargs, rfl, rfl, h0, r0⟩ := trodAll_cons hA
  obtain ⟨v1, vs1, d1, ds1, p1, q1, rfl, rfl, rfl, h1, r1⟩ := trodAll_cons r0
  obtain ⟨rfl, rfl, rfl⟩ := trodAll_nil r1
  obtain rfl : args = #[v0, v1] := by cases args; simp_all
  obtain ⟨rfl, rfl⟩ := trodVars_none hV
  have k0 := h0
  have lt0 : ∀ x ∈ p0, x.block < W.heap.size := by obtain ⟨m, hm⟩ := k0; exact DataW.trod_lt m _ _ _ hm
  obtain ⟨a0, len0, cap0, rfl⟩ := okWide_slice Try.underlying22 (hval 0 22 v0 rfl rfl)
  obtain ⟨z0, b0, e0, m0⟩ := open_routes h0
  have k2 := h1
  have lt2 : ∀ x ∈ p1, x.block < W.heap.size := by obtain ⟨m, hm⟩ := k2; exact DataW.trod_lt m _ _ _ hm
  obtain ⟨a2, l2, rfl, wa2, wl2⟩ := open_prefix (hval 1 24 v1 rfl rfl) h1
  clear hA0 hval0
  refine (abf_walk a2 l2 a0 len0 cap0 z0 W b0 e0 m0).mono fun e W' ⟨he, new⟩ => ?_
  have bel := new.below
  subst he
  exact ⟨_, rfl, _, _, _, [], _, [], hW', trodAll_mk1 (shut_bool Try.underlying4 _), (trodAll_cons_mk (Below.trod laidOut (by kernel_rfl) (of_decide_eq_true (by kernel_rfl)) k0 bel lt0) ((trodAll_cons_mk (Below.trod laidOut (by kernel_rfl) (of_decide_eq_true (by kernel_rfl)) k2 bel lt2) trodAll_mk0))), rfl, bel.frame _, fun h => by cases h⟩

theorem abf_holds : Rows.FnExactBestForSaid :=
  OpenClaim.holds_of_wide 3 Try.f3 rfl rfl rfl rfl rfl rfl rfl ⟨rfl, rfl, rfl, rfl, rfl⟩ rfl rfl rfl rfl rfl (by kernel_rfl) Try.func3 (by kernel_rfl)
    (of_decide_eq_true (by kernel_rfl)) (by unfold Func.isWrapper; first | (rw [if_pos (by decide +kernel)]; kernel_rfl) | (rw [if_neg (by decide +kernel)]; exact ⟨rfl, rfl⟩))
    (fun os started H enc _ => abf_lifted os started H enc)

end Go.Proofs.Ytkaaefieglhdlaa
