/- What is proved here: for every list of routes and every route the law on PutRoute returns true, and they read as they did. No condition. -/
import Derived.Test.YtcbcegmmhiclhaaR7Ls
import Derived.Test.YtcbcegmmhiclhaaR7Ps
import Derived.Test.YtcbcegmmhiclhaaR7Held
import Derived.Deep.CutRange
import Derived.Deep.RegionHeld3
namespace Go.Proofs.Ytcbcegmmhiclhaa
open Go.ChangeShapes Go.WideShapes Go.ChangeAt Go.RowKit Go.Sort
set_option linter.unusedVariables false

theorem blk2 {w : World} {B : Nat} {t : TypeId} {u0 u1 : Value} (v0 v1 : Value) (h : Blk w B t #[u0, u1]) : Blk ((w.setCell ⟨B, 0, none⟩ v0).setCell ⟨B, 1, none⟩ v1) B t #[v0, v1] := (h.set 0 v0).set 1 v1
theorem stored2 {wx : World} {lo B n c j1 j2 : Nat} {A : Option Addr} {V : List Rv} {v1 v2 : Value} (o : OwT wx lo wx.heap.size (.slice A n c) V) (hB : B < lo) : RtAt ((wx.setCell ⟨B, j1, none⟩ v1).setCell ⟨B, j2, none⟩ v2) A V :=
  (o.turn (((Turn.refl (fun k => k = B) wx).set (p := ⟨B, j1, none⟩) rfl v1).set (p := ⟨B, j2, none⟩) rfl v2) (fun k hk _ e => by omega)).rt.1
theorem cell_set7 {W : World} {B b j j' : Nat} {v : Value} (h : ¬ B = b) : (W.setCell ⟨B, j', none⟩ v).cell? ⟨b, j, none⟩ = W.cell? ⟨b, j, none⟩ := World.cell?_of_block (Below.heap_setCell W ⟨B, j', none⟩ v b (fun e => h e.symm))
theorem ne7 {a b c : Nat} (h : b ≤ c) (h' : a < b) : ¬ c = a := by omega

theorem markRt7 (p a l o nx md lc : Int) (x : Option Addr) (n c : Nat) (lo : Nat) (xs : List Int) (s : Int) (w : World) (h : OvN w lo (.slice x n c) xs) (hn : xs.length = n) (hm : n ≤ 1048576) (hs0 : 0 ≤ s) (hs1 : s ≤ 1125899906842624) :
    Calls Try.prog 29 #[.agg #[.int .i64 p, .int .i64 a, .int .i64 l, .int .i64 o, .slice x n c, .int .i64 nx, .int .i64 md, .int .i64 lc], .int .i64 s] w fun e w' => e = .returned (.int .i64 (s + (n : Int))) ∧ Turn (fun j => (Value.slice x n c).ownBlock = some j) w w' := by
  have hw := (New.refl w).alloc (.cells #[.int .i64 p, .int .i64 a, .int .i64 l, .int .i64 o, .slice x n c, .int .i64 nx, .int .i64 md, .int .i64 lc] 51)
  have cA := (Blk.mk w _ 51 #[.int .i64 p, .int .i64 a, .int .i64 l, .int .i64 o, .slice x n c, .int .i64 nx, .int .i64 md, .int .i64 lc] rfl).cells
  go_enter Try.func29, Try.ntmps29
  go_upto_region 1 with fail
  generalize w.alloc (.cells #[.int .i64 p, .int .i64 a, .int .i64 l, .int .i64 o, .slice x n c, .int .i64 nx, .int .i64 md, .int .i64 lc] 51) = w0 at *
  have hat : Calls Try.prog 55 #[.agg #[.int .i64 o, .slice x n c, .int .i64 nx, .int .i64 md, .int .i64 lc], .int .i64 s] w0 fun e w' => e = .returned (.int .i64 (s + (n : Int))) ∧ Turn (fun j => (Value.slice x n c).ownBlock = some j) w0 w' := by
    have hw1 := (New.refl w0).alloc (.cells #[.int .i64 o, .slice x n c, .int .i64 nx, .int .i64 md, .int .i64 lc] 49)
    have h0 := (h.new hw).new hw1
    clear cA
    go_enter Try.func55, Try.ntmps55
    go_wp2_with fail
    refine (markOv7 lo x n c xs s _ h0 hn hm hs0 hs1).mono ?_
    rintro e w2 ⟨rfl, -, ht⟩
    go_wp2
    go_ret
    exact ⟨rfl, Turn.trans hw1.turn ht (fun i _ e => e)⟩
  go_wp2_with fail
  refine hat.mono ?_
  rintro e w1 ⟨rfl, ht⟩
  go_wp2
  go_ret
  exact ⟨rfl, Turn.trans hw.turn ht (fun i _ e => e)⟩

theorem markRt7_is (p a l o nx md lc : Int) (x : Option Addr) (n c : Nat) (lo : Nat) (xs : List Int) (s s2 : Int) (w : World) (h : OvN w lo (.slice x n c) xs) (hn : xs.length = n) (hm : n ≤ 1048576) (hs0 : 0 ≤ s) (hs1 : s ≤ 1125899906842624) (h2 : s + (n : Int) = s2) :
    Calls Try.prog 29 #[.agg #[.int .i64 p, .int .i64 a, .int .i64 l, .int .i64 o, .slice x n c, .int .i64 nx, .int .i64 md, .int .i64 lc], .int .i64 s] w fun e w' => e = .returned (.int .i64 s2) ∧ Turn (fun j => (Value.slice x n c).ownBlock = some j) w w' := h2 ▸ markRt7 p a l o nx md lc x n c lo xs s w h hn hm hs0 hs1

theorem ptC_few {R : List Rt} {r : Rt} (h : ptC R r = 0) : (R.filter (keepE r.p r.a r.l)).length < 60 := by
  unfold ptC at h
  by_cases h1 : ribF R = 0
  · rw [if_pos h1] at h
    by_cases h2 : r.f = 0
    · rw [if_pos h2] at h
      by_cases h3 : 60 ≤ (R.filter (keepE r.p r.a r.l)).length
      · rw [if_pos h3] at h
        omega
      · omega
    · rw [if_neg h2] at h
      exact absurd h h2
  · rw [if_neg h1] at h
    exact absurd h h1
theorem ptR_len (R : List Rt) (r : Rt) : (ptR R r).length ≤ 60 := by
  unfold ptR
  split
  · rename_i hc
    have h1 := ptC_few hc
    have h2 := tw_le (fun s => s.lt r) (R.filter (keepE r.p r.a r.l))
    unfold insR
    simp
    omega
  · simp

set_option maxRecDepth 100000 in
set_option maxHeartbeats 12800000 in
theorem apr_walk (A : Option Addr) (N cc : Nat) (V : List Rv) (p a l o nx md lc : Int) (x : Option Addr) (n c : Nat) (xs : List Int) (w : World) (h : RtCame w A V) (hn : V.length = N) (hm : N ≤ maxLen) (hx : NsAt w x xs) (hxn : xs.length = n) (hxm : n ≤ maxLen) (hxl : x = none → n = 0 ∧ c = 0) : Calls Try.prog 7 #[.slice A N cc, .agg #[.int .i64 p, .int .i64 a, .int .i64 l, .int .i64 o, .slice x n c, .int .i64 nx, .int .i64 md, .int .i64 lc]] w fun e w' => e = .returned (.bool true) ∧ New w w' := by
  have HN : Hid (V.length = N) := hn
  have HX : Hid (xs.length = n) := hxn
  have hbd : Hid (∀ z ∈ xs, In6 z) := hx.bd
  have NB : New w (w.alloc (.cells #[.int .i64 p, .int .i64 a, .int .i64 l, .int .i64 o, .slice x n c, .int .i64 nx, .int .i64 md, .int .i64 lc] 46)) := (New.refl w).alloc _
  have bP := Blk.mk w w.heap.size 46 #[.int .i64 p, .int .i64 a, .int .i64 l, .int .i64 o, .slice x n c, .int .i64 nx, .int .i64 md, .int .i64 lc] rfl
  go_enter Try.func7, Try.ntmps7
  go_wp2_with fail
  refine (szRts_any A N cc V _ (h.new NB) hn hm).mono ?_
  rintro e w1 ⟨⟨zs, rfl, hzs⟩, hn1⟩
  have bP1 := bP.new hn1
  replace hn1 := NB.trans hn1
  clear bP NB hn hm hxn
  rcases hzs with rfl | ⟨hz0, hz1, hm', hall⟩
  · go_wp2
    go_ret
    exact ⟨rfl, hn1⟩
  have cP := bP1.cells
  by_cases hbig : zs < (n : Int)
  · go_wp2_with fail
    refine (szRt_bigZ p a l o nx md lc x n c zs _ hz0 hz1 hxm hbig).mono ?_
    rintro e w2 ⟨rfl, hn2⟩
    go_wp2
    go_ret
    exact ⟨rfl, hn1.trans hn2⟩
  go_wp2_with fail
  refine (szRt_okZ p a l o nx md lc x n c zs _ hz0 hz1 (by omega)).mono ?_
  rintro e w2 ⟨rfl, hn2⟩
  have bPw2 := bP1.new hn2
  have Nw2 := hn1.trans hn2
  have ltPw2 := bPw2.lt
  have hxm' : n ≤ 1048576 := by omega
  have hR := h.rt hall
  obtain ⟨z, hz⟩ : ∃ z, Hid (ptC (V.map Rv.r) (Rt.mk p a l o xs nx md lc) = z) := ⟨_, rfl⟩
  obtain ⟨S, hS⟩ : ∃ S, Hid (ptR (V.map Rv.r) (Rt.mk p a l o xs nx md lc) = S) := ⟨_, rfl⟩
  have HSl : Hid (S.length ≤ 60) := by
    show S.length ≤ 60
    rw [← hS.out]
    exact ptR_len (V.map Rv.r) (Rt.mk p a l o xs nx md lc)
  clear h hall cP bP1 hn1 hn2 hxm
  go_upto_region 8 with fail
  go_cut [6] from 24 to 28 (fun u wx => ∃ B A3 n3 c3 V3, u = .pointer (some ⟨B, 0, none⟩) ∧ Blk wx B 32 #[.int .i64 z, .slice A3 n3 c3] ∧ V3.map Rv.r = S ∧ V3.length = n3 ∧ RtAt wx A3 V3 ∧ New w2 wx)
  case first =>
    have dP := bPw2
    have dR := hR.new Nw2
    have dx := hx.new Nw2
    have dN : New w2 w2 := New.refl _
    go_region_held3 (fun W => ∀ j, W.cell? ⟨w.heap.size, j, none⟩ = #[Value.int .i64 p, .int .i64 a, .int .i64 l, .int .i64 o, .slice x n c, .int .i64 nx, .int .i64 md, .int .i64 lc][j]?) (exact (by intro j; (try simp (disch := exact neP) only [cell_set7]); first | exact dP.cells j | exact (dP.alloc _).cells j))
      (first
        | (go_at_call 10; refine (toRts_any A N cc V _ (by first | exact dR | exact dR.new ((New.refl _).drew) | exact dR.new ((New.refl _).alloc _) | exact dR.new (((New.refl _).alloc _).drew)) HN.out hm').mono ?_; rintro e wx ⟨g2, V2, rfl, hv2, o2, h1⟩; (try simp only [New.drew_mark7, New.alloc_mark7] at h1); (first | (have hM := And.right h1; have h1 := And.left h1; have dV := Blk.laid7 hM; have cV := dV.cells; have fV := dV.frees; have dL := dN.size; have neP := ne7 dL ltPw2; have dP := dP.new h1; have dR := dR.new h1; have dx := dx.new h1; (try have r2 := r2.new h1); (try have rx := rx.new h1); (try have o3 := o3.new h1); have dN := dN.trans h1) | (have dP := dP.new h1; have dR := dR.new h1; have dx := dx.new h1; (try have r2 := r2.new h1); (try have rx := rx.new h1); (try have o3 := o3.new h1); have dN := dN.trans h1; (try (have dV := dV.new h1; have cV := dV.cells; have fV := dV.frees)))); have r2 := o2.rt.1; have r2l := o2.rt.2)
        | (go_at_call 24; refine (toRt_any p a l o nx md lc x n c xs _ (by first | exact dx | exact dx.new ((New.refl _).drew) | exact dx.new ((New.refl _).alloc _) | exact dx.new (((New.refl _).alloc _).drew)) HX.out hxm').mono ?_; rintro e wx ⟨gx, rfl, hgx, ox, h1⟩; (try simp only [New.alloc_mark7] at h1); (first | (have hM := And.right h1; have h1 := And.left h1; have dV := Blk.laid7 hM; have cV := dV.cells; have fV := dV.frees; have dL := dN.size; have neP := ne7 dL ltPw2; have dP := dP.new h1; have dR := dR.new h1; have dx := dx.new h1; (try have r2 := r2.new h1); (try have rx := rx.new h1); (try have o3 := o3.new h1); have dN := dN.trans h1) | (have dP := dP.new h1; have dR := dR.new h1; have dx := dx.new h1; (try have r2 := r2.new h1); (try have rx := rx.new h1); (try have o3 := o3.new h1); have dN := dN.trans h1; (try (have dV := dV.new h1; have cV := dV.cells; have fV := dV.frees)))); have rx := ox.ns hbd.out)
        | (go_at_call 27; (try have lV0 := dV.lt); refine (specPT p a l o nx md lc _ n n xs _ N N V2 z S _ (by first | exact r2 | exact r2.new ((New.refl _).drew) | exact r2.new ((New.refl _).alloc _) | exact r2.new (((New.refl _).alloc _).drew)) r2l hm' (by first | exact rx | exact rx.new ((New.refl _).drew) | exact rx.new ((New.refl _).alloc _) | exact rx.new (((New.refl _).alloc _).drew)) HX.out hxm' (by intro e; cases e) (by rw [hv2]; exact hz.out) (by rw [hv2]; exact hS.out)).mono ?_; rintro e wx ⟨A3, n3, c3, V3, rfl, hv3, hl3, o3, h1⟩; (try simp only [New.alloc_mark7] at h1); (first | (have hM := And.right h1; have h1 := And.left h1; have dV := Blk.laid7 hM; have cV := dV.cells; have fV := dV.frees; have dL := dN.size; have neP := ne7 dL ltPw2; have dP := dP.new h1; have dR := dR.new h1; have dx := dx.new h1; (try have r2 := r2.new h1); (try have rx := rx.new h1); (try have o3 := o3.new h1); have dN := dN.trans h1) | (have dP := dP.new h1; have dR := dR.new h1; have dx := dx.new h1; (try have r2 := r2.new h1); (try have rx := rx.new h1); (try have o3 := o3.new h1); have dN := dN.trans h1; (try (have dV := dV.new h1; have cV := dV.cells; have fV := dV.frees))))))
    all_goals
      go_wp2_with fail
      go_meet
      case rel =>
        first
        | exact ⟨_, A3, n3, c3, V3, rfl, blk2 _ _ dV, hv3, hl3, stored2 o3 (by first | exact lV0 | (simp; done) | (simp; omega)), (dN.setCell dL _).setCell dL _⟩
        | exact ⟨_, A3, n3, c3, V3, rfl, Blk.mk _ _ _ _ rfl, hv3, hl3, (o3.new ((New.refl _).alloc _)).rt.1, dN.alloc _⟩
  case rest =>
  obtain ⟨BS, A3, n3, c3, V3, rfl, bS, hv3, hl3, rS, hc4⟩ := hcut
  have bP4 := bPw2.new hc4
  have N4 := Nw2.trans hc4
  clear hc4 Nw2 bPw2 ltPw2
  generalize wc = w4 at *
  go_wp2_with fail
  refine (toRts_any A N cc V _ (hR.new N4) HN.out hm').mono ?_
  rintro e w5 ⟨g5, V5, rfl, hv5, ho5, hn5⟩
  have cP := (bP4.new hn5).cells
  go_wp2_with fail
  refine (toRt_any p a l o nx md lc x n c xs _ ((hx.new N4).new hn5) HX.out hxm').mono ?_
  rintro e w5b ⟨gx, rfl, hgx, ox, h5b⟩
  go_upto_region 11 with fail
  have hal : New w5b (w5b.alloc (.cells #[.int .i64 p, .int .i64 a, .int .i64 l, .int .i64 o, .slice (some ⟨gx, 0, none⟩) n n, .int .i64 nx, .int .i64 md, .int .i64 lc] 51)) := (New.refl w5b).alloc _
  have bX := Blk.mk w5b w5b.heap.size 51 #[.int .i64 p, .int .i64 a, .int .i64 l, .int .i64 o, .slice (some ⟨gx, 0, none⟩) n n, .int .i64 nx, .int .i64 md, .int .i64 lc] rfl
  have oxv := ox.ov7.new hal
  have oxn := (ox.ns hbd.out).new hal
  have oX := (ho5.new h5b).new hal
  have NS := (hn5.trans h5b).trans hal
  have l45 := hn5.size
  have l5b := h5b.size
  have lgx := ox.lt
  have l5c : w5b.heap.size < (w5b.alloc (.cells #[.int .i64 p, .int .i64 a, .int .i64 l, .int .i64 o, .slice (some ⟨gx, 0, none⟩) n n, .int .i64 nx, .int .i64 md, .int .i64 lc] 51)).heap.size := by simp
  clear ho5 hn5 h5b hal ox cP
  generalize w5b.alloc (.cells #[.int .i64 p, .int .i64 a, .int .i64 l, .int .i64 o, .slice (some ⟨gx, 0, none⟩) n n, .int .i64 nx, .int .i64 md, .int .i64 lc] 51) = w5c at *
  have r5 := oX.rt
  have cX := bX.cells
  go_wp2_with fail
  refine (implPT p a l o nx md lc (some ⟨gx, 0, none⟩) n n xs _ N N V5 z S _ r5.1 r5.2 hm' oxn HX.out hxm' (by intro e; cases e) (by rw [hv5]; exact hz.out) (by rw [hv5]; exact hS.out)).mono ?_
  rintro e w6 ⟨A6, n6, c6, V6, rfl, hv6, hl6, ho6, hn6⟩
  go_upto_region 12 with fail
  have hal : New w6 (w6.alloc (.cells #[.int .i64 z, .slice A6 n6 c6] 32)) := (New.refl w6).alloc _
  have bG := Blk.mk w6 w6.heap.size 32 #[.int .i64 z, .slice A6 n6 c6] rfl
  have oG := ho6.new hal
  have hx6 := hn6.trans hal
  have oX := oX.new hx6
  have oxv := oxv.new hx6
  have oxn := oxn.new hx6
  have bX := bX.new hx6
  have NS := NS.trans hx6
  have l67 := hn6.size
  obtain rfl : n6 = n3 := by
    have e1 := congrArg List.length hv3
    have e2 := congrArg List.length hv6
    simp at e1 e2
    omega
  have hn6b : n6 ≤ 1048576 := by
    have e1 := congrArg List.length hv6
    have e2 := HSl.out
    simp at e1
    omega
  have e36 : Hid (V6.map Rv.r = V3.map Rv.r) := hv6.trans hv3.symm
  clear r5 ho6 hn6 hal hx6 cX
  generalize w6.alloc (.cells #[.int .i64 z, .slice A6 n6 c6] 32) = w7 at *
  have cS := (bS.new NS).cells
  have cG := bG.cells
  go_wp2_with fail
  refine (eqRR_any z A6 A3 n6 c6 c3 V6 V3 _ oG.rt.1 (rS.new NS) e36.out hl6 hn6b).mono ?_
  rintro e w8 ⟨rfl, h8⟩
  have bG := bG.new h8
  have oG := oG.new h8
  have oX := oX.new h8
  have oxv := oxv.new h8
  have oxn := oxn.new h8
  have bX := bX.new h8
  have NS := NS.trans h8
  clear cS cG h8
  go_wp2_with fail
  refine (toRts_any A N cc V _ (hR.new (N4.trans NS)) HN.out hm').mono ?_
  rintro e w9 ⟨g9, V9, rfl, hv9, ho9, hn9⟩
  have oX := oX.new hn9
  go_wp2_with fail
  refine (eqRts_any _ _ N N N V5 V9 _ oX.rt.1 ho9.rt.1 (by rw [hv5, hv9]) oX.rt.2 hm').mono ?_
  rintro e w10 ⟨rfl, h10⟩
  have hx10 := hn9.trans h10
  have bG := bG.new hx10
  have oG := oG.new hx10
  have oX := oX.new h10
  have oxv := oxv.new hx10
  have oxn := oxn.new hx10
  have bX := bX.new hx10
  have NS := NS.trans hx10
  clear ho9 hv9 hn9 h10 hx10
  go_upto_region 16 with fail
  have d0 := bP4.new NS
  have d1 := bX
  have dN : New w10 w10 := New.refl _
  have dh := hx.new (N4.trans NS)
  have dq := oxn
  go_region_held3 (fun W => (∀ j, W.cell? ⟨w.heap.size, j, none⟩ = #[Value.int .i64 p, .int .i64 a, .int .i64 l, .int .i64 o, .slice x n c, .int .i64 nx, .int .i64 md, .int .i64 lc][j]?) ∧ (∀ j, W.cell? ⟨w5b.heap.size, j, none⟩ = #[Value.int .i64 p, .int .i64 a, .int .i64 l, .int .i64 o, .slice (some ⟨gx, 0, none⟩) n n, .int .i64 nx, .int .i64 md, .int .i64 lc][j]?)) (exact ⟨d0.cells, d1.cells⟩)
    (first
      | (go_at_call 24; refine (toRt_any p a l o nx md lc x n c xs _ (by first | exact dh | exact dh.new ((New.refl _).drew)) HX.out hxm').mono ?_; rintro e w11 ⟨g11, rfl, hg11, ho11, h1⟩; (try simp only [New.drew_mark7] at h1); have d0 := d0.new h1; have d1 := d1.new h1; have dN := dN.trans h1; have dh := dh.new h1; have dq := dq.new h1; have dr := ho11.ns hbd.out)
      | (go_at_call 26; refine (eqRt_any p a l o nx md lc _ _ n n n xs _ (by first | exact dq | exact dq.new ((New.refl _).drew)) (by first | exact dr | exact dr.new ((New.refl _).drew)) HX.out hxm').mono ?_; rintro e w12 ⟨rfl, h1⟩; (try simp only [New.drew_mark7] at h1); have d0 := d0.new h1; have d1 := d1.new h1; have dN := dN.trans h1; have dh := dh.new h1))
  have bG := bG.new dN
  have oG := oG.new dN
  have oX := oX.new dN
  have oxv := oxv.new dN
  have bX := bX.new dN
  have NS := NS.trans dN
  clear d0 d1 dN dh dq dr oxn
  go_wp2_with fail
  refine (markRts_any _ N N _ _ 1 V5 _ oX hm' (by omega) (by omega)).mono ?_
  rintro e w13 ⟨rfl, -, t13⟩
  have bG := bG.turn t13 (by omega)
  have oG := oG.turn t13 (by intro k hk _ e; omega)
  have bX := bX.turn t13 (by omega)
  have oxv := oxv.turn7 t13 (by intro k hk e; have e' : gx = k := Option.some.inj hk; omega)
  have NS := NS.before t13 (by intro i hi e; omega)
  have hk5 := endT_bd V5 1 (fun v hv => (oX.path.bd v hv).2)
  have hl5 : V5.length ≤ 1048576 := by have := oX.rt.2; omega
  clear oX t13
  generalize endT 1 V5 = k5 at *
  have cX := bX.cells
  go_wp2_with fail
  obtain ⟨k7, hk7⟩ : ∃ k7, Hid (k5 + (n : Int) = k7) := ⟨_, rfl⟩
  have hk6 : 0 ≤ k7 := by have := hk7.out; omega
  refine (markRt7_is p a l o nx md lc _ n n gx xs k5 k7 _ oxv HX.out hxm' (by omega) (by omega) hk7.out).mono ?_
  rintro e w14 ⟨rfl, t14⟩
  have ebk : ∀ j, (Value.slice (some ⟨gx, 0, none⟩) n n).ownBlock = some j → j = gx := fun j hj => (Option.some.inj hj).symm
  have bG := bG.turn t14 (fun e => by have := ebk _ e; omega)
  have oG := oG.turn t14 (by intro k hk _ e; have := ebk _ e; omega)
  have NS := NS.before t14 (by intro i hi e; have := ebk _ e; omega)
  clear t14 oxv bX cX
  generalize Value.agg #[.int .i64 p, .int .i64 a, .int .i64 l, .int .i64 o, .slice x n c, .int .i64 nx, .int .i64 md, .int .i64 lc] = vv1
  generalize Value.agg #[.int .i64 p, .int .i64 a, .int .i64 l, .int .i64 o, .slice (some ⟨gx, 0, none⟩) n n, .int .i64 nx, .int .i64 md, .int .i64 lc] = vv2
  clear hk5 hl5 ebk
  have cS := (bS.new NS).cells
  have cG := bG.cells
  go_wp2_with fail
  refine (eqRR_any z A6 A3 n6 c6 c3 V6 V3 _ oG.rt.1 (rS.new NS) e36.out hl6 hn6b).mono ?_
  rintro e w15 ⟨rfl, h15⟩
  have bG := bG.new h15
  have oG := oG.new h15
  have NS := NS.trans h15
  clear cS cG h15
  have cG := bG.cells
  go_wp2_with fail
  refine (markRR_any z A6 n6 c6 _ _ 1 V6 _ oG hn6b (by omega) (by omega) (by have e1 := bG.lt; omega)).mono ?_
  rintro e w16 ⟨rfl, oM, t16⟩
  have bG := bG.turn t16 (by omega)
  have NS := NS.before t16 (by intro i hi e; omega)
  have hk8 := (endT_bd V6 1 (fun v hv => (oG.path.bd v hv).2)).1
  have hl6' : ∀ v ∈ V6, v.r.xs.length ≤ 1048576 := fun v hv => (oG.path.bd v hv).2
  clear oG t16 cG
  have cG := bG.cells
  go_wp2_with fail
  refine (heldRR_any z A6 n6 c6 1 V6 _ oM.rt.1 hl6 hl6' hn6b (by omega) (by omega)).mono ?_
  rintro e w17 ⟨rfl, h17⟩
  have bG := bG.new h17
  have oM := oM.new h17
  have NS := NS.trans h17
  have hee : (endT 1 V6 != endT 1 V6) = false := by simp
  clear h17 cG
  have Nw17 := N4.trans NS
  have bPw17 := bP4.new NS
  have ltPw17 := bPw17.lt
  go_upto_region 31 with fail
  go_cut [13] from 75 to 79 (fun u wx => ∃ B A3 n3 c3 V3, u = .pointer (some ⟨B, 0, none⟩) ∧ Blk wx B 32 #[.int .i64 z, .slice A3 n3 c3] ∧ V3.map Rv.r = S ∧ V3.length = n3 ∧ RtAt wx A3 V3 ∧ New w17 wx)
  case first =>
    have dP := bPw17
    have dR := hR.new Nw17
    have dx := hx.new Nw17
    have dN : New w17 w17 := New.refl _
    go_region_held3 (fun W => ∀ j, W.cell? ⟨w.heap.size, j, none⟩ = #[Value.int .i64 p, .int .i64 a, .int .i64 l, .int .i64 o, .slice x n c, .int .i64 nx, .int .i64 md, .int .i64 lc][j]?) (exact (by intro j; (try simp (disch := exact neP) only [cell_set7]); first | exact dP.cells j | exact (dP.alloc _).cells j))
      (first
        | (go_at_call 10; refine (toRts_any A N cc V _ (by first | exact dR | exact dR.new ((New.refl _).drew) | exact dR.new ((New.refl _).alloc _) | exact dR.new (((New.refl _).alloc _).drew)) HN.out hm').mono ?_; rintro e wx ⟨g2, V2, rfl, hv2, o2, h1⟩; (try simp only [New.drew_mark7, New.alloc_mark7] at h1); (first | (have hM := And.right h1; have h1 := And.left h1; have dV := Blk.laid7 hM; have cV := dV.cells; have fV := dV.frees; have dL := dN.size; have neP := ne7 dL ltPw17; have dP := dP.new h1; have dR := dR.new h1; have dx := dx.new h1; (try have r2 := r2.new h1); (try have rx := rx.new h1); (try have o3 := o3.new h1); have dN := dN.trans h1) | (have dP := dP.new h1; have dR := dR.new h1; have dx := dx.new h1; (try have r2 := r2.new h1); (try have rx := rx.new h1); (try have o3 := o3.new h1); have dN := dN.trans h1; (try (have dV := dV.new h1; have cV := dV.cells; have fV := dV.frees)))); have r2 := o2.rt.1; have r2l := o2.rt.2)
        | (go_at_call 24; refine (toRt_any p a l o nx md lc x n c xs _ (by first | exact dx | exact dx.new ((New.refl _).drew) | exact dx.new ((New.refl _).alloc _) | exact dx.new (((New.refl _).alloc _).drew)) HX.out hxm').mono ?_; rintro e wx ⟨gx, rfl, hgx, ox, h1⟩; (try simp only [New.alloc_mark7] at h1); (first | (have hM := And.right h1; have h1 := And.left h1; have dV := Blk.laid7 hM; have cV := dV.cells; have fV := dV.frees; have dL := dN.size; have neP := ne7 dL ltPw17; have dP := dP.new h1; have dR := dR.new h1; have dx := dx.new h1; (try have r2 := r2.new h1); (try have rx := rx.new h1); (try have o3 := o3.new h1); have dN := dN.trans h1) | (have dP := dP.new h1; have dR := dR.new h1; have dx := dx.new h1; (try have r2 := r2.new h1); (try have rx := rx.new h1); (try have o3 := o3.new h1); have dN := dN.trans h1; (try (have dV := dV.new h1; have cV := dV.cells; have fV := dV.frees)))); have rx := ox.ns hbd.out)
        | (go_at_call 28; (try have lV0 := dV.lt); refine (implPT p a l o nx md lc _ n n xs _ N N V2 z S _ (by first | exact r2 | exact r2.new ((New.refl _).drew) | exact r2.new ((New.refl _).alloc _) | exact r2.new (((New.refl _).alloc _).drew)) r2l hm' (by first | exact rx | exact rx.new ((New.refl _).drew) | exact rx.new ((New.refl _).alloc _) | exact rx.new (((New.refl _).alloc _).drew)) HX.out hxm' (by intro e; cases e) (by rw [hv2]; exact hz.out) (by rw [hv2]; exact hS.out)).mono ?_; rintro e wx ⟨A3, n3, c3, V3, rfl, hv3, hl3, o3, h1⟩; (try simp only [New.alloc_mark7] at h1); (first | (have hM := And.right h1; have h1 := And.left h1; have dV := Blk.laid7 hM; have cV := dV.cells; have fV := dV.frees; have dL := dN.size; have neP := ne7 dL ltPw17; have dP := dP.new h1; have dR := dR.new h1; have dx := dx.new h1; (try have r2 := r2.new h1); (try have rx := rx.new h1); (try have o3 := o3.new h1); have dN := dN.trans h1) | (have dP := dP.new h1; have dR := dR.new h1; have dx := dx.new h1; (try have r2 := r2.new h1); (try have rx := rx.new h1); (try have o3 := o3.new h1); have dN := dN.trans h1; (try (have dV := dV.new h1; have cV := dV.cells; have fV := dV.frees))))))
    all_goals
      go_wp2_with fail
      go_meet
      case rel =>
        first
        | exact ⟨_, A3, n3, c3, V3, rfl, blk2 _ _ dV, hv3, hl3, stored2 o3 (by first | exact lV0 | (simp; done) | (simp; omega)), (dN.setCell dL _).setCell dL _⟩
        | exact ⟨_, A3, n3, c3, V3, rfl, Blk.mk _ _ _ _ rfl, hv3, hl3, (o3.new ((New.refl _).alloc _)).rt.1, dN.alloc _⟩
  case rest =>
  obtain ⟨BH, A18, n18, c18, V18, rfl, bH, hv18, hl18, rH, hx2⟩ := hcut
  have bG := bG.new hx2
  have oM := oM.new hx2
  have NS := NS.trans hx2
  obtain rfl : n18 = n6 := by
    have e1 := congrArg List.length hv18
    have e2 := congrArg List.length hv6
    simp at e1 e2
    omega
  have e183 : Hid (V18.map Rv.r = V3.map Rv.r) := hv18.trans hv3.symm
  clear Nw17 bPw17 ltPw17 hx2
  generalize wc = w18 at *
  have cS := (bS.new NS).cells
  have cH := bH.cells
  go_wp2_with fail
  refine (eqRR_any z A18 A3 n18 c18 c3 V18 V3 _ rH (rS.new NS) e183.out hl18 hn6b).mono ?_
  rintro e w19 ⟨rfl, h19⟩
  have bG := bG.new h19
  have oM := oM.new h19
  have NS := NS.trans h19
  clear cS cH h19
  have cG := bG.cells
  go_wp2_with fail
  refine (heldRR_any z A6 n18 c6 1 V6 _ oM.rt.1 hl6 hl6' hn6b (by omega) (by omega)).mono ?_
  rintro e w20 ⟨rfl, h20⟩
  go_wp2
  go_ret
  exact ⟨rfl, N4.trans (NS.trans h20)⟩


set_option maxRecDepth 100000 in
theorem apr_lifted (os : Os) (started : os.Started) (H : Type) (enc : TypeId × Value → H) :
    ReturnsInHanded {} Try.checked os 7 .any (Rows.fnExactPutRouteSpec.pre6 enc Try.prog Try.f7 Rows.fnExactPutRouteRow.domain false) (Rows.fnExactPutRouteSpec.post enc Try.prog Try.f7 false true false false) := by
  refine returnsInHanded_of_change (C := Try.checked) own started (by kernel_rfl) Try.func7
    (ChangeSpec.witness6 (enc := enc) (C := Try.checked) false ⟨#[], #[.slice none 0 0, .agg #[.int .i64 0, .int .i64 0, .int .i64 0, .int .i64 0, .slice none 0 0, .int .i64 0, .int .i64 0, .int .i64 0]], []⟩ 8 (by kernel_rfl) (by kernel_rfl) (by kernel_rfl) (by kernel_rfl)) ?_
  intro W base args ds gs before hval0 hW hcnd _
  have hval : ∀ (j : Nat) t v, Try.f7.params[j]? = some t → args[j]? = some v → Value.okWide Try.prog W .any base t v := hval0
  have hW' := hW
  obtain ⟨p, q, hA0, hV, rfl, hfz, hnd⟩ := hW
  have hA : DataW.TrodAll enc Try.prog W 0 (fun _ => true) true Try.f7.params.toList args.toList ds p := hA0
  rw [Try.params7] at hA hval
  obtain ⟨v0, vs0, d0, ds0, p0, q0, hargs, rfl, rfl, h0, r0⟩ := trodAll_cons hA
  obtain ⟨v1, vs1, d1, ds1, p1, q1, rfl, rfl, rfl, h1, r1⟩ := trodAll_cons r0
  obtain ⟨rfl, rfl, rfl⟩ := trodAll_nil r1
  obtain rfl : args = #[v0, v1] := by cases args; simp_all
  obtain ⟨rfl, rfl⟩ := trodVars_none hV
  have k0 := h0
  have lt0 : ∀ x ∈ p0, x.block < W.heap.size := by obtain ⟨m, hm⟩ := k0; exact DataW.trod_lt m _ _ _ hm
  obtain ⟨a0, len0, cap0, rfl⟩ := okWide_slice Try.underlying22 (hval 0 22 v0 rfl rfl)
  obtain ⟨z0, b0, e0, m0⟩ := open_routes h0
  have k1 := h1
  have lt1 : ∀ x ∈ p1, x.block < W.heap.size := by obtain ⟨m, hm⟩ := k1; exact DataW.trod_lt m _ _ _ hm
  obtain ⟨rp1, ra1, rl1, ro1, rn1, rm1, rc1, rx1, len1, cap1, z1, rfl, b1, e1, m1, nl1⟩ := open_route (hval 1 46 v1 rfl rfl) h1
  clear hA0 hval0
  refine (apr_walk a0 len0 cap0 z0 rp1 ra1 rl1 ro1 rn1 rm1 rc1 rx1 len1 cap1 z1 W b0 e0 m0 b1 e1 m1 nl1).mono fun e W' ⟨he, new⟩ => ?_
  have bel := new.below
  subst he
  exact ⟨_, rfl, _, _, _, [], _, [], hW', trodAll_mk1 (shut_bool Try.underlying4 _), (trodAll_cons_mk (Below.trod laidOut (by kernel_rfl) (of_decide_eq_true (by kernel_rfl)) k0 bel lt0) (trodAll_cons_mk (Below.trod laidOut (by kernel_rfl) (of_decide_eq_true (by kernel_rfl)) k1 bel lt1) trodAll_mk0)), rfl, bel.frame _, fun h => by cases h⟩

theorem apr_holds : Rows.FnExactPutRouteSaid :=
  OpenClaim.holds_of_wide 7 Try.f7 rfl rfl rfl rfl rfl rfl rfl ⟨rfl, rfl, rfl, rfl, rfl⟩ rfl rfl rfl rfl rfl (by kernel_rfl) Try.func7 (by kernel_rfl)
    (of_decide_eq_true (by kernel_rfl)) (by unfold Func.isWrapper; first | (rw [if_pos (by decide +kernel)]; kernel_rfl) | (rw [if_neg (by decide +kernel)]; exact ⟨rfl, rfl⟩))
    (fun os started H enc _ => apr_lifted os started H enc)

end Go.Proofs.Ytcbcegmmhiclhaa
