/- What is proved here: what the model's packing of an update answers, for every update with lists of at most 1048576 elements. -/
import Derived.Test.YtdmcbnmaknpkmaaUpSpk
import Derived.Deep.RegionHeld3
namespace Go.Proofs.Ytdmcbnmaknpkmaa
open Go.RowKit Go.Sort
set_option linter.unusedVariables false
set_option maxRecDepth 100000

theorem BsAt.grown {w w' : World} {g p : Nat} {ys : List Int} (h : BsAt w (some ⟨p, 0, none⟩) ys) (hg : w.grownBy w' (some g)) (hne : ¬ p = g) : BsAt w' (some ⟨p, 0, none⟩) ys :=
  h.turn (Turn.of_grown (g := g) hg) (by rintro x hx; obtain rfl := Option.some.inj hx; exact hne)

set_option maxHeartbeats 6400000 in
theorem l3Pack_any (ga a ra : Option Addr) (gn gc n c rn rc : Nat) (has : Bool) (o nx md lc : Int) (gs rs : List (Int × Int)) (xs : List Int) (w : World) (hg : PsAt w ga gs) (hx : NsAt w a xs) (hr : PsAt w ra rs) (hgn : gs.length = gn) (hn : xs.length = n) (hrn : rs.length = rn) (hf : uf gs has o xs nx md lc rs = 0) :
    Calls Try.prog 42 #[.agg #[.slice ga gn gc, .bool has, .int .i64 o, .slice a n c, .int .i64 nx, .int .i64 md, .int .i64 lc, .slice ra rn rc]] w fun e w' => ∃ g cap m, e = .returned (.slice (some ⟨g, 0, none⟩) m cap) ∧ m ≤ 100 ∧ RowB w' w.heap.size g m cap (upB gs has o xs nx md lc rs) ∧ New w w' := by
  obtain ⟨i0, hi, hz0, hz1, hz2⟩ := info_parts Try.infoU8
  obtain ⟨h8, h8r, hlg, hlr, hyes, hno⟩ := uf_ok hf
  have hgok := (lf_ok hlg).2
  have hrok := (lf_ok hlr).2
  rw [hgn] at h8
  rw [hrn] at h8r
  have HG : Hid (gs.length = gn) := hgn
  have HX : Hid (xs.length = n) := hn
  have HR : Hid (rs.length = rn) := hrn
  have hwk : IntKind.u8.wrap (gn : Int) = (gn : Int) := by simp [IntKind.wrap, IntKind.signed, IntKind.bits]; omega
  have hgb : 0 ≤ (gn : Int) ∧ (gn : Int) ≤ 255 := by omega
  clear hgn hn hrn hf
  have hw := (New.refl w).alloc (.cells #[.slice ga gn gc, .bool has, .int .i64 o, .slice a n c, .int .i64 nx, .int .i64 md, .int .i64 lc, .slice ra rn rc] 38)
  have bU := Blk.mk w w.heap.size 38 #[.slice ga gn gc, .bool has, .int .i64 o, .slice a n c, .int .i64 nx, .int .i64 md, .int .i64 lc, .slice ra rn rc] rfl
  go_enter Try.func42, Try.ntmps42
  go_wp2_with fail
  generalize hW : w.alloc (.cells #[.slice ga gn gc, .bool has, .int .i64 o, .slice a n c, .int .i64 nx, .int .i64 md, .int .i64 lc, .slice ra rn rc] 38) = w0 at *
  clear hW
  have hlt0 := bU.lt
  have cU := bU.cells
  have hg0 := hg.new hw
  have cUa := (bU.alloc (.cells #[.int .u8 (gn : Int)] 5)).cells
  have hlitA : ∀ W : World, RowB (W.alloc (.cells #[.int .u8 (gn : Int)] 5)) W.heap.size W.heap.size 1 1 [(gn : Int)] := fun W => World.ownsRow_lit (base := W.heap.size) (size := 1) (e := 5) W #[.int .u8 (gn : Int)] 1 (Nat.le_refl _) (by decide) rfl
  go_region_law (first
    | (refine step_ap2 _ rfl (.tmp 9) (.tmp 12) rfl w0.heap.size Try.underlying31 hi hz0 hz1 hz2 _ 1 1 [(gn : Int)] rfl (by first | exact (hlitA w1).low s1 | exact ((hlitA w0).new ((New.refl _).drew)).new hn1) ⟨g1, 0, none⟩ (gn * 3) cap1 (pxB gs) rfl (by first | exact BsAt.of_own ho1 hpb | exact (BsAt.of_own ho1 hpb).new ((New.refl _).alloc _)) hpl (by omega) (by first | omega | (simp; omega)) _ rfl ?_; intro g2 cap2 w2 ho2 hgr2 hat2)
    | (go_simp; go_at_call 59; refine (l3Px_any ga gn gc gs _ (by first | exact hg0.new ((New.refl _).drew) | exact hg0.new (((New.refl _).alloc _).drew)) HG.out (by omega) hgok).mono ?_; rintro e w1 ⟨g1, cap1, rfl, ho1, hn1⟩; have N1 : New w0 w1 := (by first | exact ((New.refl _).drew).trans hn1 | exact (((New.refl _).alloc _).drew).trans hn1); have hpb := pxB_bd hgok; have hpl : (pxB gs).length = gn * 3 := (by rw [pxB_len, HG.out]); have s1 := N1.size; have cU1 := (bU.new N1).cells; have cU1a := ((bU.new N1).alloc (.cells #[.int .u8 (gn : Int)] 5)).cells))
  all_goals
    have N2 : New w0 w2 := (by first | exact (N1.alloc _).grow hgr2 (by intro k hk; obtain rfl := Option.some.inj hk; omega) | exact N1.grow hgr2 (by intro k hk; obtain rfl := Option.some.inj hk; omega))
    have R2 : RowB w2 w0.heap.size g2 (1 + gn * 3) cap2 ([(gn : Int)] ++ pxB gs) := by unfold RowB; simpa using ho2
    have b2 := bU.new N2
    have q2 := R2.ge
    have p2 := R2.lt
    have z2 := N2.size
    clear ho2 hgr2 hat2 ho1 hn1 N1 cU1 cU1a cU cUa hlitA
    have cU := b2.cells
    cases has with
    | false =>
      go_wp2
      go_ret
      refine ⟨g2, cap2, 1 + gn * 3, rfl, by omega, ?_, hw.trans N2⟩
      have e2 : ∀ o nx md lc : Int, upB gs false o xs nx md lc rs = [(gn : Int)] ++ pxB gs := by intro o nx md lc; simp [upB, HG.out]
      rw [e2]
      exact R2.low (by omega)
    | true =>
      obtain ⟨hrp, haf⟩ := hyes rfl
      obtain ⟨⟨⟨ho0, ho1⟩, ⟨hx0, hx1⟩, ⟨hm0, hm1⟩, ⟨hl0, hl1⟩⟩, hk6, hall⟩ := af_ok haf
      replace hk6 : n ≤ 6 := by have h1 := HX.out; omega
      have hwn : IntKind.u8.wrap (n : Int) = (n : Int) := by simp [IntKind.wrap, IntKind.signed, IntKind.bits]; omega
      have hwo : IntKind.u8.wrap o = o := by simp [IntKind.wrap, IntKind.signed, IntKind.bits]; omega
      have HA : Hid (∀ x ∈ xs, 1 ≤ x ∧ x ≤ 65535) := hall
      clear hyes hno haf hall
      have hal2 := (New.refl w2).alloc (.cells #[.int .u8 (n : Int)] 5)
      have hbs2 : BsAt (w2.alloc (.cells #[.int .u8 (n : Int)] 5)) (some ⟨w2.heap.size, 0, none⟩) [(n : Int)] := BsAt.of_block (heap_alloc_new _ _) _ rfl (by simp; omega)
      go_wp2_with (at_builtin; refine wpList_ap _ rfl (.tmp 18) (.tmp 24) rfl w0.heap.size Try.underlying31 hi hz0 hz1 hz2 (.slice (some ⟨g2, 0, none⟩) (1 + gn * 3) cap2) (1 + gn * 3) _ rfl (R2.new hal2) (some ⟨w2.heap.size, 0, none⟩) 1 1 _ rfl hbs2 rfl (by intro h; cases h) (by omega) (by omega) (by simp; omega) _ rfl ?_)
      intro g3 cap3 w3 ho3 hgr3 hat3
      have N3 : New w0 w3 := (N2.trans hal2).grow hgr3 (by intro k hk; simp [Value.ownBlock] at hk; omega)
      have R3 : RowB w3 w0.heap.size g3 (1 + gn * 3 + 1) cap3 ([(gn : Int)] ++ pxB gs ++ [(n : Int)]) := by unfold RowB; simpa using ho3
      clear ho3 hgr3 hat3 hbs2 hal2 R2 b2 q2 p2 z2 cU N2
      go_wp2_with fail
      go_loopw [3, 4] (fun s i wr => ∃ (j g cap : Nat), j ≤ n ∧ i = .int .i64 j ∧ s = .slice (some ⟨g, 0, none⟩) (1 + gn * 3 + 1 + j * 2) cap ∧ RowB wr w0.heap.size g (1 + gn * 3 + 1 + j * 2) cap ([(gn : Int)] ++ pxB gs ++ [(n : Int)] ++ nsB (xs.take j)) ∧ New w0 wr) (fun _ i _ => n - (intOf i).toNat)
      case atStart => exact ⟨0, g3, cap3, Nat.zero_le _, rfl, by simp, by simpa [nsB] using R3, N3⟩
      case round =>
        clear R3 N3
        obtain ⟨j, g, cap, hj, rfl, rfl, R4, N4⟩ := hrel
        have cU := (bU.new N4).cells
        have z4 := N4.size
        have q4 := R4.ge
        by_cases hlt : j < n
        · obtain ⟨b, off, x, ha, hz, hc0, -⟩ := (hx.new (hw.trans N4)).at j (by rw [HX.out]; exact hlt)
          have ha' := ha
          subst ha'
          obtain ⟨t0, t1⟩ := HA.out x (List.mem_of_getElem? hz)
          have t2 : 0 ≤ x := by omega
          have t3 : x < 65536 := by omega
          have hT : Hid (nsB (xs.take (j + 1)) = nsB (xs.take j) ++ [x / 256, x % 256]) := by unfold Hid; rw [take_snoc hz]; exact nsB_snoc _ _
          clear hz
          go_wp2_with fail
          refine (twoBytes_any x _ t2 t3).mono ?_
          rintro e w5 ⟨g5, cap5, rfl, hg5, ho5, hn5⟩
          have hb5 : BsAt w5 (some ⟨g5, 0, none⟩) [x / 256, x % 256] := BsAt.of_own ho5 (by simp; omega)
          have N5 := N4.trans hn5
          have z5 := N5.size
          go_wp2_with (at_builtin; refine wpList_ap _ rfl (.tmp 34) (.tmp 41) rfl w0.heap.size Try.underlying31 hi hz0 hz1 hz2 (.slice (some ⟨g, 0, none⟩) (1 + gn * 3 + 1 + j * 2) cap) (1 + gn * 3 + 1 + j * 2) _ rfl (R4.new hn5) (some ⟨g5, 0, none⟩) 2 cap5 _ rfl hb5 rfl (by intro h; cases h) (by omega) (by omega) (by omega) _ rfl ?_)
          intro g6 cap6 w6 ho6 hgr6 hat6
          have N6 : New w0 w6 := N5.grow hgr6 (by intro k hk; simp [Value.ownBlock] at hk; omega)
          have R6 : RowB w6 w0.heap.size g6 (1 + gn * 3 + 1 + (j + 1) * 2) cap6 ([(gn : Int)] ++ pxB gs ++ [(n : Int)] ++ nsB (xs.take (j + 1))) := by
            rw [hT.out, show 1 + gn * 3 + 1 + (j + 1) * 2 = 1 + gn * 3 + 1 + j * 2 + 2 by omega]
            unfold RowB
            simpa using ho6
          have hlen : 1 + gn * 3 + 1 + j * 2 + 2 = 1 + gn * 3 + 1 + (j + 1) * 2 := by omega
          clear ho6 hgr6 hat6 hb5 ho5 hn5 hg5 N5 z5 R4 N4 cU hc0
          go_wp2
          go_roundw
          case rel => exact ⟨j + 1, g6, cap6, by omega, by go_num, by rw [← hlen], R6, N6⟩
          case measure => simp [intOf]; omega
        · obtain rfl : j = n := by omega
          rw [List.take_of_length_le (by rw [HX.out]; omega)] at R4
          have hal4 := (New.refl wr).alloc (.cells #[.int .u8 o] 5)
          have hbs4 : BsAt (wr.alloc (.cells #[.int .u8 o] 5)) (some ⟨wr.heap.size, 0, none⟩) [o] := BsAt.of_block (heap_alloc_new _ _) _ rfl (by simp; omega)
          go_wp2_with (at_builtin; refine wpList_ap _ rfl (.tmp 43) (.tmp 48) rfl w0.heap.size Try.underlying31 hi hz0 hz1 hz2 (.slice (some ⟨g, 0, none⟩) (1 + gn * 3 + 1 + j * 2) cap) (1 + gn * 3 + 1 + j * 2) _ rfl (R4.new hal4) (some ⟨wr.heap.size, 0, none⟩) 1 1 _ rfl hbs4 rfl (by intro h; cases h) (by omega) (by omega) (by simp; omega) _ rfl ?_)
          intro g5 cap5 w5 ho5 hgr5 hat5
          have N5 : New w0 w5 := (N4.trans hal4).grow hgr5 (by intro k hk; simp [Value.ownBlock] at hk; omega)
          obtain ⟨L, hL⟩ : ∃ L, 1 + gn * 3 + 1 + j * 2 + 1 = L := ⟨_, rfl⟩
          obtain ⟨Y, hY⟩ : ∃ Y, [(gn : Int)] ++ pxB gs ++ [(j : Int)] ++ nsB xs ++ [o] = Y := ⟨_, rfl⟩
          have R5 : RowB w5 w0.heap.size g5 L cap5 Y := by rw [← hL, ← hY]; unfold RowB; simpa using ho5
          have HL : Hid (1 + gn * 3 + 1 + j * 2 + 1 = L) := hL
          have HY : Hid ([(gn : Int)] ++ pxB gs ++ [(j : Int)] ++ nsB xs ++ [o] = Y) := hY
          have hL50 : L ≤ 60 := by omega
          have b5 := bU.new N5
          clear ho5 hgr5 hat5 hbs4 hal4 R4 N4 cU z4 q4 hY
          rw [hL]
          clear hL
          have cU5 := b5.cells
          have q5 := R5.ge
          have p5 := R5.lt
          have z5 := N5.size
          go_wp2_with fail
          go_region_held3 (fun W => ∀ i, W.cell? ⟨w.heap.size, i, none⟩ = #[Value.slice ga gn gc, .bool true, .int .i64 o, .slice a j c, .int .i64 nx, .int .i64 md, .int .i64 lc, .slice ra rn rc][i]?) (first | exact cU5 | exact cc1 | exact cv1 | exact cc2 | exact cv2 | exact cc3 | exact cv3)
            (first
            | (refine step_ap2 _ rfl (.tmp 50) (.tmp 54) rfl w0.heap.size Try.underlying31 hi hz0 hz1 hz2 g5 L cap5 Y rfl (by first | exact X1 | exact X1.new un2 | exact (X1.new un2).new un3) ⟨p1, 0, none⟩ 2 k1 [nx / 256, nx % 256] rfl (by first | exact B1 | exact B1.new un2 | exact (B1.new un2).new un3) rfl (by omega) (by omega) _ rfl ?_; intro f1 l1 v1 S1' gr1 at1; have S1 : RowB v1 w0.heap.size f1 (L + 2) l1 (Y ++ [nx / 256, nx % 256]) := (by unfold RowB; simpa using S1'); have V1 : New w0 v1 := (by first | exact M1.grow gr1 (by intro k hk; obtain rfl := Option.some.inj hk; omega) | exact M2.grow gr1 (by intro k hk; obtain rfl := Option.some.inj hk; omega) | exact M3.grow gr1 (by intro k hk; obtain rfl := Option.some.inj hk; omega)); have cv1 := (bU.new V1).cells; have yv1 := V1.size; have zv1 := gr1.size; have ge1 := S1.ge; have lt1 := S1.lt)
            | (refine step_ap2 _ rfl (.tmp 55) (.tmp 59) rfl w0.heap.size Try.underlying31 hi hz0 hz1 hz2 f1 (L + 2) l1 _ rfl (by first | exact S1 | exact S1.new un2 | exact S1.new un3 | exact (S1.new un2).new un3) ⟨p2, 0, none⟩ 2 k2 [md / 256, md % 256] rfl (by first | exact B2 | exact B2.new un3 | exact B2.grown gr1 (by omega) | exact (B2.grown gr1 (by omega)).new un3 | exact (B2.new un3).grown gr1 (by omega)) rfl (by omega) (by omega) _ rfl ?_; intro f2 l2 v2 S2' gr2 at2; have S2 : RowB v2 w0.heap.size f2 (L + 2 + 2) l2 (Y ++ [nx / 256, nx % 256] ++ [md / 256, md % 256]) := (by unfold RowB; simpa using S2'); have V2 : New w0 v2 := (by first | exact V1.grow gr2 (by intro k hk; obtain rfl := Option.some.inj hk; omega) | exact M2.grow gr2 (by intro k hk; obtain rfl := Option.some.inj hk; omega) | exact M3.grow gr2 (by intro k hk; obtain rfl := Option.some.inj hk; omega)); have cv2 := (bU.new V2).cells; have yv2 := V2.size; have zv2 := gr2.size; have ge2 := S2.ge; have lt2 := S2.lt)
            | (refine step_ap2 _ rfl (.tmp 60) (.tmp 64) rfl w0.heap.size Try.underlying31 hi hz0 hz1 hz2 f2 (L + 2 + 2) l2 _ rfl (by first | exact S2 | exact S2.new un3) ⟨p3, 0, none⟩ 2 k3 [lc / 256, lc % 256] rfl (by first | exact B3 | exact B3.grown gr2 (by omega) | exact (B3.grown gr1 (by omega)).grown gr2 (by omega)) rfl (by omega) (by omega) _ rfl ?_; intro f3 l3 v3 S3' gr3 at3; have S3 : RowB v3 w0.heap.size f3 (L + 2 + 2 + 2) l3 (Y ++ [nx / 256, nx % 256] ++ [md / 256, md % 256] ++ [lc / 256, lc % 256]) := (by unfold RowB; simpa using S3'); have V3 : New w0 v3 := (by first | exact V2.grow gr3 (by intro k hk; obtain rfl := Option.some.inj hk; omega) | exact M3.grow gr3 (by intro k hk; obtain rfl := Option.some.inj hk; omega)); have cv3 := (bU.new V3).cells)
            | (go_at_call_of 41 nx; refine (twoBytes_any nx _ hx0 (by omega)).mono ?_; rintro e u1 ⟨p1, k1, rfl, hp1, op1, un1⟩; have D1 : New w5 u1 := ((New.refl _).drew).trans un1; have M1 := N5.trans D1; have B1 : BsAt u1 (some ⟨p1, 0, none⟩) [nx / 256, nx % 256] := BsAt.of_own op1 (by simp; omega); have X1 := R5.new D1; have cc1 := (bU.new M1).cells; have y1 := M1.size; have d1 := D1.size; have hp1' : w5.heap.size ≤ p1 := hp1; have pl1 := (op1.lt p1 rfl).2)
            | (go_at_call_of 41 md; refine (twoBytes_any md _ hm0 (by omega)).mono ?_; rintro e u2 ⟨p2, k2, rfl, hp2, op2, un2⟩; have M2 : New w0 u2 := (by first | exact M1.trans un2 | exact V1.trans un2); have B2 : BsAt u2 (some ⟨p2, 0, none⟩) [md / 256, md % 256] := BsAt.of_own op2 (by simp; omega); have cc2 := (bU.new M2).cells; have y2 := M2.size; have d2 := un2.size; have pl2 := (op2.lt p2 rfl).2)
            | (go_at_call_of 41 lc; refine (twoBytes_any lc _ hl0 (by omega)).mono ?_; rintro e u3 ⟨p3, k3, rfl, hp3, op3, un3⟩; have M3 : New w0 u3 := (by first | exact M2.trans un3 | exact V1.trans un3 | exact V2.trans un3); have B3 : BsAt u3 (some ⟨p3, 0, none⟩) [lc / 256, lc % 256] := BsAt.of_own op3 (by simp; omega); have cc3 := (bU.new M3).cells; have y3 := M3.size; have d3 := un3.size; have pl3 := (op3.lt p3 rfl).2))
          all_goals
            have c9 := cv3
            have z9 := V3.size
            have q9 := S3.ge
            clear S3' S2' S1' gr1 gr2 gr3 at1 at2 at3 un1 un2 un3 op1 op2 op3 B1 B2 B3 S1 S2 V1 V2 M1 M2 M3 D1 X1 cc1 cc2 cc3 cv1 cv2 cv3 cU5 R5 hp1 hp2 hp3
            go_wp2_with fail
            refine (l3Px_any ra rn rc rs _ (hr.new (hw.trans V3)) HR.out (by omega) hrok).mono ?_
            rintro e w8 ⟨g8, cap8, rfl, ho8, hn8⟩
            have N8 := V3.trans hn8
            have hb8 : BsAt w8 (some ⟨g8, 0, none⟩) (pxB rs) := BsAt.of_own ho8 (pxB_bd hrok)
            have hl8 : (pxB rs).length = rn * 3 := by rw [pxB_len, HR.out]
            have z8 := N8.size
            go_wp2_with (at_builtin; refine wpList_ap _ rfl (.tmp 66) (.tmp 69) rfl w0.heap.size Try.underlying31 hi hz0 hz1 hz2 (.slice (some ⟨f3, 0, none⟩) (L + 2 + 2 + 2) l3) (L + 2 + 2 + 2) _ rfl (S3.new hn8) (some ⟨g8, 0, none⟩) (rn * 3) cap8 _ rfl hb8 hl8 (by intro h; cases h) (by omega) (by omega) (by omega) _ rfl ?_)
            intro g9 cap9 w9 ho9 hgr9 hat9
            have N9 : New w0 w9 := N8.grow hgr9 (by intro k hk; simp [Value.ownBlock] at hk; omega)
            clear hgr9 hat9 hb8 ho8 hn8
            go_wp2
            go_ret
            refine ⟨g9, cap9, L + 2 + 2 + 2 + rn * 3, rfl, by omega, ?_, hw.trans N9⟩
            have e2 : upB gs true o xs nx md lc rs = (Y ++ [nx / 256, nx % 256] ++ [md / 256, md % 256] ++ [lc / 256, lc % 256]) ++ pxB rs := by
              rw [← HY.out]
              simp [upB, atB, HG.out, HX.out]
            rw [e2]
            have : RowB w9 w0.heap.size g9 (L + 2 + 2 + 2 + rn * 3) cap9 ((Y ++ [nx / 256, nx % 256] ++ [md / 256, md % 256] ++ [lc / 256, lc % 256]) ++ pxB rs) := by unfold RowB; simpa using ho9
            exact this.low (by omega)

end Go.Proofs.Ytdmcbnmaknpkmaa
