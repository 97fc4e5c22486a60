/- What is proved here: what the model's packing of a message answers, for messages without a fault. -/
import Derived.Test.YtdmcbnmaknpkmaaMsPk2
import Derived.Test.YtdmcbnmaknpkmaaUpSpk2
import Derived.Deep.RegionHeld3
import Derived.Deep.CutRange
namespace Go.Proofs.Ytdmcbnmaknpkmaa
open Go.RowKit Go.Sort
set_option linter.unusedVariables false
set_option linter.unusedSimpArgs false
set_option maxRecDepth 100000

theorem opB_bd {sa ho si : Int} (h : Opn sa ho si) : ∀ z ∈ opB sa ho si, 0 ≤ z ∧ z ≤ 255 := by
  obtain ⟨h1, h2, h3⟩ := h
  have h4 : 0 ≤ ho ∧ ho ≤ 200 := by rcases h2 with h | h <;> omega
  simp [opB]
  omega

set_option maxHeartbeats 1600000 in
theorem l4Pack4 (sa ho si wh su : Int) (ga a ra : Option Addr) (gn gc n c rn rc : Nat) (has : Bool) (o nx md lc : Int) (gs rs : List (Int × Int)) (xs : List Int) (w : World) : Calls Try.prog 25 #[.agg #[.int .i64 4, .int .i64 sa, .int .i64 ho, .int .i64 si, .int .i64 wh, .int .i64 su, .slice ga gn gc, .bool has, .int .i64 o, .slice a n c, .int .i64 nx, .int .i64 md, .int .i64 lc, .slice ra rn rc]] w fun e w' => ∃ g cap, e = .returned (.slice (some ⟨g, 0, none⟩) (0 + 5) cap) ∧ w.heap.size ≤ g ∧ w'.ownsRow 0 5 1 (.slice (some ⟨g, 0, none⟩) (0 + 5) cap) (0 + 5) ((packOf 4 ([])).map (Value.int .u8)) ∧ New w w' := by
  have hw : New w ((w.alloc (.cells #[.int .i64 4, .int .i64 sa, .int .i64 ho, .int .i64 si, .int .i64 wh, .int .i64 su, .slice ga gn gc, .bool has, .int .i64 o, .slice a n c, .int .i64 nx, .int .i64 md, .int .i64 lc, .slice ra rn rc] 40)).alloc (.cells #[] 5)) := ((New.refl w).alloc _).alloc _
  have bM : Blk ((w.alloc (.cells #[.int .i64 4, .int .i64 sa, .int .i64 ho, .int .i64 si, .int .i64 wh, .int .i64 su, .slice ga gn gc, .bool has, .int .i64 o, .slice a n c, .int .i64 nx, .int .i64 md, .int .i64 lc, .slice ra rn rc] 40)).alloc (.cells #[] 5)) w.heap.size 40 #[.int .i64 4, .int .i64 sa, .int .i64 ho, .int .i64 si, .int .i64 wh, .int .i64 su, .slice ga gn gc, .bool has, .int .i64 o, .slice a n c, .int .i64 nx, .int .i64 md, .int .i64 lc, .slice ra rn rc] := (Blk.mk _ _ _ _ rfl).alloc _
  go_enter Try.func25, Try.ntmps25
  go_wp2_with fail
  refine (specPack_any 4 (some ⟨w.heap.size + 1, 0, none⟩) 0 0 [] _ (BsAt.nil _ _) rfl (by omega) (by omega) (by omega) (by intro h; cases h)).mono ?_
  rintro e w1 ⟨g, cap, rfl, hg, ho1, hn1⟩
  simp at hg
  go_wp2
  go_ret
  exact ⟨g, cap, rfl, by omega, ho1, hw.trans hn1⟩

set_option maxHeartbeats 1600000 in
theorem l4Pack3 (sa ho si wh su : Int) (ga a ra : Option Addr) (gn gc n c rn rc : Nat) (has : Bool) (o nx md lc : Int) (gs rs : List (Int × Int)) (xs : List Int) (w : World) (h : Nty wh su) : Calls Try.prog 25 #[.agg #[.int .i64 3, .int .i64 sa, .int .i64 ho, .int .i64 si, .int .i64 wh, .int .i64 su, .slice ga gn gc, .bool has, .int .i64 o, .slice a n c, .int .i64 nx, .int .i64 md, .int .i64 lc, .slice ra rn rc]] w fun e w' => ∃ g cap, e = .returned (.slice (some ⟨g, 0, none⟩) (2 + 5) cap) ∧ w.heap.size ≤ g ∧ w'.ownsRow 0 5 1 (.slice (some ⟨g, 0, none⟩) (2 + 5) cap) (2 + 5) ((packOf 3 ([wh, su])).map (Value.int .u8)) ∧ New w w' := by
  obtain ⟨i0, hi, hz0, hz1, hz2⟩ := info_parts Try.infoU8
  obtain ⟨⟨hw0, hw1⟩, ⟨hs0, hs1⟩⟩ := h
  have hww : IntKind.u8.wrap wh = wh := by simp [IntKind.wrap, IntKind.signed, IntKind.bits]; omega
  have hws : IntKind.u8.wrap su = su := by simp [IntKind.wrap, IntKind.signed, IntKind.bits]; omega
  have hw : New w ((w.alloc (.cells #[.int .i64 3, .int .i64 sa, .int .i64 ho, .int .i64 si, .int .i64 wh, .int .i64 su, .slice ga gn gc, .bool has, .int .i64 o, .slice a n c, .int .i64 nx, .int .i64 md, .int .i64 lc, .slice ra rn rc] 40)).alloc (.cells #[] 5)) := ((New.refl w).alloc _).alloc _
  have bM : Blk ((w.alloc (.cells #[.int .i64 3, .int .i64 sa, .int .i64 ho, .int .i64 si, .int .i64 wh, .int .i64 su, .slice ga gn gc, .bool has, .int .i64 o, .slice a n c, .int .i64 nx, .int .i64 md, .int .i64 lc, .slice ra rn rc] 40)).alloc (.cells #[] 5)) w.heap.size 40 #[.int .i64 3, .int .i64 sa, .int .i64 ho, .int .i64 si, .int .i64 wh, .int .i64 su, .slice ga gn gc, .bool has, .int .i64 o, .slice a n c, .int .i64 nx, .int .i64 md, .int .i64 lc, .slice ra rn rc] := (Blk.mk _ _ _ _ rfl).alloc _
  have R0 : RowB ((w.alloc (.cells #[.int .i64 3, .int .i64 sa, .int .i64 ho, .int .i64 si, .int .i64 wh, .int .i64 su, .slice ga gn gc, .bool has, .int .i64 o, .slice a n c, .int .i64 nx, .int .i64 md, .int .i64 lc, .slice ra rn rc] 40)).alloc (.cells #[] 5)) w.heap.size (w.heap.size + 1) 0 0 [] := by
    have h := World.ownsRow_lit (base := w.heap.size) (size := 1) (e := 5) (w.alloc (.cells #[.int .i64 3, .int .i64 sa, .int .i64 ho, .int .i64 si, .int .i64 wh, .int .i64 su, .slice ga gn gc, .bool has, .int .i64 o, .slice a n c, .int .i64 nx, .int .i64 md, .int .i64 lc, .slice ra rn rc] 40)) #[] 0 (by simp) (Nat.zero_le _) rfl
    simpa [RowB] using h
  go_enter Try.func25, Try.ntmps25
  go_upto_region 6 with fail
  have lM := bM.lt
  generalize ((w.alloc (.cells #[.int .i64 3, .int .i64 sa, .int .i64 ho, .int .i64 si, .int .i64 wh, .int .i64 su, .slice ga gn gc, .bool has, .int .i64 o, .slice a n c, .int .i64 nx, .int .i64 md, .int .i64 lc, .slice ra rn rc] 40)).alloc (.cells #[] 5)) = w0 at *
  have cM := bM.cells
  have hal := (New.refl w0).alloc (.cells #[.int .u8 wh, .int .u8 su] 5)
  have hbs : BsAt (w0.alloc (.cells #[.int .u8 wh, .int .u8 su] 5)) (some ⟨w0.heap.size, 0, none⟩) [wh, su] := BsAt.of_block (heap_alloc_new _ _) _ rfl (by simp; omega)
  have sz0 := hw.size
  go_wp2_with (at_builtin; refine wpList_ap _ rfl (.tmp 25) (.tmp 32) rfl w.heap.size Try.underlying31 hi hz0 hz1 hz2 (.slice (some ⟨w.heap.size + 1, 0, none⟩) 0 0) 0 [] rfl (R0.new hal) (some ⟨w0.heap.size, 0, none⟩) 2 2 _ rfl hbs rfl (by intro h; cases h) (by omega) (by omega) (by simp; omega) _ rfl ?_)
  intro g1 cap1 w1 ho1 hgr1 hat1
  have N1 : New w w1 := (hw.trans hal).grow hgr1 (by intro k hk; simp [Value.ownBlock] at hk; omega)
  have R1 : RowB w1 w.heap.size g1 2 cap1 [wh, su] := by unfold RowB; simpa using ho1
  have M1 : New w0 w1 ∨ True := .inr trivial
  have bM1 : Blk w1 w.heap.size 40 #[.int .i64 3, .int .i64 sa, .int .i64 ho, .int .i64 si, .int .i64 wh, .int .i64 su, .slice ga gn gc, .bool has, .int .i64 o, .slice a n c, .int .i64 nx, .int .i64 md, .int .i64 lc, .slice ra rn rc] := by
    have hb0 := bM.new hal
    exact (hgr1.block w.heap.size hb0.lt (by simp [Value.ownBlock])).trans hb0
  have cM1 := bM1.cells
  have z1 := N1.size
  clear ho1 hgr1 hat1 hbs hal R0 cM M1
  go_wp2_with fail
  refine (specPack_any 3 (some ⟨g1, 0, none⟩) 2 cap1 [wh, su] _ (BsAt.of_own R1 (by simp; omega)) rfl (by omega) (by omega) (by omega) (by intro h; cases h)).mono ?_
  rintro e w2 ⟨g, cap, rfl, hg, ho2, hn2⟩
  go_wp2
  go_ret
  exact ⟨g, cap, rfl, by omega, ho2, N1.trans hn2⟩

set_option maxHeartbeats 1600000 in
theorem l4Pack2 (sa ho si wh su : Int) (ga a ra : Option Addr) (gn gc n c rn rc : Nat) (has : Bool) (o nx md lc : Int) (gs rs : List (Int × Int)) (xs : List Int) (w : World) (hg : PsAt w ga gs) (hx : NsAt w a xs) (hr : PsAt w ra rs) (hgn : gs.length = gn) (hn : xs.length = n) (hrn : rs.length = rn) (hf : uf gs has o xs nx md lc rs = 0) : Calls Try.prog 25 #[.agg #[.int .i64 2, .int .i64 sa, .int .i64 ho, .int .i64 si, .int .i64 wh, .int .i64 su, .slice ga gn gc, .bool has, .int .i64 o, .slice a n c, .int .i64 nx, .int .i64 md, .int .i64 lc, .slice ra rn rc]] w fun e w' => ∃ g cap l, l = (upB gs has o xs nx md lc rs).length ∧ l ≤ 100 ∧ e = .returned (.slice (some ⟨g, 0, none⟩) (l + 5) cap) ∧ w.heap.size ≤ g ∧ w'.ownsRow 0 5 1 (.slice (some ⟨g, 0, none⟩) (l + 5) cap) (l + 5) ((packOf 2 (upB gs has o xs nx md lc rs)).map (Value.int .u8)) ∧ New w w' := by
  have hw : New w ((w.alloc (.cells #[.int .i64 2, .int .i64 sa, .int .i64 ho, .int .i64 si, .int .i64 wh, .int .i64 su, .slice ga gn gc, .bool has, .int .i64 o, .slice a n c, .int .i64 nx, .int .i64 md, .int .i64 lc, .slice ra rn rc] 40)).alloc (.cells #[] 5)) := ((New.refl w).alloc _).alloc _
  have bM : Blk ((w.alloc (.cells #[.int .i64 2, .int .i64 sa, .int .i64 ho, .int .i64 si, .int .i64 wh, .int .i64 su, .slice ga gn gc, .bool has, .int .i64 o, .slice a n c, .int .i64 nx, .int .i64 md, .int .i64 lc, .slice ra rn rc] 40)).alloc (.cells #[] 5)) w.heap.size 40 #[.int .i64 2, .int .i64 sa, .int .i64 ho, .int .i64 si, .int .i64 wh, .int .i64 su, .slice ga gn gc, .bool has, .int .i64 o, .slice a n c, .int .i64 nx, .int .i64 md, .int .i64 lc, .slice ra rn rc] := (Blk.mk _ _ _ _ rfl).alloc _
  have hbd := upB_bd hf
  go_enter Try.func25, Try.ntmps25
  go_wp2_with fail
  refine (l3Pack_any ga a ra gn gc n c rn rc has o nx md lc gs rs xs _ (hg.new hw) (hx.new hw) (hr.new hw) hgn hn hrn hf).mono ?_
  rintro e w1 ⟨g1, cap1, l, rfl, hl, ho1, hn1⟩
  have N1 := hw.trans hn1
  have cM := (bM.new hn1).cells
  have hll : (upB gs has o xs nx md lc rs).length = l := by simpa using ho1.1
  have z1 := N1.size
  go_wp2_with fail
  refine (specPack_any 2 (some ⟨g1, 0, none⟩) l cap1 (upB gs has o xs nx md lc rs) _ (BsAt.of_own ho1 hbd) hll (by omega) (by omega) (by omega) (by intro h; cases h)).mono ?_
  rintro e w2 ⟨g, cap, rfl, hg2, ho2, hn2⟩
  go_wp2
  go_ret
  exact ⟨g, cap, l, hll.symm, hl, rfl, by omega, ho2, N1.trans hn2⟩

set_option maxHeartbeats 6400000 in
theorem l4Pack1 (sa ho si wh su : Int) (ga a ra : Option Addr) (gn gc n c rn rc : Nat) (has : Bool) (o nx md lc : Int) (gs rs : List (Int × Int)) (xs : List Int) (w : World) (h : Opn sa ho si) : Calls Try.prog 25 #[.agg #[.int .i64 1, .int .i64 sa, .int .i64 ho, .int .i64 si, .int .i64 wh, .int .i64 su, .slice ga gn gc, .bool has, .int .i64 o, .slice a n c, .int .i64 nx, .int .i64 md, .int .i64 lc, .slice ra rn rc]] w fun e w' => ∃ g cap, e = .returned (.slice (some ⟨g, 0, none⟩) (5 + 5) cap) ∧ w.heap.size ≤ g ∧ w'.ownsRow 0 5 1 (.slice (some ⟨g, 0, none⟩) (5 + 5) cap) (5 + 5) ((packOf 1 (opB sa ho si)).map (Value.int .u8)) ∧ New w w' := by
  obtain ⟨i0, hi, hz0, hz1, hz2⟩ := info_parts Try.infoU8
  have hbd := opB_bd h
  obtain ⟨⟨hs0, hs1⟩, h2, ⟨hi0, hi1⟩⟩ := h
  have hob : 0 ≤ ho ∧ ho ≤ 255 := by rcases h2 with h | h <;> omega
  clear h2
  have hwo : IntKind.u8.wrap ho = ho := by simp [IntKind.wrap, IntKind.signed, IntKind.bits]; omega
  have hw : New w ((w.alloc (.cells #[.int .i64 1, .int .i64 sa, .int .i64 ho, .int .i64 si, .int .i64 wh, .int .i64 su, .slice ga gn gc, .bool has, .int .i64 o, .slice a n c, .int .i64 nx, .int .i64 md, .int .i64 lc, .slice ra rn rc] 40)).alloc (.cells #[] 5)) := ((New.refl w).alloc _).alloc _
  have bM : Blk ((w.alloc (.cells #[.int .i64 1, .int .i64 sa, .int .i64 ho, .int .i64 si, .int .i64 wh, .int .i64 su, .slice ga gn gc, .bool has, .int .i64 o, .slice a n c, .int .i64 nx, .int .i64 md, .int .i64 lc, .slice ra rn rc] 40)).alloc (.cells #[] 5)) w.heap.size 40 #[.int .i64 1, .int .i64 sa, .int .i64 ho, .int .i64 si, .int .i64 wh, .int .i64 su, .slice ga gn gc, .bool has, .int .i64 o, .slice a n c, .int .i64 nx, .int .i64 md, .int .i64 lc, .slice ra rn rc] := (Blk.mk _ _ _ _ rfl).alloc _
  have R0 : RowB ((w.alloc (.cells #[.int .i64 1, .int .i64 sa, .int .i64 ho, .int .i64 si, .int .i64 wh, .int .i64 su, .slice ga gn gc, .bool has, .int .i64 o, .slice a n c, .int .i64 nx, .int .i64 md, .int .i64 lc, .slice ra rn rc] 40)).alloc (.cells #[] 5)) w.heap.size (w.heap.size + 1) 0 0 [] := by
    have h := World.ownsRow_lit (base := w.heap.size) (size := 1) (e := 5) (w.alloc (.cells #[.int .i64 1, .int .i64 sa, .int .i64 ho, .int .i64 si, .int .i64 wh, .int .i64 su, .slice ga gn gc, .bool has, .int .i64 o, .slice a n c, .int .i64 nx, .int .i64 md, .int .i64 lc, .slice ra rn rc] 40)) #[] 0 (by simp) (Nat.zero_le _) rfl
    simpa [RowB] using h
  go_enter Try.func25, Try.ntmps25
  go_upto_region 4 with fail
  have sz0 : w.heap.size + 2 ≤ ((w.alloc (.cells #[.int .i64 1, .int .i64 sa, .int .i64 ho, .int .i64 si, .int .i64 wh, .int .i64 su, .slice ga gn gc, .bool has, .int .i64 o, .slice a n c, .int .i64 nx, .int .i64 md, .int .i64 lc, .slice ra rn rc] 40)).alloc (.cells #[] 5)).heap.size := by simp
  generalize ((w.alloc (.cells #[.int .i64 1, .int .i64 sa, .int .i64 ho, .int .i64 si, .int .i64 wh, .int .i64 su, .slice ga gn gc, .bool has, .int .i64 o, .slice a n c, .int .i64 nx, .int .i64 md, .int .i64 lc, .slice ra rn rc] 40)).alloc (.cells #[] 5)) = w0 at *
  have cM := bM.cells
  have cMa := (bM.alloc (.cells #[.int .u8 ho] 5)).cells
  go_region_held3 (fun W => ∀ i, W.cell? ⟨w.heap.size, i, none⟩ = #[Value.int .i64 1, .int .i64 sa, .int .i64 ho, .int .i64 si, .int .i64 wh, .int .i64 su, .slice ga gn gc, .bool has, .int .i64 o, .slice a n c, .int .i64 nx, .int .i64 md, .int .i64 lc, .slice ra rn rc][i]?) (first | exact cM | exact cMa | exact cc1 | exact cc1a | exact cv1 | exact cv1a | exact cv2 | exact cc2 | exact cv3)
    (first
    | (refine step_ap2 _ rfl (.tmp 9) (.tmp 12) rfl w.heap.size Try.underlying31 hi hz0 hz1 hz2 (w.heap.size + 1) 0 0 [] rfl (by first | exact R0.new M1 | exact (R0.new M1).new ((New.refl _).alloc _)) ⟨p1, 0, none⟩ 2 k1 [sa / 256, sa % 256] rfl (by first | exact B1 | exact B1.new ((New.refl _).alloc _)) rfl (by omega) (by first | omega | (simp; omega)) _ rfl ?_; intro f1 l1 v1 S1' gr1 at1; have S1 : RowB v1 w.heap.size f1 2 l1 [sa / 256, sa % 256] := (by unfold RowB; simpa using S1'); have V1 : New w v1 := (by first | exact (hw.trans M1).grow gr1 (by intro k hk; obtain rfl := Option.some.inj hk; omega) | exact ((hw.trans M1).alloc _).grow gr1 (by intro k hk; obtain rfl := Option.some.inj hk; omega)); have bv1 : Blk v1 w.heap.size 40 #[.int .i64 1, .int .i64 sa, .int .i64 ho, .int .i64 si, .int .i64 wh, .int .i64 su, .slice ga gn gc, .bool has, .int .i64 o, .slice a n c, .int .i64 nx, .int .i64 md, .int .i64 lc, .slice ra rn rc] := (by first | exact (bM.new M1).grow gr1 (by simp) | exact ((bM.new M1).alloc _).grow gr1 (by simp)); have cv1 := bv1.cells; have cv1a := (bv1.alloc (.cells #[.int .u8 ho] 5)).cells; have y1 := V1.size; have ge1 := S1.ge; have lt1 := S1.lt; have zz1 := gr1.size)
    | (refine step_ap2 _ rfl (.tmp 13) (.tmp 17) rfl w.heap.size Try.underlying31 hi hz0 hz1 hz2 f1 2 l1 _ rfl (by first | exact S1 | exact S1.new ((New.refl _).alloc _)) ⟨_, 0, none⟩ 1 1 [ho] rfl (by first | exact BsAt.of_block (heap_alloc_new _ _) [ho] rfl (by simpa using hob) | exact src_old hob (New.refl _) gr1 (by omega) | exact src_old hob (((New.refl _).drew).trans un1) gr1 (by omega)) rfl (by omega) (by first | omega | (simp; omega)) _ rfl ?_; intro f2 l2 v2 S2' gr2 at2; have S2 : RowB v2 w.heap.size f2 3 l2 ([sa / 256, sa % 256] ++ [ho]) := (by unfold RowB; simpa using S2'); have V2 : New w v2 := (by first | exact V1.grow gr2 (by intro k hk; obtain rfl := Option.some.inj hk; omega) | exact (V1.alloc _).grow gr2 (by intro k hk; obtain rfl := Option.some.inj hk; omega)); have bv2 : Blk v2 w.heap.size 40 #[.int .i64 1, .int .i64 sa, .int .i64 ho, .int .i64 si, .int .i64 wh, .int .i64 su, .slice ga gn gc, .bool has, .int .i64 o, .slice a n c, .int .i64 nx, .int .i64 md, .int .i64 lc, .slice ra rn rc] := (by first | exact bv1.grow gr2 (by intro e; exact bv1.ne_own S1 (by decide) (Option.some.inj e).symm) | exact (bv1.alloc _).grow gr2 (by intro e; exact bv1.ne_own S1 (by decide) (Option.some.inj e).symm)); have cv2 := bv2.cells; have y2 := V2.size; have ge2 := S2.ge; have lt2 := S2.lt)
    | (refine step_ap2 _ rfl (.tmp 18) (.tmp 21) rfl w.heap.size Try.underlying31 hi hz0 hz1 hz2 f2 3 l2 _ rfl (S2.new un2) ⟨p2, 0, none⟩ 2 k2 [si / 256, si % 256] rfl B2 rfl (by omega) (by first | omega | (simp; omega)) _ rfl ?_; intro f3 l3 v3 S3' gr3 at3; have S3 : RowB v3 w.heap.size f3 5 l3 (opB sa ho si) := (by unfold RowB; simpa [opB] using S3'); have V3 : New w v3 := (V2.trans un2).grow gr3 (by intro k hk; obtain rfl := Option.some.inj hk; omega); have bv3 : Blk v3 w.heap.size 40 #[.int .i64 1, .int .i64 sa, .int .i64 ho, .int .i64 si, .int .i64 wh, .int .i64 su, .slice ga gn gc, .bool has, .int .i64 o, .slice a n c, .int .i64 nx, .int .i64 md, .int .i64 lc, .slice ra rn rc] := (bv2.new un2).grow gr3 (by intro e; exact bv2.ne_own S2 (by decide) (Option.some.inj e).symm); have cv3 := bv3.cells)
    | (go_at_call_of 41 sa; refine (twoBytes_any sa _ (by omega) (by omega)).mono ?_; rintro e u1 ⟨p1, k1, rfl, hp1, op1, un1⟩; have M1 : New w0 u1 := (by first | exact ((New.refl _).drew).trans un1 | exact (((New.refl _).alloc _).drew).trans un1); have B1 : BsAt u1 (some ⟨p1, 0, none⟩) [sa / 256, sa % 256] := BsAt.of_own op1 (by simp; omega); have cc1 := (bM.new M1).cells; have cc1a := ((bM.new M1).alloc (.cells #[.int .u8 ho] 5)).cells; have d1 := M1.size)
    | (go_at_call_of 41 si; refine (twoBytes_any si _ (by omega) (by omega)).mono ?_; rintro e u2 ⟨p2, k2, rfl, hp2, op2, un2⟩; have B2 : BsAt u2 (some ⟨p2, 0, none⟩) [si / 256, si % 256] := BsAt.of_own op2 (by simp; omega); have cc2 := (bv2.new un2).cells; have d2 := un2.size))
  all_goals
    have c9 := cv3
    have z9 := V3.size
    clear S1' S2' S3' gr1 gr2 gr3 at1 at2 at3 un1 un2 op1 op2 B1 B2 S1 S2 V1 V2 M1 cc1 cc1a cc2 cv1 cv1a cv2 cv3 cM cMa bv1 bv2 bv3 R0
    go_wp2_with fail
    refine (specPack_any 1 (some ⟨f3, 0, none⟩) 5 l3 (opB sa ho si) _ (BsAt.of_own S3 hbd) rfl (by omega) (by omega) (by omega) (by intro h; cases h)).mono ?_
    rintro e w2 ⟨g, cap, rfl, hg, ho2, hn2⟩
    go_wp2
    go_ret
    exact ⟨g, cap, rfl, by omega, ho2, V3.trans hn2⟩

end Go.Proofs.Ytdmcbnmaknpkmaa
