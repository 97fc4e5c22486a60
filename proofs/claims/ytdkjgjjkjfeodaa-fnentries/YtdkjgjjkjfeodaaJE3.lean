/- What is proved here: what the model's packing of a message answers, for messages without a fault. What is proved here: what the drawing of a message answers, and that it is right. What is proved here: what the drawing of a frame answers. What is proved here: what the bending of bytes answers: bytes of the call's own. What is proved here: what the packing of a drawn message and the drawing of a stream of messages answer. What is proved here: what the drawing of an event's bytes answers. What is proved here: what the drawing of an event and of an entry answers. What is proved here: what the drawing of an entry answers. What is proved here: small facts on journals that are drawn: their lists, of the call's own, apart. No condition. What is proved here: what the drawing of a journal leaves: two lists of bytes, and the source drawn on. -/
import Derived.Test.YtdkjgjjkjfeodaaJE2
import Derived.Deep.RegionHeld3
import Derived.Deep.CutRange
import Derived.Test.YtdkjgjjkjfeodaaDraw
import Derived.Test.YtdkjgjjkjfeodaaE10Jn
import Derived.Test.YtdkjgjjkjfeodaaE10Jl
namespace Go.Proofs.Ytdkjgjjkjfeodaa
open Go.RowKit Go.Sort
set_option linter.unusedVariables false
set_option linter.unusedSimpArgs false
set_option maxRecDepth 100000

theorem opB_bd {sa ho si : Int} (h : Opn sa ho si) : ∀ z ∈ opB sa ho si, 0 ≤ z ∧ z ≤ 255 := by
  obtain ⟨h1, h2, h3⟩ := h
  have h4 : 0 ≤ ho ∧ ho ≤ 200 := by rcases h2 with h | h <;> omega
  simp [opB]
  omega

set_option maxHeartbeats 1600000 in
theorem l4Pack4 (sa ho si wh su : Int) (ga a ra : Option Addr) (gn gc n c rn rc : Nat) (has : Bool) (o nx md lc : Int) (gs rs : List (Int × Int)) (xs : List Int) (w : World) : Calls Try.prog 78 #[.agg #[.int .i64 4, .int .i64 sa, .int .i64 ho, .int .i64 si, .int .i64 wh, .int .i64 su, .slice ga gn gc, .bool has, .int .i64 o, .slice a n c, .int .i64 nx, .int .i64 md, .int .i64 lc, .slice ra rn rc]] w fun e w' => ∃ g cap, e = .returned (.slice (some ⟨g, 0, none⟩) (0 + 5) cap) ∧ w.heap.size ≤ g ∧ w'.ownsRow 0 5 1 (.slice (some ⟨g, 0, none⟩) (0 + 5) cap) (0 + 5) ((packOf 4 ([])).map (Value.int .u8)) ∧ New w w' := by
  have hw : New w ((w.alloc (.cells #[.int .i64 4, .int .i64 sa, .int .i64 ho, .int .i64 si, .int .i64 wh, .int .i64 su, .slice ga gn gc, .bool has, .int .i64 o, .slice a n c, .int .i64 nx, .int .i64 md, .int .i64 lc, .slice ra rn rc] 104)).alloc (.cells #[] 5)) := ((New.refl w).alloc _).alloc _
  have bM : Blk ((w.alloc (.cells #[.int .i64 4, .int .i64 sa, .int .i64 ho, .int .i64 si, .int .i64 wh, .int .i64 su, .slice ga gn gc, .bool has, .int .i64 o, .slice a n c, .int .i64 nx, .int .i64 md, .int .i64 lc, .slice ra rn rc] 104)).alloc (.cells #[] 5)) w.heap.size 104 #[.int .i64 4, .int .i64 sa, .int .i64 ho, .int .i64 si, .int .i64 wh, .int .i64 su, .slice ga gn gc, .bool has, .int .i64 o, .slice a n c, .int .i64 nx, .int .i64 md, .int .i64 lc, .slice ra rn rc] := (Blk.mk _ _ _ _ rfl).alloc _
  go_enter Try.func78, Try.ntmps78
  go_wp2_with fail
  refine (specPack_any 4 (some ⟨w.heap.size + 1, 0, none⟩) 0 0 [] _ (BsAt.nil _ _) rfl (by omega) (by omega) (by omega) (by intro h; cases h)).mono ?_
  rintro e w1 ⟨g, cap, rfl, hg, ho1, hn1⟩
  simp at hg
  go_wp2
  go_ret
  exact ⟨g, cap, rfl, by omega, ho1, hw.trans hn1⟩

set_option maxHeartbeats 1600000 in
theorem l4Pack3 (sa ho si wh su : Int) (ga a ra : Option Addr) (gn gc n c rn rc : Nat) (has : Bool) (o nx md lc : Int) (gs rs : List (Int × Int)) (xs : List Int) (w : World) (h : Nty wh su) : Calls Try.prog 78 #[.agg #[.int .i64 3, .int .i64 sa, .int .i64 ho, .int .i64 si, .int .i64 wh, .int .i64 su, .slice ga gn gc, .bool has, .int .i64 o, .slice a n c, .int .i64 nx, .int .i64 md, .int .i64 lc, .slice ra rn rc]] w fun e w' => ∃ g cap, e = .returned (.slice (some ⟨g, 0, none⟩) (2 + 5) cap) ∧ w.heap.size ≤ g ∧ w'.ownsRow 0 5 1 (.slice (some ⟨g, 0, none⟩) (2 + 5) cap) (2 + 5) ((packOf 3 ([wh, su])).map (Value.int .u8)) ∧ New w w' := by
  obtain ⟨i0, hi, hz0, hz1, hz2⟩ := info_parts Try.infoU8
  obtain ⟨⟨hw0, hw1⟩, ⟨hs0, hs1⟩⟩ := h
  have hww : IntKind.u8.wrap wh = wh := by simp [IntKind.wrap, IntKind.signed, IntKind.bits]; omega
  have hws : IntKind.u8.wrap su = su := by simp [IntKind.wrap, IntKind.signed, IntKind.bits]; omega
  have hw : New w ((w.alloc (.cells #[.int .i64 3, .int .i64 sa, .int .i64 ho, .int .i64 si, .int .i64 wh, .int .i64 su, .slice ga gn gc, .bool has, .int .i64 o, .slice a n c, .int .i64 nx, .int .i64 md, .int .i64 lc, .slice ra rn rc] 104)).alloc (.cells #[] 5)) := ((New.refl w).alloc _).alloc _
  have bM : Blk ((w.alloc (.cells #[.int .i64 3, .int .i64 sa, .int .i64 ho, .int .i64 si, .int .i64 wh, .int .i64 su, .slice ga gn gc, .bool has, .int .i64 o, .slice a n c, .int .i64 nx, .int .i64 md, .int .i64 lc, .slice ra rn rc] 104)).alloc (.cells #[] 5)) w.heap.size 104 #[.int .i64 3, .int .i64 sa, .int .i64 ho, .int .i64 si, .int .i64 wh, .int .i64 su, .slice ga gn gc, .bool has, .int .i64 o, .slice a n c, .int .i64 nx, .int .i64 md, .int .i64 lc, .slice ra rn rc] := (Blk.mk _ _ _ _ rfl).alloc _
  have R0 : RowB ((w.alloc (.cells #[.int .i64 3, .int .i64 sa, .int .i64 ho, .int .i64 si, .int .i64 wh, .int .i64 su, .slice ga gn gc, .bool has, .int .i64 o, .slice a n c, .int .i64 nx, .int .i64 md, .int .i64 lc, .slice ra rn rc] 104)).alloc (.cells #[] 5)) w.heap.size (w.heap.size + 1) 0 0 [] := by
    have h := World.ownsRow_lit (base := w.heap.size) (size := 1) (e := 5) (w.alloc (.cells #[.int .i64 3, .int .i64 sa, .int .i64 ho, .int .i64 si, .int .i64 wh, .int .i64 su, .slice ga gn gc, .bool has, .int .i64 o, .slice a n c, .int .i64 nx, .int .i64 md, .int .i64 lc, .slice ra rn rc] 104)) #[] 0 (by simp) (Nat.zero_le _) rfl
    simpa [RowB] using h
  go_enter Try.func78, Try.ntmps78
  go_upto_region 6 with fail
  have lM := bM.lt
  generalize ((w.alloc (.cells #[.int .i64 3, .int .i64 sa, .int .i64 ho, .int .i64 si, .int .i64 wh, .int .i64 su, .slice ga gn gc, .bool has, .int .i64 o, .slice a n c, .int .i64 nx, .int .i64 md, .int .i64 lc, .slice ra rn rc] 104)).alloc (.cells #[] 5)) = w0 at *
  have cM := bM.cells
  have hal := (New.refl w0).alloc (.cells #[.int .u8 wh, .int .u8 su] 5)
  have hbs : BsAt (w0.alloc (.cells #[.int .u8 wh, .int .u8 su] 5)) (some ⟨w0.heap.size, 0, none⟩) [wh, su] := BsAt.of_block (heap_alloc_new _ _) _ rfl (by simp; omega)
  have sz0 := hw.size
  go_wp2_with (at_builtin; refine wpList_ap _ rfl (.tmp 25) (.tmp 32) rfl w.heap.size Try.underlying22 hi hz0 hz1 hz2 (.slice (some ⟨w.heap.size + 1, 0, none⟩) 0 0) 0 [] rfl (R0.new hal) (some ⟨w0.heap.size, 0, none⟩) 2 2 _ rfl hbs rfl (by intro h; cases h) (by omega) (by omega) (by simp; omega) _ rfl ?_)
  intro g1 cap1 w1 ho1 hgr1 hat1
  have N1 : New w w1 := (hw.trans hal).grow hgr1 (by intro k hk; simp [Value.ownBlock] at hk; omega)
  have R1 : RowB w1 w.heap.size g1 2 cap1 [wh, su] := by unfold RowB; simpa using ho1
  have M1 : New w0 w1 ∨ True := .inr trivial
  have bM1 : Blk w1 w.heap.size 104 #[.int .i64 3, .int .i64 sa, .int .i64 ho, .int .i64 si, .int .i64 wh, .int .i64 su, .slice ga gn gc, .bool has, .int .i64 o, .slice a n c, .int .i64 nx, .int .i64 md, .int .i64 lc, .slice ra rn rc] := by
    have hb0 := bM.new hal
    exact (hgr1.block w.heap.size hb0.lt (by simp [Value.ownBlock])).trans hb0
  have cM1 := bM1.cells
  have z1 := N1.size
  clear ho1 hgr1 hat1 hbs hal R0 cM M1
  go_wp2_with fail
  refine (specPack_any 3 (some ⟨g1, 0, none⟩) 2 cap1 [wh, su] _ (BsAt.of_own R1 (by simp; omega)) rfl (by omega) (by omega) (by omega) (by intro h; cases h)).mono ?_
  rintro e w2 ⟨g, cap, rfl, hg, ho2, hn2⟩
  go_wp2
  go_ret
  exact ⟨g, cap, rfl, by omega, ho2, N1.trans hn2⟩

set_option maxHeartbeats 1600000 in
theorem l4Pack2 (sa ho si wh su : Int) (ga a ra : Option Addr) (gn gc n c rn rc : Nat) (has : Bool) (o nx md lc : Int) (gs rs : List (Int × Int)) (xs : List Int) (w : World) (hg : PsAt w ga gs) (hx : NsAt w a xs) (hr : PsAt w ra rs) (hgn : gs.length = gn) (hn : xs.length = n) (hrn : rs.length = rn) (hf : uf gs has o xs nx md lc rs = 0) : Calls Try.prog 78 #[.agg #[.int .i64 2, .int .i64 sa, .int .i64 ho, .int .i64 si, .int .i64 wh, .int .i64 su, .slice ga gn gc, .bool has, .int .i64 o, .slice a n c, .int .i64 nx, .int .i64 md, .int .i64 lc, .slice ra rn rc]] w fun e w' => ∃ g cap l, l = (upB gs has o xs nx md lc rs).length ∧ l ≤ 100 ∧ e = .returned (.slice (some ⟨g, 0, none⟩) (l + 5) cap) ∧ w.heap.size ≤ g ∧ w'.ownsRow 0 5 1 (.slice (some ⟨g, 0, none⟩) (l + 5) cap) (l + 5) ((packOf 2 (upB gs has o xs nx md lc rs)).map (Value.int .u8)) ∧ New w w' := by
  have hw : New w ((w.alloc (.cells #[.int .i64 2, .int .i64 sa, .int .i64 ho, .int .i64 si, .int .i64 wh, .int .i64 su, .slice ga gn gc, .bool has, .int .i64 o, .slice a n c, .int .i64 nx, .int .i64 md, .int .i64 lc, .slice ra rn rc] 104)).alloc (.cells #[] 5)) := ((New.refl w).alloc _).alloc _
  have bM : Blk ((w.alloc (.cells #[.int .i64 2, .int .i64 sa, .int .i64 ho, .int .i64 si, .int .i64 wh, .int .i64 su, .slice ga gn gc, .bool has, .int .i64 o, .slice a n c, .int .i64 nx, .int .i64 md, .int .i64 lc, .slice ra rn rc] 104)).alloc (.cells #[] 5)) w.heap.size 104 #[.int .i64 2, .int .i64 sa, .int .i64 ho, .int .i64 si, .int .i64 wh, .int .i64 su, .slice ga gn gc, .bool has, .int .i64 o, .slice a n c, .int .i64 nx, .int .i64 md, .int .i64 lc, .slice ra rn rc] := (Blk.mk _ _ _ _ rfl).alloc _
  have hbd := upB_bd hf
  go_enter Try.func78, Try.ntmps78
  go_wp2_with fail
  refine (l3Pack_any ga a ra gn gc n c rn rc has o nx md lc gs rs xs _ (hg.new hw) (hx.new hw) (hr.new hw) hgn hn hrn hf).mono ?_
  rintro e w1 ⟨g1, cap1, l, rfl, hl, ho1, hn1⟩
  have N1 := hw.trans hn1
  have cM := (bM.new hn1).cells
  have hll : (upB gs has o xs nx md lc rs).length = l := by simpa using ho1.1
  have z1 := N1.size
  go_wp2_with fail
  refine (specPack_any 2 (some ⟨g1, 0, none⟩) l cap1 (upB gs has o xs nx md lc rs) _ (BsAt.of_own ho1 hbd) hll (by omega) (by omega) (by omega) (by intro h; cases h)).mono ?_
  rintro e w2 ⟨g, cap, rfl, hg2, ho2, hn2⟩
  go_wp2
  go_ret
  exact ⟨g, cap, l, hll.symm, hl, rfl, by omega, ho2, N1.trans hn2⟩

set_option maxHeartbeats 6400000 in
theorem l4Pack1 (sa ho si wh su : Int) (ga a ra : Option Addr) (gn gc n c rn rc : Nat) (has : Bool) (o nx md lc : Int) (gs rs : List (Int × Int)) (xs : List Int) (w : World) (h : Opn sa ho si) : Calls Try.prog 78 #[.agg #[.int .i64 1, .int .i64 sa, .int .i64 ho, .int .i64 si, .int .i64 wh, .int .i64 su, .slice ga gn gc, .bool has, .int .i64 o, .slice a n c, .int .i64 nx, .int .i64 md, .int .i64 lc, .slice ra rn rc]] w fun e w' => ∃ g cap, e = .returned (.slice (some ⟨g, 0, none⟩) (5 + 5) cap) ∧ w.heap.size ≤ g ∧ w'.ownsRow 0 5 1 (.slice (some ⟨g, 0, none⟩) (5 + 5) cap) (5 + 5) ((packOf 1 (opB sa ho si)).map (Value.int .u8)) ∧ New w w' := by
  obtain ⟨i0, hi, hz0, hz1, hz2⟩ := info_parts Try.infoU8
  have hbd := opB_bd h
  obtain ⟨⟨hs0, hs1⟩, h2, ⟨hi0, hi1⟩⟩ := h
  have hob : 0 ≤ ho ∧ ho ≤ 255 := by rcases h2 with h | h <;> omega
  clear h2
  have hwo : IntKind.u8.wrap ho = ho := by simp [IntKind.wrap, IntKind.signed, IntKind.bits]; omega
  have hw : New w ((w.alloc (.cells #[.int .i64 1, .int .i64 sa, .int .i64 ho, .int .i64 si, .int .i64 wh, .int .i64 su, .slice ga gn gc, .bool has, .int .i64 o, .slice a n c, .int .i64 nx, .int .i64 md, .int .i64 lc, .slice ra rn rc] 104)).alloc (.cells #[] 5)) := ((New.refl w).alloc _).alloc _
  have bM : Blk ((w.alloc (.cells #[.int .i64 1, .int .i64 sa, .int .i64 ho, .int .i64 si, .int .i64 wh, .int .i64 su, .slice ga gn gc, .bool has, .int .i64 o, .slice a n c, .int .i64 nx, .int .i64 md, .int .i64 lc, .slice ra rn rc] 104)).alloc (.cells #[] 5)) w.heap.size 104 #[.int .i64 1, .int .i64 sa, .int .i64 ho, .int .i64 si, .int .i64 wh, .int .i64 su, .slice ga gn gc, .bool has, .int .i64 o, .slice a n c, .int .i64 nx, .int .i64 md, .int .i64 lc, .slice ra rn rc] := (Blk.mk _ _ _ _ rfl).alloc _
  have R0 : RowB ((w.alloc (.cells #[.int .i64 1, .int .i64 sa, .int .i64 ho, .int .i64 si, .int .i64 wh, .int .i64 su, .slice ga gn gc, .bool has, .int .i64 o, .slice a n c, .int .i64 nx, .int .i64 md, .int .i64 lc, .slice ra rn rc] 104)).alloc (.cells #[] 5)) w.heap.size (w.heap.size + 1) 0 0 [] := by
    have h := World.ownsRow_lit (base := w.heap.size) (size := 1) (e := 5) (w.alloc (.cells #[.int .i64 1, .int .i64 sa, .int .i64 ho, .int .i64 si, .int .i64 wh, .int .i64 su, .slice ga gn gc, .bool has, .int .i64 o, .slice a n c, .int .i64 nx, .int .i64 md, .int .i64 lc, .slice ra rn rc] 104)) #[] 0 (by simp) (Nat.zero_le _) rfl
    simpa [RowB] using h
  go_enter Try.func78, Try.ntmps78
  go_upto_region 4 with fail
  have sz0 : w.heap.size + 2 ≤ ((w.alloc (.cells #[.int .i64 1, .int .i64 sa, .int .i64 ho, .int .i64 si, .int .i64 wh, .int .i64 su, .slice ga gn gc, .bool has, .int .i64 o, .slice a n c, .int .i64 nx, .int .i64 md, .int .i64 lc, .slice ra rn rc] 104)).alloc (.cells #[] 5)).heap.size := by simp
  generalize ((w.alloc (.cells #[.int .i64 1, .int .i64 sa, .int .i64 ho, .int .i64 si, .int .i64 wh, .int .i64 su, .slice ga gn gc, .bool has, .int .i64 o, .slice a n c, .int .i64 nx, .int .i64 md, .int .i64 lc, .slice ra rn rc] 104)).alloc (.cells #[] 5)) = w0 at *
  have cM := bM.cells
  have cMa := (bM.alloc (.cells #[.int .u8 ho] 5)).cells
  go_region_held3 (fun W => ∀ i, W.cell? ⟨w.heap.size, i, none⟩ = #[Value.int .i64 1, .int .i64 sa, .int .i64 ho, .int .i64 si, .int .i64 wh, .int .i64 su, .slice ga gn gc, .bool has, .int .i64 o, .slice a n c, .int .i64 nx, .int .i64 md, .int .i64 lc, .slice ra rn rc][i]?) (first | exact cM | exact cMa | exact cc1 | exact cc1a | exact cv1 | exact cv1a | exact cv2 | exact cc2 | exact cv3)
    (first
    | (refine step_ap2 _ rfl (.tmp 9) (.tmp 12) rfl w.heap.size Try.underlying22 hi hz0 hz1 hz2 (w.heap.size + 1) 0 0 [] rfl (by first | exact R0.new M1 | exact (R0.new M1).new ((New.refl _).alloc _)) ⟨p1, 0, none⟩ 2 k1 [sa / 256, sa % 256] rfl (by first | exact B1 | exact B1.new ((New.refl _).alloc _)) rfl (by omega) (by first | omega | (simp; omega)) _ rfl ?_; intro f1 l1 v1 S1' gr1 at1; have S1 : RowB v1 w.heap.size f1 2 l1 [sa / 256, sa % 256] := (by unfold RowB; simpa using S1'); have V1 : New w v1 := (by first | exact (hw.trans M1).grow gr1 (by intro k hk; obtain rfl := Option.some.inj hk; omega) | exact ((hw.trans M1).alloc _).grow gr1 (by intro k hk; obtain rfl := Option.some.inj hk; omega)); have bv1 : Blk v1 w.heap.size 104 #[.int .i64 1, .int .i64 sa, .int .i64 ho, .int .i64 si, .int .i64 wh, .int .i64 su, .slice ga gn gc, .bool has, .int .i64 o, .slice a n c, .int .i64 nx, .int .i64 md, .int .i64 lc, .slice ra rn rc] := (by first | exact (bM.new M1).grow gr1 (by simp) | exact ((bM.new M1).alloc _).grow gr1 (by simp)); have cv1 := bv1.cells; have cv1a := (bv1.alloc (.cells #[.int .u8 ho] 5)).cells; have y1 := V1.size; have ge1 := S1.ge; have lt1 := S1.lt; have zz1 := gr1.size)
    | (refine step_ap2 _ rfl (.tmp 13) (.tmp 17) rfl w.heap.size Try.underlying22 hi hz0 hz1 hz2 f1 2 l1 _ rfl (by first | exact S1 | exact S1.new ((New.refl _).alloc _)) ⟨_, 0, none⟩ 1 1 [ho] rfl (by first | exact BsAt.of_block (heap_alloc_new _ _) [ho] rfl (by simpa using hob) | exact src_old hob (New.refl _) gr1 (by omega) | exact src_old hob (((New.refl _).drew).trans un1) gr1 (by omega)) rfl (by omega) (by first | omega | (simp; omega)) _ rfl ?_; intro f2 l2 v2 S2' gr2 at2; have S2 : RowB v2 w.heap.size f2 3 l2 ([sa / 256, sa % 256] ++ [ho]) := (by unfold RowB; simpa using S2'); have V2 : New w v2 := (by first | exact V1.grow gr2 (by intro k hk; obtain rfl := Option.some.inj hk; omega) | exact (V1.alloc _).grow gr2 (by intro k hk; obtain rfl := Option.some.inj hk; omega)); have bv2 : Blk v2 w.heap.size 104 #[.int .i64 1, .int .i64 sa, .int .i64 ho, .int .i64 si, .int .i64 wh, .int .i64 su, .slice ga gn gc, .bool has, .int .i64 o, .slice a n c, .int .i64 nx, .int .i64 md, .int .i64 lc, .slice ra rn rc] := (by first | exact bv1.grow gr2 (by intro e; exact bv1.ne_own S1 (by decide) (Option.some.inj e).symm) | exact (bv1.alloc _).grow gr2 (by intro e; exact bv1.ne_own S1 (by decide) (Option.some.inj e).symm)); have cv2 := bv2.cells; have y2 := V2.size; have ge2 := S2.ge; have lt2 := S2.lt)
    | (refine step_ap2 _ rfl (.tmp 18) (.tmp 21) rfl w.heap.size Try.underlying22 hi hz0 hz1 hz2 f2 3 l2 _ rfl (S2.new un2) ⟨p2, 0, none⟩ 2 k2 [si / 256, si % 256] rfl B2 rfl (by omega) (by first | omega | (simp; omega)) _ rfl ?_; intro f3 l3 v3 S3' gr3 at3; have S3 : RowB v3 w.heap.size f3 5 l3 (opB sa ho si) := (by unfold RowB; simpa [opB] using S3'); have V3 : New w v3 := (V2.trans un2).grow gr3 (by intro k hk; obtain rfl := Option.some.inj hk; omega); have bv3 : Blk v3 w.heap.size 104 #[.int .i64 1, .int .i64 sa, .int .i64 ho, .int .i64 si, .int .i64 wh, .int .i64 su, .slice ga gn gc, .bool has, .int .i64 o, .slice a n c, .int .i64 nx, .int .i64 md, .int .i64 lc, .slice ra rn rc] := (bv2.new un2).grow gr3 (by intro e; exact bv2.ne_own S2 (by decide) (Option.some.inj e).symm); have cv3 := bv3.cells)
    | (go_at_call_of 66 sa; refine (twoBytes_any sa _ (by omega) (by omega)).mono ?_; rintro e u1 ⟨p1, k1, rfl, hp1, op1, un1⟩; have M1 : New w0 u1 := (by first | exact ((New.refl _).drew).trans un1 | exact (((New.refl _).alloc _).drew).trans un1); have B1 : BsAt u1 (some ⟨p1, 0, none⟩) [sa / 256, sa % 256] := BsAt.of_own op1 (by simp; omega); have cc1 := (bM.new M1).cells; have cc1a := ((bM.new M1).alloc (.cells #[.int .u8 ho] 5)).cells; have d1 := M1.size)
    | (go_at_call_of 66 si; refine (twoBytes_any si _ (by omega) (by omega)).mono ?_; rintro e u2 ⟨p2, k2, rfl, hp2, op2, un2⟩; have B2 : BsAt u2 (some ⟨p2, 0, none⟩) [si / 256, si % 256] := BsAt.of_own op2 (by simp; omega); have cc2 := (bv2.new un2).cells; have d2 := un2.size))
  all_goals
    have c9 := cv3
    have z9 := V3.size
    clear S1' S2' S3' gr1 gr2 gr3 at1 at2 at3 un1 un2 op1 op2 B1 B2 S1 S2 V1 V2 M1 cc1 cc1a cc2 cv1 cv1a cv2 cv3 cM cMa bv1 bv2 bv3 R0
    go_wp2_with fail
    refine (specPack_any 1 (some ⟨f3, 0, none⟩) 5 l3 (opB sa ho si) _ (BsAt.of_own S3 hbd) rfl (by omega) (by omega) (by omega) (by intro h; cases h)).mono ?_
    rintro e w2 ⟨g, cap, rfl, hg, ho2, hn2⟩
    go_wp2
    go_ret
    exact ⟨g, cap, rfl, by omega, ho2, V3.trans hn2⟩

end Go.Proofs.Ytdkjgjjkjfeodaa

namespace Go.Proofs.Ytdkjgjjkjfeodaa
open Go.RowKit Go.Sort
set_option linter.unusedVariables false

/-- A right message of its kind. -/
def MsOk (kd sa mh mi wh su : Int) (gs rs : List (Int × Int)) (xs : List Int) (has : Bool) (o nx md lc : Int) : Prop :=
  (kd = 1 ∧ Opn sa mh mi) ∨ (kd = 3 ∧ Nty wh su) ∨ kd = 4 ∨ (kd = 2 ∧ uf gs has o xs nx md lc rs = 0)

set_option maxHeartbeats 6400000 in
theorem l4Message_ok {B n c t : Nat} {a : Option Addr} {zs : List Int} {w : World} (h : Sc w B a n c zs t) (ht : t ≤ 9000) :
    Calls Try.prog 85 #[.pointer (some ⟨B, 0, none⟩)] w fun e w' => ∃ (kd sa mh mi wh su : Int) (gs rs : List (Int × Int)) (xs : List Int) (has : Bool) (o nx md lc : Int) (x y z : Value) (t' : Nat), e = .returned (.agg #[.int .i64 kd, .int .i64 sa, .int .i64 mh, .int .i64 mi, .int .i64 wh, .int .i64 su, x, .bool has, .int .i64 o, y, .int .i64 nx, .int .i64 md, .int .i64 lc, z]) ∧ MsOk kd sa mh mi wh su gs rs xs has o nx md lc ∧ gs.length ≤ 9 ∧ xs.length ≤ 7 ∧ rs.length ≤ 4 ∧ (∀ p ∈ gs, In6 p.1 ∧ In6 p.2) ∧ (∀ z ∈ xs, In6 z) ∧ (∀ p ∈ rs, In6 p.1 ∧ In6 p.2) ∧ OwQ w' w.heap.size x gs ∧ OwM w' w.heap.size y xs ∧ OwQ w' w.heap.size z rs ∧ t' ≤ t + 250 ∧ Sc w' B a n c zs t' ∧ Turn (fun k => k = B) w w' := by
  have hlt := h.blk.lt
  have hA := h.lt_of
  have N0 : New w (w.alloc (.cells #[.int .i64 0, .int .i64 0, .int .i64 0, .int .i64 0, .int .i64 0, .int .i64 0, .slice none 0 0, .bool false, .int .i64 0, .slice none 0 0, .int .i64 0, .int .i64 0, .int .i64 0, .slice none 0 0] 104)) := (New.refl w).alloc _
  have bR0 := Blk.mk w w.heap.size 104 #[.int .i64 0, .int .i64 0, .int .i64 0, .int .i64 0, .int .i64 0, .int .i64 0, .slice none 0 0, .bool false, .int .i64 0, .slice none 0 0, .int .i64 0, .int .i64 0, .int .i64 0, .slice none 0 0] rfl
  have hs0 := h.new N0
  have tT0 : Turn (fun k => k = B) w (w.alloc (.cells #[.int .i64 0, .int .i64 0, .int .i64 0, .int .i64 0, .int .i64 0, .int .i64 0, .slice none 0 0, .bool false, .int .i64 0, .slice none 0 0, .int .i64 0, .int .i64 0, .int .i64 0, .slice none 0 0] 104)) := N0.turn
  have hRB : ¬ w.heap.size = B := by omega
  have hSR : ∀ x, zs ≠ [] → a = some x → ¬ x.block = w.heap.size := fun x h1 h2 e => by have := hA x h1 h2; omega
  go_enter Try.func85, Try.ntmps85
  go_wp2_with fail
  refine (next_sc hs0 6 (by omega) (by omega)).mono ?_
  rintro e w1 ⟨y0, rfl, -, hs1, tn1⟩
  have bR1 := bR0.turn tn1 hRB
  have tT1 := Turn.both tT0 tn1
  clear bR0 tT0
  by_cases g0 : y0 = 0
  · subst g0
    go_wp2_with fail
    refine (next_sc hs1 5 (by omega) (by omega)).mono ?_
    rintro e w2 ⟨y1, rfl, ⟨py1, qy1, -⟩, hs2, tn2⟩
    have bR2 := bR1.turn tn2 hRB
    have tT2 := Turn.both tT1 tn2
    clear bR1 tT1
    have qy1 := qy1 (by omega)
    have hwy1 : IntKind.i64.wrap (1 + y1) = 1 + y1 := wrap_in (by omega)
    go_wp2_with fail
    refine (pick_sc (hs2.new ((New.refl _).alloc (.cells #[.int .i64 (9), .int .i64 (9), .int .i64 (0), .int .i64 (3), .int .i64 (200)] 2))) [9, 9, 0, 3, 200] (Blk.mk w2 w2.heap.size 2 #[.int .i64 (9), .int .i64 (9), .int .i64 (0), .int .i64 (3), .int .i64 (200)] rfl) 5 rfl (by omega) (by omega) (by omega)).mono ?_
    rintro e w3 ⟨q1, rfl, hq1, hs3, tn3⟩
    have hHl : Hl q1 := by simp at hq1; unfold Hl; omega
    clear hq1
    have bR3 := (bR2.alloc (.cells #[.int .i64 (9), .int .i64 (9), .int .i64 (0), .int .i64 (3), .int .i64 (200)] 2)).turn tn3 hRB
    have tT3 := Turn.both (Turn.andNew tT2 ((New.refl _).alloc (.cells #[.int .i64 (9), .int .i64 (9), .int .i64 (0), .int .i64 (3), .int .i64 (200)] 2))) tn3
    clear bR2 tT2
    go_wp2_with fail
    refine (next_sc hs3 9 (by omega) (by omega)).mono ?_
    rintro e w4 ⟨y2, rfl, ⟨py2, qy2, -⟩, hs4, tn4⟩
    have bR4 := bR3.turn tn4 hRB
    have tT4 := Turn.both tT3 tn4
    clear bR3 tT3
    have qy2 := qy2 (by omega)
    have hwy2 : IntKind.i64.wrap (1 + y2) = 1 + y2 := wrap_in (by omega)
    have cR := bR4.cells
    have fR := bR4.frees
    go_wp2
    refine bodyPost_ret (v := .agg #[.int .i64 1, .int .i64 (1 + y1), .int .i64 q1, .int .i64 (1 + y2), .int .i64 0, .int .i64 0, .slice none 0 0, .bool false, .int .i64 0, .slice none 0 0, .int .i64 0, .int .i64 0, .int .i64 0, .slice none 0 0]) (by simp [results, Try.results85, go_sem, cR]) rfl ?_
    refine (fun (hT : Turn (fun k => k = w.heap.size) w4 _) => ⟨1, 1 + y1, q1, 1 + y2, 0, 0, [], [], [], false, 0, 0, 0, 0, _, _, _, _, rfl, .inl ⟨rfl, ⟨by omega, by omega⟩, hHl, ⟨by omega, by omega⟩⟩, by simp, by simp, by simp, by simp, by simp, by simp, OwQ.nil _ _, OwM.nil _ _, OwQ.nil _ _, by omega, hs4.turn hT (fun e => hRB e.symm) hSR, Turn.trans tT4 hT (fun i hi e => by omega)⟩) ?_
    exact Turn.hereD (Turn.hereD (Turn.hereD (Turn.hereD (Turn.hereD (Turn.hereD (Turn.hereD (Turn.hereD (Turn.hereD (Turn.hereD (Turn.hereD (Turn.hereD (Turn.hereD (Turn.hereD (Turn.refl _ _) _) _) _) _) _) _) _) _) _) _) _) _) _) _
  have e0 : (y0 == 0) = false := by simpa using g0
  by_cases g1 : y0 = 1
  · subst g1
    go_wp2_with fail
    refine (next_sc hs1 6 (by omega) (by omega)).mono ?_
    rintro e w2 ⟨y1, rfl, ⟨py1, qy1, -⟩, hs2, tn2⟩
    have bR2 := bR1.turn tn2 hRB
    have tT2 := Turn.both tT1 tn2
    clear bR1 tT1
    have qy1 := qy1 (by omega)
    have hwy1 : IntKind.i64.wrap (1 + y1) = 1 + y1 := wrap_in (by omega)
    go_wp2_with fail
    refine (next_sc hs2 21 (by omega) (by omega)).mono ?_
    rintro e w3 ⟨y2, rfl, ⟨py2, qy2, -⟩, hs3, tn3⟩
    have qy2 := qy2 (by omega)
    have bR3 := bR2.turn tn3 hRB
    have tT3 := Turn.both tT2 tn3
    clear bR2 tT2
    have cR := bR3.cells
    have fR := bR3.frees
    go_wp2
    refine bodyPost_ret (v := .agg #[.int .i64 3, .int .i64 0, .int .i64 0, .int .i64 0, .int .i64 (1 + y1), .int .i64 y2, .slice none 0 0, .bool false, .int .i64 0, .slice none 0 0, .int .i64 0, .int .i64 0, .int .i64 0, .slice none 0 0]) (by simp [results, Try.results85, go_sem, cR]) rfl ?_
    refine (fun (hT : Turn (fun k => k = w.heap.size) w3 _) => ⟨3, 0, 0, 0, 1 + y1, y2, [], [], [], false, 0, 0, 0, 0, _, _, _, _, rfl, .inr (.inl ⟨rfl, ⟨by omega, by omega⟩, ⟨by omega, by omega⟩⟩), by simp, by simp, by simp, by simp, by simp, by simp, OwQ.nil _ _, OwM.nil _ _, OwQ.nil _ _, by omega, hs3.turn hT (fun e => hRB e.symm) hSR, Turn.trans tT3 hT (fun i hi e => by omega)⟩) ?_
    exact Turn.hereD (Turn.hereD (Turn.hereD (Turn.hereD (Turn.hereD (Turn.hereD (Turn.hereD (Turn.hereD (Turn.hereD (Turn.hereD (Turn.hereD (Turn.hereD (Turn.hereD (Turn.hereD (Turn.refl _ _) _) _) _) _) _) _) _) _) _) _) _) _) _) _
  have e1 : (y0 == 1) = false := by simpa using g1
  by_cases g2 : y0 = 2
  · subst g2
    have cR := bR1.cells
    have fR := bR1.frees
    go_wp2
    refine bodyPost_ret (v := .agg #[.int .i64 4, .int .i64 0, .int .i64 0, .int .i64 0, .int .i64 0, .int .i64 0, .slice none 0 0, .bool false, .int .i64 0, .slice none 0 0, .int .i64 0, .int .i64 0, .int .i64 0, .slice none 0 0]) (by simp [results, Try.results85, go_sem, cR]) rfl ?_
    refine (fun (hT : Turn (fun k => k = w.heap.size) w1 _) => ⟨4, 0, 0, 0, 0, 0, [], [], [], false, 0, 0, 0, 0, _, _, _, _, rfl, .inr (.inr (.inl rfl)), by simp, by simp, by simp, by simp, by simp, by simp, OwQ.nil _ _, OwM.nil _ _, OwQ.nil _ _, by omega, hs1.turn hT (fun e => hRB e.symm) hSR, Turn.trans tT1 hT (fun i hi e => by omega)⟩) ?_
    exact Turn.hereD (Turn.hereD (Turn.hereD (Turn.hereD (Turn.hereD (Turn.hereD (Turn.hereD (Turn.hereD (Turn.hereD (Turn.hereD (Turn.hereD (Turn.hereD (Turn.hereD (Turn.hereD (Turn.refl _ _) _) _) _) _) _) _) _) _) _) _) _) _) _) _
  have e2 : (y0 == 2) = false := by simpa using g2
  have tT1s := tT1.size
  have z1 : w.heap.size < w1.heap.size := bR1.lt
  go_wp2_with fail
  refine (l3DrawUpdate_sc hs1 (by omega)).mono ?_
  rintro e w2 ⟨gs, rs, xs, has, o, nx, md, lc, x, y, z, t2, rfl, huf, hg2, hx3, hr3, ht2, oQ, oM, oR, hs2, tn2, -, -, -⟩
  have bR2 := bR1.turn tn2 hRB
  have tT2 := Turn.both tT1 tn2
  clear bR1 tT1
  obtain ⟨xa, xc, rfl⟩ := oQ.slice
  obtain ⟨ya, yc, rfl⟩ := oM.slice
  obtain ⟨za, zc, rfl⟩ := oR.slice
  have s1 : w.heap.size + 1 ≤ w1.heap.size := by have := tT1s; omega
  obtain ⟨ig, ix, ir⟩ := uf_in huf
  have cR := bR2.cells
  have fR := bR2.frees
  go_wp2
  refine bodyPost_ret (v := .agg #[.int .i64 2, .int .i64 0, .int .i64 0, .int .i64 0, .int .i64 0, .int .i64 0, .slice xa gs.length xc, .bool has, .int .i64 o, .slice ya xs.length yc, .int .i64 nx, .int .i64 md, .int .i64 lc, .slice za rs.length zc]) (by simp [results, Try.results85, go_sem, cR]) rfl ?_
  refine (fun (hT : Turn (fun k => k = w.heap.size) w2 _) => ⟨2, 0, 0, 0, 0, 0, gs, rs, xs, has, o, nx, md, lc, _, _, _, _, rfl, .inr (.inr (.inr ⟨rfl, huf⟩)), by omega, by omega, by omega, ig, ix, ir, (oQ.turn hT (fun g hg e => by omega)).low (by omega), (oM.turn hT (fun g hg e => by omega)).low (by omega), (oR.turn hT (fun g hg e => by omega)).low (by omega), by omega, hs2.turn hT (fun e => hRB e.symm) hSR, Turn.trans tT2 hT (fun i hi e => by omega)⟩) ?_
  exact Turn.hereD (Turn.hereD (Turn.hereD (Turn.hereD (Turn.hereD (Turn.hereD (Turn.hereD (Turn.hereD (Turn.hereD (Turn.hereD (Turn.hereD (Turn.hereD (Turn.hereD (Turn.hereD (Turn.refl _ _) _) _) _) _) _) _) _) _) _) _) _) _) _) _

end Go.Proofs.Ytdkjgjjkjfeodaa

namespace Go.Proofs.Ytdkjgjjkjfeodaa
open Go.RowKit

/-- A frame that was drawn. -/
def FrAns (w : World) (B : Nat) (a : Option Addr) (n c : Nat) (zs : List Int) (t : Nat) (e : Ending) (w' : World) : Prop :=
  ∃ (k : Int) (g m cap t' : Nat) (ys : List Int), e = .returned (.agg #[.int .i64 k, .slice (some ⟨g, 0, none⟩) m cap]) ∧ 0 ≤ k ∧ k ≤ 5 ∧ m ≤ 121 ∧ w.heap.size ≤ g ∧ t' ≤ t + 400 ∧
    w'.ownsRow 0 5 1 (.slice (some ⟨g, 0, none⟩) m cap) m (ys.map (Value.int .u8)) ∧ (∀ y ∈ ys, 0 ≤ y ∧ y ≤ 255) ∧ Sc w' B a n c zs t' ∧ Turn (fun k => k = B) w w'

end Go.Proofs.Ytdkjgjjkjfeodaa

namespace Go.Proofs.Ytdkjgjjkjfeodaa
open Go.RowKit Go.Sort
set_option linter.unusedVariables false

/-- Bytes that were bent: of at most one more, the call's own. -/
def TurnAn2 (B : Nat) (a : Option Addr) (n c : Nat) (zs : List Int) (t m g lo : Nat) (e : Ending) (w' : World) : Prop :=
  ∃ (g' m' cap t' : Nat) (ys : List Int), e = .returned (.slice (some ⟨g', 0, none⟩) m' cap) ∧ m' ≤ m + 1 ∧ t' ≤ t + 10 ∧ w'.ownsRow 0 5 1 (.slice (some ⟨g', 0, none⟩) m' cap) m' (ys.map (Value.int .u8)) ∧ (∀ y ∈ ys, 0 ≤ y ∧ y ≤ 255) ∧ (g' = g ∨ lo ≤ g') ∧ Sc w' B a n c zs t'

theorem own_cap9 {w : World} {base g n cap : Nat} {xs : List Value} (h : w.ownsRow base 5 1 (.slice (some ⟨g, 0, none⟩) n cap) n xs) : n ≤ cap := by
  rcases h.2 with ⟨h', _⟩ | ⟨g', cap', cur, h', r⟩
  · simp at h'
  · simp only [Value.slice.injEq, Option.some.injEq, Addr.mk.injEq, and_true, true_and] at h'
    obtain ⟨rfl, rfl⟩ := h'
    exact r.2.2.1

theorem own_cut8 {w : World} {g n c : Nat} {ys : List Int} (h : w.ownsRow 0 5 1 (.slice (some ⟨g, 0, none⟩) n c) n (ys.map (Value.int .u8))) (i : Nat) (hi : i ≤ n) : w.ownsRow 0 5 1 (.slice (some ⟨g, 0, none⟩) i c) i ((ys.take i).map (Value.int .u8)) := by
  have hl : ys.length = n := by simpa using h.1
  refine ⟨by simp; omega, ?_⟩
  rcases h.2 with ⟨h', _⟩ | ⟨g', cap', cur, h', r1, r2, r3, r4, r5, r6⟩
  · simp at h'
  · simp only [Value.slice.injEq, Option.some.injEq, Addr.mk.injEq, and_true, true_and] at h'
    obtain ⟨rfl, rfl⟩ := h'
    refine .inr ⟨g, c, cur, rfl, r1, r2, by omega, r4, r5, ?_⟩
    rw [List.map_take, ← r6, List.take_take]
    congr 1
    omega

set_option maxHeartbeats 3200000 in
theorem turn2_sc {B n c t g m cap : Nat} {a : Option Addr} {zs ys : List Int} {w : World} (h : Sc w B a n c zs t) (ht : t ≤ 100000) (ha : ∀ x, zs ≠ [] → a = some x → x.block < g) (ho : w.ownsRow 0 5 1 (.slice (some ⟨g, 0, none⟩) m cap) m (ys.map (Value.int .u8))) (hys : ∀ y ∈ ys, 0 ≤ y ∧ y ≤ 255) (hm : m ≤ 2000) :
    Calls Try.prog 58 #[.pointer (some ⟨B, 0, none⟩), .slice (some ⟨g, 0, none⟩) m cap] w fun e w' => TurnAn2 B a n c zs t m g w.heap.size e w' ∧ Turn (fun k => k = B ∨ k = g) w w' := by
  obtain ⟨i0, hi, hz0, hz1, hz2⟩ := info_parts Try.infoU8
  have hl : ys.length = m := by simpa using ho.1
  have HL : Hid (ys.length = m) := hl
  have hmc : m ≤ cap := by
    rcases ho.2 with ⟨h', _⟩ | ⟨_, _, _, h', _, _, hle, _⟩
    · simp at h'
    · simp only [Value.slice.injEq, Option.some.injEq, Addr.mk.injEq, and_true, true_and] at h'
      omega
  have hgB : g ≠ B := fun e => h.blk.ne_own ho (by decide) e.symm
  have tw : ∀ {x y : World}, Turn (fun k => k = B) x y → Turn (fun k => k = B ∨ k = g) x y := fun p => p.mono (fun _ _ h => .inl h)
  have TW : Hid (∀ {x y : World}, Turn (fun k => k = B) x y → Turn (fun k => k = B ∨ k = g) x y) := tw
  clear hl tw
  by_cases h0 : m = 0
  · subst h0
    go_enter Try.func58, Try.ntmps58
    go_wp2
    go_ret
    exact ⟨⟨g, 0, cap, t, ys, rfl, by omega, by omega, ho, hys, .inl rfl, h⟩, Turn.refl _ _⟩
  have hm0 : ((m : Int) == 0) = false := by simp; omega
  go_enter Try.func58, Try.ntmps58
  go_wp2_with fail
  refine (chance_sc h 3 (by omega) (by omega)).mono ?_
  rintro e w1 ⟨r1, rfl, hs1, ht1⟩
  have ho1 := own_turn ho ht1 hgB
  cases r1 with
  | false =>
    go_wp2
    go_ret
    exact ⟨⟨g, m, cap, _, ys, rfl, by omega, by omega, ho1, hys, .inl rfl, hs1⟩, TW.out ht1⟩
  | true =>
    go_wp2_with fail
    refine (next_sc hs1 (m : Int) (by omega) (by omega)).mono ?_
    rintro e w2 ⟨r2, rfl, hd2, hs2, ht2⟩
    obtain ⟨hr0, hr1, -⟩ := hd2
    have hr1 := hr1 (by omega)
    obtain ⟨i, rfl⟩ := Int.eq_ofNat_of_zero_le hr0
    have ho2 := own_turn ho1 ht2 hgB
    have t12 := Turn.trans ht1 ht2 (fun _ _ h => h)
    clear ht1 ht2 hs1 ho1
    go_wp2_with fail
    refine (next_sc hs2 3 (by omega) (by omega)).mono ?_
    rintro e w3 ⟨r3, rfl, hd3, hs3, ht3⟩
    have ho3 := own_turn ho2 ht3 hgB
    have t13 := Turn.trans t12 ht3 (fun _ _ h => h)
    clear t12 ht3 hs2 ho2
    by_cases e0 : r3 = 0
    · subst e0
      have n0 : ((0 : Int) == 0) = true := rfl
      go_wp2_with fail
      refine (next_sc hs3 256 (by omega) (by omega)).mono ?_
      rintro e w4 ⟨x, rfl, hdx, hs4, ht4⟩
      obtain ⟨p1, p2, -⟩ := hdx
      have p2 := p2 (by omega)
      have ho4 := own_turn ho3 ht4 hgB
      have t14 := Turn.trans t13 ht4 (fun _ _ h => h)
      have hfz := ho4.frozenAt i
      have hst := ho4.stored i (.int .u8 x)
      rw [← List.map_set] at hst
      have hcw : ∃ v, w4.cell? ⟨g, i, none⟩ = some v := by
        rw [ho4.cellAt i (by omega)]
        exact ⟨_, List.getElem?_eq_getElem (by have := ho4.1; omega)⟩
      obtain ⟨v, hv⟩ := hcw
      have tg : Turn (fun k => k = g) w4 (w4.setCell ⟨g, i, none⟩ (.int .u8 x)) := Turn.of_grown hst.2
      have hs5 := hs4.turn tg (fun e => hgB e.symm) (fun y hz' hy e => by have := ha y hz' hy; omega)
      have hys5 : ∀ y ∈ ys.set i x, 0 ≤ y ∧ y ≤ 255 := by intro y hy; rcases List.mem_or_eq_of_mem_set hy with h' | h'; exact hys y h'; subst h'; omega
      have hr5 := hst.1
      have t15 : Turn (fun k => k = B ∨ k = g) w (w4.setCell ⟨g, i, none⟩ (.int .u8 x)) := Turn.trans (TW.out t14) tg (fun i _ e => .inr e)
      clear hst ht4 hs3 t13 ho3 ho4
      go_wp2
      go_ret
      exact ⟨⟨g, m, cap, _, ys.set i x, rfl, by omega, by omega, hr5, hys5, .inl rfl, hs5⟩, t15⟩
    · by_cases e1 : r3 = 1
      · subst e1
        have n0 : ((1 : Int) == 0) = false := rfl
        have n1 : ((1 : Int) == 1) = true := rfl
        have hic : i ≤ cap := by omega
        go_wp2
        go_ret
        exact ⟨⟨g, i, cap, _, ys.take i, rfl, by omega, by omega, own_cut8 ho3 i (by omega), (fun y hy => hys y (List.mem_of_mem_take hy)), .inl rfl, hs3⟩, TW.out t13⟩
      · obtain rfl : r3 = 2 := by obtain ⟨p1, p2, -⟩ := hd3; have p2 := p2 (by omega); omega
        have n0 : ((2 : Int) == 0) = false := rfl
        have n1 : ((2 : Int) == 1) = false := rfl
        have n2 : ((2 : Int) == 2) = true := rfl
        have hbl := Blk.mk w3 w3.heap.size 2 #[.int .i64 0, .int .i64 255] rfl
        have hal := (New.refl w3).alloc (.cells #[.int .i64 0, .int .i64 255] 2)
        go_wp2_with fail
        refine (pick_sc (hs3.new hal) [0, 255] hbl 2 rfl (by omega) (by omega) (by omega)).mono ?_
        rintro e w4 ⟨x, rfl, hx, hs4, ht4⟩
        have hxb : 0 ≤ x ∧ x ≤ 255 := by
          simp only [List.mem_cons, List.not_mem_nil, or_false] at hx
          rcases hx with rfl | rfl <;> omega
        have ho4 := own_turn (own_new ho3 hal) ht4 hgB
        have t14 := Turn.trans (Turn.trans t13 hal.turn (fun _ _ h => h)) ht4 (fun _ _ h => h)
        have hbs4 : BsAt (w4.alloc (.cells #[.int .u8 x] 5)) (some ⟨w4.heap.size, 0, none⟩) [x] := BsAt.of_block (heap_alloc_new _ _) _ rfl (by simp; omega)
        have hA4 := (New.refl w4).alloc (.cells #[.int .u8 x] 5)
        clear hbl hal ht4 hs3 t13 ho3 hx e0 e1
        go_wp2_with (at_builtin; refine wpList_ap _ rfl (.tmp 36) (.tmp 41) rfl 0 Try.underlying22 hi hz0 hz1 hz2 (.slice (some ⟨g, 0, none⟩) m cap) m ys rfl (ho4.alloc _) (some ⟨w4.heap.size, 0, none⟩) 1 1 [x] rfl hbs4 rfl (by intro h; cases h) (by omega) (by omega) (Nat.zero_le _) (w4.heap.size + 1) (by simp) ?_)
        intro g5 cap5 w5 ho5 hgr5 hat5
        have tg : Turn (fun k => k = g) (w4.alloc (.cells #[.int .u8 x] 5)) w5 := Turn.of_grown hgr5
        have hs5 := (hs4.new hA4).turn tg (fun e => hgB e.symm) (fun y hz' hy e => by have := ha y hz' hy; omega)
        have hys5 : ∀ y ∈ ys ++ [x], 0 ≤ y ∧ y ≤ 255 := by intro y hy; rcases List.mem_append.1 hy with h' | h'; exact hys y h'; simp at h'; subst h'; exact hxb
        have hr5 : w5.ownsRow 0 5 1 (.slice (some ⟨g5, 0, none⟩) (m + 1) cap5) (m + 1) ((ys ++ [x]).map (Value.int .u8)) := by simpa using ho5
        have sz4 : w.heap.size ≤ w4.heap.size := t14.size
        have hg5 : g5 = g ∨ w.heap.size ≤ g5 := by
          rcases hat5 with h' | h'
          · left; simp [Value.ownBlock] at h'; omega
          · right; omega
        have t15 : Turn (fun k => k = B ∨ k = g) w w5 := Turn.trans (Turn.trans (TW.out t14) hA4.turn (fun _ _ h => h)) tg (fun i _ e => .inr e)
        clear ho5 hgr5 hat5 ho4 hbs4
        go_wp2
        go_ret
        exact ⟨⟨g5, m + 1, cap5, _, ys ++ [x], rfl, by omega, by omega, hr5, hys5, hg5, hs5⟩, t15⟩

end Go.Proofs.Ytdkjgjjkjfeodaa

namespace Go.Proofs.Ytdkjgjjkjfeodaa
open Go.RowKit Go.Sort
set_option linter.unusedVariables false

/-- Bytes of the call's own: at least five, at most 105. -/
def PkAns (w : World) (e : Ending) (w' : World) : Prop :=
  ∃ (g cap m : Nat) (ys : List Int), e = .returned (.slice (some ⟨g, 0, none⟩) m cap) ∧ 5 ≤ m ∧ m ≤ 105 ∧ ys.length = m ∧ w.heap.size ≤ g ∧ w'.ownsRow 0 5 1 (.slice (some ⟨g, 0, none⟩) m cap) m (ys.map (Value.int .u8)) ∧ (∀ y ∈ ys, 0 ≤ y ∧ y ≤ 255) ∧ New w w'

theorem l4Pack_ok (kd sa mh mi wh su : Int) (gs rs : List (Int × Int)) (xs : List Int) (has : Bool) (o nx md lc : Int) (x y z : Value) (lo : Nat) (w : World) (h : MsOk kd sa mh mi wh su gs rs xs has o nx md lc) (hx : OwQ w lo x gs) (hy : OwM w lo y xs) (hz : OwQ w lo z rs) :
    Calls Try.prog 78 #[.agg #[.int .i64 kd, .int .i64 sa, .int .i64 mh, .int .i64 mi, .int .i64 wh, .int .i64 su, x, .bool has, .int .i64 o, y, .int .i64 nx, .int .i64 md, .int .i64 lc, z]] w fun e w' => PkAns w e w' := by
  rcases h with ⟨rfl, h⟩ | ⟨rfl, h⟩ | rfl | ⟨rfl, h⟩
  · obtain ⟨xa, xc, rfl⟩ := hx.slice
    obtain ⟨ya, yc, rfl⟩ := hy.slice
    obtain ⟨za, zc, rfl⟩ := hz.slice
    refine (l4Pack1 sa mh mi wh su xa ya za gs.length xc xs.length yc rs.length zc has o nx md lc gs rs xs w h).mono ?_
    rintro e w' ⟨g, cap, rfl, hg, ho, hn⟩
    have hl : (packOf 1 (opB sa mh mi)).length = 5 + 5 := by simpa using ho.1
    exact ⟨g, cap, 5 + 5, _, rfl, by omega, by omega, hl, hg, ho, packOf_bd _ _ (opB_bd h) (by rw [packOf_length] at hl; omega) (by omega), hn⟩
  · obtain ⟨xa, xc, rfl⟩ := hx.slice
    obtain ⟨ya, yc, rfl⟩ := hy.slice
    obtain ⟨za, zc, rfl⟩ := hz.slice
    refine (l4Pack3 sa mh mi wh su xa ya za gs.length xc xs.length yc rs.length zc has o nx md lc gs rs xs w h).mono ?_
    rintro e w' ⟨g, cap, rfl, hg, ho, hn⟩
    obtain ⟨⟨h1, h2⟩, h3, h4⟩ := h
    refine ⟨g, cap, 2 + 5, _, rfl, by omega, by omega, rfl, hg, ho, packOf_bd _ _ ?_ (by simp) (by omega), hn⟩
    intro v hv
    simp only [List.mem_cons, List.not_mem_nil, or_false] at hv
    rcases hv with rfl | rfl <;> omega
  · obtain ⟨xa, xc, rfl⟩ := hx.slice
    obtain ⟨ya, yc, rfl⟩ := hy.slice
    obtain ⟨za, zc, rfl⟩ := hz.slice
    refine (l4Pack4 sa mh mi wh su xa ya za gs.length xc xs.length yc rs.length zc has o nx md lc gs rs xs w).mono ?_
    rintro e w' ⟨g, cap, rfl, hg, ho, hn⟩
    exact ⟨g, cap, 0 + 5, _, rfl, by omega, by omega, rfl, hg, ho, packOf_bd _ _ (by simp) (by simp) (by omega), hn⟩
  · obtain ⟨ig, ix, ir⟩ := uf_in h
    obtain ⟨xa, xc, rfl, px, -⟩ := hx.ps ig
    obtain ⟨ya, yc, rfl, py, -⟩ := hy.ns ix
    obtain ⟨za, zc, rfl, pz, -⟩ := hz.ps ir
    refine (l4Pack2 sa mh mi wh su xa ya za gs.length xc xs.length yc rs.length zc has o nx md lc gs rs xs w px py pz rfl rfl rfl h).mono ?_
    rintro e w' ⟨g, cap, l, hl, hl1, rfl, hg, ho, hn⟩
    have hl2 : (packOf 2 (upB gs has o xs nx md lc rs)).length = l + 5 := by rw [packOf_length, hl]
    exact ⟨g, cap, l + 5, _, rfl, by omega, by omega, hl2, hg, ho, packOf_bd _ _ (upB_bd h) (by omega) (by omega), hn⟩

/-- Bytes that were drawn. -/
def StAns (w : World) (B : Nat) (a : Option Addr) (n c : Nat) (zs : List Int) (t M : Nat) (e : Ending) (w' : World) : Prop :=
  ∃ (g m cap t' : Nat) (ys : List Int), e = .returned (.slice (some ⟨g, 0, none⟩) m cap) ∧ m ≤ M ∧ m ≤ cap ∧ ys.length = m ∧ t' ≤ t + 780 ∧ w.heap.size ≤ g ∧ BsAt w' (some ⟨g, 0, none⟩) ys ∧ Sc w' B a n c zs t' ∧ Turn (fun k => k = B) w w'

set_option maxHeartbeats 6400000 in
theorem l4Stream_sc {B n c t : Nat} {a : Option Addr} {zs : List Int} {w : World} (h : Sc w B a n c zs t) (ht : t ≤ 8000) :
    Calls Try.prog 80 #[.pointer (some ⟨B, 0, none⟩)] w fun e w' => StAns w B a n c zs t 400 e w' := by
  obtain ⟨i0, hi, hz0, hz1, hz2⟩ := info_parts Try.infoU8
  have hlt := h.blk.lt
  have ha := h.lt_of
  have hA1 := (New.refl w).alloc (.cells #[] 5)
  have ho1 := New.lit (w := w) 0 [] w.heap.size rfl rfl (by omega) #[] rfl
  go_enter Try.func80, Try.ntmps80
  go_wp2_with fail
  refine (next_sc (h.new hA1) 4 (by omega) (by omega)).mono ?_
  rintro e w2 ⟨r2, rfl, hd2, hs2, ht2⟩
  obtain ⟨q1, q2, -⟩ := hd2
  have q2 := q2 (by omega)
  obtain ⟨k0, rfl⟩ := Int.eq_ofNat_of_zero_le q1
  have ho2 := own_turn ho1 ht2 (by omega)
  have tw2 : Turn (fun k => k = B) w w2 := Turn.trans hA1.turn ht2 (fun _ _ e => e)
  clear ho1 ht2
  go_wp2_with fail
  go_loopw [3, 4] (fun s4 s5 wr => ∃ (k g m cap t' : Nat) (ys : List Int), k ≤ 3 ∧ s5 = .int .i64 k ∧ s4 = .slice (some ⟨g, 0, none⟩) m cap ∧ w.heap.size ≤ g ∧ m + 105 * k ≤ 315 ∧ t' + 252 * k ≤ t + 760 ∧ wr.ownsRow 0 5 1 (.slice (some ⟨g, 0, none⟩) m cap) m (ys.map (Value.int .u8)) ∧ (∀ y ∈ ys, 0 ≤ y ∧ y ≤ 255) ∧ Sc wr B a n c zs t' ∧ Turn (fun k => k = B) w wr) (fun _ s5 _ => (intOf s5).toNat)
  case atStart => exact ⟨k0, w.heap.size, 0, 0, _, [], by omega, rfl, rfl, by omega, by omega, by omega, ho2, by simp, hs2, tw2⟩
  case round =>
    obtain ⟨k, g, m, cap, t', ys, hk, rfl, rfl, hg, hmk, htk, ho, hys, hsc, hnw⟩ := hrel
    have zr := hnw.size
    have hgB : g ≠ B := fun e => hsc.blk.ne_own ho (by decide) e.symm
    by_cases hlt' : 0 < k
    · go_wp2_with fail
      refine (l4Message_ok hsc (by omega)).mono ?_
      rintro e w3 ⟨kd, sa, mh, mi, wh, su, gs, rs, xs, has, o, nx, md, lc, x, y, z, t3, rfl, hok, -, -, -, -, -, -, oQ, oM, oR, ht3, hs3, tn3⟩
      have hog := own_turn ho tn3 hgB
      have tw3 : Turn (fun k => k = B) w w3 := Turn.trans hnw tn3 (fun _ _ e => e)
      clear ho hsc tn3
      go_wp2_with fail
      refine (l4Pack_ok kd sa mh mi wh su gs rs xs has o nx md lc x y z _ _ hok oQ oM oR).mono ?_
      rintro e w5 ⟨g5, cap5, m5, ys5, rfl, j5, j105, hl5, hg5, ho5, hys5, hn5⟩
      have hog5 := own_new hog hn5
      have hs5 := hs3.new hn5
      have tw5 := Turn.trans tw3 hn5 (fun _ _ e => e.elim)
      have hb5 := BsAt.of_own ho5 hys5
      have HL5 : Hid (ys5.length = m5) := hl5
      clear hog hs3 ho5 oQ oM oR hl5 hok
      go_wp2_with (at_builtin; refine wpList_ap _ rfl (.tmp 12) (.tmp 15) rfl 0 Try.underlying22 hi hz0 hz1 hz2 (.slice (some ⟨g, 0, none⟩) m cap) m ys rfl hog5 (some ⟨g5, 0, none⟩) m5 cap5 ys5 rfl hb5 HL5.out (by intro h; cases h) (by omega) (by omega) (Nat.zero_le _) w5.heap.size rfl ?_)
      intro g6 cap6 w6 ho6 hgr6 hat6
      have tg : Turn (fun k => k = g) w5 w6 := Turn.of_grown hgr6
      have hs6 := hs5.turn tg (fun e => hgB e.symm) (fun y hz' hy e => by have := ha y hz' hy; omega)
      have tw6 : Turn (fun k => k = B) w w6 := Turn.trans tw5 tg (fun i hi e => by omega)
      have hg6 : w.heap.size ≤ g6 := by
        rcases hat6 with h' | h'
        · simp [Value.ownBlock] at h'; omega
        · have := tw5.size; omega
      have hys6 : ∀ y ∈ ys ++ ys5, 0 ≤ y ∧ y ≤ 255 := by intro y hy; rcases List.mem_append.1 hy with h' | h'; exact hys y h'; exact hys5 y h'
      have ho6' : w6.ownsRow 0 5 1 (.slice (some ⟨g6, 0, none⟩) (m + m5) cap6) (m + m5) ((ys ++ ys5).map (Value.int .u8)) := by simpa using ho6
      clear hgr6 hat6 hog5 hb5 ho6 tg
      go_wp2
      go_roundw
      case rel => exact ⟨k - 1, g6, m + m5, cap6, _, ys ++ ys5, by omega, by go_num, rfl, hg6, by omega, by omega, ho6', hys6, hs6, tw6⟩
      case measure => simp [intOf]; omega
    · obtain rfl : k = 0 := by omega
      go_wp2_with fail
      refine (turn2_sc hsc (by omega) (fun x hz' hx => by have := ha x hz' hx; omega) ho hys (by omega)).mono ?_
      rintro e w4 ⟨⟨g4, m4, cap4, t4, ys4, rfl, hm4, ht4', ho4, hy4, hg4, hs4⟩, ht4⟩
      have hb4 := BsAt.of_own ho4 hy4
      have hc4 := own_cap9 ho4
      have hl4 : ys4.length = m4 := by simpa using ho4.1
      have HL4 : Hid (ys4.length = m4) := hl4
      have hg4' : w.heap.size ≤ g4 := by omega
      clear ho4 hl4 hg4
      have tw4 : Turn (fun k => k = B) w w4 := Turn.trans hnw ht4 (fun i hi e => by omega)
      go_wp2
      go_ret
      exact ⟨g4, m4, cap4, t4, ys4, rfl, by omega, hc4, HL4.out, by omega, hg4', hb4, hs4, tw4⟩

end Go.Proofs.Ytdkjgjjkjfeodaa

namespace Go.Proofs.Ytdkjgjjkjfeodaa
open Go.RowKit Go.Sort
set_option linter.unusedVariables false

/-- Bytes that were drawn: one at least. -/
def ByAns (w : World) (B : Nat) (a : Option Addr) (n c : Nat) (zs : List Int) (t : Nat) (e : Ending) (w' : World) : Prop :=
  ∃ (g m cap t' : Nat) (ys : List Int), e = .returned (.slice (some ⟨g, 0, none⟩) m cap) ∧ 1 ≤ m ∧ m ≤ 60 ∧ m ≤ cap ∧ ys.length = m ∧ t' ≤ t + 800 ∧ w.heap.size ≤ g ∧ BsAt w' (some ⟨g, 0, none⟩) ys ∧ Sc w' B a n c zs t' ∧ Turn (fun k => k = B) w w'

set_option maxRecDepth 100000 in
set_option maxHeartbeats 6400000 in
theorem l9Bytes_sc {B n c t : Nat} {a : Option Addr} {zs : List Int} {w : World} (h : Sc w B a n c zs t) (ht : t ≤ 7900) (pe : Int) (hp0 : 0 ≤ pe) (hp2 : pe ≤ 2) :
    Calls Try.prog 77 #[.pointer (some ⟨B, 0, none⟩), .int .i64 pe] w fun e w' => ByAns w B a n c zs t e w' := by
  obtain ⟨i0, hi, hz0, hz1, hz2⟩ := info_parts Try.infoU8
  have hlt := h.blk.lt
  have ha := h.lt_of
  have hA1 := (New.refl w).alloc (.cells #[] 5)
  have hwp : IntKind.i64.wrap (pe + 1) = pe + 1 := wrap_in (by omega)
  go_enter Try.func77, Try.ntmps77
  go_wp2_with fail
  refine (next_sc (h.new hA1) 6 (by omega) (by omega)).mono ?_
  rintro e w2 ⟨y0, rfl, hd2, hs2, ht2⟩
  obtain ⟨q1, q2, -⟩ := hd2
  have q2 := q2 (by omega)
  have tw2 : Turn (fun k => k = B) w w2 := Turn.trans hA1.turn ht2 (fun _ _ e => e)
  clear ht2
  by_cases g01 : y0 = 0 ∨ y0 = 1
  · have hop : Opn (pe + 1) 9 (pe + 1) := ⟨by omega, by unfold Hl; omega, by omega⟩
    rcases g01 with rfl | rfl
    all_goals
      go_wp2_with fail
      refine (l4Pack1 (pe + 1) 9 (pe + 1) 0 0 none none none 0 0 0 0 0 0 false 0 0 0 0 [] [] [] _ hop).mono ?_
      rintro e w3 ⟨g3, cap3, rfl, hg3, ho3, hn3⟩
      have hs3 := hs2.new hn3
      have tw3 : Turn (fun k => k = B) w w3 := Turn.trans tw2 hn3 (fun _ _ e => e.elim)
      go_wp2_with fail
      refine (l4Pack4 0 0 0 0 0 none none none 0 0 0 0 0 0 false 0 0 0 0 [] [] [] _).mono ?_
      rintro e w4 ⟨g4, cap4, rfl, hg4, ho4, hn4⟩
      have hs4 := hs3.new hn4
      have tw4 : Turn (fun k => k = B) w w4 := Turn.trans tw3 hn4 (fun _ _ e => e.elim)
      have ho34 := own_new ho3 hn4
      have hb4 : BsAt w4 (some ⟨g4, 0, none⟩) (packOf 4 []) := BsAt.of_own ho4 (packOf_bd _ _ (by simp) (by simp) (by omega))
      have b1 := packOf_bd 1 _ (opB_bd hop) (by simp [opB]) (by omega)
      have z2 := tw2.size
      have z3 := hn3.size
      have hgB : ¬ g3 = B := by omega
      go_wp2_with (at_builtin; refine wpList_ap _ rfl (.tmp 17) (.tmp 19) rfl 0 Try.underlying22 hi hz0 hz1 hz2 (.slice (some ⟨g3, 0, none⟩) (5 + 5) cap3) (5 + 5) (packOf 1 (opB (pe + 1) 9 (pe + 1))) rfl ho34 (some ⟨g4, 0, none⟩) (0 + 5) cap4 (packOf 4 []) rfl hb4 rfl (by intro h; cases h) (by omega) (by omega) (Nat.zero_le _) w4.heap.size rfl ?_)
      intro g6 cap6 w6 ho6 hgr6 hat6
      have tg : Turn (fun k => k = g3) w4 w6 := Turn.of_grown hgr6
      have hs6 := hs4.turn tg (fun e => hgB e.symm) (fun y hz' hy e => by have := ha y hz' hy; omega)
      have tw6 : Turn (fun k => k = B) w w6 := Turn.trans tw4 tg (fun i hi e => by omega)
      have hb6 : BsAt w6 (some ⟨g6, 0, none⟩) (packOf 1 (opB (pe + 1) 9 (pe + 1)) ++ packOf 4 []) := BsAt.of_own ho6 (by intro y hy; rcases List.mem_append.1 hy with h' | h'; exact b1 y h'; exact packOf_bd 4 [] (by simp) (by simp) (by omega) y h')
      have hc6 := own_cap9 ho6
      have hg6 : w.heap.size ≤ g6 := by
        rcases hat6 with h' | h'
        · simp [Value.ownBlock] at h'; omega
        · have := tw4.size; omega
      have hl6 : (packOf 1 (opB (pe + 1) 9 (pe + 1)) ++ packOf 4 []).length = 15 := by simpa using ho6.1
      clear ho6 hgr6 hat6 tg ho34 hb4 ho3 ho4
      go_wp2
      go_ret
      exact ⟨g6, 15, cap6, _, _, rfl, by omega, by omega, by omega, hl6, by omega, hg6, hb6, hs6, tw6⟩
  have n0 : (y0 == 0) = false := by simp; omega
  have n1 : (y0 == 1) = false := by simp; omega
  by_cases g2 : y0 = 2
  · subst g2
    go_wp2_with fail
    refine (l4Pack4 0 0 0 0 0 none none none 0 0 0 0 0 0 false 0 0 0 0 [] [] [] _).mono ?_
    rintro e w4 ⟨g4, cap4, rfl, hg4, ho4, hn4⟩
    have hs4 := hs2.new hn4
    have tw4 : Turn (fun k => k = B) w w4 := Turn.trans tw2 hn4 (fun _ _ e => e.elim)
    have hb4 : BsAt w4 (some ⟨g4, 0, none⟩) (packOf 4 []) := BsAt.of_own ho4 (packOf_bd _ _ (by simp) (by simp) (by omega))
    have hc4 := own_cap9 ho4
    have hG4 : w.heap.size ≤ g4 := by have := tw2.size; omega
    clear ho4
    go_wp2
    go_ret
    exact ⟨g4, 5, cap4, _, _, rfl, by omega, by omega, by omega, rfl, by omega, hG4, hb4, hs4, tw4⟩
  have n2 : (y0 == 2) = false := by simp; omega
  by_cases g34 : y0 = 3 ∨ y0 = 4
  · rcases g34 with rfl | rfl
    all_goals
      go_wp2_with fail
      refine (l3DrawUpdate_sc hs2 (by omega)).mono ?_
      rintro e w3 ⟨gs, rs, xs, has, o, nx, md, lc, x, y, z, t3, rfl, huf, -, -, -, ht3, oQ, oM, oR, hs3, tn3, -, -, -⟩
      have tw3 : Turn (fun k => k = B) w w3 := Turn.trans tw2 tn3 (fun _ _ e => e)
      go_wp2_with fail
      refine (l4Pack_ok 2 0 0 0 0 0 gs rs xs has o nx md lc x y z _ _ (.inr (.inr (.inr ⟨rfl, huf⟩))) oQ oM oR).mono ?_
      rintro e w4 ⟨g4, cap4, m4, ys4, rfl, j5, j105, hl4, hg4, ho4, hys4, hn4⟩
      have hs4 := hs3.new hn4
      have tw4 : Turn (fun k => k = B) w w4 := Turn.trans tw3 hn4 (fun _ _ e => e.elim)
      have hb4 := BsAt.of_own ho4 hys4
      have hc4 := own_cap9 ho4
      have hG4 : w.heap.size ≤ g4 := by have := tw3.size; omega
      have HL4 : Hid (ys4.length = m4) := hl4
      clear ho4 oQ oM oR hl4
      by_cases hbig : 60 < m4
      · go_wp2
        go_ret
        exact ⟨g4, 60, cap4, _, ys4.take 60, rfl, by omega, by omega, by omega, by have := HL4.out; rw [List.length_take]; omega, by omega, hG4, hb4.take 60, hs4, tw4⟩
      · go_wp2
        go_ret
        exact ⟨g4, m4, cap4, _, ys4, rfl, by omega, by omega, by omega, HL4.out, by omega, hG4, hb4, hs4, tw4⟩
  have n3 : (y0 == 3) = false := by simp; omega
  have n4 : (y0 == 4) = false := by simp; omega
  obtain rfl : y0 = 5 := by omega
  go_wp2_with fail
  refine (l4Stream_sc hs2 (by omega)).mono ?_
  rintro e w4 ⟨g4, m4, cap4, t4, ys4, rfl, hm4, hc4, hl4, ht4, hg4, hb4, hs4, tn4⟩
  have hG4 : w.heap.size ≤ g4 := by have := tw2.size; omega
  have tw4 : Turn (fun k => k = B) w w4 := Turn.trans tw2 tn4 (fun _ _ e => e)
  have HL4 : Hid (ys4.length = m4) := hl4
  clear hl4
  by_cases hbig : 60 < m4
  · go_wp2
    go_ret
    exact ⟨g4, 60, cap4, _, ys4.take 60, rfl, by omega, by omega, by omega, by have := HL4.out; rw [List.length_take]; omega, by omega, hG4, hb4.take 60, hs4, tw4⟩
  · by_cases hz4 : m4 = 0
    · subst hz4
      have hA := (New.refl w4).alloc (.cells #[.int .u8 255] 5)
      have ho := New.lit (w := w4) 1 [255] w4.heap.size rfl rfl (by omega) #[.int .u8 255] rfl
      go_wp2
      go_ret
      exact ⟨w4.heap.size, 1, 1, _, [255], rfl, by omega, by omega, by omega, rfl, by omega, by have := tw4.size; omega, BsAt.of_own ho (by simp), hs4.new hA, Turn.trans tw4 hA (fun _ _ e => e.elim)⟩
    · go_wp2
      go_ret
      exact ⟨g4, m4, cap4, _, ys4, rfl, by omega, by omega, by omega, HL4.out, by omega, hG4, hb4, hs4, tw4⟩

end Go.Proofs.Ytdkjgjjkjfeodaa

namespace Go.Proofs.Ytdkjgjjkjfeodaa
open Go.RowKit Go.Sort
set_option linter.unusedVariables false

/-- Bytes that lie somewhere, or none. -/
def EqB (w : World) (q : Option Addr) (l cl : Nat) (es : List Int) : Prop := BsAt w q es ∧ es.length = l ∧ l ≤ cl ∧ ((q = none ∧ l = 0 ∧ cl = 0) ∨ ∃ g, q = some ⟨g, 0, none⟩ ∧ g < w.heap.size)
theorem EqB.nil (w : World) : EqB w none 0 0 [] := ⟨BsAt.nil _ _, rfl, Nat.le_refl _, .inl ⟨rfl, rfl, rfl⟩⟩
theorem EqB.turn {w w' : World} {q : Option Addr} {l cl : Nat} {es : List Int} {S : Nat → Prop} (h : EqB w q l cl es) (t : Turn S w w') (hS : ∀ x, q = some x → ¬ S x.block) : EqB w' q l cl es :=
  ⟨h.1.turn t hS, h.2.1, h.2.2.1, h.2.2.2.elim .inl (fun ⟨g, e, hg⟩ => .inr ⟨g, e, Nat.lt_of_lt_of_le hg t.size⟩)⟩

/-- An event that was drawn. -/
def EvAns (w : World) (B : Nat) (a : Option Addr) (n c : Nat) (zs : List Int) (t : Nat) (e : Ending) (w' : World) : Prop :=
  ∃ (ki pe : Int) (q : Option Addr) (l cl t' : Nat) (es : List Int), e = .returned (.agg #[.int .i64 ki, .int .i64 pe, .slice q l cl]) ∧ EqB w' q l cl es ∧ l ≤ 60 ∧ (1 ≤ ki ∧ ki ≤ 4) ∧ (0 ≤ pe ∧ pe ≤ 2) ∧ t' ≤ t + 810 ∧ (∀ x, q = some x → w.heap.size < x.block) ∧ Sc w' B a n c zs t' ∧ Turn (fun k => k = B) w w'

set_option maxRecDepth 100000 in
set_option maxHeartbeats 6400000 in
theorem l9Event_sc {B n c t : Nat} {a : Option Addr} {zs : List Int} {w : World} (h : Sc w B a n c zs t) (ht : t ≤ 7800) :
    Calls Try.prog 71 #[.pointer (some ⟨B, 0, none⟩)] w fun e w' => EvAns w B a n c zs t e w' := by
  have hlt := h.blk.lt
  have hA := h.lt_of
  have N0 : New w (w.alloc (.cells #[.int .i64 0, .int .i64 0, .slice none 0 0] 38)) := (New.refl w).alloc _
  have bR0 := Blk.mk w w.heap.size 38 #[.int .i64 0, .int .i64 0, .slice none 0 0] rfl
  have hs0 := h.new N0
  have tT0 : Turn (fun k => k = B) w (w.alloc (.cells #[.int .i64 0, .int .i64 0, .slice none 0 0] 38)) := N0.turn
  have hRB : ¬ w.heap.size = B := by omega
  have hSR : ∀ x, zs ≠ [] → a = some x → ¬ x.block = w.heap.size := fun x h1 h2 e => by have := hA x h1 h2; omega
  go_enter Try.func71, Try.ntmps71
  go_wp2_with fail
  refine (next_sc hs0 3 (by omega) (by omega)).mono ?_
  rintro e w1 ⟨p, rfl, ⟨p0, p1, -⟩, hs1, tn1⟩
  have p1 := p1 (by omega)
  have bR1 := bR0.turn tn1 hRB
  have tT1 := Turn.both tT0 tn1
  clear bR0 tT0
  go_wp2_with fail
  refine (next_sc hs1 10 (by omega) (by omega)).mono ?_
  rintro e w2 ⟨y0, rfl, -, hs2, tn2⟩
  have bR2 := bR1.turn tn2 hRB
  have tT2 := Turn.both tT1 tn2
  have z2 : w.heap.size < w2.heap.size := bR2.lt
  clear bR1 tT1
  by_cases g0 : y0 = 0
  · subst g0
    have cR := bR2.cells
    have fR := bR2.frees
    go_wp2
    refine bodyPost_ret (v := .agg #[.int .i64 1, .int .i64 p, .slice none 0 0]) (by simp [results, Try.results71, go_sem, cR]) rfl ?_
    refine (fun (hT : Turn (fun k => k = w.heap.size) w2 _) => ⟨1, p, none, 0, 0, _, [], rfl, EqB.nil _, by omega, by omega, by omega, by omega, (fun x hx => by cases hx), hs2.turn hT (fun e => hRB e.symm) hSR, Turn.trans tT2 hT (fun i hi e => by omega)⟩) ?_
    exact Turn.hereD (Turn.hereD (Turn.hereD (Turn.refl _ _) _) _) _
  have e0 : (y0 == 0) = false := by simpa using g0
  by_cases g1 : y0 = 1
  · subst g1
    have cR := bR2.cells
    have fR := bR2.frees
    go_wp2
    refine bodyPost_ret (v := .agg #[.int .i64 3, .int .i64 0, .slice none 0 0]) (by simp [results, Try.results71, go_sem, cR]) rfl ?_
    refine (fun (hT : Turn (fun k => k = w.heap.size) w2 _) => ⟨3, 0, none, 0, 0, _, [], rfl, EqB.nil _, by omega, by omega, by omega, by omega, (fun x hx => by cases hx), hs2.turn hT (fun e => hRB e.symm) hSR, Turn.trans tT2 hT (fun i hi e => by omega)⟩) ?_
    exact Turn.hereD (Turn.hereD (Turn.hereD (Turn.refl _ _) _) _) _
  have e1 : (y0 == 1) = false := by simpa using g1
  by_cases g2 : y0 = 2
  · subst g2
    go_wp2_with fail
    refine (chance_sc hs2 4 (by omega) (by omega)).mono ?_
    rintro e w3 ⟨r3, rfl, hs3, tn3⟩
    have bR3 := bR2.turn tn3 hRB
    have tT3 := Turn.both tT2 tn3
    clear bR2 tT2
    cases r3 with
    | true =>
      have cR := bR3.cells
      have fR := bR3.frees
      go_wp2
      refine bodyPost_ret (v := .agg #[.int .i64 4, .int .i64 p, .slice none 0 0]) (by simp [results, Try.results71, go_sem, cR]) rfl ?_
      refine (fun (hT : Turn (fun k => k = w.heap.size) w3 _) => ⟨4, p, none, 0, 0, _, [], rfl, EqB.nil _, by omega, by omega, by omega, by omega, (fun x hx => by cases hx), hs3.turn hT (fun e => hRB e.symm) hSR, Turn.trans tT3 hT (fun i hi e => by omega)⟩) ?_
      exact Turn.hereD (Turn.hereD (Turn.hereD (Turn.refl _ _) _) _) _
    | false =>
      have cR := bR3.cells
      have fR := bR3.frees
      go_wp2
      refine bodyPost_ret (v := .agg #[.int .i64 3, .int .i64 0, .slice none 0 0]) (by simp [results, Try.results71, go_sem, cR]) rfl ?_
      refine (fun (hT : Turn (fun k => k = w.heap.size) w3 _) => ⟨3, 0, none, 0, 0, _, [], rfl, EqB.nil _, by omega, by omega, by omega, by omega, (fun x hx => by cases hx), hs3.turn hT (fun e => hRB e.symm) hSR, Turn.trans tT3 hT (fun i hi e => by omega)⟩) ?_
      exact Turn.hereD (Turn.hereD (Turn.hereD (Turn.refl _ _) _) _) _
  have e2 : (y0 == 2) = false := by simpa using g2
  go_wp2_with fail
  refine (l9Bytes_sc hs2 (by omega) p p0 (by omega)).mono ?_
  rintro e w3 ⟨g, m, cap, t3, es, rfl, m1, m60, mc, hl, ht3, hgw, hb, hs3, tn3⟩
  have bR3 := bR2.turn tn3 hRB
  have tT3 := Turn.both tT2 tn3
  have hge : g < w3.heap.size ∧ w.heap.size < g := ⟨(by obtain ⟨b, off, e, hlt3⟩ := hb.block_lt (by intro e; subst e; simp at hl; omega); cases e; exact hlt3), (by have := z2; omega)⟩
  have hE : EqB w3 (some ⟨g, 0, none⟩) m cap es := ⟨hb, hl, mc, .inr ⟨g, rfl, hge.1⟩⟩
  clear bR2 tT2 hb hl
  have cR := bR3.cells
  have fR := bR3.frees
  go_wp2
  refine bodyPost_ret (v := .agg #[.int .i64 2, .int .i64 p, .slice (some ⟨g, 0, none⟩) m cap]) (by simp [results, Try.results71, go_sem, cR]) rfl ?_
  refine (fun (hT : Turn (fun k => k = w.heap.size) w3 _) => ⟨2, p, some ⟨g, 0, none⟩, m, cap, _, es, rfl, hE.turn hT (fun x hx e => by cases hx; exact absurd e (by simp; omega)), by omega, by omega, by omega, by omega, (fun x hx => by cases hx; exact hge.2), hs3.turn hT (fun e => hRB e.symm) hSR, Turn.trans tT3 hT (fun i hi e => by omega)⟩) ?_
  exact Turn.hereD (Turn.hereD (Turn.hereD (Turn.refl _ _) _) _) _

end Go.Proofs.Ytdkjgjjkjfeodaa

namespace Go.Proofs.Ytdkjgjjkjfeodaa
open Go.RowKit Go.Sort
set_option linter.unusedVariables false

/-- An entry that was drawn. -/
def EnDr (w : World) (B : Nat) (a : Option Addr) (n c : Nat) (zs : List Int) (t : Nat) (e : Ending) (w' : World) : Prop :=
  ∃ (ep ki pe : Int) (q : Option Addr) (l cl t' : Nat) (es : List Int), e = .returned (.agg #[.int .i64 ep, .int .i64 ki, .int .i64 pe, .slice q l cl]) ∧ EqB w' q l cl es ∧ l ≤ 60 ∧ (1 ≤ ep ∧ ep ≤ 4) ∧ (1 ≤ ki ∧ ki ≤ 4) ∧ (0 ≤ pe ∧ pe ≤ 2) ∧ t' ≤ t + 820 ∧ Sc w' B a n c zs t' ∧ Turn (fun k => k = B) w w'

set_option maxRecDepth 100000 in
set_option maxHeartbeats 6400000 in
theorem l10Entry_sc {B n c t : Nat} {a : Option Addr} {zs : List Int} {w : World} (h : Sc w B a n c zs t) (ht : t ≤ 7700) :
    Calls Try.prog 55 #[.pointer (some ⟨B, 0, none⟩)] w fun e w' => EnDr w B a n c zs t e w' := by
  have hlt := h.blk.lt
  have hA := h.lt_of
  have N0 : New w (w.alloc (.cells #[.int .i64 0, .int .i64 0, .int .i64 0, .slice none 0 0] 40)) := (New.refl w).alloc _
  have bR0 := Blk.mk w w.heap.size 40 #[.int .i64 0, .int .i64 0, .int .i64 0, .slice none 0 0] rfl
  have hs0 := h.new N0
  have tT0 : Turn (fun k => k = B) w (w.alloc (.cells #[.int .i64 0, .int .i64 0, .int .i64 0, .slice none 0 0] 40)) := N0.turn
  have hRB : ¬ w.heap.size = B := by omega
  have hSR : ∀ x, zs ≠ [] → a = some x → ¬ x.block = w.heap.size := fun x h1 h2 e => by have := hA x h1 h2; omega
  go_enter Try.func55, Try.ntmps55
  go_wp2_with fail
  refine (next_sc hs0 4 (by omega) (by omega)).mono ?_
  rintro e w1 ⟨y, rfl, ⟨p0, p1, -⟩, hs1, tn1⟩
  have p1 := p1 (by omega)
  have bR1 := bR0.turn tn1 hRB
  have tT1 := Turn.both tT0 tn1
  have hwy : IntKind.i64.wrap (1 + y) = 1 + y := wrap_in (by omega)
  have z1 : w.heap.size < w1.heap.size := bR1.lt
  clear bR0 tT0
  go_wp2_with fail
  refine (l9Event_sc hs1 (by omega)).mono ?_
  rintro e w2 ⟨ki, pe, q, l, cl, t2, es, rfl, hE, hl, hk, hp, ht2, hq, hs2, tn2⟩
  have bR2 := bR1.turn tn2 hRB
  have tT2 := Turn.both tT1 tn2
  clear bR1 tT1
  have cR := bR2.cells
  have fR := bR2.frees
  go_wp2
  refine bodyPost_ret (v := .agg #[.int .i64 (1 + y), .int .i64 ki, .int .i64 pe, .slice q l cl]) (by simp [results, Try.results55, go_sem, cR]) rfl ?_
  refine (fun (hT : Turn (fun k => k = w.heap.size) w2 _) => ⟨1 + y, ki, pe, q, l, cl, _, es, rfl, hE.turn hT (fun x hx e => by have := hq x hx; omega), hl, by omega, hk, hp, by omega, hs2.turn hT (fun e => hRB e.symm) hSR, Turn.trans tT2 hT (fun i hi e => by omega)⟩) ?_
  exact Turn.hereD (Turn.hereD (Turn.hereD (Turn.hereD (Turn.refl _ _) _) _) _) _

end Go.Proofs.Ytdkjgjjkjfeodaa

namespace Go.Proofs.Ytdkjgjjkjfeodaa
open Go.RowKit Go.Sort
set_option linter.unusedVariables false

/-- The two lists of a journal, of the call's own, apart. -/
structure Jd (w : World) (lo : Nat) (A1 : Option Addr) (n1 c1 : Nat) (A2 : Option Addr) (n2 c2 : Nat) (us vs : List Int) : Prop where
  l1 : us.length = n1
  l2 : vs.length = n2
  o1 : OvB w lo (.slice A1 n1 c1) us
  o2 : OvB w lo (.slice A2 n2 c2) vs
  ap : ∀ x y, A1 = some x → A2 = some y → x.block ≠ y.block
  b1 : ∀ z ∈ us, 0 ≤ z ∧ z ≤ 255
  b2 : ∀ z ∈ vs, 0 ≤ z ∧ z ≤ 255

theorem Jd.turn {w w' : World} {lo n1 c1 n2 c2 : Nat} {A1 A2 : Option Addr} {us vs : List Int} {S : Nat → Prop} (h : Jd w lo A1 n1 c1 A2 n2 c2 us vs) (t : Turn S w w') (hS : ∀ k, lo ≤ k → k < w.heap.size → ¬ S k) : Jd w' lo A1 n1 c1 A2 n2 c2 us vs :=
  ⟨h.l1, h.l2, h.o1.turn t hS, h.o2.turn t hS, h.ap, h.b1, h.b2⟩

theorem Jd.new {w w' : World} {lo n1 c1 n2 c2 : Nat} {A1 A2 : Option Addr} {us vs : List Int} (h : Jd w lo A1 n1 c1 A2 n2 c2 us vs) (t : New w w') : Jd w' lo A1 n1 c1 A2 n2 c2 us vs := h.turn t (fun _ _ _ f => f)

theorem Jd.low {w : World} {lo lo' n1 c1 n2 c2 : Nat} {A1 A2 : Option Addr} {us vs : List Int} (h : Jd w lo A1 n1 c1 A2 n2 c2 us vs) (hl : lo' ≤ lo) : Jd w lo' A1 n1 c1 A2 n2 c2 us vs :=
  ⟨h.l1, h.l2, h.o1.low hl, h.o2.low hl, h.ap, h.b1, h.b2⟩

theorem ov_open {w : World} {lo n c : Nat} {A : Option Addr} {us : List Int} (h : OvB w lo (.slice A n c) us) (hl : us.length = n) (hb : ∀ z ∈ us, 0 ≤ z ∧ z ≤ 255) : BsAt w A us ∧ n ≤ c ∧ ((A = none ∧ n = 0 ∧ c = 0) ∨ ∃ g, A = some ⟨g, 0, none⟩ ∧ lo ≤ g ∧ g < w.heap.size) := by
  obtain ⟨a, d, e, h1, h2, h3, -⟩ := h.bs hb
  cases e
  exact ⟨h1, h2, h3⟩

theorem Jd.nl1 {w : World} {lo n1 c1 n2 c2 : Nat} {A1 A2 : Option Addr} {us vs : List Int} (h : Jd w lo A1 n1 c1 A2 n2 c2 us vs) : Nl A1 n1 c1 := by
  rcases (ov_open h.o1 h.l1 h.b1).2.2 with h' | ⟨g, e, _⟩
  · exact .inl h'
  · exact .inr ⟨g, 0, e⟩

theorem Jd.nl2 {w : World} {lo n1 c1 n2 c2 : Nat} {A1 A2 : Option Addr} {us vs : List Int} (h : Jd w lo A1 n1 c1 A2 n2 c2 us vs) : Nl A2 n2 c2 := by
  rcases (ov_open h.o2 h.l2 h.b2).2.2 with h' | ⟨g, e, _⟩
  · exact .inl h'
  · exact .inr ⟨g, 0, e⟩

theorem Jd.nil (w : World) (lo : Nat) : Jd w lo none 0 0 none 0 0 [] [] :=
  ⟨rfl, rfl, ⟨rfl, .inl ⟨rfl, rfl⟩⟩, ⟨rfl, .inl ⟨rfl, rfl⟩⟩, (by intro x y h; cases h), (by intro z hz; cases hz), (by intro z hz; cases hz)⟩

theorem jr_jd {w w' : World} {z ct : Int} {us vs : List Int} {e : Ending} (h : JrAns w z ct us vs e w') (h1 : ∀ z ∈ us, 0 ≤ z ∧ z ≤ 255) (h2 : ∀ z ∈ vs, 0 ≤ z ∧ z ≤ 255) :
    ∃ A1 n1 c1 A2 n2 c2, e = .returned (.agg #[.int .i64 z, .int .i64 ct, .slice A1 n1 c1, .slice A2 n2 c2]) ∧ Jd w' w.heap.size A1 n1 c1 A2 n2 c2 us vs ∧ New w w' := by
  obtain ⟨a, b, c, d, rfl, o1, o2, ap, hn⟩ := h
  exact ⟨a, _, c, b, _, d, rfl, ⟨rfl, rfl, o1, o2, ap, h1, h2⟩, hn⟩

theorem ax_bd {us vs es : List Int} {ep ki pe : Int} (h1 : ∀ z ∈ us, 0 ≤ z ∧ z ≤ 255) (h2 : ∀ z ∈ vs, 0 ≤ z ∧ z ≤ 255) (h3 : ∀ z ∈ es, 0 ≤ z ∧ z ≤ 255) (he : 1 ≤ ep ∧ ep ≤ 1000) (hk : 1 ≤ ki ∧ ki ≤ 4) (hp : 0 ≤ pe ∧ pe ≤ 2) (hn : es.length ≤ 60) :
    (axA us vs ep ki pe es).2.2.1.length + (axA us vs ep ki pe es).2.2.2.length ≤ us.length + vs.length + 68 ∧ (∀ z ∈ (axA us vs ep ki pe es).2.2.1, 0 ≤ z ∧ z ≤ 255) ∧ (∀ z ∈ (axA us vs ep ki pe es).2.2.2, 0 ≤ z ∧ z ≤ 255) := by
  have hl := enP_len ep ki pe es
  have hb := enP_bd h3 he hk hp hn
  unfold axA
  split
  · split
    · split
      · exact ⟨by simp, (by intro z hz; cases hz), (by intro z hz; cases hz)⟩
      · refine ⟨by simp [hl]; omega, h1, ?_⟩
        intro z hz
        rcases List.mem_append.1 hz with hz | hz
        · exact h2 z hz
        · exact hb z hz
    · exact ⟨by simp, (by intro z hz; cases hz), (by intro z hz; cases hz)⟩
  · exact ⟨by simp, (by intro z hz; cases hz), (by intro z hz; cases hz)⟩

theorem sy_bd {us vs : List Int} (h1 : ∀ z ∈ us, 0 ≤ z ∧ z ≤ 255) (h2 : ∀ z ∈ vs, 0 ≤ z ∧ z ≤ 255) :
    (syA us vs).2.2.1.length + (syA us vs).2.2.2.length ≤ us.length + vs.length ∧ (∀ z ∈ (syA us vs).2.2.1, 0 ≤ z ∧ z ≤ 255) ∧ (∀ z ∈ (syA us vs).2.2.2, 0 ≤ z ∧ z ≤ 255) := by
  unfold syA
  split
  · refine ⟨by simp, ?_, (by intro z hz; cases hz)⟩
    intro z hz
    rcases List.mem_append.1 hz with hz | hz
    · exact h1 z hz
    · exact h2 z hz
  · exact ⟨by simp, (by intro z hz; cases hz), (by intro z hz; cases hz)⟩

theorem Turn.both13 {B : Nat} {x y z : World} (h : Turn (fun k => k = B) x y) (k : Turn (fun k => k = B) y z) : Turn (fun k => k = B) x z := Turn.trans h k (fun _ _ e => e)

end Go.Proofs.Ytdkjgjjkjfeodaa

namespace Go.Proofs.Ytdkjgjjkjfeodaa
open Go.RowKit Go.Sort
set_option linter.unusedVariables false
set_option linter.unusedSimpArgs false
set_option maxRecDepth 100000

theorem Jd.rowJ {w w' : World} {lo n1 c1 n2 c2 BZ : Nat} {A1 A2 : Option Addr} {us vs : List Int} {cs : Array Value} (h : Jd w lo A1 n1 c1 A2 n2 c2 us vs) (t : Turn (fun i => i = BZ) w w') (b : Blk w BZ 29 cs) : Jd w' lo A1 n1 c1 A2 n2 c2 us vs := by
  have o : ∀ {v : Value} {xs : List Int}, OvB w lo v xs → OvB w' lo v xs := by
    intro v xs ho
    refine ⟨ho.1, ?_⟩
    rcases ho.2 with h' | ⟨g', cap', cur, h', hb, hh, r⟩
    · exact .inl h'
    · have hlt : g' < w.heap.size := (Array.getElem?_eq_some_iff.1 hh).1
      refine .inr ⟨g', cap', cur, h', hb, (t.block g' hlt ?_).trans hh, r⟩
      rintro rfl
      unfold Blk at b
      rw [b] at hh
      simp only [Option.some.injEq, Obj.cells.injEq] at hh
      exact absurd hh.2.1 (by decide)
  exact ⟨h.l1, h.l2, o h.o1, o h.o2, h.ap, h.b1, h.b2⟩

theorem Jd.setJ {w w' : World} {lo n1 c1 n2 c2 BZ : Nat} {A1 A2 : Option Addr} {us vs : List Int} {cs : Array Value} (h : Jd w lo A1 n1 c1 A2 n2 c2 us vs) (t : Turn (fun i => i = BZ) w w') (b : Blk w BZ 25 cs) : Jd w' lo A1 n1 c1 A2 n2 c2 us vs := by
  have o : ∀ {v : Value} {xs : List Int}, OvB w lo v xs → OvB w' lo v xs := by
    intro v xs ho
    refine ⟨ho.1, ?_⟩
    rcases ho.2 with h' | ⟨g', cap', cur, h', hb, hh, r⟩
    · exact .inl h'
    · have hlt : g' < w.heap.size := (Array.getElem?_eq_some_iff.1 hh).1
      refine .inr ⟨g', cap', cur, h', hb, (t.block g' hlt ?_).trans hh, r⟩
      rintro rfl
      unfold Blk at b
      rw [b] at hh
      simp only [Option.some.injEq, Obj.cells.injEq] at hh
      exact absurd hh.2.1 (by decide)
  exact ⟨h.l1, h.l2, o h.o1, o h.o2, h.ap, h.b1, h.b2⟩

theorem turn_of_grown10 {w w' : World} {b : Option Nat} (h : w.grownBy w' b) : Turn (fun k => b = some k) w w' := ⟨h.os, h.tape, h.output, h.size, fun k hk hs => h.block k hk (fun e => hs e.symm)⟩

theorem turn_nil (B : Nat) (w : World) : Calls Try.prog 58 #[.pointer (some ⟨B, 0, none⟩), .slice none 0 0] w fun e w' => e = .returned (.slice none 0 0) ∧ w' = w := by
  go_enter Try.func58, Try.ntmps58
  go_wp2
  go_ret
  exact ⟨rfl, rfl⟩

/-- A journal that was drawn. -/
def JnDr (w : World) (B : Nat) (a : Option Addr) (n c : Nat) (zs : List Int) (t : Nat) (e : Ending) (w' : World) : Prop :=
  ∃ (A1 A2 : Option Addr) (n1 c1 n2 c2 t' : Nat) (us vs : List Int), e = .returned (.agg #[.slice A1 n1 c1, .slice A2 n2 c2]) ∧ BsAt w' A1 us ∧ BsAt w' A2 vs ∧ us.length = n1 ∧ vs.length = n2 ∧ n1 ≤ c1 ∧ n2 ≤ c2 ∧ Sl10 w' A1 n1 c1 ∧ Sl10 w' A2 n2 c2 ∧ n1 ≤ 7000 ∧ n2 ≤ 7000 ∧ (∀ x, A1 = some x → w.heap.size ≤ x.block) ∧ (∀ x, A2 = some x → w.heap.size ≤ x.block) ∧ t' ≤ t + 7000 ∧ Sc w' B a n c zs t' ∧ Turn (fun k => k = B) w w'

set_option maxHeartbeats 6400000 in
theorem l10Journal_sc {B n c t : Nat} {a : Option Addr} {zs : List Int} {w : World} (h : Sc w B a n c zs t) (ht : t ≤ 1000) :
    Calls Try.prog 30 #[.pointer (some ⟨B, 0, none⟩)] w fun e w' => JnDr w B a n c zs t e w' := by
  have hlt := h.blk.lt
  have hA := h.lt_of
  have s0 := h.new (((New.refl w).alloc (.cells #[.slice none 0 0, .slice none 0 0] 25)).alloc (.cells #[.slice none 0 0, .slice none 0 0] 25))
  have t0 : Turn (fun k => k = B) w ((w.alloc (.cells #[.slice none 0 0, .slice none 0 0] 25)).alloc (.cells #[.slice none 0 0, .slice none 0 0] 25)) := (((New.refl w).alloc _).alloc _).turn
  have R0 : Blk ((w.alloc (.cells #[.slice none 0 0, .slice none 0 0] 25)).alloc (.cells #[.slice none 0 0, .slice none 0 0] 25)) w.heap.size 25 #[.slice none 0 0, .slice none 0 0] := (Blk.mk _ _ _ _ rfl).alloc _
  have C0 : Blk ((w.alloc (.cells #[.slice none 0 0, .slice none 0 0] 25)).alloc (.cells #[.slice none 0 0, .slice none 0 0] 25)) (w.heap.size + 1) 25 #[.slice none 0 0, .slice none 0 0] := Blk.mk _ _ _ _ (by simp)
  have RB : ¬ w.heap.size = B := by omega
  have CB : ¬ (w.heap.size + 1) = B := by omega
  have hfd : ∀ (c0 c1 c2 c3 : Value) (X : World), (Instr.field 29 (.agg #[c0, c1, c2, c3]) 2).run Try.prog X = .ok (.agg #[c2, c3]) X := fun _ _ _ _ _ => by kernel_rfl
  clear h
  go_enter Try.func30, Try.ntmps30
  go_upto_region 2 with fail
  generalize (w.alloc (.cells #[.slice none 0 0, .slice none 0 0] 25)).alloc (.cells #[.slice none 0 0, .slice none 0 0] 25) = w0 at *
  go_wp2_with fail
  refine (next_sc s0 7 (by omega) (by omega)).mono ?_
  rintro e w1 ⟨r1, rfl, ⟨hd1, hf1, -⟩, s1, ht1⟩
  have hf1 := hf1 (by omega)
  have R1 := R0.turn ht1 RB
  have C1 := C0.turn ht1 CB
  have t1 := t0.both13 ht1
  obtain ⟨k0, rfl⟩ := Int.eq_ofNat_of_zero_le hd1
  clear s0 t0 R0 C0 ht1
  go_wp2_with fail
  go_loopw [4] (fun i wr => ∃ (kk tn n1 c1 n2 c2 : Nat) (A1 A2 : Option Addr) (us vs : List Int), kk ≤ 6 ∧ i = .int .i64 kk ∧ Blk wr (w.heap.size + 1) 25 #[.slice A1 n1 c1, .slice A2 n2 c2] ∧ Jd wr (w.heap.size + 1 + 1) A1 n1 c1 A2 n2 c2 us vs ∧ n1 + n2 ≤ 68 * (6 - kk) ∧ Blk wr w.heap.size 25 #[.slice none 0 0, .slice none 0 0] ∧ tn ≤ t + 1 + 822 * (6 - kk) ∧ Sc wr B a n c zs tn ∧ Turn (fun k => k = B) w wr) (fun i _ => (intOf i).toNat)
  case atStart => exact ⟨k0, t + 1, 0, 0, 0, 0, none, none, [], [], by omega, rfl, C1, Jd.nil _ _, by omega, R1, by omega, s1, t1⟩
  case round =>
    obtain ⟨kk, tn, n1, c1, n2, c2, A1, A2, us, vs, hkk, rfl, bC, jd, hnn, bR, htn, hs, tt⟩ := hrel
    have zr := tt.size
    have lC := bC.lt
    clear C1 R1 s1 t1
    by_cases hlt0 : 0 < kk
    case neg =>
      have hk0 : ¬ (0 : Int) < (kk : Int) := by omega
      go_wp2_with fail
      refine (next_sc hs 18 (by omega) (by omega)).mono ?_
      rintro e w5 ⟨r5, rfl, ⟨hd5, hf5, -⟩, s5, ht5⟩
      have hf5 := hf5 (by omega)
      have bC5 := bC.turn ht5 CB
      have bR5 := bR.turn ht5 RB
      have jd5 := jd.turn ht5 (by intro k q1 q2 e; omega)
      have tt5 := tt.both13 ht5
      have z5 := ht5.size
      clear bC bR jd tt hs ht5
      obtain ⟨x1, q1, sl1⟩ := ov_open jd5.o1 jd5.l1 jd5.b1
      obtain ⟨x2, q2, sl2⟩ := ov_open jd5.o2 jd5.l2 jd5.b2
      have B1 : ∀ x, A1 = some x → w.heap.size + 1 + 1 ≤ x.block := fun x e => by
        rcases sl1 with ⟨h1, -⟩ | ⟨g, h1, h2, -⟩
        · rw [h1] at e; cases e
        · rw [h1] at e; cases e; exact h2
      have B2 : ∀ x, A2 = some x → w.heap.size + 1 + 1 ≤ x.block := fun x e => by
        rcases sl2 with ⟨h1, -⟩ | ⟨g, h1, h2, -⟩
        · rw [h1] at e; cases e
        · rw [h1] at e; cases e; exact h2
      have S1 : Sl10 w5 A1 n1 c1 := by
        rcases sl1 with h | ⟨g, h1, -, h3⟩
        · exact .inl h
        · exact .inr ⟨g, 0, h1, h3⟩
      have S2 : Sl10 w5 A2 n2 c2 := by
        rcases sl2 with h | ⟨g, h1, -, h3⟩
        · exact .inl h
        · exact .inr ⟨g, 0, h1, h3⟩
      have K1 : Hid (us.length = n1) := jd5.l1
      have K2 : Hid (vs.length = n2) := jd5.l2
      have SL1 : Hid ((A1 = none ∧ n1 = 0 ∧ c1 = 0) ∨ ∃ g, A1 = some ⟨g, 0, none⟩ ∧ w.heap.size + 1 + 1 ≤ g ∧ g < w5.heap.size) := sl1
      have SL2 : Hid ((A2 = none ∧ n2 = 0 ∧ c2 = 0) ∨ ∃ g, A2 = some ⟨g, 0, none⟩ ∧ w.heap.size + 1 + 1 ≤ g ∧ g < w5.heap.size) := sl2
      have S1 : Hid (Sl10 w5 A1 n1 c1) := S1
      have S2 : Hid (Sl10 w5 A2 n2 c2) := S2
      clear sl1 sl2
      obtain ⟨i0, hi, hz0, hz1, hz2⟩ := info_parts Try.infoU8
      by_cases u0 : r5 = 0
      case pos =>
        subst u0
        have al := (New.refl w5).alloc (.cells #[.int .u8 9] 5)
        have b9 : BsAt (w5.alloc (.cells #[.int .u8 9] 5)) (some ⟨w5.heap.size, 0, none⟩) [9] := by
          intro i z hz
          match i, hz with
          | 0, hz => simp at hz; subst hz; exact ⟨w5.heap.size, 0, rfl, (Blk.mk w5 w5.heap.size 5 #[.int .u8 9] rfl).cells 0, by omega, by omega⟩
          | i + 1, hz => simp at hz
        have cC := bC5.cells
        go_wp2_with (at_builtin; refine wpList_apB _ rfl (.tmp 32) (.tmp 33) rfl (w.heap.size + 1 + 1) Try.underlying22 hi hz0 hz1 hz2 (.slice A2 n2 c2) vs rfl (jd5.o2.new al) (some ⟨w5.heap.size, 0, none⟩) 1 1 [9] rfl b9 rfl (by intro h; cases h) (by have := K2.out; omega) (by simp; omega) ?_)
        intro v6 w6 ho6 hg6
        have ho6' : OvB w6 (w.heap.size + 1 + 1) v6 (vs ++ [9]) := by unfold OvB; simpa using ho6
        rcases ho6'.form with ⟨-, e⟩ | ⟨g6, c6, e, hg, hc6, ho⟩
        · simp at e
        subst e
        have tg := turn_of_grown10 hg6
        have nb : ∀ i, (Value.slice A2 n2 c2).ownBlock = some i → w.heap.size + 1 + 1 ≤ i ∧ A2 = some ⟨i, 0, none⟩ := by
          intro i hi'
          rcases SL2.out with ⟨h1, -⟩ | ⟨g, h1, h2, -⟩
          · rw [h1] at hi'; simp [Value.ownBlock] at hi'
          · rw [h1] at hi'; have : g = i := (by simpa [Value.ownBlock] using hi'); subst this; exact ⟨h2, h1⟩
        have bC6 := (bC5.new al).turn tg (by intro e; have := (nb _ e).1; omega)
        have bR6 := (bR5.new al).turn tg (by intro e; have := (nb _ e).1; omega)
        have s6 := (s5.new al).turn tg (by intro e; have := (nb _ e).1; omega) (fun x hz hx e => by have := hA x hz hx; have := (nb _ e).1; omega)
        have x16 := (x1.new al).turn tg (fun x e q => by have h2 := (nb _ q).2; exact jd5.ap x ⟨x.block, 0, none⟩ e h2 rfl)
        have tt6 := Turn.trans (Turn.trans tt5 al.turn (S := fun k => k = B) (fun i _ e => e)) tg (S := fun k => k = B) (fun i hi e => by have := (nb _ e).1; omega)
        have x26 : BsAt w6 (some ⟨g6, 0, none⟩) (vs ++ [9]) := BsAt.of_own ho (by intro z hz; rcases List.mem_append.1 hz with hz | hz; exact jd5.b2 z hz; simp at hz; omega)
        have l6 : (vs ++ [9]).length = n2 + 1 := by simp; exact K2.out
        rw [l6] at ho hc6
        have z6 := Nat.le_trans al.size tg.size
        have hg6' : g6 < w6.heap.size := (ho.lt g6 rfl).2
        have gC : ¬ g6 = w.heap.size + 1 := by omega
        clear cC x1 x2 tg al b9
        try rw [l6]
        have cC := bC6.cells
        have fC := bC6.frees
        go_upto_region 17 with fail
        have bC7 := bC6.set 1 (.slice (some ⟨g6, 0, none⟩) (n2 + 1) c6)
        replace bC7 : Blk _ (w.heap.size + 1) 25 #[.slice A1 n1 c1, .slice (some ⟨g6, 0, none⟩) (n2 + 1) c6] := bC7
        have t7 := (Turn.refl (fun i => i = w.heap.size + 1) w6).set (p := ⟨w.heap.size + 1, 1, none⟩) rfl (.slice (some ⟨g6, 0, none⟩) (n2 + 1) c6)
        have bR7 := bR6.turn t7 (by omega)
        have s7 := s6.turn t7 (by omega) (fun x hz hx e => by have := hA x hz hx; omega)
        have tt7 := Turn.trans tt6 t7 (S := fun k => k = B) (fun i hi e => by omega)
        have x1 := x16.turn t7 (fun x e q => by have := B1 x e; omega)
        have x2 := x26.turn t7 (fun x e q => by cases e; exact gC q)
        have z7 := t7.size
        generalize w6.setCell ⟨w.heap.size + 1, 1, none⟩ (.slice (some ⟨g6, 0, none⟩) (n2 + 1) c6) = w7 at *
        clear cC fC bC6 bR6 s6 tt6 x16 x26 t7
        have k1 := K1.out
        have k2 := l6
        have q2 := hc6
        have B3 : ∀ x, (some ⟨g6, 0, none⟩ : Option Addr) = some x → w.heap.size + 1 + 1 ≤ x.block := fun x e => by cases e; exact hg
        have S3' : Sl10 w7 (some ⟨g6, 0, none⟩) (n2 + 1) c6 := .inr ⟨g6, 0, rfl, by omega⟩
        have cC := bC7.cells
        have cR := bR7.cells
        have fR := bR7.frees
        have lR := bR7.lt
        have tR := ((Turn.refl (fun i => i = w.heap.size) w7).set (p := ⟨w.heap.size, 0, none⟩) rfl (.slice A1 n1 c1)).set (p := ⟨w.heap.size, 1, none⟩) rfl (.slice (some ⟨g6, 0, none⟩) (n2 + 1) c6)
        have y1 := x1.turn tR (fun x e q => by have := B1 x e; omega)
        have y2 := x2.turn tR (fun x e q => by have := B3 x e; omega)
        have sR := s7.turn tR (by omega) (fun x hz hx e => by have := hA x hz hx; omega)
        have tF := Turn.trans tt7 tR (S := fun k => k = B) (fun i hi e => by omega)
        have u1 : Hid (Sl10 _ A1 n1 c1) := (S1.out.up (by omega)).up tR.size
        have u2 : Hid (Sl10 _ (some ⟨g6, 0, none⟩) (n2 + 1) c6) := (S3').up tR.size
        try clear S3'
        go_wp2
        refine bodyPost_ret (v := .agg #[.slice A1 n1 c1, .slice (some ⟨g6, 0, none⟩) (n2 + 1) c6]) (by simp [results, Try.results30, go_sem, cR]) rfl ⟨A1, (some ⟨g6, 0, none⟩), n1, c1, (n2 + 1), c6, tn + 1, us, (vs ++ [9]), rfl, y1, y2, k1, k2, q1, q2, u1.out, u2.out, by omega, by omega, fun x e => by have := B1 x e; omega, fun x e => by have := B3 x e; omega, by omega, sR, tF⟩
      have v0 : (r5 == 0) = false := by simpa using u0
      by_cases u1 : r5 = 1
      case pos =>
        subst u1
        have cC := bC5.cells
        have fC := bC5.frees
        rcases SL1.out with ⟨rfl, rfl, rfl⟩ | ⟨g, rfl, hg, hgl⟩
        all_goals clear SL1
        · go_wp2_with fail
          refine (turn_nil B w5).mono ?_
          rintro e wz ⟨rfl, hwz⟩
          obtain rfl := hwz.symm
          go_upto_region 17 with fail
          have bC7 := bC5.set 0 (.slice none 0 0)
          replace bC7 : Blk _ (w.heap.size + 1) 25 #[.slice none 0 0, .slice A2 n2 c2] := bC7
          have t7 := (Turn.refl (fun i => i = w.heap.size + 1) w5).set (p := ⟨w.heap.size + 1, 0, none⟩) rfl (.slice none 0 0)
          have bR7 := bR5.turn t7 (by omega)
          have s7 := s5.turn t7 (by omega) (fun x hz hx e => by have := hA x hz hx; omega)
          have tt7 := Turn.trans tt5 t7 (S := fun k => k = B) (fun i hi e => by omega)
          have x1' := x1.turn t7 (fun x e q => by cases e)
          have x2' := x2.turn t7 (fun x e q => by have := B2 x e; omega)
          have z7 := t7.size
          generalize w5.setCell ⟨w.heap.size + 1, 0, none⟩ (.slice none 0 0) = w7 at *
          clear cC fC bC5 bR5 s5 tt5 x1 x2 t7
          have x1 := x1'
          have x2 := x2'
          have k1 := K1.out
          have k2 := K2.out
          have cC := bC7.cells
          have cR := bR7.cells
          have fR := bR7.frees
          have lR := bR7.lt
          have tR := ((Turn.refl (fun i => i = w.heap.size) w7).set (p := ⟨w.heap.size, 0, none⟩) rfl (.slice none 0 0)).set (p := ⟨w.heap.size, 1, none⟩) rfl (.slice A2 n2 c2)
          have y1 := x1.turn tR (fun x e q => by have := B1 x e; omega)
          have y2 := x2.turn tR (fun x e q => by have := B2 x e; omega)
          have sR := s7.turn tR (by omega) (fun x hz hx e => by have := hA x hz hx; omega)
          have tF := Turn.trans tt7 tR (S := fun k => k = B) (fun i hi e => by omega)
          have u1 : Hid (Sl10 _ none 0 0) := (S1.out.up (by omega)).up tR.size
          have u2 : Hid (Sl10 _ A2 n2 c2) := (S2.out.up (by omega)).up tR.size
          try clear S3'
          go_wp2
          refine bodyPost_ret (v := .agg #[.slice none 0 0, .slice A2 n2 c2]) (by simp [results, Try.results30, go_sem, cR]) rfl ⟨none, A2, 0, 0, n2, c2, tn + 1, us, vs, rfl, y1, y2, k1, k2, q1, q2, u1.out, u2.out, by omega, by omega, fun x e => by have := B1 x e; omega, fun x e => by have := B2 x e; omega, by omega, sR, tF⟩
        · have og : w5.ownsRow 0 5 1 (.slice (some ⟨g, 0, none⟩) n1 c1) n1 (us.map (Value.int .u8)) := by have := own_base jd5.o1; rw [jd5.l1] at this; exact this
          go_wp2_with fail
          refine (turn2_sc s5 (by omega) (fun x hz hx => by have := hA x hz hx; omega) og jd5.b1 (by omega)).mono ?_
          rintro e w6 ⟨⟨g6, m6, c6, t6', ys, rfl, hm6, ht6, ho6, hys, hgg, s6⟩, tg⟩
          have bC6 := bC5.turn tg (by omega)
          have bR6 := bR5.turn tg (by omega)
          have x26 := x2.turn tg (fun x e q => by have h1 := jd5.ap _ x rfl e; have := B2 x e; rcases q with q | q; omega; exact h1 q.symm)
          have tt6 := Turn.trans tt5 tg (S := fun k => k = B) (fun i hi e => by rcases e with e | e; exact e; omega)
          have z6 := tg.size
          have g6l := (ho6.lt g6 rfl).2
          have hg6 : w.heap.size + 1 + 1 ≤ g6 := by rcases hgg with e | e <;> omega
          have x16 := BsAt.of_own ho6 hys
          have l6 : ys.length = m6 := by simpa using ho6.1
          have c6' := own_cap9 ho6
          have gC : ¬ g6 = w.heap.size + 1 := by omega
          have HL6 : Hid (ys.length = m6) := l6
          clear cC fC l6
          have cC := bC6.cells
          have fC := bC6.frees
          go_upto_region 17 with fail
          have bC7 := bC6.set 0 (.slice (some ⟨g6, 0, none⟩) m6 c6)
          replace bC7 : Blk _ (w.heap.size + 1) 25 #[.slice (some ⟨g6, 0, none⟩) m6 c6, .slice A2 n2 c2] := bC7
          have t7 := (Turn.refl (fun i => i = w.heap.size + 1) w6).set (p := ⟨w.heap.size + 1, 0, none⟩) rfl (.slice (some ⟨g6, 0, none⟩) m6 c6)
          have bR7 := bR6.turn t7 (by omega)
          have s7 := s6.turn t7 (by omega) (fun x hz hx e => by have := hA x hz hx; omega)
          have tt7 := Turn.trans tt6 t7 (S := fun k => k = B) (fun i hi e => by omega)
          have x1' := x16.turn t7 (fun x e q => by cases e; exact gC q)
          have x2' := x26.turn t7 (fun x e q => by have := B2 x e; omega)
          have z7 := t7.size
          generalize w6.setCell ⟨w.heap.size + 1, 0, none⟩ (.slice (some ⟨g6, 0, none⟩) m6 c6) = w7 at *
          clear cC fC bC5 bR5 s5 tt5 x1 x2 t7 bC6 bR6 s6 tt6 x16 x26
          have x1 := x1'
          have x2 := x2'
          have k1 := HL6.out
          have k2 := K2.out
          have q1 := c6'
          have B3 : ∀ x, (some ⟨g6, 0, none⟩ : Option Addr) = some x → w.heap.size + 1 + 1 ≤ x.block := fun x e => by cases e; exact hg6
          have S3' : Sl10 w7 (some ⟨g6, 0, none⟩) m6 c6 := .inr ⟨g6, 0, rfl, by omega⟩
          have cC := bC7.cells
          have cR := bR7.cells
          have fR := bR7.frees
          have lR := bR7.lt
          have tR := ((Turn.refl (fun i => i = w.heap.size) w7).set (p := ⟨w.heap.size, 0, none⟩) rfl (.slice (some ⟨g6, 0, none⟩) m6 c6)).set (p := ⟨w.heap.size, 1, none⟩) rfl (.slice A2 n2 c2)
          have y1 := x1.turn tR (fun x e q => by have := B3 x e; omega)
          have y2 := x2.turn tR (fun x e q => by have := B2 x e; omega)
          have sR := s7.turn tR (by omega) (fun x hz hx e => by have := hA x hz hx; omega)
          have tF := Turn.trans tt7 tR (S := fun k => k = B) (fun i hi e => by omega)
          have u1 : Hid (Sl10 _ (some ⟨g6, 0, none⟩) m6 c6) := (S3').up tR.size
          have u2 : Hid (Sl10 _ A2 n2 c2) := (S2.out.up (by omega)).up tR.size
          try clear S3'
          go_wp2
          refine bodyPost_ret (v := .agg #[.slice (some ⟨g6, 0, none⟩) m6 c6, .slice A2 n2 c2]) (by simp [results, Try.results30, go_sem, cR]) rfl ⟨(some ⟨g6, 0, none⟩), A2, m6, c6, n2, c2, t6', ys, vs, rfl, y1, y2, k1, k2, q1, q2, u1.out, u2.out, by omega, by omega, fun x e => by have := B3 x e; omega, fun x e => by have := B2 x e; omega, by omega, sR, tF⟩
      have v1 : (r5 == 1) = false := by simpa using u1
      by_cases u2 : r5 = 2
      case pos =>
        subst u2
        have cC := bC5.cells
        have fC := bC5.frees
        go_wp2_with (at_make; refine wpList_make_full _ rfl _ _ 22 rfl w5.heap.size 5 i0 (.int .u8 0) 1 Try.underlying22 hi hz0 hz1 _ _ _ _ 6001 rfl rfl rfl rfl ?b2 ?b3 (Nat.le_refl _) ?_)
        case b2 => rw [hz2]; omega
        case b3 => unfold maxLen; omega
        intro w6 hown0 hgrow0
        have hown : w6.ownsRow 0 5 1 (.slice (some ⟨w5.heap.size, 0, none⟩) 6001 6001) 6001 ((List.replicate 6001 (0 : Int)).map (Value.int .u8)) := by
          have := own_base hown0
          simpa [Value.cells, toList_madeCells_one] using this
        have n6 := New.of_grown hgrow0
        clear hown0 hgrow0
        have bC6 := bC5.new n6
        have bR6 := bR5.new n6
        have s6 := s5.new n6
        have x16 := x1.new n6
        have x26 : BsAt w6 (some ⟨w5.heap.size, 0, none⟩) (List.replicate 6001 (0 : Int)) := BsAt.of_own hown (by intro z hz; have := List.eq_of_mem_replicate hz; omega)
        have tt6 := Turn.trans tt5 n6.turn (S := fun k => k = B) (fun i _ e => e)
        have z6 := n6.size
        have l6 := (hown.lt w5.heap.size rfl).2
        have HR : Hid ((List.replicate 6001 (0 : Int)).length = 6001) := List.length_replicate
        have lC5 := bC5.lt
        have gC : ¬ w5.heap.size = w.heap.size + 1 := by omega
        clear cC fC hown n6
        generalize List.replicate 6001 (0 : Int) = rs at *
        have cC := bC6.cells
        have fC := bC6.frees
        go_upto_region 17 with fail
        have bC7 := bC6.set 1 (.slice (some ⟨w5.heap.size, 0, none⟩) 6001 6001)
        replace bC7 : Blk _ (w.heap.size + 1) 25 #[.slice A1 n1 c1, .slice (some ⟨w5.heap.size, 0, none⟩) 6001 6001] := bC7
        have t7 := (Turn.refl (fun i => i = w.heap.size + 1) w6).set (p := ⟨w.heap.size + 1, 1, none⟩) rfl (.slice (some ⟨w5.heap.size, 0, none⟩) 6001 6001)
        have bR7 := bR6.turn t7 (by omega)
        have s7 := s6.turn t7 (by omega) (fun x hz hx e => by have := hA x hz hx; omega)
        have tt7 := Turn.trans tt6 t7 (S := fun k => k = B) (fun i hi e => by omega)
        have x1' := x16.turn t7 (fun x e q => by have := B1 x e; omega)
        have x2' := x26.turn t7 (fun x e q => by cases e; exact gC q)
        have z7 := t7.size
        generalize w6.setCell ⟨w.heap.size + 1, 1, none⟩ (.slice (some ⟨w5.heap.size, 0, none⟩) 6001 6001) = w7 at *
        clear cC fC bC6 bR6 s6 tt6 x1 x2 t7 x16 x26
        have x1 := x1'
        have x2 := x2'
        have k1 := K1.out
        have k2 := HR.out
        have q2 : 6001 ≤ 6001 := Nat.le_refl _
        have B3 : ∀ x, (some ⟨w5.heap.size, 0, none⟩ : Option Addr) = some x → w.heap.size + 1 + 1 ≤ x.block := fun x e => by cases e; show w.heap.size + 1 + 1 ≤ w5.heap.size; omega
        have S3' : Sl10 w7 (some ⟨w5.heap.size, 0, none⟩) 6001 6001 := .inr ⟨w5.heap.size, 0, rfl, by omega⟩
        have cC := bC7.cells
        have cR := bR7.cells
        have fR := bR7.frees
        have lR := bR7.lt
        have tR := ((Turn.refl (fun i => i = w.heap.size) w7).set (p := ⟨w.heap.size, 0, none⟩) rfl (.slice A1 n1 c1)).set (p := ⟨w.heap.size, 1, none⟩) rfl (.slice (some ⟨w5.heap.size, 0, none⟩) 6001 6001)
        have y1 := x1.turn tR (fun x e q => by have := B1 x e; omega)
        have y2 := x2.turn tR (fun x e q => by have := B3 x e; omega)
        have sR := s7.turn tR (by omega) (fun x hz hx e => by have := hA x hz hx; omega)
        have tF := Turn.trans tt7 tR (S := fun k => k = B) (fun i hi e => by omega)
        have u1 : Hid (Sl10 _ A1 n1 c1) := (S1.out.up (by omega)).up tR.size
        have u2 : Hid (Sl10 _ (some ⟨w5.heap.size, 0, none⟩) 6001 6001) := (S3').up tR.size
        try clear S3'
        go_wp2
        refine bodyPost_ret (v := .agg #[.slice A1 n1 c1, .slice (some ⟨w5.heap.size, 0, none⟩) 6001 6001]) (by simp [results, Try.results30, go_sem, cR]) rfl ⟨A1, (some ⟨w5.heap.size, 0, none⟩), n1, c1, 6001, 6001, tn + 1, us, rs, rfl, y1, y2, k1, k2, q1, q2, u1.out, u2.out, by omega, by omega, fun x e => by have := B1 x e; omega, fun x e => by have := B3 x e; omega, by omega, sR, tF⟩
      have v2 : (r5 == 2) = false := by simpa using u2
      have k1 := K1.out
      have k2 := K2.out
      have cC := bC5.cells
      have cR := bR5.cells
      have fR := bR5.frees
      have lR := bR5.lt
      have tR := ((Turn.refl (fun i => i = w.heap.size) w5).set (p := ⟨w.heap.size, 0, none⟩) rfl (.slice A1 n1 c1)).set (p := ⟨w.heap.size, 1, none⟩) rfl (.slice A2 n2 c2)
      have y1 := x1.turn tR (fun x e q => by have := B1 x e; omega)
      have y2 := x2.turn tR (fun x e q => by have := B2 x e; omega)
      have sR := s5.turn tR (by omega) (fun x hz hx e => by have := hA x hz hx; omega)
      have tF := Turn.trans tt5 tR (S := fun k => k = B) (fun i hi e => by omega)
      have u1 : Hid (Sl10 _ A1 n1 c1) := (S1.out).up tR.size
      have u2 : Hid (Sl10 _ A2 n2 c2) := (S2.out).up tR.size
      try clear S3'
      go_wp2
      refine bodyPost_ret (v := .agg #[.slice A1 n1 c1, .slice A2 n2 c2]) (by simp [results, Try.results30, go_sem, cR]) rfl ⟨A1, A2, n1, c1, n2, c2, tn + 1, us, vs, rfl, y1, y2, k1, k2, q1, q2, u1.out, u2.out, by omega, by omega, fun x e => by have := B1 x e; omega, fun x e => by have := B2 x e; omega, by omega, sR, tF⟩
    have hk0 : (0 : Int) < (kk : Int) := by omega
    go_upto_region 5 with fail
    go_cut [5] from 13 to 16 (fun v wx => ∃ (BJ : Nat) (z ct : Int) (P1 : Option Addr) (m1 d1 : Nat) (P2 : Option Addr) (m2 d2 tE : Nat) (us' vs' : List Int), v = .pointer (some ⟨BJ, 0, none⟩) ∧ Blk wx BJ 29 #[.int .i64 z, .int .i64 ct, .slice P1 m1 d1, .slice P2 m2 d2] ∧ Jd wx wr.heap.size P1 m1 d1 P2 m2 d2 us' vs' ∧ m1 + m2 ≤ n1 + n2 + 68 ∧ tE ≤ tn + 820 ∧ Sc wx B a n c zs tE ∧ Turn (fun k => k = B) wr wx ∧ wr.heap.size ≤ BJ)
    case first =>
      refine hw_start (n := 6) (S := fun X => Turn (fun i => i = B) wr X) rfl (by kernel_rfl) (((New.refl _).drew).turn) (fun hH => ?_)
      refine' hw_take 0 (some 13) (.agg #[.slice A1 n1 c1, .slice A2 n2 c2]) rfl rfl (by kernel_rfl) (by kernel_rfl) (by kernel_rfl) (fun _ _ _ h => h) (by rfl) hH ?hzA ?rzA
      case hzA =>
        intro X hX
        exact run_load_blk 25 (.tmp 3) rfl (w.heap.size + 1) rfl #[.slice A1 n1 c1, .slice A2 n2 c2] _ (bC.turn hX CB) Try.underlying25 rfl (by kernel_rfl)
      simp only [Act.put, List.setIfInBounds_toArray, List.set_cons_zero, List.set_cons_succ]
      refine' hw_take 1 (some 14) _ rfl rfl (by kernel_rfl) (by kernel_rfl) (by kernel_rfl) (fun _ _ _ h => h) (by rfl) hH ?hy1 ?rest1
      case hy1 =>
        intro X hX
        go_simp
        try rfl
      simp only [Act.put, List.setIfInBounds_toArray, List.set_cons_zero, List.set_cons_succ]
      refine wpAnyH_ready (rs := [2, 4]) (by kernel_rfl) (by simp) ?_
      refine hw_step 2 (some 15) rfl rfl (by rfl) (fun K hK => ?_) ?_
      · skip
        go_simp
        refine (l10Entry_sc (hs.new ((New.refl wr).drew)) (by omega)).mono ?_
        rintro e wE ⟨ep, ki, pe, qE, lE, clE, tE, es, rfl, hE, hlE, hep, hki, hpe, htE, sE, ttE⟩
        have tE' := hH.both13 ttE
        go_simp
        refine hK.out _ _ tE' (fun _ => ?_)
        simp only [Act.put, List.setIfInBounds_toArray, List.set_cons_zero, List.set_cons_succ]
        refine wpAnyH_ready (rs := [3, 4]) (by kernel_rfl) (by simp) ?_
        refine hw_step 3 (some 16) rfl rfl (by rfl) (fun K hK => ?_) ?_
        · skip
          go_simp
          have jdE := jd.turn tE' (by intro k q1 q2 e; omega)
          obtain ⟨p1, p2, -⟩ := ov_open jdE.o1 jdE.l1 jdE.b1
          obtain ⟨p3, p4, -⟩ := ov_open jdE.o2 jdE.l2 jdE.b2
          have hI := specAxn A1 A2 n1 c1 n2 c2 us vs wE p1 p3 jdE.nl1 jdE.nl2 jdE.l1 jdE.l2 p2 p4 (by omega) (by omega) ep ki pe qE lE clE es hE.1 (hE.2.2.2.elim .inl (fun ⟨g, e, _⟩ => .inr ⟨g, 0, e⟩)) hE.2.1 (by omega)
          obtain ⟨ll, l1, l2⟩ := ax_bd (ep := ep) (ki := ki) (pe := pe) jdE.b1 jdE.b2 hE.1.lt ⟨hep.1, by omega⟩ hki hpe (by rw [hE.2.1]; exact hlE)
          rw [jdE.l1, jdE.l2] at ll
          unfold JrA at hI
          generalize axA us vs ep ki pe es = rr at *
          obtain ⟨z, ct, us', vs'⟩ := rr
          refine hI.mono ?_
          rintro e wF hF
          obtain ⟨P1, m1, d1, P2, m2, d2, rfl, jdF, hnF⟩ := jr_jd hF l1 l2
          clear hI hF p1 p2 p3 p4 jdE
          have tF := Turn.trans tE' hnF.turn (S := fun k => k = B) (fun i _ e => e)
          have sF := sE.new hnF
          have zF := tE'.size
          go_simp
          refine hK.out _ _ tF (fun _ => ?_)
          simp only [Act.put, List.setIfInBounds_toArray, List.set_cons_zero, List.set_cons_succ]
          refine hw_call 4 (some 5) rfl rfl (by kernel_rfl) (by rfl) (fun K hK => ?_)
          go_simp
          have alZ : New wF ((wF.alloc (.cells #[.int .i64 0, .int .i64 0, .slice none 0 0, .slice none 0 0] 29))) := ((New.refl wF).alloc (.cells #[.int .i64 0, .int .i64 0, .slice none 0 0, .slice none 0 0] 29))
          have bZ : Blk ((wF.alloc (.cells #[.int .i64 0, .int .i64 0, .slice none 0 0, .slice none 0 0] 29))) wF.heap.size 29 #[.int .i64 0, .int .i64 0, .slice none 0 0, .slice none 0 0] := (Blk.mk wF wF.heap.size 29 #[.int .i64 0, .int .i64 0, .slice none 0 0, .slice none 0 0] rfl)
          have nZ : Turn (fun k => k = B) wr ((wF.alloc (.cells #[.int .i64 0, .int .i64 0, .slice none 0 0, .slice none 0 0] 29))) := Turn.trans tF alZ.turn (S := fun k => k = B) (fun i _ e => e)
          replace sF := sF.new alZ
          replace jdF := jdF.new alZ
          have zC : wr.heap.size ≤ wF.heap.size := (tF).size
          refine hK.out _ _ nZ (fun _ => ?_)
          simp only [Act.put, List.setIfInBounds_toArray, List.set_cons_zero, List.set_cons_succ]
          obtain ⟨BZ, hBZ⟩ : ∃ BZ, BZ = wF.heap.size := ⟨_, rfl⟩
          rw [← hBZ] at bZ ⊢
          have hBw : wr.heap.size ≤ BZ := by omega
          have ZB : ¬ BZ = B := by omega
          have jo : ∀ k, wE.heap.size ≤ k → k < wF.heap.size → ¬ k = BZ := by intro k q1 q2 e; omega
          clear hBZ
          generalize (wF.alloc (.cells #[.int .i64 0, .int .i64 0, .slice none 0 0, .slice none 0 0] 29)) = wZ at *
          refine hw_call 5 none rfl rfl (by kernel_rfl) (by rfl) (fun K hK => ?_)
          refine hw_store 29 (.tmp 5) (.tmp 16) rfl rfl BZ #[.int .i64 z, .int .i64 ct, .slice P1 m1 d1, .slice P2 m2 d2] #[.int .i64 0, .int .i64 0, .slice none 0 0, .slice none 0 0] rfl rfl bZ (by kernel_rfl) rfl (by kernel_rfl) ?_
          have bR' := bZ.rowW #[.int .i64 z, .int .i64 ct, .slice P1 m1 d1, .slice P2 m2 d2]
          have tR := Turn.rowW (Turn.refl (fun i => i = BZ) wZ) rfl #[.int .i64 z, .int .i64 ct, .slice P1 m1 d1, .slice P2 m2 d2]
          have jdR := jdF.rowJ tR bZ
          have sR := sF.turn tR (by omega) (fun x hz hx e => by have := hA x hz hx; omega)
          have nR := Turn.trans nZ (tR.mono (T := fun i => i = BZ) (fun i _ e => e)) (S := fun k => k = B) (fun i hi e => by omega)
          refine hK.out undef _ nR (fun _ => ?_)
          refine wpAnyH_done (by kernel_rfl) ?_ _
          generalize World.setRow _ _ _ = wR at *
          go_wp2_with fail
          go_meet
          exact ⟨BZ, z, ct, P1, m1, d1, P2, m2, d2, tE, us', vs', rfl, bR', jdR.low (by omega), by have := jdR.l1; have := jdR.l2; omega, by omega, sR, nR, hBw⟩
        refine hw_step 4 (some 5) rfl rfl (by rfl) (fun K hK => ?_) ?_
        · skip
          go_simp
          have alZ : New wE ((wE.alloc (.cells #[.int .i64 0, .int .i64 0, .slice none 0 0, .slice none 0 0] 29))) := ((New.refl wE).alloc (.cells #[.int .i64 0, .int .i64 0, .slice none 0 0, .slice none 0 0] 29))
          have bZ : Blk ((wE.alloc (.cells #[.int .i64 0, .int .i64 0, .slice none 0 0, .slice none 0 0] 29))) wE.heap.size 29 #[.int .i64 0, .int .i64 0, .slice none 0 0, .slice none 0 0] := (Blk.mk wE wE.heap.size 29 #[.int .i64 0, .int .i64 0, .slice none 0 0, .slice none 0 0] rfl)
          have nZ : Turn (fun k => k = B) wr ((wE.alloc (.cells #[.int .i64 0, .int .i64 0, .slice none 0 0, .slice none 0 0] 29))) := Turn.trans tE' alZ.turn (S := fun k => k = B) (fun i _ e => e)
          replace sE := sE.new alZ
          replace hE := hE.turn (S := fun _ => False) alZ (fun _ _ f => f)
          have zC : wr.heap.size ≤ wE.heap.size := (tE').size
          refine hK.out _ _ nZ (fun _ => ?_)
          simp only [Act.put, List.setIfInBounds_toArray, List.set_cons_zero, List.set_cons_succ]
          obtain ⟨BZ, hBZ⟩ : ∃ BZ, BZ = wE.heap.size := ⟨_, rfl⟩
          rw [← hBZ] at bZ ⊢
          have hBw : wr.heap.size ≤ BZ := by omega
          have ZB : ¬ BZ = B := by omega
          clear hBZ
          generalize (wE.alloc (.cells #[.int .i64 0, .int .i64 0, .slice none 0 0, .slice none 0 0] 29)) = wZ at *
          refine hw_call 3 (some 16) rfl rfl (by kernel_rfl) (by rfl) (fun K hK => ?_)
          go_simp
          have jdE := jd.turn nZ (by intro k q1 q2 e; omega)
          obtain ⟨p1, p2, -⟩ := ov_open jdE.o1 jdE.l1 jdE.b1
          obtain ⟨p3, p4, -⟩ := ov_open jdE.o2 jdE.l2 jdE.b2
          have hI := specAxn A1 A2 n1 c1 n2 c2 us vs wZ p1 p3 jdE.nl1 jdE.nl2 jdE.l1 jdE.l2 p2 p4 (by omega) (by omega) ep ki pe qE lE clE es hE.1 (hE.2.2.2.elim .inl (fun ⟨g, e, _⟩ => .inr ⟨g, 0, e⟩)) hE.2.1 (by omega)
          obtain ⟨ll, l1, l2⟩ := ax_bd (ep := ep) (ki := ki) (pe := pe) jdE.b1 jdE.b2 hE.1.lt ⟨hep.1, by omega⟩ hki hpe (by rw [hE.2.1]; exact hlE)
          rw [jdE.l1, jdE.l2] at ll
          unfold JrA at hI
          generalize axA us vs ep ki pe es = rr at *
          obtain ⟨z, ct, us', vs'⟩ := rr
          refine hI.mono ?_
          rintro e wF hF
          obtain ⟨P1, m1, d1, P2, m2, d2, rfl, jdF, hnF⟩ := jr_jd hF l1 l2
          clear hI hF p1 p2 p3 p4 jdE
          have tF := Turn.trans nZ hnF.turn (S := fun k => k = B) (fun i _ e => e)
          have sF := sE.new hnF
          have zF := nZ.size
          replace bZ := bZ.new hnF
          go_simp
          refine hK.out _ _ tF (fun _ => ?_)
          simp only [Act.put, List.setIfInBounds_toArray, List.set_cons_zero, List.set_cons_succ]
          refine hw_call 5 none rfl rfl (by kernel_rfl) (by rfl) (fun K hK => ?_)
          refine hw_store 29 (.tmp 5) (.tmp 16) rfl rfl BZ #[.int .i64 z, .int .i64 ct, .slice P1 m1 d1, .slice P2 m2 d2] #[.int .i64 0, .int .i64 0, .slice none 0 0, .slice none 0 0] rfl rfl bZ (by kernel_rfl) rfl (by kernel_rfl) ?_
          have bR' := bZ.rowW #[.int .i64 z, .int .i64 ct, .slice P1 m1 d1, .slice P2 m2 d2]
          have tR := Turn.rowW (Turn.refl (fun i => i = BZ) wF) rfl #[.int .i64 z, .int .i64 ct, .slice P1 m1 d1, .slice P2 m2 d2]
          have jdR := jdF.rowJ tR bZ
          have sR := sF.turn tR (by omega) (fun x hz hx e => by have := hA x hz hx; omega)
          have nR := Turn.trans tF (tR.mono (T := fun i => i = BZ) (fun i _ e => e)) (S := fun k => k = B) (fun i hi e => by omega)
          refine hK.out undef _ nR (fun _ => ?_)
          refine wpAnyH_done (by kernel_rfl) ?_ _
          generalize World.setRow _ _ _ = wR at *
          go_wp2_with fail
          go_meet
          exact ⟨BZ, z, ct, P1, m1, d1, P2, m2, d2, tE, us', vs', rfl, bR', jdR.low (by omega), by have := jdR.l1; have := jdR.l2; omega, by omega, sR, nR, hBw⟩
        exact fun j hj => by cases hj
      refine hw_step 4 (some 5) rfl rfl (by rfl) (fun K hK => ?_) ?_
      · skip
        go_simp
        have alZ : New wr ((wr.alloc (.cells #[.int .i64 0, .int .i64 0, .slice none 0 0, .slice none 0 0] 29)).drew) := ((New.refl wr).alloc (.cells #[.int .i64 0, .int .i64 0, .slice none 0 0, .slice none 0 0] 29)).drew
        have bZ : Blk ((wr.alloc (.cells #[.int .i64 0, .int .i64 0, .slice none 0 0, .slice none 0 0] 29)).drew) wr.heap.size 29 #[.int .i64 0, .int .i64 0, .slice none 0 0, .slice none 0 0] := (Blk.mk wr wr.heap.size 29 #[.int .i64 0, .int .i64 0, .slice none 0 0, .slice none 0 0] rfl).new ((New.refl _).drew)
        have nZ : Turn (fun k => k = B) wr ((wr.alloc (.cells #[.int .i64 0, .int .i64 0, .slice none 0 0, .slice none 0 0] 29)).drew) := alZ.turn
        have hsZ := hs.new alZ
        have zC : wr.heap.size ≤ wr.heap.size := Nat.le_refl _
        refine hK.out _ _ nZ (fun _ => ?_)
        simp only [Act.put, List.setIfInBounds_toArray, List.set_cons_zero, List.set_cons_succ]
        obtain ⟨BZ, hBZ⟩ : ∃ BZ, BZ = wr.heap.size := ⟨_, rfl⟩
        rw [← hBZ] at bZ ⊢
        have hBw : wr.heap.size ≤ BZ := by omega
        have ZB : ¬ BZ = B := by omega
        clear hBZ
        generalize (wr.alloc (.cells #[.int .i64 0, .int .i64 0, .slice none 0 0, .slice none 0 0] 29)).drew = wZ at *
        refine hw_call 2 (some 15) rfl rfl (by kernel_rfl) (by rfl) (fun K hK => ?_)
        go_simp
        refine (l10Entry_sc hsZ (by omega)).mono ?_
        rintro e wE ⟨ep, ki, pe, qE, lE, clE, tE, es, rfl, hE, hlE, hep, hki, hpe, htE, sE, ttE⟩
        have tE' := nZ.both13 ttE
        replace bZ := bZ.turn ttE ZB
        go_simp
        refine hK.out _ _ tE' (fun _ => ?_)
        simp only [Act.put, List.setIfInBounds_toArray, List.set_cons_zero, List.set_cons_succ]
        refine hw_call 3 (some 16) rfl rfl (by kernel_rfl) (by rfl) (fun K hK => ?_)
        go_simp
        have jdE := jd.turn tE' (by intro k q1 q2 e; omega)
        obtain ⟨p1, p2, -⟩ := ov_open jdE.o1 jdE.l1 jdE.b1
        obtain ⟨p3, p4, -⟩ := ov_open jdE.o2 jdE.l2 jdE.b2
        have hI := specAxn A1 A2 n1 c1 n2 c2 us vs wE p1 p3 jdE.nl1 jdE.nl2 jdE.l1 jdE.l2 p2 p4 (by omega) (by omega) ep ki pe qE lE clE es hE.1 (hE.2.2.2.elim .inl (fun ⟨g, e, _⟩ => .inr ⟨g, 0, e⟩)) hE.2.1 (by omega)
        obtain ⟨ll, l1, l2⟩ := ax_bd (ep := ep) (ki := ki) (pe := pe) jdE.b1 jdE.b2 hE.1.lt ⟨hep.1, by omega⟩ hki hpe (by rw [hE.2.1]; exact hlE)
        rw [jdE.l1, jdE.l2] at ll
        unfold JrA at hI
        generalize axA us vs ep ki pe es = rr at *
        obtain ⟨z, ct, us', vs'⟩ := rr
        refine hI.mono ?_
        rintro e wF hF
        obtain ⟨P1, m1, d1, P2, m2, d2, rfl, jdF, hnF⟩ := jr_jd hF l1 l2
        clear hI hF p1 p2 p3 p4 jdE
        have tF := Turn.trans tE' hnF.turn (S := fun k => k = B) (fun i _ e => e)
        have sF := sE.new hnF
        have zF := tE'.size
        replace bZ := bZ.new hnF
        go_simp
        refine hK.out _ _ tF (fun _ => ?_)
        simp only [Act.put, List.setIfInBounds_toArray, List.set_cons_zero, List.set_cons_succ]
        refine hw_call 5 none rfl rfl (by kernel_rfl) (by rfl) (fun K hK => ?_)
        refine hw_store 29 (.tmp 5) (.tmp 16) rfl rfl BZ #[.int .i64 z, .int .i64 ct, .slice P1 m1 d1, .slice P2 m2 d2] #[.int .i64 0, .int .i64 0, .slice none 0 0, .slice none 0 0] rfl rfl bZ (by kernel_rfl) rfl (by kernel_rfl) ?_
        have bR' := bZ.rowW #[.int .i64 z, .int .i64 ct, .slice P1 m1 d1, .slice P2 m2 d2]
        have tR := Turn.rowW (Turn.refl (fun i => i = BZ) wF) rfl #[.int .i64 z, .int .i64 ct, .slice P1 m1 d1, .slice P2 m2 d2]
        have jdR := jdF.rowJ tR bZ
        have sR := sF.turn tR (by omega) (fun x hz hx e => by have := hA x hz hx; omega)
        have nR := Turn.trans tF (tR.mono (T := fun i => i = BZ) (fun i _ e => e)) (S := fun k => k = B) (fun i hi e => by omega)
        refine hK.out undef _ nR (fun _ => ?_)
        refine wpAnyH_done (by kernel_rfl) ?_ _
        generalize World.setRow _ _ _ = wR at *
        go_wp2_with fail
        go_meet
        exact ⟨BZ, z, ct, P1, m1, d1, P2, m2, d2, tE, us', vs', rfl, bR', jdR.low (by omega), by have := jdR.l1; have := jdR.l2; omega, by omega, sR, nR, hBw⟩
      exact fun j hj => by cases hj
    case rest =>
      obtain ⟨BJ, z, ct, P1, m1, d1, P2, m2, d2, tE, us', vs', rfl, bJ, jd5, hmm, htE, s5, t5, hBJ⟩ := hcut
      generalize wc = w5 at *
      have bC5 := bC.turn t5 CB
      have bR5 := bR.turn t5 RB
      have jd5o := jd.turn t5 (by intro k q1 q2 e; omega)
      have tt5 := tt.both13 t5
      have z5 := t5.size
      have cJ := bJ.cells
      by_cases hz0 : z = 0
      case neg =>
        have hz' : (z == 0) = false := by simpa using hz0
        clear jd5 hmm
        have jd5 := jd5o
        clear jd5o
        go_upto_region 8 with fail
        clear cJ
        go_wp2_with fail
        refine (chance_sc s5 3 (by omega) (by omega)).mono ?_
        rintro e w7 ⟨r7, rfl, s7, ht7⟩
        have bC7 := bC5.turn ht7 CB
        have bR7 := bR5.turn ht7 RB
        have jd7 := jd5.turn ht7 (by intro k q1 q2 e; omega)
        have tt7 := tt5.both13 ht7
        have z7 := ht7.size
        clear bC5 bR5 jd5 tt5 s5 ht7
        cases r7
        case false =>
          go_wp2
          go_roundw
          case rel => exact ⟨kk - 1, tE + 1, n1, c1, n2, c2, A1, A2, us, vs, by omega, by congr 1; omega, bC7, jd7, by omega, bR7, by omega, s7, tt7⟩
          case measure => simp [intOf]; omega
        case true =>
          have cC := bC7.cells
          go_wp2_with fail
          obtain ⟨p1, p2, -⟩ := ov_open jd7.o1 jd7.l1 jd7.b1
          obtain ⟨p3, p4, -⟩ := ov_open jd7.o2 jd7.l2 jd7.b2
          have hI := specSyn A1 A2 n1 c1 n2 c2 us vs w7 p1 p3 jd7.nl1 jd7.nl2 jd7.l1 jd7.l2 p2 p4 (by omega) (by omega)
          obtain ⟨ll, l1, l2⟩ := sy_bd jd7.b1 jd7.b2
          rw [jd7.l1, jd7.l2] at ll
          unfold JrA at hI
          generalize syA us vs = rr at *
          obtain ⟨z2, ct2, us2, vs2⟩ := rr
          refine hI.mono ?_
          rintro e w8 hF
          obtain ⟨Q1, o1, e1, Q2, o2, e2, rfl, jd8, hn8⟩ := jr_jd hF l1 l2
          clear hI hF p1 p2 p3 p4 cC
          have bC8 := bC7.new hn8
          have bR8 := bR7.new hn8
          have tt8 := Turn.trans tt7 hn8.turn (S := fun k => k = B) (fun i _ e => e)
          have s8 := s7.new hn8
          have z8 := hn8.size
          have cC := bC8.cells
          have fC := bC8.frees
          have lC8 := bC8.lt
          go_upto_region 4 with fail
          have bC9 := (bC8.set 0 (.slice Q1 o1 e1)).set 1 (.slice Q2 o2 e2)
          have t9 := ((Turn.refl (fun i => i = w.heap.size + 1) w8).set (p := ⟨w.heap.size + 1, 0, none⟩) rfl (.slice Q1 o1 e1)).set (p := ⟨w.heap.size + 1, 1, none⟩) rfl (.slice Q2 o2 e2)
          replace bC9 : Blk _ (w.heap.size + 1) 25 #[.slice Q1 o1 e1, .slice Q2 o2 e2] := bC9
          have bR9 := bR8.turn t9 (by omega)
          have jd9 := (jd8.setJ t9 bC8).low (show w.heap.size + 1 + 1 ≤ w7.heap.size by omega)
          have s9 := s8.turn t9 (by omega) (fun x hz hx e => by have := hA x hz hx; omega)
          have tt9 := Turn.trans tt8 t9 (S := fun k => k = B) (fun i hi e => by omega)
          generalize (w8.setCell ⟨w.heap.size + 1, 0, none⟩ (.slice Q1 o1 e1)).setCell ⟨w.heap.size + 1, 1, none⟩ (.slice Q2 o2 e2) = w9 at *
          have jl1 := jd9.l1
          have jl2 := jd9.l2
          have HJ : Hid (o1 + o2 ≤ n1 + n2) := by show o1 + o2 ≤ n1 + n2; omega
          clear cC fC jl1 jl2 ll l1 l2
          have hj := HJ.out
          go_wp2
          go_roundw
          case rel => exact ⟨kk - 1, tE + 1, o1, e1, o2, e2, Q1, Q2, us2, vs2, by omega, by congr 1; omega, bC9, jd9, by omega, bR9, by omega, s9, tt9⟩
          case measure => simp [intOf]; omega
      subst hz0
      have cC := bC5.cells
      have fC := bC5.frees
      have lC5 := bC5.lt
      go_upto_region 8 with fail
      have bC6 := (bC5.set 0 (.slice P1 m1 d1)).set 1 (.slice P2 m2 d2)
      have t6 := ((Turn.refl (fun i => i = w.heap.size + 1) w5).set (p := ⟨w.heap.size + 1, 0, none⟩) rfl (.slice P1 m1 d1)).set (p := ⟨w.heap.size + 1, 1, none⟩) rfl (.slice P2 m2 d2)
      replace bC6 : Blk _ (w.heap.size + 1) 25 #[.slice P1 m1 d1, .slice P2 m2 d2] := bC6
      have bR6 := bR5.turn t6 (by omega)
      have jd6 := (jd5.setJ t6 bC5).low (show w.heap.size + 1 + 1 ≤ wr.heap.size by omega)
      have s6 := s5.turn t6 (by omega) (fun x hz hx e => by have := hA x hz hx; omega)
      have tt6 := Turn.trans tt5 t6 (S := fun k => k = B) (fun i hi e => by omega)
      have z6 := t6.size
      generalize (w5.setCell ⟨w.heap.size + 1, 0, none⟩ (.slice P1 m1 d1)).setCell ⟨w.heap.size + 1, 1, none⟩ (.slice P2 m2 d2) = w6 at *
      clear cC fC cJ bC5 bR5 jd5 jd5o s5 tt5 bJ t6
      go_wp2_with fail
      refine (chance_sc s6 3 (by omega) (by omega)).mono ?_
      rintro e w7 ⟨r7, rfl, s7, ht7⟩
      have bC7 := bC6.turn ht7 CB
      have bR7 := bR6.turn ht7 RB
      have jd7 := jd6.turn ht7 (by intro k q1 q2 e; omega)
      have tt7 := tt6.both13 ht7
      have z7 := ht7.size
      clear bC6 bR6 jd6 tt6 s6 ht7
      cases r7
      case false =>
        go_wp2
        go_roundw
        case rel => exact ⟨kk - 1, tE + 1, m1, d1, m2, d2, P1, P2, us', vs', by omega, by congr 1; omega, bC7, jd7, by omega, bR7, by omega, s7, tt7⟩
        case measure => simp [intOf]; omega
      case true =>
        have cC := bC7.cells
        go_wp2_with fail
        obtain ⟨p1, p2, -⟩ := ov_open jd7.o1 jd7.l1 jd7.b1
        obtain ⟨p3, p4, -⟩ := ov_open jd7.o2 jd7.l2 jd7.b2
        have hI := specSyn P1 P2 m1 d1 m2 d2 us' vs' w7 p1 p3 jd7.nl1 jd7.nl2 jd7.l1 jd7.l2 p2 p4 (by omega) (by omega)
        obtain ⟨ll, l1, l2⟩ := sy_bd jd7.b1 jd7.b2
        rw [jd7.l1, jd7.l2] at ll
        unfold JrA at hI
        generalize syA us' vs' = rr at *
        obtain ⟨z2, ct2, us2, vs2⟩ := rr
        refine hI.mono ?_
        rintro e w8 hF
        obtain ⟨Q1, o1, e1, Q2, o2, e2, rfl, jd8, hn8⟩ := jr_jd hF l1 l2
        clear hI hF p1 p2 p3 p4 cC
        have bC8 := bC7.new hn8
        have bR8 := bR7.new hn8
        have tt8 := Turn.trans tt7 hn8.turn (S := fun k => k = B) (fun i _ e => e)
        have s8 := s7.new hn8
        have z8 := hn8.size
        have cC := bC8.cells
        have fC := bC8.frees
        have lC8 := bC8.lt
        go_upto_region 4 with fail
        have bC9 := (bC8.set 0 (.slice Q1 o1 e1)).set 1 (.slice Q2 o2 e2)
        have t9 := ((Turn.refl (fun i => i = w.heap.size + 1) w8).set (p := ⟨w.heap.size + 1, 0, none⟩) rfl (.slice Q1 o1 e1)).set (p := ⟨w.heap.size + 1, 1, none⟩) rfl (.slice Q2 o2 e2)
        replace bC9 : Blk _ (w.heap.size + 1) 25 #[.slice Q1 o1 e1, .slice Q2 o2 e2] := bC9
        have bR9 := bR8.turn t9 (by omega)
        have jd9 := (jd8.setJ t9 bC8).low (show w.heap.size + 1 + 1 ≤ w7.heap.size by omega)
        have s9 := s8.turn t9 (by omega) (fun x hz hx e => by have := hA x hz hx; omega)
        have tt9 := Turn.trans tt8 t9 (S := fun k => k = B) (fun i hi e => by omega)
        generalize (w8.setCell ⟨w.heap.size + 1, 0, none⟩ (.slice Q1 o1 e1)).setCell ⟨w.heap.size + 1, 1, none⟩ (.slice Q2 o2 e2) = w9 at *
        have jl1 := jd9.l1
        have jl2 := jd9.l2
        have HJ : Hid (o1 + o2 ≤ m1 + m2) := by show o1 + o2 ≤ m1 + m2; omega
        clear cC fC jl1 jl2 ll l1 l2
        have hj := HJ.out
        go_wp2
        go_roundw
        case rel => exact ⟨kk - 1, tE + 1, o1, e1, o2, e2, Q1, Q2, us2, vs2, by omega, by congr 1; omega, bC9, jd9, by omega, bR9, by omega, s9, tt9⟩
        case measure => simp [intOf]; omega

end Go.Proofs.Ytdkjgjjkjfeodaa
