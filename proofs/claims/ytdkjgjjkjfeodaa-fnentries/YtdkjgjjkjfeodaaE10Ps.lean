/- What is proved here: what the model's packing of an entry answers, for every entry of at most 1048576 bytes. -/
import Derived.Test.YtdkjgjjkjfeodaaE10Pi
import Derived.Deep.RegionHeld3
import Derived.Deep.CutRange
namespace Go.Proofs.Ytdkjgjjkjfeodaa
open Go.RowKit
set_option linter.unusedVariables false
set_option linter.unusedSimpArgs false
set_option maxRecDepth 100000

set_option maxHeartbeats 6400000 in
theorem l10Pack_any (ep k p : Int) (a : Option Addr) (n c : Nat) (zs : List Int) (w : World) (h : BsAt w a zs) (hn : zs.length = n) (hnone : a = none → n = 0 ∧ c = 0) (hf : enF ep k p n = 0) :
    Calls Try.prog 46 #[.agg #[.int .i64 ep, .int .i64 k, .int .i64 p, .slice a n c]] w fun e w' => ∃ g cap, e = .returned (.slice (some ⟨g, 0, none⟩) (8 + n) cap) ∧ w.heap.size ≤ g ∧
      w'.ownsRow 0 5 1 (.slice (some ⟨g, 0, none⟩) (8 + n) cap) (8 + n) ((enP ep k p zs).map (Value.int .u8)) ∧ New w w' := by
  obtain ⟨i0, hi, hz0, hz1, hz2⟩ := info_parts Try.infoU8
  obtain ⟨he1, he2, hk1, hk4, hp0, hp2, hn60⟩ := enF_zero hf
  clear hf
  have hkp : ∀ z ∈ [k, p, (n : Int)], 0 ≤ z ∧ z ≤ 255 := by simp; omega
  have hw : New w (w.alloc (.cells #[.int .i64 ep, .int .i64 k, .int .i64 p, .slice a n c] 40)) := (New.refl w).alloc _
  have bM : Blk (w.alloc (.cells #[.int .i64 ep, .int .i64 k, .int .i64 p, .slice a n c] 40)) w.heap.size 40 #[.int .i64 ep, .int .i64 k, .int .i64 p, .slice a n c] := Blk.mk _ _ _ _ rfl
  have eB : enB ep k p zs = [ep / 256, ep % 256, k, p, (n : Int)] ++ zs := by simp [enB, hn]
  have lB : (enB ep k p zs).length = 5 + n := by rw [enB_len, hn]
  have bB := enB_bd h.lt ⟨he1, he2⟩ ⟨hk1, hk4⟩ ⟨hp0, hp2⟩ (by omega : zs.length ≤ 60)
  have HP : Hid (enP ep k p zs = [5 + (n : Int), sumOf (enB ep k p zs) / 256, sumOf (enB ep k p zs) % 256] ++ enB ep k p zs) := by unfold Hid enP; rw [hn]
  have sb := sumOf_bd (enB ep k p zs)
  generalize enB ep k p zs = ys at *
  have hwk : IntKind.u8.wrap k = k := by simp [IntKind.wrap, IntKind.signed, IntKind.bits]; omega
  have hwp : IntKind.u8.wrap p = p := by simp [IntKind.wrap, IntKind.signed, IntKind.bits]; omega
  have hwn : IntKind.u8.wrap (n : Int) = n := by simp [IntKind.wrap, IntKind.signed, IntKind.bits]; omega
  go_enter Try.func46, Try.ntmps46
  go_upto_region 1 with fail
  have sz0 : w.heap.size + 1 ≤ (w.alloc (.cells #[.int .i64 ep, .int .i64 k, .int .i64 p, .slice a n c] 40)).heap.size := by simp
  generalize (w.alloc (.cells #[.int .i64 ep, .int .i64 k, .int .i64 p, .slice a n c] 40)) = w0 at *
  have cM := bM.cells
  have cMa := (bM.alloc (.cells #[.int .u8 k, .int .u8 p, .int .u8 n] 5)).cells
  go_region_held3 (fun W => ∀ i, W.cell? ⟨w.heap.size, i, none⟩ = (#[.int .i64 ep, .int .i64 k, .int .i64 p, .slice a n c] : Array Value)[i]?) (first | exact cM | exact cMa | exact cc1 | exact cc1a | exact cv1)
    (first
    | (refine step_ap2 _ rfl (.tmp 6) (.tmp 20) rfl 0 Try.underlying22 hi hz0 hz1 hz2 p1 2 k1 [ep / 256, ep % 256] rfl (by first | exact op1 | exact own_new op1 ((New.refl _).alloc _)) ⟨_, 0, none⟩ 3 3 [k, p, (n : Int)] rfl (by first | exact BsAt.of_block (heap_alloc_new _ _) [k, p, (n : Int)] rfl hkp | exact (BsAt.of_block (heap_alloc_new _ _) [k, p, (n : Int)] rfl hkp).new un1 | exact (BsAt.of_block (heap_alloc_new _ _) [k, p, (n : Int)] rfl hkp).new (((New.refl _).drew).trans un1)) rfl (by omega) (Nat.zero_le _) _ rfl ?_; intro f1 l1 v1 S1' gr1 at1; have V1 : New w v1 := (by first | exact (hw.trans M1).grow gr1 (by intro k hk; obtain rfl := Option.some.inj hk; omega) | exact ((hw.trans M1).alloc _).grow gr1 (by intro k hk; obtain rfl := Option.some.inj hk; omega)); have bv1 : Blk v1 w.heap.size 40 #[.int .i64 ep, .int .i64 k, .int .i64 p, .slice a n c] := (by first | exact (bM.new M1).grow gr1 (by simp; omega) | exact ((bM.new M1).alloc _).grow gr1 (by simp; omega)); have cv1 := bv1.cells)
    | (go_at_call_of 66 ep; refine (twoBytes_any ep _ (by omega) (by omega)).mono ?_; rintro e u1 ⟨p1, k1, rfl, hp1', op1, un1⟩; have M1 : New w0 u1 := (by first | exact ((New.refl _).drew).trans un1 | exact (((New.refl _).alloc _).drew).trans un1); have hp1 : w0.heap.size ≤ p1 := (by first | exact hp1' | (simp at hp1'; omega)); have cc1 := (bM.new M1).cells; have cc1a := ((bM.new M1).alloc (.cells #[.int .u8 k, .int .u8 p, .int .u8 n] 5)).cells; have d1 := M1.size))
  all_goals
    have S1 : v1.ownsRow 0 5 1 (.slice (some ⟨f1, 0, none⟩) 5 l1) 5 ([ep / 256, ep % 256, k, p, (n : Int)].map (Value.int .u8)) := by simpa using S1'
    have z1 := V1.size
    have c9 := bv1.cells
    have hf1 : w.heap.size ≤ f1 := by
      rcases at1 with h' | h'
      · omega
      · have := M1.size; first | omega | (simp at h'; omega)
    clear S1' gr1 at1 un1 op1 M1 cc1 cc1a cv1 cM cMa hp1' hwk hwp hwn
    go_wp2_with (at_builtin; refine wpList_ap _ rfl (.tmp 22) (.tmp 25) rfl 0 Try.underlying22 hi hz0 hz1 hz2 (.slice (some ⟨f1, 0, none⟩) 5 l1) 5 [ep / 256, ep % 256, k, p, (n : Int)] rfl S1 a n c _ rfl (h.new V1) hn hnone (by omega) (by omega) (Nat.zero_le _) v1.heap.size rfl ?_)
    intro g2 cap2 w2 ho2 hgr2 hat2
    have V2 : New w w2 := V1.grow hgr2 (by intro j hj; simp [Value.ownBlock] at hj; omega)
    replace ho2 : w2.ownsRow 0 5 1 (.slice (some ⟨g2, 0, none⟩) (5 + n) cap2) (5 + n) (ys.map (Value.int .u8)) := by rw [eB]; simpa using ho2
    have hS2 : BsAt w2 (some ⟨g2, 0, none⟩) ys := BsAt.of_own ho2 bB
    have hl2 := (ho2.lt g2 rfl).2
    have ho3 := New.lit (w := w2) 1 [5 + (n : Int)] w2.heap.size rfl rfl (by omega) #[.int .u8 (5 + (n : Int))] rfl
    have N3 := (New.refl w2).alloc (.cells #[.int .u8 (5 + (n : Int))] 5)
    clear hat2 hgr2 S1 c9 bv1 bM eB
    have z2 := V2.size
    go_wp2_with fail
    refine (specSum_any (some ⟨g2, 0, none⟩) (5 + n) cap2 ys _ (hS2.new N3) lB (by omega)).mono ?_
    rintro e w3 ⟨rfl, rfl⟩
    go_wp2_with fail
    refine (twoBytes_any (sumOf ys) _ (by omega) (by omega)).mono ?_
    rintro e w4 ⟨g4, cap4, rfl, hg4, ho4, hn4⟩
    have ho5 := own_new ho3 hn4
    have hS4 := (hS2.new N3).new hn4
    have V4 := (V2.trans N3).trans hn4
    have hb4 : BsAt w4 (some ⟨g4, 0, none⟩) [sumOf ys / 256, sumOf ys % 256] := BsAt.of_own ho4 (by simp; omega)
    have z4 := hn4.size
    simp at hg4 z4
    clear ho3 ho4 hn4 N3
    go_wp2_with (at_builtin; refine wpList_ap _ rfl (.tmp 30) (.tmp 33) rfl 0 Try.underlying22 hi hz0 hz1 hz2 (.slice (some ⟨w2.heap.size, 0, none⟩) 1 1) 1 [5 + (n : Int)] rfl ho5 (some ⟨g4, 0, none⟩) 2 cap4 _ rfl hb4 rfl (by intro h; cases h) (by omega) (by omega) (Nat.zero_le _) w4.heap.size rfl ?_)
    intro g5 cap5 w5 ho6 hgr5 hat5
    have V5 : New w w5 := V4.grow hgr5 (by intro j hj; simp [Value.ownBlock] at hj; omega)
    have hg5 : w2.heap.size ≤ g5 := by
      rcases hat5 with h' | h'
      · simp [Value.ownBlock] at h'; omega
      · omega
    have hS5 : BsAt w5 (some ⟨g2, 0, none⟩) ys := hS4.turn (Turn.of_grown (g := w2.heap.size) (by simpa [Value.ownBlock] using hgr5)) (by intro x hx; cases hx; simp; omega)
    have z5 := hgr5.size
    clear hat5 hgr5 hS4 hb4 ho5
    go_wp2_with (at_builtin; refine wpList_ap _ rfl (.tmp 34) (.tmp 35) rfl 0 Try.underlying22 hi hz0 hz1 hz2 (.slice (some ⟨g5, 0, none⟩) 3 cap5) 3 [5 + (n : Int), sumOf ys / 256, sumOf ys % 256] rfl (by simpa using ho6) (some ⟨g2, 0, none⟩) (5 + n) cap2 ys rfl hS5 lB (by intro h; cases h) (by omega) (by omega) (Nat.zero_le _) w5.heap.size rfl ?_)
    intro g7 cap7 w7 ho7 hgr7 hat7
    have V7 : New w w7 := V5.grow hgr7 (by intro j hj; simp [Value.ownBlock] at hj; omega)
    have hg7 : w.heap.size ≤ g7 := by
      rcases hat7 with h' | h'
      · simp [Value.ownBlock] at h'; omega
      · omega
    go_wp2
    go_ret
    have e8 : 3 + (5 + n) = 8 + n := by omega
    refine ⟨g7, cap7, ret_slice e8, hg7, ?_, V7⟩
    rw [HP.out, ← e8]
    exact ho7

end Go.Proofs.Ytdkjgjjkjfeodaa
