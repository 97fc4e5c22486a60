/- What is proved here: which bytes the first entries are, of bytes that may be nil. -/
import Derived.Test.YtdkjgjjkjfeodaaE10Ji
import Derived.Test.YtdkjgjjkjfeodaaE10Cu
namespace Go.Proofs.Ytdkjgjjkjfeodaa
open Go.RowKit Go.Shelf
set_option linter.unusedVariables false
set_option linter.unusedSimpArgs false
set_option maxRecDepth 100000
attribute [local go_sem] Oper.semAt_some

set_option maxHeartbeats 2000000 in
theorem firstEn (a : Option Addr) (n c : Nat) (k : Int) (zs : List Int) (w : World) (h : BsAt w a zs) (hs : Sl10 w a n c) (hn : zs.length = n) (hc : n ≤ c) (hm : n ≤ 1048576) (hk : k ≤ 1048576) (hkl : -1048576 ≤ k) :
    Calls Try.prog 43 #[.slice a n c, .int .i64 k] w fun e w' => e = .returned (.slice a (eTo zs k.toNat) c) ∧ New w w' := by
  refine (callsIn_wide (n := 4)).1 ?_
  refine callsIn_of_wp_marks Try.func43 rfl trivial ?_ rfl
  simp only [Try.ntmps43, List.size_toArray, List.length_cons, List.length_nil, Nat.reduceAdd, Nat.reduceSub, Array.replicate_succ, Array.replicate_zero, List.push_toArray, List.append_toArray, List.nil_append, List.cons_append]
  gi_wp2_with (refine ⟨trivial, ?_⟩; gi_at_call 40; refine (callsIn_wide.2 (entries_in a n c _)).mono ?_; rintro e w' ⟨rfl, rfl⟩)
  have hB0 : Below w.heap.size w (((w.alloc (.cells #[.int .i64 k] 2)).alloc (.cells #[.int .i64 0] 3)).alloc (.cells #[.slice a n c] 22)) := (((Below.refl _ w).alloc (Nat.le_refl _) _).alloc (by simp) _).alloc (by simp; omega) _
  have bK := ((Blk.mk w w.heap.size 2 #[.int .i64 k] rfl).alloc (.cells #[.int .i64 0] 3)).alloc (.cells #[.slice a n c] 22)
  have bU := (Blk.mk (w.alloc (.cells #[.int .i64 k] 2)) (w.heap.size + 1) 3 #[.int .i64 0] (by simp)).alloc (.cells #[.slice a n c] 22)
  have bN := Blk.mk ((w.alloc (.cells #[.int .i64 k] 2)).alloc (.cells #[.int .i64 0] 3)) (w.heap.size + 2) 22 #[.slice a n c] (by simp)
  have hL : (((w.alloc (.cells #[.int .i64 k] 2)).alloc (.cells #[.int .i64 0] 3)).alloc (.cells #[.slice a n c] 22)).heap.size = w.heap.size + 3 := by simp
  have hz := h.new (New.of_below hB0 (Nat.le_refl _))
  generalize (((w.alloc (.cells #[.int .i64 k] 2)).alloc (.cells #[.int .i64 0] 3)).alloc (.cells #[.slice a n c] 22)) = w1 at *
  refine wpIn_rangeFunc_ownG rfl (by omega) (gf := 61) (lb := #[.pointer (some ⟨w.heap.size + 1 + 1, 0, none⟩)]) rfl trivial (enters_of Try.func61 (by kernel_rfl) rfl)
    (entries_stops (w.heap.size + 2) w.heap.size a n c zs w1 hn hc hm hs (by omega) bN hz) Kp10.trans (kp10_b (by omega) (by omega)) (Below.refl _ _) (fun _ => rfl)
    (fun pre W => ((W.cell? ⟨w.heap.size, 0, none⟩ = some (.int .i64 (k - (pre.length : Int))) ∧ W.frozen? ⟨w.heap.size, 0, none⟩ = false) ∧ (W.cell? ⟨w.heap.size + 1, 0, none⟩ = some (.int .i64 (eEnd pre)) ∧ W.frozen? ⟨w.heap.size + 1, 0, none⟩ = false) ∧ pre.length ≤ k.toNat) ∧ Below w.heap.size w W)
    (fun cd pre W => (cd = .exit 0 ∧ ∃ ini x, pre = ini ++ [x] ∧ ini.length = k.toNat ∧ W.cell? ⟨w.heap.size + 1, 0, none⟩ = some (.int .i64 (eEnd ini))) ∧ Below w.heap.size w W)
    (OwnFrom.and (Own.from (fun s A B row hs hg hr => ⟨⟨cell_kept hs.1.1 hg hr, (frozen_kept hs.1.1 hg hr).trans hs.1.2⟩, ⟨cell_kept hs.2.1.1 hg hr, (frozen_kept hs.2.1.1 hg hr).trans hs.2.1.2⟩, hs.2.2⟩) _) (ownFrom_below (Nat.le_refl _) (by omega)))
    (fun cd => OwnFrom.and (Own.from (fun s A B row hs hg hr => by obtain ⟨hcd, ini, x, e1, e2, e3⟩ := hs; exact ⟨hcd, ini, x, e1, e2, cell_kept e3 hg hr⟩) _) (ownFrom_below (Nat.le_refl _) (by omega)))
    ⟨⟨⟨by simpa using bK.cells 0, bK.frees 0⟩, ⟨bU.cells 0, bU.frees 0⟩, by simp⟩, hB0⟩
    (fun x => { tmps := #[.slice a n c, .int .i64 k, undef, .pointer (some ⟨w.heap.size, 0, none⟩), .slice none 0 0, .pointer (some ⟨w.heap.size + 1, 0, none⟩), .int .i64 ((x.t : Int) + (eSz (zs.drop x.t) : Int)), .slice a n c, .func (.func 61) #[] #[.pointer (some ⟨w.heap.size + 1 + 1, 0, none⟩)], .int .i64 ((x.t : Int) + (eSz (zs.drop x.t) : Int)), .agg x.cs, undef, undef, undef, undef, undef, undef, undef, undef], defers := [] }) ?assign ?body ?done ?stop
  case assign =>
    intro l x W K hK
    dsimp only [EI.enc]
    gi_wp2
    exact hK
  case body =>
    rintro l pre x W ⟨⟨⟨hc1, hf1⟩, ⟨hc2, hf2⟩, hl1⟩, hB⟩ hlen
    by_cases hgo : k - (pre.length : Int) ≤ 0
    · gi_wp2
      exact ⟨KeepsFrom.refl _ _, ⟨rfl, pre, x, rfl, by omega, hc2⟩, hB⟩
    · have hw1 : -1048576 ≤ k - (pre.length : Int) - 1 := by omega
      have hw2 : k - (pre.length : Int) - 1 ≤ 1048576 := by omega
      gi_wp2
      have hne : ¬ (⟨w.heap.size, 0, none⟩ : Addr).block = w.heap.size + 1 := by simp
      have hne' : ¬ (⟨w.heap.size + 1, 0, none⟩ : Addr).block = w.heap.size := by simp
      have g1 : (W.setCell ⟨w.heap.size + 1, 0, none⟩ (.int .i64 ((x.t : Int) + (eSz (zs.drop x.t) : Int)))).cell? ⟨w.heap.size + 1, 0, none⟩ = some (.int .i64 (eEnd (pre ++ [x]))) := by rw [eEnd_snoc]; exact World.cell?_setCell_same' _ _ _ (by rw [hc2]; rfl)
      have g2 : (W.setCell ⟨w.heap.size + 1, 0, none⟩ (.int .i64 ((x.t : Int) + (eSz (zs.drop x.t) : Int)))).cell? ⟨w.heap.size, 0, none⟩ = some (.int .i64 (k - (pre.length : Int))) := by rw [cell_set10 hne']; exact hc1
      refine ⟨((KeepsOthers.setCell _ _ _).trans (KeepsOthers.setCell _ _ _)).from _, ⟨((Below.refl w.heap.size W).setCell (p := ⟨w.heap.size + 1, 0, none⟩) (by simp) _).setCell (p := ⟨w.heap.size, 0, none⟩) (Nat.le_refl _) _, (Below.heap_setCell _ _ _ _ (by simp)).trans (Below.heap_setCell _ _ _ _ (by simp))⟩, ⟨⟨?_, ?_⟩, ⟨?_, ?_⟩, ?_⟩, (hB.setCell (p := ⟨w.heap.size + 1, 0, none⟩) (by simp) _).setCell (p := ⟨w.heap.size, 0, none⟩) (Nat.le_refl _) _⟩
      · rw [World.cell?_setCell_same' _ _ _ (by rw [g2]; rfl)]
        simp only [List.length_append, List.length_cons, List.length_nil]
        congr 2
        push_cast
        omega
      · rw [World.frozen?_setCell, World.frozen?_setCell]; exact hf1
      · rw [cell_set10 hne]; exact g1
      · rw [World.frozen?_setCell, World.frozen?_setCell]; exact hf2
      · simp only [List.length_append, List.length_cons, List.length_nil]; omega
  case done =>
    rintro D ys W hD ⟨t, hcm, h0⟩ ⟨⟨_, ⟨hc2, _⟩, hl1⟩, hB⟩ hK
    rw [come_end hcm] at hc2
    have HT : Hid (eTo zs k.toNat = t) := hcm.stay h0 (by simpa using hl1)
    have hu := eTo_le zs k.toNat
    rw [hn, HT.out] at hu
    have hu1 : ((t : Nat) : Int) ≤ (c : Int) := by omega
    rcases hs with ⟨rfl, rfl, rfl⟩ | ⟨b, off, rfl, hb⟩
    · have ht0 : t = 0 := by omega
      have HU : Hid (eTo zs k.toNat = 0) := by unfold Hid; rw [HT.out, ht0]
      rw [ht0] at hc2
      have hc3 : W.cell? ⟨w.heap.size + 1, 0, none⟩ = some (.int .i64 0) := hc2
      clear hc2 hu hu1 ht0 HT
      gi_wp2
      refine ⟨by simp, .inl ⟨_, _, rfl, run_takeDeferred hK, ?_⟩⟩
      exact ⟨_, results_tmp rfl _ _ _, (by rw [HU.out]; rfl), New.of_below (hB.trans (belowK_b (w := w) (Nat.le_refl _) W D _ _ (by omega) hK rfl rfl)) (Nat.le_refl _)⟩
    · gi_wp2
      refine ⟨by simp, .inl ⟨_, _, rfl, run_takeDeferred hK, ?_⟩⟩
      exact ⟨_, results_tmp rfl _ _ _, (by rw [HT.out]; rfl), New.of_below (hB.trans (belowK_b (w := w) (Nat.le_refl _) W D _ _ (by omega) hK rfl rfl)) (Nat.le_refl _)⟩
  case stop =>
    rintro D cd pre W hD ⟨t, hcm⟩ ⟨⟨rfl, ini, x, rfl, hl, hc2⟩, hB⟩ hK
    rw [List.map_append, List.map_cons, List.map_nil] at hcm
    have hci := hcm.init
    rw [come_end hci] at hc2
    have HT : Hid (eTo zs k.toNat = x.t) := (by have e := hci.to; rw [List.length_map, hl] at e; exact e)
    have hu := eTo_le zs k.toNat
    rw [hn, HT.out] at hu
    have hu1 : ((x.t : Nat) : Int) ≤ (c : Int) := by omega
    rcases hs with ⟨rfl, rfl, rfl⟩ | ⟨b, off, rfl, hb⟩
    · have ht0 : x.t = 0 := by omega
      have HU : Hid (eTo zs k.toNat = 0) := by unfold Hid; rw [HT.out, ht0]
      rw [ht0] at hc2
      have hc3 : W.cell? ⟨w.heap.size + 1, 0, none⟩ = some (.int .i64 0) := hc2
      clear hc2 hu hu1 ht0 HT
      gi_wp2
      refine ⟨by simp, .inl ⟨_, _, rfl, run_takeDeferred hK, ?_⟩⟩
      exact ⟨_, results_tmp rfl _ _ _, (by rw [HU.out]; rfl), New.of_below (hB.trans (belowK_b (w := w) (Nat.le_refl _) W D _ _ (by omega) hK rfl rfl)) (Nat.le_refl _)⟩
    · gi_wp2
      refine ⟨by simp, .inl ⟨_, _, rfl, run_takeDeferred hK, ?_⟩⟩
      exact ⟨_, results_tmp rfl _ _ _, (by rw [HT.out]; rfl), New.of_below (hB.trans (belowK_b (w := w) (Nat.le_refl _) W D _ _ (by omega) hK rfl rfl)) (Nat.le_refl _)⟩

theorem specCut_nil (w : World) : Calls Try.prog 51 #[.slice none 0 0, .int .i64 0] w fun e w' => e = .returned (.slice none 0 0) ∧ New w w' := by
  go_enter Try.func51, Try.ntmps51
  go_wp2
  refine wp_loop_rounds 1 ?_
  rw [rounds_succ]
  go_wp2
  go_ret
  exact ⟨rfl, New.refl _⟩

end Go.Proofs.Ytdkjgjjkjfeodaa
