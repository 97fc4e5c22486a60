/- What is proved here: how many entries are counted, and which bytes the first ones are, for every list of at most 1048576 bytes. -/
import Derived.Test.YtdkjgjjkjfeodaaE10It
namespace Go.Proofs.Ytdkjgjjkjfeodaa
open Go.RowKit Go.Shelf
set_option linter.unusedVariables false
set_option linter.unusedSimpArgs false
set_option maxRecDepth 100000
attribute [local go_sem] Oper.semAt_some

/-- Where the first k entries end. -/
def eTo (zs : List Int) : Nat → Nat
  | 0 => 0
  | k + 1 => eTo zs k + eSz (zs.drop (eTo zs k))
theorem eTo_le (zs : List Int) : ∀ k, eTo zs k ≤ zs.length
  | 0 => Nat.zero_le _
  | k + 1 => by
    have h := eTo_le zs k
    have h1 := eSz_le (zs.drop (eTo zs k))
    simp only [List.length_drop] at h1
    simp only [eTo]
    omega
theorem Come.to {zs : List Int} {ts : List Nat} {t : Nat} (h : Come zs ts t) : eTo zs ts.length = t := by
  induction h with
  | nil => rfl
  | @snoc pre t h hp ih => simp only [List.length_append, List.length_cons, List.length_nil, eTo, ih]
theorem eTo_stay {zs : List Int} {k : Nat} (h : ¬ 0 < eSz (zs.drop (eTo zs k))) : ∀ j, eTo zs (k + j) = eTo zs k
  | 0 => rfl
  | j + 1 => by
    show eTo zs (k + j) + eSz (zs.drop (eTo zs (k + j))) = _
    rw [eTo_stay h j]
    omega
theorem Come.stay {zs : List Int} {ts : List Nat} {t : Nat} (h : Come zs ts t) (h0 : ¬ 0 < eSz (zs.drop t)) {k : Nat} (hk : ts.length ≤ k) : eTo zs k = t := by
  have e := h.to
  obtain ⟨j, rfl⟩ := Nat.exists_eq_add_of_le hk
  rw [eTo_stay (by rw [e]; exact h0), e]

theorem Come.init {zs : List Int} {ts : List Nat} {u t : Nat} (h : Come zs (ts ++ [u]) t) : Come zs ts u := by
  generalize he : ts ++ [u] = l at h
  cases h with
  | nil => simp at he
  | @snoc pre v h hp =>
    obtain ⟨e1, e2⟩ := List.append_inj' he rfl
    simp only [List.cons.injEq, and_true] at e2
    subst e1 e2
    exact h

set_option maxHeartbeats 2000000 in
theorem countE (a : Option Addr) (n c : Nat) (zs : List Int) (w : World) (h : BsAt w a zs) (hs : Sl10 w a n c) (hn : zs.length = n) (hc : n ≤ c) (hm : n ≤ 1048576) :
    Calls Try.prog 42 #[.slice a n c] w fun e w' => e = .returned (.int .i64 ((eAts zs 0).length : Int)) ∧ New w w' := by
  refine (callsIn_wide (n := 4)).1 ?_
  refine callsIn_of_wp_marks Try.func42 rfl trivial ?_ rfl
  simp only [Try.ntmps42, List.size_toArray, List.length_cons, List.length_nil, Nat.reduceAdd, Nat.reduceSub, Array.replicate_succ, Array.replicate_zero, List.push_toArray, List.append_toArray, List.nil_append, List.cons_append]
  gi_wp2_with (refine ⟨trivial, ?_⟩; gi_at_call 40; refine (callsIn_wide.2 (entries_in a n c _)).mono ?_; rintro e w' ⟨rfl, rfl⟩)
  have hB0 : Below w.heap.size w ((w.alloc (.cells #[.int .i64 0] 2)).alloc (.cells #[.slice a n c] 22)) := ((Below.refl _ w).alloc (Nat.le_refl _) _).alloc (by simp) _
  have bU := (Blk.mk w w.heap.size 2 #[.int .i64 0] rfl).alloc (.cells #[.slice a n c] 22)
  have bN := Blk.mk (w.alloc (.cells #[.int .i64 0] 2)) (w.heap.size + 1) 22 #[.slice a n c] (by simp)
  have hL : ((w.alloc (.cells #[.int .i64 0] 2)).alloc (.cells #[.slice a n c] 22)).heap.size = w.heap.size + 2 := by simp
  have hz := h.new (New.of_below hB0 (Nat.le_refl _))
  generalize ((w.alloc (.cells #[.int .i64 0] 2)).alloc (.cells #[.slice a n c] 22)) = w1 at *
  refine wpIn_rangeFunc_ownG rfl (by omega) (gf := 61) (lb := #[.pointer (some ⟨w.heap.size + 1, 0, none⟩)]) rfl trivial (enters_of Try.func61 (by kernel_rfl) rfl)
    (entries_stops (w.heap.size + 1) w.heap.size a n c zs w1 hn hc hm hs (by omega) bN hz) Kp10.trans (kp10_b (by omega) (by omega)) (Below.refl _ _) (fun _ => rfl)
    (fun pre W => (W.cell? ⟨w.heap.size, 0, none⟩ = some (.int .i64 (pre.length : Int)) ∧ W.frozen? ⟨w.heap.size, 0, none⟩ = false) ∧ Below w.heap.size w W)
    (fun _ _ _ => False)
    (OwnFrom.and (Own.from (fun s A B row hs hg hr => ⟨cell_kept hs.1 hg hr, (frozen_kept hs.1 hg hr).trans hs.2⟩) _) (ownFrom_below (Nat.le_refl _) (by omega)))
    (fun _ _ _ _ _ hs _ _ => hs)
    ⟨⟨bU.cells 0, bU.frees 0⟩, hB0⟩
    (fun x => { tmps := #[.slice a n c, undef, .int .i64 0, .pointer (some ⟨w.heap.size, 0, none⟩), .slice a n c, .func (.func 61) #[] #[.pointer (some ⟨w.heap.size + 1, 0, none⟩)], .int .i64 ((x.t : Int) + (eSz (zs.drop x.t) : Int)), .agg x.cs, undef, undef, undef], defers := [] }) ?assign ?body ?done ?stop
  case assign =>
    intro l x W K hK
    dsimp only [EI.enc]
    gi_wp2
    first | exact hK | simpa using hK | (refine Eq.mp ?_ hK; congr 2)
  case body =>
    rintro l pre x W ⟨⟨hc1, hf1⟩, hB⟩ hlen
    have hp1 : (pre.length : Int) + 1 ≤ 1048577 := by omega
    gi_wp2
    exact ⟨(KeepsOthers.setCell _ _ _).from _, ⟨(Below.refl w.heap.size W).setCell (p := ⟨w.heap.size, 0, none⟩) (Nat.le_refl _) _, Below.heap_setCell _ _ _ _ (by simp)⟩, ⟨by rw [World.cell?_setCell_same' _ _ _ (by rw [hc1]; rfl)]; simp, by rw [World.frozen?_setCell]; exact hf1⟩, hB.setCell (p := ⟨w.heap.size, 0, none⟩) (Nat.le_refl _) _⟩
  case done =>
    rintro D ys W hD ⟨t, hcm, h0⟩ ⟨⟨hc1, _⟩, hB⟩ hK
    have hl := congrArg List.length (hcm.all h0).1
    rw [List.length_map] at hl
    rw [hl] at hc1
    gi_wp2
    refine ⟨by simp, .inl ⟨_, _, rfl, run_takeDeferred hK, ?_⟩⟩
    exact ⟨_, results_tmp rfl _ _ _, rfl, New.of_below (hB.trans (belowK_b (w := w) (Nat.le_refl _) W D _ _ (by omega) hK rfl rfl)) (Nat.le_refl _)⟩
  case stop =>
    rintro D c pre W _ _ h _
    exact h.elim

set_option maxHeartbeats 2000000 in
theorem firstE (a : Option Addr) (n c : Nat) (k : Int) (zs : List Int) (w : World) (h : BsAt w a zs) (hs : ∃ b off, a = some ⟨b, off, none⟩ ∧ b < w.heap.size) (hn : zs.length = n) (hc : n ≤ c) (hm : n ≤ 1048576) (hk : k ≤ 1048576) (hkl : -1048576 ≤ k) :
    Calls Try.prog 43 #[.slice a n c, .int .i64 k] w fun e w' => e = .returned (.slice a (eTo zs k.toNat) c) ∧ New w w' := by
  refine (callsIn_wide (n := 4)).1 ?_
  refine callsIn_of_wp_marks Try.func43 rfl trivial ?_ rfl
  simp only [Try.ntmps43, List.size_toArray, List.length_cons, List.length_nil, Nat.reduceAdd, Nat.reduceSub, Array.replicate_succ, Array.replicate_zero, List.push_toArray, List.append_toArray, List.nil_append, List.cons_append]
  gi_wp2_with (refine ⟨trivial, ?_⟩; gi_at_call 40; refine (callsIn_wide.2 (entries_in a n c _)).mono ?_; rintro e w' ⟨rfl, rfl⟩)
  have hB0 : Below w.heap.size w (((w.alloc (.cells #[.int .i64 k] 2)).alloc (.cells #[.int .i64 0] 3)).alloc (.cells #[.slice a n c] 22)) := (((Below.refl _ w).alloc (Nat.le_refl _) _).alloc (by simp) _).alloc (by simp; omega) _
  have bK := ((Blk.mk w w.heap.size 2 #[.int .i64 k] rfl).alloc (.cells #[.int .i64 0] 3)).alloc (.cells #[.slice a n c] 22)
  have bU := (Blk.mk (w.alloc (.cells #[.int .i64 k] 2)) (w.heap.size + 1) 3 #[.int .i64 0] (by simp)).alloc (.cells #[.slice a n c] 22)
  have bN := Blk.mk ((w.alloc (.cells #[.int .i64 k] 2)).alloc (.cells #[.int .i64 0] 3)) (w.heap.size + 2) 22 #[.slice a n c] (by simp)
  have hL : (((w.alloc (.cells #[.int .i64 k] 2)).alloc (.cells #[.int .i64 0] 3)).alloc (.cells #[.slice a n c] 22)).heap.size = w.heap.size + 3 := by simp
  have hz := h.new (New.of_below hB0 (Nat.le_refl _))
  generalize (((w.alloc (.cells #[.int .i64 k] 2)).alloc (.cells #[.int .i64 0] 3)).alloc (.cells #[.slice a n c] 22)) = w1 at *
  refine wpIn_rangeFunc_ownG rfl (by omega) (gf := 61) (lb := #[.pointer (some ⟨w.heap.size + 1 + 1, 0, none⟩)]) rfl trivial (enters_of Try.func61 (by kernel_rfl) rfl)
    (entries_stops (w.heap.size + 2) w.heap.size a n c zs w1 hn hc hm (.inr hs) (by omega) bN hz) Kp10.trans (kp10_b (by omega) (by omega)) (Below.refl _ _) (fun _ => rfl)
    (fun pre W => ((W.cell? ⟨w.heap.size, 0, none⟩ = some (.int .i64 (k - (pre.length : Int))) ∧ W.frozen? ⟨w.heap.size, 0, none⟩ = false) ∧ (W.cell? ⟨w.heap.size + 1, 0, none⟩ = some (.int .i64 (eEnd pre)) ∧ W.frozen? ⟨w.heap.size + 1, 0, none⟩ = false) ∧ pre.length ≤ k.toNat) ∧ Below w.heap.size w W)
    (fun cd pre W => (cd = .exit 0 ∧ ∃ ini x, pre = ini ++ [x] ∧ ini.length = k.toNat ∧ W.cell? ⟨w.heap.size + 1, 0, none⟩ = some (.int .i64 (eEnd ini))) ∧ Below w.heap.size w W)
    (OwnFrom.and (Own.from (fun s A B row hs hg hr => ⟨⟨cell_kept hs.1.1 hg hr, (frozen_kept hs.1.1 hg hr).trans hs.1.2⟩, ⟨cell_kept hs.2.1.1 hg hr, (frozen_kept hs.2.1.1 hg hr).trans hs.2.1.2⟩, hs.2.2⟩) _) (ownFrom_below (Nat.le_refl _) (by omega)))
    (fun cd => OwnFrom.and (Own.from (fun s A B row hs hg hr => by obtain ⟨hcd, ini, x, e1, e2, e3⟩ := hs; exact ⟨hcd, ini, x, e1, e2, cell_kept e3 hg hr⟩) _) (ownFrom_below (Nat.le_refl _) (by omega)))
    ⟨⟨⟨by simpa using bK.cells 0, bK.frees 0⟩, ⟨bU.cells 0, bU.frees 0⟩, by simp⟩, hB0⟩
    (fun x => { tmps := #[.slice a n c, .int .i64 k, undef, .pointer (some ⟨w.heap.size, 0, none⟩), .slice none 0 0, .pointer (some ⟨w.heap.size + 1, 0, none⟩), .int .i64 ((x.t : Int) + (eSz (zs.drop x.t) : Int)), .slice a n c, .func (.func 61) #[] #[.pointer (some ⟨w.heap.size + 1 + 1, 0, none⟩)], .int .i64 ((x.t : Int) + (eSz (zs.drop x.t) : Int)), .agg x.cs, undef, undef, undef, undef, undef, undef, undef, undef], defers := [] }) ?assign ?body ?done ?stop
  case assign =>
    intro l x W K hK
    dsimp only [EI.enc]
    gi_wp2
    exact hK
  case body =>
    rintro l pre x W ⟨⟨⟨hc1, hf1⟩, ⟨hc2, hf2⟩, hl1⟩, hB⟩ hlen
    by_cases hgo : k - (pre.length : Int) ≤ 0
    · gi_wp2
      exact ⟨KeepsFrom.refl _ _, ⟨rfl, pre, x, rfl, by omega, hc2⟩, hB⟩
    · have hw1 : -1048576 ≤ k - (pre.length : Int) - 1 := by omega
      have hw2 : k - (pre.length : Int) - 1 ≤ 1048576 := by omega
      gi_wp2
      have hne : ¬ (⟨w.heap.size, 0, none⟩ : Addr).block = w.heap.size + 1 := by simp
      have hne' : ¬ (⟨w.heap.size + 1, 0, none⟩ : Addr).block = w.heap.size := by simp
      have g1 : (W.setCell ⟨w.heap.size + 1, 0, none⟩ (.int .i64 ((x.t : Int) + (eSz (zs.drop x.t) : Int)))).cell? ⟨w.heap.size + 1, 0, none⟩ = some (.int .i64 (eEnd (pre ++ [x]))) := by rw [eEnd_snoc]; exact World.cell?_setCell_same' _ _ _ (by rw [hc2]; rfl)
      have g2 : (W.setCell ⟨w.heap.size + 1, 0, none⟩ (.int .i64 ((x.t : Int) + (eSz (zs.drop x.t) : Int)))).cell? ⟨w.heap.size, 0, none⟩ = some (.int .i64 (k - (pre.length : Int))) := by rw [cell_set10 hne']; exact hc1
      refine ⟨((KeepsOthers.setCell _ _ _).trans (KeepsOthers.setCell _ _ _)).from _, ⟨((Below.refl w.heap.size W).setCell (p := ⟨w.heap.size + 1, 0, none⟩) (by simp) _).setCell (p := ⟨w.heap.size, 0, none⟩) (Nat.le_refl _) _, (Below.heap_setCell _ _ _ _ (by simp)).trans (Below.heap_setCell _ _ _ _ (by simp))⟩, ⟨⟨?_, ?_⟩, ⟨?_, ?_⟩, ?_⟩, (hB.setCell (p := ⟨w.heap.size + 1, 0, none⟩) (by simp) _).setCell (p := ⟨w.heap.size, 0, none⟩) (Nat.le_refl _) _⟩
      · rw [World.cell?_setCell_same' _ _ _ (by rw [g2]; rfl)]
        simp only [List.length_append, List.length_cons, List.length_nil]
        congr 2
        push_cast
        omega
      · rw [World.frozen?_setCell, World.frozen?_setCell]; exact hf1
      · rw [cell_set10 hne]; exact g1
      · rw [World.frozen?_setCell, World.frozen?_setCell]; exact hf2
      · simp only [List.length_append, List.length_cons, List.length_nil]; omega
  case done =>
    rintro D ys W hD ⟨t, hcm, h0⟩ ⟨⟨_, ⟨hc2, _⟩, hl1⟩, hB⟩ hK
    rw [come_end hcm] at hc2
    have HT : Hid (eTo zs k.toNat = t) := hcm.stay h0 (by simpa using hl1)
    have hu := eTo_le zs k.toNat
    rw [hn, HT.out] at hu
    have hu1 : ((t : Nat) : Int) ≤ (c : Int) := by omega
    obtain ⟨b, off, rfl, hb⟩ := hs
    gi_wp2
    refine ⟨by simp, .inl ⟨_, _, rfl, run_takeDeferred hK, ?_⟩⟩
    exact ⟨_, results_tmp rfl _ _ _, (by rw [HT.out]; rfl), New.of_below (hB.trans (belowK_b (w := w) (Nat.le_refl _) W D _ _ (by omega) hK rfl rfl)) (Nat.le_refl _)⟩
  case stop =>
    rintro D cd pre W hD ⟨t, hcm⟩ ⟨⟨rfl, ini, x, rfl, hl, hc2⟩, hB⟩ hK
    rw [List.map_append, List.map_cons, List.map_nil] at hcm
    have hci := hcm.init
    rw [come_end hci] at hc2
    have HT : Hid (eTo zs k.toNat = x.t) := (by have e := hci.to; rw [List.length_map, hl] at e; exact e)
    have hu := eTo_le zs k.toNat
    rw [hn, HT.out] at hu
    have hu1 : ((x.t : Nat) : Int) ≤ (c : Int) := by omega
    obtain ⟨b, off, rfl, hb⟩ := hs
    gi_wp2
    refine ⟨by simp, .inl ⟨_, _, rfl, run_takeDeferred hK, ?_⟩⟩
    exact ⟨_, results_tmp rfl _ _ _, (by rw [HT.out]; rfl), New.of_below (hB.trans (belowK_b (w := w) (Nat.le_refl _) W D _ _ (by omega) hK rfl rfl)) (Nat.le_refl _)⟩

end Go.Proofs.Ytdkjgjjkjfeodaa
