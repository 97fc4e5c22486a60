/- What is proved here: what the model's reading of an update answers, for every list of at most 1048576 bytes: all of it. -/
import Derived.Test.YtnhkmgibppiimaaSdMain
namespace Go.Proofs.Ytnhkmgibppiimaa
open Go.RowKit Go.Sort
set_option linter.unusedVariables false

set_option maxHeartbeats 1600000 in
theorem specParse_one (b off : Nat) (w : World) (hc : w.cell? ⟨b, off, none⟩ = some (.int .u8 0)) :
    Calls Try.prog 46 #[.slice (some ⟨b, off, none⟩) 1 1] w fun e w' => ∃ x, e = .returned (puV (puU []) x (.slice none 0 0) (.slice none 0 0)) ∧ OwQ w' w.heap.size x [] ∧ New w w' := by
  have hw := (New.refl w).alloc (.cells #[.int .i64 0, .bool false, .slice none 0 0, .bool false, .int .i64 0, .slice none 0 0, .int .i64 0, .int .i64 0, .int .i64 0, .slice none 0 0] 71)
  have bR := Blk.mk w w.heap.size 71 #[.int .i64 0, .bool false, .slice none 0 0, .bool false, .int .i64 0, .slice none 0 0, .int .i64 0, .int .i64 0, .int .i64 0, .slice none 0 0] rfl
  have hc' := (World.cell?_of_block (hw.block b (World.block_lt_of_cell? w _ hc) (fun f => f))).trans hc
  go_enter Try.func46, Try.ntmps46
  go_wp2_with fail
  refine (l3Read_any (some ⟨b, off, none⟩) 0 0 [] _ (BsAt.nil _ _) rfl (by omega)).mono ?_
  rintro e w1 ⟨v, rfl, hq0, hn1⟩
  have hq1 : OwQ w1 (w.heap.size + 1) v [] := hq0.low (by simp)
  have bR1 := bR.new hn1
  have N1 := hw.trans hn1
  obtain ⟨a1, c1, rfl, f1, -, -⟩ := hq1.form
  simp only [List.length_nil] at hq1 ⊢
  clear hq0 hn1 bR hw hc'
  go_wp2_with fail
  go_loopw [5] (fun i wr => i = .int .i64 0 ∧ New w1 wr) (fun _ _ => 0)
  case atStart => exact ⟨rfl, New.refl _⟩
  case round =>
    obtain ⟨rfl, hn2⟩ := hrel
    have bR2 := bR1.new hn2
    have cR := bR2.cells
    have fR := bR2.frees
    have lR := bR2.lt
    have N2 := N1.trans hn2
    have hq2 := hq1.new hn2
    go_wp2
    refine bodyPost_ret (v := puV (puU []) (.slice a1 0 c1) (.slice none 0 0) (.slice none 0 0)) (by simp [results, Try.results46, go_sem, puV, puU, cR]) rfl ?_
    refine (fun (hT : Turn (fun k => k = w.heap.size) wr _) => ⟨_, rfl, (hq2.turn hT (fun g hg e => by omega)).low (Nat.le_succ _), N2.before hT (fun i hi e => by omega)⟩) ?_
    exact Turn.here (Turn.here (Turn.here (Turn.here (Turn.here (Turn.here (Turn.here (Turn.here (Turn.here (Turn.here (Turn.refl _ _) _) _) _) _) _) _) _) _) _) _

theorem specParse (a : Option Addr) (n c : Nat) (zs : List Int) (w : World) (h : BsAt w a zs) (hn : zs.length = n) (hcc : n ≤ c) (hm : n ≤ 1048576) :
    Calls Try.prog 46 #[.slice a n c] w fun e w' => ∃ x y z, e = .returned (puV (pu zs) x y z) ∧ Got w' w.heap.size (pu zs) x y z ∧ New w w' := by
  rcases Nat.eq_zero_or_pos n with rfl | hpos
  · obtain rfl : zs = [] := List.eq_nil_of_length_eq_zero hn
    refine (specParse_empty a c w).mono ?_
    rintro e w' ⟨rfl, hnw⟩
    exact ⟨_, _, _, rfl, Got.one (p := puZ 5) (OwQ.nil _ _) rfl rfl, hnw⟩
  · obtain ⟨b, off, z0, rfl, h0, hc0, l0, u0⟩ := h.at 0 (by omega)
    obtain ⟨k, rfl⟩ : ∃ k : Nat, z0 = (k : Int) := ⟨z0.toNat, by omega⟩
    have hk : k ≤ 255 := by omega
    have hpu := pu_some h0
    rw [Nat.add_zero] at hc0
    by_cases hs : n < 1 + 3 * k
    · rw [if_pos (by omega)] at hpu
      refine (specParse_short b off n c k w hc0 hk hpos hm hs).mono ?_
      rintro e w' ⟨rfl, hnw⟩
      rw [hpu]
      exact ⟨_, _, _, rfl, Got.one (p := puZ 5) (OwQ.nil _ _) rfl rfl, hnw⟩
    · by_cases hc1 : c = 1
      · subst hc1
        obtain rfl : n = 1 := by omega
        obtain rfl : k = 0 := by omega
        have hg0 : gnL zs 0 = [] := by simp [gnL, rdP]
        have hd : zs.drop (1 + 3 * 0) = [] := List.eq_nil_of_length_eq_zero (by rw [List.length_drop, hn])
        have hu : ufU (puU []) = 0 := by rw [ufU_gone (by simp)]; simp
        have hpu' : pu zs = puU [] := by
          rw [hpu, if_neg (by omega), hg0, hd, if_neg (by simp [ixF])]
          show (if ufU (puU []) = 0 then puU [] else puS (([] : List (Int × Int)).take 8)) = puU []
          rw [if_pos hu]
        refine (specParse_one b off w (by simpa using hc0)).mono ?_
        rintro e w' ⟨x, rfl, hq, hnw⟩
        rw [hpu']
        exact ⟨_, _, _, rfl, Got.one (p := puU []) hq rfl rfl, hnw⟩
      · exact specParse_main b off n c k zs w h hn hcc h0 hk hm (by omega) hc1

end Go.Proofs.Ytnhkmgibppiimaa
