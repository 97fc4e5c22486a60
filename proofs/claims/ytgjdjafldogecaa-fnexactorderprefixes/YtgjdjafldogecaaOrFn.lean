/- What is proved here: what the model's ordering of a list of prefixes answers, for every list of at most 1048576 prefixes. -/
import Derived.Test.YtgjdjafldogecaaOrPut
namespace Go.Proofs.Ytgjdjafldogecaa
open Go.RowKit Go.Sort Go.Shelf
set_option linter.unusedVariables false

theorem OwL.lower {w : World} {lo lo' : Nat} {v : Value} {L : List (Int × Int)} (h : OwL w lo v L) (hl : lo' ≤ lo) : OwL w lo' v L := by
  rcases h with ⟨rfl, rfl⟩ | ⟨g, c, rfl, hg, ho⟩
  · exact .inl ⟨rfl, rfl⟩
  · exact .inr ⟨g, c, rfl, Nat.le_trans hl hg, ho⟩
theorem OwL.form {w : World} {lo : Nat} {v : Value} {L : List (Int × Int)} (h : OwL w lo v L) : ∃ a n c, v = .slice a n c := by
  rcases h with ⟨rfl, rfl⟩ | ⟨g, c, rfl, _, _⟩
  · exact ⟨_, _, _, rfl⟩
  · exact ⟨_, _, _, rfl⟩

set_option maxRecDepth 100000 in
set_option maxHeartbeats 3200000 in
theorem specOr (a : Option Addr) (n c : Nat) (ps : List (Int × Int)) (w : World) (h : PsAt w a ps) (hn : ps.length = n) (hm : n ≤ 1048576) :
    Calls Try.prog 33 #[.slice a n c] w fun e w' => ∃ v, e = .returned (.agg #[.int .i64 (lf ps), v]) ∧ OwL w' w.heap.size v (if lf ps = 0 then sortP ps else []) ∧ New w w' := by
  have hw := (New.refl w).alloc (.cells #[.int .i64 0, .slice none 0 0] 59)
  have hB : Blk (w.alloc (.cells #[.int .i64 0, .slice none 0 0] 59)) w.heap.size 59 #[.int .i64 0, .slice none 0 0] := Blk.mk _ _ _ _ rfl
  have hBge := Nat.le_refl w.heap.size
  by_cases hc : lf ps = 0
  · obtain ⟨h200, hall⟩ := lf_ok hc
    have HN : Hid (ps.length = n) := hn
    have HC : Hid (lf ps = 0) := hc
    have hn200 : n ≤ 200 := by omega
    clear hn hall
    go_enter Try.func33, Try.ntmps33
    go_wp2_with fail
    refine (l2List_any a n c ps _ (h.new hw) HN.out hm).mono ?_
    rintro e w1 ⟨rfl, hn1⟩
    rw [hc]
    have hw1 := hw.trans hn1
    have hB1 := (hB.new hn1).alloc (.cells #[.int .i64 0, .slice none 0 0] 59)
    have hO1 : Blk (w1.alloc (.cells #[.int .i64 0, .slice none 0 0] 59)) w1.heap.size 59 #[.int .i64 0, .slice none 0 0] := Blk.mk _ _ _ _ rfl
    have hOf1 := hO1.frees
    have s1 := hw1.size
    have hlt1 := (hB.new hn1).lt
    clear hc
    go_wp2_with fail
    go_loopw [5] (fun i wr => ∃ (k : Nat) (v : Value), k ≤ n ∧ i = .int .i64 k ∧ OwL wr (w1.heap.size + 1) v (ordP (ps.take k)) ∧ New w wr ∧ Blk wr w.heap.size 59 #[.int .i64 0, .slice none 0 0] ∧ Blk wr w1.heap.size 59 #[.int .i64 0, v] ∧ w1.heap.size + 1 ≤ wr.heap.size) (fun i _ => n - (intOf i).toNat)
    case atStart => exact ⟨0, _, Nat.zero_le _, rfl, .inl ⟨rfl, rfl⟩, hw1.alloc _, hB1, hO1, by simp⟩
    case round =>
      obtain ⟨k, v, hk, rfl, hL, hnw, hBr, hOr, hsz⟩ := hrel
      by_cases hlt : k < n
      · obtain ⟨g1, o1, x, y, rfl, hp1, x0, x1⟩ := (h.new hnw).at k (by rw [HN.out]; exact hlt)
        have hle := len_ordP (ps.take k)
        have hle2 : (ps.take k).length ≤ k := by rw [List.length_take]; omega
        have HO : Hid (ordP (ps.take (k + 1)) = putP (ordP (ps.take k)) (x, y)) := by
          unfold Hid
          rw [take_next hp1, ordP_snoc]
        have hD : New wr wr.drew := (New.refl wr).drew
        have hLd := hL.turn hD (fun _ _ f => f)
        have hOc := (hOr.new hD).cells
        have hOl := hOr.lt
        clear hp1
        go_wp2_with fail
        go_region_with (go_at_call 64; refine (l2Put_any (w1.heap.size + 1) v _ x y _ hLd hsz (by omega)).mono ?_; rintro e w3 ⟨v3, rfl, hL3, hn3⟩; obtain ⟨a3, l3, c3, rfl⟩ := hL3.form; have hO3 := hOr.new (hD.trans hn3); have hOc3 := hO3.cells; have hOf3 := hO3.frees)
        all_goals
          have hn13 := hD.trans hn3
          have hL4 := hL3.turn ((Turn.refl (fun q => q = w1.heap.size) w3).set (p := ⟨w1.heap.size, 1, none⟩) rfl (.slice a3 l3 c3)) (fun q hq e => by omega)
          have hO4 := hO3.set 1 (.slice a3 l3 c3)
          have hT4 : Turn (fun q => q = w1.heap.size) w3 (w3.setCell ⟨w1.heap.size, 1, none⟩ (.slice a3 l3 c3)) := (Turn.refl (fun q => q = w1.heap.size) w3).set (p := ⟨w1.heap.size, 1, none⟩) rfl _
          have hn4 : New w (w3.setCell ⟨w1.heap.size, 1, none⟩ (.slice a3 l3 c3)) := (hnw.trans hn13).before hT4 (fun q hq e => by omega)
          have hB4 := (hBr.new hn13).turn hT4 (by omega)
          have hs4 := hT4.size
          have hs3 := hn13.size
          go_wp2
          go_roundw
          case rel => exact ⟨k + 1, _, by omega, by go_num, by rw [HO.out]; exact hL4, hn4, hB4, hO4, by omega⟩
          case measure => simp [intOf]; omega
      · obtain rfl : k = n := by omega
        have htk : ps.take k = ps := by rw [← HN.out]; exact List.take_length
        rw [htk, ord_is_sort] at hL
        have hcs := hBr.cells
        have hfs := hBr.frees
        have hOc := hOr.cells
        obtain ⟨a3, l3, c3, rfl⟩ := hL.form
        have hL4 := hL.turn (((Turn.refl (fun q => q = w.heap.size) wr).set (p := ⟨w.heap.size, 0, none⟩) rfl (.int .i64 0)).set (p := ⟨w.heap.size, 1, none⟩) rfl (.slice a3 l3 c3)) (fun q hq e => by omega)
        have HL : Hid (OwL _ _ _ _) := hL4
        clear hL hL4
        go_wp2
        refine bodyPost_ret (v := .agg #[.int .i64 0, .slice a3 l3 c3]) (by simp [results, Try.results33, go_sem, hcs]) rfl ⟨_, rfl, ?_, ?_⟩
        · exact HL.out.lower (by omega)
        · exact (hnw.setCell hBge _).setCell hBge _
  · have hl : (if lf ps = 0 then sortP ps else []) = [] := by rw [if_neg hc]
    rw [hl]
    clear hl
    go_enter Try.func33, Try.ntmps33
    go_wp2_with fail
    refine (l2List_any a n c ps _ (h.new hw) hn hm).mono ?_
    rintro e w1 ⟨rfl, hn1⟩
    have hcs := (hB.new hn1).cells
    have hfs := (hB.new hn1).frees
    go_wp2
    refine bodyPost_ret (v := .agg #[.int .i64 (lf ps), .slice none 0 0]) (by simp [results, Try.results33, go_sem, hcs]) rfl ⟨_, rfl, .inl ⟨rfl, rfl⟩, ?_⟩
    exact ((hw.trans hn1).setCell hBge _).setCell hBge _

end Go.Proofs.Ytgjdjafldogecaa
