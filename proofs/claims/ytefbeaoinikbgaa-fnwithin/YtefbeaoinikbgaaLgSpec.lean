/- What is proved here: what the model's function on the longest prefix answers, for every list of at most 1048576 prefixes. -/
import Derived.Test.YtefbeaoinikbgaaLgLib
namespace Go.Proofs.Ytefbeaoinikbgaa
open Go.RowKit Go.Sort

set_option maxHeartbeats 1600000 in
theorem specLg (a : Option Addr) (n c : Nat) (ps : List (Int × Int)) (x : Int) (w : World) (h : PsAt w a ps) (hn : ps.length = n) (hm : n ≤ 1048576) :
    Calls Try.prog 12 #[.slice a n c, .int .i64 x] w fun e w' => ∃ cd v, e = .returned (.agg #[.int .i64 cd, .int .i64 v]) ∧ Lg ps x cd v ∧ New w w' := by
  have hw := (New.refl w).alloc (.cells #[.int .i64 0, .int .i64 0] 35)
  have hB : Blk (w.alloc (.cells #[.int .i64 0, .int .i64 0] 35)) w.heap.size 35 #[.int .i64 0, .int .i64 0] := Blk.mk _ _ _ _ rfl
  have hBge := Nat.le_refl w.heap.size
  by_cases hc : lf ps = 0
  · by_cases hx : x < 0 ∨ 65535 < x
    · have hf : Hid (Lg ps x 3 0) := .inr (.inl ⟨hc, hx, rfl, rfl⟩)
      go_enter Try.func12, Try.ntmps12
      go_wp2_with fail
      refine (l2List_any a n c ps _ (h.new hw) hn hm).mono ?_
      rintro e w1 ⟨rfl, hn1⟩
      go_wp2_with fail
      refine (l2Addr_no _ _ hx).mono ?_
      rintro e w2 ⟨rfl, rfl⟩
      have hcs := (hB.new hn1).cells
      have hfs := (hB.new hn1).frees
      go_wp2
      refine bodyPost_ret (v := .agg #[.int .i64 3, .int .i64 0]) (by simp [results, Try.results12, go_sem, hcs]) rfl ⟨3, 0, rfl, hf.out, ?_⟩
      exact ((hw.trans hn1).setCell hBge _).setCell hBge _
    · have hx0 : 0 ≤ x := by omega
      have hx1 : x ≤ 65535 := by omega
      obtain ⟨h200, hall⟩ := lf_ok hc
      have HN : Hid (ps.length = n) := hn
      clear hn
      go_enter Try.func12, Try.ntmps12
      go_wp2_with fail
      refine (l2List_any a n c ps _ (h.new hw) HN.out hm).mono ?_
      rintro e w1 ⟨rfl, hn1⟩
      go_wp2_with fail
      refine (l2Addr_yes _ _ ⟨hx0, hx1⟩).mono ?_
      rintro e w2 ⟨rfl, rfl⟩
      have hB1 := hB.new hn1
      have hw1 := hw.trans hn1
      go_wp2
      go_loopw [6, 7] (fun bv i wr => ∃ (k : Nat) (b : Int), k ≤ n ∧ i = .int .i64 k ∧ bv = .int .i64 b ∧ New w wr ∧ Blk wr w.heap.size 35 #[.int .i64 0, .int .i64 0] ∧ BstI ps x k b) (fun _ i _ => n - (intOf i).toNat)
      case atStart => exact ⟨0, -1, Nat.zero_le _, rfl, rfl, hw1, hB1, .inl ⟨rfl, fun i p hi => by omega⟩⟩
      case round =>
        obtain ⟨k, b, hk, rfl, rfl, hnw, hBr, hI⟩ := hrel
        by_cases hlt : k < n
        · obtain ⟨g1, o1, p, l, rfl, hp1, x0, x1⟩ := (h.new hnw).at k (by rw [HN.out]; exact hlt)
          have hpf := pf_ok (hall (p, l) (List.mem_of_getElem? hp1))
          obtain ⟨-, -, hl0, hl1, -⟩ := hpf
          have X0 := cell_regrown x0
          have X1 := cell_regrown x1
          by_cases hh : x - x % szp l = p
          · have hd : decide (x - x % szp l = p) = true := by simp [hh]
            rcases hI with ⟨rfl, hno⟩ | ⟨m, rfl, hbt⟩
            · have hnext : BstI ps x (k + 1) (k : Nat) := .inr ⟨k, rfl, hno.first hp1 hh⟩
              clear hno hp1 hall
              go_wp2_with fail
              refine wp_region_quiet_below (by kernel_rfl) (by kernel_rfl) ?_
              repeat (go_big_quiet_step ((go_at_call 24; exact calls_regrown (l2Has_is p l x _ _ hx0 hx1 hl0 hl1 hd))))
              refine wpQuiet_nil ?_
              rintro w4 hn4
              replace hn4 := new_of_regrown hn4
              go_wp2
              go_roundw
              case rel => exact ⟨k + 1, k, by omega, by go_num, rfl, hnw.trans hn4, hBr.new hn4, hnext⟩
              case measure => simp [intOf]; omega
            · have hmk : m < k := hbt.1
              obtain ⟨g2, o2, p2, l2, e2, hp2, y0, y1⟩ := (h.new hnw).at m (by rw [HN.out]; omega)
              obtain ⟨rfl, rfl⟩ : g2 = g1 ∧ o2 = o1 := by simpa using e2.symm
              have Y1 := cell_regrown y1
              have hm0 : decide ((m : Int) < 0) = false := by simp
              have hm1 : m < n := by omega
              by_cases hgt : l2 < l
              · have hnext : BstI ps x (k + 1) (k : Nat) := .inr ⟨k, rfl, hbt.more hp1 hp2 hh hgt⟩
                clear hbt hp1 hp2 hall e2
                go_wp2_with fail
                refine wp_region_quiet_below (by kernel_rfl) (by kernel_rfl) ?_
                repeat (go_big_quiet_step ((go_at_call 24; exact calls_regrown (l2Has_is p l x _ _ hx0 hx1 hl0 hl1 hd))))
                refine wpQuiet_nil ?_
                rintro w4 hn4
                replace hn4 := new_of_regrown hn4
                go_wp2
                go_roundw
                case rel => exact ⟨k + 1, k, by omega, by go_num, rfl, hnw.trans hn4, hBr.new hn4, hnext⟩
                case measure => simp [intOf]; omega
              · have hnext : BstI ps x (k + 1) (m : Nat) := .inr ⟨m, rfl, hbt.stay hp1 hp2 (fun _ => by show l ≤ l2; omega)⟩
                clear hbt hp1 hp2 hall e2
                go_wp2_with fail
                refine wp_region_quiet_below (by kernel_rfl) (by kernel_rfl) ?_
                repeat (go_big_quiet_step ((go_at_call 24; exact calls_regrown (l2Has_is p l x _ _ hx0 hx1 hl0 hl1 hd))))
                refine wpQuiet_nil ?_
                rintro w4 hn4
                replace hn4 := new_of_regrown hn4
                go_wp2
                go_roundw
                case rel => exact ⟨k + 1, m, by omega, by go_num, rfl, hnw.trans hn4, hBr.new hn4, hnext⟩
                case measure => simp [intOf]; omega
          · have hd : decide (x - x % szp l = p) = false := by simp [hh]
            have hnext : BstI ps x (k + 1) b := by
              rcases hI with ⟨rfl, hno⟩ | ⟨m, rfl, hbt⟩
              · exact .inl ⟨rfl, hno.next hp1 hh⟩
              · have hbt' := hbt
                obtain ⟨_, q, hq, _⟩ := hbt'
                exact .inr ⟨m, rfl, hbt.stay hp1 hq (fun h => absurd h hh)⟩
            clear hI hp1 hall
            go_wp2_with fail
            refine wp_region_quiet_below (by kernel_rfl) (by kernel_rfl) ?_
            repeat (go_big_quiet_step ((go_at_call 24; exact calls_regrown (l2Has_is p l x _ _ hx0 hx1 hl0 hl1 hd))))
            refine wpQuiet_nil ?_
            rintro w4 hn4
            replace hn4 := new_of_regrown hn4
            go_wp2
            go_roundw
            case rel => exact ⟨k + 1, b, by omega, by go_num, rfl, hnw.trans hn4, hBr.new hn4, hnext⟩
            case measure => simp [intOf]; omega
        · have hkn : k = ps.length := by rw [HN.out]; omega
          have hcs := hBr.cells
          have hfs := hBr.frees
          rcases hI with ⟨rfl, hno⟩ | ⟨m, rfl, hbt⟩
          · have hf : Hid (Lg ps x 4 0) := .inr (.inr ⟨hc, ⟨hx0, hx1⟩, .inl ⟨hkn ▸ hno, rfl, rfl⟩⟩)
            clear hno hkn hall
            go_wp2
            refine bodyPost_ret (v := .agg #[.int .i64 4, .int .i64 0]) (by simp [results, Try.results12, go_sem, hcs]) rfl ⟨4, 0, rfl, hf.out, ?_⟩
            exact (hnw.setCell hBge _).setCell hBge _
          · have hf : Hid (Lg ps x 0 m) := .inr (.inr ⟨hc, ⟨hx0, hx1⟩, .inr ⟨m, rfl, rfl, hkn ▸ hbt⟩⟩)
            have hm0 : ¬ ((m : Int) < 0) := by omega
            clear hbt hkn hall
            go_wp2
            refine bodyPost_ret (v := .agg #[.int .i64 0, .int .i64 m]) (by simp [results, Try.results12, go_sem, hcs]) rfl ⟨0, m, rfl, hf.out, ?_⟩
            exact (hnw.setCell hBge _).setCell hBge _
  · have hf : Hid (Lg ps x (lf ps) 0) := .inl ⟨hc, rfl, rfl⟩
    go_enter Try.func12, Try.ntmps12
    go_wp2_with fail
    refine (l2List_any a n c ps _ (h.new hw) hn hm).mono ?_
    rintro e w1 ⟨rfl, hn1⟩
    have hcs := (hB.new hn1).cells
    have hfs := (hB.new hn1).frees
    go_wp2
    refine bodyPost_ret (v := .agg #[.int .i64 (lf ps), .int .i64 0]) (by simp [results, Try.results12, go_sem, hcs]) rfl ⟨lf ps, 0, rfl, hf.out, ?_⟩
    exact ((hw.trans hn1).setCell hBge _).setCell hBge _

end Go.Proofs.Ytefbeaoinikbgaa
