/- What is proved here: what the model's judging of a node answers where the node is the second of a row of two, for every log of at most 1048576 entries and bytes. No other condition. -/
import Derived.Test.YtebkdaddndlmoaaGreatLS7
namespace Go.Proofs.YtebkdaddndlmoaaGreat
open Go.RowKit Go.Sort
set_option linter.unusedVariables false
set_option linter.unusedSimpArgs false
set_option maxRecDepth 100000
variable {vx0 vx1 vx2 vx3 vx4 vx5 vx6 vx7 vx8 : Value}

set_option maxHeartbeats 3200000 in
theorem specLF_b (B : Nat) (id : Int) (up : Bool) (ro ep su ma ot co : Int) (A : Option Addr) (n c : Nat) (V : List EkV) (w : World) (hb : Blk w B 108 #[vx0, vx1, vx2, vx3, vx4, vx5, vx6, vx7, vx8, .int .i64 id, .bool up, .int .i64 ro, .int .i64 ep, .slice A n c, .int .i64 su, .int .i64 ma, .int .i64 ot, .int .i64 co]) (h : LgAt w A V) (hn : V.length = n) (hm : n ≤ 2097152) :
    Calls Tryz.prog 170 #[.pointer (some ⟨B, 9, none⟩)] w fun e w' => e = .returned (.int .i64 (lg2 n (lgF ep 0 (V.map EkV.r)))) ∧ New w w' := by
  have HN : Hid (V.length = n) := hn
  have cB := hb.cells
  clear hn
  by_cases hbig : 100 < n
  · have HR : Hid ((2 : Int) = lg2 n (lgF ep 0 (V.map EkV.r))) := by unfold Hid lg2; rw [if_pos hbig]
    go_enter Tryz.func170, Tryz.ntmps170
    go_wp2
    go_ret
    exact ⟨ret_i64 HR.out, New.refl _⟩
  have HL2 : lg2 n (lgF ep 0 (V.map EkV.r)) = lgF ep 0 (V.map EkV.r) := by unfold lg2; rw [if_neg hbig]
  rw [HL2]
  clear HL2
  go_enter Tryz.func170, Tryz.ntmps170
  go_wp2
  go_loopw [3] (fun i wr => ∃ (k : Nat) (p : Int), k ≤ n ∧ i = .int .i64 k ∧ New w wr ∧ Hid (k = 0 → p = 0) ∧ Hid (0 < k → ∃ u, V[k - 1]? = some u ∧ p = u.r.ep) ∧ Hid (lgF ep p ((V.map EkV.r).drop k) = lgF ep 0 (V.map EkV.r))) (fun i _ => n - (intOf i).toNat)
  case atStart => exact ⟨0, 0, Nat.zero_le _, rfl, New.refl _, fun _ => rfl, fun h => by omega, by unfold Hid; simp⟩
  case round =>
    obtain ⟨k, p, hk, rfl, hnw, hp0, hp1, hL⟩ := hrel
    have cB := (hb.new hnw).cells
    by_cases hlt : k < n
    · obtain ⟨g, e1, ki, pe, a, m, c1, xs, rfl, hv, hl, hx, hmx, x0, x1, x2, x3⟩ := (h.new hnw).at k (by have := HN.out; omega)
      have HD : Hid (lgF ep 0 (V.map EkV.r) = _) := hL.out.symm.trans (lgF_at hv hl)
      have HV : Hid (V[k]? = some ⟨⟨e1, ki, pe, xs⟩, a, c1⟩) := hv
      have hprev : Hid (0 < k → wr.cell? ⟨g, (k - 1) * 4, none⟩ = some (.int .i64 p)) := by
        intro h0
        obtain ⟨u, hu, rfl⟩ := hp1.out h0
        obtain ⟨⟨g', hg', hc'⟩, -, -⟩ := (h.new hnw) (k - 1) u hu
        cases hg'
        exact hc' 0 (by omega)
      clear hv hl h hL hp1
      go_wp2_with fail
      refine (specEN e1 ki pe a m c1 _ (by omega)).mono ?_
      rintro e w2 ⟨rfl, hn2⟩
      have lB := (hb.new hnw).lt
      have cN := ((hb.new hnw).new hn2).cells
      have hw2 := hnw.trans hn2
      have lg := World.block_lt_of_cell? wr _ x0
      have y0 : w2.cell? ⟨g, k * 4, none⟩ = some (.int .i64 e1) := (hn2.cells _ _ lg).trans x0
      have hprev2 : Hid (0 < k → w2.cell? ⟨g, (k - 1) * 4, none⟩ = some (.int .i64 p)) := fun h0 => (hn2.cells _ _ lg).trans (hprev.out h0)
      have HX : Hid (enF e1 ki pe m = 0 → 1 ≤ e1 ∧ e1 ≤ 1000) := enF_ep
      clear x0 x1 x2 x3 cB hprev
      generalize enF e1 ki pe m = f at *
      by_cases hf : f = 0
      · subst hf
        have hE := HX.out rfl
        by_cases h1 : ep < e1
        · have g1 : decide (ep < e1) = true := decide_eq_true h1
          have HR : Hid (lgF ep 0 (V.map EkV.r) = 1) := by unfold Hid; rw [HD.out]; simp [h1]
          go_wp2
          have Y0 := cell_regrown y0
          have CN := blk_regrown ((hb.new hnw).new hn2)
          refine wp_region_quiet_below (by kernel_rfl) (by kernel_rfl) ?_
          repeat (go_big_quiet_step (fail))
          refine wpQuiet_nil ?_
          rintro w3 hn3
          replace hn3 := new_of_regrown hn3
          go_wp2
          go_ret
          exact ⟨ret_i64 HR.out.symm, hw2.trans hn3⟩
        · have g1 : decide (ep < e1) = false := decide_eq_false h1
          by_cases hk0 : k = 0
          · subst hk0
            obtain rfl := hp0.out rfl
            have y0 : w2.cell? ⟨g, 0, none⟩ = some (.int .i64 e1) := by simpa using y0
            have HR : Hid (lgF ep e1 ((V.map EkV.r).drop (0 + 1)) = lgF ep 0 (V.map EkV.r)) := by unfold Hid; rw [HD.out]; simp [h1]; intro; omega
            go_wp2
            have Y0 := cell_regrown y0
            have CN := blk_regrown ((hb.new hnw).new hn2)
            refine wp_region_quiet_below (by kernel_rfl) (by kernel_rfl) ?_
            repeat (go_big_quiet_step (fail))
            refine wpQuiet_nil ?_
            rintro w3 hn3
            replace hn3 := new_of_regrown hn3
            go_wp2
            go_roundw
            case rel => exact ⟨0 + 1, e1, by omega, by go_num, hw2.trans hn3, fun h => by omega, fun _ => ⟨_, HV.out, rfl⟩, HR⟩
            case measure => simp [intOf]; omega
          · have hkp : 0 < k := by omega
            have hc2 := hprev2.out hkp
            obtain ⟨j, rfl⟩ : ∃ j, k = j + 1 := ⟨k - 1, by omega⟩
            simp only [Nat.add_sub_cancel] at hc2
            clear hkp
            have g2 : decide ((0 : Int) < (j : Int) + 1) = true := decide_eq_true (by omega)
            by_cases h2 : e1 < p
            · have HR : Hid (lgF ep 0 (V.map EkV.r) = 1) := by unfold Hid; rw [HD.out]; simp [h2]
              go_wp2
              have Y0 := cell_regrown y0
              have CN := blk_regrown ((hb.new hnw).new hn2)
              have C2 := cell_regrown hc2
              refine wp_region_quiet_below (by kernel_rfl) (by kernel_rfl) ?_
              repeat (go_big_quiet_step (fail))
              refine wpQuiet_nil ?_
              rintro w3 hn3
              replace hn3 := new_of_regrown hn3
              go_wp2
              go_ret
              exact ⟨ret_i64 HR.out.symm, hw2.trans hn3⟩
            · have HR : Hid (lgF ep e1 ((V.map EkV.r).drop (j + 1 + 1)) = lgF ep 0 (V.map EkV.r)) := by unfold Hid; rw [HD.out]; simp [h1, h2]
              go_wp2
              have Y0 := cell_regrown y0
              have CN := blk_regrown ((hb.new hnw).new hn2)
              have C2 := cell_regrown hc2
              refine wp_region_quiet_below (by kernel_rfl) (by kernel_rfl) ?_
              repeat (go_big_quiet_step (fail))
              refine wpQuiet_nil ?_
              rintro w3 hn3
              replace hn3 := new_of_regrown hn3
              go_wp2
              go_roundw
              case rel => exact ⟨j + 1 + 1, e1, by omega, by go_num, hw2.trans hn3, fun h => by omega, fun _ => ⟨_, HV.out, rfl⟩, HR⟩
              case measure => simp [intOf]; omega
      · have HR : Hid (lgF ep 0 (V.map EkV.r) = f) := by unfold Hid; rw [HD.out]; simp [hf]
        go_wp2
        go_ret
        exact ⟨ret_i64 HR.out.symm, hw2⟩
    · have HR : Hid (0 = lgF ep 0 (V.map EkV.r)) := by unfold Hid; rw [← hL.out, lgF_end ep p (by have := HN.out; omega)]
      go_wp2
      go_ret
      exact ⟨ret_i64 HR.out, hnw⟩

theorem specLFv_b (v : Int) (B : Nat) (id : Int) (up : Bool) (ro ep su ma ot co : Int) (A : Option Addr) (n c : Nat) (V : List EkV) (w : World) (hb : Blk w B 108 #[vx0, vx1, vx2, vx3, vx4, vx5, vx6, vx7, vx8, .int .i64 id, .bool up, .int .i64 ro, .int .i64 ep, .slice A n c, .int .i64 su, .int .i64 ma, .int .i64 ot, .int .i64 co]) (h : LgAt w A V) (hn : V.length = n) (hm : n ≤ 2097152) (hv : lg2 n (lgF ep 0 (V.map EkV.r)) = v) :
    Calls Tryz.prog 170 #[.pointer (some ⟨B, 9, none⟩)] w fun e w' => e = .returned (.int .i64 v) ∧ New w w' := by
  rw [← hv]
  exact specLF_b B id up ro ep su ma ot co A n c V w hb h hn hm

set_option maxHeartbeats 1600000 in
theorem sg1_b (B : Nat) (id : Int) (up : Bool) (ro ep su ma ot co : Int) (A : Option Addr) (n c : Nat) (V : List EkV) (w : World) (bN : Blk w B 108 #[vx0, vx1, vx2, vx3, vx4, vx5, vx6, vx7, vx8, .int .i64 id, .bool up, .int .i64 ro, .int .i64 ep, .slice A n c, .int .i64 su, .int .i64 ma, .int .i64 ot, .int .i64 co]) (h : LgAt w A V) (hn : V.length = n) (hm : n ≤ 2097152) (hid : id < 0 ∨ 1 < id) :
    Calls Tryz.prog 136 #[.pointer (some ⟨B, 9, none⟩)] w fun e w' => e = .returned (.int .i64 3) ∧ New w w' := by
  have cN := bN.cells
  go_enter Tryz.func136, Tryz.ntmps136
  go_wp2_with fail
  refine (in_no id 0 1 _ hid).mono ?_
  rintro e w1 ⟨rfl, rfl⟩
  go_wp2
  go_ret
  exact ⟨rfl, New.refl _⟩

set_option maxHeartbeats 1600000 in
theorem sg2_b (B : Nat) (id : Int) (up : Bool) (ro ep su ma ot co : Int) (A : Option Addr) (n c : Nat) (V : List EkV) (w : World) (bN : Blk w B 108 #[vx0, vx1, vx2, vx3, vx4, vx5, vx6, vx7, vx8, .int .i64 id, .bool up, .int .i64 ro, .int .i64 ep, .slice A n c, .int .i64 su, .int .i64 ma, .int .i64 ot, .int .i64 co]) (h : LgAt w A V) (hn : V.length = n) (hm : n ≤ 2097152) (hid : 0 ≤ id ∧ id ≤ 1) (hro : ro < 0 ∨ 1 < ro) :
    Calls Tryz.prog 136 #[.pointer (some ⟨B, 9, none⟩)] w fun e w' => e = .returned (.int .i64 3) ∧ New w w' := by
  have cN := bN.cells
  go_enter Tryz.func136, Tryz.ntmps136
  go_wp2_with fail
  refine (in_yes id 0 1 _ hid).mono ?_
  rintro e w1 ⟨rfl, rfl⟩
  go_wp2_with fail
  refine (in_no ro 0 1 _ hro).mono ?_
  rintro e w1 ⟨rfl, rfl⟩
  go_wp2
  go_ret
  exact ⟨rfl, New.refl _⟩

set_option maxHeartbeats 1600000 in
theorem sg3_b (B : Nat) (id : Int) (up : Bool) (ro ep su ma ot co : Int) (A : Option Addr) (n c : Nat) (V : List EkV) (w : World) (bN : Blk w B 108 #[vx0, vx1, vx2, vx3, vx4, vx5, vx6, vx7, vx8, .int .i64 id, .bool up, .int .i64 ro, .int .i64 ep, .slice A n c, .int .i64 su, .int .i64 ma, .int .i64 ot, .int .i64 co]) (h : LgAt w A V) (hn : V.length = n) (hm : n ≤ 2097152) (hid : 0 ≤ id ∧ id ≤ 1) (hro : 0 ≤ ro ∧ ro ≤ 1) (hep : ep < 0 ∨ 1000 < ep) :
    Calls Tryz.prog 136 #[.pointer (some ⟨B, 9, none⟩)] w fun e w' => e = .returned (.int .i64 3) ∧ New w w' := by
  have cN := bN.cells
  go_enter Tryz.func136, Tryz.ntmps136
  go_wp2_with fail
  refine (in_yes id 0 1 _ hid).mono ?_
  rintro e w1 ⟨rfl, rfl⟩
  go_wp2_with fail
  refine (in_yes ro 0 1 _ hro).mono ?_
  rintro e w1 ⟨rfl, rfl⟩
  go_wp2_with fail
  refine (in_no ep 0 1000 _ hep).mono ?_
  rintro e w1 ⟨rfl, rfl⟩
  go_wp2
  go_ret
  exact ⟨rfl, New.refl _⟩

set_option maxHeartbeats 1600000 in
theorem sg5_b (B : Nat) (id : Int) (up : Bool) (ro ep su ma ot co : Int) (A : Option Addr) (n c : Nat) (V : List EkV) (w : World) (bN : Blk w B 108 #[vx0, vx1, vx2, vx3, vx4, vx5, vx6, vx7, vx8, .int .i64 id, .bool up, .int .i64 ro, .int .i64 ep, .slice A n c, .int .i64 su, .int .i64 ma, .int .i64 ot, .int .i64 co]) (h : LgAt w A V) (hn : V.length = n) (hm : n ≤ 2097152) (hid : 0 ≤ id ∧ id ≤ 1) (hro : 0 ≤ ro ∧ ro ≤ 1) (hep : 0 ≤ ep ∧ ep ≤ 1000) (f : Int) (hlg : lg2 n (lgF ep 0 (V.map EkV.r)) = f) (hf : ¬ f = 0) :
    Calls Tryz.prog 136 #[.pointer (some ⟨B, 9, none⟩)] w fun e w' => e = .returned (.int .i64 f) ∧ New w w' := by
  have cN := bN.cells
  go_enter Tryz.func136, Tryz.ntmps136
  go_wp2_with fail
  refine (in_yes id 0 1 _ hid).mono ?_
  rintro e w1 ⟨rfl, rfl⟩
  go_wp2_with fail
  refine (in_yes ro 0 1 _ hro).mono ?_
  rintro e w1 ⟨rfl, rfl⟩
  go_wp2_with fail
  refine (in_yes ep 0 1000 _ hep).mono ?_
  rintro e w1 ⟨rfl, rfl⟩
  go_wp2_with fail
  refine (specLFv_b f B id up ro ep su ma ot co A n c V _ bN h hn hm hlg).mono ?_
  rintro e w2 ⟨rfl, hw2⟩
  have b2_b := bN.new hw2
  have c2 := b2_b.cells
  clear cN
  go_wp2
  go_ret
  exact ⟨rfl, hw2⟩

set_option maxHeartbeats 1600000 in
theorem sg7_b (B : Nat) (id : Int) (up : Bool) (ro ep su ma ot co : Int) (A : Option Addr) (n c : Nat) (V : List EkV) (w : World) (bN : Blk w B 108 #[vx0, vx1, vx2, vx3, vx4, vx5, vx6, vx7, vx8, .int .i64 id, .bool up, .int .i64 ro, .int .i64 ep, .slice A n c, .int .i64 su, .int .i64 ma, .int .i64 ot, .int .i64 co]) (h : LgAt w A V) (hn : V.length = n) (hm : n ≤ 2097152) (hid : 0 ≤ id ∧ id ≤ 1) (hro : 0 ≤ ro ∧ ro ≤ 1) (hep : 0 ≤ ep ∧ ep ≤ 1000) (hlg : lg2 n (lgF ep 0 (V.map EkV.r)) = 0) (hsu : su < 0 ∨ (n : Int) < su) :
    Calls Tryz.prog 136 #[.pointer (some ⟨B, 9, none⟩)] w fun e w' => e = .returned (.int .i64 3) ∧ New w w' := by
  have cN := bN.cells
  go_enter Tryz.func136, Tryz.ntmps136
  go_wp2_with fail
  refine (in_yes id 0 1 _ hid).mono ?_
  rintro e w1 ⟨rfl, rfl⟩
  go_wp2_with fail
  refine (in_yes ro 0 1 _ hro).mono ?_
  rintro e w1 ⟨rfl, rfl⟩
  go_wp2_with fail
  refine (in_yes ep 0 1000 _ hep).mono ?_
  rintro e w1 ⟨rfl, rfl⟩
  go_wp2_with fail
  refine (specLFv_b 0 B id up ro ep su ma ot co A n c V _ bN h hn hm hlg).mono ?_
  rintro e w2 ⟨rfl, hw2⟩
  have b2_b := bN.new hw2
  have c2 := b2_b.cells
  clear cN
  go_wp2_with fail
  have CN := blk_regrown b2_b
  refine wp_region_quiet_below (by kernel_rfl) (by kernel_rfl) ?_
  repeat (go_big_quiet_step ((first | (go_at_call_of 121 (n : Int); (first | (go_at_call_of 121 su; exact calls_regrown_same (in_no su 0 n _ hsu)))))))
  refine wpQuiet_nil ?_
  rintro w3 hn3
  replace hn3 := new_of_regrown hn3
  have b3_b := b2_b.new hn3
  have c3 := b3_b.cells
  have hw3 := hw2.trans hn3
  clear CN c2
  go_wp2
  go_ret
  exact ⟨rfl, hw3⟩

set_option maxHeartbeats 1600000 in
theorem sg8_b (B : Nat) (id : Int) (up : Bool) (ro ep su ma ot co : Int) (A : Option Addr) (n c : Nat) (V : List EkV) (w : World) (bN : Blk w B 108 #[vx0, vx1, vx2, vx3, vx4, vx5, vx6, vx7, vx8, .int .i64 id, .bool up, .int .i64 ro, .int .i64 ep, .slice A n c, .int .i64 su, .int .i64 ma, .int .i64 ot, .int .i64 co]) (h : LgAt w A V) (hn : V.length = n) (hm : n ≤ 2097152) (hid : 0 ≤ id ∧ id ≤ 1) (hro : 0 ≤ ro ∧ ro ≤ 1) (hep : 0 ≤ ep ∧ ep ≤ 1000) (hlg : lg2 n (lgF ep 0 (V.map EkV.r)) = 0) (hsu : 0 ≤ su ∧ su ≤ n) (hma : ma < 0 ∨ (n : Int) < ma) :
    Calls Tryz.prog 136 #[.pointer (some ⟨B, 9, none⟩)] w fun e w' => e = .returned (.int .i64 3) ∧ New w w' := by
  have cN := bN.cells
  go_enter Tryz.func136, Tryz.ntmps136
  go_wp2_with fail
  refine (in_yes id 0 1 _ hid).mono ?_
  rintro e w1 ⟨rfl, rfl⟩
  go_wp2_with fail
  refine (in_yes ro 0 1 _ hro).mono ?_
  rintro e w1 ⟨rfl, rfl⟩
  go_wp2_with fail
  refine (in_yes ep 0 1000 _ hep).mono ?_
  rintro e w1 ⟨rfl, rfl⟩
  go_wp2_with fail
  refine (specLFv_b 0 B id up ro ep su ma ot co A n c V _ bN h hn hm hlg).mono ?_
  rintro e w2 ⟨rfl, hw2⟩
  have b2_b := bN.new hw2
  have c2 := b2_b.cells
  clear cN
  go_wp2_with fail
  have CN := blk_regrown b2_b
  refine wp_region_quiet_below (by kernel_rfl) (by kernel_rfl) ?_
  repeat (go_big_quiet_step ((first | (go_at_call_of 121 (n : Int); (first | (go_at_call_of 121 su; exact calls_regrown_same (in_yes su 0 n _ hsu)) | (go_at_call_of 121 ma; exact calls_regrown_same (in_no ma 0 n _ hma)))))))
  refine wpQuiet_nil ?_
  rintro w3 hn3
  replace hn3 := new_of_regrown hn3
  have b3_b := b2_b.new hn3
  have c3 := b3_b.cells
  have hw3 := hw2.trans hn3
  clear CN c2
  go_wp2
  go_ret
  exact ⟨rfl, hw3⟩

set_option maxHeartbeats 1600000 in
theorem sg9_b (B : Nat) (id : Int) (up : Bool) (ro ep su ma ot co : Int) (A : Option Addr) (n c : Nat) (V : List EkV) (w : World) (bN : Blk w B 108 #[vx0, vx1, vx2, vx3, vx4, vx5, vx6, vx7, vx8, .int .i64 id, .bool up, .int .i64 ro, .int .i64 ep, .slice A n c, .int .i64 su, .int .i64 ma, .int .i64 ot, .int .i64 co]) (h : LgAt w A V) (hn : V.length = n) (hm : n ≤ 2097152) (hid : 0 ≤ id ∧ id ≤ 1) (hro : 0 ≤ ro ∧ ro ≤ 1) (hep : 0 ≤ ep ∧ ep ≤ 1000) (hlg : lg2 n (lgF ep 0 (V.map EkV.r)) = 0) (hsu : 0 ≤ su ∧ su ≤ n) (hma : 0 ≤ ma ∧ ma ≤ n) (hot : ot < 0 ∨ (n : Int) < ot) :
    Calls Tryz.prog 136 #[.pointer (some ⟨B, 9, none⟩)] w fun e w' => e = .returned (.int .i64 3) ∧ New w w' := by
  have cN := bN.cells
  go_enter Tryz.func136, Tryz.ntmps136
  go_wp2_with fail
  refine (in_yes id 0 1 _ hid).mono ?_
  rintro e w1 ⟨rfl, rfl⟩
  go_wp2_with fail
  refine (in_yes ro 0 1 _ hro).mono ?_
  rintro e w1 ⟨rfl, rfl⟩
  go_wp2_with fail
  refine (in_yes ep 0 1000 _ hep).mono ?_
  rintro e w1 ⟨rfl, rfl⟩
  go_wp2_with fail
  refine (specLFv_b 0 B id up ro ep su ma ot co A n c V _ bN h hn hm hlg).mono ?_
  rintro e w2 ⟨rfl, hw2⟩
  have b2_b := bN.new hw2
  have c2 := b2_b.cells
  clear cN
  go_wp2_with fail
  have CN := blk_regrown b2_b
  refine wp_region_quiet_below (by kernel_rfl) (by kernel_rfl) ?_
  repeat (go_big_quiet_step ((first | (go_at_call_of 121 (n : Int); (first | (go_at_call_of 121 su; exact calls_regrown_same (in_yes su 0 n _ hsu)) | (go_at_call_of 121 ma; exact calls_regrown_same (in_yes ma 0 n _ hma)) | (go_at_call_of 121 ot; exact calls_regrown_same (in_no ot 0 n _ hot)))))))
  refine wpQuiet_nil ?_
  rintro w3 hn3
  replace hn3 := new_of_regrown hn3
  have b3_b := b2_b.new hn3
  have c3 := b3_b.cells
  have hw3 := hw2.trans hn3
  clear CN c2
  go_wp2
  go_ret
  exact ⟨rfl, hw3⟩

set_option maxHeartbeats 1600000 in
theorem sg10_b (B : Nat) (id : Int) (up : Bool) (ro ep su ma ot co : Int) (A : Option Addr) (n c : Nat) (V : List EkV) (w : World) (bN : Blk w B 108 #[vx0, vx1, vx2, vx3, vx4, vx5, vx6, vx7, vx8, .int .i64 id, .bool up, .int .i64 ro, .int .i64 ep, .slice A n c, .int .i64 su, .int .i64 ma, .int .i64 ot, .int .i64 co]) (h : LgAt w A V) (hn : V.length = n) (hm : n ≤ 2097152) (hid : 0 ≤ id ∧ id ≤ 1) (hro : 0 ≤ ro ∧ ro ≤ 1) (hep : 0 ≤ ep ∧ ep ≤ 1000) (hlg : lg2 n (lgF ep 0 (V.map EkV.r)) = 0) (hsu : 0 ≤ su ∧ su ≤ n) (hma : 0 ≤ ma ∧ ma ≤ n) (hot : 0 ≤ ot ∧ ot ≤ n) (hco : co < 0 ∨ su < co) :
    Calls Tryz.prog 136 #[.pointer (some ⟨B, 9, none⟩)] w fun e w' => e = .returned (.int .i64 3) ∧ New w w' := by
  have cN := bN.cells
  go_enter Tryz.func136, Tryz.ntmps136
  go_wp2_with fail
  refine (in_yes id 0 1 _ hid).mono ?_
  rintro e w1 ⟨rfl, rfl⟩
  go_wp2_with fail
  refine (in_yes ro 0 1 _ hro).mono ?_
  rintro e w1 ⟨rfl, rfl⟩
  go_wp2_with fail
  refine (in_yes ep 0 1000 _ hep).mono ?_
  rintro e w1 ⟨rfl, rfl⟩
  go_wp2_with fail
  refine (specLFv_b 0 B id up ro ep su ma ot co A n c V _ bN h hn hm hlg).mono ?_
  rintro e w2 ⟨rfl, hw2⟩
  have b2_b := bN.new hw2
  have c2 := b2_b.cells
  clear cN
  go_wp2_with fail
  have CN := blk_regrown b2_b
  refine wp_region_quiet_below (by kernel_rfl) (by kernel_rfl) ?_
  repeat (go_big_quiet_step ((first | (go_at_call_of 121 (n : Int); (first | (go_at_call_of 121 su; exact calls_regrown_same (in_yes su 0 n _ hsu)) | (go_at_call_of 121 ma; exact calls_regrown_same (in_yes ma 0 n _ hma)) | (go_at_call_of 121 ot; exact calls_regrown_same (in_yes ot 0 n _ hot)))) | exact calls_regrown_same (in_no co 0 su _ hco))))
  refine wpQuiet_nil ?_
  rintro w3 hn3
  replace hn3 := new_of_regrown hn3
  have b3_b := b2_b.new hn3
  have c3 := b3_b.cells
  have hw3 := hw2.trans hn3
  clear CN c2
  go_wp2
  go_ret
  exact ⟨rfl, hw3⟩

set_option maxHeartbeats 1600000 in
theorem a1_b (B : Nat) (id : Int) (ep su ma ot co : Int) (A : Option Addr) (n c : Nat) (V : List EkV) (w : World) (bN : Blk w B 108 #[vx0, vx1, vx2, vx3, vx4, vx5, vx6, vx7, vx8, .int .i64 id, .bool false, .int .i64 1, .int .i64 ep, .slice A n c, .int .i64 su, .int .i64 ma, .int .i64 ot, .int .i64 co]) (h : LgAt w A V) (hn : V.length = n) (hm : n ≤ 2097152) (hid : 0 ≤ id ∧ id ≤ 1) (hro : 0 ≤ (1 : Int) ∧ (1 : Int) ≤ 1) (hep : 0 ≤ ep ∧ ep ≤ 1000) (hlg : lg2 n (lgF ep 0 (V.map EkV.r)) = 0) (hsu : 0 ≤ su ∧ su ≤ n) (hma : 0 ≤ ma ∧ ma ≤ n) (hot : 0 ≤ ot ∧ ot ≤ n) (hco : 0 ≤ co ∧ co ≤ su) :
    Calls Tryz.prog 136 #[.pointer (some ⟨B, 9, none⟩)] w fun e w' => e = .returned (.int .i64 1) ∧ New w w' := by
  have cN := bN.cells
  go_enter Tryz.func136, Tryz.ntmps136
  go_wp2_with fail
  refine (in_yes id 0 1 _ hid).mono ?_
  rintro e w1 ⟨rfl, rfl⟩
  go_wp2_with fail
  refine (in_yes (1 : Int) 0 1 _ hro).mono ?_
  rintro e w1 ⟨rfl, rfl⟩
  go_wp2_with fail
  refine (in_yes ep 0 1000 _ hep).mono ?_
  rintro e w1 ⟨rfl, rfl⟩
  go_wp2_with fail
  refine (specLFv_b 0 B id false 1 ep su ma ot co A n c V _ bN h hn hm hlg).mono ?_
  rintro e w2 ⟨rfl, hw2⟩
  have b2_b := bN.new hw2
  have c2 := b2_b.cells
  clear cN
  go_wp2_with fail
  have CN := blk_regrown b2_b
  refine wp_region_quiet_below (by kernel_rfl) (by kernel_rfl) ?_
  repeat (go_big_quiet_step ((first | (go_at_call_of 121 (n : Int); (first | (go_at_call_of 121 su; exact calls_regrown_same (in_yes su 0 n _ hsu)) | (go_at_call_of 121 ma; exact calls_regrown_same (in_yes ma 0 n _ hma)) | (go_at_call_of 121 ot; exact calls_regrown_same (in_yes ot 0 n _ hot)))) | exact calls_regrown_same (in_yes co 0 su _ hco))))
  refine wpQuiet_nil ?_
  rintro w3 hn3
  replace hn3 := new_of_regrown hn3
  have b3_b := b2_b.new hn3
  have c3 := b3_b.cells
  have hw3 := hw2.trans hn3
  clear CN c2
  go_wp2
  go_ret
  exact ⟨rfl, hw3⟩

set_option maxHeartbeats 1600000 in
theorem a2_b (B : Nat) (id : Int) (su ma ot co : Int) (A : Option Addr) (n c : Nat) (V : List EkV) (w : World) (bN : Blk w B 108 #[vx0, vx1, vx2, vx3, vx4, vx5, vx6, vx7, vx8, .int .i64 id, .bool true, .int .i64 1, .int .i64 0, .slice A n c, .int .i64 su, .int .i64 ma, .int .i64 ot, .int .i64 co]) (h : LgAt w A V) (hn : V.length = n) (hm : n ≤ 2097152) (hid : 0 ≤ id ∧ id ≤ 1) (hro : 0 ≤ (1 : Int) ∧ (1 : Int) ≤ 1) (hep : 0 ≤ (0 : Int) ∧ (0 : Int) ≤ 1000) (hlg : lg2 n (lgF (0 : Int) 0 (V.map EkV.r)) = 0) (hsu : 0 ≤ su ∧ su ≤ n) (hma : 0 ≤ ma ∧ ma ≤ n) (hot : 0 ≤ ot ∧ ot ≤ n) (hco : 0 ≤ co ∧ co ≤ su) :
    Calls Tryz.prog 136 #[.pointer (some ⟨B, 9, none⟩)] w fun e w' => e = .returned (.int .i64 1) ∧ New w w' := by
  have cN := bN.cells
  go_enter Tryz.func136, Tryz.ntmps136
  go_wp2_with fail
  refine (in_yes id 0 1 _ hid).mono ?_
  rintro e w1 ⟨rfl, rfl⟩
  go_wp2_with fail
  refine (in_yes (1 : Int) 0 1 _ hro).mono ?_
  rintro e w1 ⟨rfl, rfl⟩
  go_wp2_with fail
  refine (in_yes (0 : Int) 0 1000 _ hep).mono ?_
  rintro e w1 ⟨rfl, rfl⟩
  go_wp2_with fail
  refine (specLFv_b 0 B id true 1 0 su ma ot co A n c V _ bN h hn hm hlg).mono ?_
  rintro e w2 ⟨rfl, hw2⟩
  have b2_b := bN.new hw2
  have c2 := b2_b.cells
  clear cN
  go_wp2_with fail
  have CN := blk_regrown b2_b
  refine wp_region_quiet_below (by kernel_rfl) (by kernel_rfl) ?_
  repeat (go_big_quiet_step ((first | (go_at_call_of 121 (n : Int); (first | (go_at_call_of 121 su; exact calls_regrown_same (in_yes su 0 n _ hsu)) | (go_at_call_of 121 ma; exact calls_regrown_same (in_yes ma 0 n _ hma)) | (go_at_call_of 121 ot; exact calls_regrown_same (in_yes ot 0 n _ hot)))) | exact calls_regrown_same (in_yes co 0 su _ hco))))
  refine wpQuiet_nil ?_
  rintro w3 hn3
  replace hn3 := new_of_regrown hn3
  have b3_b := b2_b.new hn3
  have c3 := b3_b.cells
  have hw3 := hw2.trans hn3
  clear CN c2
  go_wp2
  go_ret
  exact ⟨rfl, hw3⟩

set_option maxHeartbeats 1600000 in
theorem a3_b (B : Nat) (id : Int) (ep su ma ot co : Int) (A : Option Addr) (n c : Nat) (V : List EkV) (w : World) (bN : Blk w B 108 #[vx0, vx1, vx2, vx3, vx4, vx5, vx6, vx7, vx8, .int .i64 id, .bool true, .int .i64 1, .int .i64 ep, .slice A n c, .int .i64 su, .int .i64 ma, .int .i64 ot, .int .i64 co]) (h : LgAt w A V) (hn : V.length = n) (hm : n ≤ 2097152) (hid : 0 ≤ id ∧ id ≤ 1) (hro : 0 ≤ (1 : Int) ∧ (1 : Int) ≤ 1) (hep : 0 ≤ ep ∧ ep ≤ 1000) (hlg : lg2 n (lgF ep 0 (V.map EkV.r)) = 0) (hsu : 0 ≤ su ∧ su ≤ n) (hma : 0 ≤ ma ∧ ma ≤ n) (hot : 0 ≤ ot ∧ ot ≤ n) (hco : 0 ≤ co ∧ co ≤ su) (he : ¬ ep = 0) (hm1 : ¬ ma = 0) :
    Calls Tryz.prog 136 #[.pointer (some ⟨B, 9, none⟩)] w fun e w' => e = .returned (.int .i64 1) ∧ New w w' := by
  have cN := bN.cells
  have gep : (ep == 0) = false := by simp [he]
  have kep : (ep != 0) = true := by simp [he]
  have gma : (ma == 0) = false := by simp [hm1]
  have kma : (ma != 0) = true := by simp [hm1]
  go_enter Tryz.func136, Tryz.ntmps136
  go_wp2_with fail
  refine (in_yes id 0 1 _ hid).mono ?_
  rintro e w1 ⟨rfl, rfl⟩
  go_wp2_with fail
  refine (in_yes (1 : Int) 0 1 _ hro).mono ?_
  rintro e w1 ⟨rfl, rfl⟩
  go_wp2_with fail
  refine (in_yes ep 0 1000 _ hep).mono ?_
  rintro e w1 ⟨rfl, rfl⟩
  go_wp2_with fail
  refine (specLFv_b 0 B id true 1 ep su ma ot co A n c V _ bN h hn hm hlg).mono ?_
  rintro e w2 ⟨rfl, hw2⟩
  have b2_b := bN.new hw2
  have c2 := b2_b.cells
  clear cN
  go_wp2_with fail
  have CN := blk_regrown b2_b
  refine wp_region_quiet_below (by kernel_rfl) (by kernel_rfl) ?_
  repeat (go_big_quiet_step ((first | (go_at_call_of 121 (n : Int); (first | (go_at_call_of 121 su; exact calls_regrown_same (in_yes su 0 n _ hsu)) | (go_at_call_of 121 ma; exact calls_regrown_same (in_yes ma 0 n _ hma)) | (go_at_call_of 121 ot; exact calls_regrown_same (in_yes ot 0 n _ hot)))) | exact calls_regrown_same (in_yes co 0 su _ hco))))
  refine wpQuiet_nil ?_
  rintro w3 hn3
  replace hn3 := new_of_regrown hn3
  have b3_b := b2_b.new hn3
  have c3 := b3_b.cells
  have hw3 := hw2.trans hn3
  clear CN c2
  go_wp2
  go_ret
  exact ⟨rfl, hw3⟩

set_option maxHeartbeats 1600000 in
theorem a4_b (B : Nat) (id : Int) (ep su ot co : Int) (A : Option Addr) (n c : Nat) (V : List EkV) (w : World) (bN : Blk w B 108 #[vx0, vx1, vx2, vx3, vx4, vx5, vx6, vx7, vx8, .int .i64 id, .bool true, .int .i64 1, .int .i64 ep, .slice A n c, .int .i64 su, .int .i64 0, .int .i64 ot, .int .i64 co]) (h : LgAt w A V) (hn : V.length = n) (hm : n ≤ 2097152) (hid : 0 ≤ id ∧ id ≤ 1) (hro : 0 ≤ (1 : Int) ∧ (1 : Int) ≤ 1) (hep : 0 ≤ ep ∧ ep ≤ 1000) (hlg : lg2 n (lgF ep 0 (V.map EkV.r)) = 0) (hsu : 0 ≤ su ∧ su ≤ n) (hma : 0 ≤ (0 : Int) ∧ (0 : Int) ≤ n) (hot : 0 ≤ ot ∧ ot ≤ n) (hco : 0 ≤ co ∧ co ≤ su) (he : ¬ ep = 0) :
    Calls Tryz.prog 136 #[.pointer (some ⟨B, 9, none⟩)] w fun e w' => e = .returned (.int .i64 0) ∧ New w w' := by
  have cN := bN.cells
  have gep : (ep == 0) = false := by simp [he]
  have kep : (ep != 0) = true := by simp [he]
  go_enter Tryz.func136, Tryz.ntmps136
  go_wp2_with fail
  refine (in_yes id 0 1 _ hid).mono ?_
  rintro e w1 ⟨rfl, rfl⟩
  go_wp2_with fail
  refine (in_yes (1 : Int) 0 1 _ hro).mono ?_
  rintro e w1 ⟨rfl, rfl⟩
  go_wp2_with fail
  refine (in_yes ep 0 1000 _ hep).mono ?_
  rintro e w1 ⟨rfl, rfl⟩
  go_wp2_with fail
  refine (specLFv_b 0 B id true 1 ep su 0 ot co A n c V _ bN h hn hm hlg).mono ?_
  rintro e w2 ⟨rfl, hw2⟩
  have b2_b := bN.new hw2
  have c2 := b2_b.cells
  clear cN
  go_wp2_with fail
  have CN := blk_regrown b2_b
  refine wp_region_quiet_below (by kernel_rfl) (by kernel_rfl) ?_
  repeat (go_big_quiet_step ((first | (go_at_call_of 121 (n : Int); (first | (go_at_call_of 121 su; exact calls_regrown_same (in_yes su 0 n _ hsu)) | (go_at_call_of 121 ot; exact calls_regrown_same (in_yes ot 0 n _ hot)) | (go_at_call_of 121 (0 : Int); exact calls_regrown_same (in_yes (0 : Int) 0 n _ hma)))) | exact calls_regrown_same (in_yes co 0 su _ hco))))
  refine wpQuiet_nil ?_
  rintro w3 hn3
  replace hn3 := new_of_regrown hn3
  have b3_b := b2_b.new hn3
  have c3 := b3_b.cells
  have hw3 := hw2.trans hn3
  clear CN c2
  go_wp2
  go_ret
  exact ⟨rfl, hw3⟩

set_option maxHeartbeats 1600000 in
theorem b1_b (B : Nat) (id : Int) (up : Bool) (ro ep su ma ot co : Int) (A : Option Addr) (n c : Nat) (V : List EkV) (w : World) (bN : Blk w B 108 #[vx0, vx1, vx2, vx3, vx4, vx5, vx6, vx7, vx8, .int .i64 id, .bool up, .int .i64 ro, .int .i64 ep, .slice A n c, .int .i64 su, .int .i64 ma, .int .i64 ot, .int .i64 co]) (h : LgAt w A V) (hn : V.length = n) (hm : n ≤ 2097152) (hid : 0 ≤ id ∧ id ≤ 1) (hro : 0 ≤ ro ∧ ro ≤ 1) (hep : 0 ≤ ep ∧ ep ≤ 1000) (hlg : lg2 n (lgF ep 0 (V.map EkV.r)) = 0) (hsu : 0 ≤ su ∧ su ≤ n) (hma : 0 ≤ ma ∧ ma ≤ n) (hot : 0 ≤ ot ∧ ot ≤ n) (hco : 0 ≤ co ∧ co ≤ su) (hr : ¬ ro = 1) (ho : ¬ ot = 0) :
    Calls Tryz.prog 136 #[.pointer (some ⟨B, 9, none⟩)] w fun e w' => e = .returned (.int .i64 1) ∧ New w w' := by
  have cN := bN.cells
  have gro : (ro == 1) = false := by simp [hr]
  have kro : (ro != 1) = true := by simp [hr]
  have got : (ot == 0) = false := by simp [ho]
  have kot : (ot != 0) = true := by simp [ho]
  go_enter Tryz.func136, Tryz.ntmps136
  go_wp2_with fail
  refine (in_yes id 0 1 _ hid).mono ?_
  rintro e w1 ⟨rfl, rfl⟩
  go_wp2_with fail
  refine (in_yes ro 0 1 _ hro).mono ?_
  rintro e w1 ⟨rfl, rfl⟩
  go_wp2_with fail
  refine (in_yes ep 0 1000 _ hep).mono ?_
  rintro e w1 ⟨rfl, rfl⟩
  go_wp2_with fail
  refine (specLFv_b 0 B id up ro ep su ma ot co A n c V _ bN h hn hm hlg).mono ?_
  rintro e w2 ⟨rfl, hw2⟩
  have b2_b := bN.new hw2
  have c2 := b2_b.cells
  clear cN
  go_wp2_with fail
  have CN := blk_regrown b2_b
  refine wp_region_quiet_below (by kernel_rfl) (by kernel_rfl) ?_
  repeat (go_big_quiet_step ((first | (go_at_call_of 121 (n : Int); (first | (go_at_call_of 121 su; exact calls_regrown_same (in_yes su 0 n _ hsu)) | (go_at_call_of 121 ma; exact calls_regrown_same (in_yes ma 0 n _ hma)) | (go_at_call_of 121 ot; exact calls_regrown_same (in_yes ot 0 n _ hot)))) | exact calls_regrown_same (in_yes co 0 su _ hco))))
  refine wpQuiet_nil ?_
  rintro w3 hn3
  replace hn3 := new_of_regrown hn3
  have b3_b := b2_b.new hn3
  have c3 := b3_b.cells
  have hw3 := hw2.trans hn3
  clear CN c2
  go_wp2
  go_ret
  exact ⟨rfl, hw3⟩

set_option maxHeartbeats 1600000 in
theorem b2_b (B : Nat) (id : Int) (ro ep su ma co : Int) (A : Option Addr) (n c : Nat) (V : List EkV) (w : World) (bN : Blk w B 108 #[vx0, vx1, vx2, vx3, vx4, vx5, vx6, vx7, vx8, .int .i64 id, .bool true, .int .i64 ro, .int .i64 ep, .slice A n c, .int .i64 su, .int .i64 ma, .int .i64 0, .int .i64 co]) (h : LgAt w A V) (hn : V.length = n) (hm : n ≤ 2097152) (hid : 0 ≤ id ∧ id ≤ 1) (hro : 0 ≤ ro ∧ ro ≤ 1) (hep : 0 ≤ ep ∧ ep ≤ 1000) (hlg : lg2 n (lgF ep 0 (V.map EkV.r)) = 0) (hsu : 0 ≤ su ∧ su ≤ n) (hma : 0 ≤ ma ∧ ma ≤ n) (hot : 0 ≤ (0 : Int) ∧ (0 : Int) ≤ n) (hco : 0 ≤ co ∧ co ≤ su) (hr : ¬ ro = 1) :
    Calls Tryz.prog 136 #[.pointer (some ⟨B, 9, none⟩)] w fun e w' => e = .returned (.int .i64 0) ∧ New w w' := by
  have cN := bN.cells
  have gro : (ro == 1) = false := by simp [hr]
  have kro : (ro != 1) = true := by simp [hr]
  go_enter Tryz.func136, Tryz.ntmps136
  go_wp2_with fail
  refine (in_yes id 0 1 _ hid).mono ?_
  rintro e w1 ⟨rfl, rfl⟩
  go_wp2_with fail
  refine (in_yes ro 0 1 _ hro).mono ?_
  rintro e w1 ⟨rfl, rfl⟩
  go_wp2_with fail
  refine (in_yes ep 0 1000 _ hep).mono ?_
  rintro e w1 ⟨rfl, rfl⟩
  go_wp2_with fail
  refine (specLFv_b 0 B id true ro ep su ma 0 co A n c V _ bN h hn hm hlg).mono ?_
  rintro e w2 ⟨rfl, hw2⟩
  have b2_b := bN.new hw2
  have c2 := b2_b.cells
  clear cN
  go_wp2_with fail
  have CN := blk_regrown b2_b
  refine wp_region_quiet_below (by kernel_rfl) (by kernel_rfl) ?_
  repeat (go_big_quiet_step ((first | (go_at_call_of 121 (n : Int); (first | (go_at_call_of 121 su; exact calls_regrown_same (in_yes su 0 n _ hsu)) | (go_at_call_of 121 ma; exact calls_regrown_same (in_yes ma 0 n _ hma)) | (go_at_call_of 121 (0 : Int); exact calls_regrown_same (in_yes (0 : Int) 0 n _ hot)))) | exact calls_regrown_same (in_yes co 0 su _ hco))))
  refine wpQuiet_nil ?_
  rintro w3 hn3
  replace hn3 := new_of_regrown hn3
  have b3_b := b2_b.new hn3
  have c3 := b3_b.cells
  have hw3 := hw2.trans hn3
  clear CN c2
  go_wp2
  go_ret
  exact ⟨rfl, hw3⟩

set_option maxHeartbeats 1600000 in
theorem b3_b (B : Nat) (id : Int) (ro ep su ma co : Int) (A : Option Addr) (n c : Nat) (V : List EkV) (w : World) (bN : Blk w B 108 #[vx0, vx1, vx2, vx3, vx4, vx5, vx6, vx7, vx8, .int .i64 id, .bool false, .int .i64 ro, .int .i64 ep, .slice A n c, .int .i64 su, .int .i64 ma, .int .i64 0, .int .i64 co]) (h : LgAt w A V) (hn : V.length = n) (hm : n ≤ 2097152) (hid : 0 ≤ id ∧ id ≤ 1) (hro : 0 ≤ ro ∧ ro ≤ 1) (hep : 0 ≤ ep ∧ ep ≤ 1000) (hlg : lg2 n (lgF ep 0 (V.map EkV.r)) = 0) (hsu : 0 ≤ su ∧ su ≤ n) (hma : 0 ≤ ma ∧ ma ≤ n) (hot : 0 ≤ (0 : Int) ∧ (0 : Int) ≤ n) (hco : 0 ≤ co ∧ co ≤ su) (hr : ¬ ro = 1) (hs : ¬ su = n) :
    Calls Tryz.prog 136 #[.pointer (some ⟨B, 9, none⟩)] w fun e w' => e = .returned (.int .i64 1) ∧ New w w' := by
  have cN := bN.cells
  have gro : (ro == 1) = false := by simp [hr]
  have kro : (ro != 1) = true := by simp [hr]
  have gsu : (su == (n : Int)) = false := by simp [hs]
  have ksu : (su != (n : Int)) = true := by simp [hs]
  go_enter Tryz.func136, Tryz.ntmps136
  go_wp2_with fail
  refine (in_yes id 0 1 _ hid).mono ?_
  rintro e w1 ⟨rfl, rfl⟩
  go_wp2_with fail
  refine (in_yes ro 0 1 _ hro).mono ?_
  rintro e w1 ⟨rfl, rfl⟩
  go_wp2_with fail
  refine (in_yes ep 0 1000 _ hep).mono ?_
  rintro e w1 ⟨rfl, rfl⟩
  go_wp2_with fail
  refine (specLFv_b 0 B id false ro ep su ma 0 co A n c V _ bN h hn hm hlg).mono ?_
  rintro e w2 ⟨rfl, hw2⟩
  have b2_b := bN.new hw2
  have c2 := b2_b.cells
  clear cN
  go_wp2_with fail
  have CN := blk_regrown b2_b
  refine wp_region_quiet_below (by kernel_rfl) (by kernel_rfl) ?_
  repeat (go_big_quiet_step ((first | (go_at_call_of 121 (n : Int); (first | (go_at_call_of 121 su; exact calls_regrown_same (in_yes su 0 n _ hsu)) | (go_at_call_of 121 ma; exact calls_regrown_same (in_yes ma 0 n _ hma)) | (go_at_call_of 121 (0 : Int); exact calls_regrown_same (in_yes (0 : Int) 0 n _ hot)))) | exact calls_regrown_same (in_yes co 0 su _ hco))))
  refine wpQuiet_nil ?_
  rintro w3 hn3
  replace hn3 := new_of_regrown hn3
  have b3_b := b2_b.new hn3
  have c3 := b3_b.cells
  have hw3 := hw2.trans hn3
  clear CN c2
  go_wp2
  go_ret
  exact ⟨rfl, hw3⟩

set_option maxHeartbeats 1600000 in
theorem b4_b (B : Nat) (id : Int) (ro ep su ma co : Int) (A : Option Addr) (n c : Nat) (V : List EkV) (w : World) (bN : Blk w B 108 #[vx0, vx1, vx2, vx3, vx4, vx5, vx6, vx7, vx8, .int .i64 id, .bool false, .int .i64 ro, .int .i64 ep, .slice A n c, .int .i64 su, .int .i64 ma, .int .i64 0, .int .i64 co]) (h : LgAt w A V) (hn : V.length = n) (hm : n ≤ 2097152) (hid : 0 ≤ id ∧ id ≤ 1) (hro : 0 ≤ ro ∧ ro ≤ 1) (hep : 0 ≤ ep ∧ ep ≤ 1000) (hlg : lg2 n (lgF ep 0 (V.map EkV.r)) = 0) (hsu : 0 ≤ su ∧ su ≤ n) (hma : 0 ≤ ma ∧ ma ≤ n) (hot : 0 ≤ (0 : Int) ∧ (0 : Int) ≤ n) (hco : 0 ≤ co ∧ co ≤ su) (hr : ¬ ro = 1) (hs : su = n) (hm1 : ¬ ma = 0) :
    Calls Tryz.prog 136 #[.pointer (some ⟨B, 9, none⟩)] w fun e w' => e = .returned (.int .i64 1) ∧ New w w' := by
  have cN := bN.cells
  have gro : (ro == 1) = false := by simp [hr]
  have kro : (ro != 1) = true := by simp [hr]
  have ksu : (su != (n : Int)) = false := by simp [hs]
  clear hs
  have gma : (ma == 0) = false := by simp [hm1]
  have kma : (ma != 0) = true := by simp [hm1]
  go_enter Tryz.func136, Tryz.ntmps136
  go_wp2_with fail
  refine (in_yes id 0 1 _ hid).mono ?_
  rintro e w1 ⟨rfl, rfl⟩
  go_wp2_with fail
  refine (in_yes ro 0 1 _ hro).mono ?_
  rintro e w1 ⟨rfl, rfl⟩
  go_wp2_with fail
  refine (in_yes ep 0 1000 _ hep).mono ?_
  rintro e w1 ⟨rfl, rfl⟩
  go_wp2_with fail
  refine (specLFv_b 0 B id false ro ep su ma 0 co A n c V _ bN h hn hm hlg).mono ?_
  rintro e w2 ⟨rfl, hw2⟩
  have b2_b := bN.new hw2
  have c2 := b2_b.cells
  clear cN
  go_wp2_with fail
  have CN := blk_regrown b2_b
  refine wp_region_quiet_below (by kernel_rfl) (by kernel_rfl) ?_
  repeat (go_big_quiet_step ((first | (go_at_call_of 121 (n : Int); (first | (go_at_call_of 121 su; exact calls_regrown_same (in_yes su 0 n _ hsu)) | (go_at_call_of 121 ma; exact calls_regrown_same (in_yes ma 0 n _ hma)) | (go_at_call_of 121 (0 : Int); exact calls_regrown_same (in_yes (0 : Int) 0 n _ hot)))) | exact calls_regrown_same (in_yes co 0 su _ hco))))
  refine wpQuiet_nil ?_
  rintro w3 hn3
  replace hn3 := new_of_regrown hn3
  have b3_b := b2_b.new hn3
  have c3 := b3_b.cells
  have hw3 := hw2.trans hn3
  clear CN c2
  go_wp2
  go_ret
  exact ⟨rfl, hw3⟩

set_option maxHeartbeats 1600000 in
theorem b5_b (B : Nat) (id : Int) (ro ep su co : Int) (A : Option Addr) (n c : Nat) (V : List EkV) (w : World) (bN : Blk w B 108 #[vx0, vx1, vx2, vx3, vx4, vx5, vx6, vx7, vx8, .int .i64 id, .bool false, .int .i64 ro, .int .i64 ep, .slice A n c, .int .i64 su, .int .i64 0, .int .i64 0, .int .i64 co]) (h : LgAt w A V) (hn : V.length = n) (hm : n ≤ 2097152) (hid : 0 ≤ id ∧ id ≤ 1) (hro : 0 ≤ ro ∧ ro ≤ 1) (hep : 0 ≤ ep ∧ ep ≤ 1000) (hlg : lg2 n (lgF ep 0 (V.map EkV.r)) = 0) (hsu : 0 ≤ su ∧ su ≤ n) (hma : 0 ≤ (0 : Int) ∧ (0 : Int) ≤ n) (hot : 0 ≤ (0 : Int) ∧ (0 : Int) ≤ n) (hco : 0 ≤ co ∧ co ≤ su) (hr : ¬ ro = 1) (hs : su = n) (hc : ¬ co = 0) :
    Calls Tryz.prog 136 #[.pointer (some ⟨B, 9, none⟩)] w fun e w' => e = .returned (.int .i64 1) ∧ New w w' := by
  have cN := bN.cells
  have gro : (ro == 1) = false := by simp [hr]
  have kro : (ro != 1) = true := by simp [hr]
  have ksu : (su != (n : Int)) = false := by simp [hs]
  clear hs
  have gco : (co == 0) = false := by simp [hc]
  have kco : (co != 0) = true := by simp [hc]
  go_enter Tryz.func136, Tryz.ntmps136
  go_wp2_with fail
  refine (in_yes id 0 1 _ hid).mono ?_
  rintro e w1 ⟨rfl, rfl⟩
  go_wp2_with fail
  refine (in_yes ro 0 1 _ hro).mono ?_
  rintro e w1 ⟨rfl, rfl⟩
  go_wp2_with fail
  refine (in_yes ep 0 1000 _ hep).mono ?_
  rintro e w1 ⟨rfl, rfl⟩
  go_wp2_with fail
  refine (specLFv_b 0 B id false ro ep su 0 0 co A n c V _ bN h hn hm hlg).mono ?_
  rintro e w2 ⟨rfl, hw2⟩
  have b2_b := bN.new hw2
  have c2 := b2_b.cells
  clear cN
  go_wp2_with fail
  have CN := blk_regrown b2_b
  refine wp_region_quiet_below (by kernel_rfl) (by kernel_rfl) ?_
  repeat (go_big_quiet_step ((first | (go_at_call_of 121 (n : Int); (first | (go_at_call_of 121 su; exact calls_regrown_same (in_yes su 0 n _ hsu)) | (go_at_call_of 121 (0 : Int); exact calls_regrown_same (in_yes (0 : Int) 0 n _ hma)) | (go_at_call_of 121 (0 : Int); exact calls_regrown_same (in_yes (0 : Int) 0 n _ hot)))) | exact calls_regrown_same (in_yes co 0 su _ hco))))
  refine wpQuiet_nil ?_
  rintro w3 hn3
  replace hn3 := new_of_regrown hn3
  have b3_b := b2_b.new hn3
  have c3 := b3_b.cells
  have hw3 := hw2.trans hn3
  clear CN c2
  go_wp2
  go_ret
  exact ⟨rfl, hw3⟩

set_option maxHeartbeats 1600000 in
theorem b6_b (B : Nat) (id : Int) (ro ep su : Int) (A : Option Addr) (n c : Nat) (V : List EkV) (w : World) (bN : Blk w B 108 #[vx0, vx1, vx2, vx3, vx4, vx5, vx6, vx7, vx8, .int .i64 id, .bool false, .int .i64 ro, .int .i64 ep, .slice A n c, .int .i64 su, .int .i64 0, .int .i64 0, .int .i64 0]) (h : LgAt w A V) (hn : V.length = n) (hm : n ≤ 2097152) (hid : 0 ≤ id ∧ id ≤ 1) (hro : 0 ≤ ro ∧ ro ≤ 1) (hep : 0 ≤ ep ∧ ep ≤ 1000) (hlg : lg2 n (lgF ep 0 (V.map EkV.r)) = 0) (hsu : 0 ≤ su ∧ su ≤ n) (hma : 0 ≤ (0 : Int) ∧ (0 : Int) ≤ n) (hot : 0 ≤ (0 : Int) ∧ (0 : Int) ≤ n) (hco : 0 ≤ (0 : Int) ∧ (0 : Int) ≤ su) (hr : ¬ ro = 1) (hs : su = n) :
    Calls Tryz.prog 136 #[.pointer (some ⟨B, 9, none⟩)] w fun e w' => e = .returned (.int .i64 0) ∧ New w w' := by
  have cN := bN.cells
  have gro : (ro == 1) = false := by simp [hr]
  have kro : (ro != 1) = true := by simp [hr]
  have ksu : (su != (n : Int)) = false := by simp [hs]
  clear hs
  go_enter Tryz.func136, Tryz.ntmps136
  go_wp2_with fail
  refine (in_yes id 0 1 _ hid).mono ?_
  rintro e w1 ⟨rfl, rfl⟩
  go_wp2_with fail
  refine (in_yes ro 0 1 _ hro).mono ?_
  rintro e w1 ⟨rfl, rfl⟩
  go_wp2_with fail
  refine (in_yes ep 0 1000 _ hep).mono ?_
  rintro e w1 ⟨rfl, rfl⟩
  go_wp2_with fail
  refine (specLFv_b 0 B id false ro ep su 0 0 0 A n c V _ bN h hn hm hlg).mono ?_
  rintro e w2 ⟨rfl, hw2⟩
  have b2_b := bN.new hw2
  have c2 := b2_b.cells
  clear cN
  go_wp2_with fail
  have CN := blk_regrown b2_b
  refine wp_region_quiet_below (by kernel_rfl) (by kernel_rfl) ?_
  repeat (go_big_quiet_step ((first | (go_at_call_of 121 (n : Int); (first | (go_at_call_of 121 su; exact calls_regrown_same (in_yes su 0 n _ hsu)) | (go_at_call_of 121 (0 : Int); exact calls_regrown_same (in_yes (0 : Int) 0 n _ hma)) | (go_at_call_of 121 (0 : Int); exact calls_regrown_same (in_yes (0 : Int) 0 n _ hot)))) | exact calls_regrown_same (in_yes (0 : Int) 0 su _ hco))))
  refine wpQuiet_nil ?_
  rintro w3 hn3
  replace hn3 := new_of_regrown hn3
  have b3_b := b2_b.new hn3
  have c3 := b3_b.cells
  have hw3 := hw2.trans hn3
  clear CN c2
  go_wp2
  go_ret
  exact ⟨rfl, hw3⟩

theorem specNFp_b (B : Nat) (id : Int) (up : Bool) (ro ep su ma ot co : Int) (A : Option Addr) (n c : Nat) (V : List EkV) (w : World) (bN : Blk w B 108 #[vx0, vx1, vx2, vx3, vx4, vx5, vx6, vx7, vx8, .int .i64 id, .bool up, .int .i64 ro, .int .i64 ep, .slice A n c, .int .i64 su, .int .i64 ma, .int .i64 ot, .int .i64 co]) (h : LgAt w A V) (hn : V.length = n) (hm : n ≤ 2097152) :
    Calls Tryz.prog 136 #[.pointer (some ⟨B, 9, none⟩)] w fun e w' => e = .returned (.int .i64 (nF id up ro ep su ma ot co n (V.map EkV.r))) ∧ New w w' := by
  unfold nF
  by_cases hid' : id = 0 ∨ id = 1
  case neg => rw [if_pos (fun k => hid' k.1)]; exact sg1_b B id up ro ep su ma ot co A n c V w bN h hn hm (by omega)
  have hid : 0 ≤ id ∧ id ≤ 1 := by omega
  by_cases hro' : ro = 0 ∨ ro = 1
  case neg => rw [if_pos (fun k => hro' k.2.1)]; exact sg2_b B id up ro ep su ma ot co A n c V w bN h hn hm hid (by omega)
  have hro : 0 ≤ ro ∧ ro ≤ 1 := by omega
  by_cases he0 : 0 ≤ ep
  case neg => rw [if_pos (fun k => he0 k.2.2.1)]; exact sg3_b B id up ro ep su ma ot co A n c V w bN h hn hm hid hro (by omega)
  by_cases he1 : ep ≤ 1000
  case neg => rw [if_pos (fun k => he1 k.2.2.2)]; exact sg3_b B id up ro ep su ma ot co A n c V w bN h hn hm hid hro (by omega)
  rw [if_neg (fun k => k ⟨hid', hro', he0, he1⟩)]
  have hep : 0 ≤ ep ∧ ep ≤ 1000 := ⟨he0, he1⟩
  by_cases hn1 : 100 < n
  case pos => rw [if_pos hn1]; exact sg5_b B id up ro ep su ma ot co A n c V w bN h hn hm hid hro hep 2 (by unfold lg2; rw [if_pos hn1]) (by decide)
  rw [if_neg hn1]
  have hl2 : lg2 n (lgF ep 0 (V.map EkV.r)) = lgF ep 0 (V.map EkV.r) := by unfold lg2; rw [if_neg hn1]
  by_cases hlg' : lgF ep 0 (V.map EkV.r) = 0
  case neg => rw [if_pos hlg']; exact sg5_b B id up ro ep su ma ot co A n c V w bN h hn hm hid hro hep _ hl2 hlg'
  rw [if_neg (fun k => k hlg')]
  have hlg := hl2.trans hlg'
  by_cases hsu : 0 ≤ su ∧ su ≤ n
  case neg => rw [if_pos (fun k => hsu k.1)]; exact sg7_b B id up ro ep su ma ot co A n c V w bN h hn hm hid hro hep hlg (by omega)
  by_cases hma : 0 ≤ ma ∧ ma ≤ n
  case neg => rw [if_pos (fun k => hma k.2.1)]; exact sg8_b B id up ro ep su ma ot co A n c V w bN h hn hm hid hro hep hlg hsu (by omega)
  by_cases hot : 0 ≤ ot ∧ ot ≤ n
  case neg => rw [if_pos (fun k => hot k.2.2.1)]; exact sg9_b B id up ro ep su ma ot co A n c V w bN h hn hm hid hro hep hlg hsu hma (by omega)
  by_cases hc0 : 0 ≤ co
  case neg => rw [if_pos (fun k => hc0 k.2.2.2.1)]; exact sg10_b B id up ro ep su ma ot co A n c V w bN h hn hm hid hro hep hlg hsu hma hot (by omega)
  by_cases hc1 : co ≤ su
  case neg => rw [if_pos (fun k => hc1 k.2.2.2.2)]; exact sg10_b B id up ro ep su ma ot co A n c V w bN h hn hm hid hro hep hlg hsu hma hot (by omega)
  rw [if_neg (fun k => k ⟨hsu, hma, hot, hc0, hc1⟩)]
  by_cases hr : ro = 1
  · subst hr
    cases up with
    | false =>
      rw [if_pos (fun k => by have := (k.1 rfl).1; cases this)]
      exact a1_b B id ep su ma ot co A n c V w bN h hn hm hid hro hep hlg hsu hma hot ⟨hc0, hc1⟩
    | true =>
      by_cases he : ep = 0
      · subst he
        rw [if_pos (fun k => by have := (k.1 rfl).2.1; omega)]
        exact a2_b B id su ma ot co A n c V w bN h hn hm hid hro hep hlg hsu hma hot ⟨hc0, hc1⟩
      · by_cases hm1 : ma = 0
        · subst hm1
          rw [if_neg (fun k => k ⟨fun _ => ⟨rfl, by omega, rfl⟩, fun f => absurd rfl f⟩), if_neg (by simp)]
          exact a4_b B id ep su ot co A n c V w bN h hn hm hid hro hep hlg hsu hma hot ⟨hc0, hc1⟩ he
        · rw [if_pos (fun k => hm1 (k.1 rfl).2.2)]
          exact a3_b B id ep su ma ot co A n c V w bN h hn hm hid hro hep hlg hsu hma hot ⟨hc0, hc1⟩ he hm1
  · by_cases ho : ot = 0
    · subst ho
      rw [if_neg (fun k => k ⟨fun f => absurd f hr, fun _ => rfl⟩)]
      cases up with
      | true => rw [if_neg (by simp)]; exact b2_b B id ro ep su ma co A n c V w bN h hn hm hid hro hep hlg hsu hma hot ⟨hc0, hc1⟩ hr
      | false =>
        by_cases hs : su = n
        · by_cases hm1 : ma = 0
          · subst hm1
            by_cases hc : co = 0
            · subst hc
              rw [if_neg (fun k => k.2 ⟨hs, rfl, rfl⟩)]
              exact b6_b B id ro ep su A n c V w bN h hn hm hid hro hep hlg hsu hma hot ⟨hc0, hc1⟩ hr hs
            · rw [if_pos ⟨rfl, fun k => hc k.2.2⟩]
              exact b5_b B id ro ep su co A n c V w bN h hn hm hid hro hep hlg hsu hma hot ⟨hc0, hc1⟩ hr hs hc
          · rw [if_pos ⟨rfl, fun k => hm1 k.2.1⟩]
            exact b4_b B id ro ep su ma co A n c V w bN h hn hm hid hro hep hlg hsu hma hot ⟨hc0, hc1⟩ hr hs hm1
        · rw [if_pos ⟨rfl, fun k => hs k.1⟩]
          exact b3_b B id ro ep su ma co A n c V w bN h hn hm hid hro hep hlg hsu hma hot ⟨hc0, hc1⟩ hr hs
    · rw [if_pos (fun k => ho (k.2 hr))]
      exact b1_b B id up ro ep su ma ot co A n c V w bN h hn hm hid hro hep hlg hsu hma hot ⟨hc0, hc1⟩ hr ho

theorem specNFw_b (v : Int) (B : Nat) (id : Int) (up : Bool) (ro ep su ma ot co : Int) (A : Option Addr) (n c : Nat) (V : List EkV) (w : World) (hb : Blk w B 108 #[vx0, vx1, vx2, vx3, vx4, vx5, vx6, vx7, vx8, .int .i64 id, .bool up, .int .i64 ro, .int .i64 ep, .slice A n c, .int .i64 su, .int .i64 ma, .int .i64 ot, .int .i64 co]) (h : LgAt w A V) (hn : V.length = n) (hm : n ≤ 2097152) (hv : nF id up ro ep su ma ot co n (V.map EkV.r) = v) :
    Calls Tryz.prog 136 #[.pointer (some ⟨B, 9, none⟩)] w fun e w' => e = .returned (.int .i64 v) ∧ New w w' := by
  rw [← hv]; exact specNFp_b B id up ro ep su ma ot co A n c V w hb h hn hm

end Go.Proofs.YtebkdaddndlmoaaGreat
