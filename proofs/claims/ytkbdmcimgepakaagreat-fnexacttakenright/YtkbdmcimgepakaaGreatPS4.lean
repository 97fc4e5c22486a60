/- What is proved here: what the model's judging of a node answers where the node is the second of a row of two, for every log of at most 1048576 entries and bytes. No other condition. What is proved here: what the model's judging of a mail answers where its node is the first of a row of two, for every mail of at most 1048576 bytes. No other condition. What is proved here: what the model's judging of a mail answers where its node is the second of a row of two, for every mail of at most 1048576 bytes. No other condition. What is proved here: what the model's judging of a pair answers, for every pair of at most 1048576 rules, nodes, wires, mails, entries and bytes. What is proved here: what OneActive answers, both sides -/
import Derived.Test.YtkbdmcimgepakaaGreatK12Ng
import Derived.Test.YtkbdmcimgepakaaGreatK12Mg
import Derived.Test.YtkbdmcimgepakaaGreatPS2
import Derived.Test.YtkbdmcimgepakaaGreatPS3
import Derived.Deep.RegionHeld3
namespace Go.Proofs.YtkbdmcimgepakaaGreat
open Go.RowKit Go.Sort
set_option linter.unusedVariables false
set_option linter.unusedSimpArgs false
set_option maxRecDepth 100000
variable {vx0 vx1 vx2 vx3 vx4 vx5 vx6 vx7 vx8 : Value}

set_option maxHeartbeats 3200000 in
theorem specLF_b (B : Nat) (id : Int) (up : Bool) (ro ep su ma ot co : Int) (A : Option Addr) (n c : Nat) (V : List EkV) (w : World) (hb : Blk w B 98 #[vx0, vx1, vx2, vx3, vx4, vx5, vx6, vx7, vx8, .int .i64 id, .bool up, .int .i64 ro, .int .i64 ep, .slice A n c, .int .i64 su, .int .i64 ma, .int .i64 ot, .int .i64 co]) (h : LgAt w A V) (hn : V.length = n) (hm : n ≤ 2097152) :
    Calls Tryz.prog 111 #[.pointer (some ⟨B, 9, none⟩)] w fun e w' => e = .returned (.int .i64 (lg2 n (lgF ep 0 (V.map EkV.r)))) ∧ New w w' := by
  have HN : Hid (V.length = n) := hn
  have cB := hb.cells
  clear hn
  by_cases hbig : 100 < n
  · have HR : Hid ((2 : Int) = lg2 n (lgF ep 0 (V.map EkV.r))) := by unfold Hid lg2; rw [if_pos hbig]
    go_enter Tryz.func111, Tryz.ntmps111
    go_wp2
    go_ret
    exact ⟨ret_i64 HR.out, New.refl _⟩
  have HL2 : lg2 n (lgF ep 0 (V.map EkV.r)) = lgF ep 0 (V.map EkV.r) := by unfold lg2; rw [if_neg hbig]
  rw [HL2]
  clear HL2
  go_enter Tryz.func111, Tryz.ntmps111
  go_wp2
  go_loopw [3] (fun i wr => ∃ (k : Nat) (p : Int), k ≤ n ∧ i = .int .i64 k ∧ New w wr ∧ Hid (k = 0 → p = 0) ∧ Hid (0 < k → ∃ u, V[k - 1]? = some u ∧ p = u.r.ep) ∧ Hid (lgF ep p ((V.map EkV.r).drop k) = lgF ep 0 (V.map EkV.r))) (fun i _ => n - (intOf i).toNat)
  case atStart => exact ⟨0, 0, Nat.zero_le _, rfl, New.refl _, fun _ => rfl, fun h => by omega, by unfold Hid; simp⟩
  case round =>
    obtain ⟨k, p, hk, rfl, hnw, hp0, hp1, hL⟩ := hrel
    have cB := (hb.new hnw).cells
    by_cases hlt : k < n
    · obtain ⟨g, e1, ki, pe, a, m, c1, xs, rfl, hv, hl, hx, hmx, x0, x1, x2, x3⟩ := (h.new hnw).at k (by have := HN.out; omega)
      have HD : Hid (lgF ep 0 (V.map EkV.r) = _) := hL.out.symm.trans (lgF_at hv hl)
      have HV : Hid (V[k]? = some ⟨⟨e1, ki, pe, xs⟩, a, c1⟩) := hv
      have hprev : Hid (0 < k → wr.cell? ⟨g, (k - 1) * 4, none⟩ = some (.int .i64 p)) := by
        intro h0
        obtain ⟨u, hu, rfl⟩ := hp1.out h0
        obtain ⟨⟨g', hg', hc'⟩, -, -⟩ := (h.new hnw) (k - 1) u hu
        cases hg'
        exact hc' 0 (by omega)
      clear hv hl h hL hp1
      go_wp2_with fail
      refine (specEN e1 ki pe a m c1 _ (by omega)).mono ?_
      rintro e w2 ⟨rfl, hn2⟩
      have lB := (hb.new hnw).lt
      have cN := ((hb.new hnw).new hn2).cells
      have hw2 := hnw.trans hn2
      have lg := World.block_lt_of_cell? wr _ x0
      have y0 : w2.cell? ⟨g, k * 4, none⟩ = some (.int .i64 e1) := (hn2.cells _ _ lg).trans x0
      have hprev2 : Hid (0 < k → w2.cell? ⟨g, (k - 1) * 4, none⟩ = some (.int .i64 p)) := fun h0 => (hn2.cells _ _ lg).trans (hprev.out h0)
      have HX : Hid (enF e1 ki pe m = 0 → 1 ≤ e1 ∧ e1 ≤ 1000) := enF_ep
      clear x0 x1 x2 x3 cB hprev
      generalize enF e1 ki pe m = f at *
      by_cases hf : f = 0
      · subst hf
        have hE := HX.out rfl
        by_cases h1 : ep < e1
        · have g1 : decide (ep < e1) = true := decide_eq_true h1
          have HR : Hid (lgF ep 0 (V.map EkV.r) = 1) := by unfold Hid; rw [HD.out]; simp [h1]
          go_wp2
          have Y0 := cell_regrown y0
          have CN := blk_regrown ((hb.new hnw).new hn2)
          refine wp_region_quiet_below (by kernel_rfl) (by kernel_rfl) ?_
          repeat (go_big_quiet_step (fail))
          refine wpQuiet_nil ?_
          rintro w3 hn3
          replace hn3 := new_of_regrown hn3
          go_wp2
          go_ret
          exact ⟨ret_i64 HR.out.symm, hw2.trans hn3⟩
        · have g1 : decide (ep < e1) = false := decide_eq_false h1
          by_cases hk0 : k = 0
          · subst hk0
            obtain rfl := hp0.out rfl
            have y0 : w2.cell? ⟨g, 0, none⟩ = some (.int .i64 e1) := by simpa using y0
            have HR : Hid (lgF ep e1 ((V.map EkV.r).drop (0 + 1)) = lgF ep 0 (V.map EkV.r)) := by unfold Hid; rw [HD.out]; simp [h1]; intro; omega
            go_wp2
            have Y0 := cell_regrown y0
            have CN := blk_regrown ((hb.new hnw).new hn2)
            refine wp_region_quiet_below (by kernel_rfl) (by kernel_rfl) ?_
            repeat (go_big_quiet_step (fail))
            refine wpQuiet_nil ?_
            rintro w3 hn3
            replace hn3 := new_of_regrown hn3
            go_wp2
            go_roundw
            case rel => exact ⟨0 + 1, e1, by omega, by go_num, hw2.trans hn3, fun h => by omega, fun _ => ⟨_, HV.out, rfl⟩, HR⟩
            case measure => simp [intOf]; omega
          · have hkp : 0 < k := by omega
            have hc2 := hprev2.out hkp
            obtain ⟨j, rfl⟩ : ∃ j, k = j + 1 := ⟨k - 1, by omega⟩
            simp only [Nat.add_sub_cancel] at hc2
            clear hkp
            have g2 : decide ((0 : Int) < (j : Int) + 1) = true := decide_eq_true (by omega)
            by_cases h2 : e1 < p
            · have HR : Hid (lgF ep 0 (V.map EkV.r) = 1) := by unfold Hid; rw [HD.out]; simp [h2]
              go_wp2
              have Y0 := cell_regrown y0
              have CN := blk_regrown ((hb.new hnw).new hn2)
              have C2 := cell_regrown hc2
              refine wp_region_quiet_below (by kernel_rfl) (by kernel_rfl) ?_
              repeat (go_big_quiet_step (fail))
              refine wpQuiet_nil ?_
              rintro w3 hn3
              replace hn3 := new_of_regrown hn3
              go_wp2
              go_ret
              exact ⟨ret_i64 HR.out.symm, hw2.trans hn3⟩
            · have HR : Hid (lgF ep e1 ((V.map EkV.r).drop (j + 1 + 1)) = lgF ep 0 (V.map EkV.r)) := by unfold Hid; rw [HD.out]; simp [h1, h2]
              go_wp2
              have Y0 := cell_regrown y0
              have CN := blk_regrown ((hb.new hnw).new hn2)
              have C2 := cell_regrown hc2
              refine wp_region_quiet_below (by kernel_rfl) (by kernel_rfl) ?_
              repeat (go_big_quiet_step (fail))
              refine wpQuiet_nil ?_
              rintro w3 hn3
              replace hn3 := new_of_regrown hn3
              go_wp2
              go_roundw
              case rel => exact ⟨j + 1 + 1, e1, by omega, by go_num, hw2.trans hn3, fun h => by omega, fun _ => ⟨_, HV.out, rfl⟩, HR⟩
              case measure => simp [intOf]; omega
      · have HR : Hid (lgF ep 0 (V.map EkV.r) = f) := by unfold Hid; rw [HD.out]; simp [hf]
        go_wp2
        go_ret
        exact ⟨ret_i64 HR.out.symm, hw2⟩
    · have HR : Hid (0 = lgF ep 0 (V.map EkV.r)) := by unfold Hid; rw [← hL.out, lgF_end ep p (by have := HN.out; omega)]
      go_wp2
      go_ret
      exact ⟨ret_i64 HR.out, hnw⟩

theorem specLFv_b (v : Int) (B : Nat) (id : Int) (up : Bool) (ro ep su ma ot co : Int) (A : Option Addr) (n c : Nat) (V : List EkV) (w : World) (hb : Blk w B 98 #[vx0, vx1, vx2, vx3, vx4, vx5, vx6, vx7, vx8, .int .i64 id, .bool up, .int .i64 ro, .int .i64 ep, .slice A n c, .int .i64 su, .int .i64 ma, .int .i64 ot, .int .i64 co]) (h : LgAt w A V) (hn : V.length = n) (hm : n ≤ 2097152) (hv : lg2 n (lgF ep 0 (V.map EkV.r)) = v) :
    Calls Tryz.prog 111 #[.pointer (some ⟨B, 9, none⟩)] w fun e w' => e = .returned (.int .i64 v) ∧ New w w' := by
  rw [← hv]
  exact specLF_b B id up ro ep su ma ot co A n c V w hb h hn hm

set_option maxHeartbeats 1600000 in
theorem sg1_b (B : Nat) (id : Int) (up : Bool) (ro ep su ma ot co : Int) (A : Option Addr) (n c : Nat) (V : List EkV) (w : World) (bN : Blk w B 98 #[vx0, vx1, vx2, vx3, vx4, vx5, vx6, vx7, vx8, .int .i64 id, .bool up, .int .i64 ro, .int .i64 ep, .slice A n c, .int .i64 su, .int .i64 ma, .int .i64 ot, .int .i64 co]) (h : LgAt w A V) (hn : V.length = n) (hm : n ≤ 2097152) (hid : id < 0 ∨ 1 < id) :
    Calls Tryz.prog 87 #[.pointer (some ⟨B, 9, none⟩)] w fun e w' => e = .returned (.int .i64 3) ∧ New w w' := by
  have cN := bN.cells
  go_enter Tryz.func87, Tryz.ntmps87
  go_wp2_with fail
  refine (in_no id 0 1 _ hid).mono ?_
  rintro e w1 ⟨rfl, rfl⟩
  go_wp2
  go_ret
  exact ⟨rfl, New.refl _⟩

set_option maxHeartbeats 1600000 in
theorem sg2_b (B : Nat) (id : Int) (up : Bool) (ro ep su ma ot co : Int) (A : Option Addr) (n c : Nat) (V : List EkV) (w : World) (bN : Blk w B 98 #[vx0, vx1, vx2, vx3, vx4, vx5, vx6, vx7, vx8, .int .i64 id, .bool up, .int .i64 ro, .int .i64 ep, .slice A n c, .int .i64 su, .int .i64 ma, .int .i64 ot, .int .i64 co]) (h : LgAt w A V) (hn : V.length = n) (hm : n ≤ 2097152) (hid : 0 ≤ id ∧ id ≤ 1) (hro : ro < 0 ∨ 1 < ro) :
    Calls Tryz.prog 87 #[.pointer (some ⟨B, 9, none⟩)] w fun e w' => e = .returned (.int .i64 3) ∧ New w w' := by
  have cN := bN.cells
  go_enter Tryz.func87, Tryz.ntmps87
  go_wp2_with fail
  refine (in_yes id 0 1 _ hid).mono ?_
  rintro e w1 ⟨rfl, rfl⟩
  go_wp2_with fail
  refine (in_no ro 0 1 _ hro).mono ?_
  rintro e w1 ⟨rfl, rfl⟩
  go_wp2
  go_ret
  exact ⟨rfl, New.refl _⟩

set_option maxHeartbeats 1600000 in
theorem sg3_b (B : Nat) (id : Int) (up : Bool) (ro ep su ma ot co : Int) (A : Option Addr) (n c : Nat) (V : List EkV) (w : World) (bN : Blk w B 98 #[vx0, vx1, vx2, vx3, vx4, vx5, vx6, vx7, vx8, .int .i64 id, .bool up, .int .i64 ro, .int .i64 ep, .slice A n c, .int .i64 su, .int .i64 ma, .int .i64 ot, .int .i64 co]) (h : LgAt w A V) (hn : V.length = n) (hm : n ≤ 2097152) (hid : 0 ≤ id ∧ id ≤ 1) (hro : 0 ≤ ro ∧ ro ≤ 1) (hep : ep < 0 ∨ 1000 < ep) :
    Calls Tryz.prog 87 #[.pointer (some ⟨B, 9, none⟩)] w fun e w' => e = .returned (.int .i64 3) ∧ New w w' := by
  have cN := bN.cells
  go_enter Tryz.func87, Tryz.ntmps87
  go_wp2_with fail
  refine (in_yes id 0 1 _ hid).mono ?_
  rintro e w1 ⟨rfl, rfl⟩
  go_wp2_with fail
  refine (in_yes ro 0 1 _ hro).mono ?_
  rintro e w1 ⟨rfl, rfl⟩
  go_wp2_with fail
  refine (in_no ep 0 1000 _ hep).mono ?_
  rintro e w1 ⟨rfl, rfl⟩
  go_wp2
  go_ret
  exact ⟨rfl, New.refl _⟩

set_option maxHeartbeats 1600000 in
theorem sg5_b (B : Nat) (id : Int) (up : Bool) (ro ep su ma ot co : Int) (A : Option Addr) (n c : Nat) (V : List EkV) (w : World) (bN : Blk w B 98 #[vx0, vx1, vx2, vx3, vx4, vx5, vx6, vx7, vx8, .int .i64 id, .bool up, .int .i64 ro, .int .i64 ep, .slice A n c, .int .i64 su, .int .i64 ma, .int .i64 ot, .int .i64 co]) (h : LgAt w A V) (hn : V.length = n) (hm : n ≤ 2097152) (hid : 0 ≤ id ∧ id ≤ 1) (hro : 0 ≤ ro ∧ ro ≤ 1) (hep : 0 ≤ ep ∧ ep ≤ 1000) (f : Int) (hlg : lg2 n (lgF ep 0 (V.map EkV.r)) = f) (hf : ¬ f = 0) :
    Calls Tryz.prog 87 #[.pointer (some ⟨B, 9, none⟩)] w fun e w' => e = .returned (.int .i64 f) ∧ New w w' := by
  have cN := bN.cells
  go_enter Tryz.func87, Tryz.ntmps87
  go_wp2_with fail
  refine (in_yes id 0 1 _ hid).mono ?_
  rintro e w1 ⟨rfl, rfl⟩
  go_wp2_with fail
  refine (in_yes ro 0 1 _ hro).mono ?_
  rintro e w1 ⟨rfl, rfl⟩
  go_wp2_with fail
  refine (in_yes ep 0 1000 _ hep).mono ?_
  rintro e w1 ⟨rfl, rfl⟩
  go_wp2_with fail
  refine (specLFv_b f B id up ro ep su ma ot co A n c V _ bN h hn hm hlg).mono ?_
  rintro e w2 ⟨rfl, hw2⟩
  have b2_b := bN.new hw2
  have c2 := b2_b.cells
  clear cN
  go_wp2
  go_ret
  exact ⟨rfl, hw2⟩

set_option maxHeartbeats 1600000 in
theorem sg7_b (B : Nat) (id : Int) (up : Bool) (ro ep su ma ot co : Int) (A : Option Addr) (n c : Nat) (V : List EkV) (w : World) (bN : Blk w B 98 #[vx0, vx1, vx2, vx3, vx4, vx5, vx6, vx7, vx8, .int .i64 id, .bool up, .int .i64 ro, .int .i64 ep, .slice A n c, .int .i64 su, .int .i64 ma, .int .i64 ot, .int .i64 co]) (h : LgAt w A V) (hn : V.length = n) (hm : n ≤ 2097152) (hid : 0 ≤ id ∧ id ≤ 1) (hro : 0 ≤ ro ∧ ro ≤ 1) (hep : 0 ≤ ep ∧ ep ≤ 1000) (hlg : lg2 n (lgF ep 0 (V.map EkV.r)) = 0) (hsu : su < 0 ∨ (n : Int) < su) :
    Calls Tryz.prog 87 #[.pointer (some ⟨B, 9, none⟩)] w fun e w' => e = .returned (.int .i64 3) ∧ New w w' := by
  have cN := bN.cells
  go_enter Tryz.func87, Tryz.ntmps87
  go_wp2_with fail
  refine (in_yes id 0 1 _ hid).mono ?_
  rintro e w1 ⟨rfl, rfl⟩
  go_wp2_with fail
  refine (in_yes ro 0 1 _ hro).mono ?_
  rintro e w1 ⟨rfl, rfl⟩
  go_wp2_with fail
  refine (in_yes ep 0 1000 _ hep).mono ?_
  rintro e w1 ⟨rfl, rfl⟩
  go_wp2_with fail
  refine (specLFv_b 0 B id up ro ep su ma ot co A n c V _ bN h hn hm hlg).mono ?_
  rintro e w2 ⟨rfl, hw2⟩
  have b2_b := bN.new hw2
  have c2 := b2_b.cells
  clear cN
  go_wp2_with fail
  have CN := blk_regrown b2_b
  refine wp_region_quiet_below (by kernel_rfl) (by kernel_rfl) ?_
  repeat (go_big_quiet_step ((first | (go_at_call_of 88 (n : Int); (first | (go_at_call_of 88 su; exact calls_regrown_same (in_no su 0 n _ hsu)))))))
  refine wpQuiet_nil ?_
  rintro w3 hn3
  replace hn3 := new_of_regrown hn3
  have b3_b := b2_b.new hn3
  have c3 := b3_b.cells
  have hw3 := hw2.trans hn3
  clear CN c2
  go_wp2
  go_ret
  exact ⟨rfl, hw3⟩

set_option maxHeartbeats 1600000 in
theorem sg8_b (B : Nat) (id : Int) (up : Bool) (ro ep su ma ot co : Int) (A : Option Addr) (n c : Nat) (V : List EkV) (w : World) (bN : Blk w B 98 #[vx0, vx1, vx2, vx3, vx4, vx5, vx6, vx7, vx8, .int .i64 id, .bool up, .int .i64 ro, .int .i64 ep, .slice A n c, .int .i64 su, .int .i64 ma, .int .i64 ot, .int .i64 co]) (h : LgAt w A V) (hn : V.length = n) (hm : n ≤ 2097152) (hid : 0 ≤ id ∧ id ≤ 1) (hro : 0 ≤ ro ∧ ro ≤ 1) (hep : 0 ≤ ep ∧ ep ≤ 1000) (hlg : lg2 n (lgF ep 0 (V.map EkV.r)) = 0) (hsu : 0 ≤ su ∧ su ≤ n) (hma : ma < 0 ∨ (n : Int) < ma) :
    Calls Tryz.prog 87 #[.pointer (some ⟨B, 9, none⟩)] w fun e w' => e = .returned (.int .i64 3) ∧ New w w' := by
  have cN := bN.cells
  go_enter Tryz.func87, Tryz.ntmps87
  go_wp2_with fail
  refine (in_yes id 0 1 _ hid).mono ?_
  rintro e w1 ⟨rfl, rfl⟩
  go_wp2_with fail
  refine (in_yes ro 0 1 _ hro).mono ?_
  rintro e w1 ⟨rfl, rfl⟩
  go_wp2_with fail
  refine (in_yes ep 0 1000 _ hep).mono ?_
  rintro e w1 ⟨rfl, rfl⟩
  go_wp2_with fail
  refine (specLFv_b 0 B id up ro ep su ma ot co A n c V _ bN h hn hm hlg).mono ?_
  rintro e w2 ⟨rfl, hw2⟩
  have b2_b := bN.new hw2
  have c2 := b2_b.cells
  clear cN
  go_wp2_with fail
  have CN := blk_regrown b2_b
  refine wp_region_quiet_below (by kernel_rfl) (by kernel_rfl) ?_
  repeat (go_big_quiet_step ((first | (go_at_call_of 88 (n : Int); (first | (go_at_call_of 88 su; exact calls_regrown_same (in_yes su 0 n _ hsu)) | (go_at_call_of 88 ma; exact calls_regrown_same (in_no ma 0 n _ hma)))))))
  refine wpQuiet_nil ?_
  rintro w3 hn3
  replace hn3 := new_of_regrown hn3
  have b3_b := b2_b.new hn3
  have c3 := b3_b.cells
  have hw3 := hw2.trans hn3
  clear CN c2
  go_wp2
  go_ret
  exact ⟨rfl, hw3⟩

set_option maxHeartbeats 1600000 in
theorem sg9_b (B : Nat) (id : Int) (up : Bool) (ro ep su ma ot co : Int) (A : Option Addr) (n c : Nat) (V : List EkV) (w : World) (bN : Blk w B 98 #[vx0, vx1, vx2, vx3, vx4, vx5, vx6, vx7, vx8, .int .i64 id, .bool up, .int .i64 ro, .int .i64 ep, .slice A n c, .int .i64 su, .int .i64 ma, .int .i64 ot, .int .i64 co]) (h : LgAt w A V) (hn : V.length = n) (hm : n ≤ 2097152) (hid : 0 ≤ id ∧ id ≤ 1) (hro : 0 ≤ ro ∧ ro ≤ 1) (hep : 0 ≤ ep ∧ ep ≤ 1000) (hlg : lg2 n (lgF ep 0 (V.map EkV.r)) = 0) (hsu : 0 ≤ su ∧ su ≤ n) (hma : 0 ≤ ma ∧ ma ≤ n) (hot : ot < 0 ∨ (n : Int) < ot) :
    Calls Tryz.prog 87 #[.pointer (some ⟨B, 9, none⟩)] w fun e w' => e = .returned (.int .i64 3) ∧ New w w' := by
  have cN := bN.cells
  go_enter Tryz.func87, Tryz.ntmps87
  go_wp2_with fail
  refine (in_yes id 0 1 _ hid).mono ?_
  rintro e w1 ⟨rfl, rfl⟩
  go_wp2_with fail
  refine (in_yes ro 0 1 _ hro).mono ?_
  rintro e w1 ⟨rfl, rfl⟩
  go_wp2_with fail
  refine (in_yes ep 0 1000 _ hep).mono ?_
  rintro e w1 ⟨rfl, rfl⟩
  go_wp2_with fail
  refine (specLFv_b 0 B id up ro ep su ma ot co A n c V _ bN h hn hm hlg).mono ?_
  rintro e w2 ⟨rfl, hw2⟩
  have b2_b := bN.new hw2
  have c2 := b2_b.cells
  clear cN
  go_wp2_with fail
  have CN := blk_regrown b2_b
  refine wp_region_quiet_below (by kernel_rfl) (by kernel_rfl) ?_
  repeat (go_big_quiet_step ((first | (go_at_call_of 88 (n : Int); (first | (go_at_call_of 88 su; exact calls_regrown_same (in_yes su 0 n _ hsu)) | (go_at_call_of 88 ma; exact calls_regrown_same (in_yes ma 0 n _ hma)) | (go_at_call_of 88 ot; exact calls_regrown_same (in_no ot 0 n _ hot)))))))
  refine wpQuiet_nil ?_
  rintro w3 hn3
  replace hn3 := new_of_regrown hn3
  have b3_b := b2_b.new hn3
  have c3 := b3_b.cells
  have hw3 := hw2.trans hn3
  clear CN c2
  go_wp2
  go_ret
  exact ⟨rfl, hw3⟩

set_option maxHeartbeats 1600000 in
theorem sg10_b (B : Nat) (id : Int) (up : Bool) (ro ep su ma ot co : Int) (A : Option Addr) (n c : Nat) (V : List EkV) (w : World) (bN : Blk w B 98 #[vx0, vx1, vx2, vx3, vx4, vx5, vx6, vx7, vx8, .int .i64 id, .bool up, .int .i64 ro, .int .i64 ep, .slice A n c, .int .i64 su, .int .i64 ma, .int .i64 ot, .int .i64 co]) (h : LgAt w A V) (hn : V.length = n) (hm : n ≤ 2097152) (hid : 0 ≤ id ∧ id ≤ 1) (hro : 0 ≤ ro ∧ ro ≤ 1) (hep : 0 ≤ ep ∧ ep ≤ 1000) (hlg : lg2 n (lgF ep 0 (V.map EkV.r)) = 0) (hsu : 0 ≤ su ∧ su ≤ n) (hma : 0 ≤ ma ∧ ma ≤ n) (hot : 0 ≤ ot ∧ ot ≤ n) (hco : co < 0 ∨ su < co) :
    Calls Tryz.prog 87 #[.pointer (some ⟨B, 9, none⟩)] w fun e w' => e = .returned (.int .i64 3) ∧ New w w' := by
  have cN := bN.cells
  go_enter Tryz.func87, Tryz.ntmps87
  go_wp2_with fail
  refine (in_yes id 0 1 _ hid).mono ?_
  rintro e w1 ⟨rfl, rfl⟩
  go_wp2_with fail
  refine (in_yes ro 0 1 _ hro).mono ?_
  rintro e w1 ⟨rfl, rfl⟩
  go_wp2_with fail
  refine (in_yes ep 0 1000 _ hep).mono ?_
  rintro e w1 ⟨rfl, rfl⟩
  go_wp2_with fail
  refine (specLFv_b 0 B id up ro ep su ma ot co A n c V _ bN h hn hm hlg).mono ?_
  rintro e w2 ⟨rfl, hw2⟩
  have b2_b := bN.new hw2
  have c2 := b2_b.cells
  clear cN
  go_wp2_with fail
  have CN := blk_regrown b2_b
  refine wp_region_quiet_below (by kernel_rfl) (by kernel_rfl) ?_
  repeat (go_big_quiet_step ((first | (go_at_call_of 88 (n : Int); (first | (go_at_call_of 88 su; exact calls_regrown_same (in_yes su 0 n _ hsu)) | (go_at_call_of 88 ma; exact calls_regrown_same (in_yes ma 0 n _ hma)) | (go_at_call_of 88 ot; exact calls_regrown_same (in_yes ot 0 n _ hot)))) | exact calls_regrown_same (in_no co 0 su _ hco))))
  refine wpQuiet_nil ?_
  rintro w3 hn3
  replace hn3 := new_of_regrown hn3
  have b3_b := b2_b.new hn3
  have c3 := b3_b.cells
  have hw3 := hw2.trans hn3
  clear CN c2
  go_wp2
  go_ret
  exact ⟨rfl, hw3⟩

set_option maxHeartbeats 1600000 in
theorem a1_b (B : Nat) (id : Int) (ep su ma ot co : Int) (A : Option Addr) (n c : Nat) (V : List EkV) (w : World) (bN : Blk w B 98 #[vx0, vx1, vx2, vx3, vx4, vx5, vx6, vx7, vx8, .int .i64 id, .bool false, .int .i64 1, .int .i64 ep, .slice A n c, .int .i64 su, .int .i64 ma, .int .i64 ot, .int .i64 co]) (h : LgAt w A V) (hn : V.length = n) (hm : n ≤ 2097152) (hid : 0 ≤ id ∧ id ≤ 1) (hro : 0 ≤ (1 : Int) ∧ (1 : Int) ≤ 1) (hep : 0 ≤ ep ∧ ep ≤ 1000) (hlg : lg2 n (lgF ep 0 (V.map EkV.r)) = 0) (hsu : 0 ≤ su ∧ su ≤ n) (hma : 0 ≤ ma ∧ ma ≤ n) (hot : 0 ≤ ot ∧ ot ≤ n) (hco : 0 ≤ co ∧ co ≤ su) :
    Calls Tryz.prog 87 #[.pointer (some ⟨B, 9, none⟩)] w fun e w' => e = .returned (.int .i64 1) ∧ New w w' := by
  have cN := bN.cells
  go_enter Tryz.func87, Tryz.ntmps87
  go_wp2_with fail
  refine (in_yes id 0 1 _ hid).mono ?_
  rintro e w1 ⟨rfl, rfl⟩
  go_wp2_with fail
  refine (in_yes (1 : Int) 0 1 _ hro).mono ?_
  rintro e w1 ⟨rfl, rfl⟩
  go_wp2_with fail
  refine (in_yes ep 0 1000 _ hep).mono ?_
  rintro e w1 ⟨rfl, rfl⟩
  go_wp2_with fail
  refine (specLFv_b 0 B id false 1 ep su ma ot co A n c V _ bN h hn hm hlg).mono ?_
  rintro e w2 ⟨rfl, hw2⟩
  have b2_b := bN.new hw2
  have c2 := b2_b.cells
  clear cN
  go_wp2_with fail
  have CN := blk_regrown b2_b
  refine wp_region_quiet_below (by kernel_rfl) (by kernel_rfl) ?_
  repeat (go_big_quiet_step ((first | (go_at_call_of 88 (n : Int); (first | (go_at_call_of 88 su; exact calls_regrown_same (in_yes su 0 n _ hsu)) | (go_at_call_of 88 ma; exact calls_regrown_same (in_yes ma 0 n _ hma)) | (go_at_call_of 88 ot; exact calls_regrown_same (in_yes ot 0 n _ hot)))) | exact calls_regrown_same (in_yes co 0 su _ hco))))
  refine wpQuiet_nil ?_
  rintro w3 hn3
  replace hn3 := new_of_regrown hn3
  have b3_b := b2_b.new hn3
  have c3 := b3_b.cells
  have hw3 := hw2.trans hn3
  clear CN c2
  go_wp2
  go_ret
  exact ⟨rfl, hw3⟩

set_option maxHeartbeats 1600000 in
theorem a2_b (B : Nat) (id : Int) (su ma ot co : Int) (A : Option Addr) (n c : Nat) (V : List EkV) (w : World) (bN : Blk w B 98 #[vx0, vx1, vx2, vx3, vx4, vx5, vx6, vx7, vx8, .int .i64 id, .bool true, .int .i64 1, .int .i64 0, .slice A n c, .int .i64 su, .int .i64 ma, .int .i64 ot, .int .i64 co]) (h : LgAt w A V) (hn : V.length = n) (hm : n ≤ 2097152) (hid : 0 ≤ id ∧ id ≤ 1) (hro : 0 ≤ (1 : Int) ∧ (1 : Int) ≤ 1) (hep : 0 ≤ (0 : Int) ∧ (0 : Int) ≤ 1000) (hlg : lg2 n (lgF (0 : Int) 0 (V.map EkV.r)) = 0) (hsu : 0 ≤ su ∧ su ≤ n) (hma : 0 ≤ ma ∧ ma ≤ n) (hot : 0 ≤ ot ∧ ot ≤ n) (hco : 0 ≤ co ∧ co ≤ su) :
    Calls Tryz.prog 87 #[.pointer (some ⟨B, 9, none⟩)] w fun e w' => e = .returned (.int .i64 1) ∧ New w w' := by
  have cN := bN.cells
  go_enter Tryz.func87, Tryz.ntmps87
  go_wp2_with fail
  refine (in_yes id 0 1 _ hid).mono ?_
  rintro e w1 ⟨rfl, rfl⟩
  go_wp2_with fail
  refine (in_yes (1 : Int) 0 1 _ hro).mono ?_
  rintro e w1 ⟨rfl, rfl⟩
  go_wp2_with fail
  refine (in_yes (0 : Int) 0 1000 _ hep).mono ?_
  rintro e w1 ⟨rfl, rfl⟩
  go_wp2_with fail
  refine (specLFv_b 0 B id true 1 0 su ma ot co A n c V _ bN h hn hm hlg).mono ?_
  rintro e w2 ⟨rfl, hw2⟩
  have b2_b := bN.new hw2
  have c2 := b2_b.cells
  clear cN
  go_wp2_with fail
  have CN := blk_regrown b2_b
  refine wp_region_quiet_below (by kernel_rfl) (by kernel_rfl) ?_
  repeat (go_big_quiet_step ((first | (go_at_call_of 88 (n : Int); (first | (go_at_call_of 88 su; exact calls_regrown_same (in_yes su 0 n _ hsu)) | (go_at_call_of 88 ma; exact calls_regrown_same (in_yes ma 0 n _ hma)) | (go_at_call_of 88 ot; exact calls_regrown_same (in_yes ot 0 n _ hot)))) | exact calls_regrown_same (in_yes co 0 su _ hco))))
  refine wpQuiet_nil ?_
  rintro w3 hn3
  replace hn3 := new_of_regrown hn3
  have b3_b := b2_b.new hn3
  have c3 := b3_b.cells
  have hw3 := hw2.trans hn3
  clear CN c2
  go_wp2
  go_ret
  exact ⟨rfl, hw3⟩

set_option maxHeartbeats 1600000 in
theorem a3_b (B : Nat) (id : Int) (ep su ma ot co : Int) (A : Option Addr) (n c : Nat) (V : List EkV) (w : World) (bN : Blk w B 98 #[vx0, vx1, vx2, vx3, vx4, vx5, vx6, vx7, vx8, .int .i64 id, .bool true, .int .i64 1, .int .i64 ep, .slice A n c, .int .i64 su, .int .i64 ma, .int .i64 ot, .int .i64 co]) (h : LgAt w A V) (hn : V.length = n) (hm : n ≤ 2097152) (hid : 0 ≤ id ∧ id ≤ 1) (hro : 0 ≤ (1 : Int) ∧ (1 : Int) ≤ 1) (hep : 0 ≤ ep ∧ ep ≤ 1000) (hlg : lg2 n (lgF ep 0 (V.map EkV.r)) = 0) (hsu : 0 ≤ su ∧ su ≤ n) (hma : 0 ≤ ma ∧ ma ≤ n) (hot : 0 ≤ ot ∧ ot ≤ n) (hco : 0 ≤ co ∧ co ≤ su) (he : ¬ ep = 0) (hm1 : ¬ ma = 0) :
    Calls Tryz.prog 87 #[.pointer (some ⟨B, 9, none⟩)] w fun e w' => e = .returned (.int .i64 1) ∧ New w w' := by
  have cN := bN.cells
  have gep : (ep == 0) = false := by simp [he]
  have kep : (ep != 0) = true := by simp [he]
  have gma : (ma == 0) = false := by simp [hm1]
  have kma : (ma != 0) = true := by simp [hm1]
  go_enter Tryz.func87, Tryz.ntmps87
  go_wp2_with fail
  refine (in_yes id 0 1 _ hid).mono ?_
  rintro e w1 ⟨rfl, rfl⟩
  go_wp2_with fail
  refine (in_yes (1 : Int) 0 1 _ hro).mono ?_
  rintro e w1 ⟨rfl, rfl⟩
  go_wp2_with fail
  refine (in_yes ep 0 1000 _ hep).mono ?_
  rintro e w1 ⟨rfl, rfl⟩
  go_wp2_with fail
  refine (specLFv_b 0 B id true 1 ep su ma ot co A n c V _ bN h hn hm hlg).mono ?_
  rintro e w2 ⟨rfl, hw2⟩
  have b2_b := bN.new hw2
  have c2 := b2_b.cells
  clear cN
  go_wp2_with fail
  have CN := blk_regrown b2_b
  refine wp_region_quiet_below (by kernel_rfl) (by kernel_rfl) ?_
  repeat (go_big_quiet_step ((first | (go_at_call_of 88 (n : Int); (first | (go_at_call_of 88 su; exact calls_regrown_same (in_yes su 0 n _ hsu)) | (go_at_call_of 88 ma; exact calls_regrown_same (in_yes ma 0 n _ hma)) | (go_at_call_of 88 ot; exact calls_regrown_same (in_yes ot 0 n _ hot)))) | exact calls_regrown_same (in_yes co 0 su _ hco))))
  refine wpQuiet_nil ?_
  rintro w3 hn3
  replace hn3 := new_of_regrown hn3
  have b3_b := b2_b.new hn3
  have c3 := b3_b.cells
  have hw3 := hw2.trans hn3
  clear CN c2
  go_wp2
  go_ret
  exact ⟨rfl, hw3⟩

set_option maxHeartbeats 1600000 in
theorem a4_b (B : Nat) (id : Int) (ep su ot co : Int) (A : Option Addr) (n c : Nat) (V : List EkV) (w : World) (bN : Blk w B 98 #[vx0, vx1, vx2, vx3, vx4, vx5, vx6, vx7, vx8, .int .i64 id, .bool true, .int .i64 1, .int .i64 ep, .slice A n c, .int .i64 su, .int .i64 0, .int .i64 ot, .int .i64 co]) (h : LgAt w A V) (hn : V.length = n) (hm : n ≤ 2097152) (hid : 0 ≤ id ∧ id ≤ 1) (hro : 0 ≤ (1 : Int) ∧ (1 : Int) ≤ 1) (hep : 0 ≤ ep ∧ ep ≤ 1000) (hlg : lg2 n (lgF ep 0 (V.map EkV.r)) = 0) (hsu : 0 ≤ su ∧ su ≤ n) (hma : 0 ≤ (0 : Int) ∧ (0 : Int) ≤ n) (hot : 0 ≤ ot ∧ ot ≤ n) (hco : 0 ≤ co ∧ co ≤ su) (he : ¬ ep = 0) :
    Calls Tryz.prog 87 #[.pointer (some ⟨B, 9, none⟩)] w fun e w' => e = .returned (.int .i64 0) ∧ New w w' := by
  have cN := bN.cells
  have gep : (ep == 0) = false := by simp [he]
  have kep : (ep != 0) = true := by simp [he]
  go_enter Tryz.func87, Tryz.ntmps87
  go_wp2_with fail
  refine (in_yes id 0 1 _ hid).mono ?_
  rintro e w1 ⟨rfl, rfl⟩
  go_wp2_with fail
  refine (in_yes (1 : Int) 0 1 _ hro).mono ?_
  rintro e w1 ⟨rfl, rfl⟩
  go_wp2_with fail
  refine (in_yes ep 0 1000 _ hep).mono ?_
  rintro e w1 ⟨rfl, rfl⟩
  go_wp2_with fail
  refine (specLFv_b 0 B id true 1 ep su 0 ot co A n c V _ bN h hn hm hlg).mono ?_
  rintro e w2 ⟨rfl, hw2⟩
  have b2_b := bN.new hw2
  have c2 := b2_b.cells
  clear cN
  go_wp2_with fail
  have CN := blk_regrown b2_b
  refine wp_region_quiet_below (by kernel_rfl) (by kernel_rfl) ?_
  repeat (go_big_quiet_step ((first | (go_at_call_of 88 (n : Int); (first | (go_at_call_of 88 su; exact calls_regrown_same (in_yes su 0 n _ hsu)) | (go_at_call_of 88 ot; exact calls_regrown_same (in_yes ot 0 n _ hot)) | (go_at_call_of 88 (0 : Int); exact calls_regrown_same (in_yes (0 : Int) 0 n _ hma)))) | exact calls_regrown_same (in_yes co 0 su _ hco))))
  refine wpQuiet_nil ?_
  rintro w3 hn3
  replace hn3 := new_of_regrown hn3
  have b3_b := b2_b.new hn3
  have c3 := b3_b.cells
  have hw3 := hw2.trans hn3
  clear CN c2
  go_wp2
  go_ret
  exact ⟨rfl, hw3⟩

set_option maxHeartbeats 1600000 in
theorem b1_b (B : Nat) (id : Int) (up : Bool) (ro ep su ma ot co : Int) (A : Option Addr) (n c : Nat) (V : List EkV) (w : World) (bN : Blk w B 98 #[vx0, vx1, vx2, vx3, vx4, vx5, vx6, vx7, vx8, .int .i64 id, .bool up, .int .i64 ro, .int .i64 ep, .slice A n c, .int .i64 su, .int .i64 ma, .int .i64 ot, .int .i64 co]) (h : LgAt w A V) (hn : V.length = n) (hm : n ≤ 2097152) (hid : 0 ≤ id ∧ id ≤ 1) (hro : 0 ≤ ro ∧ ro ≤ 1) (hep : 0 ≤ ep ∧ ep ≤ 1000) (hlg : lg2 n (lgF ep 0 (V.map EkV.r)) = 0) (hsu : 0 ≤ su ∧ su ≤ n) (hma : 0 ≤ ma ∧ ma ≤ n) (hot : 0 ≤ ot ∧ ot ≤ n) (hco : 0 ≤ co ∧ co ≤ su) (hr : ¬ ro = 1) (ho : ¬ ot = 0) :
    Calls Tryz.prog 87 #[.pointer (some ⟨B, 9, none⟩)] w fun e w' => e = .returned (.int .i64 1) ∧ New w w' := by
  have cN := bN.cells
  have gro : (ro == 1) = false := by simp [hr]
  have kro : (ro != 1) = true := by simp [hr]
  have got : (ot == 0) = false := by simp [ho]
  have kot : (ot != 0) = true := by simp [ho]
  go_enter Tryz.func87, Tryz.ntmps87
  go_wp2_with fail
  refine (in_yes id 0 1 _ hid).mono ?_
  rintro e w1 ⟨rfl, rfl⟩
  go_wp2_with fail
  refine (in_yes ro 0 1 _ hro).mono ?_
  rintro e w1 ⟨rfl, rfl⟩
  go_wp2_with fail
  refine (in_yes ep 0 1000 _ hep).mono ?_
  rintro e w1 ⟨rfl, rfl⟩
  go_wp2_with fail
  refine (specLFv_b 0 B id up ro ep su ma ot co A n c V _ bN h hn hm hlg).mono ?_
  rintro e w2 ⟨rfl, hw2⟩
  have b2_b := bN.new hw2
  have c2 := b2_b.cells
  clear cN
  go_wp2_with fail
  have CN := blk_regrown b2_b
  refine wp_region_quiet_below (by kernel_rfl) (by kernel_rfl) ?_
  repeat (go_big_quiet_step ((first | (go_at_call_of 88 (n : Int); (first | (go_at_call_of 88 su; exact calls_regrown_same (in_yes su 0 n _ hsu)) | (go_at_call_of 88 ma; exact calls_regrown_same (in_yes ma 0 n _ hma)) | (go_at_call_of 88 ot; exact calls_regrown_same (in_yes ot 0 n _ hot)))) | exact calls_regrown_same (in_yes co 0 su _ hco))))
  refine wpQuiet_nil ?_
  rintro w3 hn3
  replace hn3 := new_of_regrown hn3
  have b3_b := b2_b.new hn3
  have c3 := b3_b.cells
  have hw3 := hw2.trans hn3
  clear CN c2
  go_wp2
  go_ret
  exact ⟨rfl, hw3⟩

set_option maxHeartbeats 1600000 in
theorem b2_b (B : Nat) (id : Int) (ro ep su ma co : Int) (A : Option Addr) (n c : Nat) (V : List EkV) (w : World) (bN : Blk w B 98 #[vx0, vx1, vx2, vx3, vx4, vx5, vx6, vx7, vx8, .int .i64 id, .bool true, .int .i64 ro, .int .i64 ep, .slice A n c, .int .i64 su, .int .i64 ma, .int .i64 0, .int .i64 co]) (h : LgAt w A V) (hn : V.length = n) (hm : n ≤ 2097152) (hid : 0 ≤ id ∧ id ≤ 1) (hro : 0 ≤ ro ∧ ro ≤ 1) (hep : 0 ≤ ep ∧ ep ≤ 1000) (hlg : lg2 n (lgF ep 0 (V.map EkV.r)) = 0) (hsu : 0 ≤ su ∧ su ≤ n) (hma : 0 ≤ ma ∧ ma ≤ n) (hot : 0 ≤ (0 : Int) ∧ (0 : Int) ≤ n) (hco : 0 ≤ co ∧ co ≤ su) (hr : ¬ ro = 1) :
    Calls Tryz.prog 87 #[.pointer (some ⟨B, 9, none⟩)] w fun e w' => e = .returned (.int .i64 0) ∧ New w w' := by
  have cN := bN.cells
  have gro : (ro == 1) = false := by simp [hr]
  have kro : (ro != 1) = true := by simp [hr]
  go_enter Tryz.func87, Tryz.ntmps87
  go_wp2_with fail
  refine (in_yes id 0 1 _ hid).mono ?_
  rintro e w1 ⟨rfl, rfl⟩
  go_wp2_with fail
  refine (in_yes ro 0 1 _ hro).mono ?_
  rintro e w1 ⟨rfl, rfl⟩
  go_wp2_with fail
  refine (in_yes ep 0 1000 _ hep).mono ?_
  rintro e w1 ⟨rfl, rfl⟩
  go_wp2_with fail
  refine (specLFv_b 0 B id true ro ep su ma 0 co A n c V _ bN h hn hm hlg).mono ?_
  rintro e w2 ⟨rfl, hw2⟩
  have b2_b := bN.new hw2
  have c2 := b2_b.cells
  clear cN
  go_wp2_with fail
  have CN := blk_regrown b2_b
  refine wp_region_quiet_below (by kernel_rfl) (by kernel_rfl) ?_
  repeat (go_big_quiet_step ((first | (go_at_call_of 88 (n : Int); (first | (go_at_call_of 88 su; exact calls_regrown_same (in_yes su 0 n _ hsu)) | (go_at_call_of 88 ma; exact calls_regrown_same (in_yes ma 0 n _ hma)) | (go_at_call_of 88 (0 : Int); exact calls_regrown_same (in_yes (0 : Int) 0 n _ hot)))) | exact calls_regrown_same (in_yes co 0 su _ hco))))
  refine wpQuiet_nil ?_
  rintro w3 hn3
  replace hn3 := new_of_regrown hn3
  have b3_b := b2_b.new hn3
  have c3 := b3_b.cells
  have hw3 := hw2.trans hn3
  clear CN c2
  go_wp2
  go_ret
  exact ⟨rfl, hw3⟩

set_option maxHeartbeats 1600000 in
theorem b3_b (B : Nat) (id : Int) (ro ep su ma co : Int) (A : Option Addr) (n c : Nat) (V : List EkV) (w : World) (bN : Blk w B 98 #[vx0, vx1, vx2, vx3, vx4, vx5, vx6, vx7, vx8, .int .i64 id, .bool false, .int .i64 ro, .int .i64 ep, .slice A n c, .int .i64 su, .int .i64 ma, .int .i64 0, .int .i64 co]) (h : LgAt w A V) (hn : V.length = n) (hm : n ≤ 2097152) (hid : 0 ≤ id ∧ id ≤ 1) (hro : 0 ≤ ro ∧ ro ≤ 1) (hep : 0 ≤ ep ∧ ep ≤ 1000) (hlg : lg2 n (lgF ep 0 (V.map EkV.r)) = 0) (hsu : 0 ≤ su ∧ su ≤ n) (hma : 0 ≤ ma ∧ ma ≤ n) (hot : 0 ≤ (0 : Int) ∧ (0 : Int) ≤ n) (hco : 0 ≤ co ∧ co ≤ su) (hr : ¬ ro = 1) (hs : ¬ su = n) :
    Calls Tryz.prog 87 #[.pointer (some ⟨B, 9, none⟩)] w fun e w' => e = .returned (.int .i64 1) ∧ New w w' := by
  have cN := bN.cells
  have gro : (ro == 1) = false := by simp [hr]
  have kro : (ro != 1) = true := by simp [hr]
  have gsu : (su == (n : Int)) = false := by simp [hs]
  have ksu : (su != (n : Int)) = true := by simp [hs]
  go_enter Tryz.func87, Tryz.ntmps87
  go_wp2_with fail
  refine (in_yes id 0 1 _ hid).mono ?_
  rintro e w1 ⟨rfl, rfl⟩
  go_wp2_with fail
  refine (in_yes ro 0 1 _ hro).mono ?_
  rintro e w1 ⟨rfl, rfl⟩
  go_wp2_with fail
  refine (in_yes ep 0 1000 _ hep).mono ?_
  rintro e w1 ⟨rfl, rfl⟩
  go_wp2_with fail
  refine (specLFv_b 0 B id false ro ep su ma 0 co A n c V _ bN h hn hm hlg).mono ?_
  rintro e w2 ⟨rfl, hw2⟩
  have b2_b := bN.new hw2
  have c2 := b2_b.cells
  clear cN
  go_wp2_with fail
  have CN := blk_regrown b2_b
  refine wp_region_quiet_below (by kernel_rfl) (by kernel_rfl) ?_
  repeat (go_big_quiet_step ((first | (go_at_call_of 88 (n : Int); (first | (go_at_call_of 88 su; exact calls_regrown_same (in_yes su 0 n _ hsu)) | (go_at_call_of 88 ma; exact calls_regrown_same (in_yes ma 0 n _ hma)) | (go_at_call_of 88 (0 : Int); exact calls_regrown_same (in_yes (0 : Int) 0 n _ hot)))) | exact calls_regrown_same (in_yes co 0 su _ hco))))
  refine wpQuiet_nil ?_
  rintro w3 hn3
  replace hn3 := new_of_regrown hn3
  have b3_b := b2_b.new hn3
  have c3 := b3_b.cells
  have hw3 := hw2.trans hn3
  clear CN c2
  go_wp2
  go_ret
  exact ⟨rfl, hw3⟩

set_option maxHeartbeats 1600000 in
theorem b4_b (B : Nat) (id : Int) (ro ep su ma co : Int) (A : Option Addr) (n c : Nat) (V : List EkV) (w : World) (bN : Blk w B 98 #[vx0, vx1, vx2, vx3, vx4, vx5, vx6, vx7, vx8, .int .i64 id, .bool false, .int .i64 ro, .int .i64 ep, .slice A n c, .int .i64 su, .int .i64 ma, .int .i64 0, .int .i64 co]) (h : LgAt w A V) (hn : V.length = n) (hm : n ≤ 2097152) (hid : 0 ≤ id ∧ id ≤ 1) (hro : 0 ≤ ro ∧ ro ≤ 1) (hep : 0 ≤ ep ∧ ep ≤ 1000) (hlg : lg2 n (lgF ep 0 (V.map EkV.r)) = 0) (hsu : 0 ≤ su ∧ su ≤ n) (hma : 0 ≤ ma ∧ ma ≤ n) (hot : 0 ≤ (0 : Int) ∧ (0 : Int) ≤ n) (hco : 0 ≤ co ∧ co ≤ su) (hr : ¬ ro = 1) (hs : su = n) (hm1 : ¬ ma = 0) :
    Calls Tryz.prog 87 #[.pointer (some ⟨B, 9, none⟩)] w fun e w' => e = .returned (.int .i64 1) ∧ New w w' := by
  have cN := bN.cells
  have gro : (ro == 1) = false := by simp [hr]
  have kro : (ro != 1) = true := by simp [hr]
  have ksu : (su != (n : Int)) = false := by simp [hs]
  clear hs
  have gma : (ma == 0) = false := by simp [hm1]
  have kma : (ma != 0) = true := by simp [hm1]
  go_enter Tryz.func87, Tryz.ntmps87
  go_wp2_with fail
  refine (in_yes id 0 1 _ hid).mono ?_
  rintro e w1 ⟨rfl, rfl⟩
  go_wp2_with fail
  refine (in_yes ro 0 1 _ hro).mono ?_
  rintro e w1 ⟨rfl, rfl⟩
  go_wp2_with fail
  refine (in_yes ep 0 1000 _ hep).mono ?_
  rintro e w1 ⟨rfl, rfl⟩
  go_wp2_with fail
  refine (specLFv_b 0 B id false ro ep su ma 0 co A n c V _ bN h hn hm hlg).mono ?_
  rintro e w2 ⟨rfl, hw2⟩
  have b2_b := bN.new hw2
  have c2 := b2_b.cells
  clear cN
  go_wp2_with fail
  have CN := blk_regrown b2_b
  refine wp_region_quiet_below (by kernel_rfl) (by kernel_rfl) ?_
  repeat (go_big_quiet_step ((first | (go_at_call_of 88 (n : Int); (first | (go_at_call_of 88 su; exact calls_regrown_same (in_yes su 0 n _ hsu)) | (go_at_call_of 88 ma; exact calls_regrown_same (in_yes ma 0 n _ hma)) | (go_at_call_of 88 (0 : Int); exact calls_regrown_same (in_yes (0 : Int) 0 n _ hot)))) | exact calls_regrown_same (in_yes co 0 su _ hco))))
  refine wpQuiet_nil ?_
  rintro w3 hn3
  replace hn3 := new_of_regrown hn3
  have b3_b := b2_b.new hn3
  have c3 := b3_b.cells
  have hw3 := hw2.trans hn3
  clear CN c2
  go_wp2
  go_ret
  exact ⟨rfl, hw3⟩

set_option maxHeartbeats 1600000 in
theorem b5_b (B : Nat) (id : Int) (ro ep su co : Int) (A : Option Addr) (n c : Nat) (V : List EkV) (w : World) (bN : Blk w B 98 #[vx0, vx1, vx2, vx3, vx4, vx5, vx6, vx7, vx8, .int .i64 id, .bool false, .int .i64 ro, .int .i64 ep, .slice A n c, .int .i64 su, .int .i64 0, .int .i64 0, .int .i64 co]) (h : LgAt w A V) (hn : V.length = n) (hm : n ≤ 2097152) (hid : 0 ≤ id ∧ id ≤ 1) (hro : 0 ≤ ro ∧ ro ≤ 1) (hep : 0 ≤ ep ∧ ep ≤ 1000) (hlg : lg2 n (lgF ep 0 (V.map EkV.r)) = 0) (hsu : 0 ≤ su ∧ su ≤ n) (hma : 0 ≤ (0 : Int) ∧ (0 : Int) ≤ n) (hot : 0 ≤ (0 : Int) ∧ (0 : Int) ≤ n) (hco : 0 ≤ co ∧ co ≤ su) (hr : ¬ ro = 1) (hs : su = n) (hc : ¬ co = 0) :
    Calls Tryz.prog 87 #[.pointer (some ⟨B, 9, none⟩)] w fun e w' => e = .returned (.int .i64 1) ∧ New w w' := by
  have cN := bN.cells
  have gro : (ro == 1) = false := by simp [hr]
  have kro : (ro != 1) = true := by simp [hr]
  have ksu : (su != (n : Int)) = false := by simp [hs]
  clear hs
  have gco : (co == 0) = false := by simp [hc]
  have kco : (co != 0) = true := by simp [hc]
  go_enter Tryz.func87, Tryz.ntmps87
  go_wp2_with fail
  refine (in_yes id 0 1 _ hid).mono ?_
  rintro e w1 ⟨rfl, rfl⟩
  go_wp2_with fail
  refine (in_yes ro 0 1 _ hro).mono ?_
  rintro e w1 ⟨rfl, rfl⟩
  go_wp2_with fail
  refine (in_yes ep 0 1000 _ hep).mono ?_
  rintro e w1 ⟨rfl, rfl⟩
  go_wp2_with fail
  refine (specLFv_b 0 B id false ro ep su 0 0 co A n c V _ bN h hn hm hlg).mono ?_
  rintro e w2 ⟨rfl, hw2⟩
  have b2_b := bN.new hw2
  have c2 := b2_b.cells
  clear cN
  go_wp2_with fail
  have CN := blk_regrown b2_b
  refine wp_region_quiet_below (by kernel_rfl) (by kernel_rfl) ?_
  repeat (go_big_quiet_step ((first | (go_at_call_of 88 (n : Int); (first | (go_at_call_of 88 su; exact calls_regrown_same (in_yes su 0 n _ hsu)) | (go_at_call_of 88 (0 : Int); exact calls_regrown_same (in_yes (0 : Int) 0 n _ hma)) | (go_at_call_of 88 (0 : Int); exact calls_regrown_same (in_yes (0 : Int) 0 n _ hot)))) | exact calls_regrown_same (in_yes co 0 su _ hco))))
  refine wpQuiet_nil ?_
  rintro w3 hn3
  replace hn3 := new_of_regrown hn3
  have b3_b := b2_b.new hn3
  have c3 := b3_b.cells
  have hw3 := hw2.trans hn3
  clear CN c2
  go_wp2
  go_ret
  exact ⟨rfl, hw3⟩

set_option maxHeartbeats 1600000 in
theorem b6_b (B : Nat) (id : Int) (ro ep su : Int) (A : Option Addr) (n c : Nat) (V : List EkV) (w : World) (bN : Blk w B 98 #[vx0, vx1, vx2, vx3, vx4, vx5, vx6, vx7, vx8, .int .i64 id, .bool false, .int .i64 ro, .int .i64 ep, .slice A n c, .int .i64 su, .int .i64 0, .int .i64 0, .int .i64 0]) (h : LgAt w A V) (hn : V.length = n) (hm : n ≤ 2097152) (hid : 0 ≤ id ∧ id ≤ 1) (hro : 0 ≤ ro ∧ ro ≤ 1) (hep : 0 ≤ ep ∧ ep ≤ 1000) (hlg : lg2 n (lgF ep 0 (V.map EkV.r)) = 0) (hsu : 0 ≤ su ∧ su ≤ n) (hma : 0 ≤ (0 : Int) ∧ (0 : Int) ≤ n) (hot : 0 ≤ (0 : Int) ∧ (0 : Int) ≤ n) (hco : 0 ≤ (0 : Int) ∧ (0 : Int) ≤ su) (hr : ¬ ro = 1) (hs : su = n) :
    Calls Tryz.prog 87 #[.pointer (some ⟨B, 9, none⟩)] w fun e w' => e = .returned (.int .i64 0) ∧ New w w' := by
  have cN := bN.cells
  have gro : (ro == 1) = false := by simp [hr]
  have kro : (ro != 1) = true := by simp [hr]
  have ksu : (su != (n : Int)) = false := by simp [hs]
  clear hs
  go_enter Tryz.func87, Tryz.ntmps87
  go_wp2_with fail
  refine (in_yes id 0 1 _ hid).mono ?_
  rintro e w1 ⟨rfl, rfl⟩
  go_wp2_with fail
  refine (in_yes ro 0 1 _ hro).mono ?_
  rintro e w1 ⟨rfl, rfl⟩
  go_wp2_with fail
  refine (in_yes ep 0 1000 _ hep).mono ?_
  rintro e w1 ⟨rfl, rfl⟩
  go_wp2_with fail
  refine (specLFv_b 0 B id false ro ep su 0 0 0 A n c V _ bN h hn hm hlg).mono ?_
  rintro e w2 ⟨rfl, hw2⟩
  have b2_b := bN.new hw2
  have c2 := b2_b.cells
  clear cN
  go_wp2_with fail
  have CN := blk_regrown b2_b
  refine wp_region_quiet_below (by kernel_rfl) (by kernel_rfl) ?_
  repeat (go_big_quiet_step ((first | (go_at_call_of 88 (n : Int); (first | (go_at_call_of 88 su; exact calls_regrown_same (in_yes su 0 n _ hsu)) | (go_at_call_of 88 (0 : Int); exact calls_regrown_same (in_yes (0 : Int) 0 n _ hma)) | (go_at_call_of 88 (0 : Int); exact calls_regrown_same (in_yes (0 : Int) 0 n _ hot)))) | exact calls_regrown_same (in_yes (0 : Int) 0 su _ hco))))
  refine wpQuiet_nil ?_
  rintro w3 hn3
  replace hn3 := new_of_regrown hn3
  have b3_b := b2_b.new hn3
  have c3 := b3_b.cells
  have hw3 := hw2.trans hn3
  clear CN c2
  go_wp2
  go_ret
  exact ⟨rfl, hw3⟩

theorem specNFp_b (B : Nat) (id : Int) (up : Bool) (ro ep su ma ot co : Int) (A : Option Addr) (n c : Nat) (V : List EkV) (w : World) (bN : Blk w B 98 #[vx0, vx1, vx2, vx3, vx4, vx5, vx6, vx7, vx8, .int .i64 id, .bool up, .int .i64 ro, .int .i64 ep, .slice A n c, .int .i64 su, .int .i64 ma, .int .i64 ot, .int .i64 co]) (h : LgAt w A V) (hn : V.length = n) (hm : n ≤ 2097152) :
    Calls Tryz.prog 87 #[.pointer (some ⟨B, 9, none⟩)] w fun e w' => e = .returned (.int .i64 (nF id up ro ep su ma ot co n (V.map EkV.r))) ∧ New w w' := by
  unfold nF
  by_cases hid' : id = 0 ∨ id = 1
  case neg => rw [if_pos (fun k => hid' k.1)]; exact sg1_b B id up ro ep su ma ot co A n c V w bN h hn hm (by omega)
  have hid : 0 ≤ id ∧ id ≤ 1 := by omega
  by_cases hro' : ro = 0 ∨ ro = 1
  case neg => rw [if_pos (fun k => hro' k.2.1)]; exact sg2_b B id up ro ep su ma ot co A n c V w bN h hn hm hid (by omega)
  have hro : 0 ≤ ro ∧ ro ≤ 1 := by omega
  by_cases he0 : 0 ≤ ep
  case neg => rw [if_pos (fun k => he0 k.2.2.1)]; exact sg3_b B id up ro ep su ma ot co A n c V w bN h hn hm hid hro (by omega)
  by_cases he1 : ep ≤ 1000
  case neg => rw [if_pos (fun k => he1 k.2.2.2)]; exact sg3_b B id up ro ep su ma ot co A n c V w bN h hn hm hid hro (by omega)
  rw [if_neg (fun k => k ⟨hid', hro', he0, he1⟩)]
  have hep : 0 ≤ ep ∧ ep ≤ 1000 := ⟨he0, he1⟩
  by_cases hn1 : 100 < n
  case pos => rw [if_pos hn1]; exact sg5_b B id up ro ep su ma ot co A n c V w bN h hn hm hid hro hep 2 (by unfold lg2; rw [if_pos hn1]) (by decide)
  rw [if_neg hn1]
  have hl2 : lg2 n (lgF ep 0 (V.map EkV.r)) = lgF ep 0 (V.map EkV.r) := by unfold lg2; rw [if_neg hn1]
  by_cases hlg' : lgF ep 0 (V.map EkV.r) = 0
  case neg => rw [if_pos hlg']; exact sg5_b B id up ro ep su ma ot co A n c V w bN h hn hm hid hro hep _ hl2 hlg'
  rw [if_neg (fun k => k hlg')]
  have hlg := hl2.trans hlg'
  by_cases hsu : 0 ≤ su ∧ su ≤ n
  case neg => rw [if_pos (fun k => hsu k.1)]; exact sg7_b B id up ro ep su ma ot co A n c V w bN h hn hm hid hro hep hlg (by omega)
  by_cases hma : 0 ≤ ma ∧ ma ≤ n
  case neg => rw [if_pos (fun k => hma k.2.1)]; exact sg8_b B id up ro ep su ma ot co A n c V w bN h hn hm hid hro hep hlg hsu (by omega)
  by_cases hot : 0 ≤ ot ∧ ot ≤ n
  case neg => rw [if_pos (fun k => hot k.2.2.1)]; exact sg9_b B id up ro ep su ma ot co A n c V w bN h hn hm hid hro hep hlg hsu hma (by omega)
  by_cases hc0 : 0 ≤ co
  case neg => rw [if_pos (fun k => hc0 k.2.2.2.1)]; exact sg10_b B id up ro ep su ma ot co A n c V w bN h hn hm hid hro hep hlg hsu hma hot (by omega)
  by_cases hc1 : co ≤ su
  case neg => rw [if_pos (fun k => hc1 k.2.2.2.2)]; exact sg10_b B id up ro ep su ma ot co A n c V w bN h hn hm hid hro hep hlg hsu hma hot (by omega)
  rw [if_neg (fun k => k ⟨hsu, hma, hot, hc0, hc1⟩)]
  by_cases hr : ro = 1
  · subst hr
    cases up with
    | false =>
      rw [if_pos (fun k => by have := (k.1 rfl).1; cases this)]
      exact a1_b B id ep su ma ot co A n c V w bN h hn hm hid hro hep hlg hsu hma hot ⟨hc0, hc1⟩
    | true =>
      by_cases he : ep = 0
      · subst he
        rw [if_pos (fun k => by have := (k.1 rfl).2.1; omega)]
        exact a2_b B id su ma ot co A n c V w bN h hn hm hid hro hep hlg hsu hma hot ⟨hc0, hc1⟩
      · by_cases hm1 : ma = 0
        · subst hm1
          rw [if_neg (fun k => k ⟨fun _ => ⟨rfl, by omega, rfl⟩, fun f => absurd rfl f⟩), if_neg (by simp)]
          exact a4_b B id ep su ot co A n c V w bN h hn hm hid hro hep hlg hsu hma hot ⟨hc0, hc1⟩ he
        · rw [if_pos (fun k => hm1 (k.1 rfl).2.2)]
          exact a3_b B id ep su ma ot co A n c V w bN h hn hm hid hro hep hlg hsu hma hot ⟨hc0, hc1⟩ he hm1
  · by_cases ho : ot = 0
    · subst ho
      rw [if_neg (fun k => k ⟨fun f => absurd f hr, fun _ => rfl⟩)]
      cases up with
      | true => rw [if_neg (by simp)]; exact b2_b B id ro ep su ma co A n c V w bN h hn hm hid hro hep hlg hsu hma hot ⟨hc0, hc1⟩ hr
      | false =>
        by_cases hs : su = n
        · by_cases hm1 : ma = 0
          · subst hm1
            by_cases hc : co = 0
            · subst hc
              rw [if_neg (fun k => k.2 ⟨hs, rfl, rfl⟩)]
              exact b6_b B id ro ep su A n c V w bN h hn hm hid hro hep hlg hsu hma hot ⟨hc0, hc1⟩ hr hs
            · rw [if_pos ⟨rfl, fun k => hc k.2.2⟩]
              exact b5_b B id ro ep su co A n c V w bN h hn hm hid hro hep hlg hsu hma hot ⟨hc0, hc1⟩ hr hs hc
          · rw [if_pos ⟨rfl, fun k => hm1 k.2.1⟩]
            exact b4_b B id ro ep su ma co A n c V w bN h hn hm hid hro hep hlg hsu hma hot ⟨hc0, hc1⟩ hr hs hm1
        · rw [if_pos ⟨rfl, fun k => hs k.1⟩]
          exact b3_b B id ro ep su ma co A n c V w bN h hn hm hid hro hep hlg hsu hma hot ⟨hc0, hc1⟩ hr hs
    · rw [if_pos (fun k => ho (k.2 hr))]
      exact b1_b B id up ro ep su ma ot co A n c V w bN h hn hm hid hro hep hlg hsu hma hot ⟨hc0, hc1⟩ hr ho

theorem specNFw_b (v : Int) (B : Nat) (id : Int) (up : Bool) (ro ep su ma ot co : Int) (A : Option Addr) (n c : Nat) (V : List EkV) (w : World) (hb : Blk w B 98 #[vx0, vx1, vx2, vx3, vx4, vx5, vx6, vx7, vx8, .int .i64 id, .bool up, .int .i64 ro, .int .i64 ep, .slice A n c, .int .i64 su, .int .i64 ma, .int .i64 ot, .int .i64 co]) (h : LgAt w A V) (hn : V.length = n) (hm : n ≤ 2097152) (hv : nF id up ro ep su ma ot co n (V.map EkV.r) = v) :
    Calls Tryz.prog 87 #[.pointer (some ⟨B, 9, none⟩)] w fun e w' => e = .returned (.int .i64 v) ∧ New w w' := by
  rw [← hv]; exact specNFp_b B id up ro ep su ma ot co A n c V w hb h hn hm

end Go.Proofs.YtkbdmcimgepakaaGreat

namespace Go.Proofs.YtkbdmcimgepakaaGreat
open Go.RowKit Go.Sort
set_option linter.unusedVariables false
set_option linter.unusedSimpArgs false
set_option maxRecDepth 100000
variable {vx0 vx1 vx2 vx3 vx4 vx5 vx6 vx7 vx8 : Value}

set_option maxHeartbeats 1600000 in
theorem lm1_a (B : Nat) (id : Int) (up : Bool) (ro ep su ma ot co : Int) (A : Option Addr) (n c : Nat) (kd tgt me at1 pr : Int) (has : Bool) (ee ki pe : Int) (a : Option Addr) (m c1 : Nat) (w : World) (hb : Blk w B 98 #[.int .i64 id, .bool up, .int .i64 ro, .int .i64 ep, .slice A n c, .int .i64 su, .int .i64 ma, .int .i64 ot, .int .i64 co, vx0, vx1, vx2, vx3, vx4, vx5, vx6, vx7, vx8]) (hm : m ≤ 1048576) (hk : kd < 1 ∨ 2 < kd) :
    Calls Tryz.prog 89 #[.pointer (some ⟨B, 0, none⟩), .agg #[.int .i64 kd, .int .i64 tgt, .int .i64 me, .int .i64 at1, .int .i64 pr, .bool has, .int .i64 ee, .int .i64 ki, .int .i64 pe, .slice a m c1]] w fun e w' => e = .returned (.int .i64 1) ∧ New w w' := by
  have hw := (New.refl w).alloc (.cells #[.int .i64 kd, .int .i64 tgt, .int .i64 me, .int .i64 at1, .int .i64 pr, .bool has, .int .i64 ee, .int .i64 ki, .int .i64 pe, .slice a m c1] 105)
  have b0 := hb.new hw
  have b1 := Blk.mk w w.heap.size 105 #[.int .i64 kd, .int .i64 tgt, .int .i64 me, .int .i64 at1, .int .i64 pr, .bool has, .int .i64 ee, .int .i64 ki, .int .i64 pe, .slice a m c1] rfl
  go_enter Tryz.func89, Tryz.ntmps89
  go_upto_region 1 with fail
  generalize w.alloc (.cells #[.int .i64 kd, .int .i64 tgt, .int .i64 me, .int .i64 at1, .int .i64 pr, .bool has, .int .i64 ee, .int .i64 ki, .int .i64 pe, .slice a m c1] 105) = w0 at *
  have C0 := blk_regrown b0
  have C1 := blk_regrown b1
  refine wp_region_quiet_below (by kernel_rfl) (by kernel_rfl) ?_
  repeat (go_big_quiet_step ((go_at_call 88; exact calls_regrown_same (in_no kd 1 2 _ hk))))
  refine wpQuiet_nil ?_
  rintro w2 hn2
  replace hn2 := new_of_regrown hn2
  have hw2 := hw.trans hn2
  have b2 := b1.new hn2
  have c2 := b2.cells
  clear C0 C1
  go_wp2
  go_ret
  exact ⟨rfl, hw2⟩

set_option maxHeartbeats 1600000 in
theorem lm2_a (B : Nat) (id : Int) (up : Bool) (ro ep su ma ot co : Int) (A : Option Addr) (n c : Nat) (kd tgt me at1 pr : Int) (has : Bool) (ee ki pe : Int) (a : Option Addr) (m c1 : Nat) (w : World) (hb : Blk w B 98 #[.int .i64 id, .bool up, .int .i64 ro, .int .i64 ep, .slice A n c, .int .i64 su, .int .i64 ma, .int .i64 ot, .int .i64 co, vx0, vx1, vx2, vx3, vx4, vx5, vx6, vx7, vx8]) (hm : m ≤ 1048576) (hk : 1 ≤ kd ∧ kd ≤ 2) (ht : ¬ tgt = id) :
    Calls Tryz.prog 89 #[.pointer (some ⟨B, 0, none⟩), .agg #[.int .i64 kd, .int .i64 tgt, .int .i64 me, .int .i64 at1, .int .i64 pr, .bool has, .int .i64 ee, .int .i64 ki, .int .i64 pe, .slice a m c1]] w fun e w' => e = .returned (.int .i64 1) ∧ New w w' := by
  have hw := (New.refl w).alloc (.cells #[.int .i64 kd, .int .i64 tgt, .int .i64 me, .int .i64 at1, .int .i64 pr, .bool has, .int .i64 ee, .int .i64 ki, .int .i64 pe, .slice a m c1] 105)
  have b0 := hb.new hw
  have b1 := Blk.mk w w.heap.size 105 #[.int .i64 kd, .int .i64 tgt, .int .i64 me, .int .i64 at1, .int .i64 pr, .bool has, .int .i64 ee, .int .i64 ki, .int .i64 pe, .slice a m c1] rfl
  have kt : (tgt != id) = true := by simp [ht]
  go_enter Tryz.func89, Tryz.ntmps89
  go_upto_region 1 with fail
  generalize w.alloc (.cells #[.int .i64 kd, .int .i64 tgt, .int .i64 me, .int .i64 at1, .int .i64 pr, .bool has, .int .i64 ee, .int .i64 ki, .int .i64 pe, .slice a m c1] 105) = w0 at *
  have C0 := blk_regrown b0
  have C1 := blk_regrown b1
  refine wp_region_quiet_below (by kernel_rfl) (by kernel_rfl) ?_
  repeat (go_big_quiet_step ((go_at_call 88; exact calls_regrown_same (in_yes kd 1 2 _ hk))))
  refine wpQuiet_nil ?_
  rintro w2 hn2
  replace hn2 := new_of_regrown hn2
  have hw2 := hw.trans hn2
  have b2 := b1.new hn2
  have c2 := b2.cells
  clear C0 C1
  go_wp2
  go_ret
  exact ⟨rfl, hw2⟩

set_option maxHeartbeats 1600000 in
theorem lm3_a (B : Nat) (id : Int) (up : Bool) (ro ep su ma ot co : Int) (A : Option Addr) (n c : Nat) (kd me at1 pr : Int) (has : Bool) (ee ki pe : Int) (a : Option Addr) (m c1 : Nat) (w : World) (hb : Blk w B 98 #[.int .i64 id, .bool up, .int .i64 ro, .int .i64 ep, .slice A n c, .int .i64 su, .int .i64 ma, .int .i64 ot, .int .i64 co, vx0, vx1, vx2, vx3, vx4, vx5, vx6, vx7, vx8]) (hm : m ≤ 1048576) (hk : 1 ≤ kd ∧ kd ≤ 2) (hme : me < 1 ∨ 1000 < me) :
    Calls Tryz.prog 89 #[.pointer (some ⟨B, 0, none⟩), .agg #[.int .i64 kd, .int .i64 id, .int .i64 me, .int .i64 at1, .int .i64 pr, .bool has, .int .i64 ee, .int .i64 ki, .int .i64 pe, .slice a m c1]] w fun e w' => e = .returned (.int .i64 3) ∧ New w w' := by
  have hw := (New.refl w).alloc (.cells #[.int .i64 kd, .int .i64 id, .int .i64 me, .int .i64 at1, .int .i64 pr, .bool has, .int .i64 ee, .int .i64 ki, .int .i64 pe, .slice a m c1] 105)
  have b0 := hb.new hw
  have b1 := Blk.mk w w.heap.size 105 #[.int .i64 kd, .int .i64 id, .int .i64 me, .int .i64 at1, .int .i64 pr, .bool has, .int .i64 ee, .int .i64 ki, .int .i64 pe, .slice a m c1] rfl
  have kt : (id != id) = false := by simp
  go_enter Tryz.func89, Tryz.ntmps89
  go_upto_region 1 with fail
  generalize w.alloc (.cells #[.int .i64 kd, .int .i64 id, .int .i64 me, .int .i64 at1, .int .i64 pr, .bool has, .int .i64 ee, .int .i64 ki, .int .i64 pe, .slice a m c1] 105) = w0 at *
  have C0 := blk_regrown b0
  have C1 := blk_regrown b1
  refine wp_region_quiet_below (by kernel_rfl) (by kernel_rfl) ?_
  repeat (go_big_quiet_step ((go_at_call 88; exact calls_regrown_same (in_yes kd 1 2 _ hk))))
  refine wpQuiet_nil ?_
  rintro w2 hn2
  replace hn2 := new_of_regrown hn2
  have hw2 := hw.trans hn2
  have b2 := b1.new hn2
  have c2 := b2.cells
  clear C0 C1
  go_wp2_with fail
  refine (sepoch_no me _ hme).mono ?_
  rintro e wz ⟨rfl, hwz⟩
  obtain rfl := hwz.symm
  go_wp2
  go_ret
  exact ⟨rfl, hw2⟩

set_option maxHeartbeats 1600000 in
theorem lm4_a (B : Nat) (id : Int) (up : Bool) (ro ep su ma ot co : Int) (A : Option Addr) (n c : Nat) (kd me at1 pr : Int) (has : Bool) (ee ki pe : Int) (a : Option Addr) (m c1 : Nat) (w : World) (hb : Blk w B 98 #[.int .i64 id, .bool up, .int .i64 ro, .int .i64 ep, .slice A n c, .int .i64 su, .int .i64 ma, .int .i64 ot, .int .i64 co, vx0, vx1, vx2, vx3, vx4, vx5, vx6, vx7, vx8]) (hm : m ≤ 1048576) (hk : 1 ≤ kd ∧ kd ≤ 2) (hme : 1 ≤ me ∧ me ≤ 1000) (hat : at1 < 0 ∨ 100 < at1) :
    Calls Tryz.prog 89 #[.pointer (some ⟨B, 0, none⟩), .agg #[.int .i64 kd, .int .i64 id, .int .i64 me, .int .i64 at1, .int .i64 pr, .bool has, .int .i64 ee, .int .i64 ki, .int .i64 pe, .slice a m c1]] w fun e w' => e = .returned (.int .i64 3) ∧ New w w' := by
  have hw := (New.refl w).alloc (.cells #[.int .i64 kd, .int .i64 id, .int .i64 me, .int .i64 at1, .int .i64 pr, .bool has, .int .i64 ee, .int .i64 ki, .int .i64 pe, .slice a m c1] 105)
  have b0 := hb.new hw
  have b1 := Blk.mk w w.heap.size 105 #[.int .i64 kd, .int .i64 id, .int .i64 me, .int .i64 at1, .int .i64 pr, .bool has, .int .i64 ee, .int .i64 ki, .int .i64 pe, .slice a m c1] rfl
  have kt : (id != id) = false := by simp
  go_enter Tryz.func89, Tryz.ntmps89
  go_upto_region 1 with fail
  generalize w.alloc (.cells #[.int .i64 kd, .int .i64 id, .int .i64 me, .int .i64 at1, .int .i64 pr, .bool has, .int .i64 ee, .int .i64 ki, .int .i64 pe, .slice a m c1] 105) = w0 at *
  have C0 := blk_regrown b0
  have C1 := blk_regrown b1
  refine wp_region_quiet_below (by kernel_rfl) (by kernel_rfl) ?_
  repeat (go_big_quiet_step ((go_at_call 88; exact calls_regrown_same (in_yes kd 1 2 _ hk))))
  refine wpQuiet_nil ?_
  rintro w2 hn2
  replace hn2 := new_of_regrown hn2
  have hw2 := hw.trans hn2
  have b2 := b1.new hn2
  have c2 := b2.cells
  clear C0 C1
  go_wp2_with fail
  refine (sepoch_yes me _ hme).mono ?_
  rintro e wz ⟨rfl, hwz⟩
  obtain rfl := hwz.symm
  go_wp2_with fail
  refine (in_no at1 0 100 _ hat).mono ?_
  rintro e wz ⟨rfl, hwz⟩
  obtain rfl := hwz.symm
  go_wp2
  go_ret
  exact ⟨rfl, hw2⟩

set_option maxHeartbeats 1600000 in
theorem lm5_a (B : Nat) (id : Int) (up : Bool) (ro ep su ma ot co : Int) (A : Option Addr) (n c : Nat) (kd me at1 pr : Int) (has : Bool) (ee ki pe : Int) (a : Option Addr) (m c1 : Nat) (w : World) (hb : Blk w B 98 #[.int .i64 id, .bool up, .int .i64 ro, .int .i64 ep, .slice A n c, .int .i64 su, .int .i64 ma, .int .i64 ot, .int .i64 co, vx0, vx1, vx2, vx3, vx4, vx5, vx6, vx7, vx8]) (hm : m ≤ 1048576) (hk : 1 ≤ kd ∧ kd ≤ 2) (hme : 1 ≤ me ∧ me ≤ 1000) (hat : 0 ≤ at1 ∧ at1 ≤ 100) (hpr : pr < 0 ∨ 1000 < pr) :
    Calls Tryz.prog 89 #[.pointer (some ⟨B, 0, none⟩), .agg #[.int .i64 kd, .int .i64 id, .int .i64 me, .int .i64 at1, .int .i64 pr, .bool has, .int .i64 ee, .int .i64 ki, .int .i64 pe, .slice a m c1]] w fun e w' => e = .returned (.int .i64 3) ∧ New w w' := by
  have hw := (New.refl w).alloc (.cells #[.int .i64 kd, .int .i64 id, .int .i64 me, .int .i64 at1, .int .i64 pr, .bool has, .int .i64 ee, .int .i64 ki, .int .i64 pe, .slice a m c1] 105)
  have b0 := hb.new hw
  have b1 := Blk.mk w w.heap.size 105 #[.int .i64 kd, .int .i64 id, .int .i64 me, .int .i64 at1, .int .i64 pr, .bool has, .int .i64 ee, .int .i64 ki, .int .i64 pe, .slice a m c1] rfl
  have kt : (id != id) = false := by simp
  go_enter Tryz.func89, Tryz.ntmps89
  go_upto_region 1 with fail
  generalize w.alloc (.cells #[.int .i64 kd, .int .i64 id, .int .i64 me, .int .i64 at1, .int .i64 pr, .bool has, .int .i64 ee, .int .i64 ki, .int .i64 pe, .slice a m c1] 105) = w0 at *
  have C0 := blk_regrown b0
  have C1 := blk_regrown b1
  refine wp_region_quiet_below (by kernel_rfl) (by kernel_rfl) ?_
  repeat (go_big_quiet_step ((go_at_call 88; exact calls_regrown_same (in_yes kd 1 2 _ hk))))
  refine wpQuiet_nil ?_
  rintro w2 hn2
  replace hn2 := new_of_regrown hn2
  have hw2 := hw.trans hn2
  have b2 := b1.new hn2
  have c2 := b2.cells
  clear C0 C1
  go_wp2_with fail
  refine (sepoch_yes me _ hme).mono ?_
  rintro e wz ⟨rfl, hwz⟩
  obtain rfl := hwz.symm
  go_wp2_with fail
  refine (in_yes at1 0 100 _ hat).mono ?_
  rintro e wz ⟨rfl, hwz⟩
  obtain rfl := hwz.symm
  go_wp2_with fail
  refine (in_no pr 0 1000 _ hpr).mono ?_
  rintro e wz ⟨rfl, hwz⟩
  obtain rfl := hwz.symm
  go_wp2
  go_ret
  exact ⟨rfl, hw2⟩

set_option maxHeartbeats 1600000 in
theorem lm6_a (B : Nat) (id : Int) (up : Bool) (ro ep su ma ot co : Int) (A : Option Addr) (n c : Nat) (kd me at1 pr : Int) (has : Bool) (ee ki pe : Int) (a : Option Addr) (m c1 : Nat) (w : World) (hb : Blk w B 98 #[.int .i64 id, .bool up, .int .i64 ro, .int .i64 ep, .slice A n c, .int .i64 su, .int .i64 ma, .int .i64 ot, .int .i64 co, vx0, vx1, vx2, vx3, vx4, vx5, vx6, vx7, vx8]) (hm : m ≤ 1048576) (hk : 1 ≤ kd ∧ kd ≤ 2) (hme : 1 ≤ me ∧ me ≤ 1000) (hat : 0 ≤ at1 ∧ at1 ≤ 100) (hpr : 0 ≤ pr ∧ pr ≤ 1000) (hkk : kd = 1 ∨ kd = 2) (hf : ¬ Fo kd me at1 pr has ee ki pe m) :
    Calls Tryz.prog 89 #[.pointer (some ⟨B, 0, none⟩), .agg #[.int .i64 kd, .int .i64 id, .int .i64 me, .int .i64 at1, .int .i64 pr, .bool has, .int .i64 ee, .int .i64 ki, .int .i64 pe, .slice a m c1]] w fun e w' => e = .returned (.int .i64 1) ∧ New w w' := by
  have hw := (New.refl w).alloc (.cells #[.int .i64 kd, .int .i64 id, .int .i64 me, .int .i64 at1, .int .i64 pr, .bool has, .int .i64 ee, .int .i64 ki, .int .i64 pe, .slice a m c1] 105)
  have b0 := hb.new hw
  have b1 := Blk.mk w w.heap.size 105 #[.int .i64 kd, .int .i64 id, .int .i64 me, .int .i64 at1, .int .i64 pr, .bool has, .int .i64 ee, .int .i64 ki, .int .i64 pe, .slice a m c1] rfl
  have kt : (id != id) = false := by simp
  go_enter Tryz.func89, Tryz.ntmps89
  go_upto_region 1 with fail
  generalize w.alloc (.cells #[.int .i64 kd, .int .i64 id, .int .i64 me, .int .i64 at1, .int .i64 pr, .bool has, .int .i64 ee, .int .i64 ki, .int .i64 pe, .slice a m c1] 105) = w0 at *
  have C0 := blk_regrown b0
  have C1 := blk_regrown b1
  refine wp_region_quiet_below (by kernel_rfl) (by kernel_rfl) ?_
  repeat (go_big_quiet_step ((go_at_call 88; exact calls_regrown_same (in_yes kd 1 2 _ hk))))
  refine wpQuiet_nil ?_
  rintro w2 hn2
  replace hn2 := new_of_regrown hn2
  have hw2 := hw.trans hn2
  have b2 := b1.new hn2
  have c2 := b2.cells
  clear C0 C1
  go_wp2_with fail
  refine (sepoch_yes me _ hme).mono ?_
  rintro e wz ⟨rfl, hwz⟩
  obtain rfl := hwz.symm
  go_wp2_with fail
  refine (in_yes at1 0 100 _ hat).mono ?_
  rintro e wz ⟨rfl, hwz⟩
  obtain rfl := hwz.symm
  go_wp2_with fail
  refine (in_yes pr 0 1000 _ hpr).mono ?_
  rintro e wz ⟨rfl, hwz⟩
  obtain rfl := hwz.symm
  go_wp2_with fail
  refine (form_n kd id me at1 pr has ee ki pe a m c1 _ hm hkk (by omega) hf).mono ?_
  rintro e w3 ⟨rfl, hn3⟩
  go_wp2
  go_ret
  exact ⟨rfl, hw2.trans hn3⟩

set_option maxHeartbeats 1600000 in
theorem lm7_a (B : Nat) (id : Int) (up : Bool) (ro ep su ma ot co : Int) (A : Option Addr) (n c : Nat) (kd me at1 pr : Int) (ee ki pe : Int) (a : Option Addr) (m c1 : Nat) (w : World) (hb : Blk w B 98 #[.int .i64 id, .bool up, .int .i64 ro, .int .i64 ep, .slice A n c, .int .i64 su, .int .i64 ma, .int .i64 ot, .int .i64 co, vx0, vx1, vx2, vx3, vx4, vx5, vx6, vx7, vx8]) (hm : m ≤ 1048576) (hk : 1 ≤ kd ∧ kd ≤ 2) (hme : 1 ≤ me ∧ me ≤ 1000) (hat : 0 ≤ at1 ∧ at1 ≤ 100) (hpr : 0 ≤ pr ∧ pr ≤ 1000) (hkk : kd = 1 ∨ kd = 2) (hf : Fo kd me at1 pr false ee ki pe m) :
    Calls Tryz.prog 89 #[.pointer (some ⟨B, 0, none⟩), .agg #[.int .i64 kd, .int .i64 id, .int .i64 me, .int .i64 at1, .int .i64 pr, .bool false, .int .i64 ee, .int .i64 ki, .int .i64 pe, .slice a m c1]] w fun e w' => e = .returned (.int .i64 0) ∧ New w w' := by
  have hw := (New.refl w).alloc (.cells #[.int .i64 kd, .int .i64 id, .int .i64 me, .int .i64 at1, .int .i64 pr, .bool false, .int .i64 ee, .int .i64 ki, .int .i64 pe, .slice a m c1] 105)
  have b0 := hb.new hw
  have b1 := Blk.mk w w.heap.size 105 #[.int .i64 kd, .int .i64 id, .int .i64 me, .int .i64 at1, .int .i64 pr, .bool false, .int .i64 ee, .int .i64 ki, .int .i64 pe, .slice a m c1] rfl
  have kt : (id != id) = false := by simp
  go_enter Tryz.func89, Tryz.ntmps89
  go_upto_region 1 with fail
  generalize w.alloc (.cells #[.int .i64 kd, .int .i64 id, .int .i64 me, .int .i64 at1, .int .i64 pr, .bool false, .int .i64 ee, .int .i64 ki, .int .i64 pe, .slice a m c1] 105) = w0 at *
  have C0 := blk_regrown b0
  have C1 := blk_regrown b1
  refine wp_region_quiet_below (by kernel_rfl) (by kernel_rfl) ?_
  repeat (go_big_quiet_step ((go_at_call 88; exact calls_regrown_same (in_yes kd 1 2 _ hk))))
  refine wpQuiet_nil ?_
  rintro w2 hn2
  replace hn2 := new_of_regrown hn2
  have hw2 := hw.trans hn2
  have b2 := b1.new hn2
  have c2 := b2.cells
  clear C0 C1
  go_wp2_with fail
  refine (sepoch_yes me _ hme).mono ?_
  rintro e wz ⟨rfl, hwz⟩
  obtain rfl := hwz.symm
  go_wp2_with fail
  refine (in_yes at1 0 100 _ hat).mono ?_
  rintro e wz ⟨rfl, hwz⟩
  obtain rfl := hwz.symm
  go_wp2_with fail
  refine (in_yes pr 0 1000 _ hpr).mono ?_
  rintro e wz ⟨rfl, hwz⟩
  obtain rfl := hwz.symm
  go_wp2_with fail
  refine (form_y kd id me at1 pr false ee ki pe a m c1 _ hm hkk (by omega) hf).mono ?_
  rintro e w3 ⟨rfl, hn3⟩
  have b3 := b2.new hn3
  have c3 := b3.cells
  have hw3 := hw2.trans hn3
  go_wp2
  go_ret
  exact ⟨rfl, hw3⟩

set_option maxHeartbeats 1600000 in
theorem lm8_a (B : Nat) (id : Int) (up : Bool) (ro ep su ma ot co : Int) (A : Option Addr) (n c : Nat) (kd me at1 pr : Int) (ee ki pe : Int) (a : Option Addr) (m c1 : Nat) (w : World) (hb : Blk w B 98 #[.int .i64 id, .bool up, .int .i64 ro, .int .i64 ep, .slice A n c, .int .i64 su, .int .i64 ma, .int .i64 ot, .int .i64 co, vx0, vx1, vx2, vx3, vx4, vx5, vx6, vx7, vx8]) (hm : m ≤ 1048576) (hk : 1 ≤ kd ∧ kd ≤ 2) (hme : 1 ≤ me ∧ me ≤ 1000) (hat : 0 ≤ at1 ∧ at1 ≤ 100) (hpr : 0 ≤ pr ∧ pr ≤ 1000) (hkk : kd = 1 ∨ kd = 2) (hf : Fo kd me at1 pr true ee ki pe m) (v : Int) (he : enF ee ki pe m = v) (hv : ¬ v = 0) :
    Calls Tryz.prog 89 #[.pointer (some ⟨B, 0, none⟩), .agg #[.int .i64 kd, .int .i64 id, .int .i64 me, .int .i64 at1, .int .i64 pr, .bool true, .int .i64 ee, .int .i64 ki, .int .i64 pe, .slice a m c1]] w fun e w' => e = .returned (.int .i64 v) ∧ New w w' := by
  have hw := (New.refl w).alloc (.cells #[.int .i64 kd, .int .i64 id, .int .i64 me, .int .i64 at1, .int .i64 pr, .bool true, .int .i64 ee, .int .i64 ki, .int .i64 pe, .slice a m c1] 105)
  have b0 := hb.new hw
  have b1 := Blk.mk w w.heap.size 105 #[.int .i64 kd, .int .i64 id, .int .i64 me, .int .i64 at1, .int .i64 pr, .bool true, .int .i64 ee, .int .i64 ki, .int .i64 pe, .slice a m c1] rfl
  have kt : (id != id) = false := by simp
  go_enter Tryz.func89, Tryz.ntmps89
  go_upto_region 1 with fail
  generalize w.alloc (.cells #[.int .i64 kd, .int .i64 id, .int .i64 me, .int .i64 at1, .int .i64 pr, .bool true, .int .i64 ee, .int .i64 ki, .int .i64 pe, .slice a m c1] 105) = w0 at *
  have C0 := blk_regrown b0
  have C1 := blk_regrown b1
  refine wp_region_quiet_below (by kernel_rfl) (by kernel_rfl) ?_
  repeat (go_big_quiet_step ((go_at_call 88; exact calls_regrown_same (in_yes kd 1 2 _ hk))))
  refine wpQuiet_nil ?_
  rintro w2 hn2
  replace hn2 := new_of_regrown hn2
  have hw2 := hw.trans hn2
  have b2 := b1.new hn2
  have c2 := b2.cells
  clear C0 C1
  go_wp2_with fail
  refine (sepoch_yes me _ hme).mono ?_
  rintro e wz ⟨rfl, hwz⟩
  obtain rfl := hwz.symm
  go_wp2_with fail
  refine (in_yes at1 0 100 _ hat).mono ?_
  rintro e wz ⟨rfl, hwz⟩
  obtain rfl := hwz.symm
  go_wp2_with fail
  refine (in_yes pr 0 1000 _ hpr).mono ?_
  rintro e wz ⟨rfl, hwz⟩
  obtain rfl := hwz.symm
  go_wp2_with fail
  refine (form_y kd id me at1 pr true ee ki pe a m c1 _ hm hkk (by omega) hf).mono ?_
  rintro e w3 ⟨rfl, hn3⟩
  have b3 := b2.new hn3
  have c3 := b3.cells
  have hw3 := hw2.trans hn3
  go_wp2_with fail
  refine (specENv v ee ki pe a m c1 _ hm he).mono ?_
  rintro e w4 ⟨rfl, hn4⟩
  have c4 := (b3.new hn4).cells
  go_wp2
  go_ret
  exact ⟨rfl, hw3.trans hn4⟩

set_option maxHeartbeats 1600000 in
theorem lm9_a (B : Nat) (id : Int) (up : Bool) (ro ep su ma ot co : Int) (A : Option Addr) (n c : Nat) (kd me at1 pr : Int) (ee ki pe : Int) (a : Option Addr) (m c1 : Nat) (w : World) (hb : Blk w B 98 #[.int .i64 id, .bool up, .int .i64 ro, .int .i64 ep, .slice A n c, .int .i64 su, .int .i64 ma, .int .i64 ot, .int .i64 co, vx0, vx1, vx2, vx3, vx4, vx5, vx6, vx7, vx8]) (hm : m ≤ 1048576) (hk : 1 ≤ kd ∧ kd ≤ 2) (hme : 1 ≤ me ∧ me ≤ 1000) (hat : 0 ≤ at1 ∧ at1 ≤ 100) (hpr : 0 ≤ pr ∧ pr ≤ 1000) (hkk : kd = 1 ∨ kd = 2) (hf : Fo kd me at1 pr true ee ki pe m) (he : enF ee ki pe m = 0) (h1 : me < ee) :
    Calls Tryz.prog 89 #[.pointer (some ⟨B, 0, none⟩), .agg #[.int .i64 kd, .int .i64 id, .int .i64 me, .int .i64 at1, .int .i64 pr, .bool true, .int .i64 ee, .int .i64 ki, .int .i64 pe, .slice a m c1]] w fun e w' => e = .returned (.int .i64 1) ∧ New w w' := by
  have hw := (New.refl w).alloc (.cells #[.int .i64 kd, .int .i64 id, .int .i64 me, .int .i64 at1, .int .i64 pr, .bool true, .int .i64 ee, .int .i64 ki, .int .i64 pe, .slice a m c1] 105)
  have b0 := hb.new hw
  have b1 := Blk.mk w w.heap.size 105 #[.int .i64 kd, .int .i64 id, .int .i64 me, .int .i64 at1, .int .i64 pr, .bool true, .int .i64 ee, .int .i64 ki, .int .i64 pe, .slice a m c1] rfl
  have kt : (id != id) = false := by simp
  go_enter Tryz.func89, Tryz.ntmps89
  go_upto_region 1 with fail
  generalize w.alloc (.cells #[.int .i64 kd, .int .i64 id, .int .i64 me, .int .i64 at1, .int .i64 pr, .bool true, .int .i64 ee, .int .i64 ki, .int .i64 pe, .slice a m c1] 105) = w0 at *
  have C0 := blk_regrown b0
  have C1 := blk_regrown b1
  refine wp_region_quiet_below (by kernel_rfl) (by kernel_rfl) ?_
  repeat (go_big_quiet_step ((go_at_call 88; exact calls_regrown_same (in_yes kd 1 2 _ hk))))
  refine wpQuiet_nil ?_
  rintro w2 hn2
  replace hn2 := new_of_regrown hn2
  have hw2 := hw.trans hn2
  have b2 := b1.new hn2
  have c2 := b2.cells
  clear C0 C1
  go_wp2_with fail
  refine (sepoch_yes me _ hme).mono ?_
  rintro e wz ⟨rfl, hwz⟩
  obtain rfl := hwz.symm
  go_wp2_with fail
  refine (in_yes at1 0 100 _ hat).mono ?_
  rintro e wz ⟨rfl, hwz⟩
  obtain rfl := hwz.symm
  go_wp2_with fail
  refine (in_yes pr 0 1000 _ hpr).mono ?_
  rintro e wz ⟨rfl, hwz⟩
  obtain rfl := hwz.symm
  go_wp2_with fail
  refine (form_y kd id me at1 pr true ee ki pe a m c1 _ hm hkk (by omega) hf).mono ?_
  rintro e w3 ⟨rfl, hn3⟩
  have b3 := b2.new hn3
  have c3 := b3.cells
  have hw3 := hw2.trans hn3
  go_wp2_with fail
  refine (specENv 0 ee ki pe a m c1 _ hm he).mono ?_
  rintro e w4 ⟨rfl, hn4⟩
  have c4 := (b3.new hn4).cells
  go_wp2
  go_ret
  exact ⟨rfl, hw3.trans hn4⟩

set_option maxHeartbeats 1600000 in
theorem lmA_a (B : Nat) (id : Int) (up : Bool) (ro ep su ma ot co : Int) (A : Option Addr) (n c : Nat) (kd me at1 pr : Int) (ee ki pe : Int) (a : Option Addr) (m c1 : Nat) (w : World) (hb : Blk w B 98 #[.int .i64 id, .bool up, .int .i64 ro, .int .i64 ep, .slice A n c, .int .i64 su, .int .i64 ma, .int .i64 ot, .int .i64 co, vx0, vx1, vx2, vx3, vx4, vx5, vx6, vx7, vx8]) (hm : m ≤ 1048576) (hk : 1 ≤ kd ∧ kd ≤ 2) (hme : 1 ≤ me ∧ me ≤ 1000) (hat : 0 ≤ at1 ∧ at1 ≤ 100) (hpr : 0 ≤ pr ∧ pr ≤ 1000) (hkk : kd = 1 ∨ kd = 2) (hf : Fo kd me at1 pr true ee ki pe m) (he : enF ee ki pe m = 0) (h1 : ¬ me < ee) (h2 : ee < pr) :
    Calls Tryz.prog 89 #[.pointer (some ⟨B, 0, none⟩), .agg #[.int .i64 kd, .int .i64 id, .int .i64 me, .int .i64 at1, .int .i64 pr, .bool true, .int .i64 ee, .int .i64 ki, .int .i64 pe, .slice a m c1]] w fun e w' => e = .returned (.int .i64 1) ∧ New w w' := by
  have hw := (New.refl w).alloc (.cells #[.int .i64 kd, .int .i64 id, .int .i64 me, .int .i64 at1, .int .i64 pr, .bool true, .int .i64 ee, .int .i64 ki, .int .i64 pe, .slice a m c1] 105)
  have b0 := hb.new hw
  have b1 := Blk.mk w w.heap.size 105 #[.int .i64 kd, .int .i64 id, .int .i64 me, .int .i64 at1, .int .i64 pr, .bool true, .int .i64 ee, .int .i64 ki, .int .i64 pe, .slice a m c1] rfl
  have kt : (id != id) = false := by simp
  go_enter Tryz.func89, Tryz.ntmps89
  go_upto_region 1 with fail
  generalize w.alloc (.cells #[.int .i64 kd, .int .i64 id, .int .i64 me, .int .i64 at1, .int .i64 pr, .bool true, .int .i64 ee, .int .i64 ki, .int .i64 pe, .slice a m c1] 105) = w0 at *
  have C0 := blk_regrown b0
  have C1 := blk_regrown b1
  refine wp_region_quiet_below (by kernel_rfl) (by kernel_rfl) ?_
  repeat (go_big_quiet_step ((go_at_call 88; exact calls_regrown_same (in_yes kd 1 2 _ hk))))
  refine wpQuiet_nil ?_
  rintro w2 hn2
  replace hn2 := new_of_regrown hn2
  have hw2 := hw.trans hn2
  have b2 := b1.new hn2
  have c2 := b2.cells
  clear C0 C1
  go_wp2_with fail
  refine (sepoch_yes me _ hme).mono ?_
  rintro e wz ⟨rfl, hwz⟩
  obtain rfl := hwz.symm
  go_wp2_with fail
  refine (in_yes at1 0 100 _ hat).mono ?_
  rintro e wz ⟨rfl, hwz⟩
  obtain rfl := hwz.symm
  go_wp2_with fail
  refine (in_yes pr 0 1000 _ hpr).mono ?_
  rintro e wz ⟨rfl, hwz⟩
  obtain rfl := hwz.symm
  go_wp2_with fail
  refine (form_y kd id me at1 pr true ee ki pe a m c1 _ hm hkk (by omega) hf).mono ?_
  rintro e w3 ⟨rfl, hn3⟩
  have b3 := b2.new hn3
  have c3 := b3.cells
  have hw3 := hw2.trans hn3
  go_wp2_with fail
  refine (specENv 0 ee ki pe a m c1 _ hm he).mono ?_
  rintro e w4 ⟨rfl, hn4⟩
  have c4 := (b3.new hn4).cells
  go_wp2
  go_ret
  exact ⟨rfl, hw3.trans hn4⟩

set_option maxHeartbeats 1600000 in
theorem lmB_a (B : Nat) (id : Int) (up : Bool) (ro ep su ma ot co : Int) (A : Option Addr) (n c : Nat) (kd me at1 pr : Int) (ee ki pe : Int) (a : Option Addr) (m c1 : Nat) (w : World) (hb : Blk w B 98 #[.int .i64 id, .bool up, .int .i64 ro, .int .i64 ep, .slice A n c, .int .i64 su, .int .i64 ma, .int .i64 ot, .int .i64 co, vx0, vx1, vx2, vx3, vx4, vx5, vx6, vx7, vx8]) (hm : m ≤ 1048576) (hk : 1 ≤ kd ∧ kd ≤ 2) (hme : 1 ≤ me ∧ me ≤ 1000) (hat : 0 ≤ at1 ∧ at1 ≤ 100) (hpr : 0 ≤ pr ∧ pr ≤ 1000) (hkk : kd = 1 ∨ kd = 2) (hf : Fo kd me at1 pr true ee ki pe m) (he : enF ee ki pe m = 0) (h1 : ¬ me < ee) (h2 : ¬ ee < pr) :
    Calls Tryz.prog 89 #[.pointer (some ⟨B, 0, none⟩), .agg #[.int .i64 kd, .int .i64 id, .int .i64 me, .int .i64 at1, .int .i64 pr, .bool true, .int .i64 ee, .int .i64 ki, .int .i64 pe, .slice a m c1]] w fun e w' => e = .returned (.int .i64 0) ∧ New w w' := by
  have hw := (New.refl w).alloc (.cells #[.int .i64 kd, .int .i64 id, .int .i64 me, .int .i64 at1, .int .i64 pr, .bool true, .int .i64 ee, .int .i64 ki, .int .i64 pe, .slice a m c1] 105)
  have b0 := hb.new hw
  have b1 := Blk.mk w w.heap.size 105 #[.int .i64 kd, .int .i64 id, .int .i64 me, .int .i64 at1, .int .i64 pr, .bool true, .int .i64 ee, .int .i64 ki, .int .i64 pe, .slice a m c1] rfl
  have kt : (id != id) = false := by simp
  go_enter Tryz.func89, Tryz.ntmps89
  go_upto_region 1 with fail
  generalize w.alloc (.cells #[.int .i64 kd, .int .i64 id, .int .i64 me, .int .i64 at1, .int .i64 pr, .bool true, .int .i64 ee, .int .i64 ki, .int .i64 pe, .slice a m c1] 105) = w0 at *
  have C0 := blk_regrown b0
  have C1 := blk_regrown b1
  refine wp_region_quiet_below (by kernel_rfl) (by kernel_rfl) ?_
  repeat (go_big_quiet_step ((go_at_call 88; exact calls_regrown_same (in_yes kd 1 2 _ hk))))
  refine wpQuiet_nil ?_
  rintro w2 hn2
  replace hn2 := new_of_regrown hn2
  have hw2 := hw.trans hn2
  have b2 := b1.new hn2
  have c2 := b2.cells
  clear C0 C1
  go_wp2_with fail
  refine (sepoch_yes me _ hme).mono ?_
  rintro e wz ⟨rfl, hwz⟩
  obtain rfl := hwz.symm
  go_wp2_with fail
  refine (in_yes at1 0 100 _ hat).mono ?_
  rintro e wz ⟨rfl, hwz⟩
  obtain rfl := hwz.symm
  go_wp2_with fail
  refine (in_yes pr 0 1000 _ hpr).mono ?_
  rintro e wz ⟨rfl, hwz⟩
  obtain rfl := hwz.symm
  go_wp2_with fail
  refine (form_y kd id me at1 pr true ee ki pe a m c1 _ hm hkk (by omega) hf).mono ?_
  rintro e w3 ⟨rfl, hn3⟩
  have b3 := b2.new hn3
  have c3 := b3.cells
  have hw3 := hw2.trans hn3
  go_wp2_with fail
  refine (specENv 0 ee ki pe a m c1 _ hm he).mono ?_
  rintro e w4 ⟨rfl, hn4⟩
  have c4 := (b3.new hn4).cells
  go_wp2
  go_ret
  exact ⟨rfl, hw3.trans hn4⟩

theorem l12M_any_a (B : Nat) (id : Int) (up : Bool) (ro ep su ma ot co : Int) (A : Option Addr) (n c : Nat) (kd tgt me at1 pr : Int) (has : Bool) (ee ki pe : Int) (a : Option Addr) (m c1 : Nat) (w : World) (hb : Blk w B 98 #[.int .i64 id, .bool up, .int .i64 ro, .int .i64 ep, .slice A n c, .int .i64 su, .int .i64 ma, .int .i64 ot, .int .i64 co, vx0, vx1, vx2, vx3, vx4, vx5, vx6, vx7, vx8]) (hm : m ≤ 1048576) :
    Calls Tryz.prog 89 #[.pointer (some ⟨B, 0, none⟩), .agg #[.int .i64 kd, .int .i64 tgt, .int .i64 me, .int .i64 at1, .int .i64 pr, .bool has, .int .i64 ee, .int .i64 ki, .int .i64 pe, .slice a m c1]] w fun e w' => e = .returned (.int .i64 (mlF id kd tgt me at1 pr has ee ki pe m)) ∧ New w w' := by
  unfold mlF
  by_cases hk : kd = 1 ∨ kd = 2
  case neg => rw [if_pos (fun k => hk k.1)]; exact lm1_a B id up ro ep su ma ot co A n c kd tgt me at1 pr has ee ki pe a m c1 w hb hm (by omega)
  have hk' : 1 ≤ kd ∧ kd ≤ 2 := by omega
  by_cases ht : tgt = id
  case neg => rw [if_pos (fun k => ht k.2)]; exact lm2_a B id up ro ep su ma ot co A n c kd tgt me at1 pr has ee ki pe a m c1 w hb hm hk' ht
  rw [if_neg (fun k => k ⟨hk, ht⟩)]
  subst ht
  by_cases hme : 1 ≤ me ∧ me ≤ 1000
  case neg => rw [if_pos (fun k => hme k.1)]; exact lm3_a B tgt up ro ep su ma ot co A n c kd me at1 pr has ee ki pe a m c1 w hb hm hk' (by omega)
  by_cases hat : 0 ≤ at1 ∧ at1 ≤ 100
  case neg => rw [if_pos (fun k => hat k.2.1)]; exact lm4_a B tgt up ro ep su ma ot co A n c kd me at1 pr has ee ki pe a m c1 w hb hm hk' hme (by omega)
  by_cases hpr : 0 ≤ pr ∧ pr ≤ 1000
  case neg => rw [if_pos (fun k => hpr k.2.2)]; exact lm5_a B tgt up ro ep su ma ot co A n c kd me at1 pr has ee ki pe a m c1 w hb hm hk' hme hat (by omega)
  rw [if_neg (fun k => k ⟨hme, hat, hpr⟩)]
  by_cases hf : (kd = 2 → pr = 0) ∧ (kd ≠ 2 → ((at1 = 0 → pr = 0) ∧ (pr = 0 → at1 = 0)) ∧ pr ≤ me)
  case neg => rw [if_pos hf]; exact lm6_a B tgt up ro ep su ma ot co A n c kd me at1 pr has ee ki pe a m c1 w hb hm hk' hme hat hpr hk (fun k => hf k.1)
  rw [if_neg (fun k => k hf)]
  cases has with
  | true =>
    rcases hk with rfl | rfl
    · rw [if_pos ⟨rfl, rfl⟩]
      have hF : Fo 1 me at1 pr true ee ki pe m := ⟨hf, .inl ⟨rfl, rfl⟩⟩
      unfold efF
      by_cases he : enF ee ki pe m = 0
      · rw [if_neg (fun k => k he)]
        by_cases h1 : me < ee
        · rw [if_pos (.inl h1)]; exact lm9_a B tgt up ro ep su ma ot co A n c 1 me at1 pr ee ki pe a m c1 w hb hm hk' hme hat hpr (.inl rfl) hF he h1
        · by_cases h2 : ee < pr
          · rw [if_pos (.inr h2)]; exact lmA_a B tgt up ro ep su ma ot co A n c 1 me at1 pr ee ki pe a m c1 w hb hm hk' hme hat hpr (.inl rfl) hF he h1 h2
          · rw [if_neg (by omega)]; exact lmB_a B tgt up ro ep su ma ot co A n c 1 me at1 pr ee ki pe a m c1 w hb hm hk' hme hat hpr (.inl rfl) hF he h1 h2
      · rw [if_pos he]; exact lm8_a B tgt up ro ep su ma ot co A n c 1 me at1 pr ee ki pe a m c1 w hb hm hk' hme hat hpr (.inl rfl) hF _ rfl he
    · rw [if_neg (by omega), if_pos (.inl rfl)]
      exact lm6_a B tgt up ro ep su ma ot co A n c 2 me at1 pr true ee ki pe a m c1 w hb hm hk' hme hat hpr (.inr rfl) (fun k => by rcases k.2 with ⟨e, -⟩ | ⟨e, -⟩; omega; cases e)
  | false =>
    rw [if_neg (by simp)]
    by_cases hz : ee = 0 ∧ ki = 0 ∧ pe = 0 ∧ m = 0
    · rw [if_neg (fun k => by rcases k with k | k; cases k; exact k hz)]
      exact lm7_a B tgt up ro ep su ma ot co A n c kd me at1 pr ee ki pe a m c1 w hb hm hk' hme hat hpr hk ⟨hf, .inr ⟨rfl, hz⟩⟩
    · rw [if_pos (.inr hz)]
      exact lm6_a B tgt up ro ep su ma ot co A n c kd me at1 pr false ee ki pe a m c1 w hb hm hk' hme hat hpr hk (fun k => by rcases k.2 with ⟨-, e⟩ | ⟨-, e⟩; cases e; exact hz e)

end Go.Proofs.YtkbdmcimgepakaaGreat

namespace Go.Proofs.YtkbdmcimgepakaaGreat
open Go.RowKit Go.Sort
set_option linter.unusedVariables false
set_option linter.unusedSimpArgs false
set_option maxRecDepth 100000
variable {vx0 vx1 vx2 vx3 vx4 vx5 vx6 vx7 vx8 : Value}

set_option maxHeartbeats 1600000 in
theorem lm1_b (B : Nat) (id : Int) (up : Bool) (ro ep su ma ot co : Int) (A : Option Addr) (n c : Nat) (kd tgt me at1 pr : Int) (has : Bool) (ee ki pe : Int) (a : Option Addr) (m c1 : Nat) (w : World) (hb : Blk w B 98 #[vx0, vx1, vx2, vx3, vx4, vx5, vx6, vx7, vx8, .int .i64 id, .bool up, .int .i64 ro, .int .i64 ep, .slice A n c, .int .i64 su, .int .i64 ma, .int .i64 ot, .int .i64 co]) (hm : m ≤ 1048576) (hk : kd < 1 ∨ 2 < kd) :
    Calls Tryz.prog 89 #[.pointer (some ⟨B, 9, none⟩), .agg #[.int .i64 kd, .int .i64 tgt, .int .i64 me, .int .i64 at1, .int .i64 pr, .bool has, .int .i64 ee, .int .i64 ki, .int .i64 pe, .slice a m c1]] w fun e w' => e = .returned (.int .i64 1) ∧ New w w' := by
  have hw := (New.refl w).alloc (.cells #[.int .i64 kd, .int .i64 tgt, .int .i64 me, .int .i64 at1, .int .i64 pr, .bool has, .int .i64 ee, .int .i64 ki, .int .i64 pe, .slice a m c1] 105)
  have b0 := hb.new hw
  have b1 := Blk.mk w w.heap.size 105 #[.int .i64 kd, .int .i64 tgt, .int .i64 me, .int .i64 at1, .int .i64 pr, .bool has, .int .i64 ee, .int .i64 ki, .int .i64 pe, .slice a m c1] rfl
  go_enter Tryz.func89, Tryz.ntmps89
  go_upto_region 1 with fail
  generalize w.alloc (.cells #[.int .i64 kd, .int .i64 tgt, .int .i64 me, .int .i64 at1, .int .i64 pr, .bool has, .int .i64 ee, .int .i64 ki, .int .i64 pe, .slice a m c1] 105) = w0 at *
  have C0 := blk_regrown b0
  have C1 := blk_regrown b1
  refine wp_region_quiet_below (by kernel_rfl) (by kernel_rfl) ?_
  repeat (go_big_quiet_step ((go_at_call 88; exact calls_regrown_same (in_no kd 1 2 _ hk))))
  refine wpQuiet_nil ?_
  rintro w2 hn2
  replace hn2 := new_of_regrown hn2
  have hw2 := hw.trans hn2
  have b2 := b1.new hn2
  have c2 := b2.cells
  clear C0 C1
  go_wp2
  go_ret
  exact ⟨rfl, hw2⟩

set_option maxHeartbeats 1600000 in
theorem lm2_b (B : Nat) (id : Int) (up : Bool) (ro ep su ma ot co : Int) (A : Option Addr) (n c : Nat) (kd tgt me at1 pr : Int) (has : Bool) (ee ki pe : Int) (a : Option Addr) (m c1 : Nat) (w : World) (hb : Blk w B 98 #[vx0, vx1, vx2, vx3, vx4, vx5, vx6, vx7, vx8, .int .i64 id, .bool up, .int .i64 ro, .int .i64 ep, .slice A n c, .int .i64 su, .int .i64 ma, .int .i64 ot, .int .i64 co]) (hm : m ≤ 1048576) (hk : 1 ≤ kd ∧ kd ≤ 2) (ht : ¬ tgt = id) :
    Calls Tryz.prog 89 #[.pointer (some ⟨B, 9, none⟩), .agg #[.int .i64 kd, .int .i64 tgt, .int .i64 me, .int .i64 at1, .int .i64 pr, .bool has, .int .i64 ee, .int .i64 ki, .int .i64 pe, .slice a m c1]] w fun e w' => e = .returned (.int .i64 1) ∧ New w w' := by
  have hw := (New.refl w).alloc (.cells #[.int .i64 kd, .int .i64 tgt, .int .i64 me, .int .i64 at1, .int .i64 pr, .bool has, .int .i64 ee, .int .i64 ki, .int .i64 pe, .slice a m c1] 105)
  have b0 := hb.new hw
  have b1 := Blk.mk w w.heap.size 105 #[.int .i64 kd, .int .i64 tgt, .int .i64 me, .int .i64 at1, .int .i64 pr, .bool has, .int .i64 ee, .int .i64 ki, .int .i64 pe, .slice a m c1] rfl
  have kt : (tgt != id) = true := by simp [ht]
  go_enter Tryz.func89, Tryz.ntmps89
  go_upto_region 1 with fail
  generalize w.alloc (.cells #[.int .i64 kd, .int .i64 tgt, .int .i64 me, .int .i64 at1, .int .i64 pr, .bool has, .int .i64 ee, .int .i64 ki, .int .i64 pe, .slice a m c1] 105) = w0 at *
  have C0 := blk_regrown b0
  have C1 := blk_regrown b1
  refine wp_region_quiet_below (by kernel_rfl) (by kernel_rfl) ?_
  repeat (go_big_quiet_step ((go_at_call 88; exact calls_regrown_same (in_yes kd 1 2 _ hk))))
  refine wpQuiet_nil ?_
  rintro w2 hn2
  replace hn2 := new_of_regrown hn2
  have hw2 := hw.trans hn2
  have b2 := b1.new hn2
  have c2 := b2.cells
  clear C0 C1
  go_wp2
  go_ret
  exact ⟨rfl, hw2⟩

set_option maxHeartbeats 1600000 in
theorem lm3_b (B : Nat) (id : Int) (up : Bool) (ro ep su ma ot co : Int) (A : Option Addr) (n c : Nat) (kd me at1 pr : Int) (has : Bool) (ee ki pe : Int) (a : Option Addr) (m c1 : Nat) (w : World) (hb : Blk w B 98 #[vx0, vx1, vx2, vx3, vx4, vx5, vx6, vx7, vx8, .int .i64 id, .bool up, .int .i64 ro, .int .i64 ep, .slice A n c, .int .i64 su, .int .i64 ma, .int .i64 ot, .int .i64 co]) (hm : m ≤ 1048576) (hk : 1 ≤ kd ∧ kd ≤ 2) (hme : me < 1 ∨ 1000 < me) :
    Calls Tryz.prog 89 #[.pointer (some ⟨B, 9, none⟩), .agg #[.int .i64 kd, .int .i64 id, .int .i64 me, .int .i64 at1, .int .i64 pr, .bool has, .int .i64 ee, .int .i64 ki, .int .i64 pe, .slice a m c1]] w fun e w' => e = .returned (.int .i64 3) ∧ New w w' := by
  have hw := (New.refl w).alloc (.cells #[.int .i64 kd, .int .i64 id, .int .i64 me, .int .i64 at1, .int .i64 pr, .bool has, .int .i64 ee, .int .i64 ki, .int .i64 pe, .slice a m c1] 105)
  have b0 := hb.new hw
  have b1 := Blk.mk w w.heap.size 105 #[.int .i64 kd, .int .i64 id, .int .i64 me, .int .i64 at1, .int .i64 pr, .bool has, .int .i64 ee, .int .i64 ki, .int .i64 pe, .slice a m c1] rfl
  have kt : (id != id) = false := by simp
  go_enter Tryz.func89, Tryz.ntmps89
  go_upto_region 1 with fail
  generalize w.alloc (.cells #[.int .i64 kd, .int .i64 id, .int .i64 me, .int .i64 at1, .int .i64 pr, .bool has, .int .i64 ee, .int .i64 ki, .int .i64 pe, .slice a m c1] 105) = w0 at *
  have C0 := blk_regrown b0
  have C1 := blk_regrown b1
  refine wp_region_quiet_below (by kernel_rfl) (by kernel_rfl) ?_
  repeat (go_big_quiet_step ((go_at_call 88; exact calls_regrown_same (in_yes kd 1 2 _ hk))))
  refine wpQuiet_nil ?_
  rintro w2 hn2
  replace hn2 := new_of_regrown hn2
  have hw2 := hw.trans hn2
  have b2 := b1.new hn2
  have c2 := b2.cells
  clear C0 C1
  go_wp2_with fail
  refine (sepoch_no me _ hme).mono ?_
  rintro e wz ⟨rfl, hwz⟩
  obtain rfl := hwz.symm
  go_wp2
  go_ret
  exact ⟨rfl, hw2⟩

set_option maxHeartbeats 1600000 in
theorem lm4_b (B : Nat) (id : Int) (up : Bool) (ro ep su ma ot co : Int) (A : Option Addr) (n c : Nat) (kd me at1 pr : Int) (has : Bool) (ee ki pe : Int) (a : Option Addr) (m c1 : Nat) (w : World) (hb : Blk w B 98 #[vx0, vx1, vx2, vx3, vx4, vx5, vx6, vx7, vx8, .int .i64 id, .bool up, .int .i64 ro, .int .i64 ep, .slice A n c, .int .i64 su, .int .i64 ma, .int .i64 ot, .int .i64 co]) (hm : m ≤ 1048576) (hk : 1 ≤ kd ∧ kd ≤ 2) (hme : 1 ≤ me ∧ me ≤ 1000) (hat : at1 < 0 ∨ 100 < at1) :
    Calls Tryz.prog 89 #[.pointer (some ⟨B, 9, none⟩), .agg #[.int .i64 kd, .int .i64 id, .int .i64 me, .int .i64 at1, .int .i64 pr, .bool has, .int .i64 ee, .int .i64 ki, .int .i64 pe, .slice a m c1]] w fun e w' => e = .returned (.int .i64 3) ∧ New w w' := by
  have hw := (New.refl w).alloc (.cells #[.int .i64 kd, .int .i64 id, .int .i64 me, .int .i64 at1, .int .i64 pr, .bool has, .int .i64 ee, .int .i64 ki, .int .i64 pe, .slice a m c1] 105)
  have b0 := hb.new hw
  have b1 := Blk.mk w w.heap.size 105 #[.int .i64 kd, .int .i64 id, .int .i64 me, .int .i64 at1, .int .i64 pr, .bool has, .int .i64 ee, .int .i64 ki, .int .i64 pe, .slice a m c1] rfl
  have kt : (id != id) = false := by simp
  go_enter Tryz.func89, Tryz.ntmps89
  go_upto_region 1 with fail
  generalize w.alloc (.cells #[.int .i64 kd, .int .i64 id, .int .i64 me, .int .i64 at1, .int .i64 pr, .bool has, .int .i64 ee, .int .i64 ki, .int .i64 pe, .slice a m c1] 105) = w0 at *
  have C0 := blk_regrown b0
  have C1 := blk_regrown b1
  refine wp_region_quiet_below (by kernel_rfl) (by kernel_rfl) ?_
  repeat (go_big_quiet_step ((go_at_call 88; exact calls_regrown_same (in_yes kd 1 2 _ hk))))
  refine wpQuiet_nil ?_
  rintro w2 hn2
  replace hn2 := new_of_regrown hn2
  have hw2 := hw.trans hn2
  have b2 := b1.new hn2
  have c2 := b2.cells
  clear C0 C1
  go_wp2_with fail
  refine (sepoch_yes me _ hme).mono ?_
  rintro e wz ⟨rfl, hwz⟩
  obtain rfl := hwz.symm
  go_wp2_with fail
  refine (in_no at1 0 100 _ hat).mono ?_
  rintro e wz ⟨rfl, hwz⟩
  obtain rfl := hwz.symm
  go_wp2
  go_ret
  exact ⟨rfl, hw2⟩

set_option maxHeartbeats 1600000 in
theorem lm5_b (B : Nat) (id : Int) (up : Bool) (ro ep su ma ot co : Int) (A : Option Addr) (n c : Nat) (kd me at1 pr : Int) (has : Bool) (ee ki pe : Int) (a : Option Addr) (m c1 : Nat) (w : World) (hb : Blk w B 98 #[vx0, vx1, vx2, vx3, vx4, vx5, vx6, vx7, vx8, .int .i64 id, .bool up, .int .i64 ro, .int .i64 ep, .slice A n c, .int .i64 su, .int .i64 ma, .int .i64 ot, .int .i64 co]) (hm : m ≤ 1048576) (hk : 1 ≤ kd ∧ kd ≤ 2) (hme : 1 ≤ me ∧ me ≤ 1000) (hat : 0 ≤ at1 ∧ at1 ≤ 100) (hpr : pr < 0 ∨ 1000 < pr) :
    Calls Tryz.prog 89 #[.pointer (some ⟨B, 9, none⟩), .agg #[.int .i64 kd, .int .i64 id, .int .i64 me, .int .i64 at1, .int .i64 pr, .bool has, .int .i64 ee, .int .i64 ki, .int .i64 pe, .slice a m c1]] w fun e w' => e = .returned (.int .i64 3) ∧ New w w' := by
  have hw := (New.refl w).alloc (.cells #[.int .i64 kd, .int .i64 id, .int .i64 me, .int .i64 at1, .int .i64 pr, .bool has, .int .i64 ee, .int .i64 ki, .int .i64 pe, .slice a m c1] 105)
  have b0 := hb.new hw
  have b1 := Blk.mk w w.heap.size 105 #[.int .i64 kd, .int .i64 id, .int .i64 me, .int .i64 at1, .int .i64 pr, .bool has, .int .i64 ee, .int .i64 ki, .int .i64 pe, .slice a m c1] rfl
  have kt : (id != id) = false := by simp
  go_enter Tryz.func89, Tryz.ntmps89
  go_upto_region 1 with fail
  generalize w.alloc (.cells #[.int .i64 kd, .int .i64 id, .int .i64 me, .int .i64 at1, .int .i64 pr, .bool has, .int .i64 ee, .int .i64 ki, .int .i64 pe, .slice a m c1] 105) = w0 at *
  have C0 := blk_regrown b0
  have C1 := blk_regrown b1
  refine wp_region_quiet_below (by kernel_rfl) (by kernel_rfl) ?_
  repeat (go_big_quiet_step ((go_at_call 88; exact calls_regrown_same (in_yes kd 1 2 _ hk))))
  refine wpQuiet_nil ?_
  rintro w2 hn2
  replace hn2 := new_of_regrown hn2
  have hw2 := hw.trans hn2
  have b2 := b1.new hn2
  have c2 := b2.cells
  clear C0 C1
  go_wp2_with fail
  refine (sepoch_yes me _ hme).mono ?_
  rintro e wz ⟨rfl, hwz⟩
  obtain rfl := hwz.symm
  go_wp2_with fail
  refine (in_yes at1 0 100 _ hat).mono ?_
  rintro e wz ⟨rfl, hwz⟩
  obtain rfl := hwz.symm
  go_wp2_with fail
  refine (in_no pr 0 1000 _ hpr).mono ?_
  rintro e wz ⟨rfl, hwz⟩
  obtain rfl := hwz.symm
  go_wp2
  go_ret
  exact ⟨rfl, hw2⟩

set_option maxHeartbeats 1600000 in
theorem lm6_b (B : Nat) (id : Int) (up : Bool) (ro ep su ma ot co : Int) (A : Option Addr) (n c : Nat) (kd me at1 pr : Int) (has : Bool) (ee ki pe : Int) (a : Option Addr) (m c1 : Nat) (w : World) (hb : Blk w B 98 #[vx0, vx1, vx2, vx3, vx4, vx5, vx6, vx7, vx8, .int .i64 id, .bool up, .int .i64 ro, .int .i64 ep, .slice A n c, .int .i64 su, .int .i64 ma, .int .i64 ot, .int .i64 co]) (hm : m ≤ 1048576) (hk : 1 ≤ kd ∧ kd ≤ 2) (hme : 1 ≤ me ∧ me ≤ 1000) (hat : 0 ≤ at1 ∧ at1 ≤ 100) (hpr : 0 ≤ pr ∧ pr ≤ 1000) (hkk : kd = 1 ∨ kd = 2) (hf : ¬ Fo kd me at1 pr has ee ki pe m) :
    Calls Tryz.prog 89 #[.pointer (some ⟨B, 9, none⟩), .agg #[.int .i64 kd, .int .i64 id, .int .i64 me, .int .i64 at1, .int .i64 pr, .bool has, .int .i64 ee, .int .i64 ki, .int .i64 pe, .slice a m c1]] w fun e w' => e = .returned (.int .i64 1) ∧ New w w' := by
  have hw := (New.refl w).alloc (.cells #[.int .i64 kd, .int .i64 id, .int .i64 me, .int .i64 at1, .int .i64 pr, .bool has, .int .i64 ee, .int .i64 ki, .int .i64 pe, .slice a m c1] 105)
  have b0 := hb.new hw
  have b1 := Blk.mk w w.heap.size 105 #[.int .i64 kd, .int .i64 id, .int .i64 me, .int .i64 at1, .int .i64 pr, .bool has, .int .i64 ee, .int .i64 ki, .int .i64 pe, .slice a m c1] rfl
  have kt : (id != id) = false := by simp
  go_enter Tryz.func89, Tryz.ntmps89
  go_upto_region 1 with fail
  generalize w.alloc (.cells #[.int .i64 kd, .int .i64 id, .int .i64 me, .int .i64 at1, .int .i64 pr, .bool has, .int .i64 ee, .int .i64 ki, .int .i64 pe, .slice a m c1] 105) = w0 at *
  have C0 := blk_regrown b0
  have C1 := blk_regrown b1
  refine wp_region_quiet_below (by kernel_rfl) (by kernel_rfl) ?_
  repeat (go_big_quiet_step ((go_at_call 88; exact calls_regrown_same (in_yes kd 1 2 _ hk))))
  refine wpQuiet_nil ?_
  rintro w2 hn2
  replace hn2 := new_of_regrown hn2
  have hw2 := hw.trans hn2
  have b2 := b1.new hn2
  have c2 := b2.cells
  clear C0 C1
  go_wp2_with fail
  refine (sepoch_yes me _ hme).mono ?_
  rintro e wz ⟨rfl, hwz⟩
  obtain rfl := hwz.symm
  go_wp2_with fail
  refine (in_yes at1 0 100 _ hat).mono ?_
  rintro e wz ⟨rfl, hwz⟩
  obtain rfl := hwz.symm
  go_wp2_with fail
  refine (in_yes pr 0 1000 _ hpr).mono ?_
  rintro e wz ⟨rfl, hwz⟩
  obtain rfl := hwz.symm
  go_wp2_with fail
  refine (form_n kd id me at1 pr has ee ki pe a m c1 _ hm hkk (by omega) hf).mono ?_
  rintro e w3 ⟨rfl, hn3⟩
  go_wp2
  go_ret
  exact ⟨rfl, hw2.trans hn3⟩

set_option maxHeartbeats 1600000 in
theorem lm7_b (B : Nat) (id : Int) (up : Bool) (ro ep su ma ot co : Int) (A : Option Addr) (n c : Nat) (kd me at1 pr : Int) (ee ki pe : Int) (a : Option Addr) (m c1 : Nat) (w : World) (hb : Blk w B 98 #[vx0, vx1, vx2, vx3, vx4, vx5, vx6, vx7, vx8, .int .i64 id, .bool up, .int .i64 ro, .int .i64 ep, .slice A n c, .int .i64 su, .int .i64 ma, .int .i64 ot, .int .i64 co]) (hm : m ≤ 1048576) (hk : 1 ≤ kd ∧ kd ≤ 2) (hme : 1 ≤ me ∧ me ≤ 1000) (hat : 0 ≤ at1 ∧ at1 ≤ 100) (hpr : 0 ≤ pr ∧ pr ≤ 1000) (hkk : kd = 1 ∨ kd = 2) (hf : Fo kd me at1 pr false ee ki pe m) :
    Calls Tryz.prog 89 #[.pointer (some ⟨B, 9, none⟩), .agg #[.int .i64 kd, .int .i64 id, .int .i64 me, .int .i64 at1, .int .i64 pr, .bool false, .int .i64 ee, .int .i64 ki, .int .i64 pe, .slice a m c1]] w fun e w' => e = .returned (.int .i64 0) ∧ New w w' := by
  have hw := (New.refl w).alloc (.cells #[.int .i64 kd, .int .i64 id, .int .i64 me, .int .i64 at1, .int .i64 pr, .bool false, .int .i64 ee, .int .i64 ki, .int .i64 pe, .slice a m c1] 105)
  have b0 := hb.new hw
  have b1 := Blk.mk w w.heap.size 105 #[.int .i64 kd, .int .i64 id, .int .i64 me, .int .i64 at1, .int .i64 pr, .bool false, .int .i64 ee, .int .i64 ki, .int .i64 pe, .slice a m c1] rfl
  have kt : (id != id) = false := by simp
  go_enter Tryz.func89, Tryz.ntmps89
  go_upto_region 1 with fail
  generalize w.alloc (.cells #[.int .i64 kd, .int .i64 id, .int .i64 me, .int .i64 at1, .int .i64 pr, .bool false, .int .i64 ee, .int .i64 ki, .int .i64 pe, .slice a m c1] 105) = w0 at *
  have C0 := blk_regrown b0
  have C1 := blk_regrown b1
  refine wp_region_quiet_below (by kernel_rfl) (by kernel_rfl) ?_
  repeat (go_big_quiet_step ((go_at_call 88; exact calls_regrown_same (in_yes kd 1 2 _ hk))))
  refine wpQuiet_nil ?_
  rintro w2 hn2
  replace hn2 := new_of_regrown hn2
  have hw2 := hw.trans hn2
  have b2 := b1.new hn2
  have c2 := b2.cells
  clear C0 C1
  go_wp2_with fail
  refine (sepoch_yes me _ hme).mono ?_
  rintro e wz ⟨rfl, hwz⟩
  obtain rfl := hwz.symm
  go_wp2_with fail
  refine (in_yes at1 0 100 _ hat).mono ?_
  rintro e wz ⟨rfl, hwz⟩
  obtain rfl := hwz.symm
  go_wp2_with fail
  refine (in_yes pr 0 1000 _ hpr).mono ?_
  rintro e wz ⟨rfl, hwz⟩
  obtain rfl := hwz.symm
  go_wp2_with fail
  refine (form_y kd id me at1 pr false ee ki pe a m c1 _ hm hkk (by omega) hf).mono ?_
  rintro e w3 ⟨rfl, hn3⟩
  have b3 := b2.new hn3
  have c3 := b3.cells
  have hw3 := hw2.trans hn3
  go_wp2
  go_ret
  exact ⟨rfl, hw3⟩

set_option maxHeartbeats 1600000 in
theorem lm8_b (B : Nat) (id : Int) (up : Bool) (ro ep su ma ot co : Int) (A : Option Addr) (n c : Nat) (kd me at1 pr : Int) (ee ki pe : Int) (a : Option Addr) (m c1 : Nat) (w : World) (hb : Blk w B 98 #[vx0, vx1, vx2, vx3, vx4, vx5, vx6, vx7, vx8, .int .i64 id, .bool up, .int .i64 ro, .int .i64 ep, .slice A n c, .int .i64 su, .int .i64 ma, .int .i64 ot, .int .i64 co]) (hm : m ≤ 1048576) (hk : 1 ≤ kd ∧ kd ≤ 2) (hme : 1 ≤ me ∧ me ≤ 1000) (hat : 0 ≤ at1 ∧ at1 ≤ 100) (hpr : 0 ≤ pr ∧ pr ≤ 1000) (hkk : kd = 1 ∨ kd = 2) (hf : Fo kd me at1 pr true ee ki pe m) (v : Int) (he : enF ee ki pe m = v) (hv : ¬ v = 0) :
    Calls Tryz.prog 89 #[.pointer (some ⟨B, 9, none⟩), .agg #[.int .i64 kd, .int .i64 id, .int .i64 me, .int .i64 at1, .int .i64 pr, .bool true, .int .i64 ee, .int .i64 ki, .int .i64 pe, .slice a m c1]] w fun e w' => e = .returned (.int .i64 v) ∧ New w w' := by
  have hw := (New.refl w).alloc (.cells #[.int .i64 kd, .int .i64 id, .int .i64 me, .int .i64 at1, .int .i64 pr, .bool true, .int .i64 ee, .int .i64 ki, .int .i64 pe, .slice a m c1] 105)
  have b0 := hb.new hw
  have b1 := Blk.mk w w.heap.size 105 #[.int .i64 kd, .int .i64 id, .int .i64 me, .int .i64 at1, .int .i64 pr, .bool true, .int .i64 ee, .int .i64 ki, .int .i64 pe, .slice a m c1] rfl
  have kt : (id != id) = false := by simp
  go_enter Tryz.func89, Tryz.ntmps89
  go_upto_region 1 with fail
  generalize w.alloc (.cells #[.int .i64 kd, .int .i64 id, .int .i64 me, .int .i64 at1, .int .i64 pr, .bool true, .int .i64 ee, .int .i64 ki, .int .i64 pe, .slice a m c1] 105) = w0 at *
  have C0 := blk_regrown b0
  have C1 := blk_regrown b1
  refine wp_region_quiet_below (by kernel_rfl) (by kernel_rfl) ?_
  repeat (go_big_quiet_step ((go_at_call 88; exact calls_regrown_same (in_yes kd 1 2 _ hk))))
  refine wpQuiet_nil ?_
  rintro w2 hn2
  replace hn2 := new_of_regrown hn2
  have hw2 := hw.trans hn2
  have b2 := b1.new hn2
  have c2 := b2.cells
  clear C0 C1
  go_wp2_with fail
  refine (sepoch_yes me _ hme).mono ?_
  rintro e wz ⟨rfl, hwz⟩
  obtain rfl := hwz.symm
  go_wp2_with fail
  refine (in_yes at1 0 100 _ hat).mono ?_
  rintro e wz ⟨rfl, hwz⟩
  obtain rfl := hwz.symm
  go_wp2_with fail
  refine (in_yes pr 0 1000 _ hpr).mono ?_
  rintro e wz ⟨rfl, hwz⟩
  obtain rfl := hwz.symm
  go_wp2_with fail
  refine (form_y kd id me at1 pr true ee ki pe a m c1 _ hm hkk (by omega) hf).mono ?_
  rintro e w3 ⟨rfl, hn3⟩
  have b3 := b2.new hn3
  have c3 := b3.cells
  have hw3 := hw2.trans hn3
  go_wp2_with fail
  refine (specENv v ee ki pe a m c1 _ hm he).mono ?_
  rintro e w4 ⟨rfl, hn4⟩
  have c4 := (b3.new hn4).cells
  go_wp2
  go_ret
  exact ⟨rfl, hw3.trans hn4⟩

set_option maxHeartbeats 1600000 in
theorem lm9_b (B : Nat) (id : Int) (up : Bool) (ro ep su ma ot co : Int) (A : Option Addr) (n c : Nat) (kd me at1 pr : Int) (ee ki pe : Int) (a : Option Addr) (m c1 : Nat) (w : World) (hb : Blk w B 98 #[vx0, vx1, vx2, vx3, vx4, vx5, vx6, vx7, vx8, .int .i64 id, .bool up, .int .i64 ro, .int .i64 ep, .slice A n c, .int .i64 su, .int .i64 ma, .int .i64 ot, .int .i64 co]) (hm : m ≤ 1048576) (hk : 1 ≤ kd ∧ kd ≤ 2) (hme : 1 ≤ me ∧ me ≤ 1000) (hat : 0 ≤ at1 ∧ at1 ≤ 100) (hpr : 0 ≤ pr ∧ pr ≤ 1000) (hkk : kd = 1 ∨ kd = 2) (hf : Fo kd me at1 pr true ee ki pe m) (he : enF ee ki pe m = 0) (h1 : me < ee) :
    Calls Tryz.prog 89 #[.pointer (some ⟨B, 9, none⟩), .agg #[.int .i64 kd, .int .i64 id, .int .i64 me, .int .i64 at1, .int .i64 pr, .bool true, .int .i64 ee, .int .i64 ki, .int .i64 pe, .slice a m c1]] w fun e w' => e = .returned (.int .i64 1) ∧ New w w' := by
  have hw := (New.refl w).alloc (.cells #[.int .i64 kd, .int .i64 id, .int .i64 me, .int .i64 at1, .int .i64 pr, .bool true, .int .i64 ee, .int .i64 ki, .int .i64 pe, .slice a m c1] 105)
  have b0 := hb.new hw
  have b1 := Blk.mk w w.heap.size 105 #[.int .i64 kd, .int .i64 id, .int .i64 me, .int .i64 at1, .int .i64 pr, .bool true, .int .i64 ee, .int .i64 ki, .int .i64 pe, .slice a m c1] rfl
  have kt : (id != id) = false := by simp
  go_enter Tryz.func89, Tryz.ntmps89
  go_upto_region 1 with fail
  generalize w.alloc (.cells #[.int .i64 kd, .int .i64 id, .int .i64 me, .int .i64 at1, .int .i64 pr, .bool true, .int .i64 ee, .int .i64 ki, .int .i64 pe, .slice a m c1] 105) = w0 at *
  have C0 := blk_regrown b0
  have C1 := blk_regrown b1
  refine wp_region_quiet_below (by kernel_rfl) (by kernel_rfl) ?_
  repeat (go_big_quiet_step ((go_at_call 88; exact calls_regrown_same (in_yes kd 1 2 _ hk))))
  refine wpQuiet_nil ?_
  rintro w2 hn2
  replace hn2 := new_of_regrown hn2
  have hw2 := hw.trans hn2
  have b2 := b1.new hn2
  have c2 := b2.cells
  clear C0 C1
  go_wp2_with fail
  refine (sepoch_yes me _ hme).mono ?_
  rintro e wz ⟨rfl, hwz⟩
  obtain rfl := hwz.symm
  go_wp2_with fail
  refine (in_yes at1 0 100 _ hat).mono ?_
  rintro e wz ⟨rfl, hwz⟩
  obtain rfl := hwz.symm
  go_wp2_with fail
  refine (in_yes pr 0 1000 _ hpr).mono ?_
  rintro e wz ⟨rfl, hwz⟩
  obtain rfl := hwz.symm
  go_wp2_with fail
  refine (form_y kd id me at1 pr true ee ki pe a m c1 _ hm hkk (by omega) hf).mono ?_
  rintro e w3 ⟨rfl, hn3⟩
  have b3 := b2.new hn3
  have c3 := b3.cells
  have hw3 := hw2.trans hn3
  go_wp2_with fail
  refine (specENv 0 ee ki pe a m c1 _ hm he).mono ?_
  rintro e w4 ⟨rfl, hn4⟩
  have c4 := (b3.new hn4).cells
  go_wp2
  go_ret
  exact ⟨rfl, hw3.trans hn4⟩

set_option maxHeartbeats 1600000 in
theorem lmA_b (B : Nat) (id : Int) (up : Bool) (ro ep su ma ot co : Int) (A : Option Addr) (n c : Nat) (kd me at1 pr : Int) (ee ki pe : Int) (a : Option Addr) (m c1 : Nat) (w : World) (hb : Blk w B 98 #[vx0, vx1, vx2, vx3, vx4, vx5, vx6, vx7, vx8, .int .i64 id, .bool up, .int .i64 ro, .int .i64 ep, .slice A n c, .int .i64 su, .int .i64 ma, .int .i64 ot, .int .i64 co]) (hm : m ≤ 1048576) (hk : 1 ≤ kd ∧ kd ≤ 2) (hme : 1 ≤ me ∧ me ≤ 1000) (hat : 0 ≤ at1 ∧ at1 ≤ 100) (hpr : 0 ≤ pr ∧ pr ≤ 1000) (hkk : kd = 1 ∨ kd = 2) (hf : Fo kd me at1 pr true ee ki pe m) (he : enF ee ki pe m = 0) (h1 : ¬ me < ee) (h2 : ee < pr) :
    Calls Tryz.prog 89 #[.pointer (some ⟨B, 9, none⟩), .agg #[.int .i64 kd, .int .i64 id, .int .i64 me, .int .i64 at1, .int .i64 pr, .bool true, .int .i64 ee, .int .i64 ki, .int .i64 pe, .slice a m c1]] w fun e w' => e = .returned (.int .i64 1) ∧ New w w' := by
  have hw := (New.refl w).alloc (.cells #[.int .i64 kd, .int .i64 id, .int .i64 me, .int .i64 at1, .int .i64 pr, .bool true, .int .i64 ee, .int .i64 ki, .int .i64 pe, .slice a m c1] 105)
  have b0 := hb.new hw
  have b1 := Blk.mk w w.heap.size 105 #[.int .i64 kd, .int .i64 id, .int .i64 me, .int .i64 at1, .int .i64 pr, .bool true, .int .i64 ee, .int .i64 ki, .int .i64 pe, .slice a m c1] rfl
  have kt : (id != id) = false := by simp
  go_enter Tryz.func89, Tryz.ntmps89
  go_upto_region 1 with fail
  generalize w.alloc (.cells #[.int .i64 kd, .int .i64 id, .int .i64 me, .int .i64 at1, .int .i64 pr, .bool true, .int .i64 ee, .int .i64 ki, .int .i64 pe, .slice a m c1] 105) = w0 at *
  have C0 := blk_regrown b0
  have C1 := blk_regrown b1
  refine wp_region_quiet_below (by kernel_rfl) (by kernel_rfl) ?_
  repeat (go_big_quiet_step ((go_at_call 88; exact calls_regrown_same (in_yes kd 1 2 _ hk))))
  refine wpQuiet_nil ?_
  rintro w2 hn2
  replace hn2 := new_of_regrown hn2
  have hw2 := hw.trans hn2
  have b2 := b1.new hn2
  have c2 := b2.cells
  clear C0 C1
  go_wp2_with fail
  refine (sepoch_yes me _ hme).mono ?_
  rintro e wz ⟨rfl, hwz⟩
  obtain rfl := hwz.symm
  go_wp2_with fail
  refine (in_yes at1 0 100 _ hat).mono ?_
  rintro e wz ⟨rfl, hwz⟩
  obtain rfl := hwz.symm
  go_wp2_with fail
  refine (in_yes pr 0 1000 _ hpr).mono ?_
  rintro e wz ⟨rfl, hwz⟩
  obtain rfl := hwz.symm
  go_wp2_with fail
  refine (form_y kd id me at1 pr true ee ki pe a m c1 _ hm hkk (by omega) hf).mono ?_
  rintro e w3 ⟨rfl, hn3⟩
  have b3 := b2.new hn3
  have c3 := b3.cells
  have hw3 := hw2.trans hn3
  go_wp2_with fail
  refine (specENv 0 ee ki pe a m c1 _ hm he).mono ?_
  rintro e w4 ⟨rfl, hn4⟩
  have c4 := (b3.new hn4).cells
  go_wp2
  go_ret
  exact ⟨rfl, hw3.trans hn4⟩

set_option maxHeartbeats 1600000 in
theorem lmB_b (B : Nat) (id : Int) (up : Bool) (ro ep su ma ot co : Int) (A : Option Addr) (n c : Nat) (kd me at1 pr : Int) (ee ki pe : Int) (a : Option Addr) (m c1 : Nat) (w : World) (hb : Blk w B 98 #[vx0, vx1, vx2, vx3, vx4, vx5, vx6, vx7, vx8, .int .i64 id, .bool up, .int .i64 ro, .int .i64 ep, .slice A n c, .int .i64 su, .int .i64 ma, .int .i64 ot, .int .i64 co]) (hm : m ≤ 1048576) (hk : 1 ≤ kd ∧ kd ≤ 2) (hme : 1 ≤ me ∧ me ≤ 1000) (hat : 0 ≤ at1 ∧ at1 ≤ 100) (hpr : 0 ≤ pr ∧ pr ≤ 1000) (hkk : kd = 1 ∨ kd = 2) (hf : Fo kd me at1 pr true ee ki pe m) (he : enF ee ki pe m = 0) (h1 : ¬ me < ee) (h2 : ¬ ee < pr) :
    Calls Tryz.prog 89 #[.pointer (some ⟨B, 9, none⟩), .agg #[.int .i64 kd, .int .i64 id, .int .i64 me, .int .i64 at1, .int .i64 pr, .bool true, .int .i64 ee, .int .i64 ki, .int .i64 pe, .slice a m c1]] w fun e w' => e = .returned (.int .i64 0) ∧ New w w' := by
  have hw := (New.refl w).alloc (.cells #[.int .i64 kd, .int .i64 id, .int .i64 me, .int .i64 at1, .int .i64 pr, .bool true, .int .i64 ee, .int .i64 ki, .int .i64 pe, .slice a m c1] 105)
  have b0 := hb.new hw
  have b1 := Blk.mk w w.heap.size 105 #[.int .i64 kd, .int .i64 id, .int .i64 me, .int .i64 at1, .int .i64 pr, .bool true, .int .i64 ee, .int .i64 ki, .int .i64 pe, .slice a m c1] rfl
  have kt : (id != id) = false := by simp
  go_enter Tryz.func89, Tryz.ntmps89
  go_upto_region 1 with fail
  generalize w.alloc (.cells #[.int .i64 kd, .int .i64 id, .int .i64 me, .int .i64 at1, .int .i64 pr, .bool true, .int .i64 ee, .int .i64 ki, .int .i64 pe, .slice a m c1] 105) = w0 at *
  have C0 := blk_regrown b0
  have C1 := blk_regrown b1
  refine wp_region_quiet_below (by kernel_rfl) (by kernel_rfl) ?_
  repeat (go_big_quiet_step ((go_at_call 88; exact calls_regrown_same (in_yes kd 1 2 _ hk))))
  refine wpQuiet_nil ?_
  rintro w2 hn2
  replace hn2 := new_of_regrown hn2
  have hw2 := hw.trans hn2
  have b2 := b1.new hn2
  have c2 := b2.cells
  clear C0 C1
  go_wp2_with fail
  refine (sepoch_yes me _ hme).mono ?_
  rintro e wz ⟨rfl, hwz⟩
  obtain rfl := hwz.symm
  go_wp2_with fail
  refine (in_yes at1 0 100 _ hat).mono ?_
  rintro e wz ⟨rfl, hwz⟩
  obtain rfl := hwz.symm
  go_wp2_with fail
  refine (in_yes pr 0 1000 _ hpr).mono ?_
  rintro e wz ⟨rfl, hwz⟩
  obtain rfl := hwz.symm
  go_wp2_with fail
  refine (form_y kd id me at1 pr true ee ki pe a m c1 _ hm hkk (by omega) hf).mono ?_
  rintro e w3 ⟨rfl, hn3⟩
  have b3 := b2.new hn3
  have c3 := b3.cells
  have hw3 := hw2.trans hn3
  go_wp2_with fail
  refine (specENv 0 ee ki pe a m c1 _ hm he).mono ?_
  rintro e w4 ⟨rfl, hn4⟩
  have c4 := (b3.new hn4).cells
  go_wp2
  go_ret
  exact ⟨rfl, hw3.trans hn4⟩

theorem l12M_any_b (B : Nat) (id : Int) (up : Bool) (ro ep su ma ot co : Int) (A : Option Addr) (n c : Nat) (kd tgt me at1 pr : Int) (has : Bool) (ee ki pe : Int) (a : Option Addr) (m c1 : Nat) (w : World) (hb : Blk w B 98 #[vx0, vx1, vx2, vx3, vx4, vx5, vx6, vx7, vx8, .int .i64 id, .bool up, .int .i64 ro, .int .i64 ep, .slice A n c, .int .i64 su, .int .i64 ma, .int .i64 ot, .int .i64 co]) (hm : m ≤ 1048576) :
    Calls Tryz.prog 89 #[.pointer (some ⟨B, 9, none⟩), .agg #[.int .i64 kd, .int .i64 tgt, .int .i64 me, .int .i64 at1, .int .i64 pr, .bool has, .int .i64 ee, .int .i64 ki, .int .i64 pe, .slice a m c1]] w fun e w' => e = .returned (.int .i64 (mlF id kd tgt me at1 pr has ee ki pe m)) ∧ New w w' := by
  unfold mlF
  by_cases hk : kd = 1 ∨ kd = 2
  case neg => rw [if_pos (fun k => hk k.1)]; exact lm1_b B id up ro ep su ma ot co A n c kd tgt me at1 pr has ee ki pe a m c1 w hb hm (by omega)
  have hk' : 1 ≤ kd ∧ kd ≤ 2 := by omega
  by_cases ht : tgt = id
  case neg => rw [if_pos (fun k => ht k.2)]; exact lm2_b B id up ro ep su ma ot co A n c kd tgt me at1 pr has ee ki pe a m c1 w hb hm hk' ht
  rw [if_neg (fun k => k ⟨hk, ht⟩)]
  subst ht
  by_cases hme : 1 ≤ me ∧ me ≤ 1000
  case neg => rw [if_pos (fun k => hme k.1)]; exact lm3_b B tgt up ro ep su ma ot co A n c kd me at1 pr has ee ki pe a m c1 w hb hm hk' (by omega)
  by_cases hat : 0 ≤ at1 ∧ at1 ≤ 100
  case neg => rw [if_pos (fun k => hat k.2.1)]; exact lm4_b B tgt up ro ep su ma ot co A n c kd me at1 pr has ee ki pe a m c1 w hb hm hk' hme (by omega)
  by_cases hpr : 0 ≤ pr ∧ pr ≤ 1000
  case neg => rw [if_pos (fun k => hpr k.2.2)]; exact lm5_b B tgt up ro ep su ma ot co A n c kd me at1 pr has ee ki pe a m c1 w hb hm hk' hme hat (by omega)
  rw [if_neg (fun k => k ⟨hme, hat, hpr⟩)]
  by_cases hf : (kd = 2 → pr = 0) ∧ (kd ≠ 2 → ((at1 = 0 → pr = 0) ∧ (pr = 0 → at1 = 0)) ∧ pr ≤ me)
  case neg => rw [if_pos hf]; exact lm6_b B tgt up ro ep su ma ot co A n c kd me at1 pr has ee ki pe a m c1 w hb hm hk' hme hat hpr hk (fun k => hf k.1)
  rw [if_neg (fun k => k hf)]
  cases has with
  | true =>
    rcases hk with rfl | rfl
    · rw [if_pos ⟨rfl, rfl⟩]
      have hF : Fo 1 me at1 pr true ee ki pe m := ⟨hf, .inl ⟨rfl, rfl⟩⟩
      unfold efF
      by_cases he : enF ee ki pe m = 0
      · rw [if_neg (fun k => k he)]
        by_cases h1 : me < ee
        · rw [if_pos (.inl h1)]; exact lm9_b B tgt up ro ep su ma ot co A n c 1 me at1 pr ee ki pe a m c1 w hb hm hk' hme hat hpr (.inl rfl) hF he h1
        · by_cases h2 : ee < pr
          · rw [if_pos (.inr h2)]; exact lmA_b B tgt up ro ep su ma ot co A n c 1 me at1 pr ee ki pe a m c1 w hb hm hk' hme hat hpr (.inl rfl) hF he h1 h2
          · rw [if_neg (by omega)]; exact lmB_b B tgt up ro ep su ma ot co A n c 1 me at1 pr ee ki pe a m c1 w hb hm hk' hme hat hpr (.inl rfl) hF he h1 h2
      · rw [if_pos he]; exact lm8_b B tgt up ro ep su ma ot co A n c 1 me at1 pr ee ki pe a m c1 w hb hm hk' hme hat hpr (.inl rfl) hF _ rfl he
    · rw [if_neg (by omega), if_pos (.inl rfl)]
      exact lm6_b B tgt up ro ep su ma ot co A n c 2 me at1 pr true ee ki pe a m c1 w hb hm hk' hme hat hpr (.inr rfl) (fun k => by rcases k.2 with ⟨e, -⟩ | ⟨e, -⟩; omega; cases e)
  | false =>
    rw [if_neg (by simp)]
    by_cases hz : ee = 0 ∧ ki = 0 ∧ pe = 0 ∧ m = 0
    · rw [if_neg (fun k => by rcases k with k | k; cases k; exact k hz)]
      exact lm7_b B tgt up ro ep su ma ot co A n c kd me at1 pr ee ki pe a m c1 w hb hm hk' hme hat hpr hk ⟨hf, .inr ⟨rfl, hz⟩⟩
    · rw [if_pos (.inr hz)]
      exact lm6_b B tgt up ro ep su ma ot co A n c kd me at1 pr false ee ki pe a m c1 w hb hm hk' hme hat hpr hk (fun k => by rcases k.2 with ⟨-, e⟩ | ⟨-, e⟩; cases e; exact hz e)

end Go.Proofs.YtkbdmcimgepakaaGreat

namespace Go.Proofs.YtkbdmcimgepakaaGreat
open Go.RowKit Go.Sort Go.Deep
set_option linter.unusedVariables false
set_option linter.unusedSimpArgs false

theorem l1In_yes01 (x : Int) (w : World) (h : x = 0 ∨ x = 1) : Calls Tryz.prog 88 #[.int .i64 x, .int .i64 0, .int .i64 1] w fun e w' => e = .returned (.bool true) ∧ w' = w := in_yes x 0 1 w (by omega)
theorem l1In_no01 (x : Int) (w : World) (h : ¬ (x = 0 ∨ x = 1)) : Calls Tryz.prog 88 #[.int .i64 x, .int .i64 0, .int .i64 1] w fun e w' => e = .returned (.bool false) ∧ w' = w := in_no x 0 1 w (by omega)

set_option maxHeartbeats 3200000 in
theorem nodesS (sa si ho nx : Int) (a1 a2 aW aM aS : Option Addr) (n1 c1 n2 c2 cN nW cW nM cM nS cS : Nat) (r1 r2 : List Ru) (id0 : Int) (up0 : Bool) (ro0 ep0 su0 ma0 ot0 co0 : Int) (x0 : Option Addr) (m0 d0 : Nat) (xs0 : List EkV) (id1 : Int) (up1 : Bool) (ro1 ep1 su1 ma1 ot1 co1 : Int) (x1 : Option Addr) (m1 d1 : Nat) (xs1 : List EkV) (g B : Nat) (w : World) (hb : Blk w B 44 #[.int .i64 sa, .int .i64 si, .int .i64 ho, .int .i64 nx, .slice a1 n1 c1, .slice a2 n2 c2, .slice (some ⟨g, 0, none⟩) 2 cN, .slice aW nW cW, .slice aM nM cM, .slice aS nS cS]) (hg : Blk w g 98 #[.int .i64 id0, .bool up0, .int .i64 ro0, .int .i64 ep0, .slice x0 m0 d0, .int .i64 su0, .int .i64 ma0, .int .i64 ot0, .int .i64 co0, .int .i64 id1, .bool up1, .int .i64 ro1, .int .i64 ep1, .slice x1 m1 d1, .int .i64 su1, .int .i64 ma1, .int .i64 ot1, .int .i64 co1]) (h0 : LgAt w x0 xs0) (h1 : LgAt w x1 xs1) (e0 : xs0.length = m0) (e1 : xs1.length = m1) (k0 : m0 ≤ 1048576) (k1 : m1 ≤ 1048576) (v : Int) (hv : (if (if nF id0 up0 ro0 ep0 su0 ma0 ot0 co0 m0 (xs0.map EkV.r) ≠ 0 then nF id0 up0 ro0 ep0 su0 ma0 ot0 co0 m0 (xs0.map EkV.r) else if id0 ≠ 0 then 1 else 0) ≠ 0 then (if nF id0 up0 ro0 ep0 su0 ma0 ot0 co0 m0 (xs0.map EkV.r) ≠ 0 then nF id0 up0 ro0 ep0 su0 ma0 ot0 co0 m0 (xs0.map EkV.r) else if id0 ≠ 0 then 1 else 0) else (if nF id1 up1 ro1 ep1 su1 ma1 ot1 co1 m1 (xs1.map EkV.r) ≠ 0 then nF id1 up1 ro1 ep1 su1 ma1 ot1 co1 m1 (xs1.map EkV.r) else if id1 ≠ 1 then 1 else 0)) = v) :
    Calls Tryz.prog 51 #[.pointer (some ⟨B, 0, none⟩)] w fun e w' => e = .returned (.int .i64 v) ∧ New w w' := by
  have cB := hb.cells
  go_enter Tryz.func51, Tryz.ntmps51
  go_wp2
  refine wp_loop_rounds 3 ?_
  rw [rounds_succ]
  go_wp2_with fail
  refine (specNFw_a _ g id0 up0 ro0 ep0 su0 ma0 ot0 co0 x0 m0 d0 xs0 _ hg h0 e0 (by omega) rfl).mono ?_
  rintro e w1 ⟨rfl, hn1⟩
  have cB1 := (hb.new hn1).cells
  have cG1 := (hg.new hn1).cells
  clear cB
  generalize nF id0 up0 ro0 ep0 su0 ma0 ot0 co0 m0 (xs0.map EkV.r) = f at *
  by_cases hf : f = 0
  case neg =>
    obtain rfl : f = v := (pick3 hv).1 hf
    go_wp2
    go_ret
    exact ⟨rfl, hn1⟩
  by_cases hi : id0 = 0
  case neg =>
    obtain rfl : (1 : Int) = v := (pick3 hv).2.1 hf hi
    subst hf
    have hne : (id0 != 0) = true := by simpa using hi
    go_wp2
    go_ret
    exact ⟨rfl, hn1⟩
  replace hv := (pick3 hv).2.2 hf hi
  subst hf
  subst hi
  have hne : ((0 : Int) != 0) = false := by simp
  go_wp2_with fail
  rw [rounds_succ]
  go_wp2_with fail
  refine (specNFw_b _ g id1 up1 ro1 ep1 su1 ma1 ot1 co1 x1 m1 d1 xs1 _ (hg.new hn1) (h1.new hn1) e1 (by omega) rfl).mono ?_
  rintro e w2 ⟨rfl, hn2⟩
  have hw2 := hn1.trans hn2
  have cB2 := (hb.new hw2).cells
  have cG2 := (hg.new hw2).cells
  clear cB1 cG1
  generalize nF id1 up1 ro1 ep1 su1 ma1 ot1 co1 m1 (xs1.map EkV.r) = f at *
  by_cases hf : f = 0
  case neg =>
    obtain rfl : f = v := (pick2 hv).1 hf
    go_wp2
    go_ret
    exact ⟨rfl, hw2⟩
  by_cases hi : id1 = 1
  case neg =>
    obtain rfl : (1 : Int) = v := (pick2 hv).2.1 hf hi
    subst hf
    have hne : (id1 != 1) = true := by simpa using hi
    go_wp2
    go_ret
    exact ⟨rfl, hw2⟩
  obtain rfl : (0 : Int) = v := (pick2 hv).2.2 hf hi
  subst hf
  subst hi
  have hne : ((1 : Int) != 1) = false := by simp
  go_wp2_with fail
  rw [rounds_succ]
  go_wp2
  go_ret
  exact ⟨rfl, hw2⟩

set_option maxHeartbeats 6400000 in
theorem mailsS (sa si ho nx : Int) (a1 a2 aW aM aS : Option Addr) (n1 c1 n2 c2 cN nW cW nM cM nS cS : Nat) (r1 r2 : List Ru) (up0 : Bool) (ro0 ep0 su0 ma0 ot0 co0 : Int) (x0 : Option Addr) (m0 d0 : Nat) (xs0 : List EkV) (up1 : Bool) (ro1 ep1 su1 ma1 ot1 co1 : Int) (x1 : Option Addr) (m1 d1 : Nat) (xs1 : List EkV) (g B : Nat) (V : List MlV) (w : World) (hb : Blk w B 44 #[.int .i64 sa, .int .i64 si, .int .i64 ho, .int .i64 nx, .slice a1 n1 c1, .slice a2 n2 c2, .slice (some ⟨g, 0, none⟩) 2 cN, .slice aW nW cW, .slice aM nM cM, .slice aS nS cS]) (hg : Blk w g 98 #[.int .i64 0, .bool up0, .int .i64 ro0, .int .i64 ep0, .slice x0 m0 d0, .int .i64 su0, .int .i64 ma0, .int .i64 ot0, .int .i64 co0, .int .i64 1, .bool up1, .int .i64 ro1, .int .i64 ep1, .slice x1 m1 d1, .int .i64 su1, .int .i64 ma1, .int .i64 ot1, .int .i64 co1]) (h : MqAt w aM V) (hn : V.length = nM) (hm : nM ≤ 1048576) (v : Int) (hv : msF (V.map MlV.r) = v) :
    Calls Tryz.prog 53 #[.pointer (some ⟨B, 0, none⟩)] w fun e w' => e = .returned (.int .i64 v) ∧ New w w' := by
  have HN : Hid (V.length = nM) := hn
  have HV : Hid ((if 40 < nM then 2 else ffF m1F (V.map MlV.r)) = v) := by unfold Hid; rw [← hv, ← hn]; simp [msF]
  have cB := hb.cells
  clear hn hv
  by_cases hbig : 40 < nM
  · obtain rfl : (2 : Int) = v := by have := HV.out; rw [if_pos hbig] at this; exact this
    go_enter Tryz.func53, Tryz.ntmps53
    go_wp2
    go_ret
    exact ⟨rfl, New.refl _⟩
  have HF : Hid (ffF m1F ((V.map MlV.r).drop 0) = v) := by unfold Hid; have := HV.out; rw [if_neg hbig] at this; simpa using this
  clear HV
  go_enter Tryz.func53, Tryz.ntmps53
  go_wp2
  go_loopw [3] (fun i wr => ∃ (k : Nat), k ≤ nM ∧ i = .int .i64 k ∧ New w wr ∧ Hid (ffF m1F ((V.map MlV.r).drop k) = v)) (fun i _ => nM - (intOf i).toNat)
  case atStart => exact ⟨0, Nat.zero_le _, rfl, New.refl _, HF⟩
  case round =>
    obtain ⟨k, hk, rfl, hnw, hL⟩ := hrel
    clear cB
    have cB := (hb.new hnw).cells
    by_cases hlt : k < nM
    · obtain ⟨g2, kd, tgt, me, at1, pr, has, ee, ki, pe, x, m, d, xs, hg2, hv, hl, hx, hmx, q0, q1, q2, q3, q4, q5, q6, q7, q8, q9⟩ := (h.new hnw).at k (by have := HN.out; omega)
      subst hg2
      have HD : Hid ((if (if ¬ (tgt = 0 ∨ tgt = 1) then 1 else mlF tgt kd tgt me at1 pr has ee ki pe m) ≠ 0 then (if ¬ (tgt = 0 ∨ tgt = 1) then 1 else mlF tgt kd tgt me at1 pr has ee ki pe m) else ffF m1F ((V.map MlV.r).drop (k + 1))) = v) := by
        unfold Hid
        have h1 := ffF_at (g := m1F) (x := ⟨kd, tgt, me, at1, pr, has, ⟨ee, ki, pe, xs⟩⟩) (L := (V.map MlV.r)) (k := k) (by rw [List.getElem?_map, hv]; rfl)
        have h2 := hL.out
        rw [h1] at h2
        simp only [m1F, hl] at h2
        exact h2
      clear hv hl h hL
      by_cases ht : tgt = 0 ∨ tgt = 1
      case neg =>
        rw [if_pos ht] at HD
        obtain rfl : (1 : Int) = v := by have := HD.out; rw [if_pos (by decide)] at this; exact this
        go_wp2_with fail
        refine (l1In_no01 tgt _ ht).mono ?_
        rintro e w2 ⟨rfl, hw2⟩
        obtain rfl := hw2.symm
        go_wp2
        go_ret
        exact ⟨rfl, hnw⟩
      rw [if_neg (not_not_intro ht)] at HD
      go_wp2_with fail
      refine (l1In_yes01 tgt _ ht).mono ?_
      rintro e w2 ⟨rfl, hw2⟩
      obtain rfl := hw2.symm
      have bB := blk_regrown (hb.new hnw)
      have r1 := cell_regrown q1
      have r0 := cell_regrown q0
      have r2 := cell_regrown q2
      have r3 := cell_regrown q3
      have r4 := cell_regrown q4
      have r5 := cell_regrown q5
      have r6 := cell_regrown q6
      have r7 := cell_regrown q7
      have r8 := cell_regrown q8
      have r9 := cell_regrown q9
      have hP : Hid (∀ W, New wr W → Calls Tryz.prog 89 #[.pointer (some ⟨g, tgt.toNat * 9, none⟩), .agg #[.int .i64 kd, .int .i64 tgt, .int .i64 me, .int .i64 at1, .int .i64 pr, .bool has, .int .i64 ee, .int .i64 ki, .int .i64 pe, .slice x m d]] W fun e w' => e = .returned (.int .i64 (mlF tgt kd tgt me at1 pr has ee ki pe m)) ∧ New W w') := by
        intro W hW
        rcases ht with rfl | rfl
        · exact l12M_any_a g 0 up0 ro0 ep0 su0 ma0 ot0 co0 x0 m0 d0 kd 0 me at1 pr has ee ki pe x m d W ((hg.new hnw).new hW) hmx
        · exact l12M_any_b g 1 up1 ro1 ep1 su1 ma1 ot1 co1 x1 m1 d1 kd 1 me at1 pr has ee ki pe x m d W ((hg.new hnw).new hW) hmx
      generalize mlF tgt kd tgt me at1 pr has ee ki pe m = f at *
      have tb : 0 ≤ tgt ∧ tgt ≤ 1 := by omega
      have key : ∀ (t : Int), t = tgt → True := fun _ _ => trivial
      rcases ht with rfl | rfl
      · have hP' : ∀ W, New wr W → Calls Tryz.prog 89 #[.pointer (some ⟨g, 0, none⟩), .agg #[.int .i64 kd, .int .i64 0, .int .i64 me, .int .i64 at1, .int .i64 pr, .bool has, .int .i64 ee, .int .i64 ki, .int .i64 pe, .slice x m d]] W fun e w' => e = .returned (.int .i64 f) ∧ New W w' := hP.out
        go_wp2_with fail
        refine wp_region_quiet_below (by kernel_rfl) (by kernel_rfl) ?_
        repeat (go_big_quiet_step ((go_at_call 89; exact calls_regrown (hP' _ (new_regrown _ _ _)))))
        refine wpQuiet_nil ?_
        rintro w3 hn3
        replace hn3 := new_of_regrown hn3
        have hw3 := hnw.trans hn3
        clear q0 q1 q2 q3 q4 q5 q6 q7 q8 q9 bB r0 r1 r2 r3 r4 r5 r6 r7 r8 r9 hP hP'
        by_cases hf : f = 0
        · have HR : Hid (ffF m1F ((V.map MlV.r).drop (k + 1)) = v) := (pick1 HD.out).2 hf
          subst hf
          clear HD
          go_wp2
          go_roundw
          case rel => exact ⟨k + 1, by omega, by go_num, hw3, HR⟩
          case measure => simp [intOf]; omega
        · obtain rfl : f = v := (pick1 HD.out).1 hf
          go_wp2
          go_ret
          exact ⟨rfl, hw3⟩
      · have hP' : ∀ W, New wr W → Calls Tryz.prog 89 #[.pointer (some ⟨g, 9, none⟩), .agg #[.int .i64 kd, .int .i64 1, .int .i64 me, .int .i64 at1, .int .i64 pr, .bool has, .int .i64 ee, .int .i64 ki, .int .i64 pe, .slice x m d]] W fun e w' => e = .returned (.int .i64 f) ∧ New W w' := hP.out
        go_wp2_with fail
        refine wp_region_quiet_below (by kernel_rfl) (by kernel_rfl) ?_
        repeat (go_big_quiet_step ((go_at_call 89; exact calls_regrown (hP' _ (new_regrown _ _ _)))))
        refine wpQuiet_nil ?_
        rintro w3 hn3
        replace hn3 := new_of_regrown hn3
        have hw3 := hnw.trans hn3
        clear q0 q1 q2 q3 q4 q5 q6 q7 q8 q9 bB r0 r1 r2 r3 r4 r5 r6 r7 r8 r9 hP hP'
        by_cases hf : f = 0
        · have HR : Hid (ffF m1F ((V.map MlV.r).drop (k + 1)) = v) := (pick1 HD.out).2 hf
          subst hf
          clear HD
          go_wp2
          go_roundw
          case rel => exact ⟨k + 1, by omega, by go_num, hw3, HR⟩
          case measure => simp [intOf]; omega
        · obtain rfl : f = v := (pick1 HD.out).1 hf
          go_wp2
          go_ret
          exact ⟨rfl, hw3⟩
    · have HR : Hid ((0 : Int) = v) := by unfold Hid; rw [← hL.out, ffF_end (by have := HN.out; simp; omega)]
      obtain rfl := HR.out
      go_wp2
      go_ret
      exact ⟨rfl, hnw⟩

theorem row_blk14 {w : World} {g n size : Nat} {e : TypeId} {xs : List Value} (h : w.ownsRow 0 e size (.slice (some ⟨g, 0, none⟩) n n) n xs) : Blk w g e xs.toArray := by
  rcases h.2 with ⟨h1, -⟩ | ⟨g', cap, cur, h1, -, h3, -, -, h6, h7⟩
  · simp at h1
  · simp only [Value.slice.injEq, Option.some.injEq, Addr.mk.injEq, true_and, and_true] at h1
    obtain ⟨rfl, rfl⟩ := h1
    unfold Blk
    rw [h3, ← h7, ← h6, List.take_of_length_le (by simp)]
/-- The Ids of two nodes without a fault. -/
theorem nd_ids {x y : Int × Bool × Int × Int × Int × Int × Int × Int × List Ek} (h : ndF [x, y] = 0) : x.1 = 0 ∧ y.1 = 1 := by
  obtain ⟨i, u, ro, ep, su, ma, ot, co, L⟩ := x
  obtain ⟨i', u', ro', ep', su', ma', ot', co', L'⟩ := y
  have h1 : n1F 0 (i, u, ro, ep, su, ma, ot, co, L) = 0 := by
    simp only [ndF] at h
    by_cases hx : n1F 0 (i, u, ro, ep, su, ma, ot, co, L) = 0
    · exact hx
    · rw [if_pos hx] at h; exact h
  have h2 : n1F 1 (i', u', ro', ep', su', ma', ot', co', L') = 0 := by
    simp only [ndF] at h
    rw [if_neg (by simp [h1])] at h
    exact h
  simp only [n1F] at h1 h2
  constructor
  · show i = 0
    split at h1
    · rename_i hx; exact absurd h1 hx
    · split at h1
      · exact absurd h1 (by decide)
      · rename_i hi; exact Classical.not_not.1 hi
  · show i' = 1
    split at h2
    · rename_i hx; exact absurd h2 hx
    · split at h2
      · exact absurd h2 (by decide)
      · rename_i hi; exact Classical.not_not.1 hi

set_option maxHeartbeats 6400000 in
theorem specPaFp (sa si ho nx : Int) (a1 a2 aN aW aM aS : Option Addr) (n1 c1 n2 c2 nN cN nW cW nM cM nS cS : Nat) (r1 r2 : List Ru) (LN : List NdV) (LW : List WiV) (LM : List MlV) (LS : List EkV) (B : Nat) (w : World) (hb : Blk w B 44 #[.int .i64 sa, .int .i64 si, .int .i64 ho, .int .i64 nx, .slice a1 n1 c1, .slice a2 n2 c2, .slice aN nN cN, .slice aW nW cW, .slice aM nM cM, .slice aS nS cS]) (h : PAt w a1 a2 aN aW aM aS r1 r2 LN LW LM LS) (l1 : r1.length = n1) (l2 : r2.length = n2) (lN : LN.length = nN) (lW : LW.length = nW) (lM : LM.length = nM) (lS : LS.length = nS) (m1 : n1 ≤ 1048576) (m2 : n2 ≤ 1048576) (mN : nN ≤ 1048576) (mW : nW ≤ 1048576) (mM : nM ≤ 1048576) (mS : nS ≤ 1048576) (v : Int) (hv : pF sa si ho nx r1 r2 (LN.map NdV.r) (LW.map WiV.r) (LM.map MlV.r) (LS.map EkV.r) = v) :
    Calls Tryz.prog 23 #[.pointer (some ⟨B, 0, none⟩)] w fun e w' => e = .returned (.int .i64 v) ∧ New w w' := by
  have HV : Hid (q1F (stF sa si ho nx r1 r2) (if ¬ (nN = 2 ∧ nW = 3) then 1 else q1F (ndF (LN.map NdV.r)) (q1F (ffF w1F (LW.map WiV.r)) (q1F (msF (LM.map MlV.r)) (seF (LS.map EkV.r))))) = v) := by
    unfold Hid; rw [← hv]; simp only [pF, List.length_map, lN, lW]
  have LNh : Hid (LN.length = nN) := lN
  have LWh : Hid (LW.length = nW) := lW
  have LSh : Hid (LS.length = nS) := lS
  have c0 := hb.cells
  clear hv lN lW lS
  go_enter Tryz.func23, Tryz.ntmps23
  go_wp2_with fail
  refine (specSE sa si ho nx a1 a2 n1 c1 n2 c2 r1 r2 (stF sa si ho nx r1 r2) _ h.s1 h.s2 l1 l2 m1 m2 rfl).mono ?_
  rintro e w1 ⟨rfl, hn1⟩
  have b1 := hb.new hn1
  clear l1 l2 c0
  generalize stF sa si ho nx r1 r2 = f at *
  by_cases hf : f = 0
  case neg =>
    obtain rfl : f = v := (pickq HV.out).1 hf
    go_wp2
    go_ret
    exact ⟨rfl, hn1⟩
  subst hf
  have HV1 : Hid ((if ¬ (nN = 2 ∧ nW = 3) then 1 else q1F (ndF (LN.map NdV.r)) (q1F (ffF w1F (LW.map WiV.r)) (q1F (msF (LM.map MlV.r)) (seF (LS.map EkV.r))))) = v) := (pickq HV.out).2 rfl
  clear HV
  have c1' := b1.cells
  by_cases hl : nN = 2 ∧ nW = 3
  case neg =>
    obtain rfl : (1 : Int) = v := by have := HV1.out; rw [if_pos hl] at this; exact this
    by_cases hN : nN = 2
    · have hW : ¬ nW = 3 := fun e => hl ⟨hN, e⟩
      have e1 : ((nN : Int) != 2) = false := by simp; omega
      have e2 : ((nW : Int) != 3) = true := by simp; omega
      go_wp2
      go_ret
      exact ⟨rfl, hn1⟩
    · have e1 : ((nN : Int) != 2) = true := by simp; omega
      go_wp2
      go_ret
      exact ⟨rfl, hn1⟩
  obtain ⟨rfl, rfl⟩ := hl
  have HV2 : Hid (q1F (ndF (LN.map NdV.r)) (q1F (ffF w1F (LW.map WiV.r)) (q1F (msF (LM.map MlV.r)) (seF (LS.map EkV.r)))) = v) := by have := HV1.out; rw [if_neg (by simp)] at this; exact this
  clear HV1
  obtain ⟨v0, v1, rfl⟩ : ∃ v0 v1, LN = [v0, v1] := by
    have := LNh.out
    match LN, this with
    | [a, b], _ => exact ⟨a, b, rfl⟩
  obtain ⟨g, rfl, hrw⟩ := h.rowN
  have hg : Blk w g 98 #[.int .i64 v0.id, .bool v0.up, .int .i64 v0.ro, .int .i64 v0.ep, .slice v0.A v0.V.length v0.c, .int .i64 v0.su, .int .i64 v0.ma, .int .i64 v0.ot, .int .i64 v0.co, .int .i64 v1.id, .bool v1.up, .int .i64 v1.ro, .int .i64 v1.ep, .slice v1.A v1.V.length v1.c, .int .i64 v1.su, .int .i64 v1.ma, .int .i64 v1.ot, .int .i64 v1.co] := row_blk14 hrw
  obtain ⟨-, hA0, hT0⟩ := h.nd 0 v0 rfl
  obtain ⟨-, hA1, hT1⟩ := h.nd 1 v1 rfl
  have hE0 := totK_len v0.V
  have hE1 := totK_len v1.V
  have hID : Hid (ndF ([v0, v1].map NdV.r) = 0 → v0.id = 0 ∧ v1.id = 1) := fun e => nd_ids e
  have hND : Hid (ndF ([v0, v1].map NdV.r) = _) := rfl
  go_wp2_with fail
  refine (nodesS sa si ho nx a1 a2 aW aM aS n1 c1 n2 c2 cN 3 cW nM cM nS cS r1 r2 v0.id v0.up v0.ro v0.ep v0.su v0.ma v0.ot v0.co v0.A v0.V.length v0.c v0.V v1.id v1.up v1.ro v1.ep v1.su v1.ma v1.ot v1.co v1.A v1.V.length v1.c v1.V g B w1 b1 (hg.new hn1) (hA0.new hn1) (hA1.new hn1) rfl rfl (by omega) (by omega) (ndF ([v0, v1].map NdV.r)) (by simp only [ndF, List.map_cons, List.map_nil, NdV.r, n1F, List.length_map])).mono ?_
  rintro e w2 ⟨rfl, hn2⟩
  have hw2 := hn1.trans hn2
  have b2 := hb.new hw2
  clear c1' b1 hn2 hn1
  clear hND
  generalize ndF ([v0, v1].map NdV.r) = f at *
  by_cases hf : f = 0
  case neg =>
    obtain rfl : f = v := (pickq HV2.out).1 hf
    go_wp2
    go_ret
    exact ⟨rfl, hw2⟩
  obtain ⟨i0, i1⟩ := hID.out hf
  rw [i0, i1] at hg
  subst hf
  have HV3 : Hid (q1F (ffF w1F ((LW.map WiV.r).drop 0)) (q1F (msF (LM.map MlV.r)) (seF (LS.map EkV.r))) = v) := (pickq HV2.out).2 rfl
  clear HV2 hID
  have c2' := b2.cells
  go_wp2
  go_loopw [5] (fun i wr => ∃ (k : Nat), k ≤ 3 ∧ i = .int .i64 k ∧ New w2 wr ∧ Hid (q1F (ffF w1F ((LW.map WiV.r).drop k)) (q1F (msF (LM.map MlV.r)) (seF (LS.map EkV.r))) = v)) (fun i _ => 3 - (intOf i).toNat)
  case atStart => exact ⟨0, Nat.zero_le _, rfl, New.refl _, HV3⟩
  case round =>
    obtain ⟨k, hk, rfl, hnw, hL⟩ := hrel
    have hw3 := hw2.trans hnw
    have b3 := hb.new hw3
    clear c2'
    have c3 := b3.cells
    by_cases hlt : k < 3
    · obtain ⟨g2, E, T, x, x2, m, d, m2, d2, xs, ys, hg2, hv, hl1, hl2, hx, hx2, hmx, hmx2, q0, q1, q2, q3⟩ := (h.wi.new hw3).at k (by have := LWh.out; omega)
      subst hg2
      have HD : Hid (q1F (if wF E T m m2 ≠ 0 then wF E T m m2 else ffF w1F ((LW.map WiV.r).drop (k + 1))) (q1F (msF (LM.map MlV.r)) (seF (LS.map EkV.r))) = v) := by
        unfold Hid
        have h1 := ffF_at (g := w1F) (x := (E, T, xs, ys)) (L := (LW.map WiV.r)) (k := k) (by rw [List.getElem?_map, hv]; rfl)
        have h2 := hL.out
        rw [h1] at h2
        simp only [w1F, hl1, hl2] at h2
        exact h2
      clear hv hl1 hl2 hL
      go_wp2_with fail
      refine (specWF E T x x2 m d m2 d2 _ (by omega) (by omega)).mono ?_
      rintro e w4 ⟨rfl, hn4⟩
      have hw4 := hnw.trans hn4
      clear q0 q1 q2 q3
      generalize wF E T m m2 = f at *
      by_cases hf : f = 0
      · have HR : Hid (q1F (ffF w1F ((LW.map WiV.r).drop (k + 1))) (q1F (msF (LM.map MlV.r)) (seF (LS.map EkV.r))) = v) := by have h1 := HD.out; rw [if_neg (not_not_intro hf)] at h1; exact h1
        subst hf
        clear HD
        go_wp2
        go_roundw
        case rel => exact ⟨k + 1, by omega, by go_num, hw4, HR⟩
        case measure => simp [intOf]; omega
      · obtain rfl : f = v := by have h1 := HD.out; rw [if_pos hf] at h1; exact (pickq h1).1 hf
        go_wp2
        go_ret
        exact ⟨rfl, hw2.trans hw4⟩
    · have HR : Hid (q1F (msF (LM.map MlV.r)) (seF (LS.map EkV.r)) = v) := by
        unfold Hid
        have := hL.out
        rw [ffF_end (by have := LWh.out; simp; omega)] at this
        exact (pickq this).2 rfl
      clear hL
      go_wp2_with fail
      refine (mailsS sa si ho nx a1 a2 aW aM aS n1 c1 n2 c2 cN 3 cW nM cM nS cS r1 r2 v0.up v0.ro v0.ep v0.su v0.ma v0.ot v0.co v0.A v0.V.length v0.c v0.V v1.up v1.ro v1.ep v1.su v1.ma v1.ot v1.co v1.A v1.V.length v1.c v1.V g B LM _ b3 (hg.new hw3) (h.mq.new hw3) lM mM _ rfl).mono ?_
      rintro e w4 ⟨rfl, hn4⟩
      have hw4 := hw3.trans hn4
      have b4 := b3.new hn4
      clear c3 b3
      generalize msF (LM.map MlV.r) = f at *
      by_cases hf : f = 0
      case neg =>
        obtain rfl : f = v := (pickq HR.out).1 hf
        go_wp2
        go_ret
        exact ⟨rfl, hw4⟩
      subst hf
      have HS : Hid ((if 100 < nS then 2 else ffF e1F ((LS.map EkV.r).drop 0)) = v) := by have h1 := (pickq HR.out).2 rfl; unfold seF at h1; rw [List.length_map, LSh.out] at h1; exact h1
      clear HR
      have c4 := b4.cells
      by_cases hbig : 100 < nS
      · obtain rfl : (2 : Int) = v := by have := HS.out; rw [if_pos hbig] at this; exact this
        go_wp2
        go_ret
        exact ⟨rfl, hw4⟩
      have HF : Hid (ffF e1F ((LS.map EkV.r).drop 0) = v) := by have := HS.out; rw [if_neg hbig] at this; exact this
      clear HS
      go_wp2
      go_loopw [8] (fun i wr => ∃ (k : Nat), k ≤ nS ∧ i = .int .i64 k ∧ New w4 wr ∧ Hid (ffF e1F ((LS.map EkV.r).drop k) = v)) (fun i _ => nS - (intOf i).toNat)
      case atStart => exact ⟨0, Nat.zero_le _, rfl, New.refl _, HF⟩
      case round =>
        obtain ⟨k, hk, rfl, hnw, hL⟩ := hrel
        have hw5 := hw4.trans hnw
        have b5 := hb.new hw5
        clear c4
        have c5 := b5.cells
        by_cases hlt : k < nS
        · obtain ⟨g2, ep, ki, pe, x, m, d, xs, hg2, hv, hl, hx, hmx, x0, x1, x2, x3⟩ := (h.se.new hw5).at k (by have := LSh.out; omega)
          subst hg2
          have HD : Hid ((if enF ep ki pe m ≠ 0 then enF ep ki pe m else ffF e1F ((LS.map EkV.r).drop (k + 1))) = v) := by
            unfold Hid
            have h1 := ffF_at (g := e1F) (x := ⟨ep, ki, pe, xs⟩) (L := (LS.map EkV.r)) (k := k) (by rw [List.getElem?_map, hv]; rfl)
            have h2 := hL.out
            rw [h1] at h2
            simp only [e1F, hl] at h2
            exact h2
          clear hv hl hL
          go_wp2_with fail
          refine (specEN ep ki pe x m d _ (by omega)).mono ?_
          rintro e w6 ⟨rfl, hn6⟩
          have hw6 := hnw.trans hn6
          clear x0 x1 x2 x3
          generalize enF ep ki pe m = f at *
          by_cases hf : f = 0
          · have HR : Hid (ffF e1F ((LS.map EkV.r).drop (k + 1)) = v) := (pick1 HD.out).2 hf
            subst hf
            clear HD
            go_wp2
            go_roundw
            case rel => exact ⟨k + 1, by omega, by go_num, hw6, HR⟩
            case measure => simp [intOf]; omega
          · obtain rfl : f = v := (pick1 HD.out).1 hf
            go_wp2
            go_ret
            exact ⟨rfl, hw4.trans hw6⟩
        · have HR : Hid ((0 : Int) = v) := by unfold Hid; rw [← hL.out, ffF_end (by have := LSh.out; simp; omega)]
          obtain rfl := HR.out
          go_wp2
          go_ret
          exact ⟨rfl, hw5⟩

end Go.Proofs.YtkbdmcimgepakaaGreat

namespace Go.Proofs.YtkbdmcimgepakaaGreat
open Go.ChangeShapes Go.WideShapes Go.ChangeAt Go.RowKit
set_option linter.unusedVariables false
set_option linter.unusedSimpArgs false

set_option maxRecDepth 100000

/-- A pair without a fault has two nodes and three wires. -/
theorem pF_two {sa si ho nx : Int} {r1 r2 : List Ru} {N : List (Int × Bool × Int × Int × Int × Int × Int × Int × List Ek)} {W : List (Int × Int × List Int × List Int)} {M : List Ml} {S : List Ek} (h : pF sa si ho nx r1 r2 N W M S = 0) : N.length = 2 ∧ W.length = 3 := by
  unfold pF q1F at h
  by_cases h1 : stF sa si ho nx r1 r2 = 0
  · rw [if_neg (not_not_intro h1)] at h
    by_cases h2 : N.length = 2 ∧ W.length = 3
    · exact h2
    · rw [if_pos h2] at h; exact absurd h (by decide)
  · rw [if_pos h1] at h; exact absurd h h1

set_option maxHeartbeats 3200000 in
theorem implOA (sa si ho nx : Int) (a1 a2 aN aW aM aS : Option Addr) (n1 c1 n2 c2 nN cN nW cW nM cM nS cS : Nat) (r1 r2 : List Ru) (LN : List NdV) (LW : List WiV) (LM : List MlV) (LS : List EkV) (w : World) (h : PAt w a1 a2 aN aW aM aS r1 r2 LN LW LM LS) (l1 : r1.length = n1) (l2 : r2.length = n2) (lN : LN.length = nN) (lW : LW.length = nW) (lM : LM.length = nM) (lS : LS.length = nS) (m1 : n1 ≤ 1048576) (m2 : n2 ≤ 1048576) (mN : nN ≤ 1048576) (mW : nW ≤ 1048576) (mM : nM ≤ 1048576) (mS : nS ≤ 1048576) (v : Bool) (hv : (decide (pF sa si ho nx r1 r2 (LN.map NdV.r) (LW.map WiV.r) (LM.map MlV.r) (LS.map EkV.r) = 0) && onF (LW.map WiV.r) (LN.map NdV.r) 0) = v) :
    Calls Tryz.prog 17 #[.agg #[.int .i64 sa, .int .i64 si, .int .i64 ho, .int .i64 nx, .slice a1 n1 c1, .slice a2 n2 c2, .slice aN nN cN, .slice aW nW cW, .slice aM nM cM, .slice aS nS cS]] w fun e w' => e = .returned (.bool v) ∧ New w w' := by
  have hw := (New.refl w).alloc (.cells #[.int .i64 sa, .int .i64 si, .int .i64 ho, .int .i64 nx, .slice a1 n1 c1, .slice a2 n2 c2, .slice aN nN cN, .slice aW nW cW, .slice aM nM cM, .slice aS nS cS] 44)
  have b0 := Blk.mk w w.heap.size 44 #[.int .i64 sa, .int .i64 si, .int .i64 ho, .int .i64 nx, .slice a1 n1 c1, .slice a2 n2 c2, .slice aN nN cN, .slice aW nW cW, .slice aM nM cM, .slice aS nS cS] rfl
  have HV : Hid ((decide (pF sa si ho nx r1 r2 (LN.map NdV.r) (LW.map WiV.r) (LM.map MlV.r) (LS.map EkV.r) = 0) && onF (LW.map WiV.r) (LN.map NdV.r) 0) = v) := hv
  clear hv
  obtain ⟨f, hf⟩ : ∃ f, pF sa si ho nx r1 r2 (LN.map NdV.r) (LW.map WiV.r) (LM.map MlV.r) (LS.map EkV.r) = f := ⟨_, rfl⟩
  have cb := b0.cells
  go_enter Tryz.func17, Tryz.ntmps17
  go_wp2_with fail
  refine (implPaF sa si ho nx a1 a2 aN aW aM aS n1 c1 n2 c2 nN cN nW cW nM cM nS cS r1 r2 LN LW LM LS _ (h.new hw) l1 l2 lN lW lM lS m1 m2 mN mW mM mS f hf).mono ?_
  rintro e w1 ⟨rfl, hn1⟩
  have hw1 := hw.trans hn1
  have b1 := b0.new hn1
  clear cb
  by_cases hf0 : f = 0
  case neg =>
    have g : (f == 0) = false := by simp [hf0]
    have HR : Hid (false = v) := by have := HV.out; rw [show decide (pF sa si ho nx r1 r2 (LN.map NdV.r) (LW.map WiV.r) (LM.map MlV.r) (LS.map EkV.r) = 0) = false from by rw [hf]; simpa using hf0] at this; exact this
    clear HV hf
    go_wp2
    go_ret
    exact ⟨ret_bool HR.out, hw1⟩
  have hfz : pF sa si ho nx r1 r2 (LN.map NdV.r) (LW.map WiV.r) (LM.map MlV.r) (LS.map EkV.r) = 0 := by rw [hf]; exact hf0
  have hl := pF_two hfz
  rw [List.length_map, List.length_map, lN, lW] at hl
  have HR : Hid (onF (LW.map WiV.r) (LN.map NdV.r) 0 = v) := by unfold Hid; have := HV.out; rw [show decide (pF sa si ho nx r1 r2 (LN.map NdV.r) (LW.map WiV.r) (LM.map MlV.r) (LS.map EkV.r) = 0) = true from by simpa using hfz] at this; simpa using this
  clear HV hf hfz
  subst hf0
  obtain ⟨rfl, rfl⟩ := hl
  have HRN : Hid (LN.length = 2) := lN
  have HRW : Hid (LW.length = 3) := lW
  clear lN lW
  have cb := b1.cells
  go_wp2_with fail
  refine (oneI sa si ho nx a1 a2 aN aW aM aS n1 c1 n2 c2 cN cW nM cM nS cS r1 r2 LN LW w.heap.size _ b1 (h.nd.new hw1) (h.wi.new hw1) HRN.out HRW.out v HR.out).mono ?_
  rintro e w2 ⟨rfl, hn2⟩
  go_wp2
  go_ret
  exact ⟨rfl, hw1.trans hn2⟩

set_option maxHeartbeats 3200000 in
theorem specOA (sa si ho nx : Int) (a1 a2 aN aW aM aS : Option Addr) (n1 c1 n2 c2 nN cN nW cW nM cM nS cS : Nat) (r1 r2 : List Ru) (LN : List NdV) (LW : List WiV) (LM : List MlV) (LS : List EkV) (w : World) (h : PAt w a1 a2 aN aW aM aS r1 r2 LN LW LM LS) (l1 : r1.length = n1) (l2 : r2.length = n2) (lN : LN.length = nN) (lW : LW.length = nW) (lM : LM.length = nM) (lS : LS.length = nS) (m1 : n1 ≤ 1048576) (m2 : n2 ≤ 1048576) (mN : nN ≤ 1048576) (mW : nW ≤ 1048576) (mM : nM ≤ 1048576) (mS : nS ≤ 1048576) (v : Bool) (hv : (decide (pF sa si ho nx r1 r2 (LN.map NdV.r) (LW.map WiV.r) (LM.map MlV.r) (LS.map EkV.r) = 0) && onF (LW.map WiV.r) (LN.map NdV.r) 0) = v) :
    Calls Tryz.prog 16 #[.agg #[.int .i64 sa, .int .i64 si, .int .i64 ho, .int .i64 nx, .slice a1 n1 c1, .slice a2 n2 c2, .slice aN nN cN, .slice aW nW cW, .slice aM nM cM, .slice aS nS cS]] w fun e w' => e = .returned (.bool v) ∧ New w w' := by
  have hw := (New.refl w).alloc (.cells #[.int .i64 sa, .int .i64 si, .int .i64 ho, .int .i64 nx, .slice a1 n1 c1, .slice a2 n2 c2, .slice aN nN cN, .slice aW nW cW, .slice aM nM cM, .slice aS nS cS] 44)
  have b0 := Blk.mk w w.heap.size 44 #[.int .i64 sa, .int .i64 si, .int .i64 ho, .int .i64 nx, .slice a1 n1 c1, .slice a2 n2 c2, .slice aN nN cN, .slice aW nW cW, .slice aM nM cM, .slice aS nS cS] rfl
  have HV : Hid ((decide (pF sa si ho nx r1 r2 (LN.map NdV.r) (LW.map WiV.r) (LM.map MlV.r) (LS.map EkV.r) = 0) && onF (LW.map WiV.r) (LN.map NdV.r) 0) = v) := hv
  clear hv
  obtain ⟨f, hf⟩ : ∃ f, pF sa si ho nx r1 r2 (LN.map NdV.r) (LW.map WiV.r) (LM.map MlV.r) (LS.map EkV.r) = f := ⟨_, rfl⟩
  have cb := b0.cells
  go_enter Tryz.func16, Tryz.ntmps16
  go_wp2_with fail
  refine (specPaFp sa si ho nx a1 a2 aN aW aM aS n1 c1 n2 c2 nN cN nW cW nM cM nS cS r1 r2 LN LW LM LS w.heap.size _ b0 (h.new hw) l1 l2 lN lW lM lS m1 m2 mN mW mM mS f hf).mono ?_
  rintro e w1 ⟨rfl, hn1⟩
  have hw1 := hw.trans hn1
  have b1 := b0.new hn1
  clear cb
  by_cases hf0 : f = 0
  case neg =>
    have g : (f == 0) = false := by simp [hf0]
    have HR : Hid (false = v) := by have := HV.out; rw [show decide (pF sa si ho nx r1 r2 (LN.map NdV.r) (LW.map WiV.r) (LM.map MlV.r) (LS.map EkV.r) = 0) = false from by rw [hf]; simpa using hf0] at this; exact this
    clear HV hf
    go_wp2
    go_ret
    exact ⟨ret_bool HR.out, hw1⟩
  have hfz : pF sa si ho nx r1 r2 (LN.map NdV.r) (LW.map WiV.r) (LM.map MlV.r) (LS.map EkV.r) = 0 := by rw [hf]; exact hf0
  have hl := pF_two hfz
  rw [List.length_map, List.length_map, lN, lW] at hl
  have HR : Hid (onF (LW.map WiV.r) (LN.map NdV.r) 0 = v) := by unfold Hid; have := HV.out; rw [show decide (pF sa si ho nx r1 r2 (LN.map NdV.r) (LW.map WiV.r) (LM.map MlV.r) (LS.map EkV.r) = 0) = true from by simpa using hfz] at this; simpa using this
  clear HV hf hfz
  subst hf0
  obtain ⟨rfl, rfl⟩ := hl
  have HRN : Hid (LN.length = 2) := lN
  have HRW : Hid (LW.length = 3) := lW
  clear lN lW
  have cb := b1.cells
  go_wp2_with fail
  refine (oneS sa si ho nx a1 a2 aN aW aM aS n1 c1 n2 c2 cN cW nM cM nS cS r1 r2 LN LW w.heap.size _ b1 (h.nd.new hw1) (h.wi.new hw1) HRN.out HRW.out v HR.out).mono ?_
  rintro e w2 ⟨rfl, hn2⟩
  go_wp2
  go_ret
  exact ⟨rfl, hw1.trans hn2⟩

end Go.Proofs.YtkbdmcimgepakaaGreat
