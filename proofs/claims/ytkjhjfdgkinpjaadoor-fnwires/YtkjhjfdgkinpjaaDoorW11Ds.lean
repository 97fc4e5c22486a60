/- What is proved here: what DeliverOut of the model answers for lists of at most 1048576 bytes. The condition: the package-level variables hold what the text lays. -/
import Derived.Test.YtkjhjfdgkinpjaaDoorW11Ps
import Derived.Test.YtkjhjfdgkinpjaaDoorW11Di
namespace Go.Proofs.YtkjhjfdgkinpjaaDoor
open Go.RowKit
set_option linter.unusedVariables false
set_option linter.unusedSimpArgs false

set_option maxRecDepth 100000
/-- What the loop has made. -/
def DsL (an k : Nat) (ys us : List Int) : List Int := ys ++ (us.take k).drop (ys.length - an)
/-- What is answered where nothing is wrong with the arguments. -/
def doR (E T : Int) (an : Nat) (zs ys us : List Int) : Wr := if us.take (agK an ys us) = (ys.drop an).take (agK an ys us) then ⟨0, E, T, [], zs, ys ++ us.drop (agK an ys us)⟩ else Wr.bad 7
/-- What is kept from round to round. -/
def DsIn (w1 wr : World) (O : Nat) (E T : Int) (p1 : Option Addr) (d1 : Nat) (zs ys us : List Int) (an k : Nat) : Prop :=
  ∃ (pg : Option Addr) (cg : Nat), Blk wr O 25 #[.int .i64 E, .slice p1 zs.length d1, .int .i64 T, .slice pg (DsL an k ys us).length cg] ∧ OvB wr w1.heap.size (.slice p1 zs.length d1) zs ∧ OvB wr w1.heap.size (.slice pg (DsL an k ys us).length cg) (DsL an k ys us) ∧
    (∀ x y, p1 = some x → pg = some y → x.block ≠ y.block) ∧ New w1 wr

theorem DsL_same {an k : Nat} {ys us : List Int} (h : an + k < ys.length) : DsL an (k + 1) ys us = DsL an k ys us := by
  unfold DsL
  rw [List.drop_of_length_le (by rw [List.length_take]; omega), List.drop_of_length_le (by rw [List.length_take]; omega)]
theorem DsL_zero (an : Nat) (ys us : List Int) : DsL an 0 ys us = ys := by simp [DsL]
theorem DsL_next {an k : Nat} {ys us : List Int} {z : Int} (h : ¬ an + k < ys.length) (ha : an ≤ ys.length) (hz : us[k]? = some z) : DsL an (k + 1) ys us = DsL an k ys us ++ [z] := by
  unfold DsL
  rw [take_snoc hz, List.drop_append_of_le_length (by rw [List.length_take]; have := (List.getElem?_eq_some_iff.1 hz).1; omega), List.append_assoc]
theorem DsL_end (an : Nat) (ys us : List Int) : DsL an us.length ys us = ys ++ us.drop (agK an ys us) := by
  unfold DsL agK
  rw [List.take_of_length_le (Nat.le_refl _)]
  by_cases h : us.length ≤ ys.length - an
  · rw [Nat.min_eq_left h, List.drop_of_length_le h, List.drop_of_length_le (Nat.le_refl _)]
  · rw [Nat.min_eq_right (by omega)]

/-- All that were looked at are the same: then the beginnings are. -/
theorem ag_of {an : Nat} {ys us : List Int} (h : ∀ j, j < us.length → an + j < ys.length → ys[an + j]? = us[j]?) : us.take (agK an ys us) = (ys.drop an).take (agK an ys us) := by
  apply List.ext_getElem?
  intro j
  rw [List.getElem?_take, List.getElem?_take]
  split
  · rename_i hj
    unfold agK at hj
    rw [List.getElem?_drop]
    exact (h j (by omega) (by omega)).symm
  · rfl
theorem ag_not {an k : Nat} {ys us : List Int} (h1 : k < us.length) (h2 : an + k < ys.length) (h : ¬ ys[an + k]? = us[k]?) : ¬ us.take (agK an ys us) = (ys.drop an).take (agK an ys us) := by
  intro e
  have := congrArg (fun l => l[k]?) e
  simp only [List.getElem?_take, List.getElem?_drop] at this
  rw [if_pos (by unfold agK; omega), if_pos (by unfold agK; omega)] at this
  exact h this.symm

theorem DsIn.next {w1 wr : World} {O : Nat} {E T : Int} {p1 : Option Addr} {d1 : Nat} {zs ys us : List Int} {an k : Nat} (h : DsIn w1 wr O E T p1 d1 zs ys us an k) (hk : an + k < ys.length) {w' : World} (hn : New wr w') : DsIn w1 w' O E T p1 d1 zs ys us an (k + 1) := by
  obtain ⟨pg, cg, h1, h2, h3, h4, h5⟩ := h
  unfold DsIn
  rw [DsL_same hk]
  exact ⟨pg, cg, h1.new hn, h2.new hn, h3.new hn, h4, h5.trans hn⟩

set_option maxHeartbeats 6400000 in
theorem specDOok (E T ep : Int) (an : Nat) (a b q : Option Addr) (c d f : Nat) (zs ys us : List Int) (w : World) (hsb : (b = none ∧ ys.length = 0 ∧ d = 0) ∨ ∃ g o, b = some ⟨g, o, none⟩) (hcb : ys.length ≤ d) (hsq : (q = none ∧ us.length = 0 ∧ f = 0) ∨ ∃ g o, q = some ⟨g, o, none⟩) (hcq : us.length ≤ f) (hq : BsAt w q us) (hl1 : us.length ≤ 1048576) (ha : BsAt w a zs) (hb : BsAt w b ys) (hna : a = none → zs.length = 0 ∧ c = 0) (hnb : b = none → ys.length = 0 ∧ d = 0) (hn1 : zs.length ≤ 1048576) (hm1 : ys.length ≤ 1048576) (hf : sF E T ep zs.length ys.length = 0) (han : an ≤ ys.length) (hfit : an + us.length ≤ 2000) :
    Calls Tryd.prog 8 #[.agg #[.int .i64 E, .slice a zs.length c, .int .i64 T, .slice b ys.length d], .int .i64 ep, .int .i64 an, .slice q us.length f] w fun e w' => WrA w (doR E T an zs ys us) e w' := by
  obtain ⟨i0, hi, hz0, hz1, hz2⟩ := info_parts Tryd.infoU8
  have hz := ha.lt
  have hy := hb.lt
  have hu := hq.lt
  clear hsb hsq
  have hw := ((New.refl w).alloc (.cells #[.int .i64 E, .slice a zs.length c, .int .i64 T, .slice b ys.length d] 25)).alloc (.cells #[.int .i64 0, .slice none 0 0, .int .i64 0, .slice none 0 0, .int .i64 0, .slice none 0 0] 29)
  have bP := (Blk.mk w w.heap.size 25 #[.int .i64 E, .slice a zs.length c, .int .i64 T, .slice b ys.length d] rfl).alloc (.cells #[.int .i64 0, .slice none 0 0, .int .i64 0, .slice none 0 0, .int .i64 0, .slice none 0 0] 29)
  have bR := Blk.mk (w.alloc (.cells #[.int .i64 E, .slice a zs.length c, .int .i64 T, .slice b ys.length d] 25)) (w.heap.size + 1) 29 #[.int .i64 0, .slice none 0 0, .int .i64 0, .slice none 0 0, .int .i64 0, .slice none 0 0] (by simp)
  have HNA : Hid (a = none → zs.length = 0 ∧ c = 0) := hna
  have HNB : Hid (b = none → ys.length = 0 ∧ d = 0) := hnb
  clear hna hnb
  have hf' : (sF E T ep zs.length ys.length != 0) = false := by simp [hf]
  have HF : Hid (sF E T ep zs.length ys.length = 0) := hf
  obtain ⟨hf0, hep1, hep2, hep3⟩ := sF_zero hf
  obtain ⟨-, ⟨hn2, hm2⟩, hT0, hT1⟩ := wF_zero hf0
  clear hf hf0
  go_enter Tryd.func8, Tryd.ntmps8
  go_wp2_with fail
  refine (specSF E T ep a b zs.length c ys.length d _ hn1 hm1).mono ?_
  rintro e w1 ⟨rfl, hn1'⟩
  have n1 := hw.trans hn1'
  have bP1 := bP.new hn1'
  have bR1 := bR.new hn1'
  have lR := bR1.lt
  have cP := bP1.cells
  clear hn1' hw
  go_wp2_with fail
  refine (in_yes (an : Int) 0 ys.length _ ⟨by omega, by omega⟩).mono ?_
  rintro e w1' ⟨rfl, hx⟩
  obtain rfl := hx.symm
  go_wp2_with fail
  refine (l11C E T a b c d zs ys _ (ha.new n1) (hb.new n1) HNA.out HNB.out hn1 hm1).mono ?_
  rintro e w2 ⟨p1, p2, d1, d2, rfl, q1, q2, qa, qn⟩
  have al := (New.refl w2).alloc (.cells #[.int .i64 E, .slice p1 zs.length d1, .int .i64 T, .slice p2 ys.length d2] 25)
  have bO0 := Blk.mk w2 w2.heap.size 25 #[.int .i64 E, .slice p1 zs.length d1, .int .i64 T, .slice p2 ys.length d2] rfl
  have s12 := qn.size
  have HLS2 : Hid (∀ x, p1 = some x → x.block < w2.heap.size) := fun x hx' => ((q1.ow hz).2.2 x hx').2
  have hIn : DsIn w1 (w2.alloc (.cells #[.int .i64 E, .slice p1 zs.length d1, .int .i64 T, .slice p2 ys.length d2] 25)) w2.heap.size E T p1 d1 zs ys us an 0 := by
    unfold DsIn
    rw [DsL_zero]
    exact ⟨p2, d2, bO0, q1.new al, q2.new al, qa, qn.trans al⟩
  clear cP q1 q2 qa qn al bO0
  go_upto_region 9 with fail
  generalize w2.alloc (.cells #[.int .i64 E, .slice p1 zs.length d1, .int .i64 T, .slice p2 ys.length d2] 25) = w3 at *
  have hqq := hq.new n1
  have hbb := hb.new n1
  go_wp2
  go_loopw [11] (fun i wr => ∃ k : Nat, k ≤ us.length ∧ i = .int .i64 k ∧ (∀ j, j < k → an + j < ys.length → ys[an + j]? = us[j]?) ∧ DsIn w1 wr w2.heap.size E T p1 d1 zs ys us an k) (fun i _ => us.length - (intOf i).toNat)
  case atStart => exact ⟨0, Nat.zero_le _, rfl, fun j hj => absurd hj (Nat.not_lt_zero j), hIn⟩
  case round =>
    obtain ⟨k, hk, rfl, hM, hD⟩ := hrel
    have HM : Hid (∀ j, j < k → an + j < ys.length → ys[an + j]? = us[j]?) := hM
    clear hM
    have HD : Hid (DsIn w1 wr w2.heap.size E T p1 d1 zs ys us an k) := hD
    obtain ⟨pg, cg, bO, oS, oG, hap, hN⟩ := hD
    have cP := (bP1.new hN).cells
    by_cases hlt : k < us.length
    · obtain ⟨bq, oq, z, hqa, hz', hcq', hzb1, hzb2⟩ := hqq.at k hlt
      have HZ : Hid (us[k]? = some z) := hz'
      clear hz'
      subst hqa
      by_cases hin : an + k < ys.length
      · obtain ⟨bg, og, y, hga, hy', hcg', hyb1, hyb2⟩ := hbb.at (an + k) hin
        have HY : Hid (ys[an + k]? = some y) := hy'
        clear hy'
        subst hga
        have cq := (World.cell?_of_block (hN.block bq (World.block_lt_of_cell? w1 _ hcq') (fun f => f))).trans hcq'
        have cg' := (World.cell?_of_block (hN.block bg (World.block_lt_of_cell? w1 _ hcg') (fun f => f))).trans hcg'
        have hin2 : (an : Int) + (k : Int) < (ys.length : Int) := by omega
        have hwr : IntKind.i64.wrap ((an : Int) + (k : Int)) = (an : Int) + (k : Int) := by simp [IntKind.wrap, IntKind.signed, IntKind.bits]; omega
        by_cases hyz : y = z
        · subst hyz
          clear hap oS oG bO
          go_wp2
          go_quiet (fail)
          go_wp2
          go_roundw
          case rel =>
            refine ⟨k + 1, by omega, by go_num, ?_, HD.out.next hin ((New.refl _).drewN _)⟩
            intro j hj hj2
            by_cases hjk : j = k
            · subst hjk; rw [HY.out, HZ.out]
            · exact HM.out j (by omega) hj2
          case measure => simp [intOf]; omega
        · have hne : (y != z) = true := by simpa using hyz
          have HNE : Hid (¬ us.take (agK an ys us) = (ys.drop an).take (agK an ys us)) := ag_not hlt hin (by rw [HY.out, HZ.out]; simpa using hyz)
          clear hap oS oG bO hyz
          go_wp2
          go_quiet (fail)
          go_wp2_with fail
          refine (l11B _ _).mono ?_
          rintro e w9 ⟨rfl, hn9⟩
          have n9 : New w1 w9 := (hN.drewN _).trans hn9
          have bR9 := bR1.new n9
          have cR := bR9.cells
          have fR := bR9.frees
          go_wp2
          refine bodyPost_ret (v := .agg #[.int .i64 7, .slice none 0 0, .int .i64 0, .slice none 0 0, .int .i64 0, .slice none 0 0]) (by simp [results, Tryd.results8, go_sem, cR]) rfl ?_
          unfold doR
          rw [if_neg HNE.out]
          exact WrAns.codeT (B := w.heap.size + 1) (by omega) (n1.trans n9) (Turn.set (S := fun i => i = w.heap.size + 1) (Turn.set (S := fun i => i = w.heap.size + 1) (Turn.set (S := fun i => i = w.heap.size + 1) (Turn.set (S := fun i => i = w.heap.size + 1) (Turn.set (S := fun i => i = w.heap.size + 1) (Turn.set (S := fun i => i = w.heap.size + 1) (Turn.refl _ _) rfl _) rfl _) rfl _) rfl _) rfl _) rfl _)
      · have hin2 : ¬ (an : Int) + (k : Int) < (ys.length : Int) := by omega
        have dcell : ∀ X, New w1 X → X.cell? ⟨bq, oq + k, none⟩ = some (.int .u8 z) := fun X hX => (World.cell?_of_block (hX.block bq (World.block_lt_of_cell? w1 _ hcq') (fun f => f))).trans hcq'
        have ndA : New wr (wr.alloc (.cells #[.int .u8 z] 5)).drew := ((New.refl wr).alloc _).drew
        have bZ : BsAt (wr.alloc (.cells #[.int .u8 z] 5)).drew (some ⟨wr.heap.size, 0, none⟩) [z] := (BsAt.of_block (heap_alloc_new wr _) [z] rfl (by intro u hu'; simp at hu'; omega)).new ((New.refl _).drew)
        have OB : Hid ((Value.slice pg (DsL an k ys us).length cg).ownBlock = pg.map (·.block)) := oG.ownB
        have obk := oG.blk
        have QA : Hid (∀ x y, p1 = some x → pg = some y → x.block ≠ y.block) := hap
        have hLl : (DsL an k ys us).length ≤ 4000 := by unfold DsL; rw [List.length_append, List.length_drop, List.length_take]; omega
        have HLL : Hid ((DsL an k ys us).length + 1 ≤ 4194304) := by unfold Hid; omega
        have HNX : Hid (DsL an (k + 1) ys us = DsL an k ys us ++ [z]) := DsL_next hin han HZ.out
        have HVB : Hid (∀ u ∈ DsL an (k + 1) ys us, 0 ≤ u ∧ u ≤ 255) := by
          unfold Hid DsL
          exact fun u hu' => (List.mem_append.1 hu').elim (hy u) (fun h => hu u (List.mem_of_mem_take (List.mem_of_mem_drop h)))
        have HLS : Hid (∀ x, p1 = some x → x.block < wr.heap.size) := fun x hx' => ((oS.ow hz).2.2 x hx').2
        have HOg : Hid (∀ j, j = w2.heap.size → ¬ pg.map (·.block) = some j) := by
          rintro j rfl e
          obtain ⟨y, rfl, hyy⟩ := Option.map_eq_some_iff.1 e
          rcases oG.form with ⟨h, _⟩ | ⟨g, cap, h, _, _, how⟩
          · cases h
          · obtain ⟨rfl, -, rfl⟩ : y = ⟨g, 0, none⟩ ∧ (DsL an k ys us).length = (DsL an k ys us).length ∧ cg = cap := by simpa using h
            exact (bO.ne_own how (by decide)) hyy.symm
        have HM2 : Hid (∀ j, j < k + 1 → an + j < ys.length → ys[an + j]? = us[j]?) := fun j hj hj2 => HM.out j (by omega) hj2
        clear hap
        go_wp2_with fail
        refine hw_start (n := 10) (S := fun X => New w1 X) rfl (by kernel_rfl) hN.drew (fun hH => ?_)
        refine' hw_take 0 (some 60) _ rfl rfl (by kernel_rfl) (by kernel_rfl) (by kernel_rfl) (fun _ _ _ h => h) (by rfl) hH ?hy1 ?rest1
        case hy1 =>
          intro X hX
          go_simp
          try rfl
        simp only [Act.put, List.setIfInBounds_toArray, List.set_cons_zero, List.set_cons_succ]
        refine' hw_take 2 (some 62) _ rfl rfl (by kernel_rfl) (by kernel_rfl) (by kernel_rfl) (fun _ _ _ h => h) (by rfl) hH ?hy2 ?rest2
        case hy2 =>
          intro X hX
          go_simp
          try rfl
        simp only [Act.put, List.setIfInBounds_toArray, List.set_cons_zero, List.set_cons_succ]
        refine' hw_take 3 (some 63) _ rfl rfl (by kernel_rfl) (by kernel_rfl) (by kernel_rfl) (fun _ _ _ h => h) (by rfl) hH ?hy3 ?rest3
        case hy3 =>
          intro X hX
          go_simp
          try rfl
        simp only [Act.put, List.setIfInBounds_toArray, List.set_cons_zero, List.set_cons_succ]
        refine' hw_take 4 (some 64) _ rfl rfl (by kernel_rfl) (by kernel_rfl) (by kernel_rfl) (fun _ _ _ h => h) (by rfl) hH ?hy4 ?rest4
        case hy4 =>
          intro X hX
          go_simp
          try rfl
        simp only [Act.put, List.setIfInBounds_toArray, List.set_cons_zero, List.set_cons_succ]
        refine' hw_take 5 (some 65) _ rfl rfl (by kernel_rfl) (by kernel_rfl) (by kernel_rfl) (fun _ _ _ h => h) (by rfl) hH ?hy5 ?rest5
        case hy5 =>
          intro X hX
          have dX := dcell X hX
          go_simp
          try rfl
        simp only [Act.put, List.setIfInBounds_toArray, List.set_cons_zero, List.set_cons_succ]
        refine wpAnyH_ready (rs := [1, 6]) (by kernel_rfl) (by simp) (hw_step 1 (some 61) rfl rfl (by rfl) (fun K hK => ?b1) (hw_step 6 (some 66) rfl rfl (by rfl) (fun K hK => ?b6) (by intro j hj; cases hj)))
        case b1 =>
          have cO := (bO.new ((New.refl _).drew)).cells
          go_simp
          refine hK.out _ _ (hN.drew) (fun hH => ?_)
          clear cO
          simp only [Act.put, List.setIfInBounds_toArray, List.set_cons_zero, List.set_cons_succ]
          refine hw_call 6 (some 66) rfl rfl (by kernel_rfl) (by rfl) (fun K hK => ?_)
          go_simp
          refine hK.out _ _ (hN.trans ndA) (fun hH => ?_)
          simp only [Act.put, List.setIfInBounds_toArray, List.set_cons_zero, List.set_cons_succ]
          refine hw_call 7 (some 67) rfl rfl (by kernel_rfl) (by rfl) (fun K hK => ?_)
          refine wp_apL _ (.tmp 61) (.tmp 66) rfl w1.heap.size Tryd.underlying22 hi hz0 hz1 hz2 (.slice pg (DsL an k ys us).length cg) (DsL an k ys us) rfl (oG.new ndA) (some ⟨wr.heap.size, 0, none⟩) 1 1 [z] rfl bZ rfl (by intro h; cases h) HLL.out (Nat.le_trans hN.size ndA.size) ?_
          intro v5 w5 ho5 hg5 hv5
          replace ho5 : OvB w5 w1.heap.size v5 (DsL an (k + 1) ys us) := by rw [HNX.out]; exact ho5
          have t5 := Turn.of_grow hg5
          rw [OB.out] at t5 hv5
          obtain ⟨a5, c5, rfl, -, -, -, -⟩ := ho5.bs HVB.out
          have N5 : New w1 w5 := (hN.trans ndA).grow hg5 (fun j hj => obk j hj)
          have oS5 : OvB w5 w1.heap.size (.slice p1 zs.length d1) zs := (oS.new ndA).turnA t5 (by
            rintro y hy' e
            obtain ⟨x, hx, hxy⟩ := Option.map_eq_some_iff.1 e
            exact QA.out y x hy' hx hxy.symm)
          have bO5 := (bO.new ndA).turn t5 (by
            rintro e
            exact HOg.out _ rfl e)
          have HA5 : Hid (∀ x y, p1 = some x → a5 = some y → x.block ≠ y.block) := by
            rintro x y hx rfl
            have ey : (Value.slice (some y) (DsL an (k + 1) ys us).length c5).ownBlock = some y.block := ho5.ownB
            rw [ey] at hv5
            rcases hv5 with h | h
            · obtain ⟨y', hy', hyy⟩ := Option.map_eq_some_iff.1 h.symm
              rw [← hyy]
              exact QA.out x y' hx hy'
            · have := HLS.out x hx
              have h9 : y.block = (wr.alloc (.cells #[.int .u8 z] 5)).drew.heap.size := Option.some.inj h
              have := ndA.size
              omega
          have HOn : Hid (∀ y, a5 = some y → ¬ y.block = w2.heap.size) := by
            rintro y rfl e
            have ey : (Value.slice (some y) (DsL an (k + 1) ys us).length c5).ownBlock = some y.block := ho5.ownB
            rcases ho5.form with ⟨h, _⟩ | ⟨g, cap, h, _, _, how⟩
            · cases h
            · obtain ⟨rfl, -, rfl⟩ : y = ⟨g, 0, none⟩ ∧ (DsL an (k + 1) ys us).length = (DsL an (k + 1) ys us).length ∧ c5 = cap := by simpa using h
              exact (bO5.ne_own how (by decide)) e.symm
          refine hK.out _ _ N5 (fun hH => ?_)
          simp only [Act.put, List.setIfInBounds_toArray, List.set_cons_zero, List.set_cons_succ]
          refine' hw_take 8 (some 68) _ rfl rfl (by kernel_rfl) (by kernel_rfl) (by kernel_rfl) (fun _ _ _ h => h) (by rfl) hH ?hy6 ?rest6
          case hy6 =>
            intro X hX
            go_simp
            try rfl
          simp only [Act.put, List.setIfInBounds_toArray, List.set_cons_zero, List.set_cons_succ]
          refine hw_call 9 none rfl rfl (by kernel_rfl) (by rfl) (fun K hK => ?_)
          have cO5 := bO5.cells
          have fO5 := bO5.frees
          go_simp
          have t6 : Turn (fun i => i = w2.heap.size) w5 (w5.setCell ⟨w2.heap.size, 3, none⟩ (.slice a5 (DsL an (k + 1) ys us).length c5)) := Turn.set (S := fun i => i = w2.heap.size) (Turn.refl _ _) rfl _
          have N6 : New w1 (w5.setCell ⟨w2.heap.size, 3, none⟩ (.slice a5 (DsL an (k + 1) ys us).length c5)) := N5.before t6 (by intro i hi' e; omega)
          refine hK.out undef _ N6 (fun hH => ?_)
          refine wpAnyH_done (by kernel_rfl) ?_ _
          have bO6 : Blk (w5.setCell ⟨w2.heap.size, 3, none⟩ (.slice a5 (DsL an (k + 1) ys us).length c5)) w2.heap.size 25 #[.int .i64 E, .slice p1 zs.length d1, .int .i64 T, .slice a5 (DsL an (k + 1) ys us).length c5] := bO5.set 3 _
          have oS6 := oS5.turnA t6 (by rintro x hx e; have := (HLS2.out x hx); omega)
          have oG6 := ho5.turnA t6 (by rintro y hy' e; exact HOn.out y hy' e)
          generalize w5.setCell ⟨w2.heap.size, 3, none⟩ (.slice a5 (DsL an (k + 1) ys us).length c5) = w6 at *
          go_wp2
          go_roundw
          case rel => exact ⟨k + 1, by omega, by go_num, HM2.out, a5, c5, bO6, oS6, oG6, HA5.out, N6⟩
          case measure => simp [intOf]; omega
        case b6 =>
          go_simp
          refine hK.out _ _ (hN.trans ndA) (fun hH => ?_)
          simp only [Act.put, List.setIfInBounds_toArray, List.set_cons_zero, List.set_cons_succ]
          refine hw_call 1 (some 61) rfl rfl (by kernel_rfl) (by rfl) (fun K hK => ?_)
          have cO := (bO.new ndA).cells
          go_simp
          refine hK.out _ _ (hN.trans ndA) (fun hH => ?_)
          clear cO
          simp only [Act.put, List.setIfInBounds_toArray, List.set_cons_zero, List.set_cons_succ]
          refine hw_call 7 (some 67) rfl rfl (by kernel_rfl) (by rfl) (fun K hK => ?_)
          refine wp_apL _ (.tmp 61) (.tmp 66) rfl w1.heap.size Tryd.underlying22 hi hz0 hz1 hz2 (.slice pg (DsL an k ys us).length cg) (DsL an k ys us) rfl (oG.new ndA) (some ⟨wr.heap.size, 0, none⟩) 1 1 [z] rfl bZ rfl (by intro h; cases h) HLL.out (Nat.le_trans hN.size ndA.size) ?_
          intro v5 w5 ho5 hg5 hv5
          replace ho5 : OvB w5 w1.heap.size v5 (DsL an (k + 1) ys us) := by rw [HNX.out]; exact ho5
          have t5 := Turn.of_grow hg5
          rw [OB.out] at t5 hv5
          obtain ⟨a5, c5, rfl, -, -, -, -⟩ := ho5.bs HVB.out
          have N5 : New w1 w5 := (hN.trans ndA).grow hg5 (fun j hj => obk j hj)
          have oS5 : OvB w5 w1.heap.size (.slice p1 zs.length d1) zs := (oS.new ndA).turnA t5 (by
            rintro y hy' e
            obtain ⟨x, hx, hxy⟩ := Option.map_eq_some_iff.1 e
            exact QA.out y x hy' hx hxy.symm)
          have bO5 := (bO.new ndA).turn t5 (by
            rintro e
            exact HOg.out _ rfl e)
          have HA5 : Hid (∀ x y, p1 = some x → a5 = some y → x.block ≠ y.block) := by
            rintro x y hx rfl
            have ey : (Value.slice (some y) (DsL an (k + 1) ys us).length c5).ownBlock = some y.block := ho5.ownB
            rw [ey] at hv5
            rcases hv5 with h | h
            · obtain ⟨y', hy', hyy⟩ := Option.map_eq_some_iff.1 h.symm
              rw [← hyy]
              exact QA.out x y' hx hy'
            · have := HLS.out x hx
              have h9 : y.block = (wr.alloc (.cells #[.int .u8 z] 5)).drew.heap.size := Option.some.inj h
              have := ndA.size
              omega
          have HOn : Hid (∀ y, a5 = some y → ¬ y.block = w2.heap.size) := by
            rintro y rfl e
            have ey : (Value.slice (some y) (DsL an (k + 1) ys us).length c5).ownBlock = some y.block := ho5.ownB
            rcases ho5.form with ⟨h, _⟩ | ⟨g, cap, h, _, _, how⟩
            · cases h
            · obtain ⟨rfl, -, rfl⟩ : y = ⟨g, 0, none⟩ ∧ (DsL an (k + 1) ys us).length = (DsL an (k + 1) ys us).length ∧ c5 = cap := by simpa using h
              exact (bO5.ne_own how (by decide)) e.symm
          refine hK.out _ _ N5 (fun hH => ?_)
          simp only [Act.put, List.setIfInBounds_toArray, List.set_cons_zero, List.set_cons_succ]
          refine' hw_take 8 (some 68) _ rfl rfl (by kernel_rfl) (by kernel_rfl) (by kernel_rfl) (fun _ _ _ h => h) (by rfl) hH ?hy7 ?rest7
          case hy7 =>
            intro X hX
            go_simp
            try rfl
          simp only [Act.put, List.setIfInBounds_toArray, List.set_cons_zero, List.set_cons_succ]
          refine hw_call 9 none rfl rfl (by kernel_rfl) (by rfl) (fun K hK => ?_)
          have cO5 := bO5.cells
          have fO5 := bO5.frees
          go_simp
          have t6 : Turn (fun i => i = w2.heap.size) w5 (w5.setCell ⟨w2.heap.size, 3, none⟩ (.slice a5 (DsL an (k + 1) ys us).length c5)) := Turn.set (S := fun i => i = w2.heap.size) (Turn.refl _ _) rfl _
          have N6 : New w1 (w5.setCell ⟨w2.heap.size, 3, none⟩ (.slice a5 (DsL an (k + 1) ys us).length c5)) := N5.before t6 (by intro i hi' e; omega)
          refine hK.out undef _ N6 (fun hH => ?_)
          refine wpAnyH_done (by kernel_rfl) ?_ _
          have bO6 : Blk (w5.setCell ⟨w2.heap.size, 3, none⟩ (.slice a5 (DsL an (k + 1) ys us).length c5)) w2.heap.size 25 #[.int .i64 E, .slice p1 zs.length d1, .int .i64 T, .slice a5 (DsL an (k + 1) ys us).length c5] := bO5.set 3 _
          have oS6 := oS5.turnA t6 (by rintro x hx e; have := (HLS2.out x hx); omega)
          have oG6 := ho5.turnA t6 (by rintro y hy' e; exact HOn.out y hy' e)
          generalize w5.setCell ⟨w2.heap.size, 3, none⟩ (.slice a5 (DsL an (k + 1) ys us).length c5) = w6 at *
          go_wp2
          go_roundw
          case rel => exact ⟨k + 1, by omega, by go_num, HM2.out, a5, c5, bO6, oS6, oG6, HA5.out, N6⟩
          case measure => simp [intOf]; omega
    · obtain rfl : k = us.length := by omega
      have cO := bO.cells
      have bR4 := bR1.new hN
      have cR := bR4.cells
      have fR := bR4.frees
      have HEQ : Hid (us.take (agK an ys us) = (ys.drop an).take (agK an ys us)) := ag_of HM.out
      have HDL : Hid (DsL an us.length ys us = ys ++ us.drop (agK an ys us)) := DsL_end an ys us
      go_wp2
      refine bodyPost_ret (v := .agg #[.int .i64 0, .slice none 0 0, .int .i64 E, .slice p1 zs.length d1, .int .i64 T, .slice pg (DsL an us.length ys us).length cg]) (by simp [results, Tryd.results8, go_sem, cR]) rfl ?_
      unfold doR
      rw [if_pos HEQ.out]
      unfold WrA
      simp only
      rw [← HDL.out]
      exact WrAns.stored (B := w.heap.size + 1) (by omega) lR n1 oS oG hap hN (Turn.set (S := fun i => i = w.heap.size + 1) (Turn.set (S := fun i => i = w.heap.size + 1) (Turn.set (S := fun i => i = w.heap.size + 1) (Turn.set (S := fun i => i = w.heap.size + 1) (Turn.set (S := fun i => i = w.heap.size + 1) (Turn.set (S := fun i => i = w.heap.size + 1) (Turn.refl _ _) rfl _) rfl _) rfl _) rfl _) rfl _) rfl _)

end Go.Proofs.YtkjhjfdgkinpjaaDoor
