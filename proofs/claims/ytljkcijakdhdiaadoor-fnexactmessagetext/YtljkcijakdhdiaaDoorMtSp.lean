/- What is proved here: what the model writes of a message as a text, for every lists of at most 1048576 elements. -/
import Derived.Test.YtljkcijakdhdiaaDoorMtLib
namespace Go.Proofs.YtljkcijakdhdiaaDoor
open Go.RowKit Go.Sort
set_option linter.unusedVariables false
set_option linter.unusedSimpArgs false

theorem join18 {L : List (List UInt8)} (h1 : L.length ≤ 18) (h2 : ∀ l ∈ L, l.length ≤ 100) : (Lib.join L [32]).length ≤ 2000 := by
  have h := join_len [32] 100 L h2
  simp only [List.length_cons, List.length_nil] at h
  have : L.length * (100 + (0 + 1)) ≤ 18 * 101 := Nat.mul_le_mul h1 (by decide)
  omega
theorem wG_len {gs : List (Int × Int)} (h : ∀ p ∈ gs, pf p.1 p.2 = 0) : ∀ l ∈ wG gs, l.length ≤ 100 := by
  intro l hl
  obtain ⟨p, hp, rfl⟩ := List.mem_map.1 hl
  have := txl_len (h p hp)
  simp only [List.length_cons]; omega
theorem wR_len {gs : List (Int × Int)} (h : ∀ p ∈ gs, pf p.1 p.2 = 0) : ∀ l ∈ wR gs, l.length ≤ 100 := by
  intro l hl
  obtain ⟨p, hp, rfl⟩ := List.mem_map.1 hl
  have := txl_len (h p hp)
  simp only [List.length_cons]; omega
theorem jl1 {gs : List (Int × Int)} (h8 : gs.length ≤ 8) (h : ∀ p ∈ gs, pf p.1 p.2 = 0) (j : Nat) : (Lib.join ([[117, 112, 100, 97, 116, 101]] ++ wG (gs.take j)) [32]).length ≤ 2000 := by
  refine join18 ?_ ?_
  · unfold wG
    simp only [List.length_append, List.length_map, List.length_take, List.length_cons, List.length_nil]; omega
  · intro l hl
    rcases List.mem_append.1 hl with hl | hl
    · obtain rfl := List.mem_singleton.1 hl; decide
    · exact wG_len (fun p hp => h p (List.mem_of_mem_take hp)) l hl
theorem jl2 {gs rs : List (Int × Int)} (h8 : gs.length ≤ 8) (r8 : rs.length ≤ 8) (h : ∀ p ∈ gs, pf p.1 p.2 = 0) (h' : ∀ p ∈ rs, pf p.1 p.2 = 0) (j : Nat) : (Lib.join ([[117, 112, 100, 97, 116, 101]] ++ wG gs ++ wR (rs.take j)) [32]).length ≤ 2000 := by
  refine join18 ?_ ?_
  · unfold wG wR
    simp only [List.length_append, List.length_map, List.length_take, List.length_cons, List.length_nil]; omega
  · intro l hl
    rcases List.mem_append.1 hl with hl | hl
    · rcases List.mem_append.1 hl with hl | hl
      · obtain rfl := List.mem_singleton.1 hl; decide
      · exact wG_len h l hl
    · exact wR_len (fun p hp => h' p (List.mem_of_mem_take hp)) l hl

set_option maxRecDepth 100000 in
set_option maxHeartbeats 3200000 in
theorem l4_open (ga a ra : Option Addr) (gn gc n c rn rc : Nat) (has : Bool) (o nx md lc : Int) (gs rs : List (Int × Int)) (xs : List Int) (sa ho si wh su : Int) (w : World) (h : Opn sa ho si) : Calls Tryd.prog 12 #[.agg #[.int .i64 1, .int .i64 sa, .int .i64 ho, .int .i64 si, .int .i64 wh, .int .i64 su, .slice ga gn gc, .bool has, .int .i64 o, .slice a n c, .int .i64 nx, .int .i64 md, .int .i64 lc, .slice ra rn rc]] w fun e w' => e = .returned (.string (sB (Lib.join [[111, 112, 101, 110], dg sa, dg ho, dg si] [32]))) ∧ New w w' := by
  obtain ⟨⟨a0, a1⟩, hh, ⟨s0, s1⟩⟩ := h
  have h0 : 0 ≤ ho := by rcases hh with hh | hh <;> omega
  have h1 : ho ≤ 65535 := by rcases hh with hh | hh <;> omega
  have a2 : 0 ≤ sa := by omega
  have s2 : 0 ≤ si := by omega
  clear hh a0 s0
  have hw := (New.refl w).alloc (.cells #[.int .i64 1, .int .i64 sa, .int .i64 ho, .int .i64 si, .int .i64 wh, .int .i64 su, .slice ga gn gc, .bool has, .int .i64 o, .slice a n c, .int .i64 nx, .int .i64 md, .int .i64 lc, .slice ra rn rc] 39)
  have bM := Blk.mk w w.heap.size 39 #[.int .i64 1, .int .i64 sa, .int .i64 ho, .int .i64 si, .int .i64 wh, .int .i64 su, .slice ga gn gc, .bool has, .int .i64 o, .slice a n c, .int .i64 nx, .int .i64 md, .int .i64 lc, .slice ra rn rc] rfl
  have cM := bM.cells
  have cR := blk_regrown bM
  have d0 := digI sa
  have l0 := dg_len a2 a1
  have d1 := digI ho
  have l1 := dg_len h0 h1
  have d2 := digI si
  have l2 := dg_len s2 s1
  have htx : Hid (Lib.join [[111, 112, 101, 110], dg sa, dg ho, dg si] [32] = [111, 112, 101, 110, 32] ++ dg sa ++ [32] ++ dg ho ++ [32] ++ dg si) := by unfold Hid; simp [Lib.join_cons, Lib.joinTail]
  generalize dg sa = A at *
  generalize dg ho = B at *
  generalize dg si = C at *
  go_enter Tryd.func12, Tryd.ntmps12
  go_wp2_with fail
  refine wp_region_quiet_below (by kernel_rfl) (by kernel_rfl) ?_
  repeat (go_big_quiet_step (first | (go_at_call_of 25 sa; exact calls_regrown (d0 _ a2 a1)) | (go_at_call_of 25 ho; exact calls_regrown (d1 _ h0 h1)) | (go_at_call_of 25 si; exact calls_regrown (d2 _ s2 s1))))
  refine wpQuiet_nil ?_
  rintro w1 hn1
  replace hn1 := new_of_regrown hn1
  go_wp2
  go_ret
  refine ⟨?_, hw.trans hn1⟩
  rw [htx.out]
  simp only [← sB_app]
  rfl

set_option maxRecDepth 100000 in
set_option maxHeartbeats 3200000 in
theorem l4_not (ga a ra : Option Addr) (gn gc n c rn rc : Nat) (has : Bool) (o nx md lc : Int) (gs rs : List (Int × Int)) (xs : List Int) (sa ho si wh su : Int) (w : World) (h : Nty wh su) : Calls Tryd.prog 12 #[.agg #[.int .i64 3, .int .i64 sa, .int .i64 ho, .int .i64 si, .int .i64 wh, .int .i64 su, .slice ga gn gc, .bool has, .int .i64 o, .slice a n c, .int .i64 nx, .int .i64 md, .int .i64 lc, .slice ra rn rc]] w fun e w' => e = .returned (.string (sB (Lib.join [[110, 111, 116, 105, 102, 121], dg wh, dg su] [32]))) ∧ New w w' := by
  obtain ⟨⟨b0, b1⟩, ⟨s0, s1⟩⟩ := h
  have a2 : 0 ≤ wh := by omega
  have a1 : wh ≤ 65535 := by omega
  have s2 : su ≤ 65535 := by omega
  clear b0 b1 s1
  have hw := (New.refl w).alloc (.cells #[.int .i64 3, .int .i64 sa, .int .i64 ho, .int .i64 si, .int .i64 wh, .int .i64 su, .slice ga gn gc, .bool has, .int .i64 o, .slice a n c, .int .i64 nx, .int .i64 md, .int .i64 lc, .slice ra rn rc] 39)
  have bM := Blk.mk w w.heap.size 39 #[.int .i64 3, .int .i64 sa, .int .i64 ho, .int .i64 si, .int .i64 wh, .int .i64 su, .slice ga gn gc, .bool has, .int .i64 o, .slice a n c, .int .i64 nx, .int .i64 md, .int .i64 lc, .slice ra rn rc] rfl
  have cM := bM.cells
  have cR := blk_regrown bM
  have d0 := digI wh
  have l0 := dg_len a2 a1
  have d1 := digI su
  have l1 := dg_len s0 s2
  have htx : Hid (Lib.join [[110, 111, 116, 105, 102, 121], dg wh, dg su] [32] = [110, 111, 116, 105, 102, 121, 32] ++ dg wh ++ [32] ++ dg su) := by unfold Hid; simp [Lib.join_cons, Lib.joinTail]
  generalize dg wh = A at *
  generalize dg su = B at *
  go_enter Tryd.func12, Tryd.ntmps12
  go_wp2_with fail
  refine wp_region_quiet_below (by kernel_rfl) (by kernel_rfl) ?_
  repeat (go_big_quiet_step (first | (go_at_call_of 25 wh; exact calls_regrown (d0 _ a2 a1)) | (go_at_call_of 25 su; exact calls_regrown (d1 _ s0 s2))))
  refine wpQuiet_nil ?_
  rintro w1 hn1
  replace hn1 := new_of_regrown hn1
  go_wp2
  go_ret
  refine ⟨?_, hw.trans hn1⟩
  rw [htx.out]
  simp only [← sB_app]
  rfl

theorem l4_keep (ga a ra : Option Addr) (gn gc n c rn rc : Nat) (has : Bool) (o nx md lc : Int) (gs rs : List (Int × Int)) (xs : List Int) (sa ho si wh su : Int) (w : World) : Calls Tryd.prog 12 #[.agg #[.int .i64 4, .int .i64 sa, .int .i64 ho, .int .i64 si, .int .i64 wh, .int .i64 su, .slice ga gn gc, .bool has, .int .i64 o, .slice a n c, .int .i64 nx, .int .i64 md, .int .i64 lc, .slice ra rn rc]] w fun e w' => e = .returned (.string (sB (Lib.join [[107, 101, 101, 112]] [32]))) ∧ New w w' := by
  have e : Hid (Lib.join [[107, 101, 101, 112]] [32] = [107, 101, 101, 112]) := by unfold Hid; simp [Lib.join_one]
  have cM := (Blk.mk w w.heap.size 39 #[.int .i64 4, .int .i64 sa, .int .i64 ho, .int .i64 si, .int .i64 wh, .int .i64 su, .slice ga gn gc, .bool has, .int .i64 o, .slice a n c, .int .i64 nx, .int .i64 md, .int .i64 lc, .slice ra rn rc] rfl).cells
  go_enter Tryd.func12, Tryd.ntmps12
  go_wp2
  go_ret
  exact ⟨by rw [e.out]; rfl, (New.refl _).alloc _⟩

set_option maxRecDepth 100000 in
set_option maxHeartbeats 6400000 in
theorem l4_upd (ga a ra : Option Addr) (gn gc n c rn rc : Nat) (has : Bool) (o nx md lc : Int) (gs rs : List (Int × Int)) (xs : List Int) (sa ho si wh su : Int) (w : World) (hg : PsAt w ga gs) (hx : NsAt w a xs) (hr : PsAt w ra rs) (hgn : gs.length = gn) (hn : xs.length = n) (hrn : rs.length = rn) (hf : uf gs has o xs nx md lc rs = 0) : Calls Tryd.prog 12 #[.agg #[.int .i64 2, .int .i64 sa, .int .i64 ho, .int .i64 si, .int .i64 wh, .int .i64 su, .slice ga gn gc, .bool has, .int .i64 o, .slice a n c, .int .i64 nx, .int .i64 md, .int .i64 lc, .slice ra rn rc]] w fun e w' => e = .returned (.string (sB (Lib.join (wUp gs has o xs nx md lc rs) [32]))) ∧ New w w' := by
  obtain ⟨u1, u2, u3, u4, u5⟩ := uf_ok5 hf
  have HG : Hid (gs.length = gn) := hgn
  have HN : Hid (xs.length = n) := hn
  have HR : Hid (rs.length = rn) := hrn
  have P1 : Hid (∀ p ∈ gs, pf p.1 p.2 = 0) := u3
  have P2 : Hid (∀ p ∈ rs, pf p.1 p.2 = 0) := u4
  have P3 : Hid (has = true → af o xs nx md lc = 0) := u5
  have J1 : Hid (∀ j, (Lib.join ([[117, 112, 100, 97, 116, 101]] ++ wG (gs.take j)) [32]).length ≤ 2000) := jl1 u1 u3
  have J2 : Hid (∀ j, (Lib.join ([[117, 112, 100, 97, 116, 101]] ++ wG gs ++ wR (rs.take j)) [32]).length ≤ 2000) := jl2 u1 u2 u3 u4
  have g8 : gn ≤ 8 := by omega
  have r8 : rn ≤ 8 := by omega
  clear hgn hn hrn hf u1 u2 u3 u4 u5
  have hw := (New.refl w).alloc (.cells #[.int .i64 2, .int .i64 sa, .int .i64 ho, .int .i64 si, .int .i64 wh, .int .i64 su, .slice ga gn gc, .bool has, .int .i64 o, .slice a n c, .int .i64 nx, .int .i64 md, .int .i64 lc, .slice ra rn rc] 39)
  have bM := Blk.mk w w.heap.size 39 #[.int .i64 2, .int .i64 sa, .int .i64 ho, .int .i64 si, .int .i64 wh, .int .i64 su, .slice ga gn gc, .bool has, .int .i64 o, .slice a n c, .int .i64 nx, .int .i64 md, .int .i64 lc, .slice ra rn rc] rfl
  have cM := bM.cells
  go_enter Tryd.func12, Tryd.ntmps12
  go_wp2
  go_loopw [3, 4] (fun s i wr => ∃ j : Nat, j ≤ gn ∧ i = .int .i64 j ∧ s = .string (sB (Lib.join ([[117, 112, 100, 97, 116, 101]] ++ wG (gs.take j)) [32])) ∧ New w wr ∧ Blk wr w.heap.size 39 #[.int .i64 2, .int .i64 sa, .int .i64 ho, .int .i64 si, .int .i64 wh, .int .i64 su, .slice ga gn gc, .bool has, .int .i64 o, .slice a n c, .int .i64 nx, .int .i64 md, .int .i64 lc, .slice ra rn rc]) (fun _ i _ => gn - (intOf i).toNat)
  case atStart => exact ⟨0, Nat.zero_le _, rfl, by simp [wG, Lib.join_one]; rfl, hw, bM⟩
  case round =>
    obtain ⟨j, hj, rfl, rfl, hnw, bU⟩ := hrel
    have cU := bU.cells
    by_cases hlt : j < gn
    · obtain ⟨b, off, x, y, ha, hz, hc0, hc1⟩ := (hg.new hnw).at j (by rw [HG.out]; exact hlt)
      have hp := P1.out (x, y) (List.mem_of_getElem? hz)
      have hD := txl_len hp
      have hT : Hid (Lib.join ([[117, 112, 100, 97, 116, 101]] ++ wG (gs.take (j + 1))) [32] = Lib.join ([[117, 112, 100, 97, 116, 101]] ++ wG (gs.take j)) [32] ++ [32, 45] ++ txl x y) := by
        unfold Hid
        rw [wG_snoc hz, ← List.append_assoc, join_snoc _ _ (by simp)]
        simp
      have hJ := J1.out j
      obtain ⟨J, hJe⟩ : ∃ J, Lib.join ([[117, 112, 100, 97, 116, 101]] ++ wG (gs.take j)) [32] = J := ⟨_, rfl⟩
      have HJe : Hid (Lib.join ([[117, 112, 100, 97, 116, 101]] ++ wG (gs.take j)) [32] = J) := hJe
      rw [hJe] at hJ ⊢
      obtain ⟨E, hE⟩ : ∃ E, txl x y = E := ⟨_, rfl⟩
      have HE : Hid (txl x y = E) := hE
      rw [hE] at hD
      have HADR : Hid (ga = some ⟨b, off, none⟩) := ha
      rw [ha] at cU
      clear hz hJe hE ha
      have z1 : (sB J).size ≤ 2000 := hJ
      have z2 : (sB E).size ≤ 11 := hD
      have z3 : (sB [32, 45]).size = 2 := rfl
      go_wp2_with fail
      refine (specTxl x y _ hp).mono ?_
      rintro e w1 ⟨rfl, hn1⟩
      rw [HE.out]
      go_wp2
      go_roundw
      case rel => exact ⟨j + 1, by omega, by go_num, by rw [hT.out, HJe.out, HE.out, ← sB_app, ← sB_app]; rfl, hnw.trans hn1, bU.new hn1⟩
      case measure => simp [intOf]; omega
    · have HJ : Hid (j = gn) := by unfold Hid; omega
      rw [List.take_of_length_le (by rw [HG.out]; omega)]
      obtain ⟨wA, rfl⟩ : ∃ W0, W0 = wr := ⟨_, rfl⟩
      clear bM cM hw
      go_wp2
      go_loopw [3, 5] (fun s i wr => ∃ q : Nat, q ≤ rn ∧ i = .int .i64 q ∧ s = .string (sB (Lib.join ([[117, 112, 100, 97, 116, 101]] ++ wG gs ++ wR (rs.take q)) [32])) ∧ New w wr ∧ Blk wr w.heap.size 39 #[.int .i64 2, .int .i64 sa, .int .i64 ho, .int .i64 si, .int .i64 wh, .int .i64 su, .slice ga gn gc, .bool has, .int .i64 o, .slice a n c, .int .i64 nx, .int .i64 md, .int .i64 lc, .slice ra rn rc]) (fun _ i _ => rn - (intOf i).toNat)
      case atStart => exact ⟨0, Nat.zero_le _, rfl, by simp [wR], hnw, bU⟩
      case round =>
        obtain ⟨q, hq, rfl, rfl, hnw, bU⟩ := hrel
        have cU := bU.cells
        by_cases hlt : q < rn
        · obtain ⟨b, off, x, y, ha, hz, hc0, hc1⟩ := (hr.new hnw).at q (by rw [HR.out]; exact hlt)
          have hp := P2.out (x, y) (List.mem_of_getElem? hz)
          have hD := txl_len hp
          have hT : Hid (Lib.join ([[117, 112, 100, 97, 116, 101]] ++ wG gs ++ wR (rs.take (q + 1))) [32] = Lib.join ([[117, 112, 100, 97, 116, 101]] ++ wG gs ++ wR (rs.take q)) [32] ++ [32, 43] ++ txl x y) := by
            unfold Hid
            rw [wR_snoc hz, ← List.append_assoc, join_snoc _ _ (by simp)]
            simp
          have hJ := J2.out q
          obtain ⟨J, hJe⟩ : ∃ J, Lib.join ([[117, 112, 100, 97, 116, 101]] ++ wG gs ++ wR (rs.take q)) [32] = J := ⟨_, rfl⟩
          have HJe : Hid (Lib.join ([[117, 112, 100, 97, 116, 101]] ++ wG gs ++ wR (rs.take q)) [32] = J) := hJe
          rw [hJe] at hJ ⊢
          obtain ⟨E, hE⟩ : ∃ E, txl x y = E := ⟨_, rfl⟩
          have HE : Hid (txl x y = E) := hE
          rw [hE] at hD
          have HADR : Hid (ra = some ⟨b, off, none⟩) := ha
          rw [ha] at cU
          clear hz hJe hE ha
          have z1 : (sB J).size ≤ 2000 := hJ
          have z2 : (sB E).size ≤ 11 := hD
          have z3 : (sB [32, 43]).size = 2 := rfl
          go_wp2_with fail
          refine (specTxl x y _ hp).mono ?_
          rintro e w1 ⟨rfl, hn1⟩
          rw [HE.out]
          go_wp2
          go_roundw
          case rel => exact ⟨q + 1, by omega, by go_num, by rw [hT.out, HJe.out, HE.out, ← sB_app, ← sB_app]; rfl, hnw.trans hn1, bU.new hn1⟩
          case measure => simp [intOf]; omega
        · obtain rfl : q = rn := by omega
          rw [List.take_of_length_le (by rw [HR.out]; omega)]
          have hJ := J2.out rs.length
          rw [List.take_of_length_le (Nat.le_refl _)] at hJ
          obtain ⟨J, hJe⟩ : ∃ J, Lib.join ([[117, 112, 100, 97, 116, 101]] ++ wG gs ++ wR rs) [32] = J := ⟨_, rfl⟩
          have HJe : Hid (Lib.join ([[117, 112, 100, 97, 116, 101]] ++ wG gs ++ wR rs) [32] = J) := hJe
          rw [hJe] at hJ ⊢
          clear hJe
          have z1 : (sB J).size ≤ 2000 := hJ
          by_cases hh : has = true
          · subst hh
            have haf := P3.out rfl
            obtain ⟨⟨t1, t2, t3, t4⟩, t5, t6⟩ := af_ok5 haf
            have hD := att_len haf
            have HT : Hid (Lib.join (wUp gs true o xs nx md lc rs) [32] = J ++ [32] ++ att o xs nx md lc) := by
              unfold Hid wUp
              rw [if_pos rfl, join_snoc _ _ (by simp), HJe.out]
            obtain ⟨E, hE⟩ : ∃ E, att o xs nx md lc = E := ⟨_, rfl⟩
            have HE : Hid (att o xs nx md lc = E) := hE
            rw [hE] at hD
            clear hE
            have z2 : (sB E).size ≤ 100 := hD
            have z3 : (sB [32]).size = 1 := rfl
            have t7 : n ≤ 6 := by rw [← HN.out]; exact t5
            go_wp2_with fail
            refine (l3Text_ok o nx md lc a n c xs _ (hx.new hnw) HN.out t1 t2 t3 t4 t7 t6).mono ?_
            rintro e w1 ⟨rfl, hn1⟩
            rw [HE.out]
            go_wp2
            go_ret
            exact ⟨by rw [HT.out, HE.out, ← sB_app, ← sB_app]; rfl, hnw.trans hn1⟩
          · have hb : has = false := by cases has; rfl; exact absurd rfl hh
            subst hb
            have HT : Hid (Lib.join (wUp gs false o xs nx md lc rs) [32] = J) := by
              unfold Hid wUp
              rw [if_neg (by simp), List.append_nil, HJe.out]
            go_wp2
            go_ret
            exact ⟨by rw [HT.out]; rfl, hnw⟩

/-- What a right message is. -/
theorem mf_zero17 {gs rs : List (Int × Int)} {has : Bool} {o nx md lc : Int} {xs : List Int} {kd sa ho si wh su : Int} (h : mf kd sa ho si wh su gs has o xs nx md lc rs = 0) :
    (kd = 1 ∧ Opn sa ho si) ∨ (kd = 2 ∧ uf gs has o xs nx md lc rs = 0) ∨ (kd = 3 ∧ Nty wh su) ∨ kd = 4 := by
  by_cases h0 : kd < 1 ∨ 4 < kd
  · rw [mf_none h0] at h; cases h
  rcases (show kd = 1 ∨ kd = 2 ∨ kd = 3 ∨ kd = 4 by omega) with rfl | rfl | rfl | rfl
  · by_cases h1 : Opn sa ho si
    · exact .inl ⟨rfl, h1⟩
    · rw [mf1_bad h1] at h; cases h
  · by_cases h2 : sa = 0 ∧ ho = 0 ∧ si = 0 ∧ wh = 0 ∧ su = 0
    · rw [mf2_ok h2] at h; exact .inr (.inl ⟨rfl, h⟩)
    · rw [mf2_form h2] at h; cases h
  · by_cases h1 : Nty wh su
    · exact .inr (.inr (.inl ⟨rfl, h1⟩))
    · rw [mf3_bad h1] at h; cases h
  · exact .inr (.inr (.inr rfl))

set_option maxHeartbeats 3200000 in
theorem specMT (ga a ra : Option Addr) (gn gc n c rn rc : Nat) (has : Bool) (o nx md lc : Int) (gs rs : List (Int × Int)) (xs : List Int) (kd sa ho si wh su : Int) (w : World) (hg : PsAt w ga gs) (hx : NsAt w a xs) (hr : PsAt w ra rs) (hgn : gs.length = gn) (hn : xs.length = n) (hrn : rs.length = rn) (hm1 : gn ≤ 1048576) (hm2 : n ≤ 1048576) (hm3 : rn ≤ 1048576) : Calls Tryd.prog 5 #[.agg #[.int .i64 kd, .int .i64 sa, .int .i64 ho, .int .i64 si, .int .i64 wh, .int .i64 su, .slice ga gn gc, .bool has, .int .i64 o, .slice a n c, .int .i64 nx, .int .i64 md, .int .i64 lc, .slice ra rn rc]] w fun e w' => e = .returned (.agg #[.int .i64 (mt kd sa ho si wh su gs has o xs nx md lc rs).1, .string ⟨(mt kd sa ho si wh su gs has o xs nx md lc rs).2.toArray⟩]) ∧ New w w' := by
  have hw : New w ((w.alloc (.cells #[.int .i64 kd, .int .i64 sa, .int .i64 ho, .int .i64 si, .int .i64 wh, .int .i64 su, .slice ga gn gc, .bool has, .int .i64 o, .slice a n c, .int .i64 nx, .int .i64 md, .int .i64 lc, .slice ra rn rc] 39)).alloc (.cells #[.int .i64 0, .string ⟨#[]⟩] 32)) := ((New.refl w).alloc _).alloc _
  have bM : Blk ((w.alloc (.cells #[.int .i64 kd, .int .i64 sa, .int .i64 ho, .int .i64 si, .int .i64 wh, .int .i64 su, .slice ga gn gc, .bool has, .int .i64 o, .slice a n c, .int .i64 nx, .int .i64 md, .int .i64 lc, .slice ra rn rc] 39)).alloc (.cells #[.int .i64 0, .string ⟨#[]⟩] 32)) w.heap.size 39 #[.int .i64 kd, .int .i64 sa, .int .i64 ho, .int .i64 si, .int .i64 wh, .int .i64 su, .slice ga gn gc, .bool has, .int .i64 o, .slice a n c, .int .i64 nx, .int .i64 md, .int .i64 lc, .slice ra rn rc] := (Blk.mk _ _ _ _ rfl).alloc _
  have bR : Blk ((w.alloc (.cells #[.int .i64 kd, .int .i64 sa, .int .i64 ho, .int .i64 si, .int .i64 wh, .int .i64 su, .slice ga gn gc, .bool has, .int .i64 o, .slice a n c, .int .i64 nx, .int .i64 md, .int .i64 lc, .slice ra rn rc] 39)).alloc (.cells #[.int .i64 0, .string ⟨#[]⟩] 32)) (w.heap.size + 1) 32 #[.int .i64 0, .string ⟨#[]⟩] := Blk.mk _ _ _ _ (by simp)
  have ge1 : w.heap.size ≤ w.heap.size + 1 := by omega
  have cM := bM.cells
  by_cases hf : mf kd sa ho si wh su gs has o xs nx md lc rs = 0
  case neg =>
    have hfb : (mf kd sa ho si wh su gs has o xs nx md lc rs != 0) = true := by simpa using hf
    have HT : Hid (mt kd sa ho si wh su gs has o xs nx md lc rs = (mf kd sa ho si wh su gs has o xs nx md lc rs, [])) := if_neg hf
    clear hf
    go_enter Tryd.func5, Tryd.ntmps5
    go_wp2_with fail
    refine (specMF ga a ra gn gc n c rn rc has o nx md lc gs rs xs kd sa ho si wh su _ (hg.new hw) (hx.new hw) (hr.new hw) hgn hn hrn hm1 hm2 hm3).mono ?_
    rintro e w1 ⟨rfl, hn1⟩
    generalize mf kd sa ho si wh su gs has o xs nx md lc rs = z at *
    have hcs := (bR.new hn1).cells
    have hfs := (bR.new hn1).frees
    clear cM
    go_wp2
    refine bodyPost_ret (v := .agg #[.int .i64 z, .string ⟨#[]⟩]) (by simp [results, Tryd.results5, go_sem, hcs]) rfl ⟨by rw [HT.out], ?_⟩
    exact New.setCell (New.setCell (hw.trans hn1) ge1 _) ge1 _
  have HF : Hid (mf kd sa ho si wh su gs has o xs nx md lc rs = 0) := hf
  have HT : Hid (mt kd sa ho si wh su gs has o xs nx md lc rs = (0, Lib.join (wMs kd sa ho si wh su gs has o xs nx md lc rs) [32])) := if_pos hf
  have HQ := mf_zero17 hf
  have hz : ((0 : Int) != 0) = false := rfl
  have HS : Hid (∀ W, New w W → Calls Tryd.prog 12 #[.agg #[.int .i64 kd, .int .i64 sa, .int .i64 ho, .int .i64 si, .int .i64 wh, .int .i64 su, .slice ga gn gc, .bool has, .int .i64 o, .slice a n c, .int .i64 nx, .int .i64 md, .int .i64 lc, .slice ra rn rc]] W fun e w' => e = .returned (.string ⟨(Lib.join (wMs kd sa ho si wh su gs has o xs nx md lc rs) [32]).toArray⟩) ∧ New W w') := by
    intro W hW
    rcases HQ with ⟨rfl, h1⟩ | ⟨rfl, h1⟩ | ⟨rfl, h1⟩ | rfl
    · exact l4_open ga a ra gn gc n c rn rc has o nx md lc gs rs xs sa ho si wh su W h1
    · exact l4_upd ga a ra gn gc n c rn rc has o nx md lc gs rs xs sa ho si wh su W (hg.new hW) (hx.new hW) (hr.new hW) hgn hn hrn h1
    · exact l4_not ga a ra gn gc n c rn rc has o nx md lc gs rs xs sa ho si wh su W h1
    · exact l4_keep ga a ra gn gc n c rn rc has o nx md lc gs rs xs sa ho si wh su W
  clear hf HQ
  go_enter Tryd.func5, Tryd.ntmps5
  go_wp2_with fail
  refine (specMF ga a ra gn gc n c rn rc has o nx md lc gs rs xs kd sa ho si wh su _ (hg.new hw) (hx.new hw) (hr.new hw) hgn hn hrn hm1 hm2 hm3).mono ?_
  rintro e w1 ⟨rfl, hn1⟩
  rw [HF.out]
  have hw1 := hw.trans hn1
  have bM1 := bM.new hn1
  have bR1 := bR.new hn1
  have cM1 := bM1.cells
  clear cM bM bR hn1 hw
  go_wp2_with fail
  refine (HS.out _ hw1).mono ?_
  rintro e w2 ⟨rfl, hn2⟩
  have hw9 := hw1.trans hn2
  have bR9 := bR1.new hn2
  have hcs := bR9.cells
  have hfs := bR9.frees
  clear cM1
  generalize Lib.join (wMs kd sa ho si wh su gs has o xs nx md lc rs) [32] = T at *
  go_wp2
  refine bodyPost_ret (v := .agg #[.int .i64 0, .string ⟨T.toArray⟩]) (by simp [results, Tryd.results5, go_sem, hcs]) rfl ⟨by rw [HT.out], ?_⟩
  exact New.setCell (New.setCell hw9 ge1 _) ge1 _

end Go.Proofs.YtljkcijakdhdiaaDoor
