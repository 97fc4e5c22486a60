/- What is proved here: for every list of bytes the law that a prefix is read back from its text returns true. The three tables of the library that the row lists lie as the program's text lays them (the card ties them to it). -/
import Derived.Test.YthjoogfbhaceoaaDoorDrawPp2
import Derived.Test.YthjoogfbhaceoaaDoorLwBig
import Derived.Test.YthjoogfbhaceoaaDoorPpFn
import Derived.Test.YthjoogfbhaceoaaDoorPpSpec
namespace Go.Proofs.YthjoogfbhaceoaaDoor
open Go.ChangeShapes Go.WideShapes Go.ChangeAt Go.RowKit Go.Sort
set_option linter.unusedVariables false

theorem has_self {a l : Int} (h : pf a l = 0) : hasA a l a = true := by
  obtain ⟨h0, h1, h2, h3, h4⟩ := pf_ok h
  unfold hasA
  simp [h, h0, h1, h4]
theorem in_self {a l : Int} (h : pf a l = 0) : inP a l a l = true := by
  unfold inP
  rw [has_self h]
  simp [h]
theorem szp_zero : szp 0 = 65536 := by decide
theorem pf_zero : pf 0 0 = 0 := by decide
theorem in_all {a l : Int} (h : pf a l = 0) : inP a l 0 0 = true := by
  obtain ⟨h0, h1, h2, h3, h4⟩ := pf_ok h
  unfold inP hasA
  rw [szp_zero, pf_zero]
  simp [h, h0, h1, h2]
  omega

theorem implTx_is (a l c : Int) (s : ByteArray) (w : World) (ht : Tab w) (h : tx a l = (c, s)) : Calls Tryd.prog 7 #[.agg #[.int .i64 a, .int .i64 l]] w fun e w' => e = .returned (.agg #[.int .i64 c, .string s]) ∧ New w w' := by
  have := implTx a l w ht
  rw [h] at this
  exact this
theorem implParse_is (x : List UInt8) (c a l : Int) (w : World) (hm : x.length ≤ 1048576) (h : parse x = (c, a, l)) : Calls Tryd.prog 6 #[.string ⟨x.toArray⟩] w fun e w' => e = .returned (.agg #[.int .i64 c, .int .i64 a, .int .i64 l]) ∧ New w w' := by
  have := implParse x w hm
  rw [h] at this
  exact this
theorem specParse_is (x : List UInt8) (c a l : Int) (w : World) (hm : x.length ≤ 1048576) (h : parse x = (c, a, l)) : Calls Tryd.prog 8 #[.string ⟨x.toArray⟩] w fun e w' => e = .returned (.agg #[.int .i64 c, .int .i64 a, .int .i64 l]) ∧ New w w' := by
  have := specParse x w hm
  rw [h] at this
  exact this

theorem implHas_is (a l x : Int) (v : Bool) (w : World) (h : hasA a l x = v) : Calls Tryd.prog 12 #[.agg #[.int .i64 a, .int .i64 l], .int .i64 x] w fun e w' => e = .returned (.bool v) ∧ New w w' := h ▸ implHas a l x w
theorem implIn_is (a l b m : Int) (v : Bool) (w : World) (h : inP a l b m = v) : Calls Tryd.prog 13 #[.agg #[.int .i64 a, .int .i64 l], .agg #[.int .i64 b, .int .i64 m]] w fun e w' => e = .returned (.bool v) ∧ New w w' := h ▸ implIn a l b m w

set_option maxHeartbeats 3200000 in
theorem fnpx_walk (a : Option Addr) (n c : Nat) (zs : List Int) (w : World) (h : BsAt w a zs) (hn : zs.length = n) (hm : n ≤ maxLen) (hT : Tab w) :
    Calls Tryd.prog 3 #[.slice a n c] w fun e w' => e = .returned (.bool true) ∧ New w w' := by
  by_cases hbig : 1048576 < n
  · go_enter Tryd.func3, Tryd.ntmps3
    go_wp2_with fail
    refine (lbig_yes a n c _ hbig).mono ?_
    rintro e w1 ⟨rfl, rfl⟩
    go_wp2
    go_ret
    exact ⟨rfl, New.refl _⟩
  · have hm' : n ≤ 2097152 := by omega
    clear hm
    have HN : Hid (zs.length = n) := hn
    clear hn
    have HA : Hid (∀ (w' : World), New w w' → ∀ x, zs ≠ [] → a = some x → x.block < w'.heap.size) := by
      intro w' hw x hz hx
      obtain ⟨b, off, e, hlt⟩ := h.block_lt hz
      rw [e] at hx
      obtain rfl := Option.some.inj hx
      exact Nat.lt_of_lt_of_le hlt hw.size
    have f1 : ∀ (x : Int) (v : Value) (W : World), (Instr.field 31 (.agg #[.int .i64 x, v]) 1).run Tryd.prog W = .ok v W := fun _ _ _ => by kernel_rfl
    have f2 : ∀ (x y z : Int) (W : World), (Instr.field 28 (.agg #[.int .i64 x, .int .i64 y, .int .i64 z]) 0).run Tryd.prog W = .ok (.int .i64 x) W := fun _ _ _ _ => by kernel_rfl
    have f3 : ∀ (x y z : Int) (W : World), (Instr.field 28 (.agg #[.int .i64 x, .int .i64 y, .int .i64 z]) 1).run Tryd.prog W = .ok (.agg #[.int .i64 y, .int .i64 z]) W := fun _ _ _ _ => by kernel_rfl
    go_enter Tryd.func3, Tryd.ntmps3
    go_wp2_with fail
    refine (lbig_no a n c _ hbig).mono ?_
    rintro e w ⟨rfl, rfl⟩
    go_wp2_with fail
    refine (drawParse_any a n c zs _ h HN.out hm' (HA.out _ (New.refl _))).mono ?_
    rintro e w1 ⟨s, rfl, hss, hn1⟩
    obtain ⟨x, rfl⟩ : ∃ x : List UInt8, s = ⟨x.toArray⟩ := ⟨s.data.toList, (Lib.mk_data s).symm⟩
    rw [size_l] at hss
    have hxl : x.length ≤ 1048576 := by omega
    obtain ⟨cd, pa, pl, hpx⟩ : ∃ cd pa pl, parse x = (cd, pa, pl) := ⟨_, _, _, rfl⟩
    go_wp2_with fail
    refine (implParse_is x cd pa pl _ hxl hpx).mono ?_
    rintro e w2 ⟨rfl, hn2⟩
    have hn12 := (hn1.trans hn2).alloc (.cells #[.int .i64 cd, .int .i64 pa, .int .i64 pl] 28)
    have hR : Blk (w2.alloc (.cells #[.int .i64 cd, .int .i64 pa, .int .i64 pl] 28)) w2.heap.size 28 #[.int .i64 cd, .int .i64 pa, .int .i64 pl] := Blk.mk _ _ _ _ rfl
    have hc := blk_regrown hR
    have hTg : Hid (∀ d os, Tab (grow (redrawn (w2.alloc (.cells #[.int .i64 cd, .int .i64 pa, .int .i64 pl] 28)) d) os)) := fun d os => hT.new (hn12.trans (new_regrown _ d os))
    have step : ∀ w3, New w w3 → Calls Tryd.prog 9 #[.slice a n c] w3 fun e w' => ∃ x l : Int, e = .returned (.agg #[.int .i64 x, .int .i64 l]) ∧ New w3 w' := fun w3 hw3 => drawText_any a n c zs w3 (h.new hw3) HN.out hm' (HA.out _ hw3)
    have STEP : Hid _ := step
    clear step
    by_cases hcd : cd = 0
    · subst hcd
      obtain ⟨p, o, l, hp, ho, hl, hpf, hpx2, rfl⟩ := txt_parse (x := x) (by rw [hpx])
      rw [hpx] at hpx2
      simp only [Prod.mk.injEq, true_and] at hpx2
      obtain ⟨rfl, rfl⟩ := hpx2
      have htx : tx ((p * 256 + o : Nat) : Int) (l : Int) = (0, ⟨(txL p o l).toArray⟩) := by rw [tx_ok hp ho hpf, txt_list]
      have HX : Hid (tx ((p * 256 + o : Nat) : Int) (l : Int) = (0, ⟨(txL p o l).toArray⟩)) := htx
      clear htx hpx hxl hss
      generalize txL p o l = X at *
      generalize ((p * 256 + o : Nat) : Int) = A at *
      go_wp2_with fail
      refine wp_region_quiet_below (by kernel_rfl) (by kernel_rfl) ?_
      repeat (go_big_quiet_step ((go_at_call 7; exact calls_regrown (implTx_is _ _ _ _ _ (hTg.out _ _) HX.out))))
      refine wpQuiet_nil ?_
      rintro w3 hn3
      replace hn3 := new_of_regrown hn3
      have hw3 := hn12.trans hn3
      go_wp2_with fail
      refine (STEP.out w3 hw3).mono ?_
      rintro e w4 ⟨u, v, rfl, hn4⟩
      have hP : Blk (w4.alloc (.cells #[.int .i64 u, .int .i64 v] 26)) w4.heap.size 26 #[.int .i64 u, .int .i64 v] := Blk.mk _ _ _ _ rfl
      have hw4 := (hw3.trans hn4).alloc (.cells #[.int .i64 u, .int .i64 v] 26)
      clear hc
      rcases pf_three u v with hq | hq | hq
      · obtain ⟨p2, o2, m2, hp2, ho2, hm2, rfl, rfl⟩ := pf_parts hq
        have H2 : Hid (tx ((p2 * 256 + o2 : Nat) : Int) (m2 : Int) = (0, ⟨(txL p2 o2 m2).toArray⟩)) := by unfold Hid; rw [tx_ok hp2 ho2 hq, txt_list]
        have H3 : Hid (parse (txL p2 o2 m2) = (0, ((p2 * 256 + o2 : Nat) : Int), (m2 : Int))) := parse_txt hp2 ho2 (by omega) hq
        have H4 : Hid ((txL p2 o2 m2).length ≤ 1048576) := by have := txL_len (show p2 < 1000 by omega) (show o2 < 1000 by omega) (show m2 < 1000 by omega); unfold Hid; omega
        have H5 : Hid (pf ((p2 * 256 + o2 : Nat) : Int) (m2 : Int) = 0) := hq
        clear hq hp2 ho2
        generalize txL p2 o2 m2 = X2 at *
        generalize ((p2 * 256 + o2 : Nat) : Int) = A2 at *
        generalize ((m2 : Nat) : Int) = L2 at *
        go_wp2_with fail
        refine (implTx_is A2 L2 _ _ _ (hT.new hw4) H2.out).mono ?_
        rintro e w5 ⟨rfl, hn5⟩
        have hw5 := (hw4.trans hn5).alloc (.cells #[.int .i64 0, .string ⟨X2.toArray⟩] 31)
        have hX : Blk (w5.alloc (.cells #[.int .i64 0, .string ⟨X2.toArray⟩] 31)) w5.heap.size 31 #[.int .i64 0, .string ⟨X2.toArray⟩] := Blk.mk _ _ _ _ rfl
        have hcx := blk_regrown hX
        have hcp := blk_regrown ((hP.new hn5).alloc (.cells #[.int .i64 0, .string ⟨X2.toArray⟩] 31))
        have hA2 : (A2 == A2) = true := by simp
        have hL2 : (L2 == L2) = true := by simp
        go_wp2_with fail
        refine wp_region_quiet_below (by kernel_rfl) (by kernel_rfl) ?_
        repeat (go_big_quiet_step (first | (go_at_call 6; exact calls_regrown (implParse_is X2 _ _ _ _ H4.out H3.out)) | (go_at_call 12; exact calls_regrown (implHas_is A2 L2 A2 true _ (has_self H5.out))) | (go_at_call_of 13 (0 : Int); exact calls_regrown (implIn_is A2 L2 0 0 true _ (in_all H5.out))) | (go_at_call 13; exact calls_regrown (implIn_is A2 L2 A2 L2 true _ (in_self H5.out)))))
        refine wpQuiet_nil ?_
        rintro w6 hn6
        replace hn6 := new_of_regrown hn6
        go_wp2
        go_ret
        exact ⟨rfl, hw5.trans hn6⟩
      all_goals
        have H2 : Hid (tx u v = (pf u v, ⟨#[]⟩)) := by unfold Hid tx; rw [if_neg (by omega)]
        rw [hq] at H2
        go_wp2_with fail
        refine (implTx_is u v _ _ _ (hT.new hw4) H2.out).mono ?_
        rintro e w5 ⟨rfl, hn5⟩
        have hw5 := (hw4.trans hn5).alloc (.cells #[.int .i64 (pf u v), .string ⟨#[]⟩] 31)
        have hX : Blk (w5.alloc (.cells #[.int .i64 (pf u v), .string ⟨#[]⟩] 31)) w5.heap.size 31 #[.int .i64 (pf u v), .string ⟨#[]⟩] := Blk.mk _ _ _ _ rfl
        have hcx := blk_regrown hX
        have hcp := blk_regrown ((hP.new hn5).alloc (.cells #[.int .i64 (pf u v), .string ⟨#[]⟩] 31))
        rw [hq] at hcx hcp hw5
        go_wp2_with fail
        refine wp_region_quiet_below (by kernel_rfl) (by kernel_rfl) ?_
        repeat (go_big_quiet_step (first | (go_at_call 10; exact calls_regrown (specPF_is u v _ _ hq)) | (go_at_call 11; exact calls_regrown (implPF_is u v _ _ hq))))
        refine wpQuiet_nil ?_
        rintro w6 hn6
        replace hn6 := new_of_regrown hn6
        go_wp2
        go_ret
        exact ⟨rfl, hw5.trans hn6⟩

    · have hne : (cd == 0) = false := by simpa using hcd
      have hnn : (cd != cd) = false := by simp
      have hn0 : (cd != 0) = true := by simpa using hcd
      have HX : Hid (parse x = (cd, pa, pl)) := hpx
      have HXL : Hid (x.length ≤ 1048576) := hxl
      clear hpx hxl hss
      go_wp2_with fail
      refine wp_region_quiet_below (by kernel_rfl) (by kernel_rfl) ?_
      repeat (go_big_quiet_step ((go_at_call 8; exact calls_regrown (specParse_is x _ _ _ _ HXL.out HX.out))))
      refine wpQuiet_nil ?_
      rintro w3 hn3
      replace hn3 := new_of_regrown hn3
      have hw3 := hn12.trans hn3
      go_wp2_with fail
      refine (STEP.out w3 hw3).mono ?_
      rintro e w4 ⟨u, v, rfl, hn4⟩
      have hP : Blk (w4.alloc (.cells #[.int .i64 u, .int .i64 v] 26)) w4.heap.size 26 #[.int .i64 u, .int .i64 v] := Blk.mk _ _ _ _ rfl
      have hw4 := (hw3.trans hn4).alloc (.cells #[.int .i64 u, .int .i64 v] 26)
      clear hc
      rcases pf_three u v with hq | hq | hq
      · obtain ⟨p2, o2, m2, hp2, ho2, hm2, rfl, rfl⟩ := pf_parts hq
        have H2 : Hid (tx ((p2 * 256 + o2 : Nat) : Int) (m2 : Int) = (0, ⟨(txL p2 o2 m2).toArray⟩)) := by unfold Hid; rw [tx_ok hp2 ho2 hq, txt_list]
        have H3 : Hid (parse (txL p2 o2 m2) = (0, ((p2 * 256 + o2 : Nat) : Int), (m2 : Int))) := parse_txt hp2 ho2 (by omega) hq
        have H4 : Hid ((txL p2 o2 m2).length ≤ 1048576) := by have := txL_len (show p2 < 1000 by omega) (show o2 < 1000 by omega) (show m2 < 1000 by omega); unfold Hid; omega
        have H5 : Hid (pf ((p2 * 256 + o2 : Nat) : Int) (m2 : Int) = 0) := hq
        clear hq hp2 ho2
        generalize txL p2 o2 m2 = X2 at *
        generalize ((p2 * 256 + o2 : Nat) : Int) = A2 at *
        generalize ((m2 : Nat) : Int) = L2 at *
        go_wp2_with fail
        refine (implTx_is A2 L2 _ _ _ (hT.new hw4) H2.out).mono ?_
        rintro e w5 ⟨rfl, hn5⟩
        have hw5 := (hw4.trans hn5).alloc (.cells #[.int .i64 0, .string ⟨X2.toArray⟩] 31)
        have hX : Blk (w5.alloc (.cells #[.int .i64 0, .string ⟨X2.toArray⟩] 31)) w5.heap.size 31 #[.int .i64 0, .string ⟨X2.toArray⟩] := Blk.mk _ _ _ _ rfl
        have hcx := blk_regrown hX
        have hcp := blk_regrown ((hP.new hn5).alloc (.cells #[.int .i64 0, .string ⟨X2.toArray⟩] 31))
        have hA2 : (A2 == A2) = true := by simp
        have hL2 : (L2 == L2) = true := by simp
        go_wp2_with fail
        refine wp_region_quiet_below (by kernel_rfl) (by kernel_rfl) ?_
        repeat (go_big_quiet_step (first | (go_at_call 6; exact calls_regrown (implParse_is X2 _ _ _ _ H4.out H3.out)) | (go_at_call 12; exact calls_regrown (implHas_is A2 L2 A2 true _ (has_self H5.out))) | (go_at_call_of 13 (0 : Int); exact calls_regrown (implIn_is A2 L2 0 0 true _ (in_all H5.out))) | (go_at_call 13; exact calls_regrown (implIn_is A2 L2 A2 L2 true _ (in_self H5.out)))))
        refine wpQuiet_nil ?_
        rintro w6 hn6
        replace hn6 := new_of_regrown hn6
        go_wp2
        go_ret
        exact ⟨rfl, hw5.trans hn6⟩
      all_goals
        have H2 : Hid (tx u v = (pf u v, ⟨#[]⟩)) := by unfold Hid tx; rw [if_neg (by omega)]
        rw [hq] at H2
        go_wp2_with fail
        refine (implTx_is u v _ _ _ (hT.new hw4) H2.out).mono ?_
        rintro e w5 ⟨rfl, hn5⟩
        have hw5 := (hw4.trans hn5).alloc (.cells #[.int .i64 (pf u v), .string ⟨#[]⟩] 31)
        have hX : Blk (w5.alloc (.cells #[.int .i64 (pf u v), .string ⟨#[]⟩] 31)) w5.heap.size 31 #[.int .i64 (pf u v), .string ⟨#[]⟩] := Blk.mk _ _ _ _ rfl
        have hcx := blk_regrown hX
        have hcp := blk_regrown ((hP.new hn5).alloc (.cells #[.int .i64 (pf u v), .string ⟨#[]⟩] 31))
        rw [hq] at hcx hcp hw5
        go_wp2_with fail
        refine wp_region_quiet_below (by kernel_rfl) (by kernel_rfl) ?_
        repeat (go_big_quiet_step (first | (go_at_call 10; exact calls_regrown (specPF_is u v _ _ hq)) | (go_at_call 11; exact calls_regrown (implPF_is u v _ _ hq))))
        refine wpQuiet_nil ?_
        rintro w6 hn6
        replace hn6 := new_of_regrown hn6
        go_wp2
        go_ret
        exact ⟨rfl, hw5.trans hn6⟩

end Go.Proofs.YthjoogfbhaceoaaDoor
