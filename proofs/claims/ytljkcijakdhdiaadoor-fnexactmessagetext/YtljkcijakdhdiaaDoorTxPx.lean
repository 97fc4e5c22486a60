/- What is proved here: what the writing of a prefix as a text answers, in the program and in its model, at all numbers, where the library's table of powers of ten lies as it is laid. -/
import Derived.Test.YtljkcijakdhdiaaDoorDg5
namespace Go.Proofs.YtljkcijakdhdiaaDoor
open Go.RowKit Go.Sort

/-- The text of a prefix. -/
def txt (h o l : Nat) : ByteArray := (((⟨(Lib.decDigits h).toArray⟩ ++ ⟨#[46]⟩) ++ ⟨(Lib.decDigits o).toArray⟩) ++ ⟨#[47]⟩) ++ ⟨(Lib.decDigits l).toArray⟩

set_option maxHeartbeats 800000 in
theorem l2Text_any (h o l : Nat) (w : World) (hh : h < 256) (ho : o < 256) (hl : l < 1000) : Calls Tryd.prog 26 #[.agg #[.int .i64 ((h * 256 + o : Nat) : Int), .int .i64 (l : Int)]] w fun e w' => e = .returned (.string (txt h o l)) ∧ New w w' := by
  have hw := (New.refl w).alloc (.cells #[.int .i64 ((h * 256 + o : Nat) : Int), .int .i64 (l : Int)] 64)
  have hB : Blk (w.alloc (.cells #[.int .i64 ((h * 256 + o : Nat) : Int), .int .i64 (l : Int)] 64)) w.heap.size 64 #[.int .i64 ((h * 256 + o : Nat) : Int), .int .i64 (l : Int)] := Blk.mk _ _ _ _ rfl
  have hc := blk_regrown hB
  have q1 : ((h * 256 + o : Nat) : Int).tdiv 256 = (h : Int) := by rw [Int.tdiv_eq_ediv_of_nonneg (by omega)]; omega
  have q2 : ((h * 256 + o : Nat) : Int) / 256 = (h : Int) := by omega
  have r1 : ((h * 256 + o : Nat) : Int).tmod 256 = (o : Int) := by rw [Int.tmod_eq_emod_of_nonneg (by omega)]; omega
  have r2 : ((h * 256 + o : Nat) : Int) % 256 = (o : Int) := by omega
  have u1 : IntKind.i64.wrap (h : Int) = h := by simp [IntKind.wrap, IntKind.bits, IntKind.signed]; omega
  have u2 : IntKind.i64.wrap (o : Int) = o := by simp [IntKind.wrap, IntKind.bits, IntKind.signed]; omega
  have d1 := digits5 h
  have d2 := digits5 o
  have d3 := digits5 l
  have l1 := dd_len (show h < 1000 by omega)
  have l2 := dd_len (show o < 1000 by omega)
  have l3 := dd_len hl
  have hab : 0 ≤ ((h * 256 + o : Nat) : Int) := by omega
  have hab2 : ((h * 256 + o : Nat) : Int) ≤ 65535 := by omega
  have htx : Hid (txt h o l = (((⟨(Lib.decDigits h).toArray⟩ ++ ⟨#[46]⟩) ++ ⟨(Lib.decDigits o).toArray⟩) ++ ⟨#[47]⟩) ++ ⟨(Lib.decDigits l).toArray⟩) := rfl
  generalize ((h * 256 + o : Nat) : Int) = A at *
  generalize Lib.decDigits h = H at *
  generalize Lib.decDigits o = O at *
  generalize Lib.decDigits l = L at *
  go_enter Tryd.func26, Tryd.ntmps26
  go_wp2_with fail
  refine wp_region_quiet_below (by kernel_rfl) (by kernel_rfl) ?_
  repeat (go_big_quiet_step (first | (go_at_call_of 25 h; exact calls_regrown (d1 _ (by omega))) | (go_at_call_of 25 o; exact calls_regrown (d2 _ (by omega))) | (go_at_call_of 25 l; exact calls_regrown (d3 _ (by omega)))))
  refine wpQuiet_nil ?_
  rintro w1 hn1
  replace hn1 := new_of_regrown hn1
  go_wp2
  go_ret
  exact ⟨by rw [htx.out]; rfl, hw.trans hn1⟩

theorem pf_parts {a l : Int} (h : pf a l = 0) : ∃ x o m : Nat, x < 256 ∧ o < 256 ∧ m ≤ 16 ∧ a = ((x * 256 + o : Nat) : Int) ∧ l = (m : Int) := by
  obtain ⟨h0, h1, h2, h3, _⟩ := pf_ok h
  exact ⟨(a / 256).toNat, (a % 256).toNat, l.toNat, by omega, by omega, by omega, by omega, by omega⟩

/-- What is told of a prefix: a code and a text. -/
def tx (a l : Int) : Int × ByteArray := if pf a l = 0 then (0, txt (a / 256).toNat (a % 256).toNat l.toNat) else (pf a l, ⟨#[]⟩)
theorem tx_ok {x o m : Nat} (hx : x < 256) (ho : o < 256) (h : pf ((x * 256 + o : Nat) : Int) (m : Int) = 0) : tx ((x * 256 + o : Nat) : Int) (m : Int) = (0, txt x o m) := by
  unfold tx
  rw [if_pos h]
  rw [show (((x * 256 + o : Nat) : Int) / 256).toNat = x by omega, show (((x * 256 + o : Nat) : Int) % 256).toNat = o by omega, show ((m : Int)).toNat = m by omega]

set_option maxHeartbeats 800000 in
theorem implTx (a l : Int) (w : World) (ht : Tab w) : Calls Tryd.prog 59 #[.agg #[.int .i64 a, .int .i64 l]] w fun e w' => e = .returned (.agg #[.int .i64 (tx a l).1, .string (tx a l).2]) ∧ New w w' := by
  have hw := ((New.refl w).alloc (.cells #[.int .i64 a, .int .i64 l] 64)).alloc (.cells #[.int .i64 0, .string ⟨#[]⟩] 32)
  have hP : Blk ((w.alloc (.cells #[.int .i64 a, .int .i64 l] 64)).alloc (.cells #[.int .i64 0, .string ⟨#[]⟩] 32)) w.heap.size 64 #[.int .i64 a, .int .i64 l] := (Blk.mk _ _ _ _ rfl).alloc _
  have hR : Blk ((w.alloc (.cells #[.int .i64 a, .int .i64 l] 64)).alloc (.cells #[.int .i64 0, .string ⟨#[]⟩] 32)) (w.heap.size + 1) 32 #[.int .i64 0, .string ⟨#[]⟩] := Blk.mk _ _ _ _ (by simp)
  have hge : w.heap.size ≤ w.heap.size + 1 := by omega
  rcases pf_three a l with hp | hp | hp
  · obtain ⟨h, o, m, hh, ho, hm, rfl, rfl⟩ := pf_parts hp
    have hf : Hid (tx ((h * 256 + o : Nat) : Int) (m : Int) = (0, txt h o m)) := tx_ok hh ho hp
    have q1 : ((h * 256 + o : Nat) : Int).tdiv 256 = (h : Int) := by rw [Int.tdiv_eq_ediv_of_nonneg (by omega)]; omega
    have q2 : ((h * 256 + o : Nat) : Int) / 256 = (h : Int) := by omega
    have r1 : ((h * 256 + o : Nat) : Int).tmod 256 = (o : Int) := by rw [Int.tmod_eq_emod_of_nonneg (by omega)]; omega
    have r2 : ((h * 256 + o : Nat) : Int) % 256 = (o : Int) := by omega
    have u1 : IntKind.i64.wrap (h : Int) = h := by simp [IntKind.wrap, IntKind.bits, IntKind.signed]; omega
    have u2 : IntKind.i64.wrap (o : Int) = o := by simp [IntKind.wrap, IntKind.bits, IntKind.signed]; omega
    have d1 := fmt5 h
    have d2 := fmt5 o
    have d3 := fmt5 m
    have l1 := dd_len (show h < 1000 by omega)
    have l2 := dd_len (show o < 1000 by omega)
    have l3 := dd_len (show m < 1000 by omega)
    have hab : 0 ≤ ((h * 256 + o : Nat) : Int) := by omega
    have hab2 : ((h * 256 + o : Nat) : Int) ≤ 65535 := by omega
    have htx : Hid (txt h o m = (((⟨(Lib.decDigits h).toArray⟩ ++ ⟨#[46]⟩) ++ ⟨(Lib.decDigits o).toArray⟩) ++ ⟨#[47]⟩) ++ ⟨(Lib.decDigits m).toArray⟩) := rfl
    generalize ((h * 256 + o : Nat) : Int) = A at *
    generalize Lib.decDigits h = H at *
    generalize Lib.decDigits o = O at *
    generalize Lib.decDigits m = L at *
    go_enter Tryd.func59, Tryd.ntmps59
    go_wp2_with fail
    refine (implPF_is A m _ _ hp).mono ?_
    rintro e w1 ⟨rfl, hn1⟩
    have hcp := (hP.new hn1).cells
    go_wp2_with fail
    refine (d1 _ (by omega) (ht.new (hw.trans hn1))).mono ?_
    rintro e w2 ⟨rfl, hn2⟩
    have hn12 := hn1.trans hn2
    clear hcp
    have hcp := (hP.new hn12).cells
    go_wp2_with fail
    refine (d2 _ (by omega) (ht.new (hw.trans hn12))).mono ?_
    rintro e w3 ⟨rfl, hn3⟩
    have hn13 := hn12.trans hn3
    clear hcp
    have hcp := (hP.new hn13).cells
    go_wp2_with fail
    refine (d3 _ (by omega) (ht.new (hw.trans hn13))).mono ?_
    rintro e w4 ⟨rfl, hn4⟩
    have hn14 := hn13.trans hn4
    clear hcp
    have hcs := (hR.new hn14).cells
    have hfs := (hR.new hn14).frees
    go_wp2
    refine bodyPost_ret (v := .agg #[.int .i64 0, .string (txt h o m)]) (by rw [htx.out]; simp [results, Tryd.results59, go_sem, hcs]) rfl ⟨by rw [hf.out], ?_⟩
    exact New.setCell (New.setCell (hw.trans hn14) hge _) hge _
  all_goals
    have hf : Hid (tx a l = (pf a l, ⟨#[]⟩)) := by unfold Hid tx; rw [if_neg (by omega)]
    go_enter Tryd.func59, Tryd.ntmps59
    go_wp2_with fail
    refine (implPF_is a l _ _ hp).mono ?_
    rintro e w1 ⟨rfl, hn1⟩
    have hcs := (hR.new hn1).cells
    have hfs := (hR.new hn1).frees
    go_wp2
    refine bodyPost_ret (v := .agg #[.int .i64 (pf a l), .string ⟨#[]⟩]) (by simp [results, Tryd.results59, go_sem, hcs, hp]) rfl ⟨by rw [hf.out], ?_⟩
    exact New.setCell (New.setCell (hw.trans hn1) hge _) hge _

end Go.Proofs.YtljkcijakdhdiaaDoor
