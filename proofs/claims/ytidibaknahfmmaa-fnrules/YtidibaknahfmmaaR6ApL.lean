/- What is proved here: what ApplyRules answers in the model, and what the marking of rules leaves, for every list of at most 1048576 rules and every path of at most 1048576 numbers. -/
import Derived.Test.YtidibaknahfmmaaR6ApS
namespace Go.Proofs.Ytidibaknahfmmaa
open Go.RowKit Go.Sort
set_option linter.unusedVariables false

set_option maxHeartbeats 3200000 in
theorem specAR (y : Option Addr) (rn rk : Nat) (rs : List Ru) (z p q : Int) (o nx md lo : Int) (x : Option Addr) (n c : Nat) (xs : List Int) (w : World) (hr : RsAt w y rs) (hrn : rs.length = rn) (hrm : rn ≤ 1048576) (h : NsAt w x xs) (hn : xs.length = n) (hm : n ≤ 1048576) (hnx : x = none → n = 0 ∧ c = 0) :
    Calls Try.prog 8 #[.slice y rn rk, .int .i64 z, .agg #[.int .i64 p, .int .i64 q], .agg #[.int .i64 o, .slice x n c, .int .i64 nx, .int .i64 md, .int .i64 lo]] w (AAns w (apA rs z p q o xs nx md lo)) := by
  have N0 : New w (((w.alloc (.cells #[.int .i64 p, .int .i64 q] 26)).alloc (.cells #[.int .i64 o, .slice x n c, .int .i64 nx, .int .i64 md, .int .i64 lo] 29)).alloc (.cells #[.int .i64 0, .int .i64 0, .int .i64 0, .slice none 0 0, .int .i64 0, .int .i64 0, .int .i64 0] 33)) := (((New.refl w).alloc _).alloc _).alloc _
  have bP0 : Blk (((w.alloc (.cells #[.int .i64 p, .int .i64 q] 26)).alloc (.cells #[.int .i64 o, .slice x n c, .int .i64 nx, .int .i64 md, .int .i64 lo] 29)).alloc (.cells #[.int .i64 0, .int .i64 0, .int .i64 0, .slice none 0 0, .int .i64 0, .int .i64 0, .int .i64 0] 33)) w.heap.size 26 #[.int .i64 p, .int .i64 q] := ((Blk.mk _ _ _ _ rfl).alloc _).alloc _
  have bA0 : Blk (((w.alloc (.cells #[.int .i64 p, .int .i64 q] 26)).alloc (.cells #[.int .i64 o, .slice x n c, .int .i64 nx, .int .i64 md, .int .i64 lo] 29)).alloc (.cells #[.int .i64 0, .int .i64 0, .int .i64 0, .slice none 0 0, .int .i64 0, .int .i64 0, .int .i64 0] 33)) (w.heap.size + 1) 29 #[.int .i64 o, .slice x n c, .int .i64 nx, .int .i64 md, .int .i64 lo] := (Blk.mk _ _ _ _ (by simp)).alloc _
  have bR0 : Blk (((w.alloc (.cells #[.int .i64 p, .int .i64 q] 26)).alloc (.cells #[.int .i64 o, .slice x n c, .int .i64 nx, .int .i64 md, .int .i64 lo] 29)).alloc (.cells #[.int .i64 0, .int .i64 0, .int .i64 0, .slice none 0 0, .int .i64 0, .int .i64 0, .int .i64 0] 33)) (w.heap.size + 1 + 1) 33 #[.int .i64 0, .int .i64 0, .int .i64 0, .slice none 0 0, .int .i64 0, .int .i64 0, .int .i64 0] := Blk.mk _ _ _ _ (by simp)
  have HN : Hid (xs.length = n) := hn
  have HX : Hid (x = none → n = 0 ∧ c = 0) := hnx
  have HR : Hid (rs.length = rn) := hrn
  have ge1 : w.heap.size ≤ w.heap.size + 1 + 1 := by omega
  clear hn hnx hrn
  go_enter Try.func8, Try.ntmps8
  go_wp2_with fail
  by_cases g0 : rsf rs = 0
  case neg =>
    have hc : apc rs z p q o xs nx md lo = rsf rs := if_neg g0
    have hx : apA rs z p q o xs nx md lo = arC (rsf rs) 0 := by unfold apA; rw [hc, if_neg g0]
    have hz : (rsf rs != 0) = true := by simpa using g0
    refine (specRSF y rn rk rs _ (hr.new N0) HR.out hrm).mono ?_
    rintro e w1 ⟨rfl, hn1⟩
    have bR := bR0.new hn1
    have N1 := N0.trans hn1
    clear bP0 bA0 bR0 hn1 N0
    have cR := bR.cells
    have fR := bR.frees
    go_wp2
    refine bodyPost_ret (v := .agg #[.int .i64 (rsf rs), .int .i64 0, .int .i64 0, .slice none 0 0, .int .i64 0, .int .i64 0, .int .i64 0]) (by simp [results, Try.results8, go_sem, cR]) rfl ?_
    rw [hx]
    refine ⟨_, rfl, OvN.nil _ _, ?_⟩
    simp (disch := exact ge1) only [New.set_iff]
    exact N1
  refine (g0 ▸ specRSF y rn rk rs _ (hr.new N0) HR.out hrm : Calls Try.prog 28 #[.slice y rn rk] _ fun e w' => e = .returned (.int .i64 0) ∧ New _ w').mono ?_
  rintro e w1 ⟨rfl, hn1⟩
  have bP1 := bP0.new hn1
  have bA1 := bA0.new hn1
  have bR1 := bR0.new hn1
  have N1 := N0.trans hn1
  clear bP0 bA0 bR0 hn1 N0
  have cP := bP1.cells
  have cR := bR1.cells
  have fR := bR1.frees
  go_wp2_with fail
  by_cases g1 : 1 ≤ z ∧ z ≤ 65535
  case neg =>
    have hc : apc rs z p q o xs nx md lo = 3 := by unfold apc; rw [if_pos g0, if_neg g1]
    have hx : apA rs z p q o xs nx md lo = arC 3 0 := by unfold apA; rw [hc, if_neg (by decide)]
    refine (in_no z 1 65535 _ (by omega)).mono ?_
    rintro e w2 ⟨rfl, rfl⟩
    go_wp2
    refine bodyPost_ret (v := .agg #[.int .i64 3, .int .i64 0, .int .i64 0, .slice none 0 0, .int .i64 0, .int .i64 0, .int .i64 0]) (by simp [results, Try.results8, go_sem, cR]) rfl ?_
    rw [hx]
    refine ⟨_, rfl, OvN.nil _ _, ?_⟩
    simp (disch := exact ge1) only [New.set_iff]
    exact N1
  refine (in_yes z 1 65535 _ g1).mono ?_
  rintro e w2 ⟨rfl, rfl⟩
  go_wp2_with fail
  by_cases g2 : pf p q = 0
  case neg =>
    have hc : apc rs z p q o xs nx md lo = pf p q := by unfold apc; rw [if_pos g0, if_pos g1, if_neg g2]
    have hx : apA rs z p q o xs nx md lo = arC (pf p q) 0 := by unfold apA; rw [hc, if_neg g2]
    have hz : (pf p q != 0) = true := by simpa using g2
    refine (specPF p q _).mono ?_
    rintro e w3 ⟨rfl, hn3⟩
    have bR := bR1.new hn3
    have N3 := N1.trans hn3
    clear cP cR fR bP1 bA1 bR1 N1 hn3
    have cR := bR.cells
    have fR := bR.frees
    go_wp2
    refine bodyPost_ret (v := .agg #[.int .i64 (pf p q), .int .i64 0, .int .i64 0, .slice none 0 0, .int .i64 0, .int .i64 0, .int .i64 0]) (by simp [results, Try.results8, go_sem, cR]) rfl ?_
    rw [hx]
    refine ⟨_, rfl, OvN.nil _ _, ?_⟩
    simp (disch := exact ge1) only [New.set_iff]
    exact N3
  refine (specPF_is p q 0 _ g2).mono ?_
  rintro e w3 ⟨rfl, hn3⟩
  have bP3 := bP1.new hn3
  have bA3 := bA1.new hn3
  have bR3 := bR1.new hn3
  have N3 := N1.trans hn3
  clear bP1 bA1 bR1 hn3 N1 cP cR fR
  have cA := bA3.cells
  go_wp2_with fail
  by_cases g3 : af o xs nx md lo = 0
  case neg =>
    have hc : apc rs z p q o xs nx md lo = af o xs nx md lo := by unfold apc; rw [if_pos g0, if_pos g1, if_pos g2]
    have hx : apA rs z p q o xs nx md lo = arC (af o xs nx md lo) 0 := by unfold apA; rw [hc, if_neg g3]
    have hz : (af o xs nx md lo != 0) = true := by simpa using g3
    refine (specAF o nx md lo x n c xs _ (h.new N3) HN.out hm).mono ?_
    rintro e w4 ⟨rfl, hn4⟩
    have bR := bR3.new hn4
    have N4 := N3.trans hn4
    clear cA bP3 bA3 bR3 N3 hn4
    have cR := bR.cells
    have fR := bR.frees
    go_wp2
    refine bodyPost_ret (v := .agg #[.int .i64 (af o xs nx md lo), .int .i64 0, .int .i64 0, .slice none 0 0, .int .i64 0, .int .i64 0, .int .i64 0]) (by simp [results, Try.results8, go_sem, cR]) rfl ?_
    rw [hx]
    refine ⟨_, rfl, OvN.nil _ _, ?_⟩
    simp (disch := exact ge1) only [New.set_iff]
    exact N4
  have hc : apc rs z p q o xs nx md lo = 0 := by unfold apc; rw [if_pos g0, if_pos g1, if_pos g2, g3]
  have hx : apA rs z p q o xs nx md lo = apF z p q o xs nx md lo ((0 : Nat) : Int) (rs.drop 0) := if_pos hc
  refine (specAF_is o nx md lo x n c xs 0 _ (h.new N3) HN.out hm g3).mono ?_
  rintro e w4 ⟨rfl, hn4⟩
  have bP4 := bP3.new hn4
  have bA4 := bA3.new hn4
  have bR4 := bR3.new hn4
  have N4 := N3.trans hn4
  clear bP3 bA3 bR3 hn4 N3 cA
  have cP := bP4.cells
  have cA := bA4.cells
  go_wp2_with fail
  refine (l6A_any y rn rk rs z p q o nx md lo x n c xs _ (hr.new N4) HR.out hrm (h.new N4) HN.out hm HX.out (by unfold In6; omega) (rsf_ok g0).2).mono ?_
  rintro e w5 hans
  rw [← hx] at hans
  obtain ⟨r, hrr⟩ : ∃ r, Hid (apA rs z p q o xs nx md lo = r) := ⟨_, rfl⟩
  rw [hrr.out] at hans
  obtain ⟨rc, rr, ro, ns, rx, rd, rl⟩ := r
  obtain ⟨m, HM⟩ : ∃ m, Hid (ns.length = m) := ⟨_, rfl⟩
  obtain ⟨av, kv, rfl, ho, hn5⟩ := hans.opened HM.out
  have bR5 := bR4.new hn5
  have N5 := N4.trans hn5
  have s4 := N4.size
  have l4 := bR4.lt
  clear bP4 bA4 bR4 hn5 cP cA hans hx
  have cR := bR5.cells
  have fR := bR5.frees
  go_wp2
  refine bodyPost_ret (v := .agg #[.int .i64 rc, .int .i64 rr, .int .i64 ro, .slice av m kv, .int .i64 rx, .int .i64 rd, .int .i64 rl]) (by simp [results, Try.results8, go_sem, cR]) rfl ?_
  rw [hrr.out]
  refine (fun (hT : Turn (fun k => k = w.heap.size + 1 + 1) w5 _) => ⟨_, rfl, (ho.turn hT (fun k hk _ e => by omega)).low s4, N5.before hT (fun i hi e => by omega)⟩) ?_
  exact Turn.here6 (Turn.here6 (Turn.here6 (Turn.here6 (Turn.here6 (Turn.here6 (Turn.here6 (Turn.refl _ _) _) _) _) _) _) _) _

end Go.Proofs.Ytidibaknahfmmaa
