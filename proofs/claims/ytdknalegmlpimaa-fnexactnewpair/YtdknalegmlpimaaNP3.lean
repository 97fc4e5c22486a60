/- What is proved here: what NewPair answers, in the program and in the model, for settings of at most 1048576 rules each. -/
import Derived.Test.YtdknalegmlpimaaNP2
namespace Go.Proofs.Ytdknalegmlpimaa
open Go.RowKit Go.Sort Go.Deep
set_option linter.unusedVariables false
set_option linter.unusedSimpArgs false

theorem OvR.rdP {w : World} {lo n d : Nat} {x : Option Addr} {rs : List Ru} (h : OvR w lo (.slice x n d) rs) : RsAt w x rs := by
  obtain ⟨a, c, e, h1, -⟩ := h.rs
  simp only [Value.slice.injEq] at e
  obtain ⟨rfl, -, -⟩ := e
  exact h1
theorem Try.infoNdP : (Try.prog.info? 53).map (fun i => (i.zero, i.size, i.bytes)) = some (some (.agg #[.int .i64 0, .bool false, .int .i64 0, .int .i64 0, .slice none 0 0, .int .i64 0, .int .i64 0, .int .i64 0, .int .i64 0]), 9, 88) := by kernel_rfl
theorem Try.infoWiP : (Try.prog.info? 55).map (fun i => (i.zero, i.size, i.bytes)) = some (some (.agg #[.int .i64 0, .slice none 0 0, .int .i64 0, .slice none 0 0]), 4, 64) := by kernel_rfl
/-- What the answer owns, from lo on. -/
structure NpO (W : World) (lo n1 n2 : Nat) (x1 : Option Addr) (d1 : Nat) (x2 : Option Addr) (d2 : Nat) (r1 r2 : List Ru) (yn : Option Addr) (dn : Nat) (yw : Option Addr) (dw : Nat) : Prop where
  o1 : OvR W lo (.slice x1 n1 d1) r1
  o2 : OvR W lo (.slice x2 n2 d2) r2
  a12 : ∀ j, (Value.slice x1 n1 d1).ownBlock = some j → (Value.slice x2 n2 d2).ownBlock ≠ some j
  on : W.ownsRow lo 53 9 (.slice yn 2 dn) 2 nz2
  ow : W.ownsRow lo 55 4 (.slice yw 3 dw) 3 wz3
theorem row9_lowP {w : World} {lo lo' sz n : Nat} {e : TypeId} {u : Value} {xs : List Value} (h : w.ownsRow lo e sz u n xs) (hl : lo' ≤ lo) : w.ownsRow lo' e sz u n xs := by
  refine ⟨h.1, ?_⟩
  rcases h.2 with h' | ⟨g', cap', cur, h', hb, hr⟩
  · exact .inl h'
  · exact .inr ⟨g', cap', cur, h', Nat.le_trans hl hb, hr⟩
theorem ov_row {w : World} {lo : Nat} {v : Value} {rs : List Ru} (h : OvR w lo v rs) : w.ownsRow lo 74 8 v rs.length (cellsR rs) := h
theorem made_wz3 : (madeCells (Value.agg #[.int .i64 0, .slice none 0 0, .int .i64 0, .slice none 0 0]).cells (3 * 4)).toList = wz3 := by kernel_rfl
theorem rng_of {w : World} {lo sz n : Nat} {e : TypeId} {u : Value} {xs : List Value} (h : w.ownsRow lo e sz u n xs) : ∀ j, u.ownBlock = some j → lo ≤ j ∧ j < w.heap.size := by
  obtain ⟨_, _, _, _, f⟩ := row9_form h
  exact f
theorem ne_blk {w : World} {lo sz n B : Nat} {e t : TypeId} {u : Value} {xs : List Value} {cs : Array Value} (h : w.ownsRow lo e sz u n xs) (k : Blk w B t cs) (hne : t ≠ e) : ¬ u.ownBlock = some B := by
  intro hj
  rcases h.2 with ⟨h', _⟩ | ⟨g', cap', cur, h', hb, hh, r⟩
  · rw [h'] at hj; simp [Value.ownBlock] at hj
  · rw [h'] at hj
    have e2 : g' = B := by simpa [Value.ownBlock] using hj
    subst e2
    unfold Blk at k
    rw [k] at hh
    simp only [Option.some.injEq, Obj.cells.injEq] at hh
    exact hne hh.2.1
theorem ne_row {w : World} {lo lo' sz sz' n n' : Nat} {e e' : TypeId} {u u' : Value} {xs xs' : List Value} (h : w.ownsRow lo e sz u n xs) (k : w.ownsRow lo' e' sz' u' n' xs') (hne : e' ≠ e) : ∀ j, u.ownBlock = some j → u'.ownBlock ≠ some j := by
  intro j hj hj'
  rcases k.2 with ⟨h', _⟩ | ⟨g', cap', cur, h', hb, hh, r⟩
  · rw [h'] at hj'; simp [Value.ownBlock] at hj'
  · rw [h'] at hj'
    have e2 : g' = j := by simpa [Value.ownBlock] using hj'
    subst e2
    exact ne_blk h hh hne hj

section
variable {P : Program} {t e : TypeId} {i : TypeInfo}
theorem wp_apV (w : World) {o : Oper} {a : Act} {K : Act → World → Prop} {Q : Exit → Act → World → Prop} (s x : Operand)
    (ho : o.op = .call { callee := .builtin .append, args := #[s, x], argTypes := #[t, t] }) (base sz by' : Nat) (zero : Value) (ht : P.underlying t = some (.slice e)) (hi : P.info? e = some i) (hz : i.zero = some zero) (hs : i.size = sz) (hb : i.bytes = by') (hz1 : zero.cells.size = sz) (hsz : 0 < sz) (hby : by' ≤ 1000)
    (v : Value) (n : Nat) (xs : List Value) (hsv : a.eval s = v) (hown : w.ownsRow base e sz v n xs)
    (L : Nat) (r : List Value) (hr : r.length = sz) (h1 : ∀ u ∈ r, u.oneCell' = true) (hxv : a.eval x = .slice (some ⟨L, 0, none⟩) 1 1) (hsrc : ∀ j u, r[j]? = some u → w.cell? ⟨L, j, none⟩ = some u) (hle : n + 1 ≤ 4194304) (hbase : base ≤ w.heap.size)
    (h : ∀ v' w', w'.ownsRow base e sz v' (n + 1) (xs ++ r) → w.grownBy w' v.ownBlock → (v'.ownBlock = v.ownBlock ∨ v'.ownBlock = some w.heap.size) → K (a.put o.dst v') w') : o.wp P a w K Q := by
  have hnews : ∀ j u, r[j]? = some u → w.cell? ((⟨L, 0, none⟩ : Addr).add j) = some u := by
    intro j u hu
    rw [Addr.add_lit, Nat.zero_add]
    exact hsrc j u hu
  have hbb : (n + 1) * by' ≤ 140737488355328 := Nat.le_trans (Nat.mul_le_mul hle hby) (by decide)
  obtain ⟨v', w', hr, h2, h3, _, h5⟩ := run_append_own_at (P := P) w base t o.type e i zero sz by' ht hi hz hs hb hz1 hsz v n xs hown ⟨L, 0, none⟩ 1 1 r (by omega) hnews h1 (by unfold maxLen; omega) hbb hbase
  unfold Oper.wp execOp
  simp only [ho, resolve, invoke, builtin, Sem.run_bind, Sem.run_pure, Result.andThen_ok, List.map_toArray, List.map_cons, List.map_nil, hsv, hxv, hr]
  exact h v' w' h2 h3 h5
end

theorem isNode_yesP (x : Int) (w : World) (h : x = 0 ∨ x = 1) : Calls Try.prog 39 #[.int .i64 x] w fun e w' => e = .returned (.bool true) ∧ w' = w := by
  rcases h with rfl | rfl
  · go_enter Try.func39, Try.ntmps39
    go_wp2
    go_ret
    exact ⟨rfl, rfl⟩
  · go_enter Try.func39, Try.ntmps39
    go_wp2
    go_ret
    exact ⟨rfl, rfl⟩

theorem ne_blk' {w : World} {lo n d B : Nat} {x : Option Addr} {rs : List Ru} {t : TypeId} {cs : Array Value} (h : OvR w lo (.slice x n d) rs) (k : Blk w B t cs) (hne : t ≠ 74) : ¬ (Value.slice x n d).ownBlock = some B := by
  intro hj
  rcases h.form with ⟨e, -⟩ | ⟨g, c, e, -, -, ho⟩
  · rw [e] at hj; simp [Value.ownBlock] at hj
  · rw [e] at hj
    exact ne_blk ho k hne hj

theorem iNewP (id : Int) (w : World) (hid : id = 0 ∨ id = 1) :
    Calls Try.prog 21 #[.int .i64 id] w fun e w' => e = .returned (.agg #[.int .i64 0, .int .i64 id, .bool true, .int .i64 0, .int .i64 0, .slice none 0 0, .int .i64 0, .int .i64 0, .int .i64 0, .int .i64 0, .slice none 0 0]) ∧ New w w' := by
  have hw := (New.refl w).alloc (.cells #[.int .i64 0, .int .i64 0, .bool false, .int .i64 0, .int .i64 0, .slice none 0 0, .int .i64 0, .int .i64 0, .int .i64 0, .int .i64 0, .slice none 0 0] 59)
  have b1 := Blk.mk w w.heap.size 59 #[.int .i64 0, .int .i64 0, .bool false, .int .i64 0, .int .i64 0, .slice none 0 0, .int .i64 0, .int .i64 0, .int .i64 0, .int .i64 0, .slice none 0 0] rfl
  go_enter Try.func21, Try.ntmps21
  go_upto_region 1 with fail
  generalize w.alloc (.cells #[.int .i64 0, .int .i64 0, .bool false, .int .i64 0, .int .i64 0, .slice none 0 0, .int .i64 0, .int .i64 0, .int .i64 0, .int .i64 0, .slice none 0 0] 59) = w0 at *
  have c1 := b1.cells
  have f1 := b1.frees
  have ge0 : w.heap.size ≤ w.heap.size := Nat.le_refl _
  go_wp2_with fail
  refine (isNode_yesP _ _ hid).mono ?_
  rintro e w1 ⟨rfl, hwz⟩
  obtain rfl := hwz.symm
  go_wp2
  refine bodyPost_ret (v := .agg #[.int .i64 0, .int .i64 id, .bool true, .int .i64 0, .int .i64 0, .slice none 0 0, .int .i64 0, .int .i64 0, .int .i64 0, .int .i64 0, .slice none 0 0]) (by simp [results, Try.results21, go_sem, c1]) rfl ⟨rfl, ?_⟩
  simp (disch := exact ge0) only [New.set_iff, hw]

set_option maxHeartbeats 3200000 in
theorem implNP_bad (sa si ho nx : Int) (a1 a2 : Option Addr) (n1 c1 n2 c2 : Nat) (r1 r2 : List Ru) (z : Int) (w : World) (h1 : RsAt w a1 r1) (h2 : RsAt w a2 r2) (e1 : r1.length = n1) (e2 : r2.length = n2) (m1 : n1 ≤ 1048576) (m2 : n2 ≤ 1048576) (z1 : a1 = none → n1 = 0 ∧ c1 = 0) (z2 : a2 = none → n2 = 0 ∧ c2 = 0) (hz : stF sa si ho nx r1 r2 = z) (hz0 : ¬ z = 0) :
    Calls Try.prog 7 #[.agg #[.int .i64 sa, .int .i64 si, .int .i64 ho, .int .i64 nx, .slice a1 n1 c1, .slice a2 n2 c2]] w fun e w' => e = .returned (.agg #[.int .i64 z, .slice none 0 0, .int .i64 0, .int .i64 0, .int .i64 0, .int .i64 0, .slice none 0 0, .slice none 0 0, .slice none 0 0, .slice none 0 0, .slice none 0 0, .slice none 0 0]) ∧ New w w' := by
  have E1 : Hid (r1.length = n1) := e1
  have E2 : Hid (r2.length = n2) := e2
  have hw : New w ((w.alloc (.cells #[.int .i64 sa, .int .i64 si, .int .i64 ho, .int .i64 nx, .slice a1 n1 c1, .slice a2 n2 c2] 32)).alloc (.cells #[.int .i64 0, .slice none 0 0, .int .i64 0, .int .i64 0, .int .i64 0, .int .i64 0, .slice none 0 0, .slice none 0 0, .slice none 0 0, .slice none 0 0, .slice none 0 0, .slice none 0 0] 40)) := ((New.refl w).alloc _).alloc _
  have bB : Blk ((w.alloc (.cells #[.int .i64 sa, .int .i64 si, .int .i64 ho, .int .i64 nx, .slice a1 n1 c1, .slice a2 n2 c2] 32)).alloc (.cells #[.int .i64 0, .slice none 0 0, .int .i64 0, .int .i64 0, .int .i64 0, .int .i64 0, .slice none 0 0, .slice none 0 0, .slice none 0 0, .slice none 0 0, .slice none 0 0, .slice none 0 0] 40)) (w.heap.size + 1) 40 #[.int .i64 0, .slice none 0 0, .int .i64 0, .int .i64 0, .int .i64 0, .int .i64 0, .slice none 0 0, .slice none 0 0, .slice none 0 0, .slice none 0 0, .slice none 0 0, .slice none 0 0] := Blk.mk _ _ _ _ (by simp)
  have bA : Blk ((w.alloc (.cells #[.int .i64 sa, .int .i64 si, .int .i64 ho, .int .i64 nx, .slice a1 n1 c1, .slice a2 n2 c2] 32)).alloc (.cells #[.int .i64 0, .slice none 0 0, .int .i64 0, .int .i64 0, .int .i64 0, .int .i64 0, .slice none 0 0, .slice none 0 0, .slice none 0 0, .slice none 0 0, .slice none 0 0, .slice none 0 0] 40)) w.heap.size 32 #[.int .i64 sa, .int .i64 si, .int .i64 ho, .int .i64 nx, .slice a1 n1 c1, .slice a2 n2 c2] := (Blk.mk _ _ _ _ rfl).alloc _
  have ge1 : w.heap.size ≤ w.heap.size + 1 := by omega
  clear e1 e2 z1 z2
  go_enter Try.func7, Try.ntmps7
  go_upto_region 1 with fail
  generalize ((w.alloc (.cells #[.int .i64 sa, .int .i64 si, .int .i64 ho, .int .i64 nx, .slice a1 n1 c1, .slice a2 n2 c2] 32)).alloc (.cells #[.int .i64 0, .slice none 0 0, .int .i64 0, .int .i64 0, .int .i64 0, .int .i64 0, .slice none 0 0, .slice none 0 0, .slice none 0 0, .slice none 0 0, .slice none 0 0, .slice none 0 0] 40)) = w0 at *
  have cA := bA.cells
  go_wp2_with fail
  refine (implSE sa si ho nx a1 a2 n1 c1 n2 c2 r1 r2 z _ (h1.new hw) (h2.new hw) E1.out E2.out m1 m2 hz).mono ?_
  rintro e w1 ⟨rfl, hn1⟩
  have bB1 := bB.new hn1
  have cB := bB1.cells
  have fB := bB1.frees
  have N1 := hw.trans hn1
  clear hz
  go_wp2
  refine bodyPost_ret (v := .agg #[.int .i64 z, .slice none 0 0, .int .i64 0, .int .i64 0, .int .i64 0, .int .i64 0, .slice none 0 0, .slice none 0 0, .slice none 0 0, .slice none 0 0, .slice none 0 0, .slice none 0 0]) (by simp [results, Try.results7, go_sem, cB]) rfl ⟨rfl, ?_⟩
  simp (disch := exact ge1) only [New.set_iff, N1]

set_option maxRecDepth 100000 in
set_option maxHeartbeats 12800000 in
theorem implNP_ok (sa si ho nx : Int) (a1 a2 : Option Addr) (n1 c1 n2 c2 : Nat) (r1 r2 : List Ru) (w : World) (h1 : RsAt w a1 r1) (h2 : RsAt w a2 r2) (e1 : r1.length = n1) (e2 : r2.length = n2) (m1 : n1 ≤ 1048576) (m2 : n2 ≤ 1048576) (z1 : a1 = none → n1 = 0 ∧ c1 = 0) (z2 : a2 = none → n2 = 0 ∧ c2 = 0) (hz : stF sa si ho nx r1 r2 = 0) :
    Calls Try.prog 7 #[.agg #[.int .i64 sa, .int .i64 si, .int .i64 ho, .int .i64 nx, .slice a1 n1 c1, .slice a2 n2 c2]] w fun e w' => (∃ x1 d1 x2 d2 yn dn yw dw, e = .returned (.agg #[.int .i64 0, .slice none 0 0, .int .i64 sa, .int .i64 si, .int .i64 ho, .int .i64 nx, .slice x1 n1 d1, .slice x2 n2 d2, .slice yn 2 dn, .slice yw 3 dw, .slice none 0 0, .slice none 0 0]) ∧ NpO w' w.heap.size n1 n2 x1 d1 x2 d2 r1 r2 yn dn yw dw) ∧ New w w' := by
  obtain ⟨iW, hiW, hzW0, hzW1, hzW2⟩ := info_parts Try.infoWiP
  obtain ⟨iN, hiN, hzN0, hzN1, hzN2⟩ := info_parts Try.infoNdP
  have E1 : Hid (r1.length = n1) := e1
  have E2 : Hid (r2.length = n2) := e2
  have Z1 : Hid (a1 = none → n1 = 0 ∧ c1 = 0) := z1
  have Z2 : Hid (a2 = none → n2 = 0 ∧ c2 = 0) := z2
  have hw : New w ((w.alloc (.cells #[.int .i64 sa, .int .i64 si, .int .i64 ho, .int .i64 nx, .slice a1 n1 c1, .slice a2 n2 c2] 32)).alloc (.cells #[.int .i64 0, .slice none 0 0, .int .i64 0, .int .i64 0, .int .i64 0, .int .i64 0, .slice none 0 0, .slice none 0 0, .slice none 0 0, .slice none 0 0, .slice none 0 0, .slice none 0 0] 40)) := ((New.refl w).alloc _).alloc _
  have bB : Blk ((w.alloc (.cells #[.int .i64 sa, .int .i64 si, .int .i64 ho, .int .i64 nx, .slice a1 n1 c1, .slice a2 n2 c2] 32)).alloc (.cells #[.int .i64 0, .slice none 0 0, .int .i64 0, .int .i64 0, .int .i64 0, .int .i64 0, .slice none 0 0, .slice none 0 0, .slice none 0 0, .slice none 0 0, .slice none 0 0, .slice none 0 0] 40)) (w.heap.size + 1) 40 #[.int .i64 0, .slice none 0 0, .int .i64 0, .int .i64 0, .int .i64 0, .int .i64 0, .slice none 0 0, .slice none 0 0, .slice none 0 0, .slice none 0 0, .slice none 0 0, .slice none 0 0] := Blk.mk _ _ _ _ (by simp)
  have bA : Blk ((w.alloc (.cells #[.int .i64 sa, .int .i64 si, .int .i64 ho, .int .i64 nx, .slice a1 n1 c1, .slice a2 n2 c2] 32)).alloc (.cells #[.int .i64 0, .slice none 0 0, .int .i64 0, .int .i64 0, .int .i64 0, .int .i64 0, .slice none 0 0, .slice none 0 0, .slice none 0 0, .slice none 0 0, .slice none 0 0, .slice none 0 0] 40)) w.heap.size 32 #[.int .i64 sa, .int .i64 si, .int .i64 ho, .int .i64 nx, .slice a1 n1 c1, .slice a2 n2 c2] := (Blk.mk _ _ _ _ rfl).alloc _
  clear e1 e2 z1 z2
  go_enter Try.func7, Try.ntmps7
  go_upto_region 1 with fail
  generalize ((w.alloc (.cells #[.int .i64 sa, .int .i64 si, .int .i64 ho, .int .i64 nx, .slice a1 n1 c1, .slice a2 n2 c2] 32)).alloc (.cells #[.int .i64 0, .slice none 0 0, .int .i64 0, .int .i64 0, .int .i64 0, .int .i64 0, .slice none 0 0, .slice none 0 0, .slice none 0 0, .slice none 0 0, .slice none 0 0, .slice none 0 0] 40)) = w0 at *
  have cA := bA.cells
  go_wp2_with fail
  refine (implSE sa si ho nx a1 a2 n1 c1 n2 c2 r1 r2 0 _ (h1.new hw) (h2.new hw) E1.out E2.out m1 m2 hz).mono ?_
  rintro e w1 ⟨rfl, hn1⟩
  have bB1 := bB.new hn1
  have bA1 := bA.new hn1
  have hw1 := hw.trans hn1
  have lB1 := bB1.lt
  clear hz cA bA bB hw hn1
  have cA := bA1.cells
  go_upto_region 4 with fail
  clear cA
  refine Code.wp_mono (Q := fun e a' W => match e with | .normal => (∃ (B : Nat) (x1 : Option Addr) (d1 : Nat) (x2 : Option Addr) (d2 : Nat) (yw : Option Addr) (dw : Nat), a' = { tmps := #[.agg #[.int .i64 sa, .int .i64 si, .int .i64 ho, .int .i64 nx, .slice a1 n1 c1, .slice a2 n2 c2], .pointer (some ⟨w.heap.size, 0, none⟩), .pointer (some ⟨w.heap.size + 1, 0, none⟩), .int .i64 0, .pointer (some ⟨B, 0, none⟩), undef, .agg #[.int .i64 sa, .int .i64 si, .int .i64 ho, .int .i64 nx, .slice a1 n1 c1, .slice a2 n2 c2], .int .i64 0, .int .i64 0, .bool false, undef, undef, .agg #[.int .i64 sa, .int .i64 si, .int .i64 ho, .int .i64 nx, .slice a1 n1 c1, .slice a2 n2 c2], .agg #[.int .i64 sa, .int .i64 si, .int .i64 ho, .int .i64 nx, .slice x1 n1 d1, .slice x2 n2 d2], .slice yw 3 dw, .agg #[.int .i64 sa, .int .i64 si, .int .i64 ho, .int .i64 nx, .slice x1 n1 d1, .slice x2 n2 d2, .slice none 0 0, .slice yw 3 dw, .slice none 0 0, .slice none 0 0], undef, undef, undef, undef, undef, undef, undef, undef, undef, undef, undef, undef, undef, undef], defers := [] } ∧ New w1 W ∧ Blk W B 38 #[.int .i64 sa, .int .i64 si, .int .i64 ho, .int .i64 nx, .slice x1 n1 d1, .slice x2 n2 d2, .slice none 0 0, .slice yw 3 dw, .slice none 0 0, .slice none 0 0] ∧ w1.heap.size ≤ B ∧ OvR W w.heap.size (.slice x1 n1 d1) r1 ∧ OvR W w.heap.size (.slice x2 n2 d2) r2 ∧ (∀ j, (Value.slice x1 n1 d1).ownBlock = some j → (Value.slice x2 n2 d2).ownBlock ≠ some j) ∧ W.ownsRow w.heap.size 55 4 (.slice yw 3 dw) 3 wz3) | _ => False) ?hq4 ?h4
  case h4 =>
    refine hw_start (n := 6) (S := fun X => New w1 X) rfl (by kernel_rfl) ((New.refl _).drew) (fun hH => ?_)
    have nwd := (New.refl w1).drew
    generalize w1.drew = wd at *
    refine' hw_take 0 (some 12) (.agg #[.int .i64 sa, .int .i64 si, .int .i64 ho, .int .i64 nx, .slice a1 n1 c1, .slice a2 n2 c2]) rfl rfl (by kernel_rfl) (by kernel_rfl) (by kernel_rfl) (fun _ _ _ h => h) (by rfl) hH ?hz0 ?rz0
    case hz0 =>
      intro X hX
      exact run_load_blk 32 (.tmp 1) rfl w.heap.size rfl #[.int .i64 sa, .int .i64 si, .int .i64 ho, .int .i64 nx, .slice a1 n1 c1, .slice a2 n2 c2] _ (bA1.new hX) Try.underlying32 rfl (by kernel_rfl)
    simp only [Act.put, List.setIfInBounds_toArray, List.set_cons_zero, List.set_cons_succ]
    refine wpAnyH_ready (rs := [1, 2, 4]) (by kernel_rfl) (by simp) (hw_step 1 (some 13) rfl rfl (by rfl) (fun K hK => ?u1) (hw_step 2 (some 14) rfl rfl (by rfl) (fun K hK => ?u2) (hw_step 4 (some 4) rfl rfl (by rfl) (fun K hK => ?u3) (by intro j hj; cases hj))))
    case u1 =>
      go_simp
      refine (copySe sa si ho nx a1 a2 n1 c1 n2 c2 r1 r2 _ (h1.new (hw1.trans nwd)) (h2.new (hw1.trans nwd)) E1.out E2.out m1 m2 Z1.out Z2.out).mono ?_
      rintro e u4 ⟨x1, d1, x2, d2, rfl, oA, oB, aAB, nnu4⟩
      have nu4 := nwd.trans nnu4
      have zzu4 := (hw1.trans nwd).size
      have o1u4 := oA.low (lo' := w.heap.size) (by omega)
      have o2u4 := oB.low (lo' := w.heap.size) (by omega)
      have AB : Hid _ := aAB
      clear aAB
      go_simp
      refine hK.out _ _ nu4 (fun _ => ?_)
      simp only [Act.put, List.setIfInBounds_toArray, List.set_cons_zero, List.set_cons_succ]
      clear nnu4 oA oB
      refine wpAnyH_ready (rs := [2, 4]) (by kernel_rfl) (by simp) (hw_step 2 (some 14) rfl rfl (by rfl) (fun K hK => ?u5) (hw_step 4 (some 4) rfl rfl (by rfl) (fun K hK => ?u6) (by intro j hj; cases hj)))
      case u5 =>
        have zzu7 := (hw1.trans nu4).size
        obtain ⟨u7, hmk, hru7, hgu7⟩ := run_makeSlice_full (P := Try.prog) (w := u4) w.heap.size 34 55 iW (.agg #[.int .i64 0, .slice none 0 0, .int .i64 0, .slice none 0 0]) 4 Try.underlying34 hiW hzW0 hzW1 .i64 .i64 3 (by omega) (by rw [hzW2]; omega) (by unfold maxLen; omega) (by omega)
        replace hmk : (Instr.makeSlice 34 (.int .i64 3) (.int .i64 3)).run Try.prog u4 = .ok (.slice (some ⟨u4.heap.size, 0, none⟩) 3 3) u7 := hmk
        have nnu7 : New u4 u7 := (New.refl u4).grow hgu7 (fun k e => by cases e)
        have nu7 := nu4.trans nnu7
        have owu7 : u7.ownsRow w.heap.size 55 4 (.slice (some ⟨u4.heap.size, 0, none⟩) 3 3) 3 wz3 := made_wz3 ▸ hru7
        have o1u7 := o1u4.new nnu7
        have o2u7 := o2u4.new nnu7
        go_simp
        refine hK.out _ _ nu7 (fun _ => ?_)
        simp only [Act.put, List.setIfInBounds_toArray, List.set_cons_zero, List.set_cons_succ]
        clear hmk hru7 hgu7 nnu7
        refine' hw_take 3 (some 15) _ rfl rfl (by kernel_rfl) (by kernel_rfl) (by kernel_rfl) (fun _ _ _ h => h) (by rfl) nu7 ?hy1 ?rest1
        case hy1 =>
          intro X hX
          go_simp
          try rfl
        simp only [Act.put, List.setIfInBounds_toArray, List.set_cons_zero, List.set_cons_succ]
        refine hw_call 4 (some 4) rfl rfl (by kernel_rfl) (by rfl) (fun K hK => ?_)
        go_simp
        have nnu8 := (New.refl u7).alloc (.cells #[.int .i64 0, .int .i64 0, .int .i64 0, .int .i64 0, .slice none 0 0, .slice none 0 0, .slice none 0 0, .slice none 0 0, .slice none 0 0, .slice none 0 0] 38)
        have fu8 := Blk.mk u7 u7.heap.size 38 #[.int .i64 0, .int .i64 0, .int .i64 0, .int .i64 0, .slice none 0 0, .slice none 0 0, .slice none 0 0, .slice none 0 0, .slice none 0 0, .slice none 0 0] rfl
        have zzu8 := (hw1.trans nu7).size
        have nu8 := nu7.trans nnu8
        have o1u8 := o1u7.new nnu8
        have o2u8 := o2u7.new nnu8
        have owu8 := row9_new owu7 nnu8
        refine hK.out _ _ nu8 (fun _ => ?_)
        simp only [Act.put, List.setIfInBounds_toArray, List.set_cons_zero, List.set_cons_succ]
        generalize u7.alloc (.cells #[.int .i64 0, .int .i64 0, .int .i64 0, .int .i64 0, .slice none 0 0, .slice none 0 0, .slice none 0 0, .slice none 0 0, .slice none 0 0, .slice none 0 0] 38) = u8 at *
        clear nnu8
        refine hw_call 5 none rfl rfl (by kernel_rfl) (by rfl) (fun K hK => ?_)
        refine hw_store 38 (.tmp 4) (.tmp 15) rfl rfl u7.heap.size #[.int .i64 sa, .int .i64 si, .int .i64 ho, .int .i64 nx, .slice x1 n1 d1, .slice x2 n2 d2, .slice none 0 0, .slice (some ⟨u4.heap.size, 0, none⟩) 3 3, .slice none 0 0, .slice none 0 0] #[.int .i64 0, .int .i64 0, .int .i64 0, .int .i64 0, .slice none 0 0, .slice none 0 0, .slice none 0 0, .slice none 0 0, .slice none 0 0, .slice none 0 0] rfl rfl fu8 (by kernel_rfl) rfl (by kernel_rfl) ?_
        have tR := Turn.rowW (Turn.refl (fun i => i = u7.heap.size) u8) rfl #[.int .i64 sa, .int .i64 si, .int .i64 ho, .int .i64 nx, .slice x1 n1 d1, .slice x2 n2 d2, .slice none 0 0, .slice (some ⟨u4.heap.size, 0, none⟩) 3 3, .slice none 0 0, .slice none 0 0]
        have fu9 := fu8.rowW #[.int .i64 sa, .int .i64 si, .int .i64 ho, .int .i64 nx, .slice x1 n1 d1, .slice x2 n2 d2, .slice none 0 0, .slice (some ⟨u4.heap.size, 0, none⟩) 3 3, .slice none 0 0, .slice none 0 0]
        have zB := (hw1.trans nu7).size
        have zC := nu7.size
        have nu9 := nu8.before tR (by intro i hi e; omega)
        have o1u9 := o1u8.turn tR (fun j hj e => ne_blk' o1u8 fu8 (by decide) (e ▸ hj))
        have o2u9 := o2u8.turn tR (fun j hj e => ne_blk' o2u8 fu8 (by decide) (e ▸ hj))
        have owu9 := row9_turn owu8 tR (fun j hj e => ne_blk owu8 fu8 (by decide) (e ▸ hj))
        refine hK.out undef _ nu9 (fun _ => ?_)
        try simp only [Act.put, List.setIfInBounds_toArray, List.set_cons_zero, List.set_cons_succ]
        refine wpAnyH_done (by kernel_rfl) ?_ _
        exact ⟨u7.heap.size, x1, d1, x2, d2, _, 3, rfl, nu9, fu9, by omega, o1u9, o2u9, AB.out, owu9⟩
      case u6 =>
        go_simp
        have nnu10 := (New.refl u4).alloc (.cells #[.int .i64 0, .int .i64 0, .int .i64 0, .int .i64 0, .slice none 0 0, .slice none 0 0, .slice none 0 0, .slice none 0 0, .slice none 0 0, .slice none 0 0] 38)
        have fu10 := Blk.mk u4 u4.heap.size 38 #[.int .i64 0, .int .i64 0, .int .i64 0, .int .i64 0, .slice none 0 0, .slice none 0 0, .slice none 0 0, .slice none 0 0, .slice none 0 0, .slice none 0 0] rfl
        have zzu10 := (hw1.trans nu4).size
        have nu10 := nu4.trans nnu10
        have o1u10 := o1u4.new nnu10
        have o2u10 := o2u4.new nnu10
        refine hK.out _ _ nu10 (fun _ => ?_)
        simp only [Act.put, List.setIfInBounds_toArray, List.set_cons_zero, List.set_cons_succ]
        generalize u4.alloc (.cells #[.int .i64 0, .int .i64 0, .int .i64 0, .int .i64 0, .slice none 0 0, .slice none 0 0, .slice none 0 0, .slice none 0 0, .slice none 0 0, .slice none 0 0] 38) = u10 at *
        clear nnu10
        refine hw_call 2 (some 14) rfl rfl (by kernel_rfl) (by rfl) (fun K hK => ?_)
        have zzu11 := (hw1.trans nu10).size
        obtain ⟨u11, hmk, hru11, hgu11⟩ := run_makeSlice_full (P := Try.prog) (w := u10) w.heap.size 34 55 iW (.agg #[.int .i64 0, .slice none 0 0, .int .i64 0, .slice none 0 0]) 4 Try.underlying34 hiW hzW0 hzW1 .i64 .i64 3 (by omega) (by rw [hzW2]; omega) (by unfold maxLen; omega) (by omega)
        replace hmk : (Instr.makeSlice 34 (.int .i64 3) (.int .i64 3)).run Try.prog u10 = .ok (.slice (some ⟨u10.heap.size, 0, none⟩) 3 3) u11 := hmk
        have nnu11 : New u10 u11 := (New.refl u10).grow hgu11 (fun k e => by cases e)
        have nu11 := nu10.trans nnu11
        have owu11 : u11.ownsRow w.heap.size 55 4 (.slice (some ⟨u10.heap.size, 0, none⟩) 3 3) 3 wz3 := made_wz3 ▸ hru11
        have o1u11 := o1u10.new nnu11
        have o2u11 := o2u10.new nnu11
        have fu11 := fu10.new nnu11
        go_simp
        refine hK.out _ _ nu11 (fun _ => ?_)
        simp only [Act.put, List.setIfInBounds_toArray, List.set_cons_zero, List.set_cons_succ]
        clear hmk hru11 hgu11 nnu11
        refine' hw_take 3 (some 15) _ rfl rfl (by kernel_rfl) (by kernel_rfl) (by kernel_rfl) (fun _ _ _ h => h) (by rfl) nu11 ?hy2 ?rest2
        case hy2 =>
          intro X hX
          go_simp
          try rfl
        simp only [Act.put, List.setIfInBounds_toArray, List.set_cons_zero, List.set_cons_succ]
        refine hw_call 5 none rfl rfl (by kernel_rfl) (by rfl) (fun K hK => ?_)
        refine hw_store 38 (.tmp 4) (.tmp 15) rfl rfl u4.heap.size #[.int .i64 sa, .int .i64 si, .int .i64 ho, .int .i64 nx, .slice x1 n1 d1, .slice x2 n2 d2, .slice none 0 0, .slice (some ⟨u10.heap.size, 0, none⟩) 3 3, .slice none 0 0, .slice none 0 0] #[.int .i64 0, .int .i64 0, .int .i64 0, .int .i64 0, .slice none 0 0, .slice none 0 0, .slice none 0 0, .slice none 0 0, .slice none 0 0, .slice none 0 0] rfl rfl fu11 (by kernel_rfl) rfl (by kernel_rfl) ?_
        have tR := Turn.rowW (Turn.refl (fun i => i = u4.heap.size) u11) rfl #[.int .i64 sa, .int .i64 si, .int .i64 ho, .int .i64 nx, .slice x1 n1 d1, .slice x2 n2 d2, .slice none 0 0, .slice (some ⟨u10.heap.size, 0, none⟩) 3 3, .slice none 0 0, .slice none 0 0]
        have fu12 := fu11.rowW #[.int .i64 sa, .int .i64 si, .int .i64 ho, .int .i64 nx, .slice x1 n1 d1, .slice x2 n2 d2, .slice none 0 0, .slice (some ⟨u10.heap.size, 0, none⟩) 3 3, .slice none 0 0, .slice none 0 0]
        have zB := (hw1.trans nu4).size
        have zC := nu4.size
        have nu12 := nu11.before tR (by intro i hi e; omega)
        have o1u12 := o1u11.turn tR (fun j hj e => ne_blk' o1u11 fu11 (by decide) (e ▸ hj))
        have o2u12 := o2u11.turn tR (fun j hj e => ne_blk' o2u11 fu11 (by decide) (e ▸ hj))
        have owu12 := row9_turn owu11 tR (fun j hj e => ne_blk owu11 fu11 (by decide) (e ▸ hj))
        refine hK.out undef _ nu12 (fun _ => ?_)
        try simp only [Act.put, List.setIfInBounds_toArray, List.set_cons_zero, List.set_cons_succ]
        refine wpAnyH_done (by kernel_rfl) ?_ _
        exact ⟨u4.heap.size, x1, d1, x2, d2, _, 3, rfl, nu12, fu12, by omega, o1u12, o2u12, AB.out, owu12⟩
    case u2 =>
      have zzu13 := (hw1.trans nwd).size
      obtain ⟨u13, hmk, hru13, hgu13⟩ := run_makeSlice_full (P := Try.prog) (w := wd) w.heap.size 34 55 iW (.agg #[.int .i64 0, .slice none 0 0, .int .i64 0, .slice none 0 0]) 4 Try.underlying34 hiW hzW0 hzW1 .i64 .i64 3 (by omega) (by rw [hzW2]; omega) (by unfold maxLen; omega) (by omega)
      replace hmk : (Instr.makeSlice 34 (.int .i64 3) (.int .i64 3)).run Try.prog wd = .ok (.slice (some ⟨wd.heap.size, 0, none⟩) 3 3) u13 := hmk
      have nnu13 : New wd u13 := (New.refl wd).grow hgu13 (fun k e => by cases e)
      have nu13 := nwd.trans nnu13
      have owu13 : u13.ownsRow w.heap.size 55 4 (.slice (some ⟨wd.heap.size, 0, none⟩) 3 3) 3 wz3 := made_wz3 ▸ hru13
      go_simp
      refine hK.out _ _ nu13 (fun _ => ?_)
      simp only [Act.put, List.setIfInBounds_toArray, List.set_cons_zero, List.set_cons_succ]
      clear hmk hru13 hgu13 nnu13
      refine wpAnyH_ready (rs := [1, 4]) (by kernel_rfl) (by simp) (hw_step 1 (some 13) rfl rfl (by rfl) (fun K hK => ?u14) (hw_step 4 (some 4) rfl rfl (by rfl) (fun K hK => ?u15) (by intro j hj; cases hj)))
      case u14 =>
        go_simp
        refine (copySe sa si ho nx a1 a2 n1 c1 n2 c2 r1 r2 _ (h1.new (hw1.trans nu13)) (h2.new (hw1.trans nu13)) E1.out E2.out m1 m2 Z1.out Z2.out).mono ?_
        rintro e u16 ⟨x1, d1, x2, d2, rfl, oA, oB, aAB, nnu16⟩
        have nu16 := nu13.trans nnu16
        have zzu16 := (hw1.trans nu13).size
        have o1u16 := oA.low (lo' := w.heap.size) (by omega)
        have o2u16 := oB.low (lo' := w.heap.size) (by omega)
        have AB : Hid _ := aAB
        clear aAB
        have owu16 := row9_new owu13 nnu16
        go_simp
        refine hK.out _ _ nu16 (fun _ => ?_)
        simp only [Act.put, List.setIfInBounds_toArray, List.set_cons_zero, List.set_cons_succ]
        clear nnu16 oA oB
        refine' hw_take 3 (some 15) _ rfl rfl (by kernel_rfl) (by kernel_rfl) (by kernel_rfl) (fun _ _ _ h => h) (by rfl) nu16 ?hy3 ?rest3
        case hy3 =>
          intro X hX
          go_simp
          try rfl
        simp only [Act.put, List.setIfInBounds_toArray, List.set_cons_zero, List.set_cons_succ]
        refine hw_call 4 (some 4) rfl rfl (by kernel_rfl) (by rfl) (fun K hK => ?_)
        go_simp
        have nnu17 := (New.refl u16).alloc (.cells #[.int .i64 0, .int .i64 0, .int .i64 0, .int .i64 0, .slice none 0 0, .slice none 0 0, .slice none 0 0, .slice none 0 0, .slice none 0 0, .slice none 0 0] 38)
        have fu17 := Blk.mk u16 u16.heap.size 38 #[.int .i64 0, .int .i64 0, .int .i64 0, .int .i64 0, .slice none 0 0, .slice none 0 0, .slice none 0 0, .slice none 0 0, .slice none 0 0, .slice none 0 0] rfl
        have zzu17 := (hw1.trans nu16).size
        have nu17 := nu16.trans nnu17
        have o1u17 := o1u16.new nnu17
        have o2u17 := o2u16.new nnu17
        have owu17 := row9_new owu16 nnu17
        refine hK.out _ _ nu17 (fun _ => ?_)
        simp only [Act.put, List.setIfInBounds_toArray, List.set_cons_zero, List.set_cons_succ]
        generalize u16.alloc (.cells #[.int .i64 0, .int .i64 0, .int .i64 0, .int .i64 0, .slice none 0 0, .slice none 0 0, .slice none 0 0, .slice none 0 0, .slice none 0 0, .slice none 0 0] 38) = u17 at *
        clear nnu17
        refine hw_call 5 none rfl rfl (by kernel_rfl) (by rfl) (fun K hK => ?_)
        refine hw_store 38 (.tmp 4) (.tmp 15) rfl rfl u16.heap.size #[.int .i64 sa, .int .i64 si, .int .i64 ho, .int .i64 nx, .slice x1 n1 d1, .slice x2 n2 d2, .slice none 0 0, .slice (some ⟨wd.heap.size, 0, none⟩) 3 3, .slice none 0 0, .slice none 0 0] #[.int .i64 0, .int .i64 0, .int .i64 0, .int .i64 0, .slice none 0 0, .slice none 0 0, .slice none 0 0, .slice none 0 0, .slice none 0 0, .slice none 0 0] rfl rfl fu17 (by kernel_rfl) rfl (by kernel_rfl) ?_
        have tR := Turn.rowW (Turn.refl (fun i => i = u16.heap.size) u17) rfl #[.int .i64 sa, .int .i64 si, .int .i64 ho, .int .i64 nx, .slice x1 n1 d1, .slice x2 n2 d2, .slice none 0 0, .slice (some ⟨wd.heap.size, 0, none⟩) 3 3, .slice none 0 0, .slice none 0 0]
        have fu18 := fu17.rowW #[.int .i64 sa, .int .i64 si, .int .i64 ho, .int .i64 nx, .slice x1 n1 d1, .slice x2 n2 d2, .slice none 0 0, .slice (some ⟨wd.heap.size, 0, none⟩) 3 3, .slice none 0 0, .slice none 0 0]
        have zB := (hw1.trans nu16).size
        have zC := nu16.size
        have nu18 := nu17.before tR (by intro i hi e; omega)
        have o1u18 := o1u17.turn tR (fun j hj e => ne_blk' o1u17 fu17 (by decide) (e ▸ hj))
        have o2u18 := o2u17.turn tR (fun j hj e => ne_blk' o2u17 fu17 (by decide) (e ▸ hj))
        have owu18 := row9_turn owu17 tR (fun j hj e => ne_blk owu17 fu17 (by decide) (e ▸ hj))
        refine hK.out undef _ nu18 (fun _ => ?_)
        try simp only [Act.put, List.setIfInBounds_toArray, List.set_cons_zero, List.set_cons_succ]
        refine wpAnyH_done (by kernel_rfl) ?_ _
        exact ⟨u16.heap.size, x1, d1, x2, d2, _, 3, rfl, nu18, fu18, by omega, o1u18, o2u18, AB.out, owu18⟩
      case u15 =>
        go_simp
        have nnu19 := (New.refl u13).alloc (.cells #[.int .i64 0, .int .i64 0, .int .i64 0, .int .i64 0, .slice none 0 0, .slice none 0 0, .slice none 0 0, .slice none 0 0, .slice none 0 0, .slice none 0 0] 38)
        have fu19 := Blk.mk u13 u13.heap.size 38 #[.int .i64 0, .int .i64 0, .int .i64 0, .int .i64 0, .slice none 0 0, .slice none 0 0, .slice none 0 0, .slice none 0 0, .slice none 0 0, .slice none 0 0] rfl
        have zzu19 := (hw1.trans nu13).size
        have nu19 := nu13.trans nnu19
        have owu19 := row9_new owu13 nnu19
        refine hK.out _ _ nu19 (fun _ => ?_)
        simp only [Act.put, List.setIfInBounds_toArray, List.set_cons_zero, List.set_cons_succ]
        generalize u13.alloc (.cells #[.int .i64 0, .int .i64 0, .int .i64 0, .int .i64 0, .slice none 0 0, .slice none 0 0, .slice none 0 0, .slice none 0 0, .slice none 0 0, .slice none 0 0] 38) = u19 at *
        clear nnu19
        refine hw_call 1 (some 13) rfl rfl (by kernel_rfl) (by rfl) (fun K hK => ?_)
        go_simp
        refine (copySe sa si ho nx a1 a2 n1 c1 n2 c2 r1 r2 _ (h1.new (hw1.trans nu19)) (h2.new (hw1.trans nu19)) E1.out E2.out m1 m2 Z1.out Z2.out).mono ?_
        rintro e u20 ⟨x1, d1, x2, d2, rfl, oA, oB, aAB, nnu20⟩
        have nu20 := nu19.trans nnu20
        have zzu20 := (hw1.trans nu19).size
        have o1u20 := oA.low (lo' := w.heap.size) (by omega)
        have o2u20 := oB.low (lo' := w.heap.size) (by omega)
        have AB : Hid _ := aAB
        clear aAB
        have owu20 := row9_new owu19 nnu20
        have fu20 := fu19.new nnu20
        go_simp
        refine hK.out _ _ nu20 (fun _ => ?_)
        simp only [Act.put, List.setIfInBounds_toArray, List.set_cons_zero, List.set_cons_succ]
        clear nnu20 oA oB
        refine' hw_take 3 (some 15) _ rfl rfl (by kernel_rfl) (by kernel_rfl) (by kernel_rfl) (fun _ _ _ h => h) (by rfl) nu20 ?hy4 ?rest4
        case hy4 =>
          intro X hX
          go_simp
          try rfl
        simp only [Act.put, List.setIfInBounds_toArray, List.set_cons_zero, List.set_cons_succ]
        refine hw_call 5 none rfl rfl (by kernel_rfl) (by rfl) (fun K hK => ?_)
        refine hw_store 38 (.tmp 4) (.tmp 15) rfl rfl u13.heap.size #[.int .i64 sa, .int .i64 si, .int .i64 ho, .int .i64 nx, .slice x1 n1 d1, .slice x2 n2 d2, .slice none 0 0, .slice (some ⟨wd.heap.size, 0, none⟩) 3 3, .slice none 0 0, .slice none 0 0] #[.int .i64 0, .int .i64 0, .int .i64 0, .int .i64 0, .slice none 0 0, .slice none 0 0, .slice none 0 0, .slice none 0 0, .slice none 0 0, .slice none 0 0] rfl rfl fu20 (by kernel_rfl) rfl (by kernel_rfl) ?_
        have tR := Turn.rowW (Turn.refl (fun i => i = u13.heap.size) u20) rfl #[.int .i64 sa, .int .i64 si, .int .i64 ho, .int .i64 nx, .slice x1 n1 d1, .slice x2 n2 d2, .slice none 0 0, .slice (some ⟨wd.heap.size, 0, none⟩) 3 3, .slice none 0 0, .slice none 0 0]
        have fu21 := fu20.rowW #[.int .i64 sa, .int .i64 si, .int .i64 ho, .int .i64 nx, .slice x1 n1 d1, .slice x2 n2 d2, .slice none 0 0, .slice (some ⟨wd.heap.size, 0, none⟩) 3 3, .slice none 0 0, .slice none 0 0]
        have zB := (hw1.trans nu13).size
        have zC := nu13.size
        have nu21 := nu20.before tR (by intro i hi e; omega)
        have o1u21 := o1u20.turn tR (fun j hj e => ne_blk' o1u20 fu20 (by decide) (e ▸ hj))
        have o2u21 := o2u20.turn tR (fun j hj e => ne_blk' o2u20 fu20 (by decide) (e ▸ hj))
        have owu21 := row9_turn owu20 tR (fun j hj e => ne_blk owu20 fu20 (by decide) (e ▸ hj))
        refine hK.out undef _ nu21 (fun _ => ?_)
        try simp only [Act.put, List.setIfInBounds_toArray, List.set_cons_zero, List.set_cons_succ]
        refine wpAnyH_done (by kernel_rfl) ?_ _
        exact ⟨u13.heap.size, x1, d1, x2, d2, _, 3, rfl, nu21, fu21, by omega, o1u21, o2u21, AB.out, owu21⟩
    case u3 =>
      go_simp
      have nnu22 := (New.refl wd).alloc (.cells #[.int .i64 0, .int .i64 0, .int .i64 0, .int .i64 0, .slice none 0 0, .slice none 0 0, .slice none 0 0, .slice none 0 0, .slice none 0 0, .slice none 0 0] 38)
      have fu22 := Blk.mk wd wd.heap.size 38 #[.int .i64 0, .int .i64 0, .int .i64 0, .int .i64 0, .slice none 0 0, .slice none 0 0, .slice none 0 0, .slice none 0 0, .slice none 0 0, .slice none 0 0] rfl
      have zzu22 := (hw1.trans nwd).size
      have nu22 := nwd.trans nnu22
      refine hK.out _ _ nu22 (fun _ => ?_)
      simp only [Act.put, List.setIfInBounds_toArray, List.set_cons_zero, List.set_cons_succ]
      generalize wd.alloc (.cells #[.int .i64 0, .int .i64 0, .int .i64 0, .int .i64 0, .slice none 0 0, .slice none 0 0, .slice none 0 0, .slice none 0 0, .slice none 0 0, .slice none 0 0] 38) = u22 at *
      clear nnu22
      refine wpAnyH_ready (rs := [1, 2]) (by kernel_rfl) (by simp) (hw_step 1 (some 13) rfl rfl (by rfl) (fun K hK => ?u23) (hw_step 2 (some 14) rfl rfl (by rfl) (fun K hK => ?u24) (by intro j hj; cases hj)))
      case u23 =>
        go_simp
        refine (copySe sa si ho nx a1 a2 n1 c1 n2 c2 r1 r2 _ (h1.new (hw1.trans nu22)) (h2.new (hw1.trans nu22)) E1.out E2.out m1 m2 Z1.out Z2.out).mono ?_
        rintro e u25 ⟨x1, d1, x2, d2, rfl, oA, oB, aAB, nnu25⟩
        have nu25 := nu22.trans nnu25
        have zzu25 := (hw1.trans nu22).size
        have o1u25 := oA.low (lo' := w.heap.size) (by omega)
        have o2u25 := oB.low (lo' := w.heap.size) (by omega)
        have AB : Hid _ := aAB
        clear aAB
        have fu25 := fu22.new nnu25
        go_simp
        refine hK.out _ _ nu25 (fun _ => ?_)
        simp only [Act.put, List.setIfInBounds_toArray, List.set_cons_zero, List.set_cons_succ]
        clear nnu25 oA oB
        refine hw_call 2 (some 14) rfl rfl (by kernel_rfl) (by rfl) (fun K hK => ?_)
        have zzu26 := (hw1.trans nu25).size
        obtain ⟨u26, hmk, hru26, hgu26⟩ := run_makeSlice_full (P := Try.prog) (w := u25) w.heap.size 34 55 iW (.agg #[.int .i64 0, .slice none 0 0, .int .i64 0, .slice none 0 0]) 4 Try.underlying34 hiW hzW0 hzW1 .i64 .i64 3 (by omega) (by rw [hzW2]; omega) (by unfold maxLen; omega) (by omega)
        replace hmk : (Instr.makeSlice 34 (.int .i64 3) (.int .i64 3)).run Try.prog u25 = .ok (.slice (some ⟨u25.heap.size, 0, none⟩) 3 3) u26 := hmk
        have nnu26 : New u25 u26 := (New.refl u25).grow hgu26 (fun k e => by cases e)
        have nu26 := nu25.trans nnu26
        have owu26 : u26.ownsRow w.heap.size 55 4 (.slice (some ⟨u25.heap.size, 0, none⟩) 3 3) 3 wz3 := made_wz3 ▸ hru26
        have o1u26 := o1u25.new nnu26
        have o2u26 := o2u25.new nnu26
        have fu26 := fu25.new nnu26
        go_simp
        refine hK.out _ _ nu26 (fun _ => ?_)
        simp only [Act.put, List.setIfInBounds_toArray, List.set_cons_zero, List.set_cons_succ]
        clear hmk hru26 hgu26 nnu26
        refine' hw_take 3 (some 15) _ rfl rfl (by kernel_rfl) (by kernel_rfl) (by kernel_rfl) (fun _ _ _ h => h) (by rfl) nu26 ?hy5 ?rest5
        case hy5 =>
          intro X hX
          go_simp
          try rfl
        simp only [Act.put, List.setIfInBounds_toArray, List.set_cons_zero, List.set_cons_succ]
        refine hw_call 5 none rfl rfl (by kernel_rfl) (by rfl) (fun K hK => ?_)
        refine hw_store 38 (.tmp 4) (.tmp 15) rfl rfl wd.heap.size #[.int .i64 sa, .int .i64 si, .int .i64 ho, .int .i64 nx, .slice x1 n1 d1, .slice x2 n2 d2, .slice none 0 0, .slice (some ⟨u25.heap.size, 0, none⟩) 3 3, .slice none 0 0, .slice none 0 0] #[.int .i64 0, .int .i64 0, .int .i64 0, .int .i64 0, .slice none 0 0, .slice none 0 0, .slice none 0 0, .slice none 0 0, .slice none 0 0, .slice none 0 0] rfl rfl fu26 (by kernel_rfl) rfl (by kernel_rfl) ?_
        have tR := Turn.rowW (Turn.refl (fun i => i = wd.heap.size) u26) rfl #[.int .i64 sa, .int .i64 si, .int .i64 ho, .int .i64 nx, .slice x1 n1 d1, .slice x2 n2 d2, .slice none 0 0, .slice (some ⟨u25.heap.size, 0, none⟩) 3 3, .slice none 0 0, .slice none 0 0]
        have fu27 := fu26.rowW #[.int .i64 sa, .int .i64 si, .int .i64 ho, .int .i64 nx, .slice x1 n1 d1, .slice x2 n2 d2, .slice none 0 0, .slice (some ⟨u25.heap.size, 0, none⟩) 3 3, .slice none 0 0, .slice none 0 0]
        have zB := (hw1.trans nwd).size
        have zC := nwd.size
        have nu27 := nu26.before tR (by intro i hi e; omega)
        have o1u27 := o1u26.turn tR (fun j hj e => ne_blk' o1u26 fu26 (by decide) (e ▸ hj))
        have o2u27 := o2u26.turn tR (fun j hj e => ne_blk' o2u26 fu26 (by decide) (e ▸ hj))
        have owu27 := row9_turn owu26 tR (fun j hj e => ne_blk owu26 fu26 (by decide) (e ▸ hj))
        refine hK.out undef _ nu27 (fun _ => ?_)
        try simp only [Act.put, List.setIfInBounds_toArray, List.set_cons_zero, List.set_cons_succ]
        refine wpAnyH_done (by kernel_rfl) ?_ _
        exact ⟨wd.heap.size, x1, d1, x2, d2, _, 3, rfl, nu27, fu27, by omega, o1u27, o2u27, AB.out, owu27⟩
      case u24 =>
        have zzu28 := (hw1.trans nu22).size
        obtain ⟨u28, hmk, hru28, hgu28⟩ := run_makeSlice_full (P := Try.prog) (w := u22) w.heap.size 34 55 iW (.agg #[.int .i64 0, .slice none 0 0, .int .i64 0, .slice none 0 0]) 4 Try.underlying34 hiW hzW0 hzW1 .i64 .i64 3 (by omega) (by rw [hzW2]; omega) (by unfold maxLen; omega) (by omega)
        replace hmk : (Instr.makeSlice 34 (.int .i64 3) (.int .i64 3)).run Try.prog u22 = .ok (.slice (some ⟨u22.heap.size, 0, none⟩) 3 3) u28 := hmk
        have nnu28 : New u22 u28 := (New.refl u22).grow hgu28 (fun k e => by cases e)
        have nu28 := nu22.trans nnu28
        have owu28 : u28.ownsRow w.heap.size 55 4 (.slice (some ⟨u22.heap.size, 0, none⟩) 3 3) 3 wz3 := made_wz3 ▸ hru28
        have fu28 := fu22.new nnu28
        go_simp
        refine hK.out _ _ nu28 (fun _ => ?_)
        simp only [Act.put, List.setIfInBounds_toArray, List.set_cons_zero, List.set_cons_succ]
        clear hmk hru28 hgu28 nnu28
        refine hw_call 1 (some 13) rfl rfl (by kernel_rfl) (by rfl) (fun K hK => ?_)
        go_simp
        refine (copySe sa si ho nx a1 a2 n1 c1 n2 c2 r1 r2 _ (h1.new (hw1.trans nu28)) (h2.new (hw1.trans nu28)) E1.out E2.out m1 m2 Z1.out Z2.out).mono ?_
        rintro e u29 ⟨x1, d1, x2, d2, rfl, oA, oB, aAB, nnu29⟩
        have nu29 := nu28.trans nnu29
        have zzu29 := (hw1.trans nu28).size
        have o1u29 := oA.low (lo' := w.heap.size) (by omega)
        have o2u29 := oB.low (lo' := w.heap.size) (by omega)
        have AB : Hid _ := aAB
        clear aAB
        have owu29 := row9_new owu28 nnu29
        have fu29 := fu28.new nnu29
        go_simp
        refine hK.out _ _ nu29 (fun _ => ?_)
        simp only [Act.put, List.setIfInBounds_toArray, List.set_cons_zero, List.set_cons_succ]
        clear nnu29 oA oB
        refine' hw_take 3 (some 15) _ rfl rfl (by kernel_rfl) (by kernel_rfl) (by kernel_rfl) (fun _ _ _ h => h) (by rfl) nu29 ?hy6 ?rest6
        case hy6 =>
          intro X hX
          go_simp
          try rfl
        simp only [Act.put, List.setIfInBounds_toArray, List.set_cons_zero, List.set_cons_succ]
        refine hw_call 5 none rfl rfl (by kernel_rfl) (by rfl) (fun K hK => ?_)
        refine hw_store 38 (.tmp 4) (.tmp 15) rfl rfl wd.heap.size #[.int .i64 sa, .int .i64 si, .int .i64 ho, .int .i64 nx, .slice x1 n1 d1, .slice x2 n2 d2, .slice none 0 0, .slice (some ⟨u22.heap.size, 0, none⟩) 3 3, .slice none 0 0, .slice none 0 0] #[.int .i64 0, .int .i64 0, .int .i64 0, .int .i64 0, .slice none 0 0, .slice none 0 0, .slice none 0 0, .slice none 0 0, .slice none 0 0, .slice none 0 0] rfl rfl fu29 (by kernel_rfl) rfl (by kernel_rfl) ?_
        have tR := Turn.rowW (Turn.refl (fun i => i = wd.heap.size) u29) rfl #[.int .i64 sa, .int .i64 si, .int .i64 ho, .int .i64 nx, .slice x1 n1 d1, .slice x2 n2 d2, .slice none 0 0, .slice (some ⟨u22.heap.size, 0, none⟩) 3 3, .slice none 0 0, .slice none 0 0]
        have fu30 := fu29.rowW #[.int .i64 sa, .int .i64 si, .int .i64 ho, .int .i64 nx, .slice x1 n1 d1, .slice x2 n2 d2, .slice none 0 0, .slice (some ⟨u22.heap.size, 0, none⟩) 3 3, .slice none 0 0, .slice none 0 0]
        have zB := (hw1.trans nwd).size
        have zC := nwd.size
        have nu30 := nu29.before tR (by intro i hi e; omega)
        have o1u30 := o1u29.turn tR (fun j hj e => ne_blk' o1u29 fu29 (by decide) (e ▸ hj))
        have o2u30 := o2u29.turn tR (fun j hj e => ne_blk' o2u29 fu29 (by decide) (e ▸ hj))
        have owu30 := row9_turn owu29 tR (fun j hj e => ne_blk owu29 fu29 (by decide) (e ▸ hj))
        refine hK.out undef _ nu30 (fun _ => ?_)
        try simp only [Act.put, List.setIfInBounds_toArray, List.set_cons_zero, List.set_cons_succ]
        refine wpAnyH_done (by kernel_rfl) ?_ _
        exact ⟨wd.heap.size, x1, d1, x2, d2, _, 3, rfl, nu30, fu30, by omega, o1u30, o2u30, AB.out, owu30⟩
  case hq4 =>
    rintro e a4 wA hq
    cases e <;> simp only at hq
    obtain ⟨B, x1, d1, x2, d2, yw, dw, rfl, nwA, fwA, hB, o1wA, o2wA, aAB, owwA⟩ := hq
    have AP : Hid _ := aAB
    have zW1 : Hid (w.heap.size ≤ w1.heap.size) := hw1.size
    clear aAB
    have onwA : wA.ownsRow w1.heap.size 53 9 (.slice none 0 0) 0 [] := ⟨rfl, .inl ⟨rfl, rfl⟩⟩
    go_wp2_with fail
    refine wp_loop_rounds 3 ?_
    rw [rounds_succ]
    have cF := fwA.cells
    go_upto_region 8 with fail
    clear cF
    refine hw_start (n := 9) (S := fun X => New w1 X) rfl (by kernel_rfl) (nwA.drew) (fun hH => ?_)
    have dr := (New.refl wA).drew
    have nu31 := nwA.trans dr
    have fu31 := fwA.new dr
    have o1u31 := o1wA.new dr
    have o2u31 := o2wA.new dr
    have owu31 := row9_new owwA dr
    have onu31 := row9_new onwA dr
    generalize wA.drew = u31 at *
    clear dr
    clear nwA fwA o1wA o2wA owwA onwA
    refine' hw_take 0 (some 19) _ rfl rfl (by kernel_rfl) (by kernel_rfl) (by kernel_rfl) (fun _ _ _ h => h) (by rfl) hH ?hy7 ?rest7
    case hy7 =>
      intro X hX
      go_simp
      try rfl
    simp only [Act.put, List.setIfInBounds_toArray, List.set_cons_zero, List.set_cons_succ]
    refine' hw_take 2 (some 21) _ rfl rfl (by kernel_rfl) (by kernel_rfl) (by kernel_rfl) (fun _ _ _ h => h) (by rfl) hH ?hy8 ?rest8
    case hy8 =>
      intro X hX
      go_simp
      try rfl
    simp only [Act.put, List.setIfInBounds_toArray, List.set_cons_zero, List.set_cons_succ]
    refine wpAnyH_ready (rs := [1, 3]) (by kernel_rfl) (by simp) (hw_step 1 (some 20) rfl rfl (by rfl) (fun K hK => ?u32) (hw_step 3 (some 22) rfl rfl (by rfl) (fun K hK => ?u33) (by intro j hj; cases hj)))
    case u32 =>
      have cF := fu31.cells
      go_simp
      clear cF
      refine hK.out _ _ nu31 (fun _ => ?_)
      simp only [Act.put, List.setIfInBounds_toArray, List.set_cons_zero, List.set_cons_succ]
      refine hw_call 3 (some 22) rfl rfl (by kernel_rfl) (by rfl) (fun K hK => ?_)
      go_simp
      refine (iNewP 0 _ (by omega)).mono ?_
      rintro e u34 ⟨rfl, nn⟩
      have nu34 := nu31.trans nn
      have fu34 := fu31.new nn
      have o1u34 := o1u31.new nn
      have o2u34 := o2u31.new nn
      have owu34 := row9_new owu31 nn
      have onu34 := row9_new onu31 nn
      clear nu31 fu31 o1u31 o2u31 owu31 onu31
      clear nn
      go_simp
      refine hK.out _ _ nu34 (fun _ => ?_)
      simp only [Act.put, List.setIfInBounds_toArray, List.set_cons_zero, List.set_cons_succ]
      refine' hw_take 4 (some 23) (.agg #[.int .i64 0, .bool true, .int .i64 0, .int .i64 0, .slice none 0 0, .int .i64 0, .int .i64 0, .int .i64 0, .int .i64 0]) rfl rfl (by kernel_rfl) (by kernel_rfl) (by kernel_rfl) (fun _ _ _ h => h) (by rfl) nu34 ?hqtu34 ?rqtu34
      case hqtu34 =>
        intro X hX
        have hfd : (Instr.field 59 (.agg #[.int .i64 0, .int .i64 0, .bool true, .int .i64 0, .int .i64 0, .slice none 0 0, .int .i64 0, .int .i64 0, .int .i64 0, .int .i64 0, .slice none 0 0]) 1).run Try.prog X = .ok (.agg #[.int .i64 0, .bool true, .int .i64 0, .int .i64 0, .slice none 0 0, .int .i64 0, .int .i64 0, .int .i64 0, .int .i64 0]) X := by kernel_rfl
        go_simp
      simp only [Act.put, List.setIfInBounds_toArray, List.set_cons_zero, List.set_cons_succ]
      refine hw_call 5 (some 24) rfl rfl (by kernel_rfl) (by rfl) (fun K hK => ?_)
      go_simp
      have nn := (New.refl u34).alloc (.cells #[.int .i64 0, .bool true, .int .i64 0, .int .i64 0, .slice none 0 0, .int .i64 0, .int .i64 0, .int .i64 0, .int .i64 0] 53)
      have bS := Blk.mk u34 u34.heap.size 53 #[.int .i64 0, .bool true, .int .i64 0, .int .i64 0, .slice none 0 0, .int .i64 0, .int .i64 0, .int .i64 0, .int .i64 0] rfl
      have zS := nu34.size
      have nu36 := nu34.trans nn
      have fu36 := fu34.new nn
      have o1u36 := o1u34.new nn
      have o2u36 := o2u34.new nn
      have owu36 := row9_new owu34 nn
      have onu36 := row9_new onu34 nn
      have zD := nn.size
      refine hK.out _ _ nu36 (fun _ => ?_)
      simp only [Act.put, List.setIfInBounds_toArray, List.set_cons_zero, List.set_cons_succ]
      generalize u34.alloc (.cells #[.int .i64 0, .bool true, .int .i64 0, .int .i64 0, .slice none 0 0, .int .i64 0, .int .i64 0, .int .i64 0, .int .i64 0] 53) = u36 at *
      have cS := bS.cells
      refine hw_call 6 (some 25) rfl rfl (by kernel_rfl) (by rfl) (fun K hK => ?_)
      refine wp_apV _ (.tmp 20) (.tmp 24) rfl w1.heap.size 9 88 (.agg #[.int .i64 0, .bool false, .int .i64 0, .int .i64 0, .slice none 0 0, .int .i64 0, .int .i64 0, .int .i64 0, .int .i64 0]) Try.underlying33 hiN hzN0 hzN1 hzN2 rfl (by omega) (by omega) (Value.slice none 0 0) 0 [] rfl onu36 u34.heap.size [Value.int .i64 0, .bool true, .int .i64 0, .int .i64 0, .slice none 0 0, .int .i64 0, .int .i64 0, .int .i64 0, .int .i64 0] rfl (by simp [Value.oneCell']) rfl (by intro j u hu; rw [cS j, List.getElem?_toArray]; exact hu) (by omega) (by omega) ?_
      intro vu37 u37 oo gg _
      have onu37 : u37.ownsRow w1.heap.size 53 9 vu37 1 [Value.int .i64 0, .bool true, .int .i64 0, .int .i64 0, .slice none 0 0, .int .i64 0, .int .i64 0, .int .i64 0, .int .i64 0] := oo
      have tt : Turn (fun k => ((Value.slice none 0 0)).ownBlock = some k) u36 u37 := ⟨gg.os, gg.tape, gg.output, gg.size, fun k hk hs => gg.block k hk (fun x => hs x.symm)⟩
      have nu37 := nu36.before tt (by intro j hj x; have := (rng_of onu36 j x).1; omega)
      have fu37 := fu36.turn tt (fun x => ne_blk onu36 fu36 (by decide) x)
      have o1u37 := o1u36.turn tt (fun j hj x => ne_row onu36 (ov_row o1u36) (by decide) j x hj)
      have o2u37 := o2u36.turn tt (fun j hj x => ne_row onu36 (ov_row o2u36) (by decide) j x hj)
      have owu37 := row9_turn owu36 tt (fun j hj x => ne_row onu36 owu36 (by decide) j x hj)
      clear oo gg tt cS bS nn zS zD
      obtain ⟨yu37, zu37, hv, -, -⟩ := row9_form onu37
      subst hv
      clear nu36 fu36 o1u36 o2u36 owu36 onu36
      clear nu34 fu34 o1u34 o2u34 owu34 onu34
      refine hK.out _ _ nu37 (fun _ => ?_)
      simp only [Act.put, List.setIfInBounds_toArray, List.set_cons_zero, List.set_cons_succ]
      refine' hw_take 7 (some 26) _ rfl rfl (by kernel_rfl) (by kernel_rfl) (by kernel_rfl) (fun _ _ _ h => h) (by rfl) nu37 ?hy9 ?rest9
      case hy9 =>
        intro X hX
        go_simp
        try rfl
      simp only [Act.put, List.setIfInBounds_toArray, List.set_cons_zero, List.set_cons_succ]
      refine hw_call 8 none rfl rfl (by kernel_rfl) (by rfl) (fun K hK => ?_)
      have cF := fu37.cells
      have fF := fu37.frees
      go_simp
      have tS := (Turn.refl (fun i => i = B) u37).set (p := ⟨B, 6, none⟩) rfl (.slice yu37 1 zu37)
      have fu38 : Blk (u37.setCell ⟨B, 6, none⟩ (.slice yu37 1 zu37)) B 38 #[.int .i64 sa, .int .i64 si, .int .i64 ho, .int .i64 nx, .slice x1 n1 d1, .slice x2 n2 d2, .slice yu37 1 zu37, .slice yw 3 dw, .slice none 0 0, .slice none 0 0] := fu37.set 6 (.slice yu37 1 zu37)
      have nu38 := nu37.before tS (by intro j hj x; omega)
      have o1u38 := o1u37.turn tS (fun j hj x => ne_blk' o1u37 fu37 (by decide) (x ▸ hj))
      have o2u38 := o2u37.turn tS (fun j hj x => ne_blk' o2u37 fu37 (by decide) (x ▸ hj))
      have owu38 := row9_turn owu37 tS (fun j hj x => ne_blk owu37 fu37 (by decide) (x ▸ hj))
      have onu38 := row9_turn onu37 tS (fun j hj x => ne_blk onu37 fu37 (by decide) (x ▸ hj))
      refine hK.out undef _ nu38 (fun _ => ?_)
      try simp only [Act.put, List.setIfInBounds_toArray, List.set_cons_zero, List.set_cons_succ]
      refine wpAnyH_done (by kernel_rfl) ?_ _
      generalize u37.setCell ⟨B, 6, none⟩ (.slice yu37 1 zu37) = u38 at *
      clear tS cF fF
      clear nu37 fu37 o1u37 o2u37 owu37 onu37
      go_wp2_with fail
      rw [rounds_succ]
      have cF := fu38.cells
      go_upto_region 8 with fail
      clear cF
      refine hw_start (n := 9) (S := fun X => New w1 X) rfl (by kernel_rfl) (nu38.drew) (fun hH => ?_)
      have dr := (New.refl u38).drew
      have nu39 := nu38.trans dr
      have fu39 := fu38.new dr
      have o1u39 := o1u38.new dr
      have o2u39 := o2u38.new dr
      have owu39 := row9_new owu38 dr
      have onu39 := row9_new onu38 dr
      generalize u38.drew = u39 at *
      clear dr
      clear nu38 fu38 o1u38 o2u38 owu38 onu38
      refine' hw_take 0 (some 19) _ rfl rfl (by kernel_rfl) (by kernel_rfl) (by kernel_rfl) (fun _ _ _ h => h) (by rfl) hH ?hy10 ?rest10
      case hy10 =>
        intro X hX
        go_simp
        try rfl
      simp only [Act.put, List.setIfInBounds_toArray, List.set_cons_zero, List.set_cons_succ]
      refine' hw_take 2 (some 21) _ rfl rfl (by kernel_rfl) (by kernel_rfl) (by kernel_rfl) (fun _ _ _ h => h) (by rfl) hH ?hy11 ?rest11
      case hy11 =>
        intro X hX
        go_simp
        try rfl
      simp only [Act.put, List.setIfInBounds_toArray, List.set_cons_zero, List.set_cons_succ]
      refine wpAnyH_ready (rs := [1, 3]) (by kernel_rfl) (by simp) (hw_step 1 (some 20) rfl rfl (by rfl) (fun K hK => ?u40) (hw_step 3 (some 22) rfl rfl (by rfl) (fun K hK => ?u41) (by intro j hj; cases hj)))
      case u40 =>
        have cF := fu39.cells
        go_simp
        clear cF
        refine hK.out _ _ nu39 (fun _ => ?_)
        simp only [Act.put, List.setIfInBounds_toArray, List.set_cons_zero, List.set_cons_succ]
        refine hw_call 3 (some 22) rfl rfl (by kernel_rfl) (by rfl) (fun K hK => ?_)
        go_simp
        refine (iNewP 1 _ (by omega)).mono ?_
        rintro e u42 ⟨rfl, nn⟩
        have nu42 := nu39.trans nn
        have fu42 := fu39.new nn
        have o1u42 := o1u39.new nn
        have o2u42 := o2u39.new nn
        have owu42 := row9_new owu39 nn
        have onu42 := row9_new onu39 nn
        clear nu39 fu39 o1u39 o2u39 owu39 onu39
        clear nn
        go_simp
        refine hK.out _ _ nu42 (fun _ => ?_)
        simp only [Act.put, List.setIfInBounds_toArray, List.set_cons_zero, List.set_cons_succ]
        refine' hw_take 4 (some 23) (.agg #[.int .i64 1, .bool true, .int .i64 0, .int .i64 0, .slice none 0 0, .int .i64 0, .int .i64 0, .int .i64 0, .int .i64 0]) rfl rfl (by kernel_rfl) (by kernel_rfl) (by kernel_rfl) (fun _ _ _ h => h) (by rfl) nu42 ?hqtu42 ?rqtu42
        case hqtu42 =>
          intro X hX
          have hfd : (Instr.field 59 (.agg #[.int .i64 0, .int .i64 1, .bool true, .int .i64 0, .int .i64 0, .slice none 0 0, .int .i64 0, .int .i64 0, .int .i64 0, .int .i64 0, .slice none 0 0]) 1).run Try.prog X = .ok (.agg #[.int .i64 1, .bool true, .int .i64 0, .int .i64 0, .slice none 0 0, .int .i64 0, .int .i64 0, .int .i64 0, .int .i64 0]) X := by kernel_rfl
          go_simp
        simp only [Act.put, List.setIfInBounds_toArray, List.set_cons_zero, List.set_cons_succ]
        refine hw_call 5 (some 24) rfl rfl (by kernel_rfl) (by rfl) (fun K hK => ?_)
        go_simp
        have nn := (New.refl u42).alloc (.cells #[.int .i64 1, .bool true, .int .i64 0, .int .i64 0, .slice none 0 0, .int .i64 0, .int .i64 0, .int .i64 0, .int .i64 0] 53)
        have bS := Blk.mk u42 u42.heap.size 53 #[.int .i64 1, .bool true, .int .i64 0, .int .i64 0, .slice none 0 0, .int .i64 0, .int .i64 0, .int .i64 0, .int .i64 0] rfl
        have zS := nu42.size
        have nu44 := nu42.trans nn
        have fu44 := fu42.new nn
        have o1u44 := o1u42.new nn
        have o2u44 := o2u42.new nn
        have owu44 := row9_new owu42 nn
        have onu44 := row9_new onu42 nn
        have zD := nn.size
        refine hK.out _ _ nu44 (fun _ => ?_)
        simp only [Act.put, List.setIfInBounds_toArray, List.set_cons_zero, List.set_cons_succ]
        generalize u42.alloc (.cells #[.int .i64 1, .bool true, .int .i64 0, .int .i64 0, .slice none 0 0, .int .i64 0, .int .i64 0, .int .i64 0, .int .i64 0] 53) = u44 at *
        have cS := bS.cells
        refine hw_call 6 (some 25) rfl rfl (by kernel_rfl) (by rfl) (fun K hK => ?_)
        refine wp_apV _ (.tmp 20) (.tmp 24) rfl w1.heap.size 9 88 (.agg #[.int .i64 0, .bool false, .int .i64 0, .int .i64 0, .slice none 0 0, .int .i64 0, .int .i64 0, .int .i64 0, .int .i64 0]) Try.underlying33 hiN hzN0 hzN1 hzN2 rfl (by omega) (by omega) (Value.slice yu37 1 zu37) 1 [Value.int .i64 0, .bool true, .int .i64 0, .int .i64 0, .slice none 0 0, .int .i64 0, .int .i64 0, .int .i64 0, .int .i64 0] rfl onu44 u42.heap.size [Value.int .i64 1, .bool true, .int .i64 0, .int .i64 0, .slice none 0 0, .int .i64 0, .int .i64 0, .int .i64 0, .int .i64 0] rfl (by simp [Value.oneCell']) rfl (by intro j u hu; rw [cS j, List.getElem?_toArray]; exact hu) (by omega) (by omega) ?_
        intro vu45 u45 oo gg _
        have onu45 : u45.ownsRow w1.heap.size 53 9 vu45 2 [Value.int .i64 0, .bool true, .int .i64 0, .int .i64 0, .slice none 0 0, .int .i64 0, .int .i64 0, .int .i64 0, .int .i64 0, .int .i64 1, .bool true, .int .i64 0, .int .i64 0, .slice none 0 0, .int .i64 0, .int .i64 0, .int .i64 0, .int .i64 0] := oo
        have tt : Turn (fun k => ((Value.slice yu37 1 zu37)).ownBlock = some k) u44 u45 := ⟨gg.os, gg.tape, gg.output, gg.size, fun k hk hs => gg.block k hk (fun x => hs x.symm)⟩
        have nu45 := nu44.before tt (by intro j hj x; have := (rng_of onu44 j x).1; omega)
        have fu45 := fu44.turn tt (fun x => ne_blk onu44 fu44 (by decide) x)
        have o1u45 := o1u44.turn tt (fun j hj x => ne_row onu44 (ov_row o1u44) (by decide) j x hj)
        have o2u45 := o2u44.turn tt (fun j hj x => ne_row onu44 (ov_row o2u44) (by decide) j x hj)
        have owu45 := row9_turn owu44 tt (fun j hj x => ne_row onu44 owu44 (by decide) j x hj)
        clear oo gg tt cS bS nn zS zD
        obtain ⟨yu45, zu45, hv, -, -⟩ := row9_form onu45
        subst hv
        clear nu44 fu44 o1u44 o2u44 owu44 onu44
        clear nu42 fu42 o1u42 o2u42 owu42 onu42
        refine hK.out _ _ nu45 (fun _ => ?_)
        simp only [Act.put, List.setIfInBounds_toArray, List.set_cons_zero, List.set_cons_succ]
        refine' hw_take 7 (some 26) _ rfl rfl (by kernel_rfl) (by kernel_rfl) (by kernel_rfl) (fun _ _ _ h => h) (by rfl) nu45 ?hy12 ?rest12
        case hy12 =>
          intro X hX
          go_simp
          try rfl
        simp only [Act.put, List.setIfInBounds_toArray, List.set_cons_zero, List.set_cons_succ]
        refine hw_call 8 none rfl rfl (by kernel_rfl) (by rfl) (fun K hK => ?_)
        have cF := fu45.cells
        have fF := fu45.frees
        go_simp
        have tS := (Turn.refl (fun i => i = B) u45).set (p := ⟨B, 6, none⟩) rfl (.slice yu45 2 zu45)
        have fu46 : Blk (u45.setCell ⟨B, 6, none⟩ (.slice yu45 2 zu45)) B 38 #[.int .i64 sa, .int .i64 si, .int .i64 ho, .int .i64 nx, .slice x1 n1 d1, .slice x2 n2 d2, .slice yu45 2 zu45, .slice yw 3 dw, .slice none 0 0, .slice none 0 0] := fu45.set 6 (.slice yu45 2 zu45)
        have nu46 := nu45.before tS (by intro j hj x; omega)
        have o1u46 := o1u45.turn tS (fun j hj x => ne_blk' o1u45 fu45 (by decide) (x ▸ hj))
        have o2u46 := o2u45.turn tS (fun j hj x => ne_blk' o2u45 fu45 (by decide) (x ▸ hj))
        have owu46 := row9_turn owu45 tS (fun j hj x => ne_blk owu45 fu45 (by decide) (x ▸ hj))
        have onu46 := row9_turn onu45 tS (fun j hj x => ne_blk onu45 fu45 (by decide) (x ▸ hj))
        refine hK.out undef _ nu46 (fun _ => ?_)
        try simp only [Act.put, List.setIfInBounds_toArray, List.set_cons_zero, List.set_cons_succ]
        refine wpAnyH_done (by kernel_rfl) ?_ _
        generalize u45.setCell ⟨B, 6, none⟩ (.slice yu45 2 zu45) = u46 at *
        clear tS cF fF
        clear nu45 fu45 o1u45 o2u45 owu45 onu45
        go_wp2_with fail
        rw [rounds_succ]
        have bB9 := bB1.new nu46
        have cB := bB9.cells
        have fB := bB9.frees
        have cF := fu46.cells
        have N9 := hw1.trans nu46
        have ge1 : w.heap.size ≤ w.heap.size + 1 := by omega
        go_wp2
        refine bodyPost_ret (v := .agg #[.int .i64 0, .slice none 0 0, .int .i64 sa, .int .i64 si, .int .i64 ho, .int .i64 nx, .slice x1 n1 d1, .slice x2 n2 d2, .slice yu45 2 zu45, .slice yw 3 dw, .slice none 0 0, .slice none 0 0]) (by simp [results, Try.results7, go_sem, cB]) rfl ⟨⟨x1, d1, x2, d2, yu45, zu45, yw, dw, rfl, ?_⟩, ?_⟩
        · have tt : Turn (fun k => k = w.heap.size + 1) u46 ((((((((((((u46.setCell ⟨w.heap.size + 1, 0, none⟩ (.int .i64 0)).setCell ⟨w.heap.size + 1, 1, none⟩ (.slice none 0 0)).setCell ⟨w.heap.size + 1, 2, none⟩ (.int .i64 sa)).setCell ⟨w.heap.size + 1, 3, none⟩ (.int .i64 si)).setCell ⟨w.heap.size + 1, 4, none⟩ (.int .i64 ho)).setCell ⟨w.heap.size + 1, 5, none⟩ (.int .i64 nx)).setCell ⟨w.heap.size + 1, 6, none⟩ (.slice x1 n1 d1)).setCell ⟨w.heap.size + 1, 7, none⟩ (.slice x2 n2 d2)).setCell ⟨w.heap.size + 1, 8, none⟩ (.slice yu45 2 zu45)).setCell ⟨w.heap.size + 1, 9, none⟩ (.slice yw 3 dw)).setCell ⟨w.heap.size + 1, 10, none⟩ (.slice none 0 0)).setCell ⟨w.heap.size + 1, 11, none⟩ (.slice none 0 0)) := (Turn.here9 (Turn.here9 (Turn.here9 (Turn.here9 (Turn.here9 (Turn.here9 (Turn.here9 (Turn.here9 (Turn.here9 (Turn.here9 (Turn.here9 (Turn.here9 (Turn.refl _ _) _) _) _) _) _) _) _) _) _) _) _) _)
          exact ⟨o1u46.turn tt (fun j hj x => ne_blk' o1u46 bB9 (by decide) (x ▸ hj)), o2u46.turn tt (fun j hj x => ne_blk' o2u46 bB9 (by decide) (x ▸ hj)), AP.out, row9_lowP (row9_turn onu46 tt (fun j hj x => ne_blk onu46 bB9 (by decide) (x ▸ hj))) zW1.out, row9_turn owu46 tt (fun j hj x => ne_blk owu46 bB9 (by decide) (x ▸ hj))⟩
        · exact ((((((((((((N9.setCell ge1 _).setCell ge1 _).setCell ge1 _).setCell ge1 _).setCell ge1 _).setCell ge1 _).setCell ge1 _).setCell ge1 _).setCell ge1 _).setCell ge1 _).setCell ge1 _).setCell ge1 _)
      case u41 =>
        go_simp
        refine (iNewP 1 _ (by omega)).mono ?_
        rintro e u43 ⟨rfl, nn⟩
        have nu43 := nu39.trans nn
        have fu43 := fu39.new nn
        have o1u43 := o1u39.new nn
        have o2u43 := o2u39.new nn
        have owu43 := row9_new owu39 nn
        have onu43 := row9_new onu39 nn
        clear nu39 fu39 o1u39 o2u39 owu39 onu39
        clear nn
        go_simp
        refine hK.out _ _ nu43 (fun _ => ?_)
        simp only [Act.put, List.setIfInBounds_toArray, List.set_cons_zero, List.set_cons_succ]
        refine' hw_take 4 (some 23) (.agg #[.int .i64 1, .bool true, .int .i64 0, .int .i64 0, .slice none 0 0, .int .i64 0, .int .i64 0, .int .i64 0, .int .i64 0]) rfl rfl (by kernel_rfl) (by kernel_rfl) (by kernel_rfl) (fun _ _ _ h => h) (by rfl) nu43 ?hqtu43 ?rqtu43
        case hqtu43 =>
          intro X hX
          have hfd : (Instr.field 59 (.agg #[.int .i64 0, .int .i64 1, .bool true, .int .i64 0, .int .i64 0, .slice none 0 0, .int .i64 0, .int .i64 0, .int .i64 0, .int .i64 0, .slice none 0 0]) 1).run Try.prog X = .ok (.agg #[.int .i64 1, .bool true, .int .i64 0, .int .i64 0, .slice none 0 0, .int .i64 0, .int .i64 0, .int .i64 0, .int .i64 0]) X := by kernel_rfl
          go_simp
        simp only [Act.put, List.setIfInBounds_toArray, List.set_cons_zero, List.set_cons_succ]
        refine wpAnyH_ready (rs := [1, 5]) (by kernel_rfl) (by simp) (hw_step 1 (some 20) rfl rfl (by rfl) (fun K hK => ?u47) (hw_step 5 (some 24) rfl rfl (by rfl) (fun K hK => ?u48) (by intro j hj; cases hj)))
        case u47 =>
          have cF := fu43.cells
          go_simp
          clear cF
          refine hK.out _ _ nu43 (fun _ => ?_)
          simp only [Act.put, List.setIfInBounds_toArray, List.set_cons_zero, List.set_cons_succ]
          refine hw_call 5 (some 24) rfl rfl (by kernel_rfl) (by rfl) (fun K hK => ?_)
          go_simp
          have nn := (New.refl u43).alloc (.cells #[.int .i64 1, .bool true, .int .i64 0, .int .i64 0, .slice none 0 0, .int .i64 0, .int .i64 0, .int .i64 0, .int .i64 0] 53)
          have bS := Blk.mk u43 u43.heap.size 53 #[.int .i64 1, .bool true, .int .i64 0, .int .i64 0, .slice none 0 0, .int .i64 0, .int .i64 0, .int .i64 0, .int .i64 0] rfl
          have zS := nu43.size
          have nu49 := nu43.trans nn
          have fu49 := fu43.new nn
          have o1u49 := o1u43.new nn
          have o2u49 := o2u43.new nn
          have owu49 := row9_new owu43 nn
          have onu49 := row9_new onu43 nn
          have zD := nn.size
          refine hK.out _ _ nu49 (fun _ => ?_)
          simp only [Act.put, List.setIfInBounds_toArray, List.set_cons_zero, List.set_cons_succ]
          generalize u43.alloc (.cells #[.int .i64 1, .bool true, .int .i64 0, .int .i64 0, .slice none 0 0, .int .i64 0, .int .i64 0, .int .i64 0, .int .i64 0] 53) = u49 at *
          have cS := bS.cells
          refine hw_call 6 (some 25) rfl rfl (by kernel_rfl) (by rfl) (fun K hK => ?_)
          refine wp_apV _ (.tmp 20) (.tmp 24) rfl w1.heap.size 9 88 (.agg #[.int .i64 0, .bool false, .int .i64 0, .int .i64 0, .slice none 0 0, .int .i64 0, .int .i64 0, .int .i64 0, .int .i64 0]) Try.underlying33 hiN hzN0 hzN1 hzN2 rfl (by omega) (by omega) (Value.slice yu37 1 zu37) 1 [Value.int .i64 0, .bool true, .int .i64 0, .int .i64 0, .slice none 0 0, .int .i64 0, .int .i64 0, .int .i64 0, .int .i64 0] rfl onu49 u43.heap.size [Value.int .i64 1, .bool true, .int .i64 0, .int .i64 0, .slice none 0 0, .int .i64 0, .int .i64 0, .int .i64 0, .int .i64 0] rfl (by simp [Value.oneCell']) rfl (by intro j u hu; rw [cS j, List.getElem?_toArray]; exact hu) (by omega) (by omega) ?_
          intro vu51 u51 oo gg _
          have onu51 : u51.ownsRow w1.heap.size 53 9 vu51 2 [Value.int .i64 0, .bool true, .int .i64 0, .int .i64 0, .slice none 0 0, .int .i64 0, .int .i64 0, .int .i64 0, .int .i64 0, .int .i64 1, .bool true, .int .i64 0, .int .i64 0, .slice none 0 0, .int .i64 0, .int .i64 0, .int .i64 0, .int .i64 0] := oo
          have tt : Turn (fun k => ((Value.slice yu37 1 zu37)).ownBlock = some k) u49 u51 := ⟨gg.os, gg.tape, gg.output, gg.size, fun k hk hs => gg.block k hk (fun x => hs x.symm)⟩
          have nu51 := nu49.before tt (by intro j hj x; have := (rng_of onu49 j x).1; omega)
          have fu51 := fu49.turn tt (fun x => ne_blk onu49 fu49 (by decide) x)
          have o1u51 := o1u49.turn tt (fun j hj x => ne_row onu49 (ov_row o1u49) (by decide) j x hj)
          have o2u51 := o2u49.turn tt (fun j hj x => ne_row onu49 (ov_row o2u49) (by decide) j x hj)
          have owu51 := row9_turn owu49 tt (fun j hj x => ne_row onu49 owu49 (by decide) j x hj)
          clear oo gg tt cS bS nn zS zD
          obtain ⟨yu51, zu51, hv, -, -⟩ := row9_form onu51
          subst hv
          clear nu49 fu49 o1u49 o2u49 owu49 onu49
          clear nu43 fu43 o1u43 o2u43 owu43 onu43
          refine hK.out _ _ nu51 (fun _ => ?_)
          simp only [Act.put, List.setIfInBounds_toArray, List.set_cons_zero, List.set_cons_succ]
          refine' hw_take 7 (some 26) _ rfl rfl (by kernel_rfl) (by kernel_rfl) (by kernel_rfl) (fun _ _ _ h => h) (by rfl) nu51 ?hy13 ?rest13
          case hy13 =>
            intro X hX
            go_simp
            try rfl
          simp only [Act.put, List.setIfInBounds_toArray, List.set_cons_zero, List.set_cons_succ]
          refine hw_call 8 none rfl rfl (by kernel_rfl) (by rfl) (fun K hK => ?_)
          have cF := fu51.cells
          have fF := fu51.frees
          go_simp
          have tS := (Turn.refl (fun i => i = B) u51).set (p := ⟨B, 6, none⟩) rfl (.slice yu51 2 zu51)
          have fu52 : Blk (u51.setCell ⟨B, 6, none⟩ (.slice yu51 2 zu51)) B 38 #[.int .i64 sa, .int .i64 si, .int .i64 ho, .int .i64 nx, .slice x1 n1 d1, .slice x2 n2 d2, .slice yu51 2 zu51, .slice yw 3 dw, .slice none 0 0, .slice none 0 0] := fu51.set 6 (.slice yu51 2 zu51)
          have nu52 := nu51.before tS (by intro j hj x; omega)
          have o1u52 := o1u51.turn tS (fun j hj x => ne_blk' o1u51 fu51 (by decide) (x ▸ hj))
          have o2u52 := o2u51.turn tS (fun j hj x => ne_blk' o2u51 fu51 (by decide) (x ▸ hj))
          have owu52 := row9_turn owu51 tS (fun j hj x => ne_blk owu51 fu51 (by decide) (x ▸ hj))
          have onu52 := row9_turn onu51 tS (fun j hj x => ne_blk onu51 fu51 (by decide) (x ▸ hj))
          refine hK.out undef _ nu52 (fun _ => ?_)
          try simp only [Act.put, List.setIfInBounds_toArray, List.set_cons_zero, List.set_cons_succ]
          refine wpAnyH_done (by kernel_rfl) ?_ _
          generalize u51.setCell ⟨B, 6, none⟩ (.slice yu51 2 zu51) = u52 at *
          clear tS cF fF
          clear nu51 fu51 o1u51 o2u51 owu51 onu51
          go_wp2_with fail
          rw [rounds_succ]
          have bB9 := bB1.new nu52
          have cB := bB9.cells
          have fB := bB9.frees
          have cF := fu52.cells
          have N9 := hw1.trans nu52
          have ge1 : w.heap.size ≤ w.heap.size + 1 := by omega
          go_wp2
          refine bodyPost_ret (v := .agg #[.int .i64 0, .slice none 0 0, .int .i64 sa, .int .i64 si, .int .i64 ho, .int .i64 nx, .slice x1 n1 d1, .slice x2 n2 d2, .slice yu51 2 zu51, .slice yw 3 dw, .slice none 0 0, .slice none 0 0]) (by simp [results, Try.results7, go_sem, cB]) rfl ⟨⟨x1, d1, x2, d2, yu51, zu51, yw, dw, rfl, ?_⟩, ?_⟩
          · have tt : Turn (fun k => k = w.heap.size + 1) u52 ((((((((((((u52.setCell ⟨w.heap.size + 1, 0, none⟩ (.int .i64 0)).setCell ⟨w.heap.size + 1, 1, none⟩ (.slice none 0 0)).setCell ⟨w.heap.size + 1, 2, none⟩ (.int .i64 sa)).setCell ⟨w.heap.size + 1, 3, none⟩ (.int .i64 si)).setCell ⟨w.heap.size + 1, 4, none⟩ (.int .i64 ho)).setCell ⟨w.heap.size + 1, 5, none⟩ (.int .i64 nx)).setCell ⟨w.heap.size + 1, 6, none⟩ (.slice x1 n1 d1)).setCell ⟨w.heap.size + 1, 7, none⟩ (.slice x2 n2 d2)).setCell ⟨w.heap.size + 1, 8, none⟩ (.slice yu51 2 zu51)).setCell ⟨w.heap.size + 1, 9, none⟩ (.slice yw 3 dw)).setCell ⟨w.heap.size + 1, 10, none⟩ (.slice none 0 0)).setCell ⟨w.heap.size + 1, 11, none⟩ (.slice none 0 0)) := (Turn.here9 (Turn.here9 (Turn.here9 (Turn.here9 (Turn.here9 (Turn.here9 (Turn.here9 (Turn.here9 (Turn.here9 (Turn.here9 (Turn.here9 (Turn.here9 (Turn.refl _ _) _) _) _) _) _) _) _) _) _) _) _) _)
            exact ⟨o1u52.turn tt (fun j hj x => ne_blk' o1u52 bB9 (by decide) (x ▸ hj)), o2u52.turn tt (fun j hj x => ne_blk' o2u52 bB9 (by decide) (x ▸ hj)), AP.out, row9_lowP (row9_turn onu52 tt (fun j hj x => ne_blk onu52 bB9 (by decide) (x ▸ hj))) zW1.out, row9_turn owu52 tt (fun j hj x => ne_blk owu52 bB9 (by decide) (x ▸ hj))⟩
          · exact ((((((((((((N9.setCell ge1 _).setCell ge1 _).setCell ge1 _).setCell ge1 _).setCell ge1 _).setCell ge1 _).setCell ge1 _).setCell ge1 _).setCell ge1 _).setCell ge1 _).setCell ge1 _).setCell ge1 _)
        case u48 =>
          go_simp
          have nn := (New.refl u43).alloc (.cells #[.int .i64 1, .bool true, .int .i64 0, .int .i64 0, .slice none 0 0, .int .i64 0, .int .i64 0, .int .i64 0, .int .i64 0] 53)
          have bS := Blk.mk u43 u43.heap.size 53 #[.int .i64 1, .bool true, .int .i64 0, .int .i64 0, .slice none 0 0, .int .i64 0, .int .i64 0, .int .i64 0, .int .i64 0] rfl
          have zS := nu43.size
          have nu50 := nu43.trans nn
          have fu50 := fu43.new nn
          have o1u50 := o1u43.new nn
          have o2u50 := o2u43.new nn
          have owu50 := row9_new owu43 nn
          have onu50 := row9_new onu43 nn
          have zD := nn.size
          refine hK.out _ _ nu50 (fun _ => ?_)
          simp only [Act.put, List.setIfInBounds_toArray, List.set_cons_zero, List.set_cons_succ]
          generalize u43.alloc (.cells #[.int .i64 1, .bool true, .int .i64 0, .int .i64 0, .slice none 0 0, .int .i64 0, .int .i64 0, .int .i64 0, .int .i64 0] 53) = u50 at *
          refine hw_call 1 (some 20) rfl rfl (by kernel_rfl) (by rfl) (fun K hK => ?_)
          have cF := fu50.cells
          go_simp
          clear cF
          refine hK.out _ _ nu50 (fun _ => ?_)
          simp only [Act.put, List.setIfInBounds_toArray, List.set_cons_zero, List.set_cons_succ]
          have cS := bS.cells
          refine hw_call 6 (some 25) rfl rfl (by kernel_rfl) (by rfl) (fun K hK => ?_)
          refine wp_apV _ (.tmp 20) (.tmp 24) rfl w1.heap.size 9 88 (.agg #[.int .i64 0, .bool false, .int .i64 0, .int .i64 0, .slice none 0 0, .int .i64 0, .int .i64 0, .int .i64 0, .int .i64 0]) Try.underlying33 hiN hzN0 hzN1 hzN2 rfl (by omega) (by omega) (Value.slice yu37 1 zu37) 1 [Value.int .i64 0, .bool true, .int .i64 0, .int .i64 0, .slice none 0 0, .int .i64 0, .int .i64 0, .int .i64 0, .int .i64 0] rfl onu50 u43.heap.size [Value.int .i64 1, .bool true, .int .i64 0, .int .i64 0, .slice none 0 0, .int .i64 0, .int .i64 0, .int .i64 0, .int .i64 0] rfl (by simp [Value.oneCell']) rfl (by intro j u hu; rw [cS j, List.getElem?_toArray]; exact hu) (by omega) (by omega) ?_
          intro vu53 u53 oo gg _
          have onu53 : u53.ownsRow w1.heap.size 53 9 vu53 2 [Value.int .i64 0, .bool true, .int .i64 0, .int .i64 0, .slice none 0 0, .int .i64 0, .int .i64 0, .int .i64 0, .int .i64 0, .int .i64 1, .bool true, .int .i64 0, .int .i64 0, .slice none 0 0, .int .i64 0, .int .i64 0, .int .i64 0, .int .i64 0] := oo
          have tt : Turn (fun k => ((Value.slice yu37 1 zu37)).ownBlock = some k) u50 u53 := ⟨gg.os, gg.tape, gg.output, gg.size, fun k hk hs => gg.block k hk (fun x => hs x.symm)⟩
          have nu53 := nu50.before tt (by intro j hj x; have := (rng_of onu50 j x).1; omega)
          have fu53 := fu50.turn tt (fun x => ne_blk onu50 fu50 (by decide) x)
          have o1u53 := o1u50.turn tt (fun j hj x => ne_row onu50 (ov_row o1u50) (by decide) j x hj)
          have o2u53 := o2u50.turn tt (fun j hj x => ne_row onu50 (ov_row o2u50) (by decide) j x hj)
          have owu53 := row9_turn owu50 tt (fun j hj x => ne_row onu50 owu50 (by decide) j x hj)
          clear oo gg tt cS bS nn zS zD
          obtain ⟨yu53, zu53, hv, -, -⟩ := row9_form onu53
          subst hv
          clear nu50 fu50 o1u50 o2u50 owu50 onu50
          clear nu43 fu43 o1u43 o2u43 owu43 onu43
          refine hK.out _ _ nu53 (fun _ => ?_)
          simp only [Act.put, List.setIfInBounds_toArray, List.set_cons_zero, List.set_cons_succ]
          refine' hw_take 7 (some 26) _ rfl rfl (by kernel_rfl) (by kernel_rfl) (by kernel_rfl) (fun _ _ _ h => h) (by rfl) nu53 ?hy14 ?rest14
          case hy14 =>
            intro X hX
            go_simp
            try rfl
          simp only [Act.put, List.setIfInBounds_toArray, List.set_cons_zero, List.set_cons_succ]
          refine hw_call 8 none rfl rfl (by kernel_rfl) (by rfl) (fun K hK => ?_)
          have cF := fu53.cells
          have fF := fu53.frees
          go_simp
          have tS := (Turn.refl (fun i => i = B) u53).set (p := ⟨B, 6, none⟩) rfl (.slice yu53 2 zu53)
          have fu54 : Blk (u53.setCell ⟨B, 6, none⟩ (.slice yu53 2 zu53)) B 38 #[.int .i64 sa, .int .i64 si, .int .i64 ho, .int .i64 nx, .slice x1 n1 d1, .slice x2 n2 d2, .slice yu53 2 zu53, .slice yw 3 dw, .slice none 0 0, .slice none 0 0] := fu53.set 6 (.slice yu53 2 zu53)
          have nu54 := nu53.before tS (by intro j hj x; omega)
          have o1u54 := o1u53.turn tS (fun j hj x => ne_blk' o1u53 fu53 (by decide) (x ▸ hj))
          have o2u54 := o2u53.turn tS (fun j hj x => ne_blk' o2u53 fu53 (by decide) (x ▸ hj))
          have owu54 := row9_turn owu53 tS (fun j hj x => ne_blk owu53 fu53 (by decide) (x ▸ hj))
          have onu54 := row9_turn onu53 tS (fun j hj x => ne_blk onu53 fu53 (by decide) (x ▸ hj))
          refine hK.out undef _ nu54 (fun _ => ?_)
          try simp only [Act.put, List.setIfInBounds_toArray, List.set_cons_zero, List.set_cons_succ]
          refine wpAnyH_done (by kernel_rfl) ?_ _
          generalize u53.setCell ⟨B, 6, none⟩ (.slice yu53 2 zu53) = u54 at *
          clear tS cF fF
          clear nu53 fu53 o1u53 o2u53 owu53 onu53
          go_wp2_with fail
          rw [rounds_succ]
          have bB9 := bB1.new nu54
          have cB := bB9.cells
          have fB := bB9.frees
          have cF := fu54.cells
          have N9 := hw1.trans nu54
          have ge1 : w.heap.size ≤ w.heap.size + 1 := by omega
          go_wp2
          refine bodyPost_ret (v := .agg #[.int .i64 0, .slice none 0 0, .int .i64 sa, .int .i64 si, .int .i64 ho, .int .i64 nx, .slice x1 n1 d1, .slice x2 n2 d2, .slice yu53 2 zu53, .slice yw 3 dw, .slice none 0 0, .slice none 0 0]) (by simp [results, Try.results7, go_sem, cB]) rfl ⟨⟨x1, d1, x2, d2, yu53, zu53, yw, dw, rfl, ?_⟩, ?_⟩
          · have tt : Turn (fun k => k = w.heap.size + 1) u54 ((((((((((((u54.setCell ⟨w.heap.size + 1, 0, none⟩ (.int .i64 0)).setCell ⟨w.heap.size + 1, 1, none⟩ (.slice none 0 0)).setCell ⟨w.heap.size + 1, 2, none⟩ (.int .i64 sa)).setCell ⟨w.heap.size + 1, 3, none⟩ (.int .i64 si)).setCell ⟨w.heap.size + 1, 4, none⟩ (.int .i64 ho)).setCell ⟨w.heap.size + 1, 5, none⟩ (.int .i64 nx)).setCell ⟨w.heap.size + 1, 6, none⟩ (.slice x1 n1 d1)).setCell ⟨w.heap.size + 1, 7, none⟩ (.slice x2 n2 d2)).setCell ⟨w.heap.size + 1, 8, none⟩ (.slice yu53 2 zu53)).setCell ⟨w.heap.size + 1, 9, none⟩ (.slice yw 3 dw)).setCell ⟨w.heap.size + 1, 10, none⟩ (.slice none 0 0)).setCell ⟨w.heap.size + 1, 11, none⟩ (.slice none 0 0)) := (Turn.here9 (Turn.here9 (Turn.here9 (Turn.here9 (Turn.here9 (Turn.here9 (Turn.here9 (Turn.here9 (Turn.here9 (Turn.here9 (Turn.here9 (Turn.here9 (Turn.refl _ _) _) _) _) _) _) _) _) _) _) _) _) _)
            exact ⟨o1u54.turn tt (fun j hj x => ne_blk' o1u54 bB9 (by decide) (x ▸ hj)), o2u54.turn tt (fun j hj x => ne_blk' o2u54 bB9 (by decide) (x ▸ hj)), AP.out, row9_lowP (row9_turn onu54 tt (fun j hj x => ne_blk onu54 bB9 (by decide) (x ▸ hj))) zW1.out, row9_turn owu54 tt (fun j hj x => ne_blk owu54 bB9 (by decide) (x ▸ hj))⟩
          · exact ((((((((((((N9.setCell ge1 _).setCell ge1 _).setCell ge1 _).setCell ge1 _).setCell ge1 _).setCell ge1 _).setCell ge1 _).setCell ge1 _).setCell ge1 _).setCell ge1 _).setCell ge1 _).setCell ge1 _)
    case u33 =>
      go_simp
      refine (iNewP 0 _ (by omega)).mono ?_
      rintro e u35 ⟨rfl, nn⟩
      have nu35 := nu31.trans nn
      have fu35 := fu31.new nn
      have o1u35 := o1u31.new nn
      have o2u35 := o2u31.new nn
      have owu35 := row9_new owu31 nn
      have onu35 := row9_new onu31 nn
      clear nu31 fu31 o1u31 o2u31 owu31 onu31
      clear nn
      go_simp
      refine hK.out _ _ nu35 (fun _ => ?_)
      simp only [Act.put, List.setIfInBounds_toArray, List.set_cons_zero, List.set_cons_succ]
      refine' hw_take 4 (some 23) (.agg #[.int .i64 0, .bool true, .int .i64 0, .int .i64 0, .slice none 0 0, .int .i64 0, .int .i64 0, .int .i64 0, .int .i64 0]) rfl rfl (by kernel_rfl) (by kernel_rfl) (by kernel_rfl) (fun _ _ _ h => h) (by rfl) nu35 ?hqtu35 ?rqtu35
      case hqtu35 =>
        intro X hX
        have hfd : (Instr.field 59 (.agg #[.int .i64 0, .int .i64 0, .bool true, .int .i64 0, .int .i64 0, .slice none 0 0, .int .i64 0, .int .i64 0, .int .i64 0, .int .i64 0, .slice none 0 0]) 1).run Try.prog X = .ok (.agg #[.int .i64 0, .bool true, .int .i64 0, .int .i64 0, .slice none 0 0, .int .i64 0, .int .i64 0, .int .i64 0, .int .i64 0]) X := by kernel_rfl
        go_simp
      simp only [Act.put, List.setIfInBounds_toArray, List.set_cons_zero, List.set_cons_succ]
      refine wpAnyH_ready (rs := [1, 5]) (by kernel_rfl) (by simp) (hw_step 1 (some 20) rfl rfl (by rfl) (fun K hK => ?u55) (hw_step 5 (some 24) rfl rfl (by rfl) (fun K hK => ?u56) (by intro j hj; cases hj)))
      case u55 =>
        have cF := fu35.cells
        go_simp
        clear cF
        refine hK.out _ _ nu35 (fun _ => ?_)
        simp only [Act.put, List.setIfInBounds_toArray, List.set_cons_zero, List.set_cons_succ]
        refine hw_call 5 (some 24) rfl rfl (by kernel_rfl) (by rfl) (fun K hK => ?_)
        go_simp
        have nn := (New.refl u35).alloc (.cells #[.int .i64 0, .bool true, .int .i64 0, .int .i64 0, .slice none 0 0, .int .i64 0, .int .i64 0, .int .i64 0, .int .i64 0] 53)
        have bS := Blk.mk u35 u35.heap.size 53 #[.int .i64 0, .bool true, .int .i64 0, .int .i64 0, .slice none 0 0, .int .i64 0, .int .i64 0, .int .i64 0, .int .i64 0] rfl
        have zS := nu35.size
        have nu57 := nu35.trans nn
        have fu57 := fu35.new nn
        have o1u57 := o1u35.new nn
        have o2u57 := o2u35.new nn
        have owu57 := row9_new owu35 nn
        have onu57 := row9_new onu35 nn
        have zD := nn.size
        refine hK.out _ _ nu57 (fun _ => ?_)
        simp only [Act.put, List.setIfInBounds_toArray, List.set_cons_zero, List.set_cons_succ]
        generalize u35.alloc (.cells #[.int .i64 0, .bool true, .int .i64 0, .int .i64 0, .slice none 0 0, .int .i64 0, .int .i64 0, .int .i64 0, .int .i64 0] 53) = u57 at *
        have cS := bS.cells
        refine hw_call 6 (some 25) rfl rfl (by kernel_rfl) (by rfl) (fun K hK => ?_)
        refine wp_apV _ (.tmp 20) (.tmp 24) rfl w1.heap.size 9 88 (.agg #[.int .i64 0, .bool false, .int .i64 0, .int .i64 0, .slice none 0 0, .int .i64 0, .int .i64 0, .int .i64 0, .int .i64 0]) Try.underlying33 hiN hzN0 hzN1 hzN2 rfl (by omega) (by omega) (Value.slice none 0 0) 0 [] rfl onu57 u35.heap.size [Value.int .i64 0, .bool true, .int .i64 0, .int .i64 0, .slice none 0 0, .int .i64 0, .int .i64 0, .int .i64 0, .int .i64 0] rfl (by simp [Value.oneCell']) rfl (by intro j u hu; rw [cS j, List.getElem?_toArray]; exact hu) (by omega) (by omega) ?_
        intro vu59 u59 oo gg _
        have onu59 : u59.ownsRow w1.heap.size 53 9 vu59 1 [Value.int .i64 0, .bool true, .int .i64 0, .int .i64 0, .slice none 0 0, .int .i64 0, .int .i64 0, .int .i64 0, .int .i64 0] := oo
        have tt : Turn (fun k => ((Value.slice none 0 0)).ownBlock = some k) u57 u59 := ⟨gg.os, gg.tape, gg.output, gg.size, fun k hk hs => gg.block k hk (fun x => hs x.symm)⟩
        have nu59 := nu57.before tt (by intro j hj x; have := (rng_of onu57 j x).1; omega)
        have fu59 := fu57.turn tt (fun x => ne_blk onu57 fu57 (by decide) x)
        have o1u59 := o1u57.turn tt (fun j hj x => ne_row onu57 (ov_row o1u57) (by decide) j x hj)
        have o2u59 := o2u57.turn tt (fun j hj x => ne_row onu57 (ov_row o2u57) (by decide) j x hj)
        have owu59 := row9_turn owu57 tt (fun j hj x => ne_row onu57 owu57 (by decide) j x hj)
        clear oo gg tt cS bS nn zS zD
        obtain ⟨yu59, zu59, hv, -, -⟩ := row9_form onu59
        subst hv
        clear nu57 fu57 o1u57 o2u57 owu57 onu57
        clear nu35 fu35 o1u35 o2u35 owu35 onu35
        refine hK.out _ _ nu59 (fun _ => ?_)
        simp only [Act.put, List.setIfInBounds_toArray, List.set_cons_zero, List.set_cons_succ]
        refine' hw_take 7 (some 26) _ rfl rfl (by kernel_rfl) (by kernel_rfl) (by kernel_rfl) (fun _ _ _ h => h) (by rfl) nu59 ?hy15 ?rest15
        case hy15 =>
          intro X hX
          go_simp
          try rfl
        simp only [Act.put, List.setIfInBounds_toArray, List.set_cons_zero, List.set_cons_succ]
        refine hw_call 8 none rfl rfl (by kernel_rfl) (by rfl) (fun K hK => ?_)
        have cF := fu59.cells
        have fF := fu59.frees
        go_simp
        have tS := (Turn.refl (fun i => i = B) u59).set (p := ⟨B, 6, none⟩) rfl (.slice yu59 1 zu59)
        have fu60 : Blk (u59.setCell ⟨B, 6, none⟩ (.slice yu59 1 zu59)) B 38 #[.int .i64 sa, .int .i64 si, .int .i64 ho, .int .i64 nx, .slice x1 n1 d1, .slice x2 n2 d2, .slice yu59 1 zu59, .slice yw 3 dw, .slice none 0 0, .slice none 0 0] := fu59.set 6 (.slice yu59 1 zu59)
        have nu60 := nu59.before tS (by intro j hj x; omega)
        have o1u60 := o1u59.turn tS (fun j hj x => ne_blk' o1u59 fu59 (by decide) (x ▸ hj))
        have o2u60 := o2u59.turn tS (fun j hj x => ne_blk' o2u59 fu59 (by decide) (x ▸ hj))
        have owu60 := row9_turn owu59 tS (fun j hj x => ne_blk owu59 fu59 (by decide) (x ▸ hj))
        have onu60 := row9_turn onu59 tS (fun j hj x => ne_blk onu59 fu59 (by decide) (x ▸ hj))
        refine hK.out undef _ nu60 (fun _ => ?_)
        try simp only [Act.put, List.setIfInBounds_toArray, List.set_cons_zero, List.set_cons_succ]
        refine wpAnyH_done (by kernel_rfl) ?_ _
        generalize u59.setCell ⟨B, 6, none⟩ (.slice yu59 1 zu59) = u60 at *
        clear tS cF fF
        clear nu59 fu59 o1u59 o2u59 owu59 onu59
        go_wp2_with fail
        rw [rounds_succ]
        have cF := fu60.cells
        go_upto_region 8 with fail
        clear cF
        refine hw_start (n := 9) (S := fun X => New w1 X) rfl (by kernel_rfl) (nu60.drew) (fun hH => ?_)
        have dr := (New.refl u60).drew
        have nu61 := nu60.trans dr
        have fu61 := fu60.new dr
        have o1u61 := o1u60.new dr
        have o2u61 := o2u60.new dr
        have owu61 := row9_new owu60 dr
        have onu61 := row9_new onu60 dr
        generalize u60.drew = u61 at *
        clear dr
        clear nu60 fu60 o1u60 o2u60 owu60 onu60
        refine' hw_take 0 (some 19) _ rfl rfl (by kernel_rfl) (by kernel_rfl) (by kernel_rfl) (fun _ _ _ h => h) (by rfl) hH ?hy16 ?rest16
        case hy16 =>
          intro X hX
          go_simp
          try rfl
        simp only [Act.put, List.setIfInBounds_toArray, List.set_cons_zero, List.set_cons_succ]
        refine' hw_take 2 (some 21) _ rfl rfl (by kernel_rfl) (by kernel_rfl) (by kernel_rfl) (fun _ _ _ h => h) (by rfl) hH ?hy17 ?rest17
        case hy17 =>
          intro X hX
          go_simp
          try rfl
        simp only [Act.put, List.setIfInBounds_toArray, List.set_cons_zero, List.set_cons_succ]
        refine wpAnyH_ready (rs := [1, 3]) (by kernel_rfl) (by simp) (hw_step 1 (some 20) rfl rfl (by rfl) (fun K hK => ?u62) (hw_step 3 (some 22) rfl rfl (by rfl) (fun K hK => ?u63) (by intro j hj; cases hj)))
        case u62 =>
          have cF := fu61.cells
          go_simp
          clear cF
          refine hK.out _ _ nu61 (fun _ => ?_)
          simp only [Act.put, List.setIfInBounds_toArray, List.set_cons_zero, List.set_cons_succ]
          refine hw_call 3 (some 22) rfl rfl (by kernel_rfl) (by rfl) (fun K hK => ?_)
          go_simp
          refine (iNewP 1 _ (by omega)).mono ?_
          rintro e u64 ⟨rfl, nn⟩
          have nu64 := nu61.trans nn
          have fu64 := fu61.new nn
          have o1u64 := o1u61.new nn
          have o2u64 := o2u61.new nn
          have owu64 := row9_new owu61 nn
          have onu64 := row9_new onu61 nn
          clear nu61 fu61 o1u61 o2u61 owu61 onu61
          clear nn
          go_simp
          refine hK.out _ _ nu64 (fun _ => ?_)
          simp only [Act.put, List.setIfInBounds_toArray, List.set_cons_zero, List.set_cons_succ]
          refine' hw_take 4 (some 23) (.agg #[.int .i64 1, .bool true, .int .i64 0, .int .i64 0, .slice none 0 0, .int .i64 0, .int .i64 0, .int .i64 0, .int .i64 0]) rfl rfl (by kernel_rfl) (by kernel_rfl) (by kernel_rfl) (fun _ _ _ h => h) (by rfl) nu64 ?hqtu64 ?rqtu64
          case hqtu64 =>
            intro X hX
            have hfd : (Instr.field 59 (.agg #[.int .i64 0, .int .i64 1, .bool true, .int .i64 0, .int .i64 0, .slice none 0 0, .int .i64 0, .int .i64 0, .int .i64 0, .int .i64 0, .slice none 0 0]) 1).run Try.prog X = .ok (.agg #[.int .i64 1, .bool true, .int .i64 0, .int .i64 0, .slice none 0 0, .int .i64 0, .int .i64 0, .int .i64 0, .int .i64 0]) X := by kernel_rfl
            go_simp
          simp only [Act.put, List.setIfInBounds_toArray, List.set_cons_zero, List.set_cons_succ]
          refine hw_call 5 (some 24) rfl rfl (by kernel_rfl) (by rfl) (fun K hK => ?_)
          go_simp
          have nn := (New.refl u64).alloc (.cells #[.int .i64 1, .bool true, .int .i64 0, .int .i64 0, .slice none 0 0, .int .i64 0, .int .i64 0, .int .i64 0, .int .i64 0] 53)
          have bS := Blk.mk u64 u64.heap.size 53 #[.int .i64 1, .bool true, .int .i64 0, .int .i64 0, .slice none 0 0, .int .i64 0, .int .i64 0, .int .i64 0, .int .i64 0] rfl
          have zS := nu64.size
          have nu66 := nu64.trans nn
          have fu66 := fu64.new nn
          have o1u66 := o1u64.new nn
          have o2u66 := o2u64.new nn
          have owu66 := row9_new owu64 nn
          have onu66 := row9_new onu64 nn
          have zD := nn.size
          refine hK.out _ _ nu66 (fun _ => ?_)
          simp only [Act.put, List.setIfInBounds_toArray, List.set_cons_zero, List.set_cons_succ]
          generalize u64.alloc (.cells #[.int .i64 1, .bool true, .int .i64 0, .int .i64 0, .slice none 0 0, .int .i64 0, .int .i64 0, .int .i64 0, .int .i64 0] 53) = u66 at *
          have cS := bS.cells
          refine hw_call 6 (some 25) rfl rfl (by kernel_rfl) (by rfl) (fun K hK => ?_)
          refine wp_apV _ (.tmp 20) (.tmp 24) rfl w1.heap.size 9 88 (.agg #[.int .i64 0, .bool false, .int .i64 0, .int .i64 0, .slice none 0 0, .int .i64 0, .int .i64 0, .int .i64 0, .int .i64 0]) Try.underlying33 hiN hzN0 hzN1 hzN2 rfl (by omega) (by omega) (Value.slice yu59 1 zu59) 1 [Value.int .i64 0, .bool true, .int .i64 0, .int .i64 0, .slice none 0 0, .int .i64 0, .int .i64 0, .int .i64 0, .int .i64 0] rfl onu66 u64.heap.size [Value.int .i64 1, .bool true, .int .i64 0, .int .i64 0, .slice none 0 0, .int .i64 0, .int .i64 0, .int .i64 0, .int .i64 0] rfl (by simp [Value.oneCell']) rfl (by intro j u hu; rw [cS j, List.getElem?_toArray]; exact hu) (by omega) (by omega) ?_
          intro vu67 u67 oo gg _
          have onu67 : u67.ownsRow w1.heap.size 53 9 vu67 2 [Value.int .i64 0, .bool true, .int .i64 0, .int .i64 0, .slice none 0 0, .int .i64 0, .int .i64 0, .int .i64 0, .int .i64 0, .int .i64 1, .bool true, .int .i64 0, .int .i64 0, .slice none 0 0, .int .i64 0, .int .i64 0, .int .i64 0, .int .i64 0] := oo
          have tt : Turn (fun k => ((Value.slice yu59 1 zu59)).ownBlock = some k) u66 u67 := ⟨gg.os, gg.tape, gg.output, gg.size, fun k hk hs => gg.block k hk (fun x => hs x.symm)⟩
          have nu67 := nu66.before tt (by intro j hj x; have := (rng_of onu66 j x).1; omega)
          have fu67 := fu66.turn tt (fun x => ne_blk onu66 fu66 (by decide) x)
          have o1u67 := o1u66.turn tt (fun j hj x => ne_row onu66 (ov_row o1u66) (by decide) j x hj)
          have o2u67 := o2u66.turn tt (fun j hj x => ne_row onu66 (ov_row o2u66) (by decide) j x hj)
          have owu67 := row9_turn owu66 tt (fun j hj x => ne_row onu66 owu66 (by decide) j x hj)
          clear oo gg tt cS bS nn zS zD
          obtain ⟨yu67, zu67, hv, -, -⟩ := row9_form onu67
          subst hv
          clear nu66 fu66 o1u66 o2u66 owu66 onu66
          clear nu64 fu64 o1u64 o2u64 owu64 onu64
          refine hK.out _ _ nu67 (fun _ => ?_)
          simp only [Act.put, List.setIfInBounds_toArray, List.set_cons_zero, List.set_cons_succ]
          refine' hw_take 7 (some 26) _ rfl rfl (by kernel_rfl) (by kernel_rfl) (by kernel_rfl) (fun _ _ _ h => h) (by rfl) nu67 ?hy18 ?rest18
          case hy18 =>
            intro X hX
            go_simp
            try rfl
          simp only [Act.put, List.setIfInBounds_toArray, List.set_cons_zero, List.set_cons_succ]
          refine hw_call 8 none rfl rfl (by kernel_rfl) (by rfl) (fun K hK => ?_)
          have cF := fu67.cells
          have fF := fu67.frees
          go_simp
          have tS := (Turn.refl (fun i => i = B) u67).set (p := ⟨B, 6, none⟩) rfl (.slice yu67 2 zu67)
          have fu68 : Blk (u67.setCell ⟨B, 6, none⟩ (.slice yu67 2 zu67)) B 38 #[.int .i64 sa, .int .i64 si, .int .i64 ho, .int .i64 nx, .slice x1 n1 d1, .slice x2 n2 d2, .slice yu67 2 zu67, .slice yw 3 dw, .slice none 0 0, .slice none 0 0] := fu67.set 6 (.slice yu67 2 zu67)
          have nu68 := nu67.before tS (by intro j hj x; omega)
          have o1u68 := o1u67.turn tS (fun j hj x => ne_blk' o1u67 fu67 (by decide) (x ▸ hj))
          have o2u68 := o2u67.turn tS (fun j hj x => ne_blk' o2u67 fu67 (by decide) (x ▸ hj))
          have owu68 := row9_turn owu67 tS (fun j hj x => ne_blk owu67 fu67 (by decide) (x ▸ hj))
          have onu68 := row9_turn onu67 tS (fun j hj x => ne_blk onu67 fu67 (by decide) (x ▸ hj))
          refine hK.out undef _ nu68 (fun _ => ?_)
          try simp only [Act.put, List.setIfInBounds_toArray, List.set_cons_zero, List.set_cons_succ]
          refine wpAnyH_done (by kernel_rfl) ?_ _
          generalize u67.setCell ⟨B, 6, none⟩ (.slice yu67 2 zu67) = u68 at *
          clear tS cF fF
          clear nu67 fu67 o1u67 o2u67 owu67 onu67
          go_wp2_with fail
          rw [rounds_succ]
          have bB9 := bB1.new nu68
          have cB := bB9.cells
          have fB := bB9.frees
          have cF := fu68.cells
          have N9 := hw1.trans nu68
          have ge1 : w.heap.size ≤ w.heap.size + 1 := by omega
          go_wp2
          refine bodyPost_ret (v := .agg #[.int .i64 0, .slice none 0 0, .int .i64 sa, .int .i64 si, .int .i64 ho, .int .i64 nx, .slice x1 n1 d1, .slice x2 n2 d2, .slice yu67 2 zu67, .slice yw 3 dw, .slice none 0 0, .slice none 0 0]) (by simp [results, Try.results7, go_sem, cB]) rfl ⟨⟨x1, d1, x2, d2, yu67, zu67, yw, dw, rfl, ?_⟩, ?_⟩
          · have tt : Turn (fun k => k = w.heap.size + 1) u68 ((((((((((((u68.setCell ⟨w.heap.size + 1, 0, none⟩ (.int .i64 0)).setCell ⟨w.heap.size + 1, 1, none⟩ (.slice none 0 0)).setCell ⟨w.heap.size + 1, 2, none⟩ (.int .i64 sa)).setCell ⟨w.heap.size + 1, 3, none⟩ (.int .i64 si)).setCell ⟨w.heap.size + 1, 4, none⟩ (.int .i64 ho)).setCell ⟨w.heap.size + 1, 5, none⟩ (.int .i64 nx)).setCell ⟨w.heap.size + 1, 6, none⟩ (.slice x1 n1 d1)).setCell ⟨w.heap.size + 1, 7, none⟩ (.slice x2 n2 d2)).setCell ⟨w.heap.size + 1, 8, none⟩ (.slice yu67 2 zu67)).setCell ⟨w.heap.size + 1, 9, none⟩ (.slice yw 3 dw)).setCell ⟨w.heap.size + 1, 10, none⟩ (.slice none 0 0)).setCell ⟨w.heap.size + 1, 11, none⟩ (.slice none 0 0)) := (Turn.here9 (Turn.here9 (Turn.here9 (Turn.here9 (Turn.here9 (Turn.here9 (Turn.here9 (Turn.here9 (Turn.here9 (Turn.here9 (Turn.here9 (Turn.here9 (Turn.refl _ _) _) _) _) _) _) _) _) _) _) _) _) _)
            exact ⟨o1u68.turn tt (fun j hj x => ne_blk' o1u68 bB9 (by decide) (x ▸ hj)), o2u68.turn tt (fun j hj x => ne_blk' o2u68 bB9 (by decide) (x ▸ hj)), AP.out, row9_lowP (row9_turn onu68 tt (fun j hj x => ne_blk onu68 bB9 (by decide) (x ▸ hj))) zW1.out, row9_turn owu68 tt (fun j hj x => ne_blk owu68 bB9 (by decide) (x ▸ hj))⟩
          · exact ((((((((((((N9.setCell ge1 _).setCell ge1 _).setCell ge1 _).setCell ge1 _).setCell ge1 _).setCell ge1 _).setCell ge1 _).setCell ge1 _).setCell ge1 _).setCell ge1 _).setCell ge1 _).setCell ge1 _)
        case u63 =>
          go_simp
          refine (iNewP 1 _ (by omega)).mono ?_
          rintro e u65 ⟨rfl, nn⟩
          have nu65 := nu61.trans nn
          have fu65 := fu61.new nn
          have o1u65 := o1u61.new nn
          have o2u65 := o2u61.new nn
          have owu65 := row9_new owu61 nn
          have onu65 := row9_new onu61 nn
          clear nu61 fu61 o1u61 o2u61 owu61 onu61
          clear nn
          go_simp
          refine hK.out _ _ nu65 (fun _ => ?_)
          simp only [Act.put, List.setIfInBounds_toArray, List.set_cons_zero, List.set_cons_succ]
          refine' hw_take 4 (some 23) (.agg #[.int .i64 1, .bool true, .int .i64 0, .int .i64 0, .slice none 0 0, .int .i64 0, .int .i64 0, .int .i64 0, .int .i64 0]) rfl rfl (by kernel_rfl) (by kernel_rfl) (by kernel_rfl) (fun _ _ _ h => h) (by rfl) nu65 ?hqtu65 ?rqtu65
          case hqtu65 =>
            intro X hX
            have hfd : (Instr.field 59 (.agg #[.int .i64 0, .int .i64 1, .bool true, .int .i64 0, .int .i64 0, .slice none 0 0, .int .i64 0, .int .i64 0, .int .i64 0, .int .i64 0, .slice none 0 0]) 1).run Try.prog X = .ok (.agg #[.int .i64 1, .bool true, .int .i64 0, .int .i64 0, .slice none 0 0, .int .i64 0, .int .i64 0, .int .i64 0, .int .i64 0]) X := by kernel_rfl
            go_simp
          simp only [Act.put, List.setIfInBounds_toArray, List.set_cons_zero, List.set_cons_succ]
          refine wpAnyH_ready (rs := [1, 5]) (by kernel_rfl) (by simp) (hw_step 1 (some 20) rfl rfl (by rfl) (fun K hK => ?u69) (hw_step 5 (some 24) rfl rfl (by rfl) (fun K hK => ?u70) (by intro j hj; cases hj)))
          case u69 =>
            have cF := fu65.cells
            go_simp
            clear cF
            refine hK.out _ _ nu65 (fun _ => ?_)
            simp only [Act.put, List.setIfInBounds_toArray, List.set_cons_zero, List.set_cons_succ]
            refine hw_call 5 (some 24) rfl rfl (by kernel_rfl) (by rfl) (fun K hK => ?_)
            go_simp
            have nn := (New.refl u65).alloc (.cells #[.int .i64 1, .bool true, .int .i64 0, .int .i64 0, .slice none 0 0, .int .i64 0, .int .i64 0, .int .i64 0, .int .i64 0] 53)
            have bS := Blk.mk u65 u65.heap.size 53 #[.int .i64 1, .bool true, .int .i64 0, .int .i64 0, .slice none 0 0, .int .i64 0, .int .i64 0, .int .i64 0, .int .i64 0] rfl
            have zS := nu65.size
            have nu71 := nu65.trans nn
            have fu71 := fu65.new nn
            have o1u71 := o1u65.new nn
            have o2u71 := o2u65.new nn
            have owu71 := row9_new owu65 nn
            have onu71 := row9_new onu65 nn
            have zD := nn.size
            refine hK.out _ _ nu71 (fun _ => ?_)
            simp only [Act.put, List.setIfInBounds_toArray, List.set_cons_zero, List.set_cons_succ]
            generalize u65.alloc (.cells #[.int .i64 1, .bool true, .int .i64 0, .int .i64 0, .slice none 0 0, .int .i64 0, .int .i64 0, .int .i64 0, .int .i64 0] 53) = u71 at *
            have cS := bS.cells
            refine hw_call 6 (some 25) rfl rfl (by kernel_rfl) (by rfl) (fun K hK => ?_)
            refine wp_apV _ (.tmp 20) (.tmp 24) rfl w1.heap.size 9 88 (.agg #[.int .i64 0, .bool false, .int .i64 0, .int .i64 0, .slice none 0 0, .int .i64 0, .int .i64 0, .int .i64 0, .int .i64 0]) Try.underlying33 hiN hzN0 hzN1 hzN2 rfl (by omega) (by omega) (Value.slice yu59 1 zu59) 1 [Value.int .i64 0, .bool true, .int .i64 0, .int .i64 0, .slice none 0 0, .int .i64 0, .int .i64 0, .int .i64 0, .int .i64 0] rfl onu71 u65.heap.size [Value.int .i64 1, .bool true, .int .i64 0, .int .i64 0, .slice none 0 0, .int .i64 0, .int .i64 0, .int .i64 0, .int .i64 0] rfl (by simp [Value.oneCell']) rfl (by intro j u hu; rw [cS j, List.getElem?_toArray]; exact hu) (by omega) (by omega) ?_
            intro vu73 u73 oo gg _
            have onu73 : u73.ownsRow w1.heap.size 53 9 vu73 2 [Value.int .i64 0, .bool true, .int .i64 0, .int .i64 0, .slice none 0 0, .int .i64 0, .int .i64 0, .int .i64 0, .int .i64 0, .int .i64 1, .bool true, .int .i64 0, .int .i64 0, .slice none 0 0, .int .i64 0, .int .i64 0, .int .i64 0, .int .i64 0] := oo
            have tt : Turn (fun k => ((Value.slice yu59 1 zu59)).ownBlock = some k) u71 u73 := ⟨gg.os, gg.tape, gg.output, gg.size, fun k hk hs => gg.block k hk (fun x => hs x.symm)⟩
            have nu73 := nu71.before tt (by intro j hj x; have := (rng_of onu71 j x).1; omega)
            have fu73 := fu71.turn tt (fun x => ne_blk onu71 fu71 (by decide) x)
            have o1u73 := o1u71.turn tt (fun j hj x => ne_row onu71 (ov_row o1u71) (by decide) j x hj)
            have o2u73 := o2u71.turn tt (fun j hj x => ne_row onu71 (ov_row o2u71) (by decide) j x hj)
            have owu73 := row9_turn owu71 tt (fun j hj x => ne_row onu71 owu71 (by decide) j x hj)
            clear oo gg tt cS bS nn zS zD
            obtain ⟨yu73, zu73, hv, -, -⟩ := row9_form onu73
            subst hv
            clear nu71 fu71 o1u71 o2u71 owu71 onu71
            clear nu65 fu65 o1u65 o2u65 owu65 onu65
            refine hK.out _ _ nu73 (fun _ => ?_)
            simp only [Act.put, List.setIfInBounds_toArray, List.set_cons_zero, List.set_cons_succ]
            refine' hw_take 7 (some 26) _ rfl rfl (by kernel_rfl) (by kernel_rfl) (by kernel_rfl) (fun _ _ _ h => h) (by rfl) nu73 ?hy19 ?rest19
            case hy19 =>
              intro X hX
              go_simp
              try rfl
            simp only [Act.put, List.setIfInBounds_toArray, List.set_cons_zero, List.set_cons_succ]
            refine hw_call 8 none rfl rfl (by kernel_rfl) (by rfl) (fun K hK => ?_)
            have cF := fu73.cells
            have fF := fu73.frees
            go_simp
            have tS := (Turn.refl (fun i => i = B) u73).set (p := ⟨B, 6, none⟩) rfl (.slice yu73 2 zu73)
            have fu74 : Blk (u73.setCell ⟨B, 6, none⟩ (.slice yu73 2 zu73)) B 38 #[.int .i64 sa, .int .i64 si, .int .i64 ho, .int .i64 nx, .slice x1 n1 d1, .slice x2 n2 d2, .slice yu73 2 zu73, .slice yw 3 dw, .slice none 0 0, .slice none 0 0] := fu73.set 6 (.slice yu73 2 zu73)
            have nu74 := nu73.before tS (by intro j hj x; omega)
            have o1u74 := o1u73.turn tS (fun j hj x => ne_blk' o1u73 fu73 (by decide) (x ▸ hj))
            have o2u74 := o2u73.turn tS (fun j hj x => ne_blk' o2u73 fu73 (by decide) (x ▸ hj))
            have owu74 := row9_turn owu73 tS (fun j hj x => ne_blk owu73 fu73 (by decide) (x ▸ hj))
            have onu74 := row9_turn onu73 tS (fun j hj x => ne_blk onu73 fu73 (by decide) (x ▸ hj))
            refine hK.out undef _ nu74 (fun _ => ?_)
            try simp only [Act.put, List.setIfInBounds_toArray, List.set_cons_zero, List.set_cons_succ]
            refine wpAnyH_done (by kernel_rfl) ?_ _
            generalize u73.setCell ⟨B, 6, none⟩ (.slice yu73 2 zu73) = u74 at *
            clear tS cF fF
            clear nu73 fu73 o1u73 o2u73 owu73 onu73
            go_wp2_with fail
            rw [rounds_succ]
            have bB9 := bB1.new nu74
            have cB := bB9.cells
            have fB := bB9.frees
            have cF := fu74.cells
            have N9 := hw1.trans nu74
            have ge1 : w.heap.size ≤ w.heap.size + 1 := by omega
            go_wp2
            refine bodyPost_ret (v := .agg #[.int .i64 0, .slice none 0 0, .int .i64 sa, .int .i64 si, .int .i64 ho, .int .i64 nx, .slice x1 n1 d1, .slice x2 n2 d2, .slice yu73 2 zu73, .slice yw 3 dw, .slice none 0 0, .slice none 0 0]) (by simp [results, Try.results7, go_sem, cB]) rfl ⟨⟨x1, d1, x2, d2, yu73, zu73, yw, dw, rfl, ?_⟩, ?_⟩
            · have tt : Turn (fun k => k = w.heap.size + 1) u74 ((((((((((((u74.setCell ⟨w.heap.size + 1, 0, none⟩ (.int .i64 0)).setCell ⟨w.heap.size + 1, 1, none⟩ (.slice none 0 0)).setCell ⟨w.heap.size + 1, 2, none⟩ (.int .i64 sa)).setCell ⟨w.heap.size + 1, 3, none⟩ (.int .i64 si)).setCell ⟨w.heap.size + 1, 4, none⟩ (.int .i64 ho)).setCell ⟨w.heap.size + 1, 5, none⟩ (.int .i64 nx)).setCell ⟨w.heap.size + 1, 6, none⟩ (.slice x1 n1 d1)).setCell ⟨w.heap.size + 1, 7, none⟩ (.slice x2 n2 d2)).setCell ⟨w.heap.size + 1, 8, none⟩ (.slice yu73 2 zu73)).setCell ⟨w.heap.size + 1, 9, none⟩ (.slice yw 3 dw)).setCell ⟨w.heap.size + 1, 10, none⟩ (.slice none 0 0)).setCell ⟨w.heap.size + 1, 11, none⟩ (.slice none 0 0)) := (Turn.here9 (Turn.here9 (Turn.here9 (Turn.here9 (Turn.here9 (Turn.here9 (Turn.here9 (Turn.here9 (Turn.here9 (Turn.here9 (Turn.here9 (Turn.here9 (Turn.refl _ _) _) _) _) _) _) _) _) _) _) _) _) _)
              exact ⟨o1u74.turn tt (fun j hj x => ne_blk' o1u74 bB9 (by decide) (x ▸ hj)), o2u74.turn tt (fun j hj x => ne_blk' o2u74 bB9 (by decide) (x ▸ hj)), AP.out, row9_lowP (row9_turn onu74 tt (fun j hj x => ne_blk onu74 bB9 (by decide) (x ▸ hj))) zW1.out, row9_turn owu74 tt (fun j hj x => ne_blk owu74 bB9 (by decide) (x ▸ hj))⟩
            · exact ((((((((((((N9.setCell ge1 _).setCell ge1 _).setCell ge1 _).setCell ge1 _).setCell ge1 _).setCell ge1 _).setCell ge1 _).setCell ge1 _).setCell ge1 _).setCell ge1 _).setCell ge1 _).setCell ge1 _)
          case u70 =>
            go_simp
            have nn := (New.refl u65).alloc (.cells #[.int .i64 1, .bool true, .int .i64 0, .int .i64 0, .slice none 0 0, .int .i64 0, .int .i64 0, .int .i64 0, .int .i64 0] 53)
            have bS := Blk.mk u65 u65.heap.size 53 #[.int .i64 1, .bool true, .int .i64 0, .int .i64 0, .slice none 0 0, .int .i64 0, .int .i64 0, .int .i64 0, .int .i64 0] rfl
            have zS := nu65.size
            have nu72 := nu65.trans nn
            have fu72 := fu65.new nn
            have o1u72 := o1u65.new nn
            have o2u72 := o2u65.new nn
            have owu72 := row9_new owu65 nn
            have onu72 := row9_new onu65 nn
            have zD := nn.size
            refine hK.out _ _ nu72 (fun _ => ?_)
            simp only [Act.put, List.setIfInBounds_toArray, List.set_cons_zero, List.set_cons_succ]
            generalize u65.alloc (.cells #[.int .i64 1, .bool true, .int .i64 0, .int .i64 0, .slice none 0 0, .int .i64 0, .int .i64 0, .int .i64 0, .int .i64 0] 53) = u72 at *
            refine hw_call 1 (some 20) rfl rfl (by kernel_rfl) (by rfl) (fun K hK => ?_)
            have cF := fu72.cells
            go_simp
            clear cF
            refine hK.out _ _ nu72 (fun _ => ?_)
            simp only [Act.put, List.setIfInBounds_toArray, List.set_cons_zero, List.set_cons_succ]
            have cS := bS.cells
            refine hw_call 6 (some 25) rfl rfl (by kernel_rfl) (by rfl) (fun K hK => ?_)
            refine wp_apV _ (.tmp 20) (.tmp 24) rfl w1.heap.size 9 88 (.agg #[.int .i64 0, .bool false, .int .i64 0, .int .i64 0, .slice none 0 0, .int .i64 0, .int .i64 0, .int .i64 0, .int .i64 0]) Try.underlying33 hiN hzN0 hzN1 hzN2 rfl (by omega) (by omega) (Value.slice yu59 1 zu59) 1 [Value.int .i64 0, .bool true, .int .i64 0, .int .i64 0, .slice none 0 0, .int .i64 0, .int .i64 0, .int .i64 0, .int .i64 0] rfl onu72 u65.heap.size [Value.int .i64 1, .bool true, .int .i64 0, .int .i64 0, .slice none 0 0, .int .i64 0, .int .i64 0, .int .i64 0, .int .i64 0] rfl (by simp [Value.oneCell']) rfl (by intro j u hu; rw [cS j, List.getElem?_toArray]; exact hu) (by omega) (by omega) ?_
            intro vu75 u75 oo gg _
            have onu75 : u75.ownsRow w1.heap.size 53 9 vu75 2 [Value.int .i64 0, .bool true, .int .i64 0, .int .i64 0, .slice none 0 0, .int .i64 0, .int .i64 0, .int .i64 0, .int .i64 0, .int .i64 1, .bool true, .int .i64 0, .int .i64 0, .slice none 0 0, .int .i64 0, .int .i64 0, .int .i64 0, .int .i64 0] := oo
            have tt : Turn (fun k => ((Value.slice yu59 1 zu59)).ownBlock = some k) u72 u75 := ⟨gg.os, gg.tape, gg.output, gg.size, fun k hk hs => gg.block k hk (fun x => hs x.symm)⟩
            have nu75 := nu72.before tt (by intro j hj x; have := (rng_of onu72 j x).1; omega)
            have fu75 := fu72.turn tt (fun x => ne_blk onu72 fu72 (by decide) x)
            have o1u75 := o1u72.turn tt (fun j hj x => ne_row onu72 (ov_row o1u72) (by decide) j x hj)
            have o2u75 := o2u72.turn tt (fun j hj x => ne_row onu72 (ov_row o2u72) (by decide) j x hj)
            have owu75 := row9_turn owu72 tt (fun j hj x => ne_row onu72 owu72 (by decide) j x hj)
            clear oo gg tt cS bS nn zS zD
            obtain ⟨yu75, zu75, hv, -, -⟩ := row9_form onu75
            subst hv
            clear nu72 fu72 o1u72 o2u72 owu72 onu72
            clear nu65 fu65 o1u65 o2u65 owu65 onu65
            refine hK.out _ _ nu75 (fun _ => ?_)
            simp only [Act.put, List.setIfInBounds_toArray, List.set_cons_zero, List.set_cons_succ]
            refine' hw_take 7 (some 26) _ rfl rfl (by kernel_rfl) (by kernel_rfl) (by kernel_rfl) (fun _ _ _ h => h) (by rfl) nu75 ?hy20 ?rest20
            case hy20 =>
              intro X hX
              go_simp
              try rfl
            simp only [Act.put, List.setIfInBounds_toArray, List.set_cons_zero, List.set_cons_succ]
            refine hw_call 8 none rfl rfl (by kernel_rfl) (by rfl) (fun K hK => ?_)
            have cF := fu75.cells
            have fF := fu75.frees
            go_simp
            have tS := (Turn.refl (fun i => i = B) u75).set (p := ⟨B, 6, none⟩) rfl (.slice yu75 2 zu75)
            have fu76 : Blk (u75.setCell ⟨B, 6, none⟩ (.slice yu75 2 zu75)) B 38 #[.int .i64 sa, .int .i64 si, .int .i64 ho, .int .i64 nx, .slice x1 n1 d1, .slice x2 n2 d2, .slice yu75 2 zu75, .slice yw 3 dw, .slice none 0 0, .slice none 0 0] := fu75.set 6 (.slice yu75 2 zu75)
            have nu76 := nu75.before tS (by intro j hj x; omega)
            have o1u76 := o1u75.turn tS (fun j hj x => ne_blk' o1u75 fu75 (by decide) (x ▸ hj))
            have o2u76 := o2u75.turn tS (fun j hj x => ne_blk' o2u75 fu75 (by decide) (x ▸ hj))
            have owu76 := row9_turn owu75 tS (fun j hj x => ne_blk owu75 fu75 (by decide) (x ▸ hj))
            have onu76 := row9_turn onu75 tS (fun j hj x => ne_blk onu75 fu75 (by decide) (x ▸ hj))
            refine hK.out undef _ nu76 (fun _ => ?_)
            try simp only [Act.put, List.setIfInBounds_toArray, List.set_cons_zero, List.set_cons_succ]
            refine wpAnyH_done (by kernel_rfl) ?_ _
            generalize u75.setCell ⟨B, 6, none⟩ (.slice yu75 2 zu75) = u76 at *
            clear tS cF fF
            clear nu75 fu75 o1u75 o2u75 owu75 onu75
            go_wp2_with fail
            rw [rounds_succ]
            have bB9 := bB1.new nu76
            have cB := bB9.cells
            have fB := bB9.frees
            have cF := fu76.cells
            have N9 := hw1.trans nu76
            have ge1 : w.heap.size ≤ w.heap.size + 1 := by omega
            go_wp2
            refine bodyPost_ret (v := .agg #[.int .i64 0, .slice none 0 0, .int .i64 sa, .int .i64 si, .int .i64 ho, .int .i64 nx, .slice x1 n1 d1, .slice x2 n2 d2, .slice yu75 2 zu75, .slice yw 3 dw, .slice none 0 0, .slice none 0 0]) (by simp [results, Try.results7, go_sem, cB]) rfl ⟨⟨x1, d1, x2, d2, yu75, zu75, yw, dw, rfl, ?_⟩, ?_⟩
            · have tt : Turn (fun k => k = w.heap.size + 1) u76 ((((((((((((u76.setCell ⟨w.heap.size + 1, 0, none⟩ (.int .i64 0)).setCell ⟨w.heap.size + 1, 1, none⟩ (.slice none 0 0)).setCell ⟨w.heap.size + 1, 2, none⟩ (.int .i64 sa)).setCell ⟨w.heap.size + 1, 3, none⟩ (.int .i64 si)).setCell ⟨w.heap.size + 1, 4, none⟩ (.int .i64 ho)).setCell ⟨w.heap.size + 1, 5, none⟩ (.int .i64 nx)).setCell ⟨w.heap.size + 1, 6, none⟩ (.slice x1 n1 d1)).setCell ⟨w.heap.size + 1, 7, none⟩ (.slice x2 n2 d2)).setCell ⟨w.heap.size + 1, 8, none⟩ (.slice yu75 2 zu75)).setCell ⟨w.heap.size + 1, 9, none⟩ (.slice yw 3 dw)).setCell ⟨w.heap.size + 1, 10, none⟩ (.slice none 0 0)).setCell ⟨w.heap.size + 1, 11, none⟩ (.slice none 0 0)) := (Turn.here9 (Turn.here9 (Turn.here9 (Turn.here9 (Turn.here9 (Turn.here9 (Turn.here9 (Turn.here9 (Turn.here9 (Turn.here9 (Turn.here9 (Turn.here9 (Turn.refl _ _) _) _) _) _) _) _) _) _) _) _) _) _)
              exact ⟨o1u76.turn tt (fun j hj x => ne_blk' o1u76 bB9 (by decide) (x ▸ hj)), o2u76.turn tt (fun j hj x => ne_blk' o2u76 bB9 (by decide) (x ▸ hj)), AP.out, row9_lowP (row9_turn onu76 tt (fun j hj x => ne_blk onu76 bB9 (by decide) (x ▸ hj))) zW1.out, row9_turn owu76 tt (fun j hj x => ne_blk owu76 bB9 (by decide) (x ▸ hj))⟩
            · exact ((((((((((((N9.setCell ge1 _).setCell ge1 _).setCell ge1 _).setCell ge1 _).setCell ge1 _).setCell ge1 _).setCell ge1 _).setCell ge1 _).setCell ge1 _).setCell ge1 _).setCell ge1 _).setCell ge1 _)
      case u56 =>
        go_simp
        have nn := (New.refl u35).alloc (.cells #[.int .i64 0, .bool true, .int .i64 0, .int .i64 0, .slice none 0 0, .int .i64 0, .int .i64 0, .int .i64 0, .int .i64 0] 53)
        have bS := Blk.mk u35 u35.heap.size 53 #[.int .i64 0, .bool true, .int .i64 0, .int .i64 0, .slice none 0 0, .int .i64 0, .int .i64 0, .int .i64 0, .int .i64 0] rfl
        have zS := nu35.size
        have nu58 := nu35.trans nn
        have fu58 := fu35.new nn
        have o1u58 := o1u35.new nn
        have o2u58 := o2u35.new nn
        have owu58 := row9_new owu35 nn
        have onu58 := row9_new onu35 nn
        have zD := nn.size
        refine hK.out _ _ nu58 (fun _ => ?_)
        simp only [Act.put, List.setIfInBounds_toArray, List.set_cons_zero, List.set_cons_succ]
        generalize u35.alloc (.cells #[.int .i64 0, .bool true, .int .i64 0, .int .i64 0, .slice none 0 0, .int .i64 0, .int .i64 0, .int .i64 0, .int .i64 0] 53) = u58 at *
        refine hw_call 1 (some 20) rfl rfl (by kernel_rfl) (by rfl) (fun K hK => ?_)
        have cF := fu58.cells
        go_simp
        clear cF
        refine hK.out _ _ nu58 (fun _ => ?_)
        simp only [Act.put, List.setIfInBounds_toArray, List.set_cons_zero, List.set_cons_succ]
        have cS := bS.cells
        refine hw_call 6 (some 25) rfl rfl (by kernel_rfl) (by rfl) (fun K hK => ?_)
        refine wp_apV _ (.tmp 20) (.tmp 24) rfl w1.heap.size 9 88 (.agg #[.int .i64 0, .bool false, .int .i64 0, .int .i64 0, .slice none 0 0, .int .i64 0, .int .i64 0, .int .i64 0, .int .i64 0]) Try.underlying33 hiN hzN0 hzN1 hzN2 rfl (by omega) (by omega) (Value.slice none 0 0) 0 [] rfl onu58 u35.heap.size [Value.int .i64 0, .bool true, .int .i64 0, .int .i64 0, .slice none 0 0, .int .i64 0, .int .i64 0, .int .i64 0, .int .i64 0] rfl (by simp [Value.oneCell']) rfl (by intro j u hu; rw [cS j, List.getElem?_toArray]; exact hu) (by omega) (by omega) ?_
        intro vu77 u77 oo gg _
        have onu77 : u77.ownsRow w1.heap.size 53 9 vu77 1 [Value.int .i64 0, .bool true, .int .i64 0, .int .i64 0, .slice none 0 0, .int .i64 0, .int .i64 0, .int .i64 0, .int .i64 0] := oo
        have tt : Turn (fun k => ((Value.slice none 0 0)).ownBlock = some k) u58 u77 := ⟨gg.os, gg.tape, gg.output, gg.size, fun k hk hs => gg.block k hk (fun x => hs x.symm)⟩
        have nu77 := nu58.before tt (by intro j hj x; have := (rng_of onu58 j x).1; omega)
        have fu77 := fu58.turn tt (fun x => ne_blk onu58 fu58 (by decide) x)
        have o1u77 := o1u58.turn tt (fun j hj x => ne_row onu58 (ov_row o1u58) (by decide) j x hj)
        have o2u77 := o2u58.turn tt (fun j hj x => ne_row onu58 (ov_row o2u58) (by decide) j x hj)
        have owu77 := row9_turn owu58 tt (fun j hj x => ne_row onu58 owu58 (by decide) j x hj)
        clear oo gg tt cS bS nn zS zD
        obtain ⟨yu77, zu77, hv, -, -⟩ := row9_form onu77
        subst hv
        clear nu58 fu58 o1u58 o2u58 owu58 onu58
        clear nu35 fu35 o1u35 o2u35 owu35 onu35
        refine hK.out _ _ nu77 (fun _ => ?_)
        simp only [Act.put, List.setIfInBounds_toArray, List.set_cons_zero, List.set_cons_succ]
        refine' hw_take 7 (some 26) _ rfl rfl (by kernel_rfl) (by kernel_rfl) (by kernel_rfl) (fun _ _ _ h => h) (by rfl) nu77 ?hy21 ?rest21
        case hy21 =>
          intro X hX
          go_simp
          try rfl
        simp only [Act.put, List.setIfInBounds_toArray, List.set_cons_zero, List.set_cons_succ]
        refine hw_call 8 none rfl rfl (by kernel_rfl) (by rfl) (fun K hK => ?_)
        have cF := fu77.cells
        have fF := fu77.frees
        go_simp
        have tS := (Turn.refl (fun i => i = B) u77).set (p := ⟨B, 6, none⟩) rfl (.slice yu77 1 zu77)
        have fu78 : Blk (u77.setCell ⟨B, 6, none⟩ (.slice yu77 1 zu77)) B 38 #[.int .i64 sa, .int .i64 si, .int .i64 ho, .int .i64 nx, .slice x1 n1 d1, .slice x2 n2 d2, .slice yu77 1 zu77, .slice yw 3 dw, .slice none 0 0, .slice none 0 0] := fu77.set 6 (.slice yu77 1 zu77)
        have nu78 := nu77.before tS (by intro j hj x; omega)
        have o1u78 := o1u77.turn tS (fun j hj x => ne_blk' o1u77 fu77 (by decide) (x ▸ hj))
        have o2u78 := o2u77.turn tS (fun j hj x => ne_blk' o2u77 fu77 (by decide) (x ▸ hj))
        have owu78 := row9_turn owu77 tS (fun j hj x => ne_blk owu77 fu77 (by decide) (x ▸ hj))
        have onu78 := row9_turn onu77 tS (fun j hj x => ne_blk onu77 fu77 (by decide) (x ▸ hj))
        refine hK.out undef _ nu78 (fun _ => ?_)
        try simp only [Act.put, List.setIfInBounds_toArray, List.set_cons_zero, List.set_cons_succ]
        refine wpAnyH_done (by kernel_rfl) ?_ _
        generalize u77.setCell ⟨B, 6, none⟩ (.slice yu77 1 zu77) = u78 at *
        clear tS cF fF
        clear nu77 fu77 o1u77 o2u77 owu77 onu77
        go_wp2_with fail
        rw [rounds_succ]
        have cF := fu78.cells
        go_upto_region 8 with fail
        clear cF
        refine hw_start (n := 9) (S := fun X => New w1 X) rfl (by kernel_rfl) (nu78.drew) (fun hH => ?_)
        have dr := (New.refl u78).drew
        have nu79 := nu78.trans dr
        have fu79 := fu78.new dr
        have o1u79 := o1u78.new dr
        have o2u79 := o2u78.new dr
        have owu79 := row9_new owu78 dr
        have onu79 := row9_new onu78 dr
        generalize u78.drew = u79 at *
        clear dr
        clear nu78 fu78 o1u78 o2u78 owu78 onu78
        refine' hw_take 0 (some 19) _ rfl rfl (by kernel_rfl) (by kernel_rfl) (by kernel_rfl) (fun _ _ _ h => h) (by rfl) hH ?hy22 ?rest22
        case hy22 =>
          intro X hX
          go_simp
          try rfl
        simp only [Act.put, List.setIfInBounds_toArray, List.set_cons_zero, List.set_cons_succ]
        refine' hw_take 2 (some 21) _ rfl rfl (by kernel_rfl) (by kernel_rfl) (by kernel_rfl) (fun _ _ _ h => h) (by rfl) hH ?hy23 ?rest23
        case hy23 =>
          intro X hX
          go_simp
          try rfl
        simp only [Act.put, List.setIfInBounds_toArray, List.set_cons_zero, List.set_cons_succ]
        refine wpAnyH_ready (rs := [1, 3]) (by kernel_rfl) (by simp) (hw_step 1 (some 20) rfl rfl (by rfl) (fun K hK => ?u80) (hw_step 3 (some 22) rfl rfl (by rfl) (fun K hK => ?u81) (by intro j hj; cases hj)))
        case u80 =>
          have cF := fu79.cells
          go_simp
          clear cF
          refine hK.out _ _ nu79 (fun _ => ?_)
          simp only [Act.put, List.setIfInBounds_toArray, List.set_cons_zero, List.set_cons_succ]
          refine hw_call 3 (some 22) rfl rfl (by kernel_rfl) (by rfl) (fun K hK => ?_)
          go_simp
          refine (iNewP 1 _ (by omega)).mono ?_
          rintro e u82 ⟨rfl, nn⟩
          have nu82 := nu79.trans nn
          have fu82 := fu79.new nn
          have o1u82 := o1u79.new nn
          have o2u82 := o2u79.new nn
          have owu82 := row9_new owu79 nn
          have onu82 := row9_new onu79 nn
          clear nu79 fu79 o1u79 o2u79 owu79 onu79
          clear nn
          go_simp
          refine hK.out _ _ nu82 (fun _ => ?_)
          simp only [Act.put, List.setIfInBounds_toArray, List.set_cons_zero, List.set_cons_succ]
          refine' hw_take 4 (some 23) (.agg #[.int .i64 1, .bool true, .int .i64 0, .int .i64 0, .slice none 0 0, .int .i64 0, .int .i64 0, .int .i64 0, .int .i64 0]) rfl rfl (by kernel_rfl) (by kernel_rfl) (by kernel_rfl) (fun _ _ _ h => h) (by rfl) nu82 ?hqtu82 ?rqtu82
          case hqtu82 =>
            intro X hX
            have hfd : (Instr.field 59 (.agg #[.int .i64 0, .int .i64 1, .bool true, .int .i64 0, .int .i64 0, .slice none 0 0, .int .i64 0, .int .i64 0, .int .i64 0, .int .i64 0, .slice none 0 0]) 1).run Try.prog X = .ok (.agg #[.int .i64 1, .bool true, .int .i64 0, .int .i64 0, .slice none 0 0, .int .i64 0, .int .i64 0, .int .i64 0, .int .i64 0]) X := by kernel_rfl
            go_simp
          simp only [Act.put, List.setIfInBounds_toArray, List.set_cons_zero, List.set_cons_succ]
          refine hw_call 5 (some 24) rfl rfl (by kernel_rfl) (by rfl) (fun K hK => ?_)
          go_simp
          have nn := (New.refl u82).alloc (.cells #[.int .i64 1, .bool true, .int .i64 0, .int .i64 0, .slice none 0 0, .int .i64 0, .int .i64 0, .int .i64 0, .int .i64 0] 53)
          have bS := Blk.mk u82 u82.heap.size 53 #[.int .i64 1, .bool true, .int .i64 0, .int .i64 0, .slice none 0 0, .int .i64 0, .int .i64 0, .int .i64 0, .int .i64 0] rfl
          have zS := nu82.size
          have nu84 := nu82.trans nn
          have fu84 := fu82.new nn
          have o1u84 := o1u82.new nn
          have o2u84 := o2u82.new nn
          have owu84 := row9_new owu82 nn
          have onu84 := row9_new onu82 nn
          have zD := nn.size
          refine hK.out _ _ nu84 (fun _ => ?_)
          simp only [Act.put, List.setIfInBounds_toArray, List.set_cons_zero, List.set_cons_succ]
          generalize u82.alloc (.cells #[.int .i64 1, .bool true, .int .i64 0, .int .i64 0, .slice none 0 0, .int .i64 0, .int .i64 0, .int .i64 0, .int .i64 0] 53) = u84 at *
          have cS := bS.cells
          refine hw_call 6 (some 25) rfl rfl (by kernel_rfl) (by rfl) (fun K hK => ?_)
          refine wp_apV _ (.tmp 20) (.tmp 24) rfl w1.heap.size 9 88 (.agg #[.int .i64 0, .bool false, .int .i64 0, .int .i64 0, .slice none 0 0, .int .i64 0, .int .i64 0, .int .i64 0, .int .i64 0]) Try.underlying33 hiN hzN0 hzN1 hzN2 rfl (by omega) (by omega) (Value.slice yu77 1 zu77) 1 [Value.int .i64 0, .bool true, .int .i64 0, .int .i64 0, .slice none 0 0, .int .i64 0, .int .i64 0, .int .i64 0, .int .i64 0] rfl onu84 u82.heap.size [Value.int .i64 1, .bool true, .int .i64 0, .int .i64 0, .slice none 0 0, .int .i64 0, .int .i64 0, .int .i64 0, .int .i64 0] rfl (by simp [Value.oneCell']) rfl (by intro j u hu; rw [cS j, List.getElem?_toArray]; exact hu) (by omega) (by omega) ?_
          intro vu85 u85 oo gg _
          have onu85 : u85.ownsRow w1.heap.size 53 9 vu85 2 [Value.int .i64 0, .bool true, .int .i64 0, .int .i64 0, .slice none 0 0, .int .i64 0, .int .i64 0, .int .i64 0, .int .i64 0, .int .i64 1, .bool true, .int .i64 0, .int .i64 0, .slice none 0 0, .int .i64 0, .int .i64 0, .int .i64 0, .int .i64 0] := oo
          have tt : Turn (fun k => ((Value.slice yu77 1 zu77)).ownBlock = some k) u84 u85 := ⟨gg.os, gg.tape, gg.output, gg.size, fun k hk hs => gg.block k hk (fun x => hs x.symm)⟩
          have nu85 := nu84.before tt (by intro j hj x; have := (rng_of onu84 j x).1; omega)
          have fu85 := fu84.turn tt (fun x => ne_blk onu84 fu84 (by decide) x)
          have o1u85 := o1u84.turn tt (fun j hj x => ne_row onu84 (ov_row o1u84) (by decide) j x hj)
          have o2u85 := o2u84.turn tt (fun j hj x => ne_row onu84 (ov_row o2u84) (by decide) j x hj)
          have owu85 := row9_turn owu84 tt (fun j hj x => ne_row onu84 owu84 (by decide) j x hj)
          clear oo gg tt cS bS nn zS zD
          obtain ⟨yu85, zu85, hv, -, -⟩ := row9_form onu85
          subst hv
          clear nu84 fu84 o1u84 o2u84 owu84 onu84
          clear nu82 fu82 o1u82 o2u82 owu82 onu82
          refine hK.out _ _ nu85 (fun _ => ?_)
          simp only [Act.put, List.setIfInBounds_toArray, List.set_cons_zero, List.set_cons_succ]
          refine' hw_take 7 (some 26) _ rfl rfl (by kernel_rfl) (by kernel_rfl) (by kernel_rfl) (fun _ _ _ h => h) (by rfl) nu85 ?hy24 ?rest24
          case hy24 =>
            intro X hX
            go_simp
            try rfl
          simp only [Act.put, List.setIfInBounds_toArray, List.set_cons_zero, List.set_cons_succ]
          refine hw_call 8 none rfl rfl (by kernel_rfl) (by rfl) (fun K hK => ?_)
          have cF := fu85.cells
          have fF := fu85.frees
          go_simp
          have tS := (Turn.refl (fun i => i = B) u85).set (p := ⟨B, 6, none⟩) rfl (.slice yu85 2 zu85)
          have fu86 : Blk (u85.setCell ⟨B, 6, none⟩ (.slice yu85 2 zu85)) B 38 #[.int .i64 sa, .int .i64 si, .int .i64 ho, .int .i64 nx, .slice x1 n1 d1, .slice x2 n2 d2, .slice yu85 2 zu85, .slice yw 3 dw, .slice none 0 0, .slice none 0 0] := fu85.set 6 (.slice yu85 2 zu85)
          have nu86 := nu85.before tS (by intro j hj x; omega)
          have o1u86 := o1u85.turn tS (fun j hj x => ne_blk' o1u85 fu85 (by decide) (x ▸ hj))
          have o2u86 := o2u85.turn tS (fun j hj x => ne_blk' o2u85 fu85 (by decide) (x ▸ hj))
          have owu86 := row9_turn owu85 tS (fun j hj x => ne_blk owu85 fu85 (by decide) (x ▸ hj))
          have onu86 := row9_turn onu85 tS (fun j hj x => ne_blk onu85 fu85 (by decide) (x ▸ hj))
          refine hK.out undef _ nu86 (fun _ => ?_)
          try simp only [Act.put, List.setIfInBounds_toArray, List.set_cons_zero, List.set_cons_succ]
          refine wpAnyH_done (by kernel_rfl) ?_ _
          generalize u85.setCell ⟨B, 6, none⟩ (.slice yu85 2 zu85) = u86 at *
          clear tS cF fF
          clear nu85 fu85 o1u85 o2u85 owu85 onu85
          go_wp2_with fail
          rw [rounds_succ]
          have bB9 := bB1.new nu86
          have cB := bB9.cells
          have fB := bB9.frees
          have cF := fu86.cells
          have N9 := hw1.trans nu86
          have ge1 : w.heap.size ≤ w.heap.size + 1 := by omega
          go_wp2
          refine bodyPost_ret (v := .agg #[.int .i64 0, .slice none 0 0, .int .i64 sa, .int .i64 si, .int .i64 ho, .int .i64 nx, .slice x1 n1 d1, .slice x2 n2 d2, .slice yu85 2 zu85, .slice yw 3 dw, .slice none 0 0, .slice none 0 0]) (by simp [results, Try.results7, go_sem, cB]) rfl ⟨⟨x1, d1, x2, d2, yu85, zu85, yw, dw, rfl, ?_⟩, ?_⟩
          · have tt : Turn (fun k => k = w.heap.size + 1) u86 ((((((((((((u86.setCell ⟨w.heap.size + 1, 0, none⟩ (.int .i64 0)).setCell ⟨w.heap.size + 1, 1, none⟩ (.slice none 0 0)).setCell ⟨w.heap.size + 1, 2, none⟩ (.int .i64 sa)).setCell ⟨w.heap.size + 1, 3, none⟩ (.int .i64 si)).setCell ⟨w.heap.size + 1, 4, none⟩ (.int .i64 ho)).setCell ⟨w.heap.size + 1, 5, none⟩ (.int .i64 nx)).setCell ⟨w.heap.size + 1, 6, none⟩ (.slice x1 n1 d1)).setCell ⟨w.heap.size + 1, 7, none⟩ (.slice x2 n2 d2)).setCell ⟨w.heap.size + 1, 8, none⟩ (.slice yu85 2 zu85)).setCell ⟨w.heap.size + 1, 9, none⟩ (.slice yw 3 dw)).setCell ⟨w.heap.size + 1, 10, none⟩ (.slice none 0 0)).setCell ⟨w.heap.size + 1, 11, none⟩ (.slice none 0 0)) := (Turn.here9 (Turn.here9 (Turn.here9 (Turn.here9 (Turn.here9 (Turn.here9 (Turn.here9 (Turn.here9 (Turn.here9 (Turn.here9 (Turn.here9 (Turn.here9 (Turn.refl _ _) _) _) _) _) _) _) _) _) _) _) _) _)
            exact ⟨o1u86.turn tt (fun j hj x => ne_blk' o1u86 bB9 (by decide) (x ▸ hj)), o2u86.turn tt (fun j hj x => ne_blk' o2u86 bB9 (by decide) (x ▸ hj)), AP.out, row9_lowP (row9_turn onu86 tt (fun j hj x => ne_blk onu86 bB9 (by decide) (x ▸ hj))) zW1.out, row9_turn owu86 tt (fun j hj x => ne_blk owu86 bB9 (by decide) (x ▸ hj))⟩
          · exact ((((((((((((N9.setCell ge1 _).setCell ge1 _).setCell ge1 _).setCell ge1 _).setCell ge1 _).setCell ge1 _).setCell ge1 _).setCell ge1 _).setCell ge1 _).setCell ge1 _).setCell ge1 _).setCell ge1 _)
        case u81 =>
          go_simp
          refine (iNewP 1 _ (by omega)).mono ?_
          rintro e u83 ⟨rfl, nn⟩
          have nu83 := nu79.trans nn
          have fu83 := fu79.new nn
          have o1u83 := o1u79.new nn
          have o2u83 := o2u79.new nn
          have owu83 := row9_new owu79 nn
          have onu83 := row9_new onu79 nn
          clear nu79 fu79 o1u79 o2u79 owu79 onu79
          clear nn
          go_simp
          refine hK.out _ _ nu83 (fun _ => ?_)
          simp only [Act.put, List.setIfInBounds_toArray, List.set_cons_zero, List.set_cons_succ]
          refine' hw_take 4 (some 23) (.agg #[.int .i64 1, .bool true, .int .i64 0, .int .i64 0, .slice none 0 0, .int .i64 0, .int .i64 0, .int .i64 0, .int .i64 0]) rfl rfl (by kernel_rfl) (by kernel_rfl) (by kernel_rfl) (fun _ _ _ h => h) (by rfl) nu83 ?hqtu83 ?rqtu83
          case hqtu83 =>
            intro X hX
            have hfd : (Instr.field 59 (.agg #[.int .i64 0, .int .i64 1, .bool true, .int .i64 0, .int .i64 0, .slice none 0 0, .int .i64 0, .int .i64 0, .int .i64 0, .int .i64 0, .slice none 0 0]) 1).run Try.prog X = .ok (.agg #[.int .i64 1, .bool true, .int .i64 0, .int .i64 0, .slice none 0 0, .int .i64 0, .int .i64 0, .int .i64 0, .int .i64 0]) X := by kernel_rfl
            go_simp
          simp only [Act.put, List.setIfInBounds_toArray, List.set_cons_zero, List.set_cons_succ]
          refine wpAnyH_ready (rs := [1, 5]) (by kernel_rfl) (by simp) (hw_step 1 (some 20) rfl rfl (by rfl) (fun K hK => ?u87) (hw_step 5 (some 24) rfl rfl (by rfl) (fun K hK => ?u88) (by intro j hj; cases hj)))
          case u87 =>
            have cF := fu83.cells
            go_simp
            clear cF
            refine hK.out _ _ nu83 (fun _ => ?_)
            simp only [Act.put, List.setIfInBounds_toArray, List.set_cons_zero, List.set_cons_succ]
            refine hw_call 5 (some 24) rfl rfl (by kernel_rfl) (by rfl) (fun K hK => ?_)
            go_simp
            have nn := (New.refl u83).alloc (.cells #[.int .i64 1, .bool true, .int .i64 0, .int .i64 0, .slice none 0 0, .int .i64 0, .int .i64 0, .int .i64 0, .int .i64 0] 53)
            have bS := Blk.mk u83 u83.heap.size 53 #[.int .i64 1, .bool true, .int .i64 0, .int .i64 0, .slice none 0 0, .int .i64 0, .int .i64 0, .int .i64 0, .int .i64 0] rfl
            have zS := nu83.size
            have nu89 := nu83.trans nn
            have fu89 := fu83.new nn
            have o1u89 := o1u83.new nn
            have o2u89 := o2u83.new nn
            have owu89 := row9_new owu83 nn
            have onu89 := row9_new onu83 nn
            have zD := nn.size
            refine hK.out _ _ nu89 (fun _ => ?_)
            simp only [Act.put, List.setIfInBounds_toArray, List.set_cons_zero, List.set_cons_succ]
            generalize u83.alloc (.cells #[.int .i64 1, .bool true, .int .i64 0, .int .i64 0, .slice none 0 0, .int .i64 0, .int .i64 0, .int .i64 0, .int .i64 0] 53) = u89 at *
            have cS := bS.cells
            refine hw_call 6 (some 25) rfl rfl (by kernel_rfl) (by rfl) (fun K hK => ?_)
            refine wp_apV _ (.tmp 20) (.tmp 24) rfl w1.heap.size 9 88 (.agg #[.int .i64 0, .bool false, .int .i64 0, .int .i64 0, .slice none 0 0, .int .i64 0, .int .i64 0, .int .i64 0, .int .i64 0]) Try.underlying33 hiN hzN0 hzN1 hzN2 rfl (by omega) (by omega) (Value.slice yu77 1 zu77) 1 [Value.int .i64 0, .bool true, .int .i64 0, .int .i64 0, .slice none 0 0, .int .i64 0, .int .i64 0, .int .i64 0, .int .i64 0] rfl onu89 u83.heap.size [Value.int .i64 1, .bool true, .int .i64 0, .int .i64 0, .slice none 0 0, .int .i64 0, .int .i64 0, .int .i64 0, .int .i64 0] rfl (by simp [Value.oneCell']) rfl (by intro j u hu; rw [cS j, List.getElem?_toArray]; exact hu) (by omega) (by omega) ?_
            intro vu91 u91 oo gg _
            have onu91 : u91.ownsRow w1.heap.size 53 9 vu91 2 [Value.int .i64 0, .bool true, .int .i64 0, .int .i64 0, .slice none 0 0, .int .i64 0, .int .i64 0, .int .i64 0, .int .i64 0, .int .i64 1, .bool true, .int .i64 0, .int .i64 0, .slice none 0 0, .int .i64 0, .int .i64 0, .int .i64 0, .int .i64 0] := oo
            have tt : Turn (fun k => ((Value.slice yu77 1 zu77)).ownBlock = some k) u89 u91 := ⟨gg.os, gg.tape, gg.output, gg.size, fun k hk hs => gg.block k hk (fun x => hs x.symm)⟩
            have nu91 := nu89.before tt (by intro j hj x; have := (rng_of onu89 j x).1; omega)
            have fu91 := fu89.turn tt (fun x => ne_blk onu89 fu89 (by decide) x)
            have o1u91 := o1u89.turn tt (fun j hj x => ne_row onu89 (ov_row o1u89) (by decide) j x hj)
            have o2u91 := o2u89.turn tt (fun j hj x => ne_row onu89 (ov_row o2u89) (by decide) j x hj)
            have owu91 := row9_turn owu89 tt (fun j hj x => ne_row onu89 owu89 (by decide) j x hj)
            clear oo gg tt cS bS nn zS zD
            obtain ⟨yu91, zu91, hv, -, -⟩ := row9_form onu91
            subst hv
            clear nu89 fu89 o1u89 o2u89 owu89 onu89
            clear nu83 fu83 o1u83 o2u83 owu83 onu83
            refine hK.out _ _ nu91 (fun _ => ?_)
            simp only [Act.put, List.setIfInBounds_toArray, List.set_cons_zero, List.set_cons_succ]
            refine' hw_take 7 (some 26) _ rfl rfl (by kernel_rfl) (by kernel_rfl) (by kernel_rfl) (fun _ _ _ h => h) (by rfl) nu91 ?hy25 ?rest25
            case hy25 =>
              intro X hX
              go_simp
              try rfl
            simp only [Act.put, List.setIfInBounds_toArray, List.set_cons_zero, List.set_cons_succ]
            refine hw_call 8 none rfl rfl (by kernel_rfl) (by rfl) (fun K hK => ?_)
            have cF := fu91.cells
            have fF := fu91.frees
            go_simp
            have tS := (Turn.refl (fun i => i = B) u91).set (p := ⟨B, 6, none⟩) rfl (.slice yu91 2 zu91)
            have fu92 : Blk (u91.setCell ⟨B, 6, none⟩ (.slice yu91 2 zu91)) B 38 #[.int .i64 sa, .int .i64 si, .int .i64 ho, .int .i64 nx, .slice x1 n1 d1, .slice x2 n2 d2, .slice yu91 2 zu91, .slice yw 3 dw, .slice none 0 0, .slice none 0 0] := fu91.set 6 (.slice yu91 2 zu91)
            have nu92 := nu91.before tS (by intro j hj x; omega)
            have o1u92 := o1u91.turn tS (fun j hj x => ne_blk' o1u91 fu91 (by decide) (x ▸ hj))
            have o2u92 := o2u91.turn tS (fun j hj x => ne_blk' o2u91 fu91 (by decide) (x ▸ hj))
            have owu92 := row9_turn owu91 tS (fun j hj x => ne_blk owu91 fu91 (by decide) (x ▸ hj))
            have onu92 := row9_turn onu91 tS (fun j hj x => ne_blk onu91 fu91 (by decide) (x ▸ hj))
            refine hK.out undef _ nu92 (fun _ => ?_)
            try simp only [Act.put, List.setIfInBounds_toArray, List.set_cons_zero, List.set_cons_succ]
            refine wpAnyH_done (by kernel_rfl) ?_ _
            generalize u91.setCell ⟨B, 6, none⟩ (.slice yu91 2 zu91) = u92 at *
            clear tS cF fF
            clear nu91 fu91 o1u91 o2u91 owu91 onu91
            go_wp2_with fail
            rw [rounds_succ]
            have bB9 := bB1.new nu92
            have cB := bB9.cells
            have fB := bB9.frees
            have cF := fu92.cells
            have N9 := hw1.trans nu92
            have ge1 : w.heap.size ≤ w.heap.size + 1 := by omega
            go_wp2
            refine bodyPost_ret (v := .agg #[.int .i64 0, .slice none 0 0, .int .i64 sa, .int .i64 si, .int .i64 ho, .int .i64 nx, .slice x1 n1 d1, .slice x2 n2 d2, .slice yu91 2 zu91, .slice yw 3 dw, .slice none 0 0, .slice none 0 0]) (by simp [results, Try.results7, go_sem, cB]) rfl ⟨⟨x1, d1, x2, d2, yu91, zu91, yw, dw, rfl, ?_⟩, ?_⟩
            · have tt : Turn (fun k => k = w.heap.size + 1) u92 ((((((((((((u92.setCell ⟨w.heap.size + 1, 0, none⟩ (.int .i64 0)).setCell ⟨w.heap.size + 1, 1, none⟩ (.slice none 0 0)).setCell ⟨w.heap.size + 1, 2, none⟩ (.int .i64 sa)).setCell ⟨w.heap.size + 1, 3, none⟩ (.int .i64 si)).setCell ⟨w.heap.size + 1, 4, none⟩ (.int .i64 ho)).setCell ⟨w.heap.size + 1, 5, none⟩ (.int .i64 nx)).setCell ⟨w.heap.size + 1, 6, none⟩ (.slice x1 n1 d1)).setCell ⟨w.heap.size + 1, 7, none⟩ (.slice x2 n2 d2)).setCell ⟨w.heap.size + 1, 8, none⟩ (.slice yu91 2 zu91)).setCell ⟨w.heap.size + 1, 9, none⟩ (.slice yw 3 dw)).setCell ⟨w.heap.size + 1, 10, none⟩ (.slice none 0 0)).setCell ⟨w.heap.size + 1, 11, none⟩ (.slice none 0 0)) := (Turn.here9 (Turn.here9 (Turn.here9 (Turn.here9 (Turn.here9 (Turn.here9 (Turn.here9 (Turn.here9 (Turn.here9 (Turn.here9 (Turn.here9 (Turn.here9 (Turn.refl _ _) _) _) _) _) _) _) _) _) _) _) _) _)
              exact ⟨o1u92.turn tt (fun j hj x => ne_blk' o1u92 bB9 (by decide) (x ▸ hj)), o2u92.turn tt (fun j hj x => ne_blk' o2u92 bB9 (by decide) (x ▸ hj)), AP.out, row9_lowP (row9_turn onu92 tt (fun j hj x => ne_blk onu92 bB9 (by decide) (x ▸ hj))) zW1.out, row9_turn owu92 tt (fun j hj x => ne_blk owu92 bB9 (by decide) (x ▸ hj))⟩
            · exact ((((((((((((N9.setCell ge1 _).setCell ge1 _).setCell ge1 _).setCell ge1 _).setCell ge1 _).setCell ge1 _).setCell ge1 _).setCell ge1 _).setCell ge1 _).setCell ge1 _).setCell ge1 _).setCell ge1 _)
          case u88 =>
            go_simp
            have nn := (New.refl u83).alloc (.cells #[.int .i64 1, .bool true, .int .i64 0, .int .i64 0, .slice none 0 0, .int .i64 0, .int .i64 0, .int .i64 0, .int .i64 0] 53)
            have bS := Blk.mk u83 u83.heap.size 53 #[.int .i64 1, .bool true, .int .i64 0, .int .i64 0, .slice none 0 0, .int .i64 0, .int .i64 0, .int .i64 0, .int .i64 0] rfl
            have zS := nu83.size
            have nu90 := nu83.trans nn
            have fu90 := fu83.new nn
            have o1u90 := o1u83.new nn
            have o2u90 := o2u83.new nn
            have owu90 := row9_new owu83 nn
            have onu90 := row9_new onu83 nn
            have zD := nn.size
            refine hK.out _ _ nu90 (fun _ => ?_)
            simp only [Act.put, List.setIfInBounds_toArray, List.set_cons_zero, List.set_cons_succ]
            generalize u83.alloc (.cells #[.int .i64 1, .bool true, .int .i64 0, .int .i64 0, .slice none 0 0, .int .i64 0, .int .i64 0, .int .i64 0, .int .i64 0] 53) = u90 at *
            refine hw_call 1 (some 20) rfl rfl (by kernel_rfl) (by rfl) (fun K hK => ?_)
            have cF := fu90.cells
            go_simp
            clear cF
            refine hK.out _ _ nu90 (fun _ => ?_)
            simp only [Act.put, List.setIfInBounds_toArray, List.set_cons_zero, List.set_cons_succ]
            have cS := bS.cells
            refine hw_call 6 (some 25) rfl rfl (by kernel_rfl) (by rfl) (fun K hK => ?_)
            refine wp_apV _ (.tmp 20) (.tmp 24) rfl w1.heap.size 9 88 (.agg #[.int .i64 0, .bool false, .int .i64 0, .int .i64 0, .slice none 0 0, .int .i64 0, .int .i64 0, .int .i64 0, .int .i64 0]) Try.underlying33 hiN hzN0 hzN1 hzN2 rfl (by omega) (by omega) (Value.slice yu77 1 zu77) 1 [Value.int .i64 0, .bool true, .int .i64 0, .int .i64 0, .slice none 0 0, .int .i64 0, .int .i64 0, .int .i64 0, .int .i64 0] rfl onu90 u83.heap.size [Value.int .i64 1, .bool true, .int .i64 0, .int .i64 0, .slice none 0 0, .int .i64 0, .int .i64 0, .int .i64 0, .int .i64 0] rfl (by simp [Value.oneCell']) rfl (by intro j u hu; rw [cS j, List.getElem?_toArray]; exact hu) (by omega) (by omega) ?_
            intro vu93 u93 oo gg _
            have onu93 : u93.ownsRow w1.heap.size 53 9 vu93 2 [Value.int .i64 0, .bool true, .int .i64 0, .int .i64 0, .slice none 0 0, .int .i64 0, .int .i64 0, .int .i64 0, .int .i64 0, .int .i64 1, .bool true, .int .i64 0, .int .i64 0, .slice none 0 0, .int .i64 0, .int .i64 0, .int .i64 0, .int .i64 0] := oo
            have tt : Turn (fun k => ((Value.slice yu77 1 zu77)).ownBlock = some k) u90 u93 := ⟨gg.os, gg.tape, gg.output, gg.size, fun k hk hs => gg.block k hk (fun x => hs x.symm)⟩
            have nu93 := nu90.before tt (by intro j hj x; have := (rng_of onu90 j x).1; omega)
            have fu93 := fu90.turn tt (fun x => ne_blk onu90 fu90 (by decide) x)
            have o1u93 := o1u90.turn tt (fun j hj x => ne_row onu90 (ov_row o1u90) (by decide) j x hj)
            have o2u93 := o2u90.turn tt (fun j hj x => ne_row onu90 (ov_row o2u90) (by decide) j x hj)
            have owu93 := row9_turn owu90 tt (fun j hj x => ne_row onu90 owu90 (by decide) j x hj)
            clear oo gg tt cS bS nn zS zD
            obtain ⟨yu93, zu93, hv, -, -⟩ := row9_form onu93
            subst hv
            clear nu90 fu90 o1u90 o2u90 owu90 onu90
            clear nu83 fu83 o1u83 o2u83 owu83 onu83
            refine hK.out _ _ nu93 (fun _ => ?_)
            simp only [Act.put, List.setIfInBounds_toArray, List.set_cons_zero, List.set_cons_succ]
            refine' hw_take 7 (some 26) _ rfl rfl (by kernel_rfl) (by kernel_rfl) (by kernel_rfl) (fun _ _ _ h => h) (by rfl) nu93 ?hy26 ?rest26
            case hy26 =>
              intro X hX
              go_simp
              try rfl
            simp only [Act.put, List.setIfInBounds_toArray, List.set_cons_zero, List.set_cons_succ]
            refine hw_call 8 none rfl rfl (by kernel_rfl) (by rfl) (fun K hK => ?_)
            have cF := fu93.cells
            have fF := fu93.frees
            go_simp
            have tS := (Turn.refl (fun i => i = B) u93).set (p := ⟨B, 6, none⟩) rfl (.slice yu93 2 zu93)
            have fu94 : Blk (u93.setCell ⟨B, 6, none⟩ (.slice yu93 2 zu93)) B 38 #[.int .i64 sa, .int .i64 si, .int .i64 ho, .int .i64 nx, .slice x1 n1 d1, .slice x2 n2 d2, .slice yu93 2 zu93, .slice yw 3 dw, .slice none 0 0, .slice none 0 0] := fu93.set 6 (.slice yu93 2 zu93)
            have nu94 := nu93.before tS (by intro j hj x; omega)
            have o1u94 := o1u93.turn tS (fun j hj x => ne_blk' o1u93 fu93 (by decide) (x ▸ hj))
            have o2u94 := o2u93.turn tS (fun j hj x => ne_blk' o2u93 fu93 (by decide) (x ▸ hj))
            have owu94 := row9_turn owu93 tS (fun j hj x => ne_blk owu93 fu93 (by decide) (x ▸ hj))
            have onu94 := row9_turn onu93 tS (fun j hj x => ne_blk onu93 fu93 (by decide) (x ▸ hj))
            refine hK.out undef _ nu94 (fun _ => ?_)
            try simp only [Act.put, List.setIfInBounds_toArray, List.set_cons_zero, List.set_cons_succ]
            refine wpAnyH_done (by kernel_rfl) ?_ _
            generalize u93.setCell ⟨B, 6, none⟩ (.slice yu93 2 zu93) = u94 at *
            clear tS cF fF
            clear nu93 fu93 o1u93 o2u93 owu93 onu93
            go_wp2_with fail
            rw [rounds_succ]
            have bB9 := bB1.new nu94
            have cB := bB9.cells
            have fB := bB9.frees
            have cF := fu94.cells
            have N9 := hw1.trans nu94
            have ge1 : w.heap.size ≤ w.heap.size + 1 := by omega
            go_wp2
            refine bodyPost_ret (v := .agg #[.int .i64 0, .slice none 0 0, .int .i64 sa, .int .i64 si, .int .i64 ho, .int .i64 nx, .slice x1 n1 d1, .slice x2 n2 d2, .slice yu93 2 zu93, .slice yw 3 dw, .slice none 0 0, .slice none 0 0]) (by simp [results, Try.results7, go_sem, cB]) rfl ⟨⟨x1, d1, x2, d2, yu93, zu93, yw, dw, rfl, ?_⟩, ?_⟩
            · have tt : Turn (fun k => k = w.heap.size + 1) u94 ((((((((((((u94.setCell ⟨w.heap.size + 1, 0, none⟩ (.int .i64 0)).setCell ⟨w.heap.size + 1, 1, none⟩ (.slice none 0 0)).setCell ⟨w.heap.size + 1, 2, none⟩ (.int .i64 sa)).setCell ⟨w.heap.size + 1, 3, none⟩ (.int .i64 si)).setCell ⟨w.heap.size + 1, 4, none⟩ (.int .i64 ho)).setCell ⟨w.heap.size + 1, 5, none⟩ (.int .i64 nx)).setCell ⟨w.heap.size + 1, 6, none⟩ (.slice x1 n1 d1)).setCell ⟨w.heap.size + 1, 7, none⟩ (.slice x2 n2 d2)).setCell ⟨w.heap.size + 1, 8, none⟩ (.slice yu93 2 zu93)).setCell ⟨w.heap.size + 1, 9, none⟩ (.slice yw 3 dw)).setCell ⟨w.heap.size + 1, 10, none⟩ (.slice none 0 0)).setCell ⟨w.heap.size + 1, 11, none⟩ (.slice none 0 0)) := (Turn.here9 (Turn.here9 (Turn.here9 (Turn.here9 (Turn.here9 (Turn.here9 (Turn.here9 (Turn.here9 (Turn.here9 (Turn.here9 (Turn.here9 (Turn.here9 (Turn.refl _ _) _) _) _) _) _) _) _) _) _) _) _) _)
              exact ⟨o1u94.turn tt (fun j hj x => ne_blk' o1u94 bB9 (by decide) (x ▸ hj)), o2u94.turn tt (fun j hj x => ne_blk' o2u94 bB9 (by decide) (x ▸ hj)), AP.out, row9_lowP (row9_turn onu94 tt (fun j hj x => ne_blk onu94 bB9 (by decide) (x ▸ hj))) zW1.out, row9_turn owu94 tt (fun j hj x => ne_blk owu94 bB9 (by decide) (x ▸ hj))⟩
            · exact ((((((((((((N9.setCell ge1 _).setCell ge1 _).setCell ge1 _).setCell ge1 _).setCell ge1 _).setCell ge1 _).setCell ge1 _).setCell ge1 _).setCell ge1 _).setCell ge1 _).setCell ge1 _).setCell ge1 _)

end Go.Proofs.Ytdknalegmlpimaa
