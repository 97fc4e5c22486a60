/- What is proved here: what is done of rules by ApplyRules, and its parts in the program, for every list of at most 1048576 rules and every path of at most 1048576 numbers. -/
import Derived.Test.YtjampcfikfafkaaGreatR6Ex3
import Derived.Test.YtjampcfikfafkaaGreatR6Rp
import Derived.Test.YtjampcfikfafkaaGreatR6Res
namespace Go.Proofs.YtjampcfikfafkaaGreat
open Go.RowKit Go.Sort
set_option linter.unusedVariables false

theorem Turn.hereL6 {w wr : World} {A B j : Nat} (h : Turn (fun k => k = A ∨ k = B) w wr) (v : Value) : Turn (fun k => k = A ∨ k = B) w (wr.setCell ⟨A, j, none⟩ v) := h.set (Or.inl rfl) v
theorem Turn.hereR6 {w wr : World} {A B j : Nat} (h : Turn (fun k => k = A ∨ k = B) w wr) (v : Value) : Turn (fun k => k = A ∨ k = B) w (wr.setCell ⟨B, j, none⟩ v) := h.set (Or.inr rfl) v

/-- What one rule makes of attributes. -/
def ap1 (d : Bool) (lc pp i z o : Int) (xs : List Int) (nx md lo : Int) : Ar := if d = true then arC 4 i else (if 6 < (xs.length : Int) + pp then arC 2 i else ⟨0, i, o, List.replicate pp.toNat z ++ xs, nx, md, if lc = -1 then lo else lc⟩)
/-- The first rule that matches, from place i on. -/
def apF (z p q o : Int) (xs : List Int) (nx md lo : Int) : Int → List Ru → Ar
  | _, [] => ⟨0, -1, o, xs, nx, md, lo⟩
  | i, r :: rs => if mt r.a r.l r.ls r.ms r.s p q xs = true then ap1 r.d r.lc r.pp i z o xs nx md lo else apF z p q o xs nx md lo (i + 1) rs
/-- The code that comes ahead of the rules. -/
def apc (rs : List Ru) (z p q o : Int) (xs : List Int) (nx md lo : Int) : Int := if rsf rs = 0 then (if 1 ≤ z ∧ z ≤ 65535 then (if pf p q = 0 then af o xs nx md lo else pf p q) else 3) else rsf rs
def apA (rs : List Ru) (z p q o : Int) (xs : List Int) (nx md lo : Int) : Ar := if apc rs z p q o xs nx md lo = 0 then apF z p q o xs nx md lo 0 rs else arC (apc rs z p q o xs nx md lo) 0

theorem apF_next {z p q o : Int} {xs : List Int} {nx md lo : Int} {rs : List Ru} {k : Nat} {r : Ru} (h : rs[k]? = some r) : apF z p q o xs nx md lo k (rs.drop k) = if mt r.a r.l r.ls r.ms r.s p q xs = true then ap1 r.d r.lc r.pp k z o xs nx md lo else apF z p q o xs nx md lo ((k + 1 : Nat) : Int) (rs.drop (k + 1)) := by
  obtain ⟨hk, e⟩ := List.getElem?_eq_some_iff.1 h
  rw [List.drop_eq_getElem_cons hk, e]
  show (if _ then _ else apF z p q o xs nx md lo ((k : Int) + 1) _) = _
  norm_cast
theorem apc_ok {rs : List Ru} {z p q o : Int} {xs : List Int} {nx md lo : Int} (h : apc rs z p q o xs nx md lo = 0) : rsf rs = 0 ∧ (1 ≤ z ∧ z ≤ 65535) ∧ pf p q = 0 ∧ af o xs nx md lo = 0 := by
  unfold apc at h
  split at h
  · rename_i h0
    split at h
    · rename_i h1
      split at h
      · rename_i h2
        exact ⟨h0, h1, h2, h⟩
      · rename_i h2
        exact absurd h h2
    · omega
  · rename_i h0
    exact absurd h h0
theorem rf_pp {a l ls ms s : Int} {d : Bool} {lc pp : Int} (h : rf a l ls ms s d lc pp = 0) : (0 ≤ pp ∧ pp ≤ 3) ∧ (-1 ≤ lc ∧ lc ≤ 65535) := by
  unfold rf at h
  split at h
  · split at h
    · rename_i h1
      exact ⟨h1.2.2.2.2, h1.2.2.2.1⟩
    · omega
  · rename_i h0
    exact absurd h h0

set_option maxHeartbeats 1600000 in
theorem applyF (y : Option Addr) (rn rk : Nat) (rs : List Ru) (z p q : Int) (o nx md lo : Int) (x : Option Addr) (n c : Nat) (xs : List Int) (w : World) (hr : RsAt w y rs) (hrn : rs.length = rn) (hrm : rn ≤ 1048576) (h : NsAt w x xs) (hn : xs.length = n) (hm : n ≤ 1048576) :
    Calls Tryz.prog 97 #[.slice y rn rk, .int .i64 z, .agg #[.int .i64 p, .int .i64 q], .agg #[.int .i64 o, .slice x n c, .int .i64 nx, .int .i64 md, .int .i64 lo]] w fun e w' => e = .returned (.int .i64 (apc rs z p q o xs nx md lo)) ∧ New w w' := by
  have N0 : New w ((w.alloc (.cells #[.int .i64 p, .int .i64 q] 33)).alloc (.cells #[.int .i64 o, .slice x n c, .int .i64 nx, .int .i64 md, .int .i64 lo] 36)) := ((New.refl w).alloc _).alloc _
  have b0 : Blk ((w.alloc (.cells #[.int .i64 p, .int .i64 q] 33)).alloc (.cells #[.int .i64 o, .slice x n c, .int .i64 nx, .int .i64 md, .int .i64 lo] 36)) w.heap.size 33 #[.int .i64 p, .int .i64 q] := (Blk.mk _ _ _ _ rfl).alloc _
  have b1 : Blk ((w.alloc (.cells #[.int .i64 p, .int .i64 q] 33)).alloc (.cells #[.int .i64 o, .slice x n c, .int .i64 nx, .int .i64 md, .int .i64 lo] 36)) (w.heap.size + 1) 36 #[.int .i64 o, .slice x n c, .int .i64 nx, .int .i64 md, .int .i64 lo] := Blk.mk _ _ _ _ (by simp)
  have HN : Hid (xs.length = n) := hn
  have HR : Hid (rs.length = rn) := hrn
  clear hn hrn
  go_enter Tryz.func97, Tryz.ntmps97
  go_wp2_with fail
  by_cases g0 : rsf rs = 0
  case neg =>
    have hx : apc rs z p q o xs nx md lo = rsf rs := if_neg g0
    have hz : (rsf rs != 0) = true := by simpa using g0
    refine (implRSF y rn rk rs _ (hr.new N0) HR.out hrm).mono ?_
    rintro e w1 ⟨rfl, hn1⟩
    go_wp2
    go_ret
    exact ⟨ret_i64 hx.symm, N0.trans hn1⟩
  refine (g0 ▸ implRSF y rn rk rs _ (hr.new N0) HR.out hrm : Calls Tryz.prog 62 #[.slice y rn rk] _ fun e w' => e = .returned (.int .i64 0) ∧ New _ w').mono ?_
  rintro e w1 ⟨rfl, hn1⟩
  have c0 := (b0.new hn1).cells
  have d1 := b1.new hn1
  have N1 := N0.trans hn1
  clear b0 b1 hn1 N0
  go_wp2_with fail
  by_cases g1 : 1 ≤ z ∧ z ≤ 65535
  case neg =>
    have hx : apc rs z p q o xs nx md lo = 3 := by unfold apc; rw [if_pos g0, if_neg g1]
    refine (isSys_no z _ (by omega)).mono ?_
    rintro e w2 ⟨rfl, rfl⟩
    go_wp2
    go_ret
    exact ⟨ret_i64 hx.symm, N1⟩
  refine (isSys_yes z _ g1).mono ?_
  rintro e w2 ⟨rfl, rfl⟩
  go_wp2_with fail
  by_cases g2 : pf p q = 0
  case neg =>
    have hx : apc rs z p q o xs nx md lo = pf p q := by unfold apc; rw [if_pos g0, if_pos g1, if_neg g2]
    have hz : (pf p q != 0) = true := by simpa using g2
    refine (implPF p q _).mono ?_
    rintro e w3 ⟨rfl, hn3⟩
    go_wp2
    go_ret
    exact ⟨ret_i64 hx.symm, N1.trans hn3⟩
  have hx : apc rs z p q o xs nx md lo = af o xs nx md lo := by unfold apc; rw [if_pos g0, if_pos g1, if_pos g2]
  refine (implPF_is p q 0 _ g2).mono ?_
  rintro e w3 ⟨rfl, hn3⟩
  have c1 := (d1.new hn3).cells
  have N3 := N1.trans hn3
  clear c0 d1 hn3 N1
  go_wp2_with fail
  refine (implAF o nx md lo x n c xs _ (h.new N3) HN.out hm).mono ?_
  rintro e w4 ⟨rfl, hn4⟩
  go_wp2
  go_ret
  exact ⟨ret_i64 hx.symm, N3.trans hn4⟩

theorem deny67 (o nx md lo : Int) (x : Option Addr) (n c : Nat) (xs : List Int) (w : World) : Calls Tryz.prog 120 #[.agg #[.int .i64 o, .slice x n c, .int .i64 nx, .int .i64 md, .int .i64 lo]] w (AAns w (arC 4 0)) := by
  have N0 : New w ((w.alloc (.cells #[.int .i64 o, .slice x n c, .int .i64 nx, .int .i64 md, .int .i64 lo] 36)).alloc (.cells #[.int .i64 0, .int .i64 0, .int .i64 0, .slice none 0 0, .int .i64 0, .int .i64 0, .int .i64 0] 70)) := ((New.refl w).alloc _).alloc _
  have ge1 : w.heap.size ≤ w.heap.size + 1 := by omega
  go_enter Tryz.func120, Tryz.ntmps120
  go_wp2
  refine bodyPost_ret (v := .agg #[.int .i64 4, .int .i64 0, .int .i64 0, .slice none 0 0, .int .i64 0, .int .i64 0, .int .i64 0]) (by simp [results, Tryz.results120, go_sem]) rfl ?_
  refine ⟨_, rfl, OvN.nil _ _, ?_⟩
  exact ((New.refl w).alloc _).alloc _

theorem mk_deny (a l ls ms s : Int) (lc pp z : Int) (w : World) : Calls Tryz.prog 99 #[.agg #[.int .i64 a, .int .i64 l, .int .i64 ls, .int .i64 ms, .int .i64 s, .bool true, .int .i64 lc, .int .i64 pp], .int .i64 z] w fun e w' => e = .returned (.func (.func 120) #[] #[]) ∧ New w w' := by
  have hw := (New.refl w).alloc (.cells #[.int .i64 a, .int .i64 l, .int .i64 ls, .int .i64 ms, .int .i64 s, .bool true, .int .i64 lc, .int .i64 pp] 93)
  go_enter Tryz.func99, Tryz.ntmps99
  go_wp2
  go_ret
  exact ⟨rfl, hw⟩

set_option maxHeartbeats 800000 in
theorem mk_change (a l ls ms s : Int) (lc pp z : Int) (w : World) (h0 : 0 ≤ pp) (h3 : pp ≤ 3) : Calls Tryz.prog 99 #[.agg #[.int .i64 a, .int .i64 l, .int .i64 ls, .int .i64 ms, .int .i64 s, .bool false, .int .i64 lc, .int .i64 pp], .int .i64 z] w fun e w' => ∃ C B G, e = .returned (.func (.func 122) #[] #[.pointer (some ⟨C, 0, none⟩), .pointer (some ⟨B, 0, none⟩)]) ∧ Blk w' C 34 #[.slice (some ⟨G, 0, none⟩) pp.toNat pp.toNat] ∧ Blk w' B 93 #[.int .i64 a, .int .i64 l, .int .i64 ls, .int .i64 ms, .int .i64 s, .bool false, .int .i64 lc, .int .i64 pp] ∧ OwN w' G pp.toNat pp.toNat (List.replicate pp.toNat z) ∧ New w w' := by
  have hmf : ∀ (fn : Fn) (first cap : Array Value) (w : World), (Instr.makeFunc fn first cap).run Tryz.prog w = .ok (.func fn first cap) w := fun _ _ _ _ => rfl
  have N0 : New w ((w.alloc (.cells #[.int .i64 a, .int .i64 l, .int .i64 ls, .int .i64 ms, .int .i64 s, .bool false, .int .i64 lc, .int .i64 pp] 93)).alloc (.cells #[.int .i64 z] 2)) := ((New.refl w).alloc _).alloc _
  have b0 : Blk ((w.alloc (.cells #[.int .i64 a, .int .i64 l, .int .i64 ls, .int .i64 ms, .int .i64 s, .bool false, .int .i64 lc, .int .i64 pp] 93)).alloc (.cells #[.int .i64 z] 2)) w.heap.size 93 #[.int .i64 a, .int .i64 l, .int .i64 ls, .int .i64 ms, .int .i64 s, .bool false, .int .i64 lc, .int .i64 pp] := (Blk.mk _ _ _ _ rfl).alloc _
  have bL : Blk ((w.alloc (.cells #[.int .i64 a, .int .i64 l, .int .i64 ls, .int .i64 ms, .int .i64 s, .bool false, .int .i64 lc, .int .i64 pp] 93)).alloc (.cells #[.int .i64 z] 2)) (w.heap.size + 1) 2 #[.int .i64 z] := Blk.mk _ _ _ _ (by simp)
  go_enter Tryz.func99, Tryz.ntmps99
  go_wp2_with fail
  refine (rep_any (w.heap.size + 1) z pp _ bL h0 h3).mono ?_
  rintro e w1 ⟨G, rfl, hG, ho, hn1⟩
  go_wp2
  go_ret
  exact ⟨_, _, G, rfl, Blk.mk _ _ _ _ rfl, (b0.new hn1).alloc _, ho.new ((New.refl _).alloc _), (N0.trans hn1).alloc _⟩

set_option maxHeartbeats 1600000 in
theorem chg69 (a l ls ms s : Int) (lc pp z : Int) (o nx md lo : Int) (x : Option Addr) (n c : Nat) (xs : List Int) (C B G k : Nat) (w : World) (bC : Blk w C 34 #[.slice (some ⟨G, 0, none⟩) k k]) (bB : Blk w B 93 #[.int .i64 a, .int .i64 l, .int .i64 ls, .int .i64 ms, .int .i64 s, .bool false, .int .i64 lc, .int .i64 pp]) (hG : NsAt w (some ⟨G, 0, none⟩) (List.replicate k z)) (hk : pp.toNat = k) (h0 : 0 ≤ pp) (h3 : pp ≤ 3) (h : NsAt w x xs) (hn : xs.length = n) (hm : n ≤ 1048576) (hnx : x = none → n = 0 ∧ c = 0) :
    Calls Tryz.prog 122 #[.agg #[.int .i64 o, .slice x n c, .int .i64 nx, .int .i64 md, .int .i64 lo], .pointer (some ⟨C, 0, none⟩), .pointer (some ⟨B, 0, none⟩)] w (AAns w (ap1 false lc pp 0 z o xs nx md lo)) := by
  have N0 : New w ((w.alloc (.cells #[.int .i64 o, .slice x n c, .int .i64 nx, .int .i64 md, .int .i64 lo] 36)).alloc (.cells #[.int .i64 0, .int .i64 0, .int .i64 0, .slice none 0 0, .int .i64 0, .int .i64 0, .int .i64 0] 70)) := ((New.refl w).alloc _).alloc _
  have bC0 := bC.new N0
  have bB0 := bB.new N0
  have b1 : Blk ((w.alloc (.cells #[.int .i64 o, .slice x n c, .int .i64 nx, .int .i64 md, .int .i64 lo] 36)).alloc (.cells #[.int .i64 0, .int .i64 0, .int .i64 0, .slice none 0 0, .int .i64 0, .int .i64 0, .int .i64 0] 70)) w.heap.size 36 #[.int .i64 o, .slice x n c, .int .i64 nx, .int .i64 md, .int .i64 lo] := (Blk.mk _ _ _ _ rfl).alloc _
  have b2 : Blk ((w.alloc (.cells #[.int .i64 o, .slice x n c, .int .i64 nx, .int .i64 md, .int .i64 lo] 36)).alloc (.cells #[.int .i64 0, .int .i64 0, .int .i64 0, .slice none 0 0, .int .i64 0, .int .i64 0, .int .i64 0] 70)) (w.heap.size + 1) 70 #[.int .i64 0, .int .i64 0, .int .i64 0, .slice none 0 0, .int .i64 0, .int .i64 0, .int .i64 0] := Blk.mk _ _ _ _ (by simp)
  have cC := bC0.cells
  have lC := bC.lt
  have lB := bB.lt
  have ge1 : w.heap.size ≤ w.heap.size + 1 := by omega
  have hkp : (k : Int) = pp := by omega
  have HN : Hid (xs.length = n) := hn
  have HXn : Hid (x = none → n = 0 ∧ c = 0) := hnx
  have HK : Hid (pp.toNat = k) := hk
  clear hn hnx hk
  by_cases g0 : 6 < (n : Int) + k
  · have hx : ap1 false lc pp 0 z o xs nx md lo = arC 2 0 := by unfold ap1; rw [if_neg (by decide), if_pos (by rw [HN.out]; omega)]
    go_enter Tryz.func122, Tryz.ntmps122
    go_wp2
    refine bodyPost_ret (v := .agg #[.int .i64 2, .int .i64 0, .int .i64 0, .slice none 0 0, .int .i64 0, .int .i64 0, .int .i64 0]) (by simp [results, Tryz.results122, go_sem]) rfl ?_
    rw [hx]
    refine ⟨_, rfl, OvN.nil _ _, ?_⟩
    exact ((New.refl w).alloc _).alloc _
  by_cases g1 : lc = -1
  · subst g1
    have hx : ap1 false (-1) pp 0 z o xs nx md lo = ⟨0, 0, o, List.replicate k z ++ xs, nx, md, lo⟩ := by unfold ap1; rw [if_neg (by decide), if_neg (by rw [HN.out]; omega), HK.out]; rfl
    go_enter Tryz.func122, Tryz.ntmps122
    go_wp2_with fail
    refine (pathB x (some ⟨G, 0, none⟩) n c k k xs (List.replicate k z) _ (h.new N0) (hG.new N0) HN.out (by simp) HXn.out (by intro e; cases e) hm (by omega)).mono ?_
    rintro e w1 ⟨v, rfl, ho, hn1⟩
    obtain ⟨av, kv, rfl⟩ : ∃ av kv, v = .slice av (k + n) kv := by
      rcases ho.form with ⟨rfl, e0⟩ | ⟨g, c', rfl, _, _⟩
      · have e1 := congrArg List.length e0
        simp [HN.out] at e1
        exact ⟨none, 0, by rw [e1.1, e1.2]⟩
      · exact ⟨some ⟨g, 0, none⟩, c', by simp [HN.out]⟩
    have N1 := N0.trans hn1
    have d1 := b1.new hn1
    have d2 := b2.new hn1
    have dB := bB0.new hn1
    have l2 := d2.lt
    clear bC0 bB0 b1 b2 cC hn1 N0
    have c1 := d1.cells
    have f1 := d1.frees
    have c2 := d2.cells
    have f2 := d2.frees
    have cB := dB.cells
    have ne1 : ¬ w.heap.size = B := by omega
    have ne1' : ¬ B = w.heap.size := by omega
    have ne2 : ¬ w.heap.size = w.heap.size + 1 := by omega
    have ne2' : ¬ w.heap.size + 1 = w.heap.size := by omega
    go_wp2
    refine bodyPost_ret (v := .agg #[.int .i64 0, .int .i64 0, .int .i64 o, .slice av (k + n) kv, .int .i64 nx, .int .i64 md, .int .i64 lo]) (by simp [results, Tryz.results122, go_sem, c2]) rfl ?_
    rw [hx]
    refine (fun (hT : Turn (fun k => k = w.heap.size ∨ k = w.heap.size + 1) w1 _) => ⟨_, rfl, (ho.turn hT (fun k hk _ e => by simp at hk; omega)).low (by simp; omega), N1.before hT (fun i hi e => by omega)⟩) ?_
    exact Turn.hereR6 (Turn.hereR6 (Turn.hereR6 (Turn.hereR6 (Turn.hereR6 (Turn.hereR6 (Turn.hereR6 (Turn.hereL6 (Turn.refl _ _) _) _) _) _) _) _) _) _
  · have e1 : (lc != -1) = true := by simpa using g1
    have hx : ap1 false lc pp 0 z o xs nx md lo = ⟨0, 0, o, List.replicate k z ++ xs, nx, md, lc⟩ := by unfold ap1; rw [if_neg (by decide), if_neg (by rw [HN.out]; omega), HK.out, if_neg g1]
    go_enter Tryz.func122, Tryz.ntmps122
    go_wp2_with fail
    refine (pathB x (some ⟨G, 0, none⟩) n c k k xs (List.replicate k z) _ (h.new N0) (hG.new N0) HN.out (by simp) HXn.out (by intro e; cases e) hm (by omega)).mono ?_
    rintro e w1 ⟨v, rfl, ho, hn1⟩
    obtain ⟨av, kv, rfl⟩ : ∃ av kv, v = .slice av (k + n) kv := by
      rcases ho.form with ⟨rfl, e0⟩ | ⟨g, c', rfl, _, _⟩
      · have e1 := congrArg List.length e0
        simp [HN.out] at e1
        exact ⟨none, 0, by rw [e1.1, e1.2]⟩
      · exact ⟨some ⟨g, 0, none⟩, c', by simp [HN.out]⟩
    have N1 := N0.trans hn1
    have d1 := b1.new hn1
    have d2 := b2.new hn1
    have dB := bB0.new hn1
    have l2 := d2.lt
    clear bC0 bB0 b1 b2 cC hn1 N0
    have c1 := d1.cells
    have f1 := d1.frees
    have c2 := d2.cells
    have f2 := d2.frees
    have cB := dB.cells
    have ne1 : ¬ w.heap.size = B := by omega
    have ne1' : ¬ B = w.heap.size := by omega
    have ne2 : ¬ w.heap.size = w.heap.size + 1 := by omega
    have ne2' : ¬ w.heap.size + 1 = w.heap.size := by omega
    go_wp2
    refine bodyPost_ret (v := .agg #[.int .i64 0, .int .i64 0, .int .i64 o, .slice av (k + n) kv, .int .i64 nx, .int .i64 md, .int .i64 lc]) (by simp [results, Tryz.results122, go_sem, c2]) rfl ?_
    rw [hx]
    refine (fun (hT : Turn (fun k => k = w.heap.size ∨ k = w.heap.size + 1) w1 _) => ⟨_, rfl, (ho.turn hT (fun k hk _ e => by simp at hk; omega)).low (by simp; omega), N1.before hT (fun i hi e => by omega)⟩) ?_
    exact Turn.hereR6 (Turn.hereR6 (Turn.hereR6 (Turn.hereR6 (Turn.hereR6 (Turn.hereR6 (Turn.hereR6 (Turn.hereL6 (Turn.hereL6 (Turn.refl _ _) _) _) _) _) _) _) _) _) _

end Go.Proofs.YtjampcfikfafkaaGreat
