/- What is proved here: what ApplyRules answers in the program, for every list of at most 1048576 rules and every path of at most 1048576 numbers. -/
import Derived.Test.YtjampcfikfafkaaGreatR6ApI
namespace Go.Proofs.YtjampcfikfafkaaGreat
open Go.RowKit Go.Sort
set_option linter.unusedVariables false

theorem OvN.turn2 {w w' : World} {lo : Nat} {v : Value} {xs : List Int} {S : Nat → Prop} (h : OvN w lo v xs) (t : Turn S w w') (hS : ∀ k, v.ownBlock = some k → ¬ S k) : OvN w' lo v xs := by
  refine ⟨h.1, ?_⟩
  rcases h.2 with h' | ⟨g', cap', cur, h', hb, hh, r⟩
  · exact .inl h'
  · have hlt : g' < w.heap.size := (Array.getElem?_eq_some_iff.1 hh).1
    exact .inr ⟨g', cap', cur, h', hb, (t.block g' hlt (hS g' (by rw [h']; rfl))).trans hh, r⟩
theorem ap1_form (lc pp z o : Int) (xs : List Int) (nx md lo : Int) : ∃ rc ro ns rx rd rl, Hid (∀ i : Int, ap1 false lc pp i z o xs nx md lo = ⟨rc, i, ro, ns, rx, rd, rl⟩) := by
  by_cases h : 6 < (xs.length : Int) + pp
  · exact ⟨2, 0, [], 0, 0, 0, fun i => by unfold ap1; rw [if_neg (by decide), if_pos h]; rfl⟩
  · exact ⟨0, o, List.replicate pp.toNat z ++ xs, nx, md, if lc = -1 then lo else lc, fun i => by unfold ap1; rw [if_neg (by decide), if_neg h]⟩
theorem rep_in {z : Int} {k : Nat} (h : In6 z) : ∀ u ∈ List.replicate k z, In6 u := by
  intro u hu
  rw [(List.mem_replicate.1 hu).2]
  exact h

set_option maxHeartbeats 6400000 in
theorem implAR (y : Option Addr) (rn rk : Nat) (rs : List Ru) (z p q : Int) (o nx md lo : Int) (x : Option Addr) (n c : Nat) (xs : List Int) (w : World) (hr : RsAt w y rs) (hrn : rs.length = rn) (hrm : rn ≤ 1048576) (h : NsAt w x xs) (hn : xs.length = n) (hm : n ≤ 1048576) (hnx : x = none → n = 0 ∧ c = 0) :
    Calls Tryz.prog 66 #[.slice y rn rk, .int .i64 z, .agg #[.int .i64 p, .int .i64 q], .agg #[.int .i64 o, .slice x n c, .int .i64 nx, .int .i64 md, .int .i64 lo]] w (AAns w (apA rs z p q o xs nx md lo)) := by
  have N0 : New w (((w.alloc (.cells #[.int .i64 p, .int .i64 q] 33)).alloc (.cells #[.int .i64 o, .slice x n c, .int .i64 nx, .int .i64 md, .int .i64 lo] 36)).alloc (.cells #[.int .i64 0, .int .i64 0, .int .i64 0, .slice none 0 0, .int .i64 0, .int .i64 0, .int .i64 0] 70)) := (((New.refl w).alloc _).alloc _).alloc _
  have bP0 : Blk (((w.alloc (.cells #[.int .i64 p, .int .i64 q] 33)).alloc (.cells #[.int .i64 o, .slice x n c, .int .i64 nx, .int .i64 md, .int .i64 lo] 36)).alloc (.cells #[.int .i64 0, .int .i64 0, .int .i64 0, .slice none 0 0, .int .i64 0, .int .i64 0, .int .i64 0] 70)) w.heap.size 33 #[.int .i64 p, .int .i64 q] := ((Blk.mk _ _ _ _ rfl).alloc _).alloc _
  have bA0 : Blk (((w.alloc (.cells #[.int .i64 p, .int .i64 q] 33)).alloc (.cells #[.int .i64 o, .slice x n c, .int .i64 nx, .int .i64 md, .int .i64 lo] 36)).alloc (.cells #[.int .i64 0, .int .i64 0, .int .i64 0, .slice none 0 0, .int .i64 0, .int .i64 0, .int .i64 0] 70)) (w.heap.size + 1) 36 #[.int .i64 o, .slice x n c, .int .i64 nx, .int .i64 md, .int .i64 lo] := (Blk.mk _ _ _ _ (by simp)).alloc _
  have bR0 : Blk (((w.alloc (.cells #[.int .i64 p, .int .i64 q] 33)).alloc (.cells #[.int .i64 o, .slice x n c, .int .i64 nx, .int .i64 md, .int .i64 lo] 36)).alloc (.cells #[.int .i64 0, .int .i64 0, .int .i64 0, .slice none 0 0, .int .i64 0, .int .i64 0, .int .i64 0] 70)) (w.heap.size + 1 + 1) 70 #[.int .i64 0, .int .i64 0, .int .i64 0, .slice none 0 0, .int .i64 0, .int .i64 0, .int .i64 0] := Blk.mk _ _ _ _ (by simp)
  have HN : Hid (xs.length = n) := hn
  have HX : Hid (x = none → n = 0 ∧ c = 0) := hnx
  have HR : Hid (rs.length = rn) := hrn
  have ge1 : w.heap.size ≤ w.heap.size + 1 + 1 := by omega
  clear hn hnx hrn
  go_enter Tryz.func66, Tryz.ntmps66
  go_wp2_with fail
  by_cases g0 : apc rs z p q o xs nx md lo = 0
  case neg =>
    have hx : apA rs z p q o xs nx md lo = arC (apc rs z p q o xs nx md lo) 0 := if_neg g0
    have hz : (apc rs z p q o xs nx md lo != 0) = true := by simpa using g0
    refine (applyF y rn rk rs z p q o nx md lo x n c xs _ (hr.new N0) HR.out hrm (h.new N0) HN.out hm).mono ?_
    rintro e w1 ⟨rfl, hn1⟩
    have b11 := bR0.new hn1
    have c1 := b11.cells
    have f1 := b11.frees
    have N1 := N0.trans hn1
    clear b11 bP0 bA0 bR0 hn1 N0
    go_wp2
    refine bodyPost_ret (v := .agg #[.int .i64 (apc rs z p q o xs nx md lo), .int .i64 0, .int .i64 0, .slice none 0 0, .int .i64 0, .int .i64 0, .int .i64 0]) (by simp [results, Tryz.results66, go_sem, c1]) rfl ?_
    rw [hx]
    refine ⟨_, rfl, OvN.nil _ _, ?_⟩
    simp (disch := exact ge1) only [New.set_iff]
    exact N1
  refine (g0 ▸ applyF y rn rk rs z p q o nx md lo x n c xs _ (hr.new N0) HR.out hrm (h.new N0) HN.out hm : Calls Tryz.prog 97 #[.slice y rn rk, .int .i64 z, .agg #[.int .i64 p, .int .i64 q], .agg #[.int .i64 o, .slice x n c, .int .i64 nx, .int .i64 md, .int .i64 lo]] _ fun e w' => e = .returned (.int .i64 0) ∧ New _ w').mono ?_
  rintro e w1 ⟨rfl, hn1⟩
  have hA : Hid (apA rs z p q o xs nx md lo = apF z p q o xs nx md lo ((0 : Nat) : Int) (rs.drop 0)) := if_pos g0
  obtain ⟨hrs, hzz, hpf, haf⟩ := apc_ok g0
  have hall : Hid (∀ r ∈ rs, r.f = 0) := (rsf_ok hrs).2
  have hz6 : In6 z := by unfold In6; omega
  have bP1 := bP0.new hn1
  have bA1 := bA0.new hn1
  have bR1 := bR0.new hn1
  have N1 := N0.trans hn1
  clear bP0 bA0 bR0 hn1 N0 hrs hpf haf g0 hzz
  go_wp2
  go_loopw [26] (fun i wr => ∃ k : Nat, k ≤ rn ∧ i = .int .i64 k ∧ New w wr ∧ Blk wr w.heap.size 33 #[.int .i64 p, .int .i64 q] ∧ Blk wr (w.heap.size + 1) 36 #[.int .i64 o, .slice x n c, .int .i64 nx, .int .i64 md, .int .i64 lo] ∧ Blk wr (w.heap.size + 1 + 1) 70 #[.int .i64 0, .int .i64 0, .int .i64 0, .slice none 0 0, .int .i64 0, .int .i64 0, .int .i64 0] ∧ Hid (apA rs z p q o xs nx md lo = apF z p q o xs nx md lo (k : Int) (rs.drop k))) (fun i _ => rn - (intOf i).toNat)
  case atStart => exact ⟨0, Nat.zero_le _, rfl, N1, bP1, bA1, bR1, hA⟩
  case round =>
    clear bP1 bA1 bR1 N1 hA
    obtain ⟨k, hk, rfl, hnw, bPr, bAr, bRr, hl⟩ := hrel
    by_cases hlt : k < rn
    · obtain ⟨b, off, a, l, ls, ms, s, d, lc, pp, rfl, hz, q0, q1, q2, q3, q4, q5, q6, q7⟩ := (hr.new hnw).at k (by rw [HR.out]; exact hlt)
      have hx := apF_next (z := z) (p := p) (q := q) (o := o) (xs := xs) (nx := nx) (md := md) (lo := lo) hz
      have hrf : rf a l ls ms s d lc pp = 0 := hall.out _ (List.mem_of_getElem? hz)
      have hal : New wr (wr.alloc (.cells #[.int .i64 a, .int .i64 l, .int .i64 ls, .int .i64 ms, .int .i64 s, .bool d, .int .i64 lc, .int .i64 pp] 93)) := (New.refl _).alloc _
      have bV0 : Blk (wr.alloc (.cells #[.int .i64 a, .int .i64 l, .int .i64 ls, .int .i64 ms, .int .i64 s, .bool d, .int .i64 lc, .int .i64 pp] 93)) wr.heap.size 93 #[.int .i64 a, .int .i64 l, .int .i64 ls, .int .i64 ms, .int .i64 s, .bool d, .int .i64 lc, .int .i64 pp] := Blk.mk _ _ _ _ rfl
      go_wp2_with fail
      refine (mk_matcher a l ls ms s d lc pp _).mono ?_
      rintro e w2 ⟨B, rfl, hB, bB2, hn2⟩
      have bV2 := bV0.new hn2
      have hw2 := hal.trans hn2
      have bP2 := bPr.new hw2
      have bA2 := bAr.new hw2
      have bR2 := bRr.new hw2
      have N2 := hnw.trans hw2
      clear bV0 bPr bAr bRr hal hn2 hw2 q0 q1 q2 q3 q4 q5 q6 q7
      have cP2 := bP2.cells
      have cA2 := bA2.cells
      obtain ⟨v, hv⟩ : ∃ v, mt a l ls ms s p q xs = v := ⟨_, rfl⟩
      go_wp2_with fail
      refine (matcher_any a l ls ms s d lc pp p q o nx md lo x n c xs B v _ bB2 (h.new N2) HN.out hm hv).mono ?_
      rintro e w3 ⟨rfl, hn3⟩
      have bV3 := bV2.new hn3
      have bP3 := bP2.new hn3
      have bA3 := bA2.new hn3
      have bR3 := bR2.new hn3
      have N3 := N2.trans hn3
      clear bV2 bP2 bA2 bR2 N2 hn3 cP2 cA2 bB2
      cases v
      · have hl' : Hid (apA rs z p q o xs nx md lo = apF z p q o xs nx md lo ((k + 1 : Nat) : Int) (rs.drop (k + 1))) := by unfold Hid; rw [hl.out, hx, if_neg (by rw [hv]; decide)]
        clear hl hx hz
        go_wp2
        go_roundw
        case rel => exact ⟨k + 1, by omega, by go_num, N3, bP3, bA3, bR3, hl'⟩
        case measure => simp [intOf]; omega
      have hmt := hv
      have cV3 := bV3.cells
      clear hv hz
      cases d
      · obtain ⟨⟨hp0, hp3⟩, -⟩ := rf_pp hrf
        obtain ⟨rc, ro, ns, rx, rd, rl, hap⟩ : ∃ rc ro ns rx rd rl, Hid (∀ i : Int, ap1 false lc pp i z o xs nx md lo = ⟨rc, i, ro, ns, rx, rd, rl⟩) := ap1_form _ _ _ _ _ _ _ _
        have hans : Hid (apA rs z p q o xs nx md lo = ⟨rc, k, ro, ns, rx, rd, rl⟩) := by unfold Hid; rw [hl.out, hx, if_pos hmt]; exact hap.out k
        obtain ⟨m, HM⟩ : ∃ m, Hid (ns.length = m) := ⟨_, rfl⟩
        go_wp2_with fail
        refine (mk_change a l ls ms s lc pp z _ hp0 hp3).mono ?_
        rintro e w4 ⟨C, D, G, rfl, bC4, bD4, oG4, hn4⟩
        have bA4 := bA3.new hn4
        have bR4 := bR3.new hn4
        have N4 := N3.trans hn4
        clear bA3 bR3 bP3 bV3 cV3 N3 hn4
        have cA4 := bA4.cells
        go_wp2_with fail
        refine (chg69 a l ls ms s lc pp z o nx md lo x n c xs C D G pp.toNat _ bC4 bD4 (oG4.ns (rep_in hz6)) rfl hp0 hp3 (h.new N4) HN.out hm HX.out).mono ?_
        rintro e w5 hq
        rw [hap.out 0] at hq
        obtain ⟨av, kv, rfl, ho, hn5⟩ := hq.opened HM.out
        have ho5r : ∀ j, (Value.slice av m kv).ownBlock = some j → j < w5.heap.size := fun j e => (ho.rng j e).2
        have rv1 : ∀ j, (Value.slice av m kv).ownBlock = some j → w4.heap.size ≤ j := fun j e => (ho.rng j e).1
        have bR5 := bR4.new hn5
        have N5 := N4.trans hn5
        have s4 := N4.size
        have l4 := bR4.lt
        clear cA4 bA4 bR4
        go_upto_region 11 with fail
        have hal : New w5 (w5.alloc (.cells #[.int .i64 rc, .int .i64 0, .int .i64 ro, .slice av m kv, .int .i64 rx, .int .i64 rd, .int .i64 rl] 70)) := (New.refl _).alloc _
        have bX6 : Blk (w5.alloc (.cells #[.int .i64 rc, .int .i64 0, .int .i64 ro, .slice av m kv, .int .i64 rx, .int .i64 rd, .int .i64 rl] 70)) w5.heap.size 70 #[.int .i64 rc, .int .i64 0, .int .i64 ro, .slice av m kv, .int .i64 rx, .int .i64 rd, .int .i64 rl] := Blk.mk _ _ _ _ rfl
        have bR6 := bR5.new hal
        have ho6 := ho.new hal
        have N6 := N5.trans hal
        have s5 := hn5.size
        clear bR5 ho hal
        generalize w5.alloc (.cells #[.int .i64 rc, .int .i64 0, .int .i64 ro, .slice av m kv, .int .i64 rx, .int .i64 rd, .int .i64 rl] 70) = w6 at *
        have cX6 := bX6.cells
        have fX6 := bX6.frees
        have lX6 := bX6.lt
        have lR6 := bR6.lt
        go_upto_region 12 with fail
        have hT7 : Turn (fun j => j = w5.heap.size) w6 (w6.setCell ⟨w5.heap.size, 1, none⟩ (.int .i64 (k : Int))) := Turn.here6 (Turn.refl _ _) _
        have bX7 : Blk (w6.setCell ⟨w5.heap.size, 1, none⟩ (.int .i64 (k : Int))) w5.heap.size 70 #[.int .i64 rc, .int .i64 (k : Int), .int .i64 ro, .slice av m kv, .int .i64 rx, .int .i64 rd, .int .i64 rl] := bX6.set 1 _
        have bR7 := bR6.turn hT7 (by omega)
        have rv := ho5r
        have ho7 := ho6.turn2 hT7 (fun j e => by have := rv j e; omega)
        have N7 := N6.before hT7 (fun i hi e => by omega)
        clear cX6 fX6 bX6 bR6 ho6 N6 hT7
        generalize w6.setCell ⟨w5.heap.size, 1, none⟩ (.int .i64 (k : Int)) = w7 at *
        have cX7 := bX7.cells
        have cR7 := bR7.cells
        have fR7 := bR7.frees
        go_wp2
        refine bodyPost_ret (v := .agg #[.int .i64 rc, .int .i64 (k : Int), .int .i64 ro, .slice av m kv, .int .i64 rx, .int .i64 rd, .int .i64 rl]) (by simp [results, Tryz.results66, go_sem, cR7]) rfl ?_
        rw [hans.out]
        refine (fun (hT : Turn (fun j => j = (w.heap.size + 1 + 1)) w7 _) => ⟨_, rfl, (ho7.turn2 hT (fun j e => by have := (rv1 j e); omega)).low s4, N7.before hT (fun i hi e => by omega)⟩) ?_
        exact Turn.here6 (Turn.here6 (Turn.here6 (Turn.here6 (Turn.here6 (Turn.here6 (Turn.here6 (Turn.refl _ _) _) _) _) _) _) _) _
      · have hans : Hid (apA rs z p q o xs nx md lo = ⟨4, k, 0, [], 0, 0, 0⟩) := by unfold Hid; rw [hl.out, hx, if_pos hmt]; unfold ap1; rw [if_pos rfl]; rfl
        go_wp2_with fail
        refine (mk_deny a l ls ms s lc pp z _).mono ?_
        rintro e w4 ⟨rfl, hn4⟩
        have bA4 := bA3.new hn4
        have bR4 := bR3.new hn4
        have N4 := N3.trans hn4
        clear bA3 bR3 bP3 bV3 cV3 N3 hn4
        have cA4 := bA4.cells
        go_wp2_with fail
        refine (deny67 o nx md lo x n c xs _).mono ?_
        rintro e w5 hq
        obtain ⟨av, kv, rfl, ho, hn5⟩ := (show AAns w4 ⟨4, 0, 0, [], 0, 0, 0⟩ e w5 from hq).opened (n := 0) rfl
        have ho5r : ∀ j, (Value.slice av 0 kv).ownBlock = some j → j < w5.heap.size := fun j e => (ho.rng j e).2
        have rv1 : ∀ j, (Value.slice av 0 kv).ownBlock = some j → w4.heap.size ≤ j := fun j e => (ho.rng j e).1
        have bR5 := bR4.new hn5
        have N5 := N4.trans hn5
        have s4 := N4.size
        have l4 := bR4.lt
        clear cA4 bA4 bR4
        go_upto_region 11 with fail
        have hal : New w5 (w5.alloc (.cells #[.int .i64 4, .int .i64 0, .int .i64 0, .slice av 0 kv, .int .i64 0, .int .i64 0, .int .i64 0] 70)) := (New.refl _).alloc _
        have bX6 : Blk (w5.alloc (.cells #[.int .i64 4, .int .i64 0, .int .i64 0, .slice av 0 kv, .int .i64 0, .int .i64 0, .int .i64 0] 70)) w5.heap.size 70 #[.int .i64 4, .int .i64 0, .int .i64 0, .slice av 0 kv, .int .i64 0, .int .i64 0, .int .i64 0] := Blk.mk _ _ _ _ rfl
        have bR6 := bR5.new hal
        have ho6 := ho.new hal
        have N6 := N5.trans hal
        have s5 := hn5.size
        clear bR5 ho hal
        generalize w5.alloc (.cells #[.int .i64 4, .int .i64 0, .int .i64 0, .slice av 0 kv, .int .i64 0, .int .i64 0, .int .i64 0] 70) = w6 at *
        have cX6 := bX6.cells
        have fX6 := bX6.frees
        have lX6 := bX6.lt
        have lR6 := bR6.lt
        go_upto_region 12 with fail
        have hT7 : Turn (fun j => j = w5.heap.size) w6 (w6.setCell ⟨w5.heap.size, 1, none⟩ (.int .i64 (k : Int))) := Turn.here6 (Turn.refl _ _) _
        have bX7 : Blk (w6.setCell ⟨w5.heap.size, 1, none⟩ (.int .i64 (k : Int))) w5.heap.size 70 #[.int .i64 4, .int .i64 (k : Int), .int .i64 0, .slice av 0 kv, .int .i64 0, .int .i64 0, .int .i64 0] := bX6.set 1 _
        have bR7 := bR6.turn hT7 (by omega)
        have rv := ho5r
        have ho7 := ho6.turn2 hT7 (fun j e => by have := rv j e; omega)
        have N7 := N6.before hT7 (fun i hi e => by omega)
        clear cX6 fX6 bX6 bR6 ho6 N6 hT7
        generalize w6.setCell ⟨w5.heap.size, 1, none⟩ (.int .i64 (k : Int)) = w7 at *
        have cX7 := bX7.cells
        have cR7 := bR7.cells
        have fR7 := bR7.frees
        go_wp2
        refine bodyPost_ret (v := .agg #[.int .i64 4, .int .i64 (k : Int), .int .i64 0, .slice av 0 kv, .int .i64 0, .int .i64 0, .int .i64 0]) (by simp [results, Tryz.results66, go_sem, cR7]) rfl ?_
        rw [hans.out]
        refine (fun (hT : Turn (fun j => j = (w.heap.size + 1 + 1)) w7 _) => ⟨_, rfl, (ho7.turn2 hT (fun j e => by have := (rv1 j e); omega)).low s4, N7.before hT (fun i hi e => by omega)⟩) ?_
        exact Turn.here6 (Turn.here6 (Turn.here6 (Turn.here6 (Turn.here6 (Turn.here6 (Turn.here6 (Turn.refl _ _) _) _) _) _) _) _) _
    · have hl' : Hid (apA rs z p q o xs nx md lo = ⟨0, -1, o, xs, nx, md, lo⟩) := by
        unfold Hid
        rw [hl.out, List.drop_of_length_le (by rw [HR.out]; omega)]
        rfl
      have cA := bAr.cells
      go_wp2_with fail
      refine (pathB x none n c 0 0 xs [] _ (h.new hnw) (NsAt.nil _ _) HN.out rfl HX.out (fun _ => ⟨rfl, rfl⟩) hm (by omega)).mono ?_
      rintro e w1 ⟨u, rfl, ho, hn1⟩
      obtain ⟨av, kv, rfl⟩ : ∃ av kv, u = .slice av n kv := by
        rcases ho.form with ⟨rfl, e0⟩ | ⟨g, c', rfl, _, _⟩
        · have e1 := congrArg List.length e0
          simp [HN.out] at e1
          exact ⟨none, 0, by rw [e1]⟩
        · exact ⟨some ⟨g, 0, none⟩, c', by simp [HN.out]⟩
      have dA := bAr.new hn1
      have dR := bRr.new hn1
      have s1 := hnw.size
      have l1 := bRr.lt
      have N1 := hnw.trans hn1
      clear bPr bAr bRr hn1 cA
      have c1 := dA.cells
      have f1 := dA.frees
      have c2 := dR.cells
      have f2 := dR.frees
      have ne2 : ¬ w.heap.size + 1 = w.heap.size + 1 + 1 := by omega
      have ne2' : ¬ w.heap.size + 1 + 1 = w.heap.size + 1 := by omega
      go_wp2
      refine bodyPost_ret (v := .agg #[.int .i64 0, .int .i64 (-1), .int .i64 o, .slice av n kv, .int .i64 nx, .int .i64 md, .int .i64 lo]) (by simp [results, Tryz.results66, go_sem, c2]) rfl ?_
      rw [hl'.out]
      refine (fun (hT : Turn (fun k => k = w.heap.size + 1 ∨ k = w.heap.size + 1 + 1) w1 _) => ⟨_, rfl, (ho.turn hT (fun k hk _ e => by omega)).low s1, N1.before hT (fun i hi e => by omega)⟩) ?_
      exact Turn.hereR6 (Turn.hereR6 (Turn.hereR6 (Turn.hereR6 (Turn.hereR6 (Turn.hereR6 (Turn.hereR6 (Turn.hereL6 (Turn.refl _ _) _) _) _) _) _) _) _) _

end Go.Proofs.YtjampcfikfafkaaGreat
