/- What is proved here: what the drawing of rules, a number, a prefix and attributes answers. What is proved here: what the drawing of routes, a peer, rules and two numbers answers. What is proved here: what ToldFault answers, in the program and in the model, for lists of at most 1048576 things told with paths of at most 1048576 numbers. What is proved here: how the bests of all prefixes go along a list that has no fault; no run of the program. No condition. What is proved here: what is exported has no fault, and each of it comes of a best route. No condition. What is proved here: what the laws' asking for too many bytes answers. -/
import Derived.Test.YtjampcfikfafkaaGreatXL2
import Derived.Deep.RegionHeld3
import Derived.Deep.CutRange
import Derived.Test.YtjampcfikfafkaaGreatXT1
import Derived.Test.YtjampcfikfafkaaGreatR7Cmp
import Derived.Test.YtjampcfikfafkaaGreatT8Lib
import Derived.Test.YtjampcfikfafkaaGreatXE3
import Derived.Test.YtjampcfikfafkaaGreatBytes
import Derived.Test.YtjampcfikfafkaaGreatRows
namespace Go.Proofs.YtjampcfikfafkaaGreat
open Go.RowKit Go.Sort
set_option linter.unusedVariables false

theorem OvR.rsAt {w : World} {lo : Nat} {y : Option Addr} {n c : Nat} {rs : List Ru} (h : OvR w lo (.slice y n c) rs) : RsAt w y rs ∧ ∀ x, y = some x → lo ≤ x.block := by
  rcases h.form with ⟨e0, rfl⟩ | ⟨g, c', e1, hg, _, ho⟩
  · cases e0
    exact ⟨RsAt.nil _ _, by intro x hx; cases hx⟩
  · have e2 : y = some ⟨g, 0, none⟩ := by simp at e1; exact e1.1
    subst e2
    exact ⟨ho.rs, by intro x hx; obtain rfl := Option.some.inj hx; exact hg⟩
theorem Turn.hereLd {w wr : World} {A B j : Nat} (h : Turn (fun k => k = A ∨ k = B) w wr) (v : Value) : Turn (fun k => k = A ∨ k = B) w (wr.setCell ⟨A, j, none⟩ v) := h.set (Or.inl rfl) v
theorem Turn.hereRd {w wr : World} {A B j : Nat} (h : Turn (fun k => k = A ∨ k = B) w wr) (v : Value) : Turn (fun k => k = A ∨ k = B) w (wr.setCell ⟨B, j, none⟩ v) := h.set (Or.inr rfl) v

end Go.Proofs.YtjampcfikfafkaaGreat

namespace Go.Proofs.YtjampcfikfafkaaGreat
open Go.RowKit Go.Sort
set_option linter.unusedVariables false
set_option linter.unusedSimpArgs false
set_option maxRecDepth 100000

set_option maxHeartbeats 6400000 in
theorem drawET (a : Option Addr) (n c : Nat) (zs : List Int) (w : World) (h : BsAt w a zs) (hn : zs.length = n) (hm : n ≤ 2097152) (ha : ∀ x, zs ≠ [] → a = some x → x.block < w.heap.size) :
    Calls Tryz.prog 6 #[.slice a n c] w fun e w' => ∃ (A : Option Addr) (d : Nat) (V : List Rv) (y : Option Addr) (rn rk : Nat) (rs : List Ru) (q z t : Int), e = .returned (.tuple #[.slice A V.length d, .int .i64 q, .slice y rn rk, .int .i64 z, .int .i64 t]) ∧ V.length ≤ 61 ∧ RtAt w' A V ∧ RsAt w' y rs ∧ rs.length = rn ∧ rn ≤ 9 ∧ New w w' := by
  go_enter Tryz.func6, Tryz.ntmps6
  go_wp2_with fail
  refine (source_any a n c zs _ h hn hm ha).mono ?_
  rintro e w1 ⟨B, rfl, hB, hs1, h1⟩
  have lB1 := hs1.blk.lt
  have hNB : ∀ i, i < w.heap.size → ¬ i = B := fun i hi e => by omega
  go_wp2_with fail
  refine (l7Bent_sc hs1 (by omega)).mono ?_
  rintro e w2 ⟨A, d, V, t2, rfl, hVl, hV, hF, ht2, hs2, T2⟩
  have N := h1.before T2 hNB
  have z2 := T2.size
  go_wp2_with fail
  refine (l6Rules_sc hs2 (by omega)).mono ?_
  rintro e w3 ⟨y, rn, rk, rs, t3, rfl, ov, hlr, hr9, ht3, hs3, T3⟩
  obtain ⟨hRS, hlo⟩ := ov.rsAt
  have hV := hV.turnF hF T3 (by omega)
  have N := N.before T3 hNB
  have z3 := T3.size
  clear ov hs1 hs2 h h1
  have hal3 := (New.refl w3).alloc (.cells #[.int .i64 0, .int .i64 1, .int .i64 2, .int .i64 0, .int .i64 3] 2)
  have hbl3 := Blk.mk w3 w3.heap.size 2 #[.int .i64 0, .int .i64 1, .int .i64 2, .int .i64 0, .int .i64 3] rfl
  have hV := hV.new hal3
  have hRS := hRS.new hal3
  have N := N.trans hal3
  go_wp2_with fail
  refine (pick_sc (hs3.new hal3) [0, 1, 2, 0, 3] hbl3 5 rfl (by omega) (by omega) (by omega)).mono ?_
  rintro e w4 ⟨q, rfl, -, hs4, T4⟩
  have hV := hV.turnF hF T4 (by omega)
  have hRS := hRS.turn T4 (fun x _ h2 e => by have := hlo x h2; omega)
  have N := N.before T4 hNB
  have zT4 := T4.size
  clear hs3 hal3 hbl3 T3
  go_wp2_with fail
  refine (next_sc hs4 5 (by omega) (by omega)).mono ?_
  rintro e w5 ⟨r5, rfl, ⟨hr50, hr51, -⟩, hs5, T5⟩
  have hr51 := hr51 (by omega)
  have hV := hV.turnF hF T5 (by omega)
  have hRS := hRS.turn T5 (fun x _ h2 e => by have := hlo x h2; omega)
  have N := N.before T5 hNB
  have zT5 := T5.size
  go_wp2_with fail
  refine (next_sc hs5 5 (by omega) (by omega)).mono ?_
  rintro e w6 ⟨r6, rfl, ⟨hr60, hr61, -⟩, hs6, T6⟩
  have hr61 := hr61 (by omega)
  have hV := hV.turnF hF T6 (by omega)
  have hRS := hRS.turn T6 (fun x _ h2 e => by have := hlo x h2; omega)
  have N := N.before T6 hNB
  have zT6 := T6.size
  have hal6 := (New.refl w6).alloc (.cells #[.int .i64 (1 + r5), .int .i64 (1 + r6), .int .i64 0] 2)
  have hbl6 := Blk.mk w6 w6.heap.size 2 #[.int .i64 (1 + r5), .int .i64 (1 + r6), .int .i64 0] rfl
  have hV := hV.new hal6
  have hRS := hRS.new hal6
  have N := N.trans hal6
  go_wp2_with fail
  refine (pick_sc (hs6.new hal6) [1 + r5, 1 + r6, 0] hbl6 3 rfl (by omega) (by omega) (by omega)).mono ?_
  rintro e w7 ⟨z, rfl, -, hs7, T7⟩
  have hV := hV.turnF hF T7 (by omega)
  have hRS := hRS.turn T7 (fun x _ h2 e => by have := hlo x h2; omega)
  have N := N.before T7 hNB
  have zT7 := T7.size
  clear hs4 hs5 hs6 hal6 hbl6
  go_wp2_with fail
  refine (next_sc hs7 9 (by omega) (by omega)).mono ?_
  rintro e w8 ⟨r8, rfl, -, hs8, T8⟩
  have hV := hV.turnF hF T8 (by omega)
  have hRS := hRS.turn T8 (fun x _ h2 e => by have := hlo x h2; omega)
  have N := N.before T8 hNB
  have zT8 := T8.size
  go_wp2_with fail
  refine (next_sc hs8 9 (by omega) (by omega)).mono ?_
  rintro e w9 ⟨r9, rfl, -, hs9, T9⟩
  have hV := hV.turnF hF T9 (by omega)
  have hRS := hRS.turn T9 (fun x _ h2 e => by have := hlo x h2; omega)
  have N := N.before T9 hNB
  have zT9 := T9.size
  have hal9 := (New.refl w9).alloc (.cells #[.int .i64 r8, .int .i64 r9, .int .i64 (-1)] 2)
  have hbl9 := Blk.mk w9 w9.heap.size 2 #[.int .i64 r8, .int .i64 r9, .int .i64 (-1)] rfl
  have hV := hV.new hal9
  have hRS := hRS.new hal9
  have N := N.trans hal9
  go_wp2_with fail
  refine (pick_sc (hs9.new hal9) [r8, r9, -1] hbl9 3 rfl (by omega) (by omega) (by omega)).mono ?_
  rintro e w10 ⟨t, rfl, -, hs10, T10⟩
  have hV := hV.turnF hF T10 (by omega)
  have hRS := hRS.turn T10 (fun x _ h2 e => by have := hlo x h2; omega)
  have N := N.before T10 hNB
  have zT10 := T10.size
  go_wp2
  exact bodyPost_ret (v := .tuple #[.slice A V.length d, .int .i64 q, .slice y rn rk, .int .i64 z, .int .i64 t]) (by simp [results, Tryz.results6, go_sem]) rfl ⟨A, d, V, y, rn, rk, rs, q, z, t, rfl, hVl, hV, hRS, hlr, hr9, N⟩

end Go.Proofs.YtjampcfikfafkaaGreat

namespace Go.Proofs.YtjampcfikfafkaaGreat
open Go.RowKit Go.Sort
set_option linter.unusedVariables false

/-- The fault of a thing told. -/
def tdf (a l o : Int) (xs : List Int) (nx md lc : Int) : Int := if pf a l = 0 then af o xs nx md lc else pf a l
def Td.f (r : Td) : Int := tdf r.a r.l r.o r.xs r.nx r.md r.lc
/-- The one stands ahead of the other. -/
def Td.lt (s r : Td) : Bool := decide (orL [cmp3 s.a r.a, cmp3 s.l r.l] < 0)
/-- The fault of the things told behind one. -/
def tdC : Option Td → List Td → Int
  | _, [] => 0
  | none, r :: R => if r.f = 0 then tdC (some r) R else r.f
  | some s, r :: R => if r.f = 0 then (if s.lt r = true then tdC (some r) R else 1) else r.f
/-- The fault of a list of things told. -/
def tdF (R : List Td) : Int := if 60 < R.length then 2 else tdC none R

theorem cmp8_eq {x y : Int} (h : x = y) : cmp3 x y = 0 := by subst h; simp [cmp3]
theorem cmp8_lt {x y : Int} (h : x < y) : cmp3 x y = -1 := by unfold cmp3; rw [if_pos h]
theorem cmp8_gt {x y : Int} (h : y < x) : cmp3 x y = 1 := by unfold cmp3; rw [if_neg (by omega), if_pos h]

set_option maxHeartbeats 1600000 in
theorem ahead8 (a l a' l' : Int) (v : Bool) (w : World) (hv : decide (orL [cmp3 a a', cmp3 l l'] < 0) = v) : Calls Tryz.prog 103 #[.agg #[.int .i64 a, .int .i64 l], .agg #[.int .i64 a', .int .i64 l']] w fun e w' => e = .returned (.bool v) ∧ New w w' := by
  have N0 := ((New.refl w).alloc (.cells #[.int .i64 a, .int .i64 l] 33)).alloc (.cells #[.int .i64 a', .int .i64 l'] 33)
  by_cases h : a = a'
  · have hx : (a != a') = false := by simp [h]
    by_cases hl : l < l'
    · have HV : v = true := by rw [← hv]; simp [orL, cmp8_eq h, cmp8_lt hl]
      clear hv h
      subst HV
      go_enter Tryz.func103, Tryz.ntmps103
      go_wp2
      go_ret
      exact ⟨rfl, N0⟩
    · have HV : v = false := by
        rw [← hv]
        by_cases e : l = l'
        · simp [orL, cmp8_eq h, cmp8_eq e]
        · simp [orL, cmp8_eq h, cmp8_gt (show l' < l by omega)]
      clear hv h
      subst HV
      go_enter Tryz.func103, Tryz.ntmps103
      go_wp2
      go_ret
      exact ⟨by first | rfl | exact ret_bool (decide_eq_false (by omega)), N0⟩
  · have hx : (a != a') = true := by simp [h]
    by_cases hl : a < a'
    · have HV : v = true := by rw [← hv]; simp [orL, cmp8_lt hl]
      clear hv h
      subst HV
      go_enter Tryz.func103, Tryz.ntmps103
      go_wp2
      go_ret
      exact ⟨rfl, N0⟩
    · have HV : v = false := by rw [← hv]; simp [orL, cmp8_gt (show a' < a by omega)]
      clear hv h
      subst HV
      go_enter Tryz.func103, Tryz.ntmps103
      go_wp2
      go_ret
      exact ⟨by first | rfl | exact ret_bool (decide_eq_false (by omega)), N0⟩

theorem tdC_next {q : Option Td} {R : List Td} {k : Nat} {r : Td} (h : R[k]? = some r) : tdC q (R.drop k) = if r.f = 0 then (if (match q with | none => true | some s => s.lt r) = true then tdC (some r) (R.drop (k + 1)) else 1) else r.f := by
  obtain ⟨hk, e⟩ := List.getElem?_eq_some_iff.1 h
  rw [List.drop_eq_getElem_cons hk, e]
  cases q <;> simp [tdC]

/-- The one ahead of a place. -/
def prevT (R : List Td) (k : Nat) : Option Td := if k = 0 then none else R[k - 1]?

theorem td_step {R : List Td} {k : Nat} {r : Td} (h : R[k]? = some r) (hc : tdC none R = tdC (prevT R k) (R.drop k)) (hf : r.f = 0) (hl : ∀ s, prevT R k = some s → s.lt r = true) : tdC none R = tdC (prevT R (k + 1)) (R.drop (k + 1)) := by
  rw [hc, tdC_next h, if_pos hf]
  have e : prevT R (k + 1) = some r := by unfold prevT; rw [if_neg (by omega)]; simpa using h
  rw [e]
  cases hq : prevT R k with
  | none => simp
  | some s => simp [hl s hq]
theorem td_bad {R : List Td} {k : Nat} {r : Td} (h : R[k]? = some r) (hc : tdC none R = tdC (prevT R k) (R.drop k)) (hf : r.f ≠ 0) : tdC none R = r.f := by
  rw [hc, tdC_next h, if_neg hf]
theorem td_one {R : List Td} {k : Nat} {r s : Td} (h : R[k]? = some r) (hc : tdC none R = tdC (prevT R k) (R.drop k)) (hf : r.f = 0) (hq : prevT R k = some s) (hl : s.lt r = false) : tdC none R = 1 := by
  rw [hc, tdC_next h, if_pos hf, hq]
  simp [hl]
theorem td_end {R : List Td} {k : Nat} (hc : tdC none R = tdC (prevT R k) (R.drop k)) (hk : R.length ≤ k) : tdC none R = 0 := by
  rw [hc, List.drop_eq_nil_of_le hk]
  cases prevT R k <;> rfl
theorem tdf_pf {a l o nx md lc : Int} {xs : List Int} (h : ¬ pf a l = 0) : tdf a l o xs nx md lc = pf a l := if_neg h
theorem tdf_af {a l o nx md lc : Int} {xs : List Int} (h : pf a l = 0) : tdf a l o xs nx md lc = af o xs nx md lc := if_pos h

theorem prefs_is (a l a' l' z : Int) (w : World) (hz : orL [cmp3 a a', cmp3 l l'] = z) : Calls Tryz.prog 45 #[.agg #[.int .i64 a, .int .i64 l], .agg #[.int .i64 a', .int .i64 l']] w fun e w' => e = .returned (.int .i64 z) ∧ New w w' := hz ▸ prefs_any a l a' l' w

set_option maxHeartbeats 6400000 in
theorem implTF (A : Option Addr) (n c : Nat) (V : List Tv) (z : Int) (w : World) (h : TdAt w A V) (hn : V.length = n) (hm : n ≤ 1048576) (hz : tdF (V.map Tv.r) = z) :
    Calls Tryz.prog 11 #[.slice A n c] w fun e w' => e = .returned (.int .i64 z) ∧ New w w' := by
  have HN : Hid (V.length = n) := hn
  by_cases hbig : 60 < n
  case pos =>
    have HZ : z = 2 := by rw [← hz]; unfold tdF; rw [if_pos (by simp; omega)]
    clear hn hz
    subst HZ
    go_enter Tryz.func11, Tryz.ntmps11
    go_wp2
    go_ret
    exact ⟨rfl, New.refl _⟩
  have HZ : Hid (tdC none (V.map Tv.r) = z) := by
    have := hz
    unfold tdF at this
    rw [if_neg (by simp; omega)] at this
    exact this
  clear hn hz
  go_enter Tryz.func11, Tryz.ntmps11
  go_wp2
  go_loopw [12] (fun i wr => ∃ k : Nat, k ≤ n ∧ i = .int .i64 k ∧ New w wr ∧ tdC none (V.map Tv.r) = tdC (prevT (V.map Tv.r) k) ((V.map Tv.r).drop k)) (fun i _ => n - (intOf i).toNat)
  case atStart => exact ⟨0, Nat.zero_le _, rfl, New.refl _, rfl⟩
  case round =>
    obtain ⟨k, hk, rfl, hnw, hc⟩ := hrel
    have HC : Hid _ := hc
    clear hc
    by_cases hlt : k < n
    · obtain ⟨b, off, a, l, o, nx, md, lc, x, m, d, xs, rfl, hv, hlen, hns, hnl, hmx, q0, q1, q2, q3, q4, q5, q6⟩ := (h.new hnw).at k (by have := HN.out; omega)
      have HL : Hid (xs.length = m) := hlen
      have HR : Hid ((V.map Tv.r)[k]? = some ⟨a, l, o, xs, nx, md, lc⟩) := by show _ = _; rw [List.getElem?_map, hv]; rfl
      have N0 := (New.refl wr).alloc (.cells #[.int .i64 a, .int .i64 l, .int .i64 o, .slice x m d, .int .i64 nx, .int .i64 md, .int .i64 lc] 43)
      have bA := Blk.mk wr wr.heap.size 43 #[.int .i64 a, .int .i64 l, .int .i64 o, .slice x m d, .int .i64 nx, .int .i64 md, .int .i64 lc] rfl
      clear hv hlen
      obtain ⟨f, hf⟩ : ∃ f, Hid (pf a l = f) := ⟨_, rfl⟩
      obtain ⟨f2, hf2⟩ : ∃ f, Hid (af o xs nx md lc = f) := ⟨_, rfl⟩
      go_upto_region 6 with fail
      generalize wr.alloc (.cells #[.int .i64 a, .int .i64 l, .int .i64 o, .slice x m d, .int .i64 nx, .int .i64 md, .int .i64 lc] 43) = wa at *
      have cA := bA.cells
      go_wp2_with fail
      refine (implPF_is a l f _ hf.out).mono ?_
      rintro e w1 ⟨rfl, h1⟩
      have bA1 := bA.new h1
      have N01 := N0.trans h1
      have N1 := hnw.trans N01
      clear bA cA N0 h1 q0 q1 q2 q3 q4 q5 q6
      by_cases h0 : f = 0
      · subst h0
        have cA := bA1.cells
        go_wp2_with fail
        refine (implAF o nx md lc x m d xs _ (hns.new N01) HL.out hmx).mono ?_
        rintro e w2 ⟨rfl, h2⟩
        rw [hf2.out]
        have bA2 := bA1.new h2
        have N2 := N1.trans h2
        clear bA1 cA h2 N1
        by_cases h02 : f2 = 0
        · subst h02
          have HF : Hid (Td.f ⟨a, l, o, xs, nx, md, lc⟩ = 0) := (tdf_af hf.out).trans hf2.out
          go_upto_region 12 with fail
          cases k with
          | zero =>
            go_wp2_with fail
            refine wp_region_quiet_below (by kernel_rfl) (by kernel_rfl) ?_
            repeat (go_big_quiet_step (fail))
            refine wpQuiet_nil ?_
            rintro w3 hn3
            replace hn3 := new_of_regrown hn3
            go_wp2
            go_roundw
            case rel => exact ⟨0 + 1, by omega, by go_num, N2.trans hn3, td_step HR.out HC.out HF.out (by intro s hs; simp [prevT] at hs)⟩
            case measure => simp [intOf]; omega
          | succ j =>
            obtain ⟨b2, off2, a', l', o', nx', md', lc', x', m', d', xs', hA, hv', hlen', hns', hnl', hmx', y0, y1, y2, y3, y4, y5, y6⟩ := (h.new N2).at j (by have := HN.out; omega)
            simp only [Option.some.injEq, Addr.mk.injEq, and_true] at hA
            obtain ⟨rfl, rfl⟩ := hA
            have HP : Hid (prevT (V.map Tv.r) (j + 1) = some ⟨a', l', o', xs', nx', md', lc'⟩) := by
              show _ = _
              unfold prevT
              rw [if_neg (by omega), Nat.add_sub_cancel, List.getElem?_map, hv']; rfl
            clear hv' hlen' hns' hnl' h hns hnl
            have B0 := blk_regrown bA2
            have Y0 := cell_regrown y0
            have Y1 := cell_regrown y1
            obtain ⟨zz, hzz⟩ : ∃ zz, Hid (orL [cmp3 a' a, cmp3 l' l] = zz) := ⟨_, rfl⟩
            have hj1 : ((j + 1 : Nat) : Int) - 1 = (j : Int) := by omega
            by_cases hneg : zz < 0
            · go_wp2_with fail
              refine wp_region_quiet_below (by kernel_rfl) (by kernel_rfl) ?_
              repeat (go_big_quiet_step ((go_at_call 45; exact calls_regrown (prefs_is a' l' a l zz _ hzz.out))))
              refine wpQuiet_nil ?_
              rintro w3 hn3
              replace hn3 := new_of_regrown hn3
              go_wp2
              go_roundw
              case rel => exact ⟨j + 1 + 1, by omega, by go_num, N2.trans hn3, td_step HR.out HC.out HF.out (by intro s hs; rw [HP.out] at hs; obtain rfl := Option.some.inj hs; show decide (orL [cmp3 a' a, cmp3 l' l] < 0) = true; rw [hzz.out]; exact decide_eq_true hneg)⟩
              case measure => simp [intOf]; omega
            · go_wp2_with fail
              refine wp_region_quiet_below (by kernel_rfl) (by kernel_rfl) ?_
              repeat (go_big_quiet_step ((go_at_call 45; exact calls_regrown (prefs_is a' l' a l zz _ hzz.out))))
              refine wpQuiet_nil ?_
              rintro w3 hn3
              replace hn3 := new_of_regrown hn3
              go_wp2
              go_ret
              exact ⟨ret_i64 (by rw [← HZ.out, td_one HR.out HC.out HF.out HP.out (by show decide (orL [cmp3 a' a, cmp3 l' l] < 0) = false; rw [hzz.out]; exact decide_eq_false (by omega))]), N2.trans hn3⟩
        · have hne : (f2 != 0) = true := by simpa using h02
          have HF : Hid (Td.f ⟨a, l, o, xs, nx, md, lc⟩ = f2) := (tdf_af hf.out).trans hf2.out
          go_wp2
          go_ret
          exact ⟨ret_i64 (by rw [← HZ.out, td_bad HR.out HC.out (by rw [HF.out]; exact h02)]; exact HF.out.symm), N2⟩
      · have hne : (f != 0) = true := by simpa using h0
        have HF : Hid (Td.f ⟨a, l, o, xs, nx, md, lc⟩ = f) := (tdf_pf (by rw [hf.out]; exact h0)).trans hf.out
        go_wp2
        go_ret
        exact ⟨ret_i64 (by rw [← HZ.out, td_bad HR.out HC.out (by rw [HF.out]; exact h0)]; exact HF.out.symm), N1⟩
    · go_wp2
      go_ret
      exact ⟨ret_i64 (by rw [← HZ.out, td_end HC.out (by simp [HN.out]; omega)]), hnw⟩

end Go.Proofs.YtjampcfikfafkaaGreat

namespace Go.Proofs.YtjampcfikfafkaaGreat
open Go.RowKit
set_option linter.unusedVariables false

theorem rib_pf {R : List Rt} (hR : ribF R = 0) {r : Rt} (h : r ∈ R) : pf r.a r.l = 0 := by
  have h1 := (ribF_ok hR).2.2 r h
  unfold Rt.f rtf at h1
  split at h1
  · split at h1
    · assumption
    · exact absurd h1 (by assumption)
  · omega

theorem ord_R {R : List Rt} (hR : ribF R = 0) {i j : Nat} {s t : Rt} (hi : R[i]? = some s) (hj : R[j]? = some t) (h : i < j) : s.a < t.a ∨ (s.a = t.a ∧ (s.l < t.l ∨ (s.l = t.l ∧ s.p < t.p))) := by
  obtain ⟨hiL, hie⟩ := List.getElem?_eq_some_iff.1 hi
  obtain ⟨hjL, hje⟩ := List.getElem?_eq_some_iff.1 hj
  have g := List.pairwise_iff_getElem.1 (ribF_ok hR).2.1 i j hiL hjL h
  rw [hie, hje, Rt.lt_iff] at g
  exact g

theorem ord_U {U : List Rt} (hU : U.Pairwise pLt) {i j : Nat} {s t : Rt} (hi : U[i]? = some s) (hj : U[j]? = some t) (h : i < j) : pLt s t := by
  obtain ⟨hiL, hie⟩ := List.getElem?_eq_some_iff.1 hi
  obtain ⟨hjL, hje⟩ := List.getElem?_eq_some_iff.1 hj
  have g := List.pairwise_iff_getElem.1 hU i j hiL hjL h
  rw [hie, hje] at g
  exact g

/-- The first k bests are those of the prefixes of the first i routes. -/
structure Grp (R U : List Rt) (i k : Nat) : Prop where
  le : k ≤ U.length
  of : ∀ j u, j < k → U[j]? = some u → ∃ m r, m < i ∧ R[m]? = some r ∧ u.a = r.a ∧ u.l = r.l
  all : ∀ m r, m < i → R[m]? = some r → ∃ j u, j < k ∧ U[j]? = some u ∧ u.a = r.a ∧ u.l = r.l

theorem Grp.zero (R U : List Rt) : Grp R U 0 0 := ⟨Nat.zero_le _, (by intro j u h; omega), (by intro m r h; omega)⟩
theorem Grp.same {R U : List Rt} {i k : Nat} {r r' : Rt} (h : Grp R U i k) (hi : R[i]? = some r) (hp : R[i - 1]? = some r') (h0 : 0 < i) (e1 : r.a = r'.a) (e2 : r.l = r'.l) : Grp R U (i + 1) k := by
  refine ⟨h.le, fun j u hj hu => ?_, fun m s hm hs => ?_⟩
  · obtain ⟨m, s, h1, h2⟩ := h.of j u hj hu
    exact ⟨m, s, by omega, h2⟩
  · rcases Nat.lt_or_ge m i with e | e
    · exact h.all m s e hs
    · obtain rfl : m = i := by omega
      rw [hi] at hs
      obtain rfl := Option.some.inj hs
      obtain ⟨j, u, h1, h2, h3, h4⟩ := h.all (m - 1) r' (by omega) hp
      exact ⟨j, u, h1, h2, by rw [h3, e1], by rw [h4, e2]⟩
theorem Grp.new {R U : List Rt} {i k : Nat} {r : Rt} (hR : ribF R = 0) (hA : AllOk R U) (h : Grp R U i k) (hi : R[i]? = some r) (hn : i = 0 ∨ ∀ r', R[i - 1]? = some r' → ¬ (r.a = r'.a ∧ r.l = r'.l)) : ∃ u, U[k]? = some u ∧ u.a = r.a ∧ u.l = r.l ∧ Grp R U (i + 1) (k + 1) := by
  have hlt : ∀ m s, m < i → R[m]? = some s → pLt s r := by
    intro m s hm hs
    have g := ord_R hR hs hi hm
    have hiL := (List.getElem?_eq_some_iff.1 hi).1
    rcases hn with e | hn
    · omega
    · have hr' : R[i - 1]? = some R[i - 1] := List.getElem?_eq_getElem (by omega)
      have hne := hn _ hr'
      have g1 := ord_R hR hr' hi (by omega)
      rcases Nat.lt_or_ge m (i - 1) with e | e
      · have g2 := ord_R hR hs hr' e
        unfold pLt
        omega
      · obtain rfl : m = i - 1 := by omega
        rw [hr'] at hs
        obtain rfl := Option.some.inj hs
        unfold pLt
        omega
  obtain ⟨u, huU, e1, e2⟩ := hA.all r (List.mem_of_getElem? hi)
  obtain ⟨j, hj⟩ := List.getElem?_of_mem huU
  have hjk : k ≤ j := by
    rcases Nat.lt_or_ge j k with e | e
    · obtain ⟨m, s, h1, h2, h3, h4⟩ := h.of j u e hj
      have := hlt m s h1 h2
      unfold pLt at this
      omega
    · exact e
  have hkj : ¬ k < j := by
    intro e
    have hjL := (List.getElem?_eq_some_iff.1 hj).1
    have hv : U[k]? = some U[k] := List.getElem?_eq_getElem (by omega)
    have g1 := ord_U hA.srt hv hj e
    obtain ⟨m, hm⟩ := List.getElem?_of_mem (hA.best _ (List.mem_of_getElem? hv)).mem
    have hmi : m < i := by
      rcases Nat.lt_trichotomy m i with e3 | e3 | e3
      · exact e3
      · subst e3
        rw [hi] at hm
        have e4 := Option.some.inj hm
        rw [← e4] at g1
        unfold pLt at g1
        omega
      · have g2 := ord_R hR hi hm e3
        unfold pLt at g1
        omega
    obtain ⟨j', u', h1, h2, h3, h4⟩ := h.all m _ hmi hm
    have g3 := ord_U hA.srt h2 hv h1
    unfold pLt at g3
    omega
  obtain rfl : j = k := by omega
  refine ⟨u, hj, e1, e2, by have := (List.getElem?_eq_some_iff.1 hj).1; omega, fun j' v hj' hv => ?_, fun m s hm hs => ?_⟩
  · rcases Nat.lt_or_ge j' j with e | e
    · obtain ⟨m, s, h1, h2⟩ := h.of j' v e hv
      exact ⟨m, s, by omega, h2⟩
    · obtain rfl : j' = j := by omega
      rw [hj] at hv
      obtain rfl := Option.some.inj hv
      exact ⟨i, r, by omega, hi, e1, e2⟩
  · rcases Nat.lt_or_ge m i with e | e
    · obtain ⟨j', v, h1, h2⟩ := h.all m s e hs
      exact ⟨j', v, by omega, h2⟩
    · obtain rfl : m = i := by omega
      rw [hi] at hs
      obtain rfl := Option.some.inj hs
      exact ⟨j, u, by omega, hj, e1, e2⟩
theorem Grp.done {R U : List Rt} {k : Nat} (hA : AllOk R U) (h : Grp R U R.length k) : k = U.length := by
  rcases Nat.lt_or_ge k U.length with e | e
  · have hv : U[k]? = some U[k] := List.getElem?_eq_getElem e
    obtain ⟨m, hm⟩ := List.getElem?_of_mem (hA.best _ (List.mem_of_getElem? hv)).mem
    obtain ⟨j, u, h1, h2, h3, h4⟩ := h.all m _ (List.getElem?_eq_some_iff.1 hm).1 hm
    have g := ord_U hA.srt h2 hv h1
    unfold pLt at g
    omega
  · have := h.le
    omega

/-- What BestFor answers of a prefix that is there. -/
theorem BfA.here {R : List Rt} {a l z : Int} {r s : Rt} (hR : ribF R = 0) (hs : s ∈ R) (e1 : s.a = a) (e2 : s.l = l) (h : BfA R a l z r) : z = 0 ∧ BfOk R a l 0 r ∧ r.a = a ∧ r.l = l ∧ ¬ cmpW s.p s.o s.md s.lc s.xs.length r.p r.o r.md r.lc r.xs.length < 0 := by
  have hk : keepS a l s = true := by unfold keepS; simp [e1, e2]
  have hp : pf a l = 0 := by rw [← e1, ← e2]; exact rib_pf hR hs
  rcases h with ⟨h1, -⟩ | ⟨-, h1, -⟩ | ⟨-, -, h⟩
  · exact absurd hR h1
  · exact absurd hp h1
  rcases h with ⟨h1, h2, h3⟩ | ⟨h1, h2, h3, h4⟩
  · rw [h3 s hs] at hk
    cases hk
  · subst h1
    have e3 := of_decide_eq_true h3
    refine ⟨rfl, .inr ⟨rfl, h2, h3, h4⟩, e3.1.symm, e3.2.symm, fun hc => h4 s hs hk ?_⟩
    rw [hcmp_lt]
    exact .inr ⟨by omega, .inr ⟨by omega, hc⟩⟩

end Go.Proofs.YtjampcfikfafkaaGreat

namespace Go.Proofs.YtjampcfikfafkaaGreat
open Go.RowKit Go.Sort
set_option linter.unusedVariables false
set_option linter.unusedSimpArgs false
set_option maxRecDepth 100000

def tdLt (s r : Td) : Prop := s.a < r.a ∨ (s.a = r.a ∧ s.l < r.l)
theorem td_lt_of {s r : Td} (h : tdLt s r) : s.lt r = true := by
  unfold Td.lt
  rcases h with h | ⟨h1, h2⟩
  · simp [orL, cmp8_lt h]
  · simp [orL, cmp8_eq h1, cmp8_lt h2]
theorem tdC_zero : ∀ (R : List Td) (q : Option Td), R.Pairwise tdLt → (∀ r ∈ R, r.f = 0) → (∀ s, q = some s → ∀ r ∈ R, tdLt s r) → tdC q R = 0
  | [], q, _, _, _ => by cases q <;> rfl
  | r :: R, q, hp, hf, hq => by
    rw [List.pairwise_cons] at hp
    have ih := tdC_zero R (some r) hp.2 (fun s hs => hf s (List.mem_cons_of_mem _ hs)) (by intro s hs; obtain rfl := Option.some.inj hs; exact hp.1)
    cases q with
    | none =>
      unfold tdC
      rw [if_pos (hf r (List.mem_cons_self ..))]
      exact ih
    | some s =>
      unfold tdC
      rw [if_pos (hf r (List.mem_cons_self ..)), if_pos (td_lt_of (hq s rfl r (List.mem_cons_self ..)))]
      exact ih

theorem expO_is {rs : List Ru} {z t : Int} {r : Rt} {d : Td} (h : expO rs z t r = some d) : d.a = r.a ∧ d.l = r.l ∧ d.nx = t ∧ z ∈ d.xs := by
  unfold expO at h
  split at h
  · obtain rfl := Option.some.inj h
    exact ⟨rfl, rfl, rfl, List.mem_cons_self ..⟩
  · cases h
theorem expT_mem {q : Int} {rs : List Ru} {z t : Int} {U : List Rt} {d : Td} (h : d ∈ expT q rs z t U) : ∃ r ∈ U, ¬ r.p = q ∧ expO rs z t r = some d := by
  unfold expT at h
  obtain ⟨r, hr, hd⟩ := List.mem_filterMap.1 h
  split at hd
  · cases hd
  · rename_i hp
    exact ⟨r, hr, hp, hd⟩
theorem expT_srt {q : Int} {rs : List Ru} {z t : Int} : ∀ (U : List Rt), U.Pairwise pLt → (expT q rs z t U).Pairwise tdLt
  | [], _ => List.Pairwise.nil
  | r :: U, hp => by
    rw [List.pairwise_cons] at hp
    have ih := expT_srt (q := q) (rs := rs) (z := z) (t := t) U hp.2
    have e : expT q rs z t (r :: U) = expT q rs z t [r] ++ expT q rs z t U := by
      show expT q rs z t ([r] ++ U) = _
      unfold expT
      rw [List.filterMap_append]
    rw [e]
    refine List.pairwise_append.2 ⟨?_, ih, ?_⟩
    · unfold expT
      simp only [List.filterMap_cons, List.filterMap_nil]
      split
      · exact List.Pairwise.nil
      · exact List.pairwise_singleton _ _
    · intro s hs d hd
      obtain ⟨r1, hr1, -, h1⟩ := expT_mem hs
      obtain ⟨r2, hr2, -, h2⟩ := expT_mem hd
      obtain rfl := List.mem_singleton.1 hr1
      have h3 := hp.1 r2 hr2
      obtain ⟨a1, l1, -⟩ := expO_is h1
      obtain ⟨a2, l2, -⟩ := expO_is h2
      unfold pLt at h3
      unfold tdLt
      omega
theorem expO_f {rs : List Ru} {z t : Int} {r : Rt} {d : Td} (hrs : rsf rs = 0) (hz : 1 ≤ z ∧ z ≤ 65535) (ht : 0 ≤ t ∧ t ≤ 65535) (hr : r.f = 0) (h : expO rs z t r = some d) : d.f = 0 := by
  obtain ⟨h1, h2⟩ := rt_af hr
  unfold expO at h
  split at h
  · rename_i hc
    obtain rfl := Option.some.inj h
    obtain ⟨k1, k2, k3⟩ := af_ok8 (apF_af (p := r.a) (q := r.l) hz h2 rs 0 (rsf_ok hrs).2 hc.1)
    unfold Td.f tdf
    dsimp only
    rw [if_pos h1]
    refine af_of8 ⟨k1.1, ht, by unfold Wd; omega, by unfold Wd; omega⟩ ?_ ?_
    · simp only [List.length_cons]
      omega
    · intro x hx
      rcases List.mem_cons.1 hx with rfl | hx
      · exact hz
      · exact k3 x hx
  · cases h
theorem pair_lenE : ∀ (U R : List Rt), U.Pairwise pLt → (∀ x ∈ U, x ∈ R) → U.length ≤ R.length
  | [], R, _, _ => Nat.zero_le _
  | x :: xs, R, hp, hs => by
    rw [List.pairwise_cons] at hp
    obtain ⟨A, B, rfl⟩ := List.append_of_mem (hs x (List.mem_cons_self ..))
    have h := pair_lenE xs (A ++ B) hp.2 (fun y hy => by
      have h1 := hs y (List.mem_cons_of_mem _ hy)
      have h2 := hp.1 y hy
      rcases List.mem_append.1 h1 with h1 | h1
      · exact List.mem_append_left _ h1
      · rcases List.mem_cons.1 h1 with h1 | h1
        · subst h1
          unfold pLt at h2
          omega
        · exact List.mem_append_right _ h1)
    simp only [List.length_append, List.length_cons] at h ⊢
    omega
theorem expT_ok {R U : List Rt} {q : Int} {rs : List Ru} {z t : Int} (hf : exf R q rs z t = 0) (hA : AllOk R U) : tdF (expT q rs z t U) = 0 := by
  obtain ⟨h1, -, h3, h4, h5⟩ := exf_ok hf
  have hl : (expT q rs z t U).length ≤ 60 := by
    have e1 := pair_lenE U R hA.srt (fun x hx => (hA.best x hx).mem)
    have e2 : (expT q rs z t U).length ≤ U.length := by unfold expT; exact List.length_filterMap_le _ _
    have e3 := (ribF_ok h1).1
    omega
  unfold tdF
  rw [if_neg (by omega)]
  refine tdC_zero _ none (expT_srt U hA.srt) (fun d hd => ?_) (by intro s hs; cases hs)
  obtain ⟨r, hr, -, h⟩ := expT_mem hd
  exact expO_f h3 h4 h5 ((ribF_ok h1).2.2 _ (hA.best r hr).mem) h
theorem expT_best {R U : List Rt} {q : Int} {rs : List Ru} {z t zb : Int} {d : Td} {b : Rt} (hf : exf R q rs z t = 0) (hA : AllOk R U) (hd : d ∈ expT q rs z t U) (hb : BfA R d.a d.l zb b) : zb = 0 ∧ ¬ b.p = q ∧ z ∈ d.xs ∧ d.nx = t := by
  obtain ⟨h1, -⟩ := exf_ok hf
  obtain ⟨r, hr, hp, h⟩ := expT_mem hd
  obtain ⟨e1, e2, e3, e4⟩ := expO_is h
  have hbr := hA.best r hr
  obtain ⟨k1, k2, -⟩ := hb.here h1 hbr.mem e1.symm e2.symm
  rw [← e1, ← e2] at hbr
  obtain ⟨-, e⟩ := BfOk.det h1 hbr k2
  rw [← e]
  exact ⟨k1, hp, e4, e3⟩

end Go.Proofs.YtjampcfikfafkaaGreat

namespace Go.Proofs.YtjampcfikfafkaaGreat
open Go.RowKit

theorem lbig_no (a : Option Addr) (n c : Nat) (w : World) (h : ¬ 1048576 < n) : Calls Tryz.prog 5 #[.slice a n c] w fun e w' => e = .returned (.bool false) ∧ w' = w := by
  have hd : decide ((1048576 : Int) < (n : Int)) = false := by simp; omega
  go_enter Tryz.func5, Tryz.ntmps5
  go_wp2
  go_ret
  exact ⟨rfl, rfl⟩

theorem lbig_yes (a : Option Addr) (n c : Nat) (w : World) (h : 1048576 < n) : Calls Tryz.prog 5 #[.slice a n c] w fun e w' => e = .returned (.bool true) ∧ w' = w := by
  have hd : decide ((1048576 : Int) < (n : Int)) = true := by simp; omega
  go_enter Tryz.func5, Tryz.ntmps5
  go_wp2
  go_ret
  exact ⟨rfl, rfl⟩

end Go.Proofs.YtjampcfikfafkaaGreat
