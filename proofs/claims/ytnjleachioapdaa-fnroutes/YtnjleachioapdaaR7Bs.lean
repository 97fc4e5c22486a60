/- What is proved here: the order in which routes stand, and what looking for a route's place answers, for lists of at most 1048576 routes. -/
import Derived.Test.YtnjleachioapdaaR7Rib
import Derived.Test.YtnjleachioapdaaR7Ord
import Derived.Deep.CutRange
namespace Go.Proofs.Ytnjleachioapdaa
open Go.RowKit Go.Sort
set_option linter.unusedVariables false

theorem cmpR_lt (p a l p' a' l' : Int) : cmpR p a l p' a' l' < 0 ↔ (a < a' ∨ (a = a' ∧ (l < l' ∨ (l = l' ∧ p < p')))) := by
  have key : ∀ c : Int, ∀ q : List Int, orL (c :: q) < 0 ↔ (c < 0 ∨ (c = 0 ∧ orL q < 0)) := by
    intro c q
    by_cases h : c = 0
    · simp [orL, h]
    · simp [orL, h]
  have z2 : orL [cmp3 a a', cmp3 l l'] = 0 ↔ (a = a' ∧ l = l') := by
    rcases Int.lt_trichotomy a a' with h | h | h
    · rw [cmp3_lt h]; simp [orL]; omega
    · rw [cmp3_eq h]
      rcases Int.lt_trichotomy l l' with k | k | k
      · rw [cmp3_lt k]; simp [orL]; omega
      · rw [cmp3_eq k]; simp [orL, h, k]
      · rw [cmp3_gt k]; simp [orL]; omega
    · rw [cmp3_gt h]; simp [orL]; omega
  unfold cmpR
  rw [key, z2, orL_lt, orL_lt, orL_lt]
  simp only [orL]
  omega
theorem Rt.lt_iff (s r : Rt) : s.lt r = true ↔ (s.a < r.a ∨ (s.a = r.a ∧ (s.l < r.l ∨ (s.l = r.l ∧ s.p < r.p)))) := by
  unfold Rt.lt
  rw [decide_eq_true_iff, cmpR_lt]
theorem Rt.lt_tra {s r q : Rt} (h : s.lt r = true) (k : r.lt q = true) : s.lt q = true := by
  rw [Rt.lt_iff] at *
  omega

/-- In order. -/
abbrev Ord7 (R : List Rt) : Prop := R.Pairwise (fun s r => s.lt r = true)
theorem ribC_ord : ∀ (R : List Rt) (q : Option Rt), ribC q R = 0 → Ord7 R ∧ (∀ s, q = some s → ∀ r ∈ R, s.lt r = true) ∧ (∀ r ∈ R, r.f = 0)
  | [], q, h => by simp
  | r :: R, q, h => by
    have hh : r.f = 0 ∧ (∀ s, q = some s → s.lt r = true) ∧ ribC (some r) R = 0 := by
      cases q with
      | none =>
        unfold ribC at h
        split at h
        · exact ⟨by assumption, by simp, h⟩
        · contradiction
      | some s =>
        unfold ribC at h
        split at h
        · split at h
          · refine ⟨by assumption, ?_, h⟩
            intro s' e
            obtain rfl := Option.some.inj e
            assumption
          · omega
        · contradiction
    obtain ⟨h1, h2, h3⟩ := hh
    obtain ⟨i1, i2, i3⟩ := ribC_ord R (some r) h3
    refine ⟨List.pairwise_cons.2 ⟨fun u hu => i2 r rfl u hu, i1⟩, ?_, ?_⟩
    · intro s hs u hu
      rcases List.mem_cons.1 hu with rfl | hu
      · exact h2 s hs
      · exact Rt.lt_tra (h2 s hs) (i2 r rfl u hu)
    · intro u hu
      rcases List.mem_cons.1 hu with rfl | hu
      · exact h1
      · exact i3 u hu
theorem ribF_ok {R : List Rt} (h : ribF R = 0) : R.length ≤ 60 ∧ Ord7 R ∧ (∀ r ∈ R, r.f = 0) := by
  unfold ribF at h
  split at h
  · omega
  · obtain ⟨h1, -, h3⟩ := ribC_ord R none h
    exact ⟨by omega, h1, h3⟩

/-- How many at the beginning are so. -/
def tw (K : Rt → Bool) (R : List Rt) : Nat := (R.takeWhile K).length
theorem tw_of (K : Rt → Bool) : ∀ (R : List Rt) (i : Nat), i ≤ R.length → (∀ j s, j < i → R[j]? = some s → K s = true) → (∀ s, R[i]? = some s → K s = false) → tw K R = i
  | [], i, hi, _, _ => by simp at hi; simp [tw, hi]
  | r :: R, 0, _, _, h2 => by
    have := h2 r rfl
    simp [tw, this]
  | r :: R, i + 1, hi, h1, h2 => by
    have h0 := h1 0 r (by omega) rfl
    have ih := tw_of K R i (by simpa using hi) (fun j s hj hs => h1 (j + 1) s (by omega) (by simpa using hs)) (fun s hs => h2 s (by simpa using hs))
    unfold tw at ih ⊢
    simp [h0, ih]

set_option maxRecDepth 100000 in
set_option maxHeartbeats 6400000 in
theorem search_any (p' a' l' o' nx' md' lc' : Int) (x' : Option Addr) (n' c' : Nat) (xs' : List Int) (A : Option Addr) (N cc : Nat) (V : List Rv) (w : World) (h : RtAt w A V) (hn : V.length = N) (hm : N ≤ 1048576) (hord : Ord7 (V.map Rv.r)) :
    Calls Try.prog 20 #[.slice A N cc, .agg #[.int .i64 p', .int .i64 a', .int .i64 l', .int .i64 o', .slice x' n' c', .int .i64 nx', .int .i64 md', .int .i64 lc'], .func (.func 21) #[] #[]] w fun e w' => (∃ t, e = .returned (.tuple #[.int .i64 (tw (fun s => s.lt ⟨p', a', l', o', xs', nx', md', lc'⟩) (V.map Rv.r) : Nat), .bool t])) ∧ New w w' := by
  have HN : Hid (V.length = N) := hn
  have HO : Hid (∀ (i j : Nat) (s r : Rt), i ≤ j → (V.map Rv.r)[i]? = some s → (V.map Rv.r)[j]? = some r → r.lt ⟨p', a', l', o', xs', nx', md', lc'⟩ = true → s.lt ⟨p', a', l', o', xs', nx', md', lc'⟩ = true) := by
    intro i j s r hij hi hj hr
    rcases Nat.lt_or_eq_of_le hij with e | e
    · obtain ⟨hi1, hi2⟩ := List.getElem?_eq_some_iff.1 hi
      obtain ⟨hj1, hj2⟩ := List.getElem?_eq_some_iff.1 hj
      have := List.pairwise_iff_getElem.1 hord i j hi1 hj1 e
      rw [hi2, hj2] at this
      exact Rt.lt_tra this hr
    · subst e
      rw [hi] at hj
      obtain rfl := Option.some.inj hj
      exact hr
  have N0 := (New.refl w).alloc (.cells #[.int .i64 p', .int .i64 a', .int .i64 l', .int .i64 o', .slice x' n' c', .int .i64 nx', .int .i64 md', .int .i64 lc'] 31)
  have bT := Blk.mk w w.heap.size 31 #[.int .i64 p', .int .i64 a', .int .i64 l', .int .i64 o', .slice x' n' c', .int .i64 nx', .int .i64 md', .int .i64 lc'] rfl
  clear hn hord
  go_enter Try.func20, Try.ntmps20
  go_wp2
  go_loopw [9, 10] (fun s i wr => ∃ (k j : Nat), k ≤ j ∧ j ≤ N ∧ s = .int .i64 k ∧ i = .int .i64 j ∧ New w wr ∧ Blk wr w.heap.size 31 #[.int .i64 p', .int .i64 a', .int .i64 l', .int .i64 o', .slice x' n' c', .int .i64 nx', .int .i64 md', .int .i64 lc'] ∧ (∀ (u : Nat) (r : Rt), u < k → (V.map Rv.r)[u]? = some r → r.lt ⟨p', a', l', o', xs', nx', md', lc'⟩ = true) ∧ (∀ (u : Nat) (r : Rt), j ≤ u → (V.map Rv.r)[u]? = some r → r.lt ⟨p', a', l', o', xs', nx', md', lc'⟩ = false)) (fun s i _ => (intOf i).toNat - (intOf s).toNat)
  case atStart =>
    refine ⟨0, N, Nat.zero_le _, Nat.le_refl _, rfl, rfl, N0, bT, by intro u r hu; omega, ?_⟩
    intro u r hu hr
    have := (List.getElem?_eq_some_iff.1 hr).1
    simp at this
    have := HN.out
    omega
  case round =>
    clear N0 bT
    obtain ⟨k, j, hkj, hjN, rfl, rfl, hnw, bTr, hA1, hB1⟩ := hrel
    have HA : Hid _ := hA1
    have HB : Hid _ := hB1
    clear hA1 hB1
    by_cases hlt : k < j
    · obtain ⟨hh, hhd⟩ : ∃ q : Nat, q = (k + j) / 2 := ⟨_, rfl⟩
      have hk1 : k ≤ hh := by omega
      have hj1 : hh < j := by omega
      obtain ⟨b, off, p, a, l, o, nx, md, lc, x, m, d, xs, rfl, hv, hlen, hns, hnl, hmx, q0, q1, q2, q3, q4, q5, q6, q7⟩ := (h.new hnw).at hh (by have := HN.out; omega)
      have HR : Hid ((V.map Rv.r)[hh]? = some ⟨p, a, l, o, xs, nx, md, lc⟩) := by show _ = _; rw [List.getElem?_map, hv]; rfl
      obtain ⟨z, hz⟩ : ∃ z, Hid (cmpR p a l p' a' l' = z) := ⟨_, rfl⟩
      clear hv hlen hns hnl
      have hcast : Hid (((k : Int) + (j : Int)) / 2 = (hh : Int)) := by show _ = _; omega
      have X0 := cell_regrown q0
      have X1 := cell_regrown q1
      have X2 := cell_regrown q2
      have X3 := cell_regrown q3
      have X4 := cell_regrown q4
      have X5 := cell_regrown q5
      have X6 := cell_regrown q6
      have X7 := cell_regrown q7
      have BT := blk_regrown bTr
      have HLT : Hid (Rt.lt ⟨p, a, l, o, xs, nx, md, lc⟩ ⟨p', a', l', o', xs', nx', md', lc'⟩ = decide (z < 0)) := by
        show _ = _
        unfold Rt.lt
        rw [hz.out]
      have HNL : Hid (hh < N) := by show hh < N; omega
      have hhN : hh < N := HNL.out
      clear hhd
      go_upto_region 5 with fail
      simp only [hcast.out]
      by_cases hneg : z < 0
      · refine wp_region_quiet_below (by kernel_rfl) (by kernel_rfl) ?_
        repeat (go_big_quiet_step ((go_at_call 21; exact calls_regrown (routes_is p a l o nx md lc x m d p' a' l' o' nx' md' lc' x' n' c' z _ hz.out))))
        refine wpQuiet_nil ?_
        rintro w2 hn2
        replace hn2 := new_of_regrown hn2
        clear X0 X1 X2 X3 X4 X5 X6 X7 BT hcast
        go_wp2
        go_roundw
        case rel =>
          refine ⟨hh + 1, j, by omega, hjN, by go_num, rfl, hnw.trans hn2, bTr.new hn2, ?_, HB.out⟩
          intro u r hu hr
          have ht : Rt.lt ⟨p, a, l, o, xs, nx, md, lc⟩ ⟨p', a', l', o', xs', nx', md', lc'⟩ = true := by rw [HLT.out]; exact decide_eq_true hneg
          exact HO.out u hh r _ (by omega) hr HR.out ht
        case measure => simp [intOf]; omega
      · refine wp_region_quiet_below (by kernel_rfl) (by kernel_rfl) ?_
        repeat (go_big_quiet_step ((go_at_call 21; exact calls_regrown (routes_is p a l o nx md lc x m d p' a' l' o' nx' md' lc' x' n' c' z _ hz.out))))
        refine wpQuiet_nil ?_
        rintro w2 hn2
        replace hn2 := new_of_regrown hn2
        clear X0 X1 X2 X3 X4 X5 X6 X7 BT hcast
        go_wp2
        go_roundw
        case rel =>
          refine ⟨k, hh, hk1, by omega, rfl, by go_num, hnw.trans hn2, bTr.new hn2, HA.out, ?_⟩
          intro u r hu hr
          cases hc : r.lt ⟨p', a', l', o', xs', nx', md', lc'⟩ with
          | false => rfl
          | true =>
            have h1 := HO.out hh u _ r hu HR.out hr hc
            rw [HLT.out] at h1
            exact absurd (of_decide_eq_true h1) (by omega)
        case measure => simp [intOf]; omega
    · obtain rfl : k = j := by omega
      have HT : Hid (tw (fun s => s.lt ⟨p', a', l', o', xs', nx', md', lc'⟩) (V.map Rv.r) = k) := tw_of _ _ k (by simp [HN.out]; exact hjN) (fun u r hu hr => HA.out u r hu hr) (fun r hr => HB.out k r (Nat.le_refl _) hr)
      by_cases hkN : k < N
      · obtain ⟨b, off, p, a, l, o, nx, md, lc, x, m, d, xs, rfl, hv, hlen, hns, hnl, hmx, q0, q1, q2, q3, q4, q5, q6, q7⟩ := (h.new hnw).at k (by have := HN.out; omega)
        obtain ⟨z, hz⟩ : ∃ z, Hid (cmpR p a l p' a' l' = z) := ⟨_, rfl⟩
        clear hv hlen hns hnl
        have X0 := cell_regrown q0
        have X1 := cell_regrown q1
        have X2 := cell_regrown q2
        have X3 := cell_regrown q3
        have X4 := cell_regrown q4
        have X5 := cell_regrown q5
        have X6 := cell_regrown q6
        have X7 := cell_regrown q7
        have BT := blk_regrown bTr
        by_cases hz0 : z = 0
        · subst hz0
          go_upto_region 8 with fail
          refine wp_region_quiet_below (by kernel_rfl) (by kernel_rfl) ?_
          repeat (go_big_quiet_step ((go_at_call 21; exact calls_regrown (routes_is p a l o nx md lc x m d p' a' l' o' nx' md' lc' x' n' c' 0 _ hz.out))))
          refine wpQuiet_nil ?_
          rintro w2 hn2
          replace hn2 := new_of_regrown hn2
          clear X0 X1 X2 X3 X4 X5 X6 X7 BT
          go_wp2
          exact bodyPost_ret (v := .tuple #[.int .i64 k, .bool true]) (by simp [results, Try.results20, go_sem]) rfl ⟨⟨true, by rw [HT.out]⟩, hnw.trans hn2⟩
        · have hzz : (z == 0) = false := by simpa using hz0
          go_upto_region 8 with fail
          refine wp_region_quiet_below (by kernel_rfl) (by kernel_rfl) ?_
          repeat (go_big_quiet_step ((go_at_call 21; exact calls_regrown (routes_is p a l o nx md lc x m d p' a' l' o' nx' md' lc' x' n' c' z _ hz.out))))
          refine wpQuiet_nil ?_
          rintro w2 hn2
          replace hn2 := new_of_regrown hn2
          clear X0 X1 X2 X3 X4 X5 X6 X7 BT
          go_wp2
          exact bodyPost_ret (v := .tuple #[.int .i64 k, .bool false]) (by simp [results, Try.results20, go_sem]) rfl ⟨⟨false, by rw [HT.out]⟩, hnw.trans hn2⟩
      · go_upto_region 8 with fail
        refine wp_region_quiet_below (by kernel_rfl) (by kernel_rfl) ?_
        repeat (go_big_quiet_step (fail))
        refine wpQuiet_nil ?_
        rintro w2 hn2
        replace hn2 := new_of_regrown hn2
        go_wp2
        exact bodyPost_ret (v := .tuple #[.int .i64 k, .bool false]) (by simp [results, Try.results20, go_sem]) rfl ⟨⟨false, by rw [HT.out]⟩, hnw.trans hn2⟩

end Go.Proofs.Ytnjleachioapdaa
