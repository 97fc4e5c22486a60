/- What is proved here: what SameTold answers, in the program and in the model, for lists of at most 1048576 things told with paths of at most 1048576 numbers. -/
import Derived.Test.YtkahlmkhancloabT8Own
import Derived.Deep.CutRange
namespace Go.Proofs.Ytkahlmkhancloab
open Go.RowKit Go.Sort
set_option linter.unusedVariables false

theorem td_eq {a l o nx md lc a' l' o' nx' md' lc' : Int} {xs xs' : List Int} : (Td.mk a l o xs nx md lc = Td.mk a' l' o' xs' nx' md' lc') ↔ (a = a' ∧ l = l' ∧ SaP o xs nx md lc o' xs' nx' md' lc') := by
  simp only [Td.mk.injEq, SaP]
  constructor
  · rintro ⟨h1, h2, h3, h4, h5, h6, h7⟩; exact ⟨h1, h2, h3, h5, h6, h7, h4⟩
  · rintro ⟨h1, h2, h3, h5, h6, h7, h4⟩; exact ⟨h1, h2, h3, h4, h5, h6, h7⟩

set_option maxHeartbeats 3200000 in
theorem same_each (a l o nx md lc : Int) (x : Option Addr) (n c : Nat) (xs : List Int) (a' l' o' nx' md' lc' : Int) (x' : Option Addr) (n' c' : Nat) (xs' : List Int) (b : Bool) (w : World) (h : NsAt w x xs) (h' : NsAt w x' xs') (hn : xs.length = n) (hn' : xs'.length = n') (hm : n ≤ 1048576) (hm' : n' ≤ 1048576) (hb : b = true ↔ Td.mk a l o xs nx md lc = Td.mk a' l' o' xs' nx' md' lc') :
    Calls Try.prog 102 #[.agg #[.int .i64 a, .int .i64 l, .int .i64 o, .slice x n c, .int .i64 nx, .int .i64 md, .int .i64 lc], .agg #[.int .i64 a', .int .i64 l', .int .i64 o', .slice x' n' c', .int .i64 nx', .int .i64 md', .int .i64 lc']] w fun e w' => e = .returned (.bool b) ∧ New w w' := by
  have HB : Hid _ := hb
  rw [td_eq] at hb
  have N0 : New w ((w.alloc (.cells #[.int .i64 a, .int .i64 l, .int .i64 o, .slice x n c, .int .i64 nx, .int .i64 md, .int .i64 lc] 120)).alloc (.cells #[.int .i64 a', .int .i64 l', .int .i64 o', .slice x' n' c', .int .i64 nx', .int .i64 md', .int .i64 lc'] 120)) := ((New.refl w).alloc _).alloc _
  have bA : Blk ((w.alloc (.cells #[.int .i64 a, .int .i64 l, .int .i64 o, .slice x n c, .int .i64 nx, .int .i64 md, .int .i64 lc] 120)).alloc (.cells #[.int .i64 a', .int .i64 l', .int .i64 o', .slice x' n' c', .int .i64 nx', .int .i64 md', .int .i64 lc'] 120)) w.heap.size 120 #[.int .i64 a, .int .i64 l, .int .i64 o, .slice x n c, .int .i64 nx, .int .i64 md, .int .i64 lc] := (Blk.mk _ _ _ _ rfl).alloc _
  have bB : Blk ((w.alloc (.cells #[.int .i64 a, .int .i64 l, .int .i64 o, .slice x n c, .int .i64 nx, .int .i64 md, .int .i64 lc] 120)).alloc (.cells #[.int .i64 a', .int .i64 l', .int .i64 o', .slice x' n' c', .int .i64 nx', .int .i64 md', .int .i64 lc'] 120)) (w.heap.size + 1) 120 #[.int .i64 a', .int .i64 l', .int .i64 o', .slice x' n' c', .int .i64 nx', .int .i64 md', .int .i64 lc'] := Blk.mk _ _ _ _ (by simp)
  have HN : Hid (xs.length = n) := hn
  have HN' : Hid (xs'.length = n') := hn'
  have cA := bA.cells
  have cB := bB.cells
  clear hn hn'
  by_cases h1 : a = a'
  · subst h1
    by_cases h2 : l = l'
    · subst h2
      have HV : Hid (decide (SaP o xs nx md lc o' xs' nx' md' lc') = b) := by
        show _ = _
        cases b
        · exact decide_eq_false (fun e => by have := hb.2 ⟨rfl, rfl, e⟩; cases this)
        · exact decide_eq_true (hb.1 rfl).2.2
      clear hb
      go_enter Try.func102, Try.ntmps102
      go_wp2_with fail
      refine (implSA o nx md lc o' nx' md' lc' x x' n n' c c' xs xs' b _ (h.new N0) (h'.new N0) HN.out HN'.out hm hm' HV.out).mono ?_
      rintro e w1 ⟨rfl, hn1⟩
      go_wp2
      go_ret
      exact ⟨rfl, N0.trans hn1⟩
    · have HV : Hid (false = b) := by
        cases b
        · rfl
        · exact absurd (hb.1 rfl).2.1 h2
      clear hb
      go_enter Try.func102, Try.ntmps102
      go_wp2
      go_ret
      exact ⟨ret_bool HV.out, N0⟩
  · have HV : Hid (false = b) := by
      cases b
      · rfl
      · exact absurd (hb.1 rfl).1 h1
    clear hb
    go_enter Try.func102, Try.ntmps102
    go_wp2
    go_ret
    exact ⟨ret_bool HV.out, N0⟩

theorem take_td {R S : List Td} {k : Nat} {z : Td} (h : R.take k = S.take k) (hx : R[k]? = some z) (hy : S[k]? = some z) : R.take (k + 1) = S.take (k + 1) := by
  obtain ⟨h1, e1⟩ := List.getElem?_eq_some_iff.1 hx
  obtain ⟨h2, e2⟩ := List.getElem?_eq_some_iff.1 hy
  rw [List.take_succ_eq_append_getElem h1, List.take_succ_eq_append_getElem h2, h, e1, e2]

set_option maxHeartbeats 6400000 in
theorem equal_td (A B : Option Addr) (n m c d0 : Nat) (V U : List Tv) (v : Bool) (w : World) (hA : TdAt w A V) (hB : TdAt w B U) (hn : V.length = n) (hm : U.length = m) (hn1 : n ≤ 1048576) (hm1 : m ≤ 1048576) (hv : v = true ↔ V.map Tv.r = U.map Tv.r) :
    Calls Try.prog 101 #[.slice A n c, .slice B m d0, .func (.func 102) #[] #[]] w fun e w' => e = .returned (.bool v) ∧ New w w' := by
  have HN : Hid (V.length = n) := hn
  have HM : Hid (U.length = m) := hm
  have HV : Hid (v = true ↔ V.map Tv.r = U.map Tv.r) := hv
  clear hn hm hv
  by_cases hnm : n = m
  · subst hnm
    have hnn : ((n : Int) != (n : Int)) = false := by simp
    go_enter Try.func101, Try.ntmps101
    go_wp2
    go_loopw [17] (fun i wr => ∃ k : Nat, k ≤ n ∧ i = .int .i64 k ∧ New w wr ∧ (V.map Tv.r).take k = (U.map Tv.r).take k) (fun i _ => n - (intOf i).toNat)
    case atStart => exact ⟨0, Nat.zero_le _, rfl, New.refl _, rfl⟩
    case round =>
      obtain ⟨k, hk, rfl, hnw, ht⟩ := hrel
      have HT : Hid _ := ht
      clear ht
      by_cases hlt : k < n
      · obtain ⟨b, off, a, l, o, nx, md, lc, x, m, d, xs, rfl, hp, hlen, hns, hnl, hmx, q0, q1, q2, q3, q4, q5, q6⟩ := (hA.new hnw).at k (by have := HN.out; omega)
        have HL : Hid (xs.length = m) := hlen
        have HR : Hid ((V.map Tv.r)[k]? = some ⟨a, l, o, xs, nx, md, lc⟩) := by show _ = _; rw [List.getElem?_map, hp]; rfl
        clear hp hlen hA hnl
        have NA1 : New wr (wr.alloc (.cells #[.int .i64 a, .int .i64 l, .int .i64 o, .slice x m d, .int .i64 nx, .int .i64 md, .int .i64 lc] 120)) := (New.refl wr).alloc _
        have bA : Blk (wr.alloc (.cells #[.int .i64 a, .int .i64 l, .int .i64 o, .slice x m d, .int .i64 nx, .int .i64 md, .int .i64 lc] 120)) wr.heap.size 120 #[.int .i64 a, .int .i64 l, .int .i64 o, .slice x m d, .int .i64 nx, .int .i64 md, .int .i64 lc] := Blk.mk _ _ _ _ rfl
        go_upto_region 6 with fail
        generalize (wr.alloc (.cells #[.int .i64 a, .int .i64 l, .int .i64 o, .slice x m d, .int .i64 nx, .int .i64 md, .int .i64 lc] 120)) = wq at *
        obtain ⟨b', off', a', l', o', nx', md', lc', x', m', d', xs', rfl, hp', hlen', hns', hnl', hmx', y0, y1, y2, y3, y4, y5, y6⟩ := (hB.new (hnw.trans NA1)).at k (by have := HM.out; omega)
        have HL' : Hid (xs'.length = m') := hlen'
        have HR' : Hid ((U.map Tv.r)[k]? = some ⟨a', l', o', xs', nx', md', lc'⟩) := by show _ = _; rw [List.getElem?_map, hp']; rfl
        clear hp' hlen' hB hnl' q0 q1 q2 q3 q4 q5 q6
        have NA2 : New wq (wq.alloc (.cells #[.int .i64 a', .int .i64 l', .int .i64 o', .slice x' m' d', .int .i64 nx', .int .i64 md', .int .i64 lc'] 120)) := (New.refl wq).alloc _
        have bB : Blk (wq.alloc (.cells #[.int .i64 a', .int .i64 l', .int .i64 o', .slice x' m' d', .int .i64 nx', .int .i64 md', .int .i64 lc'] 120)) wq.heap.size 120 #[.int .i64 a', .int .i64 l', .int .i64 o', .slice x' m' d', .int .i64 nx', .int .i64 md', .int .i64 lc'] := Blk.mk _ _ _ _ rfl
        have bA := bA.new NA2
        go_upto_region 7 with fail
        have NA : New wr (wq.alloc (.cells #[.int .i64 a', .int .i64 l', .int .i64 o', .slice x' m' d', .int .i64 nx', .int .i64 md', .int .i64 lc'] 120)) := NA1.trans NA2
        generalize (wq.alloc (.cells #[.int .i64 a', .int .i64 l', .int .i64 o', .slice x' m' d', .int .i64 nx', .int .i64 md', .int .i64 lc'] 120)) = wa at *
        have cA := bA.cells
        have cB := bB.cells
        clear y0 y1 y2 y3 y4 y5 y6
        by_cases heq : (Td.mk a l o xs nx md lc) = Td.mk a' l' o' xs' nx' md' lc'
        · have HB : Hid ((Td.mk a l o xs nx md lc) = Td.mk a' l' o' xs' nx' md' lc') := heq
          have HR'' : Hid ((U.map Tv.r)[k]? = some ⟨a, l, o, xs, nx, md, lc⟩) := by show _ = _; rw [heq]; exact HR'.out
          clear heq
          go_wp2_with fail
          refine (same_each a l o nx md lc x m d xs a' l' o' nx' md' lc' x' m' d' xs' true _ (hns.new NA) (hns'.new NA2) HL.out HL'.out hmx hmx' ⟨fun _ => HB.out, fun _ => rfl⟩).mono ?_
          rintro e w1 ⟨rfl, hn1⟩
          go_wp2
          go_roundw
          case rel => exact ⟨k + 1, by omega, by go_num, (hnw.trans NA).trans hn1, take_td HT.out HR.out HR''.out⟩
          case measure => simp [intOf]; omega
        · have HB : Hid (¬ (Td.mk a l o xs nx md lc) = Td.mk a' l' o' xs' nx' md' lc') := heq
          have HF : Hid (false = v) := by
            cases v
            · rfl
            · have e := HV.out.1 rfl
              have e1 := HR.out
              rw [e, HR'.out] at e1
              exact absurd (Option.some.inj e1).symm heq
          clear heq
          go_wp2_with fail
          refine (same_each a l o nx md lc x m d xs a' l' o' nx' md' lc' x' m' d' xs' false _ (hns.new NA) (hns'.new NA2) HL.out HL'.out hmx hmx' ⟨(fun e => by cases e), fun e => absurd e HB.out⟩).mono ?_
          rintro e w1 ⟨rfl, hn1⟩
          go_wp2
          go_ret
          exact ⟨ret_bool HF.out, (hnw.trans NA).trans hn1⟩
      · obtain rfl : k = n := by omega
        have HF : Hid (true = v) := by
          have e := HT.out
          rw [List.take_of_length_le (by simp [HN.out]), List.take_of_length_le (by simp [HM.out])] at e
          exact (HV.out.2 e).symm
        go_wp2
        go_ret
        exact ⟨ret_bool HF.out, hnw⟩
  · have hnn : ((n : Int) != (m : Int)) = true := by simp; omega
    have HF : Hid (false = v) := by
      cases v
      · rfl
      · have e := congrArg List.length (HV.out.1 rfl)
        simp [HN.out, HM.out] at e
        exact absurd e hnm
    clear hnm
    go_enter Try.func101, Try.ntmps101
    go_wp2
    go_ret
    exact ⟨ret_bool HF.out, New.refl _⟩

theorem implST (A B : Option Addr) (n m c d0 : Nat) (V U : List Tv) (v : Bool) (w : World) (hA : TdAt w A V) (hB : TdAt w B U) (hn : V.length = n) (hm : U.length = m) (hn1 : n ≤ 1048576) (hm1 : m ≤ 1048576) (hv : v = true ↔ V.map Tv.r = U.map Tv.r) :
    Calls Try.prog 70 #[.slice A n c, .slice B m d0] w fun e w' => e = .returned (.bool v) ∧ New w w' := by
  have HN : Hid (V.length = n) := hn
  have HM : Hid (U.length = m) := hm
  have HV : Hid (v = true ↔ V.map Tv.r = U.map Tv.r) := hv
  clear hn hm hv
  go_enter Try.func70, Try.ntmps70
  go_wp2_with fail
  refine (equal_td A B n m c d0 V U v _ hA hB HN.out HM.out hn1 hm1 HV.out).mono ?_
  rintro e w1 ⟨rfl, hn1⟩
  go_wp2
  go_ret
  exact ⟨rfl, hn1⟩

set_option maxHeartbeats 6400000 in
theorem specST (A B : Option Addr) (n m c d0 : Nat) (V U : List Tv) (v : Bool) (w : World) (hA : TdAt w A V) (hB : TdAt w B U) (hn : V.length = n) (hm : U.length = m) (hn1 : n ≤ 1048576) (hm1 : m ≤ 1048576) (hv : v = true ↔ V.map Tv.r = U.map Tv.r) :
    Calls Try.prog 39 #[.slice A n c, .slice B m d0] w fun e w' => e = .returned (.bool v) ∧ New w w' := by
  have HN : Hid (V.length = n) := hn
  have HM : Hid (U.length = m) := hm
  have HV : Hid (v = true ↔ V.map Tv.r = U.map Tv.r) := hv
  clear hn hm hv
  by_cases hnm : n = m
  · subst hnm
    have hnn : ((n : Int) != (n : Int)) = false := by simp
    go_enter Try.func39, Try.ntmps39
    go_wp2
    go_loopw [5] (fun i wr => ∃ k : Nat, k ≤ n ∧ i = .int .i64 k ∧ New w wr ∧ (V.map Tv.r).take k = (U.map Tv.r).take k) (fun i _ => n - (intOf i).toNat)
    case atStart => exact ⟨0, Nat.zero_le _, rfl, New.refl _, rfl⟩
    case round =>
      obtain ⟨k, hk, rfl, hnw, ht⟩ := hrel
      have HT : Hid _ := ht
      clear ht
      by_cases hlt : k < n
      · obtain ⟨b, off, a, l, o, nx, md, lc, x, m, d, xs, rfl, hp, hlen, hns, hnl, hmx, q0, q1, q2, q3, q4, q5, q6⟩ := (hA.new hnw).at k (by have := HN.out; omega)
        obtain ⟨b', off', a', l', o', nx', md', lc', x', m', d', xs', rfl, hp', hlen', hns', hnl', hmx', y0, y1, y2, y3, y4, y5, y6⟩ := (hB.new hnw).at k (by have := HM.out; omega)
        have HL : Hid (xs.length = m) := hlen
        have HL' : Hid (xs'.length = m') := hlen'
        have HR : Hid ((V.map Tv.r)[k]? = some ⟨a, l, o, xs, nx, md, lc⟩) := by show _ = _; rw [List.getElem?_map, hp]; rfl
        have HR' : Hid ((U.map Tv.r)[k]? = some ⟨a', l', o', xs', nx', md', lc'⟩) := by show _ = _; rw [List.getElem?_map, hp']; rfl
        clear hp hp' hlen hlen' hA hB hnl hnl'
        have Q0 := cell_regrown q0
        have Q1 := cell_regrown q1
        have Q2 := cell_regrown q2
        have Q3 := cell_regrown q3
        have Q4 := cell_regrown q4
        have Q5 := cell_regrown q5
        have Q6 := cell_regrown q6
        have Y0 := cell_regrown y0
        have Y1 := cell_regrown y1
        have Y2 := cell_regrown y2
        have Y3 := cell_regrown y3
        have Y4 := cell_regrown y4
        have Y5 := cell_regrown y5
        have Y6 := cell_regrown y6
        by_cases heq : (Td.mk a l o xs nx md lc) = Td.mk a' l' o' xs' nx' md' lc'
        · have HR'' : Hid ((U.map Tv.r)[k]? = some ⟨a, l, o, xs, nx, md, lc⟩) := by show _ = _; rw [heq]; exact HR'.out
          have hsa := (td_eq.1 heq)
          obtain ⟨rfl, rfl, hsa⟩ := hsa
          have HSA : Hid (decide (SaP o xs nx md lc o' xs' nx' md' lc') = true) := decide_eq_true hsa
          clear heq hsa
          go_wp2_with fail
          refine wp_region_quiet_below (by kernel_rfl) (by kernel_rfl) ?_
          repeat (go_big_quiet_step ((go_at_call 40; exact calls_regrown (specSA o nx md lc o' nx' md' lc' x x' m m' d d' xs xs' true _ (hns.new (new_regrown _ _ _)) (hns'.new (new_regrown _ _ _)) HL.out HL'.out hmx hmx' HSA.out))))
          refine wpQuiet_nil ?_
          rintro w1 hn1
          replace hn1 := new_of_regrown hn1
          go_wp2
          go_roundw
          case rel => exact ⟨k + 1, by omega, by go_num, hnw.trans hn1, take_td HT.out HR.out HR''.out⟩
          case measure => simp [intOf]; omega
        · have HF : Hid (false = v) := by
            cases v
            · rfl
            · have e := HV.out.1 rfl
              have e1 := HR.out
              rw [e, HR'.out] at e1
              exact absurd (Option.some.inj e1).symm heq
          by_cases h1 : a = a'
          · subst h1
            by_cases h2 : l = l'
            · subst h2
              have HSA : Hid (decide (SaP o xs nx md lc o' xs' nx' md' lc') = false) := decide_eq_false (fun e => heq (td_eq.2 ⟨rfl, rfl, e⟩))
              clear heq
              go_wp2_with fail
              refine wp_region_quiet_below (by kernel_rfl) (by kernel_rfl) ?_
              repeat (go_big_quiet_step ((go_at_call 40; exact calls_regrown (specSA o nx md lc o' nx' md' lc' x x' m m' d d' xs xs' false _ (hns.new (new_regrown _ _ _)) (hns'.new (new_regrown _ _ _)) HL.out HL'.out hmx hmx' HSA.out))))
              refine wpQuiet_nil ?_
              rintro w1 hn1
              replace hn1 := new_of_regrown hn1
              go_wp2
              go_ret
              exact ⟨ret_bool HF.out, hnw.trans hn1⟩
            · clear heq
              go_wp2_with fail
              refine wp_region_quiet_below (by kernel_rfl) (by kernel_rfl) ?_
              repeat (go_big_quiet_step (fail))
              refine wpQuiet_nil ?_
              rintro w1 hn1
              replace hn1 := new_of_regrown hn1
              go_wp2
              go_ret
              exact ⟨ret_bool HF.out, hnw.trans hn1⟩
          · clear heq
            go_wp2_with fail
            refine wp_region_quiet_below (by kernel_rfl) (by kernel_rfl) ?_
            repeat (go_big_quiet_step (fail))
            refine wpQuiet_nil ?_
            rintro w1 hn1
            replace hn1 := new_of_regrown hn1
            go_wp2
            go_ret
            exact ⟨ret_bool HF.out, hnw.trans hn1⟩
      · obtain rfl : k = n := by omega
        have HF : Hid (true = v) := by
          have e := HT.out
          rw [List.take_of_length_le (by simp [HN.out]), List.take_of_length_le (by simp [HM.out])] at e
          exact (HV.out.2 e).symm
        go_wp2
        go_ret
        exact ⟨ret_bool HF.out, hnw⟩
  · have hnn : ((n : Int) != (m : Int)) = true := by simp; omega
    have HF : Hid (false = v) := by
      cases v
      · rfl
      · have e := congrArg List.length (HV.out.1 rfl)
        simp [HN.out, HM.out] at e
        exact absurd e hnm
    clear hnm
    go_enter Try.func39, Try.ntmps39
    go_wp2
    go_ret
    exact ⟨ret_bool HF.out, New.refl _⟩

end Go.Proofs.Ytkahlmkhancloab
