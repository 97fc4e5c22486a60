/- What is proved here: what the program's comparing of routes answers, for lists of at most 1048576 things. -/
import Derived.Test.YtkahlmkhancloabS9Se
import Derived.Test.YtkahlmkhancloabR7Lib
import Derived.Deep.CutRange
namespace Go.Proofs.Ytkahlmkhancloab
open Go.RowKit Go.Sort
set_option linter.unusedVariables false

theorem rt_eq9 {p a l o nx md lc p' a' l' o' nx' md' lc' : Int} {xs xs' : List Int} : (Rt.mk p a l o xs nx md lc = Rt.mk p' a' l' o' xs' nx' md' lc') ↔ (p = p' ∧ a = a' ∧ l = l' ∧ SaP o xs nx md lc o' xs' nx' md' lc') := by
  simp only [Rt.mk.injEq, SaP]
  constructor
  · rintro ⟨h0, h1, h2, h3, h4, h5, h6, h7⟩; exact ⟨h0, h1, h2, h3, h5, h6, h7, h4⟩
  · rintro ⟨h0, h1, h2, h3, h5, h6, h7, h4⟩; exact ⟨h0, h1, h2, h3, h4, h5, h6, h7⟩

set_option maxHeartbeats 3200000 in
theorem same_rt (p a l o nx md lc : Int) (x : Option Addr) (n c : Nat) (xs : List Int) (p' a' l' o' nx' md' lc' : Int) (x' : Option Addr) (n' c' : Nat) (xs' : List Int) (v : Bool) (w : World) (h : NsAt w x xs) (h' : NsAt w x' xs') (hn : xs.length = n) (hn' : xs'.length = n') (hm : n ≤ 1048576) (hm' : n' ≤ 1048576) (hv : v = true ↔ Rt.mk p a l o xs nx md lc = Rt.mk p' a' l' o' xs' nx' md' lc') :
    Calls Try.prog 45 #[.agg #[.int .i64 p, .int .i64 a, .int .i64 l, .int .i64 o, .slice x n c, .int .i64 nx, .int .i64 md, .int .i64 lc], .agg #[.int .i64 p', .int .i64 a', .int .i64 l', .int .i64 o', .slice x' n' c', .int .i64 nx', .int .i64 md', .int .i64 lc']] w fun e w' => e = .returned (.bool v) ∧ New w w' := by
  rw [rt_eq9] at hv
  have N0 : New w ((w.alloc (.cells #[.int .i64 p, .int .i64 a, .int .i64 l, .int .i64 o, .slice x n c, .int .i64 nx, .int .i64 md, .int .i64 lc] 76)).alloc (.cells #[.int .i64 p', .int .i64 a', .int .i64 l', .int .i64 o', .slice x' n' c', .int .i64 nx', .int .i64 md', .int .i64 lc'] 76)) := ((New.refl w).alloc _).alloc _
  have bA : Blk ((w.alloc (.cells #[.int .i64 p, .int .i64 a, .int .i64 l, .int .i64 o, .slice x n c, .int .i64 nx, .int .i64 md, .int .i64 lc] 76)).alloc (.cells #[.int .i64 p', .int .i64 a', .int .i64 l', .int .i64 o', .slice x' n' c', .int .i64 nx', .int .i64 md', .int .i64 lc'] 76)) w.heap.size 76 #[.int .i64 p, .int .i64 a, .int .i64 l, .int .i64 o, .slice x n c, .int .i64 nx, .int .i64 md, .int .i64 lc] := (Blk.mk _ _ _ _ rfl).alloc _
  have bB : Blk ((w.alloc (.cells #[.int .i64 p, .int .i64 a, .int .i64 l, .int .i64 o, .slice x n c, .int .i64 nx, .int .i64 md, .int .i64 lc] 76)).alloc (.cells #[.int .i64 p', .int .i64 a', .int .i64 l', .int .i64 o', .slice x' n' c', .int .i64 nx', .int .i64 md', .int .i64 lc'] 76)) (w.heap.size + 1) 76 #[.int .i64 p', .int .i64 a', .int .i64 l', .int .i64 o', .slice x' n' c', .int .i64 nx', .int .i64 md', .int .i64 lc'] := Blk.mk _ _ _ _ (by simp)
  have HN : Hid (xs.length = n) := hn
  have HN' : Hid (xs'.length = n') := hn'
  have HX : Hid (¬ (p = p' ∧ a = a' ∧ l = l' ∧ SaP o xs nx md lc o' xs' nx' md' lc') → false = v) := by
    intro e
    cases v
    · rfl
    · exact absurd (hv.1 rfl) e
  have cA := bA.cells
  have cB := bB.cells
  clear hn hn'
  by_cases g0 : p = p'
  · subst g0
    by_cases g1 : a = a'
    · subst g1
      by_cases g2 : l = l'
      · subst g2
        have HV : Hid (decide (SaP o xs nx md lc o' xs' nx' md' lc') = v) := by
          show _ = _
          cases v
          · exact decide_eq_false (fun e => by have := hv.2 ⟨rfl, rfl, rfl, e⟩; cases this)
          · exact decide_eq_true (hv.1 rfl).2.2.2
        clear hv HX
        go_enter Try.func45, Try.ntmps45
        go_wp2_with fail
        refine (implSA o nx md lc o' nx' md' lc' x x' n n' c c' xs xs' v _ (h.new N0) (h'.new N0) HN.out HN'.out hm hm' HV.out).mono ?_
        rintro e w1 ⟨rfl, hn1⟩
        go_wp2
        go_ret
        exact ⟨rfl, N0.trans hn1⟩
      · have hx : Hid (false = v) := HX.out (by simp [g2])
        have g2' : (l == l') = false := by simpa using g2
        clear HX hv
        go_enter Try.func45, Try.ntmps45
        go_wp2
        go_ret
        exact ⟨ret_bool hx.out, N0⟩
    · have hx : Hid (false = v) := HX.out (by simp [g1])
      have g1' : (a == a') = false := by simpa using g1
      clear HX hv
      go_enter Try.func45, Try.ntmps45
      go_wp2
      go_ret
      exact ⟨ret_bool hx.out, N0⟩
  · have hx : Hid (false = v) := HX.out (by simp [g0])
    have g0' : (p == p') = false := by simpa using g0
    clear HX hv
    go_enter Try.func45, Try.ntmps45
    go_wp2
    go_ret
    exact ⟨ret_bool hx.out, N0⟩

set_option maxHeartbeats 6400000 in
theorem equal_rt (A B : Option Addr) (n m c d0 : Nat) (V U : List Rv) (v : Bool) (w : World) (hA : RtAt w A V) (hB : RtAt w B U) (hn : V.length = n) (hm : U.length = m) (hn1 : n ≤ 1048576) (hm1 : m ≤ 1048576) (hv : v = true ↔ V.map Rv.r = U.map Rv.r) :
    Calls Try.prog 44 #[.slice A n c, .slice B m d0, .func (.func 45) #[] #[]] w fun e w' => e = .returned (.bool v) ∧ New w w' := by
  have HN : Hid (V.length = n) := hn
  have HM : Hid (U.length = m) := hm
  have HV : Hid (v = true ↔ V.map Rv.r = U.map Rv.r) := hv
  clear hn hm hv
  by_cases hnm : n = m
  · subst hnm
    have hnn : ((n : Int) != (n : Int)) = false := by simp
    go_enter Try.func44, Try.ntmps44
    go_wp2
    go_loopw [17] (fun i wr => ∃ k : Nat, k ≤ n ∧ i = .int .i64 k ∧ New w wr ∧ (V.map Rv.r).take k = (U.map Rv.r).take k) (fun i _ => n - (intOf i).toNat)
    case atStart => exact ⟨0, Nat.zero_le _, rfl, New.refl _, rfl⟩
    case round =>
      obtain ⟨k, hk, rfl, hnw, ht⟩ := hrel
      have HT : Hid _ := ht
      clear ht
      by_cases hlt : k < n
      · obtain ⟨b, off, p, a, l, o, nx, md, lc, x, m, d, xs, rfl, hp, hlen, hns, hnl, hmx, q0, q1, q2, q3, q4, q5, q6, q7⟩ := (hA.new hnw).at k (by have := HN.out; omega)
        have HL : Hid (xs.length = m) := hlen
        have HR : Hid ((V.map Rv.r)[k]? = some ⟨p, a, l, o, xs, nx, md, lc⟩) := by show _ = _; rw [List.getElem?_map, hp]; rfl
        clear hp hlen hA hnl
        have NA1 : New wr (wr.alloc (.cells #[.int .i64 p, .int .i64 a, .int .i64 l, .int .i64 o, .slice x m d, .int .i64 nx, .int .i64 md, .int .i64 lc] 76)) := (New.refl wr).alloc _
        have bA : Blk (wr.alloc (.cells #[.int .i64 p, .int .i64 a, .int .i64 l, .int .i64 o, .slice x m d, .int .i64 nx, .int .i64 md, .int .i64 lc] 76)) wr.heap.size 76 #[.int .i64 p, .int .i64 a, .int .i64 l, .int .i64 o, .slice x m d, .int .i64 nx, .int .i64 md, .int .i64 lc] := Blk.mk _ _ _ _ rfl
        go_upto_region 6 with fail
        generalize (wr.alloc (.cells #[.int .i64 p, .int .i64 a, .int .i64 l, .int .i64 o, .slice x m d, .int .i64 nx, .int .i64 md, .int .i64 lc] 76)) = wq at *
        obtain ⟨b', off', p', a', l', o', nx', md', lc', x', m', d', xs', rfl, hp', hlen', hns', hnl', hmx', y0, y1, y2, y3, y4, y5, y6, y7⟩ := (hB.new (hnw.trans NA1)).at k (by have := HM.out; omega)
        have HL' : Hid (xs'.length = m') := hlen'
        have HR' : Hid ((U.map Rv.r)[k]? = some ⟨p', a', l', o', xs', nx', md', lc'⟩) := by show _ = _; rw [List.getElem?_map, hp']; rfl
        clear hp' hlen' hB hnl' q0 q1 q2 q3 q4 q5 q6 q7
        have NA2 : New wq (wq.alloc (.cells #[.int .i64 p', .int .i64 a', .int .i64 l', .int .i64 o', .slice x' m' d', .int .i64 nx', .int .i64 md', .int .i64 lc'] 76)) := (New.refl wq).alloc _
        have bB : Blk (wq.alloc (.cells #[.int .i64 p', .int .i64 a', .int .i64 l', .int .i64 o', .slice x' m' d', .int .i64 nx', .int .i64 md', .int .i64 lc'] 76)) wq.heap.size 76 #[.int .i64 p', .int .i64 a', .int .i64 l', .int .i64 o', .slice x' m' d', .int .i64 nx', .int .i64 md', .int .i64 lc'] := Blk.mk _ _ _ _ rfl
        have bA := bA.new NA2
        go_upto_region 7 with fail
        have NA : New wr (wq.alloc (.cells #[.int .i64 p', .int .i64 a', .int .i64 l', .int .i64 o', .slice x' m' d', .int .i64 nx', .int .i64 md', .int .i64 lc'] 76)) := NA1.trans NA2
        generalize (wq.alloc (.cells #[.int .i64 p', .int .i64 a', .int .i64 l', .int .i64 o', .slice x' m' d', .int .i64 nx', .int .i64 md', .int .i64 lc'] 76)) = wa at *
        have cA := bA.cells
        have cB := bB.cells
        clear y0 y1 y2 y3 y4 y5 y6 y7
        by_cases heq : (Rt.mk p a l o xs nx md lc) = Rt.mk p' a' l' o' xs' nx' md' lc'
        · have HB : Hid ((Rt.mk p a l o xs nx md lc) = Rt.mk p' a' l' o' xs' nx' md' lc') := heq
          have HR'' : Hid ((U.map Rv.r)[k]? = some ⟨p, a, l, o, xs, nx, md, lc⟩) := by show _ = _; rw [heq]; exact HR'.out
          clear heq
          go_wp2_with fail
          refine (same_rt p a l o nx md lc x m d xs p' a' l' o' nx' md' lc' x' m' d' xs' true _ (hns.new NA) (hns'.new NA2) HL.out HL'.out hmx hmx' ⟨fun _ => HB.out, fun _ => rfl⟩).mono ?_
          rintro e w1 ⟨rfl, hn1⟩
          go_wp2
          go_roundw
          case rel => exact ⟨k + 1, by omega, by go_num, (hnw.trans NA).trans hn1, take_next9 HT.out HR.out HR''.out⟩
          case measure => simp [intOf]; omega
        · have HB : Hid (¬ (Rt.mk p a l o xs nx md lc) = Rt.mk p' a' l' o' xs' nx' md' lc') := heq
          have HF : Hid (false = v) := by
            cases v
            · rfl
            · have e := HV.out.1 rfl
              have e1 := HR.out
              rw [e, HR'.out] at e1
              exact absurd (Option.some.inj e1).symm heq
          clear heq
          go_wp2_with fail
          refine (same_rt p a l o nx md lc x m d xs p' a' l' o' nx' md' lc' x' m' d' xs' false _ (hns.new NA) (hns'.new NA2) HL.out HL'.out hmx hmx' ⟨(fun e => by cases e), fun e => absurd e HB.out⟩).mono ?_
          rintro e w1 ⟨rfl, hn1⟩
          go_wp2
          go_ret
          exact ⟨ret_bool HF.out, (hnw.trans NA).trans hn1⟩
      · obtain rfl : k = n := by omega
        have HF : Hid (true = v) := by
          have e := HT.out
          rw [List.take_of_length_le (by simp [HN.out]), List.take_of_length_le (by simp [HM.out])] at e
          exact (HV.out.2 e).symm
        go_wp2
        go_ret
        exact ⟨ret_bool HF.out, hnw⟩
  · have hnn : ((n : Int) != (m : Int)) = true := by simp; omega
    have HF : Hid (false = v) := by
      cases v
      · rfl
      · have e := congrArg List.length (HV.out.1 rfl)
        simp [HN.out, HM.out] at e
        exact absurd e hnm
    clear hnm
    go_enter Try.func44, Try.ntmps44
    go_wp2
    go_ret
    exact ⟨ret_bool HF.out, New.refl _⟩

end Go.Proofs.Ytkahlmkhancloab
