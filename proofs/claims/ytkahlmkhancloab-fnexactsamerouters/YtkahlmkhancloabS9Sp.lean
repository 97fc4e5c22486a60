/- What is proved here: what the model's comparing of routers answers, where all lists have at most 1048576 things and the links' bytes are not nil. -/
import Derived.Test.YtkahlmkhancloabS9Lk
import Derived.Test.YtkahlmkhancloabS9Rt
import Derived.Test.YtkahlmkhancloabS9St
import Derived.Deep.CutRange
namespace Go.Proofs.Ytkahlmkhancloab
open Go.RowKit Go.Sort
set_option linter.unusedVariables false

set_option maxRecDepth 100000 in
set_option maxHeartbeats 12800000 in
theorem specSR (sa si ho nx sa' si' ho' nx' : Int) (a1 a2 la ra b1 b2 lb rb : Option Addr) (n1 c1 n2 c2 ln lc rn rc k1 d1 k2 d2 lk ld rk rd : Nat) (r1 r2 s1 s2 : List Ru) (L L' : List Lv) (R R' : List Rv) (v : Bool) (w : World) (h1 : RsAt w a1 r1) (h2 : RsAt w a2 r2) (h3 : LkAt w la L) (h4 : RtAt w ra R) (j1 : RsAt w b1 s1) (j2 : RsAt w b2 s2) (j3 : LkAt w lb L') (j4 : RtAt w rb R') (z3 : ∀ v ∈ L, v.b ≠ none) (z4 : ∀ v ∈ L', v.b ≠ none) (e1 : r1.length = n1) (e2 : r2.length = n2) (e3 : L.length = ln) (e4 : R.length = rn) (f1 : s1.length = k1) (f2 : s2.length = k2) (f3 : L'.length = lk) (f4 : R'.length = rk) (m1 : n1 ≤ 1048576) (m2 : n2 ≤ 1048576) (m3 : ln ≤ 1048576) (m4 : rn ≤ 1048576) (p1 : k1 ≤ 1048576) (p2 : k2 ≤ 1048576) (p3 : lk ≤ 1048576) (p4 : rk ≤ 1048576) (hv : v = true ↔ ((sa = sa' ∧ si = si' ∧ ho = ho' ∧ nx = nx' ∧ r1 = s1 ∧ r2 = s2) ∧ L.map Lv.r = L'.map Lv.r ∧ R.map Rv.r = R'.map Rv.r)) :
    Calls Try.prog 16 #[.agg #[.int .i64 sa, .int .i64 si, .int .i64 ho, .int .i64 nx, .slice a1 n1 c1, .slice a2 n2 c2, .slice la ln lc, .slice ra rn rc], .agg #[.int .i64 sa', .int .i64 si', .int .i64 ho', .int .i64 nx', .slice b1 k1 d1, .slice b2 k2 d2, .slice lb lk ld, .slice rb rk rd]] w fun e w' => e = .returned (.bool v) ∧ New w w' := by
  have N0 : New w ((w.alloc (.cells #[.int .i64 sa, .int .i64 si, .int .i64 ho, .int .i64 nx, .slice a1 n1 c1, .slice a2 n2 c2, .slice la ln lc, .slice ra rn rc] 40)).alloc (.cells #[.int .i64 sa', .int .i64 si', .int .i64 ho', .int .i64 nx', .slice b1 k1 d1, .slice b2 k2 d2, .slice lb lk ld, .slice rb rk rd] 40)) := ((New.refl w).alloc _).alloc _
  have bA : Blk ((w.alloc (.cells #[.int .i64 sa, .int .i64 si, .int .i64 ho, .int .i64 nx, .slice a1 n1 c1, .slice a2 n2 c2, .slice la ln lc, .slice ra rn rc] 40)).alloc (.cells #[.int .i64 sa', .int .i64 si', .int .i64 ho', .int .i64 nx', .slice b1 k1 d1, .slice b2 k2 d2, .slice lb lk ld, .slice rb rk rd] 40)) w.heap.size 40 #[.int .i64 sa, .int .i64 si, .int .i64 ho, .int .i64 nx, .slice a1 n1 c1, .slice a2 n2 c2, .slice la ln lc, .slice ra rn rc] := (Blk.mk _ _ _ _ rfl).alloc _
  have bB : Blk ((w.alloc (.cells #[.int .i64 sa, .int .i64 si, .int .i64 ho, .int .i64 nx, .slice a1 n1 c1, .slice a2 n2 c2, .slice la ln lc, .slice ra rn rc] 40)).alloc (.cells #[.int .i64 sa', .int .i64 si', .int .i64 ho', .int .i64 nx', .slice b1 k1 d1, .slice b2 k2 d2, .slice lb lk ld, .slice rb rk rd] 40)) (w.heap.size + 1) 40 #[.int .i64 sa', .int .i64 si', .int .i64 ho', .int .i64 nx', .slice b1 k1 d1, .slice b2 k2 d2, .slice lb lk ld, .slice rb rk rd] := Blk.mk _ _ _ _ (by simp)
  have E1 : Hid (r1.length = n1) := e1
  have E2 : Hid (r2.length = n2) := e2
  have E3 : Hid (L.length = ln) := e3
  have E4 : Hid (R.length = rn) := e4
  have F1 : Hid (s1.length = k1) := f1
  have F2 : Hid (s2.length = k2) := f2
  have F3 : Hid (L'.length = lk) := f3
  have F4 : Hid (R'.length = rk) := f4
  have Z3 : Hid (∀ v ∈ L, v.b ≠ none) := z3
  have Z4 : Hid (∀ v ∈ L', v.b ≠ none) := z4
  have HX : Hid (¬ ((sa = sa' ∧ si = si' ∧ ho = ho' ∧ nx = nx' ∧ r1 = s1 ∧ r2 = s2) ∧ L.map Lv.r = L'.map Lv.r ∧ R.map Rv.r = R'.map Rv.r) → false = v) := by
    intro e
    cases v
    · rfl
    · exact absurd (hv.1 rfl) e
  have HT : Hid (((sa = sa' ∧ si = si' ∧ ho = ho' ∧ nx = nx' ∧ r1 = s1 ∧ r2 = s2) ∧ L.map Lv.r = L'.map Lv.r ∧ R.map Rv.r = R'.map Rv.r) → true = v) := fun e => (hv.2 e).symm
  have cA := bA.cells
  have cB := bB.cells
  clear e1 e2 e3 e4 f1 f2 f3 f4 hv z3 z4
  by_cases g0 : sa = sa'
  · subst g0
    by_cases g1 : si = si'
    · subst g1
      by_cases g2 : ho = ho'
      · subst g2
        by_cases g3 : nx = nx'
        · subst g3
          have HT2 : Hid (r1 = s1 → r2 = s2 → L.map Lv.r = L'.map Lv.r → R.map Rv.r = R'.map Rv.r → true = v) := fun e1 e2 e3 e4 => HT.out ⟨⟨rfl, rfl, rfl, rfl, e1, e2⟩, e3, e4⟩
          clear HT
          by_cases hr1 : r1 = s1
          rotate_left
          · have hx : Hid (false = v) := HX.out (fun e => hr1 e.1.2.2.2.2.1)
            have V1 : Hid (¬ r1 = s1) := hr1
            clear HX HT2 hr1
            go_enter Try.func16, Try.ntmps16
            go_wp2_with fail
            refine (specRu a1 b1 n1 k1 c1 d1 r1 s1 false _ (h1.new N0) (j1.new N0) E1.out F1.out m1 p1 ⟨(fun e => by cases e), fun e => absurd e V1.out⟩).mono ?_
            rintro e w1 ⟨rfl, i1⟩
            have N1 := N0.trans i1
            have bA1 := bA.new i1
            have bB1 := bB.new i1
            clear cA cB
            have cA := bA1.cells
            have cB := bB1.cells
            go_wp2
            go_ret
            exact ⟨ret_bool hx.out, N1⟩
          · have V1 : Hid (r1 = s1) := hr1
            clear hr1
            by_cases hr2 : r2 = s2
            rotate_left
            · have hx : Hid (false = v) := HX.out (fun e => hr2 e.1.2.2.2.2.2)
              have V2 : Hid (¬ r2 = s2) := hr2
              clear HX HT2 hr2
              go_enter Try.func16, Try.ntmps16
              go_wp2_with fail
              refine (specRu a1 b1 n1 k1 c1 d1 r1 s1 true _ (h1.new N0) (j1.new N0) E1.out F1.out m1 p1 ⟨fun _ => V1.out, fun _ => rfl⟩).mono ?_
              rintro e w1 ⟨rfl, i1⟩
              have N1 := N0.trans i1
              have bA1 := bA.new i1
              have bB1 := bB.new i1
              clear cA cB
              have cA := bA1.cells
              have cB := bB1.cells
              go_wp2_with fail
              refine (specRu a2 b2 n2 k2 c2 d2 r2 s2 false _ (h2.new N1) (j2.new N1) E2.out F2.out m2 p2 ⟨(fun e => by cases e), fun e => absurd e V2.out⟩).mono ?_
              rintro e w2 ⟨rfl, i2⟩
              have N2 := N1.trans i2
              have bA2 := bA1.new i2
              have bB2 := bB1.new i2
              clear cA cB
              have cA := bA2.cells
              have cB := bB2.cells
              go_wp2
              go_ret
              exact ⟨ret_bool hx.out, N2⟩
            · have V2 : Hid (r2 = s2) := hr2
              clear hr2
              by_cases hll : ln = lk
              rotate_left
              · have hx : Hid (false = v) := HX.out (fun e => by have := congrArg List.length e.2.1; simp at this; exact hll (E3.out.symm.trans (this.trans F3.out)))
                have hne : ((ln : Int) != (lk : Int)) = true := by simp; omega
                clear HX HT2
                go_enter Try.func16, Try.ntmps16
                go_wp2_with fail
                refine (specRu a1 b1 n1 k1 c1 d1 r1 s1 true _ (h1.new N0) (j1.new N0) E1.out F1.out m1 p1 ⟨fun _ => V1.out, fun _ => rfl⟩).mono ?_
                rintro e w1 ⟨rfl, i1⟩
                have N1 := N0.trans i1
                have bA1 := bA.new i1
                have bB1 := bB.new i1
                clear cA cB
                have cA := bA1.cells
                have cB := bB1.cells
                go_wp2_with fail
                refine (specRu a2 b2 n2 k2 c2 d2 r2 s2 true _ (h2.new N1) (j2.new N1) E2.out F2.out m2 p2 ⟨fun _ => V2.out, fun _ => rfl⟩).mono ?_
                rintro e w2 ⟨rfl, i2⟩
                have N2 := N1.trans i2
                have bA2 := bA1.new i2
                have bB2 := bB1.new i2
                clear cA cB
                have cA := bA2.cells
                have cB := bB2.cells
                go_wp2
                go_ret
                exact ⟨ret_bool hx.out, N2⟩
              · subst hll
                have hne : ((ln : Int) != (ln : Int)) = false := by simp
                by_cases hrr : rn = rk
                rotate_left
                · have hx : Hid (false = v) := HX.out (fun e => by have := congrArg List.length e.2.2; simp at this; exact hrr (E4.out.symm.trans (this.trans F4.out)))
                  have hne2 : ((rn : Int) != (rk : Int)) = true := by simp; omega
                  clear HX HT2
                  go_enter Try.func16, Try.ntmps16
                  go_wp2_with fail
                  refine (specRu a1 b1 n1 k1 c1 d1 r1 s1 true _ (h1.new N0) (j1.new N0) E1.out F1.out m1 p1 ⟨fun _ => V1.out, fun _ => rfl⟩).mono ?_
                  rintro e w1 ⟨rfl, i1⟩
                  have N1 := N0.trans i1
                  have bA1 := bA.new i1
                  have bB1 := bB.new i1
                  clear cA cB
                  have cA := bA1.cells
                  have cB := bB1.cells
                  go_wp2_with fail
                  refine (specRu a2 b2 n2 k2 c2 d2 r2 s2 true _ (h2.new N1) (j2.new N1) E2.out F2.out m2 p2 ⟨fun _ => V2.out, fun _ => rfl⟩).mono ?_
                  rintro e w2 ⟨rfl, i2⟩
                  have N2 := N1.trans i2
                  have bA2 := bA1.new i2
                  have bB2 := bB1.new i2
                  clear cA cB
                  have cA := bA2.cells
                  have cB := bB2.cells
                  go_wp2
                  go_ret
                  exact ⟨ret_bool hx.out, N2⟩
                · subst hrr
                  have hne2 : ((rn : Int) != (rn : Int)) = false := by simp
                  go_enter Try.func16, Try.ntmps16
                  go_wp2_with fail
                  refine (specRu a1 b1 n1 k1 c1 d1 r1 s1 true _ (h1.new N0) (j1.new N0) E1.out F1.out m1 p1 ⟨fun _ => V1.out, fun _ => rfl⟩).mono ?_
                  rintro e w1 ⟨rfl, i1⟩
                  have N1 := N0.trans i1
                  have bA1 := bA.new i1
                  have bB1 := bB.new i1
                  clear cA cB
                  have cA := bA1.cells
                  have cB := bB1.cells
                  go_wp2_with fail
                  refine (specRu a2 b2 n2 k2 c2 d2 r2 s2 true _ (h2.new N1) (j2.new N1) E2.out F2.out m2 p2 ⟨fun _ => V2.out, fun _ => rfl⟩).mono ?_
                  rintro e w2 ⟨rfl, i2⟩
                  have N2 := N1.trans i2
                  have bA2 := bA1.new i2
                  have bB2 := bB1.new i2
                  clear cA cB
                  have cA := bA2.cells
                  have cB := bB2.cells
                  go_wp2
                  go_loopw [5] (fun i wr => ∃ k : Nat, k ≤ ln ∧ i = .int .i64 k ∧ New w2 wr ∧ Hid ((L.map Lv.r).take k = (L'.map Lv.r).take k)) (fun i _ => ln - (intOf i).toNat)
                  case atStart => exact ⟨0, Nat.zero_le _, rfl, New.refl _, rfl⟩
                  case round =>
                    obtain ⟨k, hk, rfl, hnw, hl⟩ := hrel
                    have bA3 := bA2.new hnw
                    have bB3 := bB2.new hnw
                    clear cA cB
                    have cA := bA3.cells
                    have cB := bB3.cells
                    by_cases hlt : k < ln
                    · obtain ⟨g, off, st, pe, lh, ls, lp, bs, y, c, V1, t, td, n, q, rfl, hp, hlen, hlen2, hbs, htd, hmx, hmq, q0, q1, q2, q3, q4, q5, q6⟩ := ((h3.new N2).new hnw).at k (by have := E3.out; omega)
                      obtain ⟨g', off', st', pe', lh', ls', lp', bs', y', c', U1, t', td', n', q', rfl, hp', hlen', hlen2', hbs', htd', hmx', hmq', y0, y1, y2, y3, y4, y5, y6⟩ := ((j3.new N2).new hnw).at k (by have := F3.out; omega)
                      have HL : Hid (bs.length = n) := hlen
                      have HQ : Hid (V1.length = q) := hlen2
                      have HL' : Hid (bs'.length = n') := hlen'
                      have HQ' : Hid (U1.length = q') := hlen2'
                      have HY : Hid (y ≠ none) := Z3.out _ (List.mem_of_getElem? hp)
                      have HY' : Hid (y' ≠ none) := Z4.out _ (List.mem_of_getElem? hp')
                      have HV : Hid ((L.map Lv.r)[k]? = some ⟨st, pe, lh, ls, lp, bs, V1.map Tv.r⟩) := by show _ = _; rw [List.getElem?_map, hp]; rfl
                      have HV' : Hid ((L'.map Lv.r)[k]? = some ⟨st', pe', lh', ls', lp', bs', U1.map Tv.r⟩) := by show _ = _; rw [List.getElem?_map, hp']; rfl
                      have HLN : Hid ((Lk.mk st pe lh ls lp bs (V1.map Tv.r) ≠ Lk.mk st' pe' lh' ls' lp' bs' (U1.map Tv.r)) → ¬ L.map Lv.r = L'.map Lv.r) := by
                        intro h e
                        have e1 := HV.out
                        rw [e, HV'.out] at e1
                        exact h (Option.some.inj e1).symm
                      clear hp hp' hlen hlen' hlen2 hlen2'
                      have Q0 := cell_regrown q0
                      have Q1 := cell_regrown q1
                      have Q2 := cell_regrown q2
                      have Q3 := cell_regrown q3
                      have Q4 := cell_regrown q4
                      have Q5 := cell_regrown q5
                      have Q6 := cell_regrown q6
                      have Y0 := cell_regrown y0
                      have Y1 := cell_regrown y1
                      have Y2 := cell_regrown y2
                      have Y3 := cell_regrown y3
                      have Y4 := cell_regrown y4
                      have Y5 := cell_regrown y5
                      have Y6 := cell_regrown y6
                      have B0 := blk_regrown bA3
                      have B1 := blk_regrown bB3
                      by_cases g0 : st = st'
                      · subst g0
                        by_cases g1 : pe = pe'
                        · subst g1
                          by_cases g2 : lh = lh'
                          · subst g2
                            by_cases g3 : ls = ls'
                            · subst g3
                              by_cases g4 : lp = lp'
                              · subst g4
                                have rA : ∀ (dd : Nat) (os : Array Obj), (convert 44 9 (.slice y n c)).run Try.prog (grow (redrawn wr dd) os) = .ok (.string (str9 bs)) (grow (redrawn wr dd) os) := fun dd os => run_str9 y n c bs _ (hbs.new (new_regrown _ _ _)) HL.out (fun e => absurd e HY.out)
                                have rB : ∀ (dd : Nat) (os : Array Obj), (convert 44 9 (.slice y' n' c')).run Try.prog (grow (redrawn wr dd) os) = .ok (.string (str9 bs')) (grow (redrawn wr dd) os) := fun dd os => run_str9 y' n' c' bs' _ (hbs'.new (new_regrown _ _ _)) HL'.out (fun e => absurd e HY'.out)
                                by_cases g5 : bs = bs'
                                · have e9 : str9 bs = str9 bs' := by rw [g5]
                                  have G5 : Hid (bs = bs') := g5
                                  clear g5
                                  rw [← e9] at rB
                                  generalize str9 bs = S9 at *
                                  have s9 : (S9 != S9) = false := str_ne_self S9
                                  have s9' : (S9 == S9) = true := str_eq_self S9
                                  clear e9
                                  by_cases g6 : V1.map Tv.r = U1.map Tv.r
                                  · have G6 : Hid (V1.map Tv.r = U1.map Tv.r) := g6
                                    have hl9 : Hid ((L.map Lv.r).take (k + 1) = (L'.map Lv.r).take (k + 1)) := take_next9 hl.out HV.out (by rw [G5.out, g6]; exact HV'.out)
                                    clear g6 HLN
                                    go_wp2_with fail
                                    refine wp_region_quiet_below (by kernel_rfl) (by kernel_rfl) ?_
                                    repeat (go_big_quiet_step ((go_at_call 39; exact calls_regrown (specST t t' q q' td td' V1 U1 true _ (htd.new (new_regrown _ _ _)) (htd'.new (new_regrown _ _ _)) HQ.out HQ'.out hmq hmq' ⟨fun _ => G6.out, fun _ => rfl⟩))))
                                    refine wpQuiet_nil ?_
                                    rintro w9 hn9
                                    replace hn9 := new_of_regrown hn9
                                    go_wp2
                                    go_roundw
                                    case rel => exact ⟨k + 1, by omega, by go_num, hnw.trans hn9, hl9⟩
                                    case measure => simp [intOf]; omega
                                  · have G6 : Hid (¬ V1.map Tv.r = U1.map Tv.r) := g6
                                    have hx : Hid (false = v) := HX.out (fun e => HLN.out (fun h => by simp only [Lk.mk.injEq] at h; exact g6 h.2.2.2.2.2.2) e.2.1)
                                    clear g6 HLN
                                    go_wp2_with fail
                                    refine wp_region_quiet_below (by kernel_rfl) (by kernel_rfl) ?_
                                    repeat (go_big_quiet_step ((go_at_call 39; exact calls_regrown (specST t t' q q' td td' V1 U1 false _ (htd.new (new_regrown _ _ _)) (htd'.new (new_regrown _ _ _)) HQ.out HQ'.out hmq hmq' ⟨(fun e => by cases e), fun e => absurd e G6.out⟩))))
                                    refine wpQuiet_nil ?_
                                    rintro w9 hn9
                                    replace hn9 := new_of_regrown hn9
                                    go_wp2
                                    go_ret
                                    exact ⟨ret_bool hx.out, (N2.trans hnw).trans hn9⟩
                                · have hx : Hid (false = v) := HX.out (fun e => HLN.out (fun h => by simp only [Lk.mk.injEq] at h; exact g5 h.2.2.2.2.2.1) e.2.1)
                                  have e9 : ¬ str9 bs = str9 bs' := fun e => g5 (str9_inj hbs.lt hbs'.lt e)
                                  clear g5 HLN
                                  generalize str9 bs = S9 at *
                                  generalize str9 bs' = S9' at *
                                  have s9 : (S9 != S9') = true := str_ne_of e9
                                  have s9' : (S9 == S9') = false := str_eq_of e9
                                  have s9'' : (S9.toList == S9'.toList) = false := str_list_of e9
                                  go_wp2_with fail
                                  refine wp_region_quiet_below (by kernel_rfl) (by kernel_rfl) ?_
                                  repeat (go_big_quiet_step (fail))
                                  refine wpQuiet_nil ?_
                                  rintro w9 hn9
                                  replace hn9 := new_of_regrown hn9
                                  go_wp2
                                  go_ret
                                  exact ⟨ret_bool hx.out, (N2.trans hnw).trans hn9⟩
                              · have hx : Hid (false = v) := HX.out (fun e => HLN.out (fun h => by simp only [Lk.mk.injEq] at h; exact g4 (by simp [h])) e.2.1)
                                have g4' : (lp == lp') = false := by simpa using g4
                                have g4'' : (lp != lp') = true := by simpa using g4
                                clear HLN
                                go_wp2_with fail
                                refine wp_region_quiet_below (by kernel_rfl) (by kernel_rfl) ?_
                                repeat (go_big_quiet_step (fail))
                                refine wpQuiet_nil ?_
                                rintro w9 hn9
                                replace hn9 := new_of_regrown hn9
                                go_wp2
                                go_ret
                                exact ⟨ret_bool hx.out, (N2.trans hnw).trans hn9⟩
                            · have hx : Hid (false = v) := HX.out (fun e => HLN.out (fun h => by simp only [Lk.mk.injEq] at h; exact g3 (by simp [h])) e.2.1)
                              have g3' : (ls == ls') = false := by simpa using g3
                              have g3'' : (ls != ls') = true := by simpa using g3
                              clear HLN
                              go_wp2_with fail
                              refine wp_region_quiet_below (by kernel_rfl) (by kernel_rfl) ?_
                              repeat (go_big_quiet_step (fail))
                              refine wpQuiet_nil ?_
                              rintro w9 hn9
                              replace hn9 := new_of_regrown hn9
                              go_wp2
                              go_ret
                              exact ⟨ret_bool hx.out, (N2.trans hnw).trans hn9⟩
                          · have hx : Hid (false = v) := HX.out (fun e => HLN.out (fun h => by simp only [Lk.mk.injEq] at h; exact g2 (by simp [h])) e.2.1)
                            have g2' : (lh == lh') = false := by simpa using g2
                            have g2'' : (lh != lh') = true := by simpa using g2
                            clear HLN
                            go_wp2_with fail
                            refine wp_region_quiet_below (by kernel_rfl) (by kernel_rfl) ?_
                            repeat (go_big_quiet_step (fail))
                            refine wpQuiet_nil ?_
                            rintro w9 hn9
                            replace hn9 := new_of_regrown hn9
                            go_wp2
                            go_ret
                            exact ⟨ret_bool hx.out, (N2.trans hnw).trans hn9⟩
                        · have hx : Hid (false = v) := HX.out (fun e => HLN.out (fun h => by simp only [Lk.mk.injEq] at h; exact g1 (by simp [h])) e.2.1)
                          have g1' : (pe == pe') = false := by simpa using g1
                          have g1'' : (pe != pe') = true := by simpa using g1
                          clear HLN
                          go_wp2_with fail
                          refine wp_region_quiet_below (by kernel_rfl) (by kernel_rfl) ?_
                          repeat (go_big_quiet_step (fail))
                          refine wpQuiet_nil ?_
                          rintro w9 hn9
                          replace hn9 := new_of_regrown hn9
                          go_wp2
                          go_ret
                          exact ⟨ret_bool hx.out, (N2.trans hnw).trans hn9⟩
                      · have hx : Hid (false = v) := HX.out (fun e => HLN.out (fun h => by simp only [Lk.mk.injEq] at h; exact g0 (by simp [h])) e.2.1)
                        have g0' : (st == st') = false := by simpa using g0
                        have g0'' : (st != st') = true := by simpa using g0
                        clear HLN
                        go_wp2_with fail
                        refine wp_region_quiet_below (by kernel_rfl) (by kernel_rfl) ?_
                        repeat (go_big_quiet_step (fail))
                        refine wpQuiet_nil ?_
                        rintro w9 hn9
                        replace hn9 := new_of_regrown hn9
                        go_wp2
                        go_ret
                        exact ⟨ret_bool hx.out, (N2.trans hnw).trans hn9⟩
                    · have V3 : Hid (L.map Lv.r = L'.map Lv.r) := by
                        show _ = _
                        have e := hl.out
                        rw [List.take_of_length_le (by rw [List.length_map, E3.out]; omega), List.take_of_length_le (by rw [List.length_map, F3.out]; omega)] at e
                        exact e
                      have N3 := N2.trans hnw
                      clear hl
                      go_wp2
                      generalize wr = w3 at *
                      go_loopw [6] (fun i wr => ∃ k : Nat, k ≤ rn ∧ i = .int .i64 k ∧ New w3 wr ∧ Hid ((R.map Rv.r).take k = (R'.map Rv.r).take k)) (fun i _ => rn - (intOf i).toNat)
                      case atStart => exact ⟨0, Nat.zero_le _, rfl, New.refl _, rfl⟩
                      case round =>
                        obtain ⟨k, hk, rfl, hnw2, hl2⟩ := hrel
                        have bA4 := bA3.new hnw2
                        have bB4 := bB3.new hnw2
                        clear cA cB
                        have cA := bA4.cells
                        have cB := bB4.cells
                        by_cases hlt : k < rn
                        · obtain ⟨g, off, p, a, l, o, nx2, md, lc2, x, m, d, xs, rfl, hp, hlen, hns, -, hmx, q0, q1, q2, q3, q4, q5, q6, q7⟩ := ((h4.new N3).new hnw2).at k (by have := E4.out; omega)
                          obtain ⟨g', off', p', a', l', o', nx2', md', lc2', x', m', d', xs', rfl, hp', hlen', hns', -, hmx', y0, y1, y2, y3, y4, y5, y6, y7⟩ := ((j4.new N3).new hnw2).at k (by have := F4.out; omega)
                          have HL : Hid (xs.length = m) := hlen
                          have HL' : Hid (xs'.length = m') := hlen'
                          have HR : Hid ((R.map Rv.r)[k]? = some ⟨p, a, l, o, xs, nx2, md, lc2⟩) := by show _ = _; rw [List.getElem?_map, hp]; rfl
                          have HR' : Hid ((R'.map Rv.r)[k]? = some ⟨p', a', l', o', xs', nx2', md', lc2'⟩) := by show _ = _; rw [List.getElem?_map, hp']; rfl
                          have HRN : Hid ((Rt.mk p a l o xs nx2 md lc2 ≠ Rt.mk p' a' l' o' xs' nx2' md' lc2') → ¬ R.map Rv.r = R'.map Rv.r) := by
                            intro h e
                            have e1 := HR.out
                            rw [e, HR'.out] at e1
                            exact h (Option.some.inj e1).symm
                          clear hp hp' hlen hlen'
                          have Q0 := cell_regrown q0
                          have Q1 := cell_regrown q1
                          have Q2 := cell_regrown q2
                          have Q3 := cell_regrown q3
                          have Q4 := cell_regrown q4
                          have Q5 := cell_regrown q5
                          have Q6 := cell_regrown q6
                          have Q7 := cell_regrown q7
                          have Y0 := cell_regrown y0
                          have Y1 := cell_regrown y1
                          have Y2 := cell_regrown y2
                          have Y3 := cell_regrown y3
                          have Y4 := cell_regrown y4
                          have Y5 := cell_regrown y5
                          have Y6 := cell_regrown y6
                          have Y7 := cell_regrown y7
                          have B0 := blk_regrown bA4
                          have B1 := blk_regrown bB4
                          by_cases g0 : p = p'
                          · subst g0
                            by_cases g1 : a = a'
                            · subst g1
                              by_cases g2 : l = l'
                              · subst g2
                                by_cases hsa : SaP o xs nx2 md lc2 o' xs' nx2' md' lc2'
                                · have HSA : Hid (decide (SaP o xs nx2 md lc2 o' xs' nx2' md' lc2') = true) := decide_eq_true hsa
                                  have hl9 : Hid ((R.map Rv.r).take (k + 1) = (R'.map Rv.r).take (k + 1)) := by
                                    have e9 := (rt_eq9 (p := p) (a := a) (l := l)).2 ⟨rfl, rfl, rfl, hsa⟩
                                    exact take_next9 hl2.out HR.out (by rw [e9]; exact HR'.out)
                                  clear hsa HRN
                                  go_wp2_with fail
                                  refine wp_region_quiet_below (by kernel_rfl) (by kernel_rfl) ?_
                                  repeat (go_big_quiet_step ((go_at_call 40; exact calls_regrown (specSA o nx2 md lc2 o' nx2' md' lc2' x x' m m' d d' xs xs' true _ (hns.new (new_regrown _ _ _)) (hns'.new (new_regrown _ _ _)) HL.out HL'.out hmx hmx' HSA.out))))
                                  refine wpQuiet_nil ?_
                                  rintro w9 hn9
                                  replace hn9 := new_of_regrown hn9
                                  go_wp2
                                  go_roundw
                                  case rel => exact ⟨k + 1, by omega, by go_num, hnw2.trans hn9, hl9⟩
                                  case measure => simp [intOf]; omega
                                · have HSA : Hid (decide (SaP o xs nx2 md lc2 o' xs' nx2' md' lc2') = false) := decide_eq_false hsa
                                  have hx : Hid (false = v) := HX.out (fun e => HRN.out (fun h => hsa (rt_eq9.1 h).2.2.2) e.2.2)
                                  clear hsa HRN
                                  go_wp2_with fail
                                  refine wp_region_quiet_below (by kernel_rfl) (by kernel_rfl) ?_
                                  repeat (go_big_quiet_step ((go_at_call 40; exact calls_regrown (specSA o nx2 md lc2 o' nx2' md' lc2' x x' m m' d d' xs xs' false _ (hns.new (new_regrown _ _ _)) (hns'.new (new_regrown _ _ _)) HL.out HL'.out hmx hmx' HSA.out))))
                                  refine wpQuiet_nil ?_
                                  rintro w9 hn9
                                  replace hn9 := new_of_regrown hn9
                                  go_wp2
                                  go_ret
                                  exact ⟨ret_bool hx.out, (N3.trans hnw2).trans hn9⟩
                              · have hx : Hid (false = v) := HX.out (fun e => HRN.out (fun h => by simp only [Rt.mk.injEq] at h; exact g2 (by simp [h])) e.2.2)
                                have g2' : (l == l') = false := by simpa using g2
                                have g2'' : (l != l') = true := by simpa using g2
                                clear HRN
                                go_wp2_with fail
                                refine wp_region_quiet_below (by kernel_rfl) (by kernel_rfl) ?_
                                repeat (go_big_quiet_step (fail))
                                refine wpQuiet_nil ?_
                                rintro w9 hn9
                                replace hn9 := new_of_regrown hn9
                                go_wp2
                                go_ret
                                exact ⟨ret_bool hx.out, (N3.trans hnw2).trans hn9⟩
                            · have hx : Hid (false = v) := HX.out (fun e => HRN.out (fun h => by simp only [Rt.mk.injEq] at h; exact g1 (by simp [h])) e.2.2)
                              have g1' : (a == a') = false := by simpa using g1
                              have g1'' : (a != a') = true := by simpa using g1
                              clear HRN
                              go_wp2_with fail
                              refine wp_region_quiet_below (by kernel_rfl) (by kernel_rfl) ?_
                              repeat (go_big_quiet_step (fail))
                              refine wpQuiet_nil ?_
                              rintro w9 hn9
                              replace hn9 := new_of_regrown hn9
                              go_wp2
                              go_ret
                              exact ⟨ret_bool hx.out, (N3.trans hnw2).trans hn9⟩
                          · have hx : Hid (false = v) := HX.out (fun e => HRN.out (fun h => by simp only [Rt.mk.injEq] at h; exact g0 (by simp [h])) e.2.2)
                            have g0' : (p == p') = false := by simpa using g0
                            have g0'' : (p != p') = true := by simpa using g0
                            clear HRN
                            go_wp2_with fail
                            refine wp_region_quiet_below (by kernel_rfl) (by kernel_rfl) ?_
                            repeat (go_big_quiet_step (fail))
                            refine wpQuiet_nil ?_
                            rintro w9 hn9
                            replace hn9 := new_of_regrown hn9
                            go_wp2
                            go_ret
                            exact ⟨ret_bool hx.out, (N3.trans hnw2).trans hn9⟩
                        · have hx : Hid (true = v) := HT2.out V1.out V2.out V3.out (by
                            have e := hl2.out
                            rw [List.take_of_length_le (by rw [List.length_map, E4.out]; omega), List.take_of_length_le (by rw [List.length_map, F4.out]; omega)] at e
                            exact e)
                          go_wp2
                          go_ret
                          exact ⟨ret_bool hx.out, N3.trans hnw2⟩
        · have hx : Hid (false = v) := HX.out (by simp [g3])
          have g3' : (nx == nx') = false := by simpa using g3
          have g3'' : (nx != nx') = true := by simpa using g3
          clear HX HT
          go_enter Try.func16, Try.ntmps16
          go_wp2
          go_ret
          exact ⟨ret_bool hx.out, N0⟩
      · have hx : Hid (false = v) := HX.out (by simp [g2])
        have g2' : (ho == ho') = false := by simpa using g2
        have g2'' : (ho != ho') = true := by simpa using g2
        clear HX HT
        go_enter Try.func16, Try.ntmps16
        go_wp2
        go_ret
        exact ⟨ret_bool hx.out, N0⟩
    · have hx : Hid (false = v) := HX.out (by simp [g1])
      have g1' : (si == si') = false := by simpa using g1
      have g1'' : (si != si') = true := by simpa using g1
      clear HX HT
      go_enter Try.func16, Try.ntmps16
      go_wp2
      go_ret
      exact ⟨ret_bool hx.out, N0⟩
  · have hx : Hid (false = v) := HX.out (by simp [g0])
    have g0' : (sa == sa') = false := by simpa using g0
    have g0'' : (sa != sa') = true := by simpa using g0
    clear HX HT
    go_enter Try.func16, Try.ntmps16
    go_wp2
    go_ret
    exact ⟨ret_bool hx.out, N0⟩

end Go.Proofs.Ytkahlmkhancloab
