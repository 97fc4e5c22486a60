/- What is proved here: what the fault of a router is, in the program and in the model, where its lists have at most 1048576 things. -/
import Derived.Test.YtkahlmkhancloabF9Lk
import Derived.Test.YtkahlmkhancloabG9Se
import Derived.Test.YtkahlmkhancloabR7Rib
import Derived.Test.YtkahlmkhancloabR7Bs
import Derived.Deep.CutRange
namespace Go.Proofs.Ytkahlmkhancloab
open Go.RowKit Go.Sort
set_option linter.unusedVariables false

/-- The first fault of links. -/
def lkC : List Lk → Int
  | [] => 0
  | v :: L => if v.f = 0 then lkC L else v.f
/-- Whether each route is of a peer whose session is up. -/
def upC (L : List Lk) : List Rt → Int
  | [] => 0
  | r :: R => if (L[r.p.toNat]?).map Lk.st = some 3 then upC L R else 1
/-- The fault of a router, behind that of its settings. -/
def rrF (s : Int) (L : List Lk) (R : List Rt) : Int :=
  if s = 0 then (if L.length = 3 then (if lkC L = 0 then (if ribF R = 0 then upC L R else ribF R) else lkC L) else 1) else s

theorem lkC_next {L : List Lk} {k : Nat} {v : Lk} (h : L[k]? = some v) : lkC (L.drop k) = if v.f = 0 then lkC (L.drop (k + 1)) else v.f := by
  obtain ⟨hk, e⟩ := List.getElem?_eq_some_iff.1 h
  rw [List.drop_eq_getElem_cons hk, e]
  rfl
theorem upC_next {L : List Lk} {R : List Rt} {k : Nat} {r : Rt} (h : R[k]? = some r) : upC L (R.drop k) = if (L[r.p.toNat]?).map Lk.st = some 3 then upC L (R.drop (k + 1)) else 1 := by
  obtain ⟨hk, e⟩ := List.getElem?_eq_some_iff.1 h
  rw [List.drop_eq_getElem_cons hk, e]
  rfl
theorem rt_peer {r : Rt} (h : r.f = 0) : Pe r.p := by
  unfold Rt.f rtf at h
  split at h
  · assumption
  · omega

set_option maxRecDepth 100000 in
set_option maxHeartbeats 6400000 in
theorem implRRF (sa si ho nx : Int) (a1 a2 la ra : Option Addr) (n1 c1 n2 c2 ln lc rn rc : Nat) (r1 r2 : List Ru) (L : List Lv) (R : List Rv) (z : Int) (w : World) (h1 : RsAt w a1 r1) (h2 : RsAt w a2 r2) (h3 : LkAt w la L) (h4 : RtAt w ra R) (e1 : r1.length = n1) (e2 : r2.length = n2) (e3 : L.length = ln) (e4 : R.length = rn) (m1 : n1 ≤ 1048576) (m2 : n2 ≤ 1048576) (m3 : ln ≤ 1048576) (m4 : rn ≤ 1048576) (hz : rrF (stF sa si ho nx r1 r2) (L.map Lv.r) (R.map Rv.r) = z) : Calls Try.prog 9 #[.agg #[.int .i64 sa, .int .i64 si, .int .i64 ho, .int .i64 nx, .slice a1 n1 c1, .slice a2 n2 c2, .slice la ln lc, .slice ra rn rc]] w fun e w' => e = .returned (.int .i64 z) ∧ New w w' := by
  have N0 := (New.refl w).alloc (.cells #[.int .i64 sa, .int .i64 si, .int .i64 ho, .int .i64 nx, .slice a1 n1 c1, .slice a2 n2 c2, .slice la ln lc, .slice ra rn rc] 40)
  have bA := (Blk.mk w _ 40 #[.int .i64 sa, .int .i64 si, .int .i64 ho, .int .i64 nx, .slice a1 n1 c1, .slice a2 n2 c2, .slice la ln lc, .slice ra rn rc] rfl)
  have cA := bA.cells
  have E1 : Hid (r1.length = n1) := e1
  have E2 : Hid (r2.length = n2) := e2
  have E3 : Hid (L.length = ln) := e3
  have E4 : Hid (R.length = rn) := e4
  clear e1 e2 e3 e4
  by_cases hs : stF sa si ho nx r1 r2 = 0
  · have HS0 : Hid (stF sa si ho nx r1 r2 = 0) := hs
    by_cases hl3 : ln = 3
    · subst hl3
      have HZ2 : Hid ((if lkC (L.map Lv.r) = 0 then (if ribF (R.map Rv.r) = 0 then upC (L.map Lv.r) (R.map Rv.r) else ribF (R.map Rv.r)) else lkC (L.map Lv.r)) = z) := by
        have h9 := hz
        unfold rrF at h9
        rw [if_pos hs, if_pos (by rw [List.length_map]; exact E3.out)] at h9
        exact h9
      clear hz hs
      go_enter Try.func9, Try.ntmps9
      go_wp2_with fail
      refine (implSE sa si ho nx a1 a2 n1 c1 n2 c2 r1 r2 0 _ (h1.new N0) (h2.new N0) E1.out E2.out m1 m2 HS0.out).mono ?_
      rintro e w1 ⟨rfl, k1⟩
      have b1 := bA.new k1
      have N1 := N0.trans k1
      clear cA bA
      have cA := b1.cells
      go_wp2
      go_loopw [23] (fun i wr => ∃ k : Nat, k ≤ 3 ∧ i = .int .i64 k ∧ New w1 wr ∧ Hid (lkC (L.map Lv.r) = lkC ((L.map Lv.r).drop k))) (fun i _ => 3 - (intOf i).toNat)
      case atStart => exact ⟨0, Nat.zero_le _, rfl, New.refl _, rfl⟩
      case round =>
        obtain ⟨k, hk, rfl, hnw, hl⟩ := hrel
        have b1w := b1.new hnw
        by_cases hlt : k < 3
        · obtain ⟨b, off, st, pe, lh, ls, lp, bs, bx, bc, U, t, tc, n, m, rfl, hv, hlen, hlen2, -, htd, hn5, hm5, q0, q1, q2, q3, q4, q5, q6⟩ := ((h3.new N1).new hnw).at k (by have := E3.out; omega)
          have HQ : Hid (U.length = m) := hlen2
          obtain ⟨f, hf⟩ : ∃ f, Hid (lkF st pe lh ls lp n m (tdF (U.map Tv.r)) = f) := ⟨_, rfl⟩
          have HV : (L.map Lv.r)[k]? = some ⟨st, pe, lh, ls, lp, bs, U.map Tv.r⟩ := by rw [List.getElem?_map, hv]; rfl
          have HF : Lk.f ⟨st, pe, lh, ls, lp, bs, U.map Tv.r⟩ = f := by
            show lkF st pe lh ls lp bs.length (U.map Tv.r).length (tdF (U.map Tv.r)) = f
            rw [List.length_map, hlen, hlen2]
            exact hf.out
          have hnx := lkC_next HV
          rw [HF] at hnx
          clear hv hlen hlen2 HV HF cA
          have cA := b1w.cells
          go_wp2_with fail
          refine (implLF st pe lh ls lp bx t n bc m tc U f _ (htd.new ((New.refl wr).alloc _)) HQ.out hn5 hm5 hf.out).mono ?_
          rintro e w2 ⟨rfl, k2⟩
          have K2 := (hnw.alloc (.cells #[.int .i64 st, .int .i64 pe, .int .i64 lh, .int .i64 ls, .int .i64 lp, .slice bx n bc, .slice t m tc] 67)).trans k2
          clear q0 q1 q2 q3 q4 q5 q6 cA
          by_cases hf0 : f = 0
          · subst hf0
            have hl3 : Hid (lkC (L.map Lv.r) = lkC ((L.map Lv.r).drop (k + 1))) := by
              show _ = _
              rw [hl.out, hnx, if_pos rfl]
            clear hnx hl
            go_wp2
            go_roundw
            case rel => exact ⟨k + 1, by omega, by go_num, K2, hl3⟩
            case measure => simp [intOf]; omega
          · have hfz : Hid (f = z) := by
              have h9 := HZ2.out
              rw [hl.out, hnx, if_neg hf0, if_neg hf0] at h9
              exact h9
            have hne : (f != 0) = true := by simpa using hf0
            clear hnx hl
            go_wp2
            go_ret
            exact ⟨ret_i64 hfz.out, N1.trans K2⟩
        · have cA := b1w.cells
          have hlz : lkC (L.map Lv.r) = 0 := by rw [hl.out, List.drop_of_length_le (by rw [List.length_map, E3.out]; omega)]; rfl
          have HZ3 : Hid ((if ribF (R.map Rv.r) = 0 then upC (L.map Lv.r) (R.map Rv.r) else ribF (R.map Rv.r)) = z) := by
            have h9 := HZ2.out
            rw [if_pos hlz] at h9
            exact h9
          have N2 := N1.trans hnw
          have b2 := b1.new hnw
          clear cA hlz hl
          have cA := b2.cells
          obtain ⟨g, hg⟩ : ∃ g, Hid (ribF (R.map Rv.r) = g) := ⟨_, rfl⟩
          go_wp2_with fail
          refine (implRib ra rn rc R g _ (h4.new N2) E4.out m4 hg.out).mono ?_
          rintro e w3 ⟨rfl, k3⟩
          have N3 := N2.trans k3
          have b3 := b2.new k3
          clear cA
          have cA := b3.cells
          by_cases hg0 : g = 0
          · subst hg0
            have HG : Hid (∀ r ∈ R.map Rv.r, r.f = 0) := (ribF_ok hg.out).2.2
            have HZ4 : Hid (upC (L.map Lv.r) (R.map Rv.r) = z) := by
              have h9 := HZ3.out
              rw [if_pos hg.out] at h9
              exact h9
            clear HZ3
            go_wp2
            go_loopw [42] (fun i wr => ∃ k : Nat, k ≤ rn ∧ i = .int .i64 k ∧ New w3 wr ∧ Hid (upC (L.map Lv.r) (R.map Rv.r) = upC (L.map Lv.r) ((R.map Rv.r).drop k))) (fun i _ => rn - (intOf i).toNat)
            case atStart => exact ⟨0, Nat.zero_le _, rfl, New.refl _, rfl⟩
            case round =>
              obtain ⟨k, hk, rfl, hnw2, hl2⟩ := hrel
              have b4 := b3.new hnw2
              clear cA
              have cA := b4.cells
              by_cases hlt : k < rn
              · obtain ⟨b, off, p, a, l, o, nx2, md, lc2, x, pm, pc, xs, rfl, hv, hlen, -, -, -, q0, q1, q2, q3, q4, q5, q6, q7⟩ := ((h4.new N3).new hnw2).at k (by have := E4.out; omega)
                have HR : (R.map Rv.r)[k]? = some ⟨p, a, l, o, xs, nx2, md, lc2⟩ := by rw [List.getElem?_map, hv]; rfl
                have hpe : Pe p := rt_peer (HG.out _ (List.mem_of_getElem? HR))
                have hnx := upC_next (L := L.map Lv.r) HR
                clear hv hlen HR
                obtain ⟨hp0, hp2⟩ := hpe
                obtain ⟨j, rfl⟩ := Int.eq_ofNat_of_zero_le hp0
                have hj : j < 3 := by omega
                have hal := (New.refl wr).alloc (.cells #[.int .i64 (j : Int), .int .i64 a, .int .i64 l, .int .i64 o, .slice x pm pc, .int .i64 nx2, .int .i64 md, .int .i64 lc2] 76)
                have bL := Blk.mk wr wr.heap.size 76 #[.int .i64 (j : Int), .int .i64 a, .int .i64 l, .int .i64 o, .slice x pm pc, .int .i64 nx2, .int .i64 md, .int .i64 lc2] rfl
                have b5 := b4.new hal
                have N5 := hnw2.trans hal
                obtain ⟨lb, loff, st, pe, lh, ls, lp, bs, bx, bc, U, t, tc, n, m, rfl, hv, -, -, -, -, -, -, y0, y1, y2, y3, y4, y5, y6⟩ := (((h3.new N3).new hnw2).new hal).at j (by have := E3.out; omega)
                have HS : ((L.map Lv.r)[(Rt.mk (j : Int) a l o xs nx2 md lc2).p.toNat]?).map Lk.st = some st := by
                  show ((L.map Lv.r)[(j : Int).toNat]?).map Lk.st = some st
                  rw [Int.toNat_natCast, List.getElem?_map, hv]
                  rfl
                rw [HS] at hnx
                clear hv HS
                by_cases hst : st = 3
                · subst hst
                  have hl3 : Hid (upC (L.map Lv.r) (R.map Rv.r) = upC (L.map Lv.r) ((R.map Rv.r).drop (k + 1))) := by
                    show _ = _
                    rw [hl2.out, hnx, if_pos rfl]
                  clear hnx hl2
                  go_upto_region 19 with fail
                  clear q0 q1 q2 q3 q4 q5 q6 q7
                  have cR := b5.cells
                  have cL := bL.cells
                  generalize wr.alloc (.cells #[.int .i64 (j : Int), .int .i64 a, .int .i64 l, .int .i64 o, .slice x pm pc, .int .i64 nx2, .int .i64 md, .int .i64 lc2] 76) = wa at *
                  go_wp2_with fail
                  refine (up9_yes pe lh ls lp _).mono ?_
                  rintro e w4 ⟨rfl, k4⟩
                  go_wp2
                  go_roundw
                  case rel => exact ⟨k + 1, by omega, by go_num, (N5.trans k4), hl3⟩
                  case measure => simp [intOf]; omega
                · have hz1 : Hid (1 = z) := by
                    have h9 := HZ4.out
                    rw [hl2.out, hnx, if_neg (by intro e; exact hst (Option.some.inj e))] at h9
                    exact h9
                  clear hnx hl2
                  go_upto_region 19 with fail
                  clear q0 q1 q2 q3 q4 q5 q6 q7
                  have cR := b5.cells
                  have cL := bL.cells
                  generalize wr.alloc (.cells #[.int .i64 (j : Int), .int .i64 a, .int .i64 l, .int .i64 o, .slice x pm pc, .int .i64 nx2, .int .i64 md, .int .i64 lc2] 76) = wa at *
                  go_wp2_with fail
                  refine (up9_no st pe lh ls lp _ hst).mono ?_
                  rintro e w4 ⟨rfl, k4⟩
                  go_wp2
                  go_ret
                  exact ⟨ret_i64 hz1.out, N3.trans (N5.trans k4)⟩
              · have hz1 : Hid (0 = z) := by
                  have h9 := HZ4.out
                  rw [hl2.out, List.drop_of_length_le (by rw [List.length_map, E4.out]; omega)] at h9
                  exact h9
                go_wp2
                go_ret
                exact ⟨ret_i64 hz1.out, N3.trans hnw2⟩
          · have hgz : Hid (g = z) := by
              have h9 := HZ3.out
              rw [if_neg (by rw [hg.out]; exact hg0), hg.out] at h9
              exact h9
            have hne : (g != 0) = true := by simpa using hg0
            go_wp2
            go_ret
            exact ⟨ret_i64 hgz.out, N3⟩
    · obtain rfl : 1 = z := by
        have h9 := hz
        unfold rrF at h9
        rw [if_pos hs, if_neg (by rw [List.length_map, E3.out]; exact hl3)] at h9
        exact h9
      have hne : ((ln : Int) != 3) = true := by simp; omega
      clear hz hs
      go_enter Try.func9, Try.ntmps9
      go_wp2_with fail
      refine (implSE sa si ho nx a1 a2 n1 c1 n2 c2 r1 r2 0 _ (h1.new N0) (h2.new N0) E1.out E2.out m1 m2 HS0.out).mono ?_
      rintro e w1 ⟨rfl, k1⟩
      have b1 := bA.new k1
      have N1 := N0.trans k1
      clear cA bA
      have cA := b1.cells
      go_wp2
      go_ret
      exact ⟨rfl, N1⟩
  · have HS0 : Hid (stF sa si ho nx r1 r2 = z) := by
      have h9 := hz
      unfold rrF at h9
      rw [if_neg hs] at h9
      exact h9
    have hz0 : ¬ z = 0 := fun f => hs (HS0.out.trans f)
    clear hz hs
    go_enter Try.func9, Try.ntmps9
    go_wp2_with fail
    refine (implSE sa si ho nx a1 a2 n1 c1 n2 c2 r1 r2 z _ (h1.new N0) (h2.new N0) E1.out E2.out m1 m2 HS0.out).mono ?_
    rintro e w1 ⟨rfl, k1⟩
    have b1 := bA.new k1
    have N1 := N0.trans k1
    clear cA bA
    have cA := b1.cells
    go_wp2
    go_ret
    exact ⟨rfl, N1⟩

set_option maxRecDepth 100000 in
set_option maxHeartbeats 6400000 in
theorem specRRF0 (B : Nat) (sa si ho nx : Int) (a1 a2 la ra : Option Addr) (n1 c1 n2 c2 ln lc rn rc : Nat) (r1 r2 : List Ru) (L : List Lv) (R : List Rv) (z : Int) (w : World) (bA : Blk w B 40 #[.int .i64 sa, .int .i64 si, .int .i64 ho, .int .i64 nx, .slice a1 n1 c1, .slice a2 n2 c2, .slice la ln lc, .slice ra rn rc]) (h1 : RsAt w a1 r1) (h2 : RsAt w a2 r2) (h3 : LkAt w la L) (h4 : RtAt w ra R) (e1 : r1.length = n1) (e2 : r2.length = n2) (e3 : L.length = ln) (e4 : R.length = rn) (m1 : n1 ≤ 1048576) (m2 : n2 ≤ 1048576) (m3 : ln ≤ 1048576) (m4 : rn ≤ 1048576) (hz : rrF (stF sa si ho nx r1 r2) (L.map Lv.r) (R.map Rv.r) = z) : Calls Try.prog 21 #[.pointer (some ⟨B, 0, none⟩)] w fun e w' => e = .returned (.int .i64 z) ∧ New w w' := by
  have N0 := New.refl w
  have cA := bA.cells
  have E1 : Hid (r1.length = n1) := e1
  have E2 : Hid (r2.length = n2) := e2
  have E3 : Hid (L.length = ln) := e3
  have E4 : Hid (R.length = rn) := e4
  clear e1 e2 e3 e4
  by_cases hs : stF sa si ho nx r1 r2 = 0
  · have HS0 : Hid (stF sa si ho nx r1 r2 = 0) := hs
    by_cases hl3 : ln = 3
    · subst hl3
      have HZ2 : Hid ((if lkC (L.map Lv.r) = 0 then (if ribF (R.map Rv.r) = 0 then upC (L.map Lv.r) (R.map Rv.r) else ribF (R.map Rv.r)) else lkC (L.map Lv.r)) = z) := by
        have h9 := hz
        unfold rrF at h9
        rw [if_pos hs, if_pos (by rw [List.length_map]; exact E3.out)] at h9
        exact h9
      clear hz hs
      go_enter Try.func21, Try.ntmps21
      go_wp2_with fail
      refine (specSE sa si ho nx a1 a2 n1 c1 n2 c2 r1 r2 0 _ (h1.new N0) (h2.new N0) E1.out E2.out m1 m2 HS0.out).mono ?_
      rintro e w1 ⟨rfl, k1⟩
      have b1 := bA.new k1
      have N1 := N0.trans k1
      clear cA bA
      have cA := b1.cells
      go_wp2
      go_loopw [4] (fun i wr => ∃ k : Nat, k ≤ 3 ∧ i = .int .i64 k ∧ New w1 wr ∧ Hid (lkC (L.map Lv.r) = lkC ((L.map Lv.r).drop k))) (fun i _ => 3 - (intOf i).toNat)
      case atStart => exact ⟨0, Nat.zero_le _, rfl, New.refl _, rfl⟩
      case round =>
        obtain ⟨k, hk, rfl, hnw, hl⟩ := hrel
        have b1w := b1.new hnw
        by_cases hlt : k < 3
        · obtain ⟨b, off, st, pe, lh, ls, lp, bs, bx, bc, U, t, tc, n, m, rfl, hv, hlen, hlen2, -, htd, hn5, hm5, q0, q1, q2, q3, q4, q5, q6⟩ := ((h3.new N1).new hnw).at k (by have := E3.out; omega)
          have HQ : Hid (U.length = m) := hlen2
          obtain ⟨f, hf⟩ : ∃ f, Hid (lkF st pe lh ls lp n m (tdF (U.map Tv.r)) = f) := ⟨_, rfl⟩
          have HV : (L.map Lv.r)[k]? = some ⟨st, pe, lh, ls, lp, bs, U.map Tv.r⟩ := by rw [List.getElem?_map, hv]; rfl
          have HF : Lk.f ⟨st, pe, lh, ls, lp, bs, U.map Tv.r⟩ = f := by
            show lkF st pe lh ls lp bs.length (U.map Tv.r).length (tdF (U.map Tv.r)) = f
            rw [List.length_map, hlen, hlen2]
            exact hf.out
          have hnx := lkC_next HV
          rw [HF] at hnx
          clear hv hlen hlen2 HV HF cA
          have cA := b1w.cells
          go_wp2_with fail
          refine (specLF b (off + k * 7) st pe lh ls lp bx t n bc m tc U f _ q0 q1 q2 q3 q4 q5 q6 htd HQ.out hn5 hm5 hf.out).mono ?_
          rintro e w2 ⟨rfl, k2⟩
          have K2 := hnw.trans k2
          clear q0 q1 q2 q3 q4 q5 q6 cA
          by_cases hf0 : f = 0
          · subst hf0
            have hl3 : Hid (lkC (L.map Lv.r) = lkC ((L.map Lv.r).drop (k + 1))) := by
              show _ = _
              rw [hl.out, hnx, if_pos rfl]
            clear hnx hl
            go_wp2
            go_roundw
            case rel => exact ⟨k + 1, by omega, by go_num, K2, hl3⟩
            case measure => simp [intOf]; omega
          · have hfz : Hid (f = z) := by
              have h9 := HZ2.out
              rw [hl.out, hnx, if_neg hf0, if_neg hf0] at h9
              exact h9
            have hne : (f != 0) = true := by simpa using hf0
            clear hnx hl
            go_wp2
            go_ret
            exact ⟨ret_i64 hfz.out, N1.trans K2⟩
        · have cA := b1w.cells
          have hlz : lkC (L.map Lv.r) = 0 := by rw [hl.out, List.drop_of_length_le (by rw [List.length_map, E3.out]; omega)]; rfl
          have HZ3 : Hid ((if ribF (R.map Rv.r) = 0 then upC (L.map Lv.r) (R.map Rv.r) else ribF (R.map Rv.r)) = z) := by
            have h9 := HZ2.out
            rw [if_pos hlz] at h9
            exact h9
          have N2 := N1.trans hnw
          have b2 := b1.new hnw
          clear cA hlz hl
          have cA := b2.cells
          obtain ⟨g, hg⟩ : ∃ g, Hid (ribF (R.map Rv.r) = g) := ⟨_, rfl⟩
          go_wp2_with fail
          refine (specRib ra rn rc R g _ (h4.new N2) E4.out m4 hg.out).mono ?_
          rintro e w3 ⟨rfl, k3⟩
          have N3 := N2.trans k3
          have b3 := b2.new k3
          clear cA
          have cA := b3.cells
          by_cases hg0 : g = 0
          · subst hg0
            have HG : Hid (∀ r ∈ R.map Rv.r, r.f = 0) := (ribF_ok hg.out).2.2
            have HZ4 : Hid (upC (L.map Lv.r) (R.map Rv.r) = z) := by
              have h9 := HZ3.out
              rw [if_pos hg.out] at h9
              exact h9
            clear HZ3
            go_wp2
            go_loopw [7] (fun i wr => ∃ k : Nat, k ≤ rn ∧ i = .int .i64 k ∧ New w3 wr ∧ Hid (upC (L.map Lv.r) (R.map Rv.r) = upC (L.map Lv.r) ((R.map Rv.r).drop k))) (fun i _ => rn - (intOf i).toNat)
            case atStart => exact ⟨0, Nat.zero_le _, rfl, New.refl _, rfl⟩
            case round =>
              obtain ⟨k, hk, rfl, hnw2, hl2⟩ := hrel
              have b4 := b3.new hnw2
              clear cA
              have cA := b4.cells
              by_cases hlt : k < rn
              · obtain ⟨b, off, p, a, l, o, nx2, md, lc2, x, pm, pc, xs, rfl, hv, hlen, -, -, -, q0, q1, q2, q3, q4, q5, q6, q7⟩ := ((h4.new N3).new hnw2).at k (by have := E4.out; omega)
                have HR : (R.map Rv.r)[k]? = some ⟨p, a, l, o, xs, nx2, md, lc2⟩ := by rw [List.getElem?_map, hv]; rfl
                have hpe : Pe p := rt_peer (HG.out _ (List.mem_of_getElem? HR))
                have hnx := upC_next (L := L.map Lv.r) HR
                clear hv hlen HR
                obtain ⟨hp0, hp2⟩ := hpe
                obtain ⟨j, rfl⟩ := Int.eq_ofNat_of_zero_le hp0
                have hj : j < 3 := by omega
                obtain ⟨lb, loff, st, pe, lh, ls, lp, bs, bx, bc, U, t, tc, n, m, rfl, hv, -, -, -, -, -, -, y0, y1, y2, y3, y4, y5, y6⟩ := ((h3.new N3).new hnw2).at j (by have := E3.out; omega)
                have HS : ((L.map Lv.r)[(Rt.mk (j : Int) a l o xs nx2 md lc2).p.toNat]?).map Lk.st = some st := by
                  show ((L.map Lv.r)[(j : Int).toNat]?).map Lk.st = some st
                  rw [Int.toNat_natCast, List.getElem?_map, hv]
                  rfl
                rw [HS] at hnx
                clear hv HS
                by_cases hst : st = 3
                · subst hst
                  have hl3 : Hid (upC (L.map Lv.r) (R.map Rv.r) = upC (L.map Lv.r) ((R.map Rv.r).drop (k + 1))) := by
                    show _ = _
                    rw [hl2.out, hnx, if_pos rfl]
                  clear hnx hl2
                  have X0 := cell_regrown q0
                  have Y0 := cell_regrown y0
                  have B0 := blk_regrown b4
                  have hj' : (j : Int) < 3 := by omega
                  go_wp2_with fail
                  refine wp_region_quiet_below (by kernel_rfl) (by kernel_rfl) ?_
                  repeat (go_big_quiet_step (fail))
                  refine wpQuiet_nil ?_
                  rintro w4 k4
                  replace k4 := new_of_regrown k4
                  go_wp2
                  go_roundw
                  case rel => exact ⟨k + 1, by omega, by go_num, (hnw2.trans k4), hl3⟩
                  case measure => simp [intOf]; omega
                · have hz1 : Hid (1 = z) := by
                    have h9 := HZ4.out
                    rw [hl2.out, hnx, if_neg (by intro e; exact hst (Option.some.inj e))] at h9
                    exact h9
                  clear hnx hl2
                  have X0 := cell_regrown q0
                  have Y0 := cell_regrown y0
                  have B0 := blk_regrown b4
                  have hj' : (j : Int) < 3 := by omega
                  go_wp2_with fail
                  refine wp_region_quiet_below (by kernel_rfl) (by kernel_rfl) ?_
                  repeat (go_big_quiet_step (fail))
                  refine wpQuiet_nil ?_
                  rintro w4 k4
                  replace k4 := new_of_regrown k4
                  go_wp2
                  go_ret
                  exact ⟨ret_i64 hz1.out, N3.trans (hnw2.trans k4)⟩
              · have hz1 : Hid (0 = z) := by
                  have h9 := HZ4.out
                  rw [hl2.out, List.drop_of_length_le (by rw [List.length_map, E4.out]; omega)] at h9
                  exact h9
                go_wp2
                go_ret
                exact ⟨ret_i64 hz1.out, N3.trans hnw2⟩
          · have hgz : Hid (g = z) := by
              have h9 := HZ3.out
              rw [if_neg (by rw [hg.out]; exact hg0), hg.out] at h9
              exact h9
            have hne : (g != 0) = true := by simpa using hg0
            go_wp2
            go_ret
            exact ⟨ret_i64 hgz.out, N3⟩
    · obtain rfl : 1 = z := by
        have h9 := hz
        unfold rrF at h9
        rw [if_pos hs, if_neg (by rw [List.length_map, E3.out]; exact hl3)] at h9
        exact h9
      have hne : ((ln : Int) != 3) = true := by simp; omega
      clear hz hs
      go_enter Try.func21, Try.ntmps21
      go_wp2_with fail
      refine (specSE sa si ho nx a1 a2 n1 c1 n2 c2 r1 r2 0 _ (h1.new N0) (h2.new N0) E1.out E2.out m1 m2 HS0.out).mono ?_
      rintro e w1 ⟨rfl, k1⟩
      have b1 := bA.new k1
      have N1 := N0.trans k1
      clear cA bA
      have cA := b1.cells
      go_wp2
      go_ret
      exact ⟨rfl, N1⟩
  · have HS0 : Hid (stF sa si ho nx r1 r2 = z) := by
      have h9 := hz
      unfold rrF at h9
      rw [if_neg hs] at h9
      exact h9
    have hz0 : ¬ z = 0 := fun f => hs (HS0.out.trans f)
    clear hz hs
    go_enter Try.func21, Try.ntmps21
    go_wp2_with fail
    refine (specSE sa si ho nx a1 a2 n1 c1 n2 c2 r1 r2 z _ (h1.new N0) (h2.new N0) E1.out E2.out m1 m2 HS0.out).mono ?_
    rintro e w1 ⟨rfl, k1⟩
    have b1 := bA.new k1
    have N1 := N0.trans k1
    clear cA bA
    have cA := b1.cells
    go_wp2
    go_ret
    exact ⟨rfl, N1⟩

set_option maxHeartbeats 1600000 in
theorem specRRF (sa si ho nx : Int) (a1 a2 la ra : Option Addr) (n1 c1 n2 c2 ln lc rn rc : Nat) (r1 r2 : List Ru) (L : List Lv) (R : List Rv) (z : Int) (w : World) (h1 : RsAt w a1 r1) (h2 : RsAt w a2 r2) (h3 : LkAt w la L) (h4 : RtAt w ra R) (e1 : r1.length = n1) (e2 : r2.length = n2) (e3 : L.length = ln) (e4 : R.length = rn) (m1 : n1 ≤ 1048576) (m2 : n2 ≤ 1048576) (m3 : ln ≤ 1048576) (m4 : rn ≤ 1048576) (hz : rrF (stF sa si ho nx r1 r2) (L.map Lv.r) (R.map Rv.r) = z) : Calls Try.prog 7 #[.agg #[.int .i64 sa, .int .i64 si, .int .i64 ho, .int .i64 nx, .slice a1 n1 c1, .slice a2 n2 c2, .slice la ln lc, .slice ra rn rc]] w fun e w' => e = .returned (.int .i64 z) ∧ New w w' := by
  have N0 := (New.refl w).alloc (.cells #[.int .i64 sa, .int .i64 si, .int .i64 ho, .int .i64 nx, .slice a1 n1 c1, .slice a2 n2 c2, .slice la ln lc, .slice ra rn rc] 40)
  have bA := (Blk.mk w _ 40 #[.int .i64 sa, .int .i64 si, .int .i64 ho, .int .i64 nx, .slice a1 n1 c1, .slice a2 n2 c2, .slice la ln lc, .slice ra rn rc] rfl)
  go_enter Try.func7, Try.ntmps7
  go_wp2_with fail
  refine (specRRF0 w.heap.size sa si ho nx a1 a2 la ra n1 c1 n2 c2 ln lc rn rc r1 r2 L R z _ bA (h1.new N0) (h2.new N0) (h3.new N0) (h4.new N0) e1 e2 e3 e4 m1 m2 m3 m4 hz).mono ?_
  rintro e w1 ⟨rfl, k1⟩
  go_wp2
  go_ret
  exact ⟨rfl, N0.trans k1⟩

end Go.Proofs.Ytkahlmkhancloab
