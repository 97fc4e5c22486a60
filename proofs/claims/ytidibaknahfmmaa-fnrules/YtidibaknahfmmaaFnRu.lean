/- What is proved here: for every bytes the law on rules returns true, and the bytes read as they did. No condition. -/
import Derived.Test.YtidibaknahfmmaaDrawAp
import Derived.Test.YtidibaknahfmmaaLwBig
import Derived.Test.YtidibaknahfmmaaR6ApM
import Derived.Test.YtidibaknahfmmaaOpen
import Derived.Deep.CutRange
namespace Go.Proofs.Ytidibaknahfmmaa
open Go.ChangeShapes Go.WideShapes Go.ChangeAt Go.RowKit Go.Sort
set_option linter.unusedVariables false
set_option linter.unusedSimpArgs false

theorem implRSF_is (x : Option Addr) (n c : Nat) (rs : List Ru) (k : Int) (w : World) (h : RsAt w x rs) (hn : rs.length = n) (hm : n ≤ 1048576) (e : rsf rs = k) : Calls Try.prog 9 #[.slice x n c] w fun e w' => e = .returned (.int .i64 k) ∧ New w w' := e ▸ implRSF x n c rs w h hn hm
theorem apF_code {z p q o : Int} {xs : List Int} {nx md lo : Int} : ∀ (rs : List Ru) (i : Int), (apF z p q o xs nx md lo i rs).c ≠ 3
  | [], i => by simp [apF]
  | r :: rs, i => by
    unfold apF
    split
    · unfold ap1
      split
      · simp [arC]
      · split
        · simp [arC]
        · simp
    · exact apF_code rs (i + 1)

set_option maxRecDepth 100000 in
set_option maxHeartbeats 200000000 in
theorem fnru_walk (a : Option Addr) (n c : Nat) (zs : List Int) (w : World) (h : BsAt w a zs) (hn : zs.length = n) (hm : n ≤ maxLen) (ha : ∀ x, zs ≠ [] → a = some x → x.block < w.heap.size) :
    Calls Try.prog 3 #[.slice a n c] w fun e w' => e = .returned (.bool true) ∧ New w w' := by
  by_cases hbig : 1048576 < n
  · go_enter Try.func3, Try.ntmps3
    go_wp2_with fail
    refine (lbig_yes a n c _ hbig).mono ?_
    rintro e w0 ⟨rfl, hw0⟩
    rw [hw0]
    go_wp2
    go_ret
    exact ⟨rfl, New.refl _⟩
  go_enter Try.func3, Try.ntmps3
  go_wp2_with fail
  refine (lbig_no a n c _ hbig).mono ?_
  rintro e w0 ⟨rfl, hw0⟩
  rw [hw0]
  go_wp2_with fail
  refine (drawApply a n c zs _ h hn (by omega) ha).mono ?_
  rintro e w1 ⟨y, rn, rk, rs, z, p, q, o, nx, md, lo, xs, xa, xc, m, rfl, hlr, hr9, hR1, hlx, hm7, nX1, hnil, N1⟩
  go_upto_region 4 with fail
  have hal : New w1 ((w1.alloc (.cells #[.int .i64 p, .int .i64 q] 26)).alloc (.cells #[.int .i64 o, .slice xa m xc, .int .i64 nx, .int .i64 md, .int .i64 lo] 29)) := ((New.refl _).alloc _).alloc _
  have bP2 : Blk ((w1.alloc (.cells #[.int .i64 p, .int .i64 q] 26)).alloc (.cells #[.int .i64 o, .slice xa m xc, .int .i64 nx, .int .i64 md, .int .i64 lo] 29)) w1.heap.size 26 #[.int .i64 p, .int .i64 q] := (Blk.mk _ _ _ _ rfl).alloc _
  have bA2 : Blk ((w1.alloc (.cells #[.int .i64 p, .int .i64 q] 26)).alloc (.cells #[.int .i64 o, .slice xa m xc, .int .i64 nx, .int .i64 md, .int .i64 lo] 29)) (w1.heap.size + 1) 29 #[.int .i64 o, .slice xa m xc, .int .i64 nx, .int .i64 md, .int .i64 lo] := Blk.mk _ _ _ _ (by simp)
  have N2 := N1.trans hal
  have hR2 := hR1.new hal
  have nX2 := nX1.new hal
  have HL : Hid (xs.length = m) := hlx
  have HR : Hid (rs.length = rn) := hlr
  have HNIL : Hid (xa = none → m = 0 ∧ xc = 0) := hnil
  clear hal N1 hR1 nX1 hlx hlr hnil
  generalize ((w1.alloc (.cells #[.int .i64 p, .int .i64 q] 26)).alloc (.cells #[.int .i64 o, .slice xa m xc, .int .i64 nx, .int .i64 md, .int .i64 lo] 29)) = w2 at *
  have cP := bP2.cells
  have cA := bA2.cells
  obtain ⟨r, hr0⟩ : ∃ r, Hid (apA rs z p q o xs nx md lo = r) := ⟨_, rfl⟩
  have hbr : Hid (∀ u ∈ r.ns, In6 u) := by
    unfold Hid
    rw [← hr0.out]
    exact apA_in nX2.bd
  obtain ⟨rc, rr, ro, ns, rx, rd, rl⟩ := r
  obtain ⟨gm, HGM⟩ : ∃ gm, Hid (ns.length = gm) := ⟨_, rfl⟩
  replace hbr : Hid (∀ u ∈ ns, In6 u) := hbr
  go_wp2_with fail
  refine (implAR y rn rk rs z p q o nx md lo xa m xc xs _ hR2 HR.out (by omega) nX2 HL.out (by omega) HNIL.out).mono ?_
  rintro e w3 hans
  rw [hr0.out] at hans
  obtain ⟨ga, gk, rfl, og3, hn3⟩ := hans.opened HGM.out
  clear hans cP cA
  go_upto_region 5 with fail
  have hal : New w3 (w3.alloc (.cells #[.int .i64 rc, .int .i64 rr, .int .i64 ro, .slice ga gm gk, .int .i64 rx, .int .i64 rd, .int .i64 rl] 33)) := (New.refl _).alloc _
  have bG4 : Blk (w3.alloc (.cells #[.int .i64 rc, .int .i64 rr, .int .i64 ro, .slice ga gm gk, .int .i64 rx, .int .i64 rd, .int .i64 rl] 33)) w3.heap.size 33 #[.int .i64 rc, .int .i64 rr, .int .i64 ro, .slice ga gm gk, .int .i64 rx, .int .i64 rd, .int .i64 rl] := Blk.mk _ _ _ _ rfl
  have hw4 := hn3.trans hal
  have bP4 := bP2.new hw4
  have bA4 := bA2.new hw4
  have hR4 := hR2.new hw4
  have nX4 := nX2.new hw4
  have nG4 := (og3.nsAt hbr.out).new hal
  have N4 := N2.trans hw4
  clear bP2 bA2 hR2 nX2 og3 hal hw4 N2 hn3
  generalize (w3.alloc (.cells #[.int .i64 rc, .int .i64 rr, .int .i64 ro, .slice ga gm gk, .int .i64 rx, .int .i64 rd, .int .i64 rl] 33)) = w4 at *
  have cP := bP4.cells
  have cA := bA4.cells
  go_wp2_with fail
  refine (specAR y rn rk rs z p q o nx md lo xa m xc xs _ hR4 HR.out (by omega) nX4 HL.out (by omega) HNIL.out).mono ?_
  rintro e w5 hans
  rw [hr0.out] at hans
  obtain ⟨ha', hk, rfl, -, hn5⟩ := hans.opened HGM.out
  clear hans cP cA
  go_upto_region 6 with fail
  have hal : New w5 (w5.alloc (.cells #[.int .i64 rc, .int .i64 rr, .int .i64 ro, .slice ha' gm hk, .int .i64 rx, .int .i64 rd, .int .i64 rl] 33)) := (New.refl _).alloc _
  have bW6 : Blk (w5.alloc (.cells #[.int .i64 rc, .int .i64 rr, .int .i64 ro, .slice ha' gm hk, .int .i64 rx, .int .i64 rd, .int .i64 rl] 33)) w5.heap.size 33 #[.int .i64 rc, .int .i64 rr, .int .i64 ro, .slice ha' gm hk, .int .i64 rx, .int .i64 rd, .int .i64 rl] := Blk.mk _ _ _ _ rfl
  have hw6 := hn5.trans hal
  have bP6 := bP4.new hw6
  have bA6 := bA4.new hw6
  have bG6 := bG4.new hw6
  have hR6 := hR4.new hw6
  have nX6 := nX4.new hw6
  have nG6 := nG4.new hw6
  have N6 := N4.trans hw6
  clear bP4 bA4 bG4 hR4 nX4 nG4 hal hw6 N4 hn5
  generalize (w5.alloc (.cells #[.int .i64 rc, .int .i64 rr, .int .i64 ro, .slice ha' gm hk, .int .i64 rx, .int .i64 rd, .int .i64 rl] 33)) = w6 at *
  have cP := bP6.cells
  have cA := bA6.cells
  have cG := bG6.cells
  have cW := bW6.cells
  have e1 : (rc != rc) = false := by simp
  have e2 : (rr != rr) = false := by simp
  by_cases gc : apc rs z p q o xs nx md lo = 0
  case neg =>
    have HRC : Hid (rc = apc rs z p q o xs nx md lo) := by
      unfold Hid
      have h0 := hr0.out
      unfold apA at h0
      rw [if_neg gc] at h0
      unfold arC at h0
      simp only [Ar.mk.injEq] at h0
      exact h0.1.symm
    have e3 : (rc != 0) = true := by rw [HRC.out]; simpa using gc
    have GC : Hid (¬ apc rs z p q o xs nx md lo = 0) := gc
    clear gc
    go_wp2_with fail
    by_cases k1 : rsf rs = 0
    case neg =>
      have z1 : (rsf rs != 0) = true := by simpa using k1
      refine (implRSF y rn rk rs _ hR6 HR.out (by omega)).mono ?_
      rintro e w7 ⟨rfl, hn7⟩
      have cG7 := (bG6.new hn7).cells
      clear cP cA cG cW
      go_wp2
      go_ret
      exact ⟨by first | (rw [e3]; done) | simp [e3], N6.trans hn7⟩
    refine (implRSF_is y rn rk rs 0 _ hR6 HR.out (by omega) k1).mono ?_
    rintro e w7 ⟨rfl, hn7⟩
    have bP7 := bP6.new hn7
    have bA7 := bA6.new hn7
    have bG7 := bG6.new hn7
    have nX7 := nX6.new hn7
    have N7 := N6.trans hn7
    clear cP cA cG cW bP6 bA6 bG6 nX6 N6 hn7 bW6 nG6 hR6
    have cP := bP7.cells
    go_wp2_with fail
    by_cases k2 : pf p q = 0
    case neg =>
      have z1 : (pf p q != 0) = true := by simpa using k2
      refine (implPF p q _).mono ?_
      rintro e w8 ⟨rfl, hn8⟩
      have cG8 := (bG7.new hn8).cells
      clear cP
      go_wp2
      go_ret
      exact ⟨by first | (rw [e3]; done) | simp [e3], N7.trans hn8⟩
    refine (implPF_is p q 0 _ k2).mono ?_
    rintro e w8 ⟨rfl, hn8⟩
    have bA8 := bA7.new hn8
    have bG8 := bG7.new hn8
    have nX8 := nX7.new hn8
    have N8 := N7.trans hn8
    clear cP bP7 bA7 bG7 nX7 N7 hn8
    have cA := bA8.cells
    go_wp2_with fail
    by_cases k3 : af o xs nx md lo = 0
    case neg =>
      have z1 : (af o xs nx md lo != 0) = true := by simpa using k3
      refine (implAF o nx md lo xa m xc xs _ nX8 HL.out (by omega)).mono ?_
      rintro e w9 ⟨rfl, hn9⟩
      have cG9 := (bG8.new hn9).cells
      clear cA
      go_wp2
      go_ret
      exact ⟨by first | (rw [e3]; done) | simp [e3], N8.trans hn9⟩
    have hrc3 : rc = 3 := by
      rw [HRC.out]
      have gc := GC.out
      unfold apc at gc ⊢
      rw [if_pos k1] at gc ⊢
      by_cases kz : 1 ≤ z ∧ z ≤ 65535
      · rw [if_pos kz, if_pos k2, k3] at gc
        exact absurd rfl gc
      · rw [if_neg kz]
    refine (implAF_is o nx md lo xa m xc xs 0 _ nX8 HL.out (by omega) k3).mono ?_
    rintro e w9 ⟨rfl, hn9⟩
    have cG9 := (bG8.new hn9).cells
    clear cA
    subst hrc3
    go_wp2
    go_ret
    exact ⟨by first | rfl | simp, N8.trans hn9⟩
  obtain ⟨k1, hzz, k2, k3⟩ := apc_ok gc
  have hall : Hid (∀ r ∈ rs, r.f = 0) := (rsf_ok k1).2
  obtain ⟨hao, hl6, hax⟩ := af_ok k3
  have hF0 : Hid ((⟨rc, rr, ro, ns, rx, rd, rl⟩ : Ar) = apF z p q o xs nx md lo ((0 : Nat) : Int) (rs.drop 0)) := by
    have h0 := hr0.out
    unfold apA at h0
    rw [if_pos gc] at h0
    exact h0.symm
  have e4 : (rc == 3) = false := by
    have h0 := apF_code (z := z) (p := p) (q := q) (o := o) (xs := xs) (nx := nx) (md := md) (lo := lo) (rs.drop 0) ((0 : Nat) : Int)
    rw [← hF0.out] at h0
    simpa using h0
  clear hr0 gc
  go_wp2_with fail
  refine (implRSF_is y rn rk rs 0 _ hR6 HR.out (by omega) k1).mono ?_
  rintro e w7 ⟨rfl, hn7⟩
  have cP7 := (bP6.new hn7).cells
  have cA7 := (bA6.new hn7).cells
  have cG7 := (bG6.new hn7).cells
  clear cP cA cG cW
  go_wp2_with fail
  refine (implPF_is p q 0 _ k2).mono ?_
  rintro e w8 ⟨rfl, hn8⟩
  have hn78 := hn7.trans hn8
  have cA8 := (bA6.new hn78).cells
  have cG8 := (bG6.new hn78).cells
  clear cP7 cA7 cG7
  go_wp2_with fail
  refine (implAF_is o nx md lo xa m xc xs 0 _ (nX6.new hn78) HL.out (by omega) k3).mono ?_
  rintro e w9 ⟨rfl, hn9⟩
  have hn69 := hn78.trans hn9
  have cG9 := (bG6.new hn69).cells
  clear cA8 cG8
  go_wp2
  go_loopw [9] (fun i wr => ∃ k : Nat, k ≤ rn ∧ i = .int .i64 k ∧ New w6 wr ∧ Hid ((⟨rc, rr, ro, ns, rx, rd, rl⟩ : Ar) = apF z p q o xs nx md lo (k : Int) (rs.drop k))) (fun i _ => rn - (intOf i).toNat)
  case atStart => exact ⟨0, Nat.zero_le _, rfl, hn69, hF0⟩
  case round =>
    clear hn69 hF0 cG9 hn9 hn78 hn7 hn8
    obtain ⟨k, hk', rfl, hnw, hl⟩ := hrel
    have bP7 := bP6.new hnw
    have bA7 := bA6.new hnw
    have bG7 := bG6.new hnw
    have nX7 := nX6.new hnw
    have nG7 := nG6.new hnw
    have N7 := N6.trans hnw
    have cP := bP7.cells
    have cA := bA7.cells
    have cG := bG7.cells
    by_cases hlt : k < rn
    · obtain ⟨b, off, u, l, ls, ms, s, d, lc, pp, rfl, hz, q0, q1, q2, q3, q4, q5, q6, q7⟩ := (hR6.new hnw).at k (by rw [HR.out]; exact hlt)
      have hx := apF_next (z := z) (p := p) (q := q) (o := o) (xs := xs) (nx := nx) (md := md) (lo := lo) hz
      have hrf : rf u l ls ms s d lc pp = 0 := hall.out _ (List.mem_of_getElem? hz)
      obtain ⟨v, hv⟩ : ∃ v, mt u l ls ms s p q xs = v := ⟨_, rfl⟩
      have hrm : rm u l ls ms s d lc pp p q o xs nx md lo = v := by rw [← hv]; simp [rm, hrf, k2, k3]
      have CP := blk_regrown bP7
      have CA := blk_regrown bA7
      have Q0 := cell_regrown q0
      have Q1 := cell_regrown q1
      have Q2 := cell_regrown q2
      have Q3 := cell_regrown q3
      have Q4 := cell_regrown q4
      have Q5 := cell_regrown q5
      have Q6 := cell_regrown q6
      have Q7 := cell_regrown q7
      go_upto_region 13 with fail
      refine wp_region_quiet_below (by kernel_rfl) (by kernel_rfl) ?_
      repeat (go_big_quiet_step ((go_at_call 12; exact calls_regrown (implRM u l ls ms s d lc pp p q o nx md lo xa m xc xs v _ (nX7.new (new_regrown _ _ _)) HL.out (by omega) hrm))))
      refine wpQuiet_nil ?_
      rintro w8 hn8
      replace hn8 := new_of_regrown hn8
      clear CP CA Q0 Q1 Q2 Q3 Q4 Q5 Q6 Q7
      have bA8 := bA7.new hn8
      have bG8 := bG7.new hn8
      have nG8 := nG7.new hn8
      have N8 := N7.trans hn8
      replace q5 := (World.cell?_of_block (hn8.block b (World.block_lt_of_cell? wr _ q5) (fun f => f))).trans q5
      replace q6 := (World.cell?_of_block (hn8.block b (World.block_lt_of_cell? wr _ q6) (fun f => f))).trans q6
      replace q7 := (World.cell?_of_block (hn8.block b (World.block_lt_of_cell? wr _ q7) (fun f => f))).trans q7
      clear cP cA cG bP7 bA7 bG7 nX7 nG7 N7 q0 q1 q2 q3 q4 hrm
      cases v
      · have hl' : Hid ((⟨rc, rr, ro, ns, rx, rd, rl⟩ : Ar) = apF z p q o xs nx md lo ((k + 1 : Nat) : Int) (rs.drop (k + 1))) := by unfold Hid; rw [hl.out, hx, if_neg (by rw [hv]; decide)]
        clear hl hx hz
        go_wp2
        go_roundw
        case rel => exact ⟨k + 1, by omega, by go_num, hnw.trans hn8, hl'⟩
        case measure => simp [intOf]; omega
      have hmt := hv
      obtain ⟨⟨hp0, hp3⟩, ⟨hl0, hl1⟩⟩ := rf_pp hrf
      clear hv hz hrf
      cases d
      case true =>
        have hres := hl.out.symm
        rw [hx, if_pos hmt] at hres
        unfold ap1 at hres
        rw [if_pos rfl] at hres
        unfold arC at hres
        simp only [Ar.mk.injEq] at hres
        obtain ⟨rfl, rfl, rfl, rfl, rfl, rfl, rfl⟩ := hres
        have CG := blk_regrown bG8
        have CA := blk_regrown bA8
        have Q5 := cell_regrown q5
        have Q6 := cell_regrown q6
        have Q7 := cell_regrown q7
        have ek : ((k : Int) == (k : Int)) = true := by simp
        go_upto_region 14 with fail
        simp only [List.append_eq, List.cons_append, List.nil_append]
        refine wp_region_quiet_below (by kernel_rfl) (by kernel_rfl) ?_
        repeat (go_big_quiet_step (fail))
        refine wpQuiet_nil ?_
        rintro w9 hn9
        replace hn9 := new_of_regrown hn9
        go_wp2
        go_ret
        exact ⟨by first | rfl | simp, N8.trans hn9⟩
      by_cases g6 : 6 < (m : Int) + pp
      · have hres := hl.out.symm
        rw [hx, if_pos hmt] at hres
        unfold ap1 at hres
        rw [if_neg (show ¬ (false = true) by decide), if_pos (show 6 < (xs.length : Int) + pp by rw [HL.out]; exact g6)] at hres
        unfold arC at hres
        simp only [Ar.mk.injEq] at hres
        obtain ⟨rfl, rfl, rfl, rfl, rfl, rfl, rfl⟩ := hres
        have CG := blk_regrown bG8
        have CA := blk_regrown bA8
        have Q5 := cell_regrown q5
        have Q6 := cell_regrown q6
        have Q7 := cell_regrown q7
        have ek : ((k : Int) == (k : Int)) = true := by simp
        go_upto_region 14 with fail
        simp only [List.append_eq, List.cons_append, List.nil_append]
        refine wp_region_quiet_below (by kernel_rfl) (by kernel_rfl) ?_
        repeat (go_big_quiet_step (fail))
        refine wpQuiet_nil ?_
        rintro w9 hn9
        replace hn9 := new_of_regrown hn9
        go_wp2
        go_ret
        exact ⟨by first | rfl | simp, N8.trans hn9⟩
      by_cases g7 : lc = -1
      · subst g7
        obtain ⟨pn, rfl⟩ : ∃ pn : Nat, pp = (pn : Int) := ⟨pp.toNat, by omega⟩
        have hres := hl.out.symm
        rw [hx, if_pos hmt] at hres
        unfold ap1 at hres
        rw [if_neg (show ¬ (false = true) by decide), if_neg (show ¬ (6 < (xs.length : Int) + (pn : Int)) by rw [HL.out]; exact g6), Int.toNat_natCast] at hres
        simp only [if_true, eq_self_iff_true] at hres
        simp only [Ar.mk.injEq] at hres
        obtain ⟨rfl, rfl, rfl, rfl, rfl, rfl, rfl⟩ := hres
        have hgm : gm = pn + m := by rw [← HGM.out]; simp [HL.out]
        subst hgm
        have haf2 : af o (List.replicate pn z ++ xs) nx md lo = 0 := af_of ⟨hao.1, hao.2.1, hao.2.2.1, hao.2.2.2⟩ (by simp [HL.out]; omega) (by intro u hu; rcases List.mem_append.1 hu with hu | hu; (rw [(List.mem_replicate.1 hu).2]; exact hzz); exact hax u hu)
        have wlen : IntKind.i64.wrap ((m : Int) + (pn : Int)) = (m : Int) + (pn : Int) := wrap_in (by omega)
        have elen : ((pn : Int) + (m : Int) == (m : Int) + (pn : Int)) = true := by simp; omega
        have elen2 : (((pn + m : Nat) : Int) == (m : Int) + (pn : Int)) = true := by simp; omega
        have CG := blk_regrown bG8
        have CA := blk_regrown bA8
        have Q5 := cell_regrown q5
        have Q6 := cell_regrown q6
        have Q7 := cell_regrown q7
        have ek : ((k : Int) == (k : Int)) = true := by simp
        have elo : (lo == lo) = true := by simp
        go_upto_region 14 with fail
        simp only [List.append_eq, List.cons_append, List.nil_append]
        refine wp_region_quiet_below (by kernel_rfl) (by kernel_rfl) ?_
        repeat (go_big_quiet_step ((go_at_call 11; exact calls_regrown (implAF_is o nx md lo ga (pn + m) gk (List.replicate pn z ++ xs) 0 _ (nG8.new (new_regrown _ _ _)) (by simp [HL.out]) (by omega) haf2))))
        refine wpQuiet_nil ?_
        rintro w9 hn9
        replace hn9 := new_of_regrown hn9
        go_wp2
        go_ret
        exact ⟨by first | rfl | simp, N8.trans hn9⟩
      · have g8 : ¬ lc < 0 := by omega
        obtain ⟨pn, rfl⟩ : ∃ pn : Nat, pp = (pn : Int) := ⟨pp.toNat, by omega⟩
        have hres := hl.out.symm
        rw [hx, if_pos hmt] at hres
        unfold ap1 at hres
        rw [if_neg (show ¬ (false = true) by decide), if_neg (show ¬ (6 < (xs.length : Int) + (pn : Int)) by rw [HL.out]; exact g6), Int.toNat_natCast] at hres
        rw [if_neg g7] at hres
        simp only [Ar.mk.injEq] at hres
        obtain ⟨rfl, rfl, rfl, rfl, rfl, rfl, rfl⟩ := hres
        have hgm : gm = pn + m := by rw [← HGM.out]; simp [HL.out]
        subst hgm
        have haf2 : af o (List.replicate pn z ++ xs) nx md lc = 0 := af_of ⟨hao.1, hao.2.1, hao.2.2.1, ⟨by omega, by omega⟩⟩ (by simp [HL.out]; omega) (by intro u hu; rcases List.mem_append.1 hu with hu | hu; (rw [(List.mem_replicate.1 hu).2]; exact hzz); exact hax u hu)
        have wlen : IntKind.i64.wrap ((m : Int) + (pn : Int)) = (m : Int) + (pn : Int) := wrap_in (by omega)
        have elen : ((pn : Int) + (m : Int) == (m : Int) + (pn : Int)) = true := by simp; omega
        have elen2 : (((pn + m : Nat) : Int) == (m : Int) + (pn : Int)) = true := by simp; omega
        have CG := blk_regrown bG8
        have CA := blk_regrown bA8
        have Q5 := cell_regrown q5
        have Q6 := cell_regrown q6
        have Q7 := cell_regrown q7
        have ek : ((k : Int) == (k : Int)) = true := by simp
        have elo : (lo == lo) = true := by simp
        have elc : (lc == lc) = true := by simp
        go_upto_region 14 with fail
        simp only [List.append_eq, List.cons_append, List.nil_append]
        refine wp_region_quiet_below (by kernel_rfl) (by kernel_rfl) ?_
        repeat (go_big_quiet_step ((go_at_call 11; exact calls_regrown (implAF_is o nx md lc ga (pn + m) gk (List.replicate pn z ++ xs) 0 _ (nG8.new (new_regrown _ _ _)) (by simp [HL.out]) (by omega) haf2))))
        refine wpQuiet_nil ?_
        rintro w9 hn9
        replace hn9 := new_of_regrown hn9
        go_wp2
        go_ret
        exact ⟨by first | rfl | simp, N8.trans hn9⟩
    · have hres := hl.out.symm
      rw [List.drop_of_length_le (by rw [HR.out]; omega)] at hres
      unfold apF at hres
      simp only [Ar.mk.injEq] at hres
      obtain ⟨rfl, rfl, rfl, rfl, rfl, rfl, rfl⟩ := hres
      have hgm : gm = m := by rw [← HGM.out]; exact HL.out
      subst hgm
      go_wp2_with fail
      refine (implSA o nx md lo o nx md lo ga xa gm gm gk xc xs xs true _ nG7 nX7 HL.out HL.out (by omega) (by omega) (by simp [SaP])).mono ?_
      rintro e w8 ⟨rfl, hn8⟩
      go_wp2
      go_ret
      exact ⟨by first | rfl | simp, N7.trans hn8⟩

theorem fnru_any (a : Option Addr) (n c : Nat) (zs : List Int) (w : World) (h : BsAt w a zs) (hn : zs.length = n) (hm : n ≤ maxLen) :
    Calls Try.prog 3 #[.slice a n c] w fun e w' => e = .returned (.bool true) ∧ New w w' := by
  refine fnru_walk a n c zs w h hn hm ?_
  intro x hz hx
  obtain ⟨b, off, e, hl⟩ := h.block_lt hz
  rw [e] at hx
  obtain rfl := Option.some.inj hx
  exact hl

set_option maxRecDepth 100000 in
theorem fnru_lifted (os : Os) (started : os.Started) (H : Type) (enc : TypeId × Value → H) :
    ReturnsInHanded {} Try.checked os 3 .any (Rows.fnRulesSpec.pre6 enc Try.prog Try.f3 Rows.fnRulesRow.domain false) (Rows.fnRulesSpec.post enc Try.prog Try.f3 false true false false) := by
  refine returnsInHanded_of_change (C := Try.checked) own started (by kernel_rfl) Try.func3
    (ChangeSpec.witness6 (enc := enc) (C := Try.checked) false ⟨#[], #[.slice none 0 0], []⟩ 8 (by kernel_rfl) (by kernel_rfl) (by kernel_rfl) (by kernel_rfl)) ?_
  intro W base args ds gs before hval0 hW hcnd _
  have hval : ∀ (j : Nat) t v, Try.f3.params[j]? = some t → args[j]? = some v → Value.okWide Try.prog W .any base t v := hval0
  have hW' := hW
  obtain ⟨p, q, hA0, hV, rfl, hfz, hnd⟩ := hW
  have hA : DataW.TrodAll enc Try.prog W 0 (fun _ => true) true Try.f3.params.toList args.toList ds p := hA0
  rw [Try.params3] at hA hval
  obtain ⟨v0, vs0, d0, ds0, p0, q0, hargs, rfl, rfl, h0, r0⟩ := trodAll_cons hA
  obtain ⟨rfl, rfl, rfl⟩ := trodAll_nil r0
  obtain rfl : args = #[v0] := by cases args; simp_all
  obtain ⟨rfl, rfl⟩ := trodVars_none hV
  have k0 := h0
  have lt0 : ∀ x ∈ p0, x.block < W.heap.size := by obtain ⟨m, hm⟩ := k0; exact DataW.trod_lt m _ _ _ hm
  obtain ⟨a0, len0, cap0, rfl⟩ := okWide_slice Try.underlying22 (hval 0 22 v0 rfl rfl)
  have nil0 := open_nil h0
  obtain ⟨z0, b0, e0, m0⟩ := open_bytes h0
  clear hA0 hval0
  refine (fnru_any a0 len0 cap0 z0 W b0 e0 m0.2).mono fun e W' ⟨he, new⟩ => ?_
  have bel := new.below
  subst he
  exact ⟨_, rfl, _, _, _, [], _, [], hW', trodAll_mk1 (shut_bool Try.underlying4 _), (trodAll_cons_mk (Below.trod laidOut (by kernel_rfl) (of_decide_eq_true (by kernel_rfl)) k0 bel lt0) trodAll_mk0), rfl, bel.frame _, fun h => by cases h⟩

theorem fnru_holds : Rows.FnRulesSaid :=
  OpenClaim.holds_of_wide 3 Try.f3 rfl rfl rfl rfl rfl rfl rfl ⟨rfl, rfl, rfl, rfl, rfl⟩ rfl rfl rfl rfl rfl (by kernel_rfl) Try.func3 (by kernel_rfl)
    (of_decide_eq_true (by kernel_rfl)) (by unfold Func.isWrapper; first | (rw [if_pos (by decide +kernel)]; kernel_rfl) | (rw [if_neg (by decide +kernel)]; exact ⟨rfl, rfl⟩))
    (fun os started H enc _ => fnru_lifted os started H enc)

end Go.Proofs.Ytidibaknahfmmaa
