/- What is proved here: for all bytes the law on what is told to a peer returns true, and the bytes read as they did. No condition. -/
import Derived.Test.YtjampcfikfafkaaGreatXT2
import Derived.Test.YtjampcfikfafkaaGreatXE4
import Derived.Test.YtjampcfikfafkaaGreatR6Ma
import Derived.Test.YtjampcfikfafkaaGreatOpen
import Derived.Deep.RegionHeld3
namespace Go.Proofs.YtjampcfikfafkaaGreat
open Go.ChangeShapes Go.WideShapes Go.ChangeAt Go.RowKit Go.Sort
set_option linter.unusedVariables false
set_option linter.unusedSimpArgs false

set_option maxRecDepth 100000 in
set_option maxHeartbeats 12800000 in
theorem fnto_walk (a : Option Addr) (n c : Nat) (zs : List Int) (w : World) (h : BsAt w a zs) (hn : zs.length = n) (hm : n ≤ maxLen) (ha : ∀ x, zs ≠ [] → a = some x → x.block < w.heap.size) :
    Calls Tryz.prog 3 #[.slice a n c] w fun e w' => e = .returned (.bool true) ∧ New w w' := by
  by_cases hbig : 1048576 < n
  · go_enter Tryz.func3, Tryz.ntmps3
    go_wp2_with fail
    refine (lbig_yes a n c _ hbig).mono ?_
    rintro e w0 ⟨rfl, hw0⟩
    rw [hw0]
    go_wp2
    go_ret
    exact ⟨rfl, New.refl _⟩
  go_enter Tryz.func3, Tryz.ntmps3
  go_wp2_with fail
  refine (lbig_no a n c _ hbig).mono ?_
  rintro e w0 ⟨rfl, hw0⟩
  rw [hw0]
  go_wp2_with fail
  refine (drawET a n c zs _ h hn (by omega) ha).mono ?_
  rintro e w1 ⟨A, d, V, y, rn, rk, rs, q, z, t, rfl, hVl, hV, hRS, hrs, hrn9, N1⟩
  clear h hn hm ha hbig hw0
  have hVm : V.length ≤ 1048576 := by omega
  have hrm : rn ≤ 1048576 := by omega
  have HVV : Hid (∀ X, New w1 X → RtAt X A V) := fun X hX => hV.new hX
  have HRS : Hid (∀ X, New w1 X → RsAt X y rs) := fun X hX => hRS.new hX
  have HRN : Hid (rs.length = rn) := hrs
  clear hV hRS hrs
  go_wp2_with fail
  refine (implET A V.length d V q y rn rk rs z t _ (HVV.out _ (New.refl _)) rfl hVm (HRS.out _ (New.refl _)) HRN.out hrm).mono ?_
  rintro e w2 ⟨zc, A2, n2, c2, T, hal, rfl, hn2, ho2, h2⟩
  have HAL : Hid (ExOk (V.map Rv.r) q rs z t zc (T.map Tv.r)) := hal
  have bR := Blk.mk w2 w2.heap.size 30 #[.int .i64 zc, .slice A2 n2 c2] rfl
  have aR := (New.refl w2).alloc (.cells #[.int .i64 zc, .slice A2 n2 c2] 30)
  have rT := (ho2.new aR).rt.1
  have NN := h2.trans aR
  clear hal ho2 h2
  go_upto_region 5 with fail
  clear aR
  generalize (w2.alloc (.cells #[.int .i64 zc, .slice A2 n2 c2] 30)) = w3 at *
  have cR := bR.cells
  subst hn2
  have hfd0 : ∀ (c0 c1 : Value) (X : World), (Instr.field 30 (.agg #[c0, c1]) 0).run Tryz.prog X = .ok c0 X := fun _ _ _ => by kernel_rfl
  have hfd1 : ∀ (c0 c1 : Value) (X : World), (Instr.field 30 (.agg #[c0, c1]) 1).run Tryz.prog X = .ok c1 X := fun _ _ _ => by kernel_rfl
  by_cases h0 : zc = 0
  case neg =>
    have hne : (zc != 0) = true := by simpa using h0
    have hze : (zc == zc) = true := by simp
    clear h0
    go_upto_region 6 with fail
    refine hw_start (n := 11) (S := fun X => New w3 X) rfl (by kernel_rfl) ((New.refl w3).drew) (fun hH => ?_)
    refine' hw_take 0 (some 30) _ rfl rfl (by kernel_rfl) (by kernel_rfl) (by kernel_rfl) (fun _ _ _ h => h) (by rfl) hH ?hy1 ?rest1
    case hy1 =>
      intro X hX
      go_simp
      try rfl
    simp only [Act.put, List.setIfInBounds_toArray, List.set_cons_zero, List.set_cons_succ]
    refine' hw_take 1 (some 31) _ rfl rfl (by kernel_rfl) (by kernel_rfl) (by kernel_rfl) (fun _ _ _ h => h) (by rfl) hH ?hy2 ?rest2
    case hy2 =>
      intro X hX
      go_simp
      try rfl
    simp only [Act.put, List.setIfInBounds_toArray, List.set_cons_zero, List.set_cons_succ]
    refine' hw_take 2 (some 32) _ rfl rfl (by kernel_rfl) (by kernel_rfl) (by kernel_rfl) (fun _ _ _ h => h) (by rfl) hH ?hy3 ?rest3
    case hy3 =>
      intro X hX
      go_simp
      try rfl
    simp only [Act.put, List.setIfInBounds_toArray, List.set_cons_zero, List.set_cons_succ]
    refine' hw_take 3 (some 33) _ rfl rfl (by kernel_rfl) (by kernel_rfl) (by kernel_rfl) (fun _ _ _ h => h) (by rfl) hH ?hy4 ?rest4
    case hy4 =>
      intro X hX
      go_simp
      try rfl
    simp only [Act.put, List.setIfInBounds_toArray, List.set_cons_zero, List.set_cons_succ]
    refine' hw_take 4 (some 34) _ rfl rfl (by kernel_rfl) (by kernel_rfl) (by kernel_rfl) (fun _ _ _ h => h) (by rfl) hH ?hy5 ?rest5
    case hy5 =>
      intro X hX
      go_simp
      try rfl
    simp only [Act.put, List.setIfInBounds_toArray, List.set_cons_zero, List.set_cons_succ]
    refine' hw_take 7 (some 37) _ rfl rfl (by kernel_rfl) (by kernel_rfl) (by kernel_rfl) (fun _ _ _ h => h) (by rfl) hH ?hy6 ?rest6
    case hy6 =>
      intro X hX
      go_simp
      try rfl
    simp only [Act.put, List.setIfInBounds_toArray, List.set_cons_zero, List.set_cons_succ]
    refine' hw_take 8 (some 38) _ rfl rfl (by kernel_rfl) (by kernel_rfl) (by kernel_rfl) (fun _ _ _ h => h) (by rfl) hH ?hy7 ?rest7
    case hy7 =>
      intro X hX
      have cRX := (bR.new hX).cells
      go_simp
      try rfl
    simp only [Act.put, List.setIfInBounds_toArray, List.set_cons_zero, List.set_cons_succ]
    refine hw_call 5 (some 35) rfl rfl (by kernel_rfl) (by rfl) (fun K hK => ?_)
    go_simp
    refine (specET A V.length d V q y rn rk rs z t _ (HVV.out _ (NN.trans hH)) rfl hVm (HRS.out _ (NN.trans hH)) HRN.out hrm).mono ?_
    rintro e wx ⟨z', A', n', c', T', hd', rfl, hn', ho', hx⟩
    obtain ⟨rfl, -⟩ := HAL.out.det hd'
    refine hK.out _ _ (hH.trans hx) (fun hH => ?_)
    simp only [Act.put, List.setIfInBounds_toArray, List.set_cons_zero, List.set_cons_succ]
    refine' hw_take 6 (some 36) _ rfl rfl (by kernel_rfl) (by kernel_rfl) (by kernel_rfl) (fun _ _ _ h => h) (by rfl) hH ?hy8 ?rest8
    case hy8 =>
      intro X hX
      go_simp
      try rfl
    simp only [Act.put, List.setIfInBounds_toArray, List.set_cons_zero, List.set_cons_succ]
    refine' hw_take 9 (some 39) _ rfl rfl (by kernel_rfl) (by kernel_rfl) (by kernel_rfl) (fun _ _ _ h => h) (by rfl) hH ?hy9 ?rest9
    case hy9 =>
      intro X hX
      go_simp
      try rfl
    simp only [Act.put, List.setIfInBounds_toArray, List.set_cons_zero, List.set_cons_succ]
    refine' hw_take 10 (some 2) _ rfl rfl (by kernel_rfl) (by kernel_rfl) (by kernel_rfl) (fun _ _ _ h => h) (by rfl) hH ?hy10 ?rest10
    case hy10 =>
      intro X hX
      go_simp
      try rfl
    simp only [Act.put, List.setIfInBounds_toArray, List.set_cons_zero, List.set_cons_succ]
    refine wpAnyH_done (by kernel_rfl) ?_ _
    go_wp2
    go_ret
    exact ⟨rfl, (N1.trans NN).trans hH⟩
  subst h0
  obtain ⟨hf0, U, hA, hT⟩ : exf (V.map Rv.r) q rs z t = 0 ∧ ∃ U, AllOk (V.map Rv.r) U ∧ T.map Tv.r = expT q rs z t U := by
    rcases HAL.out with ⟨k1, k2, -⟩ | ⟨k1, -, k3⟩
    · exact absurd k2.symm k1
    · exact ⟨k1, k3⟩
  have HF0 : Hid (exf (V.map Rv.r) q rs z t = 0) := hf0
  have HA : Hid (AllOk (V.map Rv.r) U) := hA
  have HT : Hid (T.map Tv.r = expT q rs z t U) := hT
  have HTF : Hid (tdF (T.map Tv.r) = 0) := by
    unfold Hid
    rw [hT]
    exact expT_ok hf0 hA
  have hTm : T.length ≤ 1048576 := by
    have e1 := congrArg List.length hT
    have e2 : (expT q rs z t U).length ≤ U.length := by unfold expT; exact List.length_filterMap_le _ _
    have e3 := pair_lenE U (V.map Rv.r) hA.srt (fun x hx => (hA.best x hx).mem)
    simp only [List.length_map] at e1 e3
    omega
  clear hf0 hA hT
  go_wp2
  go_loopw [9] (fun ii wr => ∃ (I : Nat), I ≤ T.length ∧ ii = .int .i64 I ∧ New w3 wr) (fun i _ => T.length - (intOf i).toNat)
  case atStart => exact ⟨0, Nat.zero_le _, rfl, New.refl _⟩
  case round =>
    obtain ⟨I, hI, rfl, hnw⟩ := hrel
    clear cR
    have bR := bR.new hnw
    by_cases hlt : I < T.length
    case neg =>
      obtain rfl : I = T.length := by omega
      have NN := NN.trans hnw
      have cR := bR.cells
      go_upto_region 13 with fail
      clear cR
      refine hw_start (n := 19) (S := fun X => New wr X) rfl (by kernel_rfl) ((New.refl wr).drew) (fun hH => ?_)
      refine' hw_take 0 (some 87) _ rfl rfl (by kernel_rfl) (by kernel_rfl) (by kernel_rfl) (fun _ _ _ h => h) (by rfl) hH ?hy11 ?rest11
      case hy11 =>
        intro X hX
        go_simp
        try rfl
      simp only [Act.put, List.setIfInBounds_toArray, List.set_cons_zero, List.set_cons_succ]
      refine' hw_take 1 (some 88) _ rfl rfl (by kernel_rfl) (by kernel_rfl) (by kernel_rfl) (fun _ _ _ h => h) (by rfl) hH ?hy12 ?rest12
      case hy12 =>
        intro X hX
        have cRX := (bR.new hX).cells
        go_simp
        try rfl
      simp only [Act.put, List.setIfInBounds_toArray, List.set_cons_zero, List.set_cons_succ]
      refine hw_call 2 (some 89) rfl rfl (by kernel_rfl) (by rfl) (fun K hK => ?_)
      go_simp
      refine (implTF A2 T.length c2 T 0 _ (rT.new (hnw.trans hH)) rfl hTm HTF.out).mono ?_
      rintro e wt ⟨rfl, ht⟩
      refine hK.out _ _ (hH.trans ht) (fun hH => ?_)
      simp only [Act.put, List.setIfInBounds_toArray, List.set_cons_zero, List.set_cons_succ]
      refine' hw_take 3 (some 90) _ rfl rfl (by kernel_rfl) (by kernel_rfl) (by kernel_rfl) (fun _ _ _ h => h) (by rfl) hH ?hy13 ?rest13
      case hy13 =>
        intro X hX
        go_simp
        try rfl
      simp only [Act.put, List.setIfInBounds_toArray, List.set_cons_zero, List.set_cons_succ]
      refine' hw_take 4 (some 91) _ rfl rfl (by kernel_rfl) (by kernel_rfl) (by kernel_rfl) (fun _ _ _ h => h) (by rfl) hH ?hy14 ?rest14
      case hy14 =>
        intro X hX
        go_simp
        try rfl
      simp only [Act.put, List.setIfInBounds_toArray, List.set_cons_zero, List.set_cons_succ]
      refine' hw_take 5 (some 92) _ rfl rfl (by kernel_rfl) (by kernel_rfl) (by kernel_rfl) (fun _ _ _ h => h) (by rfl) hH ?hy15 ?rest15
      case hy15 =>
        intro X hX
        go_simp
        try rfl
      simp only [Act.put, List.setIfInBounds_toArray, List.set_cons_zero, List.set_cons_succ]
      refine' hw_take 6 (some 93) _ rfl rfl (by kernel_rfl) (by kernel_rfl) (by kernel_rfl) (fun _ _ _ h => h) (by rfl) hH ?hy16 ?rest16
      case hy16 =>
        intro X hX
        have cRX := (bR.new hX).cells
        go_simp
        try rfl
      simp only [Act.put, List.setIfInBounds_toArray, List.set_cons_zero, List.set_cons_succ]
      refine' hw_take 7 (some 94) _ rfl rfl (by kernel_rfl) (by kernel_rfl) (by kernel_rfl) (fun _ _ _ h => h) (by rfl) hH ?hy17 ?rest17
      case hy17 =>
        intro X hX
        go_simp
        try rfl
      simp only [Act.put, List.setIfInBounds_toArray, List.set_cons_zero, List.set_cons_succ]
      refine' hw_take 8 (some 95) _ rfl rfl (by kernel_rfl) (by kernel_rfl) (by kernel_rfl) (fun _ _ _ h => h) (by rfl) hH ?hy18 ?rest18
      case hy18 =>
        intro X hX
        go_simp
        try rfl
      simp only [Act.put, List.setIfInBounds_toArray, List.set_cons_zero, List.set_cons_succ]
      refine' hw_take 9 (some 96) _ rfl rfl (by kernel_rfl) (by kernel_rfl) (by kernel_rfl) (fun _ _ _ h => h) (by rfl) hH ?hy19 ?rest19
      case hy19 =>
        intro X hX
        go_simp
        try rfl
      simp only [Act.put, List.setIfInBounds_toArray, List.set_cons_zero, List.set_cons_succ]
      refine' hw_take 10 (some 97) _ rfl rfl (by kernel_rfl) (by kernel_rfl) (by kernel_rfl) (fun _ _ _ h => h) (by rfl) hH ?hy20 ?rest20
      case hy20 =>
        intro X hX
        go_simp
        try rfl
      simp only [Act.put, List.setIfInBounds_toArray, List.set_cons_zero, List.set_cons_succ]
      refine' hw_take 11 (some 98) _ rfl rfl (by kernel_rfl) (by kernel_rfl) (by kernel_rfl) (fun _ _ _ h => h) (by rfl) hH ?hy21 ?rest21
      case hy21 =>
        intro X hX
        go_simp
        try rfl
      simp only [Act.put, List.setIfInBounds_toArray, List.set_cons_zero, List.set_cons_succ]
      refine' hw_take 12 (some 99) _ rfl rfl (by kernel_rfl) (by kernel_rfl) (by kernel_rfl) (fun _ _ _ h => h) (by rfl) hH ?hy22 ?rest22
      case hy22 =>
        intro X hX
        go_simp
        try rfl
      simp only [Act.put, List.setIfInBounds_toArray, List.set_cons_zero, List.set_cons_succ]
      refine hw_call 13 (some 100) rfl rfl (by kernel_rfl) (by rfl) (fun K hK => ?_)
      go_simp
      refine (specET A V.length d V q y rn rk rs z t _ (HVV.out _ (NN.trans hH)) rfl hVm (HRS.out _ (NN.trans hH)) HRN.out hrm).mono ?_
      rintro e wx ⟨z', A', n', c', T', hd', rfl, hn', ho', hx⟩
      obtain ⟨rfl, hTT⟩ := HAL.out.det hd'
      refine hK.out _ _ (hH.trans hx) (fun hH => ?_)
      simp only [Act.put, List.setIfInBounds_toArray, List.set_cons_zero, List.set_cons_succ]
      have hlen : T'.length = T.length := by
        have e1 := congrArg List.length hTT
        simp at e1
        omega
      subst hn'
      rw [hlen]
      clear hTT hlen hd' ho'
      refine' hw_take 14 (some 101) _ rfl rfl (by kernel_rfl) (by kernel_rfl) (by kernel_rfl) (fun _ _ _ h => h) (by rfl) hH ?hy23 ?rest23
      case hy23 =>
        intro X hX
        go_simp
        try rfl
      simp only [Act.put, List.setIfInBounds_toArray, List.set_cons_zero, List.set_cons_succ]
      refine' hw_take 15 (some 102) _ rfl rfl (by kernel_rfl) (by kernel_rfl) (by kernel_rfl) (fun _ _ _ h => h) (by rfl) hH ?hy24 ?rest24
      case hy24 =>
        intro X hX
        go_simp
        try rfl
      simp only [Act.put, List.setIfInBounds_toArray, List.set_cons_zero, List.set_cons_succ]
      refine' hw_take 16 (some 103) _ rfl rfl (by kernel_rfl) (by kernel_rfl) (by kernel_rfl) (fun _ _ _ h => h) (by rfl) hH ?hy25 ?rest25
      case hy25 =>
        intro X hX
        go_simp
        try rfl
      simp only [Act.put, List.setIfInBounds_toArray, List.set_cons_zero, List.set_cons_succ]
      refine' hw_take 17 (some 104) _ rfl rfl (by kernel_rfl) (by kernel_rfl) (by kernel_rfl) (fun _ _ _ h => h) (by rfl) hH ?hy26 ?rest26
      case hy26 =>
        intro X hX
        go_simp
        try rfl
      simp only [Act.put, List.setIfInBounds_toArray, List.set_cons_zero, List.set_cons_succ]
      refine' hw_take 18 (some 2) _ rfl rfl (by kernel_rfl) (by kernel_rfl) (by kernel_rfl) (fun _ _ _ h => h) (by rfl) hH ?hy27 ?rest27
      case hy27 =>
        intro X hX
        go_simp
        try rfl
      simp only [Act.put, List.setIfInBounds_toArray, List.set_cons_zero, List.set_cons_succ]
      refine wpAnyH_done (by kernel_rfl) ?_ _
      go_wp2
      go_ret
      exact ⟨by first | rfl | exact ret_bool (by simp), (N1.trans NN).trans hH⟩
    case pos =>
      obtain ⟨b, off, a, l, o, nx, md, lc, x, m, d', xs, rfl, hv, hlen, hns, -, hxl, q0, q1, q2, q3, q4, q5, q6⟩ := (rT.new hnw).at I hlt
      subst hlen
      have HMEM : Hid ((Td.mk a l o xs nx md lc) ∈ expT q rs z t U) := by
        unfold Hid
        rw [← HT.out]
        exact List.mem_map.2 ⟨_, List.mem_of_getElem? hv, rfl⟩
      clear hv
      have hi0 : (0 : Int) ≤ (I : Int) := by omega
      have hi1 : (I : Int) < (T.length : Int) := by omega
      have cR := bR.cells
      go_wp2_with fail
      refine (implBF a l A V.length d V _ (HVV.out _ (NN.trans hnw)) rfl hVm).mono ?_
      rintro e w6 ⟨zb, ⟨p9, a9, l9, o9, xs9, nx9, md9, lc9⟩, x9, d9, hb9, rfl, -, -, h6⟩
      obtain ⟨rfl, hpq, hzx, hnt⟩ := expT_best HF0.out HA.out HMEM.out hb9
      dsimp only at hpq hzx hnt ⊢
      subst hnt
      have hpf : (p9 == q) = false := by simpa using hpq
      have hnn : (nx != nx) = false := by simp
      have hdz : decide (z ∈ xs) = true := decide_eq_true hzx
      have bB := Blk.mk w6 w6.heap.size 40 #[.int .i64 0, .int .i64 p9, .int .i64 a9, .int .i64 l9, .int .i64 o9, .slice x9 xs9.length d9, .int .i64 nx9, .int .i64 md9, .int .i64 lc9] rfl
      have aB := (New.refl w6).alloc (.cells #[.int .i64 0, .int .i64 p9, .int .i64 a9, .int .i64 l9, .int .i64 o9, .slice x9 xs9.length d9, .int .i64 nx9, .int .i64 md9, .int .i64 lc9] 40)
      have hL := h6.trans aB
      have hnw := hnw.trans hL
      have bR := bR.new hL
      have hns := hns.new hL
      have q0 := (hL.below.cell (World.block_lt_of_cell? _ _ q0)).trans q0
      have q1 := (hL.below.cell (World.block_lt_of_cell? _ _ q1)).trans q1
      have q2 := (hL.below.cell (World.block_lt_of_cell? _ _ q2)).trans q2
      have q3 := (hL.below.cell (World.block_lt_of_cell? _ _ q3)).trans q3
      have q4 := (hL.below.cell (World.block_lt_of_cell? _ _ q4)).trans q4
      have q5 := (hL.below.cell (World.block_lt_of_cell? _ _ q5)).trans q5
      have q6 := (hL.below.cell (World.block_lt_of_cell? _ _ q6)).trans q6
      clear h6 hpq hzx hb9 cR
      go_upto_region 11 with fail
      clear aB hL
      generalize (w6.alloc (.cells #[.int .i64 0, .int .i64 p9, .int .i64 a9, .int .i64 l9, .int .i64 o9, .slice x9 xs9.length d9, .int .i64 nx9, .int .i64 md9, .int .i64 lc9] 40)) = wq at *
      have cB := bB.cells
      have cR := bR.cells
      go_wp2_with fail
      refine (implHL o nx md lc x xs.length d' xs z true _ hns rfl hxl hdz).mono ?_
      rintro e w7 ⟨rfl, h7⟩
      have cR := (bR.new h7).cells
      have q4 := (h7.below.cell (World.block_lt_of_cell? _ _ q4)).trans q4
      have NW := hnw.trans h7
      clear cB bB q0 q1 q2 q3 q5 q6
      go_wp2
      go_roundw
      case rel => exact ⟨I + 1, by omega, by go_num, NW⟩
      case measure => simp [intOf]; omega

set_option maxRecDepth 100000 in
theorem fnto_lifted (os : Os) (started : os.Started) (H : Type) (enc : TypeId × Value → H) :
    ReturnsInHanded {} Tryz.checked os 3 .any (Rows.fnToldsSpec.pre6 enc Tryz.prog Tryz.f3 Rows.fnToldsRow.domain false) (Rows.fnToldsSpec.post enc Tryz.prog Tryz.f3 false true false false) := by
  refine returnsInHanded_of_change (C := Tryz.checked) own started (by kernel_rfl) Tryz.func3
    (ChangeSpec.witness6 (enc := enc) (C := Tryz.checked) false ⟨#[], #[.slice none 0 0], []⟩ 8 (by kernel_rfl) (by kernel_rfl) (by kernel_rfl) (by kernel_rfl)) ?_
  intro W base args ds gs before hval0 hW hcnd _
  have hval : ∀ (j : Nat) t v, Tryz.f3.params[j]? = some t → args[j]? = some v → Value.okWide Tryz.prog W .any base t v := hval0
  have hW' := hW
  obtain ⟨p, q, hA0, hV, rfl, hfz, hnd⟩ := hW
  have hA : DataW.TrodAll enc Tryz.prog W 0 (fun _ => true) true Tryz.f3.params.toList args.toList ds p := hA0
  rw [Tryz.params3] at hA hval
  obtain ⟨v0, vs0, d0, ds0, p0, q0, hargs, rfl, rfl, h0, r0⟩ := trodAll_cons hA
  obtain ⟨rfl, rfl, rfl⟩ := trodAll_nil r0
  obtain rfl : args = #[v0] := by cases args; simp_all
  obtain ⟨rfl, rfl⟩ := trodVars_none hV
  have k0 := h0
  have lt0 : ∀ x ∈ p0, x.block < W.heap.size := by obtain ⟨m, hm⟩ := k0; exact DataW.trod_lt m _ _ _ hm
  obtain ⟨a0, len0, cap0, rfl⟩ := okWide_slice Tryz.underlying22 (hval 0 22 v0 rfl rfl)
  have nil0 := open_nil h0
  obtain ⟨z0, b0, e0, m0⟩ := open_bytes h0
  clear hA0 hval0
  refine (fnto_walk a0 len0 cap0 z0 W b0 e0 m0.2 (fun x h1 h2 => by obtain ⟨bb, oo, hh, hl⟩ := b0.block_lt h1; rw [h2] at hh; obtain rfl := Option.some.inj hh; exact hl)).mono fun e W' ⟨he, new⟩ => ?_
  have bel := new.below
  subst he
  exact ⟨_, rfl, _, _, _, [], _, [], hW', trodAll_mk1 (shut_bool Tryz.underlying4 _), (trodAll_cons_mk (Below.trod laidOut (by kernel_rfl) (of_decide_eq_true (by kernel_rfl)) k0 bel lt0) trodAll_mk0), rfl, bel.frame _, fun h => by cases h⟩

theorem fnto_holds : Rows.FnToldsSaid :=
  OpenClaim.holds_of_wide 3 Tryz.f3 rfl rfl rfl rfl rfl rfl rfl ⟨rfl, rfl, rfl, rfl, rfl⟩ rfl rfl rfl rfl rfl (by kernel_rfl) Tryz.func3 (by kernel_rfl)
    (of_decide_eq_true (by kernel_rfl)) (by unfold Func.isWrapper; first | (rw [if_pos (by decide +kernel)]; kernel_rfl) | (rw [if_neg (by decide +kernel)]; exact ⟨rfl, rfl⟩))
    (fun os started H enc _ => fnto_lifted os started H enc)



end Go.Proofs.YtjampcfikfafkaaGreat
