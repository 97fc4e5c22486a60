/- What is proved here: for all bytes the law on the bests of all prefixes returns true, and the bytes read as they did. No condition. -/
import Derived.Test.YtjampcfikfafkaaDrawRhB
import Derived.Test.YtjampcfikfafkaaFB3
import Derived.Test.YtjampcfikfafkaaOpen
import Derived.Deep.RegionHeld3
namespace Go.Proofs.Ytjampcfikfafkaa
open Go.ChangeShapes Go.WideShapes Go.ChangeAt Go.RowKit Go.Sort
set_option linter.unusedVariables false
set_option linter.unusedSimpArgs false

theorem drawAll8 (a : Option Addr) (n c : Nat) (zs : List Int) (w : World) (h : BsAt w a zs) (hn : zs.length = n) (hm : n ≤ 2097152) (ha : ∀ x, zs ≠ [] → a = some x → x.block < w.heap.size) :
    Calls Try.prog 5 #[.slice a n c] w fun e w' => ∃ (A : Option Addr) (d : Nat) (V : List Rv), e = .returned (.slice A V.length d) ∧ V.length ≤ 61 ∧ RtAt w' A V ∧ New w w' := by
  go_enter Try.func5, Try.ntmps5
  go_wp2_with fail
  refine (source_any a n c zs _ h hn hm ha).mono ?_
  rintro e w1 ⟨B, rfl, hB, hs1, h1⟩
  go_wp2_with fail
  refine (l7Bent_sc hs1 (by omega)).mono ?_
  rintro e w2 ⟨A, d, V, t2, rfl, hUl, hU, hF, ht2, hs2, htr2⟩
  go_wp2
  go_ret
  exact ⟨A, d, V, rfl, hUl, hU, h1.before htr2 (fun i hi e => by omega)⟩

set_option maxRecDepth 100000 in
set_option maxHeartbeats 12800000 in
theorem fnbe_walk (a : Option Addr) (n c : Nat) (zs : List Int) (w : World) (h : BsAt w a zs) (hn : zs.length = n) (hm : n ≤ maxLen) (ha : ∀ x, zs ≠ [] → a = some x → x.block < w.heap.size) :
    Calls Try.prog 3 #[.slice a n c] w fun e w' => e = .returned (.bool true) ∧ New w w' := by
  by_cases hbig : 1048576 < n
  · go_enter Try.func3, Try.ntmps3
    go_wp2_with fail
    refine (lbig_yes a n c _ hbig).mono ?_
    rintro e w0 ⟨rfl, hw0⟩
    rw [hw0]
    go_wp2
    go_ret
    exact ⟨rfl, New.refl _⟩
  go_enter Try.func3, Try.ntmps3
  go_wp2_with fail
  refine (lbig_no a n c _ hbig).mono ?_
  rintro e w0 ⟨rfl, hw0⟩
  rw [hw0]
  go_wp2_with fail
  refine (drawAll8 a n c zs _ h hn (by omega) ha).mono ?_
  rintro e w1 ⟨A, d, V, rfl, hVl, hV, N1⟩
  clear h hn hm ha hbig hw0
  have hVm : V.length ≤ 1048576 := by omega
  go_wp2_with fail
  refine (implAll A V.length d V _ hV rfl hVm).mono ?_
  rintro e w2 ⟨z, A2, n2, c2, U, hal, rfl, hn2, ho2, h2⟩
  have HAL : Hid (AlA (V.map Rv.r) z (U.map Rv.r)) := hal
  have bR := Blk.mk w2 w2.heap.size 27 #[.int .i64 z, .slice A2 n2 c2] rfl
  have aR := (New.refl w2).alloc (.cells #[.int .i64 z, .slice A2 n2 c2] 27)
  have hU := (ho2.new aR).rt.1
  have hV := (hV.new h2).new aR
  have N3 := (N1.trans h2).trans aR
  clear hal ho2 h2 N1
  go_upto_region 5 with fail
  clear aR
  generalize (w2.alloc (.cells #[.int .i64 z, .slice A2 n2 c2] 27)) = w3 at *
  have cR := bR.cells
  subst hn2
  by_cases h0 : z = 0
  case neg =>
    have hne : (z != 0) = true := by simpa using h0
    have hze : (z == z) = true := by simp
    have hfd : ∀ (c0 c1 : Value) (X : World), (Instr.field 27 (.agg #[c0, c1]) 0).run Try.prog X = .ok c0 X := fun _ _ _ => by kernel_rfl
    clear h0
    go_upto_region 6 with fail
    refine hw_start (n := 7) (S := fun X => New w3 X) rfl (by kernel_rfl) ((New.refl w3).drew) (fun hH => ?_)
    refine' hw_take 0 (some 17) _ rfl rfl (by kernel_rfl) (by kernel_rfl) (by kernel_rfl) (fun _ _ _ h => h) (by rfl) hH ?hy1 ?rest1
    case hy1 =>
      intro X hX
      go_simp
      try rfl
    simp only [Act.put, List.setIfInBounds_toArray, List.set_cons_zero, List.set_cons_succ]
    refine' hw_take 3 (some 20) _ rfl rfl (by kernel_rfl) (by kernel_rfl) (by kernel_rfl) (fun _ _ _ h => h) (by rfl) hH ?hy2 ?rest2
    case hy2 =>
      intro X hX
      go_simp
      try rfl
    simp only [Act.put, List.setIfInBounds_toArray, List.set_cons_zero, List.set_cons_succ]
    refine' hw_take 4 (some 21) _ rfl rfl (by kernel_rfl) (by kernel_rfl) (by kernel_rfl) (fun _ _ _ h => h) (by rfl) hH ?hy3 ?rest3
    case hy3 =>
      intro X hX
      have cRX := (bR.new hX).cells
      go_simp
      try rfl
    simp only [Act.put, List.setIfInBounds_toArray, List.set_cons_zero, List.set_cons_succ]
    refine hw_call 1 (some 18) rfl rfl (by kernel_rfl) (by rfl) (fun K hK => ?_)
    go_simp
    refine (specAll A V.length d V _ (hV.new hH) rfl hVm).mono ?_
    rintro e wx ⟨z', A', n', c', U', hd', rfl, hn', ho', hx⟩
    obtain ⟨rfl, -⟩ := HAL.out.det hd'
    refine hK.out _ _ (hH.trans hx) (fun hH => ?_)
    simp only [Act.put, List.setIfInBounds_toArray, List.set_cons_zero, List.set_cons_succ]
    refine' hw_take 2 (some 19) _ rfl rfl (by kernel_rfl) (by kernel_rfl) (by kernel_rfl) (fun _ _ _ h => h) (by rfl) hH ?hy4 ?rest4
    case hy4 =>
      intro X hX
      go_simp
      try rfl
    simp only [Act.put, List.setIfInBounds_toArray, List.set_cons_zero, List.set_cons_succ]
    refine' hw_take 5 (some 22) _ rfl rfl (by kernel_rfl) (by kernel_rfl) (by kernel_rfl) (fun _ _ _ h => h) (by rfl) hH ?hy5 ?rest5
    case hy5 =>
      intro X hX
      go_simp
      try rfl
    simp only [Act.put, List.setIfInBounds_toArray, List.set_cons_zero, List.set_cons_succ]
    refine' hw_take 6 (some 2) _ rfl rfl (by kernel_rfl) (by kernel_rfl) (by kernel_rfl) (fun _ _ _ h => h) (by rfl) hH ?hy6 ?rest6
    case hy6 =>
      intro X hX
      go_simp
      try rfl
    simp only [Act.put, List.setIfInBounds_toArray, List.set_cons_zero, List.set_cons_succ]
    refine wpAnyH_done (by kernel_rfl) ?_ _
    go_wp2
    go_ret
    exact ⟨rfl, N3.trans hH⟩
  subst h0
  obtain ⟨hR0, hAll⟩ : ribF (V.map Rv.r) = 0 ∧ AllOk (V.map Rv.r) (U.map Rv.r) := by
    rcases HAL.out with ⟨h1, h2, -⟩ | ⟨h1, -, h3⟩
    · exact absurd h2.symm h1
    · exact ⟨h1, h3⟩
  have HR0 : Hid (ribF (V.map Rv.r) = 0) := hR0
  have HALL : Hid (AllOk (V.map Rv.r) (U.map Rv.r)) := hAll
  have hUm : U.length ≤ 1048576 := by
    have e := HAL.out.len
    rw [List.length_map, List.length_map] at e
    omega
  clear hR0 hAll
  go_wp2
  go_loopw [5, 6] (fun kk ii wr => ∃ (I KK : Nat), I ≤ V.length ∧ kk = .int .i64 KK ∧ ii = .int .i64 I ∧ Grp (V.map Rv.r) (U.map Rv.r) I KK ∧ New w3 wr) (fun _ i _ => V.length - (intOf i).toNat)
  case atStart => exact ⟨0, 0, Nat.zero_le _, rfl, rfl, Grp.zero _ _, New.refl _⟩
  case round =>
    obtain ⟨I, KK, hI, rfl, rfl, hg, hnw⟩ := hrel
    have HG : Hid (Grp (V.map Rv.r) (U.map Rv.r) I KK) := hg
    clear hg cR
    by_cases hlt : I < V.length
    case neg =>
      obtain rfl : I = V.length := by omega
      have hk : KK = U.length := by
        have e := (show Grp (V.map Rv.r) (U.map Rv.r) (V.map Rv.r).length KK by rw [List.length_map]; exact HG.out).done HALL.out
        rw [List.length_map] at e
        exact e
      subst hk
      have cR := (bR.new hnw).cells
      have hke : ((U.length : Int) == (U.length : Int)) = true := by simp
      go_wp2
      go_ret
      exact ⟨rfl, N3.trans hnw⟩
    case pos =>
      obtain ⟨b, off, p, a, l, o, nx, md, lc, x, m, d', xs, rfl, hv, hlen, -, -, hxl, q0, q1, q2, q3, q4, q5, q6, q7⟩ := (hV.new hnw).at I hlt
      subst hlen
      have HRI : Hid ((V.map Rv.r)[I]? = some ⟨p, a, l, o, xs, nx, md, lc⟩) := by unfold Hid; rw [List.getElem?_map, hv]; rfl
      clear hv
      have hi0 : (0 : Int) ≤ (I : Int) := by omega
      have hi1 : (I : Int) < (V.length : Int) := by omega
      go_wp2_with fail
      refine (implBF a l _ V.length d V _ (hV.new hnw) rfl hVm).mono ?_
      rintro e w6 ⟨zb, ⟨p9, a9, l9, o9, xs9, nx9, md9, lc9⟩, x9, d9, hb9, rfl, -, ⟨-, hx9⟩, h6⟩
      dsimp only at hx9
      obtain ⟨rfl, hb0, ha9, hl9, hbt⟩ := hb9.here HR0.out (List.mem_of_getElem? HRI.out) rfl rfl
      dsimp only at ha9 hl9 hbt ⊢
      subst ha9
      subst hl9
      have HBF : Hid (BfOk (V.map Rv.r) a9 l9 0 ⟨p9, a9, l9, o9, xs9, nx9, md9, lc9⟩) := hb0
      have hbt1 : decide (cmpW p o md lc xs.length p9 o9 md9 lc9 xs9.length < 0) = false := decide_eq_false hbt
      have hbt2 : decide (cmpW p o md lc xs.length p o md lc xs.length < 0) = false := decide_eq_false (by rw [cmpW_lt]; omega)
      clear hb9 hb0 hbt
      have bB := Blk.mk w6 w6.heap.size 37 #[.int .i64 0, .int .i64 p9, .int .i64 a9, .int .i64 l9, .int .i64 o9, .slice x9 xs9.length d9, .int .i64 nx9, .int .i64 md9, .int .i64 lc9] rfl
      have aB := (New.refl w6).alloc (.cells #[.int .i64 0, .int .i64 p9, .int .i64 a9, .int .i64 l9, .int .i64 o9, .slice x9 xs9.length d9, .int .i64 nx9, .int .i64 md9, .int .i64 lc9] 37)
      have hL := h6.trans aB
      have bB0 : True := trivial
      have hnw := hnw.trans hL
      have bR := bR.new hnw
      have q0 := (hL.below.cell (World.block_lt_of_cell? _ _ q0)).trans q0
      have q1 := (hL.below.cell (World.block_lt_of_cell? _ _ q1)).trans q1
      have q2 := (hL.below.cell (World.block_lt_of_cell? _ _ q2)).trans q2
      have q3 := (hL.below.cell (World.block_lt_of_cell? _ _ q3)).trans q3
      have q4 := (hL.below.cell (World.block_lt_of_cell? _ _ q4)).trans q4
      have q5 := (hL.below.cell (World.block_lt_of_cell? _ _ q5)).trans q5
      have q6 := (hL.below.cell (World.block_lt_of_cell? _ _ q6)).trans q6
      have q7 := (hL.below.cell (World.block_lt_of_cell? _ _ q7)).trans q7
      clear h6 bB0
      go_upto_region 12 with fail
      clear aB hL
      generalize (w6.alloc (.cells #[.int .i64 0, .int .i64 p9, .int .i64 a9, .int .i64 l9, .int .i64 o9, .slice x9 xs9.length d9, .int .i64 nx9, .int .i64 md9, .int .i64 lc9] 37)) = wq at *
      refine hw_start (n := 34) (S := fun X => New wq X) rfl (by kernel_rfl) ((New.refl wq).drew) (fun hH => ?_)
      refine' hw_take 0 (some 36) _ rfl rfl (by kernel_rfl) (by kernel_rfl) (by kernel_rfl) (fun _ _ _ h => h) (by rfl) hH ?hy7 ?rest7
      case hy7 =>
        intro X hX
        go_simp
        try rfl
      simp only [Act.put, List.setIfInBounds_toArray, List.set_cons_zero, List.set_cons_succ]
      refine' hw_take 1 (some 37) _ rfl rfl (by kernel_rfl) (by kernel_rfl) (by kernel_rfl) (fun _ _ _ h => h) (by rfl) hH ?hy8 ?rest8
      case hy8 =>
        intro X hX
        have cBX := (bB.new hX).cells
        go_simp
        try rfl
      simp only [Act.put, List.setIfInBounds_toArray, List.set_cons_zero, List.set_cons_succ]
      refine' hw_take 2 (some 38) _ rfl rfl (by kernel_rfl) (by kernel_rfl) (by kernel_rfl) (fun _ _ _ h => h) (by rfl) hH ?hy9 ?rest9
      case hy9 =>
        intro X hX
        go_simp
        try rfl
      simp only [Act.put, List.setIfInBounds_toArray, List.set_cons_zero, List.set_cons_succ]
      refine' hw_take 3 (some 39) _ rfl rfl (by kernel_rfl) (by kernel_rfl) (by kernel_rfl) (fun _ _ _ h => h) (by rfl) hH ?hy10 ?rest10
      case hy10 =>
        intro X hX
        go_simp
        try rfl
      simp only [Act.put, List.setIfInBounds_toArray, List.set_cons_zero, List.set_cons_succ]
      refine' hw_take 4 (some 40) _ rfl rfl (by kernel_rfl) (by kernel_rfl) (by kernel_rfl) (fun _ _ _ h => h) (by rfl) hH ?hy11 ?rest11
      case hy11 =>
        intro X hX
        go_simp
        try rfl
      simp only [Act.put, List.setIfInBounds_toArray, List.set_cons_zero, List.set_cons_succ]
      refine' hw_take 5 (some 41) _ rfl rfl (by kernel_rfl) (by kernel_rfl) (by kernel_rfl) (fun _ _ _ h => h) (by rfl) hH ?hy12 ?rest12
      case hy12 =>
        intro X hX
        go_simp
        try rfl
      simp only [Act.put, List.setIfInBounds_toArray, List.set_cons_zero, List.set_cons_succ]
      refine' hw_take 6 (some 42) _ rfl rfl (by kernel_rfl) (by kernel_rfl) (by kernel_rfl) (fun _ _ _ h => h) (by rfl) hH ?hy13 ?rest13
      case hy13 =>
        intro X hX
        have cBX := (bB.new hX).cells
        go_simp
        try rfl
      simp only [Act.put, List.setIfInBounds_toArray, List.set_cons_zero, List.set_cons_succ]
      refine' hw_take 7 (some 43) _ rfl rfl (by kernel_rfl) (by kernel_rfl) (by kernel_rfl) (fun _ _ _ h => h) (by rfl) hH ?hy14 ?rest14
      case hy14 =>
        intro X hX
        go_simp
        try rfl
      simp only [Act.put, List.setIfInBounds_toArray, List.set_cons_zero, List.set_cons_succ]
      refine' hw_take 8 (some 44) _ rfl rfl (by kernel_rfl) (by kernel_rfl) (by kernel_rfl) (fun _ _ _ h => h) (by rfl) hH ?hy15 ?rest15
      case hy15 =>
        intro X hX
        go_simp
        try rfl
      simp only [Act.put, List.setIfInBounds_toArray, List.set_cons_zero, List.set_cons_succ]
      refine' hw_take 9 (some 45) _ rfl rfl (by kernel_rfl) (by kernel_rfl) (by kernel_rfl) (fun _ _ _ h => h) (by rfl) hH ?hy16 ?rest16
      case hy16 =>
        intro X hX
        go_simp
        try rfl
      simp only [Act.put, List.setIfInBounds_toArray, List.set_cons_zero, List.set_cons_succ]
      refine' hw_take 10 (some 46) _ rfl rfl (by kernel_rfl) (by kernel_rfl) (by kernel_rfl) (fun _ _ _ h => h) (by rfl) hH ?hy17 ?rest17
      case hy17 =>
        intro X hX
        go_simp
        try rfl
      simp only [Act.put, List.setIfInBounds_toArray, List.set_cons_zero, List.set_cons_succ]
      refine' hw_take 11 (some 47) _ rfl rfl (by kernel_rfl) (by kernel_rfl) (by kernel_rfl) (fun _ _ _ h => h) (by rfl) hH ?hy18 ?rest18
      case hy18 =>
        intro X hX
        have q0X := (hX.below.cell (World.block_lt_of_cell? _ _ q0)).trans q0
        have q1X := (hX.below.cell (World.block_lt_of_cell? _ _ q1)).trans q1
        have q2X := (hX.below.cell (World.block_lt_of_cell? _ _ q2)).trans q2
        have q3X := (hX.below.cell (World.block_lt_of_cell? _ _ q3)).trans q3
        have q4X := (hX.below.cell (World.block_lt_of_cell? _ _ q4)).trans q4
        have q5X := (hX.below.cell (World.block_lt_of_cell? _ _ q5)).trans q5
        have q6X := (hX.below.cell (World.block_lt_of_cell? _ _ q6)).trans q6
        have q7X := (hX.below.cell (World.block_lt_of_cell? _ _ q7)).trans q7
        go_simp
        try rfl
      simp only [Act.put, List.setIfInBounds_toArray, List.set_cons_zero, List.set_cons_succ]
      refine' hw_take 12 (some 48) _ rfl rfl (by kernel_rfl) (by kernel_rfl) (by kernel_rfl) (fun _ _ _ h => h) (by rfl) hH ?hy19 ?rest19
      case hy19 =>
        intro X hX
        go_simp
        try rfl
      simp only [Act.put, List.setIfInBounds_toArray, List.set_cons_zero, List.set_cons_succ]
      refine' hw_take 13 (some 49) _ rfl rfl (by kernel_rfl) (by kernel_rfl) (by kernel_rfl) (fun _ _ _ h => h) (by rfl) hH ?hy20 ?rest20
      case hy20 =>
        intro X hX
        go_simp
        try rfl
      simp only [Act.put, List.setIfInBounds_toArray, List.set_cons_zero, List.set_cons_succ]
      refine' hw_take 14 (some 50) _ rfl rfl (by kernel_rfl) (by kernel_rfl) (by kernel_rfl) (fun _ _ _ h => h) (by rfl) hH ?hy21 ?rest21
      case hy21 =>
        intro X hX
        go_simp
        try rfl
      simp only [Act.put, List.setIfInBounds_toArray, List.set_cons_zero, List.set_cons_succ]
      refine' hw_take 15 (some 51) _ rfl rfl (by kernel_rfl) (by kernel_rfl) (by kernel_rfl) (fun _ _ _ h => h) (by rfl) hH ?hy22 ?rest22
      case hy22 =>
        intro X hX
        go_simp
        try rfl
      simp only [Act.put, List.setIfInBounds_toArray, List.set_cons_zero, List.set_cons_succ]
      refine' hw_take 16 (some 52) _ rfl rfl (by kernel_rfl) (by kernel_rfl) (by kernel_rfl) (fun _ _ _ h => h) (by rfl) hH ?hy23 ?rest23
      case hy23 =>
        intro X hX
        go_simp
        try rfl
      simp only [Act.put, List.setIfInBounds_toArray, List.set_cons_zero, List.set_cons_succ]
      refine' hw_take 17 (some 53) _ rfl rfl (by kernel_rfl) (by kernel_rfl) (by kernel_rfl) (fun _ _ _ h => h) (by rfl) hH ?hy24 ?rest24
      case hy24 =>
        intro X hX
        go_simp
        try rfl
      simp only [Act.put, List.setIfInBounds_toArray, List.set_cons_zero, List.set_cons_succ]
      refine' hw_take 18 (some 54) _ rfl rfl (by kernel_rfl) (by kernel_rfl) (by kernel_rfl) (fun _ _ _ h => h) (by rfl) hH ?hy25 ?rest25
      case hy25 =>
        intro X hX
        have q0X := (hX.below.cell (World.block_lt_of_cell? _ _ q0)).trans q0
        have q1X := (hX.below.cell (World.block_lt_of_cell? _ _ q1)).trans q1
        have q2X := (hX.below.cell (World.block_lt_of_cell? _ _ q2)).trans q2
        have q3X := (hX.below.cell (World.block_lt_of_cell? _ _ q3)).trans q3
        have q4X := (hX.below.cell (World.block_lt_of_cell? _ _ q4)).trans q4
        have q5X := (hX.below.cell (World.block_lt_of_cell? _ _ q5)).trans q5
        have q6X := (hX.below.cell (World.block_lt_of_cell? _ _ q6)).trans q6
        have q7X := (hX.below.cell (World.block_lt_of_cell? _ _ q7)).trans q7
        go_simp
        try rfl
      simp only [Act.put, List.setIfInBounds_toArray, List.set_cons_zero, List.set_cons_succ]
      refine' hw_take 19 (some 55) _ rfl rfl (by kernel_rfl) (by kernel_rfl) (by kernel_rfl) (fun _ _ _ h => h) (by rfl) hH ?hy26 ?rest26
      case hy26 =>
        intro X hX
        go_simp
        try rfl
      simp only [Act.put, List.setIfInBounds_toArray, List.set_cons_zero, List.set_cons_succ]
      refine' hw_take 20 (some 56) _ rfl rfl (by kernel_rfl) (by kernel_rfl) (by kernel_rfl) (fun _ _ _ h => h) (by rfl) hH ?hy27 ?rest27
      case hy27 =>
        intro X hX
        have cBX := (bB.new hX).cells
        go_simp
        try rfl
      simp only [Act.put, List.setIfInBounds_toArray, List.set_cons_zero, List.set_cons_succ]
      refine hw_call 21 (some 57) rfl rfl (by kernel_rfl) (by rfl) (fun K hK => ?_)
      go_simp
      refine (implBT p a9 l9 o nx md lc x xs.length d' p9 a9 l9 o9 nx9 md9 lc9 x9 xs9.length d9 false _ hxl hx9 hbt1).mono ?_
      rintro e w21 ⟨rfl, hx⟩
      refine hK.out _ _ (hH.trans hx) (fun hH => ?_)
      simp only [Act.put, List.setIfInBounds_toArray, List.set_cons_zero, List.set_cons_succ]
      refine' hw_take 22 (some 58) _ rfl rfl (by kernel_rfl) (by kernel_rfl) (by kernel_rfl) (fun _ _ _ h => h) (by rfl) hH ?hy28 ?rest28
      case hy28 =>
        intro X hX
        go_simp
        try rfl
      simp only [Act.put, List.setIfInBounds_toArray, List.set_cons_zero, List.set_cons_succ]
      refine' hw_take 23 (some 59) _ rfl rfl (by kernel_rfl) (by kernel_rfl) (by kernel_rfl) (fun _ _ _ h => h) (by rfl) hH ?hy29 ?rest29
      case hy29 =>
        intro X hX
        go_simp
        try rfl
      simp only [Act.put, List.setIfInBounds_toArray, List.set_cons_zero, List.set_cons_succ]
      refine' hw_take 24 (some 60) _ rfl rfl (by kernel_rfl) (by kernel_rfl) (by kernel_rfl) (fun _ _ _ h => h) (by rfl) hH ?hy30 ?rest30
      case hy30 =>
        intro X hX
        go_simp
        try rfl
      simp only [Act.put, List.setIfInBounds_toArray, List.set_cons_zero, List.set_cons_succ]
      refine' hw_take 25 (some 61) _ rfl rfl (by kernel_rfl) (by kernel_rfl) (by kernel_rfl) (fun _ _ _ h => h) (by rfl) hH ?hy31 ?rest31
      case hy31 =>
        intro X hX
        go_simp
        try rfl
      simp only [Act.put, List.setIfInBounds_toArray, List.set_cons_zero, List.set_cons_succ]
      refine' hw_take 26 (some 62) _ rfl rfl (by kernel_rfl) (by kernel_rfl) (by kernel_rfl) (fun _ _ _ h => h) (by rfl) hH ?hy32 ?rest32
      case hy32 =>
        intro X hX
        go_simp
        try rfl
      simp only [Act.put, List.setIfInBounds_toArray, List.set_cons_zero, List.set_cons_succ]
      refine' hw_take 27 (some 63) _ rfl rfl (by kernel_rfl) (by kernel_rfl) (by kernel_rfl) (fun _ _ _ h => h) (by rfl) hH ?hy33 ?rest33
      case hy33 =>
        intro X hX
        have q0X := (hX.below.cell (World.block_lt_of_cell? _ _ q0)).trans q0
        have q1X := (hX.below.cell (World.block_lt_of_cell? _ _ q1)).trans q1
        have q2X := (hX.below.cell (World.block_lt_of_cell? _ _ q2)).trans q2
        have q3X := (hX.below.cell (World.block_lt_of_cell? _ _ q3)).trans q3
        have q4X := (hX.below.cell (World.block_lt_of_cell? _ _ q4)).trans q4
        have q5X := (hX.below.cell (World.block_lt_of_cell? _ _ q5)).trans q5
        have q6X := (hX.below.cell (World.block_lt_of_cell? _ _ q6)).trans q6
        have q7X := (hX.below.cell (World.block_lt_of_cell? _ _ q7)).trans q7
        go_simp
        try rfl
      simp only [Act.put, List.setIfInBounds_toArray, List.set_cons_zero, List.set_cons_succ]
      refine' hw_take 28 (some 64) _ rfl rfl (by kernel_rfl) (by kernel_rfl) (by kernel_rfl) (fun _ _ _ h => h) (by rfl) hH ?hy34 ?rest34
      case hy34 =>
        intro X hX
        go_simp
        try rfl
      simp only [Act.put, List.setIfInBounds_toArray, List.set_cons_zero, List.set_cons_succ]
      refine' hw_take 29 (some 65) _ rfl rfl (by kernel_rfl) (by kernel_rfl) (by kernel_rfl) (fun _ _ _ h => h) (by rfl) hH ?hy35 ?rest35
      case hy35 =>
        intro X hX
        go_simp
        try rfl
      simp only [Act.put, List.setIfInBounds_toArray, List.set_cons_zero, List.set_cons_succ]
      refine' hw_take 30 (some 66) _ rfl rfl (by kernel_rfl) (by kernel_rfl) (by kernel_rfl) (fun _ _ _ h => h) (by rfl) hH ?hy36 ?rest36
      case hy36 =>
        intro X hX
        go_simp
        try rfl
      simp only [Act.put, List.setIfInBounds_toArray, List.set_cons_zero, List.set_cons_succ]
      refine' hw_take 31 (some 67) _ rfl rfl (by kernel_rfl) (by kernel_rfl) (by kernel_rfl) (fun _ _ _ h => h) (by rfl) hH ?hy37 ?rest37
      case hy37 =>
        intro X hX
        have q0X := (hX.below.cell (World.block_lt_of_cell? _ _ q0)).trans q0
        have q1X := (hX.below.cell (World.block_lt_of_cell? _ _ q1)).trans q1
        have q2X := (hX.below.cell (World.block_lt_of_cell? _ _ q2)).trans q2
        have q3X := (hX.below.cell (World.block_lt_of_cell? _ _ q3)).trans q3
        have q4X := (hX.below.cell (World.block_lt_of_cell? _ _ q4)).trans q4
        have q5X := (hX.below.cell (World.block_lt_of_cell? _ _ q5)).trans q5
        have q6X := (hX.below.cell (World.block_lt_of_cell? _ _ q6)).trans q6
        have q7X := (hX.below.cell (World.block_lt_of_cell? _ _ q7)).trans q7
        go_simp
        try rfl
      simp only [Act.put, List.setIfInBounds_toArray, List.set_cons_zero, List.set_cons_succ]
      refine hw_call 32 (some 68) rfl rfl (by kernel_rfl) (by rfl) (fun K hK => ?_)
      go_simp
      refine (implBT p a9 l9 o nx md lc x xs.length d' p a9 l9 o nx md lc x xs.length d' false _ hxl hxl hbt2).mono ?_
      rintro e w32 ⟨rfl, hx⟩
      refine hK.out _ _ (hH.trans hx) (fun hH => ?_)
      simp only [Act.put, List.setIfInBounds_toArray, List.set_cons_zero, List.set_cons_succ]
      refine' hw_take 33 (some 69) _ rfl rfl (by kernel_rfl) (by kernel_rfl) (by kernel_rfl) (fun _ _ _ h => h) (by rfl) hH ?hy38 ?rest38
      case hy38 =>
        intro X hX
        go_simp
        try rfl
      simp only [Act.put, List.setIfInBounds_toArray, List.set_cons_zero, List.set_cons_succ]
      refine wpAnyH_done (by kernel_rfl) ?_ _
      have bB := bB.new hH
      have bR := bR.new hH
      have hnw := hnw.trans hH
      have q0 := (hH.below.cell (World.block_lt_of_cell? _ _ q0)).trans q0
      have q1 := (hH.below.cell (World.block_lt_of_cell? _ _ q1)).trans q1
      have q2 := (hH.below.cell (World.block_lt_of_cell? _ _ q2)).trans q2
      clear hH q0 q3 q4 q5 q6 q7
      by_cases hz : I = 0
      case pos =>
        have hkb : ((I : Int) == 0) = true := by simp [hz]
        have HNW : Hid (I = 0 ∨ ∀ r', (V.map Rv.r)[I - 1]? = some r' → ¬ (a9 = r'.a ∧ l9 = r'.l)) := .inl hz
        clear hz
        go_upto_region 14 with fail
        refine hw_start (n := 16) (S := fun X => New w32 X) rfl (by kernel_rfl) ((New.refl w32).drew) (fun hH => ?_)
        refine' hw_take 0 (some 70) _ rfl rfl (by kernel_rfl) (by kernel_rfl) (by kernel_rfl) (fun _ _ _ h => h) (by rfl) hH ?hy39 ?rest39
        case hy39 =>
          intro X hX
          go_simp
          try rfl
        simp only [Act.put, List.setIfInBounds_toArray, List.set_cons_zero, List.set_cons_succ]
        refine' hw_take 1 (some 71) _ rfl rfl (by kernel_rfl) (by kernel_rfl) (by kernel_rfl) (fun _ _ _ h => h) (by rfl) hH ?hy40 ?rest40
        case hy40 =>
          intro X hX
          go_simp
          try rfl
        simp only [Act.put, List.setIfInBounds_toArray, List.set_cons_zero, List.set_cons_succ]
        refine' hw_take 2 (some 72) _ rfl rfl (by kernel_rfl) (by kernel_rfl) (by kernel_rfl) (fun _ _ _ h => h) (by rfl) hH ?hy41 ?rest41
        case hy41 =>
          intro X hX
          go_simp
          try rfl
        simp only [Act.put, List.setIfInBounds_toArray, List.set_cons_zero, List.set_cons_succ]
        refine hw_skip 3 (some 73) rfl rfl (by kernel_rfl) (by kernel_rfl) (by kernel_rfl) (fun _ _ _ h => h) (by rfl) hH ?_
        simp only [Act.put, List.setIfInBounds_toArray, List.set_cons_zero, List.set_cons_succ]
        refine hw_skip 4 (some 74) rfl rfl (by kernel_rfl) (by kernel_rfl) (by kernel_rfl) (fun _ _ _ h => h) (by rfl) hH ?_
        simp only [Act.put, List.setIfInBounds_toArray, List.set_cons_zero, List.set_cons_succ]
        refine hw_skip 5 (some 75) rfl rfl (by kernel_rfl) (by kernel_rfl) (by kernel_rfl) (fun _ _ _ h => h) (by rfl) hH ?_
        simp only [Act.put, List.setIfInBounds_toArray, List.set_cons_zero, List.set_cons_succ]
        refine hw_skip 6 (some 76) rfl rfl (by kernel_rfl) (by kernel_rfl) (by kernel_rfl) (fun _ _ _ h => h) (by rfl) hH ?_
        simp only [Act.put, List.setIfInBounds_toArray, List.set_cons_zero, List.set_cons_succ]
        refine hw_skip 7 (some 77) rfl rfl (by kernel_rfl) (by kernel_rfl) (by kernel_rfl) (fun _ _ _ h => h) (by rfl) hH ?_
        simp only [Act.put, List.setIfInBounds_toArray, List.set_cons_zero, List.set_cons_succ]
        refine hw_skip 8 (some 78) rfl rfl (by kernel_rfl) (by kernel_rfl) (by kernel_rfl) (fun _ _ _ h => h) (by rfl) hH ?_
        simp only [Act.put, List.setIfInBounds_toArray, List.set_cons_zero, List.set_cons_succ]
        refine hw_skip 9 (some 79) rfl rfl (by kernel_rfl) (by kernel_rfl) (by kernel_rfl) (fun _ _ _ h => h) (by rfl) hH ?_
        simp only [Act.put, List.setIfInBounds_toArray, List.set_cons_zero, List.set_cons_succ]
        refine hw_skip 10 (some 80) rfl rfl (by kernel_rfl) (by kernel_rfl) (by kernel_rfl) (fun _ _ _ h => h) (by rfl) hH ?_
        simp only [Act.put, List.setIfInBounds_toArray, List.set_cons_zero, List.set_cons_succ]
        refine hw_skip 11 (some 81) rfl rfl (by kernel_rfl) (by kernel_rfl) (by kernel_rfl) (fun _ _ _ h => h) (by rfl) hH ?_
        simp only [Act.put, List.setIfInBounds_toArray, List.set_cons_zero, List.set_cons_succ]
        refine hw_skip 12 (some 82) rfl rfl (by kernel_rfl) (by kernel_rfl) (by kernel_rfl) (fun _ _ _ h => h) (by rfl) hH ?_
        simp only [Act.put, List.setIfInBounds_toArray, List.set_cons_zero, List.set_cons_succ]
        refine hw_skip 13 (some 83) rfl rfl (by kernel_rfl) (by kernel_rfl) (by kernel_rfl) (fun _ _ _ h => h) (by rfl) hH ?_
        simp only [Act.put, List.setIfInBounds_toArray, List.set_cons_zero, List.set_cons_succ]
        refine hw_skip 14 (some 84) rfl rfl (by kernel_rfl) (by kernel_rfl) (by kernel_rfl) (fun _ _ _ h => h) (by rfl) hH ?_
        simp only [Act.put, List.setIfInBounds_toArray, List.set_cons_zero, List.set_cons_succ]
        refine' hw_take 15 (some 85) _ rfl rfl (by kernel_rfl) (by kernel_rfl) (by kernel_rfl) (fun _ _ _ h => h) (by rfl) hH ?hy42 ?rest42
        case hy42 =>
          intro X hX
          go_simp
          try rfl
        simp only [Act.put, List.setIfInBounds_toArray, List.set_cons_zero, List.set_cons_succ]
        refine wpAnyH_done (by kernel_rfl) ?_ _
        generalize w32.drew = w14 at *
        have bB := bB.new hH
        have bR := bR.new hH
        have hnw := hnw.trans hH
        have q1 := (hH.below.cell (World.block_lt_of_cell? _ _ q1)).trans q1
        have q2 := (hH.below.cell (World.block_lt_of_cell? _ _ q2)).trans q2
        clear hH
        obtain ⟨u, hu, hua, hul, hg2⟩ := HG.out.new HR0.out HALL.out HRI.out HNW.out
        have HG2 : Hid (Grp (V.map Rv.r) (U.map Rv.r) (I + 1) (KK + 1)) := hg2
        rw [List.getElem?_map] at hu
        obtain ⟨uv, huv, hur⟩ := Option.map_eq_some_iff.1 hu
        have huL := (List.getElem?_eq_some_iff.1 huv).1
        obtain ⟨bu, offu, pu, au, lu, ou, nxu, mdu, lcu, xu, mu, cu, xsu, hAu, huv2, -, -, -, -, u0, u1, u2, -⟩ := (hU.new hnw).at KK huL
        have HUV : Hid (uv ∈ U) := List.mem_of_getElem? huv
        rw [huv] at huv2
        obtain rfl := Option.some.inj huv2
        subst hur
        dsimp only at hua hul
        have hbu := HALL.out.best _ (List.mem_map_of_mem HUV.out)
        dsimp only at hbu
        rw [hua, hul] at hbu
        obtain ⟨-, hru⟩ := BfOk.det HR0.out hbu HBF.out
        simp only [Rt.mk.injEq] at hru
        obtain ⟨rfl, -⟩ := hru
        subst hua
        subst hul
        have hkk0 : (0 : Int) ≤ (KK : Int) := by omega
        have hkk1 : (KK : Int) < (U.length : Int) := by omega
        have hkge : decide ((U.length : Int) ≤ (KK : Int)) = false := by simp; omega
        have hkgN : decide (U.length ≤ KK) = false := by simp; omega
        have hkN : KK < U.length := by omega
        subst hAu
        clear hbu hg2 hu huv
        go_upto_region 15 with fail
        refine hw_start (n := 31) (S := fun X => New w14 X) rfl (by kernel_rfl) ((New.refl w14).drew) (fun hH => ?_)
        refine' hw_take 0 (some 86) _ rfl rfl (by kernel_rfl) (by kernel_rfl) (by kernel_rfl) (fun _ _ _ h => h) (by rfl) hH ?hy43 ?rest43
        case hy43 =>
          intro X hX
          go_simp
          try rfl
        simp only [Act.put, List.setIfInBounds_toArray, List.set_cons_zero, List.set_cons_succ]
        refine' hw_take 1 (some 87) _ rfl rfl (by kernel_rfl) (by kernel_rfl) (by kernel_rfl) (fun _ _ _ h => h) (by rfl) hH ?hy44 ?rest44
        case hy44 =>
          intro X hX
          go_simp
          try rfl
        simp only [Act.put, List.setIfInBounds_toArray, List.set_cons_zero, List.set_cons_succ]
        refine' hw_take 2 (some 88) _ rfl rfl (by kernel_rfl) (by kernel_rfl) (by kernel_rfl) (fun _ _ _ h => h) (by rfl) hH ?hy45 ?rest45
        case hy45 =>
          intro X hX
          have cRX := (bR.new hX).cells
          go_simp
          try rfl
        simp only [Act.put, List.setIfInBounds_toArray, List.set_cons_zero, List.set_cons_succ]
        refine' hw_take 3 (some 89) _ rfl rfl (by kernel_rfl) (by kernel_rfl) (by kernel_rfl) (fun _ _ _ h => h) (by rfl) hH ?hy46 ?rest46
        case hy46 =>
          intro X hX
          go_simp
          try rfl
        simp only [Act.put, List.setIfInBounds_toArray, List.set_cons_zero, List.set_cons_succ]
        refine' hw_take 4 (some 90) _ rfl rfl (by kernel_rfl) (by kernel_rfl) (by kernel_rfl) (fun _ _ _ h => h) (by rfl) hH ?hy47 ?rest47
        case hy47 =>
          intro X hX
          go_simp
          try rfl
        simp only [Act.put, List.setIfInBounds_toArray, List.set_cons_zero, List.set_cons_succ]
        refine' hw_take 5 (some 91) _ rfl rfl (by kernel_rfl) (by kernel_rfl) (by kernel_rfl) (fun _ _ _ h => h) (by rfl) hH ?hy48 ?rest48
        case hy48 =>
          intro X hX
          go_simp
          try rfl
        simp only [Act.put, List.setIfInBounds_toArray, List.set_cons_zero, List.set_cons_succ]
        refine' hw_take 6 (some 92) _ rfl rfl (by kernel_rfl) (by kernel_rfl) (by kernel_rfl) (fun _ _ _ h => h) (by rfl) hH ?hy49 ?rest49
        case hy49 =>
          intro X hX
          go_simp
          try rfl
        simp only [Act.put, List.setIfInBounds_toArray, List.set_cons_zero, List.set_cons_succ]
        refine' hw_take 7 (some 93) _ rfl rfl (by kernel_rfl) (by kernel_rfl) (by kernel_rfl) (fun _ _ _ h => h) (by rfl) hH ?hy50 ?rest50
        case hy50 =>
          intro X hX
          have cRX := (bR.new hX).cells
          go_simp
          try rfl
        simp only [Act.put, List.setIfInBounds_toArray, List.set_cons_zero, List.set_cons_succ]
        refine' hw_take 8 (some 94) _ rfl rfl (by kernel_rfl) (by kernel_rfl) (by kernel_rfl) (fun _ _ _ h => h) (by rfl) hH ?hy51 ?rest51
        case hy51 =>
          intro X hX
          go_simp
          try rfl
        simp only [Act.put, List.setIfInBounds_toArray, List.set_cons_zero, List.set_cons_succ]
        refine' hw_take 9 (some 95) _ rfl rfl (by kernel_rfl) (by kernel_rfl) (by kernel_rfl) (fun _ _ _ h => h) (by rfl) hH ?hy52 ?rest52
        case hy52 =>
          intro X hX
          go_simp
          try rfl
        simp only [Act.put, List.setIfInBounds_toArray, List.set_cons_zero, List.set_cons_succ]
        refine' hw_take 10 (some 96) _ rfl rfl (by kernel_rfl) (by kernel_rfl) (by kernel_rfl) (fun _ _ _ h => h) (by rfl) hH ?hy53 ?rest53
        case hy53 =>
          intro X hX
          go_simp
          try rfl
        simp only [Act.put, List.setIfInBounds_toArray, List.set_cons_zero, List.set_cons_succ]
        refine' hw_take 11 (some 97) _ rfl rfl (by kernel_rfl) (by kernel_rfl) (by kernel_rfl) (fun _ _ _ h => h) (by rfl) hH ?hy54 ?rest54
        case hy54 =>
          intro X hX
          have u0X := (hX.below.cell (World.block_lt_of_cell? _ _ u0)).trans u0
          have u1X := (hX.below.cell (World.block_lt_of_cell? _ _ u1)).trans u1
          have u2X := (hX.below.cell (World.block_lt_of_cell? _ _ u2)).trans u2
          go_simp
          try rfl
        simp only [Act.put, List.setIfInBounds_toArray, List.set_cons_zero, List.set_cons_succ]
        refine' hw_take 12 (some 98) _ rfl rfl (by kernel_rfl) (by kernel_rfl) (by kernel_rfl) (fun _ _ _ h => h) (by rfl) hH ?hy55 ?rest55
        case hy55 =>
          intro X hX
          go_simp
          try rfl
        simp only [Act.put, List.setIfInBounds_toArray, List.set_cons_zero, List.set_cons_succ]
        refine' hw_take 13 (some 99) _ rfl rfl (by kernel_rfl) (by kernel_rfl) (by kernel_rfl) (fun _ _ _ h => h) (by rfl) hH ?hy56 ?rest56
        case hy56 =>
          intro X hX
          go_simp
          try rfl
        simp only [Act.put, List.setIfInBounds_toArray, List.set_cons_zero, List.set_cons_succ]
        refine' hw_take 14 (some 100) _ rfl rfl (by kernel_rfl) (by kernel_rfl) (by kernel_rfl) (fun _ _ _ h => h) (by rfl) hH ?hy57 ?rest57
        case hy57 =>
          intro X hX
          go_simp
          try rfl
        simp only [Act.put, List.setIfInBounds_toArray, List.set_cons_zero, List.set_cons_succ]
        refine' hw_take 15 (some 101) _ rfl rfl (by kernel_rfl) (by kernel_rfl) (by kernel_rfl) (fun _ _ _ h => h) (by rfl) hH ?hy58 ?rest58
        case hy58 =>
          intro X hX
          go_simp
          try rfl
        simp only [Act.put, List.setIfInBounds_toArray, List.set_cons_zero, List.set_cons_succ]
        refine' hw_take 16 (some 102) _ rfl rfl (by kernel_rfl) (by kernel_rfl) (by kernel_rfl) (fun _ _ _ h => h) (by rfl) hH ?hy59 ?rest59
        case hy59 =>
          intro X hX
          have q1X := (hX.below.cell (World.block_lt_of_cell? _ _ q1)).trans q1
          have q2X := (hX.below.cell (World.block_lt_of_cell? _ _ q2)).trans q2
          go_simp
          try rfl
        simp only [Act.put, List.setIfInBounds_toArray, List.set_cons_zero, List.set_cons_succ]
        refine' hw_take 17 (some 103) _ rfl rfl (by kernel_rfl) (by kernel_rfl) (by kernel_rfl) (fun _ _ _ h => h) (by rfl) hH ?hy60 ?rest60
        case hy60 =>
          intro X hX
          go_simp
          try rfl
        simp only [Act.put, List.setIfInBounds_toArray, List.set_cons_zero, List.set_cons_succ]
        refine' hw_take 18 (some 104) _ rfl rfl (by kernel_rfl) (by kernel_rfl) (by kernel_rfl) (fun _ _ _ h => h) (by rfl) hH ?hy61 ?rest61
        case hy61 =>
          intro X hX
          go_simp
          try rfl
        simp only [Act.put, List.setIfInBounds_toArray, List.set_cons_zero, List.set_cons_succ]
        refine' hw_take 19 (some 105) _ rfl rfl (by kernel_rfl) (by kernel_rfl) (by kernel_rfl) (fun _ _ _ h => h) (by rfl) hH ?hy62 ?rest62
        case hy62 =>
          intro X hX
          go_simp
          try rfl
        simp only [Act.put, List.setIfInBounds_toArray, List.set_cons_zero, List.set_cons_succ]
        refine' hw_take 20 (some 106) _ rfl rfl (by kernel_rfl) (by kernel_rfl) (by kernel_rfl) (fun _ _ _ h => h) (by rfl) hH ?hy63 ?rest63
        case hy63 =>
          intro X hX
          go_simp
          try rfl
        simp only [Act.put, List.setIfInBounds_toArray, List.set_cons_zero, List.set_cons_succ]
        refine' hw_take 21 (some 107) _ rfl rfl (by kernel_rfl) (by kernel_rfl) (by kernel_rfl) (fun _ _ _ h => h) (by rfl) hH ?hy64 ?rest64
        case hy64 =>
          intro X hX
          have cRX := (bR.new hX).cells
          go_simp
          try rfl
        simp only [Act.put, List.setIfInBounds_toArray, List.set_cons_zero, List.set_cons_succ]
        refine' hw_take 22 (some 108) _ rfl rfl (by kernel_rfl) (by kernel_rfl) (by kernel_rfl) (fun _ _ _ h => h) (by rfl) hH ?hy65 ?rest65
        case hy65 =>
          intro X hX
          go_simp
          try rfl
        simp only [Act.put, List.setIfInBounds_toArray, List.set_cons_zero, List.set_cons_succ]
        refine' hw_take 23 (some 109) _ rfl rfl (by kernel_rfl) (by kernel_rfl) (by kernel_rfl) (fun _ _ _ h => h) (by rfl) hH ?hy66 ?rest66
        case hy66 =>
          intro X hX
          go_simp
          try rfl
        simp only [Act.put, List.setIfInBounds_toArray, List.set_cons_zero, List.set_cons_succ]
        refine' hw_take 24 (some 110) _ rfl rfl (by kernel_rfl) (by kernel_rfl) (by kernel_rfl) (fun _ _ _ h => h) (by rfl) hH ?hy67 ?rest67
        case hy67 =>
          intro X hX
          go_simp
          try rfl
        simp only [Act.put, List.setIfInBounds_toArray, List.set_cons_zero, List.set_cons_succ]
        refine' hw_take 25 (some 111) _ rfl rfl (by kernel_rfl) (by kernel_rfl) (by kernel_rfl) (fun _ _ _ h => h) (by rfl) hH ?hy68 ?rest68
        case hy68 =>
          intro X hX
          have u0X := (hX.below.cell (World.block_lt_of_cell? _ _ u0)).trans u0
          have u1X := (hX.below.cell (World.block_lt_of_cell? _ _ u1)).trans u1
          have u2X := (hX.below.cell (World.block_lt_of_cell? _ _ u2)).trans u2
          go_simp
          try rfl
        simp only [Act.put, List.setIfInBounds_toArray, List.set_cons_zero, List.set_cons_succ]
        refine' hw_take 26 (some 112) _ rfl rfl (by kernel_rfl) (by kernel_rfl) (by kernel_rfl) (fun _ _ _ h => h) (by rfl) hH ?hy69 ?rest69
        case hy69 =>
          intro X hX
          go_simp
          try rfl
        simp only [Act.put, List.setIfInBounds_toArray, List.set_cons_zero, List.set_cons_succ]
        refine' hw_take 27 (some 113) _ rfl rfl (by kernel_rfl) (by kernel_rfl) (by kernel_rfl) (fun _ _ _ h => h) (by rfl) hH ?hy70 ?rest70
        case hy70 =>
          intro X hX
          go_simp
          try rfl
        simp only [Act.put, List.setIfInBounds_toArray, List.set_cons_zero, List.set_cons_succ]
        refine' hw_take 28 (some 114) _ rfl rfl (by kernel_rfl) (by kernel_rfl) (by kernel_rfl) (fun _ _ _ h => h) (by rfl) hH ?hy71 ?rest71
        case hy71 =>
          intro X hX
          have cBX := (bB.new hX).cells
          go_simp
          try rfl
        simp only [Act.put, List.setIfInBounds_toArray, List.set_cons_zero, List.set_cons_succ]
        refine' hw_take 29 (some 115) _ rfl rfl (by kernel_rfl) (by kernel_rfl) (by kernel_rfl) (fun _ _ _ h => h) (by rfl) hH ?hy72 ?rest72
        case hy72 =>
          intro X hX
          go_simp
          try rfl
        simp only [Act.put, List.setIfInBounds_toArray, List.set_cons_zero, List.set_cons_succ]
        refine' hw_take 30 (some 116) _ rfl rfl (by kernel_rfl) (by kernel_rfl) (by kernel_rfl) (fun _ _ _ h => h) (by rfl) hH ?hy73 ?rest73
        case hy73 =>
          intro X hX
          go_simp
          try rfl
        simp only [Act.put, List.setIfInBounds_toArray, List.set_cons_zero, List.set_cons_succ]
        refine wpAnyH_done (by kernel_rfl) ?_ _
        have NW := hnw.trans hH
        clear hH
        generalize w14.drew = w15 at *
        go_wp2
        go_roundw
        case rel => exact ⟨I + 1, KK + 1, by omega, by go_num, by go_num, HG2.out, NW⟩
        case measure => simp [intOf]; omega
      case neg =>
        have hkb : ((I : Int) == 0) = false := by simp; omega
        have hwk : IntKind.i64.wrap ((I : Int) - 1) = ((I - 1 : Nat) : Int) := by rw [IntKind.wrap_i64]; omega
        have hj0 : (0 : Int) ≤ ((I - 1 : Nat) : Int) := by omega
        have hj1 : ((I - 1 : Nat) : Int) < (V.length : Int) := by omega
        obtain ⟨b', off', p', a', l', o', nx', md', lc', x', m', d2, xs', hA', hv', -, -, -, -, -, y1, y2, -⟩ := (hV.new hnw).at (I - 1) (by omega)
        simp only [Option.some.injEq, Addr.mk.injEq, and_true] at hA'
        obtain ⟨rfl, rfl⟩ := hA'
        have HV' : Hid ((V.map Rv.r)[I - 1]? = some ⟨p', a', l', o', xs', nx', md', lc'⟩) := by unfold Hid; rw [List.getElem?_map, hv']; rfl
        have HZ : Hid (0 < I) := by unfold Hid; omega
        clear hv' hz
        by_cases ha : a9 = a'
        case neg =>
          have HNW : Hid (I = 0 ∨ ∀ r', (V.map Rv.r)[I - 1]? = some r' → ¬ (a9 = r'.a ∧ l9 = r'.l)) := .inr (fun r' hr' e => by rw [HV'.out] at hr'; obtain rfl := Option.some.inj hr'; exact ha e.1)
          go_upto_region 14 with fail
          refine hw_start (n := 16) (S := fun X => New w32 X) rfl (by kernel_rfl) ((New.refl w32).drew) (fun hH => ?_)
          refine' hw_take 0 (some 70) _ rfl rfl (by kernel_rfl) (by kernel_rfl) (by kernel_rfl) (fun _ _ _ h => h) (by rfl) hH ?hy74 ?rest74
          case hy74 =>
            intro X hX
            go_simp
            try rfl
          simp only [Act.put, List.setIfInBounds_toArray, List.set_cons_zero, List.set_cons_succ]
          refine' hw_take 1 (some 71) _ rfl rfl (by kernel_rfl) (by kernel_rfl) (by kernel_rfl) (fun _ _ _ h => h) (by rfl) hH ?hy75 ?rest75
          case hy75 =>
            intro X hX
            go_simp
            try rfl
          simp only [Act.put, List.setIfInBounds_toArray, List.set_cons_zero, List.set_cons_succ]
          refine' hw_take 2 (some 72) _ rfl rfl (by kernel_rfl) (by kernel_rfl) (by kernel_rfl) (fun _ _ _ h => h) (by rfl) hH ?hy76 ?rest76
          case hy76 =>
            intro X hX
            go_simp
            try rfl
          simp only [Act.put, List.setIfInBounds_toArray, List.set_cons_zero, List.set_cons_succ]
          refine' hw_take 3 (some 73) _ rfl rfl (by kernel_rfl) (by kernel_rfl) (by kernel_rfl) (fun _ _ _ h => h) (by rfl) hH ?hy77 ?rest77
          case hy77 =>
            intro X hX
            go_simp
            try rfl
          simp only [Act.put, List.setIfInBounds_toArray, List.set_cons_zero, List.set_cons_succ]
          refine' hw_take 4 (some 74) _ rfl rfl (by kernel_rfl) (by kernel_rfl) (by kernel_rfl) (fun _ _ _ h => h) (by rfl) hH ?hy78 ?rest78
          case hy78 =>
            intro X hX
            go_simp
            try rfl
          simp only [Act.put, List.setIfInBounds_toArray, List.set_cons_zero, List.set_cons_succ]
          refine' hw_take 5 (some 75) _ rfl rfl (by kernel_rfl) (by kernel_rfl) (by kernel_rfl) (fun _ _ _ h => h) (by rfl) hH ?hy79 ?rest79
          case hy79 =>
            intro X hX
            go_simp
            try rfl
          simp only [Act.put, List.setIfInBounds_toArray, List.set_cons_zero, List.set_cons_succ]
          refine' hw_take 6 (some 76) _ rfl rfl (by kernel_rfl) (by kernel_rfl) (by kernel_rfl) (fun _ _ _ h => h) (by rfl) hH ?hy80 ?rest80
          case hy80 =>
            intro X hX
            go_simp
            try rfl
          simp only [Act.put, List.setIfInBounds_toArray, List.set_cons_zero, List.set_cons_succ]
          refine' hw_take 7 (some 77) _ rfl rfl (by kernel_rfl) (by kernel_rfl) (by kernel_rfl) (fun _ _ _ h => h) (by rfl) hH ?hy81 ?rest81
          case hy81 =>
            intro X hX
            have q1X := (hX.below.cell (World.block_lt_of_cell? _ _ q1)).trans q1
            have q2X := (hX.below.cell (World.block_lt_of_cell? _ _ q2)).trans q2
            go_simp
            try rfl
          simp only [Act.put, List.setIfInBounds_toArray, List.set_cons_zero, List.set_cons_succ]
          refine' hw_take 8 (some 78) _ rfl rfl (by kernel_rfl) (by kernel_rfl) (by kernel_rfl) (fun _ _ _ h => h) (by rfl) hH ?hy82 ?rest82
          case hy82 =>
            intro X hX
            go_simp
            try rfl
          simp only [Act.put, List.setIfInBounds_toArray, List.set_cons_zero, List.set_cons_succ]
          refine' hw_take 9 (some 79) _ rfl rfl (by kernel_rfl) (by kernel_rfl) (by kernel_rfl) (fun _ _ _ h => h) (by rfl) hH ?hy83 ?rest83
          case hy83 =>
            intro X hX
            go_simp
            try rfl
          simp only [Act.put, List.setIfInBounds_toArray, List.set_cons_zero, List.set_cons_succ]
          refine' hw_take 10 (some 80) _ rfl rfl (by kernel_rfl) (by kernel_rfl) (by kernel_rfl) (fun _ _ _ h => h) (by rfl) hH ?hy84 ?rest84
          case hy84 =>
            intro X hX
            go_simp
            try rfl
          simp only [Act.put, List.setIfInBounds_toArray, List.set_cons_zero, List.set_cons_succ]
          refine' hw_take 11 (some 81) _ rfl rfl (by kernel_rfl) (by kernel_rfl) (by kernel_rfl) (fun _ _ _ h => h) (by rfl) hH ?hy85 ?rest85
          case hy85 =>
            intro X hX
            go_simp
            try rfl
          simp only [Act.put, List.setIfInBounds_toArray, List.set_cons_zero, List.set_cons_succ]
          refine' hw_take 12 (some 82) _ rfl rfl (by kernel_rfl) (by kernel_rfl) (by kernel_rfl) (fun _ _ _ h => h) (by rfl) hH ?hy86 ?rest86
          case hy86 =>
            intro X hX
            go_simp
            try rfl
          simp only [Act.put, List.setIfInBounds_toArray, List.set_cons_zero, List.set_cons_succ]
          refine' hw_take 13 (some 83) _ rfl rfl (by kernel_rfl) (by kernel_rfl) (by kernel_rfl) (fun _ _ _ h => h) (by rfl) hH ?hy87 ?rest87
          case hy87 =>
            intro X hX
            have y1X := (hX.below.cell (World.block_lt_of_cell? _ _ y1)).trans y1
            have y2X := (hX.below.cell (World.block_lt_of_cell? _ _ y2)).trans y2
            go_simp
            try rfl
          simp only [Act.put, List.setIfInBounds_toArray, List.set_cons_zero, List.set_cons_succ]
          refine' hw_take 14 (some 84) _ rfl rfl (by kernel_rfl) (by kernel_rfl) (by kernel_rfl) (fun _ _ _ h => h) (by rfl) hH ?hy88 ?rest88
          case hy88 =>
            intro X hX
            go_simp
            try rfl
          simp only [Act.put, List.setIfInBounds_toArray, List.set_cons_zero, List.set_cons_succ]
          refine' hw_take 15 (some 85) _ rfl rfl (by kernel_rfl) (by kernel_rfl) (by kernel_rfl) (fun _ _ _ h => h) (by rfl) hH ?hy89 ?rest89
          case hy89 =>
            intro X hX
            go_simp
            try rfl
          simp only [Act.put, List.setIfInBounds_toArray, List.set_cons_zero, List.set_cons_succ]
          refine wpAnyH_done (by kernel_rfl) ?_ _
          generalize w32.drew = w14 at *
          have bB := bB.new hH
          have bR := bR.new hH
          have hnw := hnw.trans hH
          have q1 := (hH.below.cell (World.block_lt_of_cell? _ _ q1)).trans q1
          have q2 := (hH.below.cell (World.block_lt_of_cell? _ _ q2)).trans q2
          clear hH
          obtain ⟨u, hu, hua, hul, hg2⟩ := HG.out.new HR0.out HALL.out HRI.out HNW.out
          have HG2 : Hid (Grp (V.map Rv.r) (U.map Rv.r) (I + 1) (KK + 1)) := hg2
          rw [List.getElem?_map] at hu
          obtain ⟨uv, huv, hur⟩ := Option.map_eq_some_iff.1 hu
          have huL := (List.getElem?_eq_some_iff.1 huv).1
          obtain ⟨bu, offu, pu, au, lu, ou, nxu, mdu, lcu, xu, mu, cu, xsu, hAu, huv2, -, -, -, -, u0, u1, u2, -⟩ := (hU.new hnw).at KK huL
          have HUV : Hid (uv ∈ U) := List.mem_of_getElem? huv
          rw [huv] at huv2
          obtain rfl := Option.some.inj huv2
          subst hur
          dsimp only at hua hul
          have hbu := HALL.out.best _ (List.mem_map_of_mem HUV.out)
          dsimp only at hbu
          rw [hua, hul] at hbu
          obtain ⟨-, hru⟩ := BfOk.det HR0.out hbu HBF.out
          simp only [Rt.mk.injEq] at hru
          obtain ⟨rfl, -⟩ := hru
          subst hua
          subst hul
          have hkk0 : (0 : Int) ≤ (KK : Int) := by omega
          have hkk1 : (KK : Int) < (U.length : Int) := by omega
          have hkge : decide ((U.length : Int) ≤ (KK : Int)) = false := by simp; omega
          have hkgN : decide (U.length ≤ KK) = false := by simp; omega
          have hkN : KK < U.length := by omega
          subst hAu
          clear hbu hg2 hu huv
          go_upto_region 15 with fail
          refine hw_start (n := 31) (S := fun X => New w14 X) rfl (by kernel_rfl) ((New.refl w14).drew) (fun hH => ?_)
          refine' hw_take 0 (some 86) _ rfl rfl (by kernel_rfl) (by kernel_rfl) (by kernel_rfl) (fun _ _ _ h => h) (by rfl) hH ?hy90 ?rest90
          case hy90 =>
            intro X hX
            go_simp
            try rfl
          simp only [Act.put, List.setIfInBounds_toArray, List.set_cons_zero, List.set_cons_succ]
          refine' hw_take 1 (some 87) _ rfl rfl (by kernel_rfl) (by kernel_rfl) (by kernel_rfl) (fun _ _ _ h => h) (by rfl) hH ?hy91 ?rest91
          case hy91 =>
            intro X hX
            go_simp
            try rfl
          simp only [Act.put, List.setIfInBounds_toArray, List.set_cons_zero, List.set_cons_succ]
          refine' hw_take 2 (some 88) _ rfl rfl (by kernel_rfl) (by kernel_rfl) (by kernel_rfl) (fun _ _ _ h => h) (by rfl) hH ?hy92 ?rest92
          case hy92 =>
            intro X hX
            have cRX := (bR.new hX).cells
            go_simp
            try rfl
          simp only [Act.put, List.setIfInBounds_toArray, List.set_cons_zero, List.set_cons_succ]
          refine' hw_take 3 (some 89) _ rfl rfl (by kernel_rfl) (by kernel_rfl) (by kernel_rfl) (fun _ _ _ h => h) (by rfl) hH ?hy93 ?rest93
          case hy93 =>
            intro X hX
            go_simp
            try rfl
          simp only [Act.put, List.setIfInBounds_toArray, List.set_cons_zero, List.set_cons_succ]
          refine' hw_take 4 (some 90) _ rfl rfl (by kernel_rfl) (by kernel_rfl) (by kernel_rfl) (fun _ _ _ h => h) (by rfl) hH ?hy94 ?rest94
          case hy94 =>
            intro X hX
            go_simp
            try rfl
          simp only [Act.put, List.setIfInBounds_toArray, List.set_cons_zero, List.set_cons_succ]
          refine' hw_take 5 (some 91) _ rfl rfl (by kernel_rfl) (by kernel_rfl) (by kernel_rfl) (fun _ _ _ h => h) (by rfl) hH ?hy95 ?rest95
          case hy95 =>
            intro X hX
            go_simp
            try rfl
          simp only [Act.put, List.setIfInBounds_toArray, List.set_cons_zero, List.set_cons_succ]
          refine' hw_take 6 (some 92) _ rfl rfl (by kernel_rfl) (by kernel_rfl) (by kernel_rfl) (fun _ _ _ h => h) (by rfl) hH ?hy96 ?rest96
          case hy96 =>
            intro X hX
            go_simp
            try rfl
          simp only [Act.put, List.setIfInBounds_toArray, List.set_cons_zero, List.set_cons_succ]
          refine' hw_take 7 (some 93) _ rfl rfl (by kernel_rfl) (by kernel_rfl) (by kernel_rfl) (fun _ _ _ h => h) (by rfl) hH ?hy97 ?rest97
          case hy97 =>
            intro X hX
            have cRX := (bR.new hX).cells
            go_simp
            try rfl
          simp only [Act.put, List.setIfInBounds_toArray, List.set_cons_zero, List.set_cons_succ]
          refine' hw_take 8 (some 94) _ rfl rfl (by kernel_rfl) (by kernel_rfl) (by kernel_rfl) (fun _ _ _ h => h) (by rfl) hH ?hy98 ?rest98
          case hy98 =>
            intro X hX
            go_simp
            try rfl
          simp only [Act.put, List.setIfInBounds_toArray, List.set_cons_zero, List.set_cons_succ]
          refine' hw_take 9 (some 95) _ rfl rfl (by kernel_rfl) (by kernel_rfl) (by kernel_rfl) (fun _ _ _ h => h) (by rfl) hH ?hy99 ?rest99
          case hy99 =>
            intro X hX
            go_simp
            try rfl
          simp only [Act.put, List.setIfInBounds_toArray, List.set_cons_zero, List.set_cons_succ]
          refine' hw_take 10 (some 96) _ rfl rfl (by kernel_rfl) (by kernel_rfl) (by kernel_rfl) (fun _ _ _ h => h) (by rfl) hH ?hy100 ?rest100
          case hy100 =>
            intro X hX
            go_simp
            try rfl
          simp only [Act.put, List.setIfInBounds_toArray, List.set_cons_zero, List.set_cons_succ]
          refine' hw_take 11 (some 97) _ rfl rfl (by kernel_rfl) (by kernel_rfl) (by kernel_rfl) (fun _ _ _ h => h) (by rfl) hH ?hy101 ?rest101
          case hy101 =>
            intro X hX
            have u0X := (hX.below.cell (World.block_lt_of_cell? _ _ u0)).trans u0
            have u1X := (hX.below.cell (World.block_lt_of_cell? _ _ u1)).trans u1
            have u2X := (hX.below.cell (World.block_lt_of_cell? _ _ u2)).trans u2
            go_simp
            try rfl
          simp only [Act.put, List.setIfInBounds_toArray, List.set_cons_zero, List.set_cons_succ]
          refine' hw_take 12 (some 98) _ rfl rfl (by kernel_rfl) (by kernel_rfl) (by kernel_rfl) (fun _ _ _ h => h) (by rfl) hH ?hy102 ?rest102
          case hy102 =>
            intro X hX
            go_simp
            try rfl
          simp only [Act.put, List.setIfInBounds_toArray, List.set_cons_zero, List.set_cons_succ]
          refine' hw_take 13 (some 99) _ rfl rfl (by kernel_rfl) (by kernel_rfl) (by kernel_rfl) (fun _ _ _ h => h) (by rfl) hH ?hy103 ?rest103
          case hy103 =>
            intro X hX
            go_simp
            try rfl
          simp only [Act.put, List.setIfInBounds_toArray, List.set_cons_zero, List.set_cons_succ]
          refine' hw_take 14 (some 100) _ rfl rfl (by kernel_rfl) (by kernel_rfl) (by kernel_rfl) (fun _ _ _ h => h) (by rfl) hH ?hy104 ?rest104
          case hy104 =>
            intro X hX
            go_simp
            try rfl
          simp only [Act.put, List.setIfInBounds_toArray, List.set_cons_zero, List.set_cons_succ]
          refine' hw_take 15 (some 101) _ rfl rfl (by kernel_rfl) (by kernel_rfl) (by kernel_rfl) (fun _ _ _ h => h) (by rfl) hH ?hy105 ?rest105
          case hy105 =>
            intro X hX
            go_simp
            try rfl
          simp only [Act.put, List.setIfInBounds_toArray, List.set_cons_zero, List.set_cons_succ]
          refine' hw_take 16 (some 102) _ rfl rfl (by kernel_rfl) (by kernel_rfl) (by kernel_rfl) (fun _ _ _ h => h) (by rfl) hH ?hy106 ?rest106
          case hy106 =>
            intro X hX
            have q1X := (hX.below.cell (World.block_lt_of_cell? _ _ q1)).trans q1
            have q2X := (hX.below.cell (World.block_lt_of_cell? _ _ q2)).trans q2
            go_simp
            try rfl
          simp only [Act.put, List.setIfInBounds_toArray, List.set_cons_zero, List.set_cons_succ]
          refine' hw_take 17 (some 103) _ rfl rfl (by kernel_rfl) (by kernel_rfl) (by kernel_rfl) (fun _ _ _ h => h) (by rfl) hH ?hy107 ?rest107
          case hy107 =>
            intro X hX
            go_simp
            try rfl
          simp only [Act.put, List.setIfInBounds_toArray, List.set_cons_zero, List.set_cons_succ]
          refine' hw_take 18 (some 104) _ rfl rfl (by kernel_rfl) (by kernel_rfl) (by kernel_rfl) (fun _ _ _ h => h) (by rfl) hH ?hy108 ?rest108
          case hy108 =>
            intro X hX
            go_simp
            try rfl
          simp only [Act.put, List.setIfInBounds_toArray, List.set_cons_zero, List.set_cons_succ]
          refine' hw_take 19 (some 105) _ rfl rfl (by kernel_rfl) (by kernel_rfl) (by kernel_rfl) (fun _ _ _ h => h) (by rfl) hH ?hy109 ?rest109
          case hy109 =>
            intro X hX
            go_simp
            try rfl
          simp only [Act.put, List.setIfInBounds_toArray, List.set_cons_zero, List.set_cons_succ]
          refine' hw_take 20 (some 106) _ rfl rfl (by kernel_rfl) (by kernel_rfl) (by kernel_rfl) (fun _ _ _ h => h) (by rfl) hH ?hy110 ?rest110
          case hy110 =>
            intro X hX
            go_simp
            try rfl
          simp only [Act.put, List.setIfInBounds_toArray, List.set_cons_zero, List.set_cons_succ]
          refine' hw_take 21 (some 107) _ rfl rfl (by kernel_rfl) (by kernel_rfl) (by kernel_rfl) (fun _ _ _ h => h) (by rfl) hH ?hy111 ?rest111
          case hy111 =>
            intro X hX
            have cRX := (bR.new hX).cells
            go_simp
            try rfl
          simp only [Act.put, List.setIfInBounds_toArray, List.set_cons_zero, List.set_cons_succ]
          refine' hw_take 22 (some 108) _ rfl rfl (by kernel_rfl) (by kernel_rfl) (by kernel_rfl) (fun _ _ _ h => h) (by rfl) hH ?hy112 ?rest112
          case hy112 =>
            intro X hX
            go_simp
            try rfl
          simp only [Act.put, List.setIfInBounds_toArray, List.set_cons_zero, List.set_cons_succ]
          refine' hw_take 23 (some 109) _ rfl rfl (by kernel_rfl) (by kernel_rfl) (by kernel_rfl) (fun _ _ _ h => h) (by rfl) hH ?hy113 ?rest113
          case hy113 =>
            intro X hX
            go_simp
            try rfl
          simp only [Act.put, List.setIfInBounds_toArray, List.set_cons_zero, List.set_cons_succ]
          refine' hw_take 24 (some 110) _ rfl rfl (by kernel_rfl) (by kernel_rfl) (by kernel_rfl) (fun _ _ _ h => h) (by rfl) hH ?hy114 ?rest114
          case hy114 =>
            intro X hX
            go_simp
            try rfl
          simp only [Act.put, List.setIfInBounds_toArray, List.set_cons_zero, List.set_cons_succ]
          refine' hw_take 25 (some 111) _ rfl rfl (by kernel_rfl) (by kernel_rfl) (by kernel_rfl) (fun _ _ _ h => h) (by rfl) hH ?hy115 ?rest115
          case hy115 =>
            intro X hX
            have u0X := (hX.below.cell (World.block_lt_of_cell? _ _ u0)).trans u0
            have u1X := (hX.below.cell (World.block_lt_of_cell? _ _ u1)).trans u1
            have u2X := (hX.below.cell (World.block_lt_of_cell? _ _ u2)).trans u2
            go_simp
            try rfl
          simp only [Act.put, List.setIfInBounds_toArray, List.set_cons_zero, List.set_cons_succ]
          refine' hw_take 26 (some 112) _ rfl rfl (by kernel_rfl) (by kernel_rfl) (by kernel_rfl) (fun _ _ _ h => h) (by rfl) hH ?hy116 ?rest116
          case hy116 =>
            intro X hX
            go_simp
            try rfl
          simp only [Act.put, List.setIfInBounds_toArray, List.set_cons_zero, List.set_cons_succ]
          refine' hw_take 27 (some 113) _ rfl rfl (by kernel_rfl) (by kernel_rfl) (by kernel_rfl) (fun _ _ _ h => h) (by rfl) hH ?hy117 ?rest117
          case hy117 =>
            intro X hX
            go_simp
            try rfl
          simp only [Act.put, List.setIfInBounds_toArray, List.set_cons_zero, List.set_cons_succ]
          refine' hw_take 28 (some 114) _ rfl rfl (by kernel_rfl) (by kernel_rfl) (by kernel_rfl) (fun _ _ _ h => h) (by rfl) hH ?hy118 ?rest118
          case hy118 =>
            intro X hX
            have cBX := (bB.new hX).cells
            go_simp
            try rfl
          simp only [Act.put, List.setIfInBounds_toArray, List.set_cons_zero, List.set_cons_succ]
          refine' hw_take 29 (some 115) _ rfl rfl (by kernel_rfl) (by kernel_rfl) (by kernel_rfl) (fun _ _ _ h => h) (by rfl) hH ?hy119 ?rest119
          case hy119 =>
            intro X hX
            go_simp
            try rfl
          simp only [Act.put, List.setIfInBounds_toArray, List.set_cons_zero, List.set_cons_succ]
          refine' hw_take 30 (some 116) _ rfl rfl (by kernel_rfl) (by kernel_rfl) (by kernel_rfl) (fun _ _ _ h => h) (by rfl) hH ?hy120 ?rest120
          case hy120 =>
            intro X hX
            go_simp
            try rfl
          simp only [Act.put, List.setIfInBounds_toArray, List.set_cons_zero, List.set_cons_succ]
          refine wpAnyH_done (by kernel_rfl) ?_ _
          have NW := hnw.trans hH
          clear hH
          generalize w14.drew = w15 at *
          go_wp2
          go_roundw
          case rel => exact ⟨I + 1, KK + 1, by omega, by go_num, by go_num, HG2.out, NW⟩
          case measure => simp [intOf]; omega
        case pos =>
          subst ha
          by_cases hll : l9 = l'
          case neg =>
            have HNW : Hid (I = 0 ∨ ∀ r', (V.map Rv.r)[I - 1]? = some r' → ¬ (a9 = r'.a ∧ l9 = r'.l)) := .inr (fun r' hr' e => by rw [HV'.out] at hr'; obtain rfl := Option.some.inj hr'; exact hll e.2)
            go_upto_region 14 with fail
            refine hw_start (n := 16) (S := fun X => New w32 X) rfl (by kernel_rfl) ((New.refl w32).drew) (fun hH => ?_)
            refine' hw_take 0 (some 70) _ rfl rfl (by kernel_rfl) (by kernel_rfl) (by kernel_rfl) (fun _ _ _ h => h) (by rfl) hH ?hy121 ?rest121
            case hy121 =>
              intro X hX
              go_simp
              try rfl
            simp only [Act.put, List.setIfInBounds_toArray, List.set_cons_zero, List.set_cons_succ]
            refine' hw_take 1 (some 71) _ rfl rfl (by kernel_rfl) (by kernel_rfl) (by kernel_rfl) (fun _ _ _ h => h) (by rfl) hH ?hy122 ?rest122
            case hy122 =>
              intro X hX
              go_simp
              try rfl
            simp only [Act.put, List.setIfInBounds_toArray, List.set_cons_zero, List.set_cons_succ]
            refine' hw_take 2 (some 72) _ rfl rfl (by kernel_rfl) (by kernel_rfl) (by kernel_rfl) (fun _ _ _ h => h) (by rfl) hH ?hy123 ?rest123
            case hy123 =>
              intro X hX
              go_simp
              try rfl
            simp only [Act.put, List.setIfInBounds_toArray, List.set_cons_zero, List.set_cons_succ]
            refine' hw_take 3 (some 73) _ rfl rfl (by kernel_rfl) (by kernel_rfl) (by kernel_rfl) (fun _ _ _ h => h) (by rfl) hH ?hy124 ?rest124
            case hy124 =>
              intro X hX
              go_simp
              try rfl
            simp only [Act.put, List.setIfInBounds_toArray, List.set_cons_zero, List.set_cons_succ]
            refine' hw_take 4 (some 74) _ rfl rfl (by kernel_rfl) (by kernel_rfl) (by kernel_rfl) (fun _ _ _ h => h) (by rfl) hH ?hy125 ?rest125
            case hy125 =>
              intro X hX
              go_simp
              try rfl
            simp only [Act.put, List.setIfInBounds_toArray, List.set_cons_zero, List.set_cons_succ]
            refine' hw_take 5 (some 75) _ rfl rfl (by kernel_rfl) (by kernel_rfl) (by kernel_rfl) (fun _ _ _ h => h) (by rfl) hH ?hy126 ?rest126
            case hy126 =>
              intro X hX
              go_simp
              try rfl
            simp only [Act.put, List.setIfInBounds_toArray, List.set_cons_zero, List.set_cons_succ]
            refine' hw_take 6 (some 76) _ rfl rfl (by kernel_rfl) (by kernel_rfl) (by kernel_rfl) (fun _ _ _ h => h) (by rfl) hH ?hy127 ?rest127
            case hy127 =>
              intro X hX
              go_simp
              try rfl
            simp only [Act.put, List.setIfInBounds_toArray, List.set_cons_zero, List.set_cons_succ]
            refine' hw_take 7 (some 77) _ rfl rfl (by kernel_rfl) (by kernel_rfl) (by kernel_rfl) (fun _ _ _ h => h) (by rfl) hH ?hy128 ?rest128
            case hy128 =>
              intro X hX
              have q1X := (hX.below.cell (World.block_lt_of_cell? _ _ q1)).trans q1
              have q2X := (hX.below.cell (World.block_lt_of_cell? _ _ q2)).trans q2
              go_simp
              try rfl
            simp only [Act.put, List.setIfInBounds_toArray, List.set_cons_zero, List.set_cons_succ]
            refine' hw_take 8 (some 78) _ rfl rfl (by kernel_rfl) (by kernel_rfl) (by kernel_rfl) (fun _ _ _ h => h) (by rfl) hH ?hy129 ?rest129
            case hy129 =>
              intro X hX
              go_simp
              try rfl
            simp only [Act.put, List.setIfInBounds_toArray, List.set_cons_zero, List.set_cons_succ]
            refine' hw_take 9 (some 79) _ rfl rfl (by kernel_rfl) (by kernel_rfl) (by kernel_rfl) (fun _ _ _ h => h) (by rfl) hH ?hy130 ?rest130
            case hy130 =>
              intro X hX
              go_simp
              try rfl
            simp only [Act.put, List.setIfInBounds_toArray, List.set_cons_zero, List.set_cons_succ]
            refine' hw_take 10 (some 80) _ rfl rfl (by kernel_rfl) (by kernel_rfl) (by kernel_rfl) (fun _ _ _ h => h) (by rfl) hH ?hy131 ?rest131
            case hy131 =>
              intro X hX
              go_simp
              try rfl
            simp only [Act.put, List.setIfInBounds_toArray, List.set_cons_zero, List.set_cons_succ]
            refine' hw_take 11 (some 81) _ rfl rfl (by kernel_rfl) (by kernel_rfl) (by kernel_rfl) (fun _ _ _ h => h) (by rfl) hH ?hy132 ?rest132
            case hy132 =>
              intro X hX
              go_simp
              try rfl
            simp only [Act.put, List.setIfInBounds_toArray, List.set_cons_zero, List.set_cons_succ]
            refine' hw_take 12 (some 82) _ rfl rfl (by kernel_rfl) (by kernel_rfl) (by kernel_rfl) (fun _ _ _ h => h) (by rfl) hH ?hy133 ?rest133
            case hy133 =>
              intro X hX
              go_simp
              try rfl
            simp only [Act.put, List.setIfInBounds_toArray, List.set_cons_zero, List.set_cons_succ]
            refine' hw_take 13 (some 83) _ rfl rfl (by kernel_rfl) (by kernel_rfl) (by kernel_rfl) (fun _ _ _ h => h) (by rfl) hH ?hy134 ?rest134
            case hy134 =>
              intro X hX
              have y1X := (hX.below.cell (World.block_lt_of_cell? _ _ y1)).trans y1
              have y2X := (hX.below.cell (World.block_lt_of_cell? _ _ y2)).trans y2
              go_simp
              try rfl
            simp only [Act.put, List.setIfInBounds_toArray, List.set_cons_zero, List.set_cons_succ]
            refine' hw_take 14 (some 84) _ rfl rfl (by kernel_rfl) (by kernel_rfl) (by kernel_rfl) (fun _ _ _ h => h) (by rfl) hH ?hy135 ?rest135
            case hy135 =>
              intro X hX
              go_simp
              try rfl
            simp only [Act.put, List.setIfInBounds_toArray, List.set_cons_zero, List.set_cons_succ]
            refine' hw_take 15 (some 85) _ rfl rfl (by kernel_rfl) (by kernel_rfl) (by kernel_rfl) (fun _ _ _ h => h) (by rfl) hH ?hy136 ?rest136
            case hy136 =>
              intro X hX
              go_simp
              try rfl
            simp only [Act.put, List.setIfInBounds_toArray, List.set_cons_zero, List.set_cons_succ]
            refine wpAnyH_done (by kernel_rfl) ?_ _
            generalize w32.drew = w14 at *
            have bB := bB.new hH
            have bR := bR.new hH
            have hnw := hnw.trans hH
            have q1 := (hH.below.cell (World.block_lt_of_cell? _ _ q1)).trans q1
            have q2 := (hH.below.cell (World.block_lt_of_cell? _ _ q2)).trans q2
            clear hH
            obtain ⟨u, hu, hua, hul, hg2⟩ := HG.out.new HR0.out HALL.out HRI.out HNW.out
            have HG2 : Hid (Grp (V.map Rv.r) (U.map Rv.r) (I + 1) (KK + 1)) := hg2
            rw [List.getElem?_map] at hu
            obtain ⟨uv, huv, hur⟩ := Option.map_eq_some_iff.1 hu
            have huL := (List.getElem?_eq_some_iff.1 huv).1
            obtain ⟨bu, offu, pu, au, lu, ou, nxu, mdu, lcu, xu, mu, cu, xsu, hAu, huv2, -, -, -, -, u0, u1, u2, -⟩ := (hU.new hnw).at KK huL
            have HUV : Hid (uv ∈ U) := List.mem_of_getElem? huv
            rw [huv] at huv2
            obtain rfl := Option.some.inj huv2
            subst hur
            dsimp only at hua hul
            have hbu := HALL.out.best _ (List.mem_map_of_mem HUV.out)
            dsimp only at hbu
            rw [hua, hul] at hbu
            obtain ⟨-, hru⟩ := BfOk.det HR0.out hbu HBF.out
            simp only [Rt.mk.injEq] at hru
            obtain ⟨rfl, -⟩ := hru
            subst hua
            subst hul
            have hkk0 : (0 : Int) ≤ (KK : Int) := by omega
            have hkk1 : (KK : Int) < (U.length : Int) := by omega
            have hkge : decide ((U.length : Int) ≤ (KK : Int)) = false := by simp; omega
            have hkgN : decide (U.length ≤ KK) = false := by simp; omega
            have hkN : KK < U.length := by omega
            subst hAu
            clear hbu hg2 hu huv
            go_upto_region 15 with fail
            refine hw_start (n := 31) (S := fun X => New w14 X) rfl (by kernel_rfl) ((New.refl w14).drew) (fun hH => ?_)
            refine' hw_take 0 (some 86) _ rfl rfl (by kernel_rfl) (by kernel_rfl) (by kernel_rfl) (fun _ _ _ h => h) (by rfl) hH ?hy137 ?rest137
            case hy137 =>
              intro X hX
              go_simp
              try rfl
            simp only [Act.put, List.setIfInBounds_toArray, List.set_cons_zero, List.set_cons_succ]
            refine' hw_take 1 (some 87) _ rfl rfl (by kernel_rfl) (by kernel_rfl) (by kernel_rfl) (fun _ _ _ h => h) (by rfl) hH ?hy138 ?rest138
            case hy138 =>
              intro X hX
              go_simp
              try rfl
            simp only [Act.put, List.setIfInBounds_toArray, List.set_cons_zero, List.set_cons_succ]
            refine' hw_take 2 (some 88) _ rfl rfl (by kernel_rfl) (by kernel_rfl) (by kernel_rfl) (fun _ _ _ h => h) (by rfl) hH ?hy139 ?rest139
            case hy139 =>
              intro X hX
              have cRX := (bR.new hX).cells
              go_simp
              try rfl
            simp only [Act.put, List.setIfInBounds_toArray, List.set_cons_zero, List.set_cons_succ]
            refine' hw_take 3 (some 89) _ rfl rfl (by kernel_rfl) (by kernel_rfl) (by kernel_rfl) (fun _ _ _ h => h) (by rfl) hH ?hy140 ?rest140
            case hy140 =>
              intro X hX
              go_simp
              try rfl
            simp only [Act.put, List.setIfInBounds_toArray, List.set_cons_zero, List.set_cons_succ]
            refine' hw_take 4 (some 90) _ rfl rfl (by kernel_rfl) (by kernel_rfl) (by kernel_rfl) (fun _ _ _ h => h) (by rfl) hH ?hy141 ?rest141
            case hy141 =>
              intro X hX
              go_simp
              try rfl
            simp only [Act.put, List.setIfInBounds_toArray, List.set_cons_zero, List.set_cons_succ]
            refine' hw_take 5 (some 91) _ rfl rfl (by kernel_rfl) (by kernel_rfl) (by kernel_rfl) (fun _ _ _ h => h) (by rfl) hH ?hy142 ?rest142
            case hy142 =>
              intro X hX
              go_simp
              try rfl
            simp only [Act.put, List.setIfInBounds_toArray, List.set_cons_zero, List.set_cons_succ]
            refine' hw_take 6 (some 92) _ rfl rfl (by kernel_rfl) (by kernel_rfl) (by kernel_rfl) (fun _ _ _ h => h) (by rfl) hH ?hy143 ?rest143
            case hy143 =>
              intro X hX
              go_simp
              try rfl
            simp only [Act.put, List.setIfInBounds_toArray, List.set_cons_zero, List.set_cons_succ]
            refine' hw_take 7 (some 93) _ rfl rfl (by kernel_rfl) (by kernel_rfl) (by kernel_rfl) (fun _ _ _ h => h) (by rfl) hH ?hy144 ?rest144
            case hy144 =>
              intro X hX
              have cRX := (bR.new hX).cells
              go_simp
              try rfl
            simp only [Act.put, List.setIfInBounds_toArray, List.set_cons_zero, List.set_cons_succ]
            refine' hw_take 8 (some 94) _ rfl rfl (by kernel_rfl) (by kernel_rfl) (by kernel_rfl) (fun _ _ _ h => h) (by rfl) hH ?hy145 ?rest145
            case hy145 =>
              intro X hX
              go_simp
              try rfl
            simp only [Act.put, List.setIfInBounds_toArray, List.set_cons_zero, List.set_cons_succ]
            refine' hw_take 9 (some 95) _ rfl rfl (by kernel_rfl) (by kernel_rfl) (by kernel_rfl) (fun _ _ _ h => h) (by rfl) hH ?hy146 ?rest146
            case hy146 =>
              intro X hX
              go_simp
              try rfl
            simp only [Act.put, List.setIfInBounds_toArray, List.set_cons_zero, List.set_cons_succ]
            refine' hw_take 10 (some 96) _ rfl rfl (by kernel_rfl) (by kernel_rfl) (by kernel_rfl) (fun _ _ _ h => h) (by rfl) hH ?hy147 ?rest147
            case hy147 =>
              intro X hX
              go_simp
              try rfl
            simp only [Act.put, List.setIfInBounds_toArray, List.set_cons_zero, List.set_cons_succ]
            refine' hw_take 11 (some 97) _ rfl rfl (by kernel_rfl) (by kernel_rfl) (by kernel_rfl) (fun _ _ _ h => h) (by rfl) hH ?hy148 ?rest148
            case hy148 =>
              intro X hX
              have u0X := (hX.below.cell (World.block_lt_of_cell? _ _ u0)).trans u0
              have u1X := (hX.below.cell (World.block_lt_of_cell? _ _ u1)).trans u1
              have u2X := (hX.below.cell (World.block_lt_of_cell? _ _ u2)).trans u2
              go_simp
              try rfl
            simp only [Act.put, List.setIfInBounds_toArray, List.set_cons_zero, List.set_cons_succ]
            refine' hw_take 12 (some 98) _ rfl rfl (by kernel_rfl) (by kernel_rfl) (by kernel_rfl) (fun _ _ _ h => h) (by rfl) hH ?hy149 ?rest149
            case hy149 =>
              intro X hX
              go_simp
              try rfl
            simp only [Act.put, List.setIfInBounds_toArray, List.set_cons_zero, List.set_cons_succ]
            refine' hw_take 13 (some 99) _ rfl rfl (by kernel_rfl) (by kernel_rfl) (by kernel_rfl) (fun _ _ _ h => h) (by rfl) hH ?hy150 ?rest150
            case hy150 =>
              intro X hX
              go_simp
              try rfl
            simp only [Act.put, List.setIfInBounds_toArray, List.set_cons_zero, List.set_cons_succ]
            refine' hw_take 14 (some 100) _ rfl rfl (by kernel_rfl) (by kernel_rfl) (by kernel_rfl) (fun _ _ _ h => h) (by rfl) hH ?hy151 ?rest151
            case hy151 =>
              intro X hX
              go_simp
              try rfl
            simp only [Act.put, List.setIfInBounds_toArray, List.set_cons_zero, List.set_cons_succ]
            refine' hw_take 15 (some 101) _ rfl rfl (by kernel_rfl) (by kernel_rfl) (by kernel_rfl) (fun _ _ _ h => h) (by rfl) hH ?hy152 ?rest152
            case hy152 =>
              intro X hX
              go_simp
              try rfl
            simp only [Act.put, List.setIfInBounds_toArray, List.set_cons_zero, List.set_cons_succ]
            refine' hw_take 16 (some 102) _ rfl rfl (by kernel_rfl) (by kernel_rfl) (by kernel_rfl) (fun _ _ _ h => h) (by rfl) hH ?hy153 ?rest153
            case hy153 =>
              intro X hX
              have q1X := (hX.below.cell (World.block_lt_of_cell? _ _ q1)).trans q1
              have q2X := (hX.below.cell (World.block_lt_of_cell? _ _ q2)).trans q2
              go_simp
              try rfl
            simp only [Act.put, List.setIfInBounds_toArray, List.set_cons_zero, List.set_cons_succ]
            refine' hw_take 17 (some 103) _ rfl rfl (by kernel_rfl) (by kernel_rfl) (by kernel_rfl) (fun _ _ _ h => h) (by rfl) hH ?hy154 ?rest154
            case hy154 =>
              intro X hX
              go_simp
              try rfl
            simp only [Act.put, List.setIfInBounds_toArray, List.set_cons_zero, List.set_cons_succ]
            refine' hw_take 18 (some 104) _ rfl rfl (by kernel_rfl) (by kernel_rfl) (by kernel_rfl) (fun _ _ _ h => h) (by rfl) hH ?hy155 ?rest155
            case hy155 =>
              intro X hX
              go_simp
              try rfl
            simp only [Act.put, List.setIfInBounds_toArray, List.set_cons_zero, List.set_cons_succ]
            refine' hw_take 19 (some 105) _ rfl rfl (by kernel_rfl) (by kernel_rfl) (by kernel_rfl) (fun _ _ _ h => h) (by rfl) hH ?hy156 ?rest156
            case hy156 =>
              intro X hX
              go_simp
              try rfl
            simp only [Act.put, List.setIfInBounds_toArray, List.set_cons_zero, List.set_cons_succ]
            refine' hw_take 20 (some 106) _ rfl rfl (by kernel_rfl) (by kernel_rfl) (by kernel_rfl) (fun _ _ _ h => h) (by rfl) hH ?hy157 ?rest157
            case hy157 =>
              intro X hX
              go_simp
              try rfl
            simp only [Act.put, List.setIfInBounds_toArray, List.set_cons_zero, List.set_cons_succ]
            refine' hw_take 21 (some 107) _ rfl rfl (by kernel_rfl) (by kernel_rfl) (by kernel_rfl) (fun _ _ _ h => h) (by rfl) hH ?hy158 ?rest158
            case hy158 =>
              intro X hX
              have cRX := (bR.new hX).cells
              go_simp
              try rfl
            simp only [Act.put, List.setIfInBounds_toArray, List.set_cons_zero, List.set_cons_succ]
            refine' hw_take 22 (some 108) _ rfl rfl (by kernel_rfl) (by kernel_rfl) (by kernel_rfl) (fun _ _ _ h => h) (by rfl) hH ?hy159 ?rest159
            case hy159 =>
              intro X hX
              go_simp
              try rfl
            simp only [Act.put, List.setIfInBounds_toArray, List.set_cons_zero, List.set_cons_succ]
            refine' hw_take 23 (some 109) _ rfl rfl (by kernel_rfl) (by kernel_rfl) (by kernel_rfl) (fun _ _ _ h => h) (by rfl) hH ?hy160 ?rest160
            case hy160 =>
              intro X hX
              go_simp
              try rfl
            simp only [Act.put, List.setIfInBounds_toArray, List.set_cons_zero, List.set_cons_succ]
            refine' hw_take 24 (some 110) _ rfl rfl (by kernel_rfl) (by kernel_rfl) (by kernel_rfl) (fun _ _ _ h => h) (by rfl) hH ?hy161 ?rest161
            case hy161 =>
              intro X hX
              go_simp
              try rfl
            simp only [Act.put, List.setIfInBounds_toArray, List.set_cons_zero, List.set_cons_succ]
            refine' hw_take 25 (some 111) _ rfl rfl (by kernel_rfl) (by kernel_rfl) (by kernel_rfl) (fun _ _ _ h => h) (by rfl) hH ?hy162 ?rest162
            case hy162 =>
              intro X hX
              have u0X := (hX.below.cell (World.block_lt_of_cell? _ _ u0)).trans u0
              have u1X := (hX.below.cell (World.block_lt_of_cell? _ _ u1)).trans u1
              have u2X := (hX.below.cell (World.block_lt_of_cell? _ _ u2)).trans u2
              go_simp
              try rfl
            simp only [Act.put, List.setIfInBounds_toArray, List.set_cons_zero, List.set_cons_succ]
            refine' hw_take 26 (some 112) _ rfl rfl (by kernel_rfl) (by kernel_rfl) (by kernel_rfl) (fun _ _ _ h => h) (by rfl) hH ?hy163 ?rest163
            case hy163 =>
              intro X hX
              go_simp
              try rfl
            simp only [Act.put, List.setIfInBounds_toArray, List.set_cons_zero, List.set_cons_succ]
            refine' hw_take 27 (some 113) _ rfl rfl (by kernel_rfl) (by kernel_rfl) (by kernel_rfl) (fun _ _ _ h => h) (by rfl) hH ?hy164 ?rest164
            case hy164 =>
              intro X hX
              go_simp
              try rfl
            simp only [Act.put, List.setIfInBounds_toArray, List.set_cons_zero, List.set_cons_succ]
            refine' hw_take 28 (some 114) _ rfl rfl (by kernel_rfl) (by kernel_rfl) (by kernel_rfl) (fun _ _ _ h => h) (by rfl) hH ?hy165 ?rest165
            case hy165 =>
              intro X hX
              have cBX := (bB.new hX).cells
              go_simp
              try rfl
            simp only [Act.put, List.setIfInBounds_toArray, List.set_cons_zero, List.set_cons_succ]
            refine' hw_take 29 (some 115) _ rfl rfl (by kernel_rfl) (by kernel_rfl) (by kernel_rfl) (fun _ _ _ h => h) (by rfl) hH ?hy166 ?rest166
            case hy166 =>
              intro X hX
              go_simp
              try rfl
            simp only [Act.put, List.setIfInBounds_toArray, List.set_cons_zero, List.set_cons_succ]
            refine' hw_take 30 (some 116) _ rfl rfl (by kernel_rfl) (by kernel_rfl) (by kernel_rfl) (fun _ _ _ h => h) (by rfl) hH ?hy167 ?rest167
            case hy167 =>
              intro X hX
              go_simp
              try rfl
            simp only [Act.put, List.setIfInBounds_toArray, List.set_cons_zero, List.set_cons_succ]
            refine wpAnyH_done (by kernel_rfl) ?_ _
            have NW := hnw.trans hH
            clear hH
            generalize w14.drew = w15 at *
            go_wp2
            go_roundw
            case rel => exact ⟨I + 1, KK + 1, by omega, by go_num, by go_num, HG2.out, NW⟩
            case measure => simp [intOf]; omega
          case pos =>
            subst hll
            have HG2 : Hid (Grp (V.map Rv.r) (U.map Rv.r) (I + 1) KK) := HG.out.same HRI.out HV'.out HZ.out rfl rfl
            go_upto_region 14 with fail
            refine hw_start (n := 16) (S := fun X => New w32 X) rfl (by kernel_rfl) ((New.refl w32).drew) (fun hH => ?_)
            refine' hw_take 0 (some 70) _ rfl rfl (by kernel_rfl) (by kernel_rfl) (by kernel_rfl) (fun _ _ _ h => h) (by rfl) hH ?hy168 ?rest168
            case hy168 =>
              intro X hX
              go_simp
              try rfl
            simp only [Act.put, List.setIfInBounds_toArray, List.set_cons_zero, List.set_cons_succ]
            refine' hw_take 1 (some 71) _ rfl rfl (by kernel_rfl) (by kernel_rfl) (by kernel_rfl) (fun _ _ _ h => h) (by rfl) hH ?hy169 ?rest169
            case hy169 =>
              intro X hX
              go_simp
              try rfl
            simp only [Act.put, List.setIfInBounds_toArray, List.set_cons_zero, List.set_cons_succ]
            refine' hw_take 2 (some 72) _ rfl rfl (by kernel_rfl) (by kernel_rfl) (by kernel_rfl) (fun _ _ _ h => h) (by rfl) hH ?hy170 ?rest170
            case hy170 =>
              intro X hX
              go_simp
              try rfl
            simp only [Act.put, List.setIfInBounds_toArray, List.set_cons_zero, List.set_cons_succ]
            refine' hw_take 3 (some 73) _ rfl rfl (by kernel_rfl) (by kernel_rfl) (by kernel_rfl) (fun _ _ _ h => h) (by rfl) hH ?hy171 ?rest171
            case hy171 =>
              intro X hX
              go_simp
              try rfl
            simp only [Act.put, List.setIfInBounds_toArray, List.set_cons_zero, List.set_cons_succ]
            refine' hw_take 4 (some 74) _ rfl rfl (by kernel_rfl) (by kernel_rfl) (by kernel_rfl) (fun _ _ _ h => h) (by rfl) hH ?hy172 ?rest172
            case hy172 =>
              intro X hX
              go_simp
              try rfl
            simp only [Act.put, List.setIfInBounds_toArray, List.set_cons_zero, List.set_cons_succ]
            refine' hw_take 5 (some 75) _ rfl rfl (by kernel_rfl) (by kernel_rfl) (by kernel_rfl) (fun _ _ _ h => h) (by rfl) hH ?hy173 ?rest173
            case hy173 =>
              intro X hX
              go_simp
              try rfl
            simp only [Act.put, List.setIfInBounds_toArray, List.set_cons_zero, List.set_cons_succ]
            refine' hw_take 6 (some 76) _ rfl rfl (by kernel_rfl) (by kernel_rfl) (by kernel_rfl) (fun _ _ _ h => h) (by rfl) hH ?hy174 ?rest174
            case hy174 =>
              intro X hX
              go_simp
              try rfl
            simp only [Act.put, List.setIfInBounds_toArray, List.set_cons_zero, List.set_cons_succ]
            refine' hw_take 7 (some 77) _ rfl rfl (by kernel_rfl) (by kernel_rfl) (by kernel_rfl) (fun _ _ _ h => h) (by rfl) hH ?hy175 ?rest175
            case hy175 =>
              intro X hX
              have q1X := (hX.below.cell (World.block_lt_of_cell? _ _ q1)).trans q1
              have q2X := (hX.below.cell (World.block_lt_of_cell? _ _ q2)).trans q2
              go_simp
              try rfl
            simp only [Act.put, List.setIfInBounds_toArray, List.set_cons_zero, List.set_cons_succ]
            refine' hw_take 8 (some 78) _ rfl rfl (by kernel_rfl) (by kernel_rfl) (by kernel_rfl) (fun _ _ _ h => h) (by rfl) hH ?hy176 ?rest176
            case hy176 =>
              intro X hX
              go_simp
              try rfl
            simp only [Act.put, List.setIfInBounds_toArray, List.set_cons_zero, List.set_cons_succ]
            refine' hw_take 9 (some 79) _ rfl rfl (by kernel_rfl) (by kernel_rfl) (by kernel_rfl) (fun _ _ _ h => h) (by rfl) hH ?hy177 ?rest177
            case hy177 =>
              intro X hX
              go_simp
              try rfl
            simp only [Act.put, List.setIfInBounds_toArray, List.set_cons_zero, List.set_cons_succ]
            refine' hw_take 10 (some 80) _ rfl rfl (by kernel_rfl) (by kernel_rfl) (by kernel_rfl) (fun _ _ _ h => h) (by rfl) hH ?hy178 ?rest178
            case hy178 =>
              intro X hX
              go_simp
              try rfl
            simp only [Act.put, List.setIfInBounds_toArray, List.set_cons_zero, List.set_cons_succ]
            refine' hw_take 11 (some 81) _ rfl rfl (by kernel_rfl) (by kernel_rfl) (by kernel_rfl) (fun _ _ _ h => h) (by rfl) hH ?hy179 ?rest179
            case hy179 =>
              intro X hX
              go_simp
              try rfl
            simp only [Act.put, List.setIfInBounds_toArray, List.set_cons_zero, List.set_cons_succ]
            refine' hw_take 12 (some 82) _ rfl rfl (by kernel_rfl) (by kernel_rfl) (by kernel_rfl) (fun _ _ _ h => h) (by rfl) hH ?hy180 ?rest180
            case hy180 =>
              intro X hX
              go_simp
              try rfl
            simp only [Act.put, List.setIfInBounds_toArray, List.set_cons_zero, List.set_cons_succ]
            refine' hw_take 13 (some 83) _ rfl rfl (by kernel_rfl) (by kernel_rfl) (by kernel_rfl) (fun _ _ _ h => h) (by rfl) hH ?hy181 ?rest181
            case hy181 =>
              intro X hX
              have y1X := (hX.below.cell (World.block_lt_of_cell? _ _ y1)).trans y1
              have y2X := (hX.below.cell (World.block_lt_of_cell? _ _ y2)).trans y2
              go_simp
              try rfl
            simp only [Act.put, List.setIfInBounds_toArray, List.set_cons_zero, List.set_cons_succ]
            refine' hw_take 14 (some 84) _ rfl rfl (by kernel_rfl) (by kernel_rfl) (by kernel_rfl) (fun _ _ _ h => h) (by rfl) hH ?hy182 ?rest182
            case hy182 =>
              intro X hX
              go_simp
              try rfl
            simp only [Act.put, List.setIfInBounds_toArray, List.set_cons_zero, List.set_cons_succ]
            refine' hw_take 15 (some 85) _ rfl rfl (by kernel_rfl) (by kernel_rfl) (by kernel_rfl) (fun _ _ _ h => h) (by rfl) hH ?hy183 ?rest183
            case hy183 =>
              intro X hX
              go_simp
              try rfl
            simp only [Act.put, List.setIfInBounds_toArray, List.set_cons_zero, List.set_cons_succ]
            refine wpAnyH_done (by kernel_rfl) ?_ _
            have NW := hnw.trans hH
            clear hH
            generalize w32.drew = w14 at *
            go_wp2
            go_roundw
            case rel => exact ⟨I + 1, KK, by omega, rfl, by go_num, HG2.out, NW⟩
            case measure => simp [intOf]; omega

set_option maxRecDepth 100000 in
theorem fnbe_lifted (os : Os) (started : os.Started) (H : Type) (enc : TypeId × Value → H) :
    ReturnsInHanded {} Try.checked os 3 .any (Rows.fnBestsSpec.pre6 enc Try.prog Try.f3 Rows.fnBestsRow.domain false) (Rows.fnBestsSpec.post enc Try.prog Try.f3 false true false false) := by
  refine returnsInHanded_of_change (C := Try.checked) own started (by kernel_rfl) Try.func3
    (ChangeSpec.witness6 (enc := enc) (C := Try.checked) false ⟨#[], #[.slice none 0 0], []⟩ 8 (by kernel_rfl) (by kernel_rfl) (by kernel_rfl) (by kernel_rfl)) ?_
  intro W base args ds gs before hval0 hW hcnd _
  have hval : ∀ (j : Nat) t v, Try.f3.params[j]? = some t → args[j]? = some v → Value.okWide Try.prog W .any base t v := hval0
  have hW' := hW
  obtain ⟨p, q, hA0, hV, rfl, hfz, hnd⟩ := hW
  have hA : DataW.TrodAll enc Try.prog W 0 (fun _ => true) true Try.f3.params.toList args.toList ds p := hA0
  rw [Try.params3] at hA hval
  obtain ⟨v0, vs0, d0, ds0, p0, q0, hargs, rfl, rfl, h0, r0⟩ := trodAll_cons hA
  obtain ⟨rfl, rfl, rfl⟩ := trodAll_nil r0
  obtain rfl : args = #[v0] := by cases args; simp_all
  obtain ⟨rfl, rfl⟩ := trodVars_none hV
  have k0 := h0
  have lt0 : ∀ x ∈ p0, x.block < W.heap.size := by obtain ⟨m, hm⟩ := k0; exact DataW.trod_lt m _ _ _ hm
  obtain ⟨a0, len0, cap0, rfl⟩ := okWide_slice Try.underlying22 (hval 0 22 v0 rfl rfl)
  have nil0 := open_nil h0
  obtain ⟨z0, b0, e0, m0⟩ := open_bytes h0
  clear hA0 hval0
  refine (fnbe_walk a0 len0 cap0 z0 W b0 e0 m0.2 (fun x h1 h2 => by obtain ⟨bb, oo, hh, hl⟩ := b0.block_lt h1; rw [h2] at hh; obtain rfl := Option.some.inj hh; exact hl)).mono fun e W' ⟨he, new⟩ => ?_
  have bel := new.below
  subst he
  exact ⟨_, rfl, _, _, _, [], _, [], hW', trodAll_mk1 (shut_bool Try.underlying4 _), (trodAll_cons_mk (Below.trod laidOut (by kernel_rfl) (of_decide_eq_true (by kernel_rfl)) k0 bel lt0) trodAll_mk0), rfl, bel.frame _, fun h => by cases h⟩

theorem fnbe_holds : Rows.FnBestsSaid :=
  OpenClaim.holds_of_wide 3 Try.f3 rfl rfl rfl rfl rfl rfl rfl ⟨rfl, rfl, rfl, rfl, rfl⟩ rfl rfl rfl rfl rfl (by kernel_rfl) Try.func3 (by kernel_rfl)
    (of_decide_eq_true (by kernel_rfl)) (by unfold Func.isWrapper; first | (rw [if_pos (by decide +kernel)]; kernel_rfl) | (rw [if_neg (by decide +kernel)]; exact ⟨rfl, rfl⟩))
    (fun os started H enc _ => fnbe_lifted os started H enc)


end Go.Proofs.Ytjampcfikfafkaa
