/- What is proved here: for every bytes the law on leases returns true, and the bytes read as they did. No condition. -/
import Derived.Test.YtpbmbnckdmjdhaaF13Mx
import Derived.Test.YtpbmbnckdmjdhaaOpen
import Derived.Deep.CutRange
namespace Go.Proofs.Ytpbmbnckdmjdhaa
open Go.ChangeShapes Go.WideShapes Go.ChangeAt Go.RowKit Go.Sort
set_option linter.unusedVariables false
set_option linter.unusedSimpArgs false
set_option maxRecDepth 100000

set_option maxHeartbeats 12800000 in
theorem fnle_walk (a : Option Addr) (n c : Nat) (zs : List Int) (w : World) (h : BsAt w a zs) (hn : zs.length = n) (hm : n ≤ maxLen) (ha : ∀ x, zs ≠ [] → a = some x → x.block < w.heap.size) :
    Calls Try.prog 3 #[.slice a n c] w fun e w' => e = .returned (.bool true) ∧ New w w' := by
  by_cases hbig : 1048576 < n
  case pos =>
    go_enter Try.func3, Try.ntmps3
    go_wp2_with fail
    refine (lbig_yes a n c _ hbig).mono ?_
    rintro e w1 ⟨rfl, rfl⟩
    go_wp2
    go_ret
    exact ⟨rfl, New.refl _⟩
  have hmb : n ≤ 2097152 := by omega
  have HN : Hid (zs.length = n) := hn
  have N0 : New w (((w.alloc (.cells #[.int .i64 0, .int .i64 0] 2)).alloc (.cells #[.int .i64 0, .slice (some ⟨w.heap.size, 0, none⟩) 2 2] 26)).alloc (.cells #[.int .i64 0, .int .i64 1, .int .i64 0, .int .i64 0] 28)) := (((New.refl w).alloc _).alloc _).alloc _
  have o0 : OwN (((w.alloc (.cells #[.int .i64 0, .int .i64 0] 2)).alloc (.cells #[.int .i64 0, .slice (some ⟨w.heap.size, 0, none⟩) 2 2] 26)).alloc (.cells #[.int .i64 0, .int .i64 1, .int .i64 0, .int .i64 0] 28)) w.heap.size 2 2 [0, 0] := own_of_blk (((Blk.mk _ _ _ _ rfl).alloc _).alloc _)
  have bC0 : Blk (((w.alloc (.cells #[.int .i64 0, .int .i64 0] 2)).alloc (.cells #[.int .i64 0, .slice (some ⟨w.heap.size, 0, none⟩) 2 2] 26)).alloc (.cells #[.int .i64 0, .int .i64 1, .int .i64 0, .int .i64 0] 28)) (w.heap.size + 1) 26 #[.int .i64 0, .slice (some ⟨w.heap.size, 0, none⟩) 2 2] := (Blk.mk _ _ _ _ (by simp)).alloc _
  have bL0 : Blk (((w.alloc (.cells #[.int .i64 0, .int .i64 0] 2)).alloc (.cells #[.int .i64 0, .slice (some ⟨w.heap.size, 0, none⟩) 2 2] 26)).alloc (.cells #[.int .i64 0, .int .i64 1, .int .i64 0, .int .i64 0] 28)) (w.heap.size + 1 + 1) 28 #[.int .i64 0, .int .i64 1, .int .i64 0, .int .i64 0] := Blk.mk _ _ _ _ (by simp)
  clear hm hn
  go_enter Try.func3, Try.ntmps3
  go_wp2_with fail
  refine (lbig_no a n c _ hbig).mono ?_
  rintro e wz ⟨rfl, hwz⟩
  obtain rfl := hwz.symm
  go_wp2
  generalize ((w.alloc (.cells #[.int .i64 0, .int .i64 0] 2)).alloc (.cells #[.int .i64 0, .slice (some ⟨w.heap.size, 0, none⟩) 2 2] 26)).alloc (.cells #[.int .i64 0, .int .i64 1, .int .i64 0, .int .i64 0] 28) = w0 at *
  go_loopw [5] (fun i wr => ∃ (k : Nat) (nw x y ho ep ak he : Int) (g cc : Nat), k ≤ 40 ∧ i = .int .i64 k ∧ Hid (ckF nw [x, y] = 0) ∧ nw ≤ 5 * (k : Int) ∧ Hid (LeP ho ep ak he) ∧ ep ≤ (k : Int) + 1 ∧ ak ≤ he + 4 ∧ Blk wr (w.heap.size + 1) 26 #[.int .i64 nw, .slice (some ⟨g, 0, none⟩) 2 cc] ∧ OwN wr g 2 cc [x, y] ∧ Blk wr (w.heap.size + 1 + 1) 28 #[.int .i64 ho, .int .i64 ep, .int .i64 ak, .int .i64 he] ∧ New w wr) (fun i _ => 40 - (intOf i).toNat)
  case atStart => exact ⟨0, 0, 0, 0, 0, 1, 0, 0, w.heap.size, 2, by omega, rfl, ckF_ok ⟨by omega, by omega⟩ ⟨by omega, by omega, by omega⟩ ⟨by omega, by omega, by omega⟩, by omega, ⟨⟨by omega, by omega⟩, ⟨by omega, by omega⟩, ⟨by omega, by omega⟩, ⟨by omega, by omega⟩⟩, by omega, by omega, bC0, o0, bL0, N0⟩
  case round =>
    obtain ⟨k, nw, x, y, ho, ep, ak, he, g, cc, hk, rfl, HF, hnw, HP, hep, hak, bC, o, bL4, N⟩ := hrel
    clear N0 o0 bC0 bL0
    by_cases hlt : k < 40
    case neg =>
      have hlk : ¬ (k : Int) < 40 := by omega
      clear HF HP hak hep hnw bC o bL4
      go_wp2_with fail
      refine (drawMT a n c zs _ (h.new N) HN.out hmb (fun x hz hx => Nat.lt_of_lt_of_le (ha x hz hx) N.size)).mono ?_
      rintro e w1 ⟨ho1, ep1, ak1, he1, s1, rfl, hn1⟩
      have al := (New.refl w1).alloc (.cells #[.int .i64 ho1, .int .i64 ep1, .int .i64 ak1, .int .i64 he1] 28)
      have b2 := Blk.mk w1 w1.heap.size 28 #[.int .i64 ho1, .int .i64 ep1, .int .i64 ak1, .int .i64 he1] rfl
      have N2 := (N.trans hn1).trans al
      go_upto_region 30 with fail
      generalize w1.alloc (.cells #[.int .i64 ho1, .int .i64 ep1, .int .i64 ak1, .int .i64 he1] 28) = w2 at *
      have rB := blk_regrown b2
      cases hb1 : mtB ho1 ep1 ak1 he1 s1 <;> cases hb2 : mlB ho1 ep1 ak1 he1 s1
      all_goals
        refine wp_region_quiet_below (by kernel_rfl) (by kernel_rfl) ?_
        repeat (go_big_quiet_step (first | (go_at_call 17; exact calls_regrown (implMT_is ho1 ep1 ak1 he1 s1 _ _ hb1)) | (go_at_call 22; exact calls_regrown (specMT_is ho1 ep1 ak1 he1 s1 _ _ hb1)) | (go_at_call 16; exact calls_regrown (implML_is ho1 ep1 ak1 he1 s1 _ _ hb2)) | (go_at_call 23; exact calls_regrown (specML_is ho1 ep1 ak1 he1 s1 _ _ hb2))))
        refine wpQuiet_nil ?_
        rintro w3 hw3
        replace hw3 := new_of_regrown hw3
        go_wp2
        go_ret
        exact ⟨rfl, N2.trans hw3⟩
    have hin : Hid (∀ z ∈ [x, y], In6 z) := by
      obtain ⟨⟨h1, h2⟩, x', y', e, ⟨a0, a1, a2⟩, ⟨b0, b1, b2⟩⟩ := ckF_zero HF.out
      cases e
      intro z hz
      simp only [List.mem_cons, List.not_mem_nil, or_false] at hz
      unfold In6
      omega
    have hlk : (k : Int) < 40 := by omega
    have qa : IntKind.i64.wrap ((k : Int) + 40) = (k : Int) + 40 := w13 (by omega) (by omega)
    have qb : IntKind.i64.wrap ((k : Int) + 80) = (k : Int) + 80 := w13 (by omega) (by omega)
    go_upto_region 8 with fail
    go_cut [6] from 22 to 37 (fun v wx => ∃ (BT g6 k6 : Nat) (r p q : Int), v = .pointer (some ⟨BT, 0, none⟩) ∧ Blk wx BT 30 #[.int .i64 0, .int .i64 (nw + r), .slice (some ⟨g6, 0, none⟩) 2 k6] ∧ (0 ≤ r ∧ r ≤ 5) ∧ OfP p ∧ OfP q ∧ OwN wx g6 2 k6 [max x (nw + r + p), max y (nw + r + q)] ∧ New wr wx ∧ wr.heap.size ≤ BT)
    case first =>
      refine hw_start (n := 18) (S := fun X => New wr X) rfl (by kernel_rfl) ((New.refl _).drew) (fun hH => ?_)
      refine' hw_take 0 (some 22) (.agg #[.int .i64 nw, .slice (some ⟨g, 0, none⟩) 2 cc]) rfl rfl (by kernel_rfl) (by kernel_rfl) (by kernel_rfl) (fun _ _ _ h => h) (by rfl) hH ?hzA ?rzA
      case hzA =>
        intro X hX
        exact run_load_blk 26 (.tmp 3) rfl (w.heap.size + 1) rfl #[.int .i64 nw, .slice (some ⟨g, 0, none⟩) 2 cc] _ (bC.new hX) Try.underlying26 rfl (by kernel_rfl)
      simp only [Act.put, List.setIfInBounds_toArray, List.set_cons_zero, List.set_cons_succ]
      refine' hw_take 1 (some 23) _ rfl rfl (by kernel_rfl) (by kernel_rfl) (by kernel_rfl) (fun _ _ _ h => h) (by rfl) hH ?hy77 ?rest77
      case hy77 =>
        intro X hX
        go_simp
        try rfl
      simp only [Act.put, List.setIfInBounds_toArray, List.set_cons_zero, List.set_cons_succ]
      refine' hw_take 2 (some 24) _ rfl rfl (by kernel_rfl) (by kernel_rfl) (by kernel_rfl) (fun _ _ _ h => h) (by rfl) hH ?hy78 ?rest78
      case hy78 =>
        intro X hX
        go_simp
        try rfl
      simp only [Act.put, List.setIfInBounds_toArray, List.set_cons_zero, List.set_cons_succ]
      refine' hw_take 4 (some 26) _ rfl rfl (by kernel_rfl) (by kernel_rfl) (by kernel_rfl) (fun _ _ _ h => h) (by rfl) hH ?hy79 ?rest79
      case hy79 =>
        intro X hX
        go_simp
        try rfl
      simp only [Act.put, List.setIfInBounds_toArray, List.set_cons_zero, List.set_cons_succ]
      refine' hw_take 5 (some 27) _ rfl rfl (by kernel_rfl) (by kernel_rfl) (by kernel_rfl) (fun _ _ _ h => h) (by rfl) hH ?hy80 ?rest80
      case hy80 =>
        intro X hX
        go_simp
        try rfl
      simp only [Act.put, List.setIfInBounds_toArray, List.set_cons_zero, List.set_cons_succ]
      refine' hw_take 6 (some 28) _ rfl rfl (by kernel_rfl) (by kernel_rfl) (by kernel_rfl) (fun _ _ _ h => h) (by rfl) hH ?hy81 ?rest81
      case hy81 =>
        intro X hX
        go_simp
        try rfl
      simp only [Act.put, List.setIfInBounds_toArray, List.set_cons_zero, List.set_cons_succ]
      refine' hw_take 9 (some 31) _ rfl rfl (by kernel_rfl) (by kernel_rfl) (by kernel_rfl) (fun _ _ _ h => h) (by rfl) hH ?hy82 ?rest82
      case hy82 =>
        intro X hX
        go_simp
        try rfl
      simp only [Act.put, List.setIfInBounds_toArray, List.set_cons_zero, List.set_cons_succ]
      refine' hw_take 10 (some 32) _ rfl rfl (by kernel_rfl) (by kernel_rfl) (by kernel_rfl) (fun _ _ _ h => h) (by rfl) hH ?hy83 ?rest83
      case hy83 =>
        intro X hX
        go_simp
        try rfl
      simp only [Act.put, List.setIfInBounds_toArray, List.set_cons_zero, List.set_cons_succ]
      refine' hw_take 11 (some 33) _ rfl rfl (by kernel_rfl) (by kernel_rfl) (by kernel_rfl) (fun _ _ _ h => h) (by rfl) hH ?hy84 ?rest84
      case hy84 =>
        intro X hX
        go_simp
        try rfl
      simp only [Act.put, List.setIfInBounds_toArray, List.set_cons_zero, List.set_cons_succ]
      refine wpAnyH_ready (rs := [3, 16]) (by kernel_rfl) (by simp) ?_
      refine hw_step 3 (some 25) rfl rfl (by rfl) (fun K hK => ?_) ?_
      · skip
        go_simp
        refine (lwAt_z a n c (k : Int) 6 zs _ (h.new (N.trans hH)) HN.out hmb (by omega) (by omega) (by omega) (by omega)).mono ?_
        rintro e w3 ⟨r3, rfl, lo3, hi3, hn3⟩
        have n3 := hH.trans hn3
        go_simp
        refine hK.out _ _ n3 (fun _ => ?_)
        simp only [Act.put, List.setIfInBounds_toArray, List.set_cons_zero, List.set_cons_succ]
        refine wpAnyH_ready (rs := [7, 16]) (by kernel_rfl) (by simp) ?_
        refine hw_step 7 (some 29) rfl rfl (by rfl) (fun K hK => ?_) ?_
        · skip
          go_simp
          refine (lwAt_z a n c ((k : Int) + 40) 5 zs _ (h.new (N.trans n3)) HN.out hmb (by omega) (by omega) (by omega) (by omega)).mono ?_
          rintro e w7 ⟨r7, rfl, lo7, hi7, hn7⟩
          have n7 := n3.trans hn7
          go_simp
          refine hK.out _ _ n7 (fun _ => ?_)
          simp only [Act.put, List.setIfInBounds_toArray, List.set_cons_zero, List.set_cons_succ]
          have q7 : IntKind.i64.wrap (r7 - 2) = r7 - 2 := w13 (by omega) (by omega)
          refine' hw_take 8 (some 30) _ rfl rfl (by kernel_rfl) (by kernel_rfl) (by kernel_rfl) (fun _ _ _ h => h) (by rfl) n7 ?hy85 ?rest85
          case hy85 =>
            intro X hX
            go_simp
            try rfl
          simp only [Act.put, List.setIfInBounds_toArray, List.set_cons_zero, List.set_cons_succ]
          refine wpAnyH_ready (rs := [12, 16]) (by kernel_rfl) (by simp) ?_
          refine hw_step 12 (some 34) rfl rfl (by rfl) (fun K hK => ?_) ?_
          · skip
            go_simp
            refine (lwAt_z a n c ((k : Int) + 80) 5 zs _ (h.new (N.trans n7)) HN.out hmb (by omega) (by omega) (by omega) (by omega)).mono ?_
            rintro e w12 ⟨r12, rfl, lo12, hi12, hn12⟩
            have n12 := n7.trans hn12
            go_simp
            refine hK.out _ _ n12 (fun _ => ?_)
            simp only [Act.put, List.setIfInBounds_toArray, List.set_cons_zero, List.set_cons_succ]
            have q12 : IntKind.i64.wrap (r12 - 2) = r12 - 2 := w13 (by omega) (by omega)
            refine' hw_take 13 (some 35) _ rfl rfl (by kernel_rfl) (by kernel_rfl) (by kernel_rfl) (fun _ _ _ h => h) (by rfl) n12 ?hy86 ?rest86
            case hy86 =>
              intro X hX
              go_simp
              try rfl
            simp only [Act.put, List.setIfInBounds_toArray, List.set_cons_zero, List.set_cons_succ]
            refine wpAnyH_ready (rs := [14, 16]) (by kernel_rfl) (by simp) ?_
            refine hw_step 14 (some 36) rfl rfl (by rfl) (fun K hK => ?_) ?_
            · skip
              go_simp
              have hn14 := (New.refl w12).alloc (.cells #[.int .i64 (r7 - 2), .int .i64 (r12 - 2)] 2)
              have bL := Blk.mk w12 w12.heap.size 2 #[.int .i64 (r7 - 2), .int .i64 (r12 - 2)] rfl
              have n14 := n12.trans hn14
              refine hK.out _ _ n14 (fun _ => ?_)
              simp only [Act.put, List.setIfInBounds_toArray, List.set_cons_zero, List.set_cons_succ]
              obtain ⟨LB, hLB⟩ : ∃ LB, LB = w12.heap.size := ⟨_, rfl⟩
              rw [← hLB] at bL ⊢
              clear hLB
              generalize (w12.alloc (.cells #[.int .i64 (r7 - 2), .int .i64 (r12 - 2)] 2)) = w14 at *
              refine wpAnyH_ready (rs := [15, 16]) (by kernel_rfl) (by simp) ?_
              refine hw_step 15 (some 37) rfl rfl (by rfl) (fun K hK => ?_) ?_
              · skip
                go_simp
                have hI := implTi nw r3 (some ⟨g, 0, none⟩) (some ⟨LB, 0, none⟩) 2 cc 2 2 [x, y] [r7 - 2, r12 - 2] w14 ((o.new n14).ns hin.out) rfl (by omega) ((own_of_blk bL).ns (by intro z hz; simp only [List.mem_cons, List.not_mem_nil, or_false] at hz; unfold In6; omega)) rfl (by omega)
                rw [tick_ok HF.out (by omega) ⟨lo3, by omega⟩ ⟨by omega, by omega⟩ ⟨by omega, by omega⟩] at hI
                refine hI.mono ?_
                rintro e w15 ⟨v6, rfl, oV, hn15⟩
                rcases oV with ⟨-, eV⟩ | ⟨g6, k6, eV, hg6, oV⟩
                · cases eV
                subst eV
                clear hI
                have n15 := n14.trans hn15
                go_simp
                refine hK.out _ _ n15 (fun _ => ?_)
                simp only [Act.put, List.setIfInBounds_toArray, List.set_cons_zero, List.set_cons_succ]
                refine hw_call 16 (some 6) rfl rfl (by kernel_rfl) (by rfl) (fun K hK => ?_)
                go_simp
                have alZ : New w15 ((w15.alloc (.cells #[.int .i64 0, .int .i64 0, .slice none 0 0] 30))) := ((New.refl w15).alloc (.cells #[.int .i64 0, .int .i64 0, .slice none 0 0] 30))
                have bZ : Blk ((w15.alloc (.cells #[.int .i64 0, .int .i64 0, .slice none 0 0] 30))) w15.heap.size 30 #[.int .i64 0, .int .i64 0, .slice none 0 0] := (Blk.mk w15 w15.heap.size 30 #[.int .i64 0, .int .i64 0, .slice none 0 0] rfl)
                have nZ : New wr ((w15.alloc (.cells #[.int .i64 0, .int .i64 0, .slice none 0 0] 30))) := n15.trans alZ
                replace oV := oV.new alZ
                refine hK.out _ _ nZ (fun _ => ?_)
                simp only [Act.put, List.setIfInBounds_toArray, List.set_cons_zero, List.set_cons_succ]
                obtain ⟨BZ, hBZ⟩ : ∃ BZ, BZ = w15.heap.size := ⟨_, rfl⟩
                rw [← hBZ] at bZ ⊢
                have hBw : wr.heap.size ≤ BZ := by have := n15.size; omega
                clear hBZ
                generalize (w15.alloc (.cells #[.int .i64 0, .int .i64 0, .slice none 0 0] 30)) = wZ at *
                refine hw_call 17 none rfl rfl (by kernel_rfl) (by rfl) (fun K hK => ?_)
                refine hw_store 30 (.tmp 6) (.tmp 37) rfl rfl BZ #[.int .i64 0, .int .i64 (nw + r3), .slice (some ⟨g6, 0, none⟩) 2 k6] #[.int .i64 0, .int .i64 0, .slice none 0 0] rfl rfl bZ (by kernel_rfl) rfl (by kernel_rfl) ?_
                have bR := bZ.rowW #[.int .i64 0, .int .i64 (nw + r3), .slice (some ⟨g6, 0, none⟩) 2 k6]
                have tR := Turn.rowW (Turn.refl (fun i => i = BZ) wZ) rfl #[.int .i64 0, .int .i64 (nw + r3), .slice (some ⟨g6, 0, none⟩) 2 k6]
                have gB : ¬ g6 = BZ := fun e => Blk.ne_own bZ oV (by decide) e.symm
                have oR := oV.turn tR gB
                have nR := nZ.before tR (by intro i hi e; omega)
                refine hK.out undef _ nR (fun _ => ?_)
                refine wpAnyH_done (by kernel_rfl) ?_ _
                generalize World.setRow _ _ _ = wR at *
                go_wp2_with fail
                go_meet
                exact ⟨BZ, g6, k6, r3, r7 - 2, r12 - 2, rfl, bR, ⟨lo3, by omega⟩, ⟨by omega, by omega⟩, ⟨by omega, by omega⟩, oR, nR, hBw⟩
              refine hw_step 16 (some 6) rfl rfl (by rfl) (fun K hK => ?_) ?_
              · skip
                go_simp
                have alZ : New w14 ((w14.alloc (.cells #[.int .i64 0, .int .i64 0, .slice none 0 0] 30))) := ((New.refl w14).alloc (.cells #[.int .i64 0, .int .i64 0, .slice none 0 0] 30))
                have bZ : Blk ((w14.alloc (.cells #[.int .i64 0, .int .i64 0, .slice none 0 0] 30))) w14.heap.size 30 #[.int .i64 0, .int .i64 0, .slice none 0 0] := (Blk.mk w14 w14.heap.size 30 #[.int .i64 0, .int .i64 0, .slice none 0 0] rfl)
                have nZ : New wr ((w14.alloc (.cells #[.int .i64 0, .int .i64 0, .slice none 0 0] 30))) := n14.trans alZ
                replace bL := bL.new alZ
                refine hK.out _ _ nZ (fun _ => ?_)
                simp only [Act.put, List.setIfInBounds_toArray, List.set_cons_zero, List.set_cons_succ]
                obtain ⟨BZ, hBZ⟩ : ∃ BZ, BZ = w14.heap.size := ⟨_, rfl⟩
                rw [← hBZ] at bZ ⊢
                have hBw : wr.heap.size ≤ BZ := by have := n14.size; omega
                clear hBZ
                generalize (w14.alloc (.cells #[.int .i64 0, .int .i64 0, .slice none 0 0] 30)) = wZ at *
                refine hw_call 15 (some 37) rfl rfl (by kernel_rfl) (by rfl) (fun K hK => ?_)
                go_simp
                have hI := implTi nw r3 (some ⟨g, 0, none⟩) (some ⟨LB, 0, none⟩) 2 cc 2 2 [x, y] [r7 - 2, r12 - 2] wZ ((o.new nZ).ns hin.out) rfl (by omega) ((own_of_blk bL).ns (by intro z hz; simp only [List.mem_cons, List.not_mem_nil, or_false] at hz; unfold In6; omega)) rfl (by omega)
                rw [tick_ok HF.out (by omega) ⟨lo3, by omega⟩ ⟨by omega, by omega⟩ ⟨by omega, by omega⟩] at hI
                refine hI.mono ?_
                rintro e w15 ⟨v6, rfl, oV, hn15⟩
                rcases oV with ⟨-, eV⟩ | ⟨g6, k6, eV, hg6, oV⟩
                · cases eV
                subst eV
                clear hI
                have n15 := nZ.trans hn15
                replace bZ := bZ.new hn15
                go_simp
                refine hK.out _ _ n15 (fun _ => ?_)
                simp only [Act.put, List.setIfInBounds_toArray, List.set_cons_zero, List.set_cons_succ]
                refine hw_call 17 none rfl rfl (by kernel_rfl) (by rfl) (fun K hK => ?_)
                refine hw_store 30 (.tmp 6) (.tmp 37) rfl rfl BZ #[.int .i64 0, .int .i64 (nw + r3), .slice (some ⟨g6, 0, none⟩) 2 k6] #[.int .i64 0, .int .i64 0, .slice none 0 0] rfl rfl bZ (by kernel_rfl) rfl (by kernel_rfl) ?_
                have bR := bZ.rowW #[.int .i64 0, .int .i64 (nw + r3), .slice (some ⟨g6, 0, none⟩) 2 k6]
                have tR := Turn.rowW (Turn.refl (fun i => i = BZ) w15) rfl #[.int .i64 0, .int .i64 (nw + r3), .slice (some ⟨g6, 0, none⟩) 2 k6]
                have gB : ¬ g6 = BZ := fun e => Blk.ne_own bZ oV (by decide) e.symm
                have oR := oV.turn tR gB
                have nR := n15.before tR (by intro i hi e; omega)
                refine hK.out undef _ nR (fun _ => ?_)
                refine wpAnyH_done (by kernel_rfl) ?_ _
                generalize World.setRow _ _ _ = wR at *
                go_wp2_with fail
                go_meet
                exact ⟨BZ, g6, k6, r3, r7 - 2, r12 - 2, rfl, bR, ⟨lo3, by omega⟩, ⟨by omega, by omega⟩, ⟨by omega, by omega⟩, oR, nR, hBw⟩
              exact fun j hj => by cases hj
            refine hw_step 16 (some 6) rfl rfl (by rfl) (fun K hK => ?_) ?_
            · skip
              go_simp
              have alZ : New w12 ((w12.alloc (.cells #[.int .i64 0, .int .i64 0, .slice none 0 0] 30))) := ((New.refl w12).alloc (.cells #[.int .i64 0, .int .i64 0, .slice none 0 0] 30))
              have bZ : Blk ((w12.alloc (.cells #[.int .i64 0, .int .i64 0, .slice none 0 0] 30))) w12.heap.size 30 #[.int .i64 0, .int .i64 0, .slice none 0 0] := (Blk.mk w12 w12.heap.size 30 #[.int .i64 0, .int .i64 0, .slice none 0 0] rfl)
              have nZ : New wr ((w12.alloc (.cells #[.int .i64 0, .int .i64 0, .slice none 0 0] 30))) := n12.trans alZ
              refine hK.out _ _ nZ (fun _ => ?_)
              simp only [Act.put, List.setIfInBounds_toArray, List.set_cons_zero, List.set_cons_succ]
              obtain ⟨BZ, hBZ⟩ : ∃ BZ, BZ = w12.heap.size := ⟨_, rfl⟩
              rw [← hBZ] at bZ ⊢
              have hBw : wr.heap.size ≤ BZ := by have := n12.size; omega
              clear hBZ
              generalize (w12.alloc (.cells #[.int .i64 0, .int .i64 0, .slice none 0 0] 30)) = wZ at *
              refine hw_call 14 (some 36) rfl rfl (by kernel_rfl) (by rfl) (fun K hK => ?_)
              go_simp
              have hn14 := (New.refl wZ).alloc (.cells #[.int .i64 (r7 - 2), .int .i64 (r12 - 2)] 2)
              have bL := Blk.mk wZ wZ.heap.size 2 #[.int .i64 (r7 - 2), .int .i64 (r12 - 2)] rfl
              have n14 := nZ.trans hn14
              replace bZ := bZ.new hn14
              refine hK.out _ _ n14 (fun _ => ?_)
              simp only [Act.put, List.setIfInBounds_toArray, List.set_cons_zero, List.set_cons_succ]
              obtain ⟨LB, hLB⟩ : ∃ LB, LB = wZ.heap.size := ⟨_, rfl⟩
              rw [← hLB] at bL ⊢
              clear hLB
              generalize (wZ.alloc (.cells #[.int .i64 (r7 - 2), .int .i64 (r12 - 2)] 2)) = w14 at *
              refine hw_call 15 (some 37) rfl rfl (by kernel_rfl) (by rfl) (fun K hK => ?_)
              go_simp
              have hI := implTi nw r3 (some ⟨g, 0, none⟩) (some ⟨LB, 0, none⟩) 2 cc 2 2 [x, y] [r7 - 2, r12 - 2] w14 ((o.new n14).ns hin.out) rfl (by omega) ((own_of_blk bL).ns (by intro z hz; simp only [List.mem_cons, List.not_mem_nil, or_false] at hz; unfold In6; omega)) rfl (by omega)
              rw [tick_ok HF.out (by omega) ⟨lo3, by omega⟩ ⟨by omega, by omega⟩ ⟨by omega, by omega⟩] at hI
              refine hI.mono ?_
              rintro e w15 ⟨v6, rfl, oV, hn15⟩
              rcases oV with ⟨-, eV⟩ | ⟨g6, k6, eV, hg6, oV⟩
              · cases eV
              subst eV
              clear hI
              have n15 := n14.trans hn15
              replace bZ := bZ.new hn15
              go_simp
              refine hK.out _ _ n15 (fun _ => ?_)
              simp only [Act.put, List.setIfInBounds_toArray, List.set_cons_zero, List.set_cons_succ]
              refine hw_call 17 none rfl rfl (by kernel_rfl) (by rfl) (fun K hK => ?_)
              refine hw_store 30 (.tmp 6) (.tmp 37) rfl rfl BZ #[.int .i64 0, .int .i64 (nw + r3), .slice (some ⟨g6, 0, none⟩) 2 k6] #[.int .i64 0, .int .i64 0, .slice none 0 0] rfl rfl bZ (by kernel_rfl) rfl (by kernel_rfl) ?_
              have bR := bZ.rowW #[.int .i64 0, .int .i64 (nw + r3), .slice (some ⟨g6, 0, none⟩) 2 k6]
              have tR := Turn.rowW (Turn.refl (fun i => i = BZ) w15) rfl #[.int .i64 0, .int .i64 (nw + r3), .slice (some ⟨g6, 0, none⟩) 2 k6]
              have gB : ¬ g6 = BZ := fun e => Blk.ne_own bZ oV (by decide) e.symm
              have oR := oV.turn tR gB
              have nR := n15.before tR (by intro i hi e; omega)
              refine hK.out undef _ nR (fun _ => ?_)
              refine wpAnyH_done (by kernel_rfl) ?_ _
              generalize World.setRow _ _ _ = wR at *
              go_wp2_with fail
              go_meet
              exact ⟨BZ, g6, k6, r3, r7 - 2, r12 - 2, rfl, bR, ⟨lo3, by omega⟩, ⟨by omega, by omega⟩, ⟨by omega, by omega⟩, oR, nR, hBw⟩
            exact fun j hj => by cases hj
          refine hw_step 16 (some 6) rfl rfl (by rfl) (fun K hK => ?_) ?_
          · skip
            go_simp
            have alZ : New w7 ((w7.alloc (.cells #[.int .i64 0, .int .i64 0, .slice none 0 0] 30))) := ((New.refl w7).alloc (.cells #[.int .i64 0, .int .i64 0, .slice none 0 0] 30))
            have bZ : Blk ((w7.alloc (.cells #[.int .i64 0, .int .i64 0, .slice none 0 0] 30))) w7.heap.size 30 #[.int .i64 0, .int .i64 0, .slice none 0 0] := (Blk.mk w7 w7.heap.size 30 #[.int .i64 0, .int .i64 0, .slice none 0 0] rfl)
            have nZ : New wr ((w7.alloc (.cells #[.int .i64 0, .int .i64 0, .slice none 0 0] 30))) := n7.trans alZ
            refine hK.out _ _ nZ (fun _ => ?_)
            simp only [Act.put, List.setIfInBounds_toArray, List.set_cons_zero, List.set_cons_succ]
            obtain ⟨BZ, hBZ⟩ : ∃ BZ, BZ = w7.heap.size := ⟨_, rfl⟩
            rw [← hBZ] at bZ ⊢
            have hBw : wr.heap.size ≤ BZ := by have := n7.size; omega
            clear hBZ
            generalize (w7.alloc (.cells #[.int .i64 0, .int .i64 0, .slice none 0 0] 30)) = wZ at *
            refine hw_call 12 (some 34) rfl rfl (by kernel_rfl) (by rfl) (fun K hK => ?_)
            go_simp
            refine (lwAt_z a n c ((k : Int) + 80) 5 zs _ (h.new (N.trans nZ)) HN.out hmb (by omega) (by omega) (by omega) (by omega)).mono ?_
            rintro e w12 ⟨r12, rfl, lo12, hi12, hn12⟩
            have n12 := nZ.trans hn12
            replace bZ := bZ.new hn12
            go_simp
            refine hK.out _ _ n12 (fun _ => ?_)
            simp only [Act.put, List.setIfInBounds_toArray, List.set_cons_zero, List.set_cons_succ]
            have q12 : IntKind.i64.wrap (r12 - 2) = r12 - 2 := w13 (by omega) (by omega)
            refine' hw_take 13 (some 35) _ rfl rfl (by kernel_rfl) (by kernel_rfl) (by kernel_rfl) (fun _ _ _ h => h) (by rfl) n12 ?hy87 ?rest87
            case hy87 =>
              intro X hX
              go_simp
              try rfl
            simp only [Act.put, List.setIfInBounds_toArray, List.set_cons_zero, List.set_cons_succ]
            refine hw_call 14 (some 36) rfl rfl (by kernel_rfl) (by rfl) (fun K hK => ?_)
            go_simp
            have hn14 := (New.refl w12).alloc (.cells #[.int .i64 (r7 - 2), .int .i64 (r12 - 2)] 2)
            have bL := Blk.mk w12 w12.heap.size 2 #[.int .i64 (r7 - 2), .int .i64 (r12 - 2)] rfl
            have n14 := n12.trans hn14
            replace bZ := bZ.new hn14
            refine hK.out _ _ n14 (fun _ => ?_)
            simp only [Act.put, List.setIfInBounds_toArray, List.set_cons_zero, List.set_cons_succ]
            obtain ⟨LB, hLB⟩ : ∃ LB, LB = w12.heap.size := ⟨_, rfl⟩
            rw [← hLB] at bL ⊢
            clear hLB
            generalize (w12.alloc (.cells #[.int .i64 (r7 - 2), .int .i64 (r12 - 2)] 2)) = w14 at *
            refine hw_call 15 (some 37) rfl rfl (by kernel_rfl) (by rfl) (fun K hK => ?_)
            go_simp
            have hI := implTi nw r3 (some ⟨g, 0, none⟩) (some ⟨LB, 0, none⟩) 2 cc 2 2 [x, y] [r7 - 2, r12 - 2] w14 ((o.new n14).ns hin.out) rfl (by omega) ((own_of_blk bL).ns (by intro z hz; simp only [List.mem_cons, List.not_mem_nil, or_false] at hz; unfold In6; omega)) rfl (by omega)
            rw [tick_ok HF.out (by omega) ⟨lo3, by omega⟩ ⟨by omega, by omega⟩ ⟨by omega, by omega⟩] at hI
            refine hI.mono ?_
            rintro e w15 ⟨v6, rfl, oV, hn15⟩
            rcases oV with ⟨-, eV⟩ | ⟨g6, k6, eV, hg6, oV⟩
            · cases eV
            subst eV
            clear hI
            have n15 := n14.trans hn15
            replace bZ := bZ.new hn15
            go_simp
            refine hK.out _ _ n15 (fun _ => ?_)
            simp only [Act.put, List.setIfInBounds_toArray, List.set_cons_zero, List.set_cons_succ]
            refine hw_call 17 none rfl rfl (by kernel_rfl) (by rfl) (fun K hK => ?_)
            refine hw_store 30 (.tmp 6) (.tmp 37) rfl rfl BZ #[.int .i64 0, .int .i64 (nw + r3), .slice (some ⟨g6, 0, none⟩) 2 k6] #[.int .i64 0, .int .i64 0, .slice none 0 0] rfl rfl bZ (by kernel_rfl) rfl (by kernel_rfl) ?_
            have bR := bZ.rowW #[.int .i64 0, .int .i64 (nw + r3), .slice (some ⟨g6, 0, none⟩) 2 k6]
            have tR := Turn.rowW (Turn.refl (fun i => i = BZ) w15) rfl #[.int .i64 0, .int .i64 (nw + r3), .slice (some ⟨g6, 0, none⟩) 2 k6]
            have gB : ¬ g6 = BZ := fun e => Blk.ne_own bZ oV (by decide) e.symm
            have oR := oV.turn tR gB
            have nR := n15.before tR (by intro i hi e; omega)
            refine hK.out undef _ nR (fun _ => ?_)
            refine wpAnyH_done (by kernel_rfl) ?_ _
            generalize World.setRow _ _ _ = wR at *
            go_wp2_with fail
            go_meet
            exact ⟨BZ, g6, k6, r3, r7 - 2, r12 - 2, rfl, bR, ⟨lo3, by omega⟩, ⟨by omega, by omega⟩, ⟨by omega, by omega⟩, oR, nR, hBw⟩
          exact fun j hj => by cases hj
        refine hw_step 16 (some 6) rfl rfl (by rfl) (fun K hK => ?_) ?_
        · skip
          go_simp
          have alZ : New w3 ((w3.alloc (.cells #[.int .i64 0, .int .i64 0, .slice none 0 0] 30))) := ((New.refl w3).alloc (.cells #[.int .i64 0, .int .i64 0, .slice none 0 0] 30))
          have bZ : Blk ((w3.alloc (.cells #[.int .i64 0, .int .i64 0, .slice none 0 0] 30))) w3.heap.size 30 #[.int .i64 0, .int .i64 0, .slice none 0 0] := (Blk.mk w3 w3.heap.size 30 #[.int .i64 0, .int .i64 0, .slice none 0 0] rfl)
          have nZ : New wr ((w3.alloc (.cells #[.int .i64 0, .int .i64 0, .slice none 0 0] 30))) := n3.trans alZ
          refine hK.out _ _ nZ (fun _ => ?_)
          simp only [Act.put, List.setIfInBounds_toArray, List.set_cons_zero, List.set_cons_succ]
          obtain ⟨BZ, hBZ⟩ : ∃ BZ, BZ = w3.heap.size := ⟨_, rfl⟩
          rw [← hBZ] at bZ ⊢
          have hBw : wr.heap.size ≤ BZ := by have := n3.size; omega
          clear hBZ
          generalize (w3.alloc (.cells #[.int .i64 0, .int .i64 0, .slice none 0 0] 30)) = wZ at *
          refine hw_call 7 (some 29) rfl rfl (by kernel_rfl) (by rfl) (fun K hK => ?_)
          go_simp
          refine (lwAt_z a n c ((k : Int) + 40) 5 zs _ (h.new (N.trans nZ)) HN.out hmb (by omega) (by omega) (by omega) (by omega)).mono ?_
          rintro e w7 ⟨r7, rfl, lo7, hi7, hn7⟩
          have n7 := nZ.trans hn7
          replace bZ := bZ.new hn7
          go_simp
          refine hK.out _ _ n7 (fun _ => ?_)
          simp only [Act.put, List.setIfInBounds_toArray, List.set_cons_zero, List.set_cons_succ]
          have q7 : IntKind.i64.wrap (r7 - 2) = r7 - 2 := w13 (by omega) (by omega)
          refine' hw_take 8 (some 30) _ rfl rfl (by kernel_rfl) (by kernel_rfl) (by kernel_rfl) (fun _ _ _ h => h) (by rfl) n7 ?hy88 ?rest88
          case hy88 =>
            intro X hX
            go_simp
            try rfl
          simp only [Act.put, List.setIfInBounds_toArray, List.set_cons_zero, List.set_cons_succ]
          refine hw_call 12 (some 34) rfl rfl (by kernel_rfl) (by rfl) (fun K hK => ?_)
          go_simp
          refine (lwAt_z a n c ((k : Int) + 80) 5 zs _ (h.new (N.trans n7)) HN.out hmb (by omega) (by omega) (by omega) (by omega)).mono ?_
          rintro e w12 ⟨r12, rfl, lo12, hi12, hn12⟩
          have n12 := n7.trans hn12
          replace bZ := bZ.new hn12
          go_simp
          refine hK.out _ _ n12 (fun _ => ?_)
          simp only [Act.put, List.setIfInBounds_toArray, List.set_cons_zero, List.set_cons_succ]
          have q12 : IntKind.i64.wrap (r12 - 2) = r12 - 2 := w13 (by omega) (by omega)
          refine' hw_take 13 (some 35) _ rfl rfl (by kernel_rfl) (by kernel_rfl) (by kernel_rfl) (fun _ _ _ h => h) (by rfl) n12 ?hy89 ?rest89
          case hy89 =>
            intro X hX
            go_simp
            try rfl
          simp only [Act.put, List.setIfInBounds_toArray, List.set_cons_zero, List.set_cons_succ]
          refine hw_call 14 (some 36) rfl rfl (by kernel_rfl) (by rfl) (fun K hK => ?_)
          go_simp
          have hn14 := (New.refl w12).alloc (.cells #[.int .i64 (r7 - 2), .int .i64 (r12 - 2)] 2)
          have bL := Blk.mk w12 w12.heap.size 2 #[.int .i64 (r7 - 2), .int .i64 (r12 - 2)] rfl
          have n14 := n12.trans hn14
          replace bZ := bZ.new hn14
          refine hK.out _ _ n14 (fun _ => ?_)
          simp only [Act.put, List.setIfInBounds_toArray, List.set_cons_zero, List.set_cons_succ]
          obtain ⟨LB, hLB⟩ : ∃ LB, LB = w12.heap.size := ⟨_, rfl⟩
          rw [← hLB] at bL ⊢
          clear hLB
          generalize (w12.alloc (.cells #[.int .i64 (r7 - 2), .int .i64 (r12 - 2)] 2)) = w14 at *
          refine hw_call 15 (some 37) rfl rfl (by kernel_rfl) (by rfl) (fun K hK => ?_)
          go_simp
          have hI := implTi nw r3 (some ⟨g, 0, none⟩) (some ⟨LB, 0, none⟩) 2 cc 2 2 [x, y] [r7 - 2, r12 - 2] w14 ((o.new n14).ns hin.out) rfl (by omega) ((own_of_blk bL).ns (by intro z hz; simp only [List.mem_cons, List.not_mem_nil, or_false] at hz; unfold In6; omega)) rfl (by omega)
          rw [tick_ok HF.out (by omega) ⟨lo3, by omega⟩ ⟨by omega, by omega⟩ ⟨by omega, by omega⟩] at hI
          refine hI.mono ?_
          rintro e w15 ⟨v6, rfl, oV, hn15⟩
          rcases oV with ⟨-, eV⟩ | ⟨g6, k6, eV, hg6, oV⟩
          · cases eV
          subst eV
          clear hI
          have n15 := n14.trans hn15
          replace bZ := bZ.new hn15
          go_simp
          refine hK.out _ _ n15 (fun _ => ?_)
          simp only [Act.put, List.setIfInBounds_toArray, List.set_cons_zero, List.set_cons_succ]
          refine hw_call 17 none rfl rfl (by kernel_rfl) (by rfl) (fun K hK => ?_)
          refine hw_store 30 (.tmp 6) (.tmp 37) rfl rfl BZ #[.int .i64 0, .int .i64 (nw + r3), .slice (some ⟨g6, 0, none⟩) 2 k6] #[.int .i64 0, .int .i64 0, .slice none 0 0] rfl rfl bZ (by kernel_rfl) rfl (by kernel_rfl) ?_
          have bR := bZ.rowW #[.int .i64 0, .int .i64 (nw + r3), .slice (some ⟨g6, 0, none⟩) 2 k6]
          have tR := Turn.rowW (Turn.refl (fun i => i = BZ) w15) rfl #[.int .i64 0, .int .i64 (nw + r3), .slice (some ⟨g6, 0, none⟩) 2 k6]
          have gB : ¬ g6 = BZ := fun e => Blk.ne_own bZ oV (by decide) e.symm
          have oR := oV.turn tR gB
          have nR := n15.before tR (by intro i hi e; omega)
          refine hK.out undef _ nR (fun _ => ?_)
          refine wpAnyH_done (by kernel_rfl) ?_ _
          generalize World.setRow _ _ _ = wR at *
          go_wp2_with fail
          go_meet
          exact ⟨BZ, g6, k6, r3, r7 - 2, r12 - 2, rfl, bR, ⟨lo3, by omega⟩, ⟨by omega, by omega⟩, ⟨by omega, by omega⟩, oR, nR, hBw⟩
        exact fun j hj => by cases hj
      refine hw_step 16 (some 6) rfl rfl (by rfl) (fun K hK => ?_) ?_
      · skip
        go_simp
        have alZ : New wr ((wr.alloc (.cells #[.int .i64 0, .int .i64 0, .slice none 0 0] 30)).drew) := ((New.refl wr).alloc (.cells #[.int .i64 0, .int .i64 0, .slice none 0 0] 30)).drew
        have bZ : Blk ((wr.alloc (.cells #[.int .i64 0, .int .i64 0, .slice none 0 0] 30)).drew) wr.heap.size 30 #[.int .i64 0, .int .i64 0, .slice none 0 0] := (Blk.mk wr wr.heap.size 30 #[.int .i64 0, .int .i64 0, .slice none 0 0] rfl).new ((New.refl _).drew)
        have nZ : New wr ((wr.alloc (.cells #[.int .i64 0, .int .i64 0, .slice none 0 0] 30)).drew) := alZ
        refine hK.out _ _ nZ (fun _ => ?_)
        simp only [Act.put, List.setIfInBounds_toArray, List.set_cons_zero, List.set_cons_succ]
        obtain ⟨BZ, hBZ⟩ : ∃ BZ, BZ = wr.heap.size := ⟨_, rfl⟩
        rw [← hBZ] at bZ ⊢
        have hBw : wr.heap.size ≤ BZ := by omega
        clear hBZ
        generalize (wr.alloc (.cells #[.int .i64 0, .int .i64 0, .slice none 0 0] 30)).drew = wZ at *
        refine hw_call 3 (some 25) rfl rfl (by kernel_rfl) (by rfl) (fun K hK => ?_)
        go_simp
        refine (lwAt_z a n c (k : Int) 6 zs _ (h.new (N.trans nZ)) HN.out hmb (by omega) (by omega) (by omega) (by omega)).mono ?_
        rintro e w3 ⟨r3, rfl, lo3, hi3, hn3⟩
        have n3 := nZ.trans hn3
        replace bZ := bZ.new hn3
        go_simp
        refine hK.out _ _ n3 (fun _ => ?_)
        simp only [Act.put, List.setIfInBounds_toArray, List.set_cons_zero, List.set_cons_succ]
        refine hw_call 7 (some 29) rfl rfl (by kernel_rfl) (by rfl) (fun K hK => ?_)
        go_simp
        refine (lwAt_z a n c ((k : Int) + 40) 5 zs _ (h.new (N.trans n3)) HN.out hmb (by omega) (by omega) (by omega) (by omega)).mono ?_
        rintro e w7 ⟨r7, rfl, lo7, hi7, hn7⟩
        have n7 := n3.trans hn7
        replace bZ := bZ.new hn7
        go_simp
        refine hK.out _ _ n7 (fun _ => ?_)
        simp only [Act.put, List.setIfInBounds_toArray, List.set_cons_zero, List.set_cons_succ]
        have q7 : IntKind.i64.wrap (r7 - 2) = r7 - 2 := w13 (by omega) (by omega)
        refine' hw_take 8 (some 30) _ rfl rfl (by kernel_rfl) (by kernel_rfl) (by kernel_rfl) (fun _ _ _ h => h) (by rfl) n7 ?hy90 ?rest90
        case hy90 =>
          intro X hX
          go_simp
          try rfl
        simp only [Act.put, List.setIfInBounds_toArray, List.set_cons_zero, List.set_cons_succ]
        refine hw_call 12 (some 34) rfl rfl (by kernel_rfl) (by rfl) (fun K hK => ?_)
        go_simp
        refine (lwAt_z a n c ((k : Int) + 80) 5 zs _ (h.new (N.trans n7)) HN.out hmb (by omega) (by omega) (by omega) (by omega)).mono ?_
        rintro e w12 ⟨r12, rfl, lo12, hi12, hn12⟩
        have n12 := n7.trans hn12
        replace bZ := bZ.new hn12
        go_simp
        refine hK.out _ _ n12 (fun _ => ?_)
        simp only [Act.put, List.setIfInBounds_toArray, List.set_cons_zero, List.set_cons_succ]
        have q12 : IntKind.i64.wrap (r12 - 2) = r12 - 2 := w13 (by omega) (by omega)
        refine' hw_take 13 (some 35) _ rfl rfl (by kernel_rfl) (by kernel_rfl) (by kernel_rfl) (fun _ _ _ h => h) (by rfl) n12 ?hy91 ?rest91
        case hy91 =>
          intro X hX
          go_simp
          try rfl
        simp only [Act.put, List.setIfInBounds_toArray, List.set_cons_zero, List.set_cons_succ]
        refine hw_call 14 (some 36) rfl rfl (by kernel_rfl) (by rfl) (fun K hK => ?_)
        go_simp
        have hn14 := (New.refl w12).alloc (.cells #[.int .i64 (r7 - 2), .int .i64 (r12 - 2)] 2)
        have bL := Blk.mk w12 w12.heap.size 2 #[.int .i64 (r7 - 2), .int .i64 (r12 - 2)] rfl
        have n14 := n12.trans hn14
        replace bZ := bZ.new hn14
        refine hK.out _ _ n14 (fun _ => ?_)
        simp only [Act.put, List.setIfInBounds_toArray, List.set_cons_zero, List.set_cons_succ]
        obtain ⟨LB, hLB⟩ : ∃ LB, LB = w12.heap.size := ⟨_, rfl⟩
        rw [← hLB] at bL ⊢
        clear hLB
        generalize (w12.alloc (.cells #[.int .i64 (r7 - 2), .int .i64 (r12 - 2)] 2)) = w14 at *
        refine hw_call 15 (some 37) rfl rfl (by kernel_rfl) (by rfl) (fun K hK => ?_)
        go_simp
        have hI := implTi nw r3 (some ⟨g, 0, none⟩) (some ⟨LB, 0, none⟩) 2 cc 2 2 [x, y] [r7 - 2, r12 - 2] w14 ((o.new n14).ns hin.out) rfl (by omega) ((own_of_blk bL).ns (by intro z hz; simp only [List.mem_cons, List.not_mem_nil, or_false] at hz; unfold In6; omega)) rfl (by omega)
        rw [tick_ok HF.out (by omega) ⟨lo3, by omega⟩ ⟨by omega, by omega⟩ ⟨by omega, by omega⟩] at hI
        refine hI.mono ?_
        rintro e w15 ⟨v6, rfl, oV, hn15⟩
        rcases oV with ⟨-, eV⟩ | ⟨g6, k6, eV, hg6, oV⟩
        · cases eV
        subst eV
        clear hI
        have n15 := n14.trans hn15
        replace bZ := bZ.new hn15
        go_simp
        refine hK.out _ _ n15 (fun _ => ?_)
        simp only [Act.put, List.setIfInBounds_toArray, List.set_cons_zero, List.set_cons_succ]
        refine hw_call 17 none rfl rfl (by kernel_rfl) (by rfl) (fun K hK => ?_)
        refine hw_store 30 (.tmp 6) (.tmp 37) rfl rfl BZ #[.int .i64 0, .int .i64 (nw + r3), .slice (some ⟨g6, 0, none⟩) 2 k6] #[.int .i64 0, .int .i64 0, .slice none 0 0] rfl rfl bZ (by kernel_rfl) rfl (by kernel_rfl) ?_
        have bR := bZ.rowW #[.int .i64 0, .int .i64 (nw + r3), .slice (some ⟨g6, 0, none⟩) 2 k6]
        have tR := Turn.rowW (Turn.refl (fun i => i = BZ) w15) rfl #[.int .i64 0, .int .i64 (nw + r3), .slice (some ⟨g6, 0, none⟩) 2 k6]
        have gB : ¬ g6 = BZ := fun e => Blk.ne_own bZ oV (by decide) e.symm
        have oR := oV.turn tR gB
        have nR := n15.before tR (by intro i hi e; omega)
        refine hK.out undef _ nR (fun _ => ?_)
        refine wpAnyH_done (by kernel_rfl) ?_ _
        generalize World.setRow _ _ _ = wR at *
        go_wp2_with fail
        go_meet
        exact ⟨BZ, g6, k6, r3, r7 - 2, r12 - 2, rfl, bR, ⟨lo3, by omega⟩, ⟨by omega, by omega⟩, ⟨by omega, by omega⟩, oR, nR, hBw⟩
      exact fun j hj => by cases hj
    case rest =>
      obtain ⟨BT, g6, k6, r, p, q, rfl, bT, hr, hp, hq, o6, n6, hBT⟩ := hcut
      generalize wc = w6 at *
      obtain ⟨⟨h1, h2⟩, x', y', e, ⟨a0, a1, a2⟩, ⟨b0, b1, b2⟩⟩ := ckF_zero HF.out
      cases e
      have keep : Hid (ckF (nw + r) [max x (nw + r + p), max y (nw + r + q)] = 0) := tick_keeps HF.out (by omega) hr hp hq
      obtain ⟨⟨h3, h4⟩, x', y', e, ⟨a3, a4, a5⟩, ⟨b3, b4, b5⟩⟩ := ckF_zero keep.out
      cases e
      have hnv : nw ≤ nw + r := by omega
      have hnv2 : nw + r ≤ 5 * ((k : Int) + 1) := by omega
      clear HF hin qa qb hr hp hq
      generalize max x (nw + r + p) = x1 at *
      generalize max y (nw + r + q) = y1 at *
      generalize nw + r = nv at *
      have hin : Hid (∀ z ∈ [x1, y1], In6 z) := by
        intro z hz
        simp only [List.mem_cons, List.not_mem_nil, or_false] at hz
        unfold In6
        omega
      have N6 := N.trans n6
      have bC6 := bC.new n6
      have o6o := o.new n6
      have bL6 := bL4.new n6
      have lC := bC.lt
      have lL := bL4.lt
      clear N bC o bL4
      obtain ⟨⟨c0, c1⟩, ⟨c2, c3⟩, ⟨c4, c5⟩, ⟨c6, c7⟩⟩ := HP.out
      have hho : ho = 0 ∨ ho = 1 := by omega
      have qw1 : IntKind.i64.wrap 1 = 1 := by decide
      have qw0 : IntKind.i64.wrap 0 = 0 := by decide
      have cT := bT.cells
      go_wp2_with fail
      refine (implCkF_is nv (some ⟨g6, 0, none⟩) 2 k6 [x1, y1] 0 _ (o6.ns hin.out) rfl (by omega) keep.out).mono ?_
      rintro e w7 ⟨rfl, hn7⟩
      have N7 := N6.trans hn7
      have bC7 := bC6.new hn7
      have o7o := o6o.new hn7
      have o7 := o6.new hn7
      have bL7 := bL6.new hn7
      have bT7 := bT.new hn7
      have z7 := hn7.size
      have z6 := n6.size
      clear N6 bC6 o6o o6 bL6 bT cT hn7 n6
      have cT := bT7.cells
      have cC := bC7.cells
      have fC := bC7.frees
      have cL := bL7.cells
      obtain ⟨e0, e1⟩ := o7o.two
      have gC : ¬ (w.heap.size + 1) = g6 := Blk.ne_own bC7 o7 (by decide)
      have gL : ¬ (w.heap.size + 1 + 1) = g6 := Blk.ne_own bL7 o7 (by decide)
      rcases hho with rfl | rfl
      case inl =>
        go_upto_region 13 with fail
        have bC8 := (bC7.set 0 (.int .i64 nv)).set 1 (.slice (some ⟨g6, 0, none⟩) 2 k6)
        have t8 := ((Turn.refl (fun i => i = w.heap.size + 1) w7).set (p := ⟨w.heap.size + 1, 0, none⟩) rfl (.int .i64 nv)).set (p := ⟨w.heap.size + 1, 1, none⟩) rfl (.slice (some ⟨g6, 0, none⟩) 2 k6)
        replace bC8 : Blk _ (w.heap.size + 1) 26 #[.int .i64 nv, .slice (some ⟨g6, 0, none⟩) 2 k6] := bC8
        have o8 := o7.turn t8 (fun e => gC e.symm)
        have bL8 := bL7.turn t8 (by omega)
        have N8 := N7.before t8 (by intro i hi e; omega)
        have z8 := t8.size
        generalize (w7.setCell ⟨w.heap.size + 1, 0, none⟩ (.int .i64 nv)).setCell ⟨w.heap.size + 1, 1, none⟩ (.slice (some ⟨g6, 0, none⟩) 2 k6) = w8 at *
        clear cT cC fC cL e0 e1 bC7 o7o o7 bL7 bT7 N7 t8
        have cL := bL8.cells
        go_upto_region 14 with fail
        clear cL
        go_cut [80] from 64 to 80 (fun v wx => v = .bool false ∧ New w8 wx)
        case first =>
          have rC := blk_regrown bC8
          have rL := blk_regrown bL8
          obtain ⟨r0, r1⟩ := o8.regrown
          cases hb1 : mlB 0 ep ak he x1
          case false =>
            refine wp_region_quiet_below (by kernel_rfl) (by kernel_rfl) ?_
            repeat (go_big_quiet_step (first | (go_at_call 16; exact calls_regrown (implML_is 0 ep ak he x1 false _ hb1))))
            refine wpQuiet_nil ?_
            rintro wq hwq
            replace hwq := new_of_regrown hwq
            go_wp2_with fail
            go_meet
            exact ⟨rfl, hwq⟩
          case true =>
            have hb2 : mtB 0 ep ak he y1 = false := no_both (nw := nv) (by omega) (by omega) hak hb1
            refine wp_region_quiet_below (by kernel_rfl) (by kernel_rfl) ?_
            repeat (go_big_quiet_step (first | (go_at_call 16; exact calls_regrown (implML_is 0 ep ak he x1 true _ hb1)) | (go_at_call 17; exact calls_regrown (implMT_is 0 ep ak he y1 false _ hb2))))
            refine wpQuiet_nil ?_
            rintro wq hwq
            replace hwq := new_of_regrown hwq
            go_wp2_with fail
            go_meet
            exact ⟨rfl, hwq⟩
        case rest =>
          obtain ⟨rfl, hn9⟩ := hcut
          generalize wc = w9 at *
          have N9 := N8.trans hn9
          have bC9 := bC8.new hn9
          have o9 := o8.new hn9
          have bL9 := bL8.new hn9
          have z9 := hn9.size
          clear N8 bC8 o8 bL8 hn9
          have qc : IntKind.i64.wrap ((k : Int) + 120) = (k : Int) + 120 := w13 (by omega) (by omega)
          go_wp2_with fail
          refine (lwAt_z a n c ((k : Int) + 120) 4 zs _ (h.new N9) HN.out hmb (by omega) (by omega) (by omega) (by omega)).mono ?_
          rintro e wa ⟨r16, rfl, lo16, hi16, hna⟩
          have Na := N9.trans hna
          have bCa := bC9.new hna
          have oa := o9.new hna
          have bLa := bL9.new hna
          have za := hna.size
          clear N9 bC9 o9 bL9 hna qc
          by_cases u0 : r16 = 0
          case pos =>
            subst u0
            obtain ⟨⟨rc, rh, re, ra, rr⟩, HG⟩ : ∃ q, Hid (q = grR 0 ep ak he x y1) := ⟨_, rfl⟩
            go_upto_region 18 with fail
            go_cut [9] from 87 to 95 (fun v wx => ∃ BG, v = .pointer (some ⟨BG, 0, none⟩) ∧ Blk wx BG 36 #[.int .i64 rc, .int .i64 rh, .int .i64 re, .int .i64 ra, .int .i64 rr] ∧ New wa wx ∧ wa.heap.size ≤ BG)
            case first =>
              refine hw_start (n := 11) (S := fun X => New wa X) rfl (by kernel_rfl) ((New.refl _).drew) (fun hH => ?_)
              refine' hw_take 0 (some 87) (.agg #[.int .i64 0, .int .i64 ep, .int .i64 ak, .int .i64 he]) rfl rfl (by kernel_rfl) (by kernel_rfl) (by kernel_rfl) (fun _ _ _ h => h) (by rfl) hH ?hzB180 ?rzB180
              case hzB180 =>
                intro X hX
                exact run_load_blk 28 (.tmp 4) rfl (w.heap.size + 1 + 1) rfl #[.int .i64 0, .int .i64 ep, .int .i64 ak, .int .i64 he] _ (bLa.new hX) Try.underlying28 rfl (by kernel_rfl)
              simp only [Act.put, List.setIfInBounds_toArray, List.set_cons_zero, List.set_cons_succ]
              refine' hw_take 1 (some 88) _ rfl rfl (by kernel_rfl) (by kernel_rfl) (by kernel_rfl) (fun _ _ _ h => h) (by rfl) hH ?hy39 ?rest39
              case hy39 =>
                intro X hX
                go_simp
                try rfl
              simp only [Act.put, List.setIfInBounds_toArray, List.set_cons_zero, List.set_cons_succ]
              refine' hw_take 2 (some 89) _ rfl rfl (by kernel_rfl) (by kernel_rfl) (by kernel_rfl) (fun _ _ _ h => h) (by rfl) hH ?hy40 ?rest40
              case hy40 =>
                intro X hX
                go_simp
                try rfl
              simp only [Act.put, List.setIfInBounds_toArray, List.set_cons_zero, List.set_cons_succ]
              refine' hw_take 3 (some 90) _ rfl rfl (by kernel_rfl) (by kernel_rfl) (by kernel_rfl) (fun _ _ _ h => h) (by rfl) hH ?hy41 ?rest41
              case hy41 =>
                intro X hX
                have cC := (bCa.new hX).cells
                go_simp
                try rfl
              simp only [Act.put, List.setIfInBounds_toArray, List.set_cons_zero, List.set_cons_succ]
              refine' hw_take 4 (some 91) _ rfl rfl (by kernel_rfl) (by kernel_rfl) (by kernel_rfl) (fun _ _ _ h => h) (by rfl) hH ?hy42 ?rest42
              case hy42 =>
                intro X hX
                go_simp
                try rfl
              simp only [Act.put, List.setIfInBounds_toArray, List.set_cons_zero, List.set_cons_succ]
              refine' hw_take 5 (some 92) _ rfl rfl (by kernel_rfl) (by kernel_rfl) (by kernel_rfl) (fun _ _ _ h => h) (by rfl) hH ?hy43 ?rest43
              case hy43 =>
                intro X hX
                go_simp
                try rfl
              simp only [Act.put, List.setIfInBounds_toArray, List.set_cons_zero, List.set_cons_succ]
              refine' hw_take 6 (some 93) _ rfl rfl (by kernel_rfl) (by kernel_rfl) (by kernel_rfl) (fun _ _ _ h => h) (by rfl) hH ?hy44 ?rest44
              case hy44 =>
                intro X hX
                go_simp
                try rfl
              simp only [Act.put, List.setIfInBounds_toArray, List.set_cons_zero, List.set_cons_succ]
              refine' hw_take 7 (some 94) _ rfl rfl (by kernel_rfl) (by kernel_rfl) (by kernel_rfl) (fun _ _ _ h => h) (by rfl) hH ?hy45 ?rest45
              case hy45 =>
                intro X hX
                obtain ⟨e0, e1⟩ := (oa.new hX).two
                go_simp
                try rfl
              simp only [Act.put, List.setIfInBounds_toArray, List.set_cons_zero, List.set_cons_succ]
              refine wpAnyH_ready (rs := [8, 9]) (by kernel_rfl) (by simp) ?_
              refine hw_step 8 (some 95) rfl rfl (by rfl) (fun K hK => ?_) ?_
              · skip
                go_simp
                have hI := implGr 0 ep ak he x y1 wa.drew
                rw [← HG.out] at hI
                refine hI.mono ?_
                rintro e wF ⟨rfl, hnF⟩
                clear hI
                have nF := hH.trans hnF
                go_simp
                refine hK.out _ _ nF (fun _ => ?_)
                simp only [Act.put, List.setIfInBounds_toArray, List.set_cons_zero, List.set_cons_succ]
                refine hw_call 9 (some 9) rfl rfl (by kernel_rfl) (by rfl) (fun K hK => ?_)
                go_simp
                have alZ : New wF ((wF.alloc (.cells #[.int .i64 0, .int .i64 0, .int .i64 0, .int .i64 0, .int .i64 0] 36))) := ((New.refl wF).alloc (.cells #[.int .i64 0, .int .i64 0, .int .i64 0, .int .i64 0, .int .i64 0] 36))
                have bZ : Blk ((wF.alloc (.cells #[.int .i64 0, .int .i64 0, .int .i64 0, .int .i64 0, .int .i64 0] 36))) wF.heap.size 36 #[.int .i64 0, .int .i64 0, .int .i64 0, .int .i64 0, .int .i64 0] := (Blk.mk wF wF.heap.size 36 #[.int .i64 0, .int .i64 0, .int .i64 0, .int .i64 0, .int .i64 0] rfl)
                have nZ : New wa ((wF.alloc (.cells #[.int .i64 0, .int .i64 0, .int .i64 0, .int .i64 0, .int .i64 0] 36))) := nF.trans alZ
                refine hK.out _ _ nZ (fun _ => ?_)
                simp only [Act.put, List.setIfInBounds_toArray, List.set_cons_zero, List.set_cons_succ]
                obtain ⟨BZ, hBZ⟩ : ∃ BZ, BZ = wF.heap.size := ⟨_, rfl⟩
                rw [← hBZ] at bZ ⊢
                have hBw : wa.heap.size ≤ BZ := by have := nF.size; omega
                clear hBZ
                generalize (wF.alloc (.cells #[.int .i64 0, .int .i64 0, .int .i64 0, .int .i64 0, .int .i64 0] 36)) = wZ at *
                refine hw_call 10 none rfl rfl (by kernel_rfl) (by rfl) (fun K hK => ?_)
                refine hw_store 36 (.tmp 9) (.tmp 95) rfl rfl BZ #[.int .i64 rc, .int .i64 rh, .int .i64 re, .int .i64 ra, .int .i64 rr] #[.int .i64 0, .int .i64 0, .int .i64 0, .int .i64 0, .int .i64 0] rfl rfl bZ (by kernel_rfl) rfl (by kernel_rfl) ?_
                have bR := bZ.rowW #[.int .i64 rc, .int .i64 rh, .int .i64 re, .int .i64 ra, .int .i64 rr]
                have tR := Turn.rowW (Turn.refl (fun i => i = BZ) wZ) rfl #[.int .i64 rc, .int .i64 rh, .int .i64 re, .int .i64 ra, .int .i64 rr]
                have nR := nZ.before tR (by intro i hi e; omega)
                refine hK.out undef _ nR (fun _ => ?_)
                refine wpAnyH_done (by kernel_rfl) ?_ _
                generalize World.setRow _ _ _ = wR at *
                go_wp2_with fail
                go_meet
                exact ⟨BZ, rfl, bR, nR, hBw⟩
              refine hw_step 9 (some 9) rfl rfl (by rfl) (fun K hK => ?_) ?_
              · skip
                go_simp
                have alZ : New wa ((wa.alloc (.cells #[.int .i64 0, .int .i64 0, .int .i64 0, .int .i64 0, .int .i64 0] 36)).drew) := ((New.refl wa).alloc (.cells #[.int .i64 0, .int .i64 0, .int .i64 0, .int .i64 0, .int .i64 0] 36)).drew
                have bZ : Blk ((wa.alloc (.cells #[.int .i64 0, .int .i64 0, .int .i64 0, .int .i64 0, .int .i64 0] 36)).drew) wa.heap.size 36 #[.int .i64 0, .int .i64 0, .int .i64 0, .int .i64 0, .int .i64 0] := (Blk.mk wa wa.heap.size 36 #[.int .i64 0, .int .i64 0, .int .i64 0, .int .i64 0, .int .i64 0] rfl).new ((New.refl _).drew)
                have nZ : New wa ((wa.alloc (.cells #[.int .i64 0, .int .i64 0, .int .i64 0, .int .i64 0, .int .i64 0] 36)).drew) := alZ
                refine hK.out _ _ nZ (fun _ => ?_)
                simp only [Act.put, List.setIfInBounds_toArray, List.set_cons_zero, List.set_cons_succ]
                obtain ⟨BZ, hBZ⟩ : ∃ BZ, BZ = wa.heap.size := ⟨_, rfl⟩
                rw [← hBZ] at bZ ⊢
                have hBw : wa.heap.size ≤ BZ := by omega
                clear hBZ
                generalize (wa.alloc (.cells #[.int .i64 0, .int .i64 0, .int .i64 0, .int .i64 0, .int .i64 0] 36)).drew = wZ at *
                refine hw_call 8 (some 95) rfl rfl (by kernel_rfl) (by rfl) (fun K hK => ?_)
                go_simp
                have hI := implGr 0 ep ak he x y1 wZ
                rw [← HG.out] at hI
                refine hI.mono ?_
                rintro e wF ⟨rfl, hnF⟩
                clear hI
                have nF := nZ.trans hnF
                replace bZ := bZ.new hnF
                go_simp
                refine hK.out _ _ nF (fun _ => ?_)
                simp only [Act.put, List.setIfInBounds_toArray, List.set_cons_zero, List.set_cons_succ]
                refine hw_call 10 none rfl rfl (by kernel_rfl) (by rfl) (fun K hK => ?_)
                refine hw_store 36 (.tmp 9) (.tmp 95) rfl rfl BZ #[.int .i64 rc, .int .i64 rh, .int .i64 re, .int .i64 ra, .int .i64 rr] #[.int .i64 0, .int .i64 0, .int .i64 0, .int .i64 0, .int .i64 0] rfl rfl bZ (by kernel_rfl) rfl (by kernel_rfl) ?_
                have bR := bZ.rowW #[.int .i64 rc, .int .i64 rh, .int .i64 re, .int .i64 ra, .int .i64 rr]
                have tR := Turn.rowW (Turn.refl (fun i => i = BZ) wF) rfl #[.int .i64 rc, .int .i64 rh, .int .i64 re, .int .i64 ra, .int .i64 rr]
                have nR := nF.before tR (by intro i hi e; omega)
                refine hK.out undef _ nR (fun _ => ?_)
                refine wpAnyH_done (by kernel_rfl) ?_ _
                generalize World.setRow _ _ _ = wR at *
                go_wp2_with fail
                go_meet
                exact ⟨BZ, rfl, bR, nR, hBw⟩
              exact fun j hj => by cases hj
            case rest =>
              obtain ⟨BG, rfl, bG, hng, hBG⟩ := hcut
              generalize wc = wg at *
              have Ng := Na.trans hng
              have bCg := bCa.new hng
              have og := oa.new hng
              have bLg := bLa.new hng
              have zg := hng.size
              have lLg := bLa.lt
              clear Na bCa oa bLa hng
              have cG := bG.cells
              by_cases hc : rc = 0
              case neg =>
                have hc' : (rc == 0) = false := by simpa using hc
                have cL := bLg.cells
                go_wp2_with fail
                refine (implLeF_is 0 ep ak he 0 _ (lf_ok (HP.out))).mono ?_
                rintro e wy ⟨rfl, hny⟩
                have Ny := Ng.trans hny
                have bCy := bCg.new hny
                have oy := og.new hny
                have bLy := bLg.new hny
                clear cL hny Ng bCg og bLg
                go_wp2
                go_roundw
                case rel => exact ⟨k + 1, nv, x1, y1, 0, ep, ak, he, g6, k6, by omega, by go_num, keep.out, by omega, HP.out, by omega, hak, bCy, oy, bLy, Ny⟩
                case measure => simp [intOf]; omega
              subst hc
              obtain ⟨e1, e2, e3, e4, gp, gk⟩ := gr_ok HG.out (by omega)
              clear HG
              subst e1 e2 e3 e4
              have GP : Hid (LeP 0 ep x y1) := gp
              clear gp
              have fL := bLg.frees
              have cL := bLg.cells
              go_upto_region 27 with fail
              have bLh := (((bLg.set 0 (.int .i64 0)).set 1 (.int .i64 ep)).set 2 (.int .i64 x)).set 3 (.int .i64 y1)
              have th := ((((Turn.refl (fun i => i = w.heap.size + 1 + 1) wg).set (p := ⟨w.heap.size + 1 + 1, 0, none⟩) rfl (.int .i64 0)).set (p := ⟨w.heap.size + 1 + 1, 1, none⟩) rfl (.int .i64 ep)).set (p := ⟨w.heap.size + 1 + 1, 2, none⟩) rfl (.int .i64 x)).set (p := ⟨w.heap.size + 1 + 1, 3, none⟩) rfl (.int .i64 y1)
              replace bLh : Blk _ (w.heap.size + 1 + 1) 28 #[.int .i64 0, .int .i64 ep, .int .i64 x, .int .i64 y1] := bLh
              have bCh := bCg.turn th (by omega)
              have oh := og.turn th (fun e => gL e.symm)
              have Nh := Ng.before th (by intro i hi e; omega)
              generalize (((wg.setCell ⟨w.heap.size + 1 + 1, 0, none⟩ (.int .i64 0)).setCell ⟨w.heap.size + 1 + 1, 1, none⟩ (.int .i64 ep)).setCell ⟨w.heap.size + 1 + 1, 2, none⟩ (.int .i64 x)).setCell ⟨w.heap.size + 1 + 1, 3, none⟩ (.int .i64 y1) = wh at *
              clear cG cL fL bG bLg bCg og Ng th
              have cL := bLh.cells
              go_wp2_with fail
              refine (implLeF_is 0 ep x y1 0 _ (lf_ok (GP.out))).mono ?_
              rintro e wy ⟨rfl, hny⟩
              have Ny := Nh.trans hny
              have bCy := bCh.new hny
              have oy := oh.new hny
              have bLy := bLh.new hny
              clear cL hny Nh bCh oh bLh
              go_wp2
              go_roundw
              case rel => exact ⟨k + 1, nv, x1, y1, 0, ep, x, y1, g6, k6, by omega, by go_num, keep.out, by omega, GP.out, by omega, by omega, bCy, oy, bLy, Ny⟩
              case measure => simp [intOf]; omega
          have v0 : (r16 == 0) = false := by simpa using u0
          by_cases u1 : r16 = 1
          case pos =>
            subst u1
            have qe : IntKind.i64.wrap (ep + 1) = ep + 1 := w13 (by omega) (by omega)
            cases hb2 : mtB 0 ep ak he y1
            case false =>
              have HG : Hid ((⟨8, 0, 0, 0, 0⟩ : Lr) = tkR 0 ep ak he y1) := tk_no HP.out hb2
              go_upto_region 22 with fail
              go_cut [10] from 103 to 110 (fun v wx => ∃ BG, v = .pointer (some ⟨BG, 0, none⟩) ∧ Blk wx BG 36 #[.int .i64 8, .int .i64 0, .int .i64 0, .int .i64 0, .int .i64 0] ∧ New wa wx ∧ wa.heap.size ≤ BG)
              case first =>
                refine hw_start (n := 10) (S := fun X => New wa X) rfl (by kernel_rfl) ((New.refl _).drew) (fun hH => ?_)
                refine' hw_take 0 (some 103) (.agg #[.int .i64 0, .int .i64 ep, .int .i64 ak, .int .i64 he]) rfl rfl (by kernel_rfl) (by kernel_rfl) (by kernel_rfl) (fun _ _ _ h => h) (by rfl) hH ?hzB220false ?rzB220false
                case hzB220false =>
                  intro X hX
                  exact run_load_blk 28 (.tmp 4) rfl (w.heap.size + 1 + 1) rfl #[.int .i64 0, .int .i64 ep, .int .i64 ak, .int .i64 he] _ (bLa.new hX) Try.underlying28 rfl (by kernel_rfl)
                simp only [Act.put, List.setIfInBounds_toArray, List.set_cons_zero, List.set_cons_succ]
                refine' hw_take 1 (some 104) _ rfl rfl (by kernel_rfl) (by kernel_rfl) (by kernel_rfl) (fun _ _ _ h => h) (by rfl) hH ?hy46 ?rest46
                case hy46 =>
                  intro X hX
                  go_simp
                  try rfl
                simp only [Act.put, List.setIfInBounds_toArray, List.set_cons_zero, List.set_cons_succ]
                refine' hw_take 2 (some 105) _ rfl rfl (by kernel_rfl) (by kernel_rfl) (by kernel_rfl) (fun _ _ _ h => h) (by rfl) hH ?hy47 ?rest47
                case hy47 =>
                  intro X hX
                  have cC := (bCa.new hX).cells
                  go_simp
                  try rfl
                simp only [Act.put, List.setIfInBounds_toArray, List.set_cons_zero, List.set_cons_succ]
                refine' hw_take 3 (some 106) _ rfl rfl (by kernel_rfl) (by kernel_rfl) (by kernel_rfl) (fun _ _ _ h => h) (by rfl) hH ?hy48 ?rest48
                case hy48 =>
                  intro X hX
                  go_simp
                  try rfl
                simp only [Act.put, List.setIfInBounds_toArray, List.set_cons_zero, List.set_cons_succ]
                refine' hw_take 4 (some 107) _ rfl rfl (by kernel_rfl) (by kernel_rfl) (by kernel_rfl) (fun _ _ _ h => h) (by rfl) hH ?hy49 ?rest49
                case hy49 =>
                  intro X hX
                  go_simp
                  try rfl
                simp only [Act.put, List.setIfInBounds_toArray, List.set_cons_zero, List.set_cons_succ]
                refine' hw_take 5 (some 108) _ rfl rfl (by kernel_rfl) (by kernel_rfl) (by kernel_rfl) (fun _ _ _ h => h) (by rfl) hH ?hy50 ?rest50
                case hy50 =>
                  intro X hX
                  go_simp
                  try rfl
                simp only [Act.put, List.setIfInBounds_toArray, List.set_cons_zero, List.set_cons_succ]
                refine' hw_take 6 (some 109) _ rfl rfl (by kernel_rfl) (by kernel_rfl) (by kernel_rfl) (fun _ _ _ h => h) (by rfl) hH ?hy51 ?rest51
                case hy51 =>
                  intro X hX
                  obtain ⟨e0, e1⟩ := (oa.new hX).two
                  go_simp
                  try rfl
                simp only [Act.put, List.setIfInBounds_toArray, List.set_cons_zero, List.set_cons_succ]
                refine wpAnyH_ready (rs := [7, 8]) (by kernel_rfl) (by simp) ?_
                refine hw_step 7 (some 110) rfl rfl (by rfl) (fun K hK => ?_) ?_
                · skip
                  go_simp
                  have hI := implTl 0 ep ak he y1 wa.drew
                  rw [← HG.out] at hI
                  refine hI.mono ?_
                  rintro e wF ⟨rfl, hnF⟩
                  clear hI
                  have nF := hH.trans hnF
                  go_simp
                  refine hK.out _ _ nF (fun _ => ?_)
                  simp only [Act.put, List.setIfInBounds_toArray, List.set_cons_zero, List.set_cons_succ]
                  refine hw_call 8 (some 10) rfl rfl (by kernel_rfl) (by rfl) (fun K hK => ?_)
                  go_simp
                  have alZ : New wF ((wF.alloc (.cells #[.int .i64 0, .int .i64 0, .int .i64 0, .int .i64 0, .int .i64 0] 36))) := ((New.refl wF).alloc (.cells #[.int .i64 0, .int .i64 0, .int .i64 0, .int .i64 0, .int .i64 0] 36))
                  have bZ : Blk ((wF.alloc (.cells #[.int .i64 0, .int .i64 0, .int .i64 0, .int .i64 0, .int .i64 0] 36))) wF.heap.size 36 #[.int .i64 0, .int .i64 0, .int .i64 0, .int .i64 0, .int .i64 0] := (Blk.mk wF wF.heap.size 36 #[.int .i64 0, .int .i64 0, .int .i64 0, .int .i64 0, .int .i64 0] rfl)
                  have nZ : New wa ((wF.alloc (.cells #[.int .i64 0, .int .i64 0, .int .i64 0, .int .i64 0, .int .i64 0] 36))) := nF.trans alZ
                  refine hK.out _ _ nZ (fun _ => ?_)
                  simp only [Act.put, List.setIfInBounds_toArray, List.set_cons_zero, List.set_cons_succ]
                  obtain ⟨BZ, hBZ⟩ : ∃ BZ, BZ = wF.heap.size := ⟨_, rfl⟩
                  rw [← hBZ] at bZ ⊢
                  have hBw : wa.heap.size ≤ BZ := by have := nF.size; omega
                  clear hBZ
                  generalize (wF.alloc (.cells #[.int .i64 0, .int .i64 0, .int .i64 0, .int .i64 0, .int .i64 0] 36)) = wZ at *
                  refine hw_call 9 none rfl rfl (by kernel_rfl) (by rfl) (fun K hK => ?_)
                  refine hw_store 36 (.tmp 10) (.tmp 110) rfl rfl BZ #[.int .i64 8, .int .i64 0, .int .i64 0, .int .i64 0, .int .i64 0] #[.int .i64 0, .int .i64 0, .int .i64 0, .int .i64 0, .int .i64 0] rfl rfl bZ (by kernel_rfl) rfl (by kernel_rfl) ?_
                  have bR := bZ.rowW #[.int .i64 8, .int .i64 0, .int .i64 0, .int .i64 0, .int .i64 0]
                  have tR := Turn.rowW (Turn.refl (fun i => i = BZ) wZ) rfl #[.int .i64 8, .int .i64 0, .int .i64 0, .int .i64 0, .int .i64 0]
                  have nR := nZ.before tR (by intro i hi e; omega)
                  refine hK.out undef _ nR (fun _ => ?_)
                  refine wpAnyH_done (by kernel_rfl) ?_ _
                  generalize World.setRow _ _ _ = wR at *
                  go_wp2_with fail
                  go_meet
                  exact ⟨BZ, rfl, bR, nR, hBw⟩
                refine hw_step 8 (some 10) rfl rfl (by rfl) (fun K hK => ?_) ?_
                · skip
                  go_simp
                  have alZ : New wa ((wa.alloc (.cells #[.int .i64 0, .int .i64 0, .int .i64 0, .int .i64 0, .int .i64 0] 36)).drew) := ((New.refl wa).alloc (.cells #[.int .i64 0, .int .i64 0, .int .i64 0, .int .i64 0, .int .i64 0] 36)).drew
                  have bZ : Blk ((wa.alloc (.cells #[.int .i64 0, .int .i64 0, .int .i64 0, .int .i64 0, .int .i64 0] 36)).drew) wa.heap.size 36 #[.int .i64 0, .int .i64 0, .int .i64 0, .int .i64 0, .int .i64 0] := (Blk.mk wa wa.heap.size 36 #[.int .i64 0, .int .i64 0, .int .i64 0, .int .i64 0, .int .i64 0] rfl).new ((New.refl _).drew)
                  have nZ : New wa ((wa.alloc (.cells #[.int .i64 0, .int .i64 0, .int .i64 0, .int .i64 0, .int .i64 0] 36)).drew) := alZ
                  refine hK.out _ _ nZ (fun _ => ?_)
                  simp only [Act.put, List.setIfInBounds_toArray, List.set_cons_zero, List.set_cons_succ]
                  obtain ⟨BZ, hBZ⟩ : ∃ BZ, BZ = wa.heap.size := ⟨_, rfl⟩
                  rw [← hBZ] at bZ ⊢
                  have hBw : wa.heap.size ≤ BZ := by omega
                  clear hBZ
                  generalize (wa.alloc (.cells #[.int .i64 0, .int .i64 0, .int .i64 0, .int .i64 0, .int .i64 0] 36)).drew = wZ at *
                  refine hw_call 7 (some 110) rfl rfl (by kernel_rfl) (by rfl) (fun K hK => ?_)
                  go_simp
                  have hI := implTl 0 ep ak he y1 wZ
                  rw [← HG.out] at hI
                  refine hI.mono ?_
                  rintro e wF ⟨rfl, hnF⟩
                  clear hI
                  have nF := nZ.trans hnF
                  replace bZ := bZ.new hnF
                  go_simp
                  refine hK.out _ _ nF (fun _ => ?_)
                  simp only [Act.put, List.setIfInBounds_toArray, List.set_cons_zero, List.set_cons_succ]
                  refine hw_call 9 none rfl rfl (by kernel_rfl) (by rfl) (fun K hK => ?_)
                  refine hw_store 36 (.tmp 10) (.tmp 110) rfl rfl BZ #[.int .i64 8, .int .i64 0, .int .i64 0, .int .i64 0, .int .i64 0] #[.int .i64 0, .int .i64 0, .int .i64 0, .int .i64 0, .int .i64 0] rfl rfl bZ (by kernel_rfl) rfl (by kernel_rfl) ?_
                  have bR := bZ.rowW #[.int .i64 8, .int .i64 0, .int .i64 0, .int .i64 0, .int .i64 0]
                  have tR := Turn.rowW (Turn.refl (fun i => i = BZ) wF) rfl #[.int .i64 8, .int .i64 0, .int .i64 0, .int .i64 0, .int .i64 0]
                  have nR := nF.before tR (by intro i hi e; omega)
                  refine hK.out undef _ nR (fun _ => ?_)
                  refine wpAnyH_done (by kernel_rfl) ?_ _
                  generalize World.setRow _ _ _ = wR at *
                  go_wp2_with fail
                  go_meet
                  exact ⟨BZ, rfl, bR, nR, hBw⟩
                exact fun j hj => by cases hj
              case rest =>
                obtain ⟨BG, rfl, bG, hng, hBG⟩ := hcut
                generalize wc = wg at *
                have Ng := Na.trans hng
                have bCg := bCa.new hng
                have og := oa.new hng
                have bLg := bLa.new hng
                have zg := hng.size
                have lLg := bLa.lt
                clear Na bCa oa bLa hng HG
                go_upto_region 23 with fail
                go_cut [153] from 111 to 153 (fun v wx => v = .bool false ∧ New wg wx)
                case first =>
                  have rC := blk_regrown bCg
                  have rL := blk_regrown bLg
                  have rG := blk_regrown bG
                  obtain ⟨r0, r1⟩ := og.regrown
                  refine wp_region_quiet_below (by kernel_rfl) (by kernel_rfl) ?_
                  repeat (go_big_quiet_step (first | (go_at_call 17; exact calls_regrown (implMT_is 0 ep ak he y1 false _ hb2))))
                  refine wpQuiet_nil ?_
                  rintro wq hwq
                  replace hwq := new_of_regrown hwq
                  go_wp2_with fail
                  go_meet
                  exact ⟨rfl, hwq⟩
                case rest =>
                  obtain ⟨rfl, hnu⟩ := hcut
                  generalize wc = wu at *
                  have Nu := Ng.trans hnu
                  have bCu := bCg.new hnu
                  have ou := og.new hnu
                  have bLu := bLg.new hnu
                  have bGu := bG.new hnu
                  have zu := hnu.size
                  clear Ng bCg og bLg bG hnu
                  have cG := bGu.cells
                  have cL := bLu.cells
                  go_wp2_with fail
                  refine (implLeF_is 0 ep ak he 0 _ (lf_ok (HP.out))).mono ?_
                  rintro e wy ⟨rfl, hny⟩
                  have Ny := Nu.trans hny
                  have bCy := bCu.new hny
                  have oy := ou.new hny
                  have bLy := bLu.new hny
                  clear cL hny Nu bCu ou bLu
                  go_wp2
                  go_roundw
                  case rel => exact ⟨k + 1, nv, x1, y1, 0, ep, ak, he, g6, k6, by omega, by go_num, keep.out, by omega, HP.out, by omega, hak, bCy, oy, bLy, Ny⟩
                  case measure => simp [intOf]; omega
            case true =>
              have HG : Hid ((⟨0, 1, ep + 1, y1, y1⟩ : Lr) = tkR 0 ep ak he y1) := tk_ok HP.out (by omega) hb2 (by omega)
              have hb1 : mlB 0 ep ak he x1 = false := ml_no (nw := nv) (by omega) (by omega) hak hb2
              go_upto_region 22 with fail
              go_cut [10] from 103 to 110 (fun v wx => ∃ BG, v = .pointer (some ⟨BG, 0, none⟩) ∧ Blk wx BG 36 #[.int .i64 0, .int .i64 1, .int .i64 (ep + 1), .int .i64 y1, .int .i64 y1] ∧ New wa wx ∧ wa.heap.size ≤ BG)
              case first =>
                refine hw_start (n := 10) (S := fun X => New wa X) rfl (by kernel_rfl) ((New.refl _).drew) (fun hH => ?_)
                refine' hw_take 0 (some 103) (.agg #[.int .i64 0, .int .i64 ep, .int .i64 ak, .int .i64 he]) rfl rfl (by kernel_rfl) (by kernel_rfl) (by kernel_rfl) (fun _ _ _ h => h) (by rfl) hH ?hzB220true ?rzB220true
                case hzB220true =>
                  intro X hX
                  exact run_load_blk 28 (.tmp 4) rfl (w.heap.size + 1 + 1) rfl #[.int .i64 0, .int .i64 ep, .int .i64 ak, .int .i64 he] _ (bLa.new hX) Try.underlying28 rfl (by kernel_rfl)
                simp only [Act.put, List.setIfInBounds_toArray, List.set_cons_zero, List.set_cons_succ]
                refine' hw_take 1 (some 104) _ rfl rfl (by kernel_rfl) (by kernel_rfl) (by kernel_rfl) (fun _ _ _ h => h) (by rfl) hH ?hy52 ?rest52
                case hy52 =>
                  intro X hX
                  go_simp
                  try rfl
                simp only [Act.put, List.setIfInBounds_toArray, List.set_cons_zero, List.set_cons_succ]
                refine' hw_take 2 (some 105) _ rfl rfl (by kernel_rfl) (by kernel_rfl) (by kernel_rfl) (fun _ _ _ h => h) (by rfl) hH ?hy53 ?rest53
                case hy53 =>
                  intro X hX
                  have cC := (bCa.new hX).cells
                  go_simp
                  try rfl
                simp only [Act.put, List.setIfInBounds_toArray, List.set_cons_zero, List.set_cons_succ]
                refine' hw_take 3 (some 106) _ rfl rfl (by kernel_rfl) (by kernel_rfl) (by kernel_rfl) (fun _ _ _ h => h) (by rfl) hH ?hy54 ?rest54
                case hy54 =>
                  intro X hX
                  go_simp
                  try rfl
                simp only [Act.put, List.setIfInBounds_toArray, List.set_cons_zero, List.set_cons_succ]
                refine' hw_take 4 (some 107) _ rfl rfl (by kernel_rfl) (by kernel_rfl) (by kernel_rfl) (fun _ _ _ h => h) (by rfl) hH ?hy55 ?rest55
                case hy55 =>
                  intro X hX
                  go_simp
                  try rfl
                simp only [Act.put, List.setIfInBounds_toArray, List.set_cons_zero, List.set_cons_succ]
                refine' hw_take 5 (some 108) _ rfl rfl (by kernel_rfl) (by kernel_rfl) (by kernel_rfl) (fun _ _ _ h => h) (by rfl) hH ?hy56 ?rest56
                case hy56 =>
                  intro X hX
                  go_simp
                  try rfl
                simp only [Act.put, List.setIfInBounds_toArray, List.set_cons_zero, List.set_cons_succ]
                refine' hw_take 6 (some 109) _ rfl rfl (by kernel_rfl) (by kernel_rfl) (by kernel_rfl) (fun _ _ _ h => h) (by rfl) hH ?hy57 ?rest57
                case hy57 =>
                  intro X hX
                  obtain ⟨e0, e1⟩ := (oa.new hX).two
                  go_simp
                  try rfl
                simp only [Act.put, List.setIfInBounds_toArray, List.set_cons_zero, List.set_cons_succ]
                refine wpAnyH_ready (rs := [7, 8]) (by kernel_rfl) (by simp) ?_
                refine hw_step 7 (some 110) rfl rfl (by rfl) (fun K hK => ?_) ?_
                · skip
                  go_simp
                  have hI := implTl 0 ep ak he y1 wa.drew
                  rw [← HG.out] at hI
                  refine hI.mono ?_
                  rintro e wF ⟨rfl, hnF⟩
                  clear hI
                  have nF := hH.trans hnF
                  go_simp
                  refine hK.out _ _ nF (fun _ => ?_)
                  simp only [Act.put, List.setIfInBounds_toArray, List.set_cons_zero, List.set_cons_succ]
                  refine hw_call 8 (some 10) rfl rfl (by kernel_rfl) (by rfl) (fun K hK => ?_)
                  go_simp
                  have alZ : New wF ((wF.alloc (.cells #[.int .i64 0, .int .i64 0, .int .i64 0, .int .i64 0, .int .i64 0] 36))) := ((New.refl wF).alloc (.cells #[.int .i64 0, .int .i64 0, .int .i64 0, .int .i64 0, .int .i64 0] 36))
                  have bZ : Blk ((wF.alloc (.cells #[.int .i64 0, .int .i64 0, .int .i64 0, .int .i64 0, .int .i64 0] 36))) wF.heap.size 36 #[.int .i64 0, .int .i64 0, .int .i64 0, .int .i64 0, .int .i64 0] := (Blk.mk wF wF.heap.size 36 #[.int .i64 0, .int .i64 0, .int .i64 0, .int .i64 0, .int .i64 0] rfl)
                  have nZ : New wa ((wF.alloc (.cells #[.int .i64 0, .int .i64 0, .int .i64 0, .int .i64 0, .int .i64 0] 36))) := nF.trans alZ
                  refine hK.out _ _ nZ (fun _ => ?_)
                  simp only [Act.put, List.setIfInBounds_toArray, List.set_cons_zero, List.set_cons_succ]
                  obtain ⟨BZ, hBZ⟩ : ∃ BZ, BZ = wF.heap.size := ⟨_, rfl⟩
                  rw [← hBZ] at bZ ⊢
                  have hBw : wa.heap.size ≤ BZ := by have := nF.size; omega
                  clear hBZ
                  generalize (wF.alloc (.cells #[.int .i64 0, .int .i64 0, .int .i64 0, .int .i64 0, .int .i64 0] 36)) = wZ at *
                  refine hw_call 9 none rfl rfl (by kernel_rfl) (by rfl) (fun K hK => ?_)
                  refine hw_store 36 (.tmp 10) (.tmp 110) rfl rfl BZ #[.int .i64 0, .int .i64 1, .int .i64 (ep + 1), .int .i64 y1, .int .i64 y1] #[.int .i64 0, .int .i64 0, .int .i64 0, .int .i64 0, .int .i64 0] rfl rfl bZ (by kernel_rfl) rfl (by kernel_rfl) ?_
                  have bR := bZ.rowW #[.int .i64 0, .int .i64 1, .int .i64 (ep + 1), .int .i64 y1, .int .i64 y1]
                  have tR := Turn.rowW (Turn.refl (fun i => i = BZ) wZ) rfl #[.int .i64 0, .int .i64 1, .int .i64 (ep + 1), .int .i64 y1, .int .i64 y1]
                  have nR := nZ.before tR (by intro i hi e; omega)
                  refine hK.out undef _ nR (fun _ => ?_)
                  refine wpAnyH_done (by kernel_rfl) ?_ _
                  generalize World.setRow _ _ _ = wR at *
                  go_wp2_with fail
                  go_meet
                  exact ⟨BZ, rfl, bR, nR, hBw⟩
                refine hw_step 8 (some 10) rfl rfl (by rfl) (fun K hK => ?_) ?_
                · skip
                  go_simp
                  have alZ : New wa ((wa.alloc (.cells #[.int .i64 0, .int .i64 0, .int .i64 0, .int .i64 0, .int .i64 0] 36)).drew) := ((New.refl wa).alloc (.cells #[.int .i64 0, .int .i64 0, .int .i64 0, .int .i64 0, .int .i64 0] 36)).drew
                  have bZ : Blk ((wa.alloc (.cells #[.int .i64 0, .int .i64 0, .int .i64 0, .int .i64 0, .int .i64 0] 36)).drew) wa.heap.size 36 #[.int .i64 0, .int .i64 0, .int .i64 0, .int .i64 0, .int .i64 0] := (Blk.mk wa wa.heap.size 36 #[.int .i64 0, .int .i64 0, .int .i64 0, .int .i64 0, .int .i64 0] rfl).new ((New.refl _).drew)
                  have nZ : New wa ((wa.alloc (.cells #[.int .i64 0, .int .i64 0, .int .i64 0, .int .i64 0, .int .i64 0] 36)).drew) := alZ
                  refine hK.out _ _ nZ (fun _ => ?_)
                  simp only [Act.put, List.setIfInBounds_toArray, List.set_cons_zero, List.set_cons_succ]
                  obtain ⟨BZ, hBZ⟩ : ∃ BZ, BZ = wa.heap.size := ⟨_, rfl⟩
                  rw [← hBZ] at bZ ⊢
                  have hBw : wa.heap.size ≤ BZ := by omega
                  clear hBZ
                  generalize (wa.alloc (.cells #[.int .i64 0, .int .i64 0, .int .i64 0, .int .i64 0, .int .i64 0] 36)).drew = wZ at *
                  refine hw_call 7 (some 110) rfl rfl (by kernel_rfl) (by rfl) (fun K hK => ?_)
                  go_simp
                  have hI := implTl 0 ep ak he y1 wZ
                  rw [← HG.out] at hI
                  refine hI.mono ?_
                  rintro e wF ⟨rfl, hnF⟩
                  clear hI
                  have nF := nZ.trans hnF
                  replace bZ := bZ.new hnF
                  go_simp
                  refine hK.out _ _ nF (fun _ => ?_)
                  simp only [Act.put, List.setIfInBounds_toArray, List.set_cons_zero, List.set_cons_succ]
                  refine hw_call 9 none rfl rfl (by kernel_rfl) (by rfl) (fun K hK => ?_)
                  refine hw_store 36 (.tmp 10) (.tmp 110) rfl rfl BZ #[.int .i64 0, .int .i64 1, .int .i64 (ep + 1), .int .i64 y1, .int .i64 y1] #[.int .i64 0, .int .i64 0, .int .i64 0, .int .i64 0, .int .i64 0] rfl rfl bZ (by kernel_rfl) rfl (by kernel_rfl) ?_
                  have bR := bZ.rowW #[.int .i64 0, .int .i64 1, .int .i64 (ep + 1), .int .i64 y1, .int .i64 y1]
                  have tR := Turn.rowW (Turn.refl (fun i => i = BZ) wF) rfl #[.int .i64 0, .int .i64 1, .int .i64 (ep + 1), .int .i64 y1, .int .i64 y1]
                  have nR := nF.before tR (by intro i hi e; omega)
                  refine hK.out undef _ nR (fun _ => ?_)
                  refine wpAnyH_done (by kernel_rfl) ?_ _
                  generalize World.setRow _ _ _ = wR at *
                  go_wp2_with fail
                  go_meet
                  exact ⟨BZ, rfl, bR, nR, hBw⟩
                exact fun j hj => by cases hj
              case rest =>
                obtain ⟨BG, rfl, bG, hng, hBG⟩ := hcut
                generalize wc = wg at *
                have Ng := Na.trans hng
                have bCg := bCa.new hng
                have og := oa.new hng
                have bLg := bLa.new hng
                have zg := hng.size
                have lLg := bLa.lt
                clear Na bCa oa bLa hng HG
                go_upto_region 23 with fail
                go_cut [153] from 111 to 153 (fun v wx => v = .bool false ∧ New wg wx)
                case first =>
                  have rC := blk_regrown bCg
                  have rL := blk_regrown bLg
                  have rG := blk_regrown bG
                  obtain ⟨r0, r1⟩ := og.regrown
                  refine wp_region_quiet_below (by kernel_rfl) (by kernel_rfl) ?_
                  repeat (go_big_quiet_step (first | (go_at_call 17; exact calls_regrown (implMT_is 0 ep ak he y1 true _ hb2)) | (go_at_call 16; exact calls_regrown (implML_is 0 ep ak he x1 false _ hb1))))
                  refine wpQuiet_nil ?_
                  rintro wq hwq
                  replace hwq := new_of_regrown hwq
                  go_wp2_with fail
                  go_meet
                  exact ⟨rfl, hwq⟩
                case rest =>
                  obtain ⟨rfl, hnu⟩ := hcut
                  generalize wc = wu at *
                  have Nu := Ng.trans hnu
                  have bCu := bCg.new hnu
                  have ou := og.new hnu
                  have bLu := bLg.new hnu
                  have bGu := bG.new hnu
                  have zu := hnu.size
                  clear Ng bCg og bLg bG hnu
                  have cG := bGu.cells
                  have fL := bLu.frees
                  have cL := bLu.cells
                  go_upto_region 27 with fail
                  have bLh := (((bLu.set 0 (.int .i64 1)).set 1 (.int .i64 (ep + 1))).set 2 (.int .i64 y1)).set 3 (.int .i64 y1)
                  have th := ((((Turn.refl (fun i => i = w.heap.size + 1 + 1) wu).set (p := ⟨w.heap.size + 1 + 1, 0, none⟩) rfl (.int .i64 1)).set (p := ⟨w.heap.size + 1 + 1, 1, none⟩) rfl (.int .i64 (ep + 1))).set (p := ⟨w.heap.size + 1 + 1, 2, none⟩) rfl (.int .i64 y1)).set (p := ⟨w.heap.size + 1 + 1, 3, none⟩) rfl (.int .i64 y1)
                  replace bLh : Blk _ (w.heap.size + 1 + 1) 28 #[.int .i64 1, .int .i64 (ep + 1), .int .i64 y1, .int .i64 y1] := bLh
                  have bCh := bCu.turn th (by omega)
                  have oh := ou.turn th (fun e => gL e.symm)
                  have Nh := Nu.before th (by intro i hi e; omega)
                  generalize (((wu.setCell ⟨w.heap.size + 1 + 1, 0, none⟩ (.int .i64 1)).setCell ⟨w.heap.size + 1 + 1, 1, none⟩ (.int .i64 (ep + 1))).setCell ⟨w.heap.size + 1 + 1, 2, none⟩ (.int .i64 y1)).setCell ⟨w.heap.size + 1 + 1, 3, none⟩ (.int .i64 y1) = wh at *
                  clear cG cL fL bGu bLu bCu ou Nu th
                  have GP : Hid (LeP 1 (ep + 1) y1 y1) := ⟨⟨by omega, by omega⟩, ⟨by omega, by omega⟩, ⟨by omega, by omega⟩, ⟨by omega, by omega⟩⟩
                  have cL := bLh.cells
                  go_wp2_with fail
                  refine (implLeF_is 1 (ep + 1) y1 y1 0 _ (lf_ok (GP.out))).mono ?_
                  rintro e wy ⟨rfl, hny⟩
                  have Ny := Nh.trans hny
                  have bCy := bCh.new hny
                  have oy := oh.new hny
                  have bLy := bLh.new hny
                  clear cL hny Nh bCh oh bLh
                  go_wp2
                  go_roundw
                  case rel => exact ⟨k + 1, nv, x1, y1, 1, ep + 1, y1, y1, g6, k6, by omega, by go_num, keep.out, by omega, GP.out, by omega, by omega, bCy, oy, bLy, Ny⟩
                  case measure => simp [intOf]; omega
          have v1 : (r16 == 1) = false := by simpa using u1
          have cL := bLa.cells
          go_wp2_with fail
          refine (implLeF_is 0 ep ak he 0 _ (lf_ok (HP.out))).mono ?_
          rintro e wy ⟨rfl, hny⟩
          have Ny := Na.trans hny
          have bCy := bCa.new hny
          have oy := oa.new hny
          have bLy := bLa.new hny
          clear cL hny Na bCa oa bLa
          go_wp2
          go_roundw
          case rel => exact ⟨k + 1, nv, x1, y1, 0, ep, ak, he, g6, k6, by omega, by go_num, keep.out, by omega, HP.out, by omega, hak, bCy, oy, bLy, Ny⟩
          case measure => simp [intOf]; omega
      case inr =>
        go_upto_region 13 with fail
        have bC8 := (bC7.set 0 (.int .i64 nv)).set 1 (.slice (some ⟨g6, 0, none⟩) 2 k6)
        have t8 := ((Turn.refl (fun i => i = w.heap.size + 1) w7).set (p := ⟨w.heap.size + 1, 0, none⟩) rfl (.int .i64 nv)).set (p := ⟨w.heap.size + 1, 1, none⟩) rfl (.slice (some ⟨g6, 0, none⟩) 2 k6)
        replace bC8 : Blk _ (w.heap.size + 1) 26 #[.int .i64 nv, .slice (some ⟨g6, 0, none⟩) 2 k6] := bC8
        have o8 := o7.turn t8 (fun e => gC e.symm)
        have bL8 := bL7.turn t8 (by omega)
        have N8 := N7.before t8 (by intro i hi e; omega)
        have z8 := t8.size
        generalize (w7.setCell ⟨w.heap.size + 1, 0, none⟩ (.int .i64 nv)).setCell ⟨w.heap.size + 1, 1, none⟩ (.slice (some ⟨g6, 0, none⟩) 2 k6) = w8 at *
        clear cT cC fC cL e0 e1 bC7 o7o o7 bL7 bT7 N7 t8
        have cL := bL8.cells
        go_upto_region 14 with fail
        clear cL
        go_cut [80] from 64 to 80 (fun v wx => v = .bool false ∧ New w8 wx)
        case first =>
          have rC := blk_regrown bC8
          have rL := blk_regrown bL8
          obtain ⟨r0, r1⟩ := o8.regrown
          cases hb1 : mlB 1 ep ak he y1
          case false =>
            refine wp_region_quiet_below (by kernel_rfl) (by kernel_rfl) ?_
            repeat (go_big_quiet_step (first | (go_at_call 16; exact calls_regrown (implML_is 1 ep ak he y1 false _ hb1))))
            refine wpQuiet_nil ?_
            rintro wq hwq
            replace hwq := new_of_regrown hwq
            go_wp2_with fail
            go_meet
            exact ⟨rfl, hwq⟩
          case true =>
            have hb2 : mtB 1 ep ak he x1 = false := no_both (nw := nv) (by omega) (by omega) hak hb1
            refine wp_region_quiet_below (by kernel_rfl) (by kernel_rfl) ?_
            repeat (go_big_quiet_step (first | (go_at_call 16; exact calls_regrown (implML_is 1 ep ak he y1 true _ hb1)) | (go_at_call 17; exact calls_regrown (implMT_is 1 ep ak he x1 false _ hb2))))
            refine wpQuiet_nil ?_
            rintro wq hwq
            replace hwq := new_of_regrown hwq
            go_wp2_with fail
            go_meet
            exact ⟨rfl, hwq⟩
        case rest =>
          obtain ⟨rfl, hn9⟩ := hcut
          generalize wc = w9 at *
          have N9 := N8.trans hn9
          have bC9 := bC8.new hn9
          have o9 := o8.new hn9
          have bL9 := bL8.new hn9
          have z9 := hn9.size
          clear N8 bC8 o8 bL8 hn9
          have qc : IntKind.i64.wrap ((k : Int) + 120) = (k : Int) + 120 := w13 (by omega) (by omega)
          go_wp2_with fail
          refine (lwAt_z a n c ((k : Int) + 120) 4 zs _ (h.new N9) HN.out hmb (by omega) (by omega) (by omega) (by omega)).mono ?_
          rintro e wa ⟨r16, rfl, lo16, hi16, hna⟩
          have Na := N9.trans hna
          have bCa := bC9.new hna
          have oa := o9.new hna
          have bLa := bL9.new hna
          have za := hna.size
          clear N9 bC9 o9 bL9 hna qc
          by_cases u0 : r16 = 0
          case pos =>
            subst u0
            obtain ⟨⟨rc, rh, re, ra, rr⟩, HG⟩ : ∃ q, Hid (q = grR 1 ep ak he y x1) := ⟨_, rfl⟩
            go_upto_region 18 with fail
            go_cut [9] from 87 to 95 (fun v wx => ∃ BG, v = .pointer (some ⟨BG, 0, none⟩) ∧ Blk wx BG 36 #[.int .i64 rc, .int .i64 rh, .int .i64 re, .int .i64 ra, .int .i64 rr] ∧ New wa wx ∧ wa.heap.size ≤ BG)
            case first =>
              refine hw_start (n := 11) (S := fun X => New wa X) rfl (by kernel_rfl) ((New.refl _).drew) (fun hH => ?_)
              refine' hw_take 0 (some 87) (.agg #[.int .i64 1, .int .i64 ep, .int .i64 ak, .int .i64 he]) rfl rfl (by kernel_rfl) (by kernel_rfl) (by kernel_rfl) (fun _ _ _ h => h) (by rfl) hH ?hzB181 ?rzB181
              case hzB181 =>
                intro X hX
                exact run_load_blk 28 (.tmp 4) rfl (w.heap.size + 1 + 1) rfl #[.int .i64 1, .int .i64 ep, .int .i64 ak, .int .i64 he] _ (bLa.new hX) Try.underlying28 rfl (by kernel_rfl)
              simp only [Act.put, List.setIfInBounds_toArray, List.set_cons_zero, List.set_cons_succ]
              refine' hw_take 1 (some 88) _ rfl rfl (by kernel_rfl) (by kernel_rfl) (by kernel_rfl) (fun _ _ _ h => h) (by rfl) hH ?hy58 ?rest58
              case hy58 =>
                intro X hX
                go_simp
                try rfl
              simp only [Act.put, List.setIfInBounds_toArray, List.set_cons_zero, List.set_cons_succ]
              refine' hw_take 2 (some 89) _ rfl rfl (by kernel_rfl) (by kernel_rfl) (by kernel_rfl) (fun _ _ _ h => h) (by rfl) hH ?hy59 ?rest59
              case hy59 =>
                intro X hX
                go_simp
                try rfl
              simp only [Act.put, List.setIfInBounds_toArray, List.set_cons_zero, List.set_cons_succ]
              refine' hw_take 3 (some 90) _ rfl rfl (by kernel_rfl) (by kernel_rfl) (by kernel_rfl) (fun _ _ _ h => h) (by rfl) hH ?hy60 ?rest60
              case hy60 =>
                intro X hX
                have cC := (bCa.new hX).cells
                go_simp
                try rfl
              simp only [Act.put, List.setIfInBounds_toArray, List.set_cons_zero, List.set_cons_succ]
              refine' hw_take 4 (some 91) _ rfl rfl (by kernel_rfl) (by kernel_rfl) (by kernel_rfl) (fun _ _ _ h => h) (by rfl) hH ?hy61 ?rest61
              case hy61 =>
                intro X hX
                go_simp
                try rfl
              simp only [Act.put, List.setIfInBounds_toArray, List.set_cons_zero, List.set_cons_succ]
              refine' hw_take 5 (some 92) _ rfl rfl (by kernel_rfl) (by kernel_rfl) (by kernel_rfl) (fun _ _ _ h => h) (by rfl) hH ?hy62 ?rest62
              case hy62 =>
                intro X hX
                go_simp
                try rfl
              simp only [Act.put, List.setIfInBounds_toArray, List.set_cons_zero, List.set_cons_succ]
              refine' hw_take 6 (some 93) _ rfl rfl (by kernel_rfl) (by kernel_rfl) (by kernel_rfl) (fun _ _ _ h => h) (by rfl) hH ?hy63 ?rest63
              case hy63 =>
                intro X hX
                go_simp
                try rfl
              simp only [Act.put, List.setIfInBounds_toArray, List.set_cons_zero, List.set_cons_succ]
              refine' hw_take 7 (some 94) _ rfl rfl (by kernel_rfl) (by kernel_rfl) (by kernel_rfl) (fun _ _ _ h => h) (by rfl) hH ?hy64 ?rest64
              case hy64 =>
                intro X hX
                obtain ⟨e0, e1⟩ := (oa.new hX).two
                go_simp
                try rfl
              simp only [Act.put, List.setIfInBounds_toArray, List.set_cons_zero, List.set_cons_succ]
              refine wpAnyH_ready (rs := [8, 9]) (by kernel_rfl) (by simp) ?_
              refine hw_step 8 (some 95) rfl rfl (by rfl) (fun K hK => ?_) ?_
              · skip
                go_simp
                have hI := implGr 1 ep ak he y x1 wa.drew
                rw [← HG.out] at hI
                refine hI.mono ?_
                rintro e wF ⟨rfl, hnF⟩
                clear hI
                have nF := hH.trans hnF
                go_simp
                refine hK.out _ _ nF (fun _ => ?_)
                simp only [Act.put, List.setIfInBounds_toArray, List.set_cons_zero, List.set_cons_succ]
                refine hw_call 9 (some 9) rfl rfl (by kernel_rfl) (by rfl) (fun K hK => ?_)
                go_simp
                have alZ : New wF ((wF.alloc (.cells #[.int .i64 0, .int .i64 0, .int .i64 0, .int .i64 0, .int .i64 0] 36))) := ((New.refl wF).alloc (.cells #[.int .i64 0, .int .i64 0, .int .i64 0, .int .i64 0, .int .i64 0] 36))
                have bZ : Blk ((wF.alloc (.cells #[.int .i64 0, .int .i64 0, .int .i64 0, .int .i64 0, .int .i64 0] 36))) wF.heap.size 36 #[.int .i64 0, .int .i64 0, .int .i64 0, .int .i64 0, .int .i64 0] := (Blk.mk wF wF.heap.size 36 #[.int .i64 0, .int .i64 0, .int .i64 0, .int .i64 0, .int .i64 0] rfl)
                have nZ : New wa ((wF.alloc (.cells #[.int .i64 0, .int .i64 0, .int .i64 0, .int .i64 0, .int .i64 0] 36))) := nF.trans alZ
                refine hK.out _ _ nZ (fun _ => ?_)
                simp only [Act.put, List.setIfInBounds_toArray, List.set_cons_zero, List.set_cons_succ]
                obtain ⟨BZ, hBZ⟩ : ∃ BZ, BZ = wF.heap.size := ⟨_, rfl⟩
                rw [← hBZ] at bZ ⊢
                have hBw : wa.heap.size ≤ BZ := by have := nF.size; omega
                clear hBZ
                generalize (wF.alloc (.cells #[.int .i64 0, .int .i64 0, .int .i64 0, .int .i64 0, .int .i64 0] 36)) = wZ at *
                refine hw_call 10 none rfl rfl (by kernel_rfl) (by rfl) (fun K hK => ?_)
                refine hw_store 36 (.tmp 9) (.tmp 95) rfl rfl BZ #[.int .i64 rc, .int .i64 rh, .int .i64 re, .int .i64 ra, .int .i64 rr] #[.int .i64 0, .int .i64 0, .int .i64 0, .int .i64 0, .int .i64 0] rfl rfl bZ (by kernel_rfl) rfl (by kernel_rfl) ?_
                have bR := bZ.rowW #[.int .i64 rc, .int .i64 rh, .int .i64 re, .int .i64 ra, .int .i64 rr]
                have tR := Turn.rowW (Turn.refl (fun i => i = BZ) wZ) rfl #[.int .i64 rc, .int .i64 rh, .int .i64 re, .int .i64 ra, .int .i64 rr]
                have nR := nZ.before tR (by intro i hi e; omega)
                refine hK.out undef _ nR (fun _ => ?_)
                refine wpAnyH_done (by kernel_rfl) ?_ _
                generalize World.setRow _ _ _ = wR at *
                go_wp2_with fail
                go_meet
                exact ⟨BZ, rfl, bR, nR, hBw⟩
              refine hw_step 9 (some 9) rfl rfl (by rfl) (fun K hK => ?_) ?_
              · skip
                go_simp
                have alZ : New wa ((wa.alloc (.cells #[.int .i64 0, .int .i64 0, .int .i64 0, .int .i64 0, .int .i64 0] 36)).drew) := ((New.refl wa).alloc (.cells #[.int .i64 0, .int .i64 0, .int .i64 0, .int .i64 0, .int .i64 0] 36)).drew
                have bZ : Blk ((wa.alloc (.cells #[.int .i64 0, .int .i64 0, .int .i64 0, .int .i64 0, .int .i64 0] 36)).drew) wa.heap.size 36 #[.int .i64 0, .int .i64 0, .int .i64 0, .int .i64 0, .int .i64 0] := (Blk.mk wa wa.heap.size 36 #[.int .i64 0, .int .i64 0, .int .i64 0, .int .i64 0, .int .i64 0] rfl).new ((New.refl _).drew)
                have nZ : New wa ((wa.alloc (.cells #[.int .i64 0, .int .i64 0, .int .i64 0, .int .i64 0, .int .i64 0] 36)).drew) := alZ
                refine hK.out _ _ nZ (fun _ => ?_)
                simp only [Act.put, List.setIfInBounds_toArray, List.set_cons_zero, List.set_cons_succ]
                obtain ⟨BZ, hBZ⟩ : ∃ BZ, BZ = wa.heap.size := ⟨_, rfl⟩
                rw [← hBZ] at bZ ⊢
                have hBw : wa.heap.size ≤ BZ := by omega
                clear hBZ
                generalize (wa.alloc (.cells #[.int .i64 0, .int .i64 0, .int .i64 0, .int .i64 0, .int .i64 0] 36)).drew = wZ at *
                refine hw_call 8 (some 95) rfl rfl (by kernel_rfl) (by rfl) (fun K hK => ?_)
                go_simp
                have hI := implGr 1 ep ak he y x1 wZ
                rw [← HG.out] at hI
                refine hI.mono ?_
                rintro e wF ⟨rfl, hnF⟩
                clear hI
                have nF := nZ.trans hnF
                replace bZ := bZ.new hnF
                go_simp
                refine hK.out _ _ nF (fun _ => ?_)
                simp only [Act.put, List.setIfInBounds_toArray, List.set_cons_zero, List.set_cons_succ]
                refine hw_call 10 none rfl rfl (by kernel_rfl) (by rfl) (fun K hK => ?_)
                refine hw_store 36 (.tmp 9) (.tmp 95) rfl rfl BZ #[.int .i64 rc, .int .i64 rh, .int .i64 re, .int .i64 ra, .int .i64 rr] #[.int .i64 0, .int .i64 0, .int .i64 0, .int .i64 0, .int .i64 0] rfl rfl bZ (by kernel_rfl) rfl (by kernel_rfl) ?_
                have bR := bZ.rowW #[.int .i64 rc, .int .i64 rh, .int .i64 re, .int .i64 ra, .int .i64 rr]
                have tR := Turn.rowW (Turn.refl (fun i => i = BZ) wF) rfl #[.int .i64 rc, .int .i64 rh, .int .i64 re, .int .i64 ra, .int .i64 rr]
                have nR := nF.before tR (by intro i hi e; omega)
                refine hK.out undef _ nR (fun _ => ?_)
                refine wpAnyH_done (by kernel_rfl) ?_ _
                generalize World.setRow _ _ _ = wR at *
                go_wp2_with fail
                go_meet
                exact ⟨BZ, rfl, bR, nR, hBw⟩
              exact fun j hj => by cases hj
            case rest =>
              obtain ⟨BG, rfl, bG, hng, hBG⟩ := hcut
              generalize wc = wg at *
              have Ng := Na.trans hng
              have bCg := bCa.new hng
              have og := oa.new hng
              have bLg := bLa.new hng
              have zg := hng.size
              have lLg := bLa.lt
              clear Na bCa oa bLa hng
              have cG := bG.cells
              by_cases hc : rc = 0
              case neg =>
                have hc' : (rc == 0) = false := by simpa using hc
                have cL := bLg.cells
                go_wp2_with fail
                refine (implLeF_is 1 ep ak he 0 _ (lf_ok (HP.out))).mono ?_
                rintro e wy ⟨rfl, hny⟩
                have Ny := Ng.trans hny
                have bCy := bCg.new hny
                have oy := og.new hny
                have bLy := bLg.new hny
                clear cL hny Ng bCg og bLg
                go_wp2
                go_roundw
                case rel => exact ⟨k + 1, nv, x1, y1, 1, ep, ak, he, g6, k6, by omega, by go_num, keep.out, by omega, HP.out, by omega, hak, bCy, oy, bLy, Ny⟩
                case measure => simp [intOf]; omega
              subst hc
              obtain ⟨e1, e2, e3, e4, gp, gk⟩ := gr_ok HG.out (by omega)
              clear HG
              subst e1 e2 e3 e4
              have GP : Hid (LeP 1 ep y x1) := gp
              clear gp
              have fL := bLg.frees
              have cL := bLg.cells
              go_upto_region 27 with fail
              have bLh := (((bLg.set 0 (.int .i64 1)).set 1 (.int .i64 ep)).set 2 (.int .i64 y)).set 3 (.int .i64 x1)
              have th := ((((Turn.refl (fun i => i = w.heap.size + 1 + 1) wg).set (p := ⟨w.heap.size + 1 + 1, 0, none⟩) rfl (.int .i64 1)).set (p := ⟨w.heap.size + 1 + 1, 1, none⟩) rfl (.int .i64 ep)).set (p := ⟨w.heap.size + 1 + 1, 2, none⟩) rfl (.int .i64 y)).set (p := ⟨w.heap.size + 1 + 1, 3, none⟩) rfl (.int .i64 x1)
              replace bLh : Blk _ (w.heap.size + 1 + 1) 28 #[.int .i64 1, .int .i64 ep, .int .i64 y, .int .i64 x1] := bLh
              have bCh := bCg.turn th (by omega)
              have oh := og.turn th (fun e => gL e.symm)
              have Nh := Ng.before th (by intro i hi e; omega)
              generalize (((wg.setCell ⟨w.heap.size + 1 + 1, 0, none⟩ (.int .i64 1)).setCell ⟨w.heap.size + 1 + 1, 1, none⟩ (.int .i64 ep)).setCell ⟨w.heap.size + 1 + 1, 2, none⟩ (.int .i64 y)).setCell ⟨w.heap.size + 1 + 1, 3, none⟩ (.int .i64 x1) = wh at *
              clear cG cL fL bG bLg bCg og Ng th
              have cL := bLh.cells
              go_wp2_with fail
              refine (implLeF_is 1 ep y x1 0 _ (lf_ok (GP.out))).mono ?_
              rintro e wy ⟨rfl, hny⟩
              have Ny := Nh.trans hny
              have bCy := bCh.new hny
              have oy := oh.new hny
              have bLy := bLh.new hny
              clear cL hny Nh bCh oh bLh
              go_wp2
              go_roundw
              case rel => exact ⟨k + 1, nv, x1, y1, 1, ep, y, x1, g6, k6, by omega, by go_num, keep.out, by omega, GP.out, by omega, by omega, bCy, oy, bLy, Ny⟩
              case measure => simp [intOf]; omega
          have v0 : (r16 == 0) = false := by simpa using u0
          by_cases u1 : r16 = 1
          case pos =>
            subst u1
            have qe : IntKind.i64.wrap (ep + 1) = ep + 1 := w13 (by omega) (by omega)
            cases hb2 : mtB 1 ep ak he x1
            case false =>
              have HG : Hid ((⟨8, 0, 0, 0, 0⟩ : Lr) = tkR 1 ep ak he x1) := tk_no HP.out hb2
              go_upto_region 22 with fail
              go_cut [10] from 103 to 110 (fun v wx => ∃ BG, v = .pointer (some ⟨BG, 0, none⟩) ∧ Blk wx BG 36 #[.int .i64 8, .int .i64 0, .int .i64 0, .int .i64 0, .int .i64 0] ∧ New wa wx ∧ wa.heap.size ≤ BG)
              case first =>
                refine hw_start (n := 10) (S := fun X => New wa X) rfl (by kernel_rfl) ((New.refl _).drew) (fun hH => ?_)
                refine' hw_take 0 (some 103) (.agg #[.int .i64 1, .int .i64 ep, .int .i64 ak, .int .i64 he]) rfl rfl (by kernel_rfl) (by kernel_rfl) (by kernel_rfl) (fun _ _ _ h => h) (by rfl) hH ?hzB221false ?rzB221false
                case hzB221false =>
                  intro X hX
                  exact run_load_blk 28 (.tmp 4) rfl (w.heap.size + 1 + 1) rfl #[.int .i64 1, .int .i64 ep, .int .i64 ak, .int .i64 he] _ (bLa.new hX) Try.underlying28 rfl (by kernel_rfl)
                simp only [Act.put, List.setIfInBounds_toArray, List.set_cons_zero, List.set_cons_succ]
                refine' hw_take 1 (some 104) _ rfl rfl (by kernel_rfl) (by kernel_rfl) (by kernel_rfl) (fun _ _ _ h => h) (by rfl) hH ?hy65 ?rest65
                case hy65 =>
                  intro X hX
                  go_simp
                  try rfl
                simp only [Act.put, List.setIfInBounds_toArray, List.set_cons_zero, List.set_cons_succ]
                refine' hw_take 2 (some 105) _ rfl rfl (by kernel_rfl) (by kernel_rfl) (by kernel_rfl) (fun _ _ _ h => h) (by rfl) hH ?hy66 ?rest66
                case hy66 =>
                  intro X hX
                  have cC := (bCa.new hX).cells
                  go_simp
                  try rfl
                simp only [Act.put, List.setIfInBounds_toArray, List.set_cons_zero, List.set_cons_succ]
                refine' hw_take 3 (some 106) _ rfl rfl (by kernel_rfl) (by kernel_rfl) (by kernel_rfl) (fun _ _ _ h => h) (by rfl) hH ?hy67 ?rest67
                case hy67 =>
                  intro X hX
                  go_simp
                  try rfl
                simp only [Act.put, List.setIfInBounds_toArray, List.set_cons_zero, List.set_cons_succ]
                refine' hw_take 4 (some 107) _ rfl rfl (by kernel_rfl) (by kernel_rfl) (by kernel_rfl) (fun _ _ _ h => h) (by rfl) hH ?hy68 ?rest68
                case hy68 =>
                  intro X hX
                  go_simp
                  try rfl
                simp only [Act.put, List.setIfInBounds_toArray, List.set_cons_zero, List.set_cons_succ]
                refine' hw_take 5 (some 108) _ rfl rfl (by kernel_rfl) (by kernel_rfl) (by kernel_rfl) (fun _ _ _ h => h) (by rfl) hH ?hy69 ?rest69
                case hy69 =>
                  intro X hX
                  go_simp
                  try rfl
                simp only [Act.put, List.setIfInBounds_toArray, List.set_cons_zero, List.set_cons_succ]
                refine' hw_take 6 (some 109) _ rfl rfl (by kernel_rfl) (by kernel_rfl) (by kernel_rfl) (fun _ _ _ h => h) (by rfl) hH ?hy70 ?rest70
                case hy70 =>
                  intro X hX
                  obtain ⟨e0, e1⟩ := (oa.new hX).two
                  go_simp
                  try rfl
                simp only [Act.put, List.setIfInBounds_toArray, List.set_cons_zero, List.set_cons_succ]
                refine wpAnyH_ready (rs := [7, 8]) (by kernel_rfl) (by simp) ?_
                refine hw_step 7 (some 110) rfl rfl (by rfl) (fun K hK => ?_) ?_
                · skip
                  go_simp
                  have hI := implTl 1 ep ak he x1 wa.drew
                  rw [← HG.out] at hI
                  refine hI.mono ?_
                  rintro e wF ⟨rfl, hnF⟩
                  clear hI
                  have nF := hH.trans hnF
                  go_simp
                  refine hK.out _ _ nF (fun _ => ?_)
                  simp only [Act.put, List.setIfInBounds_toArray, List.set_cons_zero, List.set_cons_succ]
                  refine hw_call 8 (some 10) rfl rfl (by kernel_rfl) (by rfl) (fun K hK => ?_)
                  go_simp
                  have alZ : New wF ((wF.alloc (.cells #[.int .i64 0, .int .i64 0, .int .i64 0, .int .i64 0, .int .i64 0] 36))) := ((New.refl wF).alloc (.cells #[.int .i64 0, .int .i64 0, .int .i64 0, .int .i64 0, .int .i64 0] 36))
                  have bZ : Blk ((wF.alloc (.cells #[.int .i64 0, .int .i64 0, .int .i64 0, .int .i64 0, .int .i64 0] 36))) wF.heap.size 36 #[.int .i64 0, .int .i64 0, .int .i64 0, .int .i64 0, .int .i64 0] := (Blk.mk wF wF.heap.size 36 #[.int .i64 0, .int .i64 0, .int .i64 0, .int .i64 0, .int .i64 0] rfl)
                  have nZ : New wa ((wF.alloc (.cells #[.int .i64 0, .int .i64 0, .int .i64 0, .int .i64 0, .int .i64 0] 36))) := nF.trans alZ
                  refine hK.out _ _ nZ (fun _ => ?_)
                  simp only [Act.put, List.setIfInBounds_toArray, List.set_cons_zero, List.set_cons_succ]
                  obtain ⟨BZ, hBZ⟩ : ∃ BZ, BZ = wF.heap.size := ⟨_, rfl⟩
                  rw [← hBZ] at bZ ⊢
                  have hBw : wa.heap.size ≤ BZ := by have := nF.size; omega
                  clear hBZ
                  generalize (wF.alloc (.cells #[.int .i64 0, .int .i64 0, .int .i64 0, .int .i64 0, .int .i64 0] 36)) = wZ at *
                  refine hw_call 9 none rfl rfl (by kernel_rfl) (by rfl) (fun K hK => ?_)
                  refine hw_store 36 (.tmp 10) (.tmp 110) rfl rfl BZ #[.int .i64 8, .int .i64 0, .int .i64 0, .int .i64 0, .int .i64 0] #[.int .i64 0, .int .i64 0, .int .i64 0, .int .i64 0, .int .i64 0] rfl rfl bZ (by kernel_rfl) rfl (by kernel_rfl) ?_
                  have bR := bZ.rowW #[.int .i64 8, .int .i64 0, .int .i64 0, .int .i64 0, .int .i64 0]
                  have tR := Turn.rowW (Turn.refl (fun i => i = BZ) wZ) rfl #[.int .i64 8, .int .i64 0, .int .i64 0, .int .i64 0, .int .i64 0]
                  have nR := nZ.before tR (by intro i hi e; omega)
                  refine hK.out undef _ nR (fun _ => ?_)
                  refine wpAnyH_done (by kernel_rfl) ?_ _
                  generalize World.setRow _ _ _ = wR at *
                  go_wp2_with fail
                  go_meet
                  exact ⟨BZ, rfl, bR, nR, hBw⟩
                refine hw_step 8 (some 10) rfl rfl (by rfl) (fun K hK => ?_) ?_
                · skip
                  go_simp
                  have alZ : New wa ((wa.alloc (.cells #[.int .i64 0, .int .i64 0, .int .i64 0, .int .i64 0, .int .i64 0] 36)).drew) := ((New.refl wa).alloc (.cells #[.int .i64 0, .int .i64 0, .int .i64 0, .int .i64 0, .int .i64 0] 36)).drew
                  have bZ : Blk ((wa.alloc (.cells #[.int .i64 0, .int .i64 0, .int .i64 0, .int .i64 0, .int .i64 0] 36)).drew) wa.heap.size 36 #[.int .i64 0, .int .i64 0, .int .i64 0, .int .i64 0, .int .i64 0] := (Blk.mk wa wa.heap.size 36 #[.int .i64 0, .int .i64 0, .int .i64 0, .int .i64 0, .int .i64 0] rfl).new ((New.refl _).drew)
                  have nZ : New wa ((wa.alloc (.cells #[.int .i64 0, .int .i64 0, .int .i64 0, .int .i64 0, .int .i64 0] 36)).drew) := alZ
                  refine hK.out _ _ nZ (fun _ => ?_)
                  simp only [Act.put, List.setIfInBounds_toArray, List.set_cons_zero, List.set_cons_succ]
                  obtain ⟨BZ, hBZ⟩ : ∃ BZ, BZ = wa.heap.size := ⟨_, rfl⟩
                  rw [← hBZ] at bZ ⊢
                  have hBw : wa.heap.size ≤ BZ := by omega
                  clear hBZ
                  generalize (wa.alloc (.cells #[.int .i64 0, .int .i64 0, .int .i64 0, .int .i64 0, .int .i64 0] 36)).drew = wZ at *
                  refine hw_call 7 (some 110) rfl rfl (by kernel_rfl) (by rfl) (fun K hK => ?_)
                  go_simp
                  have hI := implTl 1 ep ak he x1 wZ
                  rw [← HG.out] at hI
                  refine hI.mono ?_
                  rintro e wF ⟨rfl, hnF⟩
                  clear hI
                  have nF := nZ.trans hnF
                  replace bZ := bZ.new hnF
                  go_simp
                  refine hK.out _ _ nF (fun _ => ?_)
                  simp only [Act.put, List.setIfInBounds_toArray, List.set_cons_zero, List.set_cons_succ]
                  refine hw_call 9 none rfl rfl (by kernel_rfl) (by rfl) (fun K hK => ?_)
                  refine hw_store 36 (.tmp 10) (.tmp 110) rfl rfl BZ #[.int .i64 8, .int .i64 0, .int .i64 0, .int .i64 0, .int .i64 0] #[.int .i64 0, .int .i64 0, .int .i64 0, .int .i64 0, .int .i64 0] rfl rfl bZ (by kernel_rfl) rfl (by kernel_rfl) ?_
                  have bR := bZ.rowW #[.int .i64 8, .int .i64 0, .int .i64 0, .int .i64 0, .int .i64 0]
                  have tR := Turn.rowW (Turn.refl (fun i => i = BZ) wF) rfl #[.int .i64 8, .int .i64 0, .int .i64 0, .int .i64 0, .int .i64 0]
                  have nR := nF.before tR (by intro i hi e; omega)
                  refine hK.out undef _ nR (fun _ => ?_)
                  refine wpAnyH_done (by kernel_rfl) ?_ _
                  generalize World.setRow _ _ _ = wR at *
                  go_wp2_with fail
                  go_meet
                  exact ⟨BZ, rfl, bR, nR, hBw⟩
                exact fun j hj => by cases hj
              case rest =>
                obtain ⟨BG, rfl, bG, hng, hBG⟩ := hcut
                generalize wc = wg at *
                have Ng := Na.trans hng
                have bCg := bCa.new hng
                have og := oa.new hng
                have bLg := bLa.new hng
                have zg := hng.size
                have lLg := bLa.lt
                clear Na bCa oa bLa hng HG
                go_upto_region 23 with fail
                go_cut [153] from 111 to 153 (fun v wx => v = .bool false ∧ New wg wx)
                case first =>
                  have rC := blk_regrown bCg
                  have rL := blk_regrown bLg
                  have rG := blk_regrown bG
                  obtain ⟨r0, r1⟩ := og.regrown
                  refine wp_region_quiet_below (by kernel_rfl) (by kernel_rfl) ?_
                  repeat (go_big_quiet_step (first | (go_at_call 17; exact calls_regrown (implMT_is 1 ep ak he x1 false _ hb2))))
                  refine wpQuiet_nil ?_
                  rintro wq hwq
                  replace hwq := new_of_regrown hwq
                  go_wp2_with fail
                  go_meet
                  exact ⟨rfl, hwq⟩
                case rest =>
                  obtain ⟨rfl, hnu⟩ := hcut
                  generalize wc = wu at *
                  have Nu := Ng.trans hnu
                  have bCu := bCg.new hnu
                  have ou := og.new hnu
                  have bLu := bLg.new hnu
                  have bGu := bG.new hnu
                  have zu := hnu.size
                  clear Ng bCg og bLg bG hnu
                  have cG := bGu.cells
                  have cL := bLu.cells
                  go_wp2_with fail
                  refine (implLeF_is 1 ep ak he 0 _ (lf_ok (HP.out))).mono ?_
                  rintro e wy ⟨rfl, hny⟩
                  have Ny := Nu.trans hny
                  have bCy := bCu.new hny
                  have oy := ou.new hny
                  have bLy := bLu.new hny
                  clear cL hny Nu bCu ou bLu
                  go_wp2
                  go_roundw
                  case rel => exact ⟨k + 1, nv, x1, y1, 1, ep, ak, he, g6, k6, by omega, by go_num, keep.out, by omega, HP.out, by omega, hak, bCy, oy, bLy, Ny⟩
                  case measure => simp [intOf]; omega
            case true =>
              have HG : Hid ((⟨0, 0, ep + 1, x1, x1⟩ : Lr) = tkR 1 ep ak he x1) := tk_ok HP.out (by omega) hb2 (by omega)
              have hb1 : mlB 1 ep ak he y1 = false := ml_no (nw := nv) (by omega) (by omega) hak hb2
              go_upto_region 22 with fail
              go_cut [10] from 103 to 110 (fun v wx => ∃ BG, v = .pointer (some ⟨BG, 0, none⟩) ∧ Blk wx BG 36 #[.int .i64 0, .int .i64 0, .int .i64 (ep + 1), .int .i64 x1, .int .i64 x1] ∧ New wa wx ∧ wa.heap.size ≤ BG)
              case first =>
                refine hw_start (n := 10) (S := fun X => New wa X) rfl (by kernel_rfl) ((New.refl _).drew) (fun hH => ?_)
                refine' hw_take 0 (some 103) (.agg #[.int .i64 1, .int .i64 ep, .int .i64 ak, .int .i64 he]) rfl rfl (by kernel_rfl) (by kernel_rfl) (by kernel_rfl) (fun _ _ _ h => h) (by rfl) hH ?hzB221true ?rzB221true
                case hzB221true =>
                  intro X hX
                  exact run_load_blk 28 (.tmp 4) rfl (w.heap.size + 1 + 1) rfl #[.int .i64 1, .int .i64 ep, .int .i64 ak, .int .i64 he] _ (bLa.new hX) Try.underlying28 rfl (by kernel_rfl)
                simp only [Act.put, List.setIfInBounds_toArray, List.set_cons_zero, List.set_cons_succ]
                refine' hw_take 1 (some 104) _ rfl rfl (by kernel_rfl) (by kernel_rfl) (by kernel_rfl) (fun _ _ _ h => h) (by rfl) hH ?hy71 ?rest71
                case hy71 =>
                  intro X hX
                  go_simp
                  try rfl
                simp only [Act.put, List.setIfInBounds_toArray, List.set_cons_zero, List.set_cons_succ]
                refine' hw_take 2 (some 105) _ rfl rfl (by kernel_rfl) (by kernel_rfl) (by kernel_rfl) (fun _ _ _ h => h) (by rfl) hH ?hy72 ?rest72
                case hy72 =>
                  intro X hX
                  have cC := (bCa.new hX).cells
                  go_simp
                  try rfl
                simp only [Act.put, List.setIfInBounds_toArray, List.set_cons_zero, List.set_cons_succ]
                refine' hw_take 3 (some 106) _ rfl rfl (by kernel_rfl) (by kernel_rfl) (by kernel_rfl) (fun _ _ _ h => h) (by rfl) hH ?hy73 ?rest73
                case hy73 =>
                  intro X hX
                  go_simp
                  try rfl
                simp only [Act.put, List.setIfInBounds_toArray, List.set_cons_zero, List.set_cons_succ]
                refine' hw_take 4 (some 107) _ rfl rfl (by kernel_rfl) (by kernel_rfl) (by kernel_rfl) (fun _ _ _ h => h) (by rfl) hH ?hy74 ?rest74
                case hy74 =>
                  intro X hX
                  go_simp
                  try rfl
                simp only [Act.put, List.setIfInBounds_toArray, List.set_cons_zero, List.set_cons_succ]
                refine' hw_take 5 (some 108) _ rfl rfl (by kernel_rfl) (by kernel_rfl) (by kernel_rfl) (fun _ _ _ h => h) (by rfl) hH ?hy75 ?rest75
                case hy75 =>
                  intro X hX
                  go_simp
                  try rfl
                simp only [Act.put, List.setIfInBounds_toArray, List.set_cons_zero, List.set_cons_succ]
                refine' hw_take 6 (some 109) _ rfl rfl (by kernel_rfl) (by kernel_rfl) (by kernel_rfl) (fun _ _ _ h => h) (by rfl) hH ?hy76 ?rest76
                case hy76 =>
                  intro X hX
                  obtain ⟨e0, e1⟩ := (oa.new hX).two
                  go_simp
                  try rfl
                simp only [Act.put, List.setIfInBounds_toArray, List.set_cons_zero, List.set_cons_succ]
                refine wpAnyH_ready (rs := [7, 8]) (by kernel_rfl) (by simp) ?_
                refine hw_step 7 (some 110) rfl rfl (by rfl) (fun K hK => ?_) ?_
                · skip
                  go_simp
                  have hI := implTl 1 ep ak he x1 wa.drew
                  rw [← HG.out] at hI
                  refine hI.mono ?_
                  rintro e wF ⟨rfl, hnF⟩
                  clear hI
                  have nF := hH.trans hnF
                  go_simp
                  refine hK.out _ _ nF (fun _ => ?_)
                  simp only [Act.put, List.setIfInBounds_toArray, List.set_cons_zero, List.set_cons_succ]
                  refine hw_call 8 (some 10) rfl rfl (by kernel_rfl) (by rfl) (fun K hK => ?_)
                  go_simp
                  have alZ : New wF ((wF.alloc (.cells #[.int .i64 0, .int .i64 0, .int .i64 0, .int .i64 0, .int .i64 0] 36))) := ((New.refl wF).alloc (.cells #[.int .i64 0, .int .i64 0, .int .i64 0, .int .i64 0, .int .i64 0] 36))
                  have bZ : Blk ((wF.alloc (.cells #[.int .i64 0, .int .i64 0, .int .i64 0, .int .i64 0, .int .i64 0] 36))) wF.heap.size 36 #[.int .i64 0, .int .i64 0, .int .i64 0, .int .i64 0, .int .i64 0] := (Blk.mk wF wF.heap.size 36 #[.int .i64 0, .int .i64 0, .int .i64 0, .int .i64 0, .int .i64 0] rfl)
                  have nZ : New wa ((wF.alloc (.cells #[.int .i64 0, .int .i64 0, .int .i64 0, .int .i64 0, .int .i64 0] 36))) := nF.trans alZ
                  refine hK.out _ _ nZ (fun _ => ?_)
                  simp only [Act.put, List.setIfInBounds_toArray, List.set_cons_zero, List.set_cons_succ]
                  obtain ⟨BZ, hBZ⟩ : ∃ BZ, BZ = wF.heap.size := ⟨_, rfl⟩
                  rw [← hBZ] at bZ ⊢
                  have hBw : wa.heap.size ≤ BZ := by have := nF.size; omega
                  clear hBZ
                  generalize (wF.alloc (.cells #[.int .i64 0, .int .i64 0, .int .i64 0, .int .i64 0, .int .i64 0] 36)) = wZ at *
                  refine hw_call 9 none rfl rfl (by kernel_rfl) (by rfl) (fun K hK => ?_)
                  refine hw_store 36 (.tmp 10) (.tmp 110) rfl rfl BZ #[.int .i64 0, .int .i64 0, .int .i64 (ep + 1), .int .i64 x1, .int .i64 x1] #[.int .i64 0, .int .i64 0, .int .i64 0, .int .i64 0, .int .i64 0] rfl rfl bZ (by kernel_rfl) rfl (by kernel_rfl) ?_
                  have bR := bZ.rowW #[.int .i64 0, .int .i64 0, .int .i64 (ep + 1), .int .i64 x1, .int .i64 x1]
                  have tR := Turn.rowW (Turn.refl (fun i => i = BZ) wZ) rfl #[.int .i64 0, .int .i64 0, .int .i64 (ep + 1), .int .i64 x1, .int .i64 x1]
                  have nR := nZ.before tR (by intro i hi e; omega)
                  refine hK.out undef _ nR (fun _ => ?_)
                  refine wpAnyH_done (by kernel_rfl) ?_ _
                  generalize World.setRow _ _ _ = wR at *
                  go_wp2_with fail
                  go_meet
                  exact ⟨BZ, rfl, bR, nR, hBw⟩
                refine hw_step 8 (some 10) rfl rfl (by rfl) (fun K hK => ?_) ?_
                · skip
                  go_simp
                  have alZ : New wa ((wa.alloc (.cells #[.int .i64 0, .int .i64 0, .int .i64 0, .int .i64 0, .int .i64 0] 36)).drew) := ((New.refl wa).alloc (.cells #[.int .i64 0, .int .i64 0, .int .i64 0, .int .i64 0, .int .i64 0] 36)).drew
                  have bZ : Blk ((wa.alloc (.cells #[.int .i64 0, .int .i64 0, .int .i64 0, .int .i64 0, .int .i64 0] 36)).drew) wa.heap.size 36 #[.int .i64 0, .int .i64 0, .int .i64 0, .int .i64 0, .int .i64 0] := (Blk.mk wa wa.heap.size 36 #[.int .i64 0, .int .i64 0, .int .i64 0, .int .i64 0, .int .i64 0] rfl).new ((New.refl _).drew)
                  have nZ : New wa ((wa.alloc (.cells #[.int .i64 0, .int .i64 0, .int .i64 0, .int .i64 0, .int .i64 0] 36)).drew) := alZ
                  refine hK.out _ _ nZ (fun _ => ?_)
                  simp only [Act.put, List.setIfInBounds_toArray, List.set_cons_zero, List.set_cons_succ]
                  obtain ⟨BZ, hBZ⟩ : ∃ BZ, BZ = wa.heap.size := ⟨_, rfl⟩
                  rw [← hBZ] at bZ ⊢
                  have hBw : wa.heap.size ≤ BZ := by omega
                  clear hBZ
                  generalize (wa.alloc (.cells #[.int .i64 0, .int .i64 0, .int .i64 0, .int .i64 0, .int .i64 0] 36)).drew = wZ at *
                  refine hw_call 7 (some 110) rfl rfl (by kernel_rfl) (by rfl) (fun K hK => ?_)
                  go_simp
                  have hI := implTl 1 ep ak he x1 wZ
                  rw [← HG.out] at hI
                  refine hI.mono ?_
                  rintro e wF ⟨rfl, hnF⟩
                  clear hI
                  have nF := nZ.trans hnF
                  replace bZ := bZ.new hnF
                  go_simp
                  refine hK.out _ _ nF (fun _ => ?_)
                  simp only [Act.put, List.setIfInBounds_toArray, List.set_cons_zero, List.set_cons_succ]
                  refine hw_call 9 none rfl rfl (by kernel_rfl) (by rfl) (fun K hK => ?_)
                  refine hw_store 36 (.tmp 10) (.tmp 110) rfl rfl BZ #[.int .i64 0, .int .i64 0, .int .i64 (ep + 1), .int .i64 x1, .int .i64 x1] #[.int .i64 0, .int .i64 0, .int .i64 0, .int .i64 0, .int .i64 0] rfl rfl bZ (by kernel_rfl) rfl (by kernel_rfl) ?_
                  have bR := bZ.rowW #[.int .i64 0, .int .i64 0, .int .i64 (ep + 1), .int .i64 x1, .int .i64 x1]
                  have tR := Turn.rowW (Turn.refl (fun i => i = BZ) wF) rfl #[.int .i64 0, .int .i64 0, .int .i64 (ep + 1), .int .i64 x1, .int .i64 x1]
                  have nR := nF.before tR (by intro i hi e; omega)
                  refine hK.out undef _ nR (fun _ => ?_)
                  refine wpAnyH_done (by kernel_rfl) ?_ _
                  generalize World.setRow _ _ _ = wR at *
                  go_wp2_with fail
                  go_meet
                  exact ⟨BZ, rfl, bR, nR, hBw⟩
                exact fun j hj => by cases hj
              case rest =>
                obtain ⟨BG, rfl, bG, hng, hBG⟩ := hcut
                generalize wc = wg at *
                have Ng := Na.trans hng
                have bCg := bCa.new hng
                have og := oa.new hng
                have bLg := bLa.new hng
                have zg := hng.size
                have lLg := bLa.lt
                clear Na bCa oa bLa hng HG
                go_upto_region 23 with fail
                go_cut [153] from 111 to 153 (fun v wx => v = .bool false ∧ New wg wx)
                case first =>
                  have rC := blk_regrown bCg
                  have rL := blk_regrown bLg
                  have rG := blk_regrown bG
                  obtain ⟨r0, r1⟩ := og.regrown
                  refine wp_region_quiet_below (by kernel_rfl) (by kernel_rfl) ?_
                  repeat (go_big_quiet_step (first | (go_at_call 17; exact calls_regrown (implMT_is 1 ep ak he x1 true _ hb2)) | (go_at_call 16; exact calls_regrown (implML_is 1 ep ak he y1 false _ hb1))))
                  refine wpQuiet_nil ?_
                  rintro wq hwq
                  replace hwq := new_of_regrown hwq
                  go_wp2_with fail
                  go_meet
                  exact ⟨rfl, hwq⟩
                case rest =>
                  obtain ⟨rfl, hnu⟩ := hcut
                  generalize wc = wu at *
                  have Nu := Ng.trans hnu
                  have bCu := bCg.new hnu
                  have ou := og.new hnu
                  have bLu := bLg.new hnu
                  have bGu := bG.new hnu
                  have zu := hnu.size
                  clear Ng bCg og bLg bG hnu
                  have cG := bGu.cells
                  have fL := bLu.frees
                  have cL := bLu.cells
                  go_upto_region 27 with fail
                  have bLh := (((bLu.set 0 (.int .i64 0)).set 1 (.int .i64 (ep + 1))).set 2 (.int .i64 x1)).set 3 (.int .i64 x1)
                  have th := ((((Turn.refl (fun i => i = w.heap.size + 1 + 1) wu).set (p := ⟨w.heap.size + 1 + 1, 0, none⟩) rfl (.int .i64 0)).set (p := ⟨w.heap.size + 1 + 1, 1, none⟩) rfl (.int .i64 (ep + 1))).set (p := ⟨w.heap.size + 1 + 1, 2, none⟩) rfl (.int .i64 x1)).set (p := ⟨w.heap.size + 1 + 1, 3, none⟩) rfl (.int .i64 x1)
                  replace bLh : Blk _ (w.heap.size + 1 + 1) 28 #[.int .i64 0, .int .i64 (ep + 1), .int .i64 x1, .int .i64 x1] := bLh
                  have bCh := bCu.turn th (by omega)
                  have oh := ou.turn th (fun e => gL e.symm)
                  have Nh := Nu.before th (by intro i hi e; omega)
                  generalize (((wu.setCell ⟨w.heap.size + 1 + 1, 0, none⟩ (.int .i64 0)).setCell ⟨w.heap.size + 1 + 1, 1, none⟩ (.int .i64 (ep + 1))).setCell ⟨w.heap.size + 1 + 1, 2, none⟩ (.int .i64 x1)).setCell ⟨w.heap.size + 1 + 1, 3, none⟩ (.int .i64 x1) = wh at *
                  clear cG cL fL bGu bLu bCu ou Nu th
                  have GP : Hid (LeP 0 (ep + 1) x1 x1) := ⟨⟨by omega, by omega⟩, ⟨by omega, by omega⟩, ⟨by omega, by omega⟩, ⟨by omega, by omega⟩⟩
                  have cL := bLh.cells
                  go_wp2_with fail
                  refine (implLeF_is 0 (ep + 1) x1 x1 0 _ (lf_ok (GP.out))).mono ?_
                  rintro e wy ⟨rfl, hny⟩
                  have Ny := Nh.trans hny
                  have bCy := bCh.new hny
                  have oy := oh.new hny
                  have bLy := bLh.new hny
                  clear cL hny Nh bCh oh bLh
                  go_wp2
                  go_roundw
                  case rel => exact ⟨k + 1, nv, x1, y1, 0, ep + 1, x1, x1, g6, k6, by omega, by go_num, keep.out, by omega, GP.out, by omega, by omega, bCy, oy, bLy, Ny⟩
                  case measure => simp [intOf]; omega
          have v1 : (r16 == 1) = false := by simpa using u1
          have cL := bLa.cells
          go_wp2_with fail
          refine (implLeF_is 1 ep ak he 0 _ (lf_ok (HP.out))).mono ?_
          rintro e wy ⟨rfl, hny⟩
          have Ny := Na.trans hny
          have bCy := bCa.new hny
          have oy := oa.new hny
          have bLy := bLa.new hny
          clear cL hny Na bCa oa bLa
          go_wp2
          go_roundw
          case rel => exact ⟨k + 1, nv, x1, y1, 1, ep, ak, he, g6, k6, by omega, by go_num, keep.out, by omega, HP.out, by omega, hak, bCy, oy, bLy, Ny⟩
          case measure => simp [intOf]; omega

end Go.Proofs.Ytpbmbnckdmjdhaa
