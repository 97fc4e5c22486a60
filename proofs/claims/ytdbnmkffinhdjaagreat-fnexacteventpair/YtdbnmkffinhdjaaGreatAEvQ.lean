/- What is proved here: for every pair, number and event the law on EventPair returns true, and the pair reads as it did. No condition. -/
import Derived.Test.YtdbnmkffinhdjaaGreatP16TEvQ
import Derived.Test.YtdbnmkffinhdjaaGreatLV43
import Derived.Deep.RegionHeld3
import Derived.Deep.CutRange
import Derived.Test.YtdbnmkffinhdjaaGreatLV4
namespace Go.Proofs.YtdbnmkffinhdjaaGreat
open Go.ChangeShapes Go.WideShapes Go.ChangeAt Go.RowKit Go.Deep Go.Sort
set_option linter.unusedVariables false
set_option linter.unusedSimpArgs false
set_option maxRecDepth 100000
set_option maxHeartbeats 25600000

theorem szEv_ok16 (k1 p1 : Int) (x : Option Addr) (m d : Nat) (k : Int) (w : World) (h0 : 0 ≤ k) (hk : k ≤ 1048576) (h : (m : Int) ≤ k) : Calls Tryz.prog 6 #[.agg #[.int .i64 k1, .int .i64 p1, .slice x m d], .int .i64 k] w fun e w' => e = .returned (.int .i64 (k - m)) ∧ New w w' := by
  obtain ⟨K, rfl⟩ : ∃ K : Nat, k = K := ⟨k.toNat, by omega⟩
  exact szEvent_ok k1 p1 x m d K w (by omega) (by omega)
theorem szEv_big16 (k1 p1 : Int) (x : Option Addr) (m d : Nat) (k : Int) (w : World) (h0 : 0 ≤ k) (hk : k ≤ 1048576) (hm : m ≤ maxLen) (h : k < (m : Int)) : Calls Tryz.prog 6 #[.agg #[.int .i64 k1, .int .i64 p1, .slice x m d], .int .i64 k] w fun e w' => e = .returned (.int .i64 (-1)) ∧ New w w' := by
  obtain ⟨K, rfl⟩ : ∃ K : Nat, k = K := ⟨k.toNat, by omega⟩
  exact szEvent_big k1 p1 x m d K w (by omega) hm (by omega)

theorem aev_walk (sa si ho nx : Int) (a1 a2 aN aW aM aS : Option Addr) (n1 c1 n2 c2 nN cN nW cW nM cM nS cS : Nat) (r1 r2 : List Ru) (LN : List NdV) (LW : List WiV) (LM : List MlV) (LS : List EkV) (nd k1 p1 : Int) (x : Option Addr) (m d : Nat) (xs : List Int) (w : World) (hx : BsAt w x xs) (hX : xs.length = m) (hml : m ≤ maxLen) (h : PCame w a1 a2 aN aW aM aS n1 n2 nN nW nM nS r1 r2 LN LW LM LS) :
    Calls Tryz.prog 3 #[.agg #[.int .i64 sa, .int .i64 si, .int .i64 ho, .int .i64 nx, .slice a1 n1 c1, .slice a2 n2 c2, .slice aN nN cN, .slice aW nW cW, .slice aM nM cM, .slice aS nS cS], .int .i64 nd, .agg #[.int .i64 k1, .int .i64 p1, .slice x m d]] w fun e w' => e = .returned (.bool true) ∧ New w w' := by
  have hw := ((New.refl w).alloc (.cells #[.int .i64 sa, .int .i64 si, .int .i64 ho, .int .i64 nx, .slice a1 n1 c1, .slice a2 n2 c2, .slice aN nN cN, .slice aW nW cW, .slice aM nM cM, .slice aS nS cS] 32)).alloc (.cells #[.int .i64 k1, .int .i64 p1, .slice x m d] 35)
  have bA := (Blk.mk w w.heap.size 32 #[.int .i64 sa, .int .i64 si, .int .i64 ho, .int .i64 nx, .slice a1 n1 c1, .slice a2 n2 c2, .slice aN nN cN, .slice aW nW cW, .slice aM nM cM, .slice aS nS cS] rfl).alloc (.cells #[.int .i64 k1, .int .i64 p1, .slice x m d] 35)
  have bB := Blk.mk (w.alloc (.cells #[.int .i64 sa, .int .i64 si, .int .i64 ho, .int .i64 nx, .slice a1 n1 c1, .slice a2 n2 c2, .slice aN nN cN, .slice aW nW cW, .slice aM nM cM, .slice aS nS cS] 32)) (w.heap.size + 1) 35 #[.int .i64 k1, .int .i64 p1, .slice x m d] (by simp)
  have HX0 : Hid (∀ X, New w X → BsAt X x xs) := fun X hX => hx.new hX
  have HUB : Hid (∀ z ∈ xs, 0 ≤ z ∧ z ≤ 255) := hx.lt
  clear hx
  go_enter Tryz.func3, Tryz.ntmps3
  go_wp2_with fail
  refine (szPair_any sa si ho nx a1 a2 aN aW aM aS n1 c1 n2 c2 nN cN nW cW nM cM nS cS r1 r2 LN LW LM LS _ (h.new hw)).mono ?_
  rintro e w1 ⟨⟨z, rfl, hz⟩, hn1⟩
  have hw1 := hw.trans hn1
  have bA1 := bA.new hn1
  have bB1 := bB.new hn1
  clear hw bA bB hn1
  by_cases hz0 : z < 0
  · go_wp2
    go_ret
    exact ⟨rfl, hw1⟩
  have hz3 : 0 ≤ z ∧ z ≤ 1048576 := by rcases hz with hz | hz; (exfalso; omega); exact hz.1
  have hs : PSm n1 n2 LN LW LM LS := by rcases hz with hz | hz; (exfalso; omega); exact hz.2
  have HT : Hid (∀ X, New w X → Calls Tryz.prog 8 #[.agg #[.int .i64 sa, .int .i64 si, .int .i64 ho, .int .i64 nx, .slice a1 n1 c1, .slice a2 n2 c2, .slice aN nN cN, .slice aW nW cW, .slice aM nM cM, .slice aS nS cS]] X fun e w' => ∃ Y, e = .returned (.agg #[.int .i64 Y.sa, .int .i64 Y.si, .int .i64 Y.ho, .int .i64 Y.nx, .slice Y.a1 Y.n1 Y.c1, .slice Y.a2 Y.n2 Y.c2, .slice Y.aN Y.nN Y.cN, .slice Y.aW Y.nW Y.cW, .slice Y.aM Y.nM Y.cM, .slice Y.aS Y.nS Y.cS]) ∧ PrE Y (P0x sa si ho nx n1 n2 nN nW nM nS r1 r2 LN LW LM LS) ∧ PrL Y ∧ GoodX Y ∧ (∃ col, PrOw w' X.heap.size w'.heap.size col Y) ∧ New X w') := fun X hX => toPrL sa si ho nx a1 a2 aN aW aM aS n1 c1 n2 c2 nN cN nW cW nM cM nS cS r1 r2 LN LW LM LS X (h.new hX) hs
  obtain ⟨P0, HP0⟩ : ∃ P0, Hid ((P0x sa si ho nx n1 n2 nN nW nM nS r1 r2 LN LW LM LS) = P0) := ⟨_, rfl⟩
  rw [HP0.out] at HT
  clear hz h hs HP0
  have cB := bB1.cells
  by_cases hmz : (m : Int) ≤ z
  case neg =>
    go_wp2_with fail
    refine (szEv_big16 k1 p1 x m d z _ hz3.1 hz3.2 hml (by omega)).mono ?_
    rintro e w2 ⟨rfl, hn2⟩
    go_wp2
    go_ret
    exact ⟨rfl, hw1.trans hn2⟩
  go_wp2_with fail
  refine (szEv_ok16 k1 p1 x m d z _ hz3.1 hz3.2 hmz).mono ?_
  rintro e w2 ⟨rfl, hn2⟩
  have hw2 := hw1.trans hn2
  have bA2 := bA1.new hn2
  have bB2 := bB1.new hn2
  have hzm : ¬ z - (m : Int) < 0 := by omega
  have HM1 : Hid (m ≤ 1048576) := by unfold Hid; omega
  clear hw1 bA1 bB1 hn2 cB hmz hml
  go_upto_region 8 with fail
  clear hzm hz3 hz0
  go_cut [8] from 26 to 31 (fun v wx => ∃ (B : Nat) (z3 : Int) (R3 : PrV) (co3 : Nat → Nat), v = .pointer (some ⟨B, 0, none⟩) ∧ Blk wx B 49 #[.int .i64 z3, .slice none 0 0, .int .i64 R3.sa, .int .i64 R3.si, .int .i64 R3.ho, .int .i64 R3.nx, .slice R3.a1 R3.n1 R3.c1, .slice R3.a2 R3.n2 R3.c2, .slice R3.aN R3.nN R3.cN, .slice R3.aW R3.nW R3.cW, .slice R3.aM R3.nM R3.cM, .slice R3.aS R3.nS R3.cS] ∧ GoR P0 nd (nfA (evG k1 p1 xs) P0 nd) z3 R3 ∧ PrOw wx 0 wx.heap.size co3 R3 ∧ New w2 wx ∧ PrL P0)
  case first =>
    refine hw_start (n := 8) (S := fun X => New w2 X) rfl (by kernel_rfl) ((New.refl w2).drew) (fun hH => ?_)
    have nv := (New.refl w2).drew
    generalize w2.drew = u0 at *
    have sz0 := nv.size
    refine' hw_take 0 (some 26) (.agg #[.int .i64 sa, .int .i64 si, .int .i64 ho, .int .i64 nx, .slice a1 n1 c1, .slice a2 n2 c2, .slice aN nN cN, .slice aW nW cW, .slice aM nM cM, .slice aS nS cS]) rfl rfl (by kernel_rfl) (by kernel_rfl) (by kernel_rfl) (fun _ _ _ h => h) (by rfl) nv ?hyA8 ?rA8
    case hyA8 =>
      intro X hX
      exact run_load_blk 32 (.tmp 3) rfl w.heap.size rfl #[.int .i64 sa, .int .i64 si, .int .i64 ho, .int .i64 nx, .slice a1 n1 c1, .slice a2 n2 c2, .slice aN nN cN, .slice aW nW cW, .slice aM nM cM, .slice aS nS cS] _ (bA2.new hX) Tryz.underlying32 rfl (by kernel_rfl)
    simp only [Act.put, pA9, pB9, pC9]
    refine' hw_t 2 (some 28) _ rfl rfl nv ?hyC8 ?rC8
    case hyC8 =>
      intro X hX
      go_simp
      try rfl
    simp only [Act.put, pA9, pB9, pC9]
    refine' hw_take 3 (some 29) (.agg #[.int .i64 k1, .int .i64 p1, .slice x m d]) rfl rfl (by kernel_rfl) (by kernel_rfl) (by kernel_rfl) (fun _ _ _ h => h) (by rfl) nv ?hyB8 ?rB8
    case hyB8 =>
      intro X hX
      exact run_load_blk 35 (.tmp 5) rfl (w.heap.size + 1) rfl #[.int .i64 k1, .int .i64 p1, .slice x m d] _ (bB2.new hX) Tryz.underlying35 rfl (by kernel_rfl)
    simp only [Act.put, pA9, pB9, pC9]
    refine wpAnyH_ready (rs := [1, 6]) (by kernel_rfl) (by simp) (hw_step 1 (some 27) rfl rfl (by rfl) (fun K hK => ?e8a) (hw_step 6 (some 8) rfl rfl (by rfl) (fun K hK => ?e8b) (by intro j hj; cases hj)))
    case' e8b =>
      go_simp
      have nn := (New.refl u0).alloc (.cells #[.int .i64 0, .slice none 0 0, .int .i64 0, .int .i64 0, .int .i64 0, .int .i64 0, .slice none 0 0, .slice none 0 0, .slice none 0 0, .slice none 0 0, .slice none 0 0, .slice none 0 0] 49)
      have bZ := Blk.mk u0 u0.heap.size 49 #[.int .i64 0, .slice none 0 0, .int .i64 0, .int .i64 0, .int .i64 0, .int .i64 0, .slice none 0 0, .slice none 0 0, .slice none 0 0, .slice none 0 0, .slice none 0 0, .slice none 0 0] rfl
      have nv := nv.trans nn
      refine hK.out _ _ nv (fun _ => ?_)
      simp only [Act.put, pA9, pB9, pC9]
      obtain ⟨BZ, hBZ⟩ : ∃ BZ, BZ = u0.heap.size := ⟨_, rfl⟩
      rw [← hBZ] at bZ ⊢
      have lowZ : w2.heap.size ≤ BZ := by omega
      generalize u0.alloc (.cells #[.int .i64 0, .slice none 0 0, .int .i64 0, .int .i64 0, .int .i64 0, .int .i64 0, .slice none 0 0, .slice none 0 0, .slice none 0 0, .slice none 0 0, .slice none 0 0, .slice none 0 0] 49) = u0 at *
      have ltZ : BZ < u0.heap.size := bZ.lt
      have szZ := nv.size
      clear nn hBZ
      refine hw_call 1 (some 27) rfl rfl (by decide +kernel) (by rfl) (fun K hK => ?_)
    all_goals
      go_simp
      refine (HT.out _ (hw2.trans nv)).mono ?_
      rintro e u1 ⟨X2, rfl, e2, l2, g2, ⟨co2, o2⟩, hn⟩
      have nv1 := nv.trans hn
      have sz1 := hn.size
      try (have bZ := bZ.new hn)
      refine hK.out _ _ nv1 (fun _ => ?_)
      simp only [Act.put, pA9, pB9, pC9]
      first
        | refine hw_call 4 (some 30) rfl rfl (by decide +kernel) (by rfl) (fun K hK => ?_)
        | (refine wpAnyH_ready (rs := [4, 6]) (by kernel_rfl) (by simp) (hw_step 4 (some 30) rfl rfl (by rfl) (fun K hK => ?e8c) (hw_step 6 (some 8) rfl rfl (by rfl) (fun K hK => ?e8d) (by intro j hj; cases hj)))
           case' e8d =>
             go_simp
             have nn := (New.refl u1).alloc (.cells #[.int .i64 0, .slice none 0 0, .int .i64 0, .int .i64 0, .int .i64 0, .int .i64 0, .slice none 0 0, .slice none 0 0, .slice none 0 0, .slice none 0 0, .slice none 0 0, .slice none 0 0] 49)
             have bZ := Blk.mk u1 u1.heap.size 49 #[.int .i64 0, .slice none 0 0, .int .i64 0, .int .i64 0, .int .i64 0, .int .i64 0, .slice none 0 0, .slice none 0 0, .slice none 0 0, .slice none 0 0, .slice none 0 0, .slice none 0 0] rfl
             have nv1 := nv1.trans nn
             have o2 := o2.new nn
             refine hK.out _ _ nv1 (fun _ => ?_)
             simp only [Act.put, pA9, pB9, pC9]
             obtain ⟨BZ, hBZ⟩ : ∃ BZ, BZ = u1.heap.size := ⟨_, rfl⟩
             rw [← hBZ] at bZ ⊢
             have lowZ : w2.heap.size ≤ BZ := by omega
             generalize u1.alloc (.cells #[.int .i64 0, .slice none 0 0, .int .i64 0, .int .i64 0, .int .i64 0, .int .i64 0, .slice none 0 0, .slice none 0 0, .slice none 0 0, .slice none 0 0, .slice none 0 0, .slice none 0 0] 49) = u1 at *
             have ltZ : BZ < u1.heap.size := bZ.lt
             have szZ := nv1.size
             clear nn hBZ
             refine hw_call 4 (some 30) rfl rfl (by decide +kernel) (by rfl) (fun K hK => ?_))
      all_goals
        go_simp
        refine (toEvent_any k1 p1 x m d xs _ (HX0.out _ (hw2.trans nv1)) hX HM1.out).mono ?_
        rintro e u2 ⟨gX, rfl, -, hoX, hn2⟩
        have nv2 := nv1.trans hn2
        have sz2 := hn2.size
        have o2b := o2.new hn2
        try (have bZ := bZ.new hn2)
        refine hK.out _ _ nv2 (fun _ => ?_)
        simp only [Act.put, pA9, pB9, pC9]
        first
          | refine hw_call 5 (some 31) rfl rfl (by decide +kernel) (by rfl) (fun K hK => ?_)
          | (refine wpAnyH_ready (rs := [5, 6]) (by kernel_rfl) (by simp) (hw_step 5 (some 31) rfl rfl (by rfl) (fun K hK => ?e8e) (hw_step 6 (some 8) rfl rfl (by rfl) (fun K hK => ?e8f) (by intro j hj; cases hj)))
             case' e8f =>
               go_simp
               have nn := (New.refl u2).alloc (.cells #[.int .i64 0, .slice none 0 0, .int .i64 0, .int .i64 0, .int .i64 0, .int .i64 0, .slice none 0 0, .slice none 0 0, .slice none 0 0, .slice none 0 0, .slice none 0 0, .slice none 0 0] 49)
               have bZ := Blk.mk u2 u2.heap.size 49 #[.int .i64 0, .slice none 0 0, .int .i64 0, .int .i64 0, .int .i64 0, .int .i64 0, .slice none 0 0, .slice none 0 0, .slice none 0 0, .slice none 0 0, .slice none 0 0, .slice none 0 0] rfl
               have nv2 := nv2.trans nn
               have o2b := o2b.new nn
               have hoX := row9_new hoX nn
               refine hK.out _ _ nv2 (fun _ => ?_)
               simp only [Act.put, pA9, pB9, pC9]
               obtain ⟨BZ, hBZ⟩ : ∃ BZ, BZ = u2.heap.size := ⟨_, rfl⟩
               rw [← hBZ] at bZ ⊢
               have lowZ : w2.heap.size ≤ BZ := by omega
               generalize u2.alloc (.cells #[.int .i64 0, .slice none 0 0, .int .i64 0, .int .i64 0, .int .i64 0, .int .i64 0, .slice none 0 0, .slice none 0 0, .slice none 0 0, .slice none 0 0, .slice none 0 0, .slice none 0 0] 49) = u2 at *
               have ltZ : BZ < u2.heap.size := bZ.lt
               have szZ := nv2.size
               clear nn hBZ
               refine hw_call 5 (some 31) rfl rfl (by decide +kernel) (by rfl) (fun K hK => ?_))
        all_goals
          go_simp
          refine (specEvL P0 X2 nd k1 p1 _ m m xs _ _ _ _ o2b e2 l2 g2 (BsAt.of_own hoX HUB.out) hX (fun e => by cases e) HM1.out).mono ?_
          rintro e u3 ⟨z3, R3, co3, rfl, k3, o3, hn3⟩
          have nv3 := nv2.trans hn3
          have sz3 := hn3.size
          have K3 : Hid (GoR P0 nd (nfA (evG k1 p1 xs) P0 nd) z3 R3) := k3
          clear k3
          try (have bZ := bZ.new hn3)
          refine hK.out _ _ nv3 (fun _ => ?_)
          simp only [Act.put, pA9, pB9, pC9]
          try
            refine hw_call 6 (some 8) rfl rfl (by decide +kernel) (by rfl) (fun K hK => ?_)
            go_simp
            have nn := (New.refl u3).alloc (.cells #[.int .i64 0, .slice none 0 0, .int .i64 0, .int .i64 0, .int .i64 0, .int .i64 0, .slice none 0 0, .slice none 0 0, .slice none 0 0, .slice none 0 0, .slice none 0 0, .slice none 0 0] 49)
            have bZ := Blk.mk u3 u3.heap.size 49 #[.int .i64 0, .slice none 0 0, .int .i64 0, .int .i64 0, .int .i64 0, .int .i64 0, .slice none 0 0, .slice none 0 0, .slice none 0 0, .slice none 0 0, .slice none 0 0, .slice none 0 0] rfl
            have nv3 := nv3.trans nn
            have o3 := o3.new nn
            refine hK.out _ _ nv3 (fun _ => ?_)
            simp only [Act.put, pA9, pB9, pC9]
            obtain ⟨BZ, hBZ⟩ : ∃ BZ, BZ = u3.heap.size := ⟨_, rfl⟩
            rw [← hBZ] at bZ ⊢
            have lowZ : w2.heap.size ≤ BZ := by omega
            generalize u3.alloc (.cells #[.int .i64 0, .slice none 0 0, .int .i64 0, .int .i64 0, .int .i64 0, .int .i64 0, .slice none 0 0, .slice none 0 0, .slice none 0 0, .slice none 0 0, .slice none 0 0, .slice none 0 0] 49) = u3 at *
            have ltZ : BZ < u3.heap.size := bZ.lt
            have szZ := nv3.size
            have hiZ := Nat.le_of_eq hBZ.symm
            clear nn hBZ
          refine hw_call 7 none rfl rfl (by decide +kernel) (by rfl) (fun K hK => ?_)
          refine hw_store 49 (.tmp 8) (.tmp 31) rfl rfl BZ #[.int .i64 z3, .slice none 0 0, .int .i64 R3.sa, .int .i64 R3.si, .int .i64 R3.ho, .int .i64 R3.nx, .slice R3.a1 R3.n1 R3.c1, .slice R3.a2 R3.n2 R3.c2, .slice R3.aN R3.nN R3.cN, .slice R3.aW R3.nW R3.cW, .slice R3.aM R3.nM R3.cM, .slice R3.aS R3.nS R3.cS] #[.int .i64 0, .slice none 0 0, .int .i64 0, .int .i64 0, .int .i64 0, .int .i64 0, .slice none 0 0, .slice none 0 0, .slice none 0 0, .slice none 0 0, .slice none 0 0, .slice none 0 0] rfl rfl bZ (by kernel_rfl) rfl (by kernel_rfl) ?_
          have bR := bZ.rowW #[.int .i64 z3, .slice none 0 0, .int .i64 R3.sa, .int .i64 R3.si, .int .i64 R3.ho, .int .i64 R3.nx, .slice R3.a1 R3.n1 R3.c1, .slice R3.a2 R3.n2 R3.c2, .slice R3.aN R3.nN R3.cN, .slice R3.aW R3.nW R3.cW, .slice R3.aM R3.nM R3.cM, .slice R3.aS R3.nS R3.cS]
          have tR := Turn.rowW (Turn.refl (fun i => i = BZ) u3) rfl #[.int .i64 z3, .slice none 0 0, .int .i64 R3.sa, .int .i64 R3.si, .int .i64 R3.ho, .int .i64 R3.nx, .slice R3.a1 R3.n1 R3.c1, .slice R3.a2 R3.n2 R3.c2, .slice R3.aN R3.nN R3.cN, .slice R3.aW R3.nW R3.cW, .slice R3.aM R3.nM R3.cM, .slice R3.aS R3.nS R3.cS]
          have oR := (o3.turn tR (by intro x h1 h2 e; omega)).low (Nat.zero_le _)
          have nR := nv3.before tR (by intro i hi e; omega)
          have zR := tR.size
          refine hK.out undef _ nR (fun _ => ?_)
          try simp only [Act.put, pA9, pB9, pC9]
          refine wpAnyH_done (by kernel_rfl) ?_ _
          generalize World.setRow _ _ _ = wR at *
          go_wp2_with fail
          go_meet
          exact ⟨BZ, z3, R3, co3, rfl, bR, K3.out, oR.up (by omega), nR, (show PrE P0 X2 from e2.symm).lim l2⟩
  case rest =>
  obtain ⟨B3, z3, R3, co3, rfl, b3, k3, O3, n3, l0⟩ := hcut
  obtain ⟨w3, rfl⟩ : ∃ W0, W0 = wc := ⟨_, rfl⟩
  have K3 : Hid (GoR P0 nd (nfA (evG k1 p1 xs) P0 nd) z3 R3) := k3
  have L0 : Hid (PrL P0) := l0
  have bA3 := bA2.new n3
  have bB3 := bB2.new n3
  have hw3 := hw2.trans n3
  have lt3 : w.heap.size + 1 < w3.heap.size := bB3.lt
  have ltB3 : B3 < w3.heap.size := b3.lt
  have cA := bA3.cells
  clear bA2 bB2 n3 k3 l0 hw2
  go_wp2_with fail
  refine (HT.out _ hw3).mono ?_
  rintro e w4 ⟨X4, rfl, e4, l4, g4, ⟨co4, o4⟩, hn4⟩
  have al4 := (New.refl w4).alloc (.cells #[.int .i64 X4.sa, .int .i64 X4.si, .int .i64 X4.ho, .int .i64 X4.nx, .slice X4.a1 X4.n1 X4.c1, .slice X4.a2 X4.n2 X4.c2, .slice X4.aN X4.nN X4.cN, .slice X4.aW X4.nW X4.cW, .slice X4.aM X4.nM X4.cM, .slice X4.aS X4.nS X4.cS] 47)
  have n4 := hn4.trans al4
  have bA4 := bA3.new n4
  have bB4 := bB3.new n4
  have b34 := b3.new n4
  have b4 := Blk.mk w4 w4.heap.size 47 #[.int .i64 X4.sa, .int .i64 X4.si, .int .i64 X4.ho, .int .i64 X4.nx, .slice X4.a1 X4.n1 X4.c1, .slice X4.a2 X4.n2 X4.c2, .slice X4.aN X4.nN X4.cN, .slice X4.aW X4.nW X4.cW, .slice X4.aM X4.nM X4.cM, .slice X4.aS X4.nS X4.cS] rfl
  have O34 := O3.new n4
  have O44 := o4.new al4
  have hw4 := hw3.trans n4
  have lt4 : w3.heap.size ≤ w4.heap.size := hn4.size
  have sz4 : (w4.alloc (.cells #[.int .i64 X4.sa, .int .i64 X4.si, .int .i64 X4.ho, .int .i64 X4.nx, .slice X4.a1 X4.n1 X4.c1, .slice X4.a2 X4.n2 X4.c2, .slice X4.aN X4.nN X4.cN, .slice X4.aW X4.nW X4.cW, .slice X4.aM X4.nM X4.cM, .slice X4.aS X4.nS X4.cS] 47)).heap.size = w4.heap.size + 1 := by simp
  have E4 : Hid (PrE X4 P0) := e4
  have L4 : Hid (PrL X4) := l4
  have G4 : Hid (GoodX X4) := g4
  clear cA bA3 bB3 b3 hn4 o4 O3 al4 n4 e4 l4 g4
  go_upto_region 10 with fail
  generalize w4.alloc (.cells #[.int .i64 X4.sa, .int .i64 X4.si, .int .i64 X4.ho, .int .i64 X4.nx, .slice X4.a1 X4.n1 X4.c1, .slice X4.a2 X4.n2 X4.c2, .slice X4.aN X4.nN X4.cN, .slice X4.aW X4.nW X4.cW, .slice X4.aM X4.nM X4.cM, .slice X4.aS X4.nS X4.cS] 47) = w4a at *
  have cB := bB4.cells
  go_wp2_with fail
  refine (toEvent_any k1 p1 x m d xs _ (HX0.out _ hw4) hX HM1.out).mono ?_
  rintro e w4b ⟨u4, rfl, hu4, ou4, hn4b⟩
  have lu4 : u4 < w4b.heap.size := by
    have h1 := ou4.2
    rcases h1 with ⟨e, -⟩ | ⟨g', c', cur, e, -, hg', -⟩
    · cases e
    · cases e; exact (Array.getElem?_eq_some_iff.1 hg').1
  have al4b := (New.refl w4b).alloc (.cells #[.int .i64 k1, .int .i64 p1, .slice (some ⟨u4, 0, none⟩) m m] 52)
  have n4b := hn4b.trans al4b
  have bA4b := bA4.new n4b
  have bB4b := bB4.new n4b
  have b34b := b34.new n4b
  have b4b := b4.new n4b
  have be4 := Blk.mk w4b w4b.heap.size 52 #[.int .i64 k1, .int .i64 p1, .slice (some ⟨u4, 0, none⟩) m m] rfl
  have O34b := O34.new n4b
  have O44b := O44.new n4b
  have ou4b := row9_new ou4 al4b
  have hw4b := hw4.trans n4b
  have z4b := hn4b.size
  have s4c : (w4b.alloc (.cells #[.int .i64 k1, .int .i64 p1, .slice (some ⟨u4, 0, none⟩) m m] 52)).heap.size = w4b.heap.size + 1 := by simp
  clear cB bA4 bB4 b34 b4 O34 O44 ou4 hw4 hn4b al4b n4b
  go_upto_region 11 with fail
  generalize w4b.alloc (.cells #[.int .i64 k1, .int .i64 p1, .slice (some ⟨u4, 0, none⟩) m m] 52) = w4c at *
  have cB := b4b.cells
  have cE := be4.cells
  go_wp2_with fail
  refine (implEvL P0 X4 nd k1 p1 _ m m xs _ _ _ _ O44b E4.out L4.out G4.out (BsAt.of_own ou4b HUB.out) hX (fun e => by cases e) HM1.out).mono ?_
  rintro e w5 ⟨z5, R5, co5, rfl, k5, o5, hn5⟩
  obtain ⟨rfl, e53⟩ := k5.det K3.out
  have l5 := limEv L0.out k5
  have al5 := (New.refl w5).alloc (.cells #[.int .i64 z5, .slice none 0 0, .int .i64 R5.sa, .int .i64 R5.si, .int .i64 R5.ho, .int .i64 R5.nx, .slice R5.a1 R5.n1 R5.c1, .slice R5.a2 R5.n2 R5.c2, .slice R5.aN R5.nN R5.cN, .slice R5.aW R5.nW R5.cW, .slice R5.aM R5.nM R5.cM, .slice R5.aS R5.nS R5.cS] 49)
  have n5 := hn5.trans al5
  have bA5 := bA4b.new n5
  have bB5 := bB4b.new n5
  have b35 := b34b.new n5
  have b45 := b4b.new n5
  have be5 := be4.new n5
  have b5 := Blk.mk w5 w5.heap.size 49 #[.int .i64 z5, .slice none 0 0, .int .i64 R5.sa, .int .i64 R5.si, .int .i64 R5.ho, .int .i64 R5.nx, .slice R5.a1 R5.n1 R5.c1, .slice R5.a2 R5.n2 R5.c2, .slice R5.aN R5.nN R5.cN, .slice R5.aW R5.nW R5.cW, .slice R5.aM R5.nM R5.cM, .slice R5.aS R5.nS R5.cS] rfl
  have O35 := O34b.new n5
  have O45 := O44b.new n5
  have O55 := o5.new al5
  have ou5 := row9_new ou4b n5
  have hw5 := hw4b.trans n5
  have lt5 : w4c.heap.size ≤ w5.heap.size := hn5.size
  have sz5 : (w5.alloc (.cells #[.int .i64 z5, .slice none 0 0, .int .i64 R5.sa, .int .i64 R5.si, .int .i64 R5.ho, .int .i64 R5.nx, .slice R5.a1 R5.n1 R5.c1, .slice R5.a2 R5.n2 R5.c2, .slice R5.aN R5.nN R5.cN, .slice R5.aW R5.nW R5.cW, .slice R5.aM R5.nM R5.cM, .slice R5.aS R5.nS R5.cS] 49)).heap.size = w5.heap.size + 1 := by simp
  have E5 : Hid (PrE R5 R3) := e53
  have L5 : Hid (PrL R5) := l5
  clear bA4b bB4b b34b b4b be4 cB cE hn5 o5 O34b O44b ou4b al5 n5 k5 e53 l5
  have c3' := b35.cells
  have c5' := b5.cells
  go_wp2_with fail
  refine (eqPR16 z5 R5 R3 _ O55.rd O35.rd E5.out L5.out).mono ?_
  rintro e w6 ⟨rfl, hn6⟩
  have bA6 := bA5.new hn6
  have bB6 := bB5.new hn6
  have b36 := b35.new hn6
  have b46 := b45.new hn6
  have be6 := be5.new hn6
  have b56 := b5.new hn6
  have O36 := O35.new hn6
  have O46 := O45.new hn6
  have O56 := O55.new hn6
  have ou6 := row9_new ou5 hn6
  have hw6 := hw5.trans hn6
  have z6 := hn6.size
  clear bA5 bB5 b35 b45 be5 b5 c3' c5' O35 O45 O55 ou5 hn6
  have cA := bA6.cells
  have cB := b46.cells
  have cAd := (bA6.new ((New.refl _).drew)).cells
  have cBd := (b46.new ((New.refl _).drew)).cells
  go_wp2_with fail
  go_region_held3 (fun W => (∀ j, W.cell? ⟨w.heap.size, j, none⟩ = (#[.int .i64 sa, .int .i64 si, .int .i64 ho, .int .i64 nx, .slice a1 n1 c1, .slice a2 n2 c2, .slice aN nN cN, .slice aW nW cW, .slice aM nM cM, .slice aS nS cS] : Array Value)[j]?) ∧ (∀ j, W.cell? ⟨w4.heap.size, j, none⟩ = (#[.int .i64 X4.sa, .int .i64 X4.si, .int .i64 X4.ho, .int .i64 X4.nx, .slice X4.a1 X4.n1 X4.c1, .slice X4.a2 X4.n2 X4.c2, .slice X4.aN X4.nN X4.cN, .slice X4.aW X4.nW X4.cW, .slice X4.aM X4.nM X4.cM, .slice X4.aS X4.nS X4.cS] : Array Value)[j]?)) (first | exact ⟨cA, cB⟩ | exact ⟨cAd, cBd⟩ | exact ⟨cA7, cB7⟩ | exact ⟨cA8, cB8⟩)
    (first
      | (go_at_call 8; refine (HT.out _ ?_).mono ?_; exact hw6.trans ((New.refl _).drew); rintro e w7 ⟨X7, rfl, e7, l7, g7, ⟨co7, o7⟩, hn7⟩; have n7 : New w6 w7 := ((New.refl _).drew).trans hn7; have cA7 := (bA6.new n7).cells; have cB7 := (b46.new n7).cells)
      | (go_at_call 12; refine (eqPr16 X4 X7 _ (O46.new n7).rd o7.rd (E4.out.trans e7.symm) L4.out).mono ?_; rintro e w8 ⟨rfl, hn8⟩; have n8 := n7.trans hn8; have cA8 := (bA6.new n8).cells; have cB8 := (b46.new n8).cells))
  have bA8 := bA6.new n8
  have bB8 := bB6.new n8
  have b38 := b36.new n8
  have b48 := b46.new n8
  have be8 := be6.new n8
  have b58 := b56.new n8
  have O38 := O36.new n8
  have O48 := O46.new n8
  have O58 := O56.new n8
  have ou8 := row9_new ou6 n8
  have hw8 := hw6.trans n8
  have z8 := n8.size
  clear cA cB cAd cBd cA7 cB7 cA8 cB8 bA6 bB6 b36 b46 be6 b56 O36 O46 O56 ou6 n8 n7 hn7 hn8 o7 e7 l7 g7
  have cA := bB8.cells
  have cB := be8.cells
  have cAd := (bB8.new ((New.refl _).drew)).cells
  have cBd := (be8.new ((New.refl _).drew)).cells
  go_wp2_with fail
  go_region_held3 (fun W => (∀ j, W.cell? ⟨w.heap.size + 1, j, none⟩ = (#[.int .i64 k1, .int .i64 p1, .slice x m d] : Array Value)[j]?) ∧ (∀ j, W.cell? ⟨w4b.heap.size, j, none⟩ = (#[.int .i64 k1, .int .i64 p1, .slice (some ⟨u4, 0, none⟩) m m] : Array Value)[j]?)) (first | exact ⟨cA, cB⟩ | exact ⟨cAd, cBd⟩ | exact ⟨cA7, cB7⟩ | exact ⟨cA8, cB8⟩)
    (first
      | (go_at_call 9; refine (toEvent_any k1 p1 x m d xs _ ?_ hX HM1.out).mono ?_; exact HX0.out _ (hw8.trans ((New.refl _).drew)); rintro e w9 ⟨u9, rfl, -, ou9, hn9⟩; have n9 : New w8 w9 := ((New.refl _).drew).trans hn9; have cA7 := (bB8.new n9).cells; have cB7 := (be8.new n9).cells)
      | (go_at_call 13; refine (eqEvent_any k1 p1 _ _ m m m xs _ (BsAt.of_own (row9_new ou8 n9) HUB.out) (BsAt.of_own ou9 HUB.out) hX HM1.out).mono ?_; rintro e w8c ⟨rfl, hn8c⟩; have n8c := n9.trans hn8c; have cA8 := (bB8.new n8c).cells; have cB8 := (be8.new n8c).cells))
  have bA8c := bA8.new n8c
  have bB8c := bB8.new n8c
  have b38c := b38.new n8c
  have b48c := b48.new n8c
  have be8c := be8.new n8c
  have b58c := b58.new n8c
  have O38c := O38.new n8c
  have O48c := O48.new n8c
  have O58c := O58.new n8c
  have ou8c := row9_new ou8 n8c
  have hw8c := hw8.trans n8c
  have z8c := n8c.size
  clear cA cB cAd cBd cA7 cB7 cA8 cB8 bA8 bB8 b38 b48 be8 b58 O38 O48 O58 ou8 n8c n9 hn9 hn8c ou9
  have cB := b48c.cells
  go_wp2_with fail
  refine (markPr16 X4 _ _ _ 1 _ O48c L4.out (by omega) (by omega) (by omega)).mono ?_
  rintro e w9a ⟨rfl, -, ht⟩
  have bA9a := bA8c.turn ht (by omega)
  have bB9a := bB8c.turn ht (by omega)
  have b39a := b38c.turn ht (by omega)
  have be9a := be8c.turn ht (by omega)
  have b59a := b58c.turn ht (by omega)
  have O39a := O38c.turn ht (by intro x h1 h2 h3; omega)
  have O59a := O58c.turn ht (by intro x h1 h2 h3; omega)
  have ou9a := row9_turn ou8c ht (by intro k hk; simp [Value.ownBlock] at hk; omega)
  have hw9a : New w w9a := hw8c.before ht (fun i hi e => by omega)
  have z9a := ht.size
  clear bA8c bB8c b38c b48c be8c b58c O38c O48c O58c cB ht ou8c
  have hE1 := (k16_bd L4.out (k := 1) (by omega) (by omega)).2.2.2.2
  have hE2 : eP16 1 X4 ≤ 1000000000 := by
    have h1 := (k16_bd L4.out (k := 1) (by omega) (by omega)).2.2.2.1
    have h2 := endK_bd X4.VS (kS16 1 X4)
    have h3 := L4.out.tS
    unfold eP16
    omega
  generalize eP16 1 X4 = k9a at *
  have cB := be9a.cells
  go_wp2_with fail
  refine (markEv_any k1 p1 _ m m k9a xs _ (OwAt.of_own ou9a) (by have := HM1.out; omega) hE1 (by omega)).mono ?_
  rintro e w9 ⟨rfl, -, ht⟩
  have hia : ∀ x, inA (some (⟨u4, 0, none⟩ : Addr)) x → x = u4 := by rintro x ⟨y, hy, rfl⟩; cases hy; rfl
  have bA9 := bA9a.turn ht (fun e => by have := hia _ e; omega)
  have bB9 := bB9a.turn ht (fun e => by have := hia _ e; omega)
  have b39 := b39a.turn ht (fun e => by have := hia _ e; omega)
  have b59 := b59a.turn ht (fun e => by have := hia _ e; omega)
  have O39 := O39a.turn ht (by intro x h1 h2 h3; have := hia _ h3; omega)
  have O59 := O59a.turn ht (by intro x h1 h2 h3; have := hia _ h3; omega)
  have hw9 : New w w9 := hw9a.before ht (fun i hi e => by have := hia _ e; omega)
  have z9 := ht.size
  clear bA9a bB9a b39a be9a b59a O39a O59a ht hia ou9a hw9a cB
  have hk9 : ¬ (k9a + (m : Int)) < 0 := by omega
  generalize k9a + (m : Int) = k9 at *
  have c3' := b39.cells
  have c5' := b59.cells
  go_wp2_with fail
  refine (eqPR16 z5 R5 R3 _ O59.rd O39.rd E5.out L5.out).mono ?_
  rintro e w10 ⟨rfl, hn10⟩
  have bA10 := bA9.new hn10
  have bB10 := bB9.new hn10
  have b310 := b39.new hn10
  have b510 := b59.new hn10
  have O310 := O39.new hn10
  have O510 := O59.new hn10
  have hw10 := hw9.trans hn10
  have z10 := hn10.size
  clear bA9 bB9 b39 b59 O39 O59 c3' c5' hn10
  have c5' := b510.cells
  go_wp2_with fail
  refine (markPR16 z5 R5 _ _ _ _ O510 L5.out (by omega)).mono ?_
  rintro e w11 ⟨rfl, m11, ht⟩
  have bA11 := bA10.turn ht (by omega)
  have bB11 := bB10.turn ht (by omega)
  have b311 := b310.turn ht (by omega)
  have b511 := b510.turn ht (by omega)
  have O311 := O310.turn ht (by intro x h1 h2 h3; omega)
  have hw11 : New w w11 := hw10.before ht (fun i hi e => by omega)
  have hB : Hid (PrB R5) := O510.rd.b
  clear bA10 bB10 b310 b510 O310 O510 c5' ht
  have c5' := b511.cells
  obtain ⟨E, HE⟩ : ∃ E, Hid (eP16 1 R5 = E) := ⟨_, rfl⟩
  have hE0 : ¬ E < 0 := by rw [← HE.out]; have := (k16_bd L5.out (k := 1) (by omega) (by omega)).2.2.2.2; omega
  have hEE : (E != E) = false := by simp
  rw [HE.out]
  go_wp2_with fail
  refine (heldPR16 z5 R5 _ m11 L5.out hB.out).mono ?_
  rintro e w12 ⟨rfl, hn12⟩
  rw [HE.out]
  have bA12 := bA11.new hn12
  have bB12 := bB11.new hn12
  have b312 := b311.new hn12
  have b512 := b511.new hn12
  have O312 := O311.new hn12
  have m12 := m11.new hn12
  have hw12 := hw11.trans hn12
  clear bA11 bB11 b311 b511 O311 m11 c5' hn12
  go_upto_region 31 with fail
  go_cut [15] from 79 to 84 (fun v wx => ∃ (B : Nat) (z3 : Int) (R3 : PrV) (co3 : Nat → Nat), v = .pointer (some ⟨B, 0, none⟩) ∧ Blk wx B 49 #[.int .i64 z3, .slice none 0 0, .int .i64 R3.sa, .int .i64 R3.si, .int .i64 R3.ho, .int .i64 R3.nx, .slice R3.a1 R3.n1 R3.c1, .slice R3.a2 R3.n2 R3.c2, .slice R3.aN R3.nN R3.cN, .slice R3.aW R3.nW R3.cW, .slice R3.aM R3.nM R3.cM, .slice R3.aS R3.nS R3.cS] ∧ GoR P0 nd (nfA (evG k1 p1 xs) P0 nd) z3 R3 ∧ PrOw wx 0 wx.heap.size co3 R3 ∧ New w12 wx)
  case first =>
    refine hw_start (n := 8) (S := fun X => New w12 X) rfl (by kernel_rfl) ((New.refl w12).drew) (fun hH => ?_)
    have nv := (New.refl w12).drew
    generalize w12.drew = u0 at *
    have sz0 := nv.size
    refine' hw_take 0 (some 79) (.agg #[.int .i64 sa, .int .i64 si, .int .i64 ho, .int .i64 nx, .slice a1 n1 c1, .slice a2 n2 c2, .slice aN nN cN, .slice aW nW cW, .slice aM nM cM, .slice aS nS cS]) rfl rfl (by kernel_rfl) (by kernel_rfl) (by kernel_rfl) (fun _ _ _ h => h) (by rfl) nv ?hyA31 ?rA31
    case hyA31 =>
      intro X hX
      exact run_load_blk 32 (.tmp 3) rfl w.heap.size rfl #[.int .i64 sa, .int .i64 si, .int .i64 ho, .int .i64 nx, .slice a1 n1 c1, .slice a2 n2 c2, .slice aN nN cN, .slice aW nW cW, .slice aM nM cM, .slice aS nS cS] _ (bA12.new hX) Tryz.underlying32 rfl (by kernel_rfl)
    simp only [Act.put, pA9, pB9, pC9]
    refine' hw_t 2 (some 81) _ rfl rfl nv ?hyC31 ?rC31
    case hyC31 =>
      intro X hX
      go_simp
      try rfl
    simp only [Act.put, pA9, pB9, pC9]
    refine' hw_take 3 (some 82) (.agg #[.int .i64 k1, .int .i64 p1, .slice x m d]) rfl rfl (by kernel_rfl) (by kernel_rfl) (by kernel_rfl) (fun _ _ _ h => h) (by rfl) nv ?hyB31 ?rB31
    case hyB31 =>
      intro X hX
      exact run_load_blk 35 (.tmp 5) rfl (w.heap.size + 1) rfl #[.int .i64 k1, .int .i64 p1, .slice x m d] _ (bB12.new hX) Tryz.underlying35 rfl (by kernel_rfl)
    simp only [Act.put, pA9, pB9, pC9]
    refine wpAnyH_ready (rs := [1, 6]) (by kernel_rfl) (by simp) (hw_step 1 (some 80) rfl rfl (by rfl) (fun K hK => ?e31a) (hw_step 6 (some 15) rfl rfl (by rfl) (fun K hK => ?e31b) (by intro j hj; cases hj)))
    case' e31b =>
      go_simp
      have nn := (New.refl u0).alloc (.cells #[.int .i64 0, .slice none 0 0, .int .i64 0, .int .i64 0, .int .i64 0, .int .i64 0, .slice none 0 0, .slice none 0 0, .slice none 0 0, .slice none 0 0, .slice none 0 0, .slice none 0 0] 49)
      have bZ := Blk.mk u0 u0.heap.size 49 #[.int .i64 0, .slice none 0 0, .int .i64 0, .int .i64 0, .int .i64 0, .int .i64 0, .slice none 0 0, .slice none 0 0, .slice none 0 0, .slice none 0 0, .slice none 0 0, .slice none 0 0] rfl
      have nv := nv.trans nn
      refine hK.out _ _ nv (fun _ => ?_)
      simp only [Act.put, pA9, pB9, pC9]
      obtain ⟨BZ, hBZ⟩ : ∃ BZ, BZ = u0.heap.size := ⟨_, rfl⟩
      rw [← hBZ] at bZ ⊢
      have lowZ : w12.heap.size ≤ BZ := by omega
      generalize u0.alloc (.cells #[.int .i64 0, .slice none 0 0, .int .i64 0, .int .i64 0, .int .i64 0, .int .i64 0, .slice none 0 0, .slice none 0 0, .slice none 0 0, .slice none 0 0, .slice none 0 0, .slice none 0 0] 49) = u0 at *
      have ltZ : BZ < u0.heap.size := bZ.lt
      have szZ := nv.size
      clear nn hBZ
      refine hw_call 1 (some 80) rfl rfl (by decide +kernel) (by rfl) (fun K hK => ?_)
    all_goals
      go_simp
      refine (HT.out _ (hw12.trans nv)).mono ?_
      rintro e u1 ⟨X2, rfl, e2, l2, g2, ⟨co2, o2⟩, hn⟩
      have nv1 := nv.trans hn
      have sz1 := hn.size
      try (have bZ := bZ.new hn)
      refine hK.out _ _ nv1 (fun _ => ?_)
      simp only [Act.put, pA9, pB9, pC9]
      first
        | refine hw_call 4 (some 83) rfl rfl (by decide +kernel) (by rfl) (fun K hK => ?_)
        | (refine wpAnyH_ready (rs := [4, 6]) (by kernel_rfl) (by simp) (hw_step 4 (some 83) rfl rfl (by rfl) (fun K hK => ?e31c) (hw_step 6 (some 15) rfl rfl (by rfl) (fun K hK => ?e31d) (by intro j hj; cases hj)))
           case' e31d =>
             go_simp
             have nn := (New.refl u1).alloc (.cells #[.int .i64 0, .slice none 0 0, .int .i64 0, .int .i64 0, .int .i64 0, .int .i64 0, .slice none 0 0, .slice none 0 0, .slice none 0 0, .slice none 0 0, .slice none 0 0, .slice none 0 0] 49)
             have bZ := Blk.mk u1 u1.heap.size 49 #[.int .i64 0, .slice none 0 0, .int .i64 0, .int .i64 0, .int .i64 0, .int .i64 0, .slice none 0 0, .slice none 0 0, .slice none 0 0, .slice none 0 0, .slice none 0 0, .slice none 0 0] rfl
             have nv1 := nv1.trans nn
             have o2 := o2.new nn
             refine hK.out _ _ nv1 (fun _ => ?_)
             simp only [Act.put, pA9, pB9, pC9]
             obtain ⟨BZ, hBZ⟩ : ∃ BZ, BZ = u1.heap.size := ⟨_, rfl⟩
             rw [← hBZ] at bZ ⊢
             have lowZ : w12.heap.size ≤ BZ := by omega
             generalize u1.alloc (.cells #[.int .i64 0, .slice none 0 0, .int .i64 0, .int .i64 0, .int .i64 0, .int .i64 0, .slice none 0 0, .slice none 0 0, .slice none 0 0, .slice none 0 0, .slice none 0 0, .slice none 0 0] 49) = u1 at *
             have ltZ : BZ < u1.heap.size := bZ.lt
             have szZ := nv1.size
             clear nn hBZ
             refine hw_call 4 (some 83) rfl rfl (by decide +kernel) (by rfl) (fun K hK => ?_))
      all_goals
        go_simp
        refine (toEvent_any k1 p1 x m d xs _ (HX0.out _ (hw12.trans nv1)) hX HM1.out).mono ?_
        rintro e u2 ⟨gX, rfl, -, hoX, hn2⟩
        have nv2 := nv1.trans hn2
        have sz2 := hn2.size
        have o2b := o2.new hn2
        try (have bZ := bZ.new hn2)
        refine hK.out _ _ nv2 (fun _ => ?_)
        simp only [Act.put, pA9, pB9, pC9]
        first
          | refine hw_call 5 (some 84) rfl rfl (by decide +kernel) (by rfl) (fun K hK => ?_)
          | (refine wpAnyH_ready (rs := [5, 6]) (by kernel_rfl) (by simp) (hw_step 5 (some 84) rfl rfl (by rfl) (fun K hK => ?e31e) (hw_step 6 (some 15) rfl rfl (by rfl) (fun K hK => ?e31f) (by intro j hj; cases hj)))
             case' e31f =>
               go_simp
               have nn := (New.refl u2).alloc (.cells #[.int .i64 0, .slice none 0 0, .int .i64 0, .int .i64 0, .int .i64 0, .int .i64 0, .slice none 0 0, .slice none 0 0, .slice none 0 0, .slice none 0 0, .slice none 0 0, .slice none 0 0] 49)
               have bZ := Blk.mk u2 u2.heap.size 49 #[.int .i64 0, .slice none 0 0, .int .i64 0, .int .i64 0, .int .i64 0, .int .i64 0, .slice none 0 0, .slice none 0 0, .slice none 0 0, .slice none 0 0, .slice none 0 0, .slice none 0 0] rfl
               have nv2 := nv2.trans nn
               have o2b := o2b.new nn
               have hoX := row9_new hoX nn
               refine hK.out _ _ nv2 (fun _ => ?_)
               simp only [Act.put, pA9, pB9, pC9]
               obtain ⟨BZ, hBZ⟩ : ∃ BZ, BZ = u2.heap.size := ⟨_, rfl⟩
               rw [← hBZ] at bZ ⊢
               have lowZ : w12.heap.size ≤ BZ := by omega
               generalize u2.alloc (.cells #[.int .i64 0, .slice none 0 0, .int .i64 0, .int .i64 0, .int .i64 0, .int .i64 0, .slice none 0 0, .slice none 0 0, .slice none 0 0, .slice none 0 0, .slice none 0 0, .slice none 0 0] 49) = u2 at *
               have ltZ : BZ < u2.heap.size := bZ.lt
               have szZ := nv2.size
               clear nn hBZ
               refine hw_call 5 (some 84) rfl rfl (by decide +kernel) (by rfl) (fun K hK => ?_))
        all_goals
          go_simp
          refine (implEvL P0 X2 nd k1 p1 _ m m xs _ _ _ _ o2b e2 l2 g2 (BsAt.of_own hoX HUB.out) hX (fun e => by cases e) HM1.out).mono ?_
          rintro e u3 ⟨z3, R3, co3, rfl, k3, o3, hn3⟩
          have nv3 := nv2.trans hn3
          have sz3 := hn3.size
          have K3 : Hid (GoR P0 nd (nfA (evG k1 p1 xs) P0 nd) z3 R3) := k3
          clear k3
          try (have bZ := bZ.new hn3)
          refine hK.out _ _ nv3 (fun _ => ?_)
          simp only [Act.put, pA9, pB9, pC9]
          try
            refine hw_call 6 (some 15) rfl rfl (by decide +kernel) (by rfl) (fun K hK => ?_)
            go_simp
            have nn := (New.refl u3).alloc (.cells #[.int .i64 0, .slice none 0 0, .int .i64 0, .int .i64 0, .int .i64 0, .int .i64 0, .slice none 0 0, .slice none 0 0, .slice none 0 0, .slice none 0 0, .slice none 0 0, .slice none 0 0] 49)
            have bZ := Blk.mk u3 u3.heap.size 49 #[.int .i64 0, .slice none 0 0, .int .i64 0, .int .i64 0, .int .i64 0, .int .i64 0, .slice none 0 0, .slice none 0 0, .slice none 0 0, .slice none 0 0, .slice none 0 0, .slice none 0 0] rfl
            have nv3 := nv3.trans nn
            have o3 := o3.new nn
            refine hK.out _ _ nv3 (fun _ => ?_)
            simp only [Act.put, pA9, pB9, pC9]
            obtain ⟨BZ, hBZ⟩ : ∃ BZ, BZ = u3.heap.size := ⟨_, rfl⟩
            rw [← hBZ] at bZ ⊢
            have lowZ : w12.heap.size ≤ BZ := by omega
            generalize u3.alloc (.cells #[.int .i64 0, .slice none 0 0, .int .i64 0, .int .i64 0, .int .i64 0, .int .i64 0, .slice none 0 0, .slice none 0 0, .slice none 0 0, .slice none 0 0, .slice none 0 0, .slice none 0 0] 49) = u3 at *
            have ltZ : BZ < u3.heap.size := bZ.lt
            have szZ := nv3.size
            have hiZ := Nat.le_of_eq hBZ.symm
            clear nn hBZ
          refine hw_call 7 none rfl rfl (by decide +kernel) (by rfl) (fun K hK => ?_)
          refine hw_store 49 (.tmp 15) (.tmp 84) rfl rfl BZ #[.int .i64 z3, .slice none 0 0, .int .i64 R3.sa, .int .i64 R3.si, .int .i64 R3.ho, .int .i64 R3.nx, .slice R3.a1 R3.n1 R3.c1, .slice R3.a2 R3.n2 R3.c2, .slice R3.aN R3.nN R3.cN, .slice R3.aW R3.nW R3.cW, .slice R3.aM R3.nM R3.cM, .slice R3.aS R3.nS R3.cS] #[.int .i64 0, .slice none 0 0, .int .i64 0, .int .i64 0, .int .i64 0, .int .i64 0, .slice none 0 0, .slice none 0 0, .slice none 0 0, .slice none 0 0, .slice none 0 0, .slice none 0 0] rfl rfl bZ (by kernel_rfl) rfl (by kernel_rfl) ?_
          have bR := bZ.rowW #[.int .i64 z3, .slice none 0 0, .int .i64 R3.sa, .int .i64 R3.si, .int .i64 R3.ho, .int .i64 R3.nx, .slice R3.a1 R3.n1 R3.c1, .slice R3.a2 R3.n2 R3.c2, .slice R3.aN R3.nN R3.cN, .slice R3.aW R3.nW R3.cW, .slice R3.aM R3.nM R3.cM, .slice R3.aS R3.nS R3.cS]
          have tR := Turn.rowW (Turn.refl (fun i => i = BZ) u3) rfl #[.int .i64 z3, .slice none 0 0, .int .i64 R3.sa, .int .i64 R3.si, .int .i64 R3.ho, .int .i64 R3.nx, .slice R3.a1 R3.n1 R3.c1, .slice R3.a2 R3.n2 R3.c2, .slice R3.aN R3.nN R3.cN, .slice R3.aW R3.nW R3.cW, .slice R3.aM R3.nM R3.cM, .slice R3.aS R3.nS R3.cS]
          have oR := (o3.turn tR (by intro x h1 h2 e; omega)).low (Nat.zero_le _)
          have nR := nv3.before tR (by intro i hi e; omega)
          have zR := tR.size
          refine hK.out undef _ nR (fun _ => ?_)
          try simp only [Act.put, pA9, pB9, pC9]
          refine wpAnyH_done (by kernel_rfl) ?_ _
          generalize World.setRow _ _ _ = wR at *
          go_wp2_with fail
          go_meet
          exact ⟨BZ, z3, R3, co3, rfl, bR, K3.out, oR.up (by omega), nR⟩
  case rest =>
  obtain ⟨B9, z14, R14, co14, rfl, b9, k14, O914, n14⟩ := hcut
  obtain ⟨w14, rfl⟩ : ∃ W0, W0 = wc := ⟨_, rfl⟩
  obtain ⟨rfl, e143⟩ := K3.out.det k14
  have l14 := limEv L0.out k14
  have b314 := b312.new n14
  have b514 := b512.new n14
  have O314 := O312.new n14
  have m14 := m12.new n14
  have hw14 := hw12.trans n14
  have E9 : Hid (PrE R14 R3) := e143.symm
  have L9 : Hid (PrL R14) := l14
  clear bA12 bB12 b312 b512 O312 m12 n14 k14 e143 l14
  have c3' := b314.cells
  have c9' := b9.cells
  go_wp2_with fail
  refine (eqPR16 z5 R14 R3 _ O914.rd O314.rd E9.out L9.out).mono ?_
  rintro e w15 ⟨rfl, hn15⟩
  have c5' := (b514.new hn15).cells
  have m15 := m14.new hn15
  have hw15 := hw14.trans hn15
  clear b314 b514 b9 c3' c9' O314 O914 m14
  go_wp2_with fail
  refine (heldPR16 z5 R5 _ m15 L5.out hB.out).mono ?_
  rintro e w16 ⟨rfl, hn16⟩
  rw [HE.out]
  clear m15 c5'
  go_wp2
  go_ret
  exact ⟨rfl, hw15.trans hn16⟩

set_option maxRecDepth 100000 in
theorem aev_lifted (os : Os) (started : os.Started) (H : Type) (enc : TypeId × Value → H) :
    ReturnsInHanded {} Tryz.checked os 3 .any (Rows.fnExactEventPairSpec.pre6 enc Tryz.prog Tryz.f3 Rows.fnExactEventPairRow.domain false) (Rows.fnExactEventPairSpec.post enc Tryz.prog Tryz.f3 false true false false) := by
  refine returnsInHanded_of_change (C := Tryz.checked) own started (by kernel_rfl) Tryz.func3
    (ChangeSpec.witness6 (enc := enc) (C := Tryz.checked) false ⟨#[], #[.agg #[.int .i64 0, .int .i64 0, .int .i64 0, .int .i64 0, .slice none 0 0, .slice none 0 0, .slice none 0 0, .slice none 0 0, .slice none 0 0, .slice none 0 0], .int .i64 0, .agg #[.int .i64 0, .int .i64 0, .slice none 0 0]], []⟩ 8 (by kernel_rfl) (by kernel_rfl) (by kernel_rfl) (by kernel_rfl)) ?_
  intro W base args ds gs before hval0 hW hcnd _
  have hval : ∀ (j : Nat) t v, Tryz.f3.params[j]? = some t → args[j]? = some v → Value.okWide Tryz.prog W .any base t v := hval0
  have hW' := hW
  obtain ⟨p, q, hA0, hV, rfl, hfz, hnd⟩ := hW
  have hA : DataW.TrodAll enc Tryz.prog W 0 (fun _ => true) true Tryz.f3.params.toList args.toList ds p := hA0
  rw [Tryz.params3] at hA hval
  obtain ⟨v0, vs0, d0, ds0, p0, q0, hargs0, rfl, rfl, h0, r0⟩ := trodAll_cons hA
  obtain ⟨v1, vs1, d1, ds1, p1, q1, hargs1, rfl, rfl, h1, r1⟩ := trodAll_cons r0
  obtain ⟨v2, vs2, d2, ds2, p2, q2, hargs2, rfl, rfl, h2, r2⟩ := trodAll_cons r1
  obtain ⟨rfl, rfl, rfl⟩ := trodAll_nil r2
  obtain rfl : args = #[v0, v1, v2] := by cases args; simp_all
  obtain ⟨rfl, rfl⟩ := trodVars_none hV
  have k0 := h0
  have k2 := h2
  have lt2 : ∀ x ∈ p2, x.block < W.heap.size := by obtain ⟨m, hm⟩ := k2; exact DataW.trod_lt m _ _ _ hm
  have lt0 : ∀ x ∈ p0, x.block < W.heap.size := by obtain ⟨m, hm⟩ := k0; exact DataW.trod_lt m _ _ _ hm
  obtain ⟨sa, si, ho, nx, a1, a2, aN, aW, aM, aS, n1, c1, n2, c2, nN, cN, nW, cW, nM, cM, nS, cS, u1, u2, LN, LW, LM, LS, rfl, hP⟩ := open_pair (hval 0 32 v0 rfl rfl) h0
  obtain ⟨x1, rfl, rfl, rfl, w1⟩ := open_int Tryz.underlying2 (hval 1 2 v1 rfl rfl) h1
  obtain ⟨k01, p01, x01, m01, d01, z01, rfl, hx1, hz1, hm01⟩ := open_event (hval 2 35 v2 rfl rfl) h2
  clear hA0 hval0
  refine (aev_walk sa si ho nx a1 a2 aN aW aM aS n1 c1 n2 c2 nN cN nW cW nM cM nS cS u1 u2 LN LW LM LS x1 k01 p01 x01 m01 d01 z01 W hx1 hz1 hm01 hP).mono fun e W' ⟨he, new⟩ => ?_
  have bel := new.below
  subst he
  exact ⟨_, rfl, _, _, _, [], _, [], hW', trodAll_mk1 (shut_bool Tryz.underlying4 _), (trodAll_cons_mk (Below.trod laidOut (by kernel_rfl) (of_decide_eq_true (by kernel_rfl)) k0 bel lt0) (trodAll_cons_mk (shut_int Tryz.underlying2 w1) (trodAll_cons_mk (Below.trod laidOut (by kernel_rfl) (of_decide_eq_true (by kernel_rfl)) k2 bel lt2) trodAll_mk0))), rfl, bel.frame _, fun h => by cases h⟩

theorem aev_holds : Rows.FnExactEventPairSaid :=
  OpenClaim.holds_of_wide 3 Tryz.f3 rfl rfl rfl rfl rfl rfl rfl ⟨rfl, rfl, rfl, rfl, rfl⟩ rfl rfl rfl rfl rfl (by kernel_rfl) Tryz.func3 (by kernel_rfl)
    (of_decide_eq_true (by kernel_rfl)) (by unfold Func.isWrapper; first | (rw [if_pos (by decide +kernel)]; kernel_rfl) | (rw [if_neg (by decide +kernel)]; exact ⟨rfl, rfl⟩))
    (fun os started H enc _ => aev_lifted os started H enc)

end Go.Proofs.YtdbnmkffinhdjaaGreat
