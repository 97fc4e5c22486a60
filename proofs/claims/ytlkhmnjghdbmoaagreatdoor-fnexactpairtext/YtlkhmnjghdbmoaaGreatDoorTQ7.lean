/- What is proved here: the model's text of a pair. -/
import Derived.Test.YtlkhmnjghdbmoaaGreatDoorTQ6
namespace Go.Proofs.YtlkhmnjghdbmoaaGreatDoor
open Go.RowKit Go.Sort Go.Deep
set_option linter.unusedVariables false
set_option linter.unusedSimpArgs false

/-- The text of a pair. -/
def txF (LN : List NdV) (LW : List WiV) (m s : Nat) : List UInt8 := (LN.map ndT).flatten ++ (LW.mapIdx wiT).flatten ++ mlT m s

set_option maxRecDepth 100000 in
set_option maxHeartbeats 12800000 in
theorem l16PairT (sa si ho nx : Int) (a1 a2 aN aW aM aS : Option Addr) (n1 c1 n2 c2 nN cN nW cW nM cM nS cS : Nat) (LN : List NdV) (LW : List WiV) (B : Nat) (w : World) (hb : Blk w B 46 #[.int .i64 sa, .int .i64 si, .int .i64 ho, .int .i64 nx, .slice a1 n1 c1, .slice a2 n2 c2, .slice aN nN cN, .slice aW nW cW, .slice aM nM cM, .slice aS nS cS]) (hn : NdAt w aN LN) (hw : WiAt w aW LW) (lN : LN.length = nN) (lW : LW.length = nW) (mN : nN ≤ 2) (mW : nW ≤ 3) (mM : nM ≤ 65535) (mS : nS ≤ 65535) (sN : ∀ v ∈ LN, NdSm v) (sW : ∀ v ∈ LW, WiSm v) :
    Calls Tryz.prog 16 #[.pointer (some ⟨B, 0, none⟩)] w fun e w' => e = .returned (.string (sB (txF LN LW nM nS))) ∧ New w w' := by
  have LNh : Hid (LN.length = nN) := lN
  have LWh : Hid (LW.length = nW) := lW
  have HSN : Hid (∀ v ∈ LN, NdSm v) := sN
  have HSW : Hid (∀ v ∈ LW, WiSm v) := sW
  have HNL : Hid (∀ k, k ≤ nN → ((LN.map ndT).take k).flatten.length ≤ 400) := fun k hk => by
    have h1 := flat_len (X := LN.map ndT) 200 k (by rw [List.length_map]; omega) (by intro x hx; obtain ⟨v, hv, rfl⟩ := List.mem_map.1 hx; exact ndT_len (sN v hv))
    omega
  have HWL : Hid (∀ k, k ≤ nW → ((LW.mapIdx wiT).take k).flatten.length ≤ 600) := fun k hk => by
    have h1 := flat_len (X := LW.mapIdx wiT) 200 k (by rw [List.length_mapIdx]; omega) (by intro x hx; obtain ⟨i, hi, rfl⟩ := List.mem_mapIdx.1 hx; exact wiT_len (by omega) (sW _ (List.getElem_mem _)))
    omega
  clear lN lW sN sW
  have c0 := hb.cells
  go_enter Tryz.func16, Tryz.ntmps16
  go_wp2
  go_loopw [3, 4] (fun s i wr => ∃ k : Nat, k ≤ nN ∧ i = .int .i64 k ∧ s = .string (sB (((LN.map ndT).take k).flatten)) ∧ New w wr) (fun _ i _ => nN - (intOf i).toNat)
  case atStart => exact ⟨0, Nat.zero_le _, rfl, by rw [List.take_zero, List.flatten_nil]; rfl, New.refl w⟩
  case round =>
    obtain ⟨k, hk, rfl, rfl, hnw⟩ := hrel
    clear c0
    have c0 := (hb.new hnw).cells
    have hPl := HNL.out k hk
    obtain ⟨P, hP⟩ : ∃ P, ((LN.map ndT).take k).flatten = P := ⟨_, rfl⟩
    have HP : Hid (((LN.map ndT).take k).flatten = P) := hP
    rw [hP] at hPl ⊢
    clear hP
    by_cases hlt : k < nN
    case neg =>
      obtain rfl : k = nN := by omega
      have HP2 : Hid ((LN.map ndT).flatten = P) := by have := HP.out; rw [List.take_of_length_le (by rw [List.length_map, LNh.out]; omega)] at this; exact this
      clear HP
      rename World => wz
      go_wp2
      go_loopw [3, 8] (fun s i wr => ∃ k : Nat, k ≤ nW ∧ i = .int .i64 k ∧ s = .string (sB ((LN.map ndT).flatten ++ ((LW.mapIdx wiT).take k).flatten)) ∧ New w wr) (fun _ i _ => nW - (intOf i).toNat)
      case atStart => exact ⟨0, Nat.zero_le _, rfl, by rw [List.take_zero, List.flatten_nil, List.append_nil, HP2.out], hnw⟩
      case round =>
        clear hnw
        obtain ⟨k, hk, rfl, rfl, hnw⟩ := hrel
        clear c0
        have c0 := (hb.new hnw).cells
        have hPl2 := HWL.out k hk
        have hPl3 : ((LN.map ndT).flatten ++ ((LW.mapIdx wiT).take k).flatten).length ≤ 1000 := by rw [List.length_append, HP2.out]; omega
        clear hPl2
        obtain ⟨P, hP⟩ : ∃ P, (LN.map ndT).flatten ++ ((LW.mapIdx wiT).take k).flatten = P := ⟨_, rfl⟩
        have HP : Hid ((LN.map ndT).flatten ++ ((LW.mapIdx wiT).take k).flatten = P) := hP
        rw [hP] at hPl3 ⊢
        clear hP
        by_cases hlt : k < nW
        case neg =>
          obtain rfl : k = nW := by omega
          have HPW : Hid ((LN.map ndT).flatten ++ (LW.mapIdx wiT).flatten = P) := by have := HP.out; rw [List.take_of_length_le (by rw [List.length_mapIdx, LWh.out]; omega)] at this; exact this
          clear HP
          have HP := HPW
          have hl2 : (lnF [109, 97, 105, 108, 115] [(nM : Int), (nS : Int)]).length ≤ 100 := by have := lnF_len [109, 97, 105, 108, 115] 2 [(nM : Int), (nS : Int)] rfl (by intro z hz; simp only [List.mem_cons, List.not_mem_nil, or_false] at hz; omega); simp at this ⊢; omega
          obtain ⟨L2, HL2⟩ : ∃ L2, Hid ((lnF [109, 97, 105, 108, 115] [(nM : Int), (nS : Int)]) = L2) := hex _
          rw [HL2.out] at hl2
          obtain ⟨Q1, HQ1⟩ : ∃ Q1, Hid (Q1 = P ++ L2) := hexr _
          have hlq : Q1.length ≤ 2000 := by rw [HQ1.out, List.length_append]; omega
          obtain ⟨Q2, HQ2⟩ : ∃ Q2, Hid (Q2 = Q1 ++ [10]) := hexr _
          have hT : Hid (txF LN LW nM nS = Q2) := by
            unfold Hid
            unfold txF mlT
            rw [HP.out, HQ2.out, HQ1.out, ← HL2.out, ← List.append_assoc]
          go_upto_region 18 with fail
          refine hw_start (n := 16) (S := fun X => New wr X) rfl (by kernel_rfl) ((New.refl wr).drew) (fun hN => ?_)
          generalize wr.drew = c0 at *
          refine' hw_take 0 (some 105) _ rfl rfl (by kernel_rfl) (by kernel_rfl) (by kernel_rfl) (fun _ _ _ h => h) (by rfl) hN ?hy1 ?rest1
          case hy1 =>
            intro X hX
            go_simp
            try rfl
          simp only [Act.put, List.setIfInBounds_toArray, List.set_cons_zero, List.set_cons_succ]
          refine' hw_take 1 (some 106) _ rfl rfl (by kernel_rfl) (by kernel_rfl) (by kernel_rfl) (fun _ _ _ h => h) (by rfl) hN ?hy2 ?rest2
          case hy2 =>
            intro X hX
            go_simp
            try rfl
          simp only [Act.put, List.setIfInBounds_toArray, List.set_cons_zero, List.set_cons_succ]
          refine' hw_take 2 (some 107) _ rfl rfl (by kernel_rfl) (by kernel_rfl) (by kernel_rfl) (fun _ _ _ h => h) (by rfl) hN ?hy3 ?rest3
          case hy3 =>
            intro X hX
            go_simp
            try rfl
          simp only [Act.put, List.setIfInBounds_toArray, List.set_cons_zero, List.set_cons_succ]
          refine' hw_take 3 (some 108) _ rfl rfl (by kernel_rfl) (by kernel_rfl) (by kernel_rfl) (fun _ _ _ h => h) (by rfl) hN ?hy4 ?rest4
          case hy4 =>
            intro X hX
            go_simp
            try rfl
          simp only [Act.put, List.setIfInBounds_toArray, List.set_cons_zero, List.set_cons_succ]
          refine' hw_take 4 (some 109) _ rfl rfl (by kernel_rfl) (by kernel_rfl) (by kernel_rfl) (fun _ _ _ h => h) (by rfl) hN ?hy5 ?rest5
          case hy5 =>
            intro X hX
            have cX := (hb.new (hnw.trans hX)).cells
            go_simp
            try rfl
          simp only [Act.put, List.setIfInBounds_toArray, List.set_cons_zero, List.set_cons_succ]
          refine' hw_take 5 (some 110) _ rfl rfl (by kernel_rfl) (by kernel_rfl) (by kernel_rfl) (fun _ _ _ h => h) (by rfl) hN ?hy6 ?rest6
          case hy6 =>
            intro X hX
            go_simp
            try rfl
          simp only [Act.put, List.setIfInBounds_toArray, List.set_cons_zero, List.set_cons_succ]
          refine' hw_take 6 (some 111) _ rfl rfl (by kernel_rfl) (by kernel_rfl) (by kernel_rfl) (fun _ _ _ h => h) (by rfl) hN ?hy7 ?rest7
          case hy7 =>
            intro X hX
            go_simp
            try rfl
          simp only [Act.put, List.setIfInBounds_toArray, List.set_cons_zero, List.set_cons_succ]
          refine' hw_take 7 (some 112) _ rfl rfl (by kernel_rfl) (by kernel_rfl) (by kernel_rfl) (fun _ _ _ h => h) (by rfl) hN ?hy8 ?rest8
          case hy8 =>
            intro X hX
            go_simp
            try rfl
          simp only [Act.put, List.setIfInBounds_toArray, List.set_cons_zero, List.set_cons_succ]
          refine' hw_take 8 (some 113) _ rfl rfl (by kernel_rfl) (by kernel_rfl) (by kernel_rfl) (fun _ _ _ h => h) (by rfl) hN ?hy9 ?rest9
          case hy9 =>
            intro X hX
            go_simp
            try rfl
          simp only [Act.put, List.setIfInBounds_toArray, List.set_cons_zero, List.set_cons_succ]
          refine' hw_take 9 (some 114) _ rfl rfl (by kernel_rfl) (by kernel_rfl) (by kernel_rfl) (fun _ _ _ h => h) (by rfl) hN ?hy10 ?rest10
          case hy10 =>
            intro X hX
            have cX := (hb.new (hnw.trans hX)).cells
            go_simp
            try rfl
          simp only [Act.put, List.setIfInBounds_toArray, List.set_cons_zero, List.set_cons_succ]
          refine' hw_take 10 (some 115) _ rfl rfl (by kernel_rfl) (by kernel_rfl) (by kernel_rfl) (fun _ _ _ h => h) (by rfl) hN ?hy11 ?rest11
          case hy11 =>
            intro X hX
            go_simp
            try rfl
          simp only [Act.put, List.setIfInBounds_toArray, List.set_cons_zero, List.set_cons_succ]
          refine hw_call 11 (some 116) rfl rfl (by kernel_rfl) (by rfl) (fun K hK => ?_)
          go_simp
          have al := (New.refl c0).alloc (.cells #[.int .i64 nM, .int .i64 nS] 2)
          have b2 := Blk.mk c0 c0.heap.size 2 #[.int .i64 nM, .int .i64 nS] rfl
          replace hN := hN.trans al
          refine hK.out _ _ hN (fun _ => ?_)
          simp only [Act.put, List.setIfInBounds_toArray, List.set_cons_zero, List.set_cons_succ]
          generalize c0.alloc (.cells #[.int .i64 nM, .int .i64 nS] 2) = c1 at *
          clear al
          refine hw_call 12 (some 117) rfl rfl (by kernel_rfl) (by rfl) (fun K hK => ?_)
          go_simp
          refine (lineT [109, 97, 105, 108, 115] (by decide) (some ⟨c0.heap.size, 0, none⟩) 2 2 [(nM : Int), (nS : Int)] c1 (nsAt_blk b2 (by intro i z hz; match i, hz with | 0, hz => simpa using hz | 1, hz => simpa using hz) (by intro z hz; simp only [List.mem_cons, List.not_mem_nil, or_false] at hz; unfold In6; omega)) rfl (by omega) (by intro z hz; simp only [List.mem_cons, List.not_mem_nil, or_false] at hz; omega)).mono ?_
          rintro e c2 ⟨rfl, al⟩
          clear b2
          rw [HL2.out]
          replace hN := hN.trans al
          clear al
          refine hK.out _ _ hN (fun _ => ?_)
          simp only [Act.put, List.setIfInBounds_toArray, List.set_cons_zero, List.set_cons_succ]
          refine' hw_take 13 (some 118) (.string (sB Q1)) rfl rfl (by kernel_rfl) (by kernel_rfl) (by kernel_rfl) (fun _ _ _ h => h) (by rfl) hN ?hy12 ?rest12
          case hy12 =>
            intro X hX
            exact cat_take P L2 HQ1 rfl rfl rfl (by have := hl2; omega)
            try rfl
          simp only [Act.put, List.setIfInBounds_toArray, List.set_cons_zero, List.set_cons_succ]
          refine' hw_take 14 (some 119) (.string (sB Q2)) rfl rfl (by kernel_rfl) (by kernel_rfl) (by kernel_rfl) (fun _ _ _ h => h) (by rfl) hN ?hy13 ?rest13
          case hy13 =>
            intro X hX
            exact cat_take Q1 [10] HQ2 rfl rfl rfl (by have := hlq; simp only [List.length_cons, List.length_nil]; omega)
            try rfl
          simp only [Act.put, List.setIfInBounds_toArray, List.set_cons_zero, List.set_cons_succ]
          refine' hw_take 15 (some 2) _ rfl rfl (by kernel_rfl) (by kernel_rfl) (by kernel_rfl) (fun _ _ _ h => h) (by rfl) hN ?hy14 ?rest14
          case hy14 =>
            intro X hX
            go_simp
            try rfl
          simp only [Act.put, List.setIfInBounds_toArray, List.set_cons_zero, List.set_cons_succ]
          refine wpAnyH_done (by kernel_rfl) ?_ _
          go_wp2
          go_ret
          exact ⟨by rw [hT.out]; rfl, hnw.trans hN⟩

        obtain ⟨g, E, T, x, x2, m, d, m2, d2, xs, ys, rfl, hv, hl1, hlb, hx, hx2, hmx, hmx2, q0, q1, q2, q3⟩ := (hw.new hnw).at k (by rw [LWh.out]; exact hlt)
        have HV : Hid (LW[k]? = some ⟨E, T, x, x2, d, d2, xs, ys⟩) := hv
        obtain ⟨⟨e0, e1⟩, t1, ⟨t2, t3⟩, t4⟩ := HSW.out _ (List.mem_of_getElem? hv)
        dsimp only at e0 e1 t1 t2 t3 t4
        rw [hl1] at t1
        rw [hlb] at t4
        clear hv hx hx2
        have hl2 : (lnF [119, 105, 114, 101] [(k : Int), E, (m : Int), T, (m2 : Int)]).length ≤ 100 := by have := lnF_len [119, 105, 114, 101] 5 [(k : Int), E, (m : Int), T, (m2 : Int)] rfl (by intro z hz; simp only [List.mem_cons, List.not_mem_nil, or_false] at hz; omega); simp at this ⊢; omega
        obtain ⟨L2, HL2⟩ : ∃ L2, Hid ((lnF [119, 105, 114, 101] [(k : Int), E, (m : Int), T, (m2 : Int)]) = L2) := hex _
        rw [HL2.out] at hl2
        obtain ⟨Q1, HQ1⟩ : ∃ Q1, Hid (Q1 = P ++ L2) := hexr _
        have hlq : Q1.length ≤ 2000 := by rw [HQ1.out, List.length_append]; omega
        obtain ⟨Q2, HQ2⟩ : ∃ Q2, Hid (Q2 = Q1 ++ [10]) := hexr _
        go_upto_region 17 with fail
        refine hw_start (n := 25) (S := fun X => New wr X) rfl (by kernel_rfl) ((New.refl wr).drew) (fun hN => ?_)
        generalize wr.drew = c0 at *
        refine' hw_take 0 (some 81) _ rfl rfl (by kernel_rfl) (by kernel_rfl) (by kernel_rfl) (fun _ _ _ h => h) (by rfl) hN ?hy15 ?rest15
        case hy15 =>
          intro X hX
          go_simp
          try rfl
        simp only [Act.put, List.setIfInBounds_toArray, List.set_cons_zero, List.set_cons_succ]
        refine' hw_take 1 (some 82) _ rfl rfl (by kernel_rfl) (by kernel_rfl) (by kernel_rfl) (fun _ _ _ h => h) (by rfl) hN ?hy16 ?rest16
        case hy16 =>
          intro X hX
          go_simp
          try rfl
        simp only [Act.put, List.setIfInBounds_toArray, List.set_cons_zero, List.set_cons_succ]
        refine' hw_take 2 (some 83) _ rfl rfl (by kernel_rfl) (by kernel_rfl) (by kernel_rfl) (fun _ _ _ h => h) (by rfl) hN ?hy17 ?rest17
        case hy17 =>
          intro X hX
          go_simp
          try rfl
        simp only [Act.put, List.setIfInBounds_toArray, List.set_cons_zero, List.set_cons_succ]
        refine' hw_take 3 (some 84) _ rfl rfl (by kernel_rfl) (by kernel_rfl) (by kernel_rfl) (fun _ _ _ h => h) (by rfl) hN ?hy18 ?rest18
        case hy18 =>
          intro X hX
          go_simp
          try rfl
        simp only [Act.put, List.setIfInBounds_toArray, List.set_cons_zero, List.set_cons_succ]
        refine' hw_take 4 (some 85) _ rfl rfl (by kernel_rfl) (by kernel_rfl) (by kernel_rfl) (fun _ _ _ h => h) (by rfl) hN ?hy19 ?rest19
        case hy19 =>
          intro X hX
          go_simp
          try rfl
        simp only [Act.put, List.setIfInBounds_toArray, List.set_cons_zero, List.set_cons_succ]
        refine' hw_take 5 (some 86) _ rfl rfl (by kernel_rfl) (by kernel_rfl) (by kernel_rfl) (fun _ _ _ h => h) (by rfl) hN ?hy20 ?rest20
        case hy20 =>
          intro X hX
          have q0X := (hX.below.cell (World.block_lt_of_cell? _ _ q0)).trans q0
          go_simp
          try rfl
        simp only [Act.put, List.setIfInBounds_toArray, List.set_cons_zero, List.set_cons_succ]
        refine' hw_take 6 (some 87) _ rfl rfl (by kernel_rfl) (by kernel_rfl) (by kernel_rfl) (fun _ _ _ h => h) (by rfl) hN ?hy21 ?rest21
        case hy21 =>
          intro X hX
          go_simp
          try rfl
        simp only [Act.put, List.setIfInBounds_toArray, List.set_cons_zero, List.set_cons_succ]
        refine' hw_take 7 (some 88) _ rfl rfl (by kernel_rfl) (by kernel_rfl) (by kernel_rfl) (fun _ _ _ h => h) (by rfl) hN ?hy22 ?rest22
        case hy22 =>
          intro X hX
          go_simp
          try rfl
        simp only [Act.put, List.setIfInBounds_toArray, List.set_cons_zero, List.set_cons_succ]
        refine' hw_take 8 (some 89) _ rfl rfl (by kernel_rfl) (by kernel_rfl) (by kernel_rfl) (fun _ _ _ h => h) (by rfl) hN ?hy23 ?rest23
        case hy23 =>
          intro X hX
          go_simp
          try rfl
        simp only [Act.put, List.setIfInBounds_toArray, List.set_cons_zero, List.set_cons_succ]
        refine' hw_take 9 (some 90) _ rfl rfl (by kernel_rfl) (by kernel_rfl) (by kernel_rfl) (fun _ _ _ h => h) (by rfl) hN ?hy24 ?rest24
        case hy24 =>
          intro X hX
          have q1X := (hX.below.cell (World.block_lt_of_cell? _ _ q1)).trans q1
          go_simp
          try rfl
        simp only [Act.put, List.setIfInBounds_toArray, List.set_cons_zero, List.set_cons_succ]
        refine' hw_take 10 (some 91) _ rfl rfl (by kernel_rfl) (by kernel_rfl) (by kernel_rfl) (fun _ _ _ h => h) (by rfl) hN ?hy25 ?rest25
        case hy25 =>
          intro X hX
          go_simp
          try rfl
        simp only [Act.put, List.setIfInBounds_toArray, List.set_cons_zero, List.set_cons_succ]
        refine' hw_take 11 (some 92) _ rfl rfl (by kernel_rfl) (by kernel_rfl) (by kernel_rfl) (fun _ _ _ h => h) (by rfl) hN ?hy26 ?rest26
        case hy26 =>
          intro X hX
          go_simp
          try rfl
        simp only [Act.put, List.setIfInBounds_toArray, List.set_cons_zero, List.set_cons_succ]
        refine' hw_take 12 (some 93) _ rfl rfl (by kernel_rfl) (by kernel_rfl) (by kernel_rfl) (fun _ _ _ h => h) (by rfl) hN ?hy27 ?rest27
        case hy27 =>
          intro X hX
          go_simp
          try rfl
        simp only [Act.put, List.setIfInBounds_toArray, List.set_cons_zero, List.set_cons_succ]
        refine' hw_take 13 (some 94) _ rfl rfl (by kernel_rfl) (by kernel_rfl) (by kernel_rfl) (fun _ _ _ h => h) (by rfl) hN ?hy28 ?rest28
        case hy28 =>
          intro X hX
          go_simp
          try rfl
        simp only [Act.put, List.setIfInBounds_toArray, List.set_cons_zero, List.set_cons_succ]
        refine' hw_take 14 (some 95) _ rfl rfl (by kernel_rfl) (by kernel_rfl) (by kernel_rfl) (fun _ _ _ h => h) (by rfl) hN ?hy29 ?rest29
        case hy29 =>
          intro X hX
          have q2X := (hX.below.cell (World.block_lt_of_cell? _ _ q2)).trans q2
          go_simp
          try rfl
        simp only [Act.put, List.setIfInBounds_toArray, List.set_cons_zero, List.set_cons_succ]
        refine' hw_take 15 (some 96) _ rfl rfl (by kernel_rfl) (by kernel_rfl) (by kernel_rfl) (fun _ _ _ h => h) (by rfl) hN ?hy30 ?rest30
        case hy30 =>
          intro X hX
          go_simp
          try rfl
        simp only [Act.put, List.setIfInBounds_toArray, List.set_cons_zero, List.set_cons_succ]
        refine' hw_take 16 (some 97) _ rfl rfl (by kernel_rfl) (by kernel_rfl) (by kernel_rfl) (fun _ _ _ h => h) (by rfl) hN ?hy31 ?rest31
        case hy31 =>
          intro X hX
          go_simp
          try rfl
        simp only [Act.put, List.setIfInBounds_toArray, List.set_cons_zero, List.set_cons_succ]
        refine' hw_take 17 (some 98) _ rfl rfl (by kernel_rfl) (by kernel_rfl) (by kernel_rfl) (fun _ _ _ h => h) (by rfl) hN ?hy32 ?rest32
        case hy32 =>
          intro X hX
          go_simp
          try rfl
        simp only [Act.put, List.setIfInBounds_toArray, List.set_cons_zero, List.set_cons_succ]
        refine' hw_take 18 (some 99) _ rfl rfl (by kernel_rfl) (by kernel_rfl) (by kernel_rfl) (fun _ _ _ h => h) (by rfl) hN ?hy33 ?rest33
        case hy33 =>
          intro X hX
          have q3X := (hX.below.cell (World.block_lt_of_cell? _ _ q3)).trans q3
          go_simp
          try rfl
        simp only [Act.put, List.setIfInBounds_toArray, List.set_cons_zero, List.set_cons_succ]
        refine' hw_take 19 (some 100) _ rfl rfl (by kernel_rfl) (by kernel_rfl) (by kernel_rfl) (fun _ _ _ h => h) (by rfl) hN ?hy34 ?rest34
        case hy34 =>
          intro X hX
          go_simp
          try rfl
        simp only [Act.put, List.setIfInBounds_toArray, List.set_cons_zero, List.set_cons_succ]
        refine hw_call 20 (some 101) rfl rfl (by kernel_rfl) (by rfl) (fun K hK => ?_)
        go_simp
        have al := (New.refl c0).alloc (.cells #[.int .i64 k, .int .i64 E, .int .i64 m, .int .i64 T, .int .i64 m2] 2)
        have b5 := Blk.mk c0 c0.heap.size 2 #[.int .i64 k, .int .i64 E, .int .i64 m, .int .i64 T, .int .i64 m2] rfl
        replace hN := hN.trans al
        refine hK.out _ _ hN (fun _ => ?_)
        simp only [Act.put, List.setIfInBounds_toArray, List.set_cons_zero, List.set_cons_succ]
        generalize c0.alloc (.cells #[.int .i64 k, .int .i64 E, .int .i64 m, .int .i64 T, .int .i64 m2] 2) = c3 at *
        clear al
        refine hw_call 21 (some 102) rfl rfl (by kernel_rfl) (by rfl) (fun K hK => ?_)
        go_simp
        refine (lineT [119, 105, 114, 101] (by decide) (some ⟨c0.heap.size, 0, none⟩) 5 5 [(k : Int), E, (m : Int), T, (m2 : Int)] c3 (nsAt_blk b5 (by intro i z hz; match i, hz with | 0, hz => simpa using hz | 1, hz => simpa using hz | 2, hz => simpa using hz | 3, hz => simpa using hz | 4, hz => simpa using hz) (by intro z hz; simp only [List.mem_cons, List.not_mem_nil, or_false] at hz; unfold In6; omega)) rfl (by omega) (by intro z hz; simp only [List.mem_cons, List.not_mem_nil, or_false] at hz; omega)).mono ?_
        rintro e c4 ⟨rfl, al⟩
        clear b5
        rw [HL2.out]
        replace hN := hN.trans al
        clear al
        refine hK.out _ _ hN (fun _ => ?_)
        simp only [Act.put, List.setIfInBounds_toArray, List.set_cons_zero, List.set_cons_succ]
        refine' hw_take 22 (some 103) (.string (sB Q1)) rfl rfl (by kernel_rfl) (by kernel_rfl) (by kernel_rfl) (fun _ _ _ h => h) (by rfl) hN ?hy35 ?rest35
        case hy35 =>
          intro X hX
          exact cat_take P L2 HQ1 rfl rfl rfl (by have := hl2; omega)
          try rfl
        simp only [Act.put, List.setIfInBounds_toArray, List.set_cons_zero, List.set_cons_succ]
        refine' hw_take 23 (some 104) (.string (sB Q2)) rfl rfl (by kernel_rfl) (by kernel_rfl) (by kernel_rfl) (fun _ _ _ h => h) (by rfl) hN ?hy36 ?rest36
        case hy36 =>
          intro X hX
          exact cat_take Q1 [10] HQ2 rfl rfl rfl (by have := hlq; simp only [List.length_cons, List.length_nil]; omega)
          try rfl
        simp only [Act.put, List.setIfInBounds_toArray, List.set_cons_zero, List.set_cons_succ]
        refine' hw_take 24 (some 3) _ rfl rfl (by kernel_rfl) (by kernel_rfl) (by kernel_rfl) (fun _ _ _ h => h) (by rfl) hN ?hy37 ?rest37
        case hy37 =>
          intro X hX
          go_simp
          try rfl
        simp only [Act.put, List.setIfInBounds_toArray, List.set_cons_zero, List.set_cons_succ]
        refine wpAnyH_done (by kernel_rfl) ?_ _
        have hT : Hid ((LN.map ndT).flatten ++ ((LW.mapIdx wiT).take (k + 1)).flatten = Q2) := by
          unfold Hid
          rw [flat_snoc (X := LW.mapIdx wiT) (k := k) (by rw [List.getElem?_mapIdx, HV.out]; rfl), ← List.append_assoc, HP.out, HQ2.out, HQ1.out, ← HL2.out]
          simp only [wiT, hl1, hlb, List.append_assoc]
        go_wp2
        go_roundw
        case rel => exact ⟨k + 1, by omega, by go_num, by rw [hT.out], hnw.trans hN⟩
        case measure => simp [intOf]; omega

    obtain ⟨g, id, up, ro, ep, su, ma, ot, co, x, m, d, xs, rfl, hv, hl, -, -, q0, q1, q2, q3, q4, q5, q6, q7, q8⟩ := (hn.new hnw).at k (by rw [LNh.out]; exact hlt)
    have HV : Hid (LN[k]? = some ⟨id, up, ro, ep, su, ma, ot, co, x, d, xs⟩) := hv
    obtain ⟨hid, hep, hm, hsu, hco⟩ := HSN.out _ (List.mem_of_getElem? hv)
    dsimp only at hid hep hm hsu hco
    rw [hl] at hm
    clear hv q6 q7
    cases up with
    | true =>
      by_cases hro : ro = 1
      · skip
        have hb1 : (ro == 1) = true := by simp [hro]
        go_upto_region 12 with fail
        obtain ⟨A1, HA1⟩ : ∃ A1, Hid (lnF [110, 111, 100, 101] [id] = A1) := hex _
        have hl1 : A1.length ≤ 40 := by have := lnF_len [110, 111, 100, 101] 1 [id] rfl (by intro z hz; obtain rfl := List.mem_singleton.1 hz; omega); rw [HA1.out] at this; simp at this ⊢; omega
        obtain ⟨A2, HA2⟩ : ∃ A2, Hid (A2 = A1 ++ [32, 117, 112]) := hexr _
        have hla : A2.length ≤ 50 := by rw [HA2.out]; simp only [List.length_append, List.length_cons, List.length_nil]; omega
        obtain ⟨W2, HW2⟩ : ∃ W2, Hid (W2 = A2 ++ [32, 97, 99, 116, 105, 118, 101]) := hexr _
        have hlw : W2.length ≤ 100 := by rw [HW2.out]; simp only [List.length_append, List.length_cons, List.length_nil]; omega
        obtain ⟨L2, HL2⟩ : ∃ L2, Hid (lnF W2 [ep, (m : Int), su, co] = L2) := hex _
        have hl2 : L2.length ≤ 160 := by have := lnF_len W2 4 [ep, (m : Int), su, co] rfl (by intro z hz; simp only [List.mem_cons, List.not_mem_nil, or_false] at hz; omega); rw [HL2.out] at this; omega
        obtain ⟨Q1, HQ1⟩ : ∃ Q1, Hid (Q1 = P ++ L2) := hexr _
        have hlq : Q1.length ≤ 2000 := by rw [HQ1.out, List.length_append]; omega
        obtain ⟨Q2, HQ2⟩ : ∃ Q2, Hid (Q2 = Q1 ++ [10]) := hexr _
        refine hw_start (n := 33) (S := fun X => New wr X) rfl (by kernel_rfl) ((New.refl wr).drew) (fun hN => ?_)
        generalize wr.drew = c0 at *
        refine' hw_take 0 (some 34) _ rfl rfl (by kernel_rfl) (by kernel_rfl) (by kernel_rfl) (fun _ _ _ h => h) (by rfl) hN ?hy38 ?rest38
        case hy38 =>
          intro X hX
          go_simp
          try rfl
        simp only [Act.put, List.setIfInBounds_toArray, List.set_cons_zero, List.set_cons_succ]
        refine' hw_take 1 (some 35) _ rfl rfl (by kernel_rfl) (by kernel_rfl) (by kernel_rfl) (fun _ _ _ h => h) (by rfl) hN ?hy39 ?rest39
        case hy39 =>
          intro X hX
          go_simp
          try rfl
        simp only [Act.put, List.setIfInBounds_toArray, List.set_cons_zero, List.set_cons_succ]
        refine' hw_take 2 (some 36) _ rfl rfl (by kernel_rfl) (by kernel_rfl) (by kernel_rfl) (fun _ _ _ h => h) (by rfl) hN ?hy40 ?rest40
        case hy40 =>
          intro X hX
          go_simp
          try rfl
        simp only [Act.put, List.setIfInBounds_toArray, List.set_cons_zero, List.set_cons_succ]
        refine' hw_take 3 (some 37) _ rfl rfl (by kernel_rfl) (by kernel_rfl) (by kernel_rfl) (fun _ _ _ h => h) (by rfl) hN ?hy41 ?rest41
        case hy41 =>
          intro X hX
          go_simp
          try rfl
        simp only [Act.put, List.setIfInBounds_toArray, List.set_cons_zero, List.set_cons_succ]
        refine' hw_take 4 (some 38) _ rfl rfl (by kernel_rfl) (by kernel_rfl) (by kernel_rfl) (fun _ _ _ h => h) (by rfl) hN ?hy42 ?rest42
        case hy42 =>
          intro X hX
          have q0X := (hX.below.cell (World.block_lt_of_cell? _ _ q0)).trans q0
          go_simp
          try rfl
        simp only [Act.put, List.setIfInBounds_toArray, List.set_cons_zero, List.set_cons_succ]
        refine' hw_take 7 (some 41) _ rfl rfl (by kernel_rfl) (by kernel_rfl) (by kernel_rfl) (fun _ _ _ h => h) (by rfl) hN ?hy43 ?rest43
        case hy43 =>
          intro X hX
          go_simp
          try rfl
        simp only [Act.put, List.setIfInBounds_toArray, List.set_cons_zero, List.set_cons_succ]
        refine' hw_take 9 (some 43) _ rfl rfl (by kernel_rfl) (by kernel_rfl) (by kernel_rfl) (fun _ _ _ h => h) (by rfl) hN ?hy44 ?rest44
        case hy44 =>
          intro X hX
          go_simp
          try rfl
        simp only [Act.put, List.setIfInBounds_toArray, List.set_cons_zero, List.set_cons_succ]
        refine' hw_take 11 (some 45) _ rfl rfl (by kernel_rfl) (by kernel_rfl) (by kernel_rfl) (fun _ _ _ h => h) (by rfl) hN ?hy45 ?rest45
        case hy45 =>
          intro X hX
          go_simp
          try rfl
        simp only [Act.put, List.setIfInBounds_toArray, List.set_cons_zero, List.set_cons_succ]
        refine' hw_take 12 (some 46) _ rfl rfl (by kernel_rfl) (by kernel_rfl) (by kernel_rfl) (fun _ _ _ h => h) (by rfl) hN ?hy46 ?rest46
        case hy46 =>
          intro X hX
          go_simp
          try rfl
        simp only [Act.put, List.setIfInBounds_toArray, List.set_cons_zero, List.set_cons_succ]
        refine' hw_take 13 (some 47) _ rfl rfl (by kernel_rfl) (by kernel_rfl) (by kernel_rfl) (fun _ _ _ h => h) (by rfl) hN ?hy47 ?rest47
        case hy47 =>
          intro X hX
          go_simp
          try rfl
        simp only [Act.put, List.setIfInBounds_toArray, List.set_cons_zero, List.set_cons_succ]
        refine' hw_take 14 (some 48) _ rfl rfl (by kernel_rfl) (by kernel_rfl) (by kernel_rfl) (fun _ _ _ h => h) (by rfl) hN ?hy48 ?rest48
        case hy48 =>
          intro X hX
          have q3X := (hX.below.cell (World.block_lt_of_cell? _ _ q3)).trans q3
          go_simp
          try rfl
        simp only [Act.put, List.setIfInBounds_toArray, List.set_cons_zero, List.set_cons_succ]
        refine' hw_take 15 (some 49) _ rfl rfl (by kernel_rfl) (by kernel_rfl) (by kernel_rfl) (fun _ _ _ h => h) (by rfl) hN ?hy49 ?rest49
        case hy49 =>
          intro X hX
          go_simp
          try rfl
        simp only [Act.put, List.setIfInBounds_toArray, List.set_cons_zero, List.set_cons_succ]
        refine' hw_take 16 (some 50) _ rfl rfl (by kernel_rfl) (by kernel_rfl) (by kernel_rfl) (fun _ _ _ h => h) (by rfl) hN ?hy50 ?rest50
        case hy50 =>
          intro X hX
          go_simp
          try rfl
        simp only [Act.put, List.setIfInBounds_toArray, List.set_cons_zero, List.set_cons_succ]
        refine' hw_take 17 (some 51) _ rfl rfl (by kernel_rfl) (by kernel_rfl) (by kernel_rfl) (fun _ _ _ h => h) (by rfl) hN ?hy51 ?rest51
        case hy51 =>
          intro X hX
          go_simp
          try rfl
        simp only [Act.put, List.setIfInBounds_toArray, List.set_cons_zero, List.set_cons_succ]
        refine' hw_take 18 (some 52) _ rfl rfl (by kernel_rfl) (by kernel_rfl) (by kernel_rfl) (fun _ _ _ h => h) (by rfl) hN ?hy52 ?rest52
        case hy52 =>
          intro X hX
          have q4X := (hX.below.cell (World.block_lt_of_cell? _ _ q4)).trans q4
          go_simp
          try rfl
        simp only [Act.put, List.setIfInBounds_toArray, List.set_cons_zero, List.set_cons_succ]
        refine' hw_take 19 (some 53) _ rfl rfl (by kernel_rfl) (by kernel_rfl) (by kernel_rfl) (fun _ _ _ h => h) (by rfl) hN ?hy53 ?rest53
        case hy53 =>
          intro X hX
          go_simp
          try rfl
        simp only [Act.put, List.setIfInBounds_toArray, List.set_cons_zero, List.set_cons_succ]
        refine' hw_take 20 (some 54) _ rfl rfl (by kernel_rfl) (by kernel_rfl) (by kernel_rfl) (fun _ _ _ h => h) (by rfl) hN ?hy54 ?rest54
        case hy54 =>
          intro X hX
          go_simp
          try rfl
        simp only [Act.put, List.setIfInBounds_toArray, List.set_cons_zero, List.set_cons_succ]
        refine' hw_take 21 (some 55) _ rfl rfl (by kernel_rfl) (by kernel_rfl) (by kernel_rfl) (fun _ _ _ h => h) (by rfl) hN ?hy55 ?rest55
        case hy55 =>
          intro X hX
          go_simp
          try rfl
        simp only [Act.put, List.setIfInBounds_toArray, List.set_cons_zero, List.set_cons_succ]
        refine' hw_take 22 (some 56) _ rfl rfl (by kernel_rfl) (by kernel_rfl) (by kernel_rfl) (fun _ _ _ h => h) (by rfl) hN ?hy56 ?rest56
        case hy56 =>
          intro X hX
          go_simp
          try rfl
        simp only [Act.put, List.setIfInBounds_toArray, List.set_cons_zero, List.set_cons_succ]
        refine' hw_take 23 (some 57) _ rfl rfl (by kernel_rfl) (by kernel_rfl) (by kernel_rfl) (fun _ _ _ h => h) (by rfl) hN ?hy57 ?rest57
        case hy57 =>
          intro X hX
          have q5X := (hX.below.cell (World.block_lt_of_cell? _ _ q5)).trans q5
          go_simp
          try rfl
        simp only [Act.put, List.setIfInBounds_toArray, List.set_cons_zero, List.set_cons_succ]
        refine' hw_take 24 (some 58) _ rfl rfl (by kernel_rfl) (by kernel_rfl) (by kernel_rfl) (fun _ _ _ h => h) (by rfl) hN ?hy58 ?rest58
        case hy58 =>
          intro X hX
          go_simp
          try rfl
        simp only [Act.put, List.setIfInBounds_toArray, List.set_cons_zero, List.set_cons_succ]
        refine' hw_take 25 (some 59) _ rfl rfl (by kernel_rfl) (by kernel_rfl) (by kernel_rfl) (fun _ _ _ h => h) (by rfl) hN ?hy59 ?rest59
        case hy59 =>
          intro X hX
          go_simp
          try rfl
        simp only [Act.put, List.setIfInBounds_toArray, List.set_cons_zero, List.set_cons_succ]
        refine' hw_take 26 (some 60) _ rfl rfl (by kernel_rfl) (by kernel_rfl) (by kernel_rfl) (fun _ _ _ h => h) (by rfl) hN ?hy60 ?rest60
        case hy60 =>
          intro X hX
          go_simp
          try rfl
        simp only [Act.put, List.setIfInBounds_toArray, List.set_cons_zero, List.set_cons_succ]
        refine' hw_take 27 (some 61) _ rfl rfl (by kernel_rfl) (by kernel_rfl) (by kernel_rfl) (fun _ _ _ h => h) (by rfl) hN ?hy61 ?rest61
        case hy61 =>
          intro X hX
          have q8X := (hX.below.cell (World.block_lt_of_cell? _ _ q8)).trans q8
          go_simp
          try rfl
        simp only [Act.put, List.setIfInBounds_toArray, List.set_cons_zero, List.set_cons_succ]
        refine wpAnyH_ready (rs := [5, 28]) (by kernel_rfl) (by simp) (hw_step 5 (some 39) rfl rfl (by rfl) (fun K hK => ?t5) (hw_step 28 (some 62) rfl rfl (by rfl) (fun K hK => ?t6) (by intro j hj; cases hj)))
        case t5 =>
          go_simp
          have al := (New.refl c0).alloc (.cells #[.int .i64 id] 2)
          have bI := Blk.mk c0 c0.heap.size 2 #[.int .i64 id] rfl
          replace hN := hN.trans al
          refine hK.out _ _ hN (fun _ => ?_)
          simp only [Act.put, List.setIfInBounds_toArray, List.set_cons_zero, List.set_cons_succ]
          generalize c0.alloc (.cells #[.int .i64 id] 2) = c7 at *
          clear al
          refine wpAnyH_ready (rs := [6, 28]) (by kernel_rfl) (by simp) (hw_step 6 (some 40) rfl rfl (by rfl) (fun K hK => ?t8) (hw_step 28 (some 62) rfl rfl (by rfl) (fun K hK => ?t9) (by intro j hj; cases hj)))
          case t8 =>
            go_simp
            refine (lineT [110, 111, 100, 101] (by decide) (some ⟨c0.heap.size, 0, none⟩) 1 1 [id] c7 (nsAt_blk bI (by intro i z hz; match i, hz with | 0, hz => simpa using hz) (by intro z hz; simp only [List.mem_cons, List.not_mem_nil, or_false] at hz; unfold In6; omega)) rfl (by omega) (by intro z hz; simp only [List.mem_cons, List.not_mem_nil, or_false] at hz; omega)).mono ?_
            rintro e c10 ⟨rfl, al⟩
            clear bI
            rw [HA1.out]
            replace hN := hN.trans al
            clear al
            refine hK.out _ _ hN (fun _ => ?_)
            simp only [Act.put, List.setIfInBounds_toArray, List.set_cons_zero, List.set_cons_succ]
            refine' hw_take 8 (some 42) (.string (sB A2)) rfl rfl (by kernel_rfl) (by kernel_rfl) (by kernel_rfl) (fun _ _ _ h => h) (by rfl) hN ?hy62 ?rest62
            case hy62 =>
              intro X hX
              exact cat_take A1 [32, 117, 112] HA2 rfl rfl rfl (by have := hl1; simp only [List.length_cons, List.length_nil]; omega)
              try rfl
            simp only [Act.put, List.setIfInBounds_toArray, List.set_cons_zero, List.set_cons_succ]
            refine' hw_take 10 (some 44) (.string (sB W2)) rfl rfl (by kernel_rfl) (by kernel_rfl) (by kernel_rfl) (fun _ _ _ h => h) (by rfl) hN ?hy63 ?rest63
            case hy63 =>
              intro X hX
              exact cat_take A2 [32, 97, 99, 116, 105, 118, 101] HW2 rfl rfl rfl (by have := hla; simp only [List.length_cons, List.length_nil]; omega)
              try rfl
            simp only [Act.put, List.setIfInBounds_toArray, List.set_cons_zero, List.set_cons_succ]
            refine hw_call 28 (some 62) rfl rfl (by kernel_rfl) (by rfl) (fun K hK => ?_)
            go_simp
            have al := (New.refl c10).alloc (.cells #[.int .i64 ep, .int .i64 m, .int .i64 su, .int .i64 co] 2)
            have b4 := Blk.mk c10 c10.heap.size 2 #[.int .i64 ep, .int .i64 m, .int .i64 su, .int .i64 co] rfl
            replace hN := hN.trans al
            refine hK.out _ _ hN (fun _ => ?_)
            simp only [Act.put, List.setIfInBounds_toArray, List.set_cons_zero, List.set_cons_succ]
            generalize c10.alloc (.cells #[.int .i64 ep, .int .i64 m, .int .i64 su, .int .i64 co] 2) = c11 at *
            clear al
            refine hw_call 29 (some 63) rfl rfl (by kernel_rfl) (by rfl) (fun K hK => ?_)
            go_simp
            refine (lineT W2 hlw (some ⟨c10.heap.size, 0, none⟩) 4 4 [ep, (m : Int), su, co] c11 (nsAt_blk b4 (by intro i z hz; match i, hz with | 0, hz => simpa using hz | 1, hz => simpa using hz | 2, hz => simpa using hz | 3, hz => simpa using hz) (by intro z hz; simp only [List.mem_cons, List.not_mem_nil, or_false] at hz; unfold In6; omega)) rfl (by omega) (by intro z hz; simp only [List.mem_cons, List.not_mem_nil, or_false] at hz; omega)).mono ?_
            rintro e c12 ⟨rfl, al⟩
            clear b4
            rw [HL2.out]
            replace hN := hN.trans al
            clear al
            refine hK.out _ _ hN (fun _ => ?_)
            simp only [Act.put, List.setIfInBounds_toArray, List.set_cons_zero, List.set_cons_succ]
            refine' hw_take 30 (some 64) (.string (sB Q1)) rfl rfl (by kernel_rfl) (by kernel_rfl) (by kernel_rfl) (fun _ _ _ h => h) (by rfl) hN ?hy64 ?rest64
            case hy64 =>
              intro X hX
              exact cat_take P L2 HQ1 rfl rfl rfl (by have := hl2; omega)
              try rfl
            simp only [Act.put, List.setIfInBounds_toArray, List.set_cons_zero, List.set_cons_succ]
            refine' hw_take 31 (some 65) (.string (sB Q2)) rfl rfl (by kernel_rfl) (by kernel_rfl) (by kernel_rfl) (fun _ _ _ h => h) (by rfl) hN ?hy65 ?rest65
            case hy65 =>
              intro X hX
              exact cat_take Q1 [10] HQ2 rfl rfl rfl (by have := hlq; simp only [List.length_cons, List.length_nil]; omega)
              try rfl
            simp only [Act.put, List.setIfInBounds_toArray, List.set_cons_zero, List.set_cons_succ]
            refine' hw_take 32 (some 3) _ rfl rfl (by kernel_rfl) (by kernel_rfl) (by kernel_rfl) (fun _ _ _ h => h) (by rfl) hN ?hy66 ?rest66
            case hy66 =>
              intro X hX
              go_simp
              try rfl
            simp only [Act.put, List.setIfInBounds_toArray, List.set_cons_zero, List.set_cons_succ]
            refine wpAnyH_done (by kernel_rfl) ?_ _
            have hT : Hid (((LN.map ndT).take (k + 1)).flatten = Q2) := by
              unfold Hid
              rw [flat_snoc (X := LN.map ndT) (k := k) (by rw [List.getElem?_map, HV.out]; rfl), HP.out, HQ2.out, HQ1.out, ← HL2.out, HW2.out, HA2.out, ← HA1.out]
              simp only [ndT, hl, hro, if_true, if_false, Bool.false_eq_true, List.append_assoc]
            go_wp2
            go_roundw
            case rel => exact ⟨k + 1, by omega, by go_num, by rw [hT.out], hnw.trans hN⟩
            case measure => simp [intOf]; omega
          case t9 =>
            go_simp
            have al := (New.refl c7).alloc (.cells #[.int .i64 ep, .int .i64 m, .int .i64 su, .int .i64 co] 2)
            have b4 := Blk.mk c7 c7.heap.size 2 #[.int .i64 ep, .int .i64 m, .int .i64 su, .int .i64 co] rfl
            have bI := bI.new al
            replace hN := hN.trans al
            refine hK.out _ _ hN (fun _ => ?_)
            simp only [Act.put, List.setIfInBounds_toArray, List.set_cons_zero, List.set_cons_succ]
            generalize c7.alloc (.cells #[.int .i64 ep, .int .i64 m, .int .i64 su, .int .i64 co] 2) = c13 at *
            clear al
            refine hw_call 6 (some 40) rfl rfl (by kernel_rfl) (by rfl) (fun K hK => ?_)
            go_simp
            refine (lineT [110, 111, 100, 101] (by decide) (some ⟨c0.heap.size, 0, none⟩) 1 1 [id] c13 (nsAt_blk bI (by intro i z hz; match i, hz with | 0, hz => simpa using hz) (by intro z hz; simp only [List.mem_cons, List.not_mem_nil, or_false] at hz; unfold In6; omega)) rfl (by omega) (by intro z hz; simp only [List.mem_cons, List.not_mem_nil, or_false] at hz; omega)).mono ?_
            rintro e c14 ⟨rfl, al⟩
            clear bI
            rw [HA1.out]
            have b4 := b4.new al
            replace hN := hN.trans al
            clear al
            refine hK.out _ _ hN (fun _ => ?_)
            simp only [Act.put, List.setIfInBounds_toArray, List.set_cons_zero, List.set_cons_succ]
            refine' hw_take 8 (some 42) (.string (sB A2)) rfl rfl (by kernel_rfl) (by kernel_rfl) (by kernel_rfl) (fun _ _ _ h => h) (by rfl) hN ?hy67 ?rest67
            case hy67 =>
              intro X hX
              exact cat_take A1 [32, 117, 112] HA2 rfl rfl rfl (by have := hl1; simp only [List.length_cons, List.length_nil]; omega)
              try rfl
            simp only [Act.put, List.setIfInBounds_toArray, List.set_cons_zero, List.set_cons_succ]
            refine' hw_take 10 (some 44) (.string (sB W2)) rfl rfl (by kernel_rfl) (by kernel_rfl) (by kernel_rfl) (fun _ _ _ h => h) (by rfl) hN ?hy68 ?rest68
            case hy68 =>
              intro X hX
              exact cat_take A2 [32, 97, 99, 116, 105, 118, 101] HW2 rfl rfl rfl (by have := hla; simp only [List.length_cons, List.length_nil]; omega)
              try rfl
            simp only [Act.put, List.setIfInBounds_toArray, List.set_cons_zero, List.set_cons_succ]
            refine hw_call 29 (some 63) rfl rfl (by kernel_rfl) (by rfl) (fun K hK => ?_)
            go_simp
            refine (lineT W2 hlw (some ⟨c7.heap.size, 0, none⟩) 4 4 [ep, (m : Int), su, co] c14 (nsAt_blk b4 (by intro i z hz; match i, hz with | 0, hz => simpa using hz | 1, hz => simpa using hz | 2, hz => simpa using hz | 3, hz => simpa using hz) (by intro z hz; simp only [List.mem_cons, List.not_mem_nil, or_false] at hz; unfold In6; omega)) rfl (by omega) (by intro z hz; simp only [List.mem_cons, List.not_mem_nil, or_false] at hz; omega)).mono ?_
            rintro e c15 ⟨rfl, al⟩
            clear b4
            rw [HL2.out]
            replace hN := hN.trans al
            clear al
            refine hK.out _ _ hN (fun _ => ?_)
            simp only [Act.put, List.setIfInBounds_toArray, List.set_cons_zero, List.set_cons_succ]
            refine' hw_take 30 (some 64) (.string (sB Q1)) rfl rfl (by kernel_rfl) (by kernel_rfl) (by kernel_rfl) (fun _ _ _ h => h) (by rfl) hN ?hy69 ?rest69
            case hy69 =>
              intro X hX
              exact cat_take P L2 HQ1 rfl rfl rfl (by have := hl2; omega)
              try rfl
            simp only [Act.put, List.setIfInBounds_toArray, List.set_cons_zero, List.set_cons_succ]
            refine' hw_take 31 (some 65) (.string (sB Q2)) rfl rfl (by kernel_rfl) (by kernel_rfl) (by kernel_rfl) (fun _ _ _ h => h) (by rfl) hN ?hy70 ?rest70
            case hy70 =>
              intro X hX
              exact cat_take Q1 [10] HQ2 rfl rfl rfl (by have := hlq; simp only [List.length_cons, List.length_nil]; omega)
              try rfl
            simp only [Act.put, List.setIfInBounds_toArray, List.set_cons_zero, List.set_cons_succ]
            refine' hw_take 32 (some 3) _ rfl rfl (by kernel_rfl) (by kernel_rfl) (by kernel_rfl) (fun _ _ _ h => h) (by rfl) hN ?hy71 ?rest71
            case hy71 =>
              intro X hX
              go_simp
              try rfl
            simp only [Act.put, List.setIfInBounds_toArray, List.set_cons_zero, List.set_cons_succ]
            refine wpAnyH_done (by kernel_rfl) ?_ _
            have hT : Hid (((LN.map ndT).take (k + 1)).flatten = Q2) := by
              unfold Hid
              rw [flat_snoc (X := LN.map ndT) (k := k) (by rw [List.getElem?_map, HV.out]; rfl), HP.out, HQ2.out, HQ1.out, ← HL2.out, HW2.out, HA2.out, ← HA1.out]
              simp only [ndT, hl, hro, if_true, if_false, Bool.false_eq_true, List.append_assoc]
            go_wp2
            go_roundw
            case rel => exact ⟨k + 1, by omega, by go_num, by rw [hT.out], hnw.trans hN⟩
            case measure => simp [intOf]; omega
        case t6 =>
          go_simp
          have al := (New.refl c0).alloc (.cells #[.int .i64 ep, .int .i64 m, .int .i64 su, .int .i64 co] 2)
          have b4 := Blk.mk c0 c0.heap.size 2 #[.int .i64 ep, .int .i64 m, .int .i64 su, .int .i64 co] rfl
          replace hN := hN.trans al
          refine hK.out _ _ hN (fun _ => ?_)
          simp only [Act.put, List.setIfInBounds_toArray, List.set_cons_zero, List.set_cons_succ]
          generalize c0.alloc (.cells #[.int .i64 ep, .int .i64 m, .int .i64 su, .int .i64 co] 2) = c16 at *
          clear al
          refine hw_call 5 (some 39) rfl rfl (by kernel_rfl) (by rfl) (fun K hK => ?_)
          go_simp
          have al := (New.refl c16).alloc (.cells #[.int .i64 id] 2)
          have bI := Blk.mk c16 c16.heap.size 2 #[.int .i64 id] rfl
          have b4 := b4.new al
          replace hN := hN.trans al
          refine hK.out _ _ hN (fun _ => ?_)
          simp only [Act.put, List.setIfInBounds_toArray, List.set_cons_zero, List.set_cons_succ]
          generalize c16.alloc (.cells #[.int .i64 id] 2) = c17 at *
          clear al
          refine hw_call 6 (some 40) rfl rfl (by kernel_rfl) (by rfl) (fun K hK => ?_)
          go_simp
          refine (lineT [110, 111, 100, 101] (by decide) (some ⟨c16.heap.size, 0, none⟩) 1 1 [id] c17 (nsAt_blk bI (by intro i z hz; match i, hz with | 0, hz => simpa using hz) (by intro z hz; simp only [List.mem_cons, List.not_mem_nil, or_false] at hz; unfold In6; omega)) rfl (by omega) (by intro z hz; simp only [List.mem_cons, List.not_mem_nil, or_false] at hz; omega)).mono ?_
          rintro e c18 ⟨rfl, al⟩
          clear bI
          rw [HA1.out]
          have b4 := b4.new al
          replace hN := hN.trans al
          clear al
          refine hK.out _ _ hN (fun _ => ?_)
          simp only [Act.put, List.setIfInBounds_toArray, List.set_cons_zero, List.set_cons_succ]
          refine' hw_take 8 (some 42) (.string (sB A2)) rfl rfl (by kernel_rfl) (by kernel_rfl) (by kernel_rfl) (fun _ _ _ h => h) (by rfl) hN ?hy72 ?rest72
          case hy72 =>
            intro X hX
            exact cat_take A1 [32, 117, 112] HA2 rfl rfl rfl (by have := hl1; simp only [List.length_cons, List.length_nil]; omega)
            try rfl
          simp only [Act.put, List.setIfInBounds_toArray, List.set_cons_zero, List.set_cons_succ]
          refine' hw_take 10 (some 44) (.string (sB W2)) rfl rfl (by kernel_rfl) (by kernel_rfl) (by kernel_rfl) (fun _ _ _ h => h) (by rfl) hN ?hy73 ?rest73
          case hy73 =>
            intro X hX
            exact cat_take A2 [32, 97, 99, 116, 105, 118, 101] HW2 rfl rfl rfl (by have := hla; simp only [List.length_cons, List.length_nil]; omega)
            try rfl
          simp only [Act.put, List.setIfInBounds_toArray, List.set_cons_zero, List.set_cons_succ]
          refine hw_call 29 (some 63) rfl rfl (by kernel_rfl) (by rfl) (fun K hK => ?_)
          go_simp
          refine (lineT W2 hlw (some ⟨c0.heap.size, 0, none⟩) 4 4 [ep, (m : Int), su, co] c18 (nsAt_blk b4 (by intro i z hz; match i, hz with | 0, hz => simpa using hz | 1, hz => simpa using hz | 2, hz => simpa using hz | 3, hz => simpa using hz) (by intro z hz; simp only [List.mem_cons, List.not_mem_nil, or_false] at hz; unfold In6; omega)) rfl (by omega) (by intro z hz; simp only [List.mem_cons, List.not_mem_nil, or_false] at hz; omega)).mono ?_
          rintro e c19 ⟨rfl, al⟩
          clear b4
          rw [HL2.out]
          replace hN := hN.trans al
          clear al
          refine hK.out _ _ hN (fun _ => ?_)
          simp only [Act.put, List.setIfInBounds_toArray, List.set_cons_zero, List.set_cons_succ]
          refine' hw_take 30 (some 64) (.string (sB Q1)) rfl rfl (by kernel_rfl) (by kernel_rfl) (by kernel_rfl) (fun _ _ _ h => h) (by rfl) hN ?hy74 ?rest74
          case hy74 =>
            intro X hX
            exact cat_take P L2 HQ1 rfl rfl rfl (by have := hl2; omega)
            try rfl
          simp only [Act.put, List.setIfInBounds_toArray, List.set_cons_zero, List.set_cons_succ]
          refine' hw_take 31 (some 65) (.string (sB Q2)) rfl rfl (by kernel_rfl) (by kernel_rfl) (by kernel_rfl) (fun _ _ _ h => h) (by rfl) hN ?hy75 ?rest75
          case hy75 =>
            intro X hX
            exact cat_take Q1 [10] HQ2 rfl rfl rfl (by have := hlq; simp only [List.length_cons, List.length_nil]; omega)
            try rfl
          simp only [Act.put, List.setIfInBounds_toArray, List.set_cons_zero, List.set_cons_succ]
          refine' hw_take 32 (some 3) _ rfl rfl (by kernel_rfl) (by kernel_rfl) (by kernel_rfl) (fun _ _ _ h => h) (by rfl) hN ?hy76 ?rest76
          case hy76 =>
            intro X hX
            go_simp
            try rfl
          simp only [Act.put, List.setIfInBounds_toArray, List.set_cons_zero, List.set_cons_succ]
          refine wpAnyH_done (by kernel_rfl) ?_ _
          have hT : Hid (((LN.map ndT).take (k + 1)).flatten = Q2) := by
            unfold Hid
            rw [flat_snoc (X := LN.map ndT) (k := k) (by rw [List.getElem?_map, HV.out]; rfl), HP.out, HQ2.out, HQ1.out, ← HL2.out, HW2.out, HA2.out, ← HA1.out]
            simp only [ndT, hl, hro, if_true, if_false, Bool.false_eq_true, List.append_assoc]
          go_wp2
          go_roundw
          case rel => exact ⟨k + 1, by omega, by go_num, by rw [hT.out], hnw.trans hN⟩
          case measure => simp [intOf]; omega
      · skip
        have hb1 : (ro == 1) = false := by simp [hro]
        go_upto_region 12 with fail
        obtain ⟨A1, HA1⟩ : ∃ A1, Hid (lnF [110, 111, 100, 101] [id] = A1) := hex _
        have hl1 : A1.length ≤ 40 := by have := lnF_len [110, 111, 100, 101] 1 [id] rfl (by intro z hz; obtain rfl := List.mem_singleton.1 hz; omega); rw [HA1.out] at this; simp at this ⊢; omega
        obtain ⟨A2, HA2⟩ : ∃ A2, Hid (A2 = A1 ++ [32, 117, 112]) := hexr _
        have hla : A2.length ≤ 50 := by rw [HA2.out]; simp only [List.length_append, List.length_cons, List.length_nil]; omega
        obtain ⟨W2, HW2⟩ : ∃ W2, Hid (W2 = A2 ++ [32, 115, 116, 97, 110, 100, 98, 121]) := hexr _
        have hlw : W2.length ≤ 100 := by rw [HW2.out]; simp only [List.length_append, List.length_cons, List.length_nil]; omega
        obtain ⟨L2, HL2⟩ : ∃ L2, Hid (lnF W2 [ep, (m : Int), su, co] = L2) := hex _
        have hl2 : L2.length ≤ 160 := by have := lnF_len W2 4 [ep, (m : Int), su, co] rfl (by intro z hz; simp only [List.mem_cons, List.not_mem_nil, or_false] at hz; omega); rw [HL2.out] at this; omega
        obtain ⟨Q1, HQ1⟩ : ∃ Q1, Hid (Q1 = P ++ L2) := hexr _
        have hlq : Q1.length ≤ 2000 := by rw [HQ1.out, List.length_append]; omega
        obtain ⟨Q2, HQ2⟩ : ∃ Q2, Hid (Q2 = Q1 ++ [10]) := hexr _
        refine hw_start (n := 33) (S := fun X => New wr X) rfl (by kernel_rfl) ((New.refl wr).drew) (fun hN => ?_)
        generalize wr.drew = c0 at *
        refine' hw_take 0 (some 34) _ rfl rfl (by kernel_rfl) (by kernel_rfl) (by kernel_rfl) (fun _ _ _ h => h) (by rfl) hN ?hy77 ?rest77
        case hy77 =>
          intro X hX
          go_simp
          try rfl
        simp only [Act.put, List.setIfInBounds_toArray, List.set_cons_zero, List.set_cons_succ]
        refine' hw_take 1 (some 35) _ rfl rfl (by kernel_rfl) (by kernel_rfl) (by kernel_rfl) (fun _ _ _ h => h) (by rfl) hN ?hy78 ?rest78
        case hy78 =>
          intro X hX
          go_simp
          try rfl
        simp only [Act.put, List.setIfInBounds_toArray, List.set_cons_zero, List.set_cons_succ]
        refine' hw_take 2 (some 36) _ rfl rfl (by kernel_rfl) (by kernel_rfl) (by kernel_rfl) (fun _ _ _ h => h) (by rfl) hN ?hy79 ?rest79
        case hy79 =>
          intro X hX
          go_simp
          try rfl
        simp only [Act.put, List.setIfInBounds_toArray, List.set_cons_zero, List.set_cons_succ]
        refine' hw_take 3 (some 37) _ rfl rfl (by kernel_rfl) (by kernel_rfl) (by kernel_rfl) (fun _ _ _ h => h) (by rfl) hN ?hy80 ?rest80
        case hy80 =>
          intro X hX
          go_simp
          try rfl
        simp only [Act.put, List.setIfInBounds_toArray, List.set_cons_zero, List.set_cons_succ]
        refine' hw_take 4 (some 38) _ rfl rfl (by kernel_rfl) (by kernel_rfl) (by kernel_rfl) (fun _ _ _ h => h) (by rfl) hN ?hy81 ?rest81
        case hy81 =>
          intro X hX
          have q0X := (hX.below.cell (World.block_lt_of_cell? _ _ q0)).trans q0
          go_simp
          try rfl
        simp only [Act.put, List.setIfInBounds_toArray, List.set_cons_zero, List.set_cons_succ]
        refine' hw_take 7 (some 41) _ rfl rfl (by kernel_rfl) (by kernel_rfl) (by kernel_rfl) (fun _ _ _ h => h) (by rfl) hN ?hy82 ?rest82
        case hy82 =>
          intro X hX
          go_simp
          try rfl
        simp only [Act.put, List.setIfInBounds_toArray, List.set_cons_zero, List.set_cons_succ]
        refine' hw_take 9 (some 43) _ rfl rfl (by kernel_rfl) (by kernel_rfl) (by kernel_rfl) (fun _ _ _ h => h) (by rfl) hN ?hy83 ?rest83
        case hy83 =>
          intro X hX
          go_simp
          try rfl
        simp only [Act.put, List.setIfInBounds_toArray, List.set_cons_zero, List.set_cons_succ]
        refine' hw_take 11 (some 45) _ rfl rfl (by kernel_rfl) (by kernel_rfl) (by kernel_rfl) (fun _ _ _ h => h) (by rfl) hN ?hy84 ?rest84
        case hy84 =>
          intro X hX
          go_simp
          try rfl
        simp only [Act.put, List.setIfInBounds_toArray, List.set_cons_zero, List.set_cons_succ]
        refine' hw_take 12 (some 46) _ rfl rfl (by kernel_rfl) (by kernel_rfl) (by kernel_rfl) (fun _ _ _ h => h) (by rfl) hN ?hy85 ?rest85
        case hy85 =>
          intro X hX
          go_simp
          try rfl
        simp only [Act.put, List.setIfInBounds_toArray, List.set_cons_zero, List.set_cons_succ]
        refine' hw_take 13 (some 47) _ rfl rfl (by kernel_rfl) (by kernel_rfl) (by kernel_rfl) (fun _ _ _ h => h) (by rfl) hN ?hy86 ?rest86
        case hy86 =>
          intro X hX
          go_simp
          try rfl
        simp only [Act.put, List.setIfInBounds_toArray, List.set_cons_zero, List.set_cons_succ]
        refine' hw_take 14 (some 48) _ rfl rfl (by kernel_rfl) (by kernel_rfl) (by kernel_rfl) (fun _ _ _ h => h) (by rfl) hN ?hy87 ?rest87
        case hy87 =>
          intro X hX
          have q3X := (hX.below.cell (World.block_lt_of_cell? _ _ q3)).trans q3
          go_simp
          try rfl
        simp only [Act.put, List.setIfInBounds_toArray, List.set_cons_zero, List.set_cons_succ]
        refine' hw_take 15 (some 49) _ rfl rfl (by kernel_rfl) (by kernel_rfl) (by kernel_rfl) (fun _ _ _ h => h) (by rfl) hN ?hy88 ?rest88
        case hy88 =>
          intro X hX
          go_simp
          try rfl
        simp only [Act.put, List.setIfInBounds_toArray, List.set_cons_zero, List.set_cons_succ]
        refine' hw_take 16 (some 50) _ rfl rfl (by kernel_rfl) (by kernel_rfl) (by kernel_rfl) (fun _ _ _ h => h) (by rfl) hN ?hy89 ?rest89
        case hy89 =>
          intro X hX
          go_simp
          try rfl
        simp only [Act.put, List.setIfInBounds_toArray, List.set_cons_zero, List.set_cons_succ]
        refine' hw_take 17 (some 51) _ rfl rfl (by kernel_rfl) (by kernel_rfl) (by kernel_rfl) (fun _ _ _ h => h) (by rfl) hN ?hy90 ?rest90
        case hy90 =>
          intro X hX
          go_simp
          try rfl
        simp only [Act.put, List.setIfInBounds_toArray, List.set_cons_zero, List.set_cons_succ]
        refine' hw_take 18 (some 52) _ rfl rfl (by kernel_rfl) (by kernel_rfl) (by kernel_rfl) (fun _ _ _ h => h) (by rfl) hN ?hy91 ?rest91
        case hy91 =>
          intro X hX
          have q4X := (hX.below.cell (World.block_lt_of_cell? _ _ q4)).trans q4
          go_simp
          try rfl
        simp only [Act.put, List.setIfInBounds_toArray, List.set_cons_zero, List.set_cons_succ]
        refine' hw_take 19 (some 53) _ rfl rfl (by kernel_rfl) (by kernel_rfl) (by kernel_rfl) (fun _ _ _ h => h) (by rfl) hN ?hy92 ?rest92
        case hy92 =>
          intro X hX
          go_simp
          try rfl
        simp only [Act.put, List.setIfInBounds_toArray, List.set_cons_zero, List.set_cons_succ]
        refine' hw_take 20 (some 54) _ rfl rfl (by kernel_rfl) (by kernel_rfl) (by kernel_rfl) (fun _ _ _ h => h) (by rfl) hN ?hy93 ?rest93
        case hy93 =>
          intro X hX
          go_simp
          try rfl
        simp only [Act.put, List.setIfInBounds_toArray, List.set_cons_zero, List.set_cons_succ]
        refine' hw_take 21 (some 55) _ rfl rfl (by kernel_rfl) (by kernel_rfl) (by kernel_rfl) (fun _ _ _ h => h) (by rfl) hN ?hy94 ?rest94
        case hy94 =>
          intro X hX
          go_simp
          try rfl
        simp only [Act.put, List.setIfInBounds_toArray, List.set_cons_zero, List.set_cons_succ]
        refine' hw_take 22 (some 56) _ rfl rfl (by kernel_rfl) (by kernel_rfl) (by kernel_rfl) (fun _ _ _ h => h) (by rfl) hN ?hy95 ?rest95
        case hy95 =>
          intro X hX
          go_simp
          try rfl
        simp only [Act.put, List.setIfInBounds_toArray, List.set_cons_zero, List.set_cons_succ]
        refine' hw_take 23 (some 57) _ rfl rfl (by kernel_rfl) (by kernel_rfl) (by kernel_rfl) (fun _ _ _ h => h) (by rfl) hN ?hy96 ?rest96
        case hy96 =>
          intro X hX
          have q5X := (hX.below.cell (World.block_lt_of_cell? _ _ q5)).trans q5
          go_simp
          try rfl
        simp only [Act.put, List.setIfInBounds_toArray, List.set_cons_zero, List.set_cons_succ]
        refine' hw_take 24 (some 58) _ rfl rfl (by kernel_rfl) (by kernel_rfl) (by kernel_rfl) (fun _ _ _ h => h) (by rfl) hN ?hy97 ?rest97
        case hy97 =>
          intro X hX
          go_simp
          try rfl
        simp only [Act.put, List.setIfInBounds_toArray, List.set_cons_zero, List.set_cons_succ]
        refine' hw_take 25 (some 59) _ rfl rfl (by kernel_rfl) (by kernel_rfl) (by kernel_rfl) (fun _ _ _ h => h) (by rfl) hN ?hy98 ?rest98
        case hy98 =>
          intro X hX
          go_simp
          try rfl
        simp only [Act.put, List.setIfInBounds_toArray, List.set_cons_zero, List.set_cons_succ]
        refine' hw_take 26 (some 60) _ rfl rfl (by kernel_rfl) (by kernel_rfl) (by kernel_rfl) (fun _ _ _ h => h) (by rfl) hN ?hy99 ?rest99
        case hy99 =>
          intro X hX
          go_simp
          try rfl
        simp only [Act.put, List.setIfInBounds_toArray, List.set_cons_zero, List.set_cons_succ]
        refine' hw_take 27 (some 61) _ rfl rfl (by kernel_rfl) (by kernel_rfl) (by kernel_rfl) (fun _ _ _ h => h) (by rfl) hN ?hy100 ?rest100
        case hy100 =>
          intro X hX
          have q8X := (hX.below.cell (World.block_lt_of_cell? _ _ q8)).trans q8
          go_simp
          try rfl
        simp only [Act.put, List.setIfInBounds_toArray, List.set_cons_zero, List.set_cons_succ]
        refine wpAnyH_ready (rs := [5, 28]) (by kernel_rfl) (by simp) (hw_step 5 (some 39) rfl rfl (by rfl) (fun K hK => ?t20) (hw_step 28 (some 62) rfl rfl (by rfl) (fun K hK => ?t21) (by intro j hj; cases hj)))
        case t20 =>
          go_simp
          have al := (New.refl c0).alloc (.cells #[.int .i64 id] 2)
          have bI := Blk.mk c0 c0.heap.size 2 #[.int .i64 id] rfl
          replace hN := hN.trans al
          refine hK.out _ _ hN (fun _ => ?_)
          simp only [Act.put, List.setIfInBounds_toArray, List.set_cons_zero, List.set_cons_succ]
          generalize c0.alloc (.cells #[.int .i64 id] 2) = c22 at *
          clear al
          refine wpAnyH_ready (rs := [6, 28]) (by kernel_rfl) (by simp) (hw_step 6 (some 40) rfl rfl (by rfl) (fun K hK => ?t23) (hw_step 28 (some 62) rfl rfl (by rfl) (fun K hK => ?t24) (by intro j hj; cases hj)))
          case t23 =>
            go_simp
            refine (lineT [110, 111, 100, 101] (by decide) (some ⟨c0.heap.size, 0, none⟩) 1 1 [id] c22 (nsAt_blk bI (by intro i z hz; match i, hz with | 0, hz => simpa using hz) (by intro z hz; simp only [List.mem_cons, List.not_mem_nil, or_false] at hz; unfold In6; omega)) rfl (by omega) (by intro z hz; simp only [List.mem_cons, List.not_mem_nil, or_false] at hz; omega)).mono ?_
            rintro e c25 ⟨rfl, al⟩
            clear bI
            rw [HA1.out]
            replace hN := hN.trans al
            clear al
            refine hK.out _ _ hN (fun _ => ?_)
            simp only [Act.put, List.setIfInBounds_toArray, List.set_cons_zero, List.set_cons_succ]
            refine' hw_take 8 (some 42) (.string (sB A2)) rfl rfl (by kernel_rfl) (by kernel_rfl) (by kernel_rfl) (fun _ _ _ h => h) (by rfl) hN ?hy101 ?rest101
            case hy101 =>
              intro X hX
              exact cat_take A1 [32, 117, 112] HA2 rfl rfl rfl (by have := hl1; simp only [List.length_cons, List.length_nil]; omega)
              try rfl
            simp only [Act.put, List.setIfInBounds_toArray, List.set_cons_zero, List.set_cons_succ]
            refine' hw_take 10 (some 44) (.string (sB W2)) rfl rfl (by kernel_rfl) (by kernel_rfl) (by kernel_rfl) (fun _ _ _ h => h) (by rfl) hN ?hy102 ?rest102
            case hy102 =>
              intro X hX
              exact cat_take A2 [32, 115, 116, 97, 110, 100, 98, 121] HW2 rfl rfl rfl (by have := hla; simp only [List.length_cons, List.length_nil]; omega)
              try rfl
            simp only [Act.put, List.setIfInBounds_toArray, List.set_cons_zero, List.set_cons_succ]
            refine hw_call 28 (some 62) rfl rfl (by kernel_rfl) (by rfl) (fun K hK => ?_)
            go_simp
            have al := (New.refl c25).alloc (.cells #[.int .i64 ep, .int .i64 m, .int .i64 su, .int .i64 co] 2)
            have b4 := Blk.mk c25 c25.heap.size 2 #[.int .i64 ep, .int .i64 m, .int .i64 su, .int .i64 co] rfl
            replace hN := hN.trans al
            refine hK.out _ _ hN (fun _ => ?_)
            simp only [Act.put, List.setIfInBounds_toArray, List.set_cons_zero, List.set_cons_succ]
            generalize c25.alloc (.cells #[.int .i64 ep, .int .i64 m, .int .i64 su, .int .i64 co] 2) = c26 at *
            clear al
            refine hw_call 29 (some 63) rfl rfl (by kernel_rfl) (by rfl) (fun K hK => ?_)
            go_simp
            refine (lineT W2 hlw (some ⟨c25.heap.size, 0, none⟩) 4 4 [ep, (m : Int), su, co] c26 (nsAt_blk b4 (by intro i z hz; match i, hz with | 0, hz => simpa using hz | 1, hz => simpa using hz | 2, hz => simpa using hz | 3, hz => simpa using hz) (by intro z hz; simp only [List.mem_cons, List.not_mem_nil, or_false] at hz; unfold In6; omega)) rfl (by omega) (by intro z hz; simp only [List.mem_cons, List.not_mem_nil, or_false] at hz; omega)).mono ?_
            rintro e c27 ⟨rfl, al⟩
            clear b4
            rw [HL2.out]
            replace hN := hN.trans al
            clear al
            refine hK.out _ _ hN (fun _ => ?_)
            simp only [Act.put, List.setIfInBounds_toArray, List.set_cons_zero, List.set_cons_succ]
            refine' hw_take 30 (some 64) (.string (sB Q1)) rfl rfl (by kernel_rfl) (by kernel_rfl) (by kernel_rfl) (fun _ _ _ h => h) (by rfl) hN ?hy103 ?rest103
            case hy103 =>
              intro X hX
              exact cat_take P L2 HQ1 rfl rfl rfl (by have := hl2; omega)
              try rfl
            simp only [Act.put, List.setIfInBounds_toArray, List.set_cons_zero, List.set_cons_succ]
            refine' hw_take 31 (some 65) (.string (sB Q2)) rfl rfl (by kernel_rfl) (by kernel_rfl) (by kernel_rfl) (fun _ _ _ h => h) (by rfl) hN ?hy104 ?rest104
            case hy104 =>
              intro X hX
              exact cat_take Q1 [10] HQ2 rfl rfl rfl (by have := hlq; simp only [List.length_cons, List.length_nil]; omega)
              try rfl
            simp only [Act.put, List.setIfInBounds_toArray, List.set_cons_zero, List.set_cons_succ]
            refine' hw_take 32 (some 3) _ rfl rfl (by kernel_rfl) (by kernel_rfl) (by kernel_rfl) (fun _ _ _ h => h) (by rfl) hN ?hy105 ?rest105
            case hy105 =>
              intro X hX
              go_simp
              try rfl
            simp only [Act.put, List.setIfInBounds_toArray, List.set_cons_zero, List.set_cons_succ]
            refine wpAnyH_done (by kernel_rfl) ?_ _
            have hT : Hid (((LN.map ndT).take (k + 1)).flatten = Q2) := by
              unfold Hid
              rw [flat_snoc (X := LN.map ndT) (k := k) (by rw [List.getElem?_map, HV.out]; rfl), HP.out, HQ2.out, HQ1.out, ← HL2.out, HW2.out, HA2.out, ← HA1.out]
              simp only [ndT, hl, hro, if_true, if_false, Bool.false_eq_true, List.append_assoc]
            go_wp2
            go_roundw
            case rel => exact ⟨k + 1, by omega, by go_num, by rw [hT.out], hnw.trans hN⟩
            case measure => simp [intOf]; omega
          case t24 =>
            go_simp
            have al := (New.refl c22).alloc (.cells #[.int .i64 ep, .int .i64 m, .int .i64 su, .int .i64 co] 2)
            have b4 := Blk.mk c22 c22.heap.size 2 #[.int .i64 ep, .int .i64 m, .int .i64 su, .int .i64 co] rfl
            have bI := bI.new al
            replace hN := hN.trans al
            refine hK.out _ _ hN (fun _ => ?_)
            simp only [Act.put, List.setIfInBounds_toArray, List.set_cons_zero, List.set_cons_succ]
            generalize c22.alloc (.cells #[.int .i64 ep, .int .i64 m, .int .i64 su, .int .i64 co] 2) = c28 at *
            clear al
            refine hw_call 6 (some 40) rfl rfl (by kernel_rfl) (by rfl) (fun K hK => ?_)
            go_simp
            refine (lineT [110, 111, 100, 101] (by decide) (some ⟨c0.heap.size, 0, none⟩) 1 1 [id] c28 (nsAt_blk bI (by intro i z hz; match i, hz with | 0, hz => simpa using hz) (by intro z hz; simp only [List.mem_cons, List.not_mem_nil, or_false] at hz; unfold In6; omega)) rfl (by omega) (by intro z hz; simp only [List.mem_cons, List.not_mem_nil, or_false] at hz; omega)).mono ?_
            rintro e c29 ⟨rfl, al⟩
            clear bI
            rw [HA1.out]
            have b4 := b4.new al
            replace hN := hN.trans al
            clear al
            refine hK.out _ _ hN (fun _ => ?_)
            simp only [Act.put, List.setIfInBounds_toArray, List.set_cons_zero, List.set_cons_succ]
            refine' hw_take 8 (some 42) (.string (sB A2)) rfl rfl (by kernel_rfl) (by kernel_rfl) (by kernel_rfl) (fun _ _ _ h => h) (by rfl) hN ?hy106 ?rest106
            case hy106 =>
              intro X hX
              exact cat_take A1 [32, 117, 112] HA2 rfl rfl rfl (by have := hl1; simp only [List.length_cons, List.length_nil]; omega)
              try rfl
            simp only [Act.put, List.setIfInBounds_toArray, List.set_cons_zero, List.set_cons_succ]
            refine' hw_take 10 (some 44) (.string (sB W2)) rfl rfl (by kernel_rfl) (by kernel_rfl) (by kernel_rfl) (fun _ _ _ h => h) (by rfl) hN ?hy107 ?rest107
            case hy107 =>
              intro X hX
              exact cat_take A2 [32, 115, 116, 97, 110, 100, 98, 121] HW2 rfl rfl rfl (by have := hla; simp only [List.length_cons, List.length_nil]; omega)
              try rfl
            simp only [Act.put, List.setIfInBounds_toArray, List.set_cons_zero, List.set_cons_succ]
            refine hw_call 29 (some 63) rfl rfl (by kernel_rfl) (by rfl) (fun K hK => ?_)
            go_simp
            refine (lineT W2 hlw (some ⟨c22.heap.size, 0, none⟩) 4 4 [ep, (m : Int), su, co] c29 (nsAt_blk b4 (by intro i z hz; match i, hz with | 0, hz => simpa using hz | 1, hz => simpa using hz | 2, hz => simpa using hz | 3, hz => simpa using hz) (by intro z hz; simp only [List.mem_cons, List.not_mem_nil, or_false] at hz; unfold In6; omega)) rfl (by omega) (by intro z hz; simp only [List.mem_cons, List.not_mem_nil, or_false] at hz; omega)).mono ?_
            rintro e c30 ⟨rfl, al⟩
            clear b4
            rw [HL2.out]
            replace hN := hN.trans al
            clear al
            refine hK.out _ _ hN (fun _ => ?_)
            simp only [Act.put, List.setIfInBounds_toArray, List.set_cons_zero, List.set_cons_succ]
            refine' hw_take 30 (some 64) (.string (sB Q1)) rfl rfl (by kernel_rfl) (by kernel_rfl) (by kernel_rfl) (fun _ _ _ h => h) (by rfl) hN ?hy108 ?rest108
            case hy108 =>
              intro X hX
              exact cat_take P L2 HQ1 rfl rfl rfl (by have := hl2; omega)
              try rfl
            simp only [Act.put, List.setIfInBounds_toArray, List.set_cons_zero, List.set_cons_succ]
            refine' hw_take 31 (some 65) (.string (sB Q2)) rfl rfl (by kernel_rfl) (by kernel_rfl) (by kernel_rfl) (fun _ _ _ h => h) (by rfl) hN ?hy109 ?rest109
            case hy109 =>
              intro X hX
              exact cat_take Q1 [10] HQ2 rfl rfl rfl (by have := hlq; simp only [List.length_cons, List.length_nil]; omega)
              try rfl
            simp only [Act.put, List.setIfInBounds_toArray, List.set_cons_zero, List.set_cons_succ]
            refine' hw_take 32 (some 3) _ rfl rfl (by kernel_rfl) (by kernel_rfl) (by kernel_rfl) (fun _ _ _ h => h) (by rfl) hN ?hy110 ?rest110
            case hy110 =>
              intro X hX
              go_simp
              try rfl
            simp only [Act.put, List.setIfInBounds_toArray, List.set_cons_zero, List.set_cons_succ]
            refine wpAnyH_done (by kernel_rfl) ?_ _
            have hT : Hid (((LN.map ndT).take (k + 1)).flatten = Q2) := by
              unfold Hid
              rw [flat_snoc (X := LN.map ndT) (k := k) (by rw [List.getElem?_map, HV.out]; rfl), HP.out, HQ2.out, HQ1.out, ← HL2.out, HW2.out, HA2.out, ← HA1.out]
              simp only [ndT, hl, hro, if_true, if_false, Bool.false_eq_true, List.append_assoc]
            go_wp2
            go_roundw
            case rel => exact ⟨k + 1, by omega, by go_num, by rw [hT.out], hnw.trans hN⟩
            case measure => simp [intOf]; omega
        case t21 =>
          go_simp
          have al := (New.refl c0).alloc (.cells #[.int .i64 ep, .int .i64 m, .int .i64 su, .int .i64 co] 2)
          have b4 := Blk.mk c0 c0.heap.size 2 #[.int .i64 ep, .int .i64 m, .int .i64 su, .int .i64 co] rfl
          replace hN := hN.trans al
          refine hK.out _ _ hN (fun _ => ?_)
          simp only [Act.put, List.setIfInBounds_toArray, List.set_cons_zero, List.set_cons_succ]
          generalize c0.alloc (.cells #[.int .i64 ep, .int .i64 m, .int .i64 su, .int .i64 co] 2) = c31 at *
          clear al
          refine hw_call 5 (some 39) rfl rfl (by kernel_rfl) (by rfl) (fun K hK => ?_)
          go_simp
          have al := (New.refl c31).alloc (.cells #[.int .i64 id] 2)
          have bI := Blk.mk c31 c31.heap.size 2 #[.int .i64 id] rfl
          have b4 := b4.new al
          replace hN := hN.trans al
          refine hK.out _ _ hN (fun _ => ?_)
          simp only [Act.put, List.setIfInBounds_toArray, List.set_cons_zero, List.set_cons_succ]
          generalize c31.alloc (.cells #[.int .i64 id] 2) = c32 at *
          clear al
          refine hw_call 6 (some 40) rfl rfl (by kernel_rfl) (by rfl) (fun K hK => ?_)
          go_simp
          refine (lineT [110, 111, 100, 101] (by decide) (some ⟨c31.heap.size, 0, none⟩) 1 1 [id] c32 (nsAt_blk bI (by intro i z hz; match i, hz with | 0, hz => simpa using hz) (by intro z hz; simp only [List.mem_cons, List.not_mem_nil, or_false] at hz; unfold In6; omega)) rfl (by omega) (by intro z hz; simp only [List.mem_cons, List.not_mem_nil, or_false] at hz; omega)).mono ?_
          rintro e c33 ⟨rfl, al⟩
          clear bI
          rw [HA1.out]
          have b4 := b4.new al
          replace hN := hN.trans al
          clear al
          refine hK.out _ _ hN (fun _ => ?_)
          simp only [Act.put, List.setIfInBounds_toArray, List.set_cons_zero, List.set_cons_succ]
          refine' hw_take 8 (some 42) (.string (sB A2)) rfl rfl (by kernel_rfl) (by kernel_rfl) (by kernel_rfl) (fun _ _ _ h => h) (by rfl) hN ?hy111 ?rest111
          case hy111 =>
            intro X hX
            exact cat_take A1 [32, 117, 112] HA2 rfl rfl rfl (by have := hl1; simp only [List.length_cons, List.length_nil]; omega)
            try rfl
          simp only [Act.put, List.setIfInBounds_toArray, List.set_cons_zero, List.set_cons_succ]
          refine' hw_take 10 (some 44) (.string (sB W2)) rfl rfl (by kernel_rfl) (by kernel_rfl) (by kernel_rfl) (fun _ _ _ h => h) (by rfl) hN ?hy112 ?rest112
          case hy112 =>
            intro X hX
            exact cat_take A2 [32, 115, 116, 97, 110, 100, 98, 121] HW2 rfl rfl rfl (by have := hla; simp only [List.length_cons, List.length_nil]; omega)
            try rfl
          simp only [Act.put, List.setIfInBounds_toArray, List.set_cons_zero, List.set_cons_succ]
          refine hw_call 29 (some 63) rfl rfl (by kernel_rfl) (by rfl) (fun K hK => ?_)
          go_simp
          refine (lineT W2 hlw (some ⟨c0.heap.size, 0, none⟩) 4 4 [ep, (m : Int), su, co] c33 (nsAt_blk b4 (by intro i z hz; match i, hz with | 0, hz => simpa using hz | 1, hz => simpa using hz | 2, hz => simpa using hz | 3, hz => simpa using hz) (by intro z hz; simp only [List.mem_cons, List.not_mem_nil, or_false] at hz; unfold In6; omega)) rfl (by omega) (by intro z hz; simp only [List.mem_cons, List.not_mem_nil, or_false] at hz; omega)).mono ?_
          rintro e c34 ⟨rfl, al⟩
          clear b4
          rw [HL2.out]
          replace hN := hN.trans al
          clear al
          refine hK.out _ _ hN (fun _ => ?_)
          simp only [Act.put, List.setIfInBounds_toArray, List.set_cons_zero, List.set_cons_succ]
          refine' hw_take 30 (some 64) (.string (sB Q1)) rfl rfl (by kernel_rfl) (by kernel_rfl) (by kernel_rfl) (fun _ _ _ h => h) (by rfl) hN ?hy113 ?rest113
          case hy113 =>
            intro X hX
            exact cat_take P L2 HQ1 rfl rfl rfl (by have := hl2; omega)
            try rfl
          simp only [Act.put, List.setIfInBounds_toArray, List.set_cons_zero, List.set_cons_succ]
          refine' hw_take 31 (some 65) (.string (sB Q2)) rfl rfl (by kernel_rfl) (by kernel_rfl) (by kernel_rfl) (fun _ _ _ h => h) (by rfl) hN ?hy114 ?rest114
          case hy114 =>
            intro X hX
            exact cat_take Q1 [10] HQ2 rfl rfl rfl (by have := hlq; simp only [List.length_cons, List.length_nil]; omega)
            try rfl
          simp only [Act.put, List.setIfInBounds_toArray, List.set_cons_zero, List.set_cons_succ]
          refine' hw_take 32 (some 3) _ rfl rfl (by kernel_rfl) (by kernel_rfl) (by kernel_rfl) (fun _ _ _ h => h) (by rfl) hN ?hy115 ?rest115
          case hy115 =>
            intro X hX
            go_simp
            try rfl
          simp only [Act.put, List.setIfInBounds_toArray, List.set_cons_zero, List.set_cons_succ]
          refine wpAnyH_done (by kernel_rfl) ?_ _
          have hT : Hid (((LN.map ndT).take (k + 1)).flatten = Q2) := by
            unfold Hid
            rw [flat_snoc (X := LN.map ndT) (k := k) (by rw [List.getElem?_map, HV.out]; rfl), HP.out, HQ2.out, HQ1.out, ← HL2.out, HW2.out, HA2.out, ← HA1.out]
            simp only [ndT, hl, hro, if_true, if_false, Bool.false_eq_true, List.append_assoc]
          go_wp2
          go_roundw
          case rel => exact ⟨k + 1, by omega, by go_num, by rw [hT.out], hnw.trans hN⟩
          case measure => simp [intOf]; omega
    | false =>
      by_cases hro : ro = 1
      · skip
        have hb1 : (ro == 1) = true := by simp [hro]
        go_upto_region 12 with fail
        obtain ⟨A1, HA1⟩ : ∃ A1, Hid (lnF [110, 111, 100, 101] [id] = A1) := hex _
        have hl1 : A1.length ≤ 40 := by have := lnF_len [110, 111, 100, 101] 1 [id] rfl (by intro z hz; obtain rfl := List.mem_singleton.1 hz; omega); rw [HA1.out] at this; simp at this ⊢; omega
        obtain ⟨A2, HA2⟩ : ∃ A2, Hid (A2 = A1 ++ [32, 100, 111, 119, 110]) := hexr _
        have hla : A2.length ≤ 50 := by rw [HA2.out]; simp only [List.length_append, List.length_cons, List.length_nil]; omega
        obtain ⟨W2, HW2⟩ : ∃ W2, Hid (W2 = A2 ++ [32, 97, 99, 116, 105, 118, 101]) := hexr _
        have hlw : W2.length ≤ 100 := by rw [HW2.out]; simp only [List.length_append, List.length_cons, List.length_nil]; omega
        obtain ⟨L2, HL2⟩ : ∃ L2, Hid (lnF W2 [ep, (m : Int), su, co] = L2) := hex _
        have hl2 : L2.length ≤ 160 := by have := lnF_len W2 4 [ep, (m : Int), su, co] rfl (by intro z hz; simp only [List.mem_cons, List.not_mem_nil, or_false] at hz; omega); rw [HL2.out] at this; omega
        obtain ⟨Q1, HQ1⟩ : ∃ Q1, Hid (Q1 = P ++ L2) := hexr _
        have hlq : Q1.length ≤ 2000 := by rw [HQ1.out, List.length_append]; omega
        obtain ⟨Q2, HQ2⟩ : ∃ Q2, Hid (Q2 = Q1 ++ [10]) := hexr _
        refine hw_start (n := 33) (S := fun X => New wr X) rfl (by kernel_rfl) ((New.refl wr).drew) (fun hN => ?_)
        generalize wr.drew = c0 at *
        refine' hw_take 0 (some 34) _ rfl rfl (by kernel_rfl) (by kernel_rfl) (by kernel_rfl) (fun _ _ _ h => h) (by rfl) hN ?hy116 ?rest116
        case hy116 =>
          intro X hX
          go_simp
          try rfl
        simp only [Act.put, List.setIfInBounds_toArray, List.set_cons_zero, List.set_cons_succ]
        refine' hw_take 1 (some 35) _ rfl rfl (by kernel_rfl) (by kernel_rfl) (by kernel_rfl) (fun _ _ _ h => h) (by rfl) hN ?hy117 ?rest117
        case hy117 =>
          intro X hX
          go_simp
          try rfl
        simp only [Act.put, List.setIfInBounds_toArray, List.set_cons_zero, List.set_cons_succ]
        refine' hw_take 2 (some 36) _ rfl rfl (by kernel_rfl) (by kernel_rfl) (by kernel_rfl) (fun _ _ _ h => h) (by rfl) hN ?hy118 ?rest118
        case hy118 =>
          intro X hX
          go_simp
          try rfl
        simp only [Act.put, List.setIfInBounds_toArray, List.set_cons_zero, List.set_cons_succ]
        refine' hw_take 3 (some 37) _ rfl rfl (by kernel_rfl) (by kernel_rfl) (by kernel_rfl) (fun _ _ _ h => h) (by rfl) hN ?hy119 ?rest119
        case hy119 =>
          intro X hX
          go_simp
          try rfl
        simp only [Act.put, List.setIfInBounds_toArray, List.set_cons_zero, List.set_cons_succ]
        refine' hw_take 4 (some 38) _ rfl rfl (by kernel_rfl) (by kernel_rfl) (by kernel_rfl) (fun _ _ _ h => h) (by rfl) hN ?hy120 ?rest120
        case hy120 =>
          intro X hX
          have q0X := (hX.below.cell (World.block_lt_of_cell? _ _ q0)).trans q0
          go_simp
          try rfl
        simp only [Act.put, List.setIfInBounds_toArray, List.set_cons_zero, List.set_cons_succ]
        refine' hw_take 7 (some 41) _ rfl rfl (by kernel_rfl) (by kernel_rfl) (by kernel_rfl) (fun _ _ _ h => h) (by rfl) hN ?hy121 ?rest121
        case hy121 =>
          intro X hX
          go_simp
          try rfl
        simp only [Act.put, List.setIfInBounds_toArray, List.set_cons_zero, List.set_cons_succ]
        refine' hw_take 9 (some 43) _ rfl rfl (by kernel_rfl) (by kernel_rfl) (by kernel_rfl) (fun _ _ _ h => h) (by rfl) hN ?hy122 ?rest122
        case hy122 =>
          intro X hX
          go_simp
          try rfl
        simp only [Act.put, List.setIfInBounds_toArray, List.set_cons_zero, List.set_cons_succ]
        refine' hw_take 11 (some 45) _ rfl rfl (by kernel_rfl) (by kernel_rfl) (by kernel_rfl) (fun _ _ _ h => h) (by rfl) hN ?hy123 ?rest123
        case hy123 =>
          intro X hX
          go_simp
          try rfl
        simp only [Act.put, List.setIfInBounds_toArray, List.set_cons_zero, List.set_cons_succ]
        refine' hw_take 12 (some 46) _ rfl rfl (by kernel_rfl) (by kernel_rfl) (by kernel_rfl) (fun _ _ _ h => h) (by rfl) hN ?hy124 ?rest124
        case hy124 =>
          intro X hX
          go_simp
          try rfl
        simp only [Act.put, List.setIfInBounds_toArray, List.set_cons_zero, List.set_cons_succ]
        refine' hw_take 13 (some 47) _ rfl rfl (by kernel_rfl) (by kernel_rfl) (by kernel_rfl) (fun _ _ _ h => h) (by rfl) hN ?hy125 ?rest125
        case hy125 =>
          intro X hX
          go_simp
          try rfl
        simp only [Act.put, List.setIfInBounds_toArray, List.set_cons_zero, List.set_cons_succ]
        refine' hw_take 14 (some 48) _ rfl rfl (by kernel_rfl) (by kernel_rfl) (by kernel_rfl) (fun _ _ _ h => h) (by rfl) hN ?hy126 ?rest126
        case hy126 =>
          intro X hX
          have q3X := (hX.below.cell (World.block_lt_of_cell? _ _ q3)).trans q3
          go_simp
          try rfl
        simp only [Act.put, List.setIfInBounds_toArray, List.set_cons_zero, List.set_cons_succ]
        refine' hw_take 15 (some 49) _ rfl rfl (by kernel_rfl) (by kernel_rfl) (by kernel_rfl) (fun _ _ _ h => h) (by rfl) hN ?hy127 ?rest127
        case hy127 =>
          intro X hX
          go_simp
          try rfl
        simp only [Act.put, List.setIfInBounds_toArray, List.set_cons_zero, List.set_cons_succ]
        refine' hw_take 16 (some 50) _ rfl rfl (by kernel_rfl) (by kernel_rfl) (by kernel_rfl) (fun _ _ _ h => h) (by rfl) hN ?hy128 ?rest128
        case hy128 =>
          intro X hX
          go_simp
          try rfl
        simp only [Act.put, List.setIfInBounds_toArray, List.set_cons_zero, List.set_cons_succ]
        refine' hw_take 17 (some 51) _ rfl rfl (by kernel_rfl) (by kernel_rfl) (by kernel_rfl) (fun _ _ _ h => h) (by rfl) hN ?hy129 ?rest129
        case hy129 =>
          intro X hX
          go_simp
          try rfl
        simp only [Act.put, List.setIfInBounds_toArray, List.set_cons_zero, List.set_cons_succ]
        refine' hw_take 18 (some 52) _ rfl rfl (by kernel_rfl) (by kernel_rfl) (by kernel_rfl) (fun _ _ _ h => h) (by rfl) hN ?hy130 ?rest130
        case hy130 =>
          intro X hX
          have q4X := (hX.below.cell (World.block_lt_of_cell? _ _ q4)).trans q4
          go_simp
          try rfl
        simp only [Act.put, List.setIfInBounds_toArray, List.set_cons_zero, List.set_cons_succ]
        refine' hw_take 19 (some 53) _ rfl rfl (by kernel_rfl) (by kernel_rfl) (by kernel_rfl) (fun _ _ _ h => h) (by rfl) hN ?hy131 ?rest131
        case hy131 =>
          intro X hX
          go_simp
          try rfl
        simp only [Act.put, List.setIfInBounds_toArray, List.set_cons_zero, List.set_cons_succ]
        refine' hw_take 20 (some 54) _ rfl rfl (by kernel_rfl) (by kernel_rfl) (by kernel_rfl) (fun _ _ _ h => h) (by rfl) hN ?hy132 ?rest132
        case hy132 =>
          intro X hX
          go_simp
          try rfl
        simp only [Act.put, List.setIfInBounds_toArray, List.set_cons_zero, List.set_cons_succ]
        refine' hw_take 21 (some 55) _ rfl rfl (by kernel_rfl) (by kernel_rfl) (by kernel_rfl) (fun _ _ _ h => h) (by rfl) hN ?hy133 ?rest133
        case hy133 =>
          intro X hX
          go_simp
          try rfl
        simp only [Act.put, List.setIfInBounds_toArray, List.set_cons_zero, List.set_cons_succ]
        refine' hw_take 22 (some 56) _ rfl rfl (by kernel_rfl) (by kernel_rfl) (by kernel_rfl) (fun _ _ _ h => h) (by rfl) hN ?hy134 ?rest134
        case hy134 =>
          intro X hX
          go_simp
          try rfl
        simp only [Act.put, List.setIfInBounds_toArray, List.set_cons_zero, List.set_cons_succ]
        refine' hw_take 23 (some 57) _ rfl rfl (by kernel_rfl) (by kernel_rfl) (by kernel_rfl) (fun _ _ _ h => h) (by rfl) hN ?hy135 ?rest135
        case hy135 =>
          intro X hX
          have q5X := (hX.below.cell (World.block_lt_of_cell? _ _ q5)).trans q5
          go_simp
          try rfl
        simp only [Act.put, List.setIfInBounds_toArray, List.set_cons_zero, List.set_cons_succ]
        refine' hw_take 24 (some 58) _ rfl rfl (by kernel_rfl) (by kernel_rfl) (by kernel_rfl) (fun _ _ _ h => h) (by rfl) hN ?hy136 ?rest136
        case hy136 =>
          intro X hX
          go_simp
          try rfl
        simp only [Act.put, List.setIfInBounds_toArray, List.set_cons_zero, List.set_cons_succ]
        refine' hw_take 25 (some 59) _ rfl rfl (by kernel_rfl) (by kernel_rfl) (by kernel_rfl) (fun _ _ _ h => h) (by rfl) hN ?hy137 ?rest137
        case hy137 =>
          intro X hX
          go_simp
          try rfl
        simp only [Act.put, List.setIfInBounds_toArray, List.set_cons_zero, List.set_cons_succ]
        refine' hw_take 26 (some 60) _ rfl rfl (by kernel_rfl) (by kernel_rfl) (by kernel_rfl) (fun _ _ _ h => h) (by rfl) hN ?hy138 ?rest138
        case hy138 =>
          intro X hX
          go_simp
          try rfl
        simp only [Act.put, List.setIfInBounds_toArray, List.set_cons_zero, List.set_cons_succ]
        refine' hw_take 27 (some 61) _ rfl rfl (by kernel_rfl) (by kernel_rfl) (by kernel_rfl) (fun _ _ _ h => h) (by rfl) hN ?hy139 ?rest139
        case hy139 =>
          intro X hX
          have q8X := (hX.below.cell (World.block_lt_of_cell? _ _ q8)).trans q8
          go_simp
          try rfl
        simp only [Act.put, List.setIfInBounds_toArray, List.set_cons_zero, List.set_cons_succ]
        refine wpAnyH_ready (rs := [5, 28]) (by kernel_rfl) (by simp) (hw_step 5 (some 39) rfl rfl (by rfl) (fun K hK => ?t35) (hw_step 28 (some 62) rfl rfl (by rfl) (fun K hK => ?t36) (by intro j hj; cases hj)))
        case t35 =>
          go_simp
          have al := (New.refl c0).alloc (.cells #[.int .i64 id] 2)
          have bI := Blk.mk c0 c0.heap.size 2 #[.int .i64 id] rfl
          replace hN := hN.trans al
          refine hK.out _ _ hN (fun _ => ?_)
          simp only [Act.put, List.setIfInBounds_toArray, List.set_cons_zero, List.set_cons_succ]
          generalize c0.alloc (.cells #[.int .i64 id] 2) = c37 at *
          clear al
          refine wpAnyH_ready (rs := [6, 28]) (by kernel_rfl) (by simp) (hw_step 6 (some 40) rfl rfl (by rfl) (fun K hK => ?t38) (hw_step 28 (some 62) rfl rfl (by rfl) (fun K hK => ?t39) (by intro j hj; cases hj)))
          case t38 =>
            go_simp
            refine (lineT [110, 111, 100, 101] (by decide) (some ⟨c0.heap.size, 0, none⟩) 1 1 [id] c37 (nsAt_blk bI (by intro i z hz; match i, hz with | 0, hz => simpa using hz) (by intro z hz; simp only [List.mem_cons, List.not_mem_nil, or_false] at hz; unfold In6; omega)) rfl (by omega) (by intro z hz; simp only [List.mem_cons, List.not_mem_nil, or_false] at hz; omega)).mono ?_
            rintro e c40 ⟨rfl, al⟩
            clear bI
            rw [HA1.out]
            replace hN := hN.trans al
            clear al
            refine hK.out _ _ hN (fun _ => ?_)
            simp only [Act.put, List.setIfInBounds_toArray, List.set_cons_zero, List.set_cons_succ]
            refine' hw_take 8 (some 42) (.string (sB A2)) rfl rfl (by kernel_rfl) (by kernel_rfl) (by kernel_rfl) (fun _ _ _ h => h) (by rfl) hN ?hy140 ?rest140
            case hy140 =>
              intro X hX
              exact cat_take A1 [32, 100, 111, 119, 110] HA2 rfl rfl rfl (by have := hl1; simp only [List.length_cons, List.length_nil]; omega)
              try rfl
            simp only [Act.put, List.setIfInBounds_toArray, List.set_cons_zero, List.set_cons_succ]
            refine' hw_take 10 (some 44) (.string (sB W2)) rfl rfl (by kernel_rfl) (by kernel_rfl) (by kernel_rfl) (fun _ _ _ h => h) (by rfl) hN ?hy141 ?rest141
            case hy141 =>
              intro X hX
              exact cat_take A2 [32, 97, 99, 116, 105, 118, 101] HW2 rfl rfl rfl (by have := hla; simp only [List.length_cons, List.length_nil]; omega)
              try rfl
            simp only [Act.put, List.setIfInBounds_toArray, List.set_cons_zero, List.set_cons_succ]
            refine hw_call 28 (some 62) rfl rfl (by kernel_rfl) (by rfl) (fun K hK => ?_)
            go_simp
            have al := (New.refl c40).alloc (.cells #[.int .i64 ep, .int .i64 m, .int .i64 su, .int .i64 co] 2)
            have b4 := Blk.mk c40 c40.heap.size 2 #[.int .i64 ep, .int .i64 m, .int .i64 su, .int .i64 co] rfl
            replace hN := hN.trans al
            refine hK.out _ _ hN (fun _ => ?_)
            simp only [Act.put, List.setIfInBounds_toArray, List.set_cons_zero, List.set_cons_succ]
            generalize c40.alloc (.cells #[.int .i64 ep, .int .i64 m, .int .i64 su, .int .i64 co] 2) = c41 at *
            clear al
            refine hw_call 29 (some 63) rfl rfl (by kernel_rfl) (by rfl) (fun K hK => ?_)
            go_simp
            refine (lineT W2 hlw (some ⟨c40.heap.size, 0, none⟩) 4 4 [ep, (m : Int), su, co] c41 (nsAt_blk b4 (by intro i z hz; match i, hz with | 0, hz => simpa using hz | 1, hz => simpa using hz | 2, hz => simpa using hz | 3, hz => simpa using hz) (by intro z hz; simp only [List.mem_cons, List.not_mem_nil, or_false] at hz; unfold In6; omega)) rfl (by omega) (by intro z hz; simp only [List.mem_cons, List.not_mem_nil, or_false] at hz; omega)).mono ?_
            rintro e c42 ⟨rfl, al⟩
            clear b4
            rw [HL2.out]
            replace hN := hN.trans al
            clear al
            refine hK.out _ _ hN (fun _ => ?_)
            simp only [Act.put, List.setIfInBounds_toArray, List.set_cons_zero, List.set_cons_succ]
            refine' hw_take 30 (some 64) (.string (sB Q1)) rfl rfl (by kernel_rfl) (by kernel_rfl) (by kernel_rfl) (fun _ _ _ h => h) (by rfl) hN ?hy142 ?rest142
            case hy142 =>
              intro X hX
              exact cat_take P L2 HQ1 rfl rfl rfl (by have := hl2; omega)
              try rfl
            simp only [Act.put, List.setIfInBounds_toArray, List.set_cons_zero, List.set_cons_succ]
            refine' hw_take 31 (some 65) (.string (sB Q2)) rfl rfl (by kernel_rfl) (by kernel_rfl) (by kernel_rfl) (fun _ _ _ h => h) (by rfl) hN ?hy143 ?rest143
            case hy143 =>
              intro X hX
              exact cat_take Q1 [10] HQ2 rfl rfl rfl (by have := hlq; simp only [List.length_cons, List.length_nil]; omega)
              try rfl
            simp only [Act.put, List.setIfInBounds_toArray, List.set_cons_zero, List.set_cons_succ]
            refine' hw_take 32 (some 3) _ rfl rfl (by kernel_rfl) (by kernel_rfl) (by kernel_rfl) (fun _ _ _ h => h) (by rfl) hN ?hy144 ?rest144
            case hy144 =>
              intro X hX
              go_simp
              try rfl
            simp only [Act.put, List.setIfInBounds_toArray, List.set_cons_zero, List.set_cons_succ]
            refine wpAnyH_done (by kernel_rfl) ?_ _
            have hT : Hid (((LN.map ndT).take (k + 1)).flatten = Q2) := by
              unfold Hid
              rw [flat_snoc (X := LN.map ndT) (k := k) (by rw [List.getElem?_map, HV.out]; rfl), HP.out, HQ2.out, HQ1.out, ← HL2.out, HW2.out, HA2.out, ← HA1.out]
              simp only [ndT, hl, hro, if_true, if_false, Bool.false_eq_true, List.append_assoc]
            go_wp2
            go_roundw
            case rel => exact ⟨k + 1, by omega, by go_num, by rw [hT.out], hnw.trans hN⟩
            case measure => simp [intOf]; omega
          case t39 =>
            go_simp
            have al := (New.refl c37).alloc (.cells #[.int .i64 ep, .int .i64 m, .int .i64 su, .int .i64 co] 2)
            have b4 := Blk.mk c37 c37.heap.size 2 #[.int .i64 ep, .int .i64 m, .int .i64 su, .int .i64 co] rfl
            have bI := bI.new al
            replace hN := hN.trans al
            refine hK.out _ _ hN (fun _ => ?_)
            simp only [Act.put, List.setIfInBounds_toArray, List.set_cons_zero, List.set_cons_succ]
            generalize c37.alloc (.cells #[.int .i64 ep, .int .i64 m, .int .i64 su, .int .i64 co] 2) = c43 at *
            clear al
            refine hw_call 6 (some 40) rfl rfl (by kernel_rfl) (by rfl) (fun K hK => ?_)
            go_simp
            refine (lineT [110, 111, 100, 101] (by decide) (some ⟨c0.heap.size, 0, none⟩) 1 1 [id] c43 (nsAt_blk bI (by intro i z hz; match i, hz with | 0, hz => simpa using hz) (by intro z hz; simp only [List.mem_cons, List.not_mem_nil, or_false] at hz; unfold In6; omega)) rfl (by omega) (by intro z hz; simp only [List.mem_cons, List.not_mem_nil, or_false] at hz; omega)).mono ?_
            rintro e c44 ⟨rfl, al⟩
            clear bI
            rw [HA1.out]
            have b4 := b4.new al
            replace hN := hN.trans al
            clear al
            refine hK.out _ _ hN (fun _ => ?_)
            simp only [Act.put, List.setIfInBounds_toArray, List.set_cons_zero, List.set_cons_succ]
            refine' hw_take 8 (some 42) (.string (sB A2)) rfl rfl (by kernel_rfl) (by kernel_rfl) (by kernel_rfl) (fun _ _ _ h => h) (by rfl) hN ?hy145 ?rest145
            case hy145 =>
              intro X hX
              exact cat_take A1 [32, 100, 111, 119, 110] HA2 rfl rfl rfl (by have := hl1; simp only [List.length_cons, List.length_nil]; omega)
              try rfl
            simp only [Act.put, List.setIfInBounds_toArray, List.set_cons_zero, List.set_cons_succ]
            refine' hw_take 10 (some 44) (.string (sB W2)) rfl rfl (by kernel_rfl) (by kernel_rfl) (by kernel_rfl) (fun _ _ _ h => h) (by rfl) hN ?hy146 ?rest146
            case hy146 =>
              intro X hX
              exact cat_take A2 [32, 97, 99, 116, 105, 118, 101] HW2 rfl rfl rfl (by have := hla; simp only [List.length_cons, List.length_nil]; omega)
              try rfl
            simp only [Act.put, List.setIfInBounds_toArray, List.set_cons_zero, List.set_cons_succ]
            refine hw_call 29 (some 63) rfl rfl (by kernel_rfl) (by rfl) (fun K hK => ?_)
            go_simp
            refine (lineT W2 hlw (some ⟨c37.heap.size, 0, none⟩) 4 4 [ep, (m : Int), su, co] c44 (nsAt_blk b4 (by intro i z hz; match i, hz with | 0, hz => simpa using hz | 1, hz => simpa using hz | 2, hz => simpa using hz | 3, hz => simpa using hz) (by intro z hz; simp only [List.mem_cons, List.not_mem_nil, or_false] at hz; unfold In6; omega)) rfl (by omega) (by intro z hz; simp only [List.mem_cons, List.not_mem_nil, or_false] at hz; omega)).mono ?_
            rintro e c45 ⟨rfl, al⟩
            clear b4
            rw [HL2.out]
            replace hN := hN.trans al
            clear al
            refine hK.out _ _ hN (fun _ => ?_)
            simp only [Act.put, List.setIfInBounds_toArray, List.set_cons_zero, List.set_cons_succ]
            refine' hw_take 30 (some 64) (.string (sB Q1)) rfl rfl (by kernel_rfl) (by kernel_rfl) (by kernel_rfl) (fun _ _ _ h => h) (by rfl) hN ?hy147 ?rest147
            case hy147 =>
              intro X hX
              exact cat_take P L2 HQ1 rfl rfl rfl (by have := hl2; omega)
              try rfl
            simp only [Act.put, List.setIfInBounds_toArray, List.set_cons_zero, List.set_cons_succ]
            refine' hw_take 31 (some 65) (.string (sB Q2)) rfl rfl (by kernel_rfl) (by kernel_rfl) (by kernel_rfl) (fun _ _ _ h => h) (by rfl) hN ?hy148 ?rest148
            case hy148 =>
              intro X hX
              exact cat_take Q1 [10] HQ2 rfl rfl rfl (by have := hlq; simp only [List.length_cons, List.length_nil]; omega)
              try rfl
            simp only [Act.put, List.setIfInBounds_toArray, List.set_cons_zero, List.set_cons_succ]
            refine' hw_take 32 (some 3) _ rfl rfl (by kernel_rfl) (by kernel_rfl) (by kernel_rfl) (fun _ _ _ h => h) (by rfl) hN ?hy149 ?rest149
            case hy149 =>
              intro X hX
              go_simp
              try rfl
            simp only [Act.put, List.setIfInBounds_toArray, List.set_cons_zero, List.set_cons_succ]
            refine wpAnyH_done (by kernel_rfl) ?_ _
            have hT : Hid (((LN.map ndT).take (k + 1)).flatten = Q2) := by
              unfold Hid
              rw [flat_snoc (X := LN.map ndT) (k := k) (by rw [List.getElem?_map, HV.out]; rfl), HP.out, HQ2.out, HQ1.out, ← HL2.out, HW2.out, HA2.out, ← HA1.out]
              simp only [ndT, hl, hro, if_true, if_false, Bool.false_eq_true, List.append_assoc]
            go_wp2
            go_roundw
            case rel => exact ⟨k + 1, by omega, by go_num, by rw [hT.out], hnw.trans hN⟩
            case measure => simp [intOf]; omega
        case t36 =>
          go_simp
          have al := (New.refl c0).alloc (.cells #[.int .i64 ep, .int .i64 m, .int .i64 su, .int .i64 co] 2)
          have b4 := Blk.mk c0 c0.heap.size 2 #[.int .i64 ep, .int .i64 m, .int .i64 su, .int .i64 co] rfl
          replace hN := hN.trans al
          refine hK.out _ _ hN (fun _ => ?_)
          simp only [Act.put, List.setIfInBounds_toArray, List.set_cons_zero, List.set_cons_succ]
          generalize c0.alloc (.cells #[.int .i64 ep, .int .i64 m, .int .i64 su, .int .i64 co] 2) = c46 at *
          clear al
          refine hw_call 5 (some 39) rfl rfl (by kernel_rfl) (by rfl) (fun K hK => ?_)
          go_simp
          have al := (New.refl c46).alloc (.cells #[.int .i64 id] 2)
          have bI := Blk.mk c46 c46.heap.size 2 #[.int .i64 id] rfl
          have b4 := b4.new al
          replace hN := hN.trans al
          refine hK.out _ _ hN (fun _ => ?_)
          simp only [Act.put, List.setIfInBounds_toArray, List.set_cons_zero, List.set_cons_succ]
          generalize c46.alloc (.cells #[.int .i64 id] 2) = c47 at *
          clear al
          refine hw_call 6 (some 40) rfl rfl (by kernel_rfl) (by rfl) (fun K hK => ?_)
          go_simp
          refine (lineT [110, 111, 100, 101] (by decide) (some ⟨c46.heap.size, 0, none⟩) 1 1 [id] c47 (nsAt_blk bI (by intro i z hz; match i, hz with | 0, hz => simpa using hz) (by intro z hz; simp only [List.mem_cons, List.not_mem_nil, or_false] at hz; unfold In6; omega)) rfl (by omega) (by intro z hz; simp only [List.mem_cons, List.not_mem_nil, or_false] at hz; omega)).mono ?_
          rintro e c48 ⟨rfl, al⟩
          clear bI
          rw [HA1.out]
          have b4 := b4.new al
          replace hN := hN.trans al
          clear al
          refine hK.out _ _ hN (fun _ => ?_)
          simp only [Act.put, List.setIfInBounds_toArray, List.set_cons_zero, List.set_cons_succ]
          refine' hw_take 8 (some 42) (.string (sB A2)) rfl rfl (by kernel_rfl) (by kernel_rfl) (by kernel_rfl) (fun _ _ _ h => h) (by rfl) hN ?hy150 ?rest150
          case hy150 =>
            intro X hX
            exact cat_take A1 [32, 100, 111, 119, 110] HA2 rfl rfl rfl (by have := hl1; simp only [List.length_cons, List.length_nil]; omega)
            try rfl
          simp only [Act.put, List.setIfInBounds_toArray, List.set_cons_zero, List.set_cons_succ]
          refine' hw_take 10 (some 44) (.string (sB W2)) rfl rfl (by kernel_rfl) (by kernel_rfl) (by kernel_rfl) (fun _ _ _ h => h) (by rfl) hN ?hy151 ?rest151
          case hy151 =>
            intro X hX
            exact cat_take A2 [32, 97, 99, 116, 105, 118, 101] HW2 rfl rfl rfl (by have := hla; simp only [List.length_cons, List.length_nil]; omega)
            try rfl
          simp only [Act.put, List.setIfInBounds_toArray, List.set_cons_zero, List.set_cons_succ]
          refine hw_call 29 (some 63) rfl rfl (by kernel_rfl) (by rfl) (fun K hK => ?_)
          go_simp
          refine (lineT W2 hlw (some ⟨c0.heap.size, 0, none⟩) 4 4 [ep, (m : Int), su, co] c48 (nsAt_blk b4 (by intro i z hz; match i, hz with | 0, hz => simpa using hz | 1, hz => simpa using hz | 2, hz => simpa using hz | 3, hz => simpa using hz) (by intro z hz; simp only [List.mem_cons, List.not_mem_nil, or_false] at hz; unfold In6; omega)) rfl (by omega) (by intro z hz; simp only [List.mem_cons, List.not_mem_nil, or_false] at hz; omega)).mono ?_
          rintro e c49 ⟨rfl, al⟩
          clear b4
          rw [HL2.out]
          replace hN := hN.trans al
          clear al
          refine hK.out _ _ hN (fun _ => ?_)
          simp only [Act.put, List.setIfInBounds_toArray, List.set_cons_zero, List.set_cons_succ]
          refine' hw_take 30 (some 64) (.string (sB Q1)) rfl rfl (by kernel_rfl) (by kernel_rfl) (by kernel_rfl) (fun _ _ _ h => h) (by rfl) hN ?hy152 ?rest152
          case hy152 =>
            intro X hX
            exact cat_take P L2 HQ1 rfl rfl rfl (by have := hl2; omega)
            try rfl
          simp only [Act.put, List.setIfInBounds_toArray, List.set_cons_zero, List.set_cons_succ]
          refine' hw_take 31 (some 65) (.string (sB Q2)) rfl rfl (by kernel_rfl) (by kernel_rfl) (by kernel_rfl) (fun _ _ _ h => h) (by rfl) hN ?hy153 ?rest153
          case hy153 =>
            intro X hX
            exact cat_take Q1 [10] HQ2 rfl rfl rfl (by have := hlq; simp only [List.length_cons, List.length_nil]; omega)
            try rfl
          simp only [Act.put, List.setIfInBounds_toArray, List.set_cons_zero, List.set_cons_succ]
          refine' hw_take 32 (some 3) _ rfl rfl (by kernel_rfl) (by kernel_rfl) (by kernel_rfl) (fun _ _ _ h => h) (by rfl) hN ?hy154 ?rest154
          case hy154 =>
            intro X hX
            go_simp
            try rfl
          simp only [Act.put, List.setIfInBounds_toArray, List.set_cons_zero, List.set_cons_succ]
          refine wpAnyH_done (by kernel_rfl) ?_ _
          have hT : Hid (((LN.map ndT).take (k + 1)).flatten = Q2) := by
            unfold Hid
            rw [flat_snoc (X := LN.map ndT) (k := k) (by rw [List.getElem?_map, HV.out]; rfl), HP.out, HQ2.out, HQ1.out, ← HL2.out, HW2.out, HA2.out, ← HA1.out]
            simp only [ndT, hl, hro, if_true, if_false, Bool.false_eq_true, List.append_assoc]
          go_wp2
          go_roundw
          case rel => exact ⟨k + 1, by omega, by go_num, by rw [hT.out], hnw.trans hN⟩
          case measure => simp [intOf]; omega
      · skip
        have hb1 : (ro == 1) = false := by simp [hro]
        go_upto_region 12 with fail
        obtain ⟨A1, HA1⟩ : ∃ A1, Hid (lnF [110, 111, 100, 101] [id] = A1) := hex _
        have hl1 : A1.length ≤ 40 := by have := lnF_len [110, 111, 100, 101] 1 [id] rfl (by intro z hz; obtain rfl := List.mem_singleton.1 hz; omega); rw [HA1.out] at this; simp at this ⊢; omega
        obtain ⟨A2, HA2⟩ : ∃ A2, Hid (A2 = A1 ++ [32, 100, 111, 119, 110]) := hexr _
        have hla : A2.length ≤ 50 := by rw [HA2.out]; simp only [List.length_append, List.length_cons, List.length_nil]; omega
        obtain ⟨W2, HW2⟩ : ∃ W2, Hid (W2 = A2 ++ [32, 115, 116, 97, 110, 100, 98, 121]) := hexr _
        have hlw : W2.length ≤ 100 := by rw [HW2.out]; simp only [List.length_append, List.length_cons, List.length_nil]; omega
        obtain ⟨L2, HL2⟩ : ∃ L2, Hid (lnF W2 [ep, (m : Int), su, co] = L2) := hex _
        have hl2 : L2.length ≤ 160 := by have := lnF_len W2 4 [ep, (m : Int), su, co] rfl (by intro z hz; simp only [List.mem_cons, List.not_mem_nil, or_false] at hz; omega); rw [HL2.out] at this; omega
        obtain ⟨Q1, HQ1⟩ : ∃ Q1, Hid (Q1 = P ++ L2) := hexr _
        have hlq : Q1.length ≤ 2000 := by rw [HQ1.out, List.length_append]; omega
        obtain ⟨Q2, HQ2⟩ : ∃ Q2, Hid (Q2 = Q1 ++ [10]) := hexr _
        refine hw_start (n := 33) (S := fun X => New wr X) rfl (by kernel_rfl) ((New.refl wr).drew) (fun hN => ?_)
        generalize wr.drew = c0 at *
        refine' hw_take 0 (some 34) _ rfl rfl (by kernel_rfl) (by kernel_rfl) (by kernel_rfl) (fun _ _ _ h => h) (by rfl) hN ?hy155 ?rest155
        case hy155 =>
          intro X hX
          go_simp
          try rfl
        simp only [Act.put, List.setIfInBounds_toArray, List.set_cons_zero, List.set_cons_succ]
        refine' hw_take 1 (some 35) _ rfl rfl (by kernel_rfl) (by kernel_rfl) (by kernel_rfl) (fun _ _ _ h => h) (by rfl) hN ?hy156 ?rest156
        case hy156 =>
          intro X hX
          go_simp
          try rfl
        simp only [Act.put, List.setIfInBounds_toArray, List.set_cons_zero, List.set_cons_succ]
        refine' hw_take 2 (some 36) _ rfl rfl (by kernel_rfl) (by kernel_rfl) (by kernel_rfl) (fun _ _ _ h => h) (by rfl) hN ?hy157 ?rest157
        case hy157 =>
          intro X hX
          go_simp
          try rfl
        simp only [Act.put, List.setIfInBounds_toArray, List.set_cons_zero, List.set_cons_succ]
        refine' hw_take 3 (some 37) _ rfl rfl (by kernel_rfl) (by kernel_rfl) (by kernel_rfl) (fun _ _ _ h => h) (by rfl) hN ?hy158 ?rest158
        case hy158 =>
          intro X hX
          go_simp
          try rfl
        simp only [Act.put, List.setIfInBounds_toArray, List.set_cons_zero, List.set_cons_succ]
        refine' hw_take 4 (some 38) _ rfl rfl (by kernel_rfl) (by kernel_rfl) (by kernel_rfl) (fun _ _ _ h => h) (by rfl) hN ?hy159 ?rest159
        case hy159 =>
          intro X hX
          have q0X := (hX.below.cell (World.block_lt_of_cell? _ _ q0)).trans q0
          go_simp
          try rfl
        simp only [Act.put, List.setIfInBounds_toArray, List.set_cons_zero, List.set_cons_succ]
        refine' hw_take 7 (some 41) _ rfl rfl (by kernel_rfl) (by kernel_rfl) (by kernel_rfl) (fun _ _ _ h => h) (by rfl) hN ?hy160 ?rest160
        case hy160 =>
          intro X hX
          go_simp
          try rfl
        simp only [Act.put, List.setIfInBounds_toArray, List.set_cons_zero, List.set_cons_succ]
        refine' hw_take 9 (some 43) _ rfl rfl (by kernel_rfl) (by kernel_rfl) (by kernel_rfl) (fun _ _ _ h => h) (by rfl) hN ?hy161 ?rest161
        case hy161 =>
          intro X hX
          go_simp
          try rfl
        simp only [Act.put, List.setIfInBounds_toArray, List.set_cons_zero, List.set_cons_succ]
        refine' hw_take 11 (some 45) _ rfl rfl (by kernel_rfl) (by kernel_rfl) (by kernel_rfl) (fun _ _ _ h => h) (by rfl) hN ?hy162 ?rest162
        case hy162 =>
          intro X hX
          go_simp
          try rfl
        simp only [Act.put, List.setIfInBounds_toArray, List.set_cons_zero, List.set_cons_succ]
        refine' hw_take 12 (some 46) _ rfl rfl (by kernel_rfl) (by kernel_rfl) (by kernel_rfl) (fun _ _ _ h => h) (by rfl) hN ?hy163 ?rest163
        case hy163 =>
          intro X hX
          go_simp
          try rfl
        simp only [Act.put, List.setIfInBounds_toArray, List.set_cons_zero, List.set_cons_succ]
        refine' hw_take 13 (some 47) _ rfl rfl (by kernel_rfl) (by kernel_rfl) (by kernel_rfl) (fun _ _ _ h => h) (by rfl) hN ?hy164 ?rest164
        case hy164 =>
          intro X hX
          go_simp
          try rfl
        simp only [Act.put, List.setIfInBounds_toArray, List.set_cons_zero, List.set_cons_succ]
        refine' hw_take 14 (some 48) _ rfl rfl (by kernel_rfl) (by kernel_rfl) (by kernel_rfl) (fun _ _ _ h => h) (by rfl) hN ?hy165 ?rest165
        case hy165 =>
          intro X hX
          have q3X := (hX.below.cell (World.block_lt_of_cell? _ _ q3)).trans q3
          go_simp
          try rfl
        simp only [Act.put, List.setIfInBounds_toArray, List.set_cons_zero, List.set_cons_succ]
        refine' hw_take 15 (some 49) _ rfl rfl (by kernel_rfl) (by kernel_rfl) (by kernel_rfl) (fun _ _ _ h => h) (by rfl) hN ?hy166 ?rest166
        case hy166 =>
          intro X hX
          go_simp
          try rfl
        simp only [Act.put, List.setIfInBounds_toArray, List.set_cons_zero, List.set_cons_succ]
        refine' hw_take 16 (some 50) _ rfl rfl (by kernel_rfl) (by kernel_rfl) (by kernel_rfl) (fun _ _ _ h => h) (by rfl) hN ?hy167 ?rest167
        case hy167 =>
          intro X hX
          go_simp
          try rfl
        simp only [Act.put, List.setIfInBounds_toArray, List.set_cons_zero, List.set_cons_succ]
        refine' hw_take 17 (some 51) _ rfl rfl (by kernel_rfl) (by kernel_rfl) (by kernel_rfl) (fun _ _ _ h => h) (by rfl) hN ?hy168 ?rest168
        case hy168 =>
          intro X hX
          go_simp
          try rfl
        simp only [Act.put, List.setIfInBounds_toArray, List.set_cons_zero, List.set_cons_succ]
        refine' hw_take 18 (some 52) _ rfl rfl (by kernel_rfl) (by kernel_rfl) (by kernel_rfl) (fun _ _ _ h => h) (by rfl) hN ?hy169 ?rest169
        case hy169 =>
          intro X hX
          have q4X := (hX.below.cell (World.block_lt_of_cell? _ _ q4)).trans q4
          go_simp
          try rfl
        simp only [Act.put, List.setIfInBounds_toArray, List.set_cons_zero, List.set_cons_succ]
        refine' hw_take 19 (some 53) _ rfl rfl (by kernel_rfl) (by kernel_rfl) (by kernel_rfl) (fun _ _ _ h => h) (by rfl) hN ?hy170 ?rest170
        case hy170 =>
          intro X hX
          go_simp
          try rfl
        simp only [Act.put, List.setIfInBounds_toArray, List.set_cons_zero, List.set_cons_succ]
        refine' hw_take 20 (some 54) _ rfl rfl (by kernel_rfl) (by kernel_rfl) (by kernel_rfl) (fun _ _ _ h => h) (by rfl) hN ?hy171 ?rest171
        case hy171 =>
          intro X hX
          go_simp
          try rfl
        simp only [Act.put, List.setIfInBounds_toArray, List.set_cons_zero, List.set_cons_succ]
        refine' hw_take 21 (some 55) _ rfl rfl (by kernel_rfl) (by kernel_rfl) (by kernel_rfl) (fun _ _ _ h => h) (by rfl) hN ?hy172 ?rest172
        case hy172 =>
          intro X hX
          go_simp
          try rfl
        simp only [Act.put, List.setIfInBounds_toArray, List.set_cons_zero, List.set_cons_succ]
        refine' hw_take 22 (some 56) _ rfl rfl (by kernel_rfl) (by kernel_rfl) (by kernel_rfl) (fun _ _ _ h => h) (by rfl) hN ?hy173 ?rest173
        case hy173 =>
          intro X hX
          go_simp
          try rfl
        simp only [Act.put, List.setIfInBounds_toArray, List.set_cons_zero, List.set_cons_succ]
        refine' hw_take 23 (some 57) _ rfl rfl (by kernel_rfl) (by kernel_rfl) (by kernel_rfl) (fun _ _ _ h => h) (by rfl) hN ?hy174 ?rest174
        case hy174 =>
          intro X hX
          have q5X := (hX.below.cell (World.block_lt_of_cell? _ _ q5)).trans q5
          go_simp
          try rfl
        simp only [Act.put, List.setIfInBounds_toArray, List.set_cons_zero, List.set_cons_succ]
        refine' hw_take 24 (some 58) _ rfl rfl (by kernel_rfl) (by kernel_rfl) (by kernel_rfl) (fun _ _ _ h => h) (by rfl) hN ?hy175 ?rest175
        case hy175 =>
          intro X hX
          go_simp
          try rfl
        simp only [Act.put, List.setIfInBounds_toArray, List.set_cons_zero, List.set_cons_succ]
        refine' hw_take 25 (some 59) _ rfl rfl (by kernel_rfl) (by kernel_rfl) (by kernel_rfl) (fun _ _ _ h => h) (by rfl) hN ?hy176 ?rest176
        case hy176 =>
          intro X hX
          go_simp
          try rfl
        simp only [Act.put, List.setIfInBounds_toArray, List.set_cons_zero, List.set_cons_succ]
        refine' hw_take 26 (some 60) _ rfl rfl (by kernel_rfl) (by kernel_rfl) (by kernel_rfl) (fun _ _ _ h => h) (by rfl) hN ?hy177 ?rest177
        case hy177 =>
          intro X hX
          go_simp
          try rfl
        simp only [Act.put, List.setIfInBounds_toArray, List.set_cons_zero, List.set_cons_succ]
        refine' hw_take 27 (some 61) _ rfl rfl (by kernel_rfl) (by kernel_rfl) (by kernel_rfl) (fun _ _ _ h => h) (by rfl) hN ?hy178 ?rest178
        case hy178 =>
          intro X hX
          have q8X := (hX.below.cell (World.block_lt_of_cell? _ _ q8)).trans q8
          go_simp
          try rfl
        simp only [Act.put, List.setIfInBounds_toArray, List.set_cons_zero, List.set_cons_succ]
        refine wpAnyH_ready (rs := [5, 28]) (by kernel_rfl) (by simp) (hw_step 5 (some 39) rfl rfl (by rfl) (fun K hK => ?t50) (hw_step 28 (some 62) rfl rfl (by rfl) (fun K hK => ?t51) (by intro j hj; cases hj)))
        case t50 =>
          go_simp
          have al := (New.refl c0).alloc (.cells #[.int .i64 id] 2)
          have bI := Blk.mk c0 c0.heap.size 2 #[.int .i64 id] rfl
          replace hN := hN.trans al
          refine hK.out _ _ hN (fun _ => ?_)
          simp only [Act.put, List.setIfInBounds_toArray, List.set_cons_zero, List.set_cons_succ]
          generalize c0.alloc (.cells #[.int .i64 id] 2) = c52 at *
          clear al
          refine wpAnyH_ready (rs := [6, 28]) (by kernel_rfl) (by simp) (hw_step 6 (some 40) rfl rfl (by rfl) (fun K hK => ?t53) (hw_step 28 (some 62) rfl rfl (by rfl) (fun K hK => ?t54) (by intro j hj; cases hj)))
          case t53 =>
            go_simp
            refine (lineT [110, 111, 100, 101] (by decide) (some ⟨c0.heap.size, 0, none⟩) 1 1 [id] c52 (nsAt_blk bI (by intro i z hz; match i, hz with | 0, hz => simpa using hz) (by intro z hz; simp only [List.mem_cons, List.not_mem_nil, or_false] at hz; unfold In6; omega)) rfl (by omega) (by intro z hz; simp only [List.mem_cons, List.not_mem_nil, or_false] at hz; omega)).mono ?_
            rintro e c55 ⟨rfl, al⟩
            clear bI
            rw [HA1.out]
            replace hN := hN.trans al
            clear al
            refine hK.out _ _ hN (fun _ => ?_)
            simp only [Act.put, List.setIfInBounds_toArray, List.set_cons_zero, List.set_cons_succ]
            refine' hw_take 8 (some 42) (.string (sB A2)) rfl rfl (by kernel_rfl) (by kernel_rfl) (by kernel_rfl) (fun _ _ _ h => h) (by rfl) hN ?hy179 ?rest179
            case hy179 =>
              intro X hX
              exact cat_take A1 [32, 100, 111, 119, 110] HA2 rfl rfl rfl (by have := hl1; simp only [List.length_cons, List.length_nil]; omega)
              try rfl
            simp only [Act.put, List.setIfInBounds_toArray, List.set_cons_zero, List.set_cons_succ]
            refine' hw_take 10 (some 44) (.string (sB W2)) rfl rfl (by kernel_rfl) (by kernel_rfl) (by kernel_rfl) (fun _ _ _ h => h) (by rfl) hN ?hy180 ?rest180
            case hy180 =>
              intro X hX
              exact cat_take A2 [32, 115, 116, 97, 110, 100, 98, 121] HW2 rfl rfl rfl (by have := hla; simp only [List.length_cons, List.length_nil]; omega)
              try rfl
            simp only [Act.put, List.setIfInBounds_toArray, List.set_cons_zero, List.set_cons_succ]
            refine hw_call 28 (some 62) rfl rfl (by kernel_rfl) (by rfl) (fun K hK => ?_)
            go_simp
            have al := (New.refl c55).alloc (.cells #[.int .i64 ep, .int .i64 m, .int .i64 su, .int .i64 co] 2)
            have b4 := Blk.mk c55 c55.heap.size 2 #[.int .i64 ep, .int .i64 m, .int .i64 su, .int .i64 co] rfl
            replace hN := hN.trans al
            refine hK.out _ _ hN (fun _ => ?_)
            simp only [Act.put, List.setIfInBounds_toArray, List.set_cons_zero, List.set_cons_succ]
            generalize c55.alloc (.cells #[.int .i64 ep, .int .i64 m, .int .i64 su, .int .i64 co] 2) = c56 at *
            clear al
            refine hw_call 29 (some 63) rfl rfl (by kernel_rfl) (by rfl) (fun K hK => ?_)
            go_simp
            refine (lineT W2 hlw (some ⟨c55.heap.size, 0, none⟩) 4 4 [ep, (m : Int), su, co] c56 (nsAt_blk b4 (by intro i z hz; match i, hz with | 0, hz => simpa using hz | 1, hz => simpa using hz | 2, hz => simpa using hz | 3, hz => simpa using hz) (by intro z hz; simp only [List.mem_cons, List.not_mem_nil, or_false] at hz; unfold In6; omega)) rfl (by omega) (by intro z hz; simp only [List.mem_cons, List.not_mem_nil, or_false] at hz; omega)).mono ?_
            rintro e c57 ⟨rfl, al⟩
            clear b4
            rw [HL2.out]
            replace hN := hN.trans al
            clear al
            refine hK.out _ _ hN (fun _ => ?_)
            simp only [Act.put, List.setIfInBounds_toArray, List.set_cons_zero, List.set_cons_succ]
            refine' hw_take 30 (some 64) (.string (sB Q1)) rfl rfl (by kernel_rfl) (by kernel_rfl) (by kernel_rfl) (fun _ _ _ h => h) (by rfl) hN ?hy181 ?rest181
            case hy181 =>
              intro X hX
              exact cat_take P L2 HQ1 rfl rfl rfl (by have := hl2; omega)
              try rfl
            simp only [Act.put, List.setIfInBounds_toArray, List.set_cons_zero, List.set_cons_succ]
            refine' hw_take 31 (some 65) (.string (sB Q2)) rfl rfl (by kernel_rfl) (by kernel_rfl) (by kernel_rfl) (fun _ _ _ h => h) (by rfl) hN ?hy182 ?rest182
            case hy182 =>
              intro X hX
              exact cat_take Q1 [10] HQ2 rfl rfl rfl (by have := hlq; simp only [List.length_cons, List.length_nil]; omega)
              try rfl
            simp only [Act.put, List.setIfInBounds_toArray, List.set_cons_zero, List.set_cons_succ]
            refine' hw_take 32 (some 3) _ rfl rfl (by kernel_rfl) (by kernel_rfl) (by kernel_rfl) (fun _ _ _ h => h) (by rfl) hN ?hy183 ?rest183
            case hy183 =>
              intro X hX
              go_simp
              try rfl
            simp only [Act.put, List.setIfInBounds_toArray, List.set_cons_zero, List.set_cons_succ]
            refine wpAnyH_done (by kernel_rfl) ?_ _
            have hT : Hid (((LN.map ndT).take (k + 1)).flatten = Q2) := by
              unfold Hid
              rw [flat_snoc (X := LN.map ndT) (k := k) (by rw [List.getElem?_map, HV.out]; rfl), HP.out, HQ2.out, HQ1.out, ← HL2.out, HW2.out, HA2.out, ← HA1.out]
              simp only [ndT, hl, hro, if_true, if_false, Bool.false_eq_true, List.append_assoc]
            go_wp2
            go_roundw
            case rel => exact ⟨k + 1, by omega, by go_num, by rw [hT.out], hnw.trans hN⟩
            case measure => simp [intOf]; omega
          case t54 =>
            go_simp
            have al := (New.refl c52).alloc (.cells #[.int .i64 ep, .int .i64 m, .int .i64 su, .int .i64 co] 2)
            have b4 := Blk.mk c52 c52.heap.size 2 #[.int .i64 ep, .int .i64 m, .int .i64 su, .int .i64 co] rfl
            have bI := bI.new al
            replace hN := hN.trans al
            refine hK.out _ _ hN (fun _ => ?_)
            simp only [Act.put, List.setIfInBounds_toArray, List.set_cons_zero, List.set_cons_succ]
            generalize c52.alloc (.cells #[.int .i64 ep, .int .i64 m, .int .i64 su, .int .i64 co] 2) = c58 at *
            clear al
            refine hw_call 6 (some 40) rfl rfl (by kernel_rfl) (by rfl) (fun K hK => ?_)
            go_simp
            refine (lineT [110, 111, 100, 101] (by decide) (some ⟨c0.heap.size, 0, none⟩) 1 1 [id] c58 (nsAt_blk bI (by intro i z hz; match i, hz with | 0, hz => simpa using hz) (by intro z hz; simp only [List.mem_cons, List.not_mem_nil, or_false] at hz; unfold In6; omega)) rfl (by omega) (by intro z hz; simp only [List.mem_cons, List.not_mem_nil, or_false] at hz; omega)).mono ?_
            rintro e c59 ⟨rfl, al⟩
            clear bI
            rw [HA1.out]
            have b4 := b4.new al
            replace hN := hN.trans al
            clear al
            refine hK.out _ _ hN (fun _ => ?_)
            simp only [Act.put, List.setIfInBounds_toArray, List.set_cons_zero, List.set_cons_succ]
            refine' hw_take 8 (some 42) (.string (sB A2)) rfl rfl (by kernel_rfl) (by kernel_rfl) (by kernel_rfl) (fun _ _ _ h => h) (by rfl) hN ?hy184 ?rest184
            case hy184 =>
              intro X hX
              exact cat_take A1 [32, 100, 111, 119, 110] HA2 rfl rfl rfl (by have := hl1; simp only [List.length_cons, List.length_nil]; omega)
              try rfl
            simp only [Act.put, List.setIfInBounds_toArray, List.set_cons_zero, List.set_cons_succ]
            refine' hw_take 10 (some 44) (.string (sB W2)) rfl rfl (by kernel_rfl) (by kernel_rfl) (by kernel_rfl) (fun _ _ _ h => h) (by rfl) hN ?hy185 ?rest185
            case hy185 =>
              intro X hX
              exact cat_take A2 [32, 115, 116, 97, 110, 100, 98, 121] HW2 rfl rfl rfl (by have := hla; simp only [List.length_cons, List.length_nil]; omega)
              try rfl
            simp only [Act.put, List.setIfInBounds_toArray, List.set_cons_zero, List.set_cons_succ]
            refine hw_call 29 (some 63) rfl rfl (by kernel_rfl) (by rfl) (fun K hK => ?_)
            go_simp
            refine (lineT W2 hlw (some ⟨c52.heap.size, 0, none⟩) 4 4 [ep, (m : Int), su, co] c59 (nsAt_blk b4 (by intro i z hz; match i, hz with | 0, hz => simpa using hz | 1, hz => simpa using hz | 2, hz => simpa using hz | 3, hz => simpa using hz) (by intro z hz; simp only [List.mem_cons, List.not_mem_nil, or_false] at hz; unfold In6; omega)) rfl (by omega) (by intro z hz; simp only [List.mem_cons, List.not_mem_nil, or_false] at hz; omega)).mono ?_
            rintro e c60 ⟨rfl, al⟩
            clear b4
            rw [HL2.out]
            replace hN := hN.trans al
            clear al
            refine hK.out _ _ hN (fun _ => ?_)
            simp only [Act.put, List.setIfInBounds_toArray, List.set_cons_zero, List.set_cons_succ]
            refine' hw_take 30 (some 64) (.string (sB Q1)) rfl rfl (by kernel_rfl) (by kernel_rfl) (by kernel_rfl) (fun _ _ _ h => h) (by rfl) hN ?hy186 ?rest186
            case hy186 =>
              intro X hX
              exact cat_take P L2 HQ1 rfl rfl rfl (by have := hl2; omega)
              try rfl
            simp only [Act.put, List.setIfInBounds_toArray, List.set_cons_zero, List.set_cons_succ]
            refine' hw_take 31 (some 65) (.string (sB Q2)) rfl rfl (by kernel_rfl) (by kernel_rfl) (by kernel_rfl) (fun _ _ _ h => h) (by rfl) hN ?hy187 ?rest187
            case hy187 =>
              intro X hX
              exact cat_take Q1 [10] HQ2 rfl rfl rfl (by have := hlq; simp only [List.length_cons, List.length_nil]; omega)
              try rfl
            simp only [Act.put, List.setIfInBounds_toArray, List.set_cons_zero, List.set_cons_succ]
            refine' hw_take 32 (some 3) _ rfl rfl (by kernel_rfl) (by kernel_rfl) (by kernel_rfl) (fun _ _ _ h => h) (by rfl) hN ?hy188 ?rest188
            case hy188 =>
              intro X hX
              go_simp
              try rfl
            simp only [Act.put, List.setIfInBounds_toArray, List.set_cons_zero, List.set_cons_succ]
            refine wpAnyH_done (by kernel_rfl) ?_ _
            have hT : Hid (((LN.map ndT).take (k + 1)).flatten = Q2) := by
              unfold Hid
              rw [flat_snoc (X := LN.map ndT) (k := k) (by rw [List.getElem?_map, HV.out]; rfl), HP.out, HQ2.out, HQ1.out, ← HL2.out, HW2.out, HA2.out, ← HA1.out]
              simp only [ndT, hl, hro, if_true, if_false, Bool.false_eq_true, List.append_assoc]
            go_wp2
            go_roundw
            case rel => exact ⟨k + 1, by omega, by go_num, by rw [hT.out], hnw.trans hN⟩
            case measure => simp [intOf]; omega
        case t51 =>
          go_simp
          have al := (New.refl c0).alloc (.cells #[.int .i64 ep, .int .i64 m, .int .i64 su, .int .i64 co] 2)
          have b4 := Blk.mk c0 c0.heap.size 2 #[.int .i64 ep, .int .i64 m, .int .i64 su, .int .i64 co] rfl
          replace hN := hN.trans al
          refine hK.out _ _ hN (fun _ => ?_)
          simp only [Act.put, List.setIfInBounds_toArray, List.set_cons_zero, List.set_cons_succ]
          generalize c0.alloc (.cells #[.int .i64 ep, .int .i64 m, .int .i64 su, .int .i64 co] 2) = c61 at *
          clear al
          refine hw_call 5 (some 39) rfl rfl (by kernel_rfl) (by rfl) (fun K hK => ?_)
          go_simp
          have al := (New.refl c61).alloc (.cells #[.int .i64 id] 2)
          have bI := Blk.mk c61 c61.heap.size 2 #[.int .i64 id] rfl
          have b4 := b4.new al
          replace hN := hN.trans al
          refine hK.out _ _ hN (fun _ => ?_)
          simp only [Act.put, List.setIfInBounds_toArray, List.set_cons_zero, List.set_cons_succ]
          generalize c61.alloc (.cells #[.int .i64 id] 2) = c62 at *
          clear al
          refine hw_call 6 (some 40) rfl rfl (by kernel_rfl) (by rfl) (fun K hK => ?_)
          go_simp
          refine (lineT [110, 111, 100, 101] (by decide) (some ⟨c61.heap.size, 0, none⟩) 1 1 [id] c62 (nsAt_blk bI (by intro i z hz; match i, hz with | 0, hz => simpa using hz) (by intro z hz; simp only [List.mem_cons, List.not_mem_nil, or_false] at hz; unfold In6; omega)) rfl (by omega) (by intro z hz; simp only [List.mem_cons, List.not_mem_nil, or_false] at hz; omega)).mono ?_
          rintro e c63 ⟨rfl, al⟩
          clear bI
          rw [HA1.out]
          have b4 := b4.new al
          replace hN := hN.trans al
          clear al
          refine hK.out _ _ hN (fun _ => ?_)
          simp only [Act.put, List.setIfInBounds_toArray, List.set_cons_zero, List.set_cons_succ]
          refine' hw_take 8 (some 42) (.string (sB A2)) rfl rfl (by kernel_rfl) (by kernel_rfl) (by kernel_rfl) (fun _ _ _ h => h) (by rfl) hN ?hy189 ?rest189
          case hy189 =>
            intro X hX
            exact cat_take A1 [32, 100, 111, 119, 110] HA2 rfl rfl rfl (by have := hl1; simp only [List.length_cons, List.length_nil]; omega)
            try rfl
          simp only [Act.put, List.setIfInBounds_toArray, List.set_cons_zero, List.set_cons_succ]
          refine' hw_take 10 (some 44) (.string (sB W2)) rfl rfl (by kernel_rfl) (by kernel_rfl) (by kernel_rfl) (fun _ _ _ h => h) (by rfl) hN ?hy190 ?rest190
          case hy190 =>
            intro X hX
            exact cat_take A2 [32, 115, 116, 97, 110, 100, 98, 121] HW2 rfl rfl rfl (by have := hla; simp only [List.length_cons, List.length_nil]; omega)
            try rfl
          simp only [Act.put, List.setIfInBounds_toArray, List.set_cons_zero, List.set_cons_succ]
          refine hw_call 29 (some 63) rfl rfl (by kernel_rfl) (by rfl) (fun K hK => ?_)
          go_simp
          refine (lineT W2 hlw (some ⟨c0.heap.size, 0, none⟩) 4 4 [ep, (m : Int), su, co] c63 (nsAt_blk b4 (by intro i z hz; match i, hz with | 0, hz => simpa using hz | 1, hz => simpa using hz | 2, hz => simpa using hz | 3, hz => simpa using hz) (by intro z hz; simp only [List.mem_cons, List.not_mem_nil, or_false] at hz; unfold In6; omega)) rfl (by omega) (by intro z hz; simp only [List.mem_cons, List.not_mem_nil, or_false] at hz; omega)).mono ?_
          rintro e c64 ⟨rfl, al⟩
          clear b4
          rw [HL2.out]
          replace hN := hN.trans al
          clear al
          refine hK.out _ _ hN (fun _ => ?_)
          simp only [Act.put, List.setIfInBounds_toArray, List.set_cons_zero, List.set_cons_succ]
          refine' hw_take 30 (some 64) (.string (sB Q1)) rfl rfl (by kernel_rfl) (by kernel_rfl) (by kernel_rfl) (fun _ _ _ h => h) (by rfl) hN ?hy191 ?rest191
          case hy191 =>
            intro X hX
            exact cat_take P L2 HQ1 rfl rfl rfl (by have := hl2; omega)
            try rfl
          simp only [Act.put, List.setIfInBounds_toArray, List.set_cons_zero, List.set_cons_succ]
          refine' hw_take 31 (some 65) (.string (sB Q2)) rfl rfl (by kernel_rfl) (by kernel_rfl) (by kernel_rfl) (fun _ _ _ h => h) (by rfl) hN ?hy192 ?rest192
          case hy192 =>
            intro X hX
            exact cat_take Q1 [10] HQ2 rfl rfl rfl (by have := hlq; simp only [List.length_cons, List.length_nil]; omega)
            try rfl
          simp only [Act.put, List.setIfInBounds_toArray, List.set_cons_zero, List.set_cons_succ]
          refine' hw_take 32 (some 3) _ rfl rfl (by kernel_rfl) (by kernel_rfl) (by kernel_rfl) (fun _ _ _ h => h) (by rfl) hN ?hy193 ?rest193
          case hy193 =>
            intro X hX
            go_simp
            try rfl
          simp only [Act.put, List.setIfInBounds_toArray, List.set_cons_zero, List.set_cons_succ]
          refine wpAnyH_done (by kernel_rfl) ?_ _
          have hT : Hid (((LN.map ndT).take (k + 1)).flatten = Q2) := by
            unfold Hid
            rw [flat_snoc (X := LN.map ndT) (k := k) (by rw [List.getElem?_map, HV.out]; rfl), HP.out, HQ2.out, HQ1.out, ← HL2.out, HW2.out, HA2.out, ← HA1.out]
            simp only [ndT, hl, hro, if_true, if_false, Bool.false_eq_true, List.append_assoc]
          go_wp2
          go_roundw
          case rel => exact ⟨k + 1, by omega, by go_num, by rw [hT.out], hnw.trans hN⟩
          case measure => simp [intOf]; omega


end Go.Proofs.YtlkhmnjghdbmoaaGreatDoor
