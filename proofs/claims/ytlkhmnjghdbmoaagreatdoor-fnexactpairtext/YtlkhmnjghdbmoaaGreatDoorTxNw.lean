/- What is proved here: what the words of a node are, in the program. -/
import Derived.Test.YtlkhmnjghdbmoaaGreatDoorTxCc
import Derived.Test.YtlkhmnjghdbmoaaGreatDoorTxWd
import Derived.Test.YtlkhmnjghdbmoaaGreatDoorRwLib
import Derived.Deep.RegionHeld3
import Derived.Deep.CutRange
namespace Go.Proofs.YtlkhmnjghdbmoaaGreatDoor
open Go.RowKit Go.Sort
set_option linter.unusedVariables false
set_option linter.unusedSimpArgs false

theorem actN (G O : Nat) (ro : Int) (w : World) (q2 : w.cell? ⟨G, O + 2, none⟩ = some (.int .i64 ro)) : Calls Tryz.prog 86 #[.pointer (some ⟨G, O, none⟩)] w fun e w' => e = .returned (.bool (ro == 1)) ∧ w' = w := by
  go_enter Tryz.func86, Tryz.ntmps86
  go_wp2
  go_ret
  exact ⟨rfl, rfl⟩
theorem cntN (G O : Nat) (x : Option Addr) (m d : Nat) (w : World) (q4 : w.cell? ⟨G, O + 4, none⟩ = some (.slice x m d)) : Calls Tryz.prog 88 #[.pointer (some ⟨G, O, none⟩)] w fun e w' => e = .returned (.int .i64 m) ∧ w' = w := by
  go_enter Tryz.func88, Tryz.ntmps88
  go_wp2
  go_ret
  exact ⟨rfl, rfl⟩
theorem strV_one (L : List (List UInt8)) : ∀ u ∈ strV L, u.oneCell' = true := by
  intro u hu
  obtain ⟨l, -, rfl⟩ := List.mem_map.1 hu
  rfl
theorem rowS {w : World} {base g n cap : Nat} {xs : List Value} (h : w.ownsRow base 9 1 (.slice (some ⟨g, 0, none⟩) n cap) n xs) : ∀ X, New w X → ∀ a, some (⟨g, 0, none⟩ : Addr) = some a → ∀ j u, xs[j]? = some u → X.cell? (a.add j) = some u := by
  intro X hX a ha j u hu
  obtain rfl := Option.some.inj ha
  rw [Addr.add_lit, Nat.zero_add]
  have hj : j < xs.length := (List.getElem?_eq_some_iff.1 hu).1
  have hl := h.1
  exact (World.ownsRow.cellAt (own_newS h hX) j (by omega)).trans hu
theorem blkS {w : World} {B : Nat} {v : Value} (h : Blk w B 9 #[v]) : ∀ X, New w X → ∀ a, some (⟨B, 0, none⟩ : Addr) = some a → ∀ j u, [v][j]? = some u → X.cell? (a.add j) = some u := by
  intro X hX a ha j u hu
  obtain rfl := Option.some.inj ha
  rw [Addr.add_lit, Nat.zero_add, (h.new hX).cells j]
  simpa using hu
theorem own_lowS {w : World} {base base' n : Nat} {v : Value} {xs : List Value} (h : w.ownsRow base 9 1 v n xs) (hl : base' ≤ base) : w.ownsRow base' 9 1 v n xs := Joins.ownsRow_le h hl

/-- The words of a node. -/
def nwL (id : Int) (up : Bool) (ro ep : Int) (n : Nat) (su co : Int) : List (List UInt8) := [[110, 111, 100, 101], dg id] ++ [if up = true then [117, 112] else [100, 111, 119, 110]] ++ ((if ro = 1 then [97, 99, 116, 105, 118, 101] else [115, 116, 97, 110, 100, 98, 121]) :: [dg ep, dg n, dg su, dg co])

set_option maxRecDepth 100000 in
set_option maxHeartbeats 12800000 in
theorem nodeW (G O : Nat) (id : Int) (up : Bool) (ro ep su co : Int) (x : Option Addr) (m d : Nat) (ST RO : List UInt8) (w : World) (hs : ST = if up = true then [117, 112] else [100, 111, 119, 110]) (hr : RO = if ro = 1 then [97, 99, 116, 105, 118, 101] else [115, 116, 97, 110, 100, 98, 121]) (q0 : w.cell? ⟨G, O, none⟩ = some (.int .i64 id)) (q1 : w.cell? ⟨G, O + 1, none⟩ = some (.bool up)) (q2 : w.cell? ⟨G, O + 2, none⟩ = some (.int .i64 ro)) (q3 : w.cell? ⟨G, O + 3, none⟩ = some (.int .i64 ep)) (q4 : w.cell? ⟨G, O + 4, none⟩ = some (.slice x m d)) (q5 : w.cell? ⟨G, O + 5, none⟩ = some (.int .i64 su)) (q8 : w.cell? ⟨G, O + 8, none⟩ = some (.int .i64 co)) (hid : 0 ≤ id ∧ id ≤ 65535) (hep : 0 ≤ ep ∧ ep ≤ 65535) (hsu : 0 ≤ su ∧ su ≤ 65535) (hco : 0 ≤ co ∧ co ≤ 65535) (hm : m ≤ 65535) (ht : Tab w) :
    Calls Tryz.prog 54 #[.pointer (some ⟨G, O, none⟩)] w fun e w' => ∃ v, e = .returned v ∧ w'.ownsRow w.heap.size 9 1 v 8 (strV [[110, 111, 100, 101], dg id] ++ [.string ⟨ST.toArray⟩] ++ strV (RO :: [ep, (m : Int), su, co].map dg)) ∧ New w w' := by
  have hs0 := hs
  clear hs0
  cases up with
  | true =>
    by_cases hro : ro = 1
    · skip
      obtain rfl : ST = [117, 112] := hs
      obtain rfl : RO = [97, 99, 116, 105, 118, 101] := by rw [hr]; simp [hro]
      clear hr
      have hb : (ro == 1) = true := by simp [hro]
      go_enter Tryz.func54, Tryz.ntmps54
      go_wp2_with fail
      refine (actN G O ro _ q2).mono ?_
      rintro e wa ⟨rfl, hEq⟩
      rw [hEq, hb]
      clear hEq
      go_upto_region 6 with fail
      refine hw_start (n := 28) (S := fun X => New w X) rfl (by kernel_rfl) ((New.refl w).drew) (fun hN => ?_)
      have hwz : w.heap.size ≤ w.heap.size := Nat.le_refl _
      generalize w.drew = c0 at *
      refine' hw_take 0 (some 11) _ rfl rfl (by kernel_rfl) (by kernel_rfl) (by kernel_rfl) (fun _ _ _ h => h) (by rfl) hN ?hy26 ?rest26
      case hy26 =>
        intro X hX
        go_simp
        try rfl
      simp only [Act.put, List.setIfInBounds_toArray, List.set_cons_zero, List.set_cons_succ]
      refine' hw_take 1 (some 12) _ rfl rfl (by kernel_rfl) (by kernel_rfl) (by kernel_rfl) (fun _ _ _ h => h) (by rfl) hN ?hy27 ?rest27
      case hy27 =>
        intro X hX
        go_simp
        try rfl
      simp only [Act.put, List.setIfInBounds_toArray, List.set_cons_zero, List.set_cons_succ]
      refine' hw_take 2 (some 13) _ rfl rfl (by kernel_rfl) (by kernel_rfl) (by kernel_rfl) (fun _ _ _ h => h) (by rfl) hN ?hy28 ?rest28
      case hy28 =>
        intro X hX
        go_simp
        try rfl
      simp only [Act.put, List.setIfInBounds_toArray, List.set_cons_zero, List.set_cons_succ]
      refine' hw_take 3 (some 14) _ rfl rfl (by kernel_rfl) (by kernel_rfl) (by kernel_rfl) (fun _ _ _ h => h) (by rfl) hN ?hy29 ?rest29
      case hy29 =>
        intro X hX
        have q0X := (hX.below.cell (World.block_lt_of_cell? _ _ q0)).trans q0
        go_simp
        try rfl
      simp only [Act.put, List.setIfInBounds_toArray, List.set_cons_zero, List.set_cons_succ]
      refine' hw_take 6 (some 17) _ rfl rfl (by kernel_rfl) (by kernel_rfl) (by kernel_rfl) (fun _ _ _ h => h) (by rfl) hN ?hy30 ?rest30
      case hy30 =>
        intro X hX
        go_simp
        try rfl
      simp only [Act.put, List.setIfInBounds_toArray, List.set_cons_zero, List.set_cons_succ]
      refine' hw_take 8 (some 19) _ rfl rfl (by kernel_rfl) (by kernel_rfl) (by kernel_rfl) (fun _ _ _ h => h) (by rfl) hN ?hy31 ?rest31
      case hy31 =>
        intro X hX
        go_simp
        try rfl
      simp only [Act.put, List.setIfInBounds_toArray, List.set_cons_zero, List.set_cons_succ]
      refine' hw_take 9 (some 20) _ rfl rfl (by kernel_rfl) (by kernel_rfl) (by kernel_rfl) (fun _ _ _ h => h) (by rfl) hN ?hy32 ?rest32
      case hy32 =>
        intro X hX
        go_simp
        try rfl
      simp only [Act.put, List.setIfInBounds_toArray, List.set_cons_zero, List.set_cons_succ]
      refine' hw_take 10 (some 21) _ rfl rfl (by kernel_rfl) (by kernel_rfl) (by kernel_rfl) (fun _ _ _ h => h) (by rfl) hN ?hy33 ?rest33
      case hy33 =>
        intro X hX
        go_simp
        try rfl
      simp only [Act.put, List.setIfInBounds_toArray, List.set_cons_zero, List.set_cons_succ]
      refine' hw_take 11 (some 22) _ rfl rfl (by kernel_rfl) (by kernel_rfl) (by kernel_rfl) (fun _ _ _ h => h) (by rfl) hN ?hy34 ?rest34
      case hy34 =>
        intro X hX
        go_simp
        try rfl
      simp only [Act.put, List.setIfInBounds_toArray, List.set_cons_zero, List.set_cons_succ]
      refine' hw_take 12 (some 23) _ rfl rfl (by kernel_rfl) (by kernel_rfl) (by kernel_rfl) (fun _ _ _ h => h) (by rfl) hN ?hy35 ?rest35
      case hy35 =>
        intro X hX
        have q3X := (hX.below.cell (World.block_lt_of_cell? _ _ q3)).trans q3
        go_simp
        try rfl
      simp only [Act.put, List.setIfInBounds_toArray, List.set_cons_zero, List.set_cons_succ]
      refine' hw_take 13 (some 24) _ rfl rfl (by kernel_rfl) (by kernel_rfl) (by kernel_rfl) (fun _ _ _ h => h) (by rfl) hN ?hy36 ?rest36
      case hy36 =>
        intro X hX
        go_simp
        try rfl
      simp only [Act.put, List.setIfInBounds_toArray, List.set_cons_zero, List.set_cons_succ]
      refine' hw_take 15 (some 26) _ rfl rfl (by kernel_rfl) (by kernel_rfl) (by kernel_rfl) (fun _ _ _ h => h) (by rfl) hN ?hy37 ?rest37
      case hy37 =>
        intro X hX
        go_simp
        try rfl
      simp only [Act.put, List.setIfInBounds_toArray, List.set_cons_zero, List.set_cons_succ]
      refine' hw_take 16 (some 27) _ rfl rfl (by kernel_rfl) (by kernel_rfl) (by kernel_rfl) (fun _ _ _ h => h) (by rfl) hN ?hy38 ?rest38
      case hy38 =>
        intro X hX
        go_simp
        try rfl
      simp only [Act.put, List.setIfInBounds_toArray, List.set_cons_zero, List.set_cons_succ]
      refine' hw_take 17 (some 28) _ rfl rfl (by kernel_rfl) (by kernel_rfl) (by kernel_rfl) (fun _ _ _ h => h) (by rfl) hN ?hy39 ?rest39
      case hy39 =>
        intro X hX
        go_simp
        try rfl
      simp only [Act.put, List.setIfInBounds_toArray, List.set_cons_zero, List.set_cons_succ]
      refine' hw_take 18 (some 29) _ rfl rfl (by kernel_rfl) (by kernel_rfl) (by kernel_rfl) (fun _ _ _ h => h) (by rfl) hN ?hy40 ?rest40
      case hy40 =>
        intro X hX
        have q5X := (hX.below.cell (World.block_lt_of_cell? _ _ q5)).trans q5
        go_simp
        try rfl
      simp only [Act.put, List.setIfInBounds_toArray, List.set_cons_zero, List.set_cons_succ]
      refine' hw_take 19 (some 30) _ rfl rfl (by kernel_rfl) (by kernel_rfl) (by kernel_rfl) (fun _ _ _ h => h) (by rfl) hN ?hy41 ?rest41
      case hy41 =>
        intro X hX
        go_simp
        try rfl
      simp only [Act.put, List.setIfInBounds_toArray, List.set_cons_zero, List.set_cons_succ]
      refine' hw_take 20 (some 31) _ rfl rfl (by kernel_rfl) (by kernel_rfl) (by kernel_rfl) (fun _ _ _ h => h) (by rfl) hN ?hy42 ?rest42
      case hy42 =>
        intro X hX
        go_simp
        try rfl
      simp only [Act.put, List.setIfInBounds_toArray, List.set_cons_zero, List.set_cons_succ]
      refine' hw_take 21 (some 32) _ rfl rfl (by kernel_rfl) (by kernel_rfl) (by kernel_rfl) (fun _ _ _ h => h) (by rfl) hN ?hy43 ?rest43
      case hy43 =>
        intro X hX
        go_simp
        try rfl
      simp only [Act.put, List.setIfInBounds_toArray, List.set_cons_zero, List.set_cons_succ]
      refine' hw_take 22 (some 33) _ rfl rfl (by kernel_rfl) (by kernel_rfl) (by kernel_rfl) (fun _ _ _ h => h) (by rfl) hN ?hy44 ?rest44
      case hy44 =>
        intro X hX
        have q8X := (hX.below.cell (World.block_lt_of_cell? _ _ q8)).trans q8
        go_simp
        try rfl
      simp only [Act.put, List.setIfInBounds_toArray, List.set_cons_zero, List.set_cons_succ]
      refine wpAnyH_ready (rs := [4, 7]) (by kernel_rfl) (by simp) (hw_step 4 (some 15) rfl rfl (by rfl) (fun K hK => ?t49) (hw_step 7 (some 18) rfl rfl (by rfl) (fun K hK => ?t50) (by intro j hj; cases hj)))
      case t49 =>
        go_simp
        have al := (New.refl c0).alloc (.cells #[.int .i64 id] 2)
        have bI0 := Blk.mk c0 c0.heap.size 2 #[.int .i64 id] rfl
        replace hN := hN.trans al
        have bI := bI0
        clear bI0
        refine hK.out _ _ hN (fun _ => ?_)
        simp only [Act.put, List.setIfInBounds_toArray, List.set_cons_zero, List.set_cons_succ]
        generalize c0.alloc (.cells #[.int .i64 id] 2) = c59 at *
        clear al
        refine wpAnyH_ready (rs := [5, 7]) (by kernel_rfl) (by simp) (hw_step 5 (some 16) rfl rfl (by rfl) (fun K hK => ?t60) (hw_step 7 (some 18) rfl rfl (by rfl) (fun K hK => ?t61) (by intro j hj; cases hj)))
        case t60 =>
          go_simp
          refine (wordNum [110, 111, 100, 101] (some ⟨c0.heap.size, 0, none⟩) 1 1 [id] c59 (nsAt_blk bI (by intro i z hz; match i, hz with | 0, hz => simpa using hz) (by intro z hz; obtain rfl := List.mem_singleton.1 hz; unfold In6; omega)) rfl (by omega) (by intro z hz; obtain rfl := List.mem_singleton.1 hz; omega) (ht.new hN)).mono ?_
          rintro e c69 ⟨g1, k1, rfl, own1, al⟩
          clear bI
          replace hN := hN.trans al
          refine hK.out _ _ hN (fun _ => ?_)
          simp only [Act.put, List.setIfInBounds_toArray, List.set_cons_zero, List.set_cons_succ]
          clear al
          refine wpAnyH_ready (rs := [7, 14]) (by kernel_rfl) (by simp) (hw_step 7 (some 18) rfl rfl (by rfl) (fun K hK => ?t70) (hw_step 14 (some 25) rfl rfl (by rfl) (fun K hK => ?t71) (by intro j hj; cases hj)))
          case t71 =>
            go_simp
            refine (cntN G O x m d c69 ((hN.below.cell (World.block_lt_of_cell? _ _ q4)).trans q4)).mono ?_
            rintro e c78 ⟨rfl, hEq⟩
            rw [hEq]
            clear hEq
            refine hK.out _ _ hN (fun _ => ?_)
            simp only [Act.put, List.setIfInBounds_toArray, List.set_cons_zero, List.set_cons_succ]
            refine wpAnyH_ready (rs := [7, 23]) (by kernel_rfl) (by simp) (hw_step 7 (some 18) rfl rfl (by rfl) (fun K hK => ?t79) (hw_step 23 (some 34) rfl rfl (by rfl) (fun K hK => ?t80) (by intro j hj; cases hj)))
            case t80 =>
              go_simp
              have al := (New.refl c69).alloc (.cells #[.int .i64 ep, .int .i64 m, .int .i64 su, .int .i64 co] 2)
              have b40 := Blk.mk c69 c69.heap.size 2 #[.int .i64 ep, .int .i64 m, .int .i64 su, .int .i64 co] rfl
              have own1 := own_newS own1 al
              replace hN := hN.trans al
              have b4 := b40
              clear b40
              refine hK.out _ _ hN (fun _ => ?_)
              simp only [Act.put, List.setIfInBounds_toArray, List.set_cons_zero, List.set_cons_succ]
              generalize c69.alloc (.cells #[.int .i64 ep, .int .i64 m, .int .i64 su, .int .i64 co] 2) = c86 at *
              clear al
              refine wpAnyH_ready (rs := [7, 24]) (by kernel_rfl) (by simp) (hw_step 7 (some 18) rfl rfl (by rfl) (fun K hK => ?t87) (hw_step 24 (some 35) rfl rfl (by rfl) (fun K hK => ?t88) (by intro j hj; cases hj)))
              case t88 =>
                go_simp
                refine (wordNum [97, 99, 116, 105, 118, 101] (some ⟨c69.heap.size, 0, none⟩) 4 4 [ep, m, su, co] c86 (nsAt_blk b4 (by intro i z hz; match i, hz with | 0, hz => simpa using hz | 1, hz => simpa using hz | 2, hz => simpa using hz | 3, hz => simpa using hz) (by intro z hz; simp only [List.mem_cons, List.not_mem_nil, or_false] at hz; unfold In6; omega)) rfl (by omega) (by intro z hz; simp only [List.mem_cons, List.not_mem_nil, or_false] at hz; omega) (ht.new hN)).mono ?_
                rintro e c93 ⟨g2, k2, rfl, own2, al⟩
                clear b4
                have own1 := own_newS own1 al
                replace hN := hN.trans al
                refine hK.out _ _ hN (fun _ => ?_)
                simp only [Act.put, List.setIfInBounds_toArray, List.set_cons_zero, List.set_cons_succ]
                clear al
                refine hw_call 7 (some 18) rfl rfl (by kernel_rfl) (by rfl) (fun K hK => ?_)
                go_simp
                have al := (New.refl c93).alloc (.cells #[.string ⟨([117, 112] : List UInt8).toArray⟩] 9)
                have b70 := Blk.mk c93 c93.heap.size 9 #[.string ⟨([117, 112] : List UInt8).toArray⟩] rfl
                have own1 := own_newS own1 al
                have own2 := own_newS own2 al
                replace hN := hN.trans al
                have b7 := b70
                clear b70
                refine hK.out _ _ hN (fun _ => ?_)
                simp only [Act.put, List.setIfInBounds_toArray, List.set_cons_zero, List.set_cons_succ]
                generalize c93.alloc (.cells #[.string ⟨([117, 112] : List UInt8).toArray⟩] 9) = c94 at *
                clear al
                refine hw_call 25 (some 36) rfl rfl (by kernel_rfl) (by rfl) (fun K hK => ?_)
                go_simp
                have al := (New.refl c94).alloc (.cells #[.slice (some ⟨g1, 0, none⟩) 2 k1, .slice (some ⟨c93.heap.size, 0, none⟩) 1 1, .slice (some ⟨g2, 0, none⟩) 5 k2] 71)
                have bS := Blk.mk c94 c94.heap.size 71 #[.slice (some ⟨g1, 0, none⟩) 2 k1, .slice (some ⟨c93.heap.size, 0, none⟩) 1 1, .slice (some ⟨g2, 0, none⟩) 5 k2] rfl
                have own1 := own_newS own1 al
                have b7 := b7.new al
                have own2 := own_newS own2 al
                replace hN := hN.trans al
                refine hK.out _ _ hN (fun _ => ?_)
                simp only [Act.put, List.setIfInBounds_toArray, List.set_cons_zero, List.set_cons_succ]
                generalize c94.alloc (.cells #[.slice (some ⟨g1, 0, none⟩) 2 k1, .slice (some ⟨c93.heap.size, 0, none⟩) 1 1, .slice (some ⟨g2, 0, none⟩) 5 k2] 71) = c95 at *
                clear al
                refine hw_call 26 (some 37) rfl rfl (by kernel_rfl) (by rfl) (fun K hK => ?_)
                go_simp
                refine (concat3S c94.heap.size _ _ _ _ _ _ _ _ _ (strV [[110, 111, 100, 101], dg id]) [.string ⟨([117, 112] : List UInt8).toArray⟩] (strV ([97, 99, 116, 105, 118, 101] :: [ep, (m : Int), su, co].map dg)) c95 (bS.cells 0) (bS.cells 1) (bS.cells 2) (rowS own1) rfl (strV_one _) (by intro e; cases e) (by omega) (blkS b7) rfl (by intro u hu; obtain rfl := List.mem_singleton.1 hu; rfl) (by intro e; cases e) (by omega) (rowS own2) rfl (strV_one _) (by intro e; cases e) (by omega)).mono ?_
                rintro e c96 ⟨v, rfl, hv, al⟩
                have hNz := hN.size
                replace hN := hN.trans al
                refine hK.out _ _ hN (fun _ => ?_)
                simp only [Act.put, List.setIfInBounds_toArray, List.set_cons_zero, List.set_cons_succ]
                refine' hw_take 27 (some 2) _ rfl rfl (by kernel_rfl) (by kernel_rfl) (by kernel_rfl) (fun _ _ _ h => h) (by rfl) hN ?hy50 ?rest50
                case hy50 =>
                  intro X hX
                  go_simp
                  try rfl
                simp only [Act.put, List.setIfInBounds_toArray, List.set_cons_zero, List.set_cons_succ]
                refine wpAnyH_done (by kernel_rfl) ?_ _
                clear own1 own2 b7 bS al
                go_wp2
                go_ret
                exact ⟨v, rfl, own_lowS hv hNz, hN⟩
              case t87 =>
                go_simp
                have al := (New.refl c86).alloc (.cells #[.string ⟨([117, 112] : List UInt8).toArray⟩] 9)
                have b70 := Blk.mk c86 c86.heap.size 9 #[.string ⟨([117, 112] : List UInt8).toArray⟩] rfl
                have own1 := own_newS own1 al
                have b4 := b4.new al
                replace hN := hN.trans al
                have b7 := b70
                clear b70
                refine hK.out _ _ hN (fun _ => ?_)
                simp only [Act.put, List.setIfInBounds_toArray, List.set_cons_zero, List.set_cons_succ]
                generalize c86.alloc (.cells #[.string ⟨([117, 112] : List UInt8).toArray⟩] 9) = c89 at *
                clear al
                refine hw_call 24 (some 35) rfl rfl (by kernel_rfl) (by rfl) (fun K hK => ?_)
                go_simp
                refine (wordNum [97, 99, 116, 105, 118, 101] (some ⟨c69.heap.size, 0, none⟩) 4 4 [ep, m, su, co] c89 (nsAt_blk b4 (by intro i z hz; match i, hz with | 0, hz => simpa using hz | 1, hz => simpa using hz | 2, hz => simpa using hz | 3, hz => simpa using hz) (by intro z hz; simp only [List.mem_cons, List.not_mem_nil, or_false] at hz; unfold In6; omega)) rfl (by omega) (by intro z hz; simp only [List.mem_cons, List.not_mem_nil, or_false] at hz; omega) (ht.new hN)).mono ?_
                rintro e c90 ⟨g2, k2, rfl, own2, al⟩
                clear b4
                have own1 := own_newS own1 al
                have b7 := b7.new al
                replace hN := hN.trans al
                refine hK.out _ _ hN (fun _ => ?_)
                simp only [Act.put, List.setIfInBounds_toArray, List.set_cons_zero, List.set_cons_succ]
                clear al
                refine hw_call 25 (some 36) rfl rfl (by kernel_rfl) (by rfl) (fun K hK => ?_)
                go_simp
                have al := (New.refl c90).alloc (.cells #[.slice (some ⟨g1, 0, none⟩) 2 k1, .slice (some ⟨c86.heap.size, 0, none⟩) 1 1, .slice (some ⟨g2, 0, none⟩) 5 k2] 71)
                have bS := Blk.mk c90 c90.heap.size 71 #[.slice (some ⟨g1, 0, none⟩) 2 k1, .slice (some ⟨c86.heap.size, 0, none⟩) 1 1, .slice (some ⟨g2, 0, none⟩) 5 k2] rfl
                have own1 := own_newS own1 al
                have b7 := b7.new al
                have own2 := own_newS own2 al
                replace hN := hN.trans al
                refine hK.out _ _ hN (fun _ => ?_)
                simp only [Act.put, List.setIfInBounds_toArray, List.set_cons_zero, List.set_cons_succ]
                generalize c90.alloc (.cells #[.slice (some ⟨g1, 0, none⟩) 2 k1, .slice (some ⟨c86.heap.size, 0, none⟩) 1 1, .slice (some ⟨g2, 0, none⟩) 5 k2] 71) = c91 at *
                clear al
                refine hw_call 26 (some 37) rfl rfl (by kernel_rfl) (by rfl) (fun K hK => ?_)
                go_simp
                refine (concat3S c90.heap.size _ _ _ _ _ _ _ _ _ (strV [[110, 111, 100, 101], dg id]) [.string ⟨([117, 112] : List UInt8).toArray⟩] (strV ([97, 99, 116, 105, 118, 101] :: [ep, (m : Int), su, co].map dg)) c91 (bS.cells 0) (bS.cells 1) (bS.cells 2) (rowS own1) rfl (strV_one _) (by intro e; cases e) (by omega) (blkS b7) rfl (by intro u hu; obtain rfl := List.mem_singleton.1 hu; rfl) (by intro e; cases e) (by omega) (rowS own2) rfl (strV_one _) (by intro e; cases e) (by omega)).mono ?_
                rintro e c92 ⟨v, rfl, hv, al⟩
                have hNz := hN.size
                replace hN := hN.trans al
                refine hK.out _ _ hN (fun _ => ?_)
                simp only [Act.put, List.setIfInBounds_toArray, List.set_cons_zero, List.set_cons_succ]
                refine' hw_take 27 (some 2) _ rfl rfl (by kernel_rfl) (by kernel_rfl) (by kernel_rfl) (fun _ _ _ h => h) (by rfl) hN ?hy49 ?rest49
                case hy49 =>
                  intro X hX
                  go_simp
                  try rfl
                simp only [Act.put, List.setIfInBounds_toArray, List.set_cons_zero, List.set_cons_succ]
                refine wpAnyH_done (by kernel_rfl) ?_ _
                clear own1 own2 b7 bS al
                go_wp2
                go_ret
                exact ⟨v, rfl, own_lowS hv hNz, hN⟩
            case t79 =>
              go_simp
              have al := (New.refl c69).alloc (.cells #[.string ⟨([117, 112] : List UInt8).toArray⟩] 9)
              have b70 := Blk.mk c69 c69.heap.size 9 #[.string ⟨([117, 112] : List UInt8).toArray⟩] rfl
              have own1 := own_newS own1 al
              replace hN := hN.trans al
              have b7 := b70
              clear b70
              refine hK.out _ _ hN (fun _ => ?_)
              simp only [Act.put, List.setIfInBounds_toArray, List.set_cons_zero, List.set_cons_succ]
              generalize c69.alloc (.cells #[.string ⟨([117, 112] : List UInt8).toArray⟩] 9) = c81 at *
              clear al
              refine hw_call 23 (some 34) rfl rfl (by kernel_rfl) (by rfl) (fun K hK => ?_)
              go_simp
              have al := (New.refl c81).alloc (.cells #[.int .i64 ep, .int .i64 m, .int .i64 su, .int .i64 co] 2)
              have b40 := Blk.mk c81 c81.heap.size 2 #[.int .i64 ep, .int .i64 m, .int .i64 su, .int .i64 co] rfl
              have own1 := own_newS own1 al
              have b7 := b7.new al
              replace hN := hN.trans al
              have b4 := b40
              clear b40
              refine hK.out _ _ hN (fun _ => ?_)
              simp only [Act.put, List.setIfInBounds_toArray, List.set_cons_zero, List.set_cons_succ]
              generalize c81.alloc (.cells #[.int .i64 ep, .int .i64 m, .int .i64 su, .int .i64 co] 2) = c82 at *
              clear al
              refine hw_call 24 (some 35) rfl rfl (by kernel_rfl) (by rfl) (fun K hK => ?_)
              go_simp
              refine (wordNum [97, 99, 116, 105, 118, 101] (some ⟨c81.heap.size, 0, none⟩) 4 4 [ep, m, su, co] c82 (nsAt_blk b4 (by intro i z hz; match i, hz with | 0, hz => simpa using hz | 1, hz => simpa using hz | 2, hz => simpa using hz | 3, hz => simpa using hz) (by intro z hz; simp only [List.mem_cons, List.not_mem_nil, or_false] at hz; unfold In6; omega)) rfl (by omega) (by intro z hz; simp only [List.mem_cons, List.not_mem_nil, or_false] at hz; omega) (ht.new hN)).mono ?_
              rintro e c83 ⟨g2, k2, rfl, own2, al⟩
              clear b4
              have own1 := own_newS own1 al
              have b7 := b7.new al
              replace hN := hN.trans al
              refine hK.out _ _ hN (fun _ => ?_)
              simp only [Act.put, List.setIfInBounds_toArray, List.set_cons_zero, List.set_cons_succ]
              clear al
              refine hw_call 25 (some 36) rfl rfl (by kernel_rfl) (by rfl) (fun K hK => ?_)
              go_simp
              have al := (New.refl c83).alloc (.cells #[.slice (some ⟨g1, 0, none⟩) 2 k1, .slice (some ⟨c69.heap.size, 0, none⟩) 1 1, .slice (some ⟨g2, 0, none⟩) 5 k2] 71)
              have bS := Blk.mk c83 c83.heap.size 71 #[.slice (some ⟨g1, 0, none⟩) 2 k1, .slice (some ⟨c69.heap.size, 0, none⟩) 1 1, .slice (some ⟨g2, 0, none⟩) 5 k2] rfl
              have own1 := own_newS own1 al
              have b7 := b7.new al
              have own2 := own_newS own2 al
              replace hN := hN.trans al
              refine hK.out _ _ hN (fun _ => ?_)
              simp only [Act.put, List.setIfInBounds_toArray, List.set_cons_zero, List.set_cons_succ]
              generalize c83.alloc (.cells #[.slice (some ⟨g1, 0, none⟩) 2 k1, .slice (some ⟨c69.heap.size, 0, none⟩) 1 1, .slice (some ⟨g2, 0, none⟩) 5 k2] 71) = c84 at *
              clear al
              refine hw_call 26 (some 37) rfl rfl (by kernel_rfl) (by rfl) (fun K hK => ?_)
              go_simp
              refine (concat3S c83.heap.size _ _ _ _ _ _ _ _ _ (strV [[110, 111, 100, 101], dg id]) [.string ⟨([117, 112] : List UInt8).toArray⟩] (strV ([97, 99, 116, 105, 118, 101] :: [ep, (m : Int), su, co].map dg)) c84 (bS.cells 0) (bS.cells 1) (bS.cells 2) (rowS own1) rfl (strV_one _) (by intro e; cases e) (by omega) (blkS b7) rfl (by intro u hu; obtain rfl := List.mem_singleton.1 hu; rfl) (by intro e; cases e) (by omega) (rowS own2) rfl (strV_one _) (by intro e; cases e) (by omega)).mono ?_
              rintro e c85 ⟨v, rfl, hv, al⟩
              have hNz := hN.size
              replace hN := hN.trans al
              refine hK.out _ _ hN (fun _ => ?_)
              simp only [Act.put, List.setIfInBounds_toArray, List.set_cons_zero, List.set_cons_succ]
              refine' hw_take 27 (some 2) _ rfl rfl (by kernel_rfl) (by kernel_rfl) (by kernel_rfl) (fun _ _ _ h => h) (by rfl) hN ?hy48 ?rest48
              case hy48 =>
                intro X hX
                go_simp
                try rfl
              simp only [Act.put, List.setIfInBounds_toArray, List.set_cons_zero, List.set_cons_succ]
              refine wpAnyH_done (by kernel_rfl) ?_ _
              clear own1 own2 b7 bS al
              go_wp2
              go_ret
              exact ⟨v, rfl, own_lowS hv hNz, hN⟩
          case t70 =>
            go_simp
            have al := (New.refl c69).alloc (.cells #[.string ⟨([117, 112] : List UInt8).toArray⟩] 9)
            have b70 := Blk.mk c69 c69.heap.size 9 #[.string ⟨([117, 112] : List UInt8).toArray⟩] rfl
            have own1 := own_newS own1 al
            replace hN := hN.trans al
            have b7 := b70
            clear b70
            refine hK.out _ _ hN (fun _ => ?_)
            simp only [Act.put, List.setIfInBounds_toArray, List.set_cons_zero, List.set_cons_succ]
            generalize c69.alloc (.cells #[.string ⟨([117, 112] : List UInt8).toArray⟩] 9) = c72 at *
            clear al
            refine hw_call 14 (some 25) rfl rfl (by kernel_rfl) (by rfl) (fun K hK => ?_)
            go_simp
            refine (cntN G O x m d c72 ((hN.below.cell (World.block_lt_of_cell? _ _ q4)).trans q4)).mono ?_
            rintro e c73 ⟨rfl, hEq⟩
            rw [hEq]
            clear hEq
            refine hK.out _ _ hN (fun _ => ?_)
            simp only [Act.put, List.setIfInBounds_toArray, List.set_cons_zero, List.set_cons_succ]
            refine hw_call 23 (some 34) rfl rfl (by kernel_rfl) (by rfl) (fun K hK => ?_)
            go_simp
            have al := (New.refl c72).alloc (.cells #[.int .i64 ep, .int .i64 m, .int .i64 su, .int .i64 co] 2)
            have b40 := Blk.mk c72 c72.heap.size 2 #[.int .i64 ep, .int .i64 m, .int .i64 su, .int .i64 co] rfl
            have own1 := own_newS own1 al
            have b7 := b7.new al
            replace hN := hN.trans al
            have b4 := b40
            clear b40
            refine hK.out _ _ hN (fun _ => ?_)
            simp only [Act.put, List.setIfInBounds_toArray, List.set_cons_zero, List.set_cons_succ]
            generalize c72.alloc (.cells #[.int .i64 ep, .int .i64 m, .int .i64 su, .int .i64 co] 2) = c74 at *
            clear al
            refine hw_call 24 (some 35) rfl rfl (by kernel_rfl) (by rfl) (fun K hK => ?_)
            go_simp
            refine (wordNum [97, 99, 116, 105, 118, 101] (some ⟨c72.heap.size, 0, none⟩) 4 4 [ep, m, su, co] c74 (nsAt_blk b4 (by intro i z hz; match i, hz with | 0, hz => simpa using hz | 1, hz => simpa using hz | 2, hz => simpa using hz | 3, hz => simpa using hz) (by intro z hz; simp only [List.mem_cons, List.not_mem_nil, or_false] at hz; unfold In6; omega)) rfl (by omega) (by intro z hz; simp only [List.mem_cons, List.not_mem_nil, or_false] at hz; omega) (ht.new hN)).mono ?_
            rintro e c75 ⟨g2, k2, rfl, own2, al⟩
            clear b4
            have own1 := own_newS own1 al
            have b7 := b7.new al
            replace hN := hN.trans al
            refine hK.out _ _ hN (fun _ => ?_)
            simp only [Act.put, List.setIfInBounds_toArray, List.set_cons_zero, List.set_cons_succ]
            clear al
            refine hw_call 25 (some 36) rfl rfl (by kernel_rfl) (by rfl) (fun K hK => ?_)
            go_simp
            have al := (New.refl c75).alloc (.cells #[.slice (some ⟨g1, 0, none⟩) 2 k1, .slice (some ⟨c69.heap.size, 0, none⟩) 1 1, .slice (some ⟨g2, 0, none⟩) 5 k2] 71)
            have bS := Blk.mk c75 c75.heap.size 71 #[.slice (some ⟨g1, 0, none⟩) 2 k1, .slice (some ⟨c69.heap.size, 0, none⟩) 1 1, .slice (some ⟨g2, 0, none⟩) 5 k2] rfl
            have own1 := own_newS own1 al
            have b7 := b7.new al
            have own2 := own_newS own2 al
            replace hN := hN.trans al
            refine hK.out _ _ hN (fun _ => ?_)
            simp only [Act.put, List.setIfInBounds_toArray, List.set_cons_zero, List.set_cons_succ]
            generalize c75.alloc (.cells #[.slice (some ⟨g1, 0, none⟩) 2 k1, .slice (some ⟨c69.heap.size, 0, none⟩) 1 1, .slice (some ⟨g2, 0, none⟩) 5 k2] 71) = c76 at *
            clear al
            refine hw_call 26 (some 37) rfl rfl (by kernel_rfl) (by rfl) (fun K hK => ?_)
            go_simp
            refine (concat3S c75.heap.size _ _ _ _ _ _ _ _ _ (strV [[110, 111, 100, 101], dg id]) [.string ⟨([117, 112] : List UInt8).toArray⟩] (strV ([97, 99, 116, 105, 118, 101] :: [ep, (m : Int), su, co].map dg)) c76 (bS.cells 0) (bS.cells 1) (bS.cells 2) (rowS own1) rfl (strV_one _) (by intro e; cases e) (by omega) (blkS b7) rfl (by intro u hu; obtain rfl := List.mem_singleton.1 hu; rfl) (by intro e; cases e) (by omega) (rowS own2) rfl (strV_one _) (by intro e; cases e) (by omega)).mono ?_
            rintro e c77 ⟨v, rfl, hv, al⟩
            have hNz := hN.size
            replace hN := hN.trans al
            refine hK.out _ _ hN (fun _ => ?_)
            simp only [Act.put, List.setIfInBounds_toArray, List.set_cons_zero, List.set_cons_succ]
            refine' hw_take 27 (some 2) _ rfl rfl (by kernel_rfl) (by kernel_rfl) (by kernel_rfl) (fun _ _ _ h => h) (by rfl) hN ?hy47 ?rest47
            case hy47 =>
              intro X hX
              go_simp
              try rfl
            simp only [Act.put, List.setIfInBounds_toArray, List.set_cons_zero, List.set_cons_succ]
            refine wpAnyH_done (by kernel_rfl) ?_ _
            clear own1 own2 b7 bS al
            go_wp2
            go_ret
            exact ⟨v, rfl, own_lowS hv hNz, hN⟩
        case t61 =>
          go_simp
          have al := (New.refl c59).alloc (.cells #[.string ⟨([117, 112] : List UInt8).toArray⟩] 9)
          have b70 := Blk.mk c59 c59.heap.size 9 #[.string ⟨([117, 112] : List UInt8).toArray⟩] rfl
          have bI := bI.new al
          replace hN := hN.trans al
          have b7 := b70
          clear b70
          refine hK.out _ _ hN (fun _ => ?_)
          simp only [Act.put, List.setIfInBounds_toArray, List.set_cons_zero, List.set_cons_succ]
          generalize c59.alloc (.cells #[.string ⟨([117, 112] : List UInt8).toArray⟩] 9) = c62 at *
          clear al
          refine hw_call 5 (some 16) rfl rfl (by kernel_rfl) (by rfl) (fun K hK => ?_)
          go_simp
          refine (wordNum [110, 111, 100, 101] (some ⟨c0.heap.size, 0, none⟩) 1 1 [id] c62 (nsAt_blk bI (by intro i z hz; match i, hz with | 0, hz => simpa using hz) (by intro z hz; obtain rfl := List.mem_singleton.1 hz; unfold In6; omega)) rfl (by omega) (by intro z hz; obtain rfl := List.mem_singleton.1 hz; omega) (ht.new hN)).mono ?_
          rintro e c63 ⟨g1, k1, rfl, own1, al⟩
          clear bI
          have b7 := b7.new al
          replace hN := hN.trans al
          refine hK.out _ _ hN (fun _ => ?_)
          simp only [Act.put, List.setIfInBounds_toArray, List.set_cons_zero, List.set_cons_succ]
          clear al
          refine hw_call 14 (some 25) rfl rfl (by kernel_rfl) (by rfl) (fun K hK => ?_)
          go_simp
          refine (cntN G O x m d c63 ((hN.below.cell (World.block_lt_of_cell? _ _ q4)).trans q4)).mono ?_
          rintro e c64 ⟨rfl, hEq⟩
          rw [hEq]
          clear hEq
          refine hK.out _ _ hN (fun _ => ?_)
          simp only [Act.put, List.setIfInBounds_toArray, List.set_cons_zero, List.set_cons_succ]
          refine hw_call 23 (some 34) rfl rfl (by kernel_rfl) (by rfl) (fun K hK => ?_)
          go_simp
          have al := (New.refl c63).alloc (.cells #[.int .i64 ep, .int .i64 m, .int .i64 su, .int .i64 co] 2)
          have b40 := Blk.mk c63 c63.heap.size 2 #[.int .i64 ep, .int .i64 m, .int .i64 su, .int .i64 co] rfl
          have own1 := own_newS own1 al
          have b7 := b7.new al
          replace hN := hN.trans al
          have b4 := b40
          clear b40
          refine hK.out _ _ hN (fun _ => ?_)
          simp only [Act.put, List.setIfInBounds_toArray, List.set_cons_zero, List.set_cons_succ]
          generalize c63.alloc (.cells #[.int .i64 ep, .int .i64 m, .int .i64 su, .int .i64 co] 2) = c65 at *
          clear al
          refine hw_call 24 (some 35) rfl rfl (by kernel_rfl) (by rfl) (fun K hK => ?_)
          go_simp
          refine (wordNum [97, 99, 116, 105, 118, 101] (some ⟨c63.heap.size, 0, none⟩) 4 4 [ep, m, su, co] c65 (nsAt_blk b4 (by intro i z hz; match i, hz with | 0, hz => simpa using hz | 1, hz => simpa using hz | 2, hz => simpa using hz | 3, hz => simpa using hz) (by intro z hz; simp only [List.mem_cons, List.not_mem_nil, or_false] at hz; unfold In6; omega)) rfl (by omega) (by intro z hz; simp only [List.mem_cons, List.not_mem_nil, or_false] at hz; omega) (ht.new hN)).mono ?_
          rintro e c66 ⟨g2, k2, rfl, own2, al⟩
          clear b4
          have own1 := own_newS own1 al
          have b7 := b7.new al
          replace hN := hN.trans al
          refine hK.out _ _ hN (fun _ => ?_)
          simp only [Act.put, List.setIfInBounds_toArray, List.set_cons_zero, List.set_cons_succ]
          clear al
          refine hw_call 25 (some 36) rfl rfl (by kernel_rfl) (by rfl) (fun K hK => ?_)
          go_simp
          have al := (New.refl c66).alloc (.cells #[.slice (some ⟨g1, 0, none⟩) 2 k1, .slice (some ⟨c59.heap.size, 0, none⟩) 1 1, .slice (some ⟨g2, 0, none⟩) 5 k2] 71)
          have bS := Blk.mk c66 c66.heap.size 71 #[.slice (some ⟨g1, 0, none⟩) 2 k1, .slice (some ⟨c59.heap.size, 0, none⟩) 1 1, .slice (some ⟨g2, 0, none⟩) 5 k2] rfl
          have own1 := own_newS own1 al
          have b7 := b7.new al
          have own2 := own_newS own2 al
          replace hN := hN.trans al
          refine hK.out _ _ hN (fun _ => ?_)
          simp only [Act.put, List.setIfInBounds_toArray, List.set_cons_zero, List.set_cons_succ]
          generalize c66.alloc (.cells #[.slice (some ⟨g1, 0, none⟩) 2 k1, .slice (some ⟨c59.heap.size, 0, none⟩) 1 1, .slice (some ⟨g2, 0, none⟩) 5 k2] 71) = c67 at *
          clear al
          refine hw_call 26 (some 37) rfl rfl (by kernel_rfl) (by rfl) (fun K hK => ?_)
          go_simp
          refine (concat3S c66.heap.size _ _ _ _ _ _ _ _ _ (strV [[110, 111, 100, 101], dg id]) [.string ⟨([117, 112] : List UInt8).toArray⟩] (strV ([97, 99, 116, 105, 118, 101] :: [ep, (m : Int), su, co].map dg)) c67 (bS.cells 0) (bS.cells 1) (bS.cells 2) (rowS own1) rfl (strV_one _) (by intro e; cases e) (by omega) (blkS b7) rfl (by intro u hu; obtain rfl := List.mem_singleton.1 hu; rfl) (by intro e; cases e) (by omega) (rowS own2) rfl (strV_one _) (by intro e; cases e) (by omega)).mono ?_
          rintro e c68 ⟨v, rfl, hv, al⟩
          have hNz := hN.size
          replace hN := hN.trans al
          refine hK.out _ _ hN (fun _ => ?_)
          simp only [Act.put, List.setIfInBounds_toArray, List.set_cons_zero, List.set_cons_succ]
          refine' hw_take 27 (some 2) _ rfl rfl (by kernel_rfl) (by kernel_rfl) (by kernel_rfl) (fun _ _ _ h => h) (by rfl) hN ?hy46 ?rest46
          case hy46 =>
            intro X hX
            go_simp
            try rfl
          simp only [Act.put, List.setIfInBounds_toArray, List.set_cons_zero, List.set_cons_succ]
          refine wpAnyH_done (by kernel_rfl) ?_ _
          clear own1 own2 b7 bS al
          go_wp2
          go_ret
          exact ⟨v, rfl, own_lowS hv hNz, hN⟩
      case t50 =>
        go_simp
        have al := (New.refl c0).alloc (.cells #[.string ⟨([117, 112] : List UInt8).toArray⟩] 9)
        have b70 := Blk.mk c0 c0.heap.size 9 #[.string ⟨([117, 112] : List UInt8).toArray⟩] rfl
        replace hN := hN.trans al
        have b7 := b70
        clear b70
        refine hK.out _ _ hN (fun _ => ?_)
        simp only [Act.put, List.setIfInBounds_toArray, List.set_cons_zero, List.set_cons_succ]
        generalize c0.alloc (.cells #[.string ⟨([117, 112] : List UInt8).toArray⟩] 9) = c51 at *
        clear al
        refine hw_call 4 (some 15) rfl rfl (by kernel_rfl) (by rfl) (fun K hK => ?_)
        go_simp
        have al := (New.refl c51).alloc (.cells #[.int .i64 id] 2)
        have bI0 := Blk.mk c51 c51.heap.size 2 #[.int .i64 id] rfl
        have b7 := b7.new al
        replace hN := hN.trans al
        have bI := bI0
        clear bI0
        refine hK.out _ _ hN (fun _ => ?_)
        simp only [Act.put, List.setIfInBounds_toArray, List.set_cons_zero, List.set_cons_succ]
        generalize c51.alloc (.cells #[.int .i64 id] 2) = c52 at *
        clear al
        refine hw_call 5 (some 16) rfl rfl (by kernel_rfl) (by rfl) (fun K hK => ?_)
        go_simp
        refine (wordNum [110, 111, 100, 101] (some ⟨c51.heap.size, 0, none⟩) 1 1 [id] c52 (nsAt_blk bI (by intro i z hz; match i, hz with | 0, hz => simpa using hz) (by intro z hz; obtain rfl := List.mem_singleton.1 hz; unfold In6; omega)) rfl (by omega) (by intro z hz; obtain rfl := List.mem_singleton.1 hz; omega) (ht.new hN)).mono ?_
        rintro e c53 ⟨g1, k1, rfl, own1, al⟩
        clear bI
        have b7 := b7.new al
        replace hN := hN.trans al
        refine hK.out _ _ hN (fun _ => ?_)
        simp only [Act.put, List.setIfInBounds_toArray, List.set_cons_zero, List.set_cons_succ]
        clear al
        refine hw_call 14 (some 25) rfl rfl (by kernel_rfl) (by rfl) (fun K hK => ?_)
        go_simp
        refine (cntN G O x m d c53 ((hN.below.cell (World.block_lt_of_cell? _ _ q4)).trans q4)).mono ?_
        rintro e c54 ⟨rfl, hEq⟩
        rw [hEq]
        clear hEq
        refine hK.out _ _ hN (fun _ => ?_)
        simp only [Act.put, List.setIfInBounds_toArray, List.set_cons_zero, List.set_cons_succ]
        refine hw_call 23 (some 34) rfl rfl (by kernel_rfl) (by rfl) (fun K hK => ?_)
        go_simp
        have al := (New.refl c53).alloc (.cells #[.int .i64 ep, .int .i64 m, .int .i64 su, .int .i64 co] 2)
        have b40 := Blk.mk c53 c53.heap.size 2 #[.int .i64 ep, .int .i64 m, .int .i64 su, .int .i64 co] rfl
        have own1 := own_newS own1 al
        have b7 := b7.new al
        replace hN := hN.trans al
        have b4 := b40
        clear b40
        refine hK.out _ _ hN (fun _ => ?_)
        simp only [Act.put, List.setIfInBounds_toArray, List.set_cons_zero, List.set_cons_succ]
        generalize c53.alloc (.cells #[.int .i64 ep, .int .i64 m, .int .i64 su, .int .i64 co] 2) = c55 at *
        clear al
        refine hw_call 24 (some 35) rfl rfl (by kernel_rfl) (by rfl) (fun K hK => ?_)
        go_simp
        refine (wordNum [97, 99, 116, 105, 118, 101] (some ⟨c53.heap.size, 0, none⟩) 4 4 [ep, m, su, co] c55 (nsAt_blk b4 (by intro i z hz; match i, hz with | 0, hz => simpa using hz | 1, hz => simpa using hz | 2, hz => simpa using hz | 3, hz => simpa using hz) (by intro z hz; simp only [List.mem_cons, List.not_mem_nil, or_false] at hz; unfold In6; omega)) rfl (by omega) (by intro z hz; simp only [List.mem_cons, List.not_mem_nil, or_false] at hz; omega) (ht.new hN)).mono ?_
        rintro e c56 ⟨g2, k2, rfl, own2, al⟩
        clear b4
        have own1 := own_newS own1 al
        have b7 := b7.new al
        replace hN := hN.trans al
        refine hK.out _ _ hN (fun _ => ?_)
        simp only [Act.put, List.setIfInBounds_toArray, List.set_cons_zero, List.set_cons_succ]
        clear al
        refine hw_call 25 (some 36) rfl rfl (by kernel_rfl) (by rfl) (fun K hK => ?_)
        go_simp
        have al := (New.refl c56).alloc (.cells #[.slice (some ⟨g1, 0, none⟩) 2 k1, .slice (some ⟨c0.heap.size, 0, none⟩) 1 1, .slice (some ⟨g2, 0, none⟩) 5 k2] 71)
        have bS := Blk.mk c56 c56.heap.size 71 #[.slice (some ⟨g1, 0, none⟩) 2 k1, .slice (some ⟨c0.heap.size, 0, none⟩) 1 1, .slice (some ⟨g2, 0, none⟩) 5 k2] rfl
        have own1 := own_newS own1 al
        have b7 := b7.new al
        have own2 := own_newS own2 al
        replace hN := hN.trans al
        refine hK.out _ _ hN (fun _ => ?_)
        simp only [Act.put, List.setIfInBounds_toArray, List.set_cons_zero, List.set_cons_succ]
        generalize c56.alloc (.cells #[.slice (some ⟨g1, 0, none⟩) 2 k1, .slice (some ⟨c0.heap.size, 0, none⟩) 1 1, .slice (some ⟨g2, 0, none⟩) 5 k2] 71) = c57 at *
        clear al
        refine hw_call 26 (some 37) rfl rfl (by kernel_rfl) (by rfl) (fun K hK => ?_)
        go_simp
        refine (concat3S c56.heap.size _ _ _ _ _ _ _ _ _ (strV [[110, 111, 100, 101], dg id]) [.string ⟨([117, 112] : List UInt8).toArray⟩] (strV ([97, 99, 116, 105, 118, 101] :: [ep, (m : Int), su, co].map dg)) c57 (bS.cells 0) (bS.cells 1) (bS.cells 2) (rowS own1) rfl (strV_one _) (by intro e; cases e) (by omega) (blkS b7) rfl (by intro u hu; obtain rfl := List.mem_singleton.1 hu; rfl) (by intro e; cases e) (by omega) (rowS own2) rfl (strV_one _) (by intro e; cases e) (by omega)).mono ?_
        rintro e c58 ⟨v, rfl, hv, al⟩
        have hNz := hN.size
        replace hN := hN.trans al
        refine hK.out _ _ hN (fun _ => ?_)
        simp only [Act.put, List.setIfInBounds_toArray, List.set_cons_zero, List.set_cons_succ]
        refine' hw_take 27 (some 2) _ rfl rfl (by kernel_rfl) (by kernel_rfl) (by kernel_rfl) (fun _ _ _ h => h) (by rfl) hN ?hy45 ?rest45
        case hy45 =>
          intro X hX
          go_simp
          try rfl
        simp only [Act.put, List.setIfInBounds_toArray, List.set_cons_zero, List.set_cons_succ]
        refine wpAnyH_done (by kernel_rfl) ?_ _
        clear own1 own2 b7 bS al
        go_wp2
        go_ret
        exact ⟨v, rfl, own_lowS hv hNz, hN⟩
    · skip
      obtain rfl : ST = [117, 112] := hs
      obtain rfl : RO = [115, 116, 97, 110, 100, 98, 121] := by rw [hr]; simp [hro]
      clear hr
      have hb : (ro == 1) = false := by simp [hro]
      go_enter Tryz.func54, Tryz.ntmps54
      go_wp2_with fail
      refine (actN G O ro _ q2).mono ?_
      rintro e wa ⟨rfl, hEq⟩
      rw [hEq, hb]
      clear hEq
      go_upto_region 6 with fail
      refine hw_start (n := 28) (S := fun X => New w X) rfl (by kernel_rfl) ((New.refl w).drew) (fun hN => ?_)
      have hwz : w.heap.size ≤ w.heap.size := Nat.le_refl _
      generalize w.drew = c0 at *
      refine' hw_take 0 (some 11) _ rfl rfl (by kernel_rfl) (by kernel_rfl) (by kernel_rfl) (fun _ _ _ h => h) (by rfl) hN ?hy51 ?rest51
      case hy51 =>
        intro X hX
        go_simp
        try rfl
      simp only [Act.put, List.setIfInBounds_toArray, List.set_cons_zero, List.set_cons_succ]
      refine' hw_take 1 (some 12) _ rfl rfl (by kernel_rfl) (by kernel_rfl) (by kernel_rfl) (fun _ _ _ h => h) (by rfl) hN ?hy52 ?rest52
      case hy52 =>
        intro X hX
        go_simp
        try rfl
      simp only [Act.put, List.setIfInBounds_toArray, List.set_cons_zero, List.set_cons_succ]
      refine' hw_take 2 (some 13) _ rfl rfl (by kernel_rfl) (by kernel_rfl) (by kernel_rfl) (fun _ _ _ h => h) (by rfl) hN ?hy53 ?rest53
      case hy53 =>
        intro X hX
        go_simp
        try rfl
      simp only [Act.put, List.setIfInBounds_toArray, List.set_cons_zero, List.set_cons_succ]
      refine' hw_take 3 (some 14) _ rfl rfl (by kernel_rfl) (by kernel_rfl) (by kernel_rfl) (fun _ _ _ h => h) (by rfl) hN ?hy54 ?rest54
      case hy54 =>
        intro X hX
        have q0X := (hX.below.cell (World.block_lt_of_cell? _ _ q0)).trans q0
        go_simp
        try rfl
      simp only [Act.put, List.setIfInBounds_toArray, List.set_cons_zero, List.set_cons_succ]
      refine' hw_take 6 (some 17) _ rfl rfl (by kernel_rfl) (by kernel_rfl) (by kernel_rfl) (fun _ _ _ h => h) (by rfl) hN ?hy55 ?rest55
      case hy55 =>
        intro X hX
        go_simp
        try rfl
      simp only [Act.put, List.setIfInBounds_toArray, List.set_cons_zero, List.set_cons_succ]
      refine' hw_take 8 (some 19) _ rfl rfl (by kernel_rfl) (by kernel_rfl) (by kernel_rfl) (fun _ _ _ h => h) (by rfl) hN ?hy56 ?rest56
      case hy56 =>
        intro X hX
        go_simp
        try rfl
      simp only [Act.put, List.setIfInBounds_toArray, List.set_cons_zero, List.set_cons_succ]
      refine' hw_take 9 (some 20) _ rfl rfl (by kernel_rfl) (by kernel_rfl) (by kernel_rfl) (fun _ _ _ h => h) (by rfl) hN ?hy57 ?rest57
      case hy57 =>
        intro X hX
        go_simp
        try rfl
      simp only [Act.put, List.setIfInBounds_toArray, List.set_cons_zero, List.set_cons_succ]
      refine' hw_take 10 (some 21) _ rfl rfl (by kernel_rfl) (by kernel_rfl) (by kernel_rfl) (fun _ _ _ h => h) (by rfl) hN ?hy58 ?rest58
      case hy58 =>
        intro X hX
        go_simp
        try rfl
      simp only [Act.put, List.setIfInBounds_toArray, List.set_cons_zero, List.set_cons_succ]
      refine' hw_take 11 (some 22) _ rfl rfl (by kernel_rfl) (by kernel_rfl) (by kernel_rfl) (fun _ _ _ h => h) (by rfl) hN ?hy59 ?rest59
      case hy59 =>
        intro X hX
        go_simp
        try rfl
      simp only [Act.put, List.setIfInBounds_toArray, List.set_cons_zero, List.set_cons_succ]
      refine' hw_take 12 (some 23) _ rfl rfl (by kernel_rfl) (by kernel_rfl) (by kernel_rfl) (fun _ _ _ h => h) (by rfl) hN ?hy60 ?rest60
      case hy60 =>
        intro X hX
        have q3X := (hX.below.cell (World.block_lt_of_cell? _ _ q3)).trans q3
        go_simp
        try rfl
      simp only [Act.put, List.setIfInBounds_toArray, List.set_cons_zero, List.set_cons_succ]
      refine' hw_take 13 (some 24) _ rfl rfl (by kernel_rfl) (by kernel_rfl) (by kernel_rfl) (fun _ _ _ h => h) (by rfl) hN ?hy61 ?rest61
      case hy61 =>
        intro X hX
        go_simp
        try rfl
      simp only [Act.put, List.setIfInBounds_toArray, List.set_cons_zero, List.set_cons_succ]
      refine' hw_take 15 (some 26) _ rfl rfl (by kernel_rfl) (by kernel_rfl) (by kernel_rfl) (fun _ _ _ h => h) (by rfl) hN ?hy62 ?rest62
      case hy62 =>
        intro X hX
        go_simp
        try rfl
      simp only [Act.put, List.setIfInBounds_toArray, List.set_cons_zero, List.set_cons_succ]
      refine' hw_take 16 (some 27) _ rfl rfl (by kernel_rfl) (by kernel_rfl) (by kernel_rfl) (fun _ _ _ h => h) (by rfl) hN ?hy63 ?rest63
      case hy63 =>
        intro X hX
        go_simp
        try rfl
      simp only [Act.put, List.setIfInBounds_toArray, List.set_cons_zero, List.set_cons_succ]
      refine' hw_take 17 (some 28) _ rfl rfl (by kernel_rfl) (by kernel_rfl) (by kernel_rfl) (fun _ _ _ h => h) (by rfl) hN ?hy64 ?rest64
      case hy64 =>
        intro X hX
        go_simp
        try rfl
      simp only [Act.put, List.setIfInBounds_toArray, List.set_cons_zero, List.set_cons_succ]
      refine' hw_take 18 (some 29) _ rfl rfl (by kernel_rfl) (by kernel_rfl) (by kernel_rfl) (fun _ _ _ h => h) (by rfl) hN ?hy65 ?rest65
      case hy65 =>
        intro X hX
        have q5X := (hX.below.cell (World.block_lt_of_cell? _ _ q5)).trans q5
        go_simp
        try rfl
      simp only [Act.put, List.setIfInBounds_toArray, List.set_cons_zero, List.set_cons_succ]
      refine' hw_take 19 (some 30) _ rfl rfl (by kernel_rfl) (by kernel_rfl) (by kernel_rfl) (fun _ _ _ h => h) (by rfl) hN ?hy66 ?rest66
      case hy66 =>
        intro X hX
        go_simp
        try rfl
      simp only [Act.put, List.setIfInBounds_toArray, List.set_cons_zero, List.set_cons_succ]
      refine' hw_take 20 (some 31) _ rfl rfl (by kernel_rfl) (by kernel_rfl) (by kernel_rfl) (fun _ _ _ h => h) (by rfl) hN ?hy67 ?rest67
      case hy67 =>
        intro X hX
        go_simp
        try rfl
      simp only [Act.put, List.setIfInBounds_toArray, List.set_cons_zero, List.set_cons_succ]
      refine' hw_take 21 (some 32) _ rfl rfl (by kernel_rfl) (by kernel_rfl) (by kernel_rfl) (fun _ _ _ h => h) (by rfl) hN ?hy68 ?rest68
      case hy68 =>
        intro X hX
        go_simp
        try rfl
      simp only [Act.put, List.setIfInBounds_toArray, List.set_cons_zero, List.set_cons_succ]
      refine' hw_take 22 (some 33) _ rfl rfl (by kernel_rfl) (by kernel_rfl) (by kernel_rfl) (fun _ _ _ h => h) (by rfl) hN ?hy69 ?rest69
      case hy69 =>
        intro X hX
        have q8X := (hX.below.cell (World.block_lt_of_cell? _ _ q8)).trans q8
        go_simp
        try rfl
      simp only [Act.put, List.setIfInBounds_toArray, List.set_cons_zero, List.set_cons_succ]
      refine wpAnyH_ready (rs := [4, 7]) (by kernel_rfl) (by simp) (hw_step 4 (some 15) rfl rfl (by rfl) (fun K hK => ?t97) (hw_step 7 (some 18) rfl rfl (by rfl) (fun K hK => ?t98) (by intro j hj; cases hj)))
      case t97 =>
        go_simp
        have al := (New.refl c0).alloc (.cells #[.int .i64 id] 2)
        have bI0 := Blk.mk c0 c0.heap.size 2 #[.int .i64 id] rfl
        replace hN := hN.trans al
        have bI := bI0
        clear bI0
        refine hK.out _ _ hN (fun _ => ?_)
        simp only [Act.put, List.setIfInBounds_toArray, List.set_cons_zero, List.set_cons_succ]
        generalize c0.alloc (.cells #[.int .i64 id] 2) = c107 at *
        clear al
        refine wpAnyH_ready (rs := [5, 7]) (by kernel_rfl) (by simp) (hw_step 5 (some 16) rfl rfl (by rfl) (fun K hK => ?t108) (hw_step 7 (some 18) rfl rfl (by rfl) (fun K hK => ?t109) (by intro j hj; cases hj)))
        case t108 =>
          go_simp
          refine (wordNum [110, 111, 100, 101] (some ⟨c0.heap.size, 0, none⟩) 1 1 [id] c107 (nsAt_blk bI (by intro i z hz; match i, hz with | 0, hz => simpa using hz) (by intro z hz; obtain rfl := List.mem_singleton.1 hz; unfold In6; omega)) rfl (by omega) (by intro z hz; obtain rfl := List.mem_singleton.1 hz; omega) (ht.new hN)).mono ?_
          rintro e c117 ⟨g1, k1, rfl, own1, al⟩
          clear bI
          replace hN := hN.trans al
          refine hK.out _ _ hN (fun _ => ?_)
          simp only [Act.put, List.setIfInBounds_toArray, List.set_cons_zero, List.set_cons_succ]
          clear al
          refine wpAnyH_ready (rs := [7, 14]) (by kernel_rfl) (by simp) (hw_step 7 (some 18) rfl rfl (by rfl) (fun K hK => ?t118) (hw_step 14 (some 25) rfl rfl (by rfl) (fun K hK => ?t119) (by intro j hj; cases hj)))
          case t119 =>
            go_simp
            refine (cntN G O x m d c117 ((hN.below.cell (World.block_lt_of_cell? _ _ q4)).trans q4)).mono ?_
            rintro e c126 ⟨rfl, hEq⟩
            rw [hEq]
            clear hEq
            refine hK.out _ _ hN (fun _ => ?_)
            simp only [Act.put, List.setIfInBounds_toArray, List.set_cons_zero, List.set_cons_succ]
            refine wpAnyH_ready (rs := [7, 23]) (by kernel_rfl) (by simp) (hw_step 7 (some 18) rfl rfl (by rfl) (fun K hK => ?t127) (hw_step 23 (some 34) rfl rfl (by rfl) (fun K hK => ?t128) (by intro j hj; cases hj)))
            case t128 =>
              go_simp
              have al := (New.refl c117).alloc (.cells #[.int .i64 ep, .int .i64 m, .int .i64 su, .int .i64 co] 2)
              have b40 := Blk.mk c117 c117.heap.size 2 #[.int .i64 ep, .int .i64 m, .int .i64 su, .int .i64 co] rfl
              have own1 := own_newS own1 al
              replace hN := hN.trans al
              have b4 := b40
              clear b40
              refine hK.out _ _ hN (fun _ => ?_)
              simp only [Act.put, List.setIfInBounds_toArray, List.set_cons_zero, List.set_cons_succ]
              generalize c117.alloc (.cells #[.int .i64 ep, .int .i64 m, .int .i64 su, .int .i64 co] 2) = c134 at *
              clear al
              refine wpAnyH_ready (rs := [7, 24]) (by kernel_rfl) (by simp) (hw_step 7 (some 18) rfl rfl (by rfl) (fun K hK => ?t135) (hw_step 24 (some 35) rfl rfl (by rfl) (fun K hK => ?t136) (by intro j hj; cases hj)))
              case t136 =>
                go_simp
                refine (wordNum [115, 116, 97, 110, 100, 98, 121] (some ⟨c117.heap.size, 0, none⟩) 4 4 [ep, m, su, co] c134 (nsAt_blk b4 (by intro i z hz; match i, hz with | 0, hz => simpa using hz | 1, hz => simpa using hz | 2, hz => simpa using hz | 3, hz => simpa using hz) (by intro z hz; simp only [List.mem_cons, List.not_mem_nil, or_false] at hz; unfold In6; omega)) rfl (by omega) (by intro z hz; simp only [List.mem_cons, List.not_mem_nil, or_false] at hz; omega) (ht.new hN)).mono ?_
                rintro e c141 ⟨g2, k2, rfl, own2, al⟩
                clear b4
                have own1 := own_newS own1 al
                replace hN := hN.trans al
                refine hK.out _ _ hN (fun _ => ?_)
                simp only [Act.put, List.setIfInBounds_toArray, List.set_cons_zero, List.set_cons_succ]
                clear al
                refine hw_call 7 (some 18) rfl rfl (by kernel_rfl) (by rfl) (fun K hK => ?_)
                go_simp
                have al := (New.refl c141).alloc (.cells #[.string ⟨([117, 112] : List UInt8).toArray⟩] 9)
                have b70 := Blk.mk c141 c141.heap.size 9 #[.string ⟨([117, 112] : List UInt8).toArray⟩] rfl
                have own1 := own_newS own1 al
                have own2 := own_newS own2 al
                replace hN := hN.trans al
                have b7 := b70
                clear b70
                refine hK.out _ _ hN (fun _ => ?_)
                simp only [Act.put, List.setIfInBounds_toArray, List.set_cons_zero, List.set_cons_succ]
                generalize c141.alloc (.cells #[.string ⟨([117, 112] : List UInt8).toArray⟩] 9) = c142 at *
                clear al
                refine hw_call 25 (some 36) rfl rfl (by kernel_rfl) (by rfl) (fun K hK => ?_)
                go_simp
                have al := (New.refl c142).alloc (.cells #[.slice (some ⟨g1, 0, none⟩) 2 k1, .slice (some ⟨c141.heap.size, 0, none⟩) 1 1, .slice (some ⟨g2, 0, none⟩) 5 k2] 71)
                have bS := Blk.mk c142 c142.heap.size 71 #[.slice (some ⟨g1, 0, none⟩) 2 k1, .slice (some ⟨c141.heap.size, 0, none⟩) 1 1, .slice (some ⟨g2, 0, none⟩) 5 k2] rfl
                have own1 := own_newS own1 al
                have b7 := b7.new al
                have own2 := own_newS own2 al
                replace hN := hN.trans al
                refine hK.out _ _ hN (fun _ => ?_)
                simp only [Act.put, List.setIfInBounds_toArray, List.set_cons_zero, List.set_cons_succ]
                generalize c142.alloc (.cells #[.slice (some ⟨g1, 0, none⟩) 2 k1, .slice (some ⟨c141.heap.size, 0, none⟩) 1 1, .slice (some ⟨g2, 0, none⟩) 5 k2] 71) = c143 at *
                clear al
                refine hw_call 26 (some 37) rfl rfl (by kernel_rfl) (by rfl) (fun K hK => ?_)
                go_simp
                refine (concat3S c142.heap.size _ _ _ _ _ _ _ _ _ (strV [[110, 111, 100, 101], dg id]) [.string ⟨([117, 112] : List UInt8).toArray⟩] (strV ([115, 116, 97, 110, 100, 98, 121] :: [ep, (m : Int), su, co].map dg)) c143 (bS.cells 0) (bS.cells 1) (bS.cells 2) (rowS own1) rfl (strV_one _) (by intro e; cases e) (by omega) (blkS b7) rfl (by intro u hu; obtain rfl := List.mem_singleton.1 hu; rfl) (by intro e; cases e) (by omega) (rowS own2) rfl (strV_one _) (by intro e; cases e) (by omega)).mono ?_
                rintro e c144 ⟨v, rfl, hv, al⟩
                have hNz := hN.size
                replace hN := hN.trans al
                refine hK.out _ _ hN (fun _ => ?_)
                simp only [Act.put, List.setIfInBounds_toArray, List.set_cons_zero, List.set_cons_succ]
                refine' hw_take 27 (some 2) _ rfl rfl (by kernel_rfl) (by kernel_rfl) (by kernel_rfl) (fun _ _ _ h => h) (by rfl) hN ?hy75 ?rest75
                case hy75 =>
                  intro X hX
                  go_simp
                  try rfl
                simp only [Act.put, List.setIfInBounds_toArray, List.set_cons_zero, List.set_cons_succ]
                refine wpAnyH_done (by kernel_rfl) ?_ _
                clear own1 own2 b7 bS al
                go_wp2
                go_ret
                exact ⟨v, rfl, own_lowS hv hNz, hN⟩
              case t135 =>
                go_simp
                have al := (New.refl c134).alloc (.cells #[.string ⟨([117, 112] : List UInt8).toArray⟩] 9)
                have b70 := Blk.mk c134 c134.heap.size 9 #[.string ⟨([117, 112] : List UInt8).toArray⟩] rfl
                have own1 := own_newS own1 al
                have b4 := b4.new al
                replace hN := hN.trans al
                have b7 := b70
                clear b70
                refine hK.out _ _ hN (fun _ => ?_)
                simp only [Act.put, List.setIfInBounds_toArray, List.set_cons_zero, List.set_cons_succ]
                generalize c134.alloc (.cells #[.string ⟨([117, 112] : List UInt8).toArray⟩] 9) = c137 at *
                clear al
                refine hw_call 24 (some 35) rfl rfl (by kernel_rfl) (by rfl) (fun K hK => ?_)
                go_simp
                refine (wordNum [115, 116, 97, 110, 100, 98, 121] (some ⟨c117.heap.size, 0, none⟩) 4 4 [ep, m, su, co] c137 (nsAt_blk b4 (by intro i z hz; match i, hz with | 0, hz => simpa using hz | 1, hz => simpa using hz | 2, hz => simpa using hz | 3, hz => simpa using hz) (by intro z hz; simp only [List.mem_cons, List.not_mem_nil, or_false] at hz; unfold In6; omega)) rfl (by omega) (by intro z hz; simp only [List.mem_cons, List.not_mem_nil, or_false] at hz; omega) (ht.new hN)).mono ?_
                rintro e c138 ⟨g2, k2, rfl, own2, al⟩
                clear b4
                have own1 := own_newS own1 al
                have b7 := b7.new al
                replace hN := hN.trans al
                refine hK.out _ _ hN (fun _ => ?_)
                simp only [Act.put, List.setIfInBounds_toArray, List.set_cons_zero, List.set_cons_succ]
                clear al
                refine hw_call 25 (some 36) rfl rfl (by kernel_rfl) (by rfl) (fun K hK => ?_)
                go_simp
                have al := (New.refl c138).alloc (.cells #[.slice (some ⟨g1, 0, none⟩) 2 k1, .slice (some ⟨c134.heap.size, 0, none⟩) 1 1, .slice (some ⟨g2, 0, none⟩) 5 k2] 71)
                have bS := Blk.mk c138 c138.heap.size 71 #[.slice (some ⟨g1, 0, none⟩) 2 k1, .slice (some ⟨c134.heap.size, 0, none⟩) 1 1, .slice (some ⟨g2, 0, none⟩) 5 k2] rfl
                have own1 := own_newS own1 al
                have b7 := b7.new al
                have own2 := own_newS own2 al
                replace hN := hN.trans al
                refine hK.out _ _ hN (fun _ => ?_)
                simp only [Act.put, List.setIfInBounds_toArray, List.set_cons_zero, List.set_cons_succ]
                generalize c138.alloc (.cells #[.slice (some ⟨g1, 0, none⟩) 2 k1, .slice (some ⟨c134.heap.size, 0, none⟩) 1 1, .slice (some ⟨g2, 0, none⟩) 5 k2] 71) = c139 at *
                clear al
                refine hw_call 26 (some 37) rfl rfl (by kernel_rfl) (by rfl) (fun K hK => ?_)
                go_simp
                refine (concat3S c138.heap.size _ _ _ _ _ _ _ _ _ (strV [[110, 111, 100, 101], dg id]) [.string ⟨([117, 112] : List UInt8).toArray⟩] (strV ([115, 116, 97, 110, 100, 98, 121] :: [ep, (m : Int), su, co].map dg)) c139 (bS.cells 0) (bS.cells 1) (bS.cells 2) (rowS own1) rfl (strV_one _) (by intro e; cases e) (by omega) (blkS b7) rfl (by intro u hu; obtain rfl := List.mem_singleton.1 hu; rfl) (by intro e; cases e) (by omega) (rowS own2) rfl (strV_one _) (by intro e; cases e) (by omega)).mono ?_
                rintro e c140 ⟨v, rfl, hv, al⟩
                have hNz := hN.size
                replace hN := hN.trans al
                refine hK.out _ _ hN (fun _ => ?_)
                simp only [Act.put, List.setIfInBounds_toArray, List.set_cons_zero, List.set_cons_succ]
                refine' hw_take 27 (some 2) _ rfl rfl (by kernel_rfl) (by kernel_rfl) (by kernel_rfl) (fun _ _ _ h => h) (by rfl) hN ?hy74 ?rest74
                case hy74 =>
                  intro X hX
                  go_simp
                  try rfl
                simp only [Act.put, List.setIfInBounds_toArray, List.set_cons_zero, List.set_cons_succ]
                refine wpAnyH_done (by kernel_rfl) ?_ _
                clear own1 own2 b7 bS al
                go_wp2
                go_ret
                exact ⟨v, rfl, own_lowS hv hNz, hN⟩
            case t127 =>
              go_simp
              have al := (New.refl c117).alloc (.cells #[.string ⟨([117, 112] : List UInt8).toArray⟩] 9)
              have b70 := Blk.mk c117 c117.heap.size 9 #[.string ⟨([117, 112] : List UInt8).toArray⟩] rfl
              have own1 := own_newS own1 al
              replace hN := hN.trans al
              have b7 := b70
              clear b70
              refine hK.out _ _ hN (fun _ => ?_)
              simp only [Act.put, List.setIfInBounds_toArray, List.set_cons_zero, List.set_cons_succ]
              generalize c117.alloc (.cells #[.string ⟨([117, 112] : List UInt8).toArray⟩] 9) = c129 at *
              clear al
              refine hw_call 23 (some 34) rfl rfl (by kernel_rfl) (by rfl) (fun K hK => ?_)
              go_simp
              have al := (New.refl c129).alloc (.cells #[.int .i64 ep, .int .i64 m, .int .i64 su, .int .i64 co] 2)
              have b40 := Blk.mk c129 c129.heap.size 2 #[.int .i64 ep, .int .i64 m, .int .i64 su, .int .i64 co] rfl
              have own1 := own_newS own1 al
              have b7 := b7.new al
              replace hN := hN.trans al
              have b4 := b40
              clear b40
              refine hK.out _ _ hN (fun _ => ?_)
              simp only [Act.put, List.setIfInBounds_toArray, List.set_cons_zero, List.set_cons_succ]
              generalize c129.alloc (.cells #[.int .i64 ep, .int .i64 m, .int .i64 su, .int .i64 co] 2) = c130 at *
              clear al
              refine hw_call 24 (some 35) rfl rfl (by kernel_rfl) (by rfl) (fun K hK => ?_)
              go_simp
              refine (wordNum [115, 116, 97, 110, 100, 98, 121] (some ⟨c129.heap.size, 0, none⟩) 4 4 [ep, m, su, co] c130 (nsAt_blk b4 (by intro i z hz; match i, hz with | 0, hz => simpa using hz | 1, hz => simpa using hz | 2, hz => simpa using hz | 3, hz => simpa using hz) (by intro z hz; simp only [List.mem_cons, List.not_mem_nil, or_false] at hz; unfold In6; omega)) rfl (by omega) (by intro z hz; simp only [List.mem_cons, List.not_mem_nil, or_false] at hz; omega) (ht.new hN)).mono ?_
              rintro e c131 ⟨g2, k2, rfl, own2, al⟩
              clear b4
              have own1 := own_newS own1 al
              have b7 := b7.new al
              replace hN := hN.trans al
              refine hK.out _ _ hN (fun _ => ?_)
              simp only [Act.put, List.setIfInBounds_toArray, List.set_cons_zero, List.set_cons_succ]
              clear al
              refine hw_call 25 (some 36) rfl rfl (by kernel_rfl) (by rfl) (fun K hK => ?_)
              go_simp
              have al := (New.refl c131).alloc (.cells #[.slice (some ⟨g1, 0, none⟩) 2 k1, .slice (some ⟨c117.heap.size, 0, none⟩) 1 1, .slice (some ⟨g2, 0, none⟩) 5 k2] 71)
              have bS := Blk.mk c131 c131.heap.size 71 #[.slice (some ⟨g1, 0, none⟩) 2 k1, .slice (some ⟨c117.heap.size, 0, none⟩) 1 1, .slice (some ⟨g2, 0, none⟩) 5 k2] rfl
              have own1 := own_newS own1 al
              have b7 := b7.new al
              have own2 := own_newS own2 al
              replace hN := hN.trans al
              refine hK.out _ _ hN (fun _ => ?_)
              simp only [Act.put, List.setIfInBounds_toArray, List.set_cons_zero, List.set_cons_succ]
              generalize c131.alloc (.cells #[.slice (some ⟨g1, 0, none⟩) 2 k1, .slice (some ⟨c117.heap.size, 0, none⟩) 1 1, .slice (some ⟨g2, 0, none⟩) 5 k2] 71) = c132 at *
              clear al
              refine hw_call 26 (some 37) rfl rfl (by kernel_rfl) (by rfl) (fun K hK => ?_)
              go_simp
              refine (concat3S c131.heap.size _ _ _ _ _ _ _ _ _ (strV [[110, 111, 100, 101], dg id]) [.string ⟨([117, 112] : List UInt8).toArray⟩] (strV ([115, 116, 97, 110, 100, 98, 121] :: [ep, (m : Int), su, co].map dg)) c132 (bS.cells 0) (bS.cells 1) (bS.cells 2) (rowS own1) rfl (strV_one _) (by intro e; cases e) (by omega) (blkS b7) rfl (by intro u hu; obtain rfl := List.mem_singleton.1 hu; rfl) (by intro e; cases e) (by omega) (rowS own2) rfl (strV_one _) (by intro e; cases e) (by omega)).mono ?_
              rintro e c133 ⟨v, rfl, hv, al⟩
              have hNz := hN.size
              replace hN := hN.trans al
              refine hK.out _ _ hN (fun _ => ?_)
              simp only [Act.put, List.setIfInBounds_toArray, List.set_cons_zero, List.set_cons_succ]
              refine' hw_take 27 (some 2) _ rfl rfl (by kernel_rfl) (by kernel_rfl) (by kernel_rfl) (fun _ _ _ h => h) (by rfl) hN ?hy73 ?rest73
              case hy73 =>
                intro X hX
                go_simp
                try rfl
              simp only [Act.put, List.setIfInBounds_toArray, List.set_cons_zero, List.set_cons_succ]
              refine wpAnyH_done (by kernel_rfl) ?_ _
              clear own1 own2 b7 bS al
              go_wp2
              go_ret
              exact ⟨v, rfl, own_lowS hv hNz, hN⟩
          case t118 =>
            go_simp
            have al := (New.refl c117).alloc (.cells #[.string ⟨([117, 112] : List UInt8).toArray⟩] 9)
            have b70 := Blk.mk c117 c117.heap.size 9 #[.string ⟨([117, 112] : List UInt8).toArray⟩] rfl
            have own1 := own_newS own1 al
            replace hN := hN.trans al
            have b7 := b70
            clear b70
            refine hK.out _ _ hN (fun _ => ?_)
            simp only [Act.put, List.setIfInBounds_toArray, List.set_cons_zero, List.set_cons_succ]
            generalize c117.alloc (.cells #[.string ⟨([117, 112] : List UInt8).toArray⟩] 9) = c120 at *
            clear al
            refine hw_call 14 (some 25) rfl rfl (by kernel_rfl) (by rfl) (fun K hK => ?_)
            go_simp
            refine (cntN G O x m d c120 ((hN.below.cell (World.block_lt_of_cell? _ _ q4)).trans q4)).mono ?_
            rintro e c121 ⟨rfl, hEq⟩
            rw [hEq]
            clear hEq
            refine hK.out _ _ hN (fun _ => ?_)
            simp only [Act.put, List.setIfInBounds_toArray, List.set_cons_zero, List.set_cons_succ]
            refine hw_call 23 (some 34) rfl rfl (by kernel_rfl) (by rfl) (fun K hK => ?_)
            go_simp
            have al := (New.refl c120).alloc (.cells #[.int .i64 ep, .int .i64 m, .int .i64 su, .int .i64 co] 2)
            have b40 := Blk.mk c120 c120.heap.size 2 #[.int .i64 ep, .int .i64 m, .int .i64 su, .int .i64 co] rfl
            have own1 := own_newS own1 al
            have b7 := b7.new al
            replace hN := hN.trans al
            have b4 := b40
            clear b40
            refine hK.out _ _ hN (fun _ => ?_)
            simp only [Act.put, List.setIfInBounds_toArray, List.set_cons_zero, List.set_cons_succ]
            generalize c120.alloc (.cells #[.int .i64 ep, .int .i64 m, .int .i64 su, .int .i64 co] 2) = c122 at *
            clear al
            refine hw_call 24 (some 35) rfl rfl (by kernel_rfl) (by rfl) (fun K hK => ?_)
            go_simp
            refine (wordNum [115, 116, 97, 110, 100, 98, 121] (some ⟨c120.heap.size, 0, none⟩) 4 4 [ep, m, su, co] c122 (nsAt_blk b4 (by intro i z hz; match i, hz with | 0, hz => simpa using hz | 1, hz => simpa using hz | 2, hz => simpa using hz | 3, hz => simpa using hz) (by intro z hz; simp only [List.mem_cons, List.not_mem_nil, or_false] at hz; unfold In6; omega)) rfl (by omega) (by intro z hz; simp only [List.mem_cons, List.not_mem_nil, or_false] at hz; omega) (ht.new hN)).mono ?_
            rintro e c123 ⟨g2, k2, rfl, own2, al⟩
            clear b4
            have own1 := own_newS own1 al
            have b7 := b7.new al
            replace hN := hN.trans al
            refine hK.out _ _ hN (fun _ => ?_)
            simp only [Act.put, List.setIfInBounds_toArray, List.set_cons_zero, List.set_cons_succ]
            clear al
            refine hw_call 25 (some 36) rfl rfl (by kernel_rfl) (by rfl) (fun K hK => ?_)
            go_simp
            have al := (New.refl c123).alloc (.cells #[.slice (some ⟨g1, 0, none⟩) 2 k1, .slice (some ⟨c117.heap.size, 0, none⟩) 1 1, .slice (some ⟨g2, 0, none⟩) 5 k2] 71)
            have bS := Blk.mk c123 c123.heap.size 71 #[.slice (some ⟨g1, 0, none⟩) 2 k1, .slice (some ⟨c117.heap.size, 0, none⟩) 1 1, .slice (some ⟨g2, 0, none⟩) 5 k2] rfl
            have own1 := own_newS own1 al
            have b7 := b7.new al
            have own2 := own_newS own2 al
            replace hN := hN.trans al
            refine hK.out _ _ hN (fun _ => ?_)
            simp only [Act.put, List.setIfInBounds_toArray, List.set_cons_zero, List.set_cons_succ]
            generalize c123.alloc (.cells #[.slice (some ⟨g1, 0, none⟩) 2 k1, .slice (some ⟨c117.heap.size, 0, none⟩) 1 1, .slice (some ⟨g2, 0, none⟩) 5 k2] 71) = c124 at *
            clear al
            refine hw_call 26 (some 37) rfl rfl (by kernel_rfl) (by rfl) (fun K hK => ?_)
            go_simp
            refine (concat3S c123.heap.size _ _ _ _ _ _ _ _ _ (strV [[110, 111, 100, 101], dg id]) [.string ⟨([117, 112] : List UInt8).toArray⟩] (strV ([115, 116, 97, 110, 100, 98, 121] :: [ep, (m : Int), su, co].map dg)) c124 (bS.cells 0) (bS.cells 1) (bS.cells 2) (rowS own1) rfl (strV_one _) (by intro e; cases e) (by omega) (blkS b7) rfl (by intro u hu; obtain rfl := List.mem_singleton.1 hu; rfl) (by intro e; cases e) (by omega) (rowS own2) rfl (strV_one _) (by intro e; cases e) (by omega)).mono ?_
            rintro e c125 ⟨v, rfl, hv, al⟩
            have hNz := hN.size
            replace hN := hN.trans al
            refine hK.out _ _ hN (fun _ => ?_)
            simp only [Act.put, List.setIfInBounds_toArray, List.set_cons_zero, List.set_cons_succ]
            refine' hw_take 27 (some 2) _ rfl rfl (by kernel_rfl) (by kernel_rfl) (by kernel_rfl) (fun _ _ _ h => h) (by rfl) hN ?hy72 ?rest72
            case hy72 =>
              intro X hX
              go_simp
              try rfl
            simp only [Act.put, List.setIfInBounds_toArray, List.set_cons_zero, List.set_cons_succ]
            refine wpAnyH_done (by kernel_rfl) ?_ _
            clear own1 own2 b7 bS al
            go_wp2
            go_ret
            exact ⟨v, rfl, own_lowS hv hNz, hN⟩
        case t109 =>
          go_simp
          have al := (New.refl c107).alloc (.cells #[.string ⟨([117, 112] : List UInt8).toArray⟩] 9)
          have b70 := Blk.mk c107 c107.heap.size 9 #[.string ⟨([117, 112] : List UInt8).toArray⟩] rfl
          have bI := bI.new al
          replace hN := hN.trans al
          have b7 := b70
          clear b70
          refine hK.out _ _ hN (fun _ => ?_)
          simp only [Act.put, List.setIfInBounds_toArray, List.set_cons_zero, List.set_cons_succ]
          generalize c107.alloc (.cells #[.string ⟨([117, 112] : List UInt8).toArray⟩] 9) = c110 at *
          clear al
          refine hw_call 5 (some 16) rfl rfl (by kernel_rfl) (by rfl) (fun K hK => ?_)
          go_simp
          refine (wordNum [110, 111, 100, 101] (some ⟨c0.heap.size, 0, none⟩) 1 1 [id] c110 (nsAt_blk bI (by intro i z hz; match i, hz with | 0, hz => simpa using hz) (by intro z hz; obtain rfl := List.mem_singleton.1 hz; unfold In6; omega)) rfl (by omega) (by intro z hz; obtain rfl := List.mem_singleton.1 hz; omega) (ht.new hN)).mono ?_
          rintro e c111 ⟨g1, k1, rfl, own1, al⟩
          clear bI
          have b7 := b7.new al
          replace hN := hN.trans al
          refine hK.out _ _ hN (fun _ => ?_)
          simp only [Act.put, List.setIfInBounds_toArray, List.set_cons_zero, List.set_cons_succ]
          clear al
          refine hw_call 14 (some 25) rfl rfl (by kernel_rfl) (by rfl) (fun K hK => ?_)
          go_simp
          refine (cntN G O x m d c111 ((hN.below.cell (World.block_lt_of_cell? _ _ q4)).trans q4)).mono ?_
          rintro e c112 ⟨rfl, hEq⟩
          rw [hEq]
          clear hEq
          refine hK.out _ _ hN (fun _ => ?_)
          simp only [Act.put, List.setIfInBounds_toArray, List.set_cons_zero, List.set_cons_succ]
          refine hw_call 23 (some 34) rfl rfl (by kernel_rfl) (by rfl) (fun K hK => ?_)
          go_simp
          have al := (New.refl c111).alloc (.cells #[.int .i64 ep, .int .i64 m, .int .i64 su, .int .i64 co] 2)
          have b40 := Blk.mk c111 c111.heap.size 2 #[.int .i64 ep, .int .i64 m, .int .i64 su, .int .i64 co] rfl
          have own1 := own_newS own1 al
          have b7 := b7.new al
          replace hN := hN.trans al
          have b4 := b40
          clear b40
          refine hK.out _ _ hN (fun _ => ?_)
          simp only [Act.put, List.setIfInBounds_toArray, List.set_cons_zero, List.set_cons_succ]
          generalize c111.alloc (.cells #[.int .i64 ep, .int .i64 m, .int .i64 su, .int .i64 co] 2) = c113 at *
          clear al
          refine hw_call 24 (some 35) rfl rfl (by kernel_rfl) (by rfl) (fun K hK => ?_)
          go_simp
          refine (wordNum [115, 116, 97, 110, 100, 98, 121] (some ⟨c111.heap.size, 0, none⟩) 4 4 [ep, m, su, co] c113 (nsAt_blk b4 (by intro i z hz; match i, hz with | 0, hz => simpa using hz | 1, hz => simpa using hz | 2, hz => simpa using hz | 3, hz => simpa using hz) (by intro z hz; simp only [List.mem_cons, List.not_mem_nil, or_false] at hz; unfold In6; omega)) rfl (by omega) (by intro z hz; simp only [List.mem_cons, List.not_mem_nil, or_false] at hz; omega) (ht.new hN)).mono ?_
          rintro e c114 ⟨g2, k2, rfl, own2, al⟩
          clear b4
          have own1 := own_newS own1 al
          have b7 := b7.new al
          replace hN := hN.trans al
          refine hK.out _ _ hN (fun _ => ?_)
          simp only [Act.put, List.setIfInBounds_toArray, List.set_cons_zero, List.set_cons_succ]
          clear al
          refine hw_call 25 (some 36) rfl rfl (by kernel_rfl) (by rfl) (fun K hK => ?_)
          go_simp
          have al := (New.refl c114).alloc (.cells #[.slice (some ⟨g1, 0, none⟩) 2 k1, .slice (some ⟨c107.heap.size, 0, none⟩) 1 1, .slice (some ⟨g2, 0, none⟩) 5 k2] 71)
          have bS := Blk.mk c114 c114.heap.size 71 #[.slice (some ⟨g1, 0, none⟩) 2 k1, .slice (some ⟨c107.heap.size, 0, none⟩) 1 1, .slice (some ⟨g2, 0, none⟩) 5 k2] rfl
          have own1 := own_newS own1 al
          have b7 := b7.new al
          have own2 := own_newS own2 al
          replace hN := hN.trans al
          refine hK.out _ _ hN (fun _ => ?_)
          simp only [Act.put, List.setIfInBounds_toArray, List.set_cons_zero, List.set_cons_succ]
          generalize c114.alloc (.cells #[.slice (some ⟨g1, 0, none⟩) 2 k1, .slice (some ⟨c107.heap.size, 0, none⟩) 1 1, .slice (some ⟨g2, 0, none⟩) 5 k2] 71) = c115 at *
          clear al
          refine hw_call 26 (some 37) rfl rfl (by kernel_rfl) (by rfl) (fun K hK => ?_)
          go_simp
          refine (concat3S c114.heap.size _ _ _ _ _ _ _ _ _ (strV [[110, 111, 100, 101], dg id]) [.string ⟨([117, 112] : List UInt8).toArray⟩] (strV ([115, 116, 97, 110, 100, 98, 121] :: [ep, (m : Int), su, co].map dg)) c115 (bS.cells 0) (bS.cells 1) (bS.cells 2) (rowS own1) rfl (strV_one _) (by intro e; cases e) (by omega) (blkS b7) rfl (by intro u hu; obtain rfl := List.mem_singleton.1 hu; rfl) (by intro e; cases e) (by omega) (rowS own2) rfl (strV_one _) (by intro e; cases e) (by omega)).mono ?_
          rintro e c116 ⟨v, rfl, hv, al⟩
          have hNz := hN.size
          replace hN := hN.trans al
          refine hK.out _ _ hN (fun _ => ?_)
          simp only [Act.put, List.setIfInBounds_toArray, List.set_cons_zero, List.set_cons_succ]
          refine' hw_take 27 (some 2) _ rfl rfl (by kernel_rfl) (by kernel_rfl) (by kernel_rfl) (fun _ _ _ h => h) (by rfl) hN ?hy71 ?rest71
          case hy71 =>
            intro X hX
            go_simp
            try rfl
          simp only [Act.put, List.setIfInBounds_toArray, List.set_cons_zero, List.set_cons_succ]
          refine wpAnyH_done (by kernel_rfl) ?_ _
          clear own1 own2 b7 bS al
          go_wp2
          go_ret
          exact ⟨v, rfl, own_lowS hv hNz, hN⟩
      case t98 =>
        go_simp
        have al := (New.refl c0).alloc (.cells #[.string ⟨([117, 112] : List UInt8).toArray⟩] 9)
        have b70 := Blk.mk c0 c0.heap.size 9 #[.string ⟨([117, 112] : List UInt8).toArray⟩] rfl
        replace hN := hN.trans al
        have b7 := b70
        clear b70
        refine hK.out _ _ hN (fun _ => ?_)
        simp only [Act.put, List.setIfInBounds_toArray, List.set_cons_zero, List.set_cons_succ]
        generalize c0.alloc (.cells #[.string ⟨([117, 112] : List UInt8).toArray⟩] 9) = c99 at *
        clear al
        refine hw_call 4 (some 15) rfl rfl (by kernel_rfl) (by rfl) (fun K hK => ?_)
        go_simp
        have al := (New.refl c99).alloc (.cells #[.int .i64 id] 2)
        have bI0 := Blk.mk c99 c99.heap.size 2 #[.int .i64 id] rfl
        have b7 := b7.new al
        replace hN := hN.trans al
        have bI := bI0
        clear bI0
        refine hK.out _ _ hN (fun _ => ?_)
        simp only [Act.put, List.setIfInBounds_toArray, List.set_cons_zero, List.set_cons_succ]
        generalize c99.alloc (.cells #[.int .i64 id] 2) = c100 at *
        clear al
        refine hw_call 5 (some 16) rfl rfl (by kernel_rfl) (by rfl) (fun K hK => ?_)
        go_simp
        refine (wordNum [110, 111, 100, 101] (some ⟨c99.heap.size, 0, none⟩) 1 1 [id] c100 (nsAt_blk bI (by intro i z hz; match i, hz with | 0, hz => simpa using hz) (by intro z hz; obtain rfl := List.mem_singleton.1 hz; unfold In6; omega)) rfl (by omega) (by intro z hz; obtain rfl := List.mem_singleton.1 hz; omega) (ht.new hN)).mono ?_
        rintro e c101 ⟨g1, k1, rfl, own1, al⟩
        clear bI
        have b7 := b7.new al
        replace hN := hN.trans al
        refine hK.out _ _ hN (fun _ => ?_)
        simp only [Act.put, List.setIfInBounds_toArray, List.set_cons_zero, List.set_cons_succ]
        clear al
        refine hw_call 14 (some 25) rfl rfl (by kernel_rfl) (by rfl) (fun K hK => ?_)
        go_simp
        refine (cntN G O x m d c101 ((hN.below.cell (World.block_lt_of_cell? _ _ q4)).trans q4)).mono ?_
        rintro e c102 ⟨rfl, hEq⟩
        rw [hEq]
        clear hEq
        refine hK.out _ _ hN (fun _ => ?_)
        simp only [Act.put, List.setIfInBounds_toArray, List.set_cons_zero, List.set_cons_succ]
        refine hw_call 23 (some 34) rfl rfl (by kernel_rfl) (by rfl) (fun K hK => ?_)
        go_simp
        have al := (New.refl c101).alloc (.cells #[.int .i64 ep, .int .i64 m, .int .i64 su, .int .i64 co] 2)
        have b40 := Blk.mk c101 c101.heap.size 2 #[.int .i64 ep, .int .i64 m, .int .i64 su, .int .i64 co] rfl
        have own1 := own_newS own1 al
        have b7 := b7.new al
        replace hN := hN.trans al
        have b4 := b40
        clear b40
        refine hK.out _ _ hN (fun _ => ?_)
        simp only [Act.put, List.setIfInBounds_toArray, List.set_cons_zero, List.set_cons_succ]
        generalize c101.alloc (.cells #[.int .i64 ep, .int .i64 m, .int .i64 su, .int .i64 co] 2) = c103 at *
        clear al
        refine hw_call 24 (some 35) rfl rfl (by kernel_rfl) (by rfl) (fun K hK => ?_)
        go_simp
        refine (wordNum [115, 116, 97, 110, 100, 98, 121] (some ⟨c101.heap.size, 0, none⟩) 4 4 [ep, m, su, co] c103 (nsAt_blk b4 (by intro i z hz; match i, hz with | 0, hz => simpa using hz | 1, hz => simpa using hz | 2, hz => simpa using hz | 3, hz => simpa using hz) (by intro z hz; simp only [List.mem_cons, List.not_mem_nil, or_false] at hz; unfold In6; omega)) rfl (by omega) (by intro z hz; simp only [List.mem_cons, List.not_mem_nil, or_false] at hz; omega) (ht.new hN)).mono ?_
        rintro e c104 ⟨g2, k2, rfl, own2, al⟩
        clear b4
        have own1 := own_newS own1 al
        have b7 := b7.new al
        replace hN := hN.trans al
        refine hK.out _ _ hN (fun _ => ?_)
        simp only [Act.put, List.setIfInBounds_toArray, List.set_cons_zero, List.set_cons_succ]
        clear al
        refine hw_call 25 (some 36) rfl rfl (by kernel_rfl) (by rfl) (fun K hK => ?_)
        go_simp
        have al := (New.refl c104).alloc (.cells #[.slice (some ⟨g1, 0, none⟩) 2 k1, .slice (some ⟨c0.heap.size, 0, none⟩) 1 1, .slice (some ⟨g2, 0, none⟩) 5 k2] 71)
        have bS := Blk.mk c104 c104.heap.size 71 #[.slice (some ⟨g1, 0, none⟩) 2 k1, .slice (some ⟨c0.heap.size, 0, none⟩) 1 1, .slice (some ⟨g2, 0, none⟩) 5 k2] rfl
        have own1 := own_newS own1 al
        have b7 := b7.new al
        have own2 := own_newS own2 al
        replace hN := hN.trans al
        refine hK.out _ _ hN (fun _ => ?_)
        simp only [Act.put, List.setIfInBounds_toArray, List.set_cons_zero, List.set_cons_succ]
        generalize c104.alloc (.cells #[.slice (some ⟨g1, 0, none⟩) 2 k1, .slice (some ⟨c0.heap.size, 0, none⟩) 1 1, .slice (some ⟨g2, 0, none⟩) 5 k2] 71) = c105 at *
        clear al
        refine hw_call 26 (some 37) rfl rfl (by kernel_rfl) (by rfl) (fun K hK => ?_)
        go_simp
        refine (concat3S c104.heap.size _ _ _ _ _ _ _ _ _ (strV [[110, 111, 100, 101], dg id]) [.string ⟨([117, 112] : List UInt8).toArray⟩] (strV ([115, 116, 97, 110, 100, 98, 121] :: [ep, (m : Int), su, co].map dg)) c105 (bS.cells 0) (bS.cells 1) (bS.cells 2) (rowS own1) rfl (strV_one _) (by intro e; cases e) (by omega) (blkS b7) rfl (by intro u hu; obtain rfl := List.mem_singleton.1 hu; rfl) (by intro e; cases e) (by omega) (rowS own2) rfl (strV_one _) (by intro e; cases e) (by omega)).mono ?_
        rintro e c106 ⟨v, rfl, hv, al⟩
        have hNz := hN.size
        replace hN := hN.trans al
        refine hK.out _ _ hN (fun _ => ?_)
        simp only [Act.put, List.setIfInBounds_toArray, List.set_cons_zero, List.set_cons_succ]
        refine' hw_take 27 (some 2) _ rfl rfl (by kernel_rfl) (by kernel_rfl) (by kernel_rfl) (fun _ _ _ h => h) (by rfl) hN ?hy70 ?rest70
        case hy70 =>
          intro X hX
          go_simp
          try rfl
        simp only [Act.put, List.setIfInBounds_toArray, List.set_cons_zero, List.set_cons_succ]
        refine wpAnyH_done (by kernel_rfl) ?_ _
        clear own1 own2 b7 bS al
        go_wp2
        go_ret
        exact ⟨v, rfl, own_lowS hv hNz, hN⟩
  | false =>
    by_cases hro : ro = 1
    · skip
      obtain rfl : ST = [100, 111, 119, 110] := hs
      obtain rfl : RO = [97, 99, 116, 105, 118, 101] := by rw [hr]; simp [hro]
      clear hr
      have hb : (ro == 1) = true := by simp [hro]
      go_enter Tryz.func54, Tryz.ntmps54
      go_wp2_with fail
      refine (actN G O ro _ q2).mono ?_
      rintro e wa ⟨rfl, hEq⟩
      rw [hEq, hb]
      clear hEq
      go_upto_region 6 with fail
      refine hw_start (n := 28) (S := fun X => New w X) rfl (by kernel_rfl) ((New.refl w).drew) (fun hN => ?_)
      have hwz : w.heap.size ≤ w.heap.size := Nat.le_refl _
      generalize w.drew = c0 at *
      refine' hw_take 0 (some 11) _ rfl rfl (by kernel_rfl) (by kernel_rfl) (by kernel_rfl) (fun _ _ _ h => h) (by rfl) hN ?hy76 ?rest76
      case hy76 =>
        intro X hX
        go_simp
        try rfl
      simp only [Act.put, List.setIfInBounds_toArray, List.set_cons_zero, List.set_cons_succ]
      refine' hw_take 1 (some 12) _ rfl rfl (by kernel_rfl) (by kernel_rfl) (by kernel_rfl) (fun _ _ _ h => h) (by rfl) hN ?hy77 ?rest77
      case hy77 =>
        intro X hX
        go_simp
        try rfl
      simp only [Act.put, List.setIfInBounds_toArray, List.set_cons_zero, List.set_cons_succ]
      refine' hw_take 2 (some 13) _ rfl rfl (by kernel_rfl) (by kernel_rfl) (by kernel_rfl) (fun _ _ _ h => h) (by rfl) hN ?hy78 ?rest78
      case hy78 =>
        intro X hX
        go_simp
        try rfl
      simp only [Act.put, List.setIfInBounds_toArray, List.set_cons_zero, List.set_cons_succ]
      refine' hw_take 3 (some 14) _ rfl rfl (by kernel_rfl) (by kernel_rfl) (by kernel_rfl) (fun _ _ _ h => h) (by rfl) hN ?hy79 ?rest79
      case hy79 =>
        intro X hX
        have q0X := (hX.below.cell (World.block_lt_of_cell? _ _ q0)).trans q0
        go_simp
        try rfl
      simp only [Act.put, List.setIfInBounds_toArray, List.set_cons_zero, List.set_cons_succ]
      refine' hw_take 6 (some 17) _ rfl rfl (by kernel_rfl) (by kernel_rfl) (by kernel_rfl) (fun _ _ _ h => h) (by rfl) hN ?hy80 ?rest80
      case hy80 =>
        intro X hX
        go_simp
        try rfl
      simp only [Act.put, List.setIfInBounds_toArray, List.set_cons_zero, List.set_cons_succ]
      refine' hw_take 8 (some 19) _ rfl rfl (by kernel_rfl) (by kernel_rfl) (by kernel_rfl) (fun _ _ _ h => h) (by rfl) hN ?hy81 ?rest81
      case hy81 =>
        intro X hX
        go_simp
        try rfl
      simp only [Act.put, List.setIfInBounds_toArray, List.set_cons_zero, List.set_cons_succ]
      refine' hw_take 9 (some 20) _ rfl rfl (by kernel_rfl) (by kernel_rfl) (by kernel_rfl) (fun _ _ _ h => h) (by rfl) hN ?hy82 ?rest82
      case hy82 =>
        intro X hX
        go_simp
        try rfl
      simp only [Act.put, List.setIfInBounds_toArray, List.set_cons_zero, List.set_cons_succ]
      refine' hw_take 10 (some 21) _ rfl rfl (by kernel_rfl) (by kernel_rfl) (by kernel_rfl) (fun _ _ _ h => h) (by rfl) hN ?hy83 ?rest83
      case hy83 =>
        intro X hX
        go_simp
        try rfl
      simp only [Act.put, List.setIfInBounds_toArray, List.set_cons_zero, List.set_cons_succ]
      refine' hw_take 11 (some 22) _ rfl rfl (by kernel_rfl) (by kernel_rfl) (by kernel_rfl) (fun _ _ _ h => h) (by rfl) hN ?hy84 ?rest84
      case hy84 =>
        intro X hX
        go_simp
        try rfl
      simp only [Act.put, List.setIfInBounds_toArray, List.set_cons_zero, List.set_cons_succ]
      refine' hw_take 12 (some 23) _ rfl rfl (by kernel_rfl) (by kernel_rfl) (by kernel_rfl) (fun _ _ _ h => h) (by rfl) hN ?hy85 ?rest85
      case hy85 =>
        intro X hX
        have q3X := (hX.below.cell (World.block_lt_of_cell? _ _ q3)).trans q3
        go_simp
        try rfl
      simp only [Act.put, List.setIfInBounds_toArray, List.set_cons_zero, List.set_cons_succ]
      refine' hw_take 13 (some 24) _ rfl rfl (by kernel_rfl) (by kernel_rfl) (by kernel_rfl) (fun _ _ _ h => h) (by rfl) hN ?hy86 ?rest86
      case hy86 =>
        intro X hX
        go_simp
        try rfl
      simp only [Act.put, List.setIfInBounds_toArray, List.set_cons_zero, List.set_cons_succ]
      refine' hw_take 15 (some 26) _ rfl rfl (by kernel_rfl) (by kernel_rfl) (by kernel_rfl) (fun _ _ _ h => h) (by rfl) hN ?hy87 ?rest87
      case hy87 =>
        intro X hX
        go_simp
        try rfl
      simp only [Act.put, List.setIfInBounds_toArray, List.set_cons_zero, List.set_cons_succ]
      refine' hw_take 16 (some 27) _ rfl rfl (by kernel_rfl) (by kernel_rfl) (by kernel_rfl) (fun _ _ _ h => h) (by rfl) hN ?hy88 ?rest88
      case hy88 =>
        intro X hX
        go_simp
        try rfl
      simp only [Act.put, List.setIfInBounds_toArray, List.set_cons_zero, List.set_cons_succ]
      refine' hw_take 17 (some 28) _ rfl rfl (by kernel_rfl) (by kernel_rfl) (by kernel_rfl) (fun _ _ _ h => h) (by rfl) hN ?hy89 ?rest89
      case hy89 =>
        intro X hX
        go_simp
        try rfl
      simp only [Act.put, List.setIfInBounds_toArray, List.set_cons_zero, List.set_cons_succ]
      refine' hw_take 18 (some 29) _ rfl rfl (by kernel_rfl) (by kernel_rfl) (by kernel_rfl) (fun _ _ _ h => h) (by rfl) hN ?hy90 ?rest90
      case hy90 =>
        intro X hX
        have q5X := (hX.below.cell (World.block_lt_of_cell? _ _ q5)).trans q5
        go_simp
        try rfl
      simp only [Act.put, List.setIfInBounds_toArray, List.set_cons_zero, List.set_cons_succ]
      refine' hw_take 19 (some 30) _ rfl rfl (by kernel_rfl) (by kernel_rfl) (by kernel_rfl) (fun _ _ _ h => h) (by rfl) hN ?hy91 ?rest91
      case hy91 =>
        intro X hX
        go_simp
        try rfl
      simp only [Act.put, List.setIfInBounds_toArray, List.set_cons_zero, List.set_cons_succ]
      refine' hw_take 20 (some 31) _ rfl rfl (by kernel_rfl) (by kernel_rfl) (by kernel_rfl) (fun _ _ _ h => h) (by rfl) hN ?hy92 ?rest92
      case hy92 =>
        intro X hX
        go_simp
        try rfl
      simp only [Act.put, List.setIfInBounds_toArray, List.set_cons_zero, List.set_cons_succ]
      refine' hw_take 21 (some 32) _ rfl rfl (by kernel_rfl) (by kernel_rfl) (by kernel_rfl) (fun _ _ _ h => h) (by rfl) hN ?hy93 ?rest93
      case hy93 =>
        intro X hX
        go_simp
        try rfl
      simp only [Act.put, List.setIfInBounds_toArray, List.set_cons_zero, List.set_cons_succ]
      refine' hw_take 22 (some 33) _ rfl rfl (by kernel_rfl) (by kernel_rfl) (by kernel_rfl) (fun _ _ _ h => h) (by rfl) hN ?hy94 ?rest94
      case hy94 =>
        intro X hX
        have q8X := (hX.below.cell (World.block_lt_of_cell? _ _ q8)).trans q8
        go_simp
        try rfl
      simp only [Act.put, List.setIfInBounds_toArray, List.set_cons_zero, List.set_cons_succ]
      refine wpAnyH_ready (rs := [4, 7]) (by kernel_rfl) (by simp) (hw_step 4 (some 15) rfl rfl (by rfl) (fun K hK => ?t145) (hw_step 7 (some 18) rfl rfl (by rfl) (fun K hK => ?t146) (by intro j hj; cases hj)))
      case t145 =>
        go_simp
        have al := (New.refl c0).alloc (.cells #[.int .i64 id] 2)
        have bI0 := Blk.mk c0 c0.heap.size 2 #[.int .i64 id] rfl
        replace hN := hN.trans al
        have bI := bI0
        clear bI0
        refine hK.out _ _ hN (fun _ => ?_)
        simp only [Act.put, List.setIfInBounds_toArray, List.set_cons_zero, List.set_cons_succ]
        generalize c0.alloc (.cells #[.int .i64 id] 2) = c155 at *
        clear al
        refine wpAnyH_ready (rs := [5, 7]) (by kernel_rfl) (by simp) (hw_step 5 (some 16) rfl rfl (by rfl) (fun K hK => ?t156) (hw_step 7 (some 18) rfl rfl (by rfl) (fun K hK => ?t157) (by intro j hj; cases hj)))
        case t156 =>
          go_simp
          refine (wordNum [110, 111, 100, 101] (some ⟨c0.heap.size, 0, none⟩) 1 1 [id] c155 (nsAt_blk bI (by intro i z hz; match i, hz with | 0, hz => simpa using hz) (by intro z hz; obtain rfl := List.mem_singleton.1 hz; unfold In6; omega)) rfl (by omega) (by intro z hz; obtain rfl := List.mem_singleton.1 hz; omega) (ht.new hN)).mono ?_
          rintro e c165 ⟨g1, k1, rfl, own1, al⟩
          clear bI
          replace hN := hN.trans al
          refine hK.out _ _ hN (fun _ => ?_)
          simp only [Act.put, List.setIfInBounds_toArray, List.set_cons_zero, List.set_cons_succ]
          clear al
          refine wpAnyH_ready (rs := [7, 14]) (by kernel_rfl) (by simp) (hw_step 7 (some 18) rfl rfl (by rfl) (fun K hK => ?t166) (hw_step 14 (some 25) rfl rfl (by rfl) (fun K hK => ?t167) (by intro j hj; cases hj)))
          case t167 =>
            go_simp
            refine (cntN G O x m d c165 ((hN.below.cell (World.block_lt_of_cell? _ _ q4)).trans q4)).mono ?_
            rintro e c174 ⟨rfl, hEq⟩
            rw [hEq]
            clear hEq
            refine hK.out _ _ hN (fun _ => ?_)
            simp only [Act.put, List.setIfInBounds_toArray, List.set_cons_zero, List.set_cons_succ]
            refine wpAnyH_ready (rs := [7, 23]) (by kernel_rfl) (by simp) (hw_step 7 (some 18) rfl rfl (by rfl) (fun K hK => ?t175) (hw_step 23 (some 34) rfl rfl (by rfl) (fun K hK => ?t176) (by intro j hj; cases hj)))
            case t176 =>
              go_simp
              have al := (New.refl c165).alloc (.cells #[.int .i64 ep, .int .i64 m, .int .i64 su, .int .i64 co] 2)
              have b40 := Blk.mk c165 c165.heap.size 2 #[.int .i64 ep, .int .i64 m, .int .i64 su, .int .i64 co] rfl
              have own1 := own_newS own1 al
              replace hN := hN.trans al
              have b4 := b40
              clear b40
              refine hK.out _ _ hN (fun _ => ?_)
              simp only [Act.put, List.setIfInBounds_toArray, List.set_cons_zero, List.set_cons_succ]
              generalize c165.alloc (.cells #[.int .i64 ep, .int .i64 m, .int .i64 su, .int .i64 co] 2) = c182 at *
              clear al
              refine wpAnyH_ready (rs := [7, 24]) (by kernel_rfl) (by simp) (hw_step 7 (some 18) rfl rfl (by rfl) (fun K hK => ?t183) (hw_step 24 (some 35) rfl rfl (by rfl) (fun K hK => ?t184) (by intro j hj; cases hj)))
              case t184 =>
                go_simp
                refine (wordNum [97, 99, 116, 105, 118, 101] (some ⟨c165.heap.size, 0, none⟩) 4 4 [ep, m, su, co] c182 (nsAt_blk b4 (by intro i z hz; match i, hz with | 0, hz => simpa using hz | 1, hz => simpa using hz | 2, hz => simpa using hz | 3, hz => simpa using hz) (by intro z hz; simp only [List.mem_cons, List.not_mem_nil, or_false] at hz; unfold In6; omega)) rfl (by omega) (by intro z hz; simp only [List.mem_cons, List.not_mem_nil, or_false] at hz; omega) (ht.new hN)).mono ?_
                rintro e c189 ⟨g2, k2, rfl, own2, al⟩
                clear b4
                have own1 := own_newS own1 al
                replace hN := hN.trans al
                refine hK.out _ _ hN (fun _ => ?_)
                simp only [Act.put, List.setIfInBounds_toArray, List.set_cons_zero, List.set_cons_succ]
                clear al
                refine hw_call 7 (some 18) rfl rfl (by kernel_rfl) (by rfl) (fun K hK => ?_)
                go_simp
                have al := (New.refl c189).alloc (.cells #[.string ⟨([100, 111, 119, 110] : List UInt8).toArray⟩] 9)
                have b70 := Blk.mk c189 c189.heap.size 9 #[.string ⟨([100, 111, 119, 110] : List UInt8).toArray⟩] rfl
                have own1 := own_newS own1 al
                have own2 := own_newS own2 al
                replace hN := hN.trans al
                have b7 := b70
                clear b70
                refine hK.out _ _ hN (fun _ => ?_)
                simp only [Act.put, List.setIfInBounds_toArray, List.set_cons_zero, List.set_cons_succ]
                generalize c189.alloc (.cells #[.string ⟨([100, 111, 119, 110] : List UInt8).toArray⟩] 9) = c190 at *
                clear al
                refine hw_call 25 (some 36) rfl rfl (by kernel_rfl) (by rfl) (fun K hK => ?_)
                go_simp
                have al := (New.refl c190).alloc (.cells #[.slice (some ⟨g1, 0, none⟩) 2 k1, .slice (some ⟨c189.heap.size, 0, none⟩) 1 1, .slice (some ⟨g2, 0, none⟩) 5 k2] 71)
                have bS := Blk.mk c190 c190.heap.size 71 #[.slice (some ⟨g1, 0, none⟩) 2 k1, .slice (some ⟨c189.heap.size, 0, none⟩) 1 1, .slice (some ⟨g2, 0, none⟩) 5 k2] rfl
                have own1 := own_newS own1 al
                have b7 := b7.new al
                have own2 := own_newS own2 al
                replace hN := hN.trans al
                refine hK.out _ _ hN (fun _ => ?_)
                simp only [Act.put, List.setIfInBounds_toArray, List.set_cons_zero, List.set_cons_succ]
                generalize c190.alloc (.cells #[.slice (some ⟨g1, 0, none⟩) 2 k1, .slice (some ⟨c189.heap.size, 0, none⟩) 1 1, .slice (some ⟨g2, 0, none⟩) 5 k2] 71) = c191 at *
                clear al
                refine hw_call 26 (some 37) rfl rfl (by kernel_rfl) (by rfl) (fun K hK => ?_)
                go_simp
                refine (concat3S c190.heap.size _ _ _ _ _ _ _ _ _ (strV [[110, 111, 100, 101], dg id]) [.string ⟨([100, 111, 119, 110] : List UInt8).toArray⟩] (strV ([97, 99, 116, 105, 118, 101] :: [ep, (m : Int), su, co].map dg)) c191 (bS.cells 0) (bS.cells 1) (bS.cells 2) (rowS own1) rfl (strV_one _) (by intro e; cases e) (by omega) (blkS b7) rfl (by intro u hu; obtain rfl := List.mem_singleton.1 hu; rfl) (by intro e; cases e) (by omega) (rowS own2) rfl (strV_one _) (by intro e; cases e) (by omega)).mono ?_
                rintro e c192 ⟨v, rfl, hv, al⟩
                have hNz := hN.size
                replace hN := hN.trans al
                refine hK.out _ _ hN (fun _ => ?_)
                simp only [Act.put, List.setIfInBounds_toArray, List.set_cons_zero, List.set_cons_succ]
                refine' hw_take 27 (some 2) _ rfl rfl (by kernel_rfl) (by kernel_rfl) (by kernel_rfl) (fun _ _ _ h => h) (by rfl) hN ?hy100 ?rest100
                case hy100 =>
                  intro X hX
                  go_simp
                  try rfl
                simp only [Act.put, List.setIfInBounds_toArray, List.set_cons_zero, List.set_cons_succ]
                refine wpAnyH_done (by kernel_rfl) ?_ _
                clear own1 own2 b7 bS al
                go_wp2
                go_ret
                exact ⟨v, rfl, own_lowS hv hNz, hN⟩
              case t183 =>
                go_simp
                have al := (New.refl c182).alloc (.cells #[.string ⟨([100, 111, 119, 110] : List UInt8).toArray⟩] 9)
                have b70 := Blk.mk c182 c182.heap.size 9 #[.string ⟨([100, 111, 119, 110] : List UInt8).toArray⟩] rfl
                have own1 := own_newS own1 al
                have b4 := b4.new al
                replace hN := hN.trans al
                have b7 := b70
                clear b70
                refine hK.out _ _ hN (fun _ => ?_)
                simp only [Act.put, List.setIfInBounds_toArray, List.set_cons_zero, List.set_cons_succ]
                generalize c182.alloc (.cells #[.string ⟨([100, 111, 119, 110] : List UInt8).toArray⟩] 9) = c185 at *
                clear al
                refine hw_call 24 (some 35) rfl rfl (by kernel_rfl) (by rfl) (fun K hK => ?_)
                go_simp
                refine (wordNum [97, 99, 116, 105, 118, 101] (some ⟨c165.heap.size, 0, none⟩) 4 4 [ep, m, su, co] c185 (nsAt_blk b4 (by intro i z hz; match i, hz with | 0, hz => simpa using hz | 1, hz => simpa using hz | 2, hz => simpa using hz | 3, hz => simpa using hz) (by intro z hz; simp only [List.mem_cons, List.not_mem_nil, or_false] at hz; unfold In6; omega)) rfl (by omega) (by intro z hz; simp only [List.mem_cons, List.not_mem_nil, or_false] at hz; omega) (ht.new hN)).mono ?_
                rintro e c186 ⟨g2, k2, rfl, own2, al⟩
                clear b4
                have own1 := own_newS own1 al
                have b7 := b7.new al
                replace hN := hN.trans al
                refine hK.out _ _ hN (fun _ => ?_)
                simp only [Act.put, List.setIfInBounds_toArray, List.set_cons_zero, List.set_cons_succ]
                clear al
                refine hw_call 25 (some 36) rfl rfl (by kernel_rfl) (by rfl) (fun K hK => ?_)
                go_simp
                have al := (New.refl c186).alloc (.cells #[.slice (some ⟨g1, 0, none⟩) 2 k1, .slice (some ⟨c182.heap.size, 0, none⟩) 1 1, .slice (some ⟨g2, 0, none⟩) 5 k2] 71)
                have bS := Blk.mk c186 c186.heap.size 71 #[.slice (some ⟨g1, 0, none⟩) 2 k1, .slice (some ⟨c182.heap.size, 0, none⟩) 1 1, .slice (some ⟨g2, 0, none⟩) 5 k2] rfl
                have own1 := own_newS own1 al
                have b7 := b7.new al
                have own2 := own_newS own2 al
                replace hN := hN.trans al
                refine hK.out _ _ hN (fun _ => ?_)
                simp only [Act.put, List.setIfInBounds_toArray, List.set_cons_zero, List.set_cons_succ]
                generalize c186.alloc (.cells #[.slice (some ⟨g1, 0, none⟩) 2 k1, .slice (some ⟨c182.heap.size, 0, none⟩) 1 1, .slice (some ⟨g2, 0, none⟩) 5 k2] 71) = c187 at *
                clear al
                refine hw_call 26 (some 37) rfl rfl (by kernel_rfl) (by rfl) (fun K hK => ?_)
                go_simp
                refine (concat3S c186.heap.size _ _ _ _ _ _ _ _ _ (strV [[110, 111, 100, 101], dg id]) [.string ⟨([100, 111, 119, 110] : List UInt8).toArray⟩] (strV ([97, 99, 116, 105, 118, 101] :: [ep, (m : Int), su, co].map dg)) c187 (bS.cells 0) (bS.cells 1) (bS.cells 2) (rowS own1) rfl (strV_one _) (by intro e; cases e) (by omega) (blkS b7) rfl (by intro u hu; obtain rfl := List.mem_singleton.1 hu; rfl) (by intro e; cases e) (by omega) (rowS own2) rfl (strV_one _) (by intro e; cases e) (by omega)).mono ?_
                rintro e c188 ⟨v, rfl, hv, al⟩
                have hNz := hN.size
                replace hN := hN.trans al
                refine hK.out _ _ hN (fun _ => ?_)
                simp only [Act.put, List.setIfInBounds_toArray, List.set_cons_zero, List.set_cons_succ]
                refine' hw_take 27 (some 2) _ rfl rfl (by kernel_rfl) (by kernel_rfl) (by kernel_rfl) (fun _ _ _ h => h) (by rfl) hN ?hy99 ?rest99
                case hy99 =>
                  intro X hX
                  go_simp
                  try rfl
                simp only [Act.put, List.setIfInBounds_toArray, List.set_cons_zero, List.set_cons_succ]
                refine wpAnyH_done (by kernel_rfl) ?_ _
                clear own1 own2 b7 bS al
                go_wp2
                go_ret
                exact ⟨v, rfl, own_lowS hv hNz, hN⟩
            case t175 =>
              go_simp
              have al := (New.refl c165).alloc (.cells #[.string ⟨([100, 111, 119, 110] : List UInt8).toArray⟩] 9)
              have b70 := Blk.mk c165 c165.heap.size 9 #[.string ⟨([100, 111, 119, 110] : List UInt8).toArray⟩] rfl
              have own1 := own_newS own1 al
              replace hN := hN.trans al
              have b7 := b70
              clear b70
              refine hK.out _ _ hN (fun _ => ?_)
              simp only [Act.put, List.setIfInBounds_toArray, List.set_cons_zero, List.set_cons_succ]
              generalize c165.alloc (.cells #[.string ⟨([100, 111, 119, 110] : List UInt8).toArray⟩] 9) = c177 at *
              clear al
              refine hw_call 23 (some 34) rfl rfl (by kernel_rfl) (by rfl) (fun K hK => ?_)
              go_simp
              have al := (New.refl c177).alloc (.cells #[.int .i64 ep, .int .i64 m, .int .i64 su, .int .i64 co] 2)
              have b40 := Blk.mk c177 c177.heap.size 2 #[.int .i64 ep, .int .i64 m, .int .i64 su, .int .i64 co] rfl
              have own1 := own_newS own1 al
              have b7 := b7.new al
              replace hN := hN.trans al
              have b4 := b40
              clear b40
              refine hK.out _ _ hN (fun _ => ?_)
              simp only [Act.put, List.setIfInBounds_toArray, List.set_cons_zero, List.set_cons_succ]
              generalize c177.alloc (.cells #[.int .i64 ep, .int .i64 m, .int .i64 su, .int .i64 co] 2) = c178 at *
              clear al
              refine hw_call 24 (some 35) rfl rfl (by kernel_rfl) (by rfl) (fun K hK => ?_)
              go_simp
              refine (wordNum [97, 99, 116, 105, 118, 101] (some ⟨c177.heap.size, 0, none⟩) 4 4 [ep, m, su, co] c178 (nsAt_blk b4 (by intro i z hz; match i, hz with | 0, hz => simpa using hz | 1, hz => simpa using hz | 2, hz => simpa using hz | 3, hz => simpa using hz) (by intro z hz; simp only [List.mem_cons, List.not_mem_nil, or_false] at hz; unfold In6; omega)) rfl (by omega) (by intro z hz; simp only [List.mem_cons, List.not_mem_nil, or_false] at hz; omega) (ht.new hN)).mono ?_
              rintro e c179 ⟨g2, k2, rfl, own2, al⟩
              clear b4
              have own1 := own_newS own1 al
              have b7 := b7.new al
              replace hN := hN.trans al
              refine hK.out _ _ hN (fun _ => ?_)
              simp only [Act.put, List.setIfInBounds_toArray, List.set_cons_zero, List.set_cons_succ]
              clear al
              refine hw_call 25 (some 36) rfl rfl (by kernel_rfl) (by rfl) (fun K hK => ?_)
              go_simp
              have al := (New.refl c179).alloc (.cells #[.slice (some ⟨g1, 0, none⟩) 2 k1, .slice (some ⟨c165.heap.size, 0, none⟩) 1 1, .slice (some ⟨g2, 0, none⟩) 5 k2] 71)
              have bS := Blk.mk c179 c179.heap.size 71 #[.slice (some ⟨g1, 0, none⟩) 2 k1, .slice (some ⟨c165.heap.size, 0, none⟩) 1 1, .slice (some ⟨g2, 0, none⟩) 5 k2] rfl
              have own1 := own_newS own1 al
              have b7 := b7.new al
              have own2 := own_newS own2 al
              replace hN := hN.trans al
              refine hK.out _ _ hN (fun _ => ?_)
              simp only [Act.put, List.setIfInBounds_toArray, List.set_cons_zero, List.set_cons_succ]
              generalize c179.alloc (.cells #[.slice (some ⟨g1, 0, none⟩) 2 k1, .slice (some ⟨c165.heap.size, 0, none⟩) 1 1, .slice (some ⟨g2, 0, none⟩) 5 k2] 71) = c180 at *
              clear al
              refine hw_call 26 (some 37) rfl rfl (by kernel_rfl) (by rfl) (fun K hK => ?_)
              go_simp
              refine (concat3S c179.heap.size _ _ _ _ _ _ _ _ _ (strV [[110, 111, 100, 101], dg id]) [.string ⟨([100, 111, 119, 110] : List UInt8).toArray⟩] (strV ([97, 99, 116, 105, 118, 101] :: [ep, (m : Int), su, co].map dg)) c180 (bS.cells 0) (bS.cells 1) (bS.cells 2) (rowS own1) rfl (strV_one _) (by intro e; cases e) (by omega) (blkS b7) rfl (by intro u hu; obtain rfl := List.mem_singleton.1 hu; rfl) (by intro e; cases e) (by omega) (rowS own2) rfl (strV_one _) (by intro e; cases e) (by omega)).mono ?_
              rintro e c181 ⟨v, rfl, hv, al⟩
              have hNz := hN.size
              replace hN := hN.trans al
              refine hK.out _ _ hN (fun _ => ?_)
              simp only [Act.put, List.setIfInBounds_toArray, List.set_cons_zero, List.set_cons_succ]
              refine' hw_take 27 (some 2) _ rfl rfl (by kernel_rfl) (by kernel_rfl) (by kernel_rfl) (fun _ _ _ h => h) (by rfl) hN ?hy98 ?rest98
              case hy98 =>
                intro X hX
                go_simp
                try rfl
              simp only [Act.put, List.setIfInBounds_toArray, List.set_cons_zero, List.set_cons_succ]
              refine wpAnyH_done (by kernel_rfl) ?_ _
              clear own1 own2 b7 bS al
              go_wp2
              go_ret
              exact ⟨v, rfl, own_lowS hv hNz, hN⟩
          case t166 =>
            go_simp
            have al := (New.refl c165).alloc (.cells #[.string ⟨([100, 111, 119, 110] : List UInt8).toArray⟩] 9)
            have b70 := Blk.mk c165 c165.heap.size 9 #[.string ⟨([100, 111, 119, 110] : List UInt8).toArray⟩] rfl
            have own1 := own_newS own1 al
            replace hN := hN.trans al
            have b7 := b70
            clear b70
            refine hK.out _ _ hN (fun _ => ?_)
            simp only [Act.put, List.setIfInBounds_toArray, List.set_cons_zero, List.set_cons_succ]
            generalize c165.alloc (.cells #[.string ⟨([100, 111, 119, 110] : List UInt8).toArray⟩] 9) = c168 at *
            clear al
            refine hw_call 14 (some 25) rfl rfl (by kernel_rfl) (by rfl) (fun K hK => ?_)
            go_simp
            refine (cntN G O x m d c168 ((hN.below.cell (World.block_lt_of_cell? _ _ q4)).trans q4)).mono ?_
            rintro e c169 ⟨rfl, hEq⟩
            rw [hEq]
            clear hEq
            refine hK.out _ _ hN (fun _ => ?_)
            simp only [Act.put, List.setIfInBounds_toArray, List.set_cons_zero, List.set_cons_succ]
            refine hw_call 23 (some 34) rfl rfl (by kernel_rfl) (by rfl) (fun K hK => ?_)
            go_simp
            have al := (New.refl c168).alloc (.cells #[.int .i64 ep, .int .i64 m, .int .i64 su, .int .i64 co] 2)
            have b40 := Blk.mk c168 c168.heap.size 2 #[.int .i64 ep, .int .i64 m, .int .i64 su, .int .i64 co] rfl
            have own1 := own_newS own1 al
            have b7 := b7.new al
            replace hN := hN.trans al
            have b4 := b40
            clear b40
            refine hK.out _ _ hN (fun _ => ?_)
            simp only [Act.put, List.setIfInBounds_toArray, List.set_cons_zero, List.set_cons_succ]
            generalize c168.alloc (.cells #[.int .i64 ep, .int .i64 m, .int .i64 su, .int .i64 co] 2) = c170 at *
            clear al
            refine hw_call 24 (some 35) rfl rfl (by kernel_rfl) (by rfl) (fun K hK => ?_)
            go_simp
            refine (wordNum [97, 99, 116, 105, 118, 101] (some ⟨c168.heap.size, 0, none⟩) 4 4 [ep, m, su, co] c170 (nsAt_blk b4 (by intro i z hz; match i, hz with | 0, hz => simpa using hz | 1, hz => simpa using hz | 2, hz => simpa using hz | 3, hz => simpa using hz) (by intro z hz; simp only [List.mem_cons, List.not_mem_nil, or_false] at hz; unfold In6; omega)) rfl (by omega) (by intro z hz; simp only [List.mem_cons, List.not_mem_nil, or_false] at hz; omega) (ht.new hN)).mono ?_
            rintro e c171 ⟨g2, k2, rfl, own2, al⟩
            clear b4
            have own1 := own_newS own1 al
            have b7 := b7.new al
            replace hN := hN.trans al
            refine hK.out _ _ hN (fun _ => ?_)
            simp only [Act.put, List.setIfInBounds_toArray, List.set_cons_zero, List.set_cons_succ]
            clear al
            refine hw_call 25 (some 36) rfl rfl (by kernel_rfl) (by rfl) (fun K hK => ?_)
            go_simp
            have al := (New.refl c171).alloc (.cells #[.slice (some ⟨g1, 0, none⟩) 2 k1, .slice (some ⟨c165.heap.size, 0, none⟩) 1 1, .slice (some ⟨g2, 0, none⟩) 5 k2] 71)
            have bS := Blk.mk c171 c171.heap.size 71 #[.slice (some ⟨g1, 0, none⟩) 2 k1, .slice (some ⟨c165.heap.size, 0, none⟩) 1 1, .slice (some ⟨g2, 0, none⟩) 5 k2] rfl
            have own1 := own_newS own1 al
            have b7 := b7.new al
            have own2 := own_newS own2 al
            replace hN := hN.trans al
            refine hK.out _ _ hN (fun _ => ?_)
            simp only [Act.put, List.setIfInBounds_toArray, List.set_cons_zero, List.set_cons_succ]
            generalize c171.alloc (.cells #[.slice (some ⟨g1, 0, none⟩) 2 k1, .slice (some ⟨c165.heap.size, 0, none⟩) 1 1, .slice (some ⟨g2, 0, none⟩) 5 k2] 71) = c172 at *
            clear al
            refine hw_call 26 (some 37) rfl rfl (by kernel_rfl) (by rfl) (fun K hK => ?_)
            go_simp
            refine (concat3S c171.heap.size _ _ _ _ _ _ _ _ _ (strV [[110, 111, 100, 101], dg id]) [.string ⟨([100, 111, 119, 110] : List UInt8).toArray⟩] (strV ([97, 99, 116, 105, 118, 101] :: [ep, (m : Int), su, co].map dg)) c172 (bS.cells 0) (bS.cells 1) (bS.cells 2) (rowS own1) rfl (strV_one _) (by intro e; cases e) (by omega) (blkS b7) rfl (by intro u hu; obtain rfl := List.mem_singleton.1 hu; rfl) (by intro e; cases e) (by omega) (rowS own2) rfl (strV_one _) (by intro e; cases e) (by omega)).mono ?_
            rintro e c173 ⟨v, rfl, hv, al⟩
            have hNz := hN.size
            replace hN := hN.trans al
            refine hK.out _ _ hN (fun _ => ?_)
            simp only [Act.put, List.setIfInBounds_toArray, List.set_cons_zero, List.set_cons_succ]
            refine' hw_take 27 (some 2) _ rfl rfl (by kernel_rfl) (by kernel_rfl) (by kernel_rfl) (fun _ _ _ h => h) (by rfl) hN ?hy97 ?rest97
            case hy97 =>
              intro X hX
              go_simp
              try rfl
            simp only [Act.put, List.setIfInBounds_toArray, List.set_cons_zero, List.set_cons_succ]
            refine wpAnyH_done (by kernel_rfl) ?_ _
            clear own1 own2 b7 bS al
            go_wp2
            go_ret
            exact ⟨v, rfl, own_lowS hv hNz, hN⟩
        case t157 =>
          go_simp
          have al := (New.refl c155).alloc (.cells #[.string ⟨([100, 111, 119, 110] : List UInt8).toArray⟩] 9)
          have b70 := Blk.mk c155 c155.heap.size 9 #[.string ⟨([100, 111, 119, 110] : List UInt8).toArray⟩] rfl
          have bI := bI.new al
          replace hN := hN.trans al
          have b7 := b70
          clear b70
          refine hK.out _ _ hN (fun _ => ?_)
          simp only [Act.put, List.setIfInBounds_toArray, List.set_cons_zero, List.set_cons_succ]
          generalize c155.alloc (.cells #[.string ⟨([100, 111, 119, 110] : List UInt8).toArray⟩] 9) = c158 at *
          clear al
          refine hw_call 5 (some 16) rfl rfl (by kernel_rfl) (by rfl) (fun K hK => ?_)
          go_simp
          refine (wordNum [110, 111, 100, 101] (some ⟨c0.heap.size, 0, none⟩) 1 1 [id] c158 (nsAt_blk bI (by intro i z hz; match i, hz with | 0, hz => simpa using hz) (by intro z hz; obtain rfl := List.mem_singleton.1 hz; unfold In6; omega)) rfl (by omega) (by intro z hz; obtain rfl := List.mem_singleton.1 hz; omega) (ht.new hN)).mono ?_
          rintro e c159 ⟨g1, k1, rfl, own1, al⟩
          clear bI
          have b7 := b7.new al
          replace hN := hN.trans al
          refine hK.out _ _ hN (fun _ => ?_)
          simp only [Act.put, List.setIfInBounds_toArray, List.set_cons_zero, List.set_cons_succ]
          clear al
          refine hw_call 14 (some 25) rfl rfl (by kernel_rfl) (by rfl) (fun K hK => ?_)
          go_simp
          refine (cntN G O x m d c159 ((hN.below.cell (World.block_lt_of_cell? _ _ q4)).trans q4)).mono ?_
          rintro e c160 ⟨rfl, hEq⟩
          rw [hEq]
          clear hEq
          refine hK.out _ _ hN (fun _ => ?_)
          simp only [Act.put, List.setIfInBounds_toArray, List.set_cons_zero, List.set_cons_succ]
          refine hw_call 23 (some 34) rfl rfl (by kernel_rfl) (by rfl) (fun K hK => ?_)
          go_simp
          have al := (New.refl c159).alloc (.cells #[.int .i64 ep, .int .i64 m, .int .i64 su, .int .i64 co] 2)
          have b40 := Blk.mk c159 c159.heap.size 2 #[.int .i64 ep, .int .i64 m, .int .i64 su, .int .i64 co] rfl
          have own1 := own_newS own1 al
          have b7 := b7.new al
          replace hN := hN.trans al
          have b4 := b40
          clear b40
          refine hK.out _ _ hN (fun _ => ?_)
          simp only [Act.put, List.setIfInBounds_toArray, List.set_cons_zero, List.set_cons_succ]
          generalize c159.alloc (.cells #[.int .i64 ep, .int .i64 m, .int .i64 su, .int .i64 co] 2) = c161 at *
          clear al
          refine hw_call 24 (some 35) rfl rfl (by kernel_rfl) (by rfl) (fun K hK => ?_)
          go_simp
          refine (wordNum [97, 99, 116, 105, 118, 101] (some ⟨c159.heap.size, 0, none⟩) 4 4 [ep, m, su, co] c161 (nsAt_blk b4 (by intro i z hz; match i, hz with | 0, hz => simpa using hz | 1, hz => simpa using hz | 2, hz => simpa using hz | 3, hz => simpa using hz) (by intro z hz; simp only [List.mem_cons, List.not_mem_nil, or_false] at hz; unfold In6; omega)) rfl (by omega) (by intro z hz; simp only [List.mem_cons, List.not_mem_nil, or_false] at hz; omega) (ht.new hN)).mono ?_
          rintro e c162 ⟨g2, k2, rfl, own2, al⟩
          clear b4
          have own1 := own_newS own1 al
          have b7 := b7.new al
          replace hN := hN.trans al
          refine hK.out _ _ hN (fun _ => ?_)
          simp only [Act.put, List.setIfInBounds_toArray, List.set_cons_zero, List.set_cons_succ]
          clear al
          refine hw_call 25 (some 36) rfl rfl (by kernel_rfl) (by rfl) (fun K hK => ?_)
          go_simp
          have al := (New.refl c162).alloc (.cells #[.slice (some ⟨g1, 0, none⟩) 2 k1, .slice (some ⟨c155.heap.size, 0, none⟩) 1 1, .slice (some ⟨g2, 0, none⟩) 5 k2] 71)
          have bS := Blk.mk c162 c162.heap.size 71 #[.slice (some ⟨g1, 0, none⟩) 2 k1, .slice (some ⟨c155.heap.size, 0, none⟩) 1 1, .slice (some ⟨g2, 0, none⟩) 5 k2] rfl
          have own1 := own_newS own1 al
          have b7 := b7.new al
          have own2 := own_newS own2 al
          replace hN := hN.trans al
          refine hK.out _ _ hN (fun _ => ?_)
          simp only [Act.put, List.setIfInBounds_toArray, List.set_cons_zero, List.set_cons_succ]
          generalize c162.alloc (.cells #[.slice (some ⟨g1, 0, none⟩) 2 k1, .slice (some ⟨c155.heap.size, 0, none⟩) 1 1, .slice (some ⟨g2, 0, none⟩) 5 k2] 71) = c163 at *
          clear al
          refine hw_call 26 (some 37) rfl rfl (by kernel_rfl) (by rfl) (fun K hK => ?_)
          go_simp
          refine (concat3S c162.heap.size _ _ _ _ _ _ _ _ _ (strV [[110, 111, 100, 101], dg id]) [.string ⟨([100, 111, 119, 110] : List UInt8).toArray⟩] (strV ([97, 99, 116, 105, 118, 101] :: [ep, (m : Int), su, co].map dg)) c163 (bS.cells 0) (bS.cells 1) (bS.cells 2) (rowS own1) rfl (strV_one _) (by intro e; cases e) (by omega) (blkS b7) rfl (by intro u hu; obtain rfl := List.mem_singleton.1 hu; rfl) (by intro e; cases e) (by omega) (rowS own2) rfl (strV_one _) (by intro e; cases e) (by omega)).mono ?_
          rintro e c164 ⟨v, rfl, hv, al⟩
          have hNz := hN.size
          replace hN := hN.trans al
          refine hK.out _ _ hN (fun _ => ?_)
          simp only [Act.put, List.setIfInBounds_toArray, List.set_cons_zero, List.set_cons_succ]
          refine' hw_take 27 (some 2) _ rfl rfl (by kernel_rfl) (by kernel_rfl) (by kernel_rfl) (fun _ _ _ h => h) (by rfl) hN ?hy96 ?rest96
          case hy96 =>
            intro X hX
            go_simp
            try rfl
          simp only [Act.put, List.setIfInBounds_toArray, List.set_cons_zero, List.set_cons_succ]
          refine wpAnyH_done (by kernel_rfl) ?_ _
          clear own1 own2 b7 bS al
          go_wp2
          go_ret
          exact ⟨v, rfl, own_lowS hv hNz, hN⟩
      case t146 =>
        go_simp
        have al := (New.refl c0).alloc (.cells #[.string ⟨([100, 111, 119, 110] : List UInt8).toArray⟩] 9)
        have b70 := Blk.mk c0 c0.heap.size 9 #[.string ⟨([100, 111, 119, 110] : List UInt8).toArray⟩] rfl
        replace hN := hN.trans al
        have b7 := b70
        clear b70
        refine hK.out _ _ hN (fun _ => ?_)
        simp only [Act.put, List.setIfInBounds_toArray, List.set_cons_zero, List.set_cons_succ]
        generalize c0.alloc (.cells #[.string ⟨([100, 111, 119, 110] : List UInt8).toArray⟩] 9) = c147 at *
        clear al
        refine hw_call 4 (some 15) rfl rfl (by kernel_rfl) (by rfl) (fun K hK => ?_)
        go_simp
        have al := (New.refl c147).alloc (.cells #[.int .i64 id] 2)
        have bI0 := Blk.mk c147 c147.heap.size 2 #[.int .i64 id] rfl
        have b7 := b7.new al
        replace hN := hN.trans al
        have bI := bI0
        clear bI0
        refine hK.out _ _ hN (fun _ => ?_)
        simp only [Act.put, List.setIfInBounds_toArray, List.set_cons_zero, List.set_cons_succ]
        generalize c147.alloc (.cells #[.int .i64 id] 2) = c148 at *
        clear al
        refine hw_call 5 (some 16) rfl rfl (by kernel_rfl) (by rfl) (fun K hK => ?_)
        go_simp
        refine (wordNum [110, 111, 100, 101] (some ⟨c147.heap.size, 0, none⟩) 1 1 [id] c148 (nsAt_blk bI (by intro i z hz; match i, hz with | 0, hz => simpa using hz) (by intro z hz; obtain rfl := List.mem_singleton.1 hz; unfold In6; omega)) rfl (by omega) (by intro z hz; obtain rfl := List.mem_singleton.1 hz; omega) (ht.new hN)).mono ?_
        rintro e c149 ⟨g1, k1, rfl, own1, al⟩
        clear bI
        have b7 := b7.new al
        replace hN := hN.trans al
        refine hK.out _ _ hN (fun _ => ?_)
        simp only [Act.put, List.setIfInBounds_toArray, List.set_cons_zero, List.set_cons_succ]
        clear al
        refine hw_call 14 (some 25) rfl rfl (by kernel_rfl) (by rfl) (fun K hK => ?_)
        go_simp
        refine (cntN G O x m d c149 ((hN.below.cell (World.block_lt_of_cell? _ _ q4)).trans q4)).mono ?_
        rintro e c150 ⟨rfl, hEq⟩
        rw [hEq]
        clear hEq
        refine hK.out _ _ hN (fun _ => ?_)
        simp only [Act.put, List.setIfInBounds_toArray, List.set_cons_zero, List.set_cons_succ]
        refine hw_call 23 (some 34) rfl rfl (by kernel_rfl) (by rfl) (fun K hK => ?_)
        go_simp
        have al := (New.refl c149).alloc (.cells #[.int .i64 ep, .int .i64 m, .int .i64 su, .int .i64 co] 2)
        have b40 := Blk.mk c149 c149.heap.size 2 #[.int .i64 ep, .int .i64 m, .int .i64 su, .int .i64 co] rfl
        have own1 := own_newS own1 al
        have b7 := b7.new al
        replace hN := hN.trans al
        have b4 := b40
        clear b40
        refine hK.out _ _ hN (fun _ => ?_)
        simp only [Act.put, List.setIfInBounds_toArray, List.set_cons_zero, List.set_cons_succ]
        generalize c149.alloc (.cells #[.int .i64 ep, .int .i64 m, .int .i64 su, .int .i64 co] 2) = c151 at *
        clear al
        refine hw_call 24 (some 35) rfl rfl (by kernel_rfl) (by rfl) (fun K hK => ?_)
        go_simp
        refine (wordNum [97, 99, 116, 105, 118, 101] (some ⟨c149.heap.size, 0, none⟩) 4 4 [ep, m, su, co] c151 (nsAt_blk b4 (by intro i z hz; match i, hz with | 0, hz => simpa using hz | 1, hz => simpa using hz | 2, hz => simpa using hz | 3, hz => simpa using hz) (by intro z hz; simp only [List.mem_cons, List.not_mem_nil, or_false] at hz; unfold In6; omega)) rfl (by omega) (by intro z hz; simp only [List.mem_cons, List.not_mem_nil, or_false] at hz; omega) (ht.new hN)).mono ?_
        rintro e c152 ⟨g2, k2, rfl, own2, al⟩
        clear b4
        have own1 := own_newS own1 al
        have b7 := b7.new al
        replace hN := hN.trans al
        refine hK.out _ _ hN (fun _ => ?_)
        simp only [Act.put, List.setIfInBounds_toArray, List.set_cons_zero, List.set_cons_succ]
        clear al
        refine hw_call 25 (some 36) rfl rfl (by kernel_rfl) (by rfl) (fun K hK => ?_)
        go_simp
        have al := (New.refl c152).alloc (.cells #[.slice (some ⟨g1, 0, none⟩) 2 k1, .slice (some ⟨c0.heap.size, 0, none⟩) 1 1, .slice (some ⟨g2, 0, none⟩) 5 k2] 71)
        have bS := Blk.mk c152 c152.heap.size 71 #[.slice (some ⟨g1, 0, none⟩) 2 k1, .slice (some ⟨c0.heap.size, 0, none⟩) 1 1, .slice (some ⟨g2, 0, none⟩) 5 k2] rfl
        have own1 := own_newS own1 al
        have b7 := b7.new al
        have own2 := own_newS own2 al
        replace hN := hN.trans al
        refine hK.out _ _ hN (fun _ => ?_)
        simp only [Act.put, List.setIfInBounds_toArray, List.set_cons_zero, List.set_cons_succ]
        generalize c152.alloc (.cells #[.slice (some ⟨g1, 0, none⟩) 2 k1, .slice (some ⟨c0.heap.size, 0, none⟩) 1 1, .slice (some ⟨g2, 0, none⟩) 5 k2] 71) = c153 at *
        clear al
        refine hw_call 26 (some 37) rfl rfl (by kernel_rfl) (by rfl) (fun K hK => ?_)
        go_simp
        refine (concat3S c152.heap.size _ _ _ _ _ _ _ _ _ (strV [[110, 111, 100, 101], dg id]) [.string ⟨([100, 111, 119, 110] : List UInt8).toArray⟩] (strV ([97, 99, 116, 105, 118, 101] :: [ep, (m : Int), su, co].map dg)) c153 (bS.cells 0) (bS.cells 1) (bS.cells 2) (rowS own1) rfl (strV_one _) (by intro e; cases e) (by omega) (blkS b7) rfl (by intro u hu; obtain rfl := List.mem_singleton.1 hu; rfl) (by intro e; cases e) (by omega) (rowS own2) rfl (strV_one _) (by intro e; cases e) (by omega)).mono ?_
        rintro e c154 ⟨v, rfl, hv, al⟩
        have hNz := hN.size
        replace hN := hN.trans al
        refine hK.out _ _ hN (fun _ => ?_)
        simp only [Act.put, List.setIfInBounds_toArray, List.set_cons_zero, List.set_cons_succ]
        refine' hw_take 27 (some 2) _ rfl rfl (by kernel_rfl) (by kernel_rfl) (by kernel_rfl) (fun _ _ _ h => h) (by rfl) hN ?hy95 ?rest95
        case hy95 =>
          intro X hX
          go_simp
          try rfl
        simp only [Act.put, List.setIfInBounds_toArray, List.set_cons_zero, List.set_cons_succ]
        refine wpAnyH_done (by kernel_rfl) ?_ _
        clear own1 own2 b7 bS al
        go_wp2
        go_ret
        exact ⟨v, rfl, own_lowS hv hNz, hN⟩
    · skip
      obtain rfl : ST = [100, 111, 119, 110] := hs
      obtain rfl : RO = [115, 116, 97, 110, 100, 98, 121] := by rw [hr]; simp [hro]
      clear hr
      have hb : (ro == 1) = false := by simp [hro]
      go_enter Tryz.func54, Tryz.ntmps54
      go_wp2_with fail
      refine (actN G O ro _ q2).mono ?_
      rintro e wa ⟨rfl, hEq⟩
      rw [hEq, hb]
      clear hEq
      go_upto_region 6 with fail
      refine hw_start (n := 28) (S := fun X => New w X) rfl (by kernel_rfl) ((New.refl w).drew) (fun hN => ?_)
      have hwz : w.heap.size ≤ w.heap.size := Nat.le_refl _
      generalize w.drew = c0 at *
      refine' hw_take 0 (some 11) _ rfl rfl (by kernel_rfl) (by kernel_rfl) (by kernel_rfl) (fun _ _ _ h => h) (by rfl) hN ?hy101 ?rest101
      case hy101 =>
        intro X hX
        go_simp
        try rfl
      simp only [Act.put, List.setIfInBounds_toArray, List.set_cons_zero, List.set_cons_succ]
      refine' hw_take 1 (some 12) _ rfl rfl (by kernel_rfl) (by kernel_rfl) (by kernel_rfl) (fun _ _ _ h => h) (by rfl) hN ?hy102 ?rest102
      case hy102 =>
        intro X hX
        go_simp
        try rfl
      simp only [Act.put, List.setIfInBounds_toArray, List.set_cons_zero, List.set_cons_succ]
      refine' hw_take 2 (some 13) _ rfl rfl (by kernel_rfl) (by kernel_rfl) (by kernel_rfl) (fun _ _ _ h => h) (by rfl) hN ?hy103 ?rest103
      case hy103 =>
        intro X hX
        go_simp
        try rfl
      simp only [Act.put, List.setIfInBounds_toArray, List.set_cons_zero, List.set_cons_succ]
      refine' hw_take 3 (some 14) _ rfl rfl (by kernel_rfl) (by kernel_rfl) (by kernel_rfl) (fun _ _ _ h => h) (by rfl) hN ?hy104 ?rest104
      case hy104 =>
        intro X hX
        have q0X := (hX.below.cell (World.block_lt_of_cell? _ _ q0)).trans q0
        go_simp
        try rfl
      simp only [Act.put, List.setIfInBounds_toArray, List.set_cons_zero, List.set_cons_succ]
      refine' hw_take 6 (some 17) _ rfl rfl (by kernel_rfl) (by kernel_rfl) (by kernel_rfl) (fun _ _ _ h => h) (by rfl) hN ?hy105 ?rest105
      case hy105 =>
        intro X hX
        go_simp
        try rfl
      simp only [Act.put, List.setIfInBounds_toArray, List.set_cons_zero, List.set_cons_succ]
      refine' hw_take 8 (some 19) _ rfl rfl (by kernel_rfl) (by kernel_rfl) (by kernel_rfl) (fun _ _ _ h => h) (by rfl) hN ?hy106 ?rest106
      case hy106 =>
        intro X hX
        go_simp
        try rfl
      simp only [Act.put, List.setIfInBounds_toArray, List.set_cons_zero, List.set_cons_succ]
      refine' hw_take 9 (some 20) _ rfl rfl (by kernel_rfl) (by kernel_rfl) (by kernel_rfl) (fun _ _ _ h => h) (by rfl) hN ?hy107 ?rest107
      case hy107 =>
        intro X hX
        go_simp
        try rfl
      simp only [Act.put, List.setIfInBounds_toArray, List.set_cons_zero, List.set_cons_succ]
      refine' hw_take 10 (some 21) _ rfl rfl (by kernel_rfl) (by kernel_rfl) (by kernel_rfl) (fun _ _ _ h => h) (by rfl) hN ?hy108 ?rest108
      case hy108 =>
        intro X hX
        go_simp
        try rfl
      simp only [Act.put, List.setIfInBounds_toArray, List.set_cons_zero, List.set_cons_succ]
      refine' hw_take 11 (some 22) _ rfl rfl (by kernel_rfl) (by kernel_rfl) (by kernel_rfl) (fun _ _ _ h => h) (by rfl) hN ?hy109 ?rest109
      case hy109 =>
        intro X hX
        go_simp
        try rfl
      simp only [Act.put, List.setIfInBounds_toArray, List.set_cons_zero, List.set_cons_succ]
      refine' hw_take 12 (some 23) _ rfl rfl (by kernel_rfl) (by kernel_rfl) (by kernel_rfl) (fun _ _ _ h => h) (by rfl) hN ?hy110 ?rest110
      case hy110 =>
        intro X hX
        have q3X := (hX.below.cell (World.block_lt_of_cell? _ _ q3)).trans q3
        go_simp
        try rfl
      simp only [Act.put, List.setIfInBounds_toArray, List.set_cons_zero, List.set_cons_succ]
      refine' hw_take 13 (some 24) _ rfl rfl (by kernel_rfl) (by kernel_rfl) (by kernel_rfl) (fun _ _ _ h => h) (by rfl) hN ?hy111 ?rest111
      case hy111 =>
        intro X hX
        go_simp
        try rfl
      simp only [Act.put, List.setIfInBounds_toArray, List.set_cons_zero, List.set_cons_succ]
      refine' hw_take 15 (some 26) _ rfl rfl (by kernel_rfl) (by kernel_rfl) (by kernel_rfl) (fun _ _ _ h => h) (by rfl) hN ?hy112 ?rest112
      case hy112 =>
        intro X hX
        go_simp
        try rfl
      simp only [Act.put, List.setIfInBounds_toArray, List.set_cons_zero, List.set_cons_succ]
      refine' hw_take 16 (some 27) _ rfl rfl (by kernel_rfl) (by kernel_rfl) (by kernel_rfl) (fun _ _ _ h => h) (by rfl) hN ?hy113 ?rest113
      case hy113 =>
        intro X hX
        go_simp
        try rfl
      simp only [Act.put, List.setIfInBounds_toArray, List.set_cons_zero, List.set_cons_succ]
      refine' hw_take 17 (some 28) _ rfl rfl (by kernel_rfl) (by kernel_rfl) (by kernel_rfl) (fun _ _ _ h => h) (by rfl) hN ?hy114 ?rest114
      case hy114 =>
        intro X hX
        go_simp
        try rfl
      simp only [Act.put, List.setIfInBounds_toArray, List.set_cons_zero, List.set_cons_succ]
      refine' hw_take 18 (some 29) _ rfl rfl (by kernel_rfl) (by kernel_rfl) (by kernel_rfl) (fun _ _ _ h => h) (by rfl) hN ?hy115 ?rest115
      case hy115 =>
        intro X hX
        have q5X := (hX.below.cell (World.block_lt_of_cell? _ _ q5)).trans q5
        go_simp
        try rfl
      simp only [Act.put, List.setIfInBounds_toArray, List.set_cons_zero, List.set_cons_succ]
      refine' hw_take 19 (some 30) _ rfl rfl (by kernel_rfl) (by kernel_rfl) (by kernel_rfl) (fun _ _ _ h => h) (by rfl) hN ?hy116 ?rest116
      case hy116 =>
        intro X hX
        go_simp
        try rfl
      simp only [Act.put, List.setIfInBounds_toArray, List.set_cons_zero, List.set_cons_succ]
      refine' hw_take 20 (some 31) _ rfl rfl (by kernel_rfl) (by kernel_rfl) (by kernel_rfl) (fun _ _ _ h => h) (by rfl) hN ?hy117 ?rest117
      case hy117 =>
        intro X hX
        go_simp
        try rfl
      simp only [Act.put, List.setIfInBounds_toArray, List.set_cons_zero, List.set_cons_succ]
      refine' hw_take 21 (some 32) _ rfl rfl (by kernel_rfl) (by kernel_rfl) (by kernel_rfl) (fun _ _ _ h => h) (by rfl) hN ?hy118 ?rest118
      case hy118 =>
        intro X hX
        go_simp
        try rfl
      simp only [Act.put, List.setIfInBounds_toArray, List.set_cons_zero, List.set_cons_succ]
      refine' hw_take 22 (some 33) _ rfl rfl (by kernel_rfl) (by kernel_rfl) (by kernel_rfl) (fun _ _ _ h => h) (by rfl) hN ?hy119 ?rest119
      case hy119 =>
        intro X hX
        have q8X := (hX.below.cell (World.block_lt_of_cell? _ _ q8)).trans q8
        go_simp
        try rfl
      simp only [Act.put, List.setIfInBounds_toArray, List.set_cons_zero, List.set_cons_succ]
      refine wpAnyH_ready (rs := [4, 7]) (by kernel_rfl) (by simp) (hw_step 4 (some 15) rfl rfl (by rfl) (fun K hK => ?t193) (hw_step 7 (some 18) rfl rfl (by rfl) (fun K hK => ?t194) (by intro j hj; cases hj)))
      case t193 =>
        go_simp
        have al := (New.refl c0).alloc (.cells #[.int .i64 id] 2)
        have bI0 := Blk.mk c0 c0.heap.size 2 #[.int .i64 id] rfl
        replace hN := hN.trans al
        have bI := bI0
        clear bI0
        refine hK.out _ _ hN (fun _ => ?_)
        simp only [Act.put, List.setIfInBounds_toArray, List.set_cons_zero, List.set_cons_succ]
        generalize c0.alloc (.cells #[.int .i64 id] 2) = c203 at *
        clear al
        refine wpAnyH_ready (rs := [5, 7]) (by kernel_rfl) (by simp) (hw_step 5 (some 16) rfl rfl (by rfl) (fun K hK => ?t204) (hw_step 7 (some 18) rfl rfl (by rfl) (fun K hK => ?t205) (by intro j hj; cases hj)))
        case t204 =>
          go_simp
          refine (wordNum [110, 111, 100, 101] (some ⟨c0.heap.size, 0, none⟩) 1 1 [id] c203 (nsAt_blk bI (by intro i z hz; match i, hz with | 0, hz => simpa using hz) (by intro z hz; obtain rfl := List.mem_singleton.1 hz; unfold In6; omega)) rfl (by omega) (by intro z hz; obtain rfl := List.mem_singleton.1 hz; omega) (ht.new hN)).mono ?_
          rintro e c213 ⟨g1, k1, rfl, own1, al⟩
          clear bI
          replace hN := hN.trans al
          refine hK.out _ _ hN (fun _ => ?_)
          simp only [Act.put, List.setIfInBounds_toArray, List.set_cons_zero, List.set_cons_succ]
          clear al
          refine wpAnyH_ready (rs := [7, 14]) (by kernel_rfl) (by simp) (hw_step 7 (some 18) rfl rfl (by rfl) (fun K hK => ?t214) (hw_step 14 (some 25) rfl rfl (by rfl) (fun K hK => ?t215) (by intro j hj; cases hj)))
          case t215 =>
            go_simp
            refine (cntN G O x m d c213 ((hN.below.cell (World.block_lt_of_cell? _ _ q4)).trans q4)).mono ?_
            rintro e c222 ⟨rfl, hEq⟩
            rw [hEq]
            clear hEq
            refine hK.out _ _ hN (fun _ => ?_)
            simp only [Act.put, List.setIfInBounds_toArray, List.set_cons_zero, List.set_cons_succ]
            refine wpAnyH_ready (rs := [7, 23]) (by kernel_rfl) (by simp) (hw_step 7 (some 18) rfl rfl (by rfl) (fun K hK => ?t223) (hw_step 23 (some 34) rfl rfl (by rfl) (fun K hK => ?t224) (by intro j hj; cases hj)))
            case t224 =>
              go_simp
              have al := (New.refl c213).alloc (.cells #[.int .i64 ep, .int .i64 m, .int .i64 su, .int .i64 co] 2)
              have b40 := Blk.mk c213 c213.heap.size 2 #[.int .i64 ep, .int .i64 m, .int .i64 su, .int .i64 co] rfl
              have own1 := own_newS own1 al
              replace hN := hN.trans al
              have b4 := b40
              clear b40
              refine hK.out _ _ hN (fun _ => ?_)
              simp only [Act.put, List.setIfInBounds_toArray, List.set_cons_zero, List.set_cons_succ]
              generalize c213.alloc (.cells #[.int .i64 ep, .int .i64 m, .int .i64 su, .int .i64 co] 2) = c230 at *
              clear al
              refine wpAnyH_ready (rs := [7, 24]) (by kernel_rfl) (by simp) (hw_step 7 (some 18) rfl rfl (by rfl) (fun K hK => ?t231) (hw_step 24 (some 35) rfl rfl (by rfl) (fun K hK => ?t232) (by intro j hj; cases hj)))
              case t232 =>
                go_simp
                refine (wordNum [115, 116, 97, 110, 100, 98, 121] (some ⟨c213.heap.size, 0, none⟩) 4 4 [ep, m, su, co] c230 (nsAt_blk b4 (by intro i z hz; match i, hz with | 0, hz => simpa using hz | 1, hz => simpa using hz | 2, hz => simpa using hz | 3, hz => simpa using hz) (by intro z hz; simp only [List.mem_cons, List.not_mem_nil, or_false] at hz; unfold In6; omega)) rfl (by omega) (by intro z hz; simp only [List.mem_cons, List.not_mem_nil, or_false] at hz; omega) (ht.new hN)).mono ?_
                rintro e c237 ⟨g2, k2, rfl, own2, al⟩
                clear b4
                have own1 := own_newS own1 al
                replace hN := hN.trans al
                refine hK.out _ _ hN (fun _ => ?_)
                simp only [Act.put, List.setIfInBounds_toArray, List.set_cons_zero, List.set_cons_succ]
                clear al
                refine hw_call 7 (some 18) rfl rfl (by kernel_rfl) (by rfl) (fun K hK => ?_)
                go_simp
                have al := (New.refl c237).alloc (.cells #[.string ⟨([100, 111, 119, 110] : List UInt8).toArray⟩] 9)
                have b70 := Blk.mk c237 c237.heap.size 9 #[.string ⟨([100, 111, 119, 110] : List UInt8).toArray⟩] rfl
                have own1 := own_newS own1 al
                have own2 := own_newS own2 al
                replace hN := hN.trans al
                have b7 := b70
                clear b70
                refine hK.out _ _ hN (fun _ => ?_)
                simp only [Act.put, List.setIfInBounds_toArray, List.set_cons_zero, List.set_cons_succ]
                generalize c237.alloc (.cells #[.string ⟨([100, 111, 119, 110] : List UInt8).toArray⟩] 9) = c238 at *
                clear al
                refine hw_call 25 (some 36) rfl rfl (by kernel_rfl) (by rfl) (fun K hK => ?_)
                go_simp
                have al := (New.refl c238).alloc (.cells #[.slice (some ⟨g1, 0, none⟩) 2 k1, .slice (some ⟨c237.heap.size, 0, none⟩) 1 1, .slice (some ⟨g2, 0, none⟩) 5 k2] 71)
                have bS := Blk.mk c238 c238.heap.size 71 #[.slice (some ⟨g1, 0, none⟩) 2 k1, .slice (some ⟨c237.heap.size, 0, none⟩) 1 1, .slice (some ⟨g2, 0, none⟩) 5 k2] rfl
                have own1 := own_newS own1 al
                have b7 := b7.new al
                have own2 := own_newS own2 al
                replace hN := hN.trans al
                refine hK.out _ _ hN (fun _ => ?_)
                simp only [Act.put, List.setIfInBounds_toArray, List.set_cons_zero, List.set_cons_succ]
                generalize c238.alloc (.cells #[.slice (some ⟨g1, 0, none⟩) 2 k1, .slice (some ⟨c237.heap.size, 0, none⟩) 1 1, .slice (some ⟨g2, 0, none⟩) 5 k2] 71) = c239 at *
                clear al
                refine hw_call 26 (some 37) rfl rfl (by kernel_rfl) (by rfl) (fun K hK => ?_)
                go_simp
                refine (concat3S c238.heap.size _ _ _ _ _ _ _ _ _ (strV [[110, 111, 100, 101], dg id]) [.string ⟨([100, 111, 119, 110] : List UInt8).toArray⟩] (strV ([115, 116, 97, 110, 100, 98, 121] :: [ep, (m : Int), su, co].map dg)) c239 (bS.cells 0) (bS.cells 1) (bS.cells 2) (rowS own1) rfl (strV_one _) (by intro e; cases e) (by omega) (blkS b7) rfl (by intro u hu; obtain rfl := List.mem_singleton.1 hu; rfl) (by intro e; cases e) (by omega) (rowS own2) rfl (strV_one _) (by intro e; cases e) (by omega)).mono ?_
                rintro e c240 ⟨v, rfl, hv, al⟩
                have hNz := hN.size
                replace hN := hN.trans al
                refine hK.out _ _ hN (fun _ => ?_)
                simp only [Act.put, List.setIfInBounds_toArray, List.set_cons_zero, List.set_cons_succ]
                refine' hw_take 27 (some 2) _ rfl rfl (by kernel_rfl) (by kernel_rfl) (by kernel_rfl) (fun _ _ _ h => h) (by rfl) hN ?hy125 ?rest125
                case hy125 =>
                  intro X hX
                  go_simp
                  try rfl
                simp only [Act.put, List.setIfInBounds_toArray, List.set_cons_zero, List.set_cons_succ]
                refine wpAnyH_done (by kernel_rfl) ?_ _
                clear own1 own2 b7 bS al
                go_wp2
                go_ret
                exact ⟨v, rfl, own_lowS hv hNz, hN⟩
              case t231 =>
                go_simp
                have al := (New.refl c230).alloc (.cells #[.string ⟨([100, 111, 119, 110] : List UInt8).toArray⟩] 9)
                have b70 := Blk.mk c230 c230.heap.size 9 #[.string ⟨([100, 111, 119, 110] : List UInt8).toArray⟩] rfl
                have own1 := own_newS own1 al
                have b4 := b4.new al
                replace hN := hN.trans al
                have b7 := b70
                clear b70
                refine hK.out _ _ hN (fun _ => ?_)
                simp only [Act.put, List.setIfInBounds_toArray, List.set_cons_zero, List.set_cons_succ]
                generalize c230.alloc (.cells #[.string ⟨([100, 111, 119, 110] : List UInt8).toArray⟩] 9) = c233 at *
                clear al
                refine hw_call 24 (some 35) rfl rfl (by kernel_rfl) (by rfl) (fun K hK => ?_)
                go_simp
                refine (wordNum [115, 116, 97, 110, 100, 98, 121] (some ⟨c213.heap.size, 0, none⟩) 4 4 [ep, m, su, co] c233 (nsAt_blk b4 (by intro i z hz; match i, hz with | 0, hz => simpa using hz | 1, hz => simpa using hz | 2, hz => simpa using hz | 3, hz => simpa using hz) (by intro z hz; simp only [List.mem_cons, List.not_mem_nil, or_false] at hz; unfold In6; omega)) rfl (by omega) (by intro z hz; simp only [List.mem_cons, List.not_mem_nil, or_false] at hz; omega) (ht.new hN)).mono ?_
                rintro e c234 ⟨g2, k2, rfl, own2, al⟩
                clear b4
                have own1 := own_newS own1 al
                have b7 := b7.new al
                replace hN := hN.trans al
                refine hK.out _ _ hN (fun _ => ?_)
                simp only [Act.put, List.setIfInBounds_toArray, List.set_cons_zero, List.set_cons_succ]
                clear al
                refine hw_call 25 (some 36) rfl rfl (by kernel_rfl) (by rfl) (fun K hK => ?_)
                go_simp
                have al := (New.refl c234).alloc (.cells #[.slice (some ⟨g1, 0, none⟩) 2 k1, .slice (some ⟨c230.heap.size, 0, none⟩) 1 1, .slice (some ⟨g2, 0, none⟩) 5 k2] 71)
                have bS := Blk.mk c234 c234.heap.size 71 #[.slice (some ⟨g1, 0, none⟩) 2 k1, .slice (some ⟨c230.heap.size, 0, none⟩) 1 1, .slice (some ⟨g2, 0, none⟩) 5 k2] rfl
                have own1 := own_newS own1 al
                have b7 := b7.new al
                have own2 := own_newS own2 al
                replace hN := hN.trans al
                refine hK.out _ _ hN (fun _ => ?_)
                simp only [Act.put, List.setIfInBounds_toArray, List.set_cons_zero, List.set_cons_succ]
                generalize c234.alloc (.cells #[.slice (some ⟨g1, 0, none⟩) 2 k1, .slice (some ⟨c230.heap.size, 0, none⟩) 1 1, .slice (some ⟨g2, 0, none⟩) 5 k2] 71) = c235 at *
                clear al
                refine hw_call 26 (some 37) rfl rfl (by kernel_rfl) (by rfl) (fun K hK => ?_)
                go_simp
                refine (concat3S c234.heap.size _ _ _ _ _ _ _ _ _ (strV [[110, 111, 100, 101], dg id]) [.string ⟨([100, 111, 119, 110] : List UInt8).toArray⟩] (strV ([115, 116, 97, 110, 100, 98, 121] :: [ep, (m : Int), su, co].map dg)) c235 (bS.cells 0) (bS.cells 1) (bS.cells 2) (rowS own1) rfl (strV_one _) (by intro e; cases e) (by omega) (blkS b7) rfl (by intro u hu; obtain rfl := List.mem_singleton.1 hu; rfl) (by intro e; cases e) (by omega) (rowS own2) rfl (strV_one _) (by intro e; cases e) (by omega)).mono ?_
                rintro e c236 ⟨v, rfl, hv, al⟩
                have hNz := hN.size
                replace hN := hN.trans al
                refine hK.out _ _ hN (fun _ => ?_)
                simp only [Act.put, List.setIfInBounds_toArray, List.set_cons_zero, List.set_cons_succ]
                refine' hw_take 27 (some 2) _ rfl rfl (by kernel_rfl) (by kernel_rfl) (by kernel_rfl) (fun _ _ _ h => h) (by rfl) hN ?hy124 ?rest124
                case hy124 =>
                  intro X hX
                  go_simp
                  try rfl
                simp only [Act.put, List.setIfInBounds_toArray, List.set_cons_zero, List.set_cons_succ]
                refine wpAnyH_done (by kernel_rfl) ?_ _
                clear own1 own2 b7 bS al
                go_wp2
                go_ret
                exact ⟨v, rfl, own_lowS hv hNz, hN⟩
            case t223 =>
              go_simp
              have al := (New.refl c213).alloc (.cells #[.string ⟨([100, 111, 119, 110] : List UInt8).toArray⟩] 9)
              have b70 := Blk.mk c213 c213.heap.size 9 #[.string ⟨([100, 111, 119, 110] : List UInt8).toArray⟩] rfl
              have own1 := own_newS own1 al
              replace hN := hN.trans al
              have b7 := b70
              clear b70
              refine hK.out _ _ hN (fun _ => ?_)
              simp only [Act.put, List.setIfInBounds_toArray, List.set_cons_zero, List.set_cons_succ]
              generalize c213.alloc (.cells #[.string ⟨([100, 111, 119, 110] : List UInt8).toArray⟩] 9) = c225 at *
              clear al
              refine hw_call 23 (some 34) rfl rfl (by kernel_rfl) (by rfl) (fun K hK => ?_)
              go_simp
              have al := (New.refl c225).alloc (.cells #[.int .i64 ep, .int .i64 m, .int .i64 su, .int .i64 co] 2)
              have b40 := Blk.mk c225 c225.heap.size 2 #[.int .i64 ep, .int .i64 m, .int .i64 su, .int .i64 co] rfl
              have own1 := own_newS own1 al
              have b7 := b7.new al
              replace hN := hN.trans al
              have b4 := b40
              clear b40
              refine hK.out _ _ hN (fun _ => ?_)
              simp only [Act.put, List.setIfInBounds_toArray, List.set_cons_zero, List.set_cons_succ]
              generalize c225.alloc (.cells #[.int .i64 ep, .int .i64 m, .int .i64 su, .int .i64 co] 2) = c226 at *
              clear al
              refine hw_call 24 (some 35) rfl rfl (by kernel_rfl) (by rfl) (fun K hK => ?_)
              go_simp
              refine (wordNum [115, 116, 97, 110, 100, 98, 121] (some ⟨c225.heap.size, 0, none⟩) 4 4 [ep, m, su, co] c226 (nsAt_blk b4 (by intro i z hz; match i, hz with | 0, hz => simpa using hz | 1, hz => simpa using hz | 2, hz => simpa using hz | 3, hz => simpa using hz) (by intro z hz; simp only [List.mem_cons, List.not_mem_nil, or_false] at hz; unfold In6; omega)) rfl (by omega) (by intro z hz; simp only [List.mem_cons, List.not_mem_nil, or_false] at hz; omega) (ht.new hN)).mono ?_
              rintro e c227 ⟨g2, k2, rfl, own2, al⟩
              clear b4
              have own1 := own_newS own1 al
              have b7 := b7.new al
              replace hN := hN.trans al
              refine hK.out _ _ hN (fun _ => ?_)
              simp only [Act.put, List.setIfInBounds_toArray, List.set_cons_zero, List.set_cons_succ]
              clear al
              refine hw_call 25 (some 36) rfl rfl (by kernel_rfl) (by rfl) (fun K hK => ?_)
              go_simp
              have al := (New.refl c227).alloc (.cells #[.slice (some ⟨g1, 0, none⟩) 2 k1, .slice (some ⟨c213.heap.size, 0, none⟩) 1 1, .slice (some ⟨g2, 0, none⟩) 5 k2] 71)
              have bS := Blk.mk c227 c227.heap.size 71 #[.slice (some ⟨g1, 0, none⟩) 2 k1, .slice (some ⟨c213.heap.size, 0, none⟩) 1 1, .slice (some ⟨g2, 0, none⟩) 5 k2] rfl
              have own1 := own_newS own1 al
              have b7 := b7.new al
              have own2 := own_newS own2 al
              replace hN := hN.trans al
              refine hK.out _ _ hN (fun _ => ?_)
              simp only [Act.put, List.setIfInBounds_toArray, List.set_cons_zero, List.set_cons_succ]
              generalize c227.alloc (.cells #[.slice (some ⟨g1, 0, none⟩) 2 k1, .slice (some ⟨c213.heap.size, 0, none⟩) 1 1, .slice (some ⟨g2, 0, none⟩) 5 k2] 71) = c228 at *
              clear al
              refine hw_call 26 (some 37) rfl rfl (by kernel_rfl) (by rfl) (fun K hK => ?_)
              go_simp
              refine (concat3S c227.heap.size _ _ _ _ _ _ _ _ _ (strV [[110, 111, 100, 101], dg id]) [.string ⟨([100, 111, 119, 110] : List UInt8).toArray⟩] (strV ([115, 116, 97, 110, 100, 98, 121] :: [ep, (m : Int), su, co].map dg)) c228 (bS.cells 0) (bS.cells 1) (bS.cells 2) (rowS own1) rfl (strV_one _) (by intro e; cases e) (by omega) (blkS b7) rfl (by intro u hu; obtain rfl := List.mem_singleton.1 hu; rfl) (by intro e; cases e) (by omega) (rowS own2) rfl (strV_one _) (by intro e; cases e) (by omega)).mono ?_
              rintro e c229 ⟨v, rfl, hv, al⟩
              have hNz := hN.size
              replace hN := hN.trans al
              refine hK.out _ _ hN (fun _ => ?_)
              simp only [Act.put, List.setIfInBounds_toArray, List.set_cons_zero, List.set_cons_succ]
              refine' hw_take 27 (some 2) _ rfl rfl (by kernel_rfl) (by kernel_rfl) (by kernel_rfl) (fun _ _ _ h => h) (by rfl) hN ?hy123 ?rest123
              case hy123 =>
                intro X hX
                go_simp
                try rfl
              simp only [Act.put, List.setIfInBounds_toArray, List.set_cons_zero, List.set_cons_succ]
              refine wpAnyH_done (by kernel_rfl) ?_ _
              clear own1 own2 b7 bS al
              go_wp2
              go_ret
              exact ⟨v, rfl, own_lowS hv hNz, hN⟩
          case t214 =>
            go_simp
            have al := (New.refl c213).alloc (.cells #[.string ⟨([100, 111, 119, 110] : List UInt8).toArray⟩] 9)
            have b70 := Blk.mk c213 c213.heap.size 9 #[.string ⟨([100, 111, 119, 110] : List UInt8).toArray⟩] rfl
            have own1 := own_newS own1 al
            replace hN := hN.trans al
            have b7 := b70
            clear b70
            refine hK.out _ _ hN (fun _ => ?_)
            simp only [Act.put, List.setIfInBounds_toArray, List.set_cons_zero, List.set_cons_succ]
            generalize c213.alloc (.cells #[.string ⟨([100, 111, 119, 110] : List UInt8).toArray⟩] 9) = c216 at *
            clear al
            refine hw_call 14 (some 25) rfl rfl (by kernel_rfl) (by rfl) (fun K hK => ?_)
            go_simp
            refine (cntN G O x m d c216 ((hN.below.cell (World.block_lt_of_cell? _ _ q4)).trans q4)).mono ?_
            rintro e c217 ⟨rfl, hEq⟩
            rw [hEq]
            clear hEq
            refine hK.out _ _ hN (fun _ => ?_)
            simp only [Act.put, List.setIfInBounds_toArray, List.set_cons_zero, List.set_cons_succ]
            refine hw_call 23 (some 34) rfl rfl (by kernel_rfl) (by rfl) (fun K hK => ?_)
            go_simp
            have al := (New.refl c216).alloc (.cells #[.int .i64 ep, .int .i64 m, .int .i64 su, .int .i64 co] 2)
            have b40 := Blk.mk c216 c216.heap.size 2 #[.int .i64 ep, .int .i64 m, .int .i64 su, .int .i64 co] rfl
            have own1 := own_newS own1 al
            have b7 := b7.new al
            replace hN := hN.trans al
            have b4 := b40
            clear b40
            refine hK.out _ _ hN (fun _ => ?_)
            simp only [Act.put, List.setIfInBounds_toArray, List.set_cons_zero, List.set_cons_succ]
            generalize c216.alloc (.cells #[.int .i64 ep, .int .i64 m, .int .i64 su, .int .i64 co] 2) = c218 at *
            clear al
            refine hw_call 24 (some 35) rfl rfl (by kernel_rfl) (by rfl) (fun K hK => ?_)
            go_simp
            refine (wordNum [115, 116, 97, 110, 100, 98, 121] (some ⟨c216.heap.size, 0, none⟩) 4 4 [ep, m, su, co] c218 (nsAt_blk b4 (by intro i z hz; match i, hz with | 0, hz => simpa using hz | 1, hz => simpa using hz | 2, hz => simpa using hz | 3, hz => simpa using hz) (by intro z hz; simp only [List.mem_cons, List.not_mem_nil, or_false] at hz; unfold In6; omega)) rfl (by omega) (by intro z hz; simp only [List.mem_cons, List.not_mem_nil, or_false] at hz; omega) (ht.new hN)).mono ?_
            rintro e c219 ⟨g2, k2, rfl, own2, al⟩
            clear b4
            have own1 := own_newS own1 al
            have b7 := b7.new al
            replace hN := hN.trans al
            refine hK.out _ _ hN (fun _ => ?_)
            simp only [Act.put, List.setIfInBounds_toArray, List.set_cons_zero, List.set_cons_succ]
            clear al
            refine hw_call 25 (some 36) rfl rfl (by kernel_rfl) (by rfl) (fun K hK => ?_)
            go_simp
            have al := (New.refl c219).alloc (.cells #[.slice (some ⟨g1, 0, none⟩) 2 k1, .slice (some ⟨c213.heap.size, 0, none⟩) 1 1, .slice (some ⟨g2, 0, none⟩) 5 k2] 71)
            have bS := Blk.mk c219 c219.heap.size 71 #[.slice (some ⟨g1, 0, none⟩) 2 k1, .slice (some ⟨c213.heap.size, 0, none⟩) 1 1, .slice (some ⟨g2, 0, none⟩) 5 k2] rfl
            have own1 := own_newS own1 al
            have b7 := b7.new al
            have own2 := own_newS own2 al
            replace hN := hN.trans al
            refine hK.out _ _ hN (fun _ => ?_)
            simp only [Act.put, List.setIfInBounds_toArray, List.set_cons_zero, List.set_cons_succ]
            generalize c219.alloc (.cells #[.slice (some ⟨g1, 0, none⟩) 2 k1, .slice (some ⟨c213.heap.size, 0, none⟩) 1 1, .slice (some ⟨g2, 0, none⟩) 5 k2] 71) = c220 at *
            clear al
            refine hw_call 26 (some 37) rfl rfl (by kernel_rfl) (by rfl) (fun K hK => ?_)
            go_simp
            refine (concat3S c219.heap.size _ _ _ _ _ _ _ _ _ (strV [[110, 111, 100, 101], dg id]) [.string ⟨([100, 111, 119, 110] : List UInt8).toArray⟩] (strV ([115, 116, 97, 110, 100, 98, 121] :: [ep, (m : Int), su, co].map dg)) c220 (bS.cells 0) (bS.cells 1) (bS.cells 2) (rowS own1) rfl (strV_one _) (by intro e; cases e) (by omega) (blkS b7) rfl (by intro u hu; obtain rfl := List.mem_singleton.1 hu; rfl) (by intro e; cases e) (by omega) (rowS own2) rfl (strV_one _) (by intro e; cases e) (by omega)).mono ?_
            rintro e c221 ⟨v, rfl, hv, al⟩
            have hNz := hN.size
            replace hN := hN.trans al
            refine hK.out _ _ hN (fun _ => ?_)
            simp only [Act.put, List.setIfInBounds_toArray, List.set_cons_zero, List.set_cons_succ]
            refine' hw_take 27 (some 2) _ rfl rfl (by kernel_rfl) (by kernel_rfl) (by kernel_rfl) (fun _ _ _ h => h) (by rfl) hN ?hy122 ?rest122
            case hy122 =>
              intro X hX
              go_simp
              try rfl
            simp only [Act.put, List.setIfInBounds_toArray, List.set_cons_zero, List.set_cons_succ]
            refine wpAnyH_done (by kernel_rfl) ?_ _
            clear own1 own2 b7 bS al
            go_wp2
            go_ret
            exact ⟨v, rfl, own_lowS hv hNz, hN⟩
        case t205 =>
          go_simp
          have al := (New.refl c203).alloc (.cells #[.string ⟨([100, 111, 119, 110] : List UInt8).toArray⟩] 9)
          have b70 := Blk.mk c203 c203.heap.size 9 #[.string ⟨([100, 111, 119, 110] : List UInt8).toArray⟩] rfl
          have bI := bI.new al
          replace hN := hN.trans al
          have b7 := b70
          clear b70
          refine hK.out _ _ hN (fun _ => ?_)
          simp only [Act.put, List.setIfInBounds_toArray, List.set_cons_zero, List.set_cons_succ]
          generalize c203.alloc (.cells #[.string ⟨([100, 111, 119, 110] : List UInt8).toArray⟩] 9) = c206 at *
          clear al
          refine hw_call 5 (some 16) rfl rfl (by kernel_rfl) (by rfl) (fun K hK => ?_)
          go_simp
          refine (wordNum [110, 111, 100, 101] (some ⟨c0.heap.size, 0, none⟩) 1 1 [id] c206 (nsAt_blk bI (by intro i z hz; match i, hz with | 0, hz => simpa using hz) (by intro z hz; obtain rfl := List.mem_singleton.1 hz; unfold In6; omega)) rfl (by omega) (by intro z hz; obtain rfl := List.mem_singleton.1 hz; omega) (ht.new hN)).mono ?_
          rintro e c207 ⟨g1, k1, rfl, own1, al⟩
          clear bI
          have b7 := b7.new al
          replace hN := hN.trans al
          refine hK.out _ _ hN (fun _ => ?_)
          simp only [Act.put, List.setIfInBounds_toArray, List.set_cons_zero, List.set_cons_succ]
          clear al
          refine hw_call 14 (some 25) rfl rfl (by kernel_rfl) (by rfl) (fun K hK => ?_)
          go_simp
          refine (cntN G O x m d c207 ((hN.below.cell (World.block_lt_of_cell? _ _ q4)).trans q4)).mono ?_
          rintro e c208 ⟨rfl, hEq⟩
          rw [hEq]
          clear hEq
          refine hK.out _ _ hN (fun _ => ?_)
          simp only [Act.put, List.setIfInBounds_toArray, List.set_cons_zero, List.set_cons_succ]
          refine hw_call 23 (some 34) rfl rfl (by kernel_rfl) (by rfl) (fun K hK => ?_)
          go_simp
          have al := (New.refl c207).alloc (.cells #[.int .i64 ep, .int .i64 m, .int .i64 su, .int .i64 co] 2)
          have b40 := Blk.mk c207 c207.heap.size 2 #[.int .i64 ep, .int .i64 m, .int .i64 su, .int .i64 co] rfl
          have own1 := own_newS own1 al
          have b7 := b7.new al
          replace hN := hN.trans al
          have b4 := b40
          clear b40
          refine hK.out _ _ hN (fun _ => ?_)
          simp only [Act.put, List.setIfInBounds_toArray, List.set_cons_zero, List.set_cons_succ]
          generalize c207.alloc (.cells #[.int .i64 ep, .int .i64 m, .int .i64 su, .int .i64 co] 2) = c209 at *
          clear al
          refine hw_call 24 (some 35) rfl rfl (by kernel_rfl) (by rfl) (fun K hK => ?_)
          go_simp
          refine (wordNum [115, 116, 97, 110, 100, 98, 121] (some ⟨c207.heap.size, 0, none⟩) 4 4 [ep, m, su, co] c209 (nsAt_blk b4 (by intro i z hz; match i, hz with | 0, hz => simpa using hz | 1, hz => simpa using hz | 2, hz => simpa using hz | 3, hz => simpa using hz) (by intro z hz; simp only [List.mem_cons, List.not_mem_nil, or_false] at hz; unfold In6; omega)) rfl (by omega) (by intro z hz; simp only [List.mem_cons, List.not_mem_nil, or_false] at hz; omega) (ht.new hN)).mono ?_
          rintro e c210 ⟨g2, k2, rfl, own2, al⟩
          clear b4
          have own1 := own_newS own1 al
          have b7 := b7.new al
          replace hN := hN.trans al
          refine hK.out _ _ hN (fun _ => ?_)
          simp only [Act.put, List.setIfInBounds_toArray, List.set_cons_zero, List.set_cons_succ]
          clear al
          refine hw_call 25 (some 36) rfl rfl (by kernel_rfl) (by rfl) (fun K hK => ?_)
          go_simp
          have al := (New.refl c210).alloc (.cells #[.slice (some ⟨g1, 0, none⟩) 2 k1, .slice (some ⟨c203.heap.size, 0, none⟩) 1 1, .slice (some ⟨g2, 0, none⟩) 5 k2] 71)
          have bS := Blk.mk c210 c210.heap.size 71 #[.slice (some ⟨g1, 0, none⟩) 2 k1, .slice (some ⟨c203.heap.size, 0, none⟩) 1 1, .slice (some ⟨g2, 0, none⟩) 5 k2] rfl
          have own1 := own_newS own1 al
          have b7 := b7.new al
          have own2 := own_newS own2 al
          replace hN := hN.trans al
          refine hK.out _ _ hN (fun _ => ?_)
          simp only [Act.put, List.setIfInBounds_toArray, List.set_cons_zero, List.set_cons_succ]
          generalize c210.alloc (.cells #[.slice (some ⟨g1, 0, none⟩) 2 k1, .slice (some ⟨c203.heap.size, 0, none⟩) 1 1, .slice (some ⟨g2, 0, none⟩) 5 k2] 71) = c211 at *
          clear al
          refine hw_call 26 (some 37) rfl rfl (by kernel_rfl) (by rfl) (fun K hK => ?_)
          go_simp
          refine (concat3S c210.heap.size _ _ _ _ _ _ _ _ _ (strV [[110, 111, 100, 101], dg id]) [.string ⟨([100, 111, 119, 110] : List UInt8).toArray⟩] (strV ([115, 116, 97, 110, 100, 98, 121] :: [ep, (m : Int), su, co].map dg)) c211 (bS.cells 0) (bS.cells 1) (bS.cells 2) (rowS own1) rfl (strV_one _) (by intro e; cases e) (by omega) (blkS b7) rfl (by intro u hu; obtain rfl := List.mem_singleton.1 hu; rfl) (by intro e; cases e) (by omega) (rowS own2) rfl (strV_one _) (by intro e; cases e) (by omega)).mono ?_
          rintro e c212 ⟨v, rfl, hv, al⟩
          have hNz := hN.size
          replace hN := hN.trans al
          refine hK.out _ _ hN (fun _ => ?_)
          simp only [Act.put, List.setIfInBounds_toArray, List.set_cons_zero, List.set_cons_succ]
          refine' hw_take 27 (some 2) _ rfl rfl (by kernel_rfl) (by kernel_rfl) (by kernel_rfl) (fun _ _ _ h => h) (by rfl) hN ?hy121 ?rest121
          case hy121 =>
            intro X hX
            go_simp
            try rfl
          simp only [Act.put, List.setIfInBounds_toArray, List.set_cons_zero, List.set_cons_succ]
          refine wpAnyH_done (by kernel_rfl) ?_ _
          clear own1 own2 b7 bS al
          go_wp2
          go_ret
          exact ⟨v, rfl, own_lowS hv hNz, hN⟩
      case t194 =>
        go_simp
        have al := (New.refl c0).alloc (.cells #[.string ⟨([100, 111, 119, 110] : List UInt8).toArray⟩] 9)
        have b70 := Blk.mk c0 c0.heap.size 9 #[.string ⟨([100, 111, 119, 110] : List UInt8).toArray⟩] rfl
        replace hN := hN.trans al
        have b7 := b70
        clear b70
        refine hK.out _ _ hN (fun _ => ?_)
        simp only [Act.put, List.setIfInBounds_toArray, List.set_cons_zero, List.set_cons_succ]
        generalize c0.alloc (.cells #[.string ⟨([100, 111, 119, 110] : List UInt8).toArray⟩] 9) = c195 at *
        clear al
        refine hw_call 4 (some 15) rfl rfl (by kernel_rfl) (by rfl) (fun K hK => ?_)
        go_simp
        have al := (New.refl c195).alloc (.cells #[.int .i64 id] 2)
        have bI0 := Blk.mk c195 c195.heap.size 2 #[.int .i64 id] rfl
        have b7 := b7.new al
        replace hN := hN.trans al
        have bI := bI0
        clear bI0
        refine hK.out _ _ hN (fun _ => ?_)
        simp only [Act.put, List.setIfInBounds_toArray, List.set_cons_zero, List.set_cons_succ]
        generalize c195.alloc (.cells #[.int .i64 id] 2) = c196 at *
        clear al
        refine hw_call 5 (some 16) rfl rfl (by kernel_rfl) (by rfl) (fun K hK => ?_)
        go_simp
        refine (wordNum [110, 111, 100, 101] (some ⟨c195.heap.size, 0, none⟩) 1 1 [id] c196 (nsAt_blk bI (by intro i z hz; match i, hz with | 0, hz => simpa using hz) (by intro z hz; obtain rfl := List.mem_singleton.1 hz; unfold In6; omega)) rfl (by omega) (by intro z hz; obtain rfl := List.mem_singleton.1 hz; omega) (ht.new hN)).mono ?_
        rintro e c197 ⟨g1, k1, rfl, own1, al⟩
        clear bI
        have b7 := b7.new al
        replace hN := hN.trans al
        refine hK.out _ _ hN (fun _ => ?_)
        simp only [Act.put, List.setIfInBounds_toArray, List.set_cons_zero, List.set_cons_succ]
        clear al
        refine hw_call 14 (some 25) rfl rfl (by kernel_rfl) (by rfl) (fun K hK => ?_)
        go_simp
        refine (cntN G O x m d c197 ((hN.below.cell (World.block_lt_of_cell? _ _ q4)).trans q4)).mono ?_
        rintro e c198 ⟨rfl, hEq⟩
        rw [hEq]
        clear hEq
        refine hK.out _ _ hN (fun _ => ?_)
        simp only [Act.put, List.setIfInBounds_toArray, List.set_cons_zero, List.set_cons_succ]
        refine hw_call 23 (some 34) rfl rfl (by kernel_rfl) (by rfl) (fun K hK => ?_)
        go_simp
        have al := (New.refl c197).alloc (.cells #[.int .i64 ep, .int .i64 m, .int .i64 su, .int .i64 co] 2)
        have b40 := Blk.mk c197 c197.heap.size 2 #[.int .i64 ep, .int .i64 m, .int .i64 su, .int .i64 co] rfl
        have own1 := own_newS own1 al
        have b7 := b7.new al
        replace hN := hN.trans al
        have b4 := b40
        clear b40
        refine hK.out _ _ hN (fun _ => ?_)
        simp only [Act.put, List.setIfInBounds_toArray, List.set_cons_zero, List.set_cons_succ]
        generalize c197.alloc (.cells #[.int .i64 ep, .int .i64 m, .int .i64 su, .int .i64 co] 2) = c199 at *
        clear al
        refine hw_call 24 (some 35) rfl rfl (by kernel_rfl) (by rfl) (fun K hK => ?_)
        go_simp
        refine (wordNum [115, 116, 97, 110, 100, 98, 121] (some ⟨c197.heap.size, 0, none⟩) 4 4 [ep, m, su, co] c199 (nsAt_blk b4 (by intro i z hz; match i, hz with | 0, hz => simpa using hz | 1, hz => simpa using hz | 2, hz => simpa using hz | 3, hz => simpa using hz) (by intro z hz; simp only [List.mem_cons, List.not_mem_nil, or_false] at hz; unfold In6; omega)) rfl (by omega) (by intro z hz; simp only [List.mem_cons, List.not_mem_nil, or_false] at hz; omega) (ht.new hN)).mono ?_
        rintro e c200 ⟨g2, k2, rfl, own2, al⟩
        clear b4
        have own1 := own_newS own1 al
        have b7 := b7.new al
        replace hN := hN.trans al
        refine hK.out _ _ hN (fun _ => ?_)
        simp only [Act.put, List.setIfInBounds_toArray, List.set_cons_zero, List.set_cons_succ]
        clear al
        refine hw_call 25 (some 36) rfl rfl (by kernel_rfl) (by rfl) (fun K hK => ?_)
        go_simp
        have al := (New.refl c200).alloc (.cells #[.slice (some ⟨g1, 0, none⟩) 2 k1, .slice (some ⟨c0.heap.size, 0, none⟩) 1 1, .slice (some ⟨g2, 0, none⟩) 5 k2] 71)
        have bS := Blk.mk c200 c200.heap.size 71 #[.slice (some ⟨g1, 0, none⟩) 2 k1, .slice (some ⟨c0.heap.size, 0, none⟩) 1 1, .slice (some ⟨g2, 0, none⟩) 5 k2] rfl
        have own1 := own_newS own1 al
        have b7 := b7.new al
        have own2 := own_newS own2 al
        replace hN := hN.trans al
        refine hK.out _ _ hN (fun _ => ?_)
        simp only [Act.put, List.setIfInBounds_toArray, List.set_cons_zero, List.set_cons_succ]
        generalize c200.alloc (.cells #[.slice (some ⟨g1, 0, none⟩) 2 k1, .slice (some ⟨c0.heap.size, 0, none⟩) 1 1, .slice (some ⟨g2, 0, none⟩) 5 k2] 71) = c201 at *
        clear al
        refine hw_call 26 (some 37) rfl rfl (by kernel_rfl) (by rfl) (fun K hK => ?_)
        go_simp
        refine (concat3S c200.heap.size _ _ _ _ _ _ _ _ _ (strV [[110, 111, 100, 101], dg id]) [.string ⟨([100, 111, 119, 110] : List UInt8).toArray⟩] (strV ([115, 116, 97, 110, 100, 98, 121] :: [ep, (m : Int), su, co].map dg)) c201 (bS.cells 0) (bS.cells 1) (bS.cells 2) (rowS own1) rfl (strV_one _) (by intro e; cases e) (by omega) (blkS b7) rfl (by intro u hu; obtain rfl := List.mem_singleton.1 hu; rfl) (by intro e; cases e) (by omega) (rowS own2) rfl (strV_one _) (by intro e; cases e) (by omega)).mono ?_
        rintro e c202 ⟨v, rfl, hv, al⟩
        have hNz := hN.size
        replace hN := hN.trans al
        refine hK.out _ _ hN (fun _ => ?_)
        simp only [Act.put, List.setIfInBounds_toArray, List.set_cons_zero, List.set_cons_succ]
        refine' hw_take 27 (some 2) _ rfl rfl (by kernel_rfl) (by kernel_rfl) (by kernel_rfl) (fun _ _ _ h => h) (by rfl) hN ?hy120 ?rest120
        case hy120 =>
          intro X hX
          go_simp
          try rfl
        simp only [Act.put, List.setIfInBounds_toArray, List.set_cons_zero, List.set_cons_succ]
        refine wpAnyH_done (by kernel_rfl) ?_ _
        clear own1 own2 b7 bS al
        go_wp2
        go_ret
        exact ⟨v, rfl, own_lowS hv hNz, hN⟩

end Go.Proofs.YtlkhmnjghdbmoaaGreatDoor
