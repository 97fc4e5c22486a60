/- What is proved here: which route of a list the model takes for a prefix, for lists of at most 1048576 routes with paths of at most 1048576 numbers. -/
import Derived.Test.YtkaaefieglhdlaaH8Bf
import Derived.Deep.RegionHeld3
namespace Go.Proofs.Ytkaaefieglhdlaa
open Go.RowKit Go.Sort
set_option linter.unusedVariables false
set_option linter.unusedSimpArgs false

/-- An operation whose guard says no is left out. -/
theorem hw_skip {P : Program} {ops : Array Oper} {Q : Exit → Act → World → Prop} {md : Region.Mode} {S : World → Prop} {fuel : Nat} {listed : Array Bool} {a : Act} {w : World} (i : Nat) (d : Option Tmp) {oi : Oper} (hi : ops[i]? = some oi) (hd : oi.dst = d)
    (hs : Region.noSelect ops = true) (hf : Region.free md ops listed i = true) (hr : (Region.ready md ops listed).contains i = true)
    (hQ : ∀ c a w, Q (.panic c) (a.put d undef) w → Q (.panic c) a w) (hw : Region.wanted oi (yielded ops a.tmps) = false) (hS : S w)
    (h : wpAnyH P md ops Q S fuel (listed.setIfInBounds i true) (a.put d undef) w) : wpAnyH P md ops Q S (fuel + 1) listed a w := by
  subst hd
  exact wpAnyH_take hi hs hf hr hQ (.inr ⟨hw, rfl⟩) hS h

/-- Worth. -/
def cW (r s : Rt) : Int := cmpW r.p r.o r.md r.lc r.xs.length s.p s.o s.md s.lc s.xs.length

/-- The best among the first ones. -/
def LbK (V : List Rv) (a0 l0 : Int) (k : Nat) (t : Int) : Prop := (t = -1 ∧ ∀ j v, j < k → V[j]? = some v → keepS a0 l0 v.r = false) ∨ ∃ (i : Nat) (v : Rv), t = (i : Int) ∧ V[i]? = some v ∧ keepS a0 l0 v.r = true ∧ ∀ j u, j < k → V[j]? = some u → keepS a0 l0 u.r = true → ¬ cW u.r v.r < 0

theorem LbK.skip {V : List Rv} {a0 l0 : Int} {k : Nat} {t : Int} (h : LbK V a0 l0 k t) {v : Rv} (hv : V[k]? = some v) (hk : keepS a0 l0 v.r = false) : LbK V a0 l0 (k + 1) t := by
  have key : ∀ j u, j < k + 1 → V[j]? = some u → j < k ∨ u = v := fun j u hj hu => by
    rcases Nat.lt_or_ge j k with e | e
    · exact .inl e
    · obtain rfl : j = k := by omega
      rw [hv] at hu
      exact .inr (Option.some.inj hu).symm
  rcases h with ⟨h1, h2⟩ | ⟨i, u, h1, h2, h3, h4⟩
  · exact .inl ⟨h1, fun j u hj hu => by
      rcases key j u hj hu with e | rfl
      · exact h2 j u e hu
      · exact hk⟩
  · exact .inr ⟨i, u, h1, h2, h3, fun j x hj hx hx2 => by
      rcases key j x hj hx with e | rfl
      · exact h4 j x e hx hx2
      · rw [hk] at hx2; cases hx2⟩
theorem LbK.stay {V : List Rv} {a0 l0 : Int} {k i : Nat} {v u : Rv} (h : LbK V a0 l0 k (i : Int)) (hv : V[k]? = some v) (hu : V[i]? = some u) (hc : ¬ cW v.r u.r < 0) : LbK V a0 l0 (k + 1) (i : Int) := by
  rcases h with ⟨h1, -⟩ | ⟨i', u', h1, h2, h3, h4⟩
  · omega
  · obtain rfl : i = i' := by omega
    rw [hu] at h2
    obtain rfl := Option.some.inj h2
    refine .inr ⟨i, u, rfl, hu, h3, fun j x hj hx hx2 => ?_⟩
    rcases Nat.lt_or_ge j k with e | e
    · exact h4 j x e hx hx2
    · obtain rfl : j = k := by omega
      rw [hv] at hx
      obtain rfl := Option.some.inj hx
      exact hc
theorem LbK.first {V : List Rv} {a0 l0 : Int} {k : Nat} {v : Rv} (h : LbK V a0 l0 k (-1)) (hv : V[k]? = some v) (hk : keepS a0 l0 v.r = true) : LbK V a0 l0 (k + 1) (k : Int) := by
  rcases h with ⟨-, h2⟩ | ⟨i', u', h1, -⟩
  · refine .inr ⟨k, v, rfl, hv, hk, fun j x hj hx hx2 => ?_⟩
    rcases Nat.lt_or_ge j k with e | e
    · rw [h2 j x e hx] at hx2; cases hx2
    · obtain rfl : j = k := by omega
      rw [hv] at hx
      obtain rfl := Option.some.inj hx
      exact cmpW_irr _ _ _ _ _
  · omega
theorem cW_tr {r s t : Rt} (h : ¬ cW r s < 0) (k : cW t s < 0) : ¬ cW r t < 0 := by
  unfold cW at h k ⊢
  rw [cmpW_lt] at h k ⊢
  omega
theorem LbK.take {V : List Rv} {a0 l0 : Int} {k i : Nat} {v u : Rv} (h : LbK V a0 l0 k (i : Int)) (hv : V[k]? = some v) (hk : keepS a0 l0 v.r = true) (hu : V[i]? = some u) (hc : cW v.r u.r < 0) : LbK V a0 l0 (k + 1) (k : Int) := by
  rcases h with ⟨h1, -⟩ | ⟨i', u', h1, h2, h3, h4⟩
  · omega
  · obtain rfl : i = i' := by omega
    rw [hu] at h2
    obtain rfl := Option.some.inj h2
    refine .inr ⟨k, v, rfl, hv, hk, fun j x hj hx hx2 => ?_⟩
    rcases Nat.lt_or_ge j k with e | e
    · exact cW_tr (h4 j x e hx hx2) hc
    · obtain rfl : j = k := by omega
      rw [hv] at hx
      obtain rfl := Option.some.inj hx
      exact cmpW_irr _ _ _ _ _

set_option maxRecDepth 100000 in
set_option maxHeartbeats 12800000 in
theorem l7Best_any (a0 l0 : Int) (A : Option Addr) (N cc : Nat) (V : List Rv) (w : World) (h : RtAt w A V) (hn : V.length = N) (hm : N ≤ 1048576) :
    Calls Try.prog 23 #[.slice A N cc, .agg #[.int .i64 a0, .int .i64 l0]] w fun e w' => ∃ t, e = .returned (.int .i64 t) ∧ LbK V a0 l0 N t ∧ New w w' := by
  have HN : Hid (V.length = N) := hn
  have HA : Hid (∀ X, New w X → RtAt X A V) := fun X hX => h.new hX
  have N0 : New w (w.alloc (.cells #[.int .i64 a0, .int .i64 l0] 26)) := (New.refl w).alloc _
  have bP := Blk.mk w w.heap.size 26 #[.int .i64 a0, .int .i64 l0] rfl
  have HP : Hid (∀ X, New (w.alloc (.cells #[.int .i64 a0, .int .i64 l0] 26)) X → Blk X w.heap.size 26 #[.int .i64 a0, .int .i64 l0]) := fun X hX => bP.new hX
  clear h hn bP
  go_enter Try.func23, Try.ntmps23
  go_upto_region 2 with fail
  generalize w.alloc (.cells #[.int .i64 a0, .int .i64 l0] 26) = w0 at *
  go_wp2_with fail
  go_loopw [5, 6] (fun t i wr => ∃ (k : Nat) (tt : Int), k ≤ N ∧ i = .int .i64 k ∧ t = .int .i64 tt ∧ LbK V a0 l0 k tt ∧ New w0 wr) (fun _ i _ => N - (intOf i).toNat)
  case atStart => exact ⟨0, -1, Nat.zero_le _, rfl, rfl, .inl ⟨rfl, fun j v hj => by omega⟩, New.refl _⟩
  case round =>
    obtain ⟨k, tt, hk, rfl, rfl, hL, hnw⟩ := hrel
    have HL : Hid (LbK V a0 l0 k tt) := hL
    have N1 := N0.trans hnw
    have bP := HP.out _ hnw
    have cP0 : wr.cell? ⟨w.heap.size, 0, none⟩ = some (.int .i64 a0) := bP.cells 0
    have cP1 : wr.cell? ⟨w.heap.size, 1, none⟩ = some (.int .i64 l0) := bP.cells 1
    clear hL
    by_cases hlt : k < N
    case neg =>
      obtain rfl : k = N := by omega
      clear cP0 cP1 bP
      go_wp2
      go_ret
      exact ⟨tt, rfl, HL.out, N1⟩
    case pos =>
      obtain ⟨b, off, p, a, l, o, nx, md, lc, x, m, d, xs, rfl, hv, hlen, hns, hnl, hmx, q0, q1, q2, q3, q4, q5, q6, q7⟩ := (HA.out _ N1).at k (by have := HN.out; omega)
      have HV : Hid (V[k]? = some ⟨⟨p, a, l, o, xs, nx, md, lc⟩, x, d⟩) := hv
      have HLN : Hid (xs.length = m) := hlen
      clear hv hlen hns hnl
      have d1 := (New.refl wr).drew
      have e0 : ∀ j v, wr.cell? ⟨b, j, none⟩ = some v → wr.drew.cell? ⟨b, j, none⟩ = some v := fun j v hc => (d1.below.cell (World.block_lt_of_cell? _ _ hc)).trans hc
      have f0 : ∀ j v, wr.cell? ⟨w.heap.size, j, none⟩ = some v → wr.drew.cell? ⟨w.heap.size, j, none⟩ = some v := fun j v hc => (d1.below.cell (World.block_lt_of_cell? _ _ hc)).trans hc
      have hk0 : (0 : Int) ≤ (k : Int) := by omega
      have hk1 : (k : Int) < (N : Int) := by omega
      by_cases hka : a = a0
      case neg =>
        have HK : Hid (keepS a0 l0 ⟨p, a, l, o, xs, nx, md, lc⟩ = false) := by unfold Hid keepS; simp; omega
        go_upto_region 5 with fail
        refine hw_start (n := 22) (S := fun X => New wr X) rfl (by kernel_rfl) ((New.refl wr).drew) (fun hH => ?_)
        refine' hw_take 0 (some 13) _ rfl rfl (by kernel_rfl) (by kernel_rfl) (by kernel_rfl) (fun _ _ _ h => h) (by rfl) hH ?hy1 ?rest1
        case hy1 =>
          intro X hX
          go_simp
          try rfl
        simp only [Act.put, List.setIfInBounds_toArray, List.set_cons_zero, List.set_cons_succ]
        refine' hw_take 1 (some 14) _ rfl rfl (by kernel_rfl) (by kernel_rfl) (by kernel_rfl) (fun _ _ _ h => h) (by rfl) hH ?hy2 ?rest2
        case hy2 =>
          intro X hX
          go_simp
          try rfl
        simp only [Act.put, List.setIfInBounds_toArray, List.set_cons_zero, List.set_cons_succ]
        refine' hw_take 2 (some 15) _ rfl rfl (by kernel_rfl) (by kernel_rfl) (by kernel_rfl) (fun _ _ _ h => h) (by rfl) hH ?hy3 ?rest3
        case hy3 =>
          intro X hX
          go_simp
          try rfl
        simp only [Act.put, List.setIfInBounds_toArray, List.set_cons_zero, List.set_cons_succ]
        refine' hw_take 3 (some 16) _ rfl rfl (by kernel_rfl) (by kernel_rfl) (by kernel_rfl) (fun _ _ _ h => h) (by rfl) hH ?hy4 ?rest4
        case hy4 =>
          intro X hX
          go_simp
          try rfl
        simp only [Act.put, List.setIfInBounds_toArray, List.set_cons_zero, List.set_cons_succ]
        refine' hw_take 4 (some 17) _ rfl rfl (by kernel_rfl) (by kernel_rfl) (by kernel_rfl) (fun _ _ _ h => h) (by rfl) hH ?hy5 ?rest5
        case hy5 =>
          intro X hX
          have q1X := (hX.below.cell (World.block_lt_of_cell? _ _ q1)).trans q1
          have q2X := (hX.below.cell (World.block_lt_of_cell? _ _ q2)).trans q2
          go_simp
          try rfl
        simp only [Act.put, List.setIfInBounds_toArray, List.set_cons_zero, List.set_cons_succ]
        refine' hw_take 5 (some 18) _ rfl rfl (by kernel_rfl) (by kernel_rfl) (by kernel_rfl) (fun _ _ _ h => h) (by rfl) hH ?hy6 ?rest6
        case hy6 =>
          intro X hX
          have cP0X := (hX.below.cell (World.block_lt_of_cell? _ _ cP0)).trans cP0
          have cP1X := (hX.below.cell (World.block_lt_of_cell? _ _ cP1)).trans cP1
          go_simp
          try rfl
        simp only [Act.put, List.setIfInBounds_toArray, List.set_cons_zero, List.set_cons_succ]
        refine' hw_take 6 (some 19) _ rfl rfl (by kernel_rfl) (by kernel_rfl) (by kernel_rfl) (fun _ _ _ h => h) (by rfl) hH ?hy7 ?rest7
        case hy7 =>
          intro X hX
          go_simp
          try rfl
        simp only [Act.put, List.setIfInBounds_toArray, List.set_cons_zero, List.set_cons_succ]
        refine' hw_take 7 (some 20) _ rfl rfl (by kernel_rfl) (by kernel_rfl) (by kernel_rfl) (fun _ _ _ h => h) (by rfl) hH ?hy8 ?rest8
        case hy8 =>
          intro X hX
          go_simp
          try rfl
        simp only [Act.put, List.setIfInBounds_toArray, List.set_cons_zero, List.set_cons_succ]
        refine hw_skip 8 (some 21) rfl rfl (by kernel_rfl) (by kernel_rfl) (by kernel_rfl) (fun _ _ _ h => h) (by rfl) hH ?_
        simp only [Act.put, List.setIfInBounds_toArray, List.set_cons_zero, List.set_cons_succ]
        refine hw_skip 9 (some 22) rfl rfl (by kernel_rfl) (by kernel_rfl) (by kernel_rfl) (fun _ _ _ h => h) (by rfl) hH ?_
        simp only [Act.put, List.setIfInBounds_toArray, List.set_cons_zero, List.set_cons_succ]
        refine hw_skip 10 (some 23) rfl rfl (by kernel_rfl) (by kernel_rfl) (by kernel_rfl) (fun _ _ _ h => h) (by rfl) hH ?_
        simp only [Act.put, List.setIfInBounds_toArray, List.set_cons_zero, List.set_cons_succ]
        refine hw_skip 11 (some 24) rfl rfl (by kernel_rfl) (by kernel_rfl) (by kernel_rfl) (fun _ _ _ h => h) (by rfl) hH ?_
        simp only [Act.put, List.setIfInBounds_toArray, List.set_cons_zero, List.set_cons_succ]
        refine hw_skip 12 (some 25) rfl rfl (by kernel_rfl) (by kernel_rfl) (by kernel_rfl) (fun _ _ _ h => h) (by rfl) hH ?_
        simp only [Act.put, List.setIfInBounds_toArray, List.set_cons_zero, List.set_cons_succ]
        refine hw_skip 13 (some 26) rfl rfl (by kernel_rfl) (by kernel_rfl) (by kernel_rfl) (fun _ _ _ h => h) (by rfl) hH ?_
        simp only [Act.put, List.setIfInBounds_toArray, List.set_cons_zero, List.set_cons_succ]
        refine hw_skip 14 (some 27) rfl rfl (by kernel_rfl) (by kernel_rfl) (by kernel_rfl) (fun _ _ _ h => h) (by rfl) hH ?_
        simp only [Act.put, List.setIfInBounds_toArray, List.set_cons_zero, List.set_cons_succ]
        refine hw_skip 15 (some 28) rfl rfl (by kernel_rfl) (by kernel_rfl) (by kernel_rfl) (fun _ _ _ h => h) (by rfl) hH ?_
        simp only [Act.put, List.setIfInBounds_toArray, List.set_cons_zero, List.set_cons_succ]
        refine hw_skip 16 (some 29) rfl rfl (by kernel_rfl) (by kernel_rfl) (by kernel_rfl) (fun _ _ _ h => h) (by rfl) hH ?_
        simp only [Act.put, List.setIfInBounds_toArray, List.set_cons_zero, List.set_cons_succ]
        refine hw_skip 17 (some 30) rfl rfl (by kernel_rfl) (by kernel_rfl) (by kernel_rfl) (fun _ _ _ h => h) (by rfl) hH ?_
        simp only [Act.put, List.setIfInBounds_toArray, List.set_cons_zero, List.set_cons_succ]
        refine hw_skip 18 (some 31) rfl rfl (by kernel_rfl) (by kernel_rfl) (by kernel_rfl) (fun _ _ _ h => h) (by rfl) hH ?_
        simp only [Act.put, List.setIfInBounds_toArray, List.set_cons_zero, List.set_cons_succ]
        refine hw_skip 19 (some 32) rfl rfl (by kernel_rfl) (by kernel_rfl) (by kernel_rfl) (fun _ _ _ h => h) (by rfl) hH ?_
        simp only [Act.put, List.setIfInBounds_toArray, List.set_cons_zero, List.set_cons_succ]
        refine hw_skip 20 (some 33) rfl rfl (by kernel_rfl) (by kernel_rfl) (by kernel_rfl) (fun _ _ _ h => h) (by rfl) hH ?_
        simp only [Act.put, List.setIfInBounds_toArray, List.set_cons_zero, List.set_cons_succ]
        refine' hw_take 21 (some 34) _ rfl rfl (by kernel_rfl) (by kernel_rfl) (by kernel_rfl) (fun _ _ _ h => h) (by rfl) hH ?hy9 ?rest9
        case hy9 =>
          intro X hX
          go_simp
          try rfl
        simp only [Act.put, List.setIfInBounds_toArray, List.set_cons_zero, List.set_cons_succ]
        refine wpAnyH_done (by kernel_rfl) ?_ _
        go_wp2
        go_roundw
        case rel => exact ⟨k + 1, tt, by omega, by go_num, rfl, HL.out.skip HV.out HK.out, hnw.trans d1⟩
        case measure => simp [intOf]; omega
      case pos =>
        by_cases hkl : l = l0
        case neg =>
          have HK : Hid (keepS a0 l0 ⟨p, a, l, o, xs, nx, md, lc⟩ = false) := by unfold Hid keepS; simp; omega
          subst hka
          go_upto_region 5 with fail
          refine hw_start (n := 22) (S := fun X => New wr X) rfl (by kernel_rfl) ((New.refl wr).drew) (fun hH => ?_)
          refine' hw_take 0 (some 13) _ rfl rfl (by kernel_rfl) (by kernel_rfl) (by kernel_rfl) (fun _ _ _ h => h) (by rfl) hH ?hy10 ?rest10
          case hy10 =>
            intro X hX
            go_simp
            try rfl
          simp only [Act.put, List.setIfInBounds_toArray, List.set_cons_zero, List.set_cons_succ]
          refine' hw_take 1 (some 14) _ rfl rfl (by kernel_rfl) (by kernel_rfl) (by kernel_rfl) (fun _ _ _ h => h) (by rfl) hH ?hy11 ?rest11
          case hy11 =>
            intro X hX
            go_simp
            try rfl
          simp only [Act.put, List.setIfInBounds_toArray, List.set_cons_zero, List.set_cons_succ]
          refine' hw_take 2 (some 15) _ rfl rfl (by kernel_rfl) (by kernel_rfl) (by kernel_rfl) (fun _ _ _ h => h) (by rfl) hH ?hy12 ?rest12
          case hy12 =>
            intro X hX
            go_simp
            try rfl
          simp only [Act.put, List.setIfInBounds_toArray, List.set_cons_zero, List.set_cons_succ]
          refine' hw_take 3 (some 16) _ rfl rfl (by kernel_rfl) (by kernel_rfl) (by kernel_rfl) (fun _ _ _ h => h) (by rfl) hH ?hy13 ?rest13
          case hy13 =>
            intro X hX
            go_simp
            try rfl
          simp only [Act.put, List.setIfInBounds_toArray, List.set_cons_zero, List.set_cons_succ]
          refine' hw_take 4 (some 17) _ rfl rfl (by kernel_rfl) (by kernel_rfl) (by kernel_rfl) (fun _ _ _ h => h) (by rfl) hH ?hy14 ?rest14
          case hy14 =>
            intro X hX
            have q1X := (hX.below.cell (World.block_lt_of_cell? _ _ q1)).trans q1
            have q2X := (hX.below.cell (World.block_lt_of_cell? _ _ q2)).trans q2
            go_simp
            try rfl
          simp only [Act.put, List.setIfInBounds_toArray, List.set_cons_zero, List.set_cons_succ]
          refine' hw_take 5 (some 18) _ rfl rfl (by kernel_rfl) (by kernel_rfl) (by kernel_rfl) (fun _ _ _ h => h) (by rfl) hH ?hy15 ?rest15
          case hy15 =>
            intro X hX
            have cP0X := (hX.below.cell (World.block_lt_of_cell? _ _ cP0)).trans cP0
            have cP1X := (hX.below.cell (World.block_lt_of_cell? _ _ cP1)).trans cP1
            go_simp
            try rfl
          simp only [Act.put, List.setIfInBounds_toArray, List.set_cons_zero, List.set_cons_succ]
          refine' hw_take 6 (some 19) _ rfl rfl (by kernel_rfl) (by kernel_rfl) (by kernel_rfl) (fun _ _ _ h => h) (by rfl) hH ?hy16 ?rest16
          case hy16 =>
            intro X hX
            go_simp
            try rfl
          simp only [Act.put, List.setIfInBounds_toArray, List.set_cons_zero, List.set_cons_succ]
          refine' hw_take 7 (some 20) _ rfl rfl (by kernel_rfl) (by kernel_rfl) (by kernel_rfl) (fun _ _ _ h => h) (by rfl) hH ?hy17 ?rest17
          case hy17 =>
            intro X hX
            go_simp
            try rfl
          simp only [Act.put, List.setIfInBounds_toArray, List.set_cons_zero, List.set_cons_succ]
          refine hw_skip 8 (some 21) rfl rfl (by kernel_rfl) (by kernel_rfl) (by kernel_rfl) (fun _ _ _ h => h) (by rfl) hH ?_
          simp only [Act.put, List.setIfInBounds_toArray, List.set_cons_zero, List.set_cons_succ]
          refine hw_skip 9 (some 22) rfl rfl (by kernel_rfl) (by kernel_rfl) (by kernel_rfl) (fun _ _ _ h => h) (by rfl) hH ?_
          simp only [Act.put, List.setIfInBounds_toArray, List.set_cons_zero, List.set_cons_succ]
          refine hw_skip 10 (some 23) rfl rfl (by kernel_rfl) (by kernel_rfl) (by kernel_rfl) (fun _ _ _ h => h) (by rfl) hH ?_
          simp only [Act.put, List.setIfInBounds_toArray, List.set_cons_zero, List.set_cons_succ]
          refine hw_skip 11 (some 24) rfl rfl (by kernel_rfl) (by kernel_rfl) (by kernel_rfl) (fun _ _ _ h => h) (by rfl) hH ?_
          simp only [Act.put, List.setIfInBounds_toArray, List.set_cons_zero, List.set_cons_succ]
          refine hw_skip 12 (some 25) rfl rfl (by kernel_rfl) (by kernel_rfl) (by kernel_rfl) (fun _ _ _ h => h) (by rfl) hH ?_
          simp only [Act.put, List.setIfInBounds_toArray, List.set_cons_zero, List.set_cons_succ]
          refine hw_skip 13 (some 26) rfl rfl (by kernel_rfl) (by kernel_rfl) (by kernel_rfl) (fun _ _ _ h => h) (by rfl) hH ?_
          simp only [Act.put, List.setIfInBounds_toArray, List.set_cons_zero, List.set_cons_succ]
          refine hw_skip 14 (some 27) rfl rfl (by kernel_rfl) (by kernel_rfl) (by kernel_rfl) (fun _ _ _ h => h) (by rfl) hH ?_
          simp only [Act.put, List.setIfInBounds_toArray, List.set_cons_zero, List.set_cons_succ]
          refine hw_skip 15 (some 28) rfl rfl (by kernel_rfl) (by kernel_rfl) (by kernel_rfl) (fun _ _ _ h => h) (by rfl) hH ?_
          simp only [Act.put, List.setIfInBounds_toArray, List.set_cons_zero, List.set_cons_succ]
          refine hw_skip 16 (some 29) rfl rfl (by kernel_rfl) (by kernel_rfl) (by kernel_rfl) (fun _ _ _ h => h) (by rfl) hH ?_
          simp only [Act.put, List.setIfInBounds_toArray, List.set_cons_zero, List.set_cons_succ]
          refine hw_skip 17 (some 30) rfl rfl (by kernel_rfl) (by kernel_rfl) (by kernel_rfl) (fun _ _ _ h => h) (by rfl) hH ?_
          simp only [Act.put, List.setIfInBounds_toArray, List.set_cons_zero, List.set_cons_succ]
          refine hw_skip 18 (some 31) rfl rfl (by kernel_rfl) (by kernel_rfl) (by kernel_rfl) (fun _ _ _ h => h) (by rfl) hH ?_
          simp only [Act.put, List.setIfInBounds_toArray, List.set_cons_zero, List.set_cons_succ]
          refine hw_skip 19 (some 32) rfl rfl (by kernel_rfl) (by kernel_rfl) (by kernel_rfl) (fun _ _ _ h => h) (by rfl) hH ?_
          simp only [Act.put, List.setIfInBounds_toArray, List.set_cons_zero, List.set_cons_succ]
          refine hw_skip 20 (some 33) rfl rfl (by kernel_rfl) (by kernel_rfl) (by kernel_rfl) (fun _ _ _ h => h) (by rfl) hH ?_
          simp only [Act.put, List.setIfInBounds_toArray, List.set_cons_zero, List.set_cons_succ]
          refine' hw_take 21 (some 34) _ rfl rfl (by kernel_rfl) (by kernel_rfl) (by kernel_rfl) (fun _ _ _ h => h) (by rfl) hH ?hy18 ?rest18
          case hy18 =>
            intro X hX
            go_simp
            try rfl
          simp only [Act.put, List.setIfInBounds_toArray, List.set_cons_zero, List.set_cons_succ]
          refine wpAnyH_done (by kernel_rfl) ?_ _
          go_wp2
          go_roundw
          case rel => exact ⟨k + 1, tt, by omega, by go_num, rfl, HL.out.skip HV.out HK.out, hnw.trans d1⟩
          case measure => simp [intOf]; omega
        case pos =>
          have HK : Hid (keepS a0 l0 ⟨p, a, l, o, xs, nx, md, lc⟩ = true) := by unfold Hid keepS; simp [hka, hkl]
          subst hka
          subst hkl
          by_cases ht : tt < 0
          case pos =>
            have HT : Hid (tt = -1) := by
              rcases HL.out with ⟨e, -⟩ | ⟨i, v, e, -⟩
              · exact e
              · omega
            go_upto_region 5 with fail
            refine hw_start (n := 22) (S := fun X => New wr X) rfl (by kernel_rfl) ((New.refl wr).drew) (fun hH => ?_)
            refine' hw_take 0 (some 13) _ rfl rfl (by kernel_rfl) (by kernel_rfl) (by kernel_rfl) (fun _ _ _ h => h) (by rfl) hH ?hy19 ?rest19
            case hy19 =>
              intro X hX
              go_simp
              try rfl
            simp only [Act.put, List.setIfInBounds_toArray, List.set_cons_zero, List.set_cons_succ]
            refine' hw_take 1 (some 14) _ rfl rfl (by kernel_rfl) (by kernel_rfl) (by kernel_rfl) (fun _ _ _ h => h) (by rfl) hH ?hy20 ?rest20
            case hy20 =>
              intro X hX
              go_simp
              try rfl
            simp only [Act.put, List.setIfInBounds_toArray, List.set_cons_zero, List.set_cons_succ]
            refine' hw_take 2 (some 15) _ rfl rfl (by kernel_rfl) (by kernel_rfl) (by kernel_rfl) (fun _ _ _ h => h) (by rfl) hH ?hy21 ?rest21
            case hy21 =>
              intro X hX
              go_simp
              try rfl
            simp only [Act.put, List.setIfInBounds_toArray, List.set_cons_zero, List.set_cons_succ]
            refine' hw_take 3 (some 16) _ rfl rfl (by kernel_rfl) (by kernel_rfl) (by kernel_rfl) (fun _ _ _ h => h) (by rfl) hH ?hy22 ?rest22
            case hy22 =>
              intro X hX
              go_simp
              try rfl
            simp only [Act.put, List.setIfInBounds_toArray, List.set_cons_zero, List.set_cons_succ]
            refine' hw_take 4 (some 17) _ rfl rfl (by kernel_rfl) (by kernel_rfl) (by kernel_rfl) (fun _ _ _ h => h) (by rfl) hH ?hy23 ?rest23
            case hy23 =>
              intro X hX
              have q1X := (hX.below.cell (World.block_lt_of_cell? _ _ q1)).trans q1
              have q2X := (hX.below.cell (World.block_lt_of_cell? _ _ q2)).trans q2
              go_simp
              try rfl
            simp only [Act.put, List.setIfInBounds_toArray, List.set_cons_zero, List.set_cons_succ]
            refine' hw_take 5 (some 18) _ rfl rfl (by kernel_rfl) (by kernel_rfl) (by kernel_rfl) (fun _ _ _ h => h) (by rfl) hH ?hy24 ?rest24
            case hy24 =>
              intro X hX
              have cP0X := (hX.below.cell (World.block_lt_of_cell? _ _ cP0)).trans cP0
              have cP1X := (hX.below.cell (World.block_lt_of_cell? _ _ cP1)).trans cP1
              go_simp
              try rfl
            simp only [Act.put, List.setIfInBounds_toArray, List.set_cons_zero, List.set_cons_succ]
            refine' hw_take 6 (some 19) _ rfl rfl (by kernel_rfl) (by kernel_rfl) (by kernel_rfl) (fun _ _ _ h => h) (by rfl) hH ?hy25 ?rest25
            case hy25 =>
              intro X hX
              go_simp
              try rfl
            simp only [Act.put, List.setIfInBounds_toArray, List.set_cons_zero, List.set_cons_succ]
            refine' hw_take 7 (some 20) _ rfl rfl (by kernel_rfl) (by kernel_rfl) (by kernel_rfl) (fun _ _ _ h => h) (by rfl) hH ?hy26 ?rest26
            case hy26 =>
              intro X hX
              go_simp
              try rfl
            simp only [Act.put, List.setIfInBounds_toArray, List.set_cons_zero, List.set_cons_succ]
            refine' hw_take 8 (some 21) _ rfl rfl (by kernel_rfl) (by kernel_rfl) (by kernel_rfl) (fun _ _ _ h => h) (by rfl) hH ?hy27 ?rest27
            case hy27 =>
              intro X hX
              go_simp
              try rfl
            simp only [Act.put, List.setIfInBounds_toArray, List.set_cons_zero, List.set_cons_succ]
            refine' hw_take 9 (some 22) _ rfl rfl (by kernel_rfl) (by kernel_rfl) (by kernel_rfl) (fun _ _ _ h => h) (by rfl) hH ?hy28 ?rest28
            case hy28 =>
              intro X hX
              go_simp
              try rfl
            simp only [Act.put, List.setIfInBounds_toArray, List.set_cons_zero, List.set_cons_succ]
            refine' hw_take 10 (some 23) _ rfl rfl (by kernel_rfl) (by kernel_rfl) (by kernel_rfl) (fun _ _ _ h => h) (by rfl) hH ?hy29 ?rest29
            case hy29 =>
              intro X hX
              go_simp
              try rfl
            simp only [Act.put, List.setIfInBounds_toArray, List.set_cons_zero, List.set_cons_succ]
            refine hw_skip 11 (some 24) rfl rfl (by kernel_rfl) (by kernel_rfl) (by kernel_rfl) (fun _ _ _ h => h) (by rfl) hH ?_
            simp only [Act.put, List.setIfInBounds_toArray, List.set_cons_zero, List.set_cons_succ]
            refine hw_skip 12 (some 25) rfl rfl (by kernel_rfl) (by kernel_rfl) (by kernel_rfl) (fun _ _ _ h => h) (by rfl) hH ?_
            simp only [Act.put, List.setIfInBounds_toArray, List.set_cons_zero, List.set_cons_succ]
            refine hw_skip 13 (some 26) rfl rfl (by kernel_rfl) (by kernel_rfl) (by kernel_rfl) (fun _ _ _ h => h) (by rfl) hH ?_
            simp only [Act.put, List.setIfInBounds_toArray, List.set_cons_zero, List.set_cons_succ]
            refine hw_skip 14 (some 27) rfl rfl (by kernel_rfl) (by kernel_rfl) (by kernel_rfl) (fun _ _ _ h => h) (by rfl) hH ?_
            simp only [Act.put, List.setIfInBounds_toArray, List.set_cons_zero, List.set_cons_succ]
            refine hw_skip 15 (some 28) rfl rfl (by kernel_rfl) (by kernel_rfl) (by kernel_rfl) (fun _ _ _ h => h) (by rfl) hH ?_
            simp only [Act.put, List.setIfInBounds_toArray, List.set_cons_zero, List.set_cons_succ]
            refine hw_skip 16 (some 29) rfl rfl (by kernel_rfl) (by kernel_rfl) (by kernel_rfl) (fun _ _ _ h => h) (by rfl) hH ?_
            simp only [Act.put, List.setIfInBounds_toArray, List.set_cons_zero, List.set_cons_succ]
            refine hw_skip 17 (some 30) rfl rfl (by kernel_rfl) (by kernel_rfl) (by kernel_rfl) (fun _ _ _ h => h) (by rfl) hH ?_
            simp only [Act.put, List.setIfInBounds_toArray, List.set_cons_zero, List.set_cons_succ]
            refine hw_skip 18 (some 31) rfl rfl (by kernel_rfl) (by kernel_rfl) (by kernel_rfl) (fun _ _ _ h => h) (by rfl) hH ?_
            simp only [Act.put, List.setIfInBounds_toArray, List.set_cons_zero, List.set_cons_succ]
            refine hw_skip 19 (some 32) rfl rfl (by kernel_rfl) (by kernel_rfl) (by kernel_rfl) (fun _ _ _ h => h) (by rfl) hH ?_
            simp only [Act.put, List.setIfInBounds_toArray, List.set_cons_zero, List.set_cons_succ]
            refine' hw_take 20 (some 33) _ rfl rfl (by kernel_rfl) (by kernel_rfl) (by kernel_rfl) (fun _ _ _ h => h) (by rfl) hH ?hy30 ?rest30
            case hy30 =>
              intro X hX
              go_simp
              try rfl
            simp only [Act.put, List.setIfInBounds_toArray, List.set_cons_zero, List.set_cons_succ]
            refine' hw_take 21 (some 34) _ rfl rfl (by kernel_rfl) (by kernel_rfl) (by kernel_rfl) (fun _ _ _ h => h) (by rfl) hH ?hy31 ?rest31
            case hy31 =>
              intro X hX
              go_simp
              try rfl
            simp only [Act.put, List.setIfInBounds_toArray, List.set_cons_zero, List.set_cons_succ]
            refine wpAnyH_done (by kernel_rfl) ?_ _
            have HL2 : Hid (LbK V a l k (-1)) := by have h := HL.out; rw [HT.out] at h; exact h
            go_wp2
            go_roundw
            case rel => exact ⟨k + 1, (k : Int), by omega, by go_num, rfl, HL2.out.first HV.out HK.out, hnw.trans d1⟩
            case measure => simp [intOf]; omega
          case neg =>
            obtain ⟨j, u, rfl, hu⟩ : ∃ (j : Nat) (u : Rv), tt = (j : Int) ∧ V[j]? = some u := by
              rcases HL.out with ⟨e, -⟩ | ⟨i, v, e, e2, -⟩
              · omega
              · exact ⟨i, v, e, e2⟩
            have hjl := (List.getElem?_eq_some_iff.1 hu).1
            have hjN : j < N := by have := HN.out; omega
            obtain ⟨b', off', p', a', l', o', nx', md', lc', x', m', d', xs', hA', hv', hlen', -, -, hmx', y0, y1, y2, y3, y4, y5, y6, y7⟩ := (HA.out _ N1).at j hjl
            simp only [Option.some.injEq, Addr.mk.injEq, and_true] at hA'
            obtain ⟨rfl, rfl⟩ := hA'
            rw [hu] at hv'
            obtain rfl := Option.some.inj hv'
            have HU : Hid (V[j]? = some ⟨⟨p', a', l', o', xs', nx', md', lc'⟩, x', d'⟩) := hu
            have HLN' : Hid (xs'.length = m') := hlen'
            have hj0 : (0 : Int) ≤ (j : Int) := by omega
            have hj1 : (j : Int) < (N : Int) := by omega
            clear hu hv' hlen'
            obtain ⟨z, hz⟩ : ∃ z, Hid (decide (cmpW p o md lc m p' o' md' lc' m' < 0) = z) := ⟨_, rfl⟩
            go_upto_region 5 with fail
            refine hw_start (n := 22) (S := fun X => New wr X) rfl (by kernel_rfl) ((New.refl wr).drew) (fun hH => ?_)
            refine' hw_take 0 (some 13) _ rfl rfl (by kernel_rfl) (by kernel_rfl) (by kernel_rfl) (fun _ _ _ h => h) (by rfl) hH ?hy32 ?rest32
            case hy32 =>
              intro X hX
              go_simp
              try rfl
            simp only [Act.put, List.setIfInBounds_toArray, List.set_cons_zero, List.set_cons_succ]
            refine' hw_take 1 (some 14) _ rfl rfl (by kernel_rfl) (by kernel_rfl) (by kernel_rfl) (fun _ _ _ h => h) (by rfl) hH ?hy33 ?rest33
            case hy33 =>
              intro X hX
              go_simp
              try rfl
            simp only [Act.put, List.setIfInBounds_toArray, List.set_cons_zero, List.set_cons_succ]
            refine' hw_take 2 (some 15) _ rfl rfl (by kernel_rfl) (by kernel_rfl) (by kernel_rfl) (fun _ _ _ h => h) (by rfl) hH ?hy34 ?rest34
            case hy34 =>
              intro X hX
              go_simp
              try rfl
            simp only [Act.put, List.setIfInBounds_toArray, List.set_cons_zero, List.set_cons_succ]
            refine' hw_take 3 (some 16) _ rfl rfl (by kernel_rfl) (by kernel_rfl) (by kernel_rfl) (fun _ _ _ h => h) (by rfl) hH ?hy35 ?rest35
            case hy35 =>
              intro X hX
              go_simp
              try rfl
            simp only [Act.put, List.setIfInBounds_toArray, List.set_cons_zero, List.set_cons_succ]
            refine' hw_take 4 (some 17) _ rfl rfl (by kernel_rfl) (by kernel_rfl) (by kernel_rfl) (fun _ _ _ h => h) (by rfl) hH ?hy36 ?rest36
            case hy36 =>
              intro X hX
              have q1X := (hX.below.cell (World.block_lt_of_cell? _ _ q1)).trans q1
              have q2X := (hX.below.cell (World.block_lt_of_cell? _ _ q2)).trans q2
              go_simp
              try rfl
            simp only [Act.put, List.setIfInBounds_toArray, List.set_cons_zero, List.set_cons_succ]
            refine' hw_take 5 (some 18) _ rfl rfl (by kernel_rfl) (by kernel_rfl) (by kernel_rfl) (fun _ _ _ h => h) (by rfl) hH ?hy37 ?rest37
            case hy37 =>
              intro X hX
              have cP0X := (hX.below.cell (World.block_lt_of_cell? _ _ cP0)).trans cP0
              have cP1X := (hX.below.cell (World.block_lt_of_cell? _ _ cP1)).trans cP1
              go_simp
              try rfl
            simp only [Act.put, List.setIfInBounds_toArray, List.set_cons_zero, List.set_cons_succ]
            refine' hw_take 6 (some 19) _ rfl rfl (by kernel_rfl) (by kernel_rfl) (by kernel_rfl) (fun _ _ _ h => h) (by rfl) hH ?hy38 ?rest38
            case hy38 =>
              intro X hX
              go_simp
              try rfl
            simp only [Act.put, List.setIfInBounds_toArray, List.set_cons_zero, List.set_cons_succ]
            refine' hw_take 7 (some 20) _ rfl rfl (by kernel_rfl) (by kernel_rfl) (by kernel_rfl) (fun _ _ _ h => h) (by rfl) hH ?hy39 ?rest39
            case hy39 =>
              intro X hX
              go_simp
              try rfl
            simp only [Act.put, List.setIfInBounds_toArray, List.set_cons_zero, List.set_cons_succ]
            refine' hw_take 8 (some 21) _ rfl rfl (by kernel_rfl) (by kernel_rfl) (by kernel_rfl) (fun _ _ _ h => h) (by rfl) hH ?hy40 ?rest40
            case hy40 =>
              intro X hX
              go_simp
              try rfl
            simp only [Act.put, List.setIfInBounds_toArray, List.set_cons_zero, List.set_cons_succ]
            refine' hw_take 9 (some 22) _ rfl rfl (by kernel_rfl) (by kernel_rfl) (by kernel_rfl) (fun _ _ _ h => h) (by rfl) hH ?hy41 ?rest41
            case hy41 =>
              intro X hX
              go_simp
              try rfl
            simp only [Act.put, List.setIfInBounds_toArray, List.set_cons_zero, List.set_cons_succ]
            refine' hw_take 10 (some 23) _ rfl rfl (by kernel_rfl) (by kernel_rfl) (by kernel_rfl) (fun _ _ _ h => h) (by rfl) hH ?hy42 ?rest42
            case hy42 =>
              intro X hX
              go_simp
              try rfl
            simp only [Act.put, List.setIfInBounds_toArray, List.set_cons_zero, List.set_cons_succ]
            refine' hw_take 11 (some 24) _ rfl rfl (by kernel_rfl) (by kernel_rfl) (by kernel_rfl) (fun _ _ _ h => h) (by rfl) hH ?hy43 ?rest43
            case hy43 =>
              intro X hX
              go_simp
              try rfl
            simp only [Act.put, List.setIfInBounds_toArray, List.set_cons_zero, List.set_cons_succ]
            refine' hw_take 12 (some 25) _ rfl rfl (by kernel_rfl) (by kernel_rfl) (by kernel_rfl) (fun _ _ _ h => h) (by rfl) hH ?hy44 ?rest44
            case hy44 =>
              intro X hX
              go_simp
              try rfl
            simp only [Act.put, List.setIfInBounds_toArray, List.set_cons_zero, List.set_cons_succ]
            refine' hw_take 13 (some 26) _ rfl rfl (by kernel_rfl) (by kernel_rfl) (by kernel_rfl) (fun _ _ _ h => h) (by rfl) hH ?hy45 ?rest45
            case hy45 =>
              intro X hX
              go_simp
              try rfl
            simp only [Act.put, List.setIfInBounds_toArray, List.set_cons_zero, List.set_cons_succ]
            refine' hw_take 14 (some 27) _ rfl rfl (by kernel_rfl) (by kernel_rfl) (by kernel_rfl) (fun _ _ _ h => h) (by rfl) hH ?hy46 ?rest46
            case hy46 =>
              intro X hX
              have q0X := (hX.below.cell (World.block_lt_of_cell? _ _ q0)).trans q0
              have q1X := (hX.below.cell (World.block_lt_of_cell? _ _ q1)).trans q1
              have q2X := (hX.below.cell (World.block_lt_of_cell? _ _ q2)).trans q2
              have q3X := (hX.below.cell (World.block_lt_of_cell? _ _ q3)).trans q3
              have q4X := (hX.below.cell (World.block_lt_of_cell? _ _ q4)).trans q4
              have q5X := (hX.below.cell (World.block_lt_of_cell? _ _ q5)).trans q5
              have q6X := (hX.below.cell (World.block_lt_of_cell? _ _ q6)).trans q6
              have q7X := (hX.below.cell (World.block_lt_of_cell? _ _ q7)).trans q7
              go_simp
              try rfl
            simp only [Act.put, List.setIfInBounds_toArray, List.set_cons_zero, List.set_cons_succ]
            refine' hw_take 15 (some 28) _ rfl rfl (by kernel_rfl) (by kernel_rfl) (by kernel_rfl) (fun _ _ _ h => h) (by rfl) hH ?hy47 ?rest47
            case hy47 =>
              intro X hX
              go_simp
              try rfl
            simp only [Act.put, List.setIfInBounds_toArray, List.set_cons_zero, List.set_cons_succ]
            refine' hw_take 16 (some 29) _ rfl rfl (by kernel_rfl) (by kernel_rfl) (by kernel_rfl) (fun _ _ _ h => h) (by rfl) hH ?hy48 ?rest48
            case hy48 =>
              intro X hX
              go_simp
              try rfl
            simp only [Act.put, List.setIfInBounds_toArray, List.set_cons_zero, List.set_cons_succ]
            refine' hw_take 17 (some 30) _ rfl rfl (by kernel_rfl) (by kernel_rfl) (by kernel_rfl) (fun _ _ _ h => h) (by rfl) hH ?hy49 ?rest49
            case hy49 =>
              intro X hX
              go_simp
              try rfl
            simp only [Act.put, List.setIfInBounds_toArray, List.set_cons_zero, List.set_cons_succ]
            refine' hw_take 18 (some 31) _ rfl rfl (by kernel_rfl) (by kernel_rfl) (by kernel_rfl) (fun _ _ _ h => h) (by rfl) hH ?hy50 ?rest50
            case hy50 =>
              intro X hX
              have y0X := (hX.below.cell (World.block_lt_of_cell? _ _ y0)).trans y0
              have y1X := (hX.below.cell (World.block_lt_of_cell? _ _ y1)).trans y1
              have y2X := (hX.below.cell (World.block_lt_of_cell? _ _ y2)).trans y2
              have y3X := (hX.below.cell (World.block_lt_of_cell? _ _ y3)).trans y3
              have y4X := (hX.below.cell (World.block_lt_of_cell? _ _ y4)).trans y4
              have y5X := (hX.below.cell (World.block_lt_of_cell? _ _ y5)).trans y5
              have y6X := (hX.below.cell (World.block_lt_of_cell? _ _ y6)).trans y6
              have y7X := (hX.below.cell (World.block_lt_of_cell? _ _ y7)).trans y7
              go_simp
              try rfl
            simp only [Act.put, List.setIfInBounds_toArray, List.set_cons_zero, List.set_cons_succ]
            refine hw_call 19 (some 32) rfl rfl (by decide +kernel) (by rfl) (fun K hK => ?_)
            go_simp
            refine (specBT p a l o nx md lc x m d p' a' l' o' nx' md' lc' x' m' d' z _ hmx hmx' hz.out).mono ?_
            rintro e w1 ⟨rfl, h1⟩
            have n1 : New wr w1 := d1.trans h1
            refine hK.out _ _ n1 (fun hH => ?_)
            simp only [Act.put, List.setIfInBounds_toArray, List.set_cons_zero, List.set_cons_succ]
            refine' hw_take 20 (some 33) _ rfl rfl (by kernel_rfl) (by kernel_rfl) (by kernel_rfl) (fun _ _ _ h => h) (by rfl) hH ?hy51 ?rest51
            case hy51 =>
              intro X hX
              go_simp
              try rfl
            simp only [Act.put, List.setIfInBounds_toArray, List.set_cons_zero, List.set_cons_succ]
            refine' hw_take 21 (some 34) _ rfl rfl (by kernel_rfl) (by kernel_rfl) (by kernel_rfl) (fun _ _ _ h => h) (by rfl) hH ?hy52 ?rest52
            case hy52 =>
              intro X hX
              go_simp
              try rfl
            simp only [Act.put, List.setIfInBounds_toArray, List.set_cons_zero, List.set_cons_succ]
            refine wpAnyH_done (by kernel_rfl) ?_ _
            cases z with
            | true =>
              have HC : Hid (cW (Rv.r ⟨⟨p, a, l, o, xs, nx, md, lc⟩, x, d⟩) (Rv.r ⟨⟨p', a', l', o', xs', nx', md', lc'⟩, x', d'⟩) < 0) := by
                have e := of_decide_eq_true hz.out
                rw [← HLN.out, ← HLN'.out] at e
                exact e
              go_wp2
              go_roundw
              case rel => exact ⟨k + 1, (k : Int), by omega, by go_num, rfl, HL.out.take HV.out HK.out HU.out HC.out, hnw.trans n1⟩
              case measure => simp [intOf]; omega
            | false =>
              have HC : Hid (¬ cW (Rv.r ⟨⟨p, a, l, o, xs, nx, md, lc⟩, x, d⟩) (Rv.r ⟨⟨p', a', l', o', xs', nx', md', lc'⟩, x', d'⟩) < 0) := by
                have e := of_decide_eq_false hz.out
                rw [← HLN.out, ← HLN'.out] at e
                exact e
              go_wp2
              go_roundw
              case rel => exact ⟨k + 1, (j : Int), by omega, by go_num, rfl, HL.out.stay HV.out HU.out HC.out, hnw.trans n1⟩
              case measure => simp [intOf]; omega

end Go.Proofs.Ytkaaefieglhdlaa
