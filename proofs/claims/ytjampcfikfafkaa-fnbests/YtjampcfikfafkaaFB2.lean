/- What is proved here: which route of a list the model takes for a prefix, for lists of at most 1048576 routes with paths of at most 1048576 numbers. What is proved here: what the program's BestFor answers, for every list of at most 1048576 routes with paths of at most 1048576 numbers and every prefix. What is proved here: what the model's copying of lists of routes answers, for lists of at most 1048576 routes with paths of at most 1048576 numbers. What is proved here: what the model's BestFor answers, for every list of at most 1048576 routes with paths of at most 1048576 numbers and every prefix; and that answers are one. What is proved here: that answers of BestFor are one, and how laws compare, mark and hold them. What is proved here: that the bests of all prefixes are one list; no run of the program. No condition. -/
import Derived.Test.YtjampcfikfafkaaFB1
import Derived.Deep.RegionHeld3
import Derived.Test.YtjampcfikfafkaaR7Cr
import Derived.Test.YtjampcfikfafkaaR7Ap
import Derived.Deep.CutRange
import Derived.Test.YtjampcfikfafkaaR7Bs
import Derived.Test.YtjampcfikfafkaaR7Mk
namespace Go.Proofs.Ytjampcfikfafkaa
open Go.RowKit Go.Sort
set_option linter.unusedVariables false
set_option linter.unusedSimpArgs false

/-- An operation whose guard says no is left out. -/
theorem hw_skip {P : Program} {ops : Array Oper} {Q : Exit → Act → World → Prop} {md : Region.Mode} {S : World → Prop} {fuel : Nat} {listed : Array Bool} {a : Act} {w : World} (i : Nat) (d : Option Tmp) {oi : Oper} (hi : ops[i]? = some oi) (hd : oi.dst = d)
    (hs : Region.noSelect ops = true) (hf : Region.free md ops listed i = true) (hr : (Region.ready md ops listed).contains i = true)
    (hQ : ∀ c a w, Q (.panic c) (a.put d undef) w → Q (.panic c) a w) (hw : Region.wanted oi (yielded ops a.tmps) = false) (hS : S w)
    (h : wpAnyH P md ops Q S fuel (listed.setIfInBounds i true) (a.put d undef) w) : wpAnyH P md ops Q S (fuel + 1) listed a w := by
  subst hd
  exact wpAnyH_take hi hs hf hr hQ (.inr ⟨hw, rfl⟩) hS h

/-- Worth. -/
def cW (r s : Rt) : Int := cmpW r.p r.o r.md r.lc r.xs.length s.p s.o s.md s.lc s.xs.length

/-- The best among the first ones. -/
def LbK (V : List Rv) (a0 l0 : Int) (k : Nat) (t : Int) : Prop := (t = -1 ∧ ∀ j v, j < k → V[j]? = some v → keepS a0 l0 v.r = false) ∨ ∃ (i : Nat) (v : Rv), t = (i : Int) ∧ V[i]? = some v ∧ keepS a0 l0 v.r = true ∧ ∀ j u, j < k → V[j]? = some u → keepS a0 l0 u.r = true → ¬ cW u.r v.r < 0

theorem LbK.skip {V : List Rv} {a0 l0 : Int} {k : Nat} {t : Int} (h : LbK V a0 l0 k t) {v : Rv} (hv : V[k]? = some v) (hk : keepS a0 l0 v.r = false) : LbK V a0 l0 (k + 1) t := by
  have key : ∀ j u, j < k + 1 → V[j]? = some u → j < k ∨ u = v := fun j u hj hu => by
    rcases Nat.lt_or_ge j k with e | e
    · exact .inl e
    · obtain rfl : j = k := by omega
      rw [hv] at hu
      exact .inr (Option.some.inj hu).symm
  rcases h with ⟨h1, h2⟩ | ⟨i, u, h1, h2, h3, h4⟩
  · exact .inl ⟨h1, fun j u hj hu => by
      rcases key j u hj hu with e | rfl
      · exact h2 j u e hu
      · exact hk⟩
  · exact .inr ⟨i, u, h1, h2, h3, fun j x hj hx hx2 => by
      rcases key j x hj hx with e | rfl
      · exact h4 j x e hx hx2
      · rw [hk] at hx2; cases hx2⟩
theorem LbK.stay {V : List Rv} {a0 l0 : Int} {k i : Nat} {v u : Rv} (h : LbK V a0 l0 k (i : Int)) (hv : V[k]? = some v) (hu : V[i]? = some u) (hc : ¬ cW v.r u.r < 0) : LbK V a0 l0 (k + 1) (i : Int) := by
  rcases h with ⟨h1, -⟩ | ⟨i', u', h1, h2, h3, h4⟩
  · omega
  · obtain rfl : i = i' := by omega
    rw [hu] at h2
    obtain rfl := Option.some.inj h2
    refine .inr ⟨i, u, rfl, hu, h3, fun j x hj hx hx2 => ?_⟩
    rcases Nat.lt_or_ge j k with e | e
    · exact h4 j x e hx hx2
    · obtain rfl : j = k := by omega
      rw [hv] at hx
      obtain rfl := Option.some.inj hx
      exact hc
theorem LbK.first {V : List Rv} {a0 l0 : Int} {k : Nat} {v : Rv} (h : LbK V a0 l0 k (-1)) (hv : V[k]? = some v) (hk : keepS a0 l0 v.r = true) : LbK V a0 l0 (k + 1) (k : Int) := by
  rcases h with ⟨-, h2⟩ | ⟨i', u', h1, -⟩
  · refine .inr ⟨k, v, rfl, hv, hk, fun j x hj hx hx2 => ?_⟩
    rcases Nat.lt_or_ge j k with e | e
    · rw [h2 j x e hx] at hx2; cases hx2
    · obtain rfl : j = k := by omega
      rw [hv] at hx
      obtain rfl := Option.some.inj hx
      exact cmpW_irr _ _ _ _ _
  · omega
theorem cW_tr {r s t : Rt} (h : ¬ cW r s < 0) (k : cW t s < 0) : ¬ cW r t < 0 := by
  unfold cW at h k ⊢
  rw [cmpW_lt] at h k ⊢
  omega
theorem LbK.take {V : List Rv} {a0 l0 : Int} {k i : Nat} {v u : Rv} (h : LbK V a0 l0 k (i : Int)) (hv : V[k]? = some v) (hk : keepS a0 l0 v.r = true) (hu : V[i]? = some u) (hc : cW v.r u.r < 0) : LbK V a0 l0 (k + 1) (k : Int) := by
  rcases h with ⟨h1, -⟩ | ⟨i', u', h1, h2, h3, h4⟩
  · omega
  · obtain rfl : i = i' := by omega
    rw [hu] at h2
    obtain rfl := Option.some.inj h2
    refine .inr ⟨k, v, rfl, hv, hk, fun j x hj hx hx2 => ?_⟩
    rcases Nat.lt_or_ge j k with e | e
    · exact cW_tr (h4 j x e hx hx2) hc
    · obtain rfl : j = k := by omega
      rw [hv] at hx
      obtain rfl := Option.some.inj hx
      exact cmpW_irr _ _ _ _ _

set_option maxRecDepth 100000 in
set_option maxHeartbeats 12800000 in
theorem l7Best_any (a0 l0 : Int) (A : Option Addr) (N cc : Nat) (V : List Rv) (w : World) (h : RtAt w A V) (hn : V.length = N) (hm : N ≤ 1048576) :
    Calls Try.prog 37 #[.slice A N cc, .agg #[.int .i64 a0, .int .i64 l0]] w fun e w' => ∃ t, e = .returned (.int .i64 t) ∧ LbK V a0 l0 N t ∧ New w w' := by
  have HN : Hid (V.length = N) := hn
  have HA : Hid (∀ X, New w X → RtAt X A V) := fun X hX => h.new hX
  have N0 : New w (w.alloc (.cells #[.int .i64 a0, .int .i64 l0] 30)) := (New.refl w).alloc _
  have bP := Blk.mk w w.heap.size 30 #[.int .i64 a0, .int .i64 l0] rfl
  have HP : Hid (∀ X, New (w.alloc (.cells #[.int .i64 a0, .int .i64 l0] 30)) X → Blk X w.heap.size 30 #[.int .i64 a0, .int .i64 l0]) := fun X hX => bP.new hX
  clear h hn bP
  go_enter Try.func37, Try.ntmps37
  go_upto_region 2 with fail
  generalize w.alloc (.cells #[.int .i64 a0, .int .i64 l0] 30) = w0 at *
  go_wp2_with fail
  go_loopw [5, 6] (fun t i wr => ∃ (k : Nat) (tt : Int), k ≤ N ∧ i = .int .i64 k ∧ t = .int .i64 tt ∧ LbK V a0 l0 k tt ∧ New w0 wr) (fun _ i _ => N - (intOf i).toNat)
  case atStart => exact ⟨0, -1, Nat.zero_le _, rfl, rfl, .inl ⟨rfl, fun j v hj => by omega⟩, New.refl _⟩
  case round =>
    obtain ⟨k, tt, hk, rfl, rfl, hL, hnw⟩ := hrel
    have HL : Hid (LbK V a0 l0 k tt) := hL
    have N1 := N0.trans hnw
    have bP := HP.out _ hnw
    have cP0 : wr.cell? ⟨w.heap.size, 0, none⟩ = some (.int .i64 a0) := bP.cells 0
    have cP1 : wr.cell? ⟨w.heap.size, 1, none⟩ = some (.int .i64 l0) := bP.cells 1
    clear hL
    by_cases hlt : k < N
    case neg =>
      obtain rfl : k = N := by omega
      clear cP0 cP1 bP
      go_wp2
      go_ret
      exact ⟨tt, rfl, HL.out, N1⟩
    case pos =>
      obtain ⟨b, off, p, a, l, o, nx, md, lc, x, m, d, xs, rfl, hv, hlen, hns, hnl, hmx, q0, q1, q2, q3, q4, q5, q6, q7⟩ := (HA.out _ N1).at k (by have := HN.out; omega)
      have HV : Hid (V[k]? = some ⟨⟨p, a, l, o, xs, nx, md, lc⟩, x, d⟩) := hv
      have HLN : Hid (xs.length = m) := hlen
      clear hv hlen hns hnl
      have d1 := (New.refl wr).drew
      have e0 : ∀ j v, wr.cell? ⟨b, j, none⟩ = some v → wr.drew.cell? ⟨b, j, none⟩ = some v := fun j v hc => (d1.below.cell (World.block_lt_of_cell? _ _ hc)).trans hc
      have f0 : ∀ j v, wr.cell? ⟨w.heap.size, j, none⟩ = some v → wr.drew.cell? ⟨w.heap.size, j, none⟩ = some v := fun j v hc => (d1.below.cell (World.block_lt_of_cell? _ _ hc)).trans hc
      have hk0 : (0 : Int) ≤ (k : Int) := by omega
      have hk1 : (k : Int) < (N : Int) := by omega
      by_cases hka : a = a0
      case neg =>
        have HK : Hid (keepS a0 l0 ⟨p, a, l, o, xs, nx, md, lc⟩ = false) := by unfold Hid keepS; simp; omega
        go_upto_region 5 with fail
        refine hw_start (n := 22) (S := fun X => New wr X) rfl (by kernel_rfl) ((New.refl wr).drew) (fun hH => ?_)
        refine' hw_take 0 (some 13) _ rfl rfl (by kernel_rfl) (by kernel_rfl) (by kernel_rfl) (fun _ _ _ h => h) (by rfl) hH ?hy1 ?rest1
        case hy1 =>
          intro X hX
          go_simp
          try rfl
        simp only [Act.put, List.setIfInBounds_toArray, List.set_cons_zero, List.set_cons_succ]
        refine' hw_take 1 (some 14) _ rfl rfl (by kernel_rfl) (by kernel_rfl) (by kernel_rfl) (fun _ _ _ h => h) (by rfl) hH ?hy2 ?rest2
        case hy2 =>
          intro X hX
          go_simp
          try rfl
        simp only [Act.put, List.setIfInBounds_toArray, List.set_cons_zero, List.set_cons_succ]
        refine' hw_take 2 (some 15) _ rfl rfl (by kernel_rfl) (by kernel_rfl) (by kernel_rfl) (fun _ _ _ h => h) (by rfl) hH ?hy3 ?rest3
        case hy3 =>
          intro X hX
          go_simp
          try rfl
        simp only [Act.put, List.setIfInBounds_toArray, List.set_cons_zero, List.set_cons_succ]
        refine' hw_take 3 (some 16) _ rfl rfl (by kernel_rfl) (by kernel_rfl) (by kernel_rfl) (fun _ _ _ h => h) (by rfl) hH ?hy4 ?rest4
        case hy4 =>
          intro X hX
          go_simp
          try rfl
        simp only [Act.put, List.setIfInBounds_toArray, List.set_cons_zero, List.set_cons_succ]
        refine' hw_take 4 (some 17) _ rfl rfl (by kernel_rfl) (by kernel_rfl) (by kernel_rfl) (fun _ _ _ h => h) (by rfl) hH ?hy5 ?rest5
        case hy5 =>
          intro X hX
          have q1X := (hX.below.cell (World.block_lt_of_cell? _ _ q1)).trans q1
          have q2X := (hX.below.cell (World.block_lt_of_cell? _ _ q2)).trans q2
          go_simp
          try rfl
        simp only [Act.put, List.setIfInBounds_toArray, List.set_cons_zero, List.set_cons_succ]
        refine' hw_take 5 (some 18) _ rfl rfl (by kernel_rfl) (by kernel_rfl) (by kernel_rfl) (fun _ _ _ h => h) (by rfl) hH ?hy6 ?rest6
        case hy6 =>
          intro X hX
          have cP0X := (hX.below.cell (World.block_lt_of_cell? _ _ cP0)).trans cP0
          have cP1X := (hX.below.cell (World.block_lt_of_cell? _ _ cP1)).trans cP1
          go_simp
          try rfl
        simp only [Act.put, List.setIfInBounds_toArray, List.set_cons_zero, List.set_cons_succ]
        refine' hw_take 6 (some 19) _ rfl rfl (by kernel_rfl) (by kernel_rfl) (by kernel_rfl) (fun _ _ _ h => h) (by rfl) hH ?hy7 ?rest7
        case hy7 =>
          intro X hX
          go_simp
          try rfl
        simp only [Act.put, List.setIfInBounds_toArray, List.set_cons_zero, List.set_cons_succ]
        refine' hw_take 7 (some 20) _ rfl rfl (by kernel_rfl) (by kernel_rfl) (by kernel_rfl) (fun _ _ _ h => h) (by rfl) hH ?hy8 ?rest8
        case hy8 =>
          intro X hX
          go_simp
          try rfl
        simp only [Act.put, List.setIfInBounds_toArray, List.set_cons_zero, List.set_cons_succ]
        refine hw_skip 8 (some 21) rfl rfl (by kernel_rfl) (by kernel_rfl) (by kernel_rfl) (fun _ _ _ h => h) (by rfl) hH ?_
        simp only [Act.put, List.setIfInBounds_toArray, List.set_cons_zero, List.set_cons_succ]
        refine hw_skip 9 (some 22) rfl rfl (by kernel_rfl) (by kernel_rfl) (by kernel_rfl) (fun _ _ _ h => h) (by rfl) hH ?_
        simp only [Act.put, List.setIfInBounds_toArray, List.set_cons_zero, List.set_cons_succ]
        refine hw_skip 10 (some 23) rfl rfl (by kernel_rfl) (by kernel_rfl) (by kernel_rfl) (fun _ _ _ h => h) (by rfl) hH ?_
        simp only [Act.put, List.setIfInBounds_toArray, List.set_cons_zero, List.set_cons_succ]
        refine hw_skip 11 (some 24) rfl rfl (by kernel_rfl) (by kernel_rfl) (by kernel_rfl) (fun _ _ _ h => h) (by rfl) hH ?_
        simp only [Act.put, List.setIfInBounds_toArray, List.set_cons_zero, List.set_cons_succ]
        refine hw_skip 12 (some 25) rfl rfl (by kernel_rfl) (by kernel_rfl) (by kernel_rfl) (fun _ _ _ h => h) (by rfl) hH ?_
        simp only [Act.put, List.setIfInBounds_toArray, List.set_cons_zero, List.set_cons_succ]
        refine hw_skip 13 (some 26) rfl rfl (by kernel_rfl) (by kernel_rfl) (by kernel_rfl) (fun _ _ _ h => h) (by rfl) hH ?_
        simp only [Act.put, List.setIfInBounds_toArray, List.set_cons_zero, List.set_cons_succ]
        refine hw_skip 14 (some 27) rfl rfl (by kernel_rfl) (by kernel_rfl) (by kernel_rfl) (fun _ _ _ h => h) (by rfl) hH ?_
        simp only [Act.put, List.setIfInBounds_toArray, List.set_cons_zero, List.set_cons_succ]
        refine hw_skip 15 (some 28) rfl rfl (by kernel_rfl) (by kernel_rfl) (by kernel_rfl) (fun _ _ _ h => h) (by rfl) hH ?_
        simp only [Act.put, List.setIfInBounds_toArray, List.set_cons_zero, List.set_cons_succ]
        refine hw_skip 16 (some 29) rfl rfl (by kernel_rfl) (by kernel_rfl) (by kernel_rfl) (fun _ _ _ h => h) (by rfl) hH ?_
        simp only [Act.put, List.setIfInBounds_toArray, List.set_cons_zero, List.set_cons_succ]
        refine hw_skip 17 (some 30) rfl rfl (by kernel_rfl) (by kernel_rfl) (by kernel_rfl) (fun _ _ _ h => h) (by rfl) hH ?_
        simp only [Act.put, List.setIfInBounds_toArray, List.set_cons_zero, List.set_cons_succ]
        refine hw_skip 18 (some 31) rfl rfl (by kernel_rfl) (by kernel_rfl) (by kernel_rfl) (fun _ _ _ h => h) (by rfl) hH ?_
        simp only [Act.put, List.setIfInBounds_toArray, List.set_cons_zero, List.set_cons_succ]
        refine hw_skip 19 (some 32) rfl rfl (by kernel_rfl) (by kernel_rfl) (by kernel_rfl) (fun _ _ _ h => h) (by rfl) hH ?_
        simp only [Act.put, List.setIfInBounds_toArray, List.set_cons_zero, List.set_cons_succ]
        refine hw_skip 20 (some 33) rfl rfl (by kernel_rfl) (by kernel_rfl) (by kernel_rfl) (fun _ _ _ h => h) (by rfl) hH ?_
        simp only [Act.put, List.setIfInBounds_toArray, List.set_cons_zero, List.set_cons_succ]
        refine' hw_take 21 (some 34) _ rfl rfl (by kernel_rfl) (by kernel_rfl) (by kernel_rfl) (fun _ _ _ h => h) (by rfl) hH ?hy9 ?rest9
        case hy9 =>
          intro X hX
          go_simp
          try rfl
        simp only [Act.put, List.setIfInBounds_toArray, List.set_cons_zero, List.set_cons_succ]
        refine wpAnyH_done (by kernel_rfl) ?_ _
        go_wp2
        go_roundw
        case rel => exact ⟨k + 1, tt, by omega, by go_num, rfl, HL.out.skip HV.out HK.out, hnw.trans d1⟩
        case measure => simp [intOf]; omega
      case pos =>
        by_cases hkl : l = l0
        case neg =>
          have HK : Hid (keepS a0 l0 ⟨p, a, l, o, xs, nx, md, lc⟩ = false) := by unfold Hid keepS; simp; omega
          subst hka
          go_upto_region 5 with fail
          refine hw_start (n := 22) (S := fun X => New wr X) rfl (by kernel_rfl) ((New.refl wr).drew) (fun hH => ?_)
          refine' hw_take 0 (some 13) _ rfl rfl (by kernel_rfl) (by kernel_rfl) (by kernel_rfl) (fun _ _ _ h => h) (by rfl) hH ?hy10 ?rest10
          case hy10 =>
            intro X hX
            go_simp
            try rfl
          simp only [Act.put, List.setIfInBounds_toArray, List.set_cons_zero, List.set_cons_succ]
          refine' hw_take 1 (some 14) _ rfl rfl (by kernel_rfl) (by kernel_rfl) (by kernel_rfl) (fun _ _ _ h => h) (by rfl) hH ?hy11 ?rest11
          case hy11 =>
            intro X hX
            go_simp
            try rfl
          simp only [Act.put, List.setIfInBounds_toArray, List.set_cons_zero, List.set_cons_succ]
          refine' hw_take 2 (some 15) _ rfl rfl (by kernel_rfl) (by kernel_rfl) (by kernel_rfl) (fun _ _ _ h => h) (by rfl) hH ?hy12 ?rest12
          case hy12 =>
            intro X hX
            go_simp
            try rfl
          simp only [Act.put, List.setIfInBounds_toArray, List.set_cons_zero, List.set_cons_succ]
          refine' hw_take 3 (some 16) _ rfl rfl (by kernel_rfl) (by kernel_rfl) (by kernel_rfl) (fun _ _ _ h => h) (by rfl) hH ?hy13 ?rest13
          case hy13 =>
            intro X hX
            go_simp
            try rfl
          simp only [Act.put, List.setIfInBounds_toArray, List.set_cons_zero, List.set_cons_succ]
          refine' hw_take 4 (some 17) _ rfl rfl (by kernel_rfl) (by kernel_rfl) (by kernel_rfl) (fun _ _ _ h => h) (by rfl) hH ?hy14 ?rest14
          case hy14 =>
            intro X hX
            have q1X := (hX.below.cell (World.block_lt_of_cell? _ _ q1)).trans q1
            have q2X := (hX.below.cell (World.block_lt_of_cell? _ _ q2)).trans q2
            go_simp
            try rfl
          simp only [Act.put, List.setIfInBounds_toArray, List.set_cons_zero, List.set_cons_succ]
          refine' hw_take 5 (some 18) _ rfl rfl (by kernel_rfl) (by kernel_rfl) (by kernel_rfl) (fun _ _ _ h => h) (by rfl) hH ?hy15 ?rest15
          case hy15 =>
            intro X hX
            have cP0X := (hX.below.cell (World.block_lt_of_cell? _ _ cP0)).trans cP0
            have cP1X := (hX.below.cell (World.block_lt_of_cell? _ _ cP1)).trans cP1
            go_simp
            try rfl
          simp only [Act.put, List.setIfInBounds_toArray, List.set_cons_zero, List.set_cons_succ]
          refine' hw_take 6 (some 19) _ rfl rfl (by kernel_rfl) (by kernel_rfl) (by kernel_rfl) (fun _ _ _ h => h) (by rfl) hH ?hy16 ?rest16
          case hy16 =>
            intro X hX
            go_simp
            try rfl
          simp only [Act.put, List.setIfInBounds_toArray, List.set_cons_zero, List.set_cons_succ]
          refine' hw_take 7 (some 20) _ rfl rfl (by kernel_rfl) (by kernel_rfl) (by kernel_rfl) (fun _ _ _ h => h) (by rfl) hH ?hy17 ?rest17
          case hy17 =>
            intro X hX
            go_simp
            try rfl
          simp only [Act.put, List.setIfInBounds_toArray, List.set_cons_zero, List.set_cons_succ]
          refine hw_skip 8 (some 21) rfl rfl (by kernel_rfl) (by kernel_rfl) (by kernel_rfl) (fun _ _ _ h => h) (by rfl) hH ?_
          simp only [Act.put, List.setIfInBounds_toArray, List.set_cons_zero, List.set_cons_succ]
          refine hw_skip 9 (some 22) rfl rfl (by kernel_rfl) (by kernel_rfl) (by kernel_rfl) (fun _ _ _ h => h) (by rfl) hH ?_
          simp only [Act.put, List.setIfInBounds_toArray, List.set_cons_zero, List.set_cons_succ]
          refine hw_skip 10 (some 23) rfl rfl (by kernel_rfl) (by kernel_rfl) (by kernel_rfl) (fun _ _ _ h => h) (by rfl) hH ?_
          simp only [Act.put, List.setIfInBounds_toArray, List.set_cons_zero, List.set_cons_succ]
          refine hw_skip 11 (some 24) rfl rfl (by kernel_rfl) (by kernel_rfl) (by kernel_rfl) (fun _ _ _ h => h) (by rfl) hH ?_
          simp only [Act.put, List.setIfInBounds_toArray, List.set_cons_zero, List.set_cons_succ]
          refine hw_skip 12 (some 25) rfl rfl (by kernel_rfl) (by kernel_rfl) (by kernel_rfl) (fun _ _ _ h => h) (by rfl) hH ?_
          simp only [Act.put, List.setIfInBounds_toArray, List.set_cons_zero, List.set_cons_succ]
          refine hw_skip 13 (some 26) rfl rfl (by kernel_rfl) (by kernel_rfl) (by kernel_rfl) (fun _ _ _ h => h) (by rfl) hH ?_
          simp only [Act.put, List.setIfInBounds_toArray, List.set_cons_zero, List.set_cons_succ]
          refine hw_skip 14 (some 27) rfl rfl (by kernel_rfl) (by kernel_rfl) (by kernel_rfl) (fun _ _ _ h => h) (by rfl) hH ?_
          simp only [Act.put, List.setIfInBounds_toArray, List.set_cons_zero, List.set_cons_succ]
          refine hw_skip 15 (some 28) rfl rfl (by kernel_rfl) (by kernel_rfl) (by kernel_rfl) (fun _ _ _ h => h) (by rfl) hH ?_
          simp only [Act.put, List.setIfInBounds_toArray, List.set_cons_zero, List.set_cons_succ]
          refine hw_skip 16 (some 29) rfl rfl (by kernel_rfl) (by kernel_rfl) (by kernel_rfl) (fun _ _ _ h => h) (by rfl) hH ?_
          simp only [Act.put, List.setIfInBounds_toArray, List.set_cons_zero, List.set_cons_succ]
          refine hw_skip 17 (some 30) rfl rfl (by kernel_rfl) (by kernel_rfl) (by kernel_rfl) (fun _ _ _ h => h) (by rfl) hH ?_
          simp only [Act.put, List.setIfInBounds_toArray, List.set_cons_zero, List.set_cons_succ]
          refine hw_skip 18 (some 31) rfl rfl (by kernel_rfl) (by kernel_rfl) (by kernel_rfl) (fun _ _ _ h => h) (by rfl) hH ?_
          simp only [Act.put, List.setIfInBounds_toArray, List.set_cons_zero, List.set_cons_succ]
          refine hw_skip 19 (some 32) rfl rfl (by kernel_rfl) (by kernel_rfl) (by kernel_rfl) (fun _ _ _ h => h) (by rfl) hH ?_
          simp only [Act.put, List.setIfInBounds_toArray, List.set_cons_zero, List.set_cons_succ]
          refine hw_skip 20 (some 33) rfl rfl (by kernel_rfl) (by kernel_rfl) (by kernel_rfl) (fun _ _ _ h => h) (by rfl) hH ?_
          simp only [Act.put, List.setIfInBounds_toArray, List.set_cons_zero, List.set_cons_succ]
          refine' hw_take 21 (some 34) _ rfl rfl (by kernel_rfl) (by kernel_rfl) (by kernel_rfl) (fun _ _ _ h => h) (by rfl) hH ?hy18 ?rest18
          case hy18 =>
            intro X hX
            go_simp
            try rfl
          simp only [Act.put, List.setIfInBounds_toArray, List.set_cons_zero, List.set_cons_succ]
          refine wpAnyH_done (by kernel_rfl) ?_ _
          go_wp2
          go_roundw
          case rel => exact ⟨k + 1, tt, by omega, by go_num, rfl, HL.out.skip HV.out HK.out, hnw.trans d1⟩
          case measure => simp [intOf]; omega
        case pos =>
          have HK : Hid (keepS a0 l0 ⟨p, a, l, o, xs, nx, md, lc⟩ = true) := by unfold Hid keepS; simp [hka, hkl]
          subst hka
          subst hkl
          by_cases ht : tt < 0
          case pos =>
            have HT : Hid (tt = -1) := by
              rcases HL.out with ⟨e, -⟩ | ⟨i, v, e, -⟩
              · exact e
              · omega
            go_upto_region 5 with fail
            refine hw_start (n := 22) (S := fun X => New wr X) rfl (by kernel_rfl) ((New.refl wr).drew) (fun hH => ?_)
            refine' hw_take 0 (some 13) _ rfl rfl (by kernel_rfl) (by kernel_rfl) (by kernel_rfl) (fun _ _ _ h => h) (by rfl) hH ?hy19 ?rest19
            case hy19 =>
              intro X hX
              go_simp
              try rfl
            simp only [Act.put, List.setIfInBounds_toArray, List.set_cons_zero, List.set_cons_succ]
            refine' hw_take 1 (some 14) _ rfl rfl (by kernel_rfl) (by kernel_rfl) (by kernel_rfl) (fun _ _ _ h => h) (by rfl) hH ?hy20 ?rest20
            case hy20 =>
              intro X hX
              go_simp
              try rfl
            simp only [Act.put, List.setIfInBounds_toArray, List.set_cons_zero, List.set_cons_succ]
            refine' hw_take 2 (some 15) _ rfl rfl (by kernel_rfl) (by kernel_rfl) (by kernel_rfl) (fun _ _ _ h => h) (by rfl) hH ?hy21 ?rest21
            case hy21 =>
              intro X hX
              go_simp
              try rfl
            simp only [Act.put, List.setIfInBounds_toArray, List.set_cons_zero, List.set_cons_succ]
            refine' hw_take 3 (some 16) _ rfl rfl (by kernel_rfl) (by kernel_rfl) (by kernel_rfl) (fun _ _ _ h => h) (by rfl) hH ?hy22 ?rest22
            case hy22 =>
              intro X hX
              go_simp
              try rfl
            simp only [Act.put, List.setIfInBounds_toArray, List.set_cons_zero, List.set_cons_succ]
            refine' hw_take 4 (some 17) _ rfl rfl (by kernel_rfl) (by kernel_rfl) (by kernel_rfl) (fun _ _ _ h => h) (by rfl) hH ?hy23 ?rest23
            case hy23 =>
              intro X hX
              have q1X := (hX.below.cell (World.block_lt_of_cell? _ _ q1)).trans q1
              have q2X := (hX.below.cell (World.block_lt_of_cell? _ _ q2)).trans q2
              go_simp
              try rfl
            simp only [Act.put, List.setIfInBounds_toArray, List.set_cons_zero, List.set_cons_succ]
            refine' hw_take 5 (some 18) _ rfl rfl (by kernel_rfl) (by kernel_rfl) (by kernel_rfl) (fun _ _ _ h => h) (by rfl) hH ?hy24 ?rest24
            case hy24 =>
              intro X hX
              have cP0X := (hX.below.cell (World.block_lt_of_cell? _ _ cP0)).trans cP0
              have cP1X := (hX.below.cell (World.block_lt_of_cell? _ _ cP1)).trans cP1
              go_simp
              try rfl
            simp only [Act.put, List.setIfInBounds_toArray, List.set_cons_zero, List.set_cons_succ]
            refine' hw_take 6 (some 19) _ rfl rfl (by kernel_rfl) (by kernel_rfl) (by kernel_rfl) (fun _ _ _ h => h) (by rfl) hH ?hy25 ?rest25
            case hy25 =>
              intro X hX
              go_simp
              try rfl
            simp only [Act.put, List.setIfInBounds_toArray, List.set_cons_zero, List.set_cons_succ]
            refine' hw_take 7 (some 20) _ rfl rfl (by kernel_rfl) (by kernel_rfl) (by kernel_rfl) (fun _ _ _ h => h) (by rfl) hH ?hy26 ?rest26
            case hy26 =>
              intro X hX
              go_simp
              try rfl
            simp only [Act.put, List.setIfInBounds_toArray, List.set_cons_zero, List.set_cons_succ]
            refine' hw_take 8 (some 21) _ rfl rfl (by kernel_rfl) (by kernel_rfl) (by kernel_rfl) (fun _ _ _ h => h) (by rfl) hH ?hy27 ?rest27
            case hy27 =>
              intro X hX
              go_simp
              try rfl
            simp only [Act.put, List.setIfInBounds_toArray, List.set_cons_zero, List.set_cons_succ]
            refine' hw_take 9 (some 22) _ rfl rfl (by kernel_rfl) (by kernel_rfl) (by kernel_rfl) (fun _ _ _ h => h) (by rfl) hH ?hy28 ?rest28
            case hy28 =>
              intro X hX
              go_simp
              try rfl
            simp only [Act.put, List.setIfInBounds_toArray, List.set_cons_zero, List.set_cons_succ]
            refine' hw_take 10 (some 23) _ rfl rfl (by kernel_rfl) (by kernel_rfl) (by kernel_rfl) (fun _ _ _ h => h) (by rfl) hH ?hy29 ?rest29
            case hy29 =>
              intro X hX
              go_simp
              try rfl
            simp only [Act.put, List.setIfInBounds_toArray, List.set_cons_zero, List.set_cons_succ]
            refine hw_skip 11 (some 24) rfl rfl (by kernel_rfl) (by kernel_rfl) (by kernel_rfl) (fun _ _ _ h => h) (by rfl) hH ?_
            simp only [Act.put, List.setIfInBounds_toArray, List.set_cons_zero, List.set_cons_succ]
            refine hw_skip 12 (some 25) rfl rfl (by kernel_rfl) (by kernel_rfl) (by kernel_rfl) (fun _ _ _ h => h) (by rfl) hH ?_
            simp only [Act.put, List.setIfInBounds_toArray, List.set_cons_zero, List.set_cons_succ]
            refine hw_skip 13 (some 26) rfl rfl (by kernel_rfl) (by kernel_rfl) (by kernel_rfl) (fun _ _ _ h => h) (by rfl) hH ?_
            simp only [Act.put, List.setIfInBounds_toArray, List.set_cons_zero, List.set_cons_succ]
            refine hw_skip 14 (some 27) rfl rfl (by kernel_rfl) (by kernel_rfl) (by kernel_rfl) (fun _ _ _ h => h) (by rfl) hH ?_
            simp only [Act.put, List.setIfInBounds_toArray, List.set_cons_zero, List.set_cons_succ]
            refine hw_skip 15 (some 28) rfl rfl (by kernel_rfl) (by kernel_rfl) (by kernel_rfl) (fun _ _ _ h => h) (by rfl) hH ?_
            simp only [Act.put, List.setIfInBounds_toArray, List.set_cons_zero, List.set_cons_succ]
            refine hw_skip 16 (some 29) rfl rfl (by kernel_rfl) (by kernel_rfl) (by kernel_rfl) (fun _ _ _ h => h) (by rfl) hH ?_
            simp only [Act.put, List.setIfInBounds_toArray, List.set_cons_zero, List.set_cons_succ]
            refine hw_skip 17 (some 30) rfl rfl (by kernel_rfl) (by kernel_rfl) (by kernel_rfl) (fun _ _ _ h => h) (by rfl) hH ?_
            simp only [Act.put, List.setIfInBounds_toArray, List.set_cons_zero, List.set_cons_succ]
            refine hw_skip 18 (some 31) rfl rfl (by kernel_rfl) (by kernel_rfl) (by kernel_rfl) (fun _ _ _ h => h) (by rfl) hH ?_
            simp only [Act.put, List.setIfInBounds_toArray, List.set_cons_zero, List.set_cons_succ]
            refine hw_skip 19 (some 32) rfl rfl (by kernel_rfl) (by kernel_rfl) (by kernel_rfl) (fun _ _ _ h => h) (by rfl) hH ?_
            simp only [Act.put, List.setIfInBounds_toArray, List.set_cons_zero, List.set_cons_succ]
            refine' hw_take 20 (some 33) _ rfl rfl (by kernel_rfl) (by kernel_rfl) (by kernel_rfl) (fun _ _ _ h => h) (by rfl) hH ?hy30 ?rest30
            case hy30 =>
              intro X hX
              go_simp
              try rfl
            simp only [Act.put, List.setIfInBounds_toArray, List.set_cons_zero, List.set_cons_succ]
            refine' hw_take 21 (some 34) _ rfl rfl (by kernel_rfl) (by kernel_rfl) (by kernel_rfl) (fun _ _ _ h => h) (by rfl) hH ?hy31 ?rest31
            case hy31 =>
              intro X hX
              go_simp
              try rfl
            simp only [Act.put, List.setIfInBounds_toArray, List.set_cons_zero, List.set_cons_succ]
            refine wpAnyH_done (by kernel_rfl) ?_ _
            have HL2 : Hid (LbK V a l k (-1)) := by have h := HL.out; rw [HT.out] at h; exact h
            go_wp2
            go_roundw
            case rel => exact ⟨k + 1, (k : Int), by omega, by go_num, rfl, HL2.out.first HV.out HK.out, hnw.trans d1⟩
            case measure => simp [intOf]; omega
          case neg =>
            obtain ⟨j, u, rfl, hu⟩ : ∃ (j : Nat) (u : Rv), tt = (j : Int) ∧ V[j]? = some u := by
              rcases HL.out with ⟨e, -⟩ | ⟨i, v, e, e2, -⟩
              · omega
              · exact ⟨i, v, e, e2⟩
            have hjl := (List.getElem?_eq_some_iff.1 hu).1
            have hjN : j < N := by have := HN.out; omega
            obtain ⟨b', off', p', a', l', o', nx', md', lc', x', m', d', xs', hA', hv', hlen', -, -, hmx', y0, y1, y2, y3, y4, y5, y6, y7⟩ := (HA.out _ N1).at j hjl
            simp only [Option.some.injEq, Addr.mk.injEq, and_true] at hA'
            obtain ⟨rfl, rfl⟩ := hA'
            rw [hu] at hv'
            obtain rfl := Option.some.inj hv'
            have HU : Hid (V[j]? = some ⟨⟨p', a', l', o', xs', nx', md', lc'⟩, x', d'⟩) := hu
            have HLN' : Hid (xs'.length = m') := hlen'
            have hj0 : (0 : Int) ≤ (j : Int) := by omega
            have hj1 : (j : Int) < (N : Int) := by omega
            clear hu hv' hlen'
            obtain ⟨z, hz⟩ : ∃ z, Hid (decide (cmpW p o md lc m p' o' md' lc' m' < 0) = z) := ⟨_, rfl⟩
            go_upto_region 5 with fail
            refine hw_start (n := 22) (S := fun X => New wr X) rfl (by kernel_rfl) ((New.refl wr).drew) (fun hH => ?_)
            refine' hw_take 0 (some 13) _ rfl rfl (by kernel_rfl) (by kernel_rfl) (by kernel_rfl) (fun _ _ _ h => h) (by rfl) hH ?hy32 ?rest32
            case hy32 =>
              intro X hX
              go_simp
              try rfl
            simp only [Act.put, List.setIfInBounds_toArray, List.set_cons_zero, List.set_cons_succ]
            refine' hw_take 1 (some 14) _ rfl rfl (by kernel_rfl) (by kernel_rfl) (by kernel_rfl) (fun _ _ _ h => h) (by rfl) hH ?hy33 ?rest33
            case hy33 =>
              intro X hX
              go_simp
              try rfl
            simp only [Act.put, List.setIfInBounds_toArray, List.set_cons_zero, List.set_cons_succ]
            refine' hw_take 2 (some 15) _ rfl rfl (by kernel_rfl) (by kernel_rfl) (by kernel_rfl) (fun _ _ _ h => h) (by rfl) hH ?hy34 ?rest34
            case hy34 =>
              intro X hX
              go_simp
              try rfl
            simp only [Act.put, List.setIfInBounds_toArray, List.set_cons_zero, List.set_cons_succ]
            refine' hw_take 3 (some 16) _ rfl rfl (by kernel_rfl) (by kernel_rfl) (by kernel_rfl) (fun _ _ _ h => h) (by rfl) hH ?hy35 ?rest35
            case hy35 =>
              intro X hX
              go_simp
              try rfl
            simp only [Act.put, List.setIfInBounds_toArray, List.set_cons_zero, List.set_cons_succ]
            refine' hw_take 4 (some 17) _ rfl rfl (by kernel_rfl) (by kernel_rfl) (by kernel_rfl) (fun _ _ _ h => h) (by rfl) hH ?hy36 ?rest36
            case hy36 =>
              intro X hX
              have q1X := (hX.below.cell (World.block_lt_of_cell? _ _ q1)).trans q1
              have q2X := (hX.below.cell (World.block_lt_of_cell? _ _ q2)).trans q2
              go_simp
              try rfl
            simp only [Act.put, List.setIfInBounds_toArray, List.set_cons_zero, List.set_cons_succ]
            refine' hw_take 5 (some 18) _ rfl rfl (by kernel_rfl) (by kernel_rfl) (by kernel_rfl) (fun _ _ _ h => h) (by rfl) hH ?hy37 ?rest37
            case hy37 =>
              intro X hX
              have cP0X := (hX.below.cell (World.block_lt_of_cell? _ _ cP0)).trans cP0
              have cP1X := (hX.below.cell (World.block_lt_of_cell? _ _ cP1)).trans cP1
              go_simp
              try rfl
            simp only [Act.put, List.setIfInBounds_toArray, List.set_cons_zero, List.set_cons_succ]
            refine' hw_take 6 (some 19) _ rfl rfl (by kernel_rfl) (by kernel_rfl) (by kernel_rfl) (fun _ _ _ h => h) (by rfl) hH ?hy38 ?rest38
            case hy38 =>
              intro X hX
              go_simp
              try rfl
            simp only [Act.put, List.setIfInBounds_toArray, List.set_cons_zero, List.set_cons_succ]
            refine' hw_take 7 (some 20) _ rfl rfl (by kernel_rfl) (by kernel_rfl) (by kernel_rfl) (fun _ _ _ h => h) (by rfl) hH ?hy39 ?rest39
            case hy39 =>
              intro X hX
              go_simp
              try rfl
            simp only [Act.put, List.setIfInBounds_toArray, List.set_cons_zero, List.set_cons_succ]
            refine' hw_take 8 (some 21) _ rfl rfl (by kernel_rfl) (by kernel_rfl) (by kernel_rfl) (fun _ _ _ h => h) (by rfl) hH ?hy40 ?rest40
            case hy40 =>
              intro X hX
              go_simp
              try rfl
            simp only [Act.put, List.setIfInBounds_toArray, List.set_cons_zero, List.set_cons_succ]
            refine' hw_take 9 (some 22) _ rfl rfl (by kernel_rfl) (by kernel_rfl) (by kernel_rfl) (fun _ _ _ h => h) (by rfl) hH ?hy41 ?rest41
            case hy41 =>
              intro X hX
              go_simp
              try rfl
            simp only [Act.put, List.setIfInBounds_toArray, List.set_cons_zero, List.set_cons_succ]
            refine' hw_take 10 (some 23) _ rfl rfl (by kernel_rfl) (by kernel_rfl) (by kernel_rfl) (fun _ _ _ h => h) (by rfl) hH ?hy42 ?rest42
            case hy42 =>
              intro X hX
              go_simp
              try rfl
            simp only [Act.put, List.setIfInBounds_toArray, List.set_cons_zero, List.set_cons_succ]
            refine' hw_take 11 (some 24) _ rfl rfl (by kernel_rfl) (by kernel_rfl) (by kernel_rfl) (fun _ _ _ h => h) (by rfl) hH ?hy43 ?rest43
            case hy43 =>
              intro X hX
              go_simp
              try rfl
            simp only [Act.put, List.setIfInBounds_toArray, List.set_cons_zero, List.set_cons_succ]
            refine' hw_take 12 (some 25) _ rfl rfl (by kernel_rfl) (by kernel_rfl) (by kernel_rfl) (fun _ _ _ h => h) (by rfl) hH ?hy44 ?rest44
            case hy44 =>
              intro X hX
              go_simp
              try rfl
            simp only [Act.put, List.setIfInBounds_toArray, List.set_cons_zero, List.set_cons_succ]
            refine' hw_take 13 (some 26) _ rfl rfl (by kernel_rfl) (by kernel_rfl) (by kernel_rfl) (fun _ _ _ h => h) (by rfl) hH ?hy45 ?rest45
            case hy45 =>
              intro X hX
              go_simp
              try rfl
            simp only [Act.put, List.setIfInBounds_toArray, List.set_cons_zero, List.set_cons_succ]
            refine' hw_take 14 (some 27) _ rfl rfl (by kernel_rfl) (by kernel_rfl) (by kernel_rfl) (fun _ _ _ h => h) (by rfl) hH ?hy46 ?rest46
            case hy46 =>
              intro X hX
              have q0X := (hX.below.cell (World.block_lt_of_cell? _ _ q0)).trans q0
              have q1X := (hX.below.cell (World.block_lt_of_cell? _ _ q1)).trans q1
              have q2X := (hX.below.cell (World.block_lt_of_cell? _ _ q2)).trans q2
              have q3X := (hX.below.cell (World.block_lt_of_cell? _ _ q3)).trans q3
              have q4X := (hX.below.cell (World.block_lt_of_cell? _ _ q4)).trans q4
              have q5X := (hX.below.cell (World.block_lt_of_cell? _ _ q5)).trans q5
              have q6X := (hX.below.cell (World.block_lt_of_cell? _ _ q6)).trans q6
              have q7X := (hX.below.cell (World.block_lt_of_cell? _ _ q7)).trans q7
              go_simp
              try rfl
            simp only [Act.put, List.setIfInBounds_toArray, List.set_cons_zero, List.set_cons_succ]
            refine' hw_take 15 (some 28) _ rfl rfl (by kernel_rfl) (by kernel_rfl) (by kernel_rfl) (fun _ _ _ h => h) (by rfl) hH ?hy47 ?rest47
            case hy47 =>
              intro X hX
              go_simp
              try rfl
            simp only [Act.put, List.setIfInBounds_toArray, List.set_cons_zero, List.set_cons_succ]
            refine' hw_take 16 (some 29) _ rfl rfl (by kernel_rfl) (by kernel_rfl) (by kernel_rfl) (fun _ _ _ h => h) (by rfl) hH ?hy48 ?rest48
            case hy48 =>
              intro X hX
              go_simp
              try rfl
            simp only [Act.put, List.setIfInBounds_toArray, List.set_cons_zero, List.set_cons_succ]
            refine' hw_take 17 (some 30) _ rfl rfl (by kernel_rfl) (by kernel_rfl) (by kernel_rfl) (fun _ _ _ h => h) (by rfl) hH ?hy49 ?rest49
            case hy49 =>
              intro X hX
              go_simp
              try rfl
            simp only [Act.put, List.setIfInBounds_toArray, List.set_cons_zero, List.set_cons_succ]
            refine' hw_take 18 (some 31) _ rfl rfl (by kernel_rfl) (by kernel_rfl) (by kernel_rfl) (fun _ _ _ h => h) (by rfl) hH ?hy50 ?rest50
            case hy50 =>
              intro X hX
              have y0X := (hX.below.cell (World.block_lt_of_cell? _ _ y0)).trans y0
              have y1X := (hX.below.cell (World.block_lt_of_cell? _ _ y1)).trans y1
              have y2X := (hX.below.cell (World.block_lt_of_cell? _ _ y2)).trans y2
              have y3X := (hX.below.cell (World.block_lt_of_cell? _ _ y3)).trans y3
              have y4X := (hX.below.cell (World.block_lt_of_cell? _ _ y4)).trans y4
              have y5X := (hX.below.cell (World.block_lt_of_cell? _ _ y5)).trans y5
              have y6X := (hX.below.cell (World.block_lt_of_cell? _ _ y6)).trans y6
              have y7X := (hX.below.cell (World.block_lt_of_cell? _ _ y7)).trans y7
              go_simp
              try rfl
            simp only [Act.put, List.setIfInBounds_toArray, List.set_cons_zero, List.set_cons_succ]
            refine hw_call 19 (some 32) rfl rfl (by decide +kernel) (by rfl) (fun K hK => ?_)
            go_simp
            refine (specBT p a l o nx md lc x m d p' a' l' o' nx' md' lc' x' m' d' z _ hmx hmx' hz.out).mono ?_
            rintro e w1 ⟨rfl, h1⟩
            have n1 : New wr w1 := d1.trans h1
            refine hK.out _ _ n1 (fun hH => ?_)
            simp only [Act.put, List.setIfInBounds_toArray, List.set_cons_zero, List.set_cons_succ]
            refine' hw_take 20 (some 33) _ rfl rfl (by kernel_rfl) (by kernel_rfl) (by kernel_rfl) (fun _ _ _ h => h) (by rfl) hH ?hy51 ?rest51
            case hy51 =>
              intro X hX
              go_simp
              try rfl
            simp only [Act.put, List.setIfInBounds_toArray, List.set_cons_zero, List.set_cons_succ]
            refine' hw_take 21 (some 34) _ rfl rfl (by kernel_rfl) (by kernel_rfl) (by kernel_rfl) (fun _ _ _ h => h) (by rfl) hH ?hy52 ?rest52
            case hy52 =>
              intro X hX
              go_simp
              try rfl
            simp only [Act.put, List.setIfInBounds_toArray, List.set_cons_zero, List.set_cons_succ]
            refine wpAnyH_done (by kernel_rfl) ?_ _
            cases z with
            | true =>
              have HC : Hid (cW (Rv.r ⟨⟨p, a, l, o, xs, nx, md, lc⟩, x, d⟩) (Rv.r ⟨⟨p', a', l', o', xs', nx', md', lc'⟩, x', d'⟩) < 0) := by
                have e := of_decide_eq_true hz.out
                rw [← HLN.out, ← HLN'.out] at e
                exact e
              go_wp2
              go_roundw
              case rel => exact ⟨k + 1, (k : Int), by omega, by go_num, rfl, HL.out.take HV.out HK.out HU.out HC.out, hnw.trans n1⟩
              case measure => simp [intOf]; omega
            | false =>
              have HC : Hid (¬ cW (Rv.r ⟨⟨p, a, l, o, xs, nx, md, lc⟩, x, d⟩) (Rv.r ⟨⟨p', a', l', o', xs', nx', md', lc'⟩, x', d'⟩) < 0) := by
                have e := of_decide_eq_false hz.out
                rw [← HLN.out, ← HLN'.out] at e
                exact e
              go_wp2
              go_roundw
              case rel => exact ⟨k + 1, (j : Int), by omega, by go_num, rfl, HL.out.stay HV.out HU.out HC.out, hnw.trans n1⟩
              case measure => simp [intOf]; omega

end Go.Proofs.Ytjampcfikfafkaa

namespace Go.Proofs.Ytjampcfikfafkaa
open Go.RowKit Go.Sort
set_option linter.unusedVariables false
set_option linter.unusedSimpArgs false
set_option maxRecDepth 100000

/-- The answer: the faults of list and prefix, or the best. -/
def BfA (R : List Rt) (a0 l0 z : Int) (r : Rt) : Prop := (¬ ribF R = 0 ∧ z = ribF R ∧ r = ⟨0, 0, 0, 0, [], 0, 0, 0⟩) ∨ (ribF R = 0 ∧ ¬ pf a0 l0 = 0 ∧ z = pf a0 l0 ∧ r = ⟨0, 0, 0, 0, [], 0, 0, 0⟩) ∨ (ribF R = 0 ∧ pf a0 l0 = 0 ∧ BfOk R a0 l0 z r)

/-- The answer as a value of the call's own. -/
def BAns (w : World) (R : List Rt) (a0 l0 : Int) (e : Ending) (w' : World) : Prop := ∃ z r x d, BfA R a0 l0 z r ∧ e = .returned (.agg #[.int .i64 z, .int .i64 r.p, .int .i64 r.a, .int .i64 r.l, .int .i64 r.o, .slice x r.xs.length d, .int .i64 r.nx, .int .i64 r.md, .int .i64 r.lc]) ∧ OvN w' w.heap.size (.slice x r.xs.length d) r.xs ∧ ((∀ q ∈ r.xs, In6 q) ∧ r.xs.length ≤ 1048576) ∧ New w w'

theorem BAns.bad {w w' : World} {R : List Rt} {a0 l0 z : Int} (h : BfA R a0 l0 z ⟨0, 0, 0, 0, [], 0, 0, 0⟩) (n : New w w') : BAns w R a0 l0 (.returned (.agg #[.int .i64 z, .int .i64 0, .int .i64 0, .int .i64 0, .int .i64 0, .slice none 0 0, .int .i64 0, .int .i64 0, .int .i64 0])) w' :=
  ⟨z, _, none, 0, h, rfl, ⟨rfl, .inl ⟨rfl, rfl⟩⟩, ⟨by simp, by simp⟩, n⟩

theorem nine_new {w W : World} {B : Nat} {W' : World} (hn : New w W) (t : Turn (fun k => k = B) W W') (hB : w.heap.size ≤ B) : New w W' :=
  Turn.mono (S := fun k => w.heap.size ≤ k) (Turn.trans hn.turn t (fun k _ e => by omega)) (fun k h1 h2 => by omega)

set_option maxHeartbeats 6400000 in
theorem implBF (a0 l0 : Int) (A : Option Addr) (N cc : Nat) (V : List Rv) (w : World) (h : RtAt w A V) (hn : V.length = N) (hm : N ≤ 1048576) :
    Calls Try.prog 8 #[.slice A N cc, .agg #[.int .i64 a0, .int .i64 l0]] w (BAns w (V.map Rv.r) a0 l0) := by
  by_cases hok : ribF (V.map Rv.r) = 0 ∧ pf a0 l0 = 0
  · refine (implBF_ok a0 l0 A N cc V w h hn hm hok.1 hok.2).mono fun e w' hh => ?_
    obtain ⟨z, r, x, d, h1, h2⟩ := hh
    exact ⟨z, r, x, d, .inr (.inr ⟨hok.1, hok.2, h1⟩), h2⟩
  have HN : Hid (V.length = N) := hn
  have N0 : New w ((w.alloc (.cells #[.int .i64 a0, .int .i64 l0] 30)).alloc (.cells #[.int .i64 0, .int .i64 0, .int .i64 0, .int .i64 0, .int .i64 0, .slice none 0 0, .int .i64 0, .int .i64 0, .int .i64 0] 37)) := ((New.refl w).alloc _).alloc _
  have bB : Blk ((w.alloc (.cells #[.int .i64 a0, .int .i64 l0] 30)).alloc (.cells #[.int .i64 0, .int .i64 0, .int .i64 0, .int .i64 0, .int .i64 0, .slice none 0 0, .int .i64 0, .int .i64 0, .int .i64 0] 37)) (w.heap.size + 1) 37 #[.int .i64 0, .int .i64 0, .int .i64 0, .int .i64 0, .int .i64 0, .slice none 0 0, .int .i64 0, .int .i64 0, .int .i64 0] := Blk.mk _ _ _ _ (by simp)
  have bP : Blk ((w.alloc (.cells #[.int .i64 a0, .int .i64 l0] 30)).alloc (.cells #[.int .i64 0, .int .i64 0, .int .i64 0, .int .i64 0, .int .i64 0, .slice none 0 0, .int .i64 0, .int .i64 0, .int .i64 0] 37)) w.heap.size 30 #[.int .i64 a0, .int .i64 l0] := (Blk.mk _ _ _ _ rfl).alloc _
  obtain ⟨f, hf⟩ : ∃ f, Hid (ribF (V.map Rv.r) = f) := ⟨_, rfl⟩
  obtain ⟨g, hg⟩ : ∃ g, Hid (pf a0 l0 = g) := ⟨_, rfl⟩
  have HOK : Hid (¬ (f = 0 ∧ g = 0)) := by unfold Hid; rw [← hf.out, ← hg.out]; exact hok
  clear hok hn
  go_enter Try.func8, Try.ntmps8
  go_upto_region 1 with fail
  generalize ((w.alloc (.cells #[.int .i64 a0, .int .i64 l0] 30)).alloc (.cells #[.int .i64 0, .int .i64 0, .int .i64 0, .int .i64 0, .int .i64 0, .slice none 0 0, .int .i64 0, .int .i64 0, .int .i64 0] 37)) = w0 at *
  go_wp2_with fail
  refine (implRib A N cc V f _ (h.new N0) HN.out hm hf.out).mono ?_
  rintro e w1 ⟨rfl, h1⟩
  have b1 := bB.new h1
  have p1 := bP.new h1
  have n1 := N0.trans h1
  have lt1 := b1.lt
  clear bB h1 N0 bP
  by_cases h0 : f = 0
  case neg =>
    have hne : (f != 0) = true := by simpa using h0
    have HB : Hid (BfA (V.map Rv.r) a0 l0 f ⟨0, 0, 0, 0, [], 0, 0, 0⟩) := .inl ⟨by rw [hf.out]; exact h0, hf.out.symm, rfl⟩
    have c1 := b1.cells
    have f1 := b1.frees
    clear hf hg
    go_wp2
    exact bodyPost_ret (v := .agg #[.int .i64 f, .int .i64 0, .int .i64 0, .int .i64 0, .int .i64 0, .slice none 0 0, .int .i64 0, .int .i64 0, .int .i64 0]) (by simp [results, Try.results8, go_sem, c1]) rfl (BAns.bad HB.out (nine_new n1 (nine8 w1 (w.heap.size + 1) 37 (.int .i64 0) (.int .i64 0) (.int .i64 0) (.int .i64 0) (.int .i64 0) (.slice none 0 0) (.int .i64 0) (.int .i64 0) (.int .i64 0) (.int .i64 f) (.int .i64 0) (.int .i64 0) (.int .i64 0) (.int .i64 0) (.slice none 0 0) (.int .i64 0) (.int .i64 0) (.int .i64 0) b1).2 (by omega)))
  subst h0
  have hg0 : ¬ g = 0 := fun e => HOK.out ⟨rfl, e⟩
  have hne : (g != 0) = true := by simpa using hg0
  have HB : Hid (BfA (V.map Rv.r) a0 l0 g ⟨0, 0, 0, 0, [], 0, 0, 0⟩) := .inr (.inl ⟨hf.out, by rw [hg.out]; exact hg0, hg.out.symm, rfl⟩)
  have pc := p1.cells
  go_wp2_with fail
  refine (implPF_is a0 l0 g _ hg.out).mono ?_
  rintro e w2 ⟨rfl, h2⟩
  have b2 := b1.new h2
  have n2 := n1.trans h2
  have lt2 := b2.lt
  have c2 := b2.cells
  have f2 := b2.frees
  clear hf hg b1 p1 pc n1 h2
  go_wp2
  exact bodyPost_ret (v := .agg #[.int .i64 g, .int .i64 0, .int .i64 0, .int .i64 0, .int .i64 0, .slice none 0 0, .int .i64 0, .int .i64 0, .int .i64 0]) (by simp [results, Try.results8, go_sem, c2]) rfl (BAns.bad HB.out (nine_new n2 (nine8 w2 (w.heap.size + 1) 37 (.int .i64 0) (.int .i64 0) (.int .i64 0) (.int .i64 0) (.int .i64 0) (.slice none 0 0) (.int .i64 0) (.int .i64 0) (.int .i64 0) (.int .i64 g) (.int .i64 0) (.int .i64 0) (.int .i64 0) (.int .i64 0) (.slice none 0 0) (.int .i64 0) (.int .i64 0) (.int .i64 0) b2).2 (by omega)))

end Go.Proofs.Ytjampcfikfafkaa

namespace Go.Proofs.Ytjampcfikfafkaa
open Go.RowKit Go.Sort
set_option linter.unusedVariables false

theorem set5t (w : World) (B j : Nat) (v0 v1 v2 v3 v4 : Value) : Turn (fun k => k = B) w (((((w.setCell ⟨B, j, none⟩ v0).setCell ⟨B, j + 1, none⟩ v1).setCell ⟨B, j + 2, none⟩ v2).setCell ⟨B, j + 3, none⟩ v3).setCell ⟨B, j + 4, none⟩ v4) :=
  (((((Turn.refl (fun k => k = B) w).set (p := ⟨B, j, none⟩) rfl v0).set (p := ⟨B, j + 1, none⟩) rfl v1).set (p := ⟨B, j + 2, none⟩) rfl v2).set (p := ⟨B, j + 3, none⟩) rfl v3).set (p := ⟨B, j + 4, none⟩) rfl v4

set_option maxHeartbeats 6400000 in
theorem l7Copy_any (A : Option Addr) (N cc : Nat) (V : List Rv) (w : World) (h : RtAt w A V) (hn : V.length = N) (hm : N ≤ 1048576) :
    Calls Try.prog 17 #[.slice A N cc] w fun e w' => ∃ u V', e = .returned u ∧ V'.map Rv.r = V.map Rv.r ∧ OwT w' w.heap.size w'.heap.size u V' ∧ New w w' := by
  have HN : Hid (V.length = N) := hn
  clear hn
  obtain ⟨i0, hi, hz0, hz1, hz2⟩ := info_parts Try.infoRt
  have NL : New w (w.alloc (.cells #[] 35)) := (New.refl w).alloc _
  have hL : OwT (w.alloc (.cells #[] 35)) w.heap.size (w.alloc (.cells #[] 35)).heap.size (.slice (some ⟨w.heap.size, 0, none⟩) 0 0) [] :=
    ⟨row_lit7 (lo := w.heap.size) (Blk.mk w w.heap.size 35 #[] rfl) (Nat.le_refl _), by intro k hk; simp [Value.ownBlock] at hk; simp; omega, PathsT.nil _ _ _⟩
  go_enter Try.func17, Try.ntmps17
  go_wp2
  go_loopw [3, 4] (fun s i wr => ∃ (k : Nat) (V' : List Rv), k ≤ N ∧ i = .int .i64 k ∧ V'.length = k ∧ V'.map Rv.r = (V.take k).map Rv.r ∧ New w wr ∧ OwT wr w.heap.size wr.heap.size s V') (fun _ i _ => N - (intOf i).toNat)
  case atStart => exact ⟨0, [], Nat.zero_le _, rfl, rfl, rfl, NL, hL⟩
  case round =>
    clear NL hL
    obtain ⟨k, V', hk, rfl, hlk, hmap, hnw, how⟩ := hrel
    have HLK : Hid (V'.length = k) := hlk
    clear hlk
    by_cases hlt : k < N
    · obtain ⟨b, off, p, a, l, o, nx, md, lc, x, m, d, xs, rfl, hv, hlen, hns, hnl, hmx, q0, q1, q2, q3, q4, q5, q6, q7⟩ := (h.new hnw).at k (by have := HN.out; omega)
      have HL : Hid (xs.length = m) := hlen
      have hbd : Hid (∀ z ∈ xs, In6 z) := hns.bd
      have HX : Hid (x = none → m = 0 ∧ d = 0) := hnl
      have HM : Hid (∀ u : Rv, u.r = ⟨p, a, l, o, xs, nx, md, lc⟩ → (V' ++ [u]).map Rv.r = (V.take (k + 1)).map Rv.r) := by
        intro u hu
        obtain ⟨hk', e⟩ := List.getElem?_eq_some_iff.1 hv
        rw [List.take_succ_eq_append_getElem hk', e, List.map_append, List.map_append, hmap]
        simp [hu]
      have N0 := (New.refl wr).alloc (.cells #[.int .i64 p, .int .i64 a, .int .i64 l, .int .i64 o, .slice x m d, .int .i64 nx, .int .i64 md, .int .i64 lc] 35)
      have bA := Blk.mk wr wr.heap.size 35 #[.int .i64 p, .int .i64 a, .int .i64 l, .int .i64 o, .slice x m d, .int .i64 nx, .int .i64 md, .int .i64 lc] rfl
      clear hv hlen hmap hnl
      go_upto_region 6 with fail
      generalize wr.alloc (.cells #[.int .i64 p, .int .i64 a, .int .i64 l, .int .i64 o, .slice x m d, .int .i64 nx, .int .i64 md, .int .i64 lc] 35) = wa at *
      have cA := bA.cells
      go_wp2_with fail
      refine (l6C7_any o nx md lc x m d xs _ (hns.new N0) HL.out hmx HX.out).mono ?_
      rintro e w1 ⟨av, kv, rfl, ho1, -, h1⟩
      have bA1 := bA.new h1
      have N1 := N0.trans h1
      have ltA := bA.lt
      have cA := bA1.cells
      have fA := bA1.frees
      clear q0 q1 q2 q3 q4 q5 q6 q7 hns
      go_upto_region 7 with fail
      have tS : Turn (fun j => j = wr.heap.size) w1 (((((w1.setCell ⟨wr.heap.size, 3, none⟩ (.int .i64 o)).setCell ⟨wr.heap.size, 3 + 1, none⟩ (.slice av m kv)).setCell ⟨wr.heap.size, 3 + 2, none⟩ (.int .i64 nx)).setCell ⟨wr.heap.size, 3 + 3, none⟩ (.int .i64 md)).setCell ⟨wr.heap.size, 3 + 4, none⟩ (.int .i64 lc)) := set5t w1 wr.heap.size 3 _ _ _ _ _
      have bS : Blk (((((w1.setCell ⟨wr.heap.size, 3, none⟩ (.int .i64 o)).setCell ⟨wr.heap.size, 3 + 1, none⟩ (.slice av m kv)).setCell ⟨wr.heap.size, 3 + 2, none⟩ (.int .i64 nx)).setCell ⟨wr.heap.size, 3 + 3, none⟩ (.int .i64 md)).setCell ⟨wr.heap.size, 3 + 4, none⟩ (.int .i64 lc)) wr.heap.size 35 #[.int .i64 p, .int .i64 a, .int .i64 l, .int .i64 o, .slice av m kv, .int .i64 nx, .int .i64 md, .int .i64 lc] := ((((bA1.set 3 (.int .i64 o)).set 4 (.slice av m kv)).set 5 (.int .i64 nx)).set 6 (.int .i64 md)).set 7 (.int .i64 lc)
      have hO2 : OvN (((((w1.setCell ⟨wr.heap.size, 3, none⟩ (.int .i64 o)).setCell ⟨wr.heap.size, 3 + 1, none⟩ (.slice av m kv)).setCell ⟨wr.heap.size, 3 + 2, none⟩ (.int .i64 nx)).setCell ⟨wr.heap.size, 3 + 3, none⟩ (.int .i64 md)).setCell ⟨wr.heap.size, 3 + 4, none⟩ (.int .i64 lc)) wr.heap.size (.slice av m kv) xs := (ho1.turn7 tS (fun j hj e => by have := (ho1.rng7 j hj).1; have := N0.size; omega)).low N0.size
      have N2 : New wr (((((w1.setCell ⟨wr.heap.size, 3, none⟩ (.int .i64 o)).setCell ⟨wr.heap.size, 3 + 1, none⟩ (.slice av m kv)).setCell ⟨wr.heap.size, 3 + 2, none⟩ (.int .i64 nx)).setCell ⟨wr.heap.size, 3 + 3, none⟩ (.int .i64 md)).setCell ⟨wr.heap.size, 3 + 4, none⟩ (.int .i64 lc)) := N1.before tS (fun i hi e => by omega)
      clear cA fA bA bA1 N0 N1 h1 ho1 tS
      generalize (((((w1.setCell ⟨wr.heap.size, 3, none⟩ (.int .i64 o)).setCell ⟨wr.heap.size, 3 + 1, none⟩ (.slice av m kv)).setCell ⟨wr.heap.size, 3 + 2, none⟩ (.int .i64 nx)).setCell ⟨wr.heap.size, 3 + 3, none⟩ (.int .i64 md)).setCell ⟨wr.heap.size, 3 + 4, none⟩ (.int .i64 lc)) = w2 at *
      have cS := bS.cells
      have bL := Blk.mk w2 w2.heap.size 35 #[.int .i64 p, .int .i64 a, .int .i64 l, .int .i64 o, .slice av m kv, .int .i64 nx, .int .i64 md, .int .i64 lc] rfl
      have hrow3 : (w2.alloc (.cells #[.int .i64 p, .int .i64 a, .int .i64 l, .int .i64 o, .slice av m kv, .int .i64 nx, .int .i64 md, .int .i64 lc] 35)).ownsRow w.heap.size 35 8 _ V'.length (cellsT V') := row_turn7 (row_turn7 how.row N2 (fun _ _ f => f)) ((New.refl w2).alloc _) (fun _ _ f => f)
      have hov : OvN w2 wr.heap.size (Rv.pv (Rv.mk (Rt.mk p a l o xs nx md lc) av kv)) xs := by
        unfold Rv.pv
        simp only [HL.out]
        exact hO2
      have hsz : w.heap.size ≤ (w2.alloc (.cells #[.int .i64 p, .int .i64 a, .int .i64 l, .int .i64 o, .slice av m kv, .int .i64 nx, .int .i64 md, .int .i64 lc] 35)).heap.size := by have e1 := hnw.size; have e2 := N2.size; simp; omega
      have hsrc : ∀ j, (w2.alloc (.cells #[.int .i64 p, .int .i64 a, .int .i64 l, .int .i64 o, .slice av m kv, .int .i64 nx, .int .i64 md, .int .i64 lc] 35)).cell? ⟨w2.heap.size, j, none⟩ = (Rv.mk (Rt.mk p a l o xs nx md lc) av kv).cs[j]? := by
        intro j
        rw [bL.cells j]
        unfold Rv.cs
        simp only [HL.out]
        simp
      go_wp2_with (at_builtin; refine wpList_apT _ rfl (.tmp 21) (.tmp 23) rfl w.heap.size _ Try.underlying24 hi hz0 hz1 hz2 rfl _ V' rfl hrow3 w2.heap.size (Rv.mk (Rt.mk p a l o xs nx md lc) av kv) rfl hsrc (by have := HLK.out; omega) hsz ?_)
      intro v5 w5 hr5 hg5 _
      replace hr5 : w5.ownsRow w.heap.size 35 8 v5 (V' ++ [Rv.mk (Rt.mk p a l o xs nx md lc) av kv]).length (cellsT (V' ++ [Rv.mk (Rt.mk p a l o xs nx md lc) av kv])) := by rw [List.length_append]; exact hr5
      have hO5 := OwT.appended how hnw.size N2 hov hbd.out (by simp only [HL.out]; exact hmx) ((New.refl w2).alloc _) hr5 hg5
      have N5 : New w w5 := (((hnw.trans N2).alloc _).grow hg5 (fun j hj => (row_rng7 how.row j hj).1))
      clear hr5 hg5 hrow3 hsrc hov how bS cS
      go_wp2
      go_roundw
      case rel => exact ⟨k + 1, V' ++ [Rv.mk (Rt.mk p a l o xs nx md lc) av kv], by omega, by go_num, by simp [HLK.out], HM.out _ rfl, N5, hO5⟩
      case measure => simp [intOf]; omega
    · go_wp2
      go_ret
      rw [List.take_of_length_le (by have := HN.out; omega)] at hmap
      exact ⟨_, V', rfl, hmap, how, hnw⟩

end Go.Proofs.Ytjampcfikfafkaa

namespace Go.Proofs.Ytjampcfikfafkaa
open Go.RowKit Go.Sort
set_option linter.unusedVariables false
set_option linter.unusedSimpArgs false
set_option maxRecDepth 100000

theorem Try.htRl : Try.prog.underlying 24 = some (.slice (Try.prog.elem 24)) := by kernel_rfl
theorem Try.szRl (w : World) : (sizeOf (Try.prog.elem 24)).run Try.prog w = .ok 8 w := by kernel_rfl
/-- One route cut out of a list. -/
theorem cutR (b off N c t : Nat) (ht : t + 1 ≤ c) : ∀ X, (Instr.slice 24 (.slice (some ⟨b, off, none⟩) N c) (some (.int .i64 (t : Int))) (some (.int .i64 ((t : Int) + 1))) none).run Try.prog X = .ok (.slice (some ⟨b, off + t * 8, none⟩) 1 (c - t)) X := by
  intro X
  rw [run_slice_lh X 24 (some ⟨b, off, none⟩) N c Try.htRl .i64 .i64 t ((t : Int) + 1) (by omega) (by omega) (by omega), Try.szRl]
  have h1 : ¬ c = t := by omega
  have h2 : ((t : Int) + 1).toNat = t + 1 := by omega
  simp [Result.andThen, sliced, h1, h2, Addr.add]

end Go.Proofs.Ytjampcfikfafkaa

namespace Go.Proofs.Ytjampcfikfafkaa
open Go.RowKit Go.Sort
set_option linter.unusedVariables false
set_option linter.unusedSimpArgs false

theorem BfOk.det {R : List Rt} {a0 l0 z z' : Int} {r r' : Rt} (hR : ribF R = 0) (h : BfOk R a0 l0 z r) (k : BfOk R a0 l0 z' r') : z = z' ∧ r = r' := by
  rcases h with ⟨h1, h2, h3⟩ | ⟨h1, h2, h3, h4⟩
  · rcases k with ⟨k1, k2, k3⟩ | ⟨k1, k2, k3, k4⟩
    · exact ⟨by omega, by rw [h2, k2]⟩
    · rw [h3 _ k2] at k3; cases k3
  · rcases k with ⟨k1, k2, k3⟩ | ⟨k1, k2, k3, k4⟩
    · rw [k3 _ h2] at h3; cases h3
    · refine ⟨by omega, ?_⟩
      have e1 := h4 r' k2 k3
      have e2 := k4 r h2 h3
      have u1 := of_decide_eq_true h3
      have u2 := of_decide_eq_true k3
      have hp : r.p = r'.p ∧ r.a = r'.a ∧ r.l = r'.l := by
        rcases Classical.em (r.p = r'.p ∧ r.a = r'.a ∧ r.l = r'.l) with e | e
        · exact e
        · exact absurd (hlt_tot ⟨r, none, 0⟩ ⟨r', none, 0⟩ e e2) e1
      have ho := (ribF_ok hR).2.1
      obtain ⟨i, hi⟩ := List.getElem?_of_mem h2
      obtain ⟨j, hj⟩ := List.getElem?_of_mem k2
      obtain ⟨hiL, hie⟩ := List.getElem?_eq_some_iff.1 hi
      obtain ⟨hjL, hje⟩ := List.getElem?_eq_some_iff.1 hj
      rcases Nat.lt_trichotomy i j with e | e | e
      · have := List.pairwise_iff_getElem.1 ho i j hiL hjL e
        rw [hie, hje, Rt.lt_iff] at this
        omega
      · subst e
        rw [hi] at hj
        exact Option.some.inj hj
      · have := List.pairwise_iff_getElem.1 ho j i hjL hiL e
        rw [hie, hje, Rt.lt_iff] at this
        omega
theorem BfA.det {R : List Rt} {a0 l0 z z' : Int} {r r' : Rt} (h : BfA R a0 l0 z r) (k : BfA R a0 l0 z' r') : z = z' ∧ r = r' := by
  rcases h with ⟨h1, h2, h3⟩ | ⟨h1, h2, h3, h4⟩ | ⟨h1, h2, h3⟩
  · rcases k with ⟨k1, k2, k3⟩ | ⟨k1, k2, k3, k4⟩ | ⟨k1, k2, k3⟩
    · exact ⟨by omega, by rw [h3, k3]⟩
    · exact absurd k1 h1
    · exact absurd k1 h1
  · rcases k with ⟨k1, k2, k3⟩ | ⟨k1, k2, k3, k4⟩ | ⟨k1, k2, k3⟩
    · exact absurd h1 k1
    · exact ⟨by omega, by rw [h4, k4]⟩
    · exact absurd k2 h2
  · rcases k with ⟨k1, k2, k3⟩ | ⟨k1, k2, k3, k4⟩ | ⟨k1, k2, k3⟩
    · exact absurd h1 k1
    · exact absurd h2 k2
    · exact BfOk.det h1 h3 k3

theorem nine9t (W : World) (B : Nat) (v0 v1 v2 v3 v4 v5 v6 v7 v8 : Value) : Turn (fun k => k = B) W (((((((((W.setCell ⟨B, 0, none⟩ v0).setCell ⟨B, 1, none⟩ v1).setCell ⟨B, 2, none⟩ v2).setCell ⟨B, 3, none⟩ v3).setCell ⟨B, 4, none⟩ v4).setCell ⟨B, 5, none⟩ v5).setCell ⟨B, 6, none⟩ v6).setCell ⟨B, 7, none⟩ v7).setCell ⟨B, 8, none⟩ v8) := Turn.set (S := fun k => k = B) (Turn.set (S := fun k => k = B) (Turn.set (S := fun k => k = B) (Turn.set (S := fun k => k = B) (Turn.set (S := fun k => k = B) (Turn.set (S := fun k => k = B) (Turn.set (S := fun k => k = B) (Turn.set (S := fun k => k = B) (Turn.set (S := fun k => k = B) (Turn.refl (fun k => k = B) W) rfl v0) rfl v1) rfl v2) rfl v3) rfl v4) rfl v5) rfl v6) rfl v7) rfl v8
theorem stored9 {W : World} {B lo n d : Nat} {x : Option Addr} {xs : List Int} {v0 v1 v2 v3 v4 v5 v6 v7 v8 : Value} (o : OvN W lo (.slice x n d) xs) (hb : ∀ z ∈ xs, In6 z) (hB : B < lo) : NsAt (((((((((W.setCell ⟨B, 0, none⟩ v0).setCell ⟨B, 1, none⟩ v1).setCell ⟨B, 2, none⟩ v2).setCell ⟨B, 3, none⟩ v3).setCell ⟨B, 4, none⟩ v4).setCell ⟨B, 5, none⟩ v5).setCell ⟨B, 6, none⟩ v6).setCell ⟨B, 7, none⟩ v7).setCell ⟨B, 8, none⟩ v8) x xs :=
  (o.turn7 (nine9t W B v0 v1 v2 v3 v4 v5 v6 v7 v8) (fun k hk e => by have := o.rng7 k hk; omega)).nsAt7 hb
theorem blk9 {W : World} {B : Nat} {t : TypeId} {o0 o1 o2 o3 o4 o5 o6 o7 o8 v0 v1 v2 v3 v4 v5 v6 v7 v8 : Value} (h : Blk W B t #[o0, o1, o2, o3, o4, o5, o6, o7, o8]) : Blk (((((((((W.setCell ⟨B, 0, none⟩ v0).setCell ⟨B, 1, none⟩ v1).setCell ⟨B, 2, none⟩ v2).setCell ⟨B, 3, none⟩ v3).setCell ⟨B, 4, none⟩ v4).setCell ⟨B, 5, none⟩ v5).setCell ⟨B, 6, none⟩ v6).setCell ⟨B, 7, none⟩ v7).setCell ⟨B, 8, none⟩ v8) B t #[v0, v1, v2, v3, v4, v5, v6, v7, v8] := (nine8 W B t o0 o1 o2 o3 o4 o5 o6 o7 o8 v0 v1 v2 v3 v4 v5 v6 v7 v8 h).1

end Go.Proofs.Ytjampcfikfafkaa

namespace Go.Proofs.Ytjampcfikfafkaa
open Go.RowKit
set_option linter.unusedVariables false

/-- The prefix stands ahead. -/
def pLt (r s : Rt) : Prop := r.a < s.a ∨ (r.a = s.a ∧ r.l < s.l)

theorem sorted_one : ∀ (U T : List Rt), U.Pairwise pLt → T.Pairwise pLt → (∀ x, x ∈ U ↔ x ∈ T) → U = T
  | [], T, _, _, h => by
    cases T with
    | nil => rfl
    | cons y ys => exact absurd ((h y).2 (List.mem_cons_self ..)) (by simp)
  | x :: xs, T, hU, hT, h => by
    cases T with
    | nil => exact absurd ((h x).1 (List.mem_cons_self ..)) (by simp)
    | cons y ys =>
      rw [List.pairwise_cons] at hU hT
      have hxy : x = y := by
        rcases List.mem_cons.1 ((h x).1 (List.mem_cons_self ..)) with e | e
        · exact e
        · rcases List.mem_cons.1 ((h y).2 (List.mem_cons_self ..)) with f | f
          · exact f.symm
          · have h1 := hT.1 x e
            have h2 := hU.1 y f
            unfold pLt at h1 h2
            omega
      subst hxy
      have hm : ∀ z, z ∈ xs ↔ z ∈ ys := by
        intro z
        constructor
        · intro hz
          rcases List.mem_cons.1 ((h z).1 (List.mem_cons_of_mem _ hz)) with e | e
          · subst e
            have h1 := hU.1 z hz
            unfold pLt at h1
            omega
          · exact e
        · intro hz
          rcases List.mem_cons.1 ((h z).2 (List.mem_cons_of_mem _ hz)) with e | e
          · subst e
            have h1 := hT.1 z hz
            unfold pLt at h1
            omega
          · exact e
      rw [sorted_one xs ys hU.2 hT.2 hm]

/-- The bests of all prefixes, in the prefixes' order. -/
structure AllOk (R U : List Rt) : Prop where
  srt : U.Pairwise pLt
  best : ∀ r ∈ U, BfOk R r.a r.l 0 r
  all : ∀ s ∈ R, ∃ r ∈ U, r.a = s.a ∧ r.l = s.l

theorem BfOk.mem {R : List Rt} {a l : Int} {r : Rt} (h : BfOk R a l 0 r) : r ∈ R := by
  rcases h with ⟨e, -⟩ | ⟨-, h, -⟩
  · omega
  · exact h
theorem AllOk.sub {R U T : List Rt} (hR : ribF R = 0) (h : AllOk R U) (k : AllOk R T) : ∀ r ∈ U, r ∈ T := by
  intro r hr
  have hb := h.best r hr
  obtain ⟨s, hs, e1, e2⟩ := k.all r hb.mem
  have kb := k.best s hs
  rw [e1, e2] at kb
  obtain ⟨-, e⟩ := BfOk.det hR hb kb
  rw [e]
  exact hs
theorem AllOk.det {R U T : List Rt} (hR : ribF R = 0) (h : AllOk R U) (k : AllOk R T) : U = T :=
  sorted_one U T h.srt k.srt (fun x => ⟨h.sub hR k x, k.sub hR h x⟩)

/-- The first of each prefix of a list in the heap's order. -/
structure TopOk (P : List Rv) (U : List Rt) : Prop where
  srt : U.Pairwise pLt
  mem : ∀ r ∈ U, ∃ v ∈ P, v.r = r
  least : ∀ r ∈ U, ∀ v ∈ P, v.r.a = r.a → v.r.l = r.l → ¬ hcmp v.r r < 0
  all : ∀ v ∈ P, ∃ r ∈ U, r.a = v.r.a ∧ r.l = v.r.l
  last : ∀ v, P.getLast? = some v → ∃ r, U.getLast? = some r ∧ r.a = v.r.a ∧ r.l = v.r.l

theorem TopOk.nil : TopOk [] [] := ⟨List.Pairwise.nil, (by intro r h; cases h), (by intro r h; cases h), (by intro v h; cases h), (by intro v h; cases h)⟩

theorem TopOk.done {P : List Rv} {U : List Rt} {V : List Rv} (h : TopOk P U) (hp : P.Perm V) : AllOk (V.map Rv.r) U := by
  refine ⟨h.srt, fun r hr => .inr ⟨rfl, ?_, by unfold keepS; simp, fun s hs hk => ?_⟩, fun s hs => ?_⟩
  · obtain ⟨v, hv, rfl⟩ := h.mem r hr
    exact List.mem_map_of_mem (hp.mem_iff.1 hv)
  · obtain ⟨v, hv, rfl⟩ := List.mem_map.1 hs
    unfold keepS at hk
    have e := of_decide_eq_true hk
    exact h.least r hr v (hp.mem_iff.2 hv) e.1.symm e.2.symm
  · obtain ⟨v, hv, rfl⟩ := List.mem_map.1 hs
    exact h.all v (hp.mem_iff.2 hv)

theorem TopOk.same {P : List Rv} {U : List Rt} {x : Rv} {r : Rt} (h : TopOk P U) (hx : ∀ y ∈ P, ¬ hlt x y) (hr : U.getLast? = some r) (e1 : r.a = x.r.a) (e2 : r.l = x.r.l) : TopOk (P ++ [x]) U := by
  refine ⟨h.srt, fun s hs => ?_, fun s hs v hv f1 f2 => ?_, fun v hv => ?_, fun v hv => ?_⟩
  · obtain ⟨v, hv, e⟩ := h.mem s hs
    exact ⟨v, List.mem_append_left _ hv, e⟩
  · rcases List.mem_append.1 hv with hv | hv
    · exact h.least s hs v hv f1 f2
    · obtain rfl := List.mem_singleton.1 hv
      obtain ⟨u, hu, rfl⟩ := h.mem s hs
      exact hx u hu
  · rcases List.mem_append.1 hv with hv | hv
    · exact h.all v hv
    · obtain rfl := List.mem_singleton.1 hv
      exact ⟨r, List.mem_of_getLast? hr, e1, e2⟩
  · rw [List.getLast?_append] at hv
    simp at hv
    subst hv
    exact ⟨r, hr, e1, e2⟩

theorem last_le {U : List Rt} {r s : Rt} (h : U.Pairwise pLt) (hr : U.getLast? = some r) (hs : s ∈ U) : s = r ∨ pLt s r := by
  rcases List.eq_nil_or_concat U with rfl | ⟨ini, z, rfl⟩
  · cases hs
  · rw [List.concat_eq_append] at h hr hs
    rw [List.getLast?_append] at hr
    simp at hr
    subst hr
    rcases List.mem_append.1 hs with hs | hs
    · exact .inr ((List.pairwise_append.1 h).2.2 s hs z (List.mem_singleton.2 rfl))
    · exact .inl (List.mem_singleton.1 hs)

theorem TopOk.new {P : List Rv} {U : List Rt} {x : Rv} (h : TopOk P U) (hx : ∀ y ∈ P, ¬ hlt x y) (hr : ∀ r, U.getLast? = some r → ¬ (x.r.a = r.a ∧ x.r.l = r.l)) : TopOk (P ++ [x]) (U ++ [x.r]) := by
  have hlt' : ∀ r ∈ U, pLt r x.r := by
    intro r hrU
    obtain ⟨v0, hv0, -⟩ := h.mem r hrU
    obtain ⟨vl, hvl⟩ : ∃ vl, P.getLast? = some vl := by
      cases hP : P with
      | nil => rw [hP] at hv0; cases hv0
      | cons y ys => exact ⟨_, List.getLast?_eq_some_getLast (by simp)⟩
    obtain ⟨rl, hrl, f1, f2⟩ := h.last vl hvl
    have g1 := hx vl (List.mem_of_getLast? hvl)
    have g2 := hr rl hrl
    have g3 := last_le h.srt hrl hrU
    unfold hlt at g1
    rw [hcmp_lt] at g1
    have g4 : pLt rl x.r := by
      unfold pLt
      omega
    rcases g3 with rfl | g3
    · exact g4
    · unfold pLt at g3 g4 ⊢
      omega
  refine ⟨List.pairwise_append.2 ⟨h.srt, List.pairwise_singleton _ _, fun r hrU y hy => ?_⟩, fun s hs => ?_, fun s hs v hv f1 f2 => ?_, fun v hv => ?_, fun v hv => ?_⟩
  · obtain rfl := List.mem_singleton.1 hy
    exact hlt' r hrU
  · rcases List.mem_append.1 hs with hs | hs
    · obtain ⟨v, hv, e⟩ := h.mem s hs
      exact ⟨v, List.mem_append_left _ hv, e⟩
    · obtain rfl := List.mem_singleton.1 hs
      exact ⟨x, by simp, rfl⟩
  · rcases List.mem_append.1 hs with hsU | hs
    · rcases List.mem_append.1 hv with hv | hv
      · exact h.least s hsU v hv f1 f2
      · obtain rfl := List.mem_singleton.1 hv
        have := hlt' s hsU
        unfold pLt at this
        omega
    · obtain rfl := List.mem_singleton.1 hs
      rcases List.mem_append.1 hv with hv | hv
      · obtain ⟨r, hrU, k1, k2⟩ := h.all v hv
        have := hlt' r hrU
        unfold pLt at this
        omega
      · obtain rfl := List.mem_singleton.1 hv
        exact hlt_irr v
  · rcases List.mem_append.1 hv with hv | hv
    · obtain ⟨r, hrU, k1, k2⟩ := h.all v hv
      exact ⟨r, List.mem_append_left _ hrU, k1, k2⟩
    · obtain rfl := List.mem_singleton.1 hv
      exact ⟨v.r, by simp, rfl, rfl⟩
  · rw [List.getLast?_append] at hv
    simp at hv
    subst hv
    exact ⟨x.r, by rw [List.getLast?_append]; simp, rfl, rfl⟩

end Go.Proofs.Ytjampcfikfafkaa
