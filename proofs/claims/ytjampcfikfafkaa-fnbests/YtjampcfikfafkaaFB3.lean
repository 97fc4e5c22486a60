/- What is proved here: which routes the model takes of all prefixes. What is proved here: what the model's BestOfAll answers, for every list of at most 1048576 routes with paths of at most 1048576 numbers. What is proved here: paths of some of the routes of a list lie as those of the list do. No condition. What is proved here: what the heap's iterator hands over when every round goes on: all routes, in the heap's order. What is proved here: a drawn region within a round of a range over a function is walked as everywhere, where it defers nothing. No condition. What is proved here: what the program's copying of a list of routes answers, for lists of at most 1048576 routes with paths of at most 1048576 numbers. What is proved here: what the program's BestOfAll answers of a list without a fault. What is proved here: what the program's BestOfAll answers of any list. What is proved here: how the bests of all prefixes go along a list that has no fault; no run of the program. No condition. What is proved here: what the laws' asking for too many bytes answers. -/
import Derived.Test.YtjampcfikfafkaaFB2
import Derived.Test.YtjampcfikfafkaaFB1
import Derived.Test.YtjampcfikfafkaaRwLib
import Derived.Test.YtjampcfikfafkaaR7Ap
import Derived.Test.YtjampcfikfafkaaR7Rf
import Derived.Deep.CutRange
import Derived.Maps.OwnIn
import Derived.Test.YtjampcfikfafkaaBytes
import Derived.Test.YtjampcfikfafkaaRows
namespace Go.Proofs.Ytjampcfikfafkaa
open Go.RowKit Go.Sort
set_option linter.unusedVariables false
set_option linter.unusedSimpArgs false
set_option maxRecDepth 100000

/-- The bests of the prefixes of the first ones. -/
structure PreOk (V : List Rv) (k : Nat) (U : List Rv) : Prop where
  srt : (U.map Rv.r).Pairwise pLt
  best : ∀ u ∈ U, BfOk (V.map Rv.r) u.r.a u.r.l 0 u.r
  mem : ∀ u ∈ U, u ∈ V ∧ ∃ j v, j < k ∧ V[j]? = some v ∧ u.r.a = v.r.a ∧ u.r.l = v.r.l
  all : ∀ j v, j < k → V[j]? = some v → ∃ u ∈ U, u.r.a = v.r.a ∧ u.r.l = v.r.l
theorem PreOk.nil (V : List Rv) : PreOk V 0 [] := ⟨List.Pairwise.nil, (by intro u h; cases h), (by intro u h; cases h), (by intro j v h; omega)⟩
theorem PreOk.done {V U : List Rv} (h : PreOk V V.length U) : AllOk (V.map Rv.r) (U.map Rv.r) := by
  refine ⟨h.srt, fun r hr => ?_, fun s hs => ?_⟩
  · obtain ⟨u, hu, rfl⟩ := List.mem_map.1 hr
    exact h.best u hu
  · obtain ⟨v, hv, rfl⟩ := List.mem_map.1 hs
    obtain ⟨j, hj⟩ := List.getElem?_of_mem hv
    obtain ⟨u, hu, e1, e2⟩ := h.all j v (List.getElem?_eq_some_iff.1 hj).1 hj
    exact ⟨u.r, List.mem_map_of_mem hu, e1, e2⟩
theorem PreOk.same {V U : List Rv} {k : Nat} {v v' : Rv} (h : PreOk V k U) (hv : V[k]? = some v) (hv' : V[k - 1]? = some v') (hk : 0 < k) (e1 : v.r.a = v'.r.a) (e2 : v.r.l = v'.r.l) : PreOk V (k + 1) U := by
  refine ⟨h.srt, h.best, fun u hu => ?_, fun j x hj hx => ?_⟩
  · obtain ⟨m, j, x, hj, r⟩ := h.mem u hu
    exact ⟨m, j, x, by omega, r⟩
  · rcases Nat.lt_or_ge j k with f | f
    · exact h.all j x f hx
    · obtain rfl : j = k := by omega
      rw [hv] at hx
      obtain rfl := Option.some.inj hx
      obtain ⟨u, hu, g1, g2⟩ := h.all (j - 1) v' (by omega) hv'
      exact ⟨u, hu, by omega, by omega⟩
theorem ord_at {V : List Rv} (hR : ribF (V.map Rv.r) = 0) {i j : Nat} {u v : Rv} (hi : V[i]? = some u) (hj : V[j]? = some v) (h : i < j) : u.r.a < v.r.a ∨ (u.r.a = v.r.a ∧ (u.r.l < v.r.l ∨ (u.r.l = v.r.l ∧ u.r.p < v.r.p))) := by
  have ho := (ribF_ok hR).2.1
  obtain ⟨hiL, hie⟩ := List.getElem?_eq_some_iff.1 hi
  obtain ⟨hjL, hje⟩ := List.getElem?_eq_some_iff.1 hj
  have e := List.pairwise_iff_getElem.1 ho i j (by simpa using hiL) (by simpa using hjL) h
  rw [List.getElem_map, List.getElem_map, hie, hje, Rt.lt_iff] at e
  exact e
theorem PreOk.new {V U : List Rv} {k : Nat} {v b : Rv} (hR : ribF (V.map Rv.r) = 0) (h : PreOk V k U) (hv : V[k]? = some v) (hn : k = 0 ∨ ∀ v', V[k - 1]? = some v' → ¬ (v.r.a = v'.r.a ∧ v.r.l = v'.r.l)) (hb : BfOk (V.map Rv.r) v.r.a v.r.l 0 b.r) (hbV : b ∈ V) (e1 : b.r.a = v.r.a) (e2 : b.r.l = v.r.l) : PreOk V (k + 1) (U ++ [b]) := by
  refine ⟨?_, fun u hu => ?_, fun u hu => ?_, fun j x hj hx => ?_⟩
  · rw [List.map_append, List.pairwise_append]
    refine ⟨h.srt, List.pairwise_singleton _ _, fun r hr y hy => ?_⟩
    obtain ⟨u, hu, rfl⟩ := List.mem_map.1 hr
    obtain rfl := List.mem_singleton.1 hy
    obtain ⟨-, j, x, hj, hx, f1, f2⟩ := h.mem u hu
    obtain ⟨v', hv'⟩ : ∃ v', V[k - 1]? = some v' := ⟨_, List.getElem?_eq_getElem (by have := (List.getElem?_eq_some_iff.1 hv).1; omega)⟩
    have g1 := ord_at hR hv' hv (by omega)
    have g2 : ¬ (v.r.a = v'.r.a ∧ v.r.l = v'.r.l) := by
      rcases hn with g | g
      · omega
      · exact g v' hv'
    have g3 : pLt x.r v'.r ∨ (x.r.a = v'.r.a ∧ x.r.l = v'.r.l) := by
      unfold pLt
      rcases Nat.lt_or_ge j (k - 1) with g | g
      · have := ord_at hR hx hv' g
        omega
      · obtain rfl : j = k - 1 := by omega
        rw [hv'] at hx
        obtain rfl := Option.some.inj hx
        exact .inr ⟨rfl, rfl⟩
    unfold pLt at g3 ⊢
    omega
  · rcases List.mem_append.1 hu with hu | hu
    · exact h.best u hu
    · obtain rfl := List.mem_singleton.1 hu
      rw [e1, e2]
      exact hb
  · rcases List.mem_append.1 hu with hu | hu
    · obtain ⟨m, j, x, hj, r⟩ := h.mem u hu
      exact ⟨m, j, x, by omega, r⟩
    · obtain rfl := List.mem_singleton.1 hu
      exact ⟨hbV, k, v, by omega, hv, e1, e2⟩
  · rcases Nat.lt_or_ge j k with f | f
    · obtain ⟨u, hu, r⟩ := h.all j x f hx
      exact ⟨u, List.mem_append_left _ hu, r⟩
    · obtain rfl : j = k := by omega
      rw [hv] at hx
      obtain rfl := Option.some.inj hx
      exact ⟨b, by simp, e1, e2⟩

set_option maxHeartbeats 12800000 in
theorem l7All_any (A : Option Addr) (N cc : Nat) (V : List Rv) (w : World) (h : RtAt w A V) (hn : V.length = N) (hm : N ≤ 1048576) (hR : ribF (V.map Rv.r) = 0) :
    Calls Try.prog 18 #[.slice A N cc] w fun e w' => ∃ u U, e = .returned u ∧ w'.ownsRow w.heap.size 35 8 u U.length (cellsT U) ∧ (∀ v ∈ U, v ∈ V) ∧ AllOk (V.map Rv.r) (U.map Rv.r) ∧ U.length ≤ N ∧ New w w' := by
  have HN : Hid (V.length = N) := hn
  have HA : Hid (∀ X, New w X → RtAt X A V) := fun X hX => h.new hX
  have HR : Hid (ribF (V.map Rv.r) = 0) := hR
  obtain ⟨i0, hi, hz0, hz1, hz2⟩ := info_parts Try.infoRt
  have NL : New w (w.alloc (.cells #[] 35)) := (New.refl w).alloc _
  have hL : (w.alloc (.cells #[] 35)).ownsRow w.heap.size 35 8 (.slice (some ⟨w.heap.size, 0, none⟩) 0 0) 0 (cellsT []) := row_lit7 (lo := w.heap.size) (Blk.mk w w.heap.size 35 #[] rfl) (Nat.le_refl _)
  clear h hn hR
  go_enter Try.func18, Try.ntmps18
  go_wp2
  go_loopw [3, 4] (fun s i wr => ∃ (k : Nat) (U : List Rv), k ≤ N ∧ i = .int .i64 k ∧ U.length ≤ k ∧ wr.ownsRow w.heap.size 35 8 s U.length (cellsT U) ∧ PreOk V k U ∧ New w wr) (fun _ i _ => N - (intOf i).toNat)
  case atStart => exact ⟨0, [], Nat.zero_le _, rfl, Nat.le_refl _, hL, PreOk.nil V, NL⟩
  case round =>
    clear NL hL
    obtain ⟨k, U, hk, rfl, hlk, hrow, hpre, hnw⟩ := hrel
    have HPRE : Hid (PreOk V k U) := hpre
    have HLK : Hid (U.length ≤ k) := hlk
    clear hpre hlk
    by_cases hlt : k < N
    case neg =>
      obtain rfl : k = N := by omega
      have HAll : Hid (AllOk (V.map Rv.r) (U.map Rv.r)) := (show PreOk V V.length U by rw [HN.out]; exact HPRE.out).done
      go_wp2
      go_ret
      exact ⟨_, U, rfl, hrow, fun v hv => (HPRE.out.mem v hv).1, HAll.out, HLK.out, hnw⟩
    case pos =>
      obtain ⟨b, off, p, a, l, o, nx, md, lc, x, m, d, xs, rfl, hv, hlen, -, -, -, q0, q1, q2, q3, q4, q5, q6, q7⟩ := (HA.out _ hnw).at k (by have := HN.out; omega)
      subst hlen
      have HV : Hid (V[k]? = some ⟨⟨p, a, l, o, xs, nx, md, lc⟩, x, d⟩) := hv
      have hk0 : (0 : Int) ≤ (k : Int) := by omega
      have hk1 : (k : Int) < (N : Int) := by omega
      have d1 : New wr wr.drew := (New.refl wr).drew
      clear hv
      by_cases hz : k = 0
      case pos =>
        have hkb : ((k : Int) == 0) = true := by simp [hz]
        have HNW : Hid (k = 0 ∨ ∀ v', V[k - 1]? = some v' → ¬ (a = v'.r.a ∧ l = v'.r.l)) := .inl hz
        clear hz
        go_upto_region 5 with fail
        refine hw_start (n := 16) (S := fun X => New wr X) rfl (by kernel_rfl) ((New.refl wr).drew) (fun hH => ?_)
        refine' hw_take 0 (some 12) _ rfl rfl (by kernel_rfl) (by kernel_rfl) (by kernel_rfl) (fun _ _ _ h => h) (by rfl) hH ?hy1 ?rest1
        case hy1 =>
          intro X hX
          go_simp
          try rfl
        simp only [Act.put, List.setIfInBounds_toArray, List.set_cons_zero, List.set_cons_succ]
        refine' hw_take 1 (some 13) _ rfl rfl (by kernel_rfl) (by kernel_rfl) (by kernel_rfl) (fun _ _ _ h => h) (by rfl) hH ?hy2 ?rest2
        case hy2 =>
          intro X hX
          go_simp
          try rfl
        simp only [Act.put, List.setIfInBounds_toArray, List.set_cons_zero, List.set_cons_succ]
        refine' hw_take 2 (some 14) _ rfl rfl (by kernel_rfl) (by kernel_rfl) (by kernel_rfl) (fun _ _ _ h => h) (by rfl) hH ?hy3 ?rest3
        case hy3 =>
          intro X hX
          go_simp
          try rfl
        simp only [Act.put, List.setIfInBounds_toArray, List.set_cons_zero, List.set_cons_succ]
        refine hw_skip 3 (some 15) rfl rfl (by kernel_rfl) (by kernel_rfl) (by kernel_rfl) (fun _ _ _ h => h) (by rfl) hH ?_
        simp only [Act.put, List.setIfInBounds_toArray, List.set_cons_zero, List.set_cons_succ]
        refine hw_skip 4 (some 16) rfl rfl (by kernel_rfl) (by kernel_rfl) (by kernel_rfl) (fun _ _ _ h => h) (by rfl) hH ?_
        simp only [Act.put, List.setIfInBounds_toArray, List.set_cons_zero, List.set_cons_succ]
        refine hw_skip 5 (some 17) rfl rfl (by kernel_rfl) (by kernel_rfl) (by kernel_rfl) (fun _ _ _ h => h) (by rfl) hH ?_
        simp only [Act.put, List.setIfInBounds_toArray, List.set_cons_zero, List.set_cons_succ]
        refine hw_skip 6 (some 18) rfl rfl (by kernel_rfl) (by kernel_rfl) (by kernel_rfl) (fun _ _ _ h => h) (by rfl) hH ?_
        simp only [Act.put, List.setIfInBounds_toArray, List.set_cons_zero, List.set_cons_succ]
        refine hw_skip 7 (some 19) rfl rfl (by kernel_rfl) (by kernel_rfl) (by kernel_rfl) (fun _ _ _ h => h) (by rfl) hH ?_
        simp only [Act.put, List.setIfInBounds_toArray, List.set_cons_zero, List.set_cons_succ]
        refine hw_skip 8 (some 20) rfl rfl (by kernel_rfl) (by kernel_rfl) (by kernel_rfl) (fun _ _ _ h => h) (by rfl) hH ?_
        simp only [Act.put, List.setIfInBounds_toArray, List.set_cons_zero, List.set_cons_succ]
        refine hw_skip 9 (some 21) rfl rfl (by kernel_rfl) (by kernel_rfl) (by kernel_rfl) (fun _ _ _ h => h) (by rfl) hH ?_
        simp only [Act.put, List.setIfInBounds_toArray, List.set_cons_zero, List.set_cons_succ]
        refine hw_skip 10 (some 22) rfl rfl (by kernel_rfl) (by kernel_rfl) (by kernel_rfl) (fun _ _ _ h => h) (by rfl) hH ?_
        simp only [Act.put, List.setIfInBounds_toArray, List.set_cons_zero, List.set_cons_succ]
        refine hw_skip 11 (some 23) rfl rfl (by kernel_rfl) (by kernel_rfl) (by kernel_rfl) (fun _ _ _ h => h) (by rfl) hH ?_
        simp only [Act.put, List.setIfInBounds_toArray, List.set_cons_zero, List.set_cons_succ]
        refine hw_skip 12 (some 24) rfl rfl (by kernel_rfl) (by kernel_rfl) (by kernel_rfl) (fun _ _ _ h => h) (by rfl) hH ?_
        simp only [Act.put, List.setIfInBounds_toArray, List.set_cons_zero, List.set_cons_succ]
        refine hw_skip 13 (some 25) rfl rfl (by kernel_rfl) (by kernel_rfl) (by kernel_rfl) (fun _ _ _ h => h) (by rfl) hH ?_
        simp only [Act.put, List.setIfInBounds_toArray, List.set_cons_zero, List.set_cons_succ]
        refine hw_skip 14 (some 26) rfl rfl (by kernel_rfl) (by kernel_rfl) (by kernel_rfl) (fun _ _ _ h => h) (by rfl) hH ?_
        simp only [Act.put, List.setIfInBounds_toArray, List.set_cons_zero, List.set_cons_succ]
        refine' hw_take 15 (some 27) _ rfl rfl (by kernel_rfl) (by kernel_rfl) (by kernel_rfl) (fun _ _ _ h => h) (by rfl) hH ?hy4 ?rest4
        case hy4 =>
          intro X hX
          go_simp
          try rfl
        simp only [Act.put, List.setIfInBounds_toArray, List.set_cons_zero, List.set_cons_succ]
        refine wpAnyH_done (by kernel_rfl) ?_ _
        have nd := hnw.trans d1
        have hrowd := row_turn7 hrow d1 (fun _ _ f => f)
        clear q0 q3 q4 q5 q6 q7 hrow
        have q1d := (d1.below.cell (World.block_lt_of_cell? _ _ q1)).trans q1
        have q2d := (d1.below.cell (World.block_lt_of_cell? _ _ q2)).trans q2
        generalize wr.drew = wd at *
        go_wp2_with fail
        refine (l7Best_any a l (some ⟨b, off, none⟩) N cc V _ (HA.out _ nd) HN.out hm).mono ?_
        rintro e w1 ⟨tt, rfl, hLb, h1⟩
        obtain ⟨i, v, rfl, hiv, hkv, hbst⟩ : ∃ (i : Nat) (v : Rv), tt = (i : Int) ∧ V[i]? = some v ∧ keepS a l v.r = true ∧ ∀ j u, j < N → V[j]? = some u → keepS a l u.r = true → ¬ cW u.r v.r < 0 := by
          rcases hLb with ⟨-, hno⟩ | hsome
          · have e := hno k _ hlt HV.out
            unfold keepS at e
            simp at e
          · exact hsome
        have hkk := of_decide_eq_true hkv
        have hBf : BfOk (V.map Rv.r) a l 0 v.r := by
          refine .inr ⟨rfl, List.mem_map_of_mem (List.mem_of_getElem? hiv), hkv, fun s hs hks => ?_⟩
          obtain ⟨u, hu, rfl⟩ := List.mem_map.1 hs
          obtain ⟨j, hj⟩ := List.getElem?_of_mem hu
          have g1 := hbst j u (by have := (List.getElem?_eq_some_iff.1 hj).1; have := HN.out; omega) hj hks
          unfold cW at g1
          have g2 := of_decide_eq_true hks
          rw [hcmp_lt]
          omega
        have HS : Hid (PreOk V (k + 1) (U ++ [v])) := HPRE.out.new HR.out HV.out HNW.out hBf (List.mem_of_getElem? hiv) hkk.1.symm hkk.2.symm
        have hii := (List.getElem?_eq_some_iff.1 hiv).1
        have hiN : i < N := by have := HN.out; omega
        have hi0' : (0 : Int) ≤ (i : Int) := by omega
        have hi1' : (i : Int) < (N : Int) := by omega
        obtain ⟨b9, off9, p9, a9, l9, o9, nx9, md9, lc9, x9, m9, d9, xs9, hA9, hv9, hlen9, -, -, -, z0, z1, z2, z3, z4, z5, z6, z7⟩ := (HA.out _ (nd.trans h1)).at i hii
        simp only [Option.some.injEq, Addr.mk.injEq, and_true] at hA9
        obtain ⟨rfl, rfl⟩ := hA9
        subst hlen9
        rw [hiv] at hv9
        obtain rfl := Option.some.inj hv9
        have n1 := nd.trans h1
        have hrow1 := row_turn7 hrowd h1 (fun _ _ f => f)
        have bL := Blk.mk w1 w1.heap.size 35 #[.int .i64 p9, .int .i64 a9, .int .i64 l9, .int .i64 o9, .slice x9 xs9.length d9, .int .i64 nx9, .int .i64 md9, .int .i64 lc9] rfl
        have aL := (New.refl w1).alloc (.cells #[.int .i64 p9, .int .i64 a9, .int .i64 l9, .int .i64 o9, .slice x9 xs9.length d9, .int .i64 nx9, .int .i64 md9, .int .i64 lc9] 35)
        have hrow3 := row_turn7 hrow1 aL (fun _ _ f => f)
        have hsz : w.heap.size ≤ (w1.alloc (.cells #[.int .i64 p9, .int .i64 a9, .int .i64 l9, .int .i64 o9, .slice x9 xs9.length d9, .int .i64 nx9, .int .i64 md9, .int .i64 lc9] 35)).heap.size := (n1.trans aL).size
        have hsrc : ∀ j, (w1.alloc (.cells #[.int .i64 p9, .int .i64 a9, .int .i64 l9, .int .i64 o9, .slice x9 xs9.length d9, .int .i64 nx9, .int .i64 md9, .int .i64 lc9] 35)).cell? ⟨w1.heap.size, j, none⟩ = (Rv.mk (Rt.mk p9 a9 l9 o9 xs9 nx9 md9 lc9) x9 d9).cs[j]? := by
          intro j
          rw [bL.cells j]
          unfold Rv.cs
          simp
        clear hbst hkv hkk hBf hiv hLb bL q1d q2d
        go_wp2_with (at_builtin; refine wpList_apT _ rfl (.tmp 28) (.tmp 39) rfl w.heap.size _ Try.underlying24 hi hz0 hz1 hz2 rfl _ U rfl hrow3 w1.heap.size (Rv.mk (Rt.mk p9 a9 l9 o9 xs9 nx9 md9 lc9) x9 d9) rfl hsrc (by have := HLK.out; omega) hsz ?_)
        intro v5 w5 hr5 hg5 _
        have N5 : New w w5 := ((n1.trans aL).grow hg5 (fun j hj => (row_rng7 hrow3 j hj).1))
        clear hg5 hrow3 hsrc hrow1 hrowd
        go_wp2
        go_roundw
        case rel => exact ⟨k + 1, U ++ [⟨⟨p9, a9, l9, o9, xs9, nx9, md9, lc9⟩, x9, d9⟩], by omega, by go_num, by rw [List.length_append]; have := HLK.out; simp; omega, (by rw [List.length_append]; exact hr5), HS.out, N5⟩
        case measure => simp [intOf]; omega
      case neg =>
        have hkb : ((k : Int) == 0) = false := by simp; omega
        have hwk : IntKind.i64.wrap ((k : Int) - 1) = ((k - 1 : Nat) : Int) := by rw [IntKind.wrap_i64]; omega
        have hj0 : (0 : Int) ≤ ((k - 1 : Nat) : Int) := by omega
        have hj1 : ((k - 1 : Nat) : Int) < (N : Int) := by omega
        obtain ⟨b', off', p', a', l', o', nx', md', lc', x', m', d', xs', hA', hv', -, -, -, -, y0, y1, y2, y3, y4, y5, y6, y7⟩ := (HA.out _ hnw).at (k - 1) (by have := HN.out; omega)
        simp only [Option.some.injEq, Addr.mk.injEq, and_true] at hA'
        obtain ⟨rfl, rfl⟩ := hA'
        have HV' : Hid (V[k - 1]? = some ⟨⟨p', a', l', o', xs', nx', md', lc'⟩, x', d'⟩) := hv'
        have HZ : Hid (0 < k) := by unfold Hid; omega
        clear hv' hz
        by_cases ha : a = a'
        case neg =>
          have HNW : Hid (k = 0 ∨ ∀ v', V[k - 1]? = some v' → ¬ (a = v'.r.a ∧ l = v'.r.l)) := .inr (fun v' hv' e => by rw [HV'.out] at hv'; obtain rfl := Option.some.inj hv'; exact ha e.1)
          go_upto_region 5 with fail
          refine hw_start (n := 16) (S := fun X => New wr X) rfl (by kernel_rfl) ((New.refl wr).drew) (fun hH => ?_)
          refine' hw_take 0 (some 12) _ rfl rfl (by kernel_rfl) (by kernel_rfl) (by kernel_rfl) (fun _ _ _ h => h) (by rfl) hH ?hy5 ?rest5
          case hy5 =>
            intro X hX
            go_simp
            try rfl
          simp only [Act.put, List.setIfInBounds_toArray, List.set_cons_zero, List.set_cons_succ]
          refine' hw_take 1 (some 13) _ rfl rfl (by kernel_rfl) (by kernel_rfl) (by kernel_rfl) (fun _ _ _ h => h) (by rfl) hH ?hy6 ?rest6
          case hy6 =>
            intro X hX
            go_simp
            try rfl
          simp only [Act.put, List.setIfInBounds_toArray, List.set_cons_zero, List.set_cons_succ]
          refine' hw_take 2 (some 14) _ rfl rfl (by kernel_rfl) (by kernel_rfl) (by kernel_rfl) (fun _ _ _ h => h) (by rfl) hH ?hy7 ?rest7
          case hy7 =>
            intro X hX
            go_simp
            try rfl
          simp only [Act.put, List.setIfInBounds_toArray, List.set_cons_zero, List.set_cons_succ]
          refine' hw_take 3 (some 15) _ rfl rfl (by kernel_rfl) (by kernel_rfl) (by kernel_rfl) (fun _ _ _ h => h) (by rfl) hH ?hy8 ?rest8
          case hy8 =>
            intro X hX
            go_simp
            try rfl
          simp only [Act.put, List.setIfInBounds_toArray, List.set_cons_zero, List.set_cons_succ]
          refine' hw_take 4 (some 16) _ rfl rfl (by kernel_rfl) (by kernel_rfl) (by kernel_rfl) (fun _ _ _ h => h) (by rfl) hH ?hy9 ?rest9
          case hy9 =>
            intro X hX
            go_simp
            try rfl
          simp only [Act.put, List.setIfInBounds_toArray, List.set_cons_zero, List.set_cons_succ]
          refine' hw_take 5 (some 17) _ rfl rfl (by kernel_rfl) (by kernel_rfl) (by kernel_rfl) (fun _ _ _ h => h) (by rfl) hH ?hy10 ?rest10
          case hy10 =>
            intro X hX
            go_simp
            try rfl
          simp only [Act.put, List.setIfInBounds_toArray, List.set_cons_zero, List.set_cons_succ]
          refine' hw_take 6 (some 18) _ rfl rfl (by kernel_rfl) (by kernel_rfl) (by kernel_rfl) (fun _ _ _ h => h) (by rfl) hH ?hy11 ?rest11
          case hy11 =>
            intro X hX
            go_simp
            try rfl
          simp only [Act.put, List.setIfInBounds_toArray, List.set_cons_zero, List.set_cons_succ]
          refine' hw_take 7 (some 19) _ rfl rfl (by kernel_rfl) (by kernel_rfl) (by kernel_rfl) (fun _ _ _ h => h) (by rfl) hH ?hy12 ?rest12
          case hy12 =>
            intro X hX
            have q1X := (hX.below.cell (World.block_lt_of_cell? _ _ q1)).trans q1
            have q2X := (hX.below.cell (World.block_lt_of_cell? _ _ q2)).trans q2
            go_simp
            try rfl
          simp only [Act.put, List.setIfInBounds_toArray, List.set_cons_zero, List.set_cons_succ]
          refine' hw_take 8 (some 20) _ rfl rfl (by kernel_rfl) (by kernel_rfl) (by kernel_rfl) (fun _ _ _ h => h) (by rfl) hH ?hy13 ?rest13
          case hy13 =>
            intro X hX
            go_simp
            try rfl
          simp only [Act.put, List.setIfInBounds_toArray, List.set_cons_zero, List.set_cons_succ]
          refine' hw_take 9 (some 21) _ rfl rfl (by kernel_rfl) (by kernel_rfl) (by kernel_rfl) (fun _ _ _ h => h) (by rfl) hH ?hy14 ?rest14
          case hy14 =>
            intro X hX
            go_simp
            try rfl
          simp only [Act.put, List.setIfInBounds_toArray, List.set_cons_zero, List.set_cons_succ]
          refine' hw_take 10 (some 22) _ rfl rfl (by kernel_rfl) (by kernel_rfl) (by kernel_rfl) (fun _ _ _ h => h) (by rfl) hH ?hy15 ?rest15
          case hy15 =>
            intro X hX
            go_simp
            try rfl
          simp only [Act.put, List.setIfInBounds_toArray, List.set_cons_zero, List.set_cons_succ]
          refine' hw_take 11 (some 23) _ rfl rfl (by kernel_rfl) (by kernel_rfl) (by kernel_rfl) (fun _ _ _ h => h) (by rfl) hH ?hy16 ?rest16
          case hy16 =>
            intro X hX
            go_simp
            try rfl
          simp only [Act.put, List.setIfInBounds_toArray, List.set_cons_zero, List.set_cons_succ]
          refine' hw_take 12 (some 24) _ rfl rfl (by kernel_rfl) (by kernel_rfl) (by kernel_rfl) (fun _ _ _ h => h) (by rfl) hH ?hy17 ?rest17
          case hy17 =>
            intro X hX
            go_simp
            try rfl
          simp only [Act.put, List.setIfInBounds_toArray, List.set_cons_zero, List.set_cons_succ]
          refine' hw_take 13 (some 25) _ rfl rfl (by kernel_rfl) (by kernel_rfl) (by kernel_rfl) (fun _ _ _ h => h) (by rfl) hH ?hy18 ?rest18
          case hy18 =>
            intro X hX
            have y1X := (hX.below.cell (World.block_lt_of_cell? _ _ y1)).trans y1
            have y2X := (hX.below.cell (World.block_lt_of_cell? _ _ y2)).trans y2
            go_simp
            try rfl
          simp only [Act.put, List.setIfInBounds_toArray, List.set_cons_zero, List.set_cons_succ]
          refine' hw_take 14 (some 26) _ rfl rfl (by kernel_rfl) (by kernel_rfl) (by kernel_rfl) (fun _ _ _ h => h) (by rfl) hH ?hy19 ?rest19
          case hy19 =>
            intro X hX
            go_simp
            try rfl
          simp only [Act.put, List.setIfInBounds_toArray, List.set_cons_zero, List.set_cons_succ]
          refine' hw_take 15 (some 27) _ rfl rfl (by kernel_rfl) (by kernel_rfl) (by kernel_rfl) (fun _ _ _ h => h) (by rfl) hH ?hy20 ?rest20
          case hy20 =>
            intro X hX
            go_simp
            try rfl
          simp only [Act.put, List.setIfInBounds_toArray, List.set_cons_zero, List.set_cons_succ]
          refine wpAnyH_done (by kernel_rfl) ?_ _
          have nd := hnw.trans d1
          have hrowd := row_turn7 hrow d1 (fun _ _ f => f)
          clear q0 q3 q4 q5 q6 q7 hrow
          have q1d := (d1.below.cell (World.block_lt_of_cell? _ _ q1)).trans q1
          have q2d := (d1.below.cell (World.block_lt_of_cell? _ _ q2)).trans q2
          generalize wr.drew = wd at *
          go_wp2_with fail
          refine (l7Best_any a l (some ⟨b, off, none⟩) N cc V _ (HA.out _ nd) HN.out hm).mono ?_
          rintro e w1 ⟨tt, rfl, hLb, h1⟩
          obtain ⟨i, v, rfl, hiv, hkv, hbst⟩ : ∃ (i : Nat) (v : Rv), tt = (i : Int) ∧ V[i]? = some v ∧ keepS a l v.r = true ∧ ∀ j u, j < N → V[j]? = some u → keepS a l u.r = true → ¬ cW u.r v.r < 0 := by
            rcases hLb with ⟨-, hno⟩ | hsome
            · have e := hno k _ hlt HV.out
              unfold keepS at e
              simp at e
            · exact hsome
          have hkk := of_decide_eq_true hkv
          have hBf : BfOk (V.map Rv.r) a l 0 v.r := by
            refine .inr ⟨rfl, List.mem_map_of_mem (List.mem_of_getElem? hiv), hkv, fun s hs hks => ?_⟩
            obtain ⟨u, hu, rfl⟩ := List.mem_map.1 hs
            obtain ⟨j, hj⟩ := List.getElem?_of_mem hu
            have g1 := hbst j u (by have := (List.getElem?_eq_some_iff.1 hj).1; have := HN.out; omega) hj hks
            unfold cW at g1
            have g2 := of_decide_eq_true hks
            rw [hcmp_lt]
            omega
          have HS : Hid (PreOk V (k + 1) (U ++ [v])) := HPRE.out.new HR.out HV.out HNW.out hBf (List.mem_of_getElem? hiv) hkk.1.symm hkk.2.symm
          have hii := (List.getElem?_eq_some_iff.1 hiv).1
          have hiN : i < N := by have := HN.out; omega
          have hi0' : (0 : Int) ≤ (i : Int) := by omega
          have hi1' : (i : Int) < (N : Int) := by omega
          obtain ⟨b9, off9, p9, a9, l9, o9, nx9, md9, lc9, x9, m9, d9, xs9, hA9, hv9, hlen9, -, -, -, z0, z1, z2, z3, z4, z5, z6, z7⟩ := (HA.out _ (nd.trans h1)).at i hii
          simp only [Option.some.injEq, Addr.mk.injEq, and_true] at hA9
          obtain ⟨rfl, rfl⟩ := hA9
          subst hlen9
          rw [hiv] at hv9
          obtain rfl := Option.some.inj hv9
          have n1 := nd.trans h1
          have hrow1 := row_turn7 hrowd h1 (fun _ _ f => f)
          have bL := Blk.mk w1 w1.heap.size 35 #[.int .i64 p9, .int .i64 a9, .int .i64 l9, .int .i64 o9, .slice x9 xs9.length d9, .int .i64 nx9, .int .i64 md9, .int .i64 lc9] rfl
          have aL := (New.refl w1).alloc (.cells #[.int .i64 p9, .int .i64 a9, .int .i64 l9, .int .i64 o9, .slice x9 xs9.length d9, .int .i64 nx9, .int .i64 md9, .int .i64 lc9] 35)
          have hrow3 := row_turn7 hrow1 aL (fun _ _ f => f)
          have hsz : w.heap.size ≤ (w1.alloc (.cells #[.int .i64 p9, .int .i64 a9, .int .i64 l9, .int .i64 o9, .slice x9 xs9.length d9, .int .i64 nx9, .int .i64 md9, .int .i64 lc9] 35)).heap.size := (n1.trans aL).size
          have hsrc : ∀ j, (w1.alloc (.cells #[.int .i64 p9, .int .i64 a9, .int .i64 l9, .int .i64 o9, .slice x9 xs9.length d9, .int .i64 nx9, .int .i64 md9, .int .i64 lc9] 35)).cell? ⟨w1.heap.size, j, none⟩ = (Rv.mk (Rt.mk p9 a9 l9 o9 xs9 nx9 md9 lc9) x9 d9).cs[j]? := by
            intro j
            rw [bL.cells j]
            unfold Rv.cs
            simp
          clear hbst hkv hkk hBf hiv hLb bL q1d q2d
          go_wp2_with (at_builtin; refine wpList_apT _ rfl (.tmp 28) (.tmp 39) rfl w.heap.size _ Try.underlying24 hi hz0 hz1 hz2 rfl _ U rfl hrow3 w1.heap.size (Rv.mk (Rt.mk p9 a9 l9 o9 xs9 nx9 md9 lc9) x9 d9) rfl hsrc (by have := HLK.out; omega) hsz ?_)
          intro v5 w5 hr5 hg5 _
          have N5 : New w w5 := ((n1.trans aL).grow hg5 (fun j hj => (row_rng7 hrow3 j hj).1))
          clear hg5 hrow3 hsrc hrow1 hrowd
          go_wp2
          go_roundw
          case rel => exact ⟨k + 1, U ++ [⟨⟨p9, a9, l9, o9, xs9, nx9, md9, lc9⟩, x9, d9⟩], by omega, by go_num, by rw [List.length_append]; have := HLK.out; simp; omega, (by rw [List.length_append]; exact hr5), HS.out, N5⟩
          case measure => simp [intOf]; omega
        case pos =>
          by_cases hl : l = l'
          case neg =>
            have HNW : Hid (k = 0 ∨ ∀ v', V[k - 1]? = some v' → ¬ (a = v'.r.a ∧ l = v'.r.l)) := .inr (fun v' hv' e => by rw [HV'.out] at hv'; obtain rfl := Option.some.inj hv'; exact hl e.2)
            subst ha
            go_upto_region 5 with fail
            refine hw_start (n := 16) (S := fun X => New wr X) rfl (by kernel_rfl) ((New.refl wr).drew) (fun hH => ?_)
            refine' hw_take 0 (some 12) _ rfl rfl (by kernel_rfl) (by kernel_rfl) (by kernel_rfl) (fun _ _ _ h => h) (by rfl) hH ?hy21 ?rest21
            case hy21 =>
              intro X hX
              go_simp
              try rfl
            simp only [Act.put, List.setIfInBounds_toArray, List.set_cons_zero, List.set_cons_succ]
            refine' hw_take 1 (some 13) _ rfl rfl (by kernel_rfl) (by kernel_rfl) (by kernel_rfl) (fun _ _ _ h => h) (by rfl) hH ?hy22 ?rest22
            case hy22 =>
              intro X hX
              go_simp
              try rfl
            simp only [Act.put, List.setIfInBounds_toArray, List.set_cons_zero, List.set_cons_succ]
            refine' hw_take 2 (some 14) _ rfl rfl (by kernel_rfl) (by kernel_rfl) (by kernel_rfl) (fun _ _ _ h => h) (by rfl) hH ?hy23 ?rest23
            case hy23 =>
              intro X hX
              go_simp
              try rfl
            simp only [Act.put, List.setIfInBounds_toArray, List.set_cons_zero, List.set_cons_succ]
            refine' hw_take 3 (some 15) _ rfl rfl (by kernel_rfl) (by kernel_rfl) (by kernel_rfl) (fun _ _ _ h => h) (by rfl) hH ?hy24 ?rest24
            case hy24 =>
              intro X hX
              go_simp
              try rfl
            simp only [Act.put, List.setIfInBounds_toArray, List.set_cons_zero, List.set_cons_succ]
            refine' hw_take 4 (some 16) _ rfl rfl (by kernel_rfl) (by kernel_rfl) (by kernel_rfl) (fun _ _ _ h => h) (by rfl) hH ?hy25 ?rest25
            case hy25 =>
              intro X hX
              go_simp
              try rfl
            simp only [Act.put, List.setIfInBounds_toArray, List.set_cons_zero, List.set_cons_succ]
            refine' hw_take 5 (some 17) _ rfl rfl (by kernel_rfl) (by kernel_rfl) (by kernel_rfl) (fun _ _ _ h => h) (by rfl) hH ?hy26 ?rest26
            case hy26 =>
              intro X hX
              go_simp
              try rfl
            simp only [Act.put, List.setIfInBounds_toArray, List.set_cons_zero, List.set_cons_succ]
            refine' hw_take 6 (some 18) _ rfl rfl (by kernel_rfl) (by kernel_rfl) (by kernel_rfl) (fun _ _ _ h => h) (by rfl) hH ?hy27 ?rest27
            case hy27 =>
              intro X hX
              go_simp
              try rfl
            simp only [Act.put, List.setIfInBounds_toArray, List.set_cons_zero, List.set_cons_succ]
            refine' hw_take 7 (some 19) _ rfl rfl (by kernel_rfl) (by kernel_rfl) (by kernel_rfl) (fun _ _ _ h => h) (by rfl) hH ?hy28 ?rest28
            case hy28 =>
              intro X hX
              have q1X := (hX.below.cell (World.block_lt_of_cell? _ _ q1)).trans q1
              have q2X := (hX.below.cell (World.block_lt_of_cell? _ _ q2)).trans q2
              go_simp
              try rfl
            simp only [Act.put, List.setIfInBounds_toArray, List.set_cons_zero, List.set_cons_succ]
            refine' hw_take 8 (some 20) _ rfl rfl (by kernel_rfl) (by kernel_rfl) (by kernel_rfl) (fun _ _ _ h => h) (by rfl) hH ?hy29 ?rest29
            case hy29 =>
              intro X hX
              go_simp
              try rfl
            simp only [Act.put, List.setIfInBounds_toArray, List.set_cons_zero, List.set_cons_succ]
            refine' hw_take 9 (some 21) _ rfl rfl (by kernel_rfl) (by kernel_rfl) (by kernel_rfl) (fun _ _ _ h => h) (by rfl) hH ?hy30 ?rest30
            case hy30 =>
              intro X hX
              go_simp
              try rfl
            simp only [Act.put, List.setIfInBounds_toArray, List.set_cons_zero, List.set_cons_succ]
            refine' hw_take 10 (some 22) _ rfl rfl (by kernel_rfl) (by kernel_rfl) (by kernel_rfl) (fun _ _ _ h => h) (by rfl) hH ?hy31 ?rest31
            case hy31 =>
              intro X hX
              go_simp
              try rfl
            simp only [Act.put, List.setIfInBounds_toArray, List.set_cons_zero, List.set_cons_succ]
            refine' hw_take 11 (some 23) _ rfl rfl (by kernel_rfl) (by kernel_rfl) (by kernel_rfl) (fun _ _ _ h => h) (by rfl) hH ?hy32 ?rest32
            case hy32 =>
              intro X hX
              go_simp
              try rfl
            simp only [Act.put, List.setIfInBounds_toArray, List.set_cons_zero, List.set_cons_succ]
            refine' hw_take 12 (some 24) _ rfl rfl (by kernel_rfl) (by kernel_rfl) (by kernel_rfl) (fun _ _ _ h => h) (by rfl) hH ?hy33 ?rest33
            case hy33 =>
              intro X hX
              go_simp
              try rfl
            simp only [Act.put, List.setIfInBounds_toArray, List.set_cons_zero, List.set_cons_succ]
            refine' hw_take 13 (some 25) _ rfl rfl (by kernel_rfl) (by kernel_rfl) (by kernel_rfl) (fun _ _ _ h => h) (by rfl) hH ?hy34 ?rest34
            case hy34 =>
              intro X hX
              have y1X := (hX.below.cell (World.block_lt_of_cell? _ _ y1)).trans y1
              have y2X := (hX.below.cell (World.block_lt_of_cell? _ _ y2)).trans y2
              go_simp
              try rfl
            simp only [Act.put, List.setIfInBounds_toArray, List.set_cons_zero, List.set_cons_succ]
            refine' hw_take 14 (some 26) _ rfl rfl (by kernel_rfl) (by kernel_rfl) (by kernel_rfl) (fun _ _ _ h => h) (by rfl) hH ?hy35 ?rest35
            case hy35 =>
              intro X hX
              go_simp
              try rfl
            simp only [Act.put, List.setIfInBounds_toArray, List.set_cons_zero, List.set_cons_succ]
            refine' hw_take 15 (some 27) _ rfl rfl (by kernel_rfl) (by kernel_rfl) (by kernel_rfl) (fun _ _ _ h => h) (by rfl) hH ?hy36 ?rest36
            case hy36 =>
              intro X hX
              go_simp
              try rfl
            simp only [Act.put, List.setIfInBounds_toArray, List.set_cons_zero, List.set_cons_succ]
            refine wpAnyH_done (by kernel_rfl) ?_ _
            have nd := hnw.trans d1
            have hrowd := row_turn7 hrow d1 (fun _ _ f => f)
            clear q0 q3 q4 q5 q6 q7 hrow
            have q1d := (d1.below.cell (World.block_lt_of_cell? _ _ q1)).trans q1
            have q2d := (d1.below.cell (World.block_lt_of_cell? _ _ q2)).trans q2
            generalize wr.drew = wd at *
            go_wp2_with fail
            refine (l7Best_any a l (some ⟨b, off, none⟩) N cc V _ (HA.out _ nd) HN.out hm).mono ?_
            rintro e w1 ⟨tt, rfl, hLb, h1⟩
            obtain ⟨i, v, rfl, hiv, hkv, hbst⟩ : ∃ (i : Nat) (v : Rv), tt = (i : Int) ∧ V[i]? = some v ∧ keepS a l v.r = true ∧ ∀ j u, j < N → V[j]? = some u → keepS a l u.r = true → ¬ cW u.r v.r < 0 := by
              rcases hLb with ⟨-, hno⟩ | hsome
              · have e := hno k _ hlt HV.out
                unfold keepS at e
                simp at e
              · exact hsome
            have hkk := of_decide_eq_true hkv
            have hBf : BfOk (V.map Rv.r) a l 0 v.r := by
              refine .inr ⟨rfl, List.mem_map_of_mem (List.mem_of_getElem? hiv), hkv, fun s hs hks => ?_⟩
              obtain ⟨u, hu, rfl⟩ := List.mem_map.1 hs
              obtain ⟨j, hj⟩ := List.getElem?_of_mem hu
              have g1 := hbst j u (by have := (List.getElem?_eq_some_iff.1 hj).1; have := HN.out; omega) hj hks
              unfold cW at g1
              have g2 := of_decide_eq_true hks
              rw [hcmp_lt]
              omega
            have HS : Hid (PreOk V (k + 1) (U ++ [v])) := HPRE.out.new HR.out HV.out HNW.out hBf (List.mem_of_getElem? hiv) hkk.1.symm hkk.2.symm
            have hii := (List.getElem?_eq_some_iff.1 hiv).1
            have hiN : i < N := by have := HN.out; omega
            have hi0' : (0 : Int) ≤ (i : Int) := by omega
            have hi1' : (i : Int) < (N : Int) := by omega
            obtain ⟨b9, off9, p9, a9, l9, o9, nx9, md9, lc9, x9, m9, d9, xs9, hA9, hv9, hlen9, -, -, -, z0, z1, z2, z3, z4, z5, z6, z7⟩ := (HA.out _ (nd.trans h1)).at i hii
            simp only [Option.some.injEq, Addr.mk.injEq, and_true] at hA9
            obtain ⟨rfl, rfl⟩ := hA9
            subst hlen9
            rw [hiv] at hv9
            obtain rfl := Option.some.inj hv9
            have n1 := nd.trans h1
            have hrow1 := row_turn7 hrowd h1 (fun _ _ f => f)
            have bL := Blk.mk w1 w1.heap.size 35 #[.int .i64 p9, .int .i64 a9, .int .i64 l9, .int .i64 o9, .slice x9 xs9.length d9, .int .i64 nx9, .int .i64 md9, .int .i64 lc9] rfl
            have aL := (New.refl w1).alloc (.cells #[.int .i64 p9, .int .i64 a9, .int .i64 l9, .int .i64 o9, .slice x9 xs9.length d9, .int .i64 nx9, .int .i64 md9, .int .i64 lc9] 35)
            have hrow3 := row_turn7 hrow1 aL (fun _ _ f => f)
            have hsz : w.heap.size ≤ (w1.alloc (.cells #[.int .i64 p9, .int .i64 a9, .int .i64 l9, .int .i64 o9, .slice x9 xs9.length d9, .int .i64 nx9, .int .i64 md9, .int .i64 lc9] 35)).heap.size := (n1.trans aL).size
            have hsrc : ∀ j, (w1.alloc (.cells #[.int .i64 p9, .int .i64 a9, .int .i64 l9, .int .i64 o9, .slice x9 xs9.length d9, .int .i64 nx9, .int .i64 md9, .int .i64 lc9] 35)).cell? ⟨w1.heap.size, j, none⟩ = (Rv.mk (Rt.mk p9 a9 l9 o9 xs9 nx9 md9 lc9) x9 d9).cs[j]? := by
              intro j
              rw [bL.cells j]
              unfold Rv.cs
              simp
            clear hbst hkv hkk hBf hiv hLb bL q1d q2d
            go_wp2_with (at_builtin; refine wpList_apT _ rfl (.tmp 28) (.tmp 39) rfl w.heap.size _ Try.underlying24 hi hz0 hz1 hz2 rfl _ U rfl hrow3 w1.heap.size (Rv.mk (Rt.mk p9 a9 l9 o9 xs9 nx9 md9 lc9) x9 d9) rfl hsrc (by have := HLK.out; omega) hsz ?_)
            intro v5 w5 hr5 hg5 _
            have N5 : New w w5 := ((n1.trans aL).grow hg5 (fun j hj => (row_rng7 hrow3 j hj).1))
            clear hg5 hrow3 hsrc hrow1 hrowd
            go_wp2
            go_roundw
            case rel => exact ⟨k + 1, U ++ [⟨⟨p9, a9, l9, o9, xs9, nx9, md9, lc9⟩, x9, d9⟩], by omega, by go_num, by rw [List.length_append]; have := HLK.out; simp; omega, (by rw [List.length_append]; exact hr5), HS.out, N5⟩
            case measure => simp [intOf]; omega
          case pos =>
            have HS : Hid (PreOk V (k + 1) U) := HPRE.out.same HV.out HV'.out HZ.out ha hl
            subst ha
            subst hl
            have hrowd := row_turn7 hrow d1 (fun _ _ f => f)
            go_upto_region 5 with fail
            refine hw_start (n := 16) (S := fun X => New wr X) rfl (by kernel_rfl) ((New.refl wr).drew) (fun hH => ?_)
            refine' hw_take 0 (some 12) _ rfl rfl (by kernel_rfl) (by kernel_rfl) (by kernel_rfl) (fun _ _ _ h => h) (by rfl) hH ?hy37 ?rest37
            case hy37 =>
              intro X hX
              go_simp
              try rfl
            simp only [Act.put, List.setIfInBounds_toArray, List.set_cons_zero, List.set_cons_succ]
            refine' hw_take 1 (some 13) _ rfl rfl (by kernel_rfl) (by kernel_rfl) (by kernel_rfl) (fun _ _ _ h => h) (by rfl) hH ?hy38 ?rest38
            case hy38 =>
              intro X hX
              go_simp
              try rfl
            simp only [Act.put, List.setIfInBounds_toArray, List.set_cons_zero, List.set_cons_succ]
            refine' hw_take 2 (some 14) _ rfl rfl (by kernel_rfl) (by kernel_rfl) (by kernel_rfl) (fun _ _ _ h => h) (by rfl) hH ?hy39 ?rest39
            case hy39 =>
              intro X hX
              go_simp
              try rfl
            simp only [Act.put, List.setIfInBounds_toArray, List.set_cons_zero, List.set_cons_succ]
            refine' hw_take 3 (some 15) _ rfl rfl (by kernel_rfl) (by kernel_rfl) (by kernel_rfl) (fun _ _ _ h => h) (by rfl) hH ?hy40 ?rest40
            case hy40 =>
              intro X hX
              go_simp
              try rfl
            simp only [Act.put, List.setIfInBounds_toArray, List.set_cons_zero, List.set_cons_succ]
            refine' hw_take 4 (some 16) _ rfl rfl (by kernel_rfl) (by kernel_rfl) (by kernel_rfl) (fun _ _ _ h => h) (by rfl) hH ?hy41 ?rest41
            case hy41 =>
              intro X hX
              go_simp
              try rfl
            simp only [Act.put, List.setIfInBounds_toArray, List.set_cons_zero, List.set_cons_succ]
            refine' hw_take 5 (some 17) _ rfl rfl (by kernel_rfl) (by kernel_rfl) (by kernel_rfl) (fun _ _ _ h => h) (by rfl) hH ?hy42 ?rest42
            case hy42 =>
              intro X hX
              go_simp
              try rfl
            simp only [Act.put, List.setIfInBounds_toArray, List.set_cons_zero, List.set_cons_succ]
            refine' hw_take 6 (some 18) _ rfl rfl (by kernel_rfl) (by kernel_rfl) (by kernel_rfl) (fun _ _ _ h => h) (by rfl) hH ?hy43 ?rest43
            case hy43 =>
              intro X hX
              go_simp
              try rfl
            simp only [Act.put, List.setIfInBounds_toArray, List.set_cons_zero, List.set_cons_succ]
            refine' hw_take 7 (some 19) _ rfl rfl (by kernel_rfl) (by kernel_rfl) (by kernel_rfl) (fun _ _ _ h => h) (by rfl) hH ?hy44 ?rest44
            case hy44 =>
              intro X hX
              have q1X := (hX.below.cell (World.block_lt_of_cell? _ _ q1)).trans q1
              have q2X := (hX.below.cell (World.block_lt_of_cell? _ _ q2)).trans q2
              go_simp
              try rfl
            simp only [Act.put, List.setIfInBounds_toArray, List.set_cons_zero, List.set_cons_succ]
            refine' hw_take 8 (some 20) _ rfl rfl (by kernel_rfl) (by kernel_rfl) (by kernel_rfl) (fun _ _ _ h => h) (by rfl) hH ?hy45 ?rest45
            case hy45 =>
              intro X hX
              go_simp
              try rfl
            simp only [Act.put, List.setIfInBounds_toArray, List.set_cons_zero, List.set_cons_succ]
            refine' hw_take 9 (some 21) _ rfl rfl (by kernel_rfl) (by kernel_rfl) (by kernel_rfl) (fun _ _ _ h => h) (by rfl) hH ?hy46 ?rest46
            case hy46 =>
              intro X hX
              go_simp
              try rfl
            simp only [Act.put, List.setIfInBounds_toArray, List.set_cons_zero, List.set_cons_succ]
            refine' hw_take 10 (some 22) _ rfl rfl (by kernel_rfl) (by kernel_rfl) (by kernel_rfl) (fun _ _ _ h => h) (by rfl) hH ?hy47 ?rest47
            case hy47 =>
              intro X hX
              go_simp
              try rfl
            simp only [Act.put, List.setIfInBounds_toArray, List.set_cons_zero, List.set_cons_succ]
            refine' hw_take 11 (some 23) _ rfl rfl (by kernel_rfl) (by kernel_rfl) (by kernel_rfl) (fun _ _ _ h => h) (by rfl) hH ?hy48 ?rest48
            case hy48 =>
              intro X hX
              go_simp
              try rfl
            simp only [Act.put, List.setIfInBounds_toArray, List.set_cons_zero, List.set_cons_succ]
            refine' hw_take 12 (some 24) _ rfl rfl (by kernel_rfl) (by kernel_rfl) (by kernel_rfl) (fun _ _ _ h => h) (by rfl) hH ?hy49 ?rest49
            case hy49 =>
              intro X hX
              go_simp
              try rfl
            simp only [Act.put, List.setIfInBounds_toArray, List.set_cons_zero, List.set_cons_succ]
            refine' hw_take 13 (some 25) _ rfl rfl (by kernel_rfl) (by kernel_rfl) (by kernel_rfl) (fun _ _ _ h => h) (by rfl) hH ?hy50 ?rest50
            case hy50 =>
              intro X hX
              have y1X := (hX.below.cell (World.block_lt_of_cell? _ _ y1)).trans y1
              have y2X := (hX.below.cell (World.block_lt_of_cell? _ _ y2)).trans y2
              go_simp
              try rfl
            simp only [Act.put, List.setIfInBounds_toArray, List.set_cons_zero, List.set_cons_succ]
            refine' hw_take 14 (some 26) _ rfl rfl (by kernel_rfl) (by kernel_rfl) (by kernel_rfl) (fun _ _ _ h => h) (by rfl) hH ?hy51 ?rest51
            case hy51 =>
              intro X hX
              go_simp
              try rfl
            simp only [Act.put, List.setIfInBounds_toArray, List.set_cons_zero, List.set_cons_succ]
            refine' hw_take 15 (some 27) _ rfl rfl (by kernel_rfl) (by kernel_rfl) (by kernel_rfl) (fun _ _ _ h => h) (by rfl) hH ?hy52 ?rest52
            case hy52 =>
              intro X hX
              go_simp
              try rfl
            simp only [Act.put, List.setIfInBounds_toArray, List.set_cons_zero, List.set_cons_succ]
            refine wpAnyH_done (by kernel_rfl) ?_ _
            go_wp2
            go_roundw
            case rel => exact ⟨k + 1, U, by omega, by go_num, by have := HLK.out; omega, hrowd, HS.out, hnw.trans d1⟩
            case measure => simp [intOf]; omega

end Go.Proofs.Ytjampcfikfafkaa

namespace Go.Proofs.Ytjampcfikfafkaa
open Go.RowKit Go.Sort
set_option linter.unusedVariables false
set_option linter.unusedSimpArgs false
set_option maxRecDepth 100000

/-- The answer: the list's fault, or the bests of all prefixes. -/
def AlA (R : List Rt) (z : Int) (U : List Rt) : Prop := (¬ ribF R = 0 ∧ z = ribF R ∧ U = []) ∨ (ribF R = 0 ∧ z = 0 ∧ AllOk R U)
theorem AlA.det {R U T : List Rt} {z y : Int} (h : AlA R z U) (k : AlA R y T) : z = y ∧ U = T := by
  rcases h with ⟨h1, h2, h3⟩ | ⟨h1, h2, h3⟩
  · rcases k with ⟨k1, k2, k3⟩ | ⟨k1, k2, k3⟩
    · exact ⟨by omega, by rw [h3, k3]⟩
    · exact absurd k1 h1
  · rcases k with ⟨k1, k2, k3⟩ | ⟨k1, k2, k3⟩
    · exact absurd h1 k1
    · exact ⟨by omega, AllOk.det h1 h3 k3⟩

/-- The answer as a value of the call's own. -/
def LAns8 (w : World) (R : List Rt) (e : Ending) (w' : World) : Prop := ∃ z A n c U, AlA R z (U.map Rv.r) ∧ e = .returned (.agg #[.int .i64 z, .slice A n c]) ∧ U.length = n ∧ OwT w' w.heap.size w'.heap.size (.slice A n c) U ∧ New w w'

theorem two8t (W : World) (B j1 j2 : Nat) (v1 v2 : Value) : Turn (fun k => k = B) W ((W.setCell ⟨B, j1, none⟩ v1).setCell ⟨B, j2, none⟩ v2) := Turn.set (S := fun k => k = B) (Turn.set (S := fun k => k = B) (Turn.refl (fun k => k = B) W) rfl v1) rfl v2
theorem LAns8.bad {w W : World} {R : List Rt} {z : Int} {B j1 j2 : Nat} {v1 v2 : Value} (h : ¬ ribF R = 0 ∧ z = ribF R) (n : New w W) (hB : w.heap.size ≤ B) : LAns8 w R (.returned (.agg #[.int .i64 z, .slice none 0 0])) ((W.setCell ⟨B, j1, none⟩ v1).setCell ⟨B, j2, none⟩ v2) :=
  ⟨z, none, 0, 0, [], .inl ⟨h.1, h.2, rfl⟩, rfl, rfl, OwT.nil _ _ _, nine_new n (two8t W B j1 j2 v1 v2) hB⟩
theorem OwT.low8 {w : World} {lo lo' hi : Nat} {u : Value} {V : List Rv} (h : OwT w lo hi u V) (hh : lo' ≤ lo) : OwT w lo' hi u V := by
  refine ⟨⟨h.row.1, ?_⟩, h.rhi, h.path.low hh⟩
  rcases h.row.2 with e | ⟨g, cap, cur, h1, h2, r⟩
  · exact .inl e
  · exact .inr ⟨g, cap, cur, h1, by omega, r⟩
theorem LAns8.good {w W : World} {R : List Rt} {B j1 j2 lo n c : Nat} {A : Option Addr} {v1 v2 : Value} {U : List Rv} (hR : ribF R = 0) (hA : AllOk R (U.map Rv.r)) (nw : New w W) (hB : w.heap.size ≤ B) (ho : OwT W lo W.heap.size (.slice A n c) U) (hlo : B < lo) (hn : U.length = n) : LAns8 w R (.returned (.agg #[.int .i64 0, .slice A n c])) ((W.setCell ⟨B, j1, none⟩ v1).setCell ⟨B, j2, none⟩ v2) := by
  have t := two8t W B j1 j2 v1 v2
  exact ⟨0, A, n, c, U, .inr ⟨hR, rfl, hA⟩, rfl, hn, ((ho.turn t (fun k hk _ e => by omega)).up t.size).low8 (by omega), nine_new nw t hB⟩

set_option maxHeartbeats 6400000 in
theorem specAll (A : Option Addr) (N cc : Nat) (V : List Rv) (w : World) (h : RtAt w A V) (hn : V.length = N) (hm : N ≤ 1048576) :
    Calls Try.prog 7 #[.slice A N cc] w (LAns8 w (V.map Rv.r)) := by
  have HN : Hid (V.length = N) := hn
  have HA : Hid (∀ X, New w X → RtAt X A V) := fun X hX => h.new hX
  have N0 : New w (w.alloc (.cells #[.int .i64 0, .slice none 0 0] 27)) := (New.refl w).alloc _
  have bB := Blk.mk w w.heap.size 27 #[.int .i64 0, .slice none 0 0] rfl
  obtain ⟨f, hf⟩ : ∃ f, Hid (ribF (V.map Rv.r) = f) := ⟨_, rfl⟩
  clear h hn
  go_enter Try.func7, Try.ntmps7
  go_upto_region 1 with fail
  generalize w.alloc (.cells #[.int .i64 0, .slice none 0 0] 27) = w0 at *
  go_wp2_with fail
  refine (specRib A N cc V f _ (HA.out _ N0) HN.out hm hf.out).mono ?_
  rintro e w1 ⟨rfl, h1⟩
  have b1 := bB.new h1
  have n1 := N0.trans h1
  have lt1 := b1.lt
  clear bB h1 N0
  by_cases h0 : f = 0
  case neg =>
    have hne : (f != 0) = true := by simpa using h0
    have HB : Hid (¬ ribF (V.map Rv.r) = 0 ∧ f = ribF (V.map Rv.r)) := ⟨by rw [hf.out]; exact h0, hf.out.symm⟩
    have c1 := b1.cells
    have f1 := b1.frees
    clear hf
    go_wp2
    exact bodyPost_ret (v := .agg #[.int .i64 f, .slice none 0 0]) (by simp [results, Try.results7, go_sem, c1]) rfl (LAns8.bad HB.out n1 (Nat.le_refl _))
  subst h0
  go_wp2_with fail
  refine (l7All_any A N cc V _ (HA.out _ n1) HN.out hm hf.out).mono ?_
  rintro e w2 ⟨u, U, rfl, hrow, hsub, hall, hUN, h2⟩
  have HALL : Hid (AllOk (V.map Rv.r) (U.map Rv.r)) := hall
  have b2 := b1.new h2
  have n2 := n1.trans h2
  have lt2 := b2.lt
  have hh : ∀ v ∈ U, v.here w2 := fun v hv => by
    obtain ⟨i, hi⟩ := List.getElem?_of_mem (hsub v hv)
    exact (HA.out w2 n2 i v hi).2
  obtain ⟨A3, c3, hu3, hr3⟩ : ∃ A3 c3, u = .slice A3 U.length c3 ∧ RtAt w2 A3 U := by
    rcases row_form7 hrow with ⟨e1, e2⟩ | ⟨g, c, e1, -, -, ho⟩
    · subst e2
      exact ⟨none, 0, e1, RtAt.nil _ _⟩
    · exact ⟨_, c, e1, ho.rt hh⟩
  subst hu3
  clear hrow hsub hall hh b1 n1 h2
  go_wp2_with fail
  refine (l7Copy_any A3 U.length c3 U _ hr3 rfl (by omega)).mono ?_
  rintro e w3 ⟨u4, V4, rfl, hm4, ho4, h3⟩
  have b3 := b2.new h3
  have n3 := n2.trans h3
  obtain ⟨A4, c4, rfl, -, -⟩ := ho4.form
  have HAL4 : Hid (AllOk (V.map Rv.r) (V4.map Rv.r)) := by rw [hm4]; exact HALL.out
  have hf0 : Hid (ribF (V.map Rv.r) = 0) := hf.out
  clear hf hr3 hm4 HALL b2 n2 h3
  have c1 := b3.cells
  have f1 := b3.frees
  go_wp2
  exact bodyPost_ret (v := .agg #[.int .i64 0, .slice A4 V4.length c4]) (by simp [results, Try.results7, go_sem, c1]) rfl (LAns8.good hf0.out HAL4.out n3 (Nat.le_refl _) ho4 (by omega) rfl)

end Go.Proofs.Ytjampcfikfafkaa

namespace Go.Proofs.Ytjampcfikfafkaa
open Go.RowKit Go.Sort
set_option linter.unusedVariables false

theorem PathsT.pick {w : World} {lo hi : Nat} {V U : List Rv} (h : PathsT w lo hi V) (hs : ∀ v ∈ U, v ∈ V) (hp : (U.map Rv.r).Pairwise pLt) : PathsT w lo hi U := by
  refine ⟨fun v hv => h.own v (hs v hv), fun v hv => h.bd v (hs v hv), fun v hv => h.lies v (hs v hv), fun i j u v k hi hj hne hu => ?_⟩
  obtain ⟨i', hi'⟩ := List.getElem?_of_mem (hs u (List.mem_of_getElem? hi))
  obtain ⟨j', hj'⟩ := List.getElem?_of_mem (hs v (List.mem_of_getElem? hj))
  have hd : ¬ i' = j' := by
    rintro rfl
    rw [hi'] at hj'
    obtain rfl := Option.some.inj hj'
    obtain ⟨hiL, hie⟩ := List.getElem?_eq_some_iff.1 hi
    obtain ⟨hjL, hje⟩ := List.getElem?_eq_some_iff.1 hj
    rcases Nat.lt_trichotomy i j with e | e | e
    · have g := List.pairwise_iff_getElem.1 hp i j (by simpa using hiL) (by simpa using hjL) e
      rw [List.getElem_map, List.getElem_map, hie, hje] at g
      unfold pLt at g
      omega
    · exact hne e
    · have g := List.pairwise_iff_getElem.1 hp j i (by simpa using hjL) (by simpa using hiL) e
      rw [List.getElem_map, List.getElem_map, hie, hje] at g
      unfold pLt at g
      omega
  exact h.apart i' j' u v k hi' hj' hd hu

/-- A row of the call's own and paths that lie before it. -/
theorem OwT.of_row {w : World} {lo lo' hi : Nat} {u : Value} {U : List Rv} (hr : w.ownsRow lo' 35 8 u U.length (cellsT U)) (hl : lo ≤ lo') (hp : PathsT w lo hi U) (hh : hi ≤ w.heap.size) : OwT w lo w.heap.size u U := by
  refine ⟨⟨hr.1, ?_⟩, fun k hk => (row_rng7 hr k hk).2, hp.up hh⟩
  rcases hr.2 with e | ⟨g, cap, cur, h1, h2, r⟩
  · exact .inl e
  · exact .inr ⟨g, cap, cur, h1, by omega, r⟩

end Go.Proofs.Ytjampcfikfafkaa

namespace Go.Proofs.Ytjampcfikfafkaa
open Go.RowKit Go.Sort Go.Shelf
set_option linter.unusedVariables false
set_option linter.unusedSimpArgs false
set_option maxRecDepth 100000
attribute [local go_sem] Oper.semAt_some

/-- How many routes the heap at H has. -/
def hpLen (H : Nat) (w : World) : Nat := match w.cell? ⟨H, 0, none⟩ with | some (.slice _ n _) => n | _ => 0
theorem HpAt.len8 {w : World} {H b c : Nat} {V : List Rv} (h : HpAt w H b c V) : hpLen H w = V.length := by
  have e : w.cell? ⟨H, 0, none⟩ = some (.slice (some ⟨b, 0, none⟩) V.length c) := h.hd.cells 0
  unfold hpLen
  rw [e]

set_option maxHeartbeats 6400000 in
theorem top8_all (l H b c : Nat) (V : List Rv) (W : World) (J : List Rv → World → Prop) (hp : HpAt W H b c V) (hm : V.length ≤ 1048576) (hu : hpOK hlt (hf V) V.length) (h0 : J [] W)
    (hJ : ∀ pre A B, J pre A → Turn (fun k => k = b ∨ k = H) A B → J pre B)
    (hY : ∀ pre x R W1, (pre ++ x :: R).Perm V → (∀ y ∈ pre, ¬ hlt x y) → pre.Pairwise (fun y z => ¬ hlt z y) → J pre W1 → HpAt W1 H b c R → YieldAt Fence.wide (3 - 1) Try.prog l #[x.val] W1 fun e W2 => e = .returned (.bool true) ∧ J (pre ++ [x]) W2 ∧ HpAt W2 H b c R) :
    CallsIn Fence.wide 3 Try.prog 15 #[.pointer (some ⟨H, 0, none⟩), .func (.yield l) #[] #[]] W fun e W' => (∃ v, e = .returned v) ∧ ∃ ys, ys.Perm V ∧ ys.Pairwise (fun y z => ¬ hlt z y) ∧ J ys W' := by
  have hro : Fence.wide.round = none := rfl
  refine callsIn_of_wp Try.func15 rfl trivial ?_ hro
  simp only [Try.ntmps15, List.size_toArray, List.length_cons, List.length_nil, Nat.reduceAdd, Nat.reduceSub, Array.replicate_succ, Array.replicate_zero, List.push_toArray, List.append_toArray, List.nil_append, List.cons_append]
  gi_wp2
  gi_loopw [4] (fun p wr => ∃ (pre R : List Rv), (pre ++ R).Perm V ∧ HpAt wr H b c R ∧ hpOK hlt (hf R) R.length ∧ (∀ x ∈ pre, ∀ y ∈ R, ¬ hlt y x) ∧ pre.Pairwise (fun y z => ¬ hlt z y) ∧ J pre wr) (fun _ wr => hpLen H wr)
  case atStart => exact ⟨[], V, List.Perm.refl _, hp, hu, (by intro x hx; cases hx), List.Pairwise.nil, h0⟩
  case round =>
    obtain ⟨pre, R, hpm, hpR, huR, hle, hpw, hJ0⟩ := hrel
    have HPM : Hid ((pre ++ R).Perm V) := hpm
    have HLE : Hid (∀ x ∈ pre, ∀ y ∈ R, ¬ hlt y x) := hle
    have HPW : Hid (pre.Pairwise (fun y z => ¬ hlt z y)) := hpw
    have hlR : R.length ≤ V.length := by have e := hpm.length_eq; rw [List.length_append] at e; omega
    have HML : Hid (hpLen H wr = R.length) := hpR.len8
    clear hpm hle hpw
    rcases Nat.eq_zero_or_pos R.length with e0 | e0
    · obtain rfl := List.eq_nil_of_length_eq_zero e0
      gi_wp2_with fail
      refine ⟨trivial, ?_⟩
      refine (callsIn_wide.2 (len_heap H b c [] 0 _ hpR rfl)).mono ?_
      rintro e w2 ⟨rfl, rfl⟩
      gi_wp2
      refine ⟨trivial, ?_⟩
      gi_wp2
      refine ⟨fun _ h => (by cases h), ?_⟩
      gi_wp2
      refine bodyPost_end (results_none rfl _ _ _) rfl ?_
      exact ⟨⟨_, rfl⟩, pre, by have h := HPM.out; rw [List.append_nil] at h; exact h, HPW.out, hJ0⟩
    · obtain ⟨n, hn⟩ : ∃ n, R.length = n + 1 := ⟨R.length - 1, by omega⟩
      have huR' : hpOK hlt (hf R) (n + 1) := by rw [← hn]; exact huR
      have hmn : n + 1 ≤ 1048576 := by omega
      gi_wp2_with fail
      refine ⟨trivial, ?_⟩
      refine (callsIn_wide.2 (len_heap H b c R (n + 1) _ hpR hn)).mono ?_
      rintro e w2 ⟨rfl, rfl⟩
      gi_wp2_with fail
      refine ⟨trivial, ?_⟩
      refine (callsIn_wide.2 (pop_heap H b c R n _ hpR hn hmn huR')).mono ?_
      rintro e w3 ⟨rfl, R', hp3, hl3, hpm3, hk3, ht⟩
      have HLn : Hid (R'.length = n) := hl3
      have h0R : R[0]? = some (hf R 0) := hf_at (by omega)
      have hmin : ∀ y ∈ R, ¬ hlt y (hf R 0) := fun y hy => by
        obtain ⟨i, hi⟩ := List.getElem?_of_mem hy
        have hil := (List.getElem?_eq_some_iff.1 hi).1
        have h := hp_top hlt_tr hlt_irr huR' i (by omega)
        rw [hf_get hi] at h
        exact h
      have hperm : (pre ++ hf R 0 :: R').Perm V := (List.Perm.append_left pre hpm3).trans HPM.out
      have hxm : hf R 0 ∈ R := List.mem_of_getElem? h0R
      have HNEW : Hid (∀ X, HpAt X H b c R' → J (pre ++ [hf R 0]) X → ∃ (pre' R2 : List Rv), (pre' ++ R2).Perm V ∧ HpAt X H b c R2 ∧ hpOK hlt (hf R2) R2.length ∧ (∀ x ∈ pre', ∀ y ∈ R2, ¬ hlt y x) ∧ pre'.Pairwise (fun y z => ¬ hlt z y) ∧ J pre' X) := by
        intro X hX hJX
        refine ⟨pre ++ [hf R 0], R', by rw [List.append_assoc]; exact hperm, hX, by rw [hl3]; exact hk3, fun x hx y hy => ?_, ?_, hJX⟩
        · have hyR : y ∈ R := hpm3.mem_iff.1 (List.mem_cons_of_mem _ hy)
          rcases List.mem_append.1 hx with hx | hx
          · exact HLE.out x hx y hyR
          · obtain rfl := List.mem_singleton.1 hx
            exact hmin y hyR
        · rw [List.pairwise_append]
          refine ⟨HPW.out, List.pairwise_singleton _ _, fun x hx y hy => ?_⟩
          obtain rfl := List.mem_singleton.1 hy
          exact HLE.out x hx _ hxm
      obtain ⟨fn, tmps, assign, body, hy, hR⟩ := hY pre (hf R 0) R' w3 hperm (fun y hy => HLE.out y hy _ hxm) HPW.out (hJ _ _ _ hJ0 ht) hp3
      clear hperm hmin h0R hxm hpm3 hk3 huR huR' hpR hJ0 hp3 hl3
      unfold Rv.val at hy
      unfold Rv.val
      have hta := Try.as_route
      gi_wp2
      refine hR.mono ?_
      rintro e w4 ⟨rfl, hJ4, hp4⟩
      have HL4 : Hid (hpLen H w4 = R'.length) := hp4.len8
      gi_wp2
      go_roundw
      case rel => exact HNEW.out _ hp4 hJ4
      case measure => rw [HL4.out, HML.out, HLn.out]; omega

end Go.Proofs.Ytjampcfikfafkaa

namespace Go.Proofs.Ytjampcfikfafkaa
open Go.RowKit
set_option linter.unusedVariables false

theorem uponIn_of_upon {P : Program} {l n : Nat} {Q : Exit → Act → World → Prop} (o : Oper) (a : Act) {next next' : Act → World → Prop} (hk : ∀ a w, next a w → next' a w) :
    ∀ r : Result Next, o.upon P a next Q r → o.uponIn (Fence.wide.inRound l) n P a next' Q r := by
  intro r h
  cases r with
  | ok x w =>
    cases x with
    | value v => exact hk _ _ h
    | skip => exact hk _ _ h
    | defer d => exact hk _ _ h
    | enter f args =>
      refine ⟨(fun h => by cases h), CallsIn.inRound l (callsIn_wide.2 (Calls.mono h ?_))⟩
      intro e w' he
      cases e with
      | returned v => exact hk _ _ he
      | panicked ch => exact he
      | outgrown => exact he
    | row rw args => exact ⟨(fun h => by cases h), fun c cs _ => let ⟨v, w', r, s⟩ := h c cs; ⟨v, w', hk _ _ r, stepsIn_wide.2 s⟩⟩
    | _ => exact h.elim
  | halt x w => cases x <;> exact h

theorem opsIn_of_ops {P : Program} {l n : Nat} {ops : Array Oper} {Q : Exit → Act → World → Prop} (hd : ∀ (i : Nat) (o : Oper), ops[i]? = some o → ∀ c, o.op ≠ .defer c) (hQ : ¬ LetsOut Q) :
    ∀ (sched : List Nat) (a : Act) (w : World), wpOps P ops Q sched a w → wpOpsIn (Fence.wide.inRound l) n P ops Q sched a w
  | [], a, w, h => h
  | i :: rest, a, w, h => by
    simp only [wpOps] at h
    simp only [wpOpsIn]
    cases ho : ops[i]? with
    | none =>
      simp only [ho] at h
      exact opsIn_of_ops hd hQ rest a w h
    | some o =>
      simp only [ho] at h
      by_cases hw : Region.wanted o (yielded ops a.tmps) = true
      · simp only [hw, if_true] at h ⊢
        rcases h with h | ⟨_, h⟩
        · refine ⟨fun _ _ => trivial, ?_⟩
          rw [Oper.semAt_plain _ _ _ (hd i o ho)]
          exact uponIn_of_upon o a (fun a w h => opsIn_of_ops hd hQ rest a w h) _ h
        · exact (hQ h).elim
      · simp only [hw, if_false, Bool.false_eq_true] at h ⊢
        exact ⟨fun _ _ => trivial, opsIn_of_ops hd hQ rest _ w h⟩

/-- A drawn region within a round, held as everywhere. -/
theorem wpIn_region_round {P : Program} {l n id : Nat} {ops : Array Oper} {Q : Exit → Act → World → Prop} {S : World → Prop} {a : Act} {w : World} (hm : P.follows .mixedOrders = true) (hd : ∀ (i : Nat) (o : Oper), ops[i]? = some o → ∀ c, o.op ≠ .defer c) (hQ : ¬ LetsOut Q)
    (h : wpAnyH P .any ops Q S ops.size (Array.replicate ops.size false) a w.drew) : (Code.region id ops true).wpIn (Fence.wide.inRound l) n P Q a w :=
  wpIn_region_draw fun t => by
    simp only [Region.schedule, hm, Bool.true_or, if_true]
    exact opsIn_of_ops hd hQ _ _ _ (wpAny_sound ops.size t _ a _ (wpAny_of_held _ _ _ _ h))

end Go.Proofs.Ytjampcfikfafkaa

namespace Go.Proofs.Ytjampcfikfafkaa
open Go.RowKit Go.Sort
set_option linter.unusedVariables false
set_option maxRecDepth 100000

set_option maxHeartbeats 6400000 in
theorem copyRoutes_any (A : Option Addr) (N cc : Nat) (V : List Rv) (w : World) (h : RtAt w A V) (hn : V.length = N) (hm : N ≤ 1048576) :
    Calls Try.prog 14 #[.slice A N cc] w fun e w' => ∃ u V', e = .returned u ∧ V'.map Rv.r = V.map Rv.r ∧ OwT w' w.heap.size w'.heap.size u V' ∧ New w w' := by
  have HN : Hid (V.length = N) := hn
  clear hn
  obtain ⟨i0, hi, hz0, hz1, hz2⟩ := info_parts Try.infoRt
  go_enter Try.func14, Try.ntmps14
  go_wp2
  go_loopw [3, 8] (fun s i wr => ∃ (k : Nat) (V' : List Rv), k ≤ N ∧ i = .int .i64 k ∧ V'.length = k ∧ V'.map Rv.r = (V.take k).map Rv.r ∧ New w wr ∧ OwT wr w.heap.size wr.heap.size s V') (fun _ i _ => N - (intOf i).toNat)
  case atStart => exact ⟨0, [], Nat.zero_le _, rfl, rfl, rfl, New.refl _, OwT.nil _ _ _⟩
  case round =>
    obtain ⟨k, V', hk, rfl, hlk, hmap, hnw, how⟩ := hrel
    by_cases hlt : k < N
    · obtain ⟨b, off, p, a, l, o, nx, md, lc, x, m, d, xs, rfl, hv, hlen, hns, hnl, hmx, q0, q1, q2, q3, q4, q5, q6, q7⟩ := (h.new hnw).at k (by have := HN.out; omega)
      have HL : Hid (xs.length = m) := hlen
      have hbd : Hid (∀ z ∈ xs, In6 z) := hns.bd
      have HX : Hid (x = none → m = 0 ∧ d = 0) := hnl
      have HM : Hid (∀ u : Rv, u.r = ⟨p, a, l, o, xs, nx, md, lc⟩ → (V' ++ [u]).map Rv.r = (V.take (k + 1)).map Rv.r) := by
        intro u hu
        obtain ⟨hk', e⟩ := List.getElem?_eq_some_iff.1 hv
        rw [List.take_succ_eq_append_getElem hk', e, List.map_append, List.map_append, hmap]
        simp [hu]
      have HLK : Hid (V'.length = k) := hlk
      have N0 := (New.refl wr).alloc (.cells #[.int .i64 p, .int .i64 a, .int .i64 l, .int .i64 o, .slice x m d, .int .i64 nx, .int .i64 md, .int .i64 lc] 35)
      have bA := Blk.mk wr wr.heap.size 35 #[.int .i64 p, .int .i64 a, .int .i64 l, .int .i64 o, .slice x m d, .int .i64 nx, .int .i64 md, .int .i64 lc] rfl
      clear hv hlen hmap hnl hlk
      go_upto_region 5 with fail
      generalize wr.alloc (.cells #[.int .i64 p, .int .i64 a, .int .i64 l, .int .i64 o, .slice x m d, .int .i64 nx, .int .i64 md, .int .i64 lc] 35) = wa at *
      have hns1 := hns.new N0
      have how1 := how.new N0
      have hle := hnw.size
      clear q0 q1 q2 q3 q4 q5 q6 q7 hns how
      have cA := bA.cells
      go_wp2_with fail
      refine (copyRt_any p a l o nx md lc x m d xs _ hns1 HL.out hmx HX.out).mono ?_
      rintro e w2 ⟨x2, c2, rfl, ho2, h2⟩
      have how2 := how1.up N0.size
      have hB2 := bA.new h2
      clear cA
      have hrow3 : (w2.alloc (.cells #[.int .i64 p, .int .i64 a, .int .i64 l, .int .i64 o, .slice x2 m c2, .int .i64 nx, .int .i64 md, .int .i64 lc] 35)).ownsRow w.heap.size 35 8 _ V'.length (cellsT V') := row_turn7 (row_turn7 how1.row h2 (fun _ _ f => f)) ((New.refl w2).alloc _) (fun _ _ f => f)
      have bL := Blk.mk w2 w2.heap.size 35 #[.int .i64 p, .int .i64 a, .int .i64 l, .int .i64 o, .slice x2 m c2, .int .i64 nx, .int .i64 md, .int .i64 lc] rfl
      have hov : OvN w2 wa.heap.size (Rv.pv ⟨⟨p, a, l, o, xs, nx, md, lc⟩, x2, c2⟩) xs := by
        unfold Rv.pv
        simp only [HL.out]
        exact ho2
      have hsz : w.heap.size ≤ (w2.alloc (.cells #[.int .i64 p, .int .i64 a, .int .i64 l, .int .i64 o, .slice x2 m c2, .int .i64 nx, .int .i64 md, .int .i64 lc] 35)).heap.size := by have e1 := N0.size; have e2 := h2.size; simp; omega
      have hsrc : ∀ j, (w2.alloc (.cells #[.int .i64 p, .int .i64 a, .int .i64 l, .int .i64 o, .slice x2 m c2, .int .i64 nx, .int .i64 md, .int .i64 lc] 35)).cell? ⟨w2.heap.size, j, none⟩ = (Rv.mk (Rt.mk p a l o xs nx md lc) x2 c2).cs[j]? := by
        intro j
        rw [bL.cells j]
        unfold Rv.cs
        simp only [HL.out]
        simp
      go_wp2_with (at_builtin; refine wpList_apT _ rfl (.tmp 12) (.tmp 15) rfl w.heap.size _ Try.underlying24 hi hz0 hz1 hz2 rfl _ V' rfl hrow3 w2.heap.size (Rv.mk (Rt.mk p a l o xs nx md lc) x2 c2) rfl hsrc (by have := HLK.out; omega) hsz ?_)
      intro v5 w5 hr5 hg5 _
      replace hr5 : w5.ownsRow w.heap.size 35 8 v5 (V' ++ [Rv.mk (Rt.mk p a l o xs nx md lc) x2 c2]).length (cellsT (V' ++ [Rv.mk (Rt.mk p a l o xs nx md lc) x2 c2])) := by rw [List.length_append]; exact hr5
      have hO5 := OwT.appended how2 (by have e1 := N0.size; omega) h2 hov hbd.out (by simp only [HL.out]; exact hmx) ((New.refl w2).alloc _) hr5 hg5
      have N5 : New w w5 := ((((hnw.trans N0).trans h2).alloc _).grow hg5 (fun j hj => (row_rng7 how1.row j hj).1))
      clear hr5 hg5 hrow3 hsrc hov how2 how1 ho2
      go_wp2
      go_roundw
      case rel => exact ⟨k + 1, V' ++ [Rv.mk (Rt.mk p a l o xs nx md lc) x2 c2], by omega, by go_num, by rw [List.length_append, HLK.out]; rfl, HM.out _ rfl, N5, hO5⟩
      case measure => simp [intOf]; omega
    · go_wp2
      go_ret
      rw [List.take_of_length_le (by have := HN.out; omega)] at hmap
      exact ⟨_, V', rfl, hmap, how, hnw⟩

end Go.Proofs.Ytjampcfikfafkaa

namespace Go.Proofs.Ytjampcfikfafkaa
open Go.RowKit Go.Sort Go.Shelf
set_option linter.unusedVariables false
set_option linter.unusedSimpArgs false
set_option maxRecDepth 100000
attribute [local go_sem] Oper.semAt_some

theorem pair_len : ∀ (U R : List Rt), U.Pairwise pLt → (∀ x ∈ U, x ∈ R) → U.length ≤ R.length
  | [], R, _, _ => Nat.zero_le _
  | x :: xs, R, hp, hs => by
    rw [List.pairwise_cons] at hp
    obtain ⟨A, B, rfl⟩ := List.append_of_mem (hs x (List.mem_cons_self ..))
    have h := pair_len xs (A ++ B) hp.2 (fun y hy => by
      have h1 := hs y (List.mem_cons_of_mem _ hy)
      have h2 := hp.1 y hy
      rcases List.mem_append.1 h1 with h1 | h1
      · exact List.mem_append_left _ h1
      · rcases List.mem_cons.1 h1 with h1 | h1
        · subst h1
          unfold pLt at h2
          omega
        · exact List.mem_append_right _ h1)
    simp only [List.length_append, List.length_cons] at h ⊢
    omega
theorem TopOk.len {P : List Rv} {U : List Rt} (h : TopOk P U) : U.length ≤ P.length := by
  have := pair_len U (P.map Rv.r) h.srt (fun x hx => by obtain ⟨v, hv, rfl⟩ := h.mem x hx; exact List.mem_map_of_mem hv)
  simpa using this

theorem wpListIn_apT8 {F : Fence} {nF : Nat} {ops : Array Oper} {rest : List Oper} {o : Oper} {a : Act} {Q : Exit → Act → World → Prop} {t e : TypeId} {i : TypeInfo} (w : World) (hgd : o.guard = none) (s x : Operand)
    (ho : o.op = .call { callee := .builtin .append, args := #[s, x], argTypes := #[t, t] }) (base : Nat) (zero : Value) (ht : Try.prog.underlying t = some (.slice e)) (hi : Try.prog.info? e = some i) (hz : i.zero = some zero) (hs : i.size = 8) (hb : i.bytes = 80) (hz1 : zero.cells.size = 8)
    (v : Value) (rs : List Rv) (hsv : a.eval s = v) (hown : w.ownsRow base e 8 v rs.length (cellsT rs))
    (L : Nat) (r : Rv) (hxv : a.eval x = .slice (some ⟨L, 0, none⟩) 1 1) (hsrc : ∀ j, w.cell? ⟨L, j, none⟩ = r.cs[j]?) (hle : rs.length + 1 ≤ 4194304) (hbase : base ≤ w.heap.size)
    (h : ∀ v' w', w'.ownsRow base e 8 v' (rs ++ [r]).length (cellsT (rs ++ [r])) → w.grownBy w' v.ownBlock → (v'.ownBlock = v.ownBlock ∨ v'.ownBlock = some w.heap.size) → wpListIn F nF Try.prog ops Q rest (a.put o.dst v') w') : wpListIn F nF Try.prog ops Q (o :: rest) a w := by
  have hnews : ∀ j u, r.cs[j]? = some u → w.cell? ((⟨L, 0, none⟩ : Addr).add j) = some u := by
    intro j u hu
    rw [Addr.add_lit, Nat.zero_add, hsrc j, hu]
  refine wpListIn_append_own_at w hgd s x t ho base e i zero 8 80 ht hi hz hs hb hz1 (by decide) v rs.length (cellsT rs) hsv hown ⟨L, 0, none⟩ 1 1 r.cs hxv rfl hnews (by simp [Rv.cs, Value.oneCell']) (by unfold maxLen; omega) (by omega) hbase ?_
  intro v' w' h2 h3 _ h5
  exact h v' w' (by rw [cellsT_snoc]; simpa using h2) h3 h5

theorem HpAt.turn8 {w w' : World} {H b c : Nat} {V : List Rv} {S : Nat → Prop} (h : HpAt w H b c V) (t : Turn S w w') (hH : ¬ S H) (hb : ¬ S b) (hp : ∀ v ∈ V, ∀ x, v.r.xs ≠ [] → v.x = some x → ¬ S x.block) : HpAt w' H b c V :=
  ⟨h.hd.turn t hH, h.row.turn t hb, fun v hv => (h.here v hv).turn t (fun x h1 h2 => hp v hv x h1 h2), h.ne, h.far⟩

set_option maxHeartbeats 12800000 in
theorem implAll_ok (A : Option Addr) (N cc : Nat) (V : List Rv) (w : World) (h : RtAt w A V) (hn : V.length = N) (hm : N ≤ 1048576) (hf : ribF (V.map Rv.r) = 0) :
    Calls Try.prog 6 #[.slice A N cc] w (LAns8 w (V.map Rv.r)) := by
  have HN : Hid (V.length = N) := hn
  have HFA : Hid (ribF (V.map Rv.r) = 0) := hf
  have HA : Hid (∀ X, New w X → RtAt X A V) := fun X hX => h.new hX
  have N0 : New w (w.alloc (.cells #[.int .i64 0, .slice none 0 0] 27)) := (New.refl w).alloc _
  have bB := Blk.mk w w.heap.size 27 #[.int .i64 0, .slice none 0 0] rfl
  have hmf : ∀ (fn : Fn) (first cap : Array Value) (w : World), (Instr.makeFunc fn first cap).run Try.prog w = .ok (.func fn first cap) w := fun _ _ _ _ => rfl
  have ltB := bB.lt
  obtain ⟨i0, hi, hz0, hz1, hz2⟩ := info_parts Try.infoRt
  clear h hn hf
  refine (callsIn_wide (n := 4)).1 ?_
  refine callsIn_of_wp_marks Try.func6 rfl trivial ?_ rfl
  simp only [Try.ntmps6, List.size_toArray, List.length_cons, List.length_nil, Nat.reduceAdd, Nat.reduceSub, Array.replicate_succ, Array.replicate_zero, List.push_toArray, List.append_toArray, List.nil_append, List.cons_append]
  gi_wp2_with fail
  refine ⟨trivial, ?_⟩
  refine (callsIn_wide.2 (implRib A N cc V 0 _ (HA.out _ N0) HN.out hm HFA.out)).mono ?_
  generalize w.alloc (.cells #[.int .i64 0, .slice none 0 0] 27) = w0 at *
  rintro e w1 ⟨rfl, h1⟩
  have b1 := bB.new h1
  have n1 := N0.trans h1
  have lt1 := b1.lt
  clear bB h1 N0
  have bT := Blk.mk w1 w1.heap.size 24 #[.slice none 0 0] rfl
  have aT := (New.refl w1).alloc (.cells #[.slice none 0 0] 24)
  gi_wp2_with fail
  refine ⟨trivial, ?_⟩
  refine (callsIn_wide.2 (copyRoutes_any A N cc V _ (HA.out _ (n1.trans aT)) HN.out hm)).mono ?_
  rintro e w3 ⟨u3, V', rfl, hv3, ho3, h3⟩
  obtain ⟨A3, c3, rfl, hr3, -⟩ := ho3.form
  have b3 := (b1.new aT).new h3
  have bT3 := bT.new h3
  have n3 := (n1.trans aT).trans h3
  have z3 := h3.size
  have z2 := aT.size
  have ltT := bT.lt
  have hl3 : V'.length ≤ N := by
    have e := congrArg List.length hv3
    rw [List.length_map, List.length_map, HN.out] at e
    omega
  have HV3 : Hid (V'.map Rv.r = V.map Rv.r) := hv3
  clear hv3 b1 n1 bT aT h3
  gi_wp2_with fail
  refine ⟨trivial, ?_⟩
  refine (callsIn_wide.2 (heapOf_any A3 V'.length c3 V' _ hr3 rfl (by omega))).mono ?_
  rintro e w4 ⟨H, V4, rfl, hs4, hp4, hk4, h4⟩
  gi_wp2_with fail
  have b4 := b3.new h4
  have bT4' := bT3.new h4
  have n4 := n3.trans h4
  have z4 := h4.size
  have lt4 := b4.lt
  have ltT4 := bT4'.lt
  have ltT3 := bT3.lt
  have lt3 := b3.lt
  have H4 : Hid (New w3 w4) := h4
  clear b3 h4 bT3
  obtain ⟨b, c, hp, hlb, hlH, hfar⟩ := hs4
  have ltb := hp.row.lt
  have ltH := hp.hd.lt
  have HB4 : Hid (Blk w4 w.heap.size 27 #[.int .i64 0, .slice none 0 0]) := b4
  have HT4 : Hid (Blk w4 w1.heap.size 24 #[.slice none 0 0]) := bT4'
  clear b4 bT4'
  refine wpIn_range8 (v0 := .pointer (some ⟨H, 0, none⟩)) rfl (by omega) (gf := 15) rfl trivial (enters_of Try.func15 (by kernel_rfl) rfl) ?_
  intro fn W1 rec hfn hN1 hsz hrec hl hd
  have hl4 : V4.length ≤ 1048576 := by have := hp4.length_eq; omega
  refine (top8_all (w4.heap.size + 1) H b c V4 W1 (fun pre X => X.heap[w4.heap.size + 1]? = some (.loop rec) ∧ X.heap[w4.heap.size]? = some (.deferred (some [])) ∧ Blk X w.heap.size 27 #[.int .i64 0, .slice none 0 0] ∧ Turn (fun k => k = b ∨ k = H ∨ k = w1.heap.size ∨ w4.heap.size ≤ k) w4 X ∧ ∃ u U, Blk X w1.heap.size 24 #[u] ∧ X.ownsRow W1.heap.size 35 8 u U.length (cellsT U) ∧ TopOk pre (U.map Rv.r) ∧ (∀ v ∈ U, v ∈ V4) ∧ U.length ≤ V4.length) (hp.new hN1) hl4 (by rw [hp4.length_eq]; exact hk4) ?start ?turn ?round).mono ?behind
  case start => exact ⟨hl, hd, HB4.out.new hN1, hN1.turn, .slice none 0 0, [], HT4.out.new hN1, ⟨rfl, .inl ⟨rfl, rfl⟩⟩, TopOk.nil, (by intro v hv; cases hv), Nat.zero_le _⟩
  case turn =>
    rintro pre X Y ⟨j1, j2, j3, j4, u, U, j5, j6, j7, j8, j9⟩ t
    have s4 := j4.size
    have sT := j5.lt
    have s3 := j3.lt
    have g1 : w4.heap.size + 1 < X.heap.size := (Array.getElem?_eq_some_iff.1 j1).1
    refine ⟨(t.block _ g1 (by omega)).trans j1, (t.block _ (by omega) (by omega)).trans j2, j3.turn t (by omega), Turn.trans j4 t (fun k _ e => by omega), u, U, j5.turn t (by omega), row_turn7 j6 t (fun k hk e => by have := (row_rng7 j6 k hk).1; omega), j7, j8, j9⟩
  case round =>
    rintro pre xv RR X hperm hxy hpw ⟨j1, j2, j3, j4, u, U, j5, j6, j7, j8, j9⟩ hpR
    have HV4L : Hid (V4.length ≤ 1048576) := hl4
    obtain ⟨AU, cU, hu5⟩ : ∃ AU cU, u = .slice AU U.length cU := by
      rcases row_form7 j6 with ⟨e1, e2⟩ | ⟨g, c2, e1, -⟩
      · subst e2
        exact ⟨none, 0, e1⟩
      · exact ⟨_, _, e1⟩
    subst hu5
    have s4 := j4.size
    have g1 : w4.heap.size + 1 < X.heap.size := (Array.getElem?_eq_some_iff.1 j1).1
    have hxV : xv ∈ V4 := hperm.mem_iff.1 (by simp)
    have hRV : ∀ v ∈ RR, v ∈ V4 := fun v hv => hperm.mem_iff.1 (by simp [hv])
    have hUlen : U.length ≤ pre.length → U.length + 1 ≤ V4.length := fun e => by have := hperm.length_eq; rw [List.length_append, List.length_cons] at this; omega
    have HX : Hid (xv ∈ V4) := hxV
    have HJ7 : Hid (TopOk pre (U.map Rv.r)) := j7
    have HJ8 : Hid (∀ v ∈ U, v ∈ V4) := j8
    have HXY : Hid (∀ y ∈ pre, ¬ hlt xv y) := hxy
    have HFR : Hid (∀ v ∈ RR, ∀ x, v.r.xs ≠ [] → v.x = some x → w1.heap.size < x.block ∧ x.block < w3.heap.size) := fun v hv x h1 h2 => by
      have e1 := hfar v (hRV v hv) x h1 h2
      have e2 := (ho3.path.own v (hp4.mem_iff.1 (hRV v hv))).rng7 x.block (by unfold Rv.pv; rw [h2]; rfl)
      omega
    have HHX : Hid (H ≠ w1.heap.size ∧ b ≠ w1.heap.size) := ⟨by omega, by omega⟩
    obtain ⟨rb, hrb⟩ : ∃ rb : Loop, rb = { rec with state := .busy } := ⟨_, rfl⟩
    obtain ⟨rn, hrn⟩ : ∃ rn : Loop, Hid (rn = rec) := ⟨_, rfl⟩
    have hrb2 : Hid (({ rb with state := .ready, pending := none } : Loop) = rn) := by unfold Hid; rw [hrn.out, hrb, hrec]
    have HEND : Hid (∀ Y : World, Y.heap[w4.heap.size + 1]? = some (.loop rb) → (Instr.endRound (w4.heap.size + 1) none).run Try.prog Y = .ok (.bool true) (Y.putObj (w4.heap.size + 1) (.loop rn))) := fun Y hY => by
      have h := run_endRound (P := Try.prog) none hY
      rw [← hrb2.out]
      exact h
    have HRN : Hid (∀ Y : World, Y.heap[w4.heap.size + 1]? = some (.loop rn) → Y.heap[w4.heap.size + 1]? = some (.loop rec)) := fun Y h => by rw [← hrn.out]; exact h
    have HFIN : Hid (∀ (Y : World) (U2 : List Rv) (u2 : Value), Y.heap[w4.heap.size + 1]? = some (.loop rb) → Y.heap[w4.heap.size]? = some (.deferred (some [])) → Blk Y w.heap.size 27 #[.int .i64 0, .slice none 0 0] → Turn (fun k => k = w1.heap.size ∨ w4.heap.size ≤ k) X Y → Blk Y w1.heap.size 24 #[u2] → Y.ownsRow W1.heap.size 35 8 u2 U2.length (cellsT U2) → TopOk (pre ++ [xv]) (U2.map Rv.r) → (∀ v ∈ U2, v ∈ V4) → U2.length ≤ V4.length → HpAt Y H b c RR →
      ((Y.putObj (w4.heap.size + 1) (.loop rn)).heap[w4.heap.size + 1]? = some (.loop rec) ∧ (Y.putObj (w4.heap.size + 1) (.loop rn)).heap[w4.heap.size]? = some (.deferred (some [])) ∧ Blk (Y.putObj (w4.heap.size + 1) (.loop rn)) w.heap.size 27 #[.int .i64 0, .slice none 0 0] ∧ Turn (fun k => k = b ∨ k = H ∨ k = w1.heap.size ∨ w4.heap.size ≤ k) w4 (Y.putObj (w4.heap.size + 1) (.loop rn)) ∧ ∃ u U, Blk (Y.putObj (w4.heap.size + 1) (.loop rn)) w1.heap.size 24 #[u] ∧ (Y.putObj (w4.heap.size + 1) (.loop rn)).ownsRow W1.heap.size 35 8 u U.length (cellsT U) ∧ TopOk (pre ++ [xv]) (U.map Rv.r) ∧ (∀ v ∈ U, v ∈ V4) ∧ U.length ≤ V4.length) ∧ HpAt (Y.putObj (w4.heap.size + 1) (.loop rn)) H b c RR) := by
      intro Y U2 u2 k1 k2 k3 k4 k5 k6 k7 k8 k9 k10
      have ltY : w4.heap.size + 1 < Y.heap.size := (Array.getElem?_eq_some_iff.1 k1).1
      have tp : Turn (fun k => k = w4.heap.size + 1) Y (Y.putObj (w4.heap.size + 1) (.loop rn)) := (turn_of_grown8 (grownBy_putObj' Y (w4.heap.size + 1) (.loop rn))).mono (fun k _ e => (Option.some.inj e).symm)
      refine ⟨⟨HRN.out _ (World.putObj_heap_same ltY), (World.putObj_heap_other (by omega)).trans k2, k3.turn tp (by omega), Turn.trans (Turn.trans j4 k4 (fun k _ e => by omega)) tp (fun k _ e => by omega), u2, U2, k5.turn tp (by omega), row_turn7 k6 tp (fun k hk e => by have h1 := (row_rng7 k6 k hk).1; omega), k7, k8, k9⟩, k10.turn8 tp (by omega) (by omega) (fun v hv y h1 h2 e => by have := HFR.out v hv y h1 h2; omega)⟩
    obtain ⟨⟨p, a, l, o, xs, nx, md, lc⟩, x, d⟩ := xv
    refine yield8 (rec := rec) (by subst hrec; exact hfn) j1 (by subst hrec; rfl) ?_
    have HB' : Hid (rb = { rec with state := .busy }) := hrb
    have hbeg : ∀ (Y : World), Y.heap[w4.heap.size + 1]? = some (.loop rec) → (Instr.beginRound (w4.heap.size + 1)).run Try.prog Y = .ok () (Y.putObj (w4.heap.size + 1) (.loop rb)) := fun Y hY => by rw [hrb]; exact run_beginRound hY (by subst hrec; rfl)
    have HBEG := hbeg
    subst hrec
    dsimp only
    unfold Rv.val
    dsimp only
    gi_wp2
    have aR := (New.refl X).alloc (.cells #[.int .i64 p, .int .i64 a, .int .i64 l, .int .i64 o, .slice x xs.length d, .int .i64 nx, .int .i64 md, .int .i64 lc] 35)
    have bR := Blk.mk X X.heap.size 35 #[.int .i64 p, .int .i64 a, .int .i64 l, .int .i64 o, .slice x xs.length d, .int .i64 nx, .int .i64 md, .int .i64 lc] rfl
    have j1a := (aR.block _ g1 (fun f => f)).trans j1
    have hbx := HBEG _ j1a
    refine ⟨_, hbx, ?_⟩
    clear hbeg HBEG hrb hbx
    have hl4 : ((X.alloc (.cells #[.int .i64 p, .int .i64 a, .int .i64 l, .int .i64 o, .slice x xs.length d, .int .i64 nx, .int .i64 md, .int .i64 lc] 35)).putObj (w4.heap.size + 1) (.loop rb)).heap[w4.heap.size + 1]? = some (.loop rb) := World.putObj_heap_same (by have := aR.size; omega)
    have tl : Turn (fun k => k = w4.heap.size + 1) X ((X.alloc (.cells #[.int .i64 p, .int .i64 a, .int .i64 l, .int .i64 o, .slice x xs.length d, .int .i64 nx, .int .i64 md, .int .i64 lc] 35)).putObj (w4.heap.size + 1) (.loop rb)) := Turn.trans aR.turn ((turn_of_grown8 (grownBy_putObj' (X.alloc (.cells #[.int .i64 p, .int .i64 a, .int .i64 l, .int .i64 o, .slice x xs.length d, .int .i64 nx, .int .i64 md, .int .i64 lc] 35)) (w4.heap.size + 1) (.loop rb))).mono (fun k _ e => (Option.some.inj e).symm)) (fun _ _ e => e)
    have bR4 : Blk ((X.alloc (.cells #[.int .i64 p, .int .i64 a, .int .i64 l, .int .i64 o, .slice x xs.length d, .int .i64 nx, .int .i64 md, .int .i64 lc] 35)).putObj (w4.heap.size + 1) (.loop rb)) X.heap.size 35 #[.int .i64 p, .int .i64 a, .int .i64 l, .int .i64 o, .slice x xs.length d, .int .i64 nx, .int .i64 md, .int .i64 lc] := (World.putObj_heap_other (by omega)).trans bR
    generalize (X.alloc (.cells #[.int .i64 p, .int .i64 a, .int .i64 l, .int .i64 o, .slice x xs.length d, .int .i64 nx, .int .i64 md, .int .i64 lc] 35)).putObj (w4.heap.size + 1) (.loop rb) = W5 at *
    clear bR aR j1a
    have hd4 := (tl.block w4.heap.size (by omega) (by omega)).trans j2
    have b5 := j3.turn tl (by omega)
    have bT4 := j5.turn tl (by omega)
    have row5 := row_turn7 j6 tl (fun k hk e => by have h1 := (row_rng7 j6 k hk).1; omega)
    have hp5 := hpR.turn8 tl (by omega) (by omega) (fun v hv y h1 h2 e => by have := HFR.out v hv y h1 h2; omega)
    have lt5 : w4.heap.size + 1 < W5.heap.size := (Array.getElem?_eq_some_iff.1 hl4).1
    have tx : Turn (fun k => k = w1.heap.size ∨ w4.heap.size ≤ k) X W5 := tl.mono (fun k _ e => .inr (by omega))
    have HPL : Hid (pre.length + 1 ≤ V4.length) := by
      have e := hperm.length_eq
      rw [List.length_append, List.length_cons] at e
      show _ ≤ _
      omega
    clear j1 j2 j3 j5 j6 hpR hxV hRV hUlen hxy tl j4 hperm j7 j8 hpw
    have hmx : Try.prog.follows .mixedOrders = true := by kernel_rfl
    have dd : New W5 W5.drew := (New.refl W5).drew
    gi_wp2_with fail
    refine wpIn_region_round (S := fun Y => New W5 Y) hmx ?hd ?hQ ?_
    case hd =>
      intro i o ho c
      rcases i with _ | _ | _ | _ | _ | _ | _ | _ | _ | _ | _ | _ | _ | _ | _ | i <;> simp at ho <;> subst ho <;> simp
    case hQ =>
      rintro ⟨_, _, hh⟩
      exact hh
    have hH := dd
    rcases Nat.eq_zero_or_pos U.length with h0 | h0
    · obtain rfl := List.eq_nil_of_length_eq_zero h0
      refine' hw_take 0 (some 17) _ rfl rfl (by kernel_rfl) (by kernel_rfl) (by kernel_rfl) (fun _ _ _ h => h) (by rfl) hH ?hy1 ?rest1
      case hy1 =>
        intro X hX
        have cTX := (bT4.new hX).cells
        go_simp
        try rfl
      simp only [Act.put, List.setIfInBounds_toArray, List.set_cons_zero, List.set_cons_succ]
      refine' hw_take 1 (some 18) _ rfl rfl (by kernel_rfl) (by kernel_rfl) (by kernel_rfl) (fun _ _ _ h => h) (by rfl) hH ?hy2 ?rest2
      case hy2 =>
        intro X hX
        go_simp
        try rfl
      simp only [Act.put, List.setIfInBounds_toArray, List.set_cons_zero, List.set_cons_succ]
      refine' hw_take 2 (some 19) _ rfl rfl (by kernel_rfl) (by kernel_rfl) (by kernel_rfl) (fun _ _ _ h => h) (by rfl) hH ?hy3 ?rest3
      case hy3 =>
        intro X hX
        go_simp
        try rfl
      simp only [Act.put, List.setIfInBounds_toArray, List.set_cons_zero, List.set_cons_succ]
      refine' hw_take 3 (some 20) _ rfl rfl (by kernel_rfl) (by kernel_rfl) (by kernel_rfl) (fun _ _ _ h => h) (by rfl) hH ?hy4 ?rest4
      case hy4 =>
        intro X hX
        go_simp
        try rfl
      simp only [Act.put, List.setIfInBounds_toArray, List.set_cons_zero, List.set_cons_succ]
      refine hw_skip 4 (some 21) rfl rfl (by kernel_rfl) (by kernel_rfl) (by kernel_rfl) (fun _ _ _ h => h) (by rfl) hH ?_
      simp only [Act.put, List.setIfInBounds_toArray, List.set_cons_zero, List.set_cons_succ]
      refine hw_skip 5 (some 22) rfl rfl (by kernel_rfl) (by kernel_rfl) (by kernel_rfl) (fun _ _ _ h => h) (by rfl) hH ?_
      simp only [Act.put, List.setIfInBounds_toArray, List.set_cons_zero, List.set_cons_succ]
      refine hw_skip 6 (some 23) rfl rfl (by kernel_rfl) (by kernel_rfl) (by kernel_rfl) (fun _ _ _ h => h) (by rfl) hH ?_
      simp only [Act.put, List.setIfInBounds_toArray, List.set_cons_zero, List.set_cons_succ]
      refine hw_skip 7 (some 24) rfl rfl (by kernel_rfl) (by kernel_rfl) (by kernel_rfl) (fun _ _ _ h => h) (by rfl) hH ?_
      simp only [Act.put, List.setIfInBounds_toArray, List.set_cons_zero, List.set_cons_succ]
      refine hw_skip 8 (some 25) rfl rfl (by kernel_rfl) (by kernel_rfl) (by kernel_rfl) (fun _ _ _ h => h) (by rfl) hH ?_
      simp only [Act.put, List.setIfInBounds_toArray, List.set_cons_zero, List.set_cons_succ]
      refine hw_skip 9 (some 26) rfl rfl (by kernel_rfl) (by kernel_rfl) (by kernel_rfl) (fun _ _ _ h => h) (by rfl) hH ?_
      simp only [Act.put, List.setIfInBounds_toArray, List.set_cons_zero, List.set_cons_succ]
      refine hw_skip 10 (some 27) rfl rfl (by kernel_rfl) (by kernel_rfl) (by kernel_rfl) (fun _ _ _ h => h) (by rfl) hH ?_
      simp only [Act.put, List.setIfInBounds_toArray, List.set_cons_zero, List.set_cons_succ]
      refine hw_skip 11 (some 28) rfl rfl (by kernel_rfl) (by kernel_rfl) (by kernel_rfl) (fun _ _ _ h => h) (by rfl) hH ?_
      simp only [Act.put, List.setIfInBounds_toArray, List.set_cons_zero, List.set_cons_succ]
      refine hw_skip 12 (some 29) rfl rfl (by kernel_rfl) (by kernel_rfl) (by kernel_rfl) (fun _ _ _ h => h) (by rfl) hH ?_
      simp only [Act.put, List.setIfInBounds_toArray, List.set_cons_zero, List.set_cons_succ]
      refine hw_skip 13 (some 30) rfl rfl (by kernel_rfl) (by kernel_rfl) (by kernel_rfl) (fun _ _ _ h => h) (by rfl) hH ?_
      simp only [Act.put, List.setIfInBounds_toArray, List.set_cons_zero, List.set_cons_succ]
      refine' hw_take 14 (some 31) _ rfl rfl (by kernel_rfl) (by kernel_rfl) (by kernel_rfl) (fun _ _ _ h => h) (by rfl) hH ?hy5 ?rest5
      case hy5 =>
        intro X hX
        go_simp
        try rfl
      simp only [Act.put, List.setIfInBounds_toArray, List.set_cons_zero, List.set_cons_succ]
      refine wpAnyH_done (by kernel_rfl) ?_ _
      have HTOP : Hid (TopOk (pre ++ [Rv.mk (Rt.mk p a l o xs nx md lc) x d]) ((([] : List Rv) ++ [Rv.mk (Rt.mk p a l o xs nx md lc) x d]).map Rv.r)) := by
        unfold Hid
        rw [List.map_append]
        exact HJ7.out.new HXY.out (by intro r hr; simp at hr)
      have hform : (AU = none ∧ cU = 0) ∨ ∃ g, AU = some ⟨g, 0, none⟩ := by
        rcases row_form7 row5 with ⟨e1, -⟩ | ⟨g, c2, e1, -⟩
        · simp only [Value.slice.injEq] at e1
          exact .inl ⟨e1.1, e1.2.2⟩
        · simp only [Value.slice.injEq] at e1
          exact .inr ⟨g, e1.1⟩
      rcases hform with ⟨rfl, rfl⟩ | ⟨g, rfl⟩
      · skip
        generalize W5.drew = W6 at *
        have row6 := row_turn7 row5 dd (fun _ _ f => f)
        have b6 := b5.new dd
        have bT6 := bT4.new dd
        have bR6 := bR4.new dd
        have hp6 := hp5.new dd
        have lt6 : W5.heap.size ≤ W6.heap.size := dd.size
        have hl6 := (dd.block _ lt5 (fun f => f)).trans hl4
        have hd6 := (dd.block _ (by omega) (fun f => f)).trans hd4
        have bL := Blk.mk W6 W6.heap.size 35 #[.int .i64 p, .int .i64 a, .int .i64 l, .int .i64 o, .slice x xs.length d, .int .i64 nx, .int .i64 md, .int .i64 lc] rfl
        have aL := (New.refl W6).alloc (.cells #[.int .i64 p, .int .i64 a, .int .i64 l, .int .i64 o, .slice x xs.length d, .int .i64 nx, .int .i64 md, .int .i64 lc] 35)
        have row7 := row_turn7 row6 aL (fun _ _ f => f)
        have hszA : W1.heap.size ≤ (W6.alloc (.cells #[.int .i64 p, .int .i64 a, .int .i64 l, .int .i64 o, .slice x xs.length d, .int .i64 nx, .int .i64 md, .int .i64 lc] 35)).heap.size := by have := aL.size; omega
        have hsrc : ∀ j, (W6.alloc (.cells #[.int .i64 p, .int .i64 a, .int .i64 l, .int .i64 o, .slice x xs.length d, .int .i64 nx, .int .i64 md, .int .i64 lc] 35)).cell? ⟨W6.heap.size, j, none⟩ = (Rv.mk (Rt.mk p a l o xs nx md lc) x d).cs[j]? := by
          intro j
          rw [bL.cells j]
          unfold Rv.cs
          simp
        have hle8 : ([] : List Rv).length + 1 ≤ 4194304 := by have e1 := HTOP.out.len; have e2 := HPL.out; have e3 := HV4L.out; simp only [List.length_map, List.length_append, List.length_singleton] at e1; omega
        have cT6 := bT6.cells
        have cR6 := bR6.cells
        have own7 : ∀ k, (Value.slice none ([] : List Rv).length 0).ownBlock = some k → W1.heap.size ≤ k := fun k hk => (row_rng7 row7 k hk).1
        gi_wp2_with (gi_at_builtin; refine wpListIn_apT8 _ rfl (.tmp 32) (.tmp 34) rfl W1.heap.size _ Try.underlying24 hi hz0 hz1 hz2 rfl _ [] rfl row7 W6.heap.size (Rv.mk (Rt.mk p a l o xs nx md lc) x d) rfl hsrc hle8 hszA ?_)
        intro v5 w5 hr5 hg5 _
        replace hr5 : w5.ownsRow W1.heap.size 35 8 v5 ([] ++ [Rv.mk (Rt.mk p a l o xs nx md lc) x d]).length (cellsT ([] ++ [Rv.mk (Rt.mk p a l o xs nx md lc) x d])) := by first | exact hr5 | (rw [hsz]; exact hr5) | (rw [List.length_append, hsz]; exact hr5) | (rw [hsz]; simpa using hr5)
        obtain ⟨g5, c5, rfl⟩ : ∃ g5 c5, v5 = (.slice (some ⟨g5, 0, none⟩) (1) c5) := by
          rcases row_form7 hr5 with ⟨-, e⟩ | ⟨g5, c5, e, -⟩
          · exact absurd e (by simp)
          · exact ⟨g5, c5, by rw [e]; simp⟩
        have tA := turn_of_grown8 hg5
        have ltA : W6.heap.size ≤ w5.heap.size := by have := aL.size; have := tA.size; omega
        have b8 := (b6.new aL).turn tA (fun e => by have := own7 _ e; omega)
        have bT8 := (bT6.new aL).turn tA (fun e => by have := own7 _ e; omega)
        have hl8 := (tA.block _ (by have := aL.size; omega) (fun e => by have := own7 _ e; omega)).trans ((aL.block _ (by omega) (fun f => f)).trans hl6)
        have hd8 := (tA.block _ (by have := aL.size; omega) (fun e => by have := own7 _ e; omega)).trans ((aL.block _ (by omega) (fun f => f)).trans hd6)
        have hp8 := (hp6.new aL).turn8 tA (fun e => by have := own7 _ e; omega) (fun e => by have := own7 _ e; omega) (fun v hv y h1 h2 e => by have := HFR.out v hv y h1 h2; have := own7 _ e; omega)
        have tY := Turn.trans (Turn.trans (Turn.trans tx dd.turn (fun _ _ e => e)) aL.turn (fun _ _ e => e)) tA (fun k _ e => .inr (by have := own7 _ e; omega))
        clear row7 hsrc own7 row6 row5 hg5
        have cT8 := bT8.cells
        have fT8 := bT8.frees
        gi_wp2
        have tS : Turn (fun k => k = w1.heap.size) w5 (w5.setCell ⟨w1.heap.size, 0, none⟩ (.slice (some ⟨g5, 0, none⟩) (1) c5)) := Turn.set (S := fun k => k = w1.heap.size) (Turn.refl (fun k => k = w1.heap.size) w5) rfl (.slice (some ⟨g5, 0, none⟩) (1) c5)
        have rng5 := row_rng7 hr5
        have hl9 := (tS.block _ (by omega) (by omega)).trans hl8
        have hfin := HFIN.out _ ([] ++ [Rv.mk (Rt.mk p a l o xs nx md lc) x d]) (.slice (some ⟨g5, 0, none⟩) (1) c5) hl9 ((tS.block _ (by omega) (by omega)).trans hd8) (b8.turn tS (by omega)) (Turn.trans tY tS (fun k _ e => .inl e)) (bT8.set 0 (.slice (some ⟨g5, 0, none⟩) (1) c5)) (row_turn7 hr5 tS (fun k hk e => by have := rng5 k hk; omega)) HTOP.out (fun v hv => (List.mem_append.1 hv).elim (fun hv => HJ8.out v hv) (fun hv => by obtain rfl := List.mem_singleton.1 hv; exact HX.out)) (by have e1 := HTOP.out.len; have e2 := HPL.out; simp only [List.length_map, List.length_append, List.length_singleton] at e1 ⊢; omega) (hp8.turn8 tS (fun e => HHX.out.1 e) (fun e => HHX.out.2 e) (fun v hv y h1 h2 e => by have := HFR.out v hv y h1 h2; omega))
        obtain ⟨⟨f1, f2, f3, f4, u9, U9, f5, f6, f7, f8, f9⟩, f10⟩ := hfin
        refine ⟨_, _, HEND.out _ hl9, rfl, ?_⟩
        exact ⟨⟨f1, f2, f3, f4, u9, f5, U9, (by first | exact f6 | (rw [← hsz]; exact f6)), f7, f8, f9⟩, f10⟩
      · skip
        generalize W5.drew = W6 at *
        have row6 := row_turn7 row5 dd (fun _ _ f => f)
        have b6 := b5.new dd
        have bT6 := bT4.new dd
        have bR6 := bR4.new dd
        have hp6 := hp5.new dd
        have lt6 : W5.heap.size ≤ W6.heap.size := dd.size
        have hl6 := (dd.block _ lt5 (fun f => f)).trans hl4
        have hd6 := (dd.block _ (by omega) (fun f => f)).trans hd4
        have bL := Blk.mk W6 W6.heap.size 35 #[.int .i64 p, .int .i64 a, .int .i64 l, .int .i64 o, .slice x xs.length d, .int .i64 nx, .int .i64 md, .int .i64 lc] rfl
        have aL := (New.refl W6).alloc (.cells #[.int .i64 p, .int .i64 a, .int .i64 l, .int .i64 o, .slice x xs.length d, .int .i64 nx, .int .i64 md, .int .i64 lc] 35)
        have row7 := row_turn7 row6 aL (fun _ _ f => f)
        have hszA : W1.heap.size ≤ (W6.alloc (.cells #[.int .i64 p, .int .i64 a, .int .i64 l, .int .i64 o, .slice x xs.length d, .int .i64 nx, .int .i64 md, .int .i64 lc] 35)).heap.size := by have := aL.size; omega
        have hsrc : ∀ j, (W6.alloc (.cells #[.int .i64 p, .int .i64 a, .int .i64 l, .int .i64 o, .slice x xs.length d, .int .i64 nx, .int .i64 md, .int .i64 lc] 35)).cell? ⟨W6.heap.size, j, none⟩ = (Rv.mk (Rt.mk p a l o xs nx md lc) x d).cs[j]? := by
          intro j
          rw [bL.cells j]
          unfold Rv.cs
          simp
        have hle8 : ([] : List Rv).length + 1 ≤ 4194304 := by have e1 := HTOP.out.len; have e2 := HPL.out; have e3 := HV4L.out; simp only [List.length_map, List.length_append, List.length_singleton] at e1; omega
        have cT6 := bT6.cells
        have cR6 := bR6.cells
        have own7 : ∀ k, (Value.slice (some ⟨g, 0, none⟩) ([] : List Rv).length cU).ownBlock = some k → W1.heap.size ≤ k := fun k hk => (row_rng7 row7 k hk).1
        gi_wp2_with (gi_at_builtin; refine wpListIn_apT8 _ rfl (.tmp 32) (.tmp 34) rfl W1.heap.size _ Try.underlying24 hi hz0 hz1 hz2 rfl _ [] rfl row7 W6.heap.size (Rv.mk (Rt.mk p a l o xs nx md lc) x d) rfl hsrc hle8 hszA ?_)
        intro v5 w5 hr5 hg5 _
        replace hr5 : w5.ownsRow W1.heap.size 35 8 v5 ([] ++ [Rv.mk (Rt.mk p a l o xs nx md lc) x d]).length (cellsT ([] ++ [Rv.mk (Rt.mk p a l o xs nx md lc) x d])) := by first | exact hr5 | (rw [hsz]; exact hr5) | (rw [List.length_append, hsz]; exact hr5) | (rw [hsz]; simpa using hr5)
        obtain ⟨g5, c5, rfl⟩ : ∃ g5 c5, v5 = (.slice (some ⟨g5, 0, none⟩) (1) c5) := by
          rcases row_form7 hr5 with ⟨-, e⟩ | ⟨g5, c5, e, -⟩
          · exact absurd e (by simp)
          · exact ⟨g5, c5, by rw [e]; simp⟩
        have tA := turn_of_grown8 hg5
        have ltA : W6.heap.size ≤ w5.heap.size := by have := aL.size; have := tA.size; omega
        have b8 := (b6.new aL).turn tA (fun e => by have := own7 _ e; omega)
        have bT8 := (bT6.new aL).turn tA (fun e => by have := own7 _ e; omega)
        have hl8 := (tA.block _ (by have := aL.size; omega) (fun e => by have := own7 _ e; omega)).trans ((aL.block _ (by omega) (fun f => f)).trans hl6)
        have hd8 := (tA.block _ (by have := aL.size; omega) (fun e => by have := own7 _ e; omega)).trans ((aL.block _ (by omega) (fun f => f)).trans hd6)
        have hp8 := (hp6.new aL).turn8 tA (fun e => by have := own7 _ e; omega) (fun e => by have := own7 _ e; omega) (fun v hv y h1 h2 e => by have := HFR.out v hv y h1 h2; have := own7 _ e; omega)
        have tY := Turn.trans (Turn.trans (Turn.trans tx dd.turn (fun _ _ e => e)) aL.turn (fun _ _ e => e)) tA (fun k _ e => .inr (by have := own7 _ e; omega))
        clear row7 hsrc own7 row6 row5 hg5
        have cT8 := bT8.cells
        have fT8 := bT8.frees
        gi_wp2
        have tS : Turn (fun k => k = w1.heap.size) w5 (w5.setCell ⟨w1.heap.size, 0, none⟩ (.slice (some ⟨g5, 0, none⟩) (1) c5)) := Turn.set (S := fun k => k = w1.heap.size) (Turn.refl (fun k => k = w1.heap.size) w5) rfl (.slice (some ⟨g5, 0, none⟩) (1) c5)
        have rng5 := row_rng7 hr5
        have hl9 := (tS.block _ (by omega) (by omega)).trans hl8
        have hfin := HFIN.out _ ([] ++ [Rv.mk (Rt.mk p a l o xs nx md lc) x d]) (.slice (some ⟨g5, 0, none⟩) (1) c5) hl9 ((tS.block _ (by omega) (by omega)).trans hd8) (b8.turn tS (by omega)) (Turn.trans tY tS (fun k _ e => .inl e)) (bT8.set 0 (.slice (some ⟨g5, 0, none⟩) (1) c5)) (row_turn7 hr5 tS (fun k hk e => by have := rng5 k hk; omega)) HTOP.out (fun v hv => (List.mem_append.1 hv).elim (fun hv => HJ8.out v hv) (fun hv => by obtain rfl := List.mem_singleton.1 hv; exact HX.out)) (by have e1 := HTOP.out.len; have e2 := HPL.out; simp only [List.length_map, List.length_append, List.length_singleton] at e1 ⊢; omega) (hp8.turn8 tS (fun e => HHX.out.1 e) (fun e => HHX.out.2 e) (fun v hv y h1 h2 e => by have := HFR.out v hv y h1 h2; omega))
        obtain ⟨⟨f1, f2, f3, f4, u9, U9, f5, f6, f7, f8, f9⟩, f10⟩ := hfin
        refine ⟨_, _, HEND.out _ hl9, rfl, ?_⟩
        exact ⟨⟨f1, f2, f3, f4, u9, f5, U9, (by first | exact f6 | (rw [← hsz]; exact f6)), f7, f8, f9⟩, f10⟩
    · obtain ⟨g, c2, hAU, hgl, hgr, hog⟩ : ∃ g c2, Value.slice AU U.length cU = .slice (some ⟨g, 0, none⟩) U.length c2 ∧ W1.heap.size ≤ g ∧ g < W5.heap.size ∧ OwRow W5 g U.length c2 U := by
        rcases row_form7 row5 with ⟨e1, e2⟩ | h
        · subst e2
          exact absurd h0 (by simp)
        · exact h
      simp only [Value.slice.injEq, true_and] at hAU
      obtain ⟨rfl, rfl⟩ := hAU
      obtain ⟨v', hv'⟩ : ∃ v', U[U.length - 1]? = some v' := ⟨_, List.getElem?_eq_getElem (by omega)⟩
      have HLAST : Hid (U.getLast? = some v') := by
        unfold Hid
        rw [List.getLast?_eq_getElem?]
        exact hv'
      have y1 : W5.cell? ⟨g, (U.length - 1) * 8 + 1, none⟩ = some (.int .i64 v'.r.a) := by
        rw [World.ownsRow.cellAt hog _ (by omega)]
        exact cellsT_get U _ v' hv' 1 (by omega)
      have y2 : W5.cell? ⟨g, (U.length - 1) * 8 + 2, none⟩ = some (.int .i64 v'.r.l) := by
        rw [World.ownsRow.cellAt hog _ (by omega)]
        exact cellsT_get U _ v' hv' 2 (by omega)
      have hj0 : (0 : Int) ≤ ((U.length - 1 : Nat) : Int) := by omega
      have hj1 : ((U.length - 1 : Nat) : Int) < (U.length : Int) := by omega
      have hul : U.length ≤ 1048576 := by have e1 := HJ7.out.len; have e2 := HPL.out; have e3 := HV4L.out; simp only [List.length_map] at e1; omega
      have hwk : IntKind.i64.wrap ((U.length : Int) - 1) = ((U.length - 1 : Nat) : Int) := by rw [IntKind.wrap_i64]; omega
      have hnz : ((U.length : Int) == 0) = false := by simp; intro e; subst e; simp at h0
      obtain ⟨⟨p', a', l', o', xs', nx', md', lc'⟩, x', d'⟩ := v'
      dsimp only at y1 y2
      by_cases ha : a = a'
      case neg =>
        have HTOP : Hid (TopOk (pre ++ [Rv.mk (Rt.mk p a l o xs nx md lc) x d]) ((U ++ [Rv.mk (Rt.mk p a l o xs nx md lc) x d]).map Rv.r)) := by
          unfold Hid
          rw [List.map_append]
          refine HJ7.out.new HXY.out (fun r hr e => ?_)
          rw [List.getLast?_map, HLAST.out] at hr
          obtain rfl := Option.some.inj hr
          exact ha e.1
        clear hog hv'
        refine' hw_take 0 (some 17) _ rfl rfl (by kernel_rfl) (by kernel_rfl) (by kernel_rfl) (fun _ _ _ h => h) (by rfl) hH ?hy6 ?rest6
        case hy6 =>
          intro X hX
          have cTX := (bT4.new hX).cells
          go_simp
          try rfl
        simp only [Act.put, List.setIfInBounds_toArray, List.set_cons_zero, List.set_cons_succ]
        refine' hw_take 1 (some 18) _ rfl rfl (by kernel_rfl) (by kernel_rfl) (by kernel_rfl) (fun _ _ _ h => h) (by rfl) hH ?hy7 ?rest7
        case hy7 =>
          intro X hX
          go_simp
          try rfl
        simp only [Act.put, List.setIfInBounds_toArray, List.set_cons_zero, List.set_cons_succ]
        refine' hw_take 2 (some 19) _ rfl rfl (by kernel_rfl) (by kernel_rfl) (by kernel_rfl) (fun _ _ _ h => h) (by rfl) hH ?hy8 ?rest8
        case hy8 =>
          intro X hX
          go_simp
          try rfl
        simp only [Act.put, List.setIfInBounds_toArray, List.set_cons_zero, List.set_cons_succ]
        refine' hw_take 3 (some 20) _ rfl rfl (by kernel_rfl) (by kernel_rfl) (by kernel_rfl) (fun _ _ _ h => h) (by rfl) hH ?hy9 ?rest9
        case hy9 =>
          intro X hX
          go_simp
          try rfl
        simp only [Act.put, List.setIfInBounds_toArray, List.set_cons_zero, List.set_cons_succ]
        refine' hw_take 4 (some 21) _ rfl rfl (by kernel_rfl) (by kernel_rfl) (by kernel_rfl) (fun _ _ _ h => h) (by rfl) hH ?hy10 ?rest10
        case hy10 =>
          intro X hX
          go_simp
          try rfl
        simp only [Act.put, List.setIfInBounds_toArray, List.set_cons_zero, List.set_cons_succ]
        refine' hw_take 5 (some 22) _ rfl rfl (by kernel_rfl) (by kernel_rfl) (by kernel_rfl) (fun _ _ _ h => h) (by rfl) hH ?hy11 ?rest11
        case hy11 =>
          intro X hX
          have cRX := (bR4.new hX).cells
          go_simp
          try rfl
        simp only [Act.put, List.setIfInBounds_toArray, List.set_cons_zero, List.set_cons_succ]
        refine' hw_take 6 (some 23) _ rfl rfl (by kernel_rfl) (by kernel_rfl) (by kernel_rfl) (fun _ _ _ h => h) (by rfl) hH ?hy12 ?rest12
        case hy12 =>
          intro X hX
          have cTX := (bT4.new hX).cells
          go_simp
          try rfl
        simp only [Act.put, List.setIfInBounds_toArray, List.set_cons_zero, List.set_cons_succ]
        refine' hw_take 7 (some 24) _ rfl rfl (by kernel_rfl) (by kernel_rfl) (by kernel_rfl) (fun _ _ _ h => h) (by rfl) hH ?hy13 ?rest13
        case hy13 =>
          intro X hX
          have cTX := (bT4.new hX).cells
          go_simp
          try rfl
        simp only [Act.put, List.setIfInBounds_toArray, List.set_cons_zero, List.set_cons_succ]
        refine' hw_take 8 (some 25) _ rfl rfl (by kernel_rfl) (by kernel_rfl) (by kernel_rfl) (fun _ _ _ h => h) (by rfl) hH ?hy14 ?rest14
        case hy14 =>
          intro X hX
          go_simp
          try rfl
        simp only [Act.put, List.setIfInBounds_toArray, List.set_cons_zero, List.set_cons_succ]
        refine' hw_take 9 (some 26) _ rfl rfl (by kernel_rfl) (by kernel_rfl) (by kernel_rfl) (fun _ _ _ h => h) (by rfl) hH ?hy15 ?rest15
        case hy15 =>
          intro X hX
          go_simp
          try rfl
        simp only [Act.put, List.setIfInBounds_toArray, List.set_cons_zero, List.set_cons_succ]
        refine' hw_take 10 (some 27) _ rfl rfl (by kernel_rfl) (by kernel_rfl) (by kernel_rfl) (fun _ _ _ h => h) (by rfl) hH ?hy16 ?rest16
        case hy16 =>
          intro X hX
          go_simp
          try rfl
        simp only [Act.put, List.setIfInBounds_toArray, List.set_cons_zero, List.set_cons_succ]
        refine' hw_take 11 (some 28) _ rfl rfl (by kernel_rfl) (by kernel_rfl) (by kernel_rfl) (fun _ _ _ h => h) (by rfl) hH ?hy17 ?rest17
        case hy17 =>
          intro X hX
          go_simp
          try rfl
        simp only [Act.put, List.setIfInBounds_toArray, List.set_cons_zero, List.set_cons_succ]
        refine' hw_take 12 (some 29) _ rfl rfl (by kernel_rfl) (by kernel_rfl) (by kernel_rfl) (fun _ _ _ h => h) (by rfl) hH ?hy18 ?rest18
        case hy18 =>
          intro X hX
          have y1X := (hX.below.cell (World.block_lt_of_cell? _ _ y1)).trans y1
          have y2X := (hX.below.cell (World.block_lt_of_cell? _ _ y2)).trans y2
          go_simp
          try rfl
        simp only [Act.put, List.setIfInBounds_toArray, List.set_cons_zero, List.set_cons_succ]
        refine' hw_take 13 (some 30) _ rfl rfl (by kernel_rfl) (by kernel_rfl) (by kernel_rfl) (fun _ _ _ h => h) (by rfl) hH ?hy19 ?rest19
        case hy19 =>
          intro X hX
          go_simp
          try rfl
        simp only [Act.put, List.setIfInBounds_toArray, List.set_cons_zero, List.set_cons_succ]
        refine' hw_take 14 (some 31) _ rfl rfl (by kernel_rfl) (by kernel_rfl) (by kernel_rfl) (fun _ _ _ h => h) (by rfl) hH ?hy20 ?rest20
        case hy20 =>
          intro X hX
          go_simp
          try rfl
        simp only [Act.put, List.setIfInBounds_toArray, List.set_cons_zero, List.set_cons_succ]
        refine wpAnyH_done (by kernel_rfl) ?_ _
        generalize W5.drew = W6 at *
        have row6 := row_turn7 row5 dd (fun _ _ f => f)
        have b6 := b5.new dd
        have bT6 := bT4.new dd
        have bR6 := bR4.new dd
        have hp6 := hp5.new dd
        have lt6 : W5.heap.size ≤ W6.heap.size := dd.size
        have hl6 := (dd.block _ lt5 (fun f => f)).trans hl4
        have hd6 := (dd.block _ (by omega) (fun f => f)).trans hd4
        have bL := Blk.mk W6 W6.heap.size 35 #[.int .i64 p, .int .i64 a, .int .i64 l, .int .i64 o, .slice x xs.length d, .int .i64 nx, .int .i64 md, .int .i64 lc] rfl
        have aL := (New.refl W6).alloc (.cells #[.int .i64 p, .int .i64 a, .int .i64 l, .int .i64 o, .slice x xs.length d, .int .i64 nx, .int .i64 md, .int .i64 lc] 35)
        have row7 := row_turn7 row6 aL (fun _ _ f => f)
        have hszA : W1.heap.size ≤ (W6.alloc (.cells #[.int .i64 p, .int .i64 a, .int .i64 l, .int .i64 o, .slice x xs.length d, .int .i64 nx, .int .i64 md, .int .i64 lc] 35)).heap.size := by have := aL.size; omega
        have hsrc : ∀ j, (W6.alloc (.cells #[.int .i64 p, .int .i64 a, .int .i64 l, .int .i64 o, .slice x xs.length d, .int .i64 nx, .int .i64 md, .int .i64 lc] 35)).cell? ⟨W6.heap.size, j, none⟩ = (Rv.mk (Rt.mk p a l o xs nx md lc) x d).cs[j]? := by
          intro j
          rw [bL.cells j]
          unfold Rv.cs
          simp
        have hle8 : (U : List Rv).length + 1 ≤ 4194304 := by have e1 := HTOP.out.len; have e2 := HPL.out; have e3 := HV4L.out; simp only [List.length_map, List.length_append, List.length_singleton] at e1; omega
        have cT6 := bT6.cells
        have cR6 := bR6.cells
        have own7 : ∀ k, (Value.slice (some ⟨g, 0, none⟩) (U : List Rv).length cU).ownBlock = some k → W1.heap.size ≤ k := fun k hk => (row_rng7 row7 k hk).1
        gi_wp2_with (gi_at_builtin; refine wpListIn_apT8 _ rfl (.tmp 32) (.tmp 34) rfl W1.heap.size _ Try.underlying24 hi hz0 hz1 hz2 rfl _ U rfl row7 W6.heap.size (Rv.mk (Rt.mk p a l o xs nx md lc) x d) rfl hsrc hle8 hszA ?_)
        intro v5 w5 hr5 hg5 _
        replace hr5 : w5.ownsRow W1.heap.size 35 8 v5 (U ++ [Rv.mk (Rt.mk p a l o xs nx md lc) x d]).length (cellsT (U ++ [Rv.mk (Rt.mk p a l o xs nx md lc) x d])) := by first | exact hr5 | (rw [hsz]; exact hr5) | (rw [List.length_append, hsz]; exact hr5) | (rw [hsz]; simpa using hr5)
        obtain ⟨g5, c5, rfl⟩ : ∃ g5 c5, v5 = (.slice (some ⟨g5, 0, none⟩) (U.length + 1) c5) := by
          rcases row_form7 hr5 with ⟨-, e⟩ | ⟨g5, c5, e, -⟩
          · exact absurd e (by simp)
          · exact ⟨g5, c5, by rw [e]; simp⟩
        have tA := turn_of_grown8 hg5
        have ltA : W6.heap.size ≤ w5.heap.size := by have := aL.size; have := tA.size; omega
        have b8 := (b6.new aL).turn tA (fun e => by have := own7 _ e; omega)
        have bT8 := (bT6.new aL).turn tA (fun e => by have := own7 _ e; omega)
        have hl8 := (tA.block _ (by have := aL.size; omega) (fun e => by have := own7 _ e; omega)).trans ((aL.block _ (by omega) (fun f => f)).trans hl6)
        have hd8 := (tA.block _ (by have := aL.size; omega) (fun e => by have := own7 _ e; omega)).trans ((aL.block _ (by omega) (fun f => f)).trans hd6)
        have hp8 := (hp6.new aL).turn8 tA (fun e => by have := own7 _ e; omega) (fun e => by have := own7 _ e; omega) (fun v hv y h1 h2 e => by have := HFR.out v hv y h1 h2; have := own7 _ e; omega)
        have tY := Turn.trans (Turn.trans (Turn.trans tx dd.turn (fun _ _ e => e)) aL.turn (fun _ _ e => e)) tA (fun k _ e => .inr (by have := own7 _ e; omega))
        clear row7 hsrc own7 row6 row5 hg5
        have cT8 := bT8.cells
        have fT8 := bT8.frees
        gi_wp2
        have tS : Turn (fun k => k = w1.heap.size) w5 (w5.setCell ⟨w1.heap.size, 0, none⟩ (.slice (some ⟨g5, 0, none⟩) (U.length + 1) c5)) := Turn.set (S := fun k => k = w1.heap.size) (Turn.refl (fun k => k = w1.heap.size) w5) rfl (.slice (some ⟨g5, 0, none⟩) (U.length + 1) c5)
        have rng5 := row_rng7 hr5
        have hl9 := (tS.block _ (by omega) (by omega)).trans hl8
        have hfin := HFIN.out _ (U ++ [Rv.mk (Rt.mk p a l o xs nx md lc) x d]) (.slice (some ⟨g5, 0, none⟩) (U.length + 1) c5) hl9 ((tS.block _ (by omega) (by omega)).trans hd8) (b8.turn tS (by omega)) (Turn.trans tY tS (fun k _ e => .inl e)) (bT8.set 0 (.slice (some ⟨g5, 0, none⟩) (U.length + 1) c5)) (row_turn7 hr5 tS (fun k hk e => by have := rng5 k hk; omega)) HTOP.out (fun v hv => (List.mem_append.1 hv).elim (fun hv => HJ8.out v hv) (fun hv => by obtain rfl := List.mem_singleton.1 hv; exact HX.out)) (by have e1 := HTOP.out.len; have e2 := HPL.out; simp only [List.length_map, List.length_append, List.length_singleton] at e1 ⊢; omega) (hp8.turn8 tS (fun e => HHX.out.1 e) (fun e => HHX.out.2 e) (fun v hv y h1 h2 e => by have := HFR.out v hv y h1 h2; omega))
        obtain ⟨⟨f1, f2, f3, f4, u9, U9, f5, f6, f7, f8, f9⟩, f10⟩ := hfin
        refine ⟨_, _, HEND.out _ hl9, rfl, ?_⟩
        exact ⟨⟨f1, f2, f3, f4, u9, f5, U9, (by first | exact f6 | (rw [← hsz]; exact f6)), f7, f8, f9⟩, f10⟩
      case pos =>
        subst ha
        by_cases hl : l = l'
        case neg =>
          have HTOP : Hid (TopOk (pre ++ [Rv.mk (Rt.mk p a l o xs nx md lc) x d]) ((U ++ [Rv.mk (Rt.mk p a l o xs nx md lc) x d]).map Rv.r)) := by
            unfold Hid
            rw [List.map_append]
            refine HJ7.out.new HXY.out (fun r hr e => ?_)
            rw [List.getLast?_map, HLAST.out] at hr
            obtain rfl := Option.some.inj hr
            exact hl e.2
          clear hog hv'
          refine' hw_take 0 (some 17) _ rfl rfl (by kernel_rfl) (by kernel_rfl) (by kernel_rfl) (fun _ _ _ h => h) (by rfl) hH ?hy21 ?rest21
          case hy21 =>
            intro X hX
            have cTX := (bT4.new hX).cells
            go_simp
            try rfl
          simp only [Act.put, List.setIfInBounds_toArray, List.set_cons_zero, List.set_cons_succ]
          refine' hw_take 1 (some 18) _ rfl rfl (by kernel_rfl) (by kernel_rfl) (by kernel_rfl) (fun _ _ _ h => h) (by rfl) hH ?hy22 ?rest22
          case hy22 =>
            intro X hX
            go_simp
            try rfl
          simp only [Act.put, List.setIfInBounds_toArray, List.set_cons_zero, List.set_cons_succ]
          refine' hw_take 2 (some 19) _ rfl rfl (by kernel_rfl) (by kernel_rfl) (by kernel_rfl) (fun _ _ _ h => h) (by rfl) hH ?hy23 ?rest23
          case hy23 =>
            intro X hX
            go_simp
            try rfl
          simp only [Act.put, List.setIfInBounds_toArray, List.set_cons_zero, List.set_cons_succ]
          refine' hw_take 3 (some 20) _ rfl rfl (by kernel_rfl) (by kernel_rfl) (by kernel_rfl) (fun _ _ _ h => h) (by rfl) hH ?hy24 ?rest24
          case hy24 =>
            intro X hX
            go_simp
            try rfl
          simp only [Act.put, List.setIfInBounds_toArray, List.set_cons_zero, List.set_cons_succ]
          refine' hw_take 4 (some 21) _ rfl rfl (by kernel_rfl) (by kernel_rfl) (by kernel_rfl) (fun _ _ _ h => h) (by rfl) hH ?hy25 ?rest25
          case hy25 =>
            intro X hX
            go_simp
            try rfl
          simp only [Act.put, List.setIfInBounds_toArray, List.set_cons_zero, List.set_cons_succ]
          refine' hw_take 5 (some 22) _ rfl rfl (by kernel_rfl) (by kernel_rfl) (by kernel_rfl) (fun _ _ _ h => h) (by rfl) hH ?hy26 ?rest26
          case hy26 =>
            intro X hX
            have cRX := (bR4.new hX).cells
            go_simp
            try rfl
          simp only [Act.put, List.setIfInBounds_toArray, List.set_cons_zero, List.set_cons_succ]
          refine' hw_take 6 (some 23) _ rfl rfl (by kernel_rfl) (by kernel_rfl) (by kernel_rfl) (fun _ _ _ h => h) (by rfl) hH ?hy27 ?rest27
          case hy27 =>
            intro X hX
            have cTX := (bT4.new hX).cells
            go_simp
            try rfl
          simp only [Act.put, List.setIfInBounds_toArray, List.set_cons_zero, List.set_cons_succ]
          refine' hw_take 7 (some 24) _ rfl rfl (by kernel_rfl) (by kernel_rfl) (by kernel_rfl) (fun _ _ _ h => h) (by rfl) hH ?hy28 ?rest28
          case hy28 =>
            intro X hX
            have cTX := (bT4.new hX).cells
            go_simp
            try rfl
          simp only [Act.put, List.setIfInBounds_toArray, List.set_cons_zero, List.set_cons_succ]
          refine' hw_take 8 (some 25) _ rfl rfl (by kernel_rfl) (by kernel_rfl) (by kernel_rfl) (fun _ _ _ h => h) (by rfl) hH ?hy29 ?rest29
          case hy29 =>
            intro X hX
            go_simp
            try rfl
          simp only [Act.put, List.setIfInBounds_toArray, List.set_cons_zero, List.set_cons_succ]
          refine' hw_take 9 (some 26) _ rfl rfl (by kernel_rfl) (by kernel_rfl) (by kernel_rfl) (fun _ _ _ h => h) (by rfl) hH ?hy30 ?rest30
          case hy30 =>
            intro X hX
            go_simp
            try rfl
          simp only [Act.put, List.setIfInBounds_toArray, List.set_cons_zero, List.set_cons_succ]
          refine' hw_take 10 (some 27) _ rfl rfl (by kernel_rfl) (by kernel_rfl) (by kernel_rfl) (fun _ _ _ h => h) (by rfl) hH ?hy31 ?rest31
          case hy31 =>
            intro X hX
            go_simp
            try rfl
          simp only [Act.put, List.setIfInBounds_toArray, List.set_cons_zero, List.set_cons_succ]
          refine' hw_take 11 (some 28) _ rfl rfl (by kernel_rfl) (by kernel_rfl) (by kernel_rfl) (fun _ _ _ h => h) (by rfl) hH ?hy32 ?rest32
          case hy32 =>
            intro X hX
            go_simp
            try rfl
          simp only [Act.put, List.setIfInBounds_toArray, List.set_cons_zero, List.set_cons_succ]
          refine' hw_take 12 (some 29) _ rfl rfl (by kernel_rfl) (by kernel_rfl) (by kernel_rfl) (fun _ _ _ h => h) (by rfl) hH ?hy33 ?rest33
          case hy33 =>
            intro X hX
            have y1X := (hX.below.cell (World.block_lt_of_cell? _ _ y1)).trans y1
            have y2X := (hX.below.cell (World.block_lt_of_cell? _ _ y2)).trans y2
            go_simp
            try rfl
          simp only [Act.put, List.setIfInBounds_toArray, List.set_cons_zero, List.set_cons_succ]
          refine' hw_take 13 (some 30) _ rfl rfl (by kernel_rfl) (by kernel_rfl) (by kernel_rfl) (fun _ _ _ h => h) (by rfl) hH ?hy34 ?rest34
          case hy34 =>
            intro X hX
            go_simp
            try rfl
          simp only [Act.put, List.setIfInBounds_toArray, List.set_cons_zero, List.set_cons_succ]
          refine' hw_take 14 (some 31) _ rfl rfl (by kernel_rfl) (by kernel_rfl) (by kernel_rfl) (fun _ _ _ h => h) (by rfl) hH ?hy35 ?rest35
          case hy35 =>
            intro X hX
            go_simp
            try rfl
          simp only [Act.put, List.setIfInBounds_toArray, List.set_cons_zero, List.set_cons_succ]
          refine wpAnyH_done (by kernel_rfl) ?_ _
          generalize W5.drew = W6 at *
          have row6 := row_turn7 row5 dd (fun _ _ f => f)
          have b6 := b5.new dd
          have bT6 := bT4.new dd
          have bR6 := bR4.new dd
          have hp6 := hp5.new dd
          have lt6 : W5.heap.size ≤ W6.heap.size := dd.size
          have hl6 := (dd.block _ lt5 (fun f => f)).trans hl4
          have hd6 := (dd.block _ (by omega) (fun f => f)).trans hd4
          have bL := Blk.mk W6 W6.heap.size 35 #[.int .i64 p, .int .i64 a, .int .i64 l, .int .i64 o, .slice x xs.length d, .int .i64 nx, .int .i64 md, .int .i64 lc] rfl
          have aL := (New.refl W6).alloc (.cells #[.int .i64 p, .int .i64 a, .int .i64 l, .int .i64 o, .slice x xs.length d, .int .i64 nx, .int .i64 md, .int .i64 lc] 35)
          have row7 := row_turn7 row6 aL (fun _ _ f => f)
          have hszA : W1.heap.size ≤ (W6.alloc (.cells #[.int .i64 p, .int .i64 a, .int .i64 l, .int .i64 o, .slice x xs.length d, .int .i64 nx, .int .i64 md, .int .i64 lc] 35)).heap.size := by have := aL.size; omega
          have hsrc : ∀ j, (W6.alloc (.cells #[.int .i64 p, .int .i64 a, .int .i64 l, .int .i64 o, .slice x xs.length d, .int .i64 nx, .int .i64 md, .int .i64 lc] 35)).cell? ⟨W6.heap.size, j, none⟩ = (Rv.mk (Rt.mk p a l o xs nx md lc) x d).cs[j]? := by
            intro j
            rw [bL.cells j]
            unfold Rv.cs
            simp
          have hle8 : (U : List Rv).length + 1 ≤ 4194304 := by have e1 := HTOP.out.len; have e2 := HPL.out; have e3 := HV4L.out; simp only [List.length_map, List.length_append, List.length_singleton] at e1; omega
          have cT6 := bT6.cells
          have cR6 := bR6.cells
          have own7 : ∀ k, (Value.slice (some ⟨g, 0, none⟩) (U : List Rv).length cU).ownBlock = some k → W1.heap.size ≤ k := fun k hk => (row_rng7 row7 k hk).1
          gi_wp2_with (gi_at_builtin; refine wpListIn_apT8 _ rfl (.tmp 32) (.tmp 34) rfl W1.heap.size _ Try.underlying24 hi hz0 hz1 hz2 rfl _ U rfl row7 W6.heap.size (Rv.mk (Rt.mk p a l o xs nx md lc) x d) rfl hsrc hle8 hszA ?_)
          intro v5 w5 hr5 hg5 _
          replace hr5 : w5.ownsRow W1.heap.size 35 8 v5 (U ++ [Rv.mk (Rt.mk p a l o xs nx md lc) x d]).length (cellsT (U ++ [Rv.mk (Rt.mk p a l o xs nx md lc) x d])) := by first | exact hr5 | (rw [hsz]; exact hr5) | (rw [List.length_append, hsz]; exact hr5) | (rw [hsz]; simpa using hr5)
          obtain ⟨g5, c5, rfl⟩ : ∃ g5 c5, v5 = (.slice (some ⟨g5, 0, none⟩) (U.length + 1) c5) := by
            rcases row_form7 hr5 with ⟨-, e⟩ | ⟨g5, c5, e, -⟩
            · exact absurd e (by simp)
            · exact ⟨g5, c5, by rw [e]; simp⟩
          have tA := turn_of_grown8 hg5
          have ltA : W6.heap.size ≤ w5.heap.size := by have := aL.size; have := tA.size; omega
          have b8 := (b6.new aL).turn tA (fun e => by have := own7 _ e; omega)
          have bT8 := (bT6.new aL).turn tA (fun e => by have := own7 _ e; omega)
          have hl8 := (tA.block _ (by have := aL.size; omega) (fun e => by have := own7 _ e; omega)).trans ((aL.block _ (by omega) (fun f => f)).trans hl6)
          have hd8 := (tA.block _ (by have := aL.size; omega) (fun e => by have := own7 _ e; omega)).trans ((aL.block _ (by omega) (fun f => f)).trans hd6)
          have hp8 := (hp6.new aL).turn8 tA (fun e => by have := own7 _ e; omega) (fun e => by have := own7 _ e; omega) (fun v hv y h1 h2 e => by have := HFR.out v hv y h1 h2; have := own7 _ e; omega)
          have tY := Turn.trans (Turn.trans (Turn.trans tx dd.turn (fun _ _ e => e)) aL.turn (fun _ _ e => e)) tA (fun k _ e => .inr (by have := own7 _ e; omega))
          clear row7 hsrc own7 row6 row5 hg5
          have cT8 := bT8.cells
          have fT8 := bT8.frees
          gi_wp2
          have tS : Turn (fun k => k = w1.heap.size) w5 (w5.setCell ⟨w1.heap.size, 0, none⟩ (.slice (some ⟨g5, 0, none⟩) (U.length + 1) c5)) := Turn.set (S := fun k => k = w1.heap.size) (Turn.refl (fun k => k = w1.heap.size) w5) rfl (.slice (some ⟨g5, 0, none⟩) (U.length + 1) c5)
          have rng5 := row_rng7 hr5
          have hl9 := (tS.block _ (by omega) (by omega)).trans hl8
          have hfin := HFIN.out _ (U ++ [Rv.mk (Rt.mk p a l o xs nx md lc) x d]) (.slice (some ⟨g5, 0, none⟩) (U.length + 1) c5) hl9 ((tS.block _ (by omega) (by omega)).trans hd8) (b8.turn tS (by omega)) (Turn.trans tY tS (fun k _ e => .inl e)) (bT8.set 0 (.slice (some ⟨g5, 0, none⟩) (U.length + 1) c5)) (row_turn7 hr5 tS (fun k hk e => by have := rng5 k hk; omega)) HTOP.out (fun v hv => (List.mem_append.1 hv).elim (fun hv => HJ8.out v hv) (fun hv => by obtain rfl := List.mem_singleton.1 hv; exact HX.out)) (by have e1 := HTOP.out.len; have e2 := HPL.out; simp only [List.length_map, List.length_append, List.length_singleton] at e1 ⊢; omega) (hp8.turn8 tS (fun e => HHX.out.1 e) (fun e => HHX.out.2 e) (fun v hv y h1 h2 e => by have := HFR.out v hv y h1 h2; omega))
          obtain ⟨⟨f1, f2, f3, f4, u9, U9, f5, f6, f7, f8, f9⟩, f10⟩ := hfin
          refine ⟨_, _, HEND.out _ hl9, rfl, ?_⟩
          exact ⟨⟨f1, f2, f3, f4, u9, f5, U9, (by first | exact f6 | (rw [← hsz]; exact f6)), f7, f8, f9⟩, f10⟩
        case pos =>
          subst hl
          have HSM : Hid (TopOk (pre ++ [Rv.mk (Rt.mk p a l o xs nx md lc) x d]) (U.map Rv.r)) := HJ7.out.same (r := ⟨p', a, l, o', xs', nx', md', lc'⟩) HXY.out (by rw [List.getLast?_map, HLAST.out]; rfl) rfl rfl
          clear hog hv'
          refine' hw_take 0 (some 17) _ rfl rfl (by kernel_rfl) (by kernel_rfl) (by kernel_rfl) (fun _ _ _ h => h) (by rfl) hH ?hy36 ?rest36
          case hy36 =>
            intro X hX
            have cTX := (bT4.new hX).cells
            go_simp
            try rfl
          simp only [Act.put, List.setIfInBounds_toArray, List.set_cons_zero, List.set_cons_succ]
          refine' hw_take 1 (some 18) _ rfl rfl (by kernel_rfl) (by kernel_rfl) (by kernel_rfl) (fun _ _ _ h => h) (by rfl) hH ?hy37 ?rest37
          case hy37 =>
            intro X hX
            go_simp
            try rfl
          simp only [Act.put, List.setIfInBounds_toArray, List.set_cons_zero, List.set_cons_succ]
          refine' hw_take 2 (some 19) _ rfl rfl (by kernel_rfl) (by kernel_rfl) (by kernel_rfl) (fun _ _ _ h => h) (by rfl) hH ?hy38 ?rest38
          case hy38 =>
            intro X hX
            go_simp
            try rfl
          simp only [Act.put, List.setIfInBounds_toArray, List.set_cons_zero, List.set_cons_succ]
          refine' hw_take 3 (some 20) _ rfl rfl (by kernel_rfl) (by kernel_rfl) (by kernel_rfl) (fun _ _ _ h => h) (by rfl) hH ?hy39 ?rest39
          case hy39 =>
            intro X hX
            go_simp
            try rfl
          simp only [Act.put, List.setIfInBounds_toArray, List.set_cons_zero, List.set_cons_succ]
          refine' hw_take 4 (some 21) _ rfl rfl (by kernel_rfl) (by kernel_rfl) (by kernel_rfl) (fun _ _ _ h => h) (by rfl) hH ?hy40 ?rest40
          case hy40 =>
            intro X hX
            go_simp
            try rfl
          simp only [Act.put, List.setIfInBounds_toArray, List.set_cons_zero, List.set_cons_succ]
          refine' hw_take 5 (some 22) _ rfl rfl (by kernel_rfl) (by kernel_rfl) (by kernel_rfl) (fun _ _ _ h => h) (by rfl) hH ?hy41 ?rest41
          case hy41 =>
            intro X hX
            have cRX := (bR4.new hX).cells
            go_simp
            try rfl
          simp only [Act.put, List.setIfInBounds_toArray, List.set_cons_zero, List.set_cons_succ]
          refine' hw_take 6 (some 23) _ rfl rfl (by kernel_rfl) (by kernel_rfl) (by kernel_rfl) (fun _ _ _ h => h) (by rfl) hH ?hy42 ?rest42
          case hy42 =>
            intro X hX
            have cTX := (bT4.new hX).cells
            go_simp
            try rfl
          simp only [Act.put, List.setIfInBounds_toArray, List.set_cons_zero, List.set_cons_succ]
          refine' hw_take 7 (some 24) _ rfl rfl (by kernel_rfl) (by kernel_rfl) (by kernel_rfl) (fun _ _ _ h => h) (by rfl) hH ?hy43 ?rest43
          case hy43 =>
            intro X hX
            have cTX := (bT4.new hX).cells
            go_simp
            try rfl
          simp only [Act.put, List.setIfInBounds_toArray, List.set_cons_zero, List.set_cons_succ]
          refine' hw_take 8 (some 25) _ rfl rfl (by kernel_rfl) (by kernel_rfl) (by kernel_rfl) (fun _ _ _ h => h) (by rfl) hH ?hy44 ?rest44
          case hy44 =>
            intro X hX
            go_simp
            try rfl
          simp only [Act.put, List.setIfInBounds_toArray, List.set_cons_zero, List.set_cons_succ]
          refine' hw_take 9 (some 26) _ rfl rfl (by kernel_rfl) (by kernel_rfl) (by kernel_rfl) (fun _ _ _ h => h) (by rfl) hH ?hy45 ?rest45
          case hy45 =>
            intro X hX
            go_simp
            try rfl
          simp only [Act.put, List.setIfInBounds_toArray, List.set_cons_zero, List.set_cons_succ]
          refine' hw_take 10 (some 27) _ rfl rfl (by kernel_rfl) (by kernel_rfl) (by kernel_rfl) (fun _ _ _ h => h) (by rfl) hH ?hy46 ?rest46
          case hy46 =>
            intro X hX
            go_simp
            try rfl
          simp only [Act.put, List.setIfInBounds_toArray, List.set_cons_zero, List.set_cons_succ]
          refine' hw_take 11 (some 28) _ rfl rfl (by kernel_rfl) (by kernel_rfl) (by kernel_rfl) (fun _ _ _ h => h) (by rfl) hH ?hy47 ?rest47
          case hy47 =>
            intro X hX
            go_simp
            try rfl
          simp only [Act.put, List.setIfInBounds_toArray, List.set_cons_zero, List.set_cons_succ]
          refine' hw_take 12 (some 29) _ rfl rfl (by kernel_rfl) (by kernel_rfl) (by kernel_rfl) (fun _ _ _ h => h) (by rfl) hH ?hy48 ?rest48
          case hy48 =>
            intro X hX
            have y1X := (hX.below.cell (World.block_lt_of_cell? _ _ y1)).trans y1
            have y2X := (hX.below.cell (World.block_lt_of_cell? _ _ y2)).trans y2
            go_simp
            try rfl
          simp only [Act.put, List.setIfInBounds_toArray, List.set_cons_zero, List.set_cons_succ]
          refine' hw_take 13 (some 30) _ rfl rfl (by kernel_rfl) (by kernel_rfl) (by kernel_rfl) (fun _ _ _ h => h) (by rfl) hH ?hy49 ?rest49
          case hy49 =>
            intro X hX
            go_simp
            try rfl
          simp only [Act.put, List.setIfInBounds_toArray, List.set_cons_zero, List.set_cons_succ]
          refine' hw_take 14 (some 31) _ rfl rfl (by kernel_rfl) (by kernel_rfl) (by kernel_rfl) (fun _ _ _ h => h) (by rfl) hH ?hy50 ?rest50
          case hy50 =>
            intro X hX
            go_simp
            try rfl
          simp only [Act.put, List.setIfInBounds_toArray, List.set_cons_zero, List.set_cons_succ]
          refine wpAnyH_done (by kernel_rfl) ?_ _
          generalize W5.drew = W6 at *
          have row6 := row_turn7 row5 dd (fun _ _ f => f)
          have lt6 : W5.heap.size ≤ W6.heap.size := dd.size
          have hl6 := (dd.block _ lt5 (fun f => f)).trans hl4
          have hd6 := (dd.block _ (by omega) (fun f => f)).trans hd4
          gi_wp2
          have hfin := HFIN.out _ U _ hl6 hd6 (b5.new dd) (Turn.trans tx dd.turn (fun _ _ e => e)) (bT4.new dd) row6 HSM.out HJ8.out j9 (hp5.new dd)
          obtain ⟨⟨f1, f2, f3, f4, u9, U9, f5, f6, f7, f8, f9⟩, f10⟩ := hfin
          refine ⟨_, _, HEND.out _ hl6, rfl, ?_⟩
          exact ⟨⟨f1, f2, f3, f4, u9, f5, U9, (by first | exact f6 | (rw [← hsz]; exact f6)), f7, f8, f9⟩, f10⟩
  case behind =>
    rintro e W2 ⟨he, ys, hys, hyp, j1, j2, j3, j4, u, U, j5, j6, j7, j8, j9⟩
    obtain ⟨A5, c5, hu5⟩ : ∃ A5 c5, u = .slice A5 U.length c5 := by
      rcases row_form7 j6 with ⟨e1, e2⟩ | ⟨g, c2, e1, -⟩
      · subst e2
        exact ⟨none, 0, e1⟩
      · exact ⟨_, _, e1⟩
    subst hu5
    have HALL : Hid (AllOk (V.map Rv.r) (U.map Rv.r)) := by
      have e1 := j7.done (hys.trans hp4)
      rw [HV3.out] at e1
      exact e1
    have HPK : Hid (∀ {lo hi : Nat} {X : World}, PathsT X lo hi V' → PathsT X lo hi U) := fun h => h.pick (fun v hv => hp4.mem_iff.1 (j8 v hv)) j7.srt
    have s4 := j4.size
    refine ⟨he, .ready, none, by simp, by subst hrec; exact j1, j2, ?_⟩
    rintro W3 rfl
    have g1 : w4.heap.size + 1 < W2.heap.size := (Array.getElem?_eq_some_iff.1 j1).1
    have b5 : Blk (W2.putObj (w4.heap.size + 1) (.loop { rec with state := .exhausted, pending := none })) w.heap.size 27 #[.int .i64 0, .slice none 0 0] := (World.putObj_heap_other (by omega)).trans j3
    have bT5 : Blk (W2.putObj (w4.heap.size + 1) (.loop { rec with state := .exhausted, pending := none })) w1.heap.size 24 #[.slice A5 U.length c5] := (World.putObj_heap_other (by omega)).trans j5
    have d5 : (W2.putObj (w4.heap.size + 1) (.loop { rec with state := .exhausted, pending := none })).heap[w4.heap.size]? = some (.deferred (some [])) := (World.putObj_heap_other (by omega)).trans j2
    have tl := turn_of_grown8 (grownBy_putObj' W2 (w4.heap.size + 1) (.loop { rec with state := .exhausted, pending := none }))
    have row5 := row_turn7 j6 tl (fun k hk e => by have h1 := (row_rng7 j6 k hk).1; have h2 := Option.some.inj e; omega)
    clear j1 j2 j3 j5 j6 j7 j8
    generalize W2.putObj (w4.heap.size + 1) (.loop { rec with state := .exhausted, pending := none }) = W5 at *
    have c5' := b5.cells
    have f5 := b5.frees
    have cT5 := bT5.cells
    gi_wp2
    have t6 := two8t W5 w.heap.size 0 1 (.int .i64 0) (.slice A5 U.length c5)
    have b6 : Blk ((W5.setCell ⟨w.heap.size, 0, none⟩ (.int .i64 0)).setCell ⟨w.heap.size, 1, none⟩ (.slice A5 U.length c5)) w.heap.size 27 #[.int .i64 0, .slice A5 U.length c5] := (b5.set 0 (.int .i64 0)).set 1 (.slice A5 U.length c5)
    have lt5 : w4.heap.size < W5.heap.size := (Array.getElem?_eq_some_iff.1 d5).1
    have hK6 := (t6.block w4.heap.size lt5 (by omega)).trans d5
    have row6 := row_turn7 row5 t6 (fun k hk e => by have h1 := (row_rng7 row5 k hk).1; omega)
    generalize ((W5.setCell ⟨w.heap.size, 0, none⟩ (.int .i64 0)).setCell ⟨w.heap.size, 1, none⟩ (.slice A5 U.length c5)) = W6 at *
    have tp := turn_of_grown8 (grownBy_putObj' W6 w4.heap.size (.deferred none))
    have b7 := b6.turn tp (by intro e; have := Option.some.inj e; omega)
    have row7 := row_turn7 row6 tp (fun k hk e => by have h1 := (row_rng7 row6 k hk).1; have h2 := Option.some.inj e; omega)
    have cF := b7.cells
    refine ⟨by simp, .inl ⟨_, _, rfl, run_takeDeferred hK6, ?_⟩⟩
    refine ⟨.agg #[.int .i64 0, .slice A5 U.length c5], by simp [results, Try.results6, go_sem, cF], ?_⟩
    have TT : Turn (fun k => k = w.heap.size ∨ k = w1.heap.size ∨ w3.heap.size ≤ k) w3 (W6.putObj w4.heap.size (.deferred none)) := by
      refine Turn.trans (Turn.trans (Turn.trans (Turn.trans H4.out.turn j4 (fun k _ e => ?_)) tl (fun k _ e => ?_)) t6 (fun k _ e => ?_)) tp (fun k _ e => ?_)
      · omega
      · have := Option.some.inj e; omega
      · omega
      · have := Option.some.inj e; omega
    have hpt := HPK.out (ho3.path.turn TT (fun k h1 h2 e => by omega))
    have sz7 := TT.size
    exact ⟨0, A5, U.length, c5, U, .inr ⟨HFA.out, rfl, HALL.out⟩, rfl, rfl, (OwT.of_row row7 (by omega) hpt sz7).low8 (by omega), Turn.mono (Turn.trans n3.turn TT (fun _ _ e => e)) (fun k h1 h2 => by omega)⟩

end Go.Proofs.Ytjampcfikfafkaa

namespace Go.Proofs.Ytjampcfikfafkaa
open Go.RowKit Go.Sort
set_option linter.unusedVariables false
set_option linter.unusedSimpArgs false
set_option maxRecDepth 100000

theorem AlA.len {R U : List Rt} {z : Int} (h : AlA R z U) : U.length ≤ R.length := by
  rcases h with ⟨-, -, rfl⟩ | ⟨-, -, h⟩
  · exact Nat.zero_le _
  · exact pair_len U R h.srt (fun x hx => (h.best x hx).mem)

set_option maxHeartbeats 6400000 in
theorem implAll (A : Option Addr) (N cc : Nat) (V : List Rv) (w : World) (h : RtAt w A V) (hn : V.length = N) (hm : N ≤ 1048576) :
    Calls Try.prog 6 #[.slice A N cc] w (LAns8 w (V.map Rv.r)) := by
  by_cases hok : ribF (V.map Rv.r) = 0
  · exact implAll_ok A N cc V w h hn hm hok
  have HN : Hid (V.length = N) := hn
  have HA : Hid (∀ X, New w X → RtAt X A V) := fun X hX => h.new hX
  have N0 : New w (w.alloc (.cells #[.int .i64 0, .slice none 0 0] 27)) := (New.refl w).alloc _
  have bB := Blk.mk w w.heap.size 27 #[.int .i64 0, .slice none 0 0] rfl
  obtain ⟨f, hf⟩ : ∃ f, Hid (ribF (V.map Rv.r) = f) := ⟨_, rfl⟩
  have h0 : ¬ f = 0 := by rw [← hf.out]; exact hok
  clear h hn hok
  go_enter Try.func6, Try.ntmps6
  go_upto_region 1 with fail
  generalize w.alloc (.cells #[.int .i64 0, .slice none 0 0] 27) = w0 at *
  go_wp2_with fail
  refine (implRib A N cc V f _ (HA.out _ N0) HN.out hm hf.out).mono ?_
  rintro e w1 ⟨rfl, h1⟩
  have b1 := bB.new h1
  have n1 := N0.trans h1
  have lt1 := b1.lt
  clear bB h1 N0
  have hne : (f != 0) = true := by simpa using h0
  have HB : Hid (¬ ribF (V.map Rv.r) = 0 ∧ f = ribF (V.map Rv.r)) := ⟨by rw [hf.out]; exact h0, hf.out.symm⟩
  have c1 := b1.cells
  have f1 := b1.frees
  clear hf
  go_wp2
  exact bodyPost_ret (v := .agg #[.int .i64 f, .slice none 0 0]) (by simp [results, Try.results6, go_sem, c1]) rfl (LAns8.bad HB.out n1 (by omega))

end Go.Proofs.Ytjampcfikfafkaa

namespace Go.Proofs.Ytjampcfikfafkaa
open Go.RowKit
set_option linter.unusedVariables false

theorem rib_pf {R : List Rt} (hR : ribF R = 0) {r : Rt} (h : r ∈ R) : pf r.a r.l = 0 := by
  have h1 := (ribF_ok hR).2.2 r h
  unfold Rt.f rtf at h1
  split at h1
  · split at h1
    · assumption
    · exact absurd h1 (by assumption)
  · omega

theorem ord_R {R : List Rt} (hR : ribF R = 0) {i j : Nat} {s t : Rt} (hi : R[i]? = some s) (hj : R[j]? = some t) (h : i < j) : s.a < t.a ∨ (s.a = t.a ∧ (s.l < t.l ∨ (s.l = t.l ∧ s.p < t.p))) := by
  obtain ⟨hiL, hie⟩ := List.getElem?_eq_some_iff.1 hi
  obtain ⟨hjL, hje⟩ := List.getElem?_eq_some_iff.1 hj
  have g := List.pairwise_iff_getElem.1 (ribF_ok hR).2.1 i j hiL hjL h
  rw [hie, hje, Rt.lt_iff] at g
  exact g

theorem ord_U {U : List Rt} (hU : U.Pairwise pLt) {i j : Nat} {s t : Rt} (hi : U[i]? = some s) (hj : U[j]? = some t) (h : i < j) : pLt s t := by
  obtain ⟨hiL, hie⟩ := List.getElem?_eq_some_iff.1 hi
  obtain ⟨hjL, hje⟩ := List.getElem?_eq_some_iff.1 hj
  have g := List.pairwise_iff_getElem.1 hU i j hiL hjL h
  rw [hie, hje] at g
  exact g

/-- The first k bests are those of the prefixes of the first i routes. -/
structure Grp (R U : List Rt) (i k : Nat) : Prop where
  le : k ≤ U.length
  of : ∀ j u, j < k → U[j]? = some u → ∃ m r, m < i ∧ R[m]? = some r ∧ u.a = r.a ∧ u.l = r.l
  all : ∀ m r, m < i → R[m]? = some r → ∃ j u, j < k ∧ U[j]? = some u ∧ u.a = r.a ∧ u.l = r.l

theorem Grp.zero (R U : List Rt) : Grp R U 0 0 := ⟨Nat.zero_le _, (by intro j u h; omega), (by intro m r h; omega)⟩
theorem Grp.same {R U : List Rt} {i k : Nat} {r r' : Rt} (h : Grp R U i k) (hi : R[i]? = some r) (hp : R[i - 1]? = some r') (h0 : 0 < i) (e1 : r.a = r'.a) (e2 : r.l = r'.l) : Grp R U (i + 1) k := by
  refine ⟨h.le, fun j u hj hu => ?_, fun m s hm hs => ?_⟩
  · obtain ⟨m, s, h1, h2⟩ := h.of j u hj hu
    exact ⟨m, s, by omega, h2⟩
  · rcases Nat.lt_or_ge m i with e | e
    · exact h.all m s e hs
    · obtain rfl : m = i := by omega
      rw [hi] at hs
      obtain rfl := Option.some.inj hs
      obtain ⟨j, u, h1, h2, h3, h4⟩ := h.all (m - 1) r' (by omega) hp
      exact ⟨j, u, h1, h2, by rw [h3, e1], by rw [h4, e2]⟩
theorem Grp.new {R U : List Rt} {i k : Nat} {r : Rt} (hR : ribF R = 0) (hA : AllOk R U) (h : Grp R U i k) (hi : R[i]? = some r) (hn : i = 0 ∨ ∀ r', R[i - 1]? = some r' → ¬ (r.a = r'.a ∧ r.l = r'.l)) : ∃ u, U[k]? = some u ∧ u.a = r.a ∧ u.l = r.l ∧ Grp R U (i + 1) (k + 1) := by
  have hlt : ∀ m s, m < i → R[m]? = some s → pLt s r := by
    intro m s hm hs
    have g := ord_R hR hs hi hm
    have hiL := (List.getElem?_eq_some_iff.1 hi).1
    rcases hn with e | hn
    · omega
    · have hr' : R[i - 1]? = some R[i - 1] := List.getElem?_eq_getElem (by omega)
      have hne := hn _ hr'
      have g1 := ord_R hR hr' hi (by omega)
      rcases Nat.lt_or_ge m (i - 1) with e | e
      · have g2 := ord_R hR hs hr' e
        unfold pLt
        omega
      · obtain rfl : m = i - 1 := by omega
        rw [hr'] at hs
        obtain rfl := Option.some.inj hs
        unfold pLt
        omega
  obtain ⟨u, huU, e1, e2⟩ := hA.all r (List.mem_of_getElem? hi)
  obtain ⟨j, hj⟩ := List.getElem?_of_mem huU
  have hjk : k ≤ j := by
    rcases Nat.lt_or_ge j k with e | e
    · obtain ⟨m, s, h1, h2, h3, h4⟩ := h.of j u e hj
      have := hlt m s h1 h2
      unfold pLt at this
      omega
    · exact e
  have hkj : ¬ k < j := by
    intro e
    have hjL := (List.getElem?_eq_some_iff.1 hj).1
    have hv : U[k]? = some U[k] := List.getElem?_eq_getElem (by omega)
    have g1 := ord_U hA.srt hv hj e
    obtain ⟨m, hm⟩ := List.getElem?_of_mem (hA.best _ (List.mem_of_getElem? hv)).mem
    have hmi : m < i := by
      rcases Nat.lt_trichotomy m i with e3 | e3 | e3
      · exact e3
      · subst e3
        rw [hi] at hm
        have e4 := Option.some.inj hm
        rw [← e4] at g1
        unfold pLt at g1
        omega
      · have g2 := ord_R hR hi hm e3
        unfold pLt at g1
        omega
    obtain ⟨j', u', h1, h2, h3, h4⟩ := h.all m _ hmi hm
    have g3 := ord_U hA.srt h2 hv h1
    unfold pLt at g3
    omega
  obtain rfl : j = k := by omega
  refine ⟨u, hj, e1, e2, by have := (List.getElem?_eq_some_iff.1 hj).1; omega, fun j' v hj' hv => ?_, fun m s hm hs => ?_⟩
  · rcases Nat.lt_or_ge j' j with e | e
    · obtain ⟨m, s, h1, h2⟩ := h.of j' v e hv
      exact ⟨m, s, by omega, h2⟩
    · obtain rfl : j' = j := by omega
      rw [hj] at hv
      obtain rfl := Option.some.inj hv
      exact ⟨i, r, by omega, hi, e1, e2⟩
  · rcases Nat.lt_or_ge m i with e | e
    · obtain ⟨j', v, h1, h2⟩ := h.all m s e hs
      exact ⟨j', v, by omega, h2⟩
    · obtain rfl : m = i := by omega
      rw [hi] at hs
      obtain rfl := Option.some.inj hs
      exact ⟨j, u, by omega, hj, e1, e2⟩
theorem Grp.done {R U : List Rt} {k : Nat} (hA : AllOk R U) (h : Grp R U R.length k) : k = U.length := by
  rcases Nat.lt_or_ge k U.length with e | e
  · have hv : U[k]? = some U[k] := List.getElem?_eq_getElem e
    obtain ⟨m, hm⟩ := List.getElem?_of_mem (hA.best _ (List.mem_of_getElem? hv)).mem
    obtain ⟨j, u, h1, h2, h3, h4⟩ := h.all m _ (List.getElem?_eq_some_iff.1 hm).1 hm
    have g := ord_U hA.srt h2 hv h1
    unfold pLt at g
    omega
  · have := h.le
    omega

/-- What BestFor answers of a prefix that is there. -/
theorem BfA.here {R : List Rt} {a l z : Int} {r s : Rt} (hR : ribF R = 0) (hs : s ∈ R) (e1 : s.a = a) (e2 : s.l = l) (h : BfA R a l z r) : z = 0 ∧ BfOk R a l 0 r ∧ r.a = a ∧ r.l = l ∧ ¬ cmpW s.p s.o s.md s.lc s.xs.length r.p r.o r.md r.lc r.xs.length < 0 := by
  have hk : keepS a l s = true := by unfold keepS; simp [e1, e2]
  have hp : pf a l = 0 := by rw [← e1, ← e2]; exact rib_pf hR hs
  rcases h with ⟨h1, -⟩ | ⟨-, h1, -⟩ | ⟨-, -, h⟩
  · exact absurd hR h1
  · exact absurd hp h1
  rcases h with ⟨h1, h2, h3⟩ | ⟨h1, h2, h3, h4⟩
  · rw [h3 s hs] at hk
    cases hk
  · subst h1
    have e3 := of_decide_eq_true h3
    refine ⟨rfl, .inr ⟨rfl, h2, h3, h4⟩, e3.1.symm, e3.2.symm, fun hc => h4 s hs hk ?_⟩
    rw [hcmp_lt]
    exact .inr ⟨by omega, .inr ⟨by omega, hc⟩⟩

end Go.Proofs.Ytjampcfikfafkaa

namespace Go.Proofs.Ytjampcfikfafkaa
open Go.RowKit

theorem lbig_no (a : Option Addr) (n c : Nat) (w : World) (h : ¬ 1048576 < n) : Calls Try.prog 4 #[.slice a n c] w fun e w' => e = .returned (.bool false) ∧ w' = w := by
  have hd : decide ((1048576 : Int) < (n : Int)) = false := by simp; omega
  go_enter Try.func4, Try.ntmps4
  go_wp2
  go_ret
  exact ⟨rfl, rfl⟩

theorem lbig_yes (a : Option Addr) (n c : Nat) (w : World) (h : 1048576 < n) : Calls Try.prog 4 #[.slice a n c] w fun e w' => e = .returned (.bool true) ∧ w' = w := by
  have hd : decide ((1048576 : Int) < (n : Int)) = true := by simp; omega
  go_enter Try.func4, Try.ntmps4
  go_wp2
  go_ret
  exact ⟨rfl, rfl⟩

end Go.Proofs.Ytjampcfikfafkaa
