/- What is proved here: that the bests of all prefixes are one list; no run of the program. No condition. What is proved here: which routes the model takes of all prefixes. What is proved here: what the model's BestOfAll answers, for every list of at most 1048576 routes with paths of at most 1048576 numbers. What is proved here: paths of some of the routes of a list lie as those of the list do. No condition. What is proved here: what the heap's iterator hands over when every round goes on: all routes, in the heap's order. What is proved here: a drawn region within a round of a range over a function is walked as everywhere, where it defers nothing. No condition. What is proved here: what the program's copying of a list of routes answers, for lists of at most 1048576 routes with paths of at most 1048576 numbers. -/
import Derived.Test.YtkaaefieglhdlaaH8Lw
import Derived.Test.YtkaaefieglhdlaaH8Rf
import Derived.Test.YtkaaefieglhdlaaRwLib
import Derived.Test.YtkaaefieglhdlaaR7Ap
import Derived.Test.YtkaaefieglhdlaaR7Rf
import Derived.Deep.CutRange
namespace Go.Proofs.Ytkaaefieglhdlaa
open Go.RowKit
set_option linter.unusedVariables false

/-- The prefix stands ahead. -/
def pLt (r s : Rt) : Prop := r.a < s.a ∨ (r.a = s.a ∧ r.l < s.l)

theorem sorted_one : ∀ (U T : List Rt), U.Pairwise pLt → T.Pairwise pLt → (∀ x, x ∈ U ↔ x ∈ T) → U = T
  | [], T, _, _, h => by
    cases T with
    | nil => rfl
    | cons y ys => exact absurd ((h y).2 (List.mem_cons_self ..)) (by simp)
  | x :: xs, T, hU, hT, h => by
    cases T with
    | nil => exact absurd ((h x).1 (List.mem_cons_self ..)) (by simp)
    | cons y ys =>
      rw [List.pairwise_cons] at hU hT
      have hxy : x = y := by
        rcases List.mem_cons.1 ((h x).1 (List.mem_cons_self ..)) with e | e
        · exact e
        · rcases List.mem_cons.1 ((h y).2 (List.mem_cons_self ..)) with f | f
          · exact f.symm
          · have h1 := hT.1 x e
            have h2 := hU.1 y f
            unfold pLt at h1 h2
            omega
      subst hxy
      have hm : ∀ z, z ∈ xs ↔ z ∈ ys := by
        intro z
        constructor
        · intro hz
          rcases List.mem_cons.1 ((h z).1 (List.mem_cons_of_mem _ hz)) with e | e
          · subst e
            have h1 := hU.1 z hz
            unfold pLt at h1
            omega
          · exact e
        · intro hz
          rcases List.mem_cons.1 ((h z).2 (List.mem_cons_of_mem _ hz)) with e | e
          · subst e
            have h1 := hT.1 z hz
            unfold pLt at h1
            omega
          · exact e
      rw [sorted_one xs ys hU.2 hT.2 hm]

/-- The bests of all prefixes, in the prefixes' order. -/
structure AllOk (R U : List Rt) : Prop where
  srt : U.Pairwise pLt
  best : ∀ r ∈ U, BfOk R r.a r.l 0 r
  all : ∀ s ∈ R, ∃ r ∈ U, r.a = s.a ∧ r.l = s.l

theorem BfOk.mem {R : List Rt} {a l : Int} {r : Rt} (h : BfOk R a l 0 r) : r ∈ R := by
  rcases h with ⟨e, -⟩ | ⟨-, h, -⟩
  · omega
  · exact h
theorem AllOk.sub {R U T : List Rt} (hR : ribF R = 0) (h : AllOk R U) (k : AllOk R T) : ∀ r ∈ U, r ∈ T := by
  intro r hr
  have hb := h.best r hr
  obtain ⟨s, hs, e1, e2⟩ := k.all r hb.mem
  have kb := k.best s hs
  rw [e1, e2] at kb
  obtain ⟨-, e⟩ := BfOk.det hR hb kb
  rw [e]
  exact hs
theorem AllOk.det {R U T : List Rt} (hR : ribF R = 0) (h : AllOk R U) (k : AllOk R T) : U = T :=
  sorted_one U T h.srt k.srt (fun x => ⟨h.sub hR k x, k.sub hR h x⟩)

/-- The first of each prefix of a list in the heap's order. -/
structure TopOk (P : List Rv) (U : List Rt) : Prop where
  srt : U.Pairwise pLt
  mem : ∀ r ∈ U, ∃ v ∈ P, v.r = r
  least : ∀ r ∈ U, ∀ v ∈ P, v.r.a = r.a → v.r.l = r.l → ¬ hcmp v.r r < 0
  all : ∀ v ∈ P, ∃ r ∈ U, r.a = v.r.a ∧ r.l = v.r.l
  last : ∀ v, P.getLast? = some v → ∃ r, U.getLast? = some r ∧ r.a = v.r.a ∧ r.l = v.r.l

theorem TopOk.nil : TopOk [] [] := ⟨List.Pairwise.nil, (by intro r h; cases h), (by intro r h; cases h), (by intro v h; cases h), (by intro v h; cases h)⟩

theorem TopOk.done {P : List Rv} {U : List Rt} {V : List Rv} (h : TopOk P U) (hp : P.Perm V) : AllOk (V.map Rv.r) U := by
  refine ⟨h.srt, fun r hr => .inr ⟨rfl, ?_, by unfold keepS; simp, fun s hs hk => ?_⟩, fun s hs => ?_⟩
  · obtain ⟨v, hv, rfl⟩ := h.mem r hr
    exact List.mem_map_of_mem (hp.mem_iff.1 hv)
  · obtain ⟨v, hv, rfl⟩ := List.mem_map.1 hs
    unfold keepS at hk
    have e := of_decide_eq_true hk
    exact h.least r hr v (hp.mem_iff.2 hv) e.1.symm e.2.symm
  · obtain ⟨v, hv, rfl⟩ := List.mem_map.1 hs
    exact h.all v (hp.mem_iff.2 hv)

theorem TopOk.same {P : List Rv} {U : List Rt} {x : Rv} {r : Rt} (h : TopOk P U) (hx : ∀ y ∈ P, ¬ hlt x y) (hr : U.getLast? = some r) (e1 : r.a = x.r.a) (e2 : r.l = x.r.l) : TopOk (P ++ [x]) U := by
  refine ⟨h.srt, fun s hs => ?_, fun s hs v hv f1 f2 => ?_, fun v hv => ?_, fun v hv => ?_⟩
  · obtain ⟨v, hv, e⟩ := h.mem s hs
    exact ⟨v, List.mem_append_left _ hv, e⟩
  · rcases List.mem_append.1 hv with hv | hv
    · exact h.least s hs v hv f1 f2
    · obtain rfl := List.mem_singleton.1 hv
      obtain ⟨u, hu, rfl⟩ := h.mem s hs
      exact hx u hu
  · rcases List.mem_append.1 hv with hv | hv
    · exact h.all v hv
    · obtain rfl := List.mem_singleton.1 hv
      exact ⟨r, List.mem_of_getLast? hr, e1, e2⟩
  · rw [List.getLast?_append] at hv
    simp at hv
    subst hv
    exact ⟨r, hr, e1, e2⟩

theorem last_le {U : List Rt} {r s : Rt} (h : U.Pairwise pLt) (hr : U.getLast? = some r) (hs : s ∈ U) : s = r ∨ pLt s r := by
  rcases List.eq_nil_or_concat U with rfl | ⟨ini, z, rfl⟩
  · cases hs
  · rw [List.concat_eq_append] at h hr hs
    rw [List.getLast?_append] at hr
    simp at hr
    subst hr
    rcases List.mem_append.1 hs with hs | hs
    · exact .inr ((List.pairwise_append.1 h).2.2 s hs z (List.mem_singleton.2 rfl))
    · exact .inl (List.mem_singleton.1 hs)

theorem TopOk.new {P : List Rv} {U : List Rt} {x : Rv} (h : TopOk P U) (hx : ∀ y ∈ P, ¬ hlt x y) (hr : ∀ r, U.getLast? = some r → ¬ (x.r.a = r.a ∧ x.r.l = r.l)) : TopOk (P ++ [x]) (U ++ [x.r]) := by
  have hlt' : ∀ r ∈ U, pLt r x.r := by
    intro r hrU
    obtain ⟨v0, hv0, -⟩ := h.mem r hrU
    obtain ⟨vl, hvl⟩ : ∃ vl, P.getLast? = some vl := by
      cases hP : P with
      | nil => rw [hP] at hv0; cases hv0
      | cons y ys => exact ⟨_, List.getLast?_eq_some_getLast (by simp)⟩
    obtain ⟨rl, hrl, f1, f2⟩ := h.last vl hvl
    have g1 := hx vl (List.mem_of_getLast? hvl)
    have g2 := hr rl hrl
    have g3 := last_le h.srt hrl hrU
    unfold hlt at g1
    rw [hcmp_lt] at g1
    have g4 : pLt rl x.r := by
      unfold pLt
      omega
    rcases g3 with rfl | g3
    · exact g4
    · unfold pLt at g3 g4 ⊢
      omega
  refine ⟨List.pairwise_append.2 ⟨h.srt, List.pairwise_singleton _ _, fun r hrU y hy => ?_⟩, fun s hs => ?_, fun s hs v hv f1 f2 => ?_, fun v hv => ?_, fun v hv => ?_⟩
  · obtain rfl := List.mem_singleton.1 hy
    exact hlt' r hrU
  · rcases List.mem_append.1 hs with hs | hs
    · obtain ⟨v, hv, e⟩ := h.mem s hs
      exact ⟨v, List.mem_append_left _ hv, e⟩
    · obtain rfl := List.mem_singleton.1 hs
      exact ⟨x, by simp, rfl⟩
  · rcases List.mem_append.1 hs with hsU | hs
    · rcases List.mem_append.1 hv with hv | hv
      · exact h.least s hsU v hv f1 f2
      · obtain rfl := List.mem_singleton.1 hv
        have := hlt' s hsU
        unfold pLt at this
        omega
    · obtain rfl := List.mem_singleton.1 hs
      rcases List.mem_append.1 hv with hv | hv
      · obtain ⟨r, hrU, k1, k2⟩ := h.all v hv
        have := hlt' r hrU
        unfold pLt at this
        omega
      · obtain rfl := List.mem_singleton.1 hv
        exact hlt_irr v
  · rcases List.mem_append.1 hv with hv | hv
    · obtain ⟨r, hrU, k1, k2⟩ := h.all v hv
      exact ⟨r, List.mem_append_left _ hrU, k1, k2⟩
    · obtain rfl := List.mem_singleton.1 hv
      exact ⟨v.r, by simp, rfl, rfl⟩
  · rw [List.getLast?_append] at hv
    simp at hv
    subst hv
    exact ⟨x.r, by rw [List.getLast?_append]; simp, rfl, rfl⟩

end Go.Proofs.Ytkaaefieglhdlaa

namespace Go.Proofs.Ytkaaefieglhdlaa
open Go.RowKit Go.Sort
set_option linter.unusedVariables false
set_option linter.unusedSimpArgs false
set_option maxRecDepth 100000

/-- The bests of the prefixes of the first ones. -/
structure PreOk (V : List Rv) (k : Nat) (U : List Rv) : Prop where
  srt : (U.map Rv.r).Pairwise pLt
  best : ∀ u ∈ U, BfOk (V.map Rv.r) u.r.a u.r.l 0 u.r
  mem : ∀ u ∈ U, u ∈ V ∧ ∃ j v, j < k ∧ V[j]? = some v ∧ u.r.a = v.r.a ∧ u.r.l = v.r.l
  all : ∀ j v, j < k → V[j]? = some v → ∃ u ∈ U, u.r.a = v.r.a ∧ u.r.l = v.r.l
theorem PreOk.nil (V : List Rv) : PreOk V 0 [] := ⟨List.Pairwise.nil, (by intro u h; cases h), (by intro u h; cases h), (by intro j v h; omega)⟩
theorem PreOk.done {V U : List Rv} (h : PreOk V V.length U) : AllOk (V.map Rv.r) (U.map Rv.r) := by
  refine ⟨h.srt, fun r hr => ?_, fun s hs => ?_⟩
  · obtain ⟨u, hu, rfl⟩ := List.mem_map.1 hr
    exact h.best u hu
  · obtain ⟨v, hv, rfl⟩ := List.mem_map.1 hs
    obtain ⟨j, hj⟩ := List.getElem?_of_mem hv
    obtain ⟨u, hu, e1, e2⟩ := h.all j v (List.getElem?_eq_some_iff.1 hj).1 hj
    exact ⟨u.r, List.mem_map_of_mem hu, e1, e2⟩
theorem PreOk.same {V U : List Rv} {k : Nat} {v v' : Rv} (h : PreOk V k U) (hv : V[k]? = some v) (hv' : V[k - 1]? = some v') (hk : 0 < k) (e1 : v.r.a = v'.r.a) (e2 : v.r.l = v'.r.l) : PreOk V (k + 1) U := by
  refine ⟨h.srt, h.best, fun u hu => ?_, fun j x hj hx => ?_⟩
  · obtain ⟨m, j, x, hj, r⟩ := h.mem u hu
    exact ⟨m, j, x, by omega, r⟩
  · rcases Nat.lt_or_ge j k with f | f
    · exact h.all j x f hx
    · obtain rfl : j = k := by omega
      rw [hv] at hx
      obtain rfl := Option.some.inj hx
      obtain ⟨u, hu, g1, g2⟩ := h.all (j - 1) v' (by omega) hv'
      exact ⟨u, hu, by omega, by omega⟩
theorem ord_at {V : List Rv} (hR : ribF (V.map Rv.r) = 0) {i j : Nat} {u v : Rv} (hi : V[i]? = some u) (hj : V[j]? = some v) (h : i < j) : u.r.a < v.r.a ∨ (u.r.a = v.r.a ∧ (u.r.l < v.r.l ∨ (u.r.l = v.r.l ∧ u.r.p < v.r.p))) := by
  have ho := (ribF_ok hR).2.1
  obtain ⟨hiL, hie⟩ := List.getElem?_eq_some_iff.1 hi
  obtain ⟨hjL, hje⟩ := List.getElem?_eq_some_iff.1 hj
  have e := List.pairwise_iff_getElem.1 ho i j (by simpa using hiL) (by simpa using hjL) h
  rw [List.getElem_map, List.getElem_map, hie, hje, Rt.lt_iff] at e
  exact e
theorem PreOk.new {V U : List Rv} {k : Nat} {v b : Rv} (hR : ribF (V.map Rv.r) = 0) (h : PreOk V k U) (hv : V[k]? = some v) (hn : k = 0 ∨ ∀ v', V[k - 1]? = some v' → ¬ (v.r.a = v'.r.a ∧ v.r.l = v'.r.l)) (hb : BfOk (V.map Rv.r) v.r.a v.r.l 0 b.r) (hbV : b ∈ V) (e1 : b.r.a = v.r.a) (e2 : b.r.l = v.r.l) : PreOk V (k + 1) (U ++ [b]) := by
  refine ⟨?_, fun u hu => ?_, fun u hu => ?_, fun j x hj hx => ?_⟩
  · rw [List.map_append, List.pairwise_append]
    refine ⟨h.srt, List.pairwise_singleton _ _, fun r hr y hy => ?_⟩
    obtain ⟨u, hu, rfl⟩ := List.mem_map.1 hr
    obtain rfl := List.mem_singleton.1 hy
    obtain ⟨-, j, x, hj, hx, f1, f2⟩ := h.mem u hu
    obtain ⟨v', hv'⟩ : ∃ v', V[k - 1]? = some v' := ⟨_, List.getElem?_eq_getElem (by have := (List.getElem?_eq_some_iff.1 hv).1; omega)⟩
    have g1 := ord_at hR hv' hv (by omega)
    have g2 : ¬ (v.r.a = v'.r.a ∧ v.r.l = v'.r.l) := by
      rcases hn with g | g
      · omega
      · exact g v' hv'
    have g3 : pLt x.r v'.r ∨ (x.r.a = v'.r.a ∧ x.r.l = v'.r.l) := by
      unfold pLt
      rcases Nat.lt_or_ge j (k - 1) with g | g
      · have := ord_at hR hx hv' g
        omega
      · obtain rfl : j = k - 1 := by omega
        rw [hv'] at hx
        obtain rfl := Option.some.inj hx
        exact .inr ⟨rfl, rfl⟩
    unfold pLt at g3 ⊢
    omega
  · rcases List.mem_append.1 hu with hu | hu
    · exact h.best u hu
    · obtain rfl := List.mem_singleton.1 hu
      rw [e1, e2]
      exact hb
  · rcases List.mem_append.1 hu with hu | hu
    · obtain ⟨m, j, x, hj, r⟩ := h.mem u hu
      exact ⟨m, j, x, by omega, r⟩
    · obtain rfl := List.mem_singleton.1 hu
      exact ⟨hbV, k, v, by omega, hv, e1, e2⟩
  · rcases Nat.lt_or_ge j k with f | f
    · obtain ⟨u, hu, r⟩ := h.all j x f hx
      exact ⟨u, List.mem_append_left _ hu, r⟩
    · obtain rfl : j = k := by omega
      rw [hv] at hx
      obtain rfl := Option.some.inj hx
      exact ⟨b, by simp, e1, e2⟩

set_option maxHeartbeats 12800000 in
theorem l7All_any (A : Option Addr) (N cc : Nat) (V : List Rv) (w : World) (h : RtAt w A V) (hn : V.length = N) (hm : N ≤ 1048576) (hR : ribF (V.map Rv.r) = 0) :
    Calls Try.prog 36 #[.slice A N cc] w fun e w' => ∃ u U, e = .returned u ∧ w'.ownsRow w.heap.size 31 8 u U.length (cellsT U) ∧ (∀ v ∈ U, v ∈ V) ∧ AllOk (V.map Rv.r) (U.map Rv.r) ∧ U.length ≤ N ∧ New w w' := by
  have HN : Hid (V.length = N) := hn
  have HA : Hid (∀ X, New w X → RtAt X A V) := fun X hX => h.new hX
  have HR : Hid (ribF (V.map Rv.r) = 0) := hR
  obtain ⟨i0, hi, hz0, hz1, hz2⟩ := info_parts Try.infoRt
  have NL : New w (w.alloc (.cells #[] 31)) := (New.refl w).alloc _
  have hL : (w.alloc (.cells #[] 31)).ownsRow w.heap.size 31 8 (.slice (some ⟨w.heap.size, 0, none⟩) 0 0) 0 (cellsT []) := row_lit7 (lo := w.heap.size) (Blk.mk w w.heap.size 31 #[] rfl) (Nat.le_refl _)
  clear h hn hR
  go_enter Try.func36, Try.ntmps36
  go_wp2
  go_loopw [3, 4] (fun s i wr => ∃ (k : Nat) (U : List Rv), k ≤ N ∧ i = .int .i64 k ∧ U.length ≤ k ∧ wr.ownsRow w.heap.size 31 8 s U.length (cellsT U) ∧ PreOk V k U ∧ New w wr) (fun _ i _ => N - (intOf i).toNat)
  case atStart => exact ⟨0, [], Nat.zero_le _, rfl, Nat.le_refl _, hL, PreOk.nil V, NL⟩
  case round =>
    clear NL hL
    obtain ⟨k, U, hk, rfl, hlk, hrow, hpre, hnw⟩ := hrel
    have HPRE : Hid (PreOk V k U) := hpre
    have HLK : Hid (U.length ≤ k) := hlk
    clear hpre hlk
    by_cases hlt : k < N
    case neg =>
      obtain rfl : k = N := by omega
      have HAll : Hid (AllOk (V.map Rv.r) (U.map Rv.r)) := (show PreOk V V.length U by rw [HN.out]; exact HPRE.out).done
      go_wp2
      go_ret
      exact ⟨_, U, rfl, hrow, fun v hv => (HPRE.out.mem v hv).1, HAll.out, HLK.out, hnw⟩
    case pos =>
      obtain ⟨b, off, p, a, l, o, nx, md, lc, x, m, d, xs, rfl, hv, hlen, -, -, -, q0, q1, q2, q3, q4, q5, q6, q7⟩ := (HA.out _ hnw).at k (by have := HN.out; omega)
      subst hlen
      have HV : Hid (V[k]? = some ⟨⟨p, a, l, o, xs, nx, md, lc⟩, x, d⟩) := hv
      have hk0 : (0 : Int) ≤ (k : Int) := by omega
      have hk1 : (k : Int) < (N : Int) := by omega
      have d1 : New wr wr.drew := (New.refl wr).drew
      clear hv
      by_cases hz : k = 0
      case pos =>
        have hkb : ((k : Int) == 0) = true := by simp [hz]
        have HNW : Hid (k = 0 ∨ ∀ v', V[k - 1]? = some v' → ¬ (a = v'.r.a ∧ l = v'.r.l)) := .inl hz
        clear hz
        go_upto_region 5 with fail
        refine hw_start (n := 16) (S := fun X => New wr X) rfl (by kernel_rfl) ((New.refl wr).drew) (fun hH => ?_)
        refine' hw_take 0 (some 12) _ rfl rfl (by kernel_rfl) (by kernel_rfl) (by kernel_rfl) (fun _ _ _ h => h) (by rfl) hH ?hy1 ?rest1
        case hy1 =>
          intro X hX
          go_simp
          try rfl
        simp only [Act.put, List.setIfInBounds_toArray, List.set_cons_zero, List.set_cons_succ]
        refine' hw_take 1 (some 13) _ rfl rfl (by kernel_rfl) (by kernel_rfl) (by kernel_rfl) (fun _ _ _ h => h) (by rfl) hH ?hy2 ?rest2
        case hy2 =>
          intro X hX
          go_simp
          try rfl
        simp only [Act.put, List.setIfInBounds_toArray, List.set_cons_zero, List.set_cons_succ]
        refine' hw_take 2 (some 14) _ rfl rfl (by kernel_rfl) (by kernel_rfl) (by kernel_rfl) (fun _ _ _ h => h) (by rfl) hH ?hy3 ?rest3
        case hy3 =>
          intro X hX
          go_simp
          try rfl
        simp only [Act.put, List.setIfInBounds_toArray, List.set_cons_zero, List.set_cons_succ]
        refine hw_skip 3 (some 15) rfl rfl (by kernel_rfl) (by kernel_rfl) (by kernel_rfl) (fun _ _ _ h => h) (by rfl) hH ?_
        simp only [Act.put, List.setIfInBounds_toArray, List.set_cons_zero, List.set_cons_succ]
        refine hw_skip 4 (some 16) rfl rfl (by kernel_rfl) (by kernel_rfl) (by kernel_rfl) (fun _ _ _ h => h) (by rfl) hH ?_
        simp only [Act.put, List.setIfInBounds_toArray, List.set_cons_zero, List.set_cons_succ]
        refine hw_skip 5 (some 17) rfl rfl (by kernel_rfl) (by kernel_rfl) (by kernel_rfl) (fun _ _ _ h => h) (by rfl) hH ?_
        simp only [Act.put, List.setIfInBounds_toArray, List.set_cons_zero, List.set_cons_succ]
        refine hw_skip 6 (some 18) rfl rfl (by kernel_rfl) (by kernel_rfl) (by kernel_rfl) (fun _ _ _ h => h) (by rfl) hH ?_
        simp only [Act.put, List.setIfInBounds_toArray, List.set_cons_zero, List.set_cons_succ]
        refine hw_skip 7 (some 19) rfl rfl (by kernel_rfl) (by kernel_rfl) (by kernel_rfl) (fun _ _ _ h => h) (by rfl) hH ?_
        simp only [Act.put, List.setIfInBounds_toArray, List.set_cons_zero, List.set_cons_succ]
        refine hw_skip 8 (some 20) rfl rfl (by kernel_rfl) (by kernel_rfl) (by kernel_rfl) (fun _ _ _ h => h) (by rfl) hH ?_
        simp only [Act.put, List.setIfInBounds_toArray, List.set_cons_zero, List.set_cons_succ]
        refine hw_skip 9 (some 21) rfl rfl (by kernel_rfl) (by kernel_rfl) (by kernel_rfl) (fun _ _ _ h => h) (by rfl) hH ?_
        simp only [Act.put, List.setIfInBounds_toArray, List.set_cons_zero, List.set_cons_succ]
        refine hw_skip 10 (some 22) rfl rfl (by kernel_rfl) (by kernel_rfl) (by kernel_rfl) (fun _ _ _ h => h) (by rfl) hH ?_
        simp only [Act.put, List.setIfInBounds_toArray, List.set_cons_zero, List.set_cons_succ]
        refine hw_skip 11 (some 23) rfl rfl (by kernel_rfl) (by kernel_rfl) (by kernel_rfl) (fun _ _ _ h => h) (by rfl) hH ?_
        simp only [Act.put, List.setIfInBounds_toArray, List.set_cons_zero, List.set_cons_succ]
        refine hw_skip 12 (some 24) rfl rfl (by kernel_rfl) (by kernel_rfl) (by kernel_rfl) (fun _ _ _ h => h) (by rfl) hH ?_
        simp only [Act.put, List.setIfInBounds_toArray, List.set_cons_zero, List.set_cons_succ]
        refine hw_skip 13 (some 25) rfl rfl (by kernel_rfl) (by kernel_rfl) (by kernel_rfl) (fun _ _ _ h => h) (by rfl) hH ?_
        simp only [Act.put, List.setIfInBounds_toArray, List.set_cons_zero, List.set_cons_succ]
        refine hw_skip 14 (some 26) rfl rfl (by kernel_rfl) (by kernel_rfl) (by kernel_rfl) (fun _ _ _ h => h) (by rfl) hH ?_
        simp only [Act.put, List.setIfInBounds_toArray, List.set_cons_zero, List.set_cons_succ]
        refine' hw_take 15 (some 27) _ rfl rfl (by kernel_rfl) (by kernel_rfl) (by kernel_rfl) (fun _ _ _ h => h) (by rfl) hH ?hy4 ?rest4
        case hy4 =>
          intro X hX
          go_simp
          try rfl
        simp only [Act.put, List.setIfInBounds_toArray, List.set_cons_zero, List.set_cons_succ]
        refine wpAnyH_done (by kernel_rfl) ?_ _
        have nd := hnw.trans d1
        have hrowd := row_turn7 hrow d1 (fun _ _ f => f)
        clear q0 q3 q4 q5 q6 q7 hrow
        have q1d := (d1.below.cell (World.block_lt_of_cell? _ _ q1)).trans q1
        have q2d := (d1.below.cell (World.block_lt_of_cell? _ _ q2)).trans q2
        generalize wr.drew = wd at *
        go_wp2_with fail
        refine (l7Best_any a l (some ⟨b, off, none⟩) N cc V _ (HA.out _ nd) HN.out hm).mono ?_
        rintro e w1 ⟨tt, rfl, hLb, h1⟩
        obtain ⟨i, v, rfl, hiv, hkv, hbst⟩ : ∃ (i : Nat) (v : Rv), tt = (i : Int) ∧ V[i]? = some v ∧ keepS a l v.r = true ∧ ∀ j u, j < N → V[j]? = some u → keepS a l u.r = true → ¬ cW u.r v.r < 0 := by
          rcases hLb with ⟨-, hno⟩ | hsome
          · have e := hno k _ hlt HV.out
            unfold keepS at e
            simp at e
          · exact hsome
        have hkk := of_decide_eq_true hkv
        have hBf : BfOk (V.map Rv.r) a l 0 v.r := by
          refine .inr ⟨rfl, List.mem_map_of_mem (List.mem_of_getElem? hiv), hkv, fun s hs hks => ?_⟩
          obtain ⟨u, hu, rfl⟩ := List.mem_map.1 hs
          obtain ⟨j, hj⟩ := List.getElem?_of_mem hu
          have g1 := hbst j u (by have := (List.getElem?_eq_some_iff.1 hj).1; have := HN.out; omega) hj hks
          unfold cW at g1
          have g2 := of_decide_eq_true hks
          rw [hcmp_lt]
          omega
        have HS : Hid (PreOk V (k + 1) (U ++ [v])) := HPRE.out.new HR.out HV.out HNW.out hBf (List.mem_of_getElem? hiv) hkk.1.symm hkk.2.symm
        have hii := (List.getElem?_eq_some_iff.1 hiv).1
        have hiN : i < N := by have := HN.out; omega
        have hi0' : (0 : Int) ≤ (i : Int) := by omega
        have hi1' : (i : Int) < (N : Int) := by omega
        obtain ⟨b9, off9, p9, a9, l9, o9, nx9, md9, lc9, x9, m9, d9, xs9, hA9, hv9, hlen9, -, -, -, z0, z1, z2, z3, z4, z5, z6, z7⟩ := (HA.out _ (nd.trans h1)).at i hii
        simp only [Option.some.injEq, Addr.mk.injEq, and_true] at hA9
        obtain ⟨rfl, rfl⟩ := hA9
        subst hlen9
        rw [hiv] at hv9
        obtain rfl := Option.some.inj hv9
        have n1 := nd.trans h1
        have hrow1 := row_turn7 hrowd h1 (fun _ _ f => f)
        have bL := Blk.mk w1 w1.heap.size 31 #[.int .i64 p9, .int .i64 a9, .int .i64 l9, .int .i64 o9, .slice x9 xs9.length d9, .int .i64 nx9, .int .i64 md9, .int .i64 lc9] rfl
        have aL := (New.refl w1).alloc (.cells #[.int .i64 p9, .int .i64 a9, .int .i64 l9, .int .i64 o9, .slice x9 xs9.length d9, .int .i64 nx9, .int .i64 md9, .int .i64 lc9] 31)
        have hrow3 := row_turn7 hrow1 aL (fun _ _ f => f)
        have hsz : w.heap.size ≤ (w1.alloc (.cells #[.int .i64 p9, .int .i64 a9, .int .i64 l9, .int .i64 o9, .slice x9 xs9.length d9, .int .i64 nx9, .int .i64 md9, .int .i64 lc9] 31)).heap.size := (n1.trans aL).size
        have hsrc : ∀ j, (w1.alloc (.cells #[.int .i64 p9, .int .i64 a9, .int .i64 l9, .int .i64 o9, .slice x9 xs9.length d9, .int .i64 nx9, .int .i64 md9, .int .i64 lc9] 31)).cell? ⟨w1.heap.size, j, none⟩ = (Rv.mk (Rt.mk p9 a9 l9 o9 xs9 nx9 md9 lc9) x9 d9).cs[j]? := by
          intro j
          rw [bL.cells j]
          unfold Rv.cs
          simp
        clear hbst hkv hkk hBf hiv hLb bL q1d q2d
        go_wp2_with (at_builtin; refine wpList_apT _ rfl (.tmp 28) (.tmp 39) rfl w.heap.size _ Try.underlying35 hi hz0 hz1 hz2 rfl _ U rfl hrow3 w1.heap.size (Rv.mk (Rt.mk p9 a9 l9 o9 xs9 nx9 md9 lc9) x9 d9) rfl hsrc (by have := HLK.out; omega) hsz ?_)
        intro v5 w5 hr5 hg5 _
        have N5 : New w w5 := ((n1.trans aL).grow hg5 (fun j hj => (row_rng7 hrow3 j hj).1))
        clear hg5 hrow3 hsrc hrow1 hrowd
        go_wp2
        go_roundw
        case rel => exact ⟨k + 1, U ++ [⟨⟨p9, a9, l9, o9, xs9, nx9, md9, lc9⟩, x9, d9⟩], by omega, by go_num, by rw [List.length_append]; have := HLK.out; simp; omega, (by rw [List.length_append]; exact hr5), HS.out, N5⟩
        case measure => simp [intOf]; omega
      case neg =>
        have hkb : ((k : Int) == 0) = false := by simp; omega
        have hwk : IntKind.i64.wrap ((k : Int) - 1) = ((k - 1 : Nat) : Int) := by rw [IntKind.wrap_i64]; omega
        have hj0 : (0 : Int) ≤ ((k - 1 : Nat) : Int) := by omega
        have hj1 : ((k - 1 : Nat) : Int) < (N : Int) := by omega
        obtain ⟨b', off', p', a', l', o', nx', md', lc', x', m', d', xs', hA', hv', -, -, -, -, y0, y1, y2, y3, y4, y5, y6, y7⟩ := (HA.out _ hnw).at (k - 1) (by have := HN.out; omega)
        simp only [Option.some.injEq, Addr.mk.injEq, and_true] at hA'
        obtain ⟨rfl, rfl⟩ := hA'
        have HV' : Hid (V[k - 1]? = some ⟨⟨p', a', l', o', xs', nx', md', lc'⟩, x', d'⟩) := hv'
        have HZ : Hid (0 < k) := by unfold Hid; omega
        clear hv' hz
        by_cases ha : a = a'
        case neg =>
          have HNW : Hid (k = 0 ∨ ∀ v', V[k - 1]? = some v' → ¬ (a = v'.r.a ∧ l = v'.r.l)) := .inr (fun v' hv' e => by rw [HV'.out] at hv'; obtain rfl := Option.some.inj hv'; exact ha e.1)
          go_upto_region 5 with fail
          refine hw_start (n := 16) (S := fun X => New wr X) rfl (by kernel_rfl) ((New.refl wr).drew) (fun hH => ?_)
          refine' hw_take 0 (some 12) _ rfl rfl (by kernel_rfl) (by kernel_rfl) (by kernel_rfl) (fun _ _ _ h => h) (by rfl) hH ?hy5 ?rest5
          case hy5 =>
            intro X hX
            go_simp
            try rfl
          simp only [Act.put, List.setIfInBounds_toArray, List.set_cons_zero, List.set_cons_succ]
          refine' hw_take 1 (some 13) _ rfl rfl (by kernel_rfl) (by kernel_rfl) (by kernel_rfl) (fun _ _ _ h => h) (by rfl) hH ?hy6 ?rest6
          case hy6 =>
            intro X hX
            go_simp
            try rfl
          simp only [Act.put, List.setIfInBounds_toArray, List.set_cons_zero, List.set_cons_succ]
          refine' hw_take 2 (some 14) _ rfl rfl (by kernel_rfl) (by kernel_rfl) (by kernel_rfl) (fun _ _ _ h => h) (by rfl) hH ?hy7 ?rest7
          case hy7 =>
            intro X hX
            go_simp
            try rfl
          simp only [Act.put, List.setIfInBounds_toArray, List.set_cons_zero, List.set_cons_succ]
          refine' hw_take 3 (some 15) _ rfl rfl (by kernel_rfl) (by kernel_rfl) (by kernel_rfl) (fun _ _ _ h => h) (by rfl) hH ?hy8 ?rest8
          case hy8 =>
            intro X hX
            go_simp
            try rfl
          simp only [Act.put, List.setIfInBounds_toArray, List.set_cons_zero, List.set_cons_succ]
          refine' hw_take 4 (some 16) _ rfl rfl (by kernel_rfl) (by kernel_rfl) (by kernel_rfl) (fun _ _ _ h => h) (by rfl) hH ?hy9 ?rest9
          case hy9 =>
            intro X hX
            go_simp
            try rfl
          simp only [Act.put, List.setIfInBounds_toArray, List.set_cons_zero, List.set_cons_succ]
          refine' hw_take 5 (some 17) _ rfl rfl (by kernel_rfl) (by kernel_rfl) (by kernel_rfl) (fun _ _ _ h => h) (by rfl) hH ?hy10 ?rest10
          case hy10 =>
            intro X hX
            go_simp
            try rfl
          simp only [Act.put, List.setIfInBounds_toArray, List.set_cons_zero, List.set_cons_succ]
          refine' hw_take 6 (some 18) _ rfl rfl (by kernel_rfl) (by kernel_rfl) (by kernel_rfl) (fun _ _ _ h => h) (by rfl) hH ?hy11 ?rest11
          case hy11 =>
            intro X hX
            go_simp
            try rfl
          simp only [Act.put, List.setIfInBounds_toArray, List.set_cons_zero, List.set_cons_succ]
          refine' hw_take 7 (some 19) _ rfl rfl (by kernel_rfl) (by kernel_rfl) (by kernel_rfl) (fun _ _ _ h => h) (by rfl) hH ?hy12 ?rest12
          case hy12 =>
            intro X hX
            have q1X := (hX.below.cell (World.block_lt_of_cell? _ _ q1)).trans q1
            have q2X := (hX.below.cell (World.block_lt_of_cell? _ _ q2)).trans q2
            go_simp
            try rfl
          simp only [Act.put, List.setIfInBounds_toArray, List.set_cons_zero, List.set_cons_succ]
          refine' hw_take 8 (some 20) _ rfl rfl (by kernel_rfl) (by kernel_rfl) (by kernel_rfl) (fun _ _ _ h => h) (by rfl) hH ?hy13 ?rest13
          case hy13 =>
            intro X hX
            go_simp
            try rfl
          simp only [Act.put, List.setIfInBounds_toArray, List.set_cons_zero, List.set_cons_succ]
          refine' hw_take 9 (some 21) _ rfl rfl (by kernel_rfl) (by kernel_rfl) (by kernel_rfl) (fun _ _ _ h => h) (by rfl) hH ?hy14 ?rest14
          case hy14 =>
            intro X hX
            go_simp
            try rfl
          simp only [Act.put, List.setIfInBounds_toArray, List.set_cons_zero, List.set_cons_succ]
          refine' hw_take 10 (some 22) _ rfl rfl (by kernel_rfl) (by kernel_rfl) (by kernel_rfl) (fun _ _ _ h => h) (by rfl) hH ?hy15 ?rest15
          case hy15 =>
            intro X hX
            go_simp
            try rfl
          simp only [Act.put, List.setIfInBounds_toArray, List.set_cons_zero, List.set_cons_succ]
          refine' hw_take 11 (some 23) _ rfl rfl (by kernel_rfl) (by kernel_rfl) (by kernel_rfl) (fun _ _ _ h => h) (by rfl) hH ?hy16 ?rest16
          case hy16 =>
            intro X hX
            go_simp
            try rfl
          simp only [Act.put, List.setIfInBounds_toArray, List.set_cons_zero, List.set_cons_succ]
          refine' hw_take 12 (some 24) _ rfl rfl (by kernel_rfl) (by kernel_rfl) (by kernel_rfl) (fun _ _ _ h => h) (by rfl) hH ?hy17 ?rest17
          case hy17 =>
            intro X hX
            go_simp
            try rfl
          simp only [Act.put, List.setIfInBounds_toArray, List.set_cons_zero, List.set_cons_succ]
          refine' hw_take 13 (some 25) _ rfl rfl (by kernel_rfl) (by kernel_rfl) (by kernel_rfl) (fun _ _ _ h => h) (by rfl) hH ?hy18 ?rest18
          case hy18 =>
            intro X hX
            have y1X := (hX.below.cell (World.block_lt_of_cell? _ _ y1)).trans y1
            have y2X := (hX.below.cell (World.block_lt_of_cell? _ _ y2)).trans y2
            go_simp
            try rfl
          simp only [Act.put, List.setIfInBounds_toArray, List.set_cons_zero, List.set_cons_succ]
          refine' hw_take 14 (some 26) _ rfl rfl (by kernel_rfl) (by kernel_rfl) (by kernel_rfl) (fun _ _ _ h => h) (by rfl) hH ?hy19 ?rest19
          case hy19 =>
            intro X hX
            go_simp
            try rfl
          simp only [Act.put, List.setIfInBounds_toArray, List.set_cons_zero, List.set_cons_succ]
          refine' hw_take 15 (some 27) _ rfl rfl (by kernel_rfl) (by kernel_rfl) (by kernel_rfl) (fun _ _ _ h => h) (by rfl) hH ?hy20 ?rest20
          case hy20 =>
            intro X hX
            go_simp
            try rfl
          simp only [Act.put, List.setIfInBounds_toArray, List.set_cons_zero, List.set_cons_succ]
          refine wpAnyH_done (by kernel_rfl) ?_ _
          have nd := hnw.trans d1
          have hrowd := row_turn7 hrow d1 (fun _ _ f => f)
          clear q0 q3 q4 q5 q6 q7 hrow
          have q1d := (d1.below.cell (World.block_lt_of_cell? _ _ q1)).trans q1
          have q2d := (d1.below.cell (World.block_lt_of_cell? _ _ q2)).trans q2
          generalize wr.drew = wd at *
          go_wp2_with fail
          refine (l7Best_any a l (some ⟨b, off, none⟩) N cc V _ (HA.out _ nd) HN.out hm).mono ?_
          rintro e w1 ⟨tt, rfl, hLb, h1⟩
          obtain ⟨i, v, rfl, hiv, hkv, hbst⟩ : ∃ (i : Nat) (v : Rv), tt = (i : Int) ∧ V[i]? = some v ∧ keepS a l v.r = true ∧ ∀ j u, j < N → V[j]? = some u → keepS a l u.r = true → ¬ cW u.r v.r < 0 := by
            rcases hLb with ⟨-, hno⟩ | hsome
            · have e := hno k _ hlt HV.out
              unfold keepS at e
              simp at e
            · exact hsome
          have hkk := of_decide_eq_true hkv
          have hBf : BfOk (V.map Rv.r) a l 0 v.r := by
            refine .inr ⟨rfl, List.mem_map_of_mem (List.mem_of_getElem? hiv), hkv, fun s hs hks => ?_⟩
            obtain ⟨u, hu, rfl⟩ := List.mem_map.1 hs
            obtain ⟨j, hj⟩ := List.getElem?_of_mem hu
            have g1 := hbst j u (by have := (List.getElem?_eq_some_iff.1 hj).1; have := HN.out; omega) hj hks
            unfold cW at g1
            have g2 := of_decide_eq_true hks
            rw [hcmp_lt]
            omega
          have HS : Hid (PreOk V (k + 1) (U ++ [v])) := HPRE.out.new HR.out HV.out HNW.out hBf (List.mem_of_getElem? hiv) hkk.1.symm hkk.2.symm
          have hii := (List.getElem?_eq_some_iff.1 hiv).1
          have hiN : i < N := by have := HN.out; omega
          have hi0' : (0 : Int) ≤ (i : Int) := by omega
          have hi1' : (i : Int) < (N : Int) := by omega
          obtain ⟨b9, off9, p9, a9, l9, o9, nx9, md9, lc9, x9, m9, d9, xs9, hA9, hv9, hlen9, -, -, -, z0, z1, z2, z3, z4, z5, z6, z7⟩ := (HA.out _ (nd.trans h1)).at i hii
          simp only [Option.some.injEq, Addr.mk.injEq, and_true] at hA9
          obtain ⟨rfl, rfl⟩ := hA9
          subst hlen9
          rw [hiv] at hv9
          obtain rfl := Option.some.inj hv9
          have n1 := nd.trans h1
          have hrow1 := row_turn7 hrowd h1 (fun _ _ f => f)
          have bL := Blk.mk w1 w1.heap.size 31 #[.int .i64 p9, .int .i64 a9, .int .i64 l9, .int .i64 o9, .slice x9 xs9.length d9, .int .i64 nx9, .int .i64 md9, .int .i64 lc9] rfl
          have aL := (New.refl w1).alloc (.cells #[.int .i64 p9, .int .i64 a9, .int .i64 l9, .int .i64 o9, .slice x9 xs9.length d9, .int .i64 nx9, .int .i64 md9, .int .i64 lc9] 31)
          have hrow3 := row_turn7 hrow1 aL (fun _ _ f => f)
          have hsz : w.heap.size ≤ (w1.alloc (.cells #[.int .i64 p9, .int .i64 a9, .int .i64 l9, .int .i64 o9, .slice x9 xs9.length d9, .int .i64 nx9, .int .i64 md9, .int .i64 lc9] 31)).heap.size := (n1.trans aL).size
          have hsrc : ∀ j, (w1.alloc (.cells #[.int .i64 p9, .int .i64 a9, .int .i64 l9, .int .i64 o9, .slice x9 xs9.length d9, .int .i64 nx9, .int .i64 md9, .int .i64 lc9] 31)).cell? ⟨w1.heap.size, j, none⟩ = (Rv.mk (Rt.mk p9 a9 l9 o9 xs9 nx9 md9 lc9) x9 d9).cs[j]? := by
            intro j
            rw [bL.cells j]
            unfold Rv.cs
            simp
          clear hbst hkv hkk hBf hiv hLb bL q1d q2d
          go_wp2_with (at_builtin; refine wpList_apT _ rfl (.tmp 28) (.tmp 39) rfl w.heap.size _ Try.underlying35 hi hz0 hz1 hz2 rfl _ U rfl hrow3 w1.heap.size (Rv.mk (Rt.mk p9 a9 l9 o9 xs9 nx9 md9 lc9) x9 d9) rfl hsrc (by have := HLK.out; omega) hsz ?_)
          intro v5 w5 hr5 hg5 _
          have N5 : New w w5 := ((n1.trans aL).grow hg5 (fun j hj => (row_rng7 hrow3 j hj).1))
          clear hg5 hrow3 hsrc hrow1 hrowd
          go_wp2
          go_roundw
          case rel => exact ⟨k + 1, U ++ [⟨⟨p9, a9, l9, o9, xs9, nx9, md9, lc9⟩, x9, d9⟩], by omega, by go_num, by rw [List.length_append]; have := HLK.out; simp; omega, (by rw [List.length_append]; exact hr5), HS.out, N5⟩
          case measure => simp [intOf]; omega
        case pos =>
          by_cases hl : l = l'
          case neg =>
            have HNW : Hid (k = 0 ∨ ∀ v', V[k - 1]? = some v' → ¬ (a = v'.r.a ∧ l = v'.r.l)) := .inr (fun v' hv' e => by rw [HV'.out] at hv'; obtain rfl := Option.some.inj hv'; exact hl e.2)
            subst ha
            go_upto_region 5 with fail
            refine hw_start (n := 16) (S := fun X => New wr X) rfl (by kernel_rfl) ((New.refl wr).drew) (fun hH => ?_)
            refine' hw_take 0 (some 12) _ rfl rfl (by kernel_rfl) (by kernel_rfl) (by kernel_rfl) (fun _ _ _ h => h) (by rfl) hH ?hy21 ?rest21
            case hy21 =>
              intro X hX
              go_simp
              try rfl
            simp only [Act.put, List.setIfInBounds_toArray, List.set_cons_zero, List.set_cons_succ]
            refine' hw_take 1 (some 13) _ rfl rfl (by kernel_rfl) (by kernel_rfl) (by kernel_rfl) (fun _ _ _ h => h) (by rfl) hH ?hy22 ?rest22
            case hy22 =>
              intro X hX
              go_simp
              try rfl
            simp only [Act.put, List.setIfInBounds_toArray, List.set_cons_zero, List.set_cons_succ]
            refine' hw_take 2 (some 14) _ rfl rfl (by kernel_rfl) (by kernel_rfl) (by kernel_rfl) (fun _ _ _ h => h) (by rfl) hH ?hy23 ?rest23
            case hy23 =>
              intro X hX
              go_simp
              try rfl
            simp only [Act.put, List.setIfInBounds_toArray, List.set_cons_zero, List.set_cons_succ]
            refine' hw_take 3 (some 15) _ rfl rfl (by kernel_rfl) (by kernel_rfl) (by kernel_rfl) (fun _ _ _ h => h) (by rfl) hH ?hy24 ?rest24
            case hy24 =>
              intro X hX
              go_simp
              try rfl
            simp only [Act.put, List.setIfInBounds_toArray, List.set_cons_zero, List.set_cons_succ]
            refine' hw_take 4 (some 16) _ rfl rfl (by kernel_rfl) (by kernel_rfl) (by kernel_rfl) (fun _ _ _ h => h) (by rfl) hH ?hy25 ?rest25
            case hy25 =>
              intro X hX
              go_simp
              try rfl
            simp only [Act.put, List.setIfInBounds_toArray, List.set_cons_zero, List.set_cons_succ]
            refine' hw_take 5 (some 17) _ rfl rfl (by kernel_rfl) (by kernel_rfl) (by kernel_rfl) (fun _ _ _ h => h) (by rfl) hH ?hy26 ?rest26
            case hy26 =>
              intro X hX
              go_simp
              try rfl
            simp only [Act.put, List.setIfInBounds_toArray, List.set_cons_zero, List.set_cons_succ]
            refine' hw_take 6 (some 18) _ rfl rfl (by kernel_rfl) (by kernel_rfl) (by kernel_rfl) (fun _ _ _ h => h) (by rfl) hH ?hy27 ?rest27
            case hy27 =>
              intro X hX
              go_simp
              try rfl
            simp only [Act.put, List.setIfInBounds_toArray, List.set_cons_zero, List.set_cons_succ]
            refine' hw_take 7 (some 19) _ rfl rfl (by kernel_rfl) (by kernel_rfl) (by kernel_rfl) (fun _ _ _ h => h) (by rfl) hH ?hy28 ?rest28
            case hy28 =>
              intro X hX
              have q1X := (hX.below.cell (World.block_lt_of_cell? _ _ q1)).trans q1
              have q2X := (hX.below.cell (World.block_lt_of_cell? _ _ q2)).trans q2
              go_simp
              try rfl
            simp only [Act.put, List.setIfInBounds_toArray, List.set_cons_zero, List.set_cons_succ]
            refine' hw_take 8 (some 20) _ rfl rfl (by kernel_rfl) (by kernel_rfl) (by kernel_rfl) (fun _ _ _ h => h) (by rfl) hH ?hy29 ?rest29
            case hy29 =>
              intro X hX
              go_simp
              try rfl
            simp only [Act.put, List.setIfInBounds_toArray, List.set_cons_zero, List.set_cons_succ]
            refine' hw_take 9 (some 21) _ rfl rfl (by kernel_rfl) (by kernel_rfl) (by kernel_rfl) (fun _ _ _ h => h) (by rfl) hH ?hy30 ?rest30
            case hy30 =>
              intro X hX
              go_simp
              try rfl
            simp only [Act.put, List.setIfInBounds_toArray, List.set_cons_zero, List.set_cons_succ]
            refine' hw_take 10 (some 22) _ rfl rfl (by kernel_rfl) (by kernel_rfl) (by kernel_rfl) (fun _ _ _ h => h) (by rfl) hH ?hy31 ?rest31
            case hy31 =>
              intro X hX
              go_simp
              try rfl
            simp only [Act.put, List.setIfInBounds_toArray, List.set_cons_zero, List.set_cons_succ]
            refine' hw_take 11 (some 23) _ rfl rfl (by kernel_rfl) (by kernel_rfl) (by kernel_rfl) (fun _ _ _ h => h) (by rfl) hH ?hy32 ?rest32
            case hy32 =>
              intro X hX
              go_simp
              try rfl
            simp only [Act.put, List.setIfInBounds_toArray, List.set_cons_zero, List.set_cons_succ]
            refine' hw_take 12 (some 24) _ rfl rfl (by kernel_rfl) (by kernel_rfl) (by kernel_rfl) (fun _ _ _ h => h) (by rfl) hH ?hy33 ?rest33
            case hy33 =>
              intro X hX
              go_simp
              try rfl
            simp only [Act.put, List.setIfInBounds_toArray, List.set_cons_zero, List.set_cons_succ]
            refine' hw_take 13 (some 25) _ rfl rfl (by kernel_rfl) (by kernel_rfl) (by kernel_rfl) (fun _ _ _ h => h) (by rfl) hH ?hy34 ?rest34
            case hy34 =>
              intro X hX
              have y1X := (hX.below.cell (World.block_lt_of_cell? _ _ y1)).trans y1
              have y2X := (hX.below.cell (World.block_lt_of_cell? _ _ y2)).trans y2
              go_simp
              try rfl
            simp only [Act.put, List.setIfInBounds_toArray, List.set_cons_zero, List.set_cons_succ]
            refine' hw_take 14 (some 26) _ rfl rfl (by kernel_rfl) (by kernel_rfl) (by kernel_rfl) (fun _ _ _ h => h) (by rfl) hH ?hy35 ?rest35
            case hy35 =>
              intro X hX
              go_simp
              try rfl
            simp only [Act.put, List.setIfInBounds_toArray, List.set_cons_zero, List.set_cons_succ]
            refine' hw_take 15 (some 27) _ rfl rfl (by kernel_rfl) (by kernel_rfl) (by kernel_rfl) (fun _ _ _ h => h) (by rfl) hH ?hy36 ?rest36
            case hy36 =>
              intro X hX
              go_simp
              try rfl
            simp only [Act.put, List.setIfInBounds_toArray, List.set_cons_zero, List.set_cons_succ]
            refine wpAnyH_done (by kernel_rfl) ?_ _
            have nd := hnw.trans d1
            have hrowd := row_turn7 hrow d1 (fun _ _ f => f)
            clear q0 q3 q4 q5 q6 q7 hrow
            have q1d := (d1.below.cell (World.block_lt_of_cell? _ _ q1)).trans q1
            have q2d := (d1.below.cell (World.block_lt_of_cell? _ _ q2)).trans q2
            generalize wr.drew = wd at *
            go_wp2_with fail
            refine (l7Best_any a l (some ⟨b, off, none⟩) N cc V _ (HA.out _ nd) HN.out hm).mono ?_
            rintro e w1 ⟨tt, rfl, hLb, h1⟩
            obtain ⟨i, v, rfl, hiv, hkv, hbst⟩ : ∃ (i : Nat) (v : Rv), tt = (i : Int) ∧ V[i]? = some v ∧ keepS a l v.r = true ∧ ∀ j u, j < N → V[j]? = some u → keepS a l u.r = true → ¬ cW u.r v.r < 0 := by
              rcases hLb with ⟨-, hno⟩ | hsome
              · have e := hno k _ hlt HV.out
                unfold keepS at e
                simp at e
              · exact hsome
            have hkk := of_decide_eq_true hkv
            have hBf : BfOk (V.map Rv.r) a l 0 v.r := by
              refine .inr ⟨rfl, List.mem_map_of_mem (List.mem_of_getElem? hiv), hkv, fun s hs hks => ?_⟩
              obtain ⟨u, hu, rfl⟩ := List.mem_map.1 hs
              obtain ⟨j, hj⟩ := List.getElem?_of_mem hu
              have g1 := hbst j u (by have := (List.getElem?_eq_some_iff.1 hj).1; have := HN.out; omega) hj hks
              unfold cW at g1
              have g2 := of_decide_eq_true hks
              rw [hcmp_lt]
              omega
            have HS : Hid (PreOk V (k + 1) (U ++ [v])) := HPRE.out.new HR.out HV.out HNW.out hBf (List.mem_of_getElem? hiv) hkk.1.symm hkk.2.symm
            have hii := (List.getElem?_eq_some_iff.1 hiv).1
            have hiN : i < N := by have := HN.out; omega
            have hi0' : (0 : Int) ≤ (i : Int) := by omega
            have hi1' : (i : Int) < (N : Int) := by omega
            obtain ⟨b9, off9, p9, a9, l9, o9, nx9, md9, lc9, x9, m9, d9, xs9, hA9, hv9, hlen9, -, -, -, z0, z1, z2, z3, z4, z5, z6, z7⟩ := (HA.out _ (nd.trans h1)).at i hii
            simp only [Option.some.injEq, Addr.mk.injEq, and_true] at hA9
            obtain ⟨rfl, rfl⟩ := hA9
            subst hlen9
            rw [hiv] at hv9
            obtain rfl := Option.some.inj hv9
            have n1 := nd.trans h1
            have hrow1 := row_turn7 hrowd h1 (fun _ _ f => f)
            have bL := Blk.mk w1 w1.heap.size 31 #[.int .i64 p9, .int .i64 a9, .int .i64 l9, .int .i64 o9, .slice x9 xs9.length d9, .int .i64 nx9, .int .i64 md9, .int .i64 lc9] rfl
            have aL := (New.refl w1).alloc (.cells #[.int .i64 p9, .int .i64 a9, .int .i64 l9, .int .i64 o9, .slice x9 xs9.length d9, .int .i64 nx9, .int .i64 md9, .int .i64 lc9] 31)
            have hrow3 := row_turn7 hrow1 aL (fun _ _ f => f)
            have hsz : w.heap.size ≤ (w1.alloc (.cells #[.int .i64 p9, .int .i64 a9, .int .i64 l9, .int .i64 o9, .slice x9 xs9.length d9, .int .i64 nx9, .int .i64 md9, .int .i64 lc9] 31)).heap.size := (n1.trans aL).size
            have hsrc : ∀ j, (w1.alloc (.cells #[.int .i64 p9, .int .i64 a9, .int .i64 l9, .int .i64 o9, .slice x9 xs9.length d9, .int .i64 nx9, .int .i64 md9, .int .i64 lc9] 31)).cell? ⟨w1.heap.size, j, none⟩ = (Rv.mk (Rt.mk p9 a9 l9 o9 xs9 nx9 md9 lc9) x9 d9).cs[j]? := by
              intro j
              rw [bL.cells j]
              unfold Rv.cs
              simp
            clear hbst hkv hkk hBf hiv hLb bL q1d q2d
            go_wp2_with (at_builtin; refine wpList_apT _ rfl (.tmp 28) (.tmp 39) rfl w.heap.size _ Try.underlying35 hi hz0 hz1 hz2 rfl _ U rfl hrow3 w1.heap.size (Rv.mk (Rt.mk p9 a9 l9 o9 xs9 nx9 md9 lc9) x9 d9) rfl hsrc (by have := HLK.out; omega) hsz ?_)
            intro v5 w5 hr5 hg5 _
            have N5 : New w w5 := ((n1.trans aL).grow hg5 (fun j hj => (row_rng7 hrow3 j hj).1))
            clear hg5 hrow3 hsrc hrow1 hrowd
            go_wp2
            go_roundw
            case rel => exact ⟨k + 1, U ++ [⟨⟨p9, a9, l9, o9, xs9, nx9, md9, lc9⟩, x9, d9⟩], by omega, by go_num, by rw [List.length_append]; have := HLK.out; simp; omega, (by rw [List.length_append]; exact hr5), HS.out, N5⟩
            case measure => simp [intOf]; omega
          case pos =>
            have HS : Hid (PreOk V (k + 1) U) := HPRE.out.same HV.out HV'.out HZ.out ha hl
            subst ha
            subst hl
            have hrowd := row_turn7 hrow d1 (fun _ _ f => f)
            go_upto_region 5 with fail
            refine hw_start (n := 16) (S := fun X => New wr X) rfl (by kernel_rfl) ((New.refl wr).drew) (fun hH => ?_)
            refine' hw_take 0 (some 12) _ rfl rfl (by kernel_rfl) (by kernel_rfl) (by kernel_rfl) (fun _ _ _ h => h) (by rfl) hH ?hy37 ?rest37
            case hy37 =>
              intro X hX
              go_simp
              try rfl
            simp only [Act.put, List.setIfInBounds_toArray, List.set_cons_zero, List.set_cons_succ]
            refine' hw_take 1 (some 13) _ rfl rfl (by kernel_rfl) (by kernel_rfl) (by kernel_rfl) (fun _ _ _ h => h) (by rfl) hH ?hy38 ?rest38
            case hy38 =>
              intro X hX
              go_simp
              try rfl
            simp only [Act.put, List.setIfInBounds_toArray, List.set_cons_zero, List.set_cons_succ]
            refine' hw_take 2 (some 14) _ rfl rfl (by kernel_rfl) (by kernel_rfl) (by kernel_rfl) (fun _ _ _ h => h) (by rfl) hH ?hy39 ?rest39
            case hy39 =>
              intro X hX
              go_simp
              try rfl
            simp only [Act.put, List.setIfInBounds_toArray, List.set_cons_zero, List.set_cons_succ]
            refine' hw_take 3 (some 15) _ rfl rfl (by kernel_rfl) (by kernel_rfl) (by kernel_rfl) (fun _ _ _ h => h) (by rfl) hH ?hy40 ?rest40
            case hy40 =>
              intro X hX
              go_simp
              try rfl
            simp only [Act.put, List.setIfInBounds_toArray, List.set_cons_zero, List.set_cons_succ]
            refine' hw_take 4 (some 16) _ rfl rfl (by kernel_rfl) (by kernel_rfl) (by kernel_rfl) (fun _ _ _ h => h) (by rfl) hH ?hy41 ?rest41
            case hy41 =>
              intro X hX
              go_simp
              try rfl
            simp only [Act.put, List.setIfInBounds_toArray, List.set_cons_zero, List.set_cons_succ]
            refine' hw_take 5 (some 17) _ rfl rfl (by kernel_rfl) (by kernel_rfl) (by kernel_rfl) (fun _ _ _ h => h) (by rfl) hH ?hy42 ?rest42
            case hy42 =>
              intro X hX
              go_simp
              try rfl
            simp only [Act.put, List.setIfInBounds_toArray, List.set_cons_zero, List.set_cons_succ]
            refine' hw_take 6 (some 18) _ rfl rfl (by kernel_rfl) (by kernel_rfl) (by kernel_rfl) (fun _ _ _ h => h) (by rfl) hH ?hy43 ?rest43
            case hy43 =>
              intro X hX
              go_simp
              try rfl
            simp only [Act.put, List.setIfInBounds_toArray, List.set_cons_zero, List.set_cons_succ]
            refine' hw_take 7 (some 19) _ rfl rfl (by kernel_rfl) (by kernel_rfl) (by kernel_rfl) (fun _ _ _ h => h) (by rfl) hH ?hy44 ?rest44
            case hy44 =>
              intro X hX
              have q1X := (hX.below.cell (World.block_lt_of_cell? _ _ q1)).trans q1
              have q2X := (hX.below.cell (World.block_lt_of_cell? _ _ q2)).trans q2
              go_simp
              try rfl
            simp only [Act.put, List.setIfInBounds_toArray, List.set_cons_zero, List.set_cons_succ]
            refine' hw_take 8 (some 20) _ rfl rfl (by kernel_rfl) (by kernel_rfl) (by kernel_rfl) (fun _ _ _ h => h) (by rfl) hH ?hy45 ?rest45
            case hy45 =>
              intro X hX
              go_simp
              try rfl
            simp only [Act.put, List.setIfInBounds_toArray, List.set_cons_zero, List.set_cons_succ]
            refine' hw_take 9 (some 21) _ rfl rfl (by kernel_rfl) (by kernel_rfl) (by kernel_rfl) (fun _ _ _ h => h) (by rfl) hH ?hy46 ?rest46
            case hy46 =>
              intro X hX
              go_simp
              try rfl
            simp only [Act.put, List.setIfInBounds_toArray, List.set_cons_zero, List.set_cons_succ]
            refine' hw_take 10 (some 22) _ rfl rfl (by kernel_rfl) (by kernel_rfl) (by kernel_rfl) (fun _ _ _ h => h) (by rfl) hH ?hy47 ?rest47
            case hy47 =>
              intro X hX
              go_simp
              try rfl
            simp only [Act.put, List.setIfInBounds_toArray, List.set_cons_zero, List.set_cons_succ]
            refine' hw_take 11 (some 23) _ rfl rfl (by kernel_rfl) (by kernel_rfl) (by kernel_rfl) (fun _ _ _ h => h) (by rfl) hH ?hy48 ?rest48
            case hy48 =>
              intro X hX
              go_simp
              try rfl
            simp only [Act.put, List.setIfInBounds_toArray, List.set_cons_zero, List.set_cons_succ]
            refine' hw_take 12 (some 24) _ rfl rfl (by kernel_rfl) (by kernel_rfl) (by kernel_rfl) (fun _ _ _ h => h) (by rfl) hH ?hy49 ?rest49
            case hy49 =>
              intro X hX
              go_simp
              try rfl
            simp only [Act.put, List.setIfInBounds_toArray, List.set_cons_zero, List.set_cons_succ]
            refine' hw_take 13 (some 25) _ rfl rfl (by kernel_rfl) (by kernel_rfl) (by kernel_rfl) (fun _ _ _ h => h) (by rfl) hH ?hy50 ?rest50
            case hy50 =>
              intro X hX
              have y1X := (hX.below.cell (World.block_lt_of_cell? _ _ y1)).trans y1
              have y2X := (hX.below.cell (World.block_lt_of_cell? _ _ y2)).trans y2
              go_simp
              try rfl
            simp only [Act.put, List.setIfInBounds_toArray, List.set_cons_zero, List.set_cons_succ]
            refine' hw_take 14 (some 26) _ rfl rfl (by kernel_rfl) (by kernel_rfl) (by kernel_rfl) (fun _ _ _ h => h) (by rfl) hH ?hy51 ?rest51
            case hy51 =>
              intro X hX
              go_simp
              try rfl
            simp only [Act.put, List.setIfInBounds_toArray, List.set_cons_zero, List.set_cons_succ]
            refine' hw_take 15 (some 27) _ rfl rfl (by kernel_rfl) (by kernel_rfl) (by kernel_rfl) (fun _ _ _ h => h) (by rfl) hH ?hy52 ?rest52
            case hy52 =>
              intro X hX
              go_simp
              try rfl
            simp only [Act.put, List.setIfInBounds_toArray, List.set_cons_zero, List.set_cons_succ]
            refine wpAnyH_done (by kernel_rfl) ?_ _
            go_wp2
            go_roundw
            case rel => exact ⟨k + 1, U, by omega, by go_num, by have := HLK.out; omega, hrowd, HS.out, hnw.trans d1⟩
            case measure => simp [intOf]; omega

end Go.Proofs.Ytkaaefieglhdlaa

namespace Go.Proofs.Ytkaaefieglhdlaa
open Go.RowKit Go.Sort
set_option linter.unusedVariables false
set_option linter.unusedSimpArgs false
set_option maxRecDepth 100000

/-- The answer: the list's fault, or the bests of all prefixes. -/
def AlA (R : List Rt) (z : Int) (U : List Rt) : Prop := (¬ ribF R = 0 ∧ z = ribF R ∧ U = []) ∨ (ribF R = 0 ∧ z = 0 ∧ AllOk R U)
theorem AlA.det {R U T : List Rt} {z y : Int} (h : AlA R z U) (k : AlA R y T) : z = y ∧ U = T := by
  rcases h with ⟨h1, h2, h3⟩ | ⟨h1, h2, h3⟩
  · rcases k with ⟨k1, k2, k3⟩ | ⟨k1, k2, k3⟩
    · exact ⟨by omega, by rw [h3, k3]⟩
    · exact absurd k1 h1
  · rcases k with ⟨k1, k2, k3⟩ | ⟨k1, k2, k3⟩
    · exact absurd h1 k1
    · exact ⟨by omega, AllOk.det h1 h3 k3⟩

/-- The answer as a value of the call's own. -/
def AAns (w : World) (R : List Rt) (e : Ending) (w' : World) : Prop := ∃ z A n c U, AlA R z (U.map Rv.r) ∧ e = .returned (.agg #[.int .i64 z, .slice A n c]) ∧ U.length = n ∧ OwT w' w.heap.size w'.heap.size (.slice A n c) U ∧ New w w'

theorem two8t (W : World) (B j1 j2 : Nat) (v1 v2 : Value) : Turn (fun k => k = B) W ((W.setCell ⟨B, j1, none⟩ v1).setCell ⟨B, j2, none⟩ v2) := Turn.set (S := fun k => k = B) (Turn.set (S := fun k => k = B) (Turn.refl (fun k => k = B) W) rfl v1) rfl v2
theorem AAns.bad {w W : World} {R : List Rt} {z : Int} {B j1 j2 : Nat} {v1 v2 : Value} (h : ¬ ribF R = 0 ∧ z = ribF R) (n : New w W) (hB : w.heap.size ≤ B) : AAns w R (.returned (.agg #[.int .i64 z, .slice none 0 0])) ((W.setCell ⟨B, j1, none⟩ v1).setCell ⟨B, j2, none⟩ v2) :=
  ⟨z, none, 0, 0, [], .inl ⟨h.1, h.2, rfl⟩, rfl, rfl, OwT.nil _ _ _, nine_new n (two8t W B j1 j2 v1 v2) hB⟩
theorem OwT.low8 {w : World} {lo lo' hi : Nat} {u : Value} {V : List Rv} (h : OwT w lo hi u V) (hh : lo' ≤ lo) : OwT w lo' hi u V := by
  refine ⟨⟨h.row.1, ?_⟩, h.rhi, h.path.low hh⟩
  rcases h.row.2 with e | ⟨g, cap, cur, h1, h2, r⟩
  · exact .inl e
  · exact .inr ⟨g, cap, cur, h1, by omega, r⟩
theorem AAns.good {w W : World} {R : List Rt} {B j1 j2 lo n c : Nat} {A : Option Addr} {v1 v2 : Value} {U : List Rv} (hR : ribF R = 0) (hA : AllOk R (U.map Rv.r)) (nw : New w W) (hB : w.heap.size ≤ B) (ho : OwT W lo W.heap.size (.slice A n c) U) (hlo : B < lo) (hn : U.length = n) : AAns w R (.returned (.agg #[.int .i64 0, .slice A n c])) ((W.setCell ⟨B, j1, none⟩ v1).setCell ⟨B, j2, none⟩ v2) := by
  have t := two8t W B j1 j2 v1 v2
  exact ⟨0, A, n, c, U, .inr ⟨hR, rfl, hA⟩, rfl, hn, ((ho.turn t (fun k hk _ e => by omega)).up t.size).low8 (by omega), nine_new nw t hB⟩

set_option maxHeartbeats 6400000 in
theorem specAll (A : Option Addr) (N cc : Nat) (V : List Rv) (w : World) (h : RtAt w A V) (hn : V.length = N) (hm : N ≤ 1048576) :
    Calls Try.prog 15 #[.slice A N cc] w (AAns w (V.map Rv.r)) := by
  have HN : Hid (V.length = N) := hn
  have HA : Hid (∀ X, New w X → RtAt X A V) := fun X hX => h.new hX
  have N0 : New w (w.alloc (.cells #[.int .i64 0, .slice none 0 0] 44)) := (New.refl w).alloc _
  have bB := Blk.mk w w.heap.size 44 #[.int .i64 0, .slice none 0 0] rfl
  obtain ⟨f, hf⟩ : ∃ f, Hid (ribF (V.map Rv.r) = f) := ⟨_, rfl⟩
  clear h hn
  go_enter Try.func15, Try.ntmps15
  go_upto_region 1 with fail
  generalize w.alloc (.cells #[.int .i64 0, .slice none 0 0] 44) = w0 at *
  go_wp2_with fail
  refine (specRib A N cc V f _ (HA.out _ N0) HN.out hm hf.out).mono ?_
  rintro e w1 ⟨rfl, h1⟩
  have b1 := bB.new h1
  have n1 := N0.trans h1
  have lt1 := b1.lt
  clear bB h1 N0
  by_cases h0 : f = 0
  case neg =>
    have hne : (f != 0) = true := by simpa using h0
    have HB : Hid (¬ ribF (V.map Rv.r) = 0 ∧ f = ribF (V.map Rv.r)) := ⟨by rw [hf.out]; exact h0, hf.out.symm⟩
    have c1 := b1.cells
    have f1 := b1.frees
    clear hf
    go_wp2
    exact bodyPost_ret (v := .agg #[.int .i64 f, .slice none 0 0]) (by simp [results, Try.results15, go_sem, c1]) rfl (AAns.bad HB.out n1 (Nat.le_refl _))
  subst h0
  go_wp2_with fail
  refine (l7All_any A N cc V _ (HA.out _ n1) HN.out hm hf.out).mono ?_
  rintro e w2 ⟨u, U, rfl, hrow, hsub, hall, hUN, h2⟩
  have HALL : Hid (AllOk (V.map Rv.r) (U.map Rv.r)) := hall
  have b2 := b1.new h2
  have n2 := n1.trans h2
  have lt2 := b2.lt
  have hh : ∀ v ∈ U, v.here w2 := fun v hv => by
    obtain ⟨i, hi⟩ := List.getElem?_of_mem (hsub v hv)
    exact (HA.out w2 n2 i v hi).2
  obtain ⟨A3, c3, hu3, hr3⟩ : ∃ A3 c3, u = .slice A3 U.length c3 ∧ RtAt w2 A3 U := by
    rcases row_form7 hrow with ⟨e1, e2⟩ | ⟨g, c, e1, -, -, ho⟩
    · subst e2
      exact ⟨none, 0, e1, RtAt.nil _ _⟩
    · exact ⟨_, c, e1, ho.rt hh⟩
  subst hu3
  clear hrow hsub hall hh b1 n1 h2
  go_wp2_with fail
  refine (l7Copy_any A3 U.length c3 U _ hr3 rfl (by omega)).mono ?_
  rintro e w3 ⟨u4, V4, rfl, hm4, ho4, h3⟩
  have b3 := b2.new h3
  have n3 := n2.trans h3
  obtain ⟨A4, c4, rfl, -, -⟩ := ho4.form
  have HAL4 : Hid (AllOk (V.map Rv.r) (V4.map Rv.r)) := by rw [hm4]; exact HALL.out
  have hf0 : Hid (ribF (V.map Rv.r) = 0) := hf.out
  clear hf hr3 hm4 HALL b2 n2 h3
  have c1 := b3.cells
  have f1 := b3.frees
  go_wp2
  exact bodyPost_ret (v := .agg #[.int .i64 0, .slice A4 V4.length c4]) (by simp [results, Try.results15, go_sem, c1]) rfl (AAns.good hf0.out HAL4.out n3 (Nat.le_refl _) ho4 (by omega) rfl)

end Go.Proofs.Ytkaaefieglhdlaa

namespace Go.Proofs.Ytkaaefieglhdlaa
open Go.RowKit Go.Sort
set_option linter.unusedVariables false

theorem PathsT.pick {w : World} {lo hi : Nat} {V U : List Rv} (h : PathsT w lo hi V) (hs : ∀ v ∈ U, v ∈ V) (hp : (U.map Rv.r).Pairwise pLt) : PathsT w lo hi U := by
  refine ⟨fun v hv => h.own v (hs v hv), fun v hv => h.bd v (hs v hv), fun v hv => h.lies v (hs v hv), fun i j u v k hi hj hne hu => ?_⟩
  obtain ⟨i', hi'⟩ := List.getElem?_of_mem (hs u (List.mem_of_getElem? hi))
  obtain ⟨j', hj'⟩ := List.getElem?_of_mem (hs v (List.mem_of_getElem? hj))
  have hd : ¬ i' = j' := by
    rintro rfl
    rw [hi'] at hj'
    obtain rfl := Option.some.inj hj'
    obtain ⟨hiL, hie⟩ := List.getElem?_eq_some_iff.1 hi
    obtain ⟨hjL, hje⟩ := List.getElem?_eq_some_iff.1 hj
    rcases Nat.lt_trichotomy i j with e | e | e
    · have g := List.pairwise_iff_getElem.1 hp i j (by simpa using hiL) (by simpa using hjL) e
      rw [List.getElem_map, List.getElem_map, hie, hje] at g
      unfold pLt at g
      omega
    · exact hne e
    · have g := List.pairwise_iff_getElem.1 hp j i (by simpa using hjL) (by simpa using hiL) e
      rw [List.getElem_map, List.getElem_map, hie, hje] at g
      unfold pLt at g
      omega
  exact h.apart i' j' u v k hi' hj' hd hu

/-- A row of the call's own and paths that lie before it. -/
theorem OwT.of_row {w : World} {lo lo' hi : Nat} {u : Value} {U : List Rv} (hr : w.ownsRow lo' 31 8 u U.length (cellsT U)) (hl : lo ≤ lo') (hp : PathsT w lo hi U) (hh : hi ≤ w.heap.size) : OwT w lo w.heap.size u U := by
  refine ⟨⟨hr.1, ?_⟩, fun k hk => (row_rng7 hr k hk).2, hp.up hh⟩
  rcases hr.2 with e | ⟨g, cap, cur, h1, h2, r⟩
  · exact .inl e
  · exact .inr ⟨g, cap, cur, h1, by omega, r⟩

end Go.Proofs.Ytkaaefieglhdlaa

namespace Go.Proofs.Ytkaaefieglhdlaa
open Go.RowKit Go.Sort Go.Shelf
set_option linter.unusedVariables false
set_option linter.unusedSimpArgs false
set_option maxRecDepth 100000
attribute [local go_sem] Oper.semAt_some

/-- How many routes the heap at H has. -/
def hpLen (H : Nat) (w : World) : Nat := match w.cell? ⟨H, 0, none⟩ with | some (.slice _ n _) => n | _ => 0
theorem HpAt.len8 {w : World} {H b c : Nat} {V : List Rv} (h : HpAt w H b c V) : hpLen H w = V.length := by
  have e : w.cell? ⟨H, 0, none⟩ = some (.slice (some ⟨b, 0, none⟩) V.length c) := h.hd.cells 0
  unfold hpLen
  rw [e]

set_option maxHeartbeats 6400000 in
theorem top8_all (l H b c : Nat) (V : List Rv) (W : World) (J : List Rv → World → Prop) (hp : HpAt W H b c V) (hm : V.length ≤ 1048576) (hu : hpOK hlt (hf V) V.length) (h0 : J [] W)
    (hJ : ∀ pre A B, J pre A → Turn (fun k => k = b ∨ k = H) A B → J pre B)
    (hY : ∀ pre x R W1, (pre ++ x :: R).Perm V → (∀ y ∈ pre, ¬ hlt x y) → pre.Pairwise (fun y z => ¬ hlt z y) → J pre W1 → HpAt W1 H b c R → YieldAt Fence.wide (3 - 1) Try.prog l #[x.val] W1 fun e W2 => e = .returned (.bool true) ∧ J (pre ++ [x]) W2 ∧ HpAt W2 H b c R) :
    CallsIn Fence.wide 3 Try.prog 31 #[.pointer (some ⟨H, 0, none⟩), .func (.yield l) #[] #[]] W fun e W' => (∃ v, e = .returned v) ∧ ∃ ys, ys.Perm V ∧ ys.Pairwise (fun y z => ¬ hlt z y) ∧ J ys W' := by
  have hro : Fence.wide.round = none := rfl
  refine callsIn_of_wp Try.func31 rfl trivial ?_ hro
  simp only [Try.ntmps31, List.size_toArray, List.length_cons, List.length_nil, Nat.reduceAdd, Nat.reduceSub, Array.replicate_succ, Array.replicate_zero, List.push_toArray, List.append_toArray, List.nil_append, List.cons_append]
  gi_wp2
  gi_loopw [4] (fun p wr => ∃ (pre R : List Rv), (pre ++ R).Perm V ∧ HpAt wr H b c R ∧ hpOK hlt (hf R) R.length ∧ (∀ x ∈ pre, ∀ y ∈ R, ¬ hlt y x) ∧ pre.Pairwise (fun y z => ¬ hlt z y) ∧ J pre wr) (fun _ wr => hpLen H wr)
  case atStart => exact ⟨[], V, List.Perm.refl _, hp, hu, (by intro x hx; cases hx), List.Pairwise.nil, h0⟩
  case round =>
    obtain ⟨pre, R, hpm, hpR, huR, hle, hpw, hJ0⟩ := hrel
    have HPM : Hid ((pre ++ R).Perm V) := hpm
    have HLE : Hid (∀ x ∈ pre, ∀ y ∈ R, ¬ hlt y x) := hle
    have HPW : Hid (pre.Pairwise (fun y z => ¬ hlt z y)) := hpw
    have hlR : R.length ≤ V.length := by have e := hpm.length_eq; rw [List.length_append] at e; omega
    have HML : Hid (hpLen H wr = R.length) := hpR.len8
    clear hpm hle hpw
    rcases Nat.eq_zero_or_pos R.length with e0 | e0
    · obtain rfl := List.eq_nil_of_length_eq_zero e0
      gi_wp2_with fail
      refine ⟨trivial, ?_⟩
      refine (callsIn_wide.2 (len_heap H b c [] 0 _ hpR rfl)).mono ?_
      rintro e w2 ⟨rfl, rfl⟩
      gi_wp2
      refine ⟨trivial, ?_⟩
      gi_wp2
      refine ⟨fun _ h => (by cases h), ?_⟩
      gi_wp2
      refine bodyPost_end (results_none rfl _ _ _) rfl ?_
      exact ⟨⟨_, rfl⟩, pre, by have h := HPM.out; rw [List.append_nil] at h; exact h, HPW.out, hJ0⟩
    · obtain ⟨n, hn⟩ : ∃ n, R.length = n + 1 := ⟨R.length - 1, by omega⟩
      have huR' : hpOK hlt (hf R) (n + 1) := by rw [← hn]; exact huR
      have hmn : n + 1 ≤ 1048576 := by omega
      gi_wp2_with fail
      refine ⟨trivial, ?_⟩
      refine (callsIn_wide.2 (len_heap H b c R (n + 1) _ hpR hn)).mono ?_
      rintro e w2 ⟨rfl, rfl⟩
      gi_wp2_with fail
      refine ⟨trivial, ?_⟩
      refine (callsIn_wide.2 (pop_heap H b c R n _ hpR hn hmn huR')).mono ?_
      rintro e w3 ⟨rfl, R', hp3, hl3, hpm3, hk3, ht⟩
      have HLn : Hid (R'.length = n) := hl3
      have h0R : R[0]? = some (hf R 0) := hf_at (by omega)
      have hmin : ∀ y ∈ R, ¬ hlt y (hf R 0) := fun y hy => by
        obtain ⟨i, hi⟩ := List.getElem?_of_mem hy
        have hil := (List.getElem?_eq_some_iff.1 hi).1
        have h := hp_top hlt_tr hlt_irr huR' i (by omega)
        rw [hf_get hi] at h
        exact h
      have hperm : (pre ++ hf R 0 :: R').Perm V := (List.Perm.append_left pre hpm3).trans HPM.out
      have hxm : hf R 0 ∈ R := List.mem_of_getElem? h0R
      have HNEW : Hid (∀ X, HpAt X H b c R' → J (pre ++ [hf R 0]) X → ∃ (pre' R2 : List Rv), (pre' ++ R2).Perm V ∧ HpAt X H b c R2 ∧ hpOK hlt (hf R2) R2.length ∧ (∀ x ∈ pre', ∀ y ∈ R2, ¬ hlt y x) ∧ pre'.Pairwise (fun y z => ¬ hlt z y) ∧ J pre' X) := by
        intro X hX hJX
        refine ⟨pre ++ [hf R 0], R', by rw [List.append_assoc]; exact hperm, hX, by rw [hl3]; exact hk3, fun x hx y hy => ?_, ?_, hJX⟩
        · have hyR : y ∈ R := hpm3.mem_iff.1 (List.mem_cons_of_mem _ hy)
          rcases List.mem_append.1 hx with hx | hx
          · exact HLE.out x hx y hyR
          · obtain rfl := List.mem_singleton.1 hx
            exact hmin y hyR
        · rw [List.pairwise_append]
          refine ⟨HPW.out, List.pairwise_singleton _ _, fun x hx y hy => ?_⟩
          obtain rfl := List.mem_singleton.1 hy
          exact HLE.out x hx _ hxm
      obtain ⟨fn, tmps, assign, body, hy, hR⟩ := hY pre (hf R 0) R' w3 hperm (fun y hy => HLE.out y hy _ hxm) HPW.out (hJ _ _ _ hJ0 ht) hp3
      clear hperm hmin h0R hxm hpm3 hk3 huR huR' hpR hJ0 hp3 hl3
      unfold Rv.val at hy
      unfold Rv.val
      have hta := Try.as_route
      gi_wp2
      refine hR.mono ?_
      rintro e w4 ⟨rfl, hJ4, hp4⟩
      have HL4 : Hid (hpLen H w4 = R'.length) := hp4.len8
      gi_wp2
      go_roundw
      case rel => exact HNEW.out _ hp4 hJ4
      case measure => rw [HL4.out, HML.out, HLn.out]; omega

end Go.Proofs.Ytkaaefieglhdlaa

namespace Go.Proofs.Ytkaaefieglhdlaa
open Go.RowKit
set_option linter.unusedVariables false

theorem uponIn_of_upon {P : Program} {l n : Nat} {Q : Exit → Act → World → Prop} (o : Oper) (a : Act) {next next' : Act → World → Prop} (hk : ∀ a w, next a w → next' a w) :
    ∀ r : Result Next, o.upon P a next Q r → o.uponIn (Fence.wide.inRound l) n P a next' Q r := by
  intro r h
  cases r with
  | ok x w =>
    cases x with
    | value v => exact hk _ _ h
    | skip => exact hk _ _ h
    | defer d => exact hk _ _ h
    | enter f args =>
      refine ⟨(fun h => by cases h), CallsIn.inRound l (callsIn_wide.2 (Calls.mono h ?_))⟩
      intro e w' he
      cases e with
      | returned v => exact hk _ _ he
      | panicked ch => exact he
      | outgrown => exact he
    | row rw args => exact ⟨(fun h => by cases h), fun c cs _ => let ⟨v, w', r, s⟩ := h c cs; ⟨v, w', hk _ _ r, stepsIn_wide.2 s⟩⟩
    | _ => exact h.elim
  | halt x w => cases x <;> exact h

theorem opsIn_of_ops {P : Program} {l n : Nat} {ops : Array Oper} {Q : Exit → Act → World → Prop} (hd : ∀ (i : Nat) (o : Oper), ops[i]? = some o → ∀ c, o.op ≠ .defer c) (hQ : ¬ LetsOut Q) :
    ∀ (sched : List Nat) (a : Act) (w : World), wpOps P ops Q sched a w → wpOpsIn (Fence.wide.inRound l) n P ops Q sched a w
  | [], a, w, h => h
  | i :: rest, a, w, h => by
    simp only [wpOps] at h
    simp only [wpOpsIn]
    cases ho : ops[i]? with
    | none =>
      simp only [ho] at h
      exact opsIn_of_ops hd hQ rest a w h
    | some o =>
      simp only [ho] at h
      by_cases hw : Region.wanted o (yielded ops a.tmps) = true
      · simp only [hw, if_true] at h ⊢
        rcases h with h | ⟨_, h⟩
        · refine ⟨fun _ _ => trivial, ?_⟩
          rw [Oper.semAt_plain _ _ _ (hd i o ho)]
          exact uponIn_of_upon o a (fun a w h => opsIn_of_ops hd hQ rest a w h) _ h
        · exact (hQ h).elim
      · simp only [hw, if_false, Bool.false_eq_true] at h ⊢
        exact ⟨fun _ _ => trivial, opsIn_of_ops hd hQ rest _ w h⟩

/-- A drawn region within a round, held as everywhere. -/
theorem wpIn_region_round {P : Program} {l n id : Nat} {ops : Array Oper} {Q : Exit → Act → World → Prop} {S : World → Prop} {a : Act} {w : World} (hm : P.follows .mixedOrders = true) (hd : ∀ (i : Nat) (o : Oper), ops[i]? = some o → ∀ c, o.op ≠ .defer c) (hQ : ¬ LetsOut Q)
    (h : wpAnyH P .any ops Q S ops.size (Array.replicate ops.size false) a w.drew) : (Code.region id ops true).wpIn (Fence.wide.inRound l) n P Q a w :=
  wpIn_region_draw fun t => by
    simp only [Region.schedule, hm, Bool.true_or, if_true]
    exact opsIn_of_ops hd hQ _ _ _ (wpAny_sound ops.size t _ a _ (wpAny_of_held _ _ _ _ h))

end Go.Proofs.Ytkaaefieglhdlaa

namespace Go.Proofs.Ytkaaefieglhdlaa
open Go.RowKit Go.Sort
set_option linter.unusedVariables false
set_option maxRecDepth 100000

set_option maxHeartbeats 6400000 in
theorem copyRoutes_any (A : Option Addr) (N cc : Nat) (V : List Rv) (w : World) (h : RtAt w A V) (hn : V.length = N) (hm : N ≤ 1048576) :
    Calls Try.prog 37 #[.slice A N cc] w fun e w' => ∃ u V', e = .returned u ∧ V'.map Rv.r = V.map Rv.r ∧ OwT w' w.heap.size w'.heap.size u V' ∧ New w w' := by
  have HN : Hid (V.length = N) := hn
  clear hn
  obtain ⟨i0, hi, hz0, hz1, hz2⟩ := info_parts Try.infoRt
  go_enter Try.func37, Try.ntmps37
  go_wp2
  go_loopw [3, 8] (fun s i wr => ∃ (k : Nat) (V' : List Rv), k ≤ N ∧ i = .int .i64 k ∧ V'.length = k ∧ V'.map Rv.r = (V.take k).map Rv.r ∧ New w wr ∧ OwT wr w.heap.size wr.heap.size s V') (fun _ i _ => N - (intOf i).toNat)
  case atStart => exact ⟨0, [], Nat.zero_le _, rfl, rfl, rfl, New.refl _, OwT.nil _ _ _⟩
  case round =>
    obtain ⟨k, V', hk, rfl, hlk, hmap, hnw, how⟩ := hrel
    by_cases hlt : k < N
    · obtain ⟨b, off, p, a, l, o, nx, md, lc, x, m, d, xs, rfl, hv, hlen, hns, hnl, hmx, q0, q1, q2, q3, q4, q5, q6, q7⟩ := (h.new hnw).at k (by have := HN.out; omega)
      have HL : Hid (xs.length = m) := hlen
      have hbd : Hid (∀ z ∈ xs, In6 z) := hns.bd
      have HX : Hid (x = none → m = 0 ∧ d = 0) := hnl
      have HM : Hid (∀ u : Rv, u.r = ⟨p, a, l, o, xs, nx, md, lc⟩ → (V' ++ [u]).map Rv.r = (V.take (k + 1)).map Rv.r) := by
        intro u hu
        obtain ⟨hk', e⟩ := List.getElem?_eq_some_iff.1 hv
        rw [List.take_succ_eq_append_getElem hk', e, List.map_append, List.map_append, hmap]
        simp [hu]
      have HLK : Hid (V'.length = k) := hlk
      have N0 := (New.refl wr).alloc (.cells #[.int .i64 p, .int .i64 a, .int .i64 l, .int .i64 o, .slice x m d, .int .i64 nx, .int .i64 md, .int .i64 lc] 31)
      have bA := Blk.mk wr wr.heap.size 31 #[.int .i64 p, .int .i64 a, .int .i64 l, .int .i64 o, .slice x m d, .int .i64 nx, .int .i64 md, .int .i64 lc] rfl
      clear hv hlen hmap hnl hlk
      go_upto_region 5 with fail
      generalize wr.alloc (.cells #[.int .i64 p, .int .i64 a, .int .i64 l, .int .i64 o, .slice x m d, .int .i64 nx, .int .i64 md, .int .i64 lc] 31) = wa at *
      have hns1 := hns.new N0
      have how1 := how.new N0
      have hle := hnw.size
      clear q0 q1 q2 q3 q4 q5 q6 q7 hns how
      have cA := bA.cells
      go_wp2_with fail
      refine (copyRt_any p a l o nx md lc x m d xs _ hns1 HL.out hmx HX.out).mono ?_
      rintro e w2 ⟨x2, c2, rfl, ho2, h2⟩
      have how2 := how1.up N0.size
      have hB2 := bA.new h2
      clear cA
      have hrow3 : (w2.alloc (.cells #[.int .i64 p, .int .i64 a, .int .i64 l, .int .i64 o, .slice x2 m c2, .int .i64 nx, .int .i64 md, .int .i64 lc] 31)).ownsRow w.heap.size 31 8 _ V'.length (cellsT V') := row_turn7 (row_turn7 how1.row h2 (fun _ _ f => f)) ((New.refl w2).alloc _) (fun _ _ f => f)
      have bL := Blk.mk w2 w2.heap.size 31 #[.int .i64 p, .int .i64 a, .int .i64 l, .int .i64 o, .slice x2 m c2, .int .i64 nx, .int .i64 md, .int .i64 lc] rfl
      have hov : OvN w2 wa.heap.size (Rv.pv ⟨⟨p, a, l, o, xs, nx, md, lc⟩, x2, c2⟩) xs := by
        unfold Rv.pv
        simp only [HL.out]
        exact ho2
      have hsz : w.heap.size ≤ (w2.alloc (.cells #[.int .i64 p, .int .i64 a, .int .i64 l, .int .i64 o, .slice x2 m c2, .int .i64 nx, .int .i64 md, .int .i64 lc] 31)).heap.size := by have e1 := N0.size; have e2 := h2.size; simp; omega
      have hsrc : ∀ j, (w2.alloc (.cells #[.int .i64 p, .int .i64 a, .int .i64 l, .int .i64 o, .slice x2 m c2, .int .i64 nx, .int .i64 md, .int .i64 lc] 31)).cell? ⟨w2.heap.size, j, none⟩ = (Rv.mk (Rt.mk p a l o xs nx md lc) x2 c2).cs[j]? := by
        intro j
        rw [bL.cells j]
        unfold Rv.cs
        simp only [HL.out]
        simp
      go_wp2_with (at_builtin; refine wpList_apT _ rfl (.tmp 12) (.tmp 15) rfl w.heap.size _ Try.underlying35 hi hz0 hz1 hz2 rfl _ V' rfl hrow3 w2.heap.size (Rv.mk (Rt.mk p a l o xs nx md lc) x2 c2) rfl hsrc (by have := HLK.out; omega) hsz ?_)
      intro v5 w5 hr5 hg5 _
      replace hr5 : w5.ownsRow w.heap.size 31 8 v5 (V' ++ [Rv.mk (Rt.mk p a l o xs nx md lc) x2 c2]).length (cellsT (V' ++ [Rv.mk (Rt.mk p a l o xs nx md lc) x2 c2])) := by rw [List.length_append]; exact hr5
      have hO5 := OwT.appended how2 (by have e1 := N0.size; omega) h2 hov hbd.out (by simp only [HL.out]; exact hmx) ((New.refl w2).alloc _) hr5 hg5
      have N5 : New w w5 := ((((hnw.trans N0).trans h2).alloc _).grow hg5 (fun j hj => (row_rng7 how1.row j hj).1))
      clear hr5 hg5 hrow3 hsrc hov how2 how1 ho2
      go_wp2
      go_roundw
      case rel => exact ⟨k + 1, V' ++ [Rv.mk (Rt.mk p a l o xs nx md lc) x2 c2], by omega, by go_num, by rw [List.length_append, HLK.out]; rfl, HM.out _ rfl, N5, hO5⟩
      case measure => simp [intOf]; omega
    · go_wp2
      go_ret
      rw [List.take_of_length_le (by have := HN.out; omega)] at hmap
      exact ⟨_, V', rfl, hmap, how, hnw⟩

end Go.Proofs.Ytkaaefieglhdlaa
