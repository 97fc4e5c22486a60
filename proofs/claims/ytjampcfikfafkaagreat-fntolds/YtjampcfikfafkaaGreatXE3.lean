/- What is proved here: what the model's BestFor answers, for every list of at most 1048576 routes with paths of at most 1048576 numbers and every prefix; and that answers are one. What is proved here: the order in which routes stand, and what looking for a route's place answers, for lists of at most 1048576 routes. What is proved here: that answers of BestFor are one, and how laws compare, mark and hold them. What is proved here: that the bests of all prefixes are one list; no run of the program. No condition. What is proved here: which routes the model takes of all prefixes. What is proved here: what the model's BestOfAll answers, for every list of at most 1048576 routes with paths of at most 1048576 numbers. What is proved here: what is exported, as lists; facts on lists of things told that grow. No condition. What is proved here: what the program makes of a route for a peer. What is proved here: what the program tells of the fault of what is asked of an export. What is proved here: paths of some of the routes of a list lie as those of the list do. No condition. What is proved here: what the heap's iterator hands over when every round goes on: all routes, in the heap's order. What is proved here: a drawn region within a round of a range over a function is walked as everywhere, where it defers nothing. No condition. -/
import Derived.Test.YtjampcfikfafkaaGreatXE2
import Derived.Test.YtjampcfikfafkaaGreatR7Ord
import Derived.Deep.CutRange
import Derived.Test.YtjampcfikfafkaaGreatR7Mk
import Derived.Test.YtjampcfikfafkaaGreatR6ApJ
import Derived.Test.YtjampcfikfafkaaGreatR6ApS
import Derived.Test.YtjampcfikfafkaaGreatT8Own
import Derived.Test.YtjampcfikfafkaaGreatR6Ex3
import Derived.Test.YtjampcfikfafkaaGreatXE1
namespace Go.Proofs.YtjampcfikfafkaaGreat
open Go.RowKit Go.Sort
set_option linter.unusedVariables false
set_option linter.unusedSimpArgs false
set_option maxRecDepth 100000

theorem Tryz.htRl : Tryz.prog.underlying 24 = some (.slice (Tryz.prog.elem 24)) := by kernel_rfl
theorem Tryz.szRl (w : World) : (sizeOf (Tryz.prog.elem 24)).run Tryz.prog w = .ok 8 w := by kernel_rfl
/-- One route cut out of a list. -/
theorem cutR (b off N c t : Nat) (ht : t + 1 ≤ c) : ∀ X, (Instr.slice 24 (.slice (some ⟨b, off, none⟩) N c) (some (.int .i64 (t : Int))) (some (.int .i64 ((t : Int) + 1))) none).run Tryz.prog X = .ok (.slice (some ⟨b, off + t * 8, none⟩) 1 (c - t)) X := by
  intro X
  rw [run_slice_lh X 24 (some ⟨b, off, none⟩) N c Tryz.htRl .i64 .i64 t ((t : Int) + 1) (by omega) (by omega) (by omega), Tryz.szRl]
  have h1 : ¬ c = t := by omega
  have h2 : ((t : Int) + 1).toNat = t + 1 := by omega
  simp [Result.andThen, sliced, h1, h2, Addr.add]

end Go.Proofs.YtjampcfikfafkaaGreat

namespace Go.Proofs.YtjampcfikfafkaaGreat
open Go.RowKit Go.Sort
set_option linter.unusedVariables false

theorem cmpR_lt (p a l p' a' l' : Int) : cmpR p a l p' a' l' < 0 ↔ (a < a' ∨ (a = a' ∧ (l < l' ∨ (l = l' ∧ p < p')))) := by
  have key : ∀ c : Int, ∀ q : List Int, orL (c :: q) < 0 ↔ (c < 0 ∨ (c = 0 ∧ orL q < 0)) := by
    intro c q
    by_cases h : c = 0
    · simp [orL, h]
    · simp [orL, h]
  have z2 : orL [cmp3 a a', cmp3 l l'] = 0 ↔ (a = a' ∧ l = l') := by
    rcases Int.lt_trichotomy a a' with h | h | h
    · rw [cmp3_lt h]; simp [orL]; omega
    · rw [cmp3_eq h]
      rcases Int.lt_trichotomy l l' with k | k | k
      · rw [cmp3_lt k]; simp [orL]; omega
      · rw [cmp3_eq k]; simp [orL, h, k]
      · rw [cmp3_gt k]; simp [orL]; omega
    · rw [cmp3_gt h]; simp [orL]; omega
  unfold cmpR
  rw [key, z2, orL_lt, orL_lt, orL_lt]
  simp only [orL]
  omega
theorem Rt.lt_iff (s r : Rt) : s.lt r = true ↔ (s.a < r.a ∨ (s.a = r.a ∧ (s.l < r.l ∨ (s.l = r.l ∧ s.p < r.p)))) := by
  unfold Rt.lt
  rw [decide_eq_true_iff, cmpR_lt]
theorem Rt.lt_tra {s r q : Rt} (h : s.lt r = true) (k : r.lt q = true) : s.lt q = true := by
  rw [Rt.lt_iff] at *
  omega

/-- In order. -/
abbrev Ord7 (R : List Rt) : Prop := R.Pairwise (fun s r => s.lt r = true)
theorem ribC_ord : ∀ (R : List Rt) (q : Option Rt), ribC q R = 0 → Ord7 R ∧ (∀ s, q = some s → ∀ r ∈ R, s.lt r = true) ∧ (∀ r ∈ R, r.f = 0)
  | [], q, h => by simp
  | r :: R, q, h => by
    have hh : r.f = 0 ∧ (∀ s, q = some s → s.lt r = true) ∧ ribC (some r) R = 0 := by
      cases q with
      | none =>
        unfold ribC at h
        split at h
        · exact ⟨by assumption, by simp, h⟩
        · contradiction
      | some s =>
        unfold ribC at h
        split at h
        · split at h
          · refine ⟨by assumption, ?_, h⟩
            intro s' e
            obtain rfl := Option.some.inj e
            assumption
          · omega
        · contradiction
    obtain ⟨h1, h2, h3⟩ := hh
    obtain ⟨i1, i2, i3⟩ := ribC_ord R (some r) h3
    refine ⟨List.pairwise_cons.2 ⟨fun u hu => i2 r rfl u hu, i1⟩, ?_, ?_⟩
    · intro s hs u hu
      rcases List.mem_cons.1 hu with rfl | hu
      · exact h2 s hs
      · exact Rt.lt_tra (h2 s hs) (i2 r rfl u hu)
    · intro u hu
      rcases List.mem_cons.1 hu with rfl | hu
      · exact h1
      · exact i3 u hu
theorem ribF_ok {R : List Rt} (h : ribF R = 0) : R.length ≤ 60 ∧ Ord7 R ∧ (∀ r ∈ R, r.f = 0) := by
  unfold ribF at h
  split at h
  · omega
  · obtain ⟨h1, -, h3⟩ := ribC_ord R none h
    exact ⟨by omega, h1, h3⟩

/-- How many at the beginning are so. -/
def tw (K : Rt → Bool) (R : List Rt) : Nat := (R.takeWhile K).length
theorem tw_of (K : Rt → Bool) : ∀ (R : List Rt) (i : Nat), i ≤ R.length → (∀ j s, j < i → R[j]? = some s → K s = true) → (∀ s, R[i]? = some s → K s = false) → tw K R = i
  | [], i, hi, _, _ => by simp at hi; simp [tw, hi]
  | r :: R, 0, _, _, h2 => by
    have := h2 r rfl
    simp [tw, this]
  | r :: R, i + 1, hi, h1, h2 => by
    have h0 := h1 0 r (by omega) rfl
    have ih := tw_of K R i (by simpa using hi) (fun j s hj hs => h1 (j + 1) s (by omega) (by simpa using hs)) (fun s hs => h2 s (by simpa using hs))
    unfold tw at ih ⊢
    simp [h0, ih]

end Go.Proofs.YtjampcfikfafkaaGreat

namespace Go.Proofs.YtjampcfikfafkaaGreat
open Go.RowKit Go.Sort
set_option linter.unusedVariables false
set_option linter.unusedSimpArgs false

theorem BfOk.det {R : List Rt} {a0 l0 z z' : Int} {r r' : Rt} (hR : ribF R = 0) (h : BfOk R a0 l0 z r) (k : BfOk R a0 l0 z' r') : z = z' ∧ r = r' := by
  rcases h with ⟨h1, h2, h3⟩ | ⟨h1, h2, h3, h4⟩
  · rcases k with ⟨k1, k2, k3⟩ | ⟨k1, k2, k3, k4⟩
    · exact ⟨by omega, by rw [h2, k2]⟩
    · rw [h3 _ k2] at k3; cases k3
  · rcases k with ⟨k1, k2, k3⟩ | ⟨k1, k2, k3, k4⟩
    · rw [k3 _ h2] at h3; cases h3
    · refine ⟨by omega, ?_⟩
      have e1 := h4 r' k2 k3
      have e2 := k4 r h2 h3
      have u1 := of_decide_eq_true h3
      have u2 := of_decide_eq_true k3
      have hp : r.p = r'.p ∧ r.a = r'.a ∧ r.l = r'.l := by
        rcases Classical.em (r.p = r'.p ∧ r.a = r'.a ∧ r.l = r'.l) with e | e
        · exact e
        · exact absurd (hlt_tot ⟨r, none, 0⟩ ⟨r', none, 0⟩ e e2) e1
      have ho := (ribF_ok hR).2.1
      obtain ⟨i, hi⟩ := List.getElem?_of_mem h2
      obtain ⟨j, hj⟩ := List.getElem?_of_mem k2
      obtain ⟨hiL, hie⟩ := List.getElem?_eq_some_iff.1 hi
      obtain ⟨hjL, hje⟩ := List.getElem?_eq_some_iff.1 hj
      rcases Nat.lt_trichotomy i j with e | e | e
      · have := List.pairwise_iff_getElem.1 ho i j hiL hjL e
        rw [hie, hje, Rt.lt_iff] at this
        omega
      · subst e
        rw [hi] at hj
        exact Option.some.inj hj
      · have := List.pairwise_iff_getElem.1 ho j i hjL hiL e
        rw [hie, hje, Rt.lt_iff] at this
        omega
theorem BfA.det {R : List Rt} {a0 l0 z z' : Int} {r r' : Rt} (h : BfA R a0 l0 z r) (k : BfA R a0 l0 z' r') : z = z' ∧ r = r' := by
  rcases h with ⟨h1, h2, h3⟩ | ⟨h1, h2, h3, h4⟩ | ⟨h1, h2, h3⟩
  · rcases k with ⟨k1, k2, k3⟩ | ⟨k1, k2, k3, k4⟩ | ⟨k1, k2, k3⟩
    · exact ⟨by omega, by rw [h3, k3]⟩
    · exact absurd k1 h1
    · exact absurd k1 h1
  · rcases k with ⟨k1, k2, k3⟩ | ⟨k1, k2, k3, k4⟩ | ⟨k1, k2, k3⟩
    · exact absurd h1 k1
    · exact ⟨by omega, by rw [h4, k4]⟩
    · exact absurd k2 h2
  · rcases k with ⟨k1, k2, k3⟩ | ⟨k1, k2, k3, k4⟩ | ⟨k1, k2, k3⟩
    · exact absurd h1 k1
    · exact absurd h2 k2
    · exact BfOk.det h1 h3 k3

theorem nine9t (W : World) (B : Nat) (v0 v1 v2 v3 v4 v5 v6 v7 v8 : Value) : Turn (fun k => k = B) W (((((((((W.setCell ⟨B, 0, none⟩ v0).setCell ⟨B, 1, none⟩ v1).setCell ⟨B, 2, none⟩ v2).setCell ⟨B, 3, none⟩ v3).setCell ⟨B, 4, none⟩ v4).setCell ⟨B, 5, none⟩ v5).setCell ⟨B, 6, none⟩ v6).setCell ⟨B, 7, none⟩ v7).setCell ⟨B, 8, none⟩ v8) := Turn.set (S := fun k => k = B) (Turn.set (S := fun k => k = B) (Turn.set (S := fun k => k = B) (Turn.set (S := fun k => k = B) (Turn.set (S := fun k => k = B) (Turn.set (S := fun k => k = B) (Turn.set (S := fun k => k = B) (Turn.set (S := fun k => k = B) (Turn.set (S := fun k => k = B) (Turn.refl (fun k => k = B) W) rfl v0) rfl v1) rfl v2) rfl v3) rfl v4) rfl v5) rfl v6) rfl v7) rfl v8
theorem stored9 {W : World} {B lo n d : Nat} {x : Option Addr} {xs : List Int} {v0 v1 v2 v3 v4 v5 v6 v7 v8 : Value} (o : OvN W lo (.slice x n d) xs) (hb : ∀ z ∈ xs, In6 z) (hB : B < lo) : NsAt (((((((((W.setCell ⟨B, 0, none⟩ v0).setCell ⟨B, 1, none⟩ v1).setCell ⟨B, 2, none⟩ v2).setCell ⟨B, 3, none⟩ v3).setCell ⟨B, 4, none⟩ v4).setCell ⟨B, 5, none⟩ v5).setCell ⟨B, 6, none⟩ v6).setCell ⟨B, 7, none⟩ v7).setCell ⟨B, 8, none⟩ v8) x xs :=
  (o.turn7 (nine9t W B v0 v1 v2 v3 v4 v5 v6 v7 v8) (fun k hk e => by have := o.rng7 k hk; omega)).nsAt7 hb
theorem blk9 {W : World} {B : Nat} {t : TypeId} {o0 o1 o2 o3 o4 o5 o6 o7 o8 v0 v1 v2 v3 v4 v5 v6 v7 v8 : Value} (h : Blk W B t #[o0, o1, o2, o3, o4, o5, o6, o7, o8]) : Blk (((((((((W.setCell ⟨B, 0, none⟩ v0).setCell ⟨B, 1, none⟩ v1).setCell ⟨B, 2, none⟩ v2).setCell ⟨B, 3, none⟩ v3).setCell ⟨B, 4, none⟩ v4).setCell ⟨B, 5, none⟩ v5).setCell ⟨B, 6, none⟩ v6).setCell ⟨B, 7, none⟩ v7).setCell ⟨B, 8, none⟩ v8) B t #[v0, v1, v2, v3, v4, v5, v6, v7, v8] := (nine8 W B t o0 o1 o2 o3 o4 o5 o6 o7 o8 v0 v1 v2 v3 v4 v5 v6 v7 v8 h).1

end Go.Proofs.YtjampcfikfafkaaGreat

namespace Go.Proofs.YtjampcfikfafkaaGreat
open Go.RowKit
set_option linter.unusedVariables false

/-- The prefix stands ahead. -/
def pLt (r s : Rt) : Prop := r.a < s.a ∨ (r.a = s.a ∧ r.l < s.l)

theorem sorted_one : ∀ (U T : List Rt), U.Pairwise pLt → T.Pairwise pLt → (∀ x, x ∈ U ↔ x ∈ T) → U = T
  | [], T, _, _, h => by
    cases T with
    | nil => rfl
    | cons y ys => exact absurd ((h y).2 (List.mem_cons_self ..)) (by simp)
  | x :: xs, T, hU, hT, h => by
    cases T with
    | nil => exact absurd ((h x).1 (List.mem_cons_self ..)) (by simp)
    | cons y ys =>
      rw [List.pairwise_cons] at hU hT
      have hxy : x = y := by
        rcases List.mem_cons.1 ((h x).1 (List.mem_cons_self ..)) with e | e
        · exact e
        · rcases List.mem_cons.1 ((h y).2 (List.mem_cons_self ..)) with f | f
          · exact f.symm
          · have h1 := hT.1 x e
            have h2 := hU.1 y f
            unfold pLt at h1 h2
            omega
      subst hxy
      have hm : ∀ z, z ∈ xs ↔ z ∈ ys := by
        intro z
        constructor
        · intro hz
          rcases List.mem_cons.1 ((h z).1 (List.mem_cons_of_mem _ hz)) with e | e
          · subst e
            have h1 := hU.1 z hz
            unfold pLt at h1
            omega
          · exact e
        · intro hz
          rcases List.mem_cons.1 ((h z).2 (List.mem_cons_of_mem _ hz)) with e | e
          · subst e
            have h1 := hT.1 z hz
            unfold pLt at h1
            omega
          · exact e
      rw [sorted_one xs ys hU.2 hT.2 hm]

/-- The bests of all prefixes, in the prefixes' order. -/
structure AllOk (R U : List Rt) : Prop where
  srt : U.Pairwise pLt
  best : ∀ r ∈ U, BfOk R r.a r.l 0 r
  all : ∀ s ∈ R, ∃ r ∈ U, r.a = s.a ∧ r.l = s.l

theorem BfOk.mem {R : List Rt} {a l : Int} {r : Rt} (h : BfOk R a l 0 r) : r ∈ R := by
  rcases h with ⟨e, -⟩ | ⟨-, h, -⟩
  · omega
  · exact h
theorem AllOk.sub {R U T : List Rt} (hR : ribF R = 0) (h : AllOk R U) (k : AllOk R T) : ∀ r ∈ U, r ∈ T := by
  intro r hr
  have hb := h.best r hr
  obtain ⟨s, hs, e1, e2⟩ := k.all r hb.mem
  have kb := k.best s hs
  rw [e1, e2] at kb
  obtain ⟨-, e⟩ := BfOk.det hR hb kb
  rw [e]
  exact hs
theorem AllOk.det {R U T : List Rt} (hR : ribF R = 0) (h : AllOk R U) (k : AllOk R T) : U = T :=
  sorted_one U T h.srt k.srt (fun x => ⟨h.sub hR k x, k.sub hR h x⟩)

/-- The first of each prefix of a list in the heap's order. -/
structure TopOk (P : List Rv) (U : List Rt) : Prop where
  srt : U.Pairwise pLt
  mem : ∀ r ∈ U, ∃ v ∈ P, v.r = r
  least : ∀ r ∈ U, ∀ v ∈ P, v.r.a = r.a → v.r.l = r.l → ¬ hcmp v.r r < 0
  all : ∀ v ∈ P, ∃ r ∈ U, r.a = v.r.a ∧ r.l = v.r.l
  last : ∀ v, P.getLast? = some v → ∃ r, U.getLast? = some r ∧ r.a = v.r.a ∧ r.l = v.r.l

theorem TopOk.nil : TopOk [] [] := ⟨List.Pairwise.nil, (by intro r h; cases h), (by intro r h; cases h), (by intro v h; cases h), (by intro v h; cases h)⟩

theorem TopOk.done {P : List Rv} {U : List Rt} {V : List Rv} (h : TopOk P U) (hp : P.Perm V) : AllOk (V.map Rv.r) U := by
  refine ⟨h.srt, fun r hr => .inr ⟨rfl, ?_, by unfold keepS; simp, fun s hs hk => ?_⟩, fun s hs => ?_⟩
  · obtain ⟨v, hv, rfl⟩ := h.mem r hr
    exact List.mem_map_of_mem (hp.mem_iff.1 hv)
  · obtain ⟨v, hv, rfl⟩ := List.mem_map.1 hs
    unfold keepS at hk
    have e := of_decide_eq_true hk
    exact h.least r hr v (hp.mem_iff.2 hv) e.1.symm e.2.symm
  · obtain ⟨v, hv, rfl⟩ := List.mem_map.1 hs
    exact h.all v (hp.mem_iff.2 hv)

theorem TopOk.same {P : List Rv} {U : List Rt} {x : Rv} {r : Rt} (h : TopOk P U) (hx : ∀ y ∈ P, ¬ hlt x y) (hr : U.getLast? = some r) (e1 : r.a = x.r.a) (e2 : r.l = x.r.l) : TopOk (P ++ [x]) U := by
  refine ⟨h.srt, fun s hs => ?_, fun s hs v hv f1 f2 => ?_, fun v hv => ?_, fun v hv => ?_⟩
  · obtain ⟨v, hv, e⟩ := h.mem s hs
    exact ⟨v, List.mem_append_left _ hv, e⟩
  · rcases List.mem_append.1 hv with hv | hv
    · exact h.least s hs v hv f1 f2
    · obtain rfl := List.mem_singleton.1 hv
      obtain ⟨u, hu, rfl⟩ := h.mem s hs
      exact hx u hu
  · rcases List.mem_append.1 hv with hv | hv
    · exact h.all v hv
    · obtain rfl := List.mem_singleton.1 hv
      exact ⟨r, List.mem_of_getLast? hr, e1, e2⟩
  · rw [List.getLast?_append] at hv
    simp at hv
    subst hv
    exact ⟨r, hr, e1, e2⟩

theorem last_le {U : List Rt} {r s : Rt} (h : U.Pairwise pLt) (hr : U.getLast? = some r) (hs : s ∈ U) : s = r ∨ pLt s r := by
  rcases List.eq_nil_or_concat U with rfl | ⟨ini, z, rfl⟩
  · cases hs
  · rw [List.concat_eq_append] at h hr hs
    rw [List.getLast?_append] at hr
    simp at hr
    subst hr
    rcases List.mem_append.1 hs with hs | hs
    · exact .inr ((List.pairwise_append.1 h).2.2 s hs z (List.mem_singleton.2 rfl))
    · exact .inl (List.mem_singleton.1 hs)

theorem TopOk.new {P : List Rv} {U : List Rt} {x : Rv} (h : TopOk P U) (hx : ∀ y ∈ P, ¬ hlt x y) (hr : ∀ r, U.getLast? = some r → ¬ (x.r.a = r.a ∧ x.r.l = r.l)) : TopOk (P ++ [x]) (U ++ [x.r]) := by
  have hlt' : ∀ r ∈ U, pLt r x.r := by
    intro r hrU
    obtain ⟨v0, hv0, -⟩ := h.mem r hrU
    obtain ⟨vl, hvl⟩ : ∃ vl, P.getLast? = some vl := by
      cases hP : P with
      | nil => rw [hP] at hv0; cases hv0
      | cons y ys => exact ⟨_, List.getLast?_eq_some_getLast (by simp)⟩
    obtain ⟨rl, hrl, f1, f2⟩ := h.last vl hvl
    have g1 := hx vl (List.mem_of_getLast? hvl)
    have g2 := hr rl hrl
    have g3 := last_le h.srt hrl hrU
    unfold hlt at g1
    rw [hcmp_lt] at g1
    have g4 : pLt rl x.r := by
      unfold pLt
      omega
    rcases g3 with rfl | g3
    · exact g4
    · unfold pLt at g3 g4 ⊢
      omega
  refine ⟨List.pairwise_append.2 ⟨h.srt, List.pairwise_singleton _ _, fun r hrU y hy => ?_⟩, fun s hs => ?_, fun s hs v hv f1 f2 => ?_, fun v hv => ?_, fun v hv => ?_⟩
  · obtain rfl := List.mem_singleton.1 hy
    exact hlt' r hrU
  · rcases List.mem_append.1 hs with hs | hs
    · obtain ⟨v, hv, e⟩ := h.mem s hs
      exact ⟨v, List.mem_append_left _ hv, e⟩
    · obtain rfl := List.mem_singleton.1 hs
      exact ⟨x, by simp, rfl⟩
  · rcases List.mem_append.1 hs with hsU | hs
    · rcases List.mem_append.1 hv with hv | hv
      · exact h.least s hsU v hv f1 f2
      · obtain rfl := List.mem_singleton.1 hv
        have := hlt' s hsU
        unfold pLt at this
        omega
    · obtain rfl := List.mem_singleton.1 hs
      rcases List.mem_append.1 hv with hv | hv
      · obtain ⟨r, hrU, k1, k2⟩ := h.all v hv
        have := hlt' r hrU
        unfold pLt at this
        omega
      · obtain rfl := List.mem_singleton.1 hv
        exact hlt_irr v
  · rcases List.mem_append.1 hv with hv | hv
    · obtain ⟨r, hrU, k1, k2⟩ := h.all v hv
      exact ⟨r, List.mem_append_left _ hrU, k1, k2⟩
    · obtain rfl := List.mem_singleton.1 hv
      exact ⟨v.r, by simp, rfl, rfl⟩
  · rw [List.getLast?_append] at hv
    simp at hv
    subst hv
    exact ⟨x.r, by rw [List.getLast?_append]; simp, rfl, rfl⟩

end Go.Proofs.YtjampcfikfafkaaGreat

namespace Go.Proofs.YtjampcfikfafkaaGreat
open Go.RowKit Go.Sort
set_option linter.unusedVariables false
set_option linter.unusedSimpArgs false
set_option maxRecDepth 100000

/-- The bests of the prefixes of the first ones. -/
structure PreOk (V : List Rv) (k : Nat) (U : List Rv) : Prop where
  srt : (U.map Rv.r).Pairwise pLt
  best : ∀ u ∈ U, BfOk (V.map Rv.r) u.r.a u.r.l 0 u.r
  mem : ∀ u ∈ U, u ∈ V ∧ ∃ j v, j < k ∧ V[j]? = some v ∧ u.r.a = v.r.a ∧ u.r.l = v.r.l
  all : ∀ j v, j < k → V[j]? = some v → ∃ u ∈ U, u.r.a = v.r.a ∧ u.r.l = v.r.l
theorem PreOk.nil (V : List Rv) : PreOk V 0 [] := ⟨List.Pairwise.nil, (by intro u h; cases h), (by intro u h; cases h), (by intro j v h; omega)⟩
theorem PreOk.done {V U : List Rv} (h : PreOk V V.length U) : AllOk (V.map Rv.r) (U.map Rv.r) := by
  refine ⟨h.srt, fun r hr => ?_, fun s hs => ?_⟩
  · obtain ⟨u, hu, rfl⟩ := List.mem_map.1 hr
    exact h.best u hu
  · obtain ⟨v, hv, rfl⟩ := List.mem_map.1 hs
    obtain ⟨j, hj⟩ := List.getElem?_of_mem hv
    obtain ⟨u, hu, e1, e2⟩ := h.all j v (List.getElem?_eq_some_iff.1 hj).1 hj
    exact ⟨u.r, List.mem_map_of_mem hu, e1, e2⟩
theorem PreOk.same {V U : List Rv} {k : Nat} {v v' : Rv} (h : PreOk V k U) (hv : V[k]? = some v) (hv' : V[k - 1]? = some v') (hk : 0 < k) (e1 : v.r.a = v'.r.a) (e2 : v.r.l = v'.r.l) : PreOk V (k + 1) U := by
  refine ⟨h.srt, h.best, fun u hu => ?_, fun j x hj hx => ?_⟩
  · obtain ⟨m, j, x, hj, r⟩ := h.mem u hu
    exact ⟨m, j, x, by omega, r⟩
  · rcases Nat.lt_or_ge j k with f | f
    · exact h.all j x f hx
    · obtain rfl : j = k := by omega
      rw [hv] at hx
      obtain rfl := Option.some.inj hx
      obtain ⟨u, hu, g1, g2⟩ := h.all (j - 1) v' (by omega) hv'
      exact ⟨u, hu, by omega, by omega⟩
theorem ord_at {V : List Rv} (hR : ribF (V.map Rv.r) = 0) {i j : Nat} {u v : Rv} (hi : V[i]? = some u) (hj : V[j]? = some v) (h : i < j) : u.r.a < v.r.a ∨ (u.r.a = v.r.a ∧ (u.r.l < v.r.l ∨ (u.r.l = v.r.l ∧ u.r.p < v.r.p))) := by
  have ho := (ribF_ok hR).2.1
  obtain ⟨hiL, hie⟩ := List.getElem?_eq_some_iff.1 hi
  obtain ⟨hjL, hje⟩ := List.getElem?_eq_some_iff.1 hj
  have e := List.pairwise_iff_getElem.1 ho i j (by simpa using hiL) (by simpa using hjL) h
  rw [List.getElem_map, List.getElem_map, hie, hje, Rt.lt_iff] at e
  exact e
theorem PreOk.new {V U : List Rv} {k : Nat} {v b : Rv} (hR : ribF (V.map Rv.r) = 0) (h : PreOk V k U) (hv : V[k]? = some v) (hn : k = 0 ∨ ∀ v', V[k - 1]? = some v' → ¬ (v.r.a = v'.r.a ∧ v.r.l = v'.r.l)) (hb : BfOk (V.map Rv.r) v.r.a v.r.l 0 b.r) (hbV : b ∈ V) (e1 : b.r.a = v.r.a) (e2 : b.r.l = v.r.l) : PreOk V (k + 1) (U ++ [b]) := by
  refine ⟨?_, fun u hu => ?_, fun u hu => ?_, fun j x hj hx => ?_⟩
  · rw [List.map_append, List.pairwise_append]
    refine ⟨h.srt, List.pairwise_singleton _ _, fun r hr y hy => ?_⟩
    obtain ⟨u, hu, rfl⟩ := List.mem_map.1 hr
    obtain rfl := List.mem_singleton.1 hy
    obtain ⟨-, j, x, hj, hx, f1, f2⟩ := h.mem u hu
    obtain ⟨v', hv'⟩ : ∃ v', V[k - 1]? = some v' := ⟨_, List.getElem?_eq_getElem (by have := (List.getElem?_eq_some_iff.1 hv).1; omega)⟩
    have g1 := ord_at hR hv' hv (by omega)
    have g2 : ¬ (v.r.a = v'.r.a ∧ v.r.l = v'.r.l) := by
      rcases hn with g | g
      · omega
      · exact g v' hv'
    have g3 : pLt x.r v'.r ∨ (x.r.a = v'.r.a ∧ x.r.l = v'.r.l) := by
      unfold pLt
      rcases Nat.lt_or_ge j (k - 1) with g | g
      · have := ord_at hR hx hv' g
        omega
      · obtain rfl : j = k - 1 := by omega
        rw [hv'] at hx
        obtain rfl := Option.some.inj hx
        exact .inr ⟨rfl, rfl⟩
    unfold pLt at g3 ⊢
    omega
  · rcases List.mem_append.1 hu with hu | hu
    · exact h.best u hu
    · obtain rfl := List.mem_singleton.1 hu
      rw [e1, e2]
      exact hb
  · rcases List.mem_append.1 hu with hu | hu
    · obtain ⟨m, j, x, hj, r⟩ := h.mem u hu
      exact ⟨m, j, x, by omega, r⟩
    · obtain rfl := List.mem_singleton.1 hu
      exact ⟨hbV, k, v, by omega, hv, e1, e2⟩
  · rcases Nat.lt_or_ge j k with f | f
    · obtain ⟨u, hu, r⟩ := h.all j x f hx
      exact ⟨u, List.mem_append_left _ hu, r⟩
    · obtain rfl : j = k := by omega
      rw [hv] at hx
      obtain rfl := Option.some.inj hx
      exact ⟨b, by simp, e1, e2⟩

set_option maxHeartbeats 12800000 in
theorem l7All_any (A : Option Addr) (N cc : Nat) (V : List Rv) (w : World) (h : RtAt w A V) (hn : V.length = N) (hm : N ≤ 1048576) (hR : ribF (V.map Rv.r) = 0) :
    Calls Tryz.prog 71 #[.slice A N cc] w fun e w' => ∃ u U, e = .returned u ∧ w'.ownsRow w.heap.size 38 8 u U.length (cellsT U) ∧ (∀ v ∈ U, v ∈ V) ∧ AllOk (V.map Rv.r) (U.map Rv.r) ∧ U.length ≤ N ∧ New w w' := by
  have HN : Hid (V.length = N) := hn
  have HA : Hid (∀ X, New w X → RtAt X A V) := fun X hX => h.new hX
  have HR : Hid (ribF (V.map Rv.r) = 0) := hR
  obtain ⟨i0, hi, hz0, hz1, hz2⟩ := info_parts Tryz.infoRt
  have NL : New w (w.alloc (.cells #[] 38)) := (New.refl w).alloc _
  have hL : (w.alloc (.cells #[] 38)).ownsRow w.heap.size 38 8 (.slice (some ⟨w.heap.size, 0, none⟩) 0 0) 0 (cellsT []) := row_lit7 (lo := w.heap.size) (Blk.mk w w.heap.size 38 #[] rfl) (Nat.le_refl _)
  clear h hn hR
  go_enter Tryz.func71, Tryz.ntmps71
  go_wp2
  go_loopw [3, 4] (fun s i wr => ∃ (k : Nat) (U : List Rv), k ≤ N ∧ i = .int .i64 k ∧ U.length ≤ k ∧ wr.ownsRow w.heap.size 38 8 s U.length (cellsT U) ∧ PreOk V k U ∧ New w wr) (fun _ i _ => N - (intOf i).toNat)
  case atStart => exact ⟨0, [], Nat.zero_le _, rfl, Nat.le_refl _, hL, PreOk.nil V, NL⟩
  case round =>
    clear NL hL
    obtain ⟨k, U, hk, rfl, hlk, hrow, hpre, hnw⟩ := hrel
    have HPRE : Hid (PreOk V k U) := hpre
    have HLK : Hid (U.length ≤ k) := hlk
    clear hpre hlk
    by_cases hlt : k < N
    case neg =>
      obtain rfl : k = N := by omega
      have HAll : Hid (AllOk (V.map Rv.r) (U.map Rv.r)) := (show PreOk V V.length U by rw [HN.out]; exact HPRE.out).done
      go_wp2
      go_ret
      exact ⟨_, U, rfl, hrow, fun v hv => (HPRE.out.mem v hv).1, HAll.out, HLK.out, hnw⟩
    case pos =>
      obtain ⟨b, off, p, a, l, o, nx, md, lc, x, m, d, xs, rfl, hv, hlen, -, -, -, q0, q1, q2, q3, q4, q5, q6, q7⟩ := (HA.out _ hnw).at k (by have := HN.out; omega)
      subst hlen
      have HV : Hid (V[k]? = some ⟨⟨p, a, l, o, xs, nx, md, lc⟩, x, d⟩) := hv
      have hk0 : (0 : Int) ≤ (k : Int) := by omega
      have hk1 : (k : Int) < (N : Int) := by omega
      have d1 : New wr wr.drew := (New.refl wr).drew
      clear hv
      by_cases hz : k = 0
      case pos =>
        have hkb : ((k : Int) == 0) = true := by simp [hz]
        have HNW : Hid (k = 0 ∨ ∀ v', V[k - 1]? = some v' → ¬ (a = v'.r.a ∧ l = v'.r.l)) := .inl hz
        clear hz
        go_upto_region 5 with fail
        refine hw_start (n := 16) (S := fun X => New wr X) rfl (by kernel_rfl) ((New.refl wr).drew) (fun hH => ?_)
        refine' hw_take 0 (some 12) _ rfl rfl (by kernel_rfl) (by kernel_rfl) (by kernel_rfl) (fun _ _ _ h => h) (by rfl) hH ?hy1 ?rest1
        case hy1 =>
          intro X hX
          go_simp
          try rfl
        simp only [Act.put, List.setIfInBounds_toArray, List.set_cons_zero, List.set_cons_succ]
        refine' hw_take 1 (some 13) _ rfl rfl (by kernel_rfl) (by kernel_rfl) (by kernel_rfl) (fun _ _ _ h => h) (by rfl) hH ?hy2 ?rest2
        case hy2 =>
          intro X hX
          go_simp
          try rfl
        simp only [Act.put, List.setIfInBounds_toArray, List.set_cons_zero, List.set_cons_succ]
        refine' hw_take 2 (some 14) _ rfl rfl (by kernel_rfl) (by kernel_rfl) (by kernel_rfl) (fun _ _ _ h => h) (by rfl) hH ?hy3 ?rest3
        case hy3 =>
          intro X hX
          go_simp
          try rfl
        simp only [Act.put, List.setIfInBounds_toArray, List.set_cons_zero, List.set_cons_succ]
        refine hw_skip 3 (some 15) rfl rfl (by kernel_rfl) (by kernel_rfl) (by kernel_rfl) (fun _ _ _ h => h) (by rfl) hH ?_
        simp only [Act.put, List.setIfInBounds_toArray, List.set_cons_zero, List.set_cons_succ]
        refine hw_skip 4 (some 16) rfl rfl (by kernel_rfl) (by kernel_rfl) (by kernel_rfl) (fun _ _ _ h => h) (by rfl) hH ?_
        simp only [Act.put, List.setIfInBounds_toArray, List.set_cons_zero, List.set_cons_succ]
        refine hw_skip 5 (some 17) rfl rfl (by kernel_rfl) (by kernel_rfl) (by kernel_rfl) (fun _ _ _ h => h) (by rfl) hH ?_
        simp only [Act.put, List.setIfInBounds_toArray, List.set_cons_zero, List.set_cons_succ]
        refine hw_skip 6 (some 18) rfl rfl (by kernel_rfl) (by kernel_rfl) (by kernel_rfl) (fun _ _ _ h => h) (by rfl) hH ?_
        simp only [Act.put, List.setIfInBounds_toArray, List.set_cons_zero, List.set_cons_succ]
        refine hw_skip 7 (some 19) rfl rfl (by kernel_rfl) (by kernel_rfl) (by kernel_rfl) (fun _ _ _ h => h) (by rfl) hH ?_
        simp only [Act.put, List.setIfInBounds_toArray, List.set_cons_zero, List.set_cons_succ]
        refine hw_skip 8 (some 20) rfl rfl (by kernel_rfl) (by kernel_rfl) (by kernel_rfl) (fun _ _ _ h => h) (by rfl) hH ?_
        simp only [Act.put, List.setIfInBounds_toArray, List.set_cons_zero, List.set_cons_succ]
        refine hw_skip 9 (some 21) rfl rfl (by kernel_rfl) (by kernel_rfl) (by kernel_rfl) (fun _ _ _ h => h) (by rfl) hH ?_
        simp only [Act.put, List.setIfInBounds_toArray, List.set_cons_zero, List.set_cons_succ]
        refine hw_skip 10 (some 22) rfl rfl (by kernel_rfl) (by kernel_rfl) (by kernel_rfl) (fun _ _ _ h => h) (by rfl) hH ?_
        simp only [Act.put, List.setIfInBounds_toArray, List.set_cons_zero, List.set_cons_succ]
        refine hw_skip 11 (some 23) rfl rfl (by kernel_rfl) (by kernel_rfl) (by kernel_rfl) (fun _ _ _ h => h) (by rfl) hH ?_
        simp only [Act.put, List.setIfInBounds_toArray, List.set_cons_zero, List.set_cons_succ]
        refine hw_skip 12 (some 24) rfl rfl (by kernel_rfl) (by kernel_rfl) (by kernel_rfl) (fun _ _ _ h => h) (by rfl) hH ?_
        simp only [Act.put, List.setIfInBounds_toArray, List.set_cons_zero, List.set_cons_succ]
        refine hw_skip 13 (some 25) rfl rfl (by kernel_rfl) (by kernel_rfl) (by kernel_rfl) (fun _ _ _ h => h) (by rfl) hH ?_
        simp only [Act.put, List.setIfInBounds_toArray, List.set_cons_zero, List.set_cons_succ]
        refine hw_skip 14 (some 26) rfl rfl (by kernel_rfl) (by kernel_rfl) (by kernel_rfl) (fun _ _ _ h => h) (by rfl) hH ?_
        simp only [Act.put, List.setIfInBounds_toArray, List.set_cons_zero, List.set_cons_succ]
        refine' hw_take 15 (some 27) _ rfl rfl (by kernel_rfl) (by kernel_rfl) (by kernel_rfl) (fun _ _ _ h => h) (by rfl) hH ?hy4 ?rest4
        case hy4 =>
          intro X hX
          go_simp
          try rfl
        simp only [Act.put, List.setIfInBounds_toArray, List.set_cons_zero, List.set_cons_succ]
        refine wpAnyH_done (by kernel_rfl) ?_ _
        have nd := hnw.trans d1
        have hrowd := row_turn7 hrow d1 (fun _ _ f => f)
        clear q0 q3 q4 q5 q6 q7 hrow
        have q1d := (d1.below.cell (World.block_lt_of_cell? _ _ q1)).trans q1
        have q2d := (d1.below.cell (World.block_lt_of_cell? _ _ q2)).trans q2
        generalize wr.drew = wd at *
        go_wp2_with fail
        refine (l7Best_any a l (some ⟨b, off, none⟩) N cc V _ (HA.out _ nd) HN.out hm).mono ?_
        rintro e w1 ⟨tt, rfl, hLb, h1⟩
        obtain ⟨i, v, rfl, hiv, hkv, hbst⟩ : ∃ (i : Nat) (v : Rv), tt = (i : Int) ∧ V[i]? = some v ∧ keepS a l v.r = true ∧ ∀ j u, j < N → V[j]? = some u → keepS a l u.r = true → ¬ cW u.r v.r < 0 := by
          rcases hLb with ⟨-, hno⟩ | hsome
          · have e := hno k _ hlt HV.out
            unfold keepS at e
            simp at e
          · exact hsome
        have hkk := of_decide_eq_true hkv
        have hBf : BfOk (V.map Rv.r) a l 0 v.r := by
          refine .inr ⟨rfl, List.mem_map_of_mem (List.mem_of_getElem? hiv), hkv, fun s hs hks => ?_⟩
          obtain ⟨u, hu, rfl⟩ := List.mem_map.1 hs
          obtain ⟨j, hj⟩ := List.getElem?_of_mem hu
          have g1 := hbst j u (by have := (List.getElem?_eq_some_iff.1 hj).1; have := HN.out; omega) hj hks
          unfold cW at g1
          have g2 := of_decide_eq_true hks
          rw [hcmp_lt]
          omega
        have HS : Hid (PreOk V (k + 1) (U ++ [v])) := HPRE.out.new HR.out HV.out HNW.out hBf (List.mem_of_getElem? hiv) hkk.1.symm hkk.2.symm
        have hii := (List.getElem?_eq_some_iff.1 hiv).1
        have hiN : i < N := by have := HN.out; omega
        have hi0' : (0 : Int) ≤ (i : Int) := by omega
        have hi1' : (i : Int) < (N : Int) := by omega
        obtain ⟨b9, off9, p9, a9, l9, o9, nx9, md9, lc9, x9, m9, d9, xs9, hA9, hv9, hlen9, -, -, -, z0, z1, z2, z3, z4, z5, z6, z7⟩ := (HA.out _ (nd.trans h1)).at i hii
        simp only [Option.some.injEq, Addr.mk.injEq, and_true] at hA9
        obtain ⟨rfl, rfl⟩ := hA9
        subst hlen9
        rw [hiv] at hv9
        obtain rfl := Option.some.inj hv9
        have n1 := nd.trans h1
        have hrow1 := row_turn7 hrowd h1 (fun _ _ f => f)
        have bL := Blk.mk w1 w1.heap.size 38 #[.int .i64 p9, .int .i64 a9, .int .i64 l9, .int .i64 o9, .slice x9 xs9.length d9, .int .i64 nx9, .int .i64 md9, .int .i64 lc9] rfl
        have aL := (New.refl w1).alloc (.cells #[.int .i64 p9, .int .i64 a9, .int .i64 l9, .int .i64 o9, .slice x9 xs9.length d9, .int .i64 nx9, .int .i64 md9, .int .i64 lc9] 38)
        have hrow3 := row_turn7 hrow1 aL (fun _ _ f => f)
        have hsz : w.heap.size ≤ (w1.alloc (.cells #[.int .i64 p9, .int .i64 a9, .int .i64 l9, .int .i64 o9, .slice x9 xs9.length d9, .int .i64 nx9, .int .i64 md9, .int .i64 lc9] 38)).heap.size := (n1.trans aL).size
        have hsrc : ∀ j, (w1.alloc (.cells #[.int .i64 p9, .int .i64 a9, .int .i64 l9, .int .i64 o9, .slice x9 xs9.length d9, .int .i64 nx9, .int .i64 md9, .int .i64 lc9] 38)).cell? ⟨w1.heap.size, j, none⟩ = (Rv.mk (Rt.mk p9 a9 l9 o9 xs9 nx9 md9 lc9) x9 d9).cs[j]? := by
          intro j
          rw [bL.cells j]
          unfold Rv.cs
          simp
        clear hbst hkv hkk hBf hiv hLb bL q1d q2d
        go_wp2_with (at_builtin; refine wpList_apT _ rfl (.tmp 28) (.tmp 39) rfl w.heap.size _ Tryz.underlying24 hi hz0 hz1 hz2 rfl _ U rfl hrow3 w1.heap.size (Rv.mk (Rt.mk p9 a9 l9 o9 xs9 nx9 md9 lc9) x9 d9) rfl hsrc (by have := HLK.out; omega) hsz ?_)
        intro v5 w5 hr5 hg5 _
        have N5 : New w w5 := ((n1.trans aL).grow hg5 (fun j hj => (row_rng7 hrow3 j hj).1))
        clear hg5 hrow3 hsrc hrow1 hrowd
        go_wp2
        go_roundw
        case rel => exact ⟨k + 1, U ++ [⟨⟨p9, a9, l9, o9, xs9, nx9, md9, lc9⟩, x9, d9⟩], by omega, by go_num, by rw [List.length_append]; have := HLK.out; simp; omega, (by rw [List.length_append]; exact hr5), HS.out, N5⟩
        case measure => simp [intOf]; omega
      case neg =>
        have hkb : ((k : Int) == 0) = false := by simp; omega
        have hwk : IntKind.i64.wrap ((k : Int) - 1) = ((k - 1 : Nat) : Int) := by rw [IntKind.wrap_i64]; omega
        have hj0 : (0 : Int) ≤ ((k - 1 : Nat) : Int) := by omega
        have hj1 : ((k - 1 : Nat) : Int) < (N : Int) := by omega
        obtain ⟨b', off', p', a', l', o', nx', md', lc', x', m', d', xs', hA', hv', -, -, -, -, y0, y1, y2, y3, y4, y5, y6, y7⟩ := (HA.out _ hnw).at (k - 1) (by have := HN.out; omega)
        simp only [Option.some.injEq, Addr.mk.injEq, and_true] at hA'
        obtain ⟨rfl, rfl⟩ := hA'
        have HV' : Hid (V[k - 1]? = some ⟨⟨p', a', l', o', xs', nx', md', lc'⟩, x', d'⟩) := hv'
        have HZ : Hid (0 < k) := by unfold Hid; omega
        clear hv' hz
        by_cases ha : a = a'
        case neg =>
          have HNW : Hid (k = 0 ∨ ∀ v', V[k - 1]? = some v' → ¬ (a = v'.r.a ∧ l = v'.r.l)) := .inr (fun v' hv' e => by rw [HV'.out] at hv'; obtain rfl := Option.some.inj hv'; exact ha e.1)
          go_upto_region 5 with fail
          refine hw_start (n := 16) (S := fun X => New wr X) rfl (by kernel_rfl) ((New.refl wr).drew) (fun hH => ?_)
          refine' hw_take 0 (some 12) _ rfl rfl (by kernel_rfl) (by kernel_rfl) (by kernel_rfl) (fun _ _ _ h => h) (by rfl) hH ?hy5 ?rest5
          case hy5 =>
            intro X hX
            go_simp
            try rfl
          simp only [Act.put, List.setIfInBounds_toArray, List.set_cons_zero, List.set_cons_succ]
          refine' hw_take 1 (some 13) _ rfl rfl (by kernel_rfl) (by kernel_rfl) (by kernel_rfl) (fun _ _ _ h => h) (by rfl) hH ?hy6 ?rest6
          case hy6 =>
            intro X hX
            go_simp
            try rfl
          simp only [Act.put, List.setIfInBounds_toArray, List.set_cons_zero, List.set_cons_succ]
          refine' hw_take 2 (some 14) _ rfl rfl (by kernel_rfl) (by kernel_rfl) (by kernel_rfl) (fun _ _ _ h => h) (by rfl) hH ?hy7 ?rest7
          case hy7 =>
            intro X hX
            go_simp
            try rfl
          simp only [Act.put, List.setIfInBounds_toArray, List.set_cons_zero, List.set_cons_succ]
          refine' hw_take 3 (some 15) _ rfl rfl (by kernel_rfl) (by kernel_rfl) (by kernel_rfl) (fun _ _ _ h => h) (by rfl) hH ?hy8 ?rest8
          case hy8 =>
            intro X hX
            go_simp
            try rfl
          simp only [Act.put, List.setIfInBounds_toArray, List.set_cons_zero, List.set_cons_succ]
          refine' hw_take 4 (some 16) _ rfl rfl (by kernel_rfl) (by kernel_rfl) (by kernel_rfl) (fun _ _ _ h => h) (by rfl) hH ?hy9 ?rest9
          case hy9 =>
            intro X hX
            go_simp
            try rfl
          simp only [Act.put, List.setIfInBounds_toArray, List.set_cons_zero, List.set_cons_succ]
          refine' hw_take 5 (some 17) _ rfl rfl (by kernel_rfl) (by kernel_rfl) (by kernel_rfl) (fun _ _ _ h => h) (by rfl) hH ?hy10 ?rest10
          case hy10 =>
            intro X hX
            go_simp
            try rfl
          simp only [Act.put, List.setIfInBounds_toArray, List.set_cons_zero, List.set_cons_succ]
          refine' hw_take 6 (some 18) _ rfl rfl (by kernel_rfl) (by kernel_rfl) (by kernel_rfl) (fun _ _ _ h => h) (by rfl) hH ?hy11 ?rest11
          case hy11 =>
            intro X hX
            go_simp
            try rfl
          simp only [Act.put, List.setIfInBounds_toArray, List.set_cons_zero, List.set_cons_succ]
          refine' hw_take 7 (some 19) _ rfl rfl (by kernel_rfl) (by kernel_rfl) (by kernel_rfl) (fun _ _ _ h => h) (by rfl) hH ?hy12 ?rest12
          case hy12 =>
            intro X hX
            have q1X := (hX.below.cell (World.block_lt_of_cell? _ _ q1)).trans q1
            have q2X := (hX.below.cell (World.block_lt_of_cell? _ _ q2)).trans q2
            go_simp
            try rfl
          simp only [Act.put, List.setIfInBounds_toArray, List.set_cons_zero, List.set_cons_succ]
          refine' hw_take 8 (some 20) _ rfl rfl (by kernel_rfl) (by kernel_rfl) (by kernel_rfl) (fun _ _ _ h => h) (by rfl) hH ?hy13 ?rest13
          case hy13 =>
            intro X hX
            go_simp
            try rfl
          simp only [Act.put, List.setIfInBounds_toArray, List.set_cons_zero, List.set_cons_succ]
          refine' hw_take 9 (some 21) _ rfl rfl (by kernel_rfl) (by kernel_rfl) (by kernel_rfl) (fun _ _ _ h => h) (by rfl) hH ?hy14 ?rest14
          case hy14 =>
            intro X hX
            go_simp
            try rfl
          simp only [Act.put, List.setIfInBounds_toArray, List.set_cons_zero, List.set_cons_succ]
          refine' hw_take 10 (some 22) _ rfl rfl (by kernel_rfl) (by kernel_rfl) (by kernel_rfl) (fun _ _ _ h => h) (by rfl) hH ?hy15 ?rest15
          case hy15 =>
            intro X hX
            go_simp
            try rfl
          simp only [Act.put, List.setIfInBounds_toArray, List.set_cons_zero, List.set_cons_succ]
          refine' hw_take 11 (some 23) _ rfl rfl (by kernel_rfl) (by kernel_rfl) (by kernel_rfl) (fun _ _ _ h => h) (by rfl) hH ?hy16 ?rest16
          case hy16 =>
            intro X hX
            go_simp
            try rfl
          simp only [Act.put, List.setIfInBounds_toArray, List.set_cons_zero, List.set_cons_succ]
          refine' hw_take 12 (some 24) _ rfl rfl (by kernel_rfl) (by kernel_rfl) (by kernel_rfl) (fun _ _ _ h => h) (by rfl) hH ?hy17 ?rest17
          case hy17 =>
            intro X hX
            go_simp
            try rfl
          simp only [Act.put, List.setIfInBounds_toArray, List.set_cons_zero, List.set_cons_succ]
          refine' hw_take 13 (some 25) _ rfl rfl (by kernel_rfl) (by kernel_rfl) (by kernel_rfl) (fun _ _ _ h => h) (by rfl) hH ?hy18 ?rest18
          case hy18 =>
            intro X hX
            have y1X := (hX.below.cell (World.block_lt_of_cell? _ _ y1)).trans y1
            have y2X := (hX.below.cell (World.block_lt_of_cell? _ _ y2)).trans y2
            go_simp
            try rfl
          simp only [Act.put, List.setIfInBounds_toArray, List.set_cons_zero, List.set_cons_succ]
          refine' hw_take 14 (some 26) _ rfl rfl (by kernel_rfl) (by kernel_rfl) (by kernel_rfl) (fun _ _ _ h => h) (by rfl) hH ?hy19 ?rest19
          case hy19 =>
            intro X hX
            go_simp
            try rfl
          simp only [Act.put, List.setIfInBounds_toArray, List.set_cons_zero, List.set_cons_succ]
          refine' hw_take 15 (some 27) _ rfl rfl (by kernel_rfl) (by kernel_rfl) (by kernel_rfl) (fun _ _ _ h => h) (by rfl) hH ?hy20 ?rest20
          case hy20 =>
            intro X hX
            go_simp
            try rfl
          simp only [Act.put, List.setIfInBounds_toArray, List.set_cons_zero, List.set_cons_succ]
          refine wpAnyH_done (by kernel_rfl) ?_ _
          have nd := hnw.trans d1
          have hrowd := row_turn7 hrow d1 (fun _ _ f => f)
          clear q0 q3 q4 q5 q6 q7 hrow
          have q1d := (d1.below.cell (World.block_lt_of_cell? _ _ q1)).trans q1
          have q2d := (d1.below.cell (World.block_lt_of_cell? _ _ q2)).trans q2
          generalize wr.drew = wd at *
          go_wp2_with fail
          refine (l7Best_any a l (some ⟨b, off, none⟩) N cc V _ (HA.out _ nd) HN.out hm).mono ?_
          rintro e w1 ⟨tt, rfl, hLb, h1⟩
          obtain ⟨i, v, rfl, hiv, hkv, hbst⟩ : ∃ (i : Nat) (v : Rv), tt = (i : Int) ∧ V[i]? = some v ∧ keepS a l v.r = true ∧ ∀ j u, j < N → V[j]? = some u → keepS a l u.r = true → ¬ cW u.r v.r < 0 := by
            rcases hLb with ⟨-, hno⟩ | hsome
            · have e := hno k _ hlt HV.out
              unfold keepS at e
              simp at e
            · exact hsome
          have hkk := of_decide_eq_true hkv
          have hBf : BfOk (V.map Rv.r) a l 0 v.r := by
            refine .inr ⟨rfl, List.mem_map_of_mem (List.mem_of_getElem? hiv), hkv, fun s hs hks => ?_⟩
            obtain ⟨u, hu, rfl⟩ := List.mem_map.1 hs
            obtain ⟨j, hj⟩ := List.getElem?_of_mem hu
            have g1 := hbst j u (by have := (List.getElem?_eq_some_iff.1 hj).1; have := HN.out; omega) hj hks
            unfold cW at g1
            have g2 := of_decide_eq_true hks
            rw [hcmp_lt]
            omega
          have HS : Hid (PreOk V (k + 1) (U ++ [v])) := HPRE.out.new HR.out HV.out HNW.out hBf (List.mem_of_getElem? hiv) hkk.1.symm hkk.2.symm
          have hii := (List.getElem?_eq_some_iff.1 hiv).1
          have hiN : i < N := by have := HN.out; omega
          have hi0' : (0 : Int) ≤ (i : Int) := by omega
          have hi1' : (i : Int) < (N : Int) := by omega
          obtain ⟨b9, off9, p9, a9, l9, o9, nx9, md9, lc9, x9, m9, d9, xs9, hA9, hv9, hlen9, -, -, -, z0, z1, z2, z3, z4, z5, z6, z7⟩ := (HA.out _ (nd.trans h1)).at i hii
          simp only [Option.some.injEq, Addr.mk.injEq, and_true] at hA9
          obtain ⟨rfl, rfl⟩ := hA9
          subst hlen9
          rw [hiv] at hv9
          obtain rfl := Option.some.inj hv9
          have n1 := nd.trans h1
          have hrow1 := row_turn7 hrowd h1 (fun _ _ f => f)
          have bL := Blk.mk w1 w1.heap.size 38 #[.int .i64 p9, .int .i64 a9, .int .i64 l9, .int .i64 o9, .slice x9 xs9.length d9, .int .i64 nx9, .int .i64 md9, .int .i64 lc9] rfl
          have aL := (New.refl w1).alloc (.cells #[.int .i64 p9, .int .i64 a9, .int .i64 l9, .int .i64 o9, .slice x9 xs9.length d9, .int .i64 nx9, .int .i64 md9, .int .i64 lc9] 38)
          have hrow3 := row_turn7 hrow1 aL (fun _ _ f => f)
          have hsz : w.heap.size ≤ (w1.alloc (.cells #[.int .i64 p9, .int .i64 a9, .int .i64 l9, .int .i64 o9, .slice x9 xs9.length d9, .int .i64 nx9, .int .i64 md9, .int .i64 lc9] 38)).heap.size := (n1.trans aL).size
          have hsrc : ∀ j, (w1.alloc (.cells #[.int .i64 p9, .int .i64 a9, .int .i64 l9, .int .i64 o9, .slice x9 xs9.length d9, .int .i64 nx9, .int .i64 md9, .int .i64 lc9] 38)).cell? ⟨w1.heap.size, j, none⟩ = (Rv.mk (Rt.mk p9 a9 l9 o9 xs9 nx9 md9 lc9) x9 d9).cs[j]? := by
            intro j
            rw [bL.cells j]
            unfold Rv.cs
            simp
          clear hbst hkv hkk hBf hiv hLb bL q1d q2d
          go_wp2_with (at_builtin; refine wpList_apT _ rfl (.tmp 28) (.tmp 39) rfl w.heap.size _ Tryz.underlying24 hi hz0 hz1 hz2 rfl _ U rfl hrow3 w1.heap.size (Rv.mk (Rt.mk p9 a9 l9 o9 xs9 nx9 md9 lc9) x9 d9) rfl hsrc (by have := HLK.out; omega) hsz ?_)
          intro v5 w5 hr5 hg5 _
          have N5 : New w w5 := ((n1.trans aL).grow hg5 (fun j hj => (row_rng7 hrow3 j hj).1))
          clear hg5 hrow3 hsrc hrow1 hrowd
          go_wp2
          go_roundw
          case rel => exact ⟨k + 1, U ++ [⟨⟨p9, a9, l9, o9, xs9, nx9, md9, lc9⟩, x9, d9⟩], by omega, by go_num, by rw [List.length_append]; have := HLK.out; simp; omega, (by rw [List.length_append]; exact hr5), HS.out, N5⟩
          case measure => simp [intOf]; omega
        case pos =>
          by_cases hl : l = l'
          case neg =>
            have HNW : Hid (k = 0 ∨ ∀ v', V[k - 1]? = some v' → ¬ (a = v'.r.a ∧ l = v'.r.l)) := .inr (fun v' hv' e => by rw [HV'.out] at hv'; obtain rfl := Option.some.inj hv'; exact hl e.2)
            subst ha
            go_upto_region 5 with fail
            refine hw_start (n := 16) (S := fun X => New wr X) rfl (by kernel_rfl) ((New.refl wr).drew) (fun hH => ?_)
            refine' hw_take 0 (some 12) _ rfl rfl (by kernel_rfl) (by kernel_rfl) (by kernel_rfl) (fun _ _ _ h => h) (by rfl) hH ?hy21 ?rest21
            case hy21 =>
              intro X hX
              go_simp
              try rfl
            simp only [Act.put, List.setIfInBounds_toArray, List.set_cons_zero, List.set_cons_succ]
            refine' hw_take 1 (some 13) _ rfl rfl (by kernel_rfl) (by kernel_rfl) (by kernel_rfl) (fun _ _ _ h => h) (by rfl) hH ?hy22 ?rest22
            case hy22 =>
              intro X hX
              go_simp
              try rfl
            simp only [Act.put, List.setIfInBounds_toArray, List.set_cons_zero, List.set_cons_succ]
            refine' hw_take 2 (some 14) _ rfl rfl (by kernel_rfl) (by kernel_rfl) (by kernel_rfl) (fun _ _ _ h => h) (by rfl) hH ?hy23 ?rest23
            case hy23 =>
              intro X hX
              go_simp
              try rfl
            simp only [Act.put, List.setIfInBounds_toArray, List.set_cons_zero, List.set_cons_succ]
            refine' hw_take 3 (some 15) _ rfl rfl (by kernel_rfl) (by kernel_rfl) (by kernel_rfl) (fun _ _ _ h => h) (by rfl) hH ?hy24 ?rest24
            case hy24 =>
              intro X hX
              go_simp
              try rfl
            simp only [Act.put, List.setIfInBounds_toArray, List.set_cons_zero, List.set_cons_succ]
            refine' hw_take 4 (some 16) _ rfl rfl (by kernel_rfl) (by kernel_rfl) (by kernel_rfl) (fun _ _ _ h => h) (by rfl) hH ?hy25 ?rest25
            case hy25 =>
              intro X hX
              go_simp
              try rfl
            simp only [Act.put, List.setIfInBounds_toArray, List.set_cons_zero, List.set_cons_succ]
            refine' hw_take 5 (some 17) _ rfl rfl (by kernel_rfl) (by kernel_rfl) (by kernel_rfl) (fun _ _ _ h => h) (by rfl) hH ?hy26 ?rest26
            case hy26 =>
              intro X hX
              go_simp
              try rfl
            simp only [Act.put, List.setIfInBounds_toArray, List.set_cons_zero, List.set_cons_succ]
            refine' hw_take 6 (some 18) _ rfl rfl (by kernel_rfl) (by kernel_rfl) (by kernel_rfl) (fun _ _ _ h => h) (by rfl) hH ?hy27 ?rest27
            case hy27 =>
              intro X hX
              go_simp
              try rfl
            simp only [Act.put, List.setIfInBounds_toArray, List.set_cons_zero, List.set_cons_succ]
            refine' hw_take 7 (some 19) _ rfl rfl (by kernel_rfl) (by kernel_rfl) (by kernel_rfl) (fun _ _ _ h => h) (by rfl) hH ?hy28 ?rest28
            case hy28 =>
              intro X hX
              have q1X := (hX.below.cell (World.block_lt_of_cell? _ _ q1)).trans q1
              have q2X := (hX.below.cell (World.block_lt_of_cell? _ _ q2)).trans q2
              go_simp
              try rfl
            simp only [Act.put, List.setIfInBounds_toArray, List.set_cons_zero, List.set_cons_succ]
            refine' hw_take 8 (some 20) _ rfl rfl (by kernel_rfl) (by kernel_rfl) (by kernel_rfl) (fun _ _ _ h => h) (by rfl) hH ?hy29 ?rest29
            case hy29 =>
              intro X hX
              go_simp
              try rfl
            simp only [Act.put, List.setIfInBounds_toArray, List.set_cons_zero, List.set_cons_succ]
            refine' hw_take 9 (some 21) _ rfl rfl (by kernel_rfl) (by kernel_rfl) (by kernel_rfl) (fun _ _ _ h => h) (by rfl) hH ?hy30 ?rest30
            case hy30 =>
              intro X hX
              go_simp
              try rfl
            simp only [Act.put, List.setIfInBounds_toArray, List.set_cons_zero, List.set_cons_succ]
            refine' hw_take 10 (some 22) _ rfl rfl (by kernel_rfl) (by kernel_rfl) (by kernel_rfl) (fun _ _ _ h => h) (by rfl) hH ?hy31 ?rest31
            case hy31 =>
              intro X hX
              go_simp
              try rfl
            simp only [Act.put, List.setIfInBounds_toArray, List.set_cons_zero, List.set_cons_succ]
            refine' hw_take 11 (some 23) _ rfl rfl (by kernel_rfl) (by kernel_rfl) (by kernel_rfl) (fun _ _ _ h => h) (by rfl) hH ?hy32 ?rest32
            case hy32 =>
              intro X hX
              go_simp
              try rfl
            simp only [Act.put, List.setIfInBounds_toArray, List.set_cons_zero, List.set_cons_succ]
            refine' hw_take 12 (some 24) _ rfl rfl (by kernel_rfl) (by kernel_rfl) (by kernel_rfl) (fun _ _ _ h => h) (by rfl) hH ?hy33 ?rest33
            case hy33 =>
              intro X hX
              go_simp
              try rfl
            simp only [Act.put, List.setIfInBounds_toArray, List.set_cons_zero, List.set_cons_succ]
            refine' hw_take 13 (some 25) _ rfl rfl (by kernel_rfl) (by kernel_rfl) (by kernel_rfl) (fun _ _ _ h => h) (by rfl) hH ?hy34 ?rest34
            case hy34 =>
              intro X hX
              have y1X := (hX.below.cell (World.block_lt_of_cell? _ _ y1)).trans y1
              have y2X := (hX.below.cell (World.block_lt_of_cell? _ _ y2)).trans y2
              go_simp
              try rfl
            simp only [Act.put, List.setIfInBounds_toArray, List.set_cons_zero, List.set_cons_succ]
            refine' hw_take 14 (some 26) _ rfl rfl (by kernel_rfl) (by kernel_rfl) (by kernel_rfl) (fun _ _ _ h => h) (by rfl) hH ?hy35 ?rest35
            case hy35 =>
              intro X hX
              go_simp
              try rfl
            simp only [Act.put, List.setIfInBounds_toArray, List.set_cons_zero, List.set_cons_succ]
            refine' hw_take 15 (some 27) _ rfl rfl (by kernel_rfl) (by kernel_rfl) (by kernel_rfl) (fun _ _ _ h => h) (by rfl) hH ?hy36 ?rest36
            case hy36 =>
              intro X hX
              go_simp
              try rfl
            simp only [Act.put, List.setIfInBounds_toArray, List.set_cons_zero, List.set_cons_succ]
            refine wpAnyH_done (by kernel_rfl) ?_ _
            have nd := hnw.trans d1
            have hrowd := row_turn7 hrow d1 (fun _ _ f => f)
            clear q0 q3 q4 q5 q6 q7 hrow
            have q1d := (d1.below.cell (World.block_lt_of_cell? _ _ q1)).trans q1
            have q2d := (d1.below.cell (World.block_lt_of_cell? _ _ q2)).trans q2
            generalize wr.drew = wd at *
            go_wp2_with fail
            refine (l7Best_any a l (some ⟨b, off, none⟩) N cc V _ (HA.out _ nd) HN.out hm).mono ?_
            rintro e w1 ⟨tt, rfl, hLb, h1⟩
            obtain ⟨i, v, rfl, hiv, hkv, hbst⟩ : ∃ (i : Nat) (v : Rv), tt = (i : Int) ∧ V[i]? = some v ∧ keepS a l v.r = true ∧ ∀ j u, j < N → V[j]? = some u → keepS a l u.r = true → ¬ cW u.r v.r < 0 := by
              rcases hLb with ⟨-, hno⟩ | hsome
              · have e := hno k _ hlt HV.out
                unfold keepS at e
                simp at e
              · exact hsome
            have hkk := of_decide_eq_true hkv
            have hBf : BfOk (V.map Rv.r) a l 0 v.r := by
              refine .inr ⟨rfl, List.mem_map_of_mem (List.mem_of_getElem? hiv), hkv, fun s hs hks => ?_⟩
              obtain ⟨u, hu, rfl⟩ := List.mem_map.1 hs
              obtain ⟨j, hj⟩ := List.getElem?_of_mem hu
              have g1 := hbst j u (by have := (List.getElem?_eq_some_iff.1 hj).1; have := HN.out; omega) hj hks
              unfold cW at g1
              have g2 := of_decide_eq_true hks
              rw [hcmp_lt]
              omega
            have HS : Hid (PreOk V (k + 1) (U ++ [v])) := HPRE.out.new HR.out HV.out HNW.out hBf (List.mem_of_getElem? hiv) hkk.1.symm hkk.2.symm
            have hii := (List.getElem?_eq_some_iff.1 hiv).1
            have hiN : i < N := by have := HN.out; omega
            have hi0' : (0 : Int) ≤ (i : Int) := by omega
            have hi1' : (i : Int) < (N : Int) := by omega
            obtain ⟨b9, off9, p9, a9, l9, o9, nx9, md9, lc9, x9, m9, d9, xs9, hA9, hv9, hlen9, -, -, -, z0, z1, z2, z3, z4, z5, z6, z7⟩ := (HA.out _ (nd.trans h1)).at i hii
            simp only [Option.some.injEq, Addr.mk.injEq, and_true] at hA9
            obtain ⟨rfl, rfl⟩ := hA9
            subst hlen9
            rw [hiv] at hv9
            obtain rfl := Option.some.inj hv9
            have n1 := nd.trans h1
            have hrow1 := row_turn7 hrowd h1 (fun _ _ f => f)
            have bL := Blk.mk w1 w1.heap.size 38 #[.int .i64 p9, .int .i64 a9, .int .i64 l9, .int .i64 o9, .slice x9 xs9.length d9, .int .i64 nx9, .int .i64 md9, .int .i64 lc9] rfl
            have aL := (New.refl w1).alloc (.cells #[.int .i64 p9, .int .i64 a9, .int .i64 l9, .int .i64 o9, .slice x9 xs9.length d9, .int .i64 nx9, .int .i64 md9, .int .i64 lc9] 38)
            have hrow3 := row_turn7 hrow1 aL (fun _ _ f => f)
            have hsz : w.heap.size ≤ (w1.alloc (.cells #[.int .i64 p9, .int .i64 a9, .int .i64 l9, .int .i64 o9, .slice x9 xs9.length d9, .int .i64 nx9, .int .i64 md9, .int .i64 lc9] 38)).heap.size := (n1.trans aL).size
            have hsrc : ∀ j, (w1.alloc (.cells #[.int .i64 p9, .int .i64 a9, .int .i64 l9, .int .i64 o9, .slice x9 xs9.length d9, .int .i64 nx9, .int .i64 md9, .int .i64 lc9] 38)).cell? ⟨w1.heap.size, j, none⟩ = (Rv.mk (Rt.mk p9 a9 l9 o9 xs9 nx9 md9 lc9) x9 d9).cs[j]? := by
              intro j
              rw [bL.cells j]
              unfold Rv.cs
              simp
            clear hbst hkv hkk hBf hiv hLb bL q1d q2d
            go_wp2_with (at_builtin; refine wpList_apT _ rfl (.tmp 28) (.tmp 39) rfl w.heap.size _ Tryz.underlying24 hi hz0 hz1 hz2 rfl _ U rfl hrow3 w1.heap.size (Rv.mk (Rt.mk p9 a9 l9 o9 xs9 nx9 md9 lc9) x9 d9) rfl hsrc (by have := HLK.out; omega) hsz ?_)
            intro v5 w5 hr5 hg5 _
            have N5 : New w w5 := ((n1.trans aL).grow hg5 (fun j hj => (row_rng7 hrow3 j hj).1))
            clear hg5 hrow3 hsrc hrow1 hrowd
            go_wp2
            go_roundw
            case rel => exact ⟨k + 1, U ++ [⟨⟨p9, a9, l9, o9, xs9, nx9, md9, lc9⟩, x9, d9⟩], by omega, by go_num, by rw [List.length_append]; have := HLK.out; simp; omega, (by rw [List.length_append]; exact hr5), HS.out, N5⟩
            case measure => simp [intOf]; omega
          case pos =>
            have HS : Hid (PreOk V (k + 1) U) := HPRE.out.same HV.out HV'.out HZ.out ha hl
            subst ha
            subst hl
            have hrowd := row_turn7 hrow d1 (fun _ _ f => f)
            go_upto_region 5 with fail
            refine hw_start (n := 16) (S := fun X => New wr X) rfl (by kernel_rfl) ((New.refl wr).drew) (fun hH => ?_)
            refine' hw_take 0 (some 12) _ rfl rfl (by kernel_rfl) (by kernel_rfl) (by kernel_rfl) (fun _ _ _ h => h) (by rfl) hH ?hy37 ?rest37
            case hy37 =>
              intro X hX
              go_simp
              try rfl
            simp only [Act.put, List.setIfInBounds_toArray, List.set_cons_zero, List.set_cons_succ]
            refine' hw_take 1 (some 13) _ rfl rfl (by kernel_rfl) (by kernel_rfl) (by kernel_rfl) (fun _ _ _ h => h) (by rfl) hH ?hy38 ?rest38
            case hy38 =>
              intro X hX
              go_simp
              try rfl
            simp only [Act.put, List.setIfInBounds_toArray, List.set_cons_zero, List.set_cons_succ]
            refine' hw_take 2 (some 14) _ rfl rfl (by kernel_rfl) (by kernel_rfl) (by kernel_rfl) (fun _ _ _ h => h) (by rfl) hH ?hy39 ?rest39
            case hy39 =>
              intro X hX
              go_simp
              try rfl
            simp only [Act.put, List.setIfInBounds_toArray, List.set_cons_zero, List.set_cons_succ]
            refine' hw_take 3 (some 15) _ rfl rfl (by kernel_rfl) (by kernel_rfl) (by kernel_rfl) (fun _ _ _ h => h) (by rfl) hH ?hy40 ?rest40
            case hy40 =>
              intro X hX
              go_simp
              try rfl
            simp only [Act.put, List.setIfInBounds_toArray, List.set_cons_zero, List.set_cons_succ]
            refine' hw_take 4 (some 16) _ rfl rfl (by kernel_rfl) (by kernel_rfl) (by kernel_rfl) (fun _ _ _ h => h) (by rfl) hH ?hy41 ?rest41
            case hy41 =>
              intro X hX
              go_simp
              try rfl
            simp only [Act.put, List.setIfInBounds_toArray, List.set_cons_zero, List.set_cons_succ]
            refine' hw_take 5 (some 17) _ rfl rfl (by kernel_rfl) (by kernel_rfl) (by kernel_rfl) (fun _ _ _ h => h) (by rfl) hH ?hy42 ?rest42
            case hy42 =>
              intro X hX
              go_simp
              try rfl
            simp only [Act.put, List.setIfInBounds_toArray, List.set_cons_zero, List.set_cons_succ]
            refine' hw_take 6 (some 18) _ rfl rfl (by kernel_rfl) (by kernel_rfl) (by kernel_rfl) (fun _ _ _ h => h) (by rfl) hH ?hy43 ?rest43
            case hy43 =>
              intro X hX
              go_simp
              try rfl
            simp only [Act.put, List.setIfInBounds_toArray, List.set_cons_zero, List.set_cons_succ]
            refine' hw_take 7 (some 19) _ rfl rfl (by kernel_rfl) (by kernel_rfl) (by kernel_rfl) (fun _ _ _ h => h) (by rfl) hH ?hy44 ?rest44
            case hy44 =>
              intro X hX
              have q1X := (hX.below.cell (World.block_lt_of_cell? _ _ q1)).trans q1
              have q2X := (hX.below.cell (World.block_lt_of_cell? _ _ q2)).trans q2
              go_simp
              try rfl
            simp only [Act.put, List.setIfInBounds_toArray, List.set_cons_zero, List.set_cons_succ]
            refine' hw_take 8 (some 20) _ rfl rfl (by kernel_rfl) (by kernel_rfl) (by kernel_rfl) (fun _ _ _ h => h) (by rfl) hH ?hy45 ?rest45
            case hy45 =>
              intro X hX
              go_simp
              try rfl
            simp only [Act.put, List.setIfInBounds_toArray, List.set_cons_zero, List.set_cons_succ]
            refine' hw_take 9 (some 21) _ rfl rfl (by kernel_rfl) (by kernel_rfl) (by kernel_rfl) (fun _ _ _ h => h) (by rfl) hH ?hy46 ?rest46
            case hy46 =>
              intro X hX
              go_simp
              try rfl
            simp only [Act.put, List.setIfInBounds_toArray, List.set_cons_zero, List.set_cons_succ]
            refine' hw_take 10 (some 22) _ rfl rfl (by kernel_rfl) (by kernel_rfl) (by kernel_rfl) (fun _ _ _ h => h) (by rfl) hH ?hy47 ?rest47
            case hy47 =>
              intro X hX
              go_simp
              try rfl
            simp only [Act.put, List.setIfInBounds_toArray, List.set_cons_zero, List.set_cons_succ]
            refine' hw_take 11 (some 23) _ rfl rfl (by kernel_rfl) (by kernel_rfl) (by kernel_rfl) (fun _ _ _ h => h) (by rfl) hH ?hy48 ?rest48
            case hy48 =>
              intro X hX
              go_simp
              try rfl
            simp only [Act.put, List.setIfInBounds_toArray, List.set_cons_zero, List.set_cons_succ]
            refine' hw_take 12 (some 24) _ rfl rfl (by kernel_rfl) (by kernel_rfl) (by kernel_rfl) (fun _ _ _ h => h) (by rfl) hH ?hy49 ?rest49
            case hy49 =>
              intro X hX
              go_simp
              try rfl
            simp only [Act.put, List.setIfInBounds_toArray, List.set_cons_zero, List.set_cons_succ]
            refine' hw_take 13 (some 25) _ rfl rfl (by kernel_rfl) (by kernel_rfl) (by kernel_rfl) (fun _ _ _ h => h) (by rfl) hH ?hy50 ?rest50
            case hy50 =>
              intro X hX
              have y1X := (hX.below.cell (World.block_lt_of_cell? _ _ y1)).trans y1
              have y2X := (hX.below.cell (World.block_lt_of_cell? _ _ y2)).trans y2
              go_simp
              try rfl
            simp only [Act.put, List.setIfInBounds_toArray, List.set_cons_zero, List.set_cons_succ]
            refine' hw_take 14 (some 26) _ rfl rfl (by kernel_rfl) (by kernel_rfl) (by kernel_rfl) (fun _ _ _ h => h) (by rfl) hH ?hy51 ?rest51
            case hy51 =>
              intro X hX
              go_simp
              try rfl
            simp only [Act.put, List.setIfInBounds_toArray, List.set_cons_zero, List.set_cons_succ]
            refine' hw_take 15 (some 27) _ rfl rfl (by kernel_rfl) (by kernel_rfl) (by kernel_rfl) (fun _ _ _ h => h) (by rfl) hH ?hy52 ?rest52
            case hy52 =>
              intro X hX
              go_simp
              try rfl
            simp only [Act.put, List.setIfInBounds_toArray, List.set_cons_zero, List.set_cons_succ]
            refine wpAnyH_done (by kernel_rfl) ?_ _
            go_wp2
            go_roundw
            case rel => exact ⟨k + 1, U, by omega, by go_num, by have := HLK.out; omega, hrowd, HS.out, hnw.trans d1⟩
            case measure => simp [intOf]; omega

end Go.Proofs.YtjampcfikfafkaaGreat

namespace Go.Proofs.YtjampcfikfafkaaGreat
open Go.RowKit Go.Sort
set_option linter.unusedVariables false
set_option linter.unusedSimpArgs false
set_option maxRecDepth 100000

/-- The answer: the list's fault, or the bests of all prefixes. -/
def AlA (R : List Rt) (z : Int) (U : List Rt) : Prop := (¬ ribF R = 0 ∧ z = ribF R ∧ U = []) ∨ (ribF R = 0 ∧ z = 0 ∧ AllOk R U)
theorem AlA.det {R U T : List Rt} {z y : Int} (h : AlA R z U) (k : AlA R y T) : z = y ∧ U = T := by
  rcases h with ⟨h1, h2, h3⟩ | ⟨h1, h2, h3⟩
  · rcases k with ⟨k1, k2, k3⟩ | ⟨k1, k2, k3⟩
    · exact ⟨by omega, by rw [h3, k3]⟩
    · exact absurd k1 h1
  · rcases k with ⟨k1, k2, k3⟩ | ⟨k1, k2, k3⟩
    · exact absurd h1 k1
    · exact ⟨by omega, AllOk.det h1 h3 k3⟩

/-- The answer as a value of the call's own. -/
def LAns8 (w : World) (R : List Rt) (e : Ending) (w' : World) : Prop := ∃ z A n c U, AlA R z (U.map Rv.r) ∧ e = .returned (.agg #[.int .i64 z, .slice A n c]) ∧ U.length = n ∧ OwT w' w.heap.size w'.heap.size (.slice A n c) U ∧ New w w'

theorem two8t (W : World) (B j1 j2 : Nat) (v1 v2 : Value) : Turn (fun k => k = B) W ((W.setCell ⟨B, j1, none⟩ v1).setCell ⟨B, j2, none⟩ v2) := Turn.set (S := fun k => k = B) (Turn.set (S := fun k => k = B) (Turn.refl (fun k => k = B) W) rfl v1) rfl v2
theorem LAns8.bad {w W : World} {R : List Rt} {z : Int} {B j1 j2 : Nat} {v1 v2 : Value} (h : ¬ ribF R = 0 ∧ z = ribF R) (n : New w W) (hB : w.heap.size ≤ B) : LAns8 w R (.returned (.agg #[.int .i64 z, .slice none 0 0])) ((W.setCell ⟨B, j1, none⟩ v1).setCell ⟨B, j2, none⟩ v2) :=
  ⟨z, none, 0, 0, [], .inl ⟨h.1, h.2, rfl⟩, rfl, rfl, OwT.nil _ _ _, nine_new n (two8t W B j1 j2 v1 v2) hB⟩
theorem OwT.low8 {w : World} {lo lo' hi : Nat} {u : Value} {V : List Rv} (h : OwT w lo hi u V) (hh : lo' ≤ lo) : OwT w lo' hi u V := by
  refine ⟨⟨h.row.1, ?_⟩, h.rhi, h.path.low hh⟩
  rcases h.row.2 with e | ⟨g, cap, cur, h1, h2, r⟩
  · exact .inl e
  · exact .inr ⟨g, cap, cur, h1, by omega, r⟩
theorem LAns8.good {w W : World} {R : List Rt} {B j1 j2 lo n c : Nat} {A : Option Addr} {v1 v2 : Value} {U : List Rv} (hR : ribF R = 0) (hA : AllOk R (U.map Rv.r)) (nw : New w W) (hB : w.heap.size ≤ B) (ho : OwT W lo W.heap.size (.slice A n c) U) (hlo : B < lo) (hn : U.length = n) : LAns8 w R (.returned (.agg #[.int .i64 0, .slice A n c])) ((W.setCell ⟨B, j1, none⟩ v1).setCell ⟨B, j2, none⟩ v2) := by
  have t := two8t W B j1 j2 v1 v2
  exact ⟨0, A, n, c, U, .inr ⟨hR, rfl, hA⟩, rfl, hn, ((ho.turn t (fun k hk _ e => by omega)).up t.size).low8 (by omega), nine_new nw t hB⟩

end Go.Proofs.YtjampcfikfafkaaGreat

namespace Go.Proofs.YtjampcfikfafkaaGreat
open Go.RowKit Go.Sort
set_option linter.unusedVariables false
set_option linter.unusedSimpArgs false
set_option maxRecDepth 100000

theorem afc_all8 : ∀ {xs : List Int}, afc xs = 0 → ∀ x ∈ xs, 1 ≤ x ∧ x ≤ 65535
  | [], _ => by simp
  | y :: r, h => by
    unfold afc at h
    split at h
    · rename_i hy
      intro x hx
      rcases List.mem_cons.1 hx with rfl | hx
      · exact hy
      · exact afc_all8 h x hx
    · omega
theorem afc_of8 : ∀ {xs : List Int}, (∀ x ∈ xs, 1 ≤ x ∧ x ≤ 65535) → afc xs = 0
  | [], _ => rfl
  | y :: r, h => by
    unfold afc
    rw [if_pos (h y (by simp))]
    exact afc_of8 (fun x hx => h x (by simp [hx]))
theorem af_ok8 {o nx md lc : Int} {xs : List Int} (h : af o xs nx md lc = 0) : Ao o nx md lc ∧ xs.length ≤ 6 ∧ ∀ x ∈ xs, 1 ≤ x ∧ x ≤ 65535 := by
  unfold af at h
  split at h
  · rename_i ho
    split at h
    · omega
    · exact ⟨ho, by omega, afc_all8 h⟩
  · omega
theorem af_of8 {o nx md lc : Int} {xs : List Int} (h : Ao o nx md lc) (hl : xs.length ≤ 6) (hx : ∀ x ∈ xs, 1 ≤ x ∧ x ≤ 65535) : af o xs nx md lc = 0 := by
  unfold af
  rw [if_pos h, if_neg (by omega)]
  exact afc_of8 hx

/-- What the first rule that matches leaves is right again. -/
theorem apF_af {z p q o nx md lo : Int} {xs : List Int} (hz : 1 ≤ z ∧ z ≤ 65535) (ha : af o xs nx md lo = 0) : ∀ (rs : List Ru) (i : Int), (∀ r ∈ rs, r.f = 0) → (apF z p q o xs nx md lo i rs).c = 0 → af (apF z p q o xs nx md lo i rs).o (apF z p q o xs nx md lo i rs).ns (apF z p q o xs nx md lo i rs).nx (apF z p q o xs nx md lo i rs).md (apF z p q o xs nx md lo i rs).lo = 0
  | [], i, _, _ => ha
  | r :: rs, i, hall, hc => by
    unfold apF at hc ⊢
    by_cases hm : mt r.a r.l r.ls r.ms r.s p q xs = true
    · rw [if_pos hm] at hc ⊢
      unfold ap1 at hc ⊢
      by_cases hd : r.d = true
      · rw [if_pos hd] at hc
        unfold arC at hc
        simp at hc
      · rw [if_neg hd] at hc ⊢
        by_cases hl : 6 < (xs.length : Int) + r.pp
        · rw [if_pos hl] at hc
          unfold arC at hc
          simp at hc
        · rw [if_neg hl]
          have hrf := rf_pp (hall r (by simp))
          obtain ⟨h1, h2, h3⟩ := af_ok8 ha
          refine af_of8 ?_ ?_ ?_
          · dsimp only
            refine ⟨h1.1, h1.2.1, h1.2.2.1, ?_⟩
            have h4 := h1.2.2.2
            unfold Wd at h4 ⊢
            split <;> omega
          · dsimp only
            rw [List.length_append, List.length_replicate]
            omega
          · intro x hx
            rcases List.mem_append.1 hx with hx | hx
            · rw [(List.mem_replicate.1 hx).2]
              exact hz
            · exact h3 x hx
    · rw [if_neg hm] at hc ⊢
      exact apF_af hz ha rs (i + 1) (fun s hs => hall s (by simp [hs])) hc
theorem in6_of {xs : List Int} (h : ∀ x ∈ xs, 1 ≤ x ∧ x ≤ 65535) : ∀ x ∈ xs, In6 x := fun x hx => by have := h x hx; unfold In6; omega

/-- What a route becomes for a peer: a code, attributes. -/
def exR (rs : List Ru) (z t : Int) (r : Rt) : Ar := if (apA rs z r.a r.l r.o r.xs r.nx r.md r.lc).c = 0 then exA (apA rs z r.a r.l r.o r.xs r.nx r.md r.lc).o (apA rs z r.a r.l r.o r.xs r.nx r.md r.lc).ns (apA rs z r.a r.l r.o r.xs r.nx r.md r.lc).nx (apA rs z r.a r.l r.o r.xs r.nx r.md r.lc).md (apA rs z r.a r.l r.o r.xs r.nx r.md r.lc).lo z t else apA rs z r.a r.l r.o r.xs r.nx r.md r.lc
/-- The same, where nothing has a fault. -/
def expO (rs : List Ru) (z t : Int) (r : Rt) : Option Td := if (apF z r.a r.l r.o r.xs r.nx r.md r.lc 0 rs).c = 0 ∧ (apF z r.a r.l r.o r.xs r.nx r.md r.lc 0 rs).ns.length < 6 then some ⟨r.a, r.l, (apF z r.a r.l r.o r.xs r.nx r.md r.lc 0 rs).o, z :: (apF z r.a r.l r.o r.xs r.nx r.md r.lc 0 rs).ns, t, 0, 0⟩ else none
/-- What is told to a peer. -/
def expT (q : Int) (rs : List Ru) (z t : Int) (U : List Rt) : List Td := U.filterMap (fun r => if r.p = q then none else expO rs z t r)

theorem apA_mid {rs : List Ru} {z p q o : Int} {xs : List Int} {nx md lo : Int} (h : (apA rs z p q o xs nx md lo).c = 0) : (1 ≤ z ∧ z ≤ 65535) ∧ apA rs z p q o xs nx md lo = apF z p q o xs nx md lo 0 rs ∧ af (apA rs z p q o xs nx md lo).o (apA rs z p q o xs nx md lo).ns (apA rs z p q o xs nx md lo).nx (apA rs z p q o xs nx md lo).md (apA rs z p q o xs nx md lo).lo = 0 := by
  unfold apA at h ⊢
  split at h
  · rename_i h0
    obtain ⟨h1, h2, h3, h4⟩ := apc_ok h0
    rw [if_pos h0]
    exact ⟨h2, rfl, apF_af h2 h4 rs 0 (rsf_ok h1).2 h⟩
  · rename_i h0
    exact absurd h h0
theorem rt_af {r : Rt} (h : r.f = 0) : pf r.a r.l = 0 ∧ af r.o r.xs r.nx r.md r.lc = 0 := by
  unfold Rt.f rtf at h
  split at h
  · split at h
    · exact ⟨by assumption, h⟩
    · exact absurd h (by assumption)
  · omega
theorem apA_F {rs : List Ru} {z : Int} {r : Rt} (hrs : rsf rs = 0) (hz : 1 ≤ z ∧ z ≤ 65535) (hr : r.f = 0) : apA rs z r.a r.l r.o r.xs r.nx r.md r.lc = apF z r.a r.l r.o r.xs r.nx r.md r.lc 0 rs := by
  obtain ⟨h1, h2⟩ := rt_af hr
  unfold apA
  rw [if_pos]
  unfold apc
  rw [if_pos hrs, if_pos hz, if_pos h1]
  exact h2
theorem exR_yes {rs : List Ru} {z t : Int} {r : Rt} (hrs : rsf rs = 0) (hz : 1 ≤ z ∧ z ≤ 65535) (ht : 0 ≤ t ∧ t ≤ 65535) (hr : r.f = 0) (hc : (exR rs z t r).c = 0) : expO rs z t r = some ⟨r.a, r.l, (exR rs z t r).o, (exR rs z t r).ns, (exR rs z t r).nx, (exR rs z t r).md, (exR rs z t r).lo⟩ ∧ (∀ u ∈ (exR rs z t r).ns, In6 u) ∧ (exR rs z t r).ns.length ≤ 7 := by
  have hA := apA_F hrs hz hr
  unfold exR at hc ⊢
  by_cases h0 : (apA rs z r.a r.l r.o r.xs r.nx r.md r.lc).c = 0
  · obtain ⟨-, -, haf⟩ := apA_mid h0
    rw [if_pos h0] at hc ⊢
    rw [hA] at hc haf h0 ⊢
    unfold exA at hc ⊢
    rw [if_pos haf, if_pos ⟨hz, ht⟩] at hc ⊢
    obtain ⟨h1, h2, h3⟩ := af_ok8 haf
    by_cases hl : (apF z r.a r.l r.o r.xs r.nx r.md r.lc 0 rs).ns.length = 6
    · rw [if_pos hl] at hc
      unfold arC at hc
      simp at hc
    · rw [if_neg hl]
      refine ⟨?_, ?_, ?_⟩
      · unfold expO
        rw [if_pos ⟨h0, by omega⟩]
      · intro u hu
        rcases List.mem_cons.1 hu with rfl | hu
        · unfold In6; omega
        · exact in6_of h3 u hu
      · simp only [List.length_cons]
        omega
  · rw [if_neg h0] at hc
    exact absurd hc h0
theorem exR_no {rs : List Ru} {z t : Int} {r : Rt} (hrs : rsf rs = 0) (hz : 1 ≤ z ∧ z ≤ 65535) (ht : 0 ≤ t ∧ t ≤ 65535) (hr : r.f = 0) (hc : ¬ (exR rs z t r).c = 0) : expO rs z t r = none := by
  have hA := apA_F hrs hz hr
  unfold expO
  rw [if_neg]
  rintro ⟨h0, hl⟩
  apply hc
  unfold exR
  rw [hA, if_pos h0]
  have haf := apF_af hz (rt_af hr).2 rs 0 (rsf_ok hrs).2 h0
  unfold exA
  rw [if_pos haf, if_pos ⟨hz, ht⟩, if_neg (by omega)]

theorem expT_next {q : Int} {rs : List Ru} {z t : Int} {U : List Rv} {k : Nat} {v : Rv} (h : U[k]? = some v) : expT q rs z t ((U.take (k + 1)).map Rv.r) = expT q rs z t ((U.take k).map Rv.r) ++ (match (if v.r.p = q then none else expO rs z t v.r) with | some d => [d] | none => []) := by
  obtain ⟨hk, e⟩ := List.getElem?_eq_some_iff.1 h
  rw [List.take_succ_eq_append_getElem hk, e, List.map_append]
  unfold expT
  rw [List.filterMap_append]
  congr 1
  simp only [List.map_cons, List.map_nil, List.filterMap_cons, List.filterMap_nil]
  generalize (if v.r.p = q then none else expO rs z t v.r) = y
  cases y <;> rfl
theorem expT_skip {q : Int} {rs : List Ru} {z t : Int} {U : List Rv} {k : Nat} {v : Rv} (h : U[k]? = some v) (hn : v.r.p = q ∨ expO rs z t v.r = none) : expT q rs z t ((U.take (k + 1)).map Rv.r) = expT q rs z t ((U.take k).map Rv.r) := by
  rw [expT_next h]
  have e : (if v.r.p = q then none else expO rs z t v.r) = none := by
    rcases hn with hn | hn
    · rw [if_pos hn]
    · split
      · rfl
      · exact hn
  rw [e]
  simp
theorem expT_put {q : Int} {rs : List Ru} {z t : Int} {U : List Rv} {k : Nat} {v : Rv} {d : Td} (h : U[k]? = some v) (hp : ¬ v.r.p = q) (hn : expO rs z t v.r = some d) : expT q rs z t ((U.take (k + 1)).map Rv.r) = expT q rs z t ((U.take k).map Rv.r) ++ [d] := by
  rw [expT_next h, if_neg hp, hn]

/-- The fault of what is asked. -/
def exf (R : List Rt) (q : Int) (rs : List Ru) (z t : Int) : Int := if ribF R = 0 then (if Pe q then (if rsf rs = 0 then (if (1 ≤ z ∧ z ≤ 65535) ∧ (0 ≤ t ∧ t ≤ 65535) then 0 else 3) else rsf rs) else 3) else ribF R
theorem exf_ok {R : List Rt} {q : Int} {rs : List Ru} {z t : Int} (h : exf R q rs z t = 0) : ribF R = 0 ∧ Pe q ∧ rsf rs = 0 ∧ (1 ≤ z ∧ z ≤ 65535) ∧ (0 ≤ t ∧ t ≤ 65535) := by
  unfold exf at h
  split at h
  · split at h
    · split at h
      · split at h
        · rename_i h1 h2 h3 h4
          exact ⟨h1, h2, h3, h4.1, h4.2⟩
        · omega
      · rename_i h3
        exact absurd h h3
    · omega
  · rename_i h1
    exact absurd h h1
/-- The answer: the fault, or what is told. -/
def ExOk (R : List Rt) (q : Int) (rs : List Ru) (z t zc : Int) (L : List Td) : Prop := (¬ exf R q rs z t = 0 ∧ zc = exf R q rs z t ∧ L = []) ∨ (exf R q rs z t = 0 ∧ zc = 0 ∧ ∃ U, AllOk R U ∧ L = expT q rs z t U)
theorem ExOk.det {R : List Rt} {q : Int} {rs : List Ru} {z t zc zd : Int} {L M : List Td} (h : ExOk R q rs z t zc L) (k : ExOk R q rs z t zd M) : zc = zd ∧ L = M := by
  rcases h with ⟨h1, h2, h3⟩ | ⟨h1, h2, U, h3, h4⟩
  · rcases k with ⟨k1, k2, k3⟩ | ⟨k1, k2, k3⟩
    · exact ⟨by omega, by rw [h3, k3]⟩
    · exact absurd k1 h1
  · rcases k with ⟨k1, k2, k3⟩ | ⟨k1, k2, T, k3, k4⟩
    · exact absurd h1 k1
    · exact ⟨by omega, by rw [h4, k4, AllOk.det (exf_ok h1).1 h3 k3]⟩
/-- The answer as a value of the call's own. -/
def XAns (w : World) (R : List Rt) (q : Int) (rs : List Ru) (z t : Int) (e : Ending) (w' : World) : Prop := ∃ zc A n c V, ExOk R q rs z t zc (V.map Tv.r) ∧ e = .returned (.agg #[.int .i64 zc, .slice A n c]) ∧ V.length = n ∧ Ow8 w' w.heap.size w'.heap.size (.slice A n c) V ∧ New w w'
theorem XAns.bad {w W : World} {R : List Rt} {q : Int} {rs : List Ru} {z t zc : Int} {B j1 j2 : Nat} {v1 v2 : Value} (h : ¬ exf R q rs z t = 0 ∧ zc = exf R q rs z t) (n : New w W) (hB : w.heap.size ≤ B) : XAns w R q rs z t (.returned (.agg #[.int .i64 zc, .slice none 0 0])) ((W.setCell ⟨B, j1, none⟩ v1).setCell ⟨B, j2, none⟩ v2) :=
  ⟨zc, none, 0, 0, [], .inl ⟨h.1, h.2, rfl⟩, rfl, rfl, Ow8.nil _ _ _, nine_new n (two8t W B j1 j2 v1 v2) hB⟩
theorem Ow8.low8 {w : World} {lo lo' hi : Nat} {u : Value} {V : List Tv} (h : Ow8 w lo hi u V) (hh : lo' ≤ lo) : Ow8 w lo' hi u V := by
  refine ⟨⟨h.row.1, ?_⟩, h.rhi, h.path.low hh⟩
  rcases h.row.2 with e | ⟨g, cap, cur, h1, h2, r⟩
  · exact .inl e
  · exact .inr ⟨g, cap, cur, h1, by omega, r⟩
theorem XAns.good {w W : World} {R : List Rt} {q : Int} {rs : List Ru} {z t : Int} {B j1 j2 lo n c : Nat} {A : Option Addr} {v1 v2 : Value} {V : List Tv} {U : List Rt} (hf : exf R q rs z t = 0) (hA : AllOk R U) (hV : V.map Tv.r = expT q rs z t U) (nw : New w W) (hB : w.heap.size ≤ B) (ho : Ow8 W lo W.heap.size (.slice A n c) V) (hlo : B < lo) (hn : V.length = n) : XAns w R q rs z t (.returned (.agg #[.int .i64 0, .slice A n c])) ((W.setCell ⟨B, j1, none⟩ v1).setCell ⟨B, j2, none⟩ v2) := by
  have t := two8t W B j1 j2 v1 v2
  exact ⟨0, A, n, c, V, .inr ⟨hf, rfl, U, hA, hV⟩, rfl, hn, ((ho.turn t (fun k hk _ e => by omega)).up t.size).low8 (by omega), nine_new nw t hB⟩

theorem Paths8.turnP {w w' : World} {lo hi : Nat} {V : List Tv} {S : Nat → Prop} (h : Paths8 w lo hi V) (t : Turn S w w') (hS : ∀ v ∈ V, ∀ k, v.pv.ownBlock = some k → ¬ S k) : Paths8 w' lo hi V :=
  ⟨fun v hv => (h.own v hv).turn8 t (hS v hv), h.bd, h.lies, h.apart⟩
theorem rowv_ne8 {w : World} {lo lo' n k : Nat} {u v : Value} {cs : List Value} {xs : List Int} (h : w.ownsRow lo 43 7 u n cs) (ho : OvN w lo' v xs) (hu : u.ownBlock = some k) : v.ownBlock ≠ some k := by
  intro e
  rcases ho.2 with ⟨h', _⟩ | ⟨g1, c1, cur1, h1, _, hb1, _⟩
  · rw [h'] at e; simp [Value.ownBlock] at e
  · rw [h1] at e
    simp [Value.ownBlock] at e
    subst e
    rcases h.2 with ⟨h', _⟩ | ⟨g2, _, cur2, h2, _, hb2, _⟩
    · rw [h'] at hu; simp [Value.ownBlock] at hu
    · rw [h2] at hu
      simp [Value.ownBlock] at hu
      subst hu
      rw [hb1] at hb2
      simp at hb2
theorem Ow8.appended {w2 w3 w4 w5 : World} {lo : Nat} {u v' : Value} {V : List Tv} {v : Tv} (h : Ow8 w2 lo w2.heap.size u V) (hlo : lo ≤ w2.heap.size) (n3 : New w2 w3) (ho : OvN w3 w2.heap.size v.pv v.r.xs) (hb : ∀ z ∈ v.r.xs, In6 z) (hm : v.r.xs.length ≤ 1048576) (n4 : New w3 w4)
    (hr : w5.ownsRow lo 43 7 v' (V ++ [v]).length (cells8 (V ++ [v]))) (hg : w4.grownBy w5 u.ownBlock) : Ow8 w5 lo w5.heap.size v' (V ++ [v]) := by
  have P4 := ((h.path.new n3).snoc v ho hb hm hlo n3.size (Nat.le_refl _)).new n4
  have r4 := row_turn8 h.row (n3.trans n4) (fun _ _ f => f)
  refine ⟨hr, fun k hk => (row_rng8 hr k hk).2, (P4.turnP (Turn.grown7 hg) ?_).up (Nat.le_trans n4.size hg.size)⟩
  intro q hq k hk e
  exact rowv_ne8 r4 (P4.own q hq) e hk
theorem row_lit8 {w : World} {B lo : Nat} (h : Blk w B 43 #[]) (hl : lo ≤ B) : w.ownsRow lo 43 7 (.slice (some ⟨B, 0, none⟩) 0 0) ([] : List Tv).length (cells8 []) :=
  ⟨rfl, .inr ⟨B, 0, #[], rfl, hl, h, Nat.le_refl _, by unfold maxLen; omega, rfl, rfl⟩⟩

end Go.Proofs.YtjampcfikfafkaaGreat

namespace Go.Proofs.YtjampcfikfafkaaGreat
open Go.RowKit Go.Sort
set_option linter.unusedVariables false
set_option linter.unusedSimpArgs false
set_option maxRecDepth 100000

theorem seven8 (W : World) (B : Nat) (v0 v1 v2 v3 v4 v5 v6 : Value) : Turn (fun k => k = B) W (((((((W.setCell ⟨B, 0, none⟩ v0).setCell ⟨B, 1, none⟩ v1).setCell ⟨B, 2, none⟩ v2).setCell ⟨B, 3, none⟩ v3).setCell ⟨B, 4, none⟩ v4).setCell ⟨B, 5, none⟩ v5).setCell ⟨B, 6, none⟩ v6) :=
  Turn.set (S := fun k => k = B) (Turn.set (S := fun k => k = B) (Turn.set (S := fun k => k = B) (Turn.set (S := fun k => k = B) (Turn.set (S := fun k => k = B) (Turn.set (S := fun k => k = B) (Turn.set (S := fun k => k = B) (Turn.refl (fun k => k = B) W) rfl v0) rfl v1) rfl v2) rfl v3) rfl v4) rfl v5) rfl v6

set_option maxHeartbeats 6400000 in
theorem implXR (p a l o nx md lc : Int) (x : Option Addr) (n c : Nat) (xs : List Int) (y : Option Addr) (rn rk : Nat) (rs : List Ru) (z t : Int) (w : World) (hr : RsAt w y rs) (hrn : rs.length = rn) (hrm : rn ≤ 1048576) (h : NsAt w x xs) (hn : xs.length = n) (hm : n ≤ 1048576) (hnx : x = none → n = 0 ∧ c = 0) :
    Calls Tryz.prog 30 #[.agg #[.int .i64 p, .int .i64 a, .int .i64 l, .int .i64 o, .slice x n c, .int .i64 nx, .int .i64 md, .int .i64 lc], .slice y rn rk, .int .i64 z, .int .i64 t] w (AAns w (exR rs z t ⟨p, a, l, o, xs, nx, md, lc⟩)) := by
  have N0 : New w ((w.alloc (.cells #[.int .i64 p, .int .i64 a, .int .i64 l, .int .i64 o, .slice x n c, .int .i64 nx, .int .i64 md, .int .i64 lc] 38)).alloc (.cells #[.int .i64 0, .int .i64 0, .int .i64 0, .slice none 0 0, .int .i64 0, .int .i64 0, .int .i64 0] 70)) := ((New.refl w).alloc _).alloc _
  have bR : Blk ((w.alloc (.cells #[.int .i64 p, .int .i64 a, .int .i64 l, .int .i64 o, .slice x n c, .int .i64 nx, .int .i64 md, .int .i64 lc] 38)).alloc (.cells #[.int .i64 0, .int .i64 0, .int .i64 0, .slice none 0 0, .int .i64 0, .int .i64 0, .int .i64 0] 70)) w.heap.size 38 #[.int .i64 p, .int .i64 a, .int .i64 l, .int .i64 o, .slice x n c, .int .i64 nx, .int .i64 md, .int .i64 lc] := (Blk.mk w w.heap.size 38 #[.int .i64 p, .int .i64 a, .int .i64 l, .int .i64 o, .slice x n c, .int .i64 nx, .int .i64 md, .int .i64 lc] rfl).alloc _
  have bZ : Blk ((w.alloc (.cells #[.int .i64 p, .int .i64 a, .int .i64 l, .int .i64 o, .slice x n c, .int .i64 nx, .int .i64 md, .int .i64 lc] 38)).alloc (.cells #[.int .i64 0, .int .i64 0, .int .i64 0, .slice none 0 0, .int .i64 0, .int .i64 0, .int .i64 0] 70)) (w.heap.size + 1) 70 #[.int .i64 0, .int .i64 0, .int .i64 0, .slice none 0 0, .int .i64 0, .int .i64 0, .int .i64 0] := Blk.mk _ _ _ _ (by simp)
  have l0 : w.heap.size + 1 < ((w.alloc (.cells #[.int .i64 p, .int .i64 a, .int .i64 l, .int .i64 o, .slice x n c, .int .i64 nx, .int .i64 md, .int .i64 lc] 38)).alloc (.cells #[.int .i64 0, .int .i64 0, .int .i64 0, .slice none 0 0, .int .i64 0, .int .i64 0, .int .i64 0] 70)).heap.size := by simp
  have HN : Hid (xs.length = n) := hn
  have HX : Hid (x = none → n = 0 ∧ c = 0) := hnx
  obtain ⟨A, hA⟩ : ∃ A, Hid (apA rs z a l o xs nx md lc = A) := ⟨_, rfl⟩
  obtain ⟨E, hE⟩ : ∃ E, Hid (exR rs z t ⟨p, a, l, o, xs, nx, md, lc⟩ = E) := ⟨_, rfl⟩
  have HE : Hid (E = if A.c = 0 then exA A.o A.ns A.nx A.md A.lo z t else A) := by
    unfold Hid
    rw [← hE.out]
    unfold exR
    rw [hA.out]
  have HMID : Hid (A.c = 0 → af A.o A.ns A.nx A.md A.lo = 0) := fun e => by
    have h1 := (apA_mid (by rw [hA.out]; exact e)).2.2
    rw [hA.out] at h1
    exact h1
  clear hn hnx
  rw [hE.out]
  clear hE
  go_enter Tryz.func30, Tryz.ntmps30
  go_upto_region 1 with fail
  generalize ((w.alloc (.cells #[.int .i64 p, .int .i64 a, .int .i64 l, .int .i64 o, .slice x n c, .int .i64 nx, .int .i64 md, .int .i64 lc] 38)).alloc (.cells #[.int .i64 0, .int .i64 0, .int .i64 0, .slice none 0 0, .int .i64 0, .int .i64 0, .int .i64 0] 70)) = w0 at *
  have cR := bR.cells
  have hc := implAR y rn rk rs z a l o nx md lc x n c xs w0 (hr.new N0) hrn hrm (h.new N0) HN.out hm HX.out
  rw [hA.out] at hc
  obtain ⟨ac, ar, ao, ans, anx, amd, alo⟩ := A
  go_wp2_with fail
  refine hc.mono ?_
  rintro e w1 ⟨v1, rfl, ho1, h1⟩
  dsimp only at ho1 HMID ⊢
  have hsl : ∃ x1 c1, v1 = .slice x1 ans.length c1 ∧ (x1 = none → ans.length = 0 ∧ c1 = 0) := ho1.sl rfl
  obtain ⟨x1, c1, rfl, hx1⟩ := hsl
  have bZ1 := bZ.new h1
  have b1 := Blk.mk w1 w1.heap.size 70 #[.int .i64 ac, .int .i64 ar, .int .i64 ao, .slice x1 ans.length c1, .int .i64 anx, .int .i64 amd, .int .i64 alo] rfl
  have a1 := (New.refl w1).alloc (.cells #[.int .i64 ac, .int .i64 ar, .int .i64 ao, .slice x1 ans.length c1, .int .i64 anx, .int .i64 amd, .int .i64 alo] 70)
  have bZ2 := bZ1.new a1
  have N2 := (N0.trans h1).trans a1
  have ho2 := ho1.new a1
  have s1 := h1.size
  have l1 := bZ1.lt
  clear hc cR bR h
  go_upto_region 2 with fail
  generalize w1.alloc (.cells #[.int .i64 ac, .int .i64 ar, .int .i64 ao, .slice x1 ans.length c1, .int .i64 anx, .int .i64 amd, .int .i64 alo] 70) = w2 at *
  have c1' := b1.cells
  have cZ := bZ2.cells
  have fZ := bZ2.frees
  by_cases h0 : ac = 0
  case neg =>
    have hne : (ac != 0) = true := by simpa using h0
    have e := HE.out
    rw [if_neg h0] at e
    subst e
    go_wp2
    exact bodyPost_ret (v := .agg #[.int .i64 ac, .int .i64 ar, .int .i64 ao, .slice x1 ans.length c1, .int .i64 anx, .int .i64 amd, .int .i64 alo]) (by simp [results, Tryz.results30, go_sem, cZ]) rfl ⟨_, rfl, (ho2.turn7 (seven8 w2 (w.heap.size + 1) _ _ _ _ _ _ _) (fun k hk e => by have := (ho2.rng7 k hk).1; omega)).low (by omega), nine_new N2 (seven8 w2 (w.heap.size + 1) _ _ _ _ _ _ _) (by omega)⟩
  subst h0
  have e := HE.out
  rw [if_pos rfl] at e
  have haf := HMID.out rfl
  have hns := ho2.nsAt7 (in6_of (af_ok8 haf).2.2)
  have hlen := (af_ok8 haf).2.1
  have hce := implEA ao anx amd alo x1 ans.length c1 ans z t w2 hns rfl (by omega) hx1
  rw [← e] at hce
  clear HE e
  obtain ⟨bc, br, bo, bns, bnx, bmd, blo⟩ := E
  go_wp2_with fail
  refine hce.mono ?_
  rintro e w3 ⟨v3, rfl, ho3, h3⟩
  have bZ3 := bZ2.new h3
  have cZ3 := bZ3.cells
  have fZ3 := bZ3.frees
  have N3 := N2.trans h3
  dsimp only at ho3 ⊢
  have s3 := a1.size
  clear cZ fZ c1' hce
  obtain ⟨x3, c3, rfl, -⟩ : ∃ x3 c3, v3 = .slice x3 bns.length c3 ∧ (x3 = none → bns.length = 0 ∧ c3 = 0) := ho3.sl rfl
  go_wp2
  exact bodyPost_ret (v := .agg #[.int .i64 bc, .int .i64 br, .int .i64 bo, .slice x3 bns.length c3, .int .i64 bnx, .int .i64 bmd, .int .i64 blo]) (by simp [results, Tryz.results30, go_sem, cZ3]) rfl ⟨_, rfl, (ho3.turn7 (seven8 w3 (w.heap.size + 1) _ _ _ _ _ _ _) (fun k hk e => by have := (ho3.rng7 k hk).1; omega)).low (by omega), nine_new N3 (seven8 w3 (w.heap.size + 1) _ _ _ _ _ _ _) (by omega)⟩

end Go.Proofs.YtjampcfikfafkaaGreat

namespace Go.Proofs.YtjampcfikfafkaaGreat
open Go.RowKit Go.Sort
set_option linter.unusedVariables false
set_option linter.unusedSimpArgs false
set_option maxRecDepth 100000

theorem exf_1 {R : List Rt} {q : Int} {rs : List Ru} {z t : Int} (h : ¬ ribF R = 0) : exf R q rs z t = ribF R := by unfold exf; rw [if_neg h]
theorem exf_2 {R : List Rt} {q : Int} {rs : List Ru} {z t : Int} (h : ribF R = 0) (h2 : ¬ Pe q) : exf R q rs z t = 3 := by unfold exf; rw [if_pos h, if_neg h2]
theorem exf_3 {R : List Rt} {q : Int} {rs : List Ru} {z t : Int} (h : ribF R = 0) (h2 : Pe q) (h3 : ¬ rsf rs = 0) : exf R q rs z t = rsf rs := by unfold exf; rw [if_pos h, if_pos h2, if_neg h3]
theorem exf_4 {R : List Rt} {q : Int} {rs : List Ru} {z t : Int} (h : ribF R = 0) (h2 : Pe q) (h3 : rsf rs = 0) (h4 : ¬ ((1 ≤ z ∧ z ≤ 65535) ∧ (0 ≤ t ∧ t ≤ 65535))) : exf R q rs z t = 3 := by unfold exf; rw [if_pos h, if_pos h2, if_pos h3, if_neg h4]
theorem exf_5 {R : List Rt} {q : Int} {rs : List Ru} {z t : Int} (h : ribF R = 0) (h2 : Pe q) (h3 : rsf rs = 0) (h4 : (1 ≤ z ∧ z ≤ 65535) ∧ (0 ≤ t ∧ t ≤ 65535)) : exf R q rs z t = 0 := by unfold exf; rw [if_pos h, if_pos h2, if_pos h3, if_pos h4]

set_option maxHeartbeats 6400000 in
theorem implXF (A : Option Addr) (N cc : Nat) (V : List Rv) (q : Int) (y : Option Addr) (rn rk : Nat) (rs : List Ru) (z t : Int) (w : World) (h : RtAt w A V) (hn : V.length = N) (hm : N ≤ 1048576) (hr : RsAt w y rs) (hrn : rs.length = rn) (hrm : rn ≤ 1048576) (g : Int) (hg : exf (V.map Rv.r) q rs z t = g) :
    Calls Tryz.prog 28 #[.slice A N cc, .int .i64 q, .slice y rn rk, .int .i64 z, .int .i64 t] w fun e w' => e = .returned (.int .i64 g) ∧ New w w' := by
  obtain ⟨f, hf⟩ : ∃ f, Hid (ribF (V.map Rv.r) = f) := ⟨_, rfl⟩
  obtain ⟨f2, hf2⟩ : ∃ f2, Hid (rsf rs = f2) := ⟨_, rfl⟩
  have HG : Hid (exf (V.map Rv.r) q rs z t = g) := hg
  clear hg
  go_enter Tryz.func28, Tryz.ntmps28
  go_wp2_with fail
  refine (implRib A N cc V f _ h hn hm hf.out).mono ?_
  rintro e w1 ⟨rfl, h1⟩
  by_cases h0 : f = 0
  case neg =>
    have hne : (f != 0) = true := by simpa using h0
    have e1 := exf_1 (q := q) (rs := rs) (z := z) (t := t) (show ¬ ribF (V.map Rv.r) = 0 by rw [hf.out]; exact h0)
    rw [HG.out, hf.out] at e1
    subst e1
    go_wp2
    go_ret
    exact ⟨rfl, h1⟩
  subst h0
  by_cases hq : Pe q
  case neg =>
    have e1 := exf_2 (rs := rs) (z := z) (t := t) hf.out hq
    rw [HG.out] at e1
    subst e1
    go_wp2_with fail
    refine (peer_no q _ hq).mono ?_
    rintro e w2 ⟨rfl, rfl⟩
    go_wp2
    go_ret
    exact ⟨rfl, h1⟩
  go_wp2_with fail
  refine (peer_yes q _ hq).mono ?_
  rintro e w2 ⟨rfl, rfl⟩
  go_wp2_with fail
  have hcr := implRSF y rn rk rs _ (hr.new h1) hrn hrm
  rw [hf2.out] at hcr
  refine hcr.mono ?_
  rintro e w3 ⟨rfl, h3⟩
  clear hcr
  by_cases h0 : f2 = 0
  case neg =>
    have hne : (f2 != 0) = true := by simpa using h0
    have e1 := exf_3 (z := z) (t := t) hf.out hq (show ¬ rsf rs = 0 by rw [hf2.out]; exact h0)
    rw [HG.out, hf2.out] at e1
    subst e1
    go_wp2
    go_ret
    exact ⟨rfl, h1.trans h3⟩
  subst h0
  by_cases hz : 1 ≤ z ∧ z ≤ 65535
  case neg =>
    have e1 := exf_4 hf.out hq hf2.out (fun hh : (1 ≤ z ∧ z ≤ 65535) ∧ (0 ≤ t ∧ t ≤ 65535) => hz hh.1)
    rw [HG.out] at e1
    subst e1
    go_wp2_with fail
    refine (isSys_no z _ (by omega)).mono ?_
    rintro e w4 ⟨rfl, rfl⟩
    go_wp2
    go_ret
    exact ⟨rfl, h1.trans h3⟩
  by_cases ht : 0 ≤ t ∧ t ≤ 65535
  case neg =>
    have e1 := exf_4 hf.out hq hf2.out (fun hh : (1 ≤ z ∧ z ≤ 65535) ∧ (0 ≤ t ∧ t ≤ 65535) => ht hh.2)
    rw [HG.out] at e1
    subst e1
    go_wp2_with fail
    refine (isSys_yes z _ hz).mono ?_
    rintro e w4 ⟨rfl, rfl⟩
    go_wp2_with fail
    refine (isAddr_no t _ (by omega)).mono ?_
    rintro e w5 ⟨rfl, rfl⟩
    go_wp2
    go_ret
    exact ⟨rfl, h1.trans h3⟩
  have e1 := exf_5 hf.out hq hf2.out ⟨hz, ht⟩
  rw [HG.out] at e1
  subst e1
  go_wp2_with fail
  refine (isSys_yes z _ hz).mono ?_
  rintro e w4 ⟨rfl, rfl⟩
  go_wp2_with fail
  refine (isAddr_yes t _ ht).mono ?_
  rintro e w5 ⟨rfl, rfl⟩
  go_wp2
  go_ret
  exact ⟨rfl, h1.trans h3⟩

end Go.Proofs.YtjampcfikfafkaaGreat

namespace Go.Proofs.YtjampcfikfafkaaGreat
open Go.RowKit Go.Sort
set_option linter.unusedVariables false

theorem PathsT.pick {w : World} {lo hi : Nat} {V U : List Rv} (h : PathsT w lo hi V) (hs : ∀ v ∈ U, v ∈ V) (hp : (U.map Rv.r).Pairwise pLt) : PathsT w lo hi U := by
  refine ⟨fun v hv => h.own v (hs v hv), fun v hv => h.bd v (hs v hv), fun v hv => h.lies v (hs v hv), fun i j u v k hi hj hne hu => ?_⟩
  obtain ⟨i', hi'⟩ := List.getElem?_of_mem (hs u (List.mem_of_getElem? hi))
  obtain ⟨j', hj'⟩ := List.getElem?_of_mem (hs v (List.mem_of_getElem? hj))
  have hd : ¬ i' = j' := by
    rintro rfl
    rw [hi'] at hj'
    obtain rfl := Option.some.inj hj'
    obtain ⟨hiL, hie⟩ := List.getElem?_eq_some_iff.1 hi
    obtain ⟨hjL, hje⟩ := List.getElem?_eq_some_iff.1 hj
    rcases Nat.lt_trichotomy i j with e | e | e
    · have g := List.pairwise_iff_getElem.1 hp i j (by simpa using hiL) (by simpa using hjL) e
      rw [List.getElem_map, List.getElem_map, hie, hje] at g
      unfold pLt at g
      omega
    · exact hne e
    · have g := List.pairwise_iff_getElem.1 hp j i (by simpa using hjL) (by simpa using hiL) e
      rw [List.getElem_map, List.getElem_map, hie, hje] at g
      unfold pLt at g
      omega
  exact h.apart i' j' u v k hi' hj' hd hu

/-- A row of the call's own and paths that lie before it. -/
theorem OwT.of_row {w : World} {lo lo' hi : Nat} {u : Value} {U : List Rv} (hr : w.ownsRow lo' 38 8 u U.length (cellsT U)) (hl : lo ≤ lo') (hp : PathsT w lo hi U) (hh : hi ≤ w.heap.size) : OwT w lo w.heap.size u U := by
  refine ⟨⟨hr.1, ?_⟩, fun k hk => (row_rng7 hr k hk).2, hp.up hh⟩
  rcases hr.2 with e | ⟨g, cap, cur, h1, h2, r⟩
  · exact .inl e
  · exact .inr ⟨g, cap, cur, h1, by omega, r⟩

end Go.Proofs.YtjampcfikfafkaaGreat

namespace Go.Proofs.YtjampcfikfafkaaGreat
open Go.RowKit Go.Sort Go.Shelf
set_option linter.unusedVariables false
set_option linter.unusedSimpArgs false
set_option maxRecDepth 100000
attribute [local go_sem] Oper.semAt_some

/-- How many routes the heap at H has. -/
def hpLen (H : Nat) (w : World) : Nat := match w.cell? ⟨H, 0, none⟩ with | some (.slice _ n _) => n | _ => 0
theorem HpAt.len8 {w : World} {H b c : Nat} {V : List Rv} (h : HpAt w H b c V) : hpLen H w = V.length := by
  have e : w.cell? ⟨H, 0, none⟩ = some (.slice (some ⟨b, 0, none⟩) V.length c) := h.hd.cells 0
  unfold hpLen
  rw [e]

set_option maxHeartbeats 6400000 in
theorem top8_all (l H b c : Nat) (V : List Rv) (W : World) (J : List Rv → World → Prop) (hp : HpAt W H b c V) (hm : V.length ≤ 1048576) (hu : hpOK hlt (hf V) V.length) (h0 : J [] W)
    (hJ : ∀ pre A B, J pre A → Turn (fun k => k = b ∨ k = H) A B → J pre B)
    (hY : ∀ pre x R W1, (pre ++ x :: R).Perm V → (∀ y ∈ pre, ¬ hlt x y) → pre.Pairwise (fun y z => ¬ hlt z y) → J pre W1 → HpAt W1 H b c R → YieldAt Fence.wide (3 - 1) Tryz.prog l #[x.val] W1 fun e W2 => e = .returned (.bool true) ∧ J (pre ++ [x]) W2 ∧ HpAt W2 H b c R) :
    CallsIn Fence.wide 3 Tryz.prog 42 #[.pointer (some ⟨H, 0, none⟩), .func (.yield l) #[] #[]] W fun e W' => (∃ v, e = .returned v) ∧ ∃ ys, ys.Perm V ∧ ys.Pairwise (fun y z => ¬ hlt z y) ∧ J ys W' := by
  have hro : Fence.wide.round = none := rfl
  refine callsIn_of_wp Tryz.func42 rfl trivial ?_ hro
  simp only [Tryz.ntmps42, List.size_toArray, List.length_cons, List.length_nil, Nat.reduceAdd, Nat.reduceSub, Array.replicate_succ, Array.replicate_zero, List.push_toArray, List.append_toArray, List.nil_append, List.cons_append]
  gi_wp2
  gi_loopw [4] (fun p wr => ∃ (pre R : List Rv), (pre ++ R).Perm V ∧ HpAt wr H b c R ∧ hpOK hlt (hf R) R.length ∧ (∀ x ∈ pre, ∀ y ∈ R, ¬ hlt y x) ∧ pre.Pairwise (fun y z => ¬ hlt z y) ∧ J pre wr) (fun _ wr => hpLen H wr)
  case atStart => exact ⟨[], V, List.Perm.refl _, hp, hu, (by intro x hx; cases hx), List.Pairwise.nil, h0⟩
  case round =>
    obtain ⟨pre, R, hpm, hpR, huR, hle, hpw, hJ0⟩ := hrel
    have HPM : Hid ((pre ++ R).Perm V) := hpm
    have HLE : Hid (∀ x ∈ pre, ∀ y ∈ R, ¬ hlt y x) := hle
    have HPW : Hid (pre.Pairwise (fun y z => ¬ hlt z y)) := hpw
    have hlR : R.length ≤ V.length := by have e := hpm.length_eq; rw [List.length_append] at e; omega
    have HML : Hid (hpLen H wr = R.length) := hpR.len8
    clear hpm hle hpw
    rcases Nat.eq_zero_or_pos R.length with e0 | e0
    · obtain rfl := List.eq_nil_of_length_eq_zero e0
      gi_wp2_with fail
      refine ⟨trivial, ?_⟩
      refine (callsIn_wide.2 (len_heap H b c [] 0 _ hpR rfl)).mono ?_
      rintro e w2 ⟨rfl, rfl⟩
      gi_wp2
      refine ⟨trivial, ?_⟩
      gi_wp2
      refine ⟨fun _ h => (by cases h), ?_⟩
      gi_wp2
      refine bodyPost_end (results_none rfl _ _ _) rfl ?_
      exact ⟨⟨_, rfl⟩, pre, by have h := HPM.out; rw [List.append_nil] at h; exact h, HPW.out, hJ0⟩
    · obtain ⟨n, hn⟩ : ∃ n, R.length = n + 1 := ⟨R.length - 1, by omega⟩
      have huR' : hpOK hlt (hf R) (n + 1) := by rw [← hn]; exact huR
      have hmn : n + 1 ≤ 1048576 := by omega
      gi_wp2_with fail
      refine ⟨trivial, ?_⟩
      refine (callsIn_wide.2 (len_heap H b c R (n + 1) _ hpR hn)).mono ?_
      rintro e w2 ⟨rfl, rfl⟩
      gi_wp2_with fail
      refine ⟨trivial, ?_⟩
      refine (callsIn_wide.2 (pop_heap H b c R n _ hpR hn hmn huR')).mono ?_
      rintro e w3 ⟨rfl, R', hp3, hl3, hpm3, hk3, ht⟩
      have HLn : Hid (R'.length = n) := hl3
      have h0R : R[0]? = some (hf R 0) := hf_at (by omega)
      have hmin : ∀ y ∈ R, ¬ hlt y (hf R 0) := fun y hy => by
        obtain ⟨i, hi⟩ := List.getElem?_of_mem hy
        have hil := (List.getElem?_eq_some_iff.1 hi).1
        have h := hp_top hlt_tr hlt_irr huR' i (by omega)
        rw [hf_get hi] at h
        exact h
      have hperm : (pre ++ hf R 0 :: R').Perm V := (List.Perm.append_left pre hpm3).trans HPM.out
      have hxm : hf R 0 ∈ R := List.mem_of_getElem? h0R
      have HNEW : Hid (∀ X, HpAt X H b c R' → J (pre ++ [hf R 0]) X → ∃ (pre' R2 : List Rv), (pre' ++ R2).Perm V ∧ HpAt X H b c R2 ∧ hpOK hlt (hf R2) R2.length ∧ (∀ x ∈ pre', ∀ y ∈ R2, ¬ hlt y x) ∧ pre'.Pairwise (fun y z => ¬ hlt z y) ∧ J pre' X) := by
        intro X hX hJX
        refine ⟨pre ++ [hf R 0], R', by rw [List.append_assoc]; exact hperm, hX, by rw [hl3]; exact hk3, fun x hx y hy => ?_, ?_, hJX⟩
        · have hyR : y ∈ R := hpm3.mem_iff.1 (List.mem_cons_of_mem _ hy)
          rcases List.mem_append.1 hx with hx | hx
          · exact HLE.out x hx y hyR
          · obtain rfl := List.mem_singleton.1 hx
            exact hmin y hyR
        · rw [List.pairwise_append]
          refine ⟨HPW.out, List.pairwise_singleton _ _, fun x hx y hy => ?_⟩
          obtain rfl := List.mem_singleton.1 hy
          exact HLE.out x hx _ hxm
      obtain ⟨fn, tmps, assign, body, hy, hR⟩ := hY pre (hf R 0) R' w3 hperm (fun y hy => HLE.out y hy _ hxm) HPW.out (hJ _ _ _ hJ0 ht) hp3
      clear hperm hmin h0R hxm hpm3 hk3 huR huR' hpR hJ0 hp3 hl3
      unfold Rv.val at hy
      unfold Rv.val
      have hta := Tryz.as_route
      gi_wp2
      refine hR.mono ?_
      rintro e w4 ⟨rfl, hJ4, hp4⟩
      have HL4 : Hid (hpLen H w4 = R'.length) := hp4.len8
      gi_wp2
      go_roundw
      case rel => exact HNEW.out _ hp4 hJ4
      case measure => rw [HL4.out, HML.out, HLn.out]; omega

end Go.Proofs.YtjampcfikfafkaaGreat

namespace Go.Proofs.YtjampcfikfafkaaGreat
open Go.RowKit
set_option linter.unusedVariables false

theorem uponIn_of_upon {P : Program} {l n : Nat} {Q : Exit → Act → World → Prop} (o : Oper) (a : Act) {next next' : Act → World → Prop} (hk : ∀ a w, next a w → next' a w) :
    ∀ r : Result Next, o.upon P a next Q r → o.uponIn (Fence.wide.inRound l) n P a next' Q r := by
  intro r h
  cases r with
  | ok x w =>
    cases x with
    | value v => exact hk _ _ h
    | skip => exact hk _ _ h
    | defer d => exact hk _ _ h
    | enter f args =>
      refine ⟨(fun h => by cases h), CallsIn.inRound l (callsIn_wide.2 (Calls.mono h ?_))⟩
      intro e w' he
      cases e with
      | returned v => exact hk _ _ he
      | panicked ch => exact he
      | outgrown => exact he
    | row rw args => exact ⟨(fun h => by cases h), fun c cs _ => let ⟨v, w', r, s⟩ := h c cs; ⟨v, w', hk _ _ r, stepsIn_wide.2 s⟩⟩
    | _ => exact h.elim
  | halt x w => cases x <;> exact h

theorem opsIn_of_ops {P : Program} {l n : Nat} {ops : Array Oper} {Q : Exit → Act → World → Prop} (hd : ∀ (i : Nat) (o : Oper), ops[i]? = some o → ∀ c, o.op ≠ .defer c) (hQ : ¬ LetsOut Q) :
    ∀ (sched : List Nat) (a : Act) (w : World), wpOps P ops Q sched a w → wpOpsIn (Fence.wide.inRound l) n P ops Q sched a w
  | [], a, w, h => h
  | i :: rest, a, w, h => by
    simp only [wpOps] at h
    simp only [wpOpsIn]
    cases ho : ops[i]? with
    | none =>
      simp only [ho] at h
      exact opsIn_of_ops hd hQ rest a w h
    | some o =>
      simp only [ho] at h
      by_cases hw : Region.wanted o (yielded ops a.tmps) = true
      · simp only [hw, if_true] at h ⊢
        rcases h with h | ⟨_, h⟩
        · refine ⟨fun _ _ => trivial, ?_⟩
          rw [Oper.semAt_plain _ _ _ (hd i o ho)]
          exact uponIn_of_upon o a (fun a w h => opsIn_of_ops hd hQ rest a w h) _ h
        · exact (hQ h).elim
      · simp only [hw, if_false, Bool.false_eq_true] at h ⊢
        exact ⟨fun _ _ => trivial, opsIn_of_ops hd hQ rest _ w h⟩

/-- A drawn region within a round, held as everywhere. -/
theorem wpIn_region_round {P : Program} {l n id : Nat} {ops : Array Oper} {Q : Exit → Act → World → Prop} {S : World → Prop} {a : Act} {w : World} (hm : P.follows .mixedOrders = true) (hd : ∀ (i : Nat) (o : Oper), ops[i]? = some o → ∀ c, o.op ≠ .defer c) (hQ : ¬ LetsOut Q)
    (h : wpAnyH P .any ops Q S ops.size (Array.replicate ops.size false) a w.drew) : (Code.region id ops true).wpIn (Fence.wide.inRound l) n P Q a w :=
  wpIn_region_draw fun t => by
    simp only [Region.schedule, hm, Bool.true_or, if_true]
    exact opsIn_of_ops hd hQ _ _ _ (wpAny_sound ops.size t _ a _ (wpAny_of_held _ _ _ _ h))

end Go.Proofs.YtjampcfikfafkaaGreat
