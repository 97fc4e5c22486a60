/- What is proved here: a stream that is read in two parts tells what it tells in one, as a plain fact on lists; no run of the program. No condition. What is proved here: what the drawing of numbers and of bytes out of a list of bytes answers. What is proved here: what the drawing of a prefix out of a list of bytes answers. What is proved here: what the program's packing of an update answers, for every update with lists of at most 1048576 elements. What is proved here: what the program's packing of attributes answers, for attributes without a fault. What is proved here: what the program's packing of an update answers, for every update with lists of at most 1048576 elements. What is proved here: small facts on lists of numbers of the call's own, for the draws of attributes. No condition. What is proved here: what the drawing of attributes answers: attributes without a fault. What is proved here: small facts on lists of prefixes of the call's own, for the draws of updates. No condition. What is proved here: what the drawing of an update answers: an update without a fault. -/
import Derived.Test.YtljkcijakdhdiaaRA5
import Derived.Test.YtljkcijakdhdiaaRA2
import Derived.Test.YtljkcijakdhdiaaPackFn
import Derived.Test.YtljkcijakdhdiaaPxFn
import Derived.Test.YtljkcijakdhdiaaQB
import Derived.Test.YtljkcijakdhdiaaUpFn
import Derived.Test.YtljkcijakdhdiaaUpLaw
import Derived.Test.YtljkcijakdhdiaaAtLaw
import Derived.Test.YtljkcijakdhdiaaAp
import Derived.Lib.SmallJoins
import Derived.Test.YtljkcijakdhdiaaPuLaw2
import Derived.Test.YtljkcijakdhdiaaAtFn
import Derived.Deep.RegionLaw
namespace Go.Proofs.Ytljkcijakdhdiaa
open Go.RowKit Go.Sort
set_option linter.unusedVariables false
set_option linter.unusedSimpArgs false
set_option maxRecDepth 100000

theorem getD_app {l r : List Int} {i : Nat} (hi : i < l.length) : (l ++ r).getD i 0 = l.getD i 0 := by
  simp only [List.getD_eq_getElem?_getD]
  rw [List.getElem?_append_left hi]
theorem num2_app {l r : List Int} (h4 : 4 ≤ l.length) : numAt (l ++ r) 2 2 = numAt l 2 2 := by
  unfold numAt
  rw [List.drop_append_of_le_length (by omega), List.take_append_of_le_length (by rw [List.length_drop]; omega)]
/-- A head that is wrong is wrong with more bytes behind, too. -/
theorem headM_mono {l r : List Int} (h : headM l ≠ 0) : headM (l ++ r) = headM l := by
  have hlen : (l ++ r).length = l.length + r.length := List.length_append
  unfold headM at h ⊢
  by_cases c0 : 0 < l.length ∧ l.getD 0 0 ≠ 255
  · rw [if_pos c0, if_pos ⟨by omega, by rw [getD_app c0.1]; exact c0.2⟩]
  rw [if_neg c0] at h ⊢
  by_cases c1 : 1 < l.length ∧ l.getD 1 0 ≠ 255
  · have d0 : ¬ (0 < (l ++ r).length ∧ (l ++ r).getD 0 0 ≠ 255) := by
      rintro ⟨x1, x2⟩; rw [getD_app (by omega)] at x2; exact c0 ⟨by omega, x2⟩
    rw [if_pos c1, if_neg d0, if_pos ⟨by omega, by rw [getD_app c1.1]; exact c1.2⟩]
  rw [if_neg c1] at h ⊢
  by_cases c2 : 3 < l.length ∧ (numAt l 2 2 < 5 ∨ 125 < numAt l 2 2)
  · have d0 : ¬ (0 < (l ++ r).length ∧ (l ++ r).getD 0 0 ≠ 255) := by
      rintro ⟨x1, x2⟩; rw [getD_app (by omega)] at x2; exact c0 ⟨by omega, x2⟩
    have d1 : ¬ (1 < (l ++ r).length ∧ (l ++ r).getD 1 0 ≠ 255) := by
      rintro ⟨x1, x2⟩; rw [getD_app (by omega)] at x2; exact c1 ⟨by omega, x2⟩
    rw [if_pos c2, if_neg d0, if_neg d1, if_pos ⟨by omega, by rw [num2_app (by omega)]; exact c2.2⟩]
  rw [if_neg c2] at h ⊢
  by_cases c3 : 4 < l.length ∧ (l.getD 4 0 < 1 ∨ 4 < l.getD 4 0)
  · have d0 : ¬ (0 < (l ++ r).length ∧ (l ++ r).getD 0 0 ≠ 255) := by
      rintro ⟨x1, x2⟩; rw [getD_app (by omega)] at x2; exact c0 ⟨by omega, x2⟩
    have d1 : ¬ (1 < (l ++ r).length ∧ (l ++ r).getD 1 0 ≠ 255) := by
      rintro ⟨x1, x2⟩; rw [getD_app (by omega)] at x2; exact c1 ⟨by omega, x2⟩
    have d2 : ¬ (3 < (l ++ r).length ∧ (numAt (l ++ r) 2 2 < 5 ∨ 125 < numAt (l ++ r) 2 2)) := by
      rintro ⟨x1, x2⟩; rw [num2_app (by omega)] at x2; exact c2 ⟨by omega, x2⟩
    rw [if_pos c3, if_neg d0, if_neg d1, if_neg d2, if_pos ⟨by omega, by rw [getD_app c3.1]; exact c3.2⟩]
  rw [if_neg c3] at h
  exact absurd rfl h
/-- A head that is there whole is the same with more bytes behind. -/
theorem headM_whole {l r : List Int} (h5 : 5 ≤ l.length) (h : headM l = 0) : headM (l ++ r) = 0 := by
  have hlen : (l ++ r).length = l.length + r.length := List.length_append
  have g0 : (l ++ r).getD 0 0 = l.getD 0 0 := getD_app (by omega)
  have g1 : (l ++ r).getD 1 0 = l.getD 1 0 := getD_app (by omega)
  have g4 : (l ++ r).getD 4 0 = l.getD 4 0 := getD_app (by omega)
  have g2 : numAt (l ++ r) 2 2 = numAt l 2 2 := num2_app (by omega)
  obtain ⟨-, -, k3, k4, k5, k6, k7⟩ := head_ok h h5
  have k8 : szM l = (numAt l 2 2).toNat := rfl
  have kk := head_ok h h5
  unfold headM
  rw [g0, g1, g2, g4]
  rw [if_neg (by rintro ⟨-, x⟩; exact x k5), if_neg (by rintro ⟨-, x⟩; exact x k6), if_neg (by rintro ⟨-, x⟩; have := kk.1; have := kk.2.1; omega), if_neg (by rintro ⟨-, x⟩; omega)]
theorem szM_app {l r : List Int} (h4 : 4 ≤ l.length) : szM (l ++ r) = szM l := by unfold szM; rw [num2_app h4]

/-- What is told of a stream, frame by frame. -/
def gS : Nat → List Int → Rm
  | 0, _ => ⟨0, 0, 0, 0, []⟩
  | f + 1, l => if headM l ≠ 0 then ⟨headM l, 0, 1, subS (headM l), []⟩ else if l.length < 5 ∨ l.length < szM l then ⟨0, 0, 0, 0, []⟩
    else if (mh (l.getD 4 0) ((l.take (szM l)).drop 5)).code = 0 then ⟨(gS f (l.drop (szM l))).z, (szM l : Int) + (gS f (l.drop (szM l))).us, (gS f (l.drop (szM l))).wy, (gS f (l.drop (szM l))).sb, (mh (l.getD 4 0) ((l.take (szM l)).drop 5), mp (l.getD 4 0) ((l.take (szM l)).drop 5)) :: (gS f (l.drop (szM l))).D⟩
    else ⟨(mh (l.getD 4 0) ((l.take (szM l)).drop 5)).code, 0, (mh (l.getD 4 0) ((l.take (szM l)).drop 5)).why, (mh (l.getD 4 0) ((l.take (szM l)).drop 5)).sub, []⟩
theorem gS_bad {f : Nat} {l : List Int} (h : headM l ≠ 0) : gS (f + 1) l = ⟨headM l, 0, 1, subS (headM l), []⟩ := by
  show (if headM l ≠ 0 then _ else _) = _
  rw [if_pos h]
theorem gS_short {f : Nat} {l : List Int} (h : headM l = 0) (hs : l.length < 5 ∨ l.length < szM l) : gS (f + 1) l = ⟨0, 0, 0, 0, []⟩ := by
  show (if headM l ≠ 0 then _ else if l.length < 5 ∨ l.length < szM l then _ else _) = _
  rw [if_neg (by omega), if_pos hs]
theorem gS_next {f : Nat} {l : List Int} (h : headM l = 0) (hs : ¬ (l.length < 5 ∨ l.length < szM l)) (hc : (mh (l.getD 4 0) ((l.take (szM l)).drop 5)).code = 0) : gS (f + 1) l = ⟨(gS f (l.drop (szM l))).z, (szM l : Int) + (gS f (l.drop (szM l))).us, (gS f (l.drop (szM l))).wy, (gS f (l.drop (szM l))).sb, (mh (l.getD 4 0) ((l.take (szM l)).drop 5), mp (l.getD 4 0) ((l.take (szM l)).drop 5)) :: (gS f (l.drop (szM l))).D⟩ := by
  show (if headM l ≠ 0 then _ else if l.length < 5 ∨ l.length < szM l then _ else if (mh (l.getD 4 0) ((l.take (szM l)).drop 5)).code = 0 then _ else _) = _
  rw [if_neg (by omega), if_neg hs, if_pos hc]
theorem gS_code {f : Nat} {l : List Int} (h : headM l = 0) (hs : ¬ (l.length < 5 ∨ l.length < szM l)) (hc : ¬ (mh (l.getD 4 0) ((l.take (szM l)).drop 5)).code = 0) : gS (f + 1) l = ⟨(mh (l.getD 4 0) ((l.take (szM l)).drop 5)).code, 0, (mh (l.getD 4 0) ((l.take (szM l)).drop 5)).why, (mh (l.getD 4 0) ((l.take (szM l)).drop 5)).sub, []⟩ := by
  show (if headM l ≠ 0 then _ else if l.length < 5 ∨ l.length < szM l then _ else if (mh (l.getD 4 0) ((l.take (szM l)).drop 5)).code = 0 then _ else _) = _
  rw [if_neg (by omega), if_neg hs, if_neg hc]

/-- Both ways of telling agree. -/
theorem rmG_gS : ∀ (f : Nat) (l : List Int) (u : Int) (L : List (MH × PU)), l.length < f → rmG (splitF f l).1 (splitF f l).2.2 u L = ⟨(gS f l).z, u + (gS f l).us, (gS f l).wy, (gS f l).sb, L ++ (gS f l).D⟩
  | 0, l, u, L, h => by omega
  | f + 1, l, u, L, h => by
    by_cases h0 : headM l = 0
    case neg =>
      rw [gS_bad h0]
      have e : splitF (f + 1) l = (headM l, 0, []) := if_pos h0
      rw [e]
      show (if headM l = 0 then _ else _) = _
      rw [if_neg h0]
      simp
    by_cases hs : l.length < 5 ∨ l.length < szM l
    · rw [gS_short h0 hs]
      have e : splitF (f + 1) l = (0, 0, []) := by
        show (if headM l ≠ 0 then _ else if l.length < 5 ∨ l.length < szM l then _ else _) = _
        rw [if_neg (by omega), if_pos hs]
      rw [e]
      show (if (0 : Int) = 0 then _ else _) = _
      rw [if_pos rfl]
      simp
    · have e : splitF (f + 1) l = ((splitF f (l.drop (szM l))).1, szM l + (splitF f (l.drop (szM l))).2.1, (l.getD 4 0, (l.take (szM l)).drop 5) :: (splitF f (l.drop (szM l))).2.2) := by
        show (if headM l ≠ 0 then _ else if l.length < 5 ∨ l.length < szM l then _ else _) = _
        rw [if_neg (by omega), if_neg hs]
      have k := head_ok h0 (by omega)
      rw [e]
      by_cases hc : (mh (l.getD 4 0) ((l.take (szM l)).drop 5)).code = 0
      · rw [gS_next h0 hs hc]
        show (if (mh (l.getD 4 0) ((l.take (szM l)).drop 5)).code = 0 then _ else _) = _
        rw [if_pos hc, rmG_gS f _ _ _ (by rw [List.length_drop]; omega)]
        have hl : ((l.take (szM l)).drop 5).length = szM l - 5 := by rw [List.length_drop, List.length_take]; omega
        rw [hl]
        simp only [Rm.mk.injEq, true_and, List.append_assoc, List.singleton_append, and_true]
        have := k.1
        omega
      · rw [gS_code h0 hs hc]
        show (if (mh (l.getD 4 0) ((l.take (szM l)).drop 5)).code = 0 then _ else _) = _
        rw [if_neg hc]
        simp
theorem rmF_gS {zs : List Int} (h : ¬ 400 < zs.length) : rmF zs = gS (zs.length + 1) zs := by
  unfold rmF splitR
  rw [if_neg h, if_neg h, rmG_gS _ _ _ _ (by omega)]
  simp
/-- More fuel than bytes changes nothing. -/
theorem gS_fuel : ∀ (f g : Nat) (l : List Int), l.length < f → l.length < g → gS f l = gS g l
  | 0, g, l, h, _ => by omega
  | f + 1, 0, l, _, h => by omega
  | f + 1, g + 1, l, h, h' => by
    by_cases h0 : headM l = 0
    case neg => rw [gS_bad h0, gS_bad h0]
    by_cases hs : l.length < 5 ∨ l.length < szM l
    · rw [gS_short h0 hs, gS_short h0 hs]
    · have k := head_ok h0 (by omega)
      by_cases hc : (mh (l.getD 4 0) ((l.take (szM l)).drop 5)).code = 0
      · rw [gS_next h0 hs hc, gS_next h0 hs hc, gS_fuel f g _ (by rw [List.length_drop]; omega) (by rw [List.length_drop]; omega)]
      · rw [gS_code h0 hs hc, gS_code h0 hs hc]
theorem gS_us : ∀ (f : Nat) (l : List Int), 0 ≤ (gS f l).us ∧ (gS f l).us ≤ l.length
  | 0, l => by simp [gS]
  | f + 1, l => by
    by_cases h0 : headM l = 0
    case neg => rw [gS_bad h0]; simp
    by_cases hs : l.length < 5 ∨ l.length < szM l
    · rw [gS_short h0 hs]; simp
    · by_cases hc : (mh (l.getD 4 0) ((l.take (szM l)).drop 5)).code = 0
      · rw [gS_next h0 hs hc]
        have := gS_us f (l.drop (szM l))
        rw [List.length_drop] at this
        simp only
        omega
      · rw [gS_code h0 hs hc]; simp
/-- A stream that is cut. -/
theorem gS_cut : ∀ (f : Nat) (p q : List Int), (p ++ q).length < f → ((gS f p).z ≠ 0 → (gS f (p ++ q)).z = (gS f p).z ∧ (gS f (p ++ q)).us = (gS f p).us ∧ (gS f (p ++ q)).wy = (gS f p).wy ∧ (gS f (p ++ q)).sb = (gS f p).sb) ∧ ((gS f p).z = 0 → gS f (p ++ q) = ⟨(gS f ((p ++ q).drop (gS f p).us.toNat)).z, (gS f p).us + (gS f ((p ++ q).drop (gS f p).us.toNat)).us, (gS f ((p ++ q).drop (gS f p).us.toNat)).wy, (gS f ((p ++ q).drop (gS f p).us.toNat)).sb, (gS f p).D ++ (gS f ((p ++ q).drop (gS f p).us.toNat)).D⟩)
  | 0, p, q, h => by omega
  | f + 1, p, q, h => by
    have hpq : (p ++ q).length = p.length + q.length := List.length_append
    by_cases h0 : headM p = 0
    case neg =>
      have e := headM_mono (r := q) h0
      rw [gS_bad h0, gS_bad (by rw [e]; exact h0), e]
      exact ⟨fun _ => ⟨rfl, rfl, rfl, rfl⟩, fun hh => absurd hh h0⟩
    by_cases hs : p.length < 5 ∨ p.length < szM p
    · rw [gS_short h0 hs]
      refine ⟨fun hh => absurd rfl hh, fun _ => ?_⟩
      simp
    · have hw := headM_whole (r := q) (by omega) h0
      have hsz : szM (p ++ q) = szM p := szM_app (by omega)
      have hg4 : (p ++ q).getD 4 0 = p.getD 4 0 := getD_app (by omega)
      have hb : (p ++ q).take (szM p) = p.take (szM p) := List.take_append_of_le_length (by omega)
      have hd : (p ++ q).drop (szM p) = p.drop (szM p) ++ q := List.drop_append_of_le_length (by omega)
      have hs' : ¬ ((p ++ q).length < 5 ∨ (p ++ q).length < szM (p ++ q)) := by rw [hsz]; omega
      have k := head_ok h0 (by omega)
      by_cases hc : (mh (p.getD 4 0) ((p.take (szM p)).drop 5)).code = 0
      · have hc' : (mh ((p ++ q).getD 4 0) (((p ++ q).take (szM (p ++ q))).drop 5)).code = 0 := by rw [hsz, hg4, hb]; exact hc
        obtain ⟨i1, i2⟩ := gS_cut f (p.drop (szM p)) q (by rw [List.length_append, List.length_drop]; omega)
        have hu := (gS_us f (p.drop (szM p))).1
        rw [gS_next hw hs' hc', gS_next h0 hs hc, hsz, hg4, hb, hd]
        refine ⟨fun hh => ?_, fun hh => ?_⟩
        · obtain ⟨j1, j2, j3, j4⟩ := i1 hh
          exact ⟨j1, by simp only [j2], j3, j4⟩
        · have i3 := i2 hh
          have hdd : (p ++ q).drop ((szM p : Int) + (gS f (p.drop (szM p))).us).toNat = (p.drop (szM p) ++ q).drop (gS f (p.drop (szM p))).us.toNat := by
            rw [← hd, List.drop_drop]
            congr 1
            omega
          simp only [hdd]
          have hf : gS (f + 1) ((p.drop (szM p) ++ q).drop (gS f (p.drop (szM p))).us.toNat) = gS f ((p.drop (szM p) ++ q).drop (gS f (p.drop (szM p))).us.toNat) := gS_fuel _ _ _ (by rw [List.length_drop, List.length_append, List.length_drop]; omega) (by rw [List.length_drop, List.length_append, List.length_drop]; omega)
          rw [hf, i3]
          simp only [Rm.mk.injEq, true_and, List.cons_append, and_true]
          omega
      · have hc' : ¬ (mh ((p ++ q).getD 4 0) (((p ++ q).take (szM (p ++ q))).drop 5)).code = 0 := by rw [hsz, hg4, hb]; exact hc
        rw [gS_code hw hs' hc', gS_code h0 hs hc, hsz, hg4, hb]
        exact ⟨fun _ => ⟨rfl, rfl, rfl, rfl⟩, fun hh => absurd hh hc⟩
/-- The same, as the program is asked. -/
theorem rmF_cut {zs : List Int} (h : ¬ 400 < zs.length) (c : Nat) (hc : c ≤ zs.length) :
    ((rmF (zs.take c)).z ≠ 0 → (rmF zs).z = (rmF (zs.take c)).z ∧ (rmF zs).us = (rmF (zs.take c)).us ∧ (rmF zs).wy = (rmF (zs.take c)).wy ∧ (rmF zs).sb = (rmF (zs.take c)).sb) ∧
    ((rmF (zs.take c)).z = 0 → (rmF zs).z = (rmF (zs.drop (rmF (zs.take c)).us.toNat)).z ∧ (rmF zs).us = (rmF (zs.take c)).us + (rmF (zs.drop (rmF (zs.take c)).us.toNat)).us ∧ (rmF zs).wy = (rmF (zs.drop (rmF (zs.take c)).us.toNat)).wy ∧ (rmF zs).sb = (rmF (zs.drop (rmF (zs.take c)).us.toNat)).sb ∧ (rmF zs).D.length = (rmF (zs.take c)).D.length + (rmF (zs.drop (rmF (zs.take c)).us.toNat)).D.length) ∧
    0 ≤ (rmF (zs.take c)).us ∧ (rmF (zs.take c)).us ≤ c := by
  have hl : (zs.take c).length = c := by rw [List.length_take]; omega
  have e0 : zs.take c ++ zs.drop c = zs := List.take_append_drop c zs
  have e1 : rmF zs = gS (zs.length + 1) zs := rmF_gS h
  have e2 : rmF (zs.take c) = gS (zs.length + 1) (zs.take c) := (rmF_gS (by omega)).trans (gS_fuel _ _ _ (by omega) (by omega))
  have hu := gS_us (zs.length + 1) (zs.take c)
  have e3 : ∀ k, rmF (zs.drop k) = gS (zs.length + 1) (zs.drop k) := fun k => (rmF_gS (by rw [List.length_drop]; omega)).trans (gS_fuel _ _ _ (by omega) (by rw [List.length_drop]; omega))
  have key := gS_cut (zs.length + 1) (zs.take c) (zs.drop c) (by rw [e0]; omega)
  rw [e0] at key
  rw [e1, e2, e3]
  refine ⟨key.1, fun hh => ?_, hu.1, by rw [hl] at hu; exact hu.2⟩
  have k2 := key.2 hh
  refine ⟨by rw [k2], by rw [k2], by rw [k2], by rw [k2], ?_⟩
  rw [k2]
  simp only [List.length_append]

end Go.Proofs.Ytljkcijakdhdiaa

namespace Go.Proofs.Ytljkcijakdhdiaa
open Go.RowKit

/-- A number that was drawn below m. -/
def Dr (m r : Int) : Prop := 0 ≤ r ∧ (1 ≤ m → r < m) ∧ (m < 1 → r = 0)
theorem Dr.of_mod {x m : Int} (h : ¬ m < 1) : Dr m (x % m) := ⟨Int.emod_nonneg _ (by omega), fun _ => Int.emod_lt_of_pos _ (by omega), fun h' => absurd h' h⟩
theorem wrap_in {x : Int} (h : -1000000000000 ≤ x ∧ x ≤ 1000000000000) : IntKind.i64.wrap x = x := by simp [IntKind.wrap, IntKind.signed, IntKind.bits]; omega
theorem mod_nat (t n : Nat) : (t : Int) % (n : Int) = ((t % n : Nat) : Int) := by omega

set_option maxHeartbeats 1600000 in
theorem next_any (B : Nat) (a : Option Addr) (n c t : Nat) (m : Int) (zs : List Int) (w : World) (hb : Blk w B 59 #[.slice a n c, .int .i64 t]) (h : BsAt w a zs) (hn : zs.length = n) (hm : n ≤ 2097152) (ht : t ≤ 1000000) (hmm : m ≤ 1000000) (hne : ∀ x, zs ≠ [] → a = some x → x.block ≠ B) :
    Calls Try.prog 27 #[.pointer (some ⟨B, 0, none⟩), .int .i64 m] w fun e w' => ∃ r : Int, e = .returned (.int .i64 r) ∧ Dr m r ∧
      Blk w' B 59 #[.slice a n c, .int .i64 ((t : Int) + 1)] ∧ Turn (fun k => k = B) w w' := by
  have hb' := hb.set 1 (.int .i64 ((t : Int) + 1))
  have htn : Turn (fun k => k = B) w (w.setCell ⟨B, 1, none⟩ (.int .i64 ((t : Int) + 1))) := Turn.set (S := fun k => k = B) (Turn.refl _ _) rfl _
  have cB := hb.cells
  have fB := hb.frees
  by_cases h1 : m < 1
  · go_enter Try.func27, Try.ntmps27
    go_wp2
    go_ret
    exact ⟨0, rfl, ⟨by omega, by omega, fun _ => rfl⟩, hb', htn⟩
  by_cases h0 : n = 0
  · subst h0
    have HD : Hid (Dr m ((t : Int) * 7 % m)) := Dr.of_mod h1
    go_enter Try.func27, Try.ntmps27
    go_wp2
    go_ret
    exact ⟨_, rfl, HD.out, hb', htn⟩
  · obtain ⟨i, hi⟩ : ∃ i : Nat, i = t % n := ⟨_, rfl⟩
    obtain ⟨q, hq⟩ : ∃ q : Nat, q = t / n := ⟨_, rfl⟩
    have hmod : (t : Int) % (n : Int) = (i : Int) := by rw [mod_nat, hi]
    have hdiv : (t : Int) / (n : Int) = (q : Int) := by rw [hq]; omega
    have hlt : i < n := by rw [hi]; exact Nat.mod_lt t (show n > 0 by omega)
    have hdl : q ≤ t := by rw [hq]; exact Nat.div_le_self t n
    have hdv : (t : Int).tdiv (n : Int) = (q : Int) := by rw [Int.tdiv_eq_ediv_of_nonneg (by omega)]; exact hdiv
    obtain ⟨b, off, z, rfl, hz, hc, hz0, hz1⟩ := h.at i (by omega)
    have hne0 : ((n : Int) == 0) = false := by simp; omega
    have hbs := BsAt.turnZ (S := fun k => k = B) h htn hne
    have hbB : ¬ b = B := hne _ (by rintro rfl; simp at hz) rfl
    have hcw : (w.setCell ⟨B, 1, none⟩ (.int .i64 ((t : Int) + 1))).cell? ⟨b, off + i, none⟩ = some (.int .u8 z) := by
      obtain ⟨b', off', e', h1', _⟩ := hbs i z hz
      simp only [Option.some.injEq, Addr.mk.injEq, and_true] at e'
      obtain ⟨rfl, rfl⟩ := e'
      exact h1'
    have hmv : (t : Int).tmod (n : Int) = (i : Int) := by rw [Int.tmod_eq_emod_of_nonneg (by omega)]; exact hmod
    have hw0 : IntKind.i64.wrap z = z := wrap_in (by omega)
    have hw1 : IntKind.i64.wrap ((q : Int) * 37) = (q : Int) * 37 := wrap_in (by omega)
    have hw2 : IntKind.i64.wrap (z + (q : Int) * 37) = z + (q : Int) * 37 := wrap_in (by omega)
    have hw3 : IntKind.i64.wrap (i : Int) = (i : Int) := wrap_in (by omega)
    have hw4 : IntKind.i64.wrap (q : Int) = (q : Int) := wrap_in (by omega)
    clear hi hq
    by_cases hm2 : 200 < m
    · obtain ⟨i2, hi2⟩ : ∃ i2 : Nat, i2 = (t + 1) % n := ⟨_, rfl⟩
      have hmod2 : ((t : Int) + 1) % (n : Int) = (i2 : Int) := by rw [hi2, ← mod_nat]; simp
      have hmv2 : ((t : Int) + 1).tmod (n : Int) = (i2 : Int) := by rw [Int.tmod_eq_emod_of_nonneg (by omega)]; exact hmod2
      have hlt2 : i2 < n := by rw [hi2]; exact Nat.mod_lt _ (show n > 0 by omega)
      obtain ⟨b2, off2, z2, e2, hz2, hc2, hz20, hz21⟩ := hbs.at i2 (by omega)
      simp only [Option.some.injEq, Addr.mk.injEq, and_true] at e2
      obtain ⟨rfl, rfl⟩ := e2
      have HD : Hid (Dr m (((z + (q : Int) * 37) * 251 + z2 * 13 + t) % m)) := Dr.of_mod h1
      have hv0 : 0 ≤ z + (q : Int) * 37 := by omega
      have hv1 : z + (q : Int) * 37 ≤ 100000000 := by omega
      have hu0 : IntKind.i64.wrap z2 = z2 := wrap_in (by omega)
      have hu1 : IntKind.i64.wrap ((t : Int) + 1) = (t : Int) + 1 := wrap_in (by omega)
      have hu2 : IntKind.i64.wrap (i2 : Int) = (i2 : Int) := wrap_in (by omega)
      have hu3 : IntKind.i64.wrap ((z + (q : Int) * 37) * 251) = (z + (q : Int) * 37) * 251 := wrap_in (by omega)
      have hu4 : IntKind.i64.wrap (z2 * 13) = z2 * 13 := wrap_in (by omega)
      have hu5 : IntKind.i64.wrap ((z + (q : Int) * 37) * 251 + z2 * 13) = (z + (q : Int) * 37) * 251 + z2 * 13 := wrap_in (by omega)
      have hu6 : IntKind.i64.wrap ((z + (q : Int) * 37) * 251 + z2 * 13 + t) = (z + (q : Int) * 37) * 251 + z2 * 13 + t := wrap_in (by omega)
      clear hi2
      go_enter Try.func27, Try.ntmps27
      go_wp2
      go_quiet (fail)
      go_wp2
      go_quiet (fail)
      go_wp2
      go_ret
      exact ⟨_, rfl, HD.out, hb', htn.os, htn.tape, htn.output, htn.size, htn.block⟩
    · have HD : Hid (Dr m ((z + (q : Int) * 37) % m)) := Dr.of_mod h1
      go_enter Try.func27, Try.ntmps27
      go_wp2
      go_quiet (fail)
      go_wp2
      go_ret
      exact ⟨_, rfl, HD.out, hb', htn.os, htn.tape, htn.output, htn.size, htn.block⟩

/-- A source of numbers: its bytes, how many have been drawn. -/
structure Sc (w : World) (B : Nat) (a : Option Addr) (n c : Nat) (zs : List Int) (t : Nat) : Prop where
  blk : Blk w B 59 #[.slice a n c, .int .i64 t]
  bs : BsAt w a zs
  len : zs.length = n
  le : n ≤ 2097152
  ne : ∀ x, zs ≠ [] → a = some x → x.block ≠ B

theorem Sc.turn {w w' : World} {B n c t : Nat} {a : Option Addr} {zs : List Int} {S : Nat → Prop} (h : Sc w B a n c zs t) (k : Turn S w w') (hB : ¬ S B) (hS : ∀ x, zs ≠ [] → a = some x → ¬ S x.block) : Sc w' B a n c zs t :=
  ⟨h.blk.turn k hB, h.bs.turnZ k hS, h.len, h.le, h.ne⟩
theorem Sc.new {w w' : World} {B n c t : Nat} {a : Option Addr} {zs : List Int} (h : Sc w B a n c zs t) (k : New w w') : Sc w' B a n c zs t := h.turn k (fun f => f) (fun _ _ _ f => f)

theorem next_sc {B n c t : Nat} {a : Option Addr} {zs : List Int} {w : World} (h : Sc w B a n c zs t) (m : Int) (ht : t ≤ 1000000) (hm : m ≤ 1000000) :
    Calls Try.prog 27 #[.pointer (some ⟨B, 0, none⟩), .int .i64 m] w fun e w' => ∃ r : Int, e = .returned (.int .i64 r) ∧ Dr m r ∧ Sc w' B a n c zs (t + 1) ∧ Turn (fun k => k = B) w w' := by
  refine (next_any B a n c t m zs w h.blk h.bs h.len h.le ht hm h.ne).mono ?_
  rintro e w' ⟨r, rfl, hd, hb, htn⟩
  exact ⟨r, rfl, hd, ⟨hb, h.bs.turnZ htn h.ne, h.len, h.le, h.ne⟩, htn⟩

theorem chance_sc {B n c t : Nat} {a : Option Addr} {zs : List Int} {w : World} (h : Sc w B a n c zs t) (m : Int) (ht : t ≤ 1000000) (hm : m ≤ 1000000) :
    Calls Try.prog 17 #[.pointer (some ⟨B, 0, none⟩), .int .i64 m] w fun e w' => ∃ r : Bool, e = .returned (.bool r) ∧ Sc w' B a n c zs (t + 1) ∧ Turn (fun k => k = B) w w' := by
  go_enter Try.func17, Try.ntmps17
  go_wp2_with fail
  refine (next_sc h m ht hm).mono ?_
  rintro e w1 ⟨r, rfl, hd, hs, htn⟩
  go_wp2
  go_ret
  exact ⟨_, rfl, hs, htn⟩

theorem Blk.other {w : World} {B L : Nat} {t u : TypeId} {cs ds : Array Value} (h : Blk w B t cs) (k : Blk w L u ds) (hne : t ≠ u) : L ≠ B := by
  rintro rfl
  unfold Blk at h k
  rw [h] at k
  simp only [Option.some.injEq, Obj.cells.injEq] at k
  exact hne k.2.1

set_option maxHeartbeats 800000 in
theorem pick_sc {B n c t L : Nat} {a : Option Addr} {zs : List Int} {w : World} (h : Sc w B a n c zs t) (xs : List Int) (hL : Blk w L 2 (xs.map (Value.int .i64)).toArray) (k : Nat) (hk : xs.length = k) (hk0 : 0 < k) (hk1 : k ≤ 1000) (ht : t ≤ 1000000) :
    Calls Try.prog 52 #[.pointer (some ⟨B, 0, none⟩), .slice (some ⟨L, 0, none⟩) k k] w fun e w' => ∃ r : Int, e = .returned (.int .i64 r) ∧ r ∈ xs ∧ Sc w' B a n c zs (t + 1) ∧ Turn (fun k => k = B) w w' := by
  have HK : Hid (xs.length = k) := hk
  clear hk
  go_enter Try.func52, Try.ntmps52
  go_wp2_with fail
  refine (next_sc h (k : Int) ht (by omega)).mono ?_
  rintro e w1 ⟨r, rfl, hd, hs, htn⟩
  obtain ⟨hr0, hr1, -⟩ := hd
  have hr1 := hr1 (by omega)
  obtain ⟨i, rfl⟩ := Int.eq_ofNat_of_zero_le hr0
  have hi : i < k := by omega
  have hL1 := hL.turn htn (h.blk.other hL (by decide))
  have hc : w1.cell? ⟨L, i, none⟩ = some (.int .i64 (xs[i]'(by have := HK.out; omega))) := by
    rw [hL1.cells i]
    simp [show i < xs.length by have := HK.out; omega]
  have hmem : xs[i]'(by have := HK.out; omega) ∈ xs := List.getElem_mem _
  generalize xs[i]'(by have := HK.out; omega) = x at *
  have HM : Hid (x ∈ xs) := hmem
  clear hmem
  go_wp2
  go_ret
  exact ⟨x, rfl, HM.out, hs, htn⟩

theorem source_any (a : Option Addr) (n c : Nat) (zs : List Int) (w : World) (h : BsAt w a zs) (hn : zs.length = n) (hm : n ≤ 2097152) (ha : ∀ x, zs ≠ [] → a = some x → x.block < w.heap.size) :
    Calls Try.prog 16 #[.slice a n c] w fun e w' => ∃ B, e = .returned (.pointer (some ⟨B, 0, none⟩)) ∧ w.heap.size ≤ B ∧ Sc w' B a n c zs 0 ∧ New w w' := by
  have hw := (New.refl w).alloc (.cells #[.slice a n c, .int .i64 0] 59)
  go_enter Try.func16, Try.ntmps16
  go_wp2
  go_ret
  exact ⟨w.heap.size, rfl, Nat.le_refl _, ⟨Blk.mk w w.heap.size _ _ rfl, h.new hw, hn, hm, fun x hz' hx => by have := ha x hz' hx; omega⟩, hw⟩

end Go.Proofs.Ytljkcijakdhdiaa

namespace Go.Proofs.Ytljkcijakdhdiaa
open Go.RowKit Go.Sort

/-- What a drawing may turn: the source's block alone. -/
theorem Turn.both {B : Nat} {x y z : World} (h : Turn (fun k => k = B) x y) (k : Turn (fun k => k = B) y z) : Turn (fun k => k = B) x z := Turn.trans h k (fun _ _ e => e)
theorem Turn.andNew {S : Nat → Prop} {x y z : World} (h : Turn S x y) (k : New y z) : Turn S x z := Turn.trans h k (fun _ _ e => e.elim)
theorem Turn.andSet {S : Nat → Prop} {x y : World} (h : Turn S x y) (p : Addr) (v : Value) (hp : x.heap.size ≤ p.block) : Turn S x (y.setCell p v) :=
  Turn.trans (T := fun k => k = p.block) h (Turn.set (S := fun k => k = p.block) (Turn.refl _ _) rfl _) (fun i hi e => by omega)

theorem Sc.lt_of {B n c t : Nat} {a : Option Addr} {zs : List Int} {w : World} (h : Sc w B a n c zs t) : ∀ x, zs ≠ [] → a = some x → x.block < w.heap.size := by
  intro x hz hx
  obtain ⟨b, off, e, hlt⟩ := h.bs.block_lt hz
  rw [e] at hx
  obtain rfl := Option.some.inj hx
  exact hlt

theorem Sc.setN {B n c t N : Nat} {a : Option Addr} {zs : List Int} {w : World} (h : Sc w B a n c zs t) (hA : ∀ x, zs ≠ [] → a = some x → x.block < N) (hB : B < N) (p : Addr) (v : Value) (hp : N ≤ p.block) : Sc (w.setCell p v) B a n c zs t :=
  h.turn (S := fun k => k = p.block) (Turn.set (S := fun k => k = p.block) (Turn.refl _ _) rfl _) (by omega) (fun x hz hx e => by have := hA x hz hx; omega)

set_option maxHeartbeats 1600000 in
theorem l2Prefix_sc {B n c t : Nat} {a : Option Addr} {zs : List Int} {w : World} (h : Sc w B a n c zs t) (ht : t ≤ 100000) :
    Calls Try.prog 70 #[.pointer (some ⟨B, 0, none⟩)] w fun e w' => ∃ (x l : Int) (t' : Nat), e = .returned (.agg #[.int .i64 x, .int .i64 l]) ∧ pf x l = 0 ∧ t' ≤ t + 10 ∧ Sc w' B a n c zs t' ∧ Turn (fun k => k = B) w w' := by
  have hlt := h.blk.lt
  have hw0 := (New.refl w).alloc (.cells #[.int .i64 0, .int .i64 0] 88)
  have hR : Blk (w.alloc (.cells #[.int .i64 0, .int .i64 0] 88)) w.heap.size 88 #[.int .i64 0, .int .i64 0] := Blk.mk _ _ _ _ rfl
  have hRB : ¬ w.heap.size = B := by omega
  have hge := Nat.le_refl w.heap.size
  have hA := h.lt_of
  go_enter Try.func70, Try.ntmps70
  go_wp2_with fail
  refine (next_sc (h.new hw0) 17 (by omega) (by omega)).mono ?_
  rintro e w1 ⟨r1, rfl, hd1, hs1, ht1⟩
  have t1 : Turn (fun k => k = B) w w1 := Turn.trans hw0.turn ht1 (fun _ _ e => e)
  have hR1 := hR.turn ht1 hRB
  go_wp2_with fail
  have hbl := Blk.mk w1 w1.heap.size 2 #[.int .i64 8, .int .i64 4, .int .i64 12, .int .i64 16, .int .i64 0, .int .i64 r1] rfl
  have hal := (New.refl w1).alloc (.cells #[.int .i64 8, .int .i64 4, .int .i64 12, .int .i64 16, .int .i64 0, .int .i64 r1] 2)
  refine (pick_sc (hs1.new hal) [8, 4, 12, 16, 0, r1] hbl 6 rfl (by omega) (by omega) (by omega)).mono ?_
  rintro e w2 ⟨l, rfl, hx, hs2, ht2⟩
  have hl : 0 ≤ l ∧ l ≤ 16 := by
    obtain ⟨p1, p2, -⟩ := hd1
    have p2 := p2 (by omega)
    simp only [List.mem_cons, List.not_mem_nil, or_false] at hx
    rcases hx with rfl | rfl | rfl | rfl | rfl | rfl <;> omega
  have t2 : Turn (fun k => k = B) w w2 := (t1.andNew hal).both ht2
  have hR2 := (hR1.new hal).turn ht2 hRB
  clear hbl hal hx ht1 ht2 hd1 hs1 hR1 t1
  go_wp2_with fail
  refine (next_sc hs2 6 (by omega) (by omega)).mono ?_
  rintro e w3 ⟨r3, rfl, hd3, hs3, ht3⟩
  obtain ⟨p3, q3, -⟩ := hd3
  have q3 := q3 (by omega)
  go_wp2_with fail
  refine (next_sc hs3 3 (by omega) (by omega)).mono ?_
  rintro e w4 ⟨r4, rfl, hd4, hs4, ht4⟩
  obtain ⟨p4, q4, -⟩ := hd4
  have q4 := q4 (by omega)
  have t4 : Turn (fun k => k = B) w w4 := (t2.both ht3).both ht4
  have hR4 := (hR2.turn ht3 hRB).turn ht4 hRB
  clear ht3 ht4 hs3 t2 hR2
  have hv0 : 0 ≤ r3 * 2560 + r4 * 16 := by omega
  have hv1 : r3 * 2560 + r4 * 16 ≤ 65535 := by omega
  have hlow := bits_high64 hv0 hv1 hl.1 hl.2
  go_wp2_with fail
  refine (l2Rest_any l _ hl.1 hl.2).mono ?_
  rintro e w5 ⟨rfl, rfl⟩
  have hb := szp_bd hl.1 hl.2
  have hpf : Hid (pf (r3 * 2560 + r4 * 16 - (r3 * 2560 + r4 * 16) % szp l) l = 0) := by
    generalize r3 * 2560 + r4 * 16 = v at *
    have hm0 := Int.emod_nonneg v (show szp l ≠ 0 by omega)
    have h3 := Int.mul_ediv_add_emod v (szp l)
    have h4 : 0 ≤ szp l * (v / szp l) := Int.mul_nonneg (by omega) (Int.ediv_nonneg hv0 (by omega))
    have e : (v - v % szp l) % szp l = 0 := by
      rw [show v - v % szp l = szp l * (v / szp l) by omega]
      exact Int.mul_emod_right _ _
    unfold Hid pf
    rw [if_neg (by omega), if_neg (by omega)]
  have hcs := hR4.cells
  have hfs := hR4.frees
  go_wp2
  refine bodyPost_ret (v := .agg #[.int .i64 (r3 * 2560 + r4 * 16 - (r3 * 2560 + r4 * 16) % szp l), .int .i64 l]) (by simp [results, Try.results70, go_sem, hcs]) rfl ⟨_, _, t + 1 + 1 + 1 + 1, rfl, hpf.out, ?_, ?_, ?_⟩
  · omega
  · exact (hs4.setN hA hlt _ _ hge).setN hA hlt _ _ hge
  · exact Turn.andSet (Turn.andSet t4 _ _ hge) _ _ hge

end Go.Proofs.Ytljkcijakdhdiaa

namespace Go.Proofs.Ytljkcijakdhdiaa
open Go.RowKit Go.Sort
set_option linter.unusedVariables false

/-- The block g is a row of bytes that a call has made. -/
def Row8 (w : World) (g n c : Nat) (ys : List Int) : Prop := w.ownsRow 0 5 1 (.slice (some ⟨g, 0, none⟩) n c) n (ys.map (Value.int .u8))
theorem Row8.len {w : World} {g n c : Nat} {ys : List Int} (h : Row8 w g n c ys) : ys.length = n := by simpa using h.1
theorem Row8.lt {w : World} {g n c : Nat} {ys : List Int} (h : Row8 w g n c ys) : g < w.heap.size := (World.ownsRow.lt h g rfl).2
theorem Row8.turn {w w' : World} {g n c : Nat} {ys : List Int} {S : Nat → Prop} (h : Row8 w g n c ys) (t : Turn S w w') (hS : ¬ S g) : Row8 w' g n c ys := own_turn h t hS
theorem Row8.new {w w' : World} {g n c : Nat} {ys : List Int} (h : Row8 w g n c ys) (t : New w w') : Row8 w' g n c ys := own_new h t

/-- The bytes of prefixes. -/
def pxB (ps : List (Int × Int)) : List Int := ps.flatMap fun p => [p.1 / 256, p.1 % 256, p.2]
theorem pxB_snoc (ps : List (Int × Int)) (x y : Int) : pxB (ps ++ [(x, y)]) = pxB ps ++ [x / 256, x % 256, y] := by simp [pxB]
theorem pxB_len : ∀ ps : List (Int × Int), (pxB ps).length = ps.length * 3
  | [] => rfl
  | p :: r => by
    have := pxB_len r
    simp only [pxB, List.flatMap_cons, List.length_append, List.length_cons, List.length_nil] at this ⊢
    omega
/-- The bytes of numbers, two each. -/
def nsB (xs : List Int) : List Int := xs.flatMap fun x => [x / 256, x % 256]
theorem nsB_snoc (xs : List Int) (x : Int) : nsB (xs ++ [x]) = nsB xs ++ [x / 256, x % 256] := by simp [nsB]
theorem nsB_len : ∀ xs : List Int, (nsB xs).length = xs.length * 2
  | [] => rfl
  | p :: r => by
    have := nsB_len r
    simp only [nsB, List.flatMap_cons, List.length_append, List.length_cons, List.length_nil] at this ⊢
    omega

theorem takeP_snoc {ps : List (Int × Int)} {k : Nat} {p : Int × Int} (h : ps[k]? = some p) : ps.take (k + 1) = ps.take k ++ [p] := by
  obtain ⟨hk, rfl⟩ := List.getElem?_eq_some_iff.1 h
  exact List.take_succ_eq_append_getElem hk

end Go.Proofs.Ytljkcijakdhdiaa

namespace Go.Proofs.Ytljkcijakdhdiaa
open Go.RowKit Go.Sort
set_option linter.unusedVariables false

/-- The bytes of attributes. -/
def atB (o : Int) (xs : List Int) (nx md lc : Int) : List Int := [(xs.length : Int)] ++ nsB xs ++ [o] ++ [nx / 256, nx % 256, md / 256, md % 256, lc / 256, lc % 256]
theorem atB_len (o : Int) (xs : List Int) (nx md lc : Int) : (atB o xs nx md lc).length = xs.length * 2 + 8 := by
  simp [atB, nsB_len]

theorem afc_all : ∀ {xs : List Int}, afc xs = 0 → ∀ x ∈ xs, 1 ≤ x ∧ x ≤ 65535
  | [], _ => by simp
  | y :: r, h => by
    unfold afc at h
    split at h
    · rename_i hy
      intro x hx
      rcases List.mem_cons.1 hx with rfl | hx
      · exact hy
      · exact afc_all h x hx
    · cases h
theorem af_ok {o nx md lc : Int} {xs : List Int} (h : af o xs nx md lc = 0) : Ao o nx md lc ∧ xs.length ≤ 6 ∧ ∀ x ∈ xs, 1 ≤ x ∧ x ≤ 65535 := by
  unfold af at h
  split at h
  · rename_i ho
    split at h
    · cases h
    · exact ⟨ho, by omega, afc_all h⟩
  · cases h

/-- Where bytes that are appended lie: at their old place, or in new memory. -/
theorem grow_at {w w1 : World} {g g1 g2 H : Nat} {v : Value} (h1 : g1 = g ∨ w.heap.size ≤ g1) (hv : v.ownBlock = some g1) (hH : w.heap.size ≤ H) (h : v.ownBlock = some g2 ∨ g2 = H) : g2 = g ∨ w.heap.size ≤ g2 := by
  rcases h with h' | h'
  · rw [hv] at h'
    obtain rfl := Option.some.inj h'
    exact h1
  · right; omega

end Go.Proofs.Ytljkcijakdhdiaa

namespace Go.Proofs.Ytljkcijakdhdiaa
open Go.RowKit Go.Sort
set_option linter.unusedVariables false

/-- The bytes of an update. -/
def upB (gs : List (Int × Int)) (has : Bool) (o : Int) (xs : List Int) (nx md lc : Int) (rs : List (Int × Int)) : List Int :=
  [(gs.length : Int)] ++ pxB gs ++ (if has = true then atB o xs nx md lc ++ pxB rs else [])

theorem uf_ok {gs rs : List (Int × Int)} {has : Bool} {o nx md lc : Int} {xs : List Int} (h : uf gs has o xs nx md lc rs = 0) :
    gs.length ≤ 8 ∧ rs.length ≤ 8 ∧ lf gs = 0 ∧ lf rs = 0 ∧ (has = true → 0 < rs.length ∧ af o xs nx md lc = 0) ∧ (has = false → rs.length = 0 ∧ ZaP o xs nx md lc) := by
  unfold uf at h
  split at h
  · cases h
  · rename_i h8
    split at h
    · contradiction
    · rename_i hg
      split at h
      · contradiction
      · rename_i hr
        split at h
        · cases h
        · rename_i hh
          simp only [ne_eq, Decidable.not_not] at hg hr hh
          refine ⟨by omega, by omega, hg, hr, ?_, ?_⟩
          · intro ht
            subst ht
            simp at h hh
            exact ⟨hh, h⟩
          · intro ht
            subst ht
            have h' := h
            simp at hh
            refine ⟨by simpa using hh, ?_⟩
            by_cases hz : ZaP o xs nx md lc
            · exact hz
            · rw [if_neg (by simp), if_neg hz] at h'
              cases h'

theorem pxB_bd : ∀ {ps : List (Int × Int)}, (∀ p ∈ ps, pf p.1 p.2 = 0) → ∀ z ∈ pxB ps, 0 ≤ z ∧ z ≤ 255
  | [], _ => by simp [pxB]
  | p :: r, h => by
    obtain ⟨h0, h1, h2, h3, _⟩ := pf_ok (h p (by simp))
    have ih := pxB_bd (ps := r) (fun q hq => h q (by simp [hq]))
    intro z hz
    simp only [pxB, List.flatMap_cons, List.mem_append, List.mem_cons, List.not_mem_nil, or_false] at hz
    rcases hz with (rfl | rfl | rfl) | hz
    · omega
    · omega
    · omega
    · exact ih z (by simpa [pxB] using hz)
theorem nsB_bd : ∀ {xs : List Int}, (∀ x ∈ xs, 0 ≤ x ∧ x ≤ 65535) → ∀ z ∈ nsB xs, 0 ≤ z ∧ z ≤ 255
  | [], _ => by simp [nsB]
  | p :: r, h => by
    have hp := h p (by simp)
    have ih := nsB_bd (xs := r) (fun q hq => h q (by simp [hq]))
    intro z hz
    simp only [nsB, List.flatMap_cons, List.mem_append, List.mem_cons, List.not_mem_nil, or_false] at hz
    rcases hz with (rfl | rfl) | hz
    · omega
    · omega
    · exact ih z (by simpa [nsB] using hz)
theorem atB_bd {o nx md lc : Int} {xs : List Int} (h : af o xs nx md lc = 0) : ∀ z ∈ atB o xs nx md lc, 0 ≤ z ∧ z ≤ 255 := by
  obtain ⟨⟨⟨ho0, ho2⟩, ⟨hx0, hx1⟩, ⟨hm0, hm1⟩, ⟨hl0, hl1⟩⟩, hk6, hall⟩ := af_ok h
  intro z hz
  simp only [atB, List.mem_append, List.mem_cons, List.not_mem_nil, or_false] at hz
  rcases hz with ((rfl | hz) | rfl) | rfl | rfl | rfl | rfl | rfl | rfl
  · omega
  · exact nsB_bd (fun x hx => by have := hall x hx; omega) z hz
  all_goals omega
theorem upB_bd {gs rs : List (Int × Int)} {has : Bool} {o nx md lc : Int} {xs : List Int} (h : uf gs has o xs nx md lc rs = 0) : ∀ z ∈ upB gs has o xs nx md lc rs, 0 ≤ z ∧ z ≤ 255 := by
  obtain ⟨h1, h2, h3, h4, h5, _⟩ := uf_ok h
  intro z hz
  unfold upB at hz
  simp only [List.mem_append, List.mem_cons, List.not_mem_nil, or_false] at hz
  rcases hz with (rfl | hz) | hz
  · omega
  · exact pxB_bd (lf_ok h3).2 z hz
  · split at hz
    · rename_i ht
      rcases List.mem_append.1 hz with hz | hz
      · exact atB_bd (h5 ht).2 z hz
      · exact pxB_bd (lf_ok h4).2 z hz
    · simp at hz
theorem upB_len {gs rs : List (Int × Int)} {has : Bool} {o nx md lc : Int} {xs : List Int} : (upB gs has o xs nx md lc rs).length = 1 + gs.length * 3 + (if has = true then xs.length * 2 + 8 + rs.length * 3 else 0) := by
  unfold upB
  split <;> simp [pxB_len, atB_len] <;> omega

/-- What PackUpdate answers: the fault, or the update's bytes in new memory. -/
def UpAns (w : World) (gs : List (Int × Int)) (has : Bool) (o : Int) (xs : List Int) (nx md lc : Int) (rs : List (Int × Int)) (e : Ending) (w' : World) : Prop :=
  ∃ (a : Option Addr) (m cap : Nat) (ys : List Int), e = .returned (.agg #[.int .i64 (uf gs has o xs nx md lc rs), .slice a m cap]) ∧ OwAt w' a m cap ys ∧ (∀ z ∈ ys, 0 ≤ z ∧ z ≤ 255) ∧ (∀ x, a = some x → w.heap.size ≤ x.block ∧ x.block < w'.heap.size) ∧ New w w' ∧
    ys = (if uf gs has o xs nx md lc rs = 0 then upB gs has o xs nx md lc rs else []) ∧ (a = none → m = 0 ∧ cap = 0) ∧ m ≤ 100

theorem PsAt.blk_lt {w : World} {a : Option Addr} {ps : List (Int × Int)} (h : PsAt w a ps) : ∀ x, ps ≠ [] → a = some x → x.block < w.heap.size := by
  intro x hz hx
  obtain ⟨b, off, p, q, e, _, hc, _⟩ := h.at 0 (by cases ps <;> simp_all)
  rw [e] at hx
  obtain rfl := Option.some.inj hx
  exact World.block_lt_of_cell? w _ hc
theorem NsAt.blk_lt {w : World} {a : Option Addr} {xs : List Int} (h : NsAt w a xs) : ∀ x, xs ≠ [] → a = some x → x.block < w.heap.size := by
  intro x hz hx
  obtain ⟨b, off, p, e, _, hc, _⟩ := h.at 0 (by cases xs <;> simp_all)
  rw [e] at hx
  obtain rfl := Option.some.inj hx
  exact World.block_lt_of_cell? w _ hc

theorem ret_agg2 {x y : Int} {a : Option Addr} {m m' c : Nat} (h : x = y) (hm : m = m') : Ending.returned (.agg #[.int .i64 x, .slice a m c]) = .returned (.agg #[.int .i64 y, .slice a m' c]) := by rw [h, hm]

end Go.Proofs.Ytljkcijakdhdiaa

namespace Go.Proofs.Ytljkcijakdhdiaa
open Go.RowKit Go.Sort
set_option linter.unusedVariables false

section
variable {P : Program} {t e : TypeId} {i : TypeInfo}
end

theorem OwM.turnB' {w w' : World} {lo : Nat} {v : Value} {L : List Int} {S : Nat → Prop} (h : OwM w lo v L) (t : Turn S w w') (hS : ∀ g, v.ownBlock = some g → ¬ S g) : OwM w' lo v L := by
  rcases h with h | ⟨g, c, h1, h2, h3⟩
  · exact .inl h
  · exact .inr ⟨g, c, h1, h2, h3.turn t (hS g (by rw [h1]; rfl))⟩

end Go.Proofs.Ytljkcijakdhdiaa

namespace Go.Proofs.Ytljkcijakdhdiaa
open Go.RowKit Go.Sort
set_option linter.unusedVariables false

theorem afc_of : ∀ {xs : List Int}, (∀ x ∈ xs, 1 ≤ x ∧ x ≤ 65535) → afc xs = 0
  | [], _ => rfl
  | x :: r, h => by
    unfold afc
    rw [if_pos (h x (by simp))]
    exact afc_of (fun y hy => h y (by simp [hy]))
theorem af_of {o nx md lc : Int} {xs : List Int} (ho : Ao o nx md lc) (hl : xs.length ≤ 6) (hx : ∀ x ∈ xs, 1 ≤ x ∧ x ≤ 65535) : af o xs nx md lc = 0 := by
  unfold af
  rw [if_pos ho, if_neg (by omega)]
  exact afc_of hx
theorem own_turnN {w w' : World} {base n : Nat} {v : Value} {xs : List Value} {S : Nat → Prop} (h : w.ownsRow base 2 1 v n xs) (t : Turn S w w') (hS : ∀ g, v.ownBlock = some g → ¬ S g) : w'.ownsRow base 2 1 v n xs := by
  refine ⟨h.1, ?_⟩
  rcases h.2 with h' | ⟨g', cap', cur, h', hb, hh, r⟩
  · exact .inl h'
  · have hlt : g' < w.heap.size := (Array.getElem?_eq_some_iff.1 hh).1
    exact .inr ⟨g', cap', cur, h', hb, (t.block g' hlt (hS g' (by rw [h']; rfl))).trans hh, r⟩

set_option maxRecDepth 100000 in
set_option maxHeartbeats 3200000 in
theorem l3DrawAttrs_sc {B n c t : Nat} {a : Option Addr} {zs : List Int} {w : World} (h : Sc w B a n c zs t) (ht : t ≤ 100000) :
    Calls Try.prog 71 #[.pointer (some ⟨B, 0, none⟩)] w fun e w' => ∃ (o nx md lc : Int) (xs : List Int) (xa : Option Addr) (xc t' : Nat), e = .returned (.agg #[.int .i64 o, .slice xa xs.length xc, .int .i64 nx, .int .i64 md, .int .i64 lc]) ∧ af o xs nx md lc = 0 ∧ xs.length ≤ 3 ∧ t' ≤ t + 30 ∧ OwM w' w.heap.size (.slice xa xs.length xc) xs ∧ Sc w' B a n c zs t' ∧ Turn (fun k => k = B) w w' := by
  obtain ⟨iN, hi, hz0, hz1, hz2⟩ := info_parts Try.infoI64
  have hlt := h.blk.lt
  have hA := h.lt_of
  have hw0 := (New.refl w).alloc (.cells #[.int .i64 0, .slice none 0 0, .int .i64 0, .int .i64 0, .int .i64 0] 47)
  have bR0 := Blk.mk w w.heap.size 47 #[.int .i64 0, .slice none 0 0, .int .i64 0, .int .i64 0, .int .i64 0] rfl
  have hRB : ¬ w.heap.size = B := by omega
  go_enter Try.func71, Try.ntmps71
  go_wp2_with fail
  refine (next_sc (h.new hw0) 3 (by omega) (by omega)).mono ?_
  rintro e w1 ⟨r1, rfl, ⟨p1, q1, -⟩, hs1, ht1⟩
  have q1 := q1 (by omega)
  go_wp2_with fail
  refine (next_sc hs1 9 (by omega) (by omega)).mono ?_
  rintro e w2 ⟨r2, rfl, ⟨p2, q2, -⟩, hs2, ht2⟩
  have q2 := q2 (by omega)
  go_wp2_with fail
  refine (next_sc hs2 5 (by omega) (by omega)).mono ?_
  rintro e w3 ⟨r3, rfl, ⟨p3, q3, -⟩, hs3, ht3⟩
  have q3 := q3 (by omega)
  have hal3 := (New.refl w3).alloc (.cells #[.int .i64 0, .int .i64 r3] 2)
  have hbl3 := Blk.mk w3 w3.heap.size 2 #[.int .i64 0, .int .i64 r3] rfl
  go_wp2_with fail
  refine (pick_sc (hs3.new hal3) [0, r3] hbl3 2 rfl (by omega) (by omega) (by omega)).mono ?_
  rintro e w4 ⟨x4, rfl, hx4, hs4, ht4⟩
  have hx4' : 0 ≤ x4 ∧ x4 ≤ 4 := by
    simp only [List.mem_cons, List.not_mem_nil, or_false] at hx4
    rcases hx4 with rfl | rfl <;> omega
  have t14 := Turn.both (Turn.both (Turn.both (hw0.turn (S := fun k => k = B)) ht1) (Turn.both ht2 ht3)) (Turn.both (hal3.turn (S := fun k => k = B)) ht4)
  clear hx4 hal3 hbl3 hs1 hs2 hs3
  go_wp2_with fail
  refine (next_sc hs4 20 (by omega) (by omega)).mono ?_
  rintro e w5 ⟨r5, rfl, ⟨p5, q5, -⟩, hs5, ht5⟩
  have q5 := q5 (by omega)
  have hal5 := (New.refl w5).alloc (.cells #[.int .i64 100, .int .i64 100, .int .i64 (90 + r5)] 2)
  have hbl5 := Blk.mk w5 w5.heap.size 2 #[.int .i64 100, .int .i64 100, .int .i64 (90 + r5)] rfl
  go_wp2_with fail
  refine (pick_sc (hs5.new hal5) [100, 100, 90 + r5] hbl5 3 rfl (by omega) (by omega) (by omega)).mono ?_
  rintro e w6 ⟨x6, rfl, hx6, hs6, ht6⟩
  have hx6' : 0 ≤ x6 ∧ x6 ≤ 200 := by
    simp only [List.mem_cons, List.not_mem_nil, or_false] at hx6
    rcases hx6 with rfl | rfl | rfl <;> omega
  have t16 := Turn.both t14 (Turn.both ht5 (Turn.both (hal5.turn (S := fun k => k = B)) ht6))
  have tR := Turn.both (Turn.both ht1 (Turn.both ht2 ht3)) (Turn.both (((New.refl w3).alloc (.cells #[.int .i64 0, .int .i64 r3] 2)).turn (S := fun k => k = B)) ht4)
  have bR6 := ((((bR0.turn tR hRB).turn ht5 hRB).new hal5).turn ht6 hRB)
  clear hx6 hal5 hbl5 hs4 hs5 ht1 ht2 ht3 ht4 ht5 ht6 t14 bR0 tR hw0
  have s6 := t16.size
  have hal6 := (New.refl w6).alloc (.cells #[.int .i64 r1, .slice none 0 0, .int .i64 r2, .int .i64 x4, .int .i64 x6] 47)
  have bA6 := Blk.mk w6 w6.heap.size 47 #[.int .i64 r1, .slice none 0 0, .int .i64 r2, .int .i64 x4, .int .i64 x6] rfl
  have lR6 := bR6.lt
  have lB6 := hs6.blk.lt
  go_wp2_with fail
  refine (next_sc (hs6.new hal6) 4 (by omega) (by omega)).mono ?_
  rintro e w7 ⟨r7, rfl, ⟨p7, q7, -⟩, hs7, ht7⟩
  have q7 := q7 (by omega)
  obtain ⟨k0, rfl⟩ := Int.eq_ofNat_of_zero_le p7
  have bA7 := bA6.turn ht7 (by omega)
  have bR7 := (bR6.new hal6).turn ht7 hRB
  have t17 := Turn.both t16 (Turn.both (hal6.turn (S := fun k => k = B)) ht7)
  clear bA6 bR6 hs6 t16 hal6 ht7
  go_wp2_with fail
  go_loopw [4] (fun s wr => ∃ (k t' m : Nat) (v : Value) (xs : List Int), s = .int .i64 (k : Int) ∧ k ≤ 3 ∧ m + k ≤ 3 ∧ (∀ x ∈ xs, 1 ≤ x ∧ x ≤ 65535) ∧ t' + 3 * k ≤ t + 30 ∧ wr.ownsRow (w6.heap.size + 1) 2 1 v m (xs.map (Value.int .i64)) ∧ Blk wr w.heap.size 47 #[.int .i64 0, .slice none 0 0, .int .i64 0, .int .i64 0, .int .i64 0] ∧ Blk wr w6.heap.size 47 #[.int .i64 r1, v, .int .i64 r2, .int .i64 x4, .int .i64 x6] ∧ Sc wr B a n c zs t' ∧ Turn (fun k => k = B) w wr) (fun s _ => (intOf s).toNat)
  case atStart => exact ⟨k0, _, 0, .slice none 0 0, [], rfl, by omega, by omega, by simp, by omega, ⟨rfl, .inl ⟨rfl, rfl⟩⟩, bR7, bA7, hs7, t17⟩
  case round =>
    clear bR7 bA7 hs7 t17
    obtain ⟨k, t', m, v, xs, rfl, hk, hmk, hxs, ht', hown, bR, bA, hsc, htn⟩ := hrel
    have hblk := own_blkN hown
    obtain ⟨va, vc, rfl⟩ := own_sliceN hown
    have cA := bA.cells
    have fA := bA.frees
    have hal := bA.lt
    have hml : xs.length = m := by simpa using hown.1
    have HML : Hid (xs.length = m) := hml
    clear hml
    by_cases hlt0 : 0 < k
    · have hd0 := hsc.new ((New.refl _).drew)
      go_wp2_with fail
      go_region_law (first
        | (refine step_apV _ rfl (.tmp 28) (.tmp 38) rfl (w6.heap.size + 1) (.int .i64 0) Try.underlying45 hi hz0 hz1 hz2 rfl (.slice va m vc) m _ rfl (own3.alloc _) ⟨_, 0, none⟩ (.int .i64 x3) rfl (by simp [Addr.add]) rfl (by omega) (by first | omega | (simp; omega)) ?_; intro v' w4' ho4 hgr4; obtain ⟨g4, c4, rfl⟩ := Joins.ownsRow_form ho4 (by omega); have bA4 := (bA3.alloc (.cells #[.int .i64 x3] 2)).grow hgr4 (fun e => by have := hblk _ e; omega); have cA4 := bA4.cells; have fA4 := bA4.frees)
        | (go_simp; go_at_call 52; refine (pick_sc (hsB.new ((New.refl _).alloc (.cells #[.int .i64 (1 + y1), .int .i64 (1 + y2), .int .i64 65535] 2))) [1 + y1, 1 + y2, 65535] (Blk.mk v2 v2.heap.size 2 #[.int .i64 (1 + y1), .int .i64 (1 + y2), .int .i64 65535] rfl) 3 rfl (by omega) (by omega) (by omega)).mono ?_; rintro e v3 ⟨x3, rfl, hx3, hsC, htC⟩; have bA3 := (bA2.alloc (.cells #[.int .i64 (1 + y1), .int .i64 (1 + y2), .int .i64 65535] 2)).turn htC (by omega); have cA3 := bA3.cells; have cA3a := (bA3.alloc (.cells #[.int .i64 x3] 2)).cells; have own3 := own_turnN (own2.alloc (.cells #[.int .i64 (1 + y1), .int .i64 (1 + y2), .int .i64 65535] 2)) htC (fun g hg e => by have := hblk g hg; omega); have s3 : v2.heap.size ≤ v3.heap.size := (by have := htC.size; simp at this; omega))
        | (go_simp; go_at_call 27; refine (next_sc hsA 5 (by omega) (by omega)).mono ?_; rintro e v2 ⟨y2, rfl, ⟨py2, qy2, -⟩, hsB, htB⟩; have qy2 := qy2 (by omega); have hwy2 : IntKind.i64.wrap (1 + y2) = 1 + y2 := wrap_in (by omega); have bA2 := bA1.turn htB (by omega); have cA2 := bA2.cells; have cA2a := (bA2.alloc (.cells #[.int .i64 (1 + y1), .int .i64 (1 + y2), .int .i64 65535] 2)).cells; have own2 := own_turnN own1 htB (fun g hg e => by have := hblk g hg; omega); have s2 := htB.size)
        | (go_simp; go_at_call 27; refine (next_sc hd0 5 (by omega) (by omega)).mono ?_; rintro e v1 ⟨y1, rfl, ⟨py1, qy1, -⟩, hsA, htA⟩; have qy1 := qy1 (by omega); have hwy1 : IntKind.i64.wrap (1 + y1) = 1 + y1 := wrap_in (by omega); have bA1 := (bA.new ((New.refl _).drew)).turn htA (by omega); have cA1 := bA1.cells; have own1 := own_turnN (own_newN hown ((New.refl _).drew)) htA (fun g hg e => by have := hblk g hg; omega); have s1 : wr.heap.size ≤ v1.heap.size := htA.size))
      all_goals
        have hx3' : 1 ≤ x3 ∧ x3 ≤ 65535 := by
          simp only [List.mem_cons, List.not_mem_nil, or_false] at hx3
          rcases hx3 with rfl | rfl | rfl <;> omega
        have tABC : Turn (fun k => k = B) wr v3 := Turn.both (Turn.both (Turn.both (((New.refl wr).drew).turn (S := fun k => k = B)) htA) htB) (Turn.both (((New.refl v2).alloc (.cells #[.int .i64 (1 + y1), .int .i64 (1 + y2), .int .i64 65535] 2)).turn (S := fun k => k = B)) htC)
        have hal3 := (New.refl v3).alloc (.cells #[.int .i64 x3] 2)
        have bR3 := ((bR.turn tABC hRB).new hal3).grow hgr4 (fun e => by have := hblk _ e; omega)
        have tg : Turn (fun k => (Value.slice va m vc).ownBlock = some k) (v3.alloc (.cells #[.int .i64 x3] 2)) w4' := ⟨hgr4.os, hgr4.tape, hgr4.output, hgr4.size, fun k hk hs => hgr4.block k hk (fun e => hs e.symm)⟩
        have sc4 := (hsC.new hal3).turn tg (fun e => by have := hblk _ e; omega) (fun x hz hx e => by have := hA x hz hx; have := hblk _ e; omega)
        have T5 := Turn.here (B := w6.heap.size) (j := 1) (Turn.refl _ w4') (.slice (some ⟨g4, 0, none⟩) (m + 1) c4)
        have sc5 := sc4.turn T5 (by omega) (fun x hz hx e => by have := hA x hz hx; omega)
        have bR5 := bR3.turn T5 (by omega)
        have bA5 := bA4.set 1 (.slice (some ⟨g4, 0, none⟩) (m + 1) c4)
        simp only [List.setIfInBounds_toArray, List.set_cons_zero, List.set_cons_succ] at bA5
        have ho5 : (w4'.setCell ⟨w6.heap.size, 1, none⟩ (.slice (some ⟨g4, 0, none⟩) (m + 1) c4)).ownsRow (w6.heap.size + 1) 2 1 (.slice (some ⟨g4, 0, none⟩) (m + 1) c4) (m + 1) ((xs ++ [x3]).map (Value.int .i64)) := own_setN (by simpa using ho4) (by simp)
        have t5 : Turn (fun k => k = B) w (w4'.setCell ⟨w6.heap.size, 1, none⟩ (.slice (some ⟨g4, 0, none⟩) (m + 1) c4)) := Turn.trans (Turn.trans (Turn.both (Turn.both htn tABC) (hal3.turn (S := fun k => k = B))) tg (fun i hi e => by have := hblk _ e; omega)) T5 (fun i hi e => by omega)
        have hxs5 : ∀ x ∈ xs ++ [x3], 1 ≤ x ∧ x ≤ 65535 := by
          intro x hx
          rcases List.mem_append.1 hx with h | h
          · exact hxs x h
          · simp at h; subst h; exact hx3'
        clear ho4 hgr4 hown bA bR bA1 bA2 bA3 bA4 bR3 cA fA cA1 cA2 cA2a cA3 cA3a cA4 fA4 own1 own2 own3 hsA hsB hsC htA htB htC tABC tg sc4 T5 hal3 hx3 hd0 hsc htn
        go_wp2
        go_roundw
        case rel => exact ⟨k - 1, _, m + 1, _, xs ++ [x3], by go_num, by omega, by omega, hxs5, by omega, ho5, bR5, bA5, sc5, t5⟩
        case measure => simp [intOf]; omega
    · obtain rfl : k = 0 := by omega
      have hM : OwM wr (w6.heap.size + 1) (.slice va m vc) xs := OwM.of_own hown HML.out
      have cR := bR.cells
      have fR := bR.frees
      have lR := bR.lt
      have haf : Hid (af r1 xs r2 x4 x6 = 0) := af_of ⟨by omega, ⟨by omega, by omega⟩, ⟨by omega, by omega⟩, ⟨by omega, by omega⟩⟩ (by rw [HML.out]; omega) hxs
      clear hown
      go_wp2
      refine bodyPost_ret (v := .agg #[.int .i64 r1, .slice va m vc, .int .i64 r2, .int .i64 x4, .int .i64 x6]) (by simp [results, Try.results71, go_sem, cR]) rfl ?_
      refine (fun (hT : Turn (fun k => k = w.heap.size) wr _) => ⟨r1, r2, x4, x6, xs, va, vc, t', by rw [HML.out], haf.out, by rw [HML.out]; omega, by omega, by rw [HML.out]; exact (hM.turn hT (fun g hg e => by omega)).low (by omega), hsc.turn hT (by omega) (fun x hz hx e => by have := hA x hz hx; omega), Turn.trans htn hT (fun i hi e => by omega)⟩) ?_
      exact Turn.here (Turn.here (Turn.here (Turn.here (Turn.here (Turn.refl _ _) _) _) _) _) _

end Go.Proofs.Ytljkcijakdhdiaa

namespace Go.Proofs.Ytljkcijakdhdiaa
open Go.RowKit Go.Sort
set_option linter.unusedVariables false

section
variable {P : Program} {t e : TypeId} {i : TypeInfo}
end

theorem lfc_nought : ∀ {ps : List (Int × Int)}, (∀ p ∈ ps, pf p.1 p.2 = 0) → lfc ps = 0
  | [], _ => rfl
  | p :: r, h => by
    unfold lfc
    rw [if_pos (h p (by simp))]
    exact lfc_nought (fun q hq => h q (by simp [hq]))
theorem uf_gs {gs : List (Int × Int)} (h : ∀ p ∈ gs, pf p.1 p.2 = 0) (hl : gs.length ≤ 8) : uf gs false 0 [] 0 0 0 [] = 0 := by
  have h0 : lf gs = 0 := by unfold lf; rw [if_neg (by omega), lfc_nought h]
  unfold uf
  rw [if_neg (by simp; omega), h0]
  simp [lf, lfc, ZaP]

theorem OwM.slice' {w : World} {lo : Nat} {v : Value} {L : List Int} (h : OwM w lo v L) : ∃ a c, v = .slice a L.length c := by
  rcases h with ⟨rfl, rfl⟩ | ⟨g, c, rfl, _⟩
  · exact ⟨none, 0, rfl⟩
  · exact ⟨_, c, rfl⟩
theorem OwQ.slice' {w : World} {lo : Nat} {v : Value} {L : List (Int × Int)} (h : OwQ w lo v L) : ∃ a c, v = .slice a L.length c := by
  rcases h with ⟨rfl, rfl⟩ | ⟨g, c, rfl, _⟩
  · exact ⟨none, 0, rfl⟩
  · exact ⟨_, c, rfl⟩
theorem OwQ.psB {w : World} {lo n c : Nat} {a : Option Addr} {L : List (Int × Int)} (h : OwQ w lo (.slice a n c) L) (hb : ∀ p ∈ L, In6 p.1 ∧ In6 p.2) : PsAt w a L := by
  obtain ⟨a', c', e, hp, -⟩ := h.ps hb
  simp only [Value.slice.injEq] at e
  obtain ⟨rfl, -, rfl⟩ := e
  exact hp
theorem OwM.nsB' {w : World} {lo n c : Nat} {a : Option Addr} {L : List Int} (h : OwM w lo (.slice a n c) L) (hb : ∀ z ∈ L, In6 z) : NsAt w a L := by
  obtain ⟨a', c', e, hp, -⟩ := h.ns hb
  simp only [Value.slice.injEq] at e
  obtain ⟨rfl, -, rfl⟩ := e
  exact hp
theorem pf_in {p : Int × Int} (h : pf p.1 p.2 = 0) : In6 p.1 ∧ In6 p.2 := by
  unfold pf at h
  split at h
  · omega
  · rename_i hh
    unfold In6
    omega

end Go.Proofs.Ytljkcijakdhdiaa

namespace Go.Proofs.Ytljkcijakdhdiaa
open Go.RowKit Go.Sort
set_option linter.unusedVariables false

theorem own_turnQB {w w' : World} {base n : Nat} {v : Value} {xs : List Value} {S : Nat → Prop} (h : w.ownsRow base 88 2 v n xs) (t : Turn S w w') (hS : ∀ g, v.ownBlock = some g → ¬ S g) : w'.ownsRow base 88 2 v n xs := by
  refine ⟨h.1, ?_⟩
  rcases h.2 with h' | ⟨g', cap', cur, h', hb, hh, r⟩
  · exact .inl h'
  · have hlt : g' < w.heap.size := (Array.getElem?_eq_some_iff.1 hh).1
    exact .inr ⟨g', cap', cur, h', hb, (t.block g' hlt (hS g' (by rw [h']; rfl))).trans hh, r⟩
theorem OwQ.turnB' {w w' : World} {lo : Nat} {v : Value} {L : List (Int × Int)} {S : Nat → Prop} (h : OwQ w lo v L) (t : Turn S w w') (hS : ∀ g, v.ownBlock = some g → ¬ S g) : OwQ w' lo v L := by
  rcases h with h | ⟨g, c, h1, h2, h3⟩
  · exact .inl h
  · exact .inr ⟨g, c, h1, h2, h3.turn t (hS g (by rw [h1]; rfl))⟩
theorem uf_true {gs rs : List (Int × Int)} {o nx md lc : Int} {xs : List Int} (hg : ∀ p ∈ gs, pf p.1 p.2 = 0) (hr : ∀ p ∈ rs, pf p.1 p.2 = 0) (h8 : gs.length ≤ 8) (r8 : rs.length ≤ 8) (r0 : 0 < rs.length) (ha : af o xs nx md lc = 0) : uf gs true o xs nx md lc rs = 0 := by
  have h0 : lf gs = 0 := by unfold lf; rw [if_neg (by omega), lfc_nought hg]
  have h1 : lf rs = 0 := by unfold lf; rw [if_neg (by omega), lfc_nought hr]
  unfold uf
  rw [if_neg (by omega), h0, h1]
  simp [r0, ha]

/-- What the drawing of an update leaves. -/
structure Drawn (w : World) (lo : Nat) (gs : List (Int × Int)) (xs : List Int) (rs : List (Int × Int)) (x y z : Value) : Prop where
  g : OwQ w lo x gs
  n : OwM w lo y xs
  r : OwQ w lo z rs
  lg : gs.length ≤ 3
  ln : xs.length ≤ 7
  lr : rs.length ≤ 4

set_option maxRecDepth 100000 in
set_option maxHeartbeats 6400000 in
theorem l3DrawUpdate_sc {B n c t : Nat} {a : Option Addr} {zs : List Int} {w : World} (h : Sc w B a n c zs t) (ht : t ≤ 10000) :
    Calls Try.prog 53 #[.pointer (some ⟨B, 0, none⟩)] w fun e w' => ∃ (gs rs : List (Int × Int)) (xs : List Int) (has : Bool) (o nx md lc : Int) (x y z : Value) (t' : Nat), e = .returned (.agg #[x, .bool has, .int .i64 o, y, .int .i64 nx, .int .i64 md, .int .i64 lc, z]) ∧ uf gs has o xs nx md lc rs = 0 ∧ gs.length ≤ 2 ∧ xs.length ≤ 3 ∧ rs.length ≤ 3 ∧ t' ≤ t + 200 ∧ OwQ w' w.heap.size x gs ∧ OwM w' w.heap.size y xs ∧ OwQ w' w.heap.size z rs ∧ Sc w' B a n c zs t' ∧ Turn (fun k => k = B) w w' ∧ (∀ b, x.ownBlock = some b → y.ownBlock ≠ some b) ∧ (∀ b, x.ownBlock = some b → z.ownBlock ≠ some b) ∧ (∀ b, y.ownBlock = some b → z.ownBlock ≠ some b) := by
  obtain ⟨iP, hi, hz0, hz1, hz2⟩ := info_parts Try.infoPx
  have hlt := h.blk.lt
  have hA := h.lt_of
  have hw0 := ((New.refl w).alloc (.cells #[.slice none 0 0, .bool false, .int .i64 0, .slice none 0 0, .int .i64 0, .int .i64 0, .int .i64 0, .slice none 0 0] 49)).alloc (.cells #[.slice none 0 0, .bool false, .int .i64 0, .slice none 0 0, .int .i64 0, .int .i64 0, .int .i64 0, .slice none 0 0] 49)
  have bR0 := (Blk.mk w w.heap.size 49 #[.slice none 0 0, .bool false, .int .i64 0, .slice none 0 0, .int .i64 0, .int .i64 0, .int .i64 0, .slice none 0 0] rfl).alloc (.cells #[.slice none 0 0, .bool false, .int .i64 0, .slice none 0 0, .int .i64 0, .int .i64 0, .int .i64 0, .slice none 0 0] 49)
  have bU0 := Blk.mk (w.alloc (.cells #[.slice none 0 0, .bool false, .int .i64 0, .slice none 0 0, .int .i64 0, .int .i64 0, .int .i64 0, .slice none 0 0] 49)) (w.heap.size + 1) 49 #[.slice none 0 0, .bool false, .int .i64 0, .slice none 0 0, .int .i64 0, .int .i64 0, .int .i64 0, .slice none 0 0] (by simp)
  have hRB : ¬ w.heap.size = B := by omega
  have hUB : ¬ w.heap.size + 1 = B := by omega
  go_enter Try.func53, Try.ntmps53
  go_wp2_with fail
  refine (next_sc (h.new hw0) 3 (by omega) (by omega)).mono ?_
  rintro e w1 ⟨r1, rfl, ⟨p1, q1, -⟩, hs1, ht1⟩
  have q1 := q1 (by omega)
  obtain ⟨k0, rfl⟩ := Int.eq_ofNat_of_zero_le p1
  have bR1 := bR0.turn ht1 hRB
  have bU1 := bU0.turn ht1 hUB
  have t01 := Turn.both (hw0.turn (S := fun k => k = B)) ht1
  clear bR0 bU0 hw0 ht1
  go_wp2_with fail
  go_loopw [4] (fun s wr => ∃ (k t' m : Nat) (v : Value) (gs : List (Int × Int)), s = .int .i64 (k : Int) ∧ k ≤ 2 ∧ m + k ≤ 2 ∧ (∀ p ∈ gs, pf p.1 p.2 = 0) ∧ t' + 10 * k ≤ t + 30 ∧ wr.ownsRow (w.heap.size + 2) 88 2 v m (cellsP gs) ∧ Blk wr w.heap.size 49 #[.slice none 0 0, .bool false, .int .i64 0, .slice none 0 0, .int .i64 0, .int .i64 0, .int .i64 0, .slice none 0 0] ∧ Blk wr (w.heap.size + 1) 49 #[v, .bool false, .int .i64 0, .slice none 0 0, .int .i64 0, .int .i64 0, .int .i64 0, .slice none 0 0] ∧ Sc wr B a n c zs t' ∧ Turn (fun k => k = B) w wr) (fun s _ => (intOf s).toNat)
  case atStart => exact ⟨k0, _, 0, .slice none 0 0, [], rfl, by omega, by omega, by simp, by omega, ⟨rfl, .inl ⟨rfl, rfl⟩⟩, bR1, bU1, hs1, t01⟩
  case round =>
    clear bR1 bU1 hs1 t01
    obtain ⟨k, t', m, v, gs, rfl, hk, hmk, hok, ht', hown, bR, bU, hsc, htn⟩ := hrel
    have hblk := own_blk hown
    obtain ⟨va, vc, rfl, hvb⟩ := own_slice hown
    have cU := bU.cells
    have fU := bU.frees
    have hal := bU.lt
    have HML : Hid (gs.length = m) := by have := hown.1; rw [cellsP_len] at this; unfold Hid; omega
    by_cases hlt0 : 0 < k
    · have hd0 := hsc.new ((New.refl _).drew)
      go_wp2_with fail
      go_region_law (first
        | (refine step_apR _ rfl (.tmp 14) (.tmp 17) rfl (w.heap.size + 2) Try.underlying44 hi hz0 hz1 hz2 (.slice va m vc) m _ rfl (own1.alloc _) ⟨_, 0, none⟩ x l rfl (by simp [Addr.add]) (by simp [Addr.add]) (by omega) (by first | omega | (simp; omega)) ?_; intro v' w4' ho4 hgr4; obtain ⟨g4, c4, rfl⟩ := Joins.ownsRow_form ho4 (by omega); have bU4 := (bU1.alloc (.cells #[.int .i64 x, .int .i64 l] 88)).grow hgr4 (fun e => by have := hblk _ e; omega); have cU4 := bU4.cells; have fU4 := bU4.frees)
        | (go_simp; go_at_call 70; refine (l2Prefix_sc hd0 (by omega)).mono ?_; rintro e v1 ⟨x, l, tc, rfl, hpx, htc, hsA, htA⟩; have bU1 := (bU.new ((New.refl _).drew)).turn htA (by omega); have cU1 := bU1.cells; have cU1a := (bU1.alloc (.cells #[.int .i64 x, .int .i64 l] 88)).cells; have own1 := own_turnQB (own_turnQ hown ((New.refl _).drew)) htA (fun g hg e => by have := hblk g hg; omega); have s1 : wr.heap.size ≤ v1.heap.size := htA.size))
      all_goals
        have tA : Turn (fun k => k = B) wr v1 := Turn.both (((New.refl wr).drew).turn (S := fun k => k = B)) htA
        have hal1 := (New.refl v1).alloc (.cells #[.int .i64 x, .int .i64 l] 88)
        have bR3 := ((bR.turn tA hRB).new hal1).grow hgr4 (fun e => by have := hblk _ e; omega)
        have tg : Turn (fun k => (Value.slice va m vc).ownBlock = some k) (v1.alloc (.cells #[.int .i64 x, .int .i64 l] 88)) w4' := ⟨hgr4.os, hgr4.tape, hgr4.output, hgr4.size, fun k hk hs => hgr4.block k hk (fun e => hs e.symm)⟩
        have sc4 := (hsA.new hal1).turn tg (fun e => by have := hblk _ e; omega) (fun x hz hx e => by have := hA x hz hx; have := hblk _ e; omega)
        have T5 := Turn.here (B := w.heap.size + 1) (j := 0) (Turn.refl _ w4') (.slice (some ⟨g4, 0, none⟩) (m + 1) c4)
        have sc5 := sc4.turn T5 (by omega) (fun x hz hx e => by have := hA x hz hx; omega)
        have bR5 := bR3.turn T5 (by omega)
        have bU5 := bU4.set 0 (.slice (some ⟨g4, 0, none⟩) (m + 1) c4)
        simp only [List.setIfInBounds_toArray, List.set_cons_zero] at bU5
        have ho5 : (w4'.setCell ⟨w.heap.size + 1, 0, none⟩ (.slice (some ⟨g4, 0, none⟩) (m + 1) c4)).ownsRow (w.heap.size + 2) 88 2 (.slice (some ⟨g4, 0, none⟩) (m + 1) c4) (m + 1) (cellsP (gs ++ [(x, l)])) := own_setQ (by rw [cellsP_append]; exact ho4) (by simp; try omega)
        have t5 : Turn (fun k => k = B) w (w4'.setCell ⟨w.heap.size + 1, 0, none⟩ (.slice (some ⟨g4, 0, none⟩) (m + 1) c4)) := Turn.trans (Turn.trans (Turn.both (Turn.both htn tA) (hal1.turn (S := fun k => k = B))) tg (fun i hi e => by have := hblk _ e; omega)) T5 (fun i hi e => by omega)
        have hok5 : ∀ p ∈ gs ++ [(x, l)], pf p.1 p.2 = 0 := by
          intro p hp
          rcases List.mem_append.1 hp with h | h
          · exact hok p h
          · simp at h; subst h; exact hpx
        clear ho4 hgr4 hown bU bR bU1 bU4 bR3 cU fU cU1 cU1a cU4 fU4 own1 hsA htA tA tg sc4 T5 hal1 hd0 hsc htn
        go_wp2
        go_roundw
        case rel => exact ⟨k - 1, _, m + 1, _, gs ++ [(x, l)], by go_num, by omega, by omega, hok5, by omega, ho5, bR5, bU5, sc5, t5⟩
        case measure => simp [intOf]; omega
    · obtain rfl : k = 0 := by omega
      have hQ : OwQ wr (w.heap.size + 2) (.slice va m vc) gs := OwQ.of_own hown HML.out
      clear hown hblk
      go_wp2_with fail
      refine (chance_sc hsc 4 (by omega) (by omega)).mono ?_
      rintro e w2 ⟨r2, rfl, hs2, ht2⟩
      have hQ2 := hQ.turnB' ht2 (fun g hg e => by have := hQ.blk g hg; omega)
      have bR2 := bR.turn ht2 hRB
      have bU2 := bU.turn ht2 hUB
      have t02 := Turn.both htn ht2
      have hgb := hQ2.blk
      clear cU fU hQ bR bU hsc htn ht2 hal
      have cU := bU2.cells
      have fU := bU2.frees
      have hal := bU2.lt
      cases r2 with
      | true =>
        have cR := bR2.cells
        have fR := bR2.frees
        have lR := bR2.lt
        have huf : Hid (uf gs false 0 [] 0 0 0 [] = 0) := uf_gs hok (by rw [HML.out]; omega)
        go_wp2
        refine bodyPost_ret (v := .agg #[.slice va m vc, .bool false, .int .i64 0, .slice none 0 0, .int .i64 0, .int .i64 0, .int .i64 0, .slice none 0 0]) (by simp [results, Try.results53, go_sem, cR]) rfl ?_
        refine (fun (hT : Turn (fun k => k = w.heap.size) w2 _) => ⟨gs, [], [], false, 0, 0, 0, 0, _, _, _, _, rfl, huf.out, by rw [HML.out]; omega, by simp, by simp, by omega, (hQ2.turn hT (fun g hg e => by omega)).low (by omega), OwM.nil _ _, OwQ.nil _ _, hs2.turn hT (by omega) (fun x hz hx e => by have := hA x hz hx; omega), Turn.trans t02 hT (fun i hi e => by omega), (by intro b _ e; cases e), (by intro b _ e; cases e), (by intro b e; cases e)⟩) ?_
        exact Turn.here (Turn.here (Turn.here (Turn.here (Turn.here (Turn.here (Turn.here (Turn.here (Turn.refl _ _) _) _) _) _) _) _) _) _
      | false =>
        have b3 := bU2.set 1 (.bool true)
        simp only [List.setIfInBounds_toArray, List.set_cons_zero, List.set_cons_succ] at b3
        have T3 := Turn.here (B := w.heap.size + 1) (j := 1) (Turn.refl _ w2) (.bool true)
        have bR3 := bR2.turn T3 (by omega)
        have hQ3 := hQ2.turn T3 (fun g hg e => by omega)
        have hs3 := hs2.turn T3 (by omega) (fun x hz hx e => by have := hA x hz hx; omega)
        have t03 := Turn.trans t02 T3 (fun i hi e => by omega)
        have sz3 := T3.size
        clear bU2 bR2 hQ2 hs2 t02
        go_wp2_with fail
        refine (l3DrawAttrs_sc hs3 (by omega)).mono ?_
        rintro e w4 ⟨o, nx, md, lc, xs, xa, xc, t4, rfl, haf, hxl, ht4, hM4, hs4, htA4⟩
        have HAF : Hid (af o xs nx md lc = 0) := haf
        have b4 := b3.turn htA4 hUB
        have bR4 := bR3.turn htA4 hRB
        have hQ4 := hQ3.turnB' htA4 (fun g hg e => by have := hQ3.blk g hg; omega)
        have t04 := Turn.both t03 htA4
        have hMb := hM4.blk
        have hM4' := hM4.low (Nat.le_trans hal sz3)
        clear cU fU b3 bR3 hQ3 hs3 t03 T3 haf hM4
        generalize hX : xs.length = xn at *
        have HX : Hid (xs.length = xn) := hX
        clear hX
        have cU := b4.cells
        have fU := b4.frees
        have lU := b4.lt
        have b5 := ((((b4.set 2 (.int .i64 o)).set 3 (.slice xa xn xc)).set 4 (.int .i64 nx)).set 5 (.int .i64 md)).set 6 (.int .i64 lc)
        simp only [List.setIfInBounds_toArray, List.set_cons_zero, List.set_cons_succ] at b5
        have T5 := Turn.here (B := w.heap.size + 1) (j := 6) (Turn.here (j := 5) (Turn.here (j := 4) (Turn.here (j := 3) (Turn.here (j := 2) (Turn.refl _ w4) (.int .i64 o)) (.slice xa xn xc)) (.int .i64 nx)) (.int .i64 md)) (.int .i64 lc)
        have bR5 := bR4.turn T5 (by omega)
        have hQ5 := hQ4.turn T5 (fun g hg e => by omega)
        have hM5 := hM4'.turn T5 (fun g hg e => by omega)
        have hs5 := hs4.turn T5 (by omega) (fun x hz hx e => by have := hA x hz hx; omega)
        have t05 := Turn.trans t04 T5 (fun i hi e => by omega)
        have sz5 := T5.size
        clear b4 bR4 hQ4 hs4 t04 hM4'
        go_wp2_with fail
        refine (next_sc hs5 3 (by omega) (by omega)).mono ?_
        rintro e w6 ⟨r6, rfl, ⟨p6, q6, -⟩, hs6, ht6⟩
        have q6 := q6 (by omega)
        obtain ⟨k6, rfl⟩ := Int.eq_ofNat_of_zero_le p6
        have b6 := b5.turn ht6 hUB
        have bR6 := bR5.turn ht6 hRB
        have hQ6 := hQ5.turnB' ht6 (fun g hg e => by have := hQ5.blk g hg; omega)
        have hM6 := hM5.turnB' ht6 (fun g hg e => by have := hM5.blk g hg; omega)
        have t06 := Turn.both t05 ht6
        have kQ := hQ6.blk
        have kM := hM6.blk
        have l6 := b6.lt
        have lB6 := hs6.blk.lt
        clear cU fU b5 bR5 hQ5 hM5 hs5 t05 T5 ht6 lU
        go_wp2_with fail
        go_loopw [5] (fun s wr => ∃ (k t' rm : Nat) (v : Value) (rs : List (Int × Int)), s = .int .i64 (k : Int) ∧ k ≤ 3 ∧ rm + k ≤ 3 ∧ 1 ≤ rm + k ∧ (∀ p ∈ rs, pf p.1 p.2 = 0) ∧ t' + 10 * k ≤ t + 100 ∧ wr.ownsRow (w6.heap.size) 88 2 v rm (cellsP rs) ∧ Blk wr w.heap.size 49 #[.slice none 0 0, .bool false, .int .i64 0, .slice none 0 0, .int .i64 0, .int .i64 0, .int .i64 0, .slice none 0 0] ∧ Blk wr (w.heap.size + 1) 49 #[.slice va m vc, .bool true, .int .i64 o, .slice xa xn xc, .int .i64 nx, .int .i64 md, .int .i64 lc, v] ∧ Sc wr B a n c zs t' ∧ Turn (fun k => k = B) w wr ∧ OwQ wr (w.heap.size + 2) (.slice va m vc) gs ∧ OwM wr (w.heap.size + 2) (.slice xa xn xc) xs ∧ w6.heap.size ≤ wr.heap.size) (fun s _ => (intOf s).toNat)
        case atStart => exact ⟨1 + k6, _, 0, .slice none 0 0, [], by first | rfl | go_num | simp, by omega, by omega, by omega, by simp, by omega, ⟨rfl, .inl ⟨rfl, rfl⟩⟩, bR6, b6, hs6, t06, hQ6, hM6, Nat.le_refl _⟩
        case round =>
          clear bR6 b6 hs6 t06 hQ6 hM6
          have HG : Hid (∀ p ∈ gs, pf p.1 p.2 = 0) := hok
          clear hok
          obtain ⟨k, t', rm, v, rs, rfl, hk, hmk, hmk1, hok, ht', hown, bR, bU, hsc, htn, hQ, hM, hs66⟩ := hrel
          have hblk := own_blk hown
          obtain ⟨va', vc', rfl, hvb⟩ := own_slice hown
          have cU := bU.cells
          have fU := bU.frees
          have hal := bU.lt
          have HRL : Hid (rs.length = rm) := by have := hown.1; rw [cellsP_len] at this; unfold Hid; omega
          by_cases hlt0 : 0 < k
          · have hd0 := hsc.new ((New.refl _).drew)
            go_wp2_with fail
            go_region_law (first
              | (refine step_apR _ rfl (.tmp 35) (.tmp 38) rfl (w6.heap.size) Try.underlying44 hi hz0 hz1 hz2 (.slice va' rm vc') rm _ rfl (own1.alloc _) ⟨_, 0, none⟩ x l rfl (by simp [Addr.add]) (by simp [Addr.add]) (by omega) (by first | omega | (simp; omega)) ?_; intro v' w4' ho4 hgr4; obtain ⟨g4, c4, rfl⟩ := Joins.ownsRow_form ho4 (by omega); have bU4 := (bU1.alloc (.cells #[.int .i64 x, .int .i64 l] 88)).grow hgr4 (fun e => by have := hblk _ e; omega); have cU4 := bU4.cells; have fU4 := bU4.frees)
              | (go_simp; go_at_call 70; refine (l2Prefix_sc hd0 (by omega)).mono ?_; rintro e v1 ⟨x, l, tc, rfl, hpx, htc, hsA, htA⟩; have bU1 := (bU.new ((New.refl _).drew)).turn htA (by omega); have cU1 := bU1.cells; have cU1a := (bU1.alloc (.cells #[.int .i64 x, .int .i64 l] 88)).cells; have own1 := own_turnQB (own_turnQ hown ((New.refl _).drew)) htA (fun g hg e => by have := hblk g hg; omega); have s1 : wr.heap.size ≤ v1.heap.size := htA.size))
            all_goals
              have tA : Turn (fun k => k = B) wr v1 := Turn.both (((New.refl wr).drew).turn (S := fun k => k = B)) htA
              have hal1 := (New.refl v1).alloc (.cells #[.int .i64 x, .int .i64 l] 88)
              have bR3 := ((bR.turn tA hRB).new hal1).grow hgr4 (fun e => by have := hblk _ e; omega)
              have tg : Turn (fun k => (Value.slice va' rm vc').ownBlock = some k) (v1.alloc (.cells #[.int .i64 x, .int .i64 l] 88)) w4' := ⟨hgr4.os, hgr4.tape, hgr4.output, hgr4.size, fun k hk hs => hgr4.block k hk (fun e => hs e.symm)⟩
              have sc4 := (hsA.new hal1).turn tg (fun e => by have := hblk _ e; omega) (fun x hz hx e => by have := hA x hz hx; have := hblk _ e; omega)
              have T5 := Turn.here (B := w.heap.size + 1) (j := 7) (Turn.refl _ w4') (.slice (some ⟨g4, 0, none⟩) (rm + 1) c4)
              have sc5 := sc4.turn T5 (by omega) (fun x hz hx e => by have := hA x hz hx; omega)
              have bR5 := bR3.turn T5 (by omega)
              have bU5 := bU4.set 7 (.slice (some ⟨g4, 0, none⟩) (rm + 1) c4)
              simp only [List.setIfInBounds_toArray, List.set_cons_zero, List.set_cons_succ] at bU5
              have ho5 : (w4'.setCell ⟨w.heap.size + 1, 7, none⟩ (.slice (some ⟨g4, 0, none⟩) (rm + 1) c4)).ownsRow (w6.heap.size) 88 2 (.slice (some ⟨g4, 0, none⟩) (rm + 1) c4) (rm + 1) (cellsP (rs ++ [(x, l)])) := own_setQ (by rw [cellsP_append]; exact ho4) (by simp; try omega)
              have t5 : Turn (fun k => k = B) w (w4'.setCell ⟨w.heap.size + 1, 7, none⟩ (.slice (some ⟨g4, 0, none⟩) (rm + 1) c4)) := Turn.trans (Turn.trans (Turn.both (Turn.both htn tA) (hal1.turn (S := fun k => k = B))) tg (fun i hi e => by have := hblk _ e; omega)) T5 (fun i hi e => by omega)
              have hok5 : ∀ p ∈ rs ++ [(x, l)], pf p.1 p.2 = 0 := by
                intro p hp
                rcases List.mem_append.1 hp with h | h
                · exact hok p h
                · simp at h; subst h; exact hpx
              have hQ5 := ((((hQ.turnB' tA (fun g hg e => by have := kQ g hg; omega)).new hal1).turnB' tg (fun g hg e => by have := kQ g hg; have := hblk _ e; omega))).turn T5 (fun g hg e => by omega)
              have hM5 := ((((hM.turnB' tA (fun g hg e => by have := kM g hg; omega)).new hal1).turnB' tg (fun g hg e => by have := kM g hg; have := hblk _ e; omega))).turn T5 (fun g hg e => by omega)
              have s5 : w6.heap.size ≤ (w4'.setCell ⟨w.heap.size + 1, 7, none⟩ (.slice (some ⟨g4, 0, none⟩) (rm + 1) c4)).heap.size := by have := T5.size; have := tg.size; simp at this; omega
              clear ho4 hgr4 hown bU bR bU1 bU4 bR3 cU fU cU1 cU1a cU4 fU4 own1 hsA htA tA tg sc4 T5 hal1 hd0 hsc htn hQ hM
              go_wp2
              go_roundw
              case rel => exact ⟨k - 1, _, rm + 1, _, rs ++ [(x, l)], by go_num, by omega, by omega, by omega, hok5, by omega, ho5, bR5, bU5, sc5, t5, hQ5, hM5, s5⟩
              case measure => simp [intOf]; omega
          · obtain rfl : k = 0 := by omega
            have hR : OwQ wr w6.heap.size (.slice va' rm vc') rs := OwQ.of_own hown HRL.out
            clear hown
            have cR := bR.cells
            have fR := bR.frees
            have lR := bR.lt
            have huf : Hid (uf gs true o xs nx md lc rs = 0) := uf_true HG.out hok (by rw [HML.out]; omega) (by rw [HRL.out]; omega) (by rw [HRL.out]; omega) HAF.out
            go_wp2
            refine bodyPost_ret (v := .agg #[.slice va m vc, .bool true, .int .i64 o, .slice xa xn xc, .int .i64 nx, .int .i64 md, .int .i64 lc, .slice va' rm vc']) (by simp [results, Try.results53, go_sem, cR]) rfl ?_
            refine (fun (hT : Turn (fun k => k = w.heap.size) wr _) => ⟨gs, rs, xs, true, o, nx, md, lc, _, _, _, _, rfl, huf.out, by rw [HML.out]; omega, by rw [HX.out]; omega, by rw [HRL.out]; omega, by omega, (hQ.turn hT (fun g hg e => by omega)).low (by omega), (hM.turn hT (fun g hg e => by omega)).low (by omega), (hR.turn hT (fun g hg e => by omega)).low (by omega), hsc.turn hT (by omega) (fun x hz hx e => by have := hA x hz hx; omega), Turn.trans htn hT (fun i hi e => by omega), (fun b e1 e2 => by have := hgb b e1; have := hMb b e2; omega), (fun b e1 e2 => by have := kQ b e1; have := hR.blk b e2; omega), (fun b e1 e2 => by have := kM b e1; have := hR.blk b e2; omega)⟩) ?_
            exact Turn.here (Turn.here (Turn.here (Turn.here (Turn.here (Turn.here (Turn.here (Turn.here (Turn.refl _ _) _) _) _) _) _) _) _) _

end Go.Proofs.Ytljkcijakdhdiaa
