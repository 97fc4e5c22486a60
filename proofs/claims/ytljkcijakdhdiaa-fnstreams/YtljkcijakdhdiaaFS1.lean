/- What is proved here: a stream that is read in two parts tells what it tells in one, as a plain fact on lists; no run of the program. No condition. What is proved here: what the drawing of numbers and of bytes out of a list of bytes answers. What is proved here: what the drawing of a prefix out of a list of bytes answers. What is proved here: what the program's packing of an update answers, for every update with lists of at most 1048576 elements. -/
import Derived.Test.YtljkcijakdhdiaaRA5
import Derived.Test.YtljkcijakdhdiaaRA2
import Derived.Test.YtljkcijakdhdiaaPackFn
import Derived.Test.YtljkcijakdhdiaaPxFn
import Derived.Test.YtljkcijakdhdiaaQB
import Derived.Test.YtljkcijakdhdiaaUpFn
namespace Go.Proofs.Ytljkcijakdhdiaa
open Go.RowKit Go.Sort
set_option linter.unusedVariables false
set_option linter.unusedSimpArgs false
set_option maxRecDepth 100000

theorem getD_app {l r : List Int} {i : Nat} (hi : i < l.length) : (l ++ r).getD i 0 = l.getD i 0 := by
  simp only [List.getD_eq_getElem?_getD]
  rw [List.getElem?_append_left hi]
theorem num2_app {l r : List Int} (h4 : 4 ≤ l.length) : numAt (l ++ r) 2 2 = numAt l 2 2 := by
  unfold numAt
  rw [List.drop_append_of_le_length (by omega), List.take_append_of_le_length (by rw [List.length_drop]; omega)]
/-- A head that is wrong is wrong with more bytes behind, too. -/
theorem headM_mono {l r : List Int} (h : headM l ≠ 0) : headM (l ++ r) = headM l := by
  have hlen : (l ++ r).length = l.length + r.length := List.length_append
  unfold headM at h ⊢
  by_cases c0 : 0 < l.length ∧ l.getD 0 0 ≠ 255
  · rw [if_pos c0, if_pos ⟨by omega, by rw [getD_app c0.1]; exact c0.2⟩]
  rw [if_neg c0] at h ⊢
  by_cases c1 : 1 < l.length ∧ l.getD 1 0 ≠ 255
  · have d0 : ¬ (0 < (l ++ r).length ∧ (l ++ r).getD 0 0 ≠ 255) := by
      rintro ⟨x1, x2⟩; rw [getD_app (by omega)] at x2; exact c0 ⟨by omega, x2⟩
    rw [if_pos c1, if_neg d0, if_pos ⟨by omega, by rw [getD_app c1.1]; exact c1.2⟩]
  rw [if_neg c1] at h ⊢
  by_cases c2 : 3 < l.length ∧ (numAt l 2 2 < 5 ∨ 125 < numAt l 2 2)
  · have d0 : ¬ (0 < (l ++ r).length ∧ (l ++ r).getD 0 0 ≠ 255) := by
      rintro ⟨x1, x2⟩; rw [getD_app (by omega)] at x2; exact c0 ⟨by omega, x2⟩
    have d1 : ¬ (1 < (l ++ r).length ∧ (l ++ r).getD 1 0 ≠ 255) := by
      rintro ⟨x1, x2⟩; rw [getD_app (by omega)] at x2; exact c1 ⟨by omega, x2⟩
    rw [if_pos c2, if_neg d0, if_neg d1, if_pos ⟨by omega, by rw [num2_app (by omega)]; exact c2.2⟩]
  rw [if_neg c2] at h ⊢
  by_cases c3 : 4 < l.length ∧ (l.getD 4 0 < 1 ∨ 4 < l.getD 4 0)
  · have d0 : ¬ (0 < (l ++ r).length ∧ (l ++ r).getD 0 0 ≠ 255) := by
      rintro ⟨x1, x2⟩; rw [getD_app (by omega)] at x2; exact c0 ⟨by omega, x2⟩
    have d1 : ¬ (1 < (l ++ r).length ∧ (l ++ r).getD 1 0 ≠ 255) := by
      rintro ⟨x1, x2⟩; rw [getD_app (by omega)] at x2; exact c1 ⟨by omega, x2⟩
    have d2 : ¬ (3 < (l ++ r).length ∧ (numAt (l ++ r) 2 2 < 5 ∨ 125 < numAt (l ++ r) 2 2)) := by
      rintro ⟨x1, x2⟩; rw [num2_app (by omega)] at x2; exact c2 ⟨by omega, x2⟩
    rw [if_pos c3, if_neg d0, if_neg d1, if_neg d2, if_pos ⟨by omega, by rw [getD_app c3.1]; exact c3.2⟩]
  rw [if_neg c3] at h
  exact absurd rfl h
/-- A head that is there whole is the same with more bytes behind. -/
theorem headM_whole {l r : List Int} (h5 : 5 ≤ l.length) (h : headM l = 0) : headM (l ++ r) = 0 := by
  have hlen : (l ++ r).length = l.length + r.length := List.length_append
  have g0 : (l ++ r).getD 0 0 = l.getD 0 0 := getD_app (by omega)
  have g1 : (l ++ r).getD 1 0 = l.getD 1 0 := getD_app (by omega)
  have g4 : (l ++ r).getD 4 0 = l.getD 4 0 := getD_app (by omega)
  have g2 : numAt (l ++ r) 2 2 = numAt l 2 2 := num2_app (by omega)
  obtain ⟨-, -, k3, k4, k5, k6, k7⟩ := head_ok h h5
  have k8 : szM l = (numAt l 2 2).toNat := rfl
  have kk := head_ok h h5
  unfold headM
  rw [g0, g1, g2, g4]
  rw [if_neg (by rintro ⟨-, x⟩; exact x k5), if_neg (by rintro ⟨-, x⟩; exact x k6), if_neg (by rintro ⟨-, x⟩; have := kk.1; have := kk.2.1; omega), if_neg (by rintro ⟨-, x⟩; omega)]
theorem szM_app {l r : List Int} (h4 : 4 ≤ l.length) : szM (l ++ r) = szM l := by unfold szM; rw [num2_app h4]

/-- What is told of a stream, frame by frame. -/
def gS : Nat → List Int → Rm
  | 0, _ => ⟨0, 0, 0, 0, []⟩
  | f + 1, l => if headM l ≠ 0 then ⟨headM l, 0, 1, subS (headM l), []⟩ else if l.length < 5 ∨ l.length < szM l then ⟨0, 0, 0, 0, []⟩
    else if (mh (l.getD 4 0) ((l.take (szM l)).drop 5)).code = 0 then ⟨(gS f (l.drop (szM l))).z, (szM l : Int) + (gS f (l.drop (szM l))).us, (gS f (l.drop (szM l))).wy, (gS f (l.drop (szM l))).sb, (mh (l.getD 4 0) ((l.take (szM l)).drop 5), mp (l.getD 4 0) ((l.take (szM l)).drop 5)) :: (gS f (l.drop (szM l))).D⟩
    else ⟨(mh (l.getD 4 0) ((l.take (szM l)).drop 5)).code, 0, (mh (l.getD 4 0) ((l.take (szM l)).drop 5)).why, (mh (l.getD 4 0) ((l.take (szM l)).drop 5)).sub, []⟩
theorem gS_bad {f : Nat} {l : List Int} (h : headM l ≠ 0) : gS (f + 1) l = ⟨headM l, 0, 1, subS (headM l), []⟩ := by
  show (if headM l ≠ 0 then _ else _) = _
  rw [if_pos h]
theorem gS_short {f : Nat} {l : List Int} (h : headM l = 0) (hs : l.length < 5 ∨ l.length < szM l) : gS (f + 1) l = ⟨0, 0, 0, 0, []⟩ := by
  show (if headM l ≠ 0 then _ else if l.length < 5 ∨ l.length < szM l then _ else _) = _
  rw [if_neg (by omega), if_pos hs]
theorem gS_next {f : Nat} {l : List Int} (h : headM l = 0) (hs : ¬ (l.length < 5 ∨ l.length < szM l)) (hc : (mh (l.getD 4 0) ((l.take (szM l)).drop 5)).code = 0) : gS (f + 1) l = ⟨(gS f (l.drop (szM l))).z, (szM l : Int) + (gS f (l.drop (szM l))).us, (gS f (l.drop (szM l))).wy, (gS f (l.drop (szM l))).sb, (mh (l.getD 4 0) ((l.take (szM l)).drop 5), mp (l.getD 4 0) ((l.take (szM l)).drop 5)) :: (gS f (l.drop (szM l))).D⟩ := by
  show (if headM l ≠ 0 then _ else if l.length < 5 ∨ l.length < szM l then _ else if (mh (l.getD 4 0) ((l.take (szM l)).drop 5)).code = 0 then _ else _) = _
  rw [if_neg (by omega), if_neg hs, if_pos hc]
theorem gS_code {f : Nat} {l : List Int} (h : headM l = 0) (hs : ¬ (l.length < 5 ∨ l.length < szM l)) (hc : ¬ (mh (l.getD 4 0) ((l.take (szM l)).drop 5)).code = 0) : gS (f + 1) l = ⟨(mh (l.getD 4 0) ((l.take (szM l)).drop 5)).code, 0, (mh (l.getD 4 0) ((l.take (szM l)).drop 5)).why, (mh (l.getD 4 0) ((l.take (szM l)).drop 5)).sub, []⟩ := by
  show (if headM l ≠ 0 then _ else if l.length < 5 ∨ l.length < szM l then _ else if (mh (l.getD 4 0) ((l.take (szM l)).drop 5)).code = 0 then _ else _) = _
  rw [if_neg (by omega), if_neg hs, if_neg hc]

/-- Both ways of telling agree. -/
theorem rmG_gS : ∀ (f : Nat) (l : List Int) (u : Int) (L : List (MH × PU)), l.length < f → rmG (splitF f l).1 (splitF f l).2.2 u L = ⟨(gS f l).z, u + (gS f l).us, (gS f l).wy, (gS f l).sb, L ++ (gS f l).D⟩
  | 0, l, u, L, h => by omega
  | f + 1, l, u, L, h => by
    by_cases h0 : headM l = 0
    case neg =>
      rw [gS_bad h0]
      have e : splitF (f + 1) l = (headM l, 0, []) := if_pos h0
      rw [e]
      show (if headM l = 0 then _ else _) = _
      rw [if_neg h0]
      simp
    by_cases hs : l.length < 5 ∨ l.length < szM l
    · rw [gS_short h0 hs]
      have e : splitF (f + 1) l = (0, 0, []) := by
        show (if headM l ≠ 0 then _ else if l.length < 5 ∨ l.length < szM l then _ else _) = _
        rw [if_neg (by omega), if_pos hs]
      rw [e]
      show (if (0 : Int) = 0 then _ else _) = _
      rw [if_pos rfl]
      simp
    · have e : splitF (f + 1) l = ((splitF f (l.drop (szM l))).1, szM l + (splitF f (l.drop (szM l))).2.1, (l.getD 4 0, (l.take (szM l)).drop 5) :: (splitF f (l.drop (szM l))).2.2) := by
        show (if headM l ≠ 0 then _ else if l.length < 5 ∨ l.length < szM l then _ else _) = _
        rw [if_neg (by omega), if_neg hs]
      have k := head_ok h0 (by omega)
      rw [e]
      by_cases hc : (mh (l.getD 4 0) ((l.take (szM l)).drop 5)).code = 0
      · rw [gS_next h0 hs hc]
        show (if (mh (l.getD 4 0) ((l.take (szM l)).drop 5)).code = 0 then _ else _) = _
        rw [if_pos hc, rmG_gS f _ _ _ (by rw [List.length_drop]; omega)]
        have hl : ((l.take (szM l)).drop 5).length = szM l - 5 := by rw [List.length_drop, List.length_take]; omega
        rw [hl]
        simp only [Rm.mk.injEq, true_and, List.append_assoc, List.singleton_append, and_true]
        have := k.1
        omega
      · rw [gS_code h0 hs hc]
        show (if (mh (l.getD 4 0) ((l.take (szM l)).drop 5)).code = 0 then _ else _) = _
        rw [if_neg hc]
        simp
theorem rmF_gS {zs : List Int} (h : ¬ 400 < zs.length) : rmF zs = gS (zs.length + 1) zs := by
  unfold rmF splitR
  rw [if_neg h, if_neg h, rmG_gS _ _ _ _ (by omega)]
  simp
/-- More fuel than bytes changes nothing. -/
theorem gS_fuel : ∀ (f g : Nat) (l : List Int), l.length < f → l.length < g → gS f l = gS g l
  | 0, g, l, h, _ => by omega
  | f + 1, 0, l, _, h => by omega
  | f + 1, g + 1, l, h, h' => by
    by_cases h0 : headM l = 0
    case neg => rw [gS_bad h0, gS_bad h0]
    by_cases hs : l.length < 5 ∨ l.length < szM l
    · rw [gS_short h0 hs, gS_short h0 hs]
    · have k := head_ok h0 (by omega)
      by_cases hc : (mh (l.getD 4 0) ((l.take (szM l)).drop 5)).code = 0
      · rw [gS_next h0 hs hc, gS_next h0 hs hc, gS_fuel f g _ (by rw [List.length_drop]; omega) (by rw [List.length_drop]; omega)]
      · rw [gS_code h0 hs hc, gS_code h0 hs hc]
theorem gS_us : ∀ (f : Nat) (l : List Int), 0 ≤ (gS f l).us ∧ (gS f l).us ≤ l.length
  | 0, l => by simp [gS]
  | f + 1, l => by
    by_cases h0 : headM l = 0
    case neg => rw [gS_bad h0]; simp
    by_cases hs : l.length < 5 ∨ l.length < szM l
    · rw [gS_short h0 hs]; simp
    · by_cases hc : (mh (l.getD 4 0) ((l.take (szM l)).drop 5)).code = 0
      · rw [gS_next h0 hs hc]
        have := gS_us f (l.drop (szM l))
        rw [List.length_drop] at this
        simp only
        omega
      · rw [gS_code h0 hs hc]; simp
/-- A stream that is cut. -/
theorem gS_cut : ∀ (f : Nat) (p q : List Int), (p ++ q).length < f → ((gS f p).z ≠ 0 → (gS f (p ++ q)).z = (gS f p).z ∧ (gS f (p ++ q)).us = (gS f p).us ∧ (gS f (p ++ q)).wy = (gS f p).wy ∧ (gS f (p ++ q)).sb = (gS f p).sb) ∧ ((gS f p).z = 0 → gS f (p ++ q) = ⟨(gS f ((p ++ q).drop (gS f p).us.toNat)).z, (gS f p).us + (gS f ((p ++ q).drop (gS f p).us.toNat)).us, (gS f ((p ++ q).drop (gS f p).us.toNat)).wy, (gS f ((p ++ q).drop (gS f p).us.toNat)).sb, (gS f p).D ++ (gS f ((p ++ q).drop (gS f p).us.toNat)).D⟩)
  | 0, p, q, h => by omega
  | f + 1, p, q, h => by
    have hpq : (p ++ q).length = p.length + q.length := List.length_append
    by_cases h0 : headM p = 0
    case neg =>
      have e := headM_mono (r := q) h0
      rw [gS_bad h0, gS_bad (by rw [e]; exact h0), e]
      exact ⟨fun _ => ⟨rfl, rfl, rfl, rfl⟩, fun hh => absurd hh h0⟩
    by_cases hs : p.length < 5 ∨ p.length < szM p
    · rw [gS_short h0 hs]
      refine ⟨fun hh => absurd rfl hh, fun _ => ?_⟩
      simp
    · have hw := headM_whole (r := q) (by omega) h0
      have hsz : szM (p ++ q) = szM p := szM_app (by omega)
      have hg4 : (p ++ q).getD 4 0 = p.getD 4 0 := getD_app (by omega)
      have hb : (p ++ q).take (szM p) = p.take (szM p) := List.take_append_of_le_length (by omega)
      have hd : (p ++ q).drop (szM p) = p.drop (szM p) ++ q := List.drop_append_of_le_length (by omega)
      have hs' : ¬ ((p ++ q).length < 5 ∨ (p ++ q).length < szM (p ++ q)) := by rw [hsz]; omega
      have k := head_ok h0 (by omega)
      by_cases hc : (mh (p.getD 4 0) ((p.take (szM p)).drop 5)).code = 0
      · have hc' : (mh ((p ++ q).getD 4 0) (((p ++ q).take (szM (p ++ q))).drop 5)).code = 0 := by rw [hsz, hg4, hb]; exact hc
        obtain ⟨i1, i2⟩ := gS_cut f (p.drop (szM p)) q (by rw [List.length_append, List.length_drop]; omega)
        have hu := (gS_us f (p.drop (szM p))).1
        rw [gS_next hw hs' hc', gS_next h0 hs hc, hsz, hg4, hb, hd]
        refine ⟨fun hh => ?_, fun hh => ?_⟩
        · obtain ⟨j1, j2, j3, j4⟩ := i1 hh
          exact ⟨j1, by simp only [j2], j3, j4⟩
        · have i3 := i2 hh
          have hdd : (p ++ q).drop ((szM p : Int) + (gS f (p.drop (szM p))).us).toNat = (p.drop (szM p) ++ q).drop (gS f (p.drop (szM p))).us.toNat := by
            rw [← hd, List.drop_drop]
            congr 1
            omega
          simp only [hdd]
          have hf : gS (f + 1) ((p.drop (szM p) ++ q).drop (gS f (p.drop (szM p))).us.toNat) = gS f ((p.drop (szM p) ++ q).drop (gS f (p.drop (szM p))).us.toNat) := gS_fuel _ _ _ (by rw [List.length_drop, List.length_append, List.length_drop]; omega) (by rw [List.length_drop, List.length_append, List.length_drop]; omega)
          rw [hf, i3]
          simp only [Rm.mk.injEq, true_and, List.cons_append, and_true]
          omega
      · have hc' : ¬ (mh ((p ++ q).getD 4 0) (((p ++ q).take (szM (p ++ q))).drop 5)).code = 0 := by rw [hsz, hg4, hb]; exact hc
        rw [gS_code hw hs' hc', gS_code h0 hs hc, hsz, hg4, hb]
        exact ⟨fun _ => ⟨rfl, rfl, rfl, rfl⟩, fun hh => absurd hh hc⟩
/-- The same, as the program is asked. -/
theorem rmF_cut {zs : List Int} (h : ¬ 400 < zs.length) (c : Nat) (hc : c ≤ zs.length) :
    ((rmF (zs.take c)).z ≠ 0 → (rmF zs).z = (rmF (zs.take c)).z ∧ (rmF zs).us = (rmF (zs.take c)).us ∧ (rmF zs).wy = (rmF (zs.take c)).wy ∧ (rmF zs).sb = (rmF (zs.take c)).sb) ∧
    ((rmF (zs.take c)).z = 0 → (rmF zs).z = (rmF (zs.drop (rmF (zs.take c)).us.toNat)).z ∧ (rmF zs).us = (rmF (zs.take c)).us + (rmF (zs.drop (rmF (zs.take c)).us.toNat)).us ∧ (rmF zs).wy = (rmF (zs.drop (rmF (zs.take c)).us.toNat)).wy ∧ (rmF zs).sb = (rmF (zs.drop (rmF (zs.take c)).us.toNat)).sb ∧ (rmF zs).D.length = (rmF (zs.take c)).D.length + (rmF (zs.drop (rmF (zs.take c)).us.toNat)).D.length) ∧
    0 ≤ (rmF (zs.take c)).us ∧ (rmF (zs.take c)).us ≤ c := by
  have hl : (zs.take c).length = c := by rw [List.length_take]; omega
  have e0 : zs.take c ++ zs.drop c = zs := List.take_append_drop c zs
  have e1 : rmF zs = gS (zs.length + 1) zs := rmF_gS h
  have e2 : rmF (zs.take c) = gS (zs.length + 1) (zs.take c) := (rmF_gS (by omega)).trans (gS_fuel _ _ _ (by omega) (by omega))
  have hu := gS_us (zs.length + 1) (zs.take c)
  have e3 : ∀ k, rmF (zs.drop k) = gS (zs.length + 1) (zs.drop k) := fun k => (rmF_gS (by rw [List.length_drop]; omega)).trans (gS_fuel _ _ _ (by omega) (by rw [List.length_drop]; omega))
  have key := gS_cut (zs.length + 1) (zs.take c) (zs.drop c) (by rw [e0]; omega)
  rw [e0] at key
  rw [e1, e2, e3]
  refine ⟨key.1, fun hh => ?_, hu.1, by rw [hl] at hu; exact hu.2⟩
  have k2 := key.2 hh
  refine ⟨by rw [k2], by rw [k2], by rw [k2], by rw [k2], ?_⟩
  rw [k2]
  simp only [List.length_append]

end Go.Proofs.Ytljkcijakdhdiaa

namespace Go.Proofs.Ytljkcijakdhdiaa
open Go.RowKit

/-- A number that was drawn below m. -/
def Dr (m r : Int) : Prop := 0 ≤ r ∧ (1 ≤ m → r < m) ∧ (m < 1 → r = 0)
theorem Dr.of_mod {x m : Int} (h : ¬ m < 1) : Dr m (x % m) := ⟨Int.emod_nonneg _ (by omega), fun _ => Int.emod_lt_of_pos _ (by omega), fun h' => absurd h' h⟩
theorem wrap_in {x : Int} (h : -1000000000000 ≤ x ∧ x ≤ 1000000000000) : IntKind.i64.wrap x = x := by simp [IntKind.wrap, IntKind.signed, IntKind.bits]; omega
theorem mod_nat (t n : Nat) : (t : Int) % (n : Int) = ((t % n : Nat) : Int) := by omega

set_option maxHeartbeats 1600000 in
theorem next_any (B : Nat) (a : Option Addr) (n c t : Nat) (m : Int) (zs : List Int) (w : World) (hb : Blk w B 59 #[.slice a n c, .int .i64 t]) (h : BsAt w a zs) (hn : zs.length = n) (hm : n ≤ 2097152) (ht : t ≤ 1000000) (hmm : m ≤ 1000000) (hne : ∀ x, zs ≠ [] → a = some x → x.block ≠ B) :
    Calls Try.prog 27 #[.pointer (some ⟨B, 0, none⟩), .int .i64 m] w fun e w' => ∃ r : Int, e = .returned (.int .i64 r) ∧ Dr m r ∧
      Blk w' B 59 #[.slice a n c, .int .i64 ((t : Int) + 1)] ∧ Turn (fun k => k = B) w w' := by
  have hb' := hb.set 1 (.int .i64 ((t : Int) + 1))
  have htn : Turn (fun k => k = B) w (w.setCell ⟨B, 1, none⟩ (.int .i64 ((t : Int) + 1))) := Turn.set (S := fun k => k = B) (Turn.refl _ _) rfl _
  have cB := hb.cells
  have fB := hb.frees
  by_cases h1 : m < 1
  · go_enter Try.func27, Try.ntmps27
    go_wp2
    go_ret
    exact ⟨0, rfl, ⟨by omega, by omega, fun _ => rfl⟩, hb', htn⟩
  by_cases h0 : n = 0
  · subst h0
    have HD : Hid (Dr m ((t : Int) * 7 % m)) := Dr.of_mod h1
    go_enter Try.func27, Try.ntmps27
    go_wp2
    go_ret
    exact ⟨_, rfl, HD.out, hb', htn⟩
  · obtain ⟨i, hi⟩ : ∃ i : Nat, i = t % n := ⟨_, rfl⟩
    obtain ⟨q, hq⟩ : ∃ q : Nat, q = t / n := ⟨_, rfl⟩
    have hmod : (t : Int) % (n : Int) = (i : Int) := by rw [mod_nat, hi]
    have hdiv : (t : Int) / (n : Int) = (q : Int) := by rw [hq]; omega
    have hlt : i < n := by rw [hi]; exact Nat.mod_lt t (show n > 0 by omega)
    have hdl : q ≤ t := by rw [hq]; exact Nat.div_le_self t n
    have hdv : (t : Int).tdiv (n : Int) = (q : Int) := by rw [Int.tdiv_eq_ediv_of_nonneg (by omega)]; exact hdiv
    obtain ⟨b, off, z, rfl, hz, hc, hz0, hz1⟩ := h.at i (by omega)
    have hne0 : ((n : Int) == 0) = false := by simp; omega
    have hbs := BsAt.turnZ (S := fun k => k = B) h htn hne
    have hbB : ¬ b = B := hne _ (by rintro rfl; simp at hz) rfl
    have hcw : (w.setCell ⟨B, 1, none⟩ (.int .i64 ((t : Int) + 1))).cell? ⟨b, off + i, none⟩ = some (.int .u8 z) := by
      obtain ⟨b', off', e', h1', _⟩ := hbs i z hz
      simp only [Option.some.injEq, Addr.mk.injEq, and_true] at e'
      obtain ⟨rfl, rfl⟩ := e'
      exact h1'
    have hmv : (t : Int).tmod (n : Int) = (i : Int) := by rw [Int.tmod_eq_emod_of_nonneg (by omega)]; exact hmod
    have hw0 : IntKind.i64.wrap z = z := wrap_in (by omega)
    have hw1 : IntKind.i64.wrap ((q : Int) * 37) = (q : Int) * 37 := wrap_in (by omega)
    have hw2 : IntKind.i64.wrap (z + (q : Int) * 37) = z + (q : Int) * 37 := wrap_in (by omega)
    have hw3 : IntKind.i64.wrap (i : Int) = (i : Int) := wrap_in (by omega)
    have hw4 : IntKind.i64.wrap (q : Int) = (q : Int) := wrap_in (by omega)
    clear hi hq
    by_cases hm2 : 200 < m
    · obtain ⟨i2, hi2⟩ : ∃ i2 : Nat, i2 = (t + 1) % n := ⟨_, rfl⟩
      have hmod2 : ((t : Int) + 1) % (n : Int) = (i2 : Int) := by rw [hi2, ← mod_nat]; simp
      have hmv2 : ((t : Int) + 1).tmod (n : Int) = (i2 : Int) := by rw [Int.tmod_eq_emod_of_nonneg (by omega)]; exact hmod2
      have hlt2 : i2 < n := by rw [hi2]; exact Nat.mod_lt _ (show n > 0 by omega)
      obtain ⟨b2, off2, z2, e2, hz2, hc2, hz20, hz21⟩ := hbs.at i2 (by omega)
      simp only [Option.some.injEq, Addr.mk.injEq, and_true] at e2
      obtain ⟨rfl, rfl⟩ := e2
      have HD : Hid (Dr m (((z + (q : Int) * 37) * 251 + z2 * 13 + t) % m)) := Dr.of_mod h1
      have hv0 : 0 ≤ z + (q : Int) * 37 := by omega
      have hv1 : z + (q : Int) * 37 ≤ 100000000 := by omega
      have hu0 : IntKind.i64.wrap z2 = z2 := wrap_in (by omega)
      have hu1 : IntKind.i64.wrap ((t : Int) + 1) = (t : Int) + 1 := wrap_in (by omega)
      have hu2 : IntKind.i64.wrap (i2 : Int) = (i2 : Int) := wrap_in (by omega)
      have hu3 : IntKind.i64.wrap ((z + (q : Int) * 37) * 251) = (z + (q : Int) * 37) * 251 := wrap_in (by omega)
      have hu4 : IntKind.i64.wrap (z2 * 13) = z2 * 13 := wrap_in (by omega)
      have hu5 : IntKind.i64.wrap ((z + (q : Int) * 37) * 251 + z2 * 13) = (z + (q : Int) * 37) * 251 + z2 * 13 := wrap_in (by omega)
      have hu6 : IntKind.i64.wrap ((z + (q : Int) * 37) * 251 + z2 * 13 + t) = (z + (q : Int) * 37) * 251 + z2 * 13 + t := wrap_in (by omega)
      clear hi2
      go_enter Try.func27, Try.ntmps27
      go_wp2
      go_quiet (fail)
      go_wp2
      go_quiet (fail)
      go_wp2
      go_ret
      exact ⟨_, rfl, HD.out, hb', htn.os, htn.tape, htn.output, htn.size, htn.block⟩
    · have HD : Hid (Dr m ((z + (q : Int) * 37) % m)) := Dr.of_mod h1
      go_enter Try.func27, Try.ntmps27
      go_wp2
      go_quiet (fail)
      go_wp2
      go_ret
      exact ⟨_, rfl, HD.out, hb', htn.os, htn.tape, htn.output, htn.size, htn.block⟩

/-- A source of numbers: its bytes, how many have been drawn. -/
structure Sc (w : World) (B : Nat) (a : Option Addr) (n c : Nat) (zs : List Int) (t : Nat) : Prop where
  blk : Blk w B 59 #[.slice a n c, .int .i64 t]
  bs : BsAt w a zs
  len : zs.length = n
  le : n ≤ 2097152
  ne : ∀ x, zs ≠ [] → a = some x → x.block ≠ B

theorem Sc.turn {w w' : World} {B n c t : Nat} {a : Option Addr} {zs : List Int} {S : Nat → Prop} (h : Sc w B a n c zs t) (k : Turn S w w') (hB : ¬ S B) (hS : ∀ x, zs ≠ [] → a = some x → ¬ S x.block) : Sc w' B a n c zs t :=
  ⟨h.blk.turn k hB, h.bs.turnZ k hS, h.len, h.le, h.ne⟩
theorem Sc.new {w w' : World} {B n c t : Nat} {a : Option Addr} {zs : List Int} (h : Sc w B a n c zs t) (k : New w w') : Sc w' B a n c zs t := h.turn k (fun f => f) (fun _ _ _ f => f)

theorem next_sc {B n c t : Nat} {a : Option Addr} {zs : List Int} {w : World} (h : Sc w B a n c zs t) (m : Int) (ht : t ≤ 1000000) (hm : m ≤ 1000000) :
    Calls Try.prog 27 #[.pointer (some ⟨B, 0, none⟩), .int .i64 m] w fun e w' => ∃ r : Int, e = .returned (.int .i64 r) ∧ Dr m r ∧ Sc w' B a n c zs (t + 1) ∧ Turn (fun k => k = B) w w' := by
  refine (next_any B a n c t m zs w h.blk h.bs h.len h.le ht hm h.ne).mono ?_
  rintro e w' ⟨r, rfl, hd, hb, htn⟩
  exact ⟨r, rfl, hd, ⟨hb, h.bs.turnZ htn h.ne, h.len, h.le, h.ne⟩, htn⟩

theorem chance_sc {B n c t : Nat} {a : Option Addr} {zs : List Int} {w : World} (h : Sc w B a n c zs t) (m : Int) (ht : t ≤ 1000000) (hm : m ≤ 1000000) :
    Calls Try.prog 17 #[.pointer (some ⟨B, 0, none⟩), .int .i64 m] w fun e w' => ∃ r : Bool, e = .returned (.bool r) ∧ Sc w' B a n c zs (t + 1) ∧ Turn (fun k => k = B) w w' := by
  go_enter Try.func17, Try.ntmps17
  go_wp2_with fail
  refine (next_sc h m ht hm).mono ?_
  rintro e w1 ⟨r, rfl, hd, hs, htn⟩
  go_wp2
  go_ret
  exact ⟨_, rfl, hs, htn⟩

theorem Blk.other {w : World} {B L : Nat} {t u : TypeId} {cs ds : Array Value} (h : Blk w B t cs) (k : Blk w L u ds) (hne : t ≠ u) : L ≠ B := by
  rintro rfl
  unfold Blk at h k
  rw [h] at k
  simp only [Option.some.injEq, Obj.cells.injEq] at k
  exact hne k.2.1

set_option maxHeartbeats 800000 in
theorem pick_sc {B n c t L : Nat} {a : Option Addr} {zs : List Int} {w : World} (h : Sc w B a n c zs t) (xs : List Int) (hL : Blk w L 2 (xs.map (Value.int .i64)).toArray) (k : Nat) (hk : xs.length = k) (hk0 : 0 < k) (hk1 : k ≤ 1000) (ht : t ≤ 1000000) :
    Calls Try.prog 52 #[.pointer (some ⟨B, 0, none⟩), .slice (some ⟨L, 0, none⟩) k k] w fun e w' => ∃ r : Int, e = .returned (.int .i64 r) ∧ r ∈ xs ∧ Sc w' B a n c zs (t + 1) ∧ Turn (fun k => k = B) w w' := by
  have HK : Hid (xs.length = k) := hk
  clear hk
  go_enter Try.func52, Try.ntmps52
  go_wp2_with fail
  refine (next_sc h (k : Int) ht (by omega)).mono ?_
  rintro e w1 ⟨r, rfl, hd, hs, htn⟩
  obtain ⟨hr0, hr1, -⟩ := hd
  have hr1 := hr1 (by omega)
  obtain ⟨i, rfl⟩ := Int.eq_ofNat_of_zero_le hr0
  have hi : i < k := by omega
  have hL1 := hL.turn htn (h.blk.other hL (by decide))
  have hc : w1.cell? ⟨L, i, none⟩ = some (.int .i64 (xs[i]'(by have := HK.out; omega))) := by
    rw [hL1.cells i]
    simp [show i < xs.length by have := HK.out; omega]
  have hmem : xs[i]'(by have := HK.out; omega) ∈ xs := List.getElem_mem _
  generalize xs[i]'(by have := HK.out; omega) = x at *
  have HM : Hid (x ∈ xs) := hmem
  clear hmem
  go_wp2
  go_ret
  exact ⟨x, rfl, HM.out, hs, htn⟩

theorem source_any (a : Option Addr) (n c : Nat) (zs : List Int) (w : World) (h : BsAt w a zs) (hn : zs.length = n) (hm : n ≤ 2097152) (ha : ∀ x, zs ≠ [] → a = some x → x.block < w.heap.size) :
    Calls Try.prog 16 #[.slice a n c] w fun e w' => ∃ B, e = .returned (.pointer (some ⟨B, 0, none⟩)) ∧ w.heap.size ≤ B ∧ Sc w' B a n c zs 0 ∧ New w w' := by
  have hw := (New.refl w).alloc (.cells #[.slice a n c, .int .i64 0] 59)
  go_enter Try.func16, Try.ntmps16
  go_wp2
  go_ret
  exact ⟨w.heap.size, rfl, Nat.le_refl _, ⟨Blk.mk w w.heap.size _ _ rfl, h.new hw, hn, hm, fun x hz' hx => by have := ha x hz' hx; omega⟩, hw⟩

end Go.Proofs.Ytljkcijakdhdiaa

namespace Go.Proofs.Ytljkcijakdhdiaa
open Go.RowKit Go.Sort

/-- What a drawing may turn: the source's block alone. -/
theorem Turn.both {B : Nat} {x y z : World} (h : Turn (fun k => k = B) x y) (k : Turn (fun k => k = B) y z) : Turn (fun k => k = B) x z := Turn.trans h k (fun _ _ e => e)
theorem Turn.andNew {S : Nat → Prop} {x y z : World} (h : Turn S x y) (k : New y z) : Turn S x z := Turn.trans h k (fun _ _ e => e.elim)
theorem Turn.andSet {S : Nat → Prop} {x y : World} (h : Turn S x y) (p : Addr) (v : Value) (hp : x.heap.size ≤ p.block) : Turn S x (y.setCell p v) :=
  Turn.trans (T := fun k => k = p.block) h (Turn.set (S := fun k => k = p.block) (Turn.refl _ _) rfl _) (fun i hi e => by omega)

theorem Sc.lt_of {B n c t : Nat} {a : Option Addr} {zs : List Int} {w : World} (h : Sc w B a n c zs t) : ∀ x, zs ≠ [] → a = some x → x.block < w.heap.size := by
  intro x hz hx
  obtain ⟨b, off, e, hlt⟩ := h.bs.block_lt hz
  rw [e] at hx
  obtain rfl := Option.some.inj hx
  exact hlt

theorem Sc.setN {B n c t N : Nat} {a : Option Addr} {zs : List Int} {w : World} (h : Sc w B a n c zs t) (hA : ∀ x, zs ≠ [] → a = some x → x.block < N) (hB : B < N) (p : Addr) (v : Value) (hp : N ≤ p.block) : Sc (w.setCell p v) B a n c zs t :=
  h.turn (S := fun k => k = p.block) (Turn.set (S := fun k => k = p.block) (Turn.refl _ _) rfl _) (by omega) (fun x hz hx e => by have := hA x hz hx; omega)

set_option maxHeartbeats 1600000 in
theorem l2Prefix_sc {B n c t : Nat} {a : Option Addr} {zs : List Int} {w : World} (h : Sc w B a n c zs t) (ht : t ≤ 100000) :
    Calls Try.prog 70 #[.pointer (some ⟨B, 0, none⟩)] w fun e w' => ∃ (x l : Int) (t' : Nat), e = .returned (.agg #[.int .i64 x, .int .i64 l]) ∧ pf x l = 0 ∧ t' ≤ t + 10 ∧ Sc w' B a n c zs t' ∧ Turn (fun k => k = B) w w' := by
  have hlt := h.blk.lt
  have hw0 := (New.refl w).alloc (.cells #[.int .i64 0, .int .i64 0] 88)
  have hR : Blk (w.alloc (.cells #[.int .i64 0, .int .i64 0] 88)) w.heap.size 88 #[.int .i64 0, .int .i64 0] := Blk.mk _ _ _ _ rfl
  have hRB : ¬ w.heap.size = B := by omega
  have hge := Nat.le_refl w.heap.size
  have hA := h.lt_of
  go_enter Try.func70, Try.ntmps70
  go_wp2_with fail
  refine (next_sc (h.new hw0) 17 (by omega) (by omega)).mono ?_
  rintro e w1 ⟨r1, rfl, hd1, hs1, ht1⟩
  have t1 : Turn (fun k => k = B) w w1 := Turn.trans hw0.turn ht1 (fun _ _ e => e)
  have hR1 := hR.turn ht1 hRB
  go_wp2_with fail
  have hbl := Blk.mk w1 w1.heap.size 2 #[.int .i64 8, .int .i64 4, .int .i64 12, .int .i64 16, .int .i64 0, .int .i64 r1] rfl
  have hal := (New.refl w1).alloc (.cells #[.int .i64 8, .int .i64 4, .int .i64 12, .int .i64 16, .int .i64 0, .int .i64 r1] 2)
  refine (pick_sc (hs1.new hal) [8, 4, 12, 16, 0, r1] hbl 6 rfl (by omega) (by omega) (by omega)).mono ?_
  rintro e w2 ⟨l, rfl, hx, hs2, ht2⟩
  have hl : 0 ≤ l ∧ l ≤ 16 := by
    obtain ⟨p1, p2, -⟩ := hd1
    have p2 := p2 (by omega)
    simp only [List.mem_cons, List.not_mem_nil, or_false] at hx
    rcases hx with rfl | rfl | rfl | rfl | rfl | rfl <;> omega
  have t2 : Turn (fun k => k = B) w w2 := (t1.andNew hal).both ht2
  have hR2 := (hR1.new hal).turn ht2 hRB
  clear hbl hal hx ht1 ht2 hd1 hs1 hR1 t1
  go_wp2_with fail
  refine (next_sc hs2 6 (by omega) (by omega)).mono ?_
  rintro e w3 ⟨r3, rfl, hd3, hs3, ht3⟩
  obtain ⟨p3, q3, -⟩ := hd3
  have q3 := q3 (by omega)
  go_wp2_with fail
  refine (next_sc hs3 3 (by omega) (by omega)).mono ?_
  rintro e w4 ⟨r4, rfl, hd4, hs4, ht4⟩
  obtain ⟨p4, q4, -⟩ := hd4
  have q4 := q4 (by omega)
  have t4 : Turn (fun k => k = B) w w4 := (t2.both ht3).both ht4
  have hR4 := (hR2.turn ht3 hRB).turn ht4 hRB
  clear ht3 ht4 hs3 t2 hR2
  have hv0 : 0 ≤ r3 * 2560 + r4 * 16 := by omega
  have hv1 : r3 * 2560 + r4 * 16 ≤ 65535 := by omega
  have hlow := bits_high64 hv0 hv1 hl.1 hl.2
  go_wp2_with fail
  refine (l2Rest_any l _ hl.1 hl.2).mono ?_
  rintro e w5 ⟨rfl, rfl⟩
  have hb := szp_bd hl.1 hl.2
  have hpf : Hid (pf (r3 * 2560 + r4 * 16 - (r3 * 2560 + r4 * 16) % szp l) l = 0) := by
    generalize r3 * 2560 + r4 * 16 = v at *
    have hm0 := Int.emod_nonneg v (show szp l ≠ 0 by omega)
    have h3 := Int.mul_ediv_add_emod v (szp l)
    have h4 : 0 ≤ szp l * (v / szp l) := Int.mul_nonneg (by omega) (Int.ediv_nonneg hv0 (by omega))
    have e : (v - v % szp l) % szp l = 0 := by
      rw [show v - v % szp l = szp l * (v / szp l) by omega]
      exact Int.mul_emod_right _ _
    unfold Hid pf
    rw [if_neg (by omega), if_neg (by omega)]
  have hcs := hR4.cells
  have hfs := hR4.frees
  go_wp2
  refine bodyPost_ret (v := .agg #[.int .i64 (r3 * 2560 + r4 * 16 - (r3 * 2560 + r4 * 16) % szp l), .int .i64 l]) (by simp [results, Try.results70, go_sem, hcs]) rfl ⟨_, _, t + 1 + 1 + 1 + 1, rfl, hpf.out, ?_, ?_, ?_⟩
  · omega
  · exact (hs4.setN hA hlt _ _ hge).setN hA hlt _ _ hge
  · exact Turn.andSet (Turn.andSet t4 _ _ hge) _ _ hge

end Go.Proofs.Ytljkcijakdhdiaa

namespace Go.Proofs.Ytljkcijakdhdiaa
open Go.RowKit Go.Sort
set_option linter.unusedVariables false

/-- The block g is a row of bytes that a call has made. -/
def Row8 (w : World) (g n c : Nat) (ys : List Int) : Prop := w.ownsRow 0 5 1 (.slice (some ⟨g, 0, none⟩) n c) n (ys.map (Value.int .u8))
theorem Row8.len {w : World} {g n c : Nat} {ys : List Int} (h : Row8 w g n c ys) : ys.length = n := by simpa using h.1
theorem Row8.lt {w : World} {g n c : Nat} {ys : List Int} (h : Row8 w g n c ys) : g < w.heap.size := (World.ownsRow.lt h g rfl).2
theorem Row8.turn {w w' : World} {g n c : Nat} {ys : List Int} {S : Nat → Prop} (h : Row8 w g n c ys) (t : Turn S w w') (hS : ¬ S g) : Row8 w' g n c ys := own_turn h t hS
theorem Row8.new {w w' : World} {g n c : Nat} {ys : List Int} (h : Row8 w g n c ys) (t : New w w') : Row8 w' g n c ys := own_new h t

/-- The bytes of prefixes. -/
def pxB (ps : List (Int × Int)) : List Int := ps.flatMap fun p => [p.1 / 256, p.1 % 256, p.2]
theorem pxB_snoc (ps : List (Int × Int)) (x y : Int) : pxB (ps ++ [(x, y)]) = pxB ps ++ [x / 256, x % 256, y] := by simp [pxB]
theorem pxB_len : ∀ ps : List (Int × Int), (pxB ps).length = ps.length * 3
  | [] => rfl
  | p :: r => by
    have := pxB_len r
    simp only [pxB, List.flatMap_cons, List.length_append, List.length_cons, List.length_nil] at this ⊢
    omega
/-- The bytes of numbers, two each. -/
def nsB (xs : List Int) : List Int := xs.flatMap fun x => [x / 256, x % 256]
theorem nsB_snoc (xs : List Int) (x : Int) : nsB (xs ++ [x]) = nsB xs ++ [x / 256, x % 256] := by simp [nsB]
theorem nsB_len : ∀ xs : List Int, (nsB xs).length = xs.length * 2
  | [] => rfl
  | p :: r => by
    have := nsB_len r
    simp only [nsB, List.flatMap_cons, List.length_append, List.length_cons, List.length_nil] at this ⊢
    omega

theorem takeP_snoc {ps : List (Int × Int)} {k : Nat} {p : Int × Int} (h : ps[k]? = some p) : ps.take (k + 1) = ps.take k ++ [p] := by
  obtain ⟨hk, rfl⟩ := List.getElem?_eq_some_iff.1 h
  exact List.take_succ_eq_append_getElem hk

end Go.Proofs.Ytljkcijakdhdiaa
