/- Lemmas and contracts of one law. -/
import Derived.Test.YtebkdaddndlmoaaGreatLP13
import Derived.Test.YtebkdaddndlmoaaGreatLP14
import Derived.Test.YtebkdaddndlmoaaGreatLP15
import Derived.WalkKit
import Derived.Laws.BitsAllLaws
import Derived.Test.YtebkdaddndlmoaaGreatLP1
import Derived.Test.YtebkdaddndlmoaaGreatLP2
import Derived.Deep.RegionWith
import Derived.Test.YtebkdaddndlmoaaGreatLP3
namespace Go.Proofs.YtebkdaddndlmoaaGreat
open Go.ChangeShapes Go.WideShapes Go.ChangeAt Go.RowKit Go.Deep Go.Sort
set_option linter.unusedVariables false
set_option linter.unusedSimpArgs false
set_option maxHeartbeats 25600000

/-- The logs of the nodes lie in stretches of their own. -/
def ApN (w : World) (lo : Nat) (P Q : Nat → Nat) (V : List NdV) : Prop :=
  (∀ (i : Nat) (v : NdV), V[i]? = some v → OwL w (P i) (Q i) (.slice v.A v.V.length v.c) v.V ∧ totK v.V ≤ 1048576 ∧ lo ≤ P i ∧ Q i ≤ w.heap.size) ∧ ∀ i j, i < V.length → j < V.length → i ≠ j → Q i ≤ P j ∨ Q j ≤ P i
theorem ApN.turn {w w' : World} {lo : Nat} {P Q : Nat → Nat} {V : List NdV} {S : Nat → Prop} (h : ApN w lo P Q V) (t : Turn S w w') (hS : ∀ k, lo ≤ k → k < w.heap.size → ¬ S k) : ApN w' lo P Q V := by
  refine ⟨fun i v hv => ?_, h.2⟩
  obtain ⟨h1, h2, h3, h4⟩ := h.1 i v hv
  have := t.size
  exact ⟨h1.turn t (fun k a b => hS k (by omega) (by omega)), h2, h3, by omega⟩
theorem ApN.new {w w' : World} {lo : Nat} {P Q : Nat → Nat} {V : List NdV} (h : ApN w lo P Q V) (t : New w w') : ApN w' lo P Q V := h.turn t (fun _ _ _ f => f)
theorem ApN.snoc {w : World} {lo l : Nat} {P Q : Nat → Nat} {V : List NdV} (h : ApN w lo P Q V) (v : NdV) (ho : OwL w l w.heap.size (.slice v.A v.V.length v.c) v.V) (ht : totK v.V ≤ 1048576) (hl : lo ≤ l) (hh : ∀ i, i < V.length → Q i ≤ l) : ApN w lo (fun i => if i = V.length then l else P i) (fun i => if i = V.length then w.heap.size else Q i) (V ++ [v]) := by
  refine ⟨fun i u hu => ?_, fun i j hi hj hne => ?_⟩ <;> dsimp only
  · rw [List.getElem?_append] at hu
    split at hu
    · rename_i hlt
      rw [if_neg (show ¬ i = V.length by omega), if_neg (show ¬ i = V.length by omega)]
      exact h.1 i u hu
    · have : i - V.length = 0 := by
        rcases Nat.eq_zero_or_pos (i - V.length) with e | e
        · exact e
        · rw [List.getElem?_eq_none (by simp; omega)] at hu; cases hu
      rw [this] at hu
      simp at hu
      subst hu
      rw [if_pos (show i = V.length by omega), if_pos (show i = V.length by omega)]
      exact ⟨ho, ht, hl, Nat.le_refl _⟩
  · simp at hi hj
    by_cases e1 : i = V.length
    · rw [if_pos e1, if_pos e1, if_neg (show ¬ j = V.length by omega), if_neg (show ¬ j = V.length by omega)]
      have := hh j (by omega)
      exact .inr this
    · by_cases e2 : j = V.length
      · rw [if_neg e1, if_neg e1, if_pos e2, if_pos e2]
        have := hh i (by omega)
        exact .inl this
      · rw [if_neg e1, if_neg e1, if_neg e2, if_neg e2]
        exact h.2 i j (by omega) (by omega) hne

theorem toNdS_own (A : Option Addr) (n c : Nat) (V : List NdV) (w : World) (h : NdCame w A V) (hn : V.length = n) (hm : totNd V ≤ 1048576) :
    Calls Tryz.prog 48 #[.slice A n c] w fun e w' => ∃ g V' P Q, e = .returned (.slice (some ⟨g, 0, none⟩) n n) ∧ V'.map NdV.r = V.map NdV.r ∧ RwNd w' g n n V' ∧ w.heap.size = g ∧ ApN w' (w.heap.size + 1) P Q V' ∧ New w w' := by
  have HN : Hid (V.length = n) := hn
  have hn1 : n ≤ 1048576 := by have := totNd_len V; omega
  have HM : Hid (∀ v ∈ V, v.tot ≤ 1048576) := fun v hv => Nat.le_trans (totNd_mem V v hv) hm
  clear hn hm
  obtain ⟨i0, hi, hz0, hz1, hz2⟩ := info_parts Tryz.infoNd
  go_enter Tryz.func48, Tryz.ntmps48
  go_wp2_with (at_make; refine wpList_make_full _ rfl _ _ 39 rfl w.heap.size 108 i0 (.agg #[.int .i64 0, .bool false, .int .i64 0, .int .i64 0, .slice none 0 0, .int .i64 0, .int .i64 0, .int .i64 0, .int .i64 0]) 9 Tryz.underlying39 hi hz0 hz1 _ _ _ _ n rfl rfl rfl rfl ?b2 ?b3 (Nat.le_refl _) ?_)
  case b2 => rw [hz2]; omega
  case b3 => unfold maxLen; omega
  intro w0 hown0 hgrow0
  have hown : RwNd w0 w.heap.size n n ([] ++ List.replicate (n - 0) zNd) := by
    have := own_base hown0
    have e8 := madeNd n
    simp only [RwNd, List.nil_append, Nat.sub_zero]
    rw [← e8]
    exact this
  have hnew := New.of_grown hgrow0
  clear hown0 hgrow0
  go_wp2
  go_loopw [4] (fun i wr => ∃ (k : Nat) (V' : List NdV) (P Q : Nat → Nat), k ≤ n ∧ i = .int .i64 k ∧ V'.length = k ∧ V'.map NdV.r = (V.take k).map NdV.r ∧ New w wr ∧ RwNd wr w.heap.size n n (V' ++ List.replicate (n - k) zNd) ∧ ApN wr (w.heap.size + 1) P Q V') (fun i _ => n - (intOf i).toNat)
  case atStart => exact ⟨0, [], id, id, Nat.zero_le _, rfl, rfl, rfl, hnew, hown, ⟨fun i v hv => by simp at hv, fun i j hi => by simp at hi⟩⟩
  case round =>
    obtain ⟨k, V', P, Q, hk, rfl, hl', hmap, hnw, how, hpa⟩ := hrel
    have HL' : Hid (V'.length = k) := hl'
    clear hl'
    by_cases hlt : k < n
    · obtain ⟨b, off, id, up, ro, ep, su, ma, ot, co, x, m, d, xs, rfl, hv, hlen, hns, hmx, q0, q1, q2, q3, q4, q5, q6, q7, q8⟩ := (h.new hnw).at k (by have := HN.out; omega)
      have HL : Hid (xs.length = m) := hlen
      clear hlen
      have hmm := HM.out _ (List.mem_of_getElem? hv)
      simp only [NdV.tot] at hmm
      have HMp : Hid (∀ u : NdV, u.r = NdV.r ⟨id, up, ro, ep, su, ma, ot, co, x, d, xs⟩ → (V' ++ [u]).map NdV.r = (V.take (k + 1)).map NdV.r) := by
        intro u hu
        obtain ⟨hk', e⟩ := List.getElem?_eq_some_iff.1 hv
        rw [List.take_succ_eq_append_getElem hk', e, List.map_append, List.map_append, hmap]
        simp [hu]
      have hgl : w.heap.size < wr.heap.size := how.lt
      clear hv hmap
      go_wp2_with fail
      refine (toNd_any id up ro ep su ma ot co x m d xs _ hns HL.out hmm).mono ?_
      rintro e w1 ⟨g, xs2, rfl, hxs, ho, hn1'⟩
      have how1 := how.new hn1'
      have hl2 : xs2.length = m := by have h1 := congrArg List.length hxs; simp at h1; have := HL.out; omega
      have HL2 : Hid (xs2.length = m) := hl2
      have hput := how1.put k (NdV.mk id up ro ep su ma ot co (some (Addr.mk g 0 none)) m xs2)
      rw [set_fillNd V' k n HL'.out hlt] at hput
      simp only [HL2.out] at hput
      have HPU : Hid _ := hput
      have hn2 := hnw.trans hn1'
      have HPA : Hid (ApN w1 (w.heap.size + 1) (fun i => if i = V'.length then wr.heap.size else P i) (fun i => if i = V'.length then w1.heap.size else Q i) (V' ++ [(NdV.mk id up ro ep su ma ot co (some (Addr.mk g 0 none)) m xs2)])) := by
        refine (hpa.new hn1').snoc (NdV.mk id up ro ep su ma ot co (some (Addr.mk g 0 none)) m xs2) ?_ ?_ (by omega) ?_
        · simp only [HL2.out]
          exact ho
        · show totK xs2 ≤ 1048576
          rw [totK_map _ _ hxs]; exact hmm
        · intro i hi
          obtain ⟨v, hv⟩ : ∃ v, V'[i]? = some v := ⟨_, List.getElem?_eq_getElem hi⟩
          exact (hpa.1 i v hv).2.2.2
      have HR : Hid (NdV.r (NdV.mk id up ro ep su ma ot co (some (Addr.mk g 0 none)) m xs2) = NdV.r ⟨id, up, ro, ep, su, ma, ot, co, x, d, xs⟩) := by
        unfold Hid
        simp only [NdV.r, hxs]
      have f0 := fun j => World.ownsRow.frozenAt how1 j
      obtain ⟨v0, c0⟩ := how1.cell (k * 9) (by omega)
      obtain ⟨v1, c1⟩ := how1.cell (k * 9 + 1) (by omega)
      obtain ⟨v2, c2⟩ := how1.cell (k * 9 + 2) (by omega)
      obtain ⟨v3, c3⟩ := how1.cell (k * 9 + 3) (by omega)
      obtain ⟨v4, c4⟩ := how1.cell (k * 9 + 4) (by omega)
      obtain ⟨v5, c5⟩ := how1.cell (k * 9 + 5) (by omega)
      obtain ⟨v6, c6⟩ := how1.cell (k * 9 + 6) (by omega)
      obtain ⟨v7, c7⟩ := how1.cell (k * 9 + 7) (by omega)
      obtain ⟨v8, c8⟩ := how1.cell (k * 9 + 8) (by omega)
      clear h how how1 q0 q1 q2 q3 q4 q5 q6 q7 q8 hnw hpa hput hns ho hl2
      go_wp2
      go_roundw
      case rel =>
        have tt : Turn (fun j => j = w.heap.size) w1 (((((((((w1.setCell ⟨w.heap.size, k * 9, none⟩ (.int .i64 id)).setCell ⟨w.heap.size, k * 9 + 1, none⟩ (.bool up)).setCell ⟨w.heap.size, k * 9 + 2, none⟩ (.int .i64 ro)).setCell ⟨w.heap.size, k * 9 + 3, none⟩ (.int .i64 ep)).setCell ⟨w.heap.size, k * 9 + 4, none⟩ (.slice (some ⟨g, 0, none⟩) m m)).setCell ⟨w.heap.size, k * 9 + 5, none⟩ (.int .i64 su)).setCell ⟨w.heap.size, k * 9 + 6, none⟩ (.int .i64 ma)).setCell ⟨w.heap.size, k * 9 + 7, none⟩ (.int .i64 ot)).setCell ⟨w.heap.size, k * 9 + 8, none⟩ (.int .i64 co)) := setNdk w1 w.heap.size (k * 9) _ _ _ _ _ _ _ _ _
        refine ⟨k + 1, V' ++ [(NdV.mk id up ro ep su ma ot co (some (Addr.mk g 0 none)) m xs2)], (fun i => if i = V'.length then wr.heap.size else P i), (fun i => if i = V'.length then w1.heap.size else Q i), by omega, by go_num, by simp [HL'.out], HMp.out _ HR.out, ?_, HPU.out, ?_⟩
        · exact hn2.before tt (by intro i hi e; omega)
        · exact HPA.out.turn tt (by intro j h1 h2 e; omega)
      case measure => simp [intOf]; omega
    · go_wp2
      go_ret
      have hkn : k = n := by omega
      subst hkn
      rw [List.take_of_length_le (by have := HN.out; omega)] at hmap
      simp only [Nat.sub_self, List.replicate_zero, List.append_nil] at how
      exact ⟨_, V', P, Q, rfl, hmap, how, rfl, hpa, hnw⟩

theorem ApN.own {w : World} {lo hi g n c : Nat} {P Q : Nat → Nat} {V : List NdV} (h : ApN w lo P Q V) (hr : w.ownsRow 0 108 9 (.slice (some ⟨g, 0, none⟩) n c) n (cellsNd V)) (hg : g < lo) (hh : w.heap.size ≤ hi) : OwN1 w (fun x => g ≤ x ∧ x < hi) g n c P Q V := by
  refine ⟨hr, fun i u hu => (h.1 i u hu).1, fun u hu => ?_, fun i hi' => ?_, ?_, h.2⟩
  · obtain ⟨i, hi'⟩ := List.getElem?_of_mem hu
    exact (h.1 i u hi').2.1
  · obtain ⟨h1, h2, h3, h4⟩ := h.1 i _ (List.getElem?_eq_getElem hi')
    exact ⟨fun x a b => ⟨by omega, by omega⟩, by omega⟩
  · have := (World.ownsRow.lt hr g rfl).2
    exact ⟨by omega, by omega⟩


/-- What belongs to the wires lies in blocks of its own. -/
def ApW (w : World) (lo : Nat) (V : List WiV) : Prop :=
  (∀ (i : Nat) (v : WiV), V[i]? = some v → (OwAt w v.a v.xs.length v.c v.xs ∧ OwAt w v.b v.ys.length v.d v.ys) ∧ (v.xs.length ≤ 1048576 ∧ v.ys.length ≤ 1048576) ∧ (∀ x, (v.a = some x ∨ v.b = some x) → lo ≤ x.block ∧ x.block < w.heap.size) ∧ (∀ x y, v.a = some x → v.b = some y → ¬ x.block = y.block)) ∧ ∀ (i j : Nat) (u v : WiV) (x y : Addr), V[i]? = some u → V[j]? = some v → i ≠ j → (u.a = some x ∨ u.b = some x) → (v.a = some y ∨ v.b = some y) → ¬ x.block = y.block
theorem ApW.turn {w w' : World} {lo : Nat} {V : List WiV} {S : Nat → Prop} (h : ApW w lo V) (t : Turn S w w') (hS : ∀ k, lo ≤ k → k < w.heap.size → ¬ S k) : ApW w' lo V := by
  refine ⟨fun i v hv => ?_, h.2⟩
  obtain ⟨h1, h2, h3, h4⟩ := h.1 i v hv
  have hs := t.size
  refine ⟨⟨h1.1.turn t (fun x hx => hS _ (h3 x (.inl hx)).1 (h3 x (.inl hx)).2), h1.2.turn t (fun x hx => hS _ (h3 x (.inr hx)).1 (h3 x (.inr hx)).2)⟩, h2, fun x hx => ⟨(h3 x hx).1, Nat.lt_of_lt_of_le (h3 x hx).2 hs⟩, h4⟩
theorem ApW.new {w w' : World} {lo : Nat} {V : List WiV} (h : ApW w lo V) (t : New w w') : ApW w' lo V := h.turn t (fun _ _ _ f => f)
theorem ApW.snoc {w : World} {lo l : Nat} {V : List WiV} (h : ApW w lo V) (v : WiV) (ho : OwAt w v.a v.xs.length v.c v.xs ∧ OwAt w v.b v.ys.length v.d v.ys) (hb : v.xs.length ≤ 1048576 ∧ v.ys.length ≤ 1048576) (hr : ∀ x, (v.a = some x ∨ v.b = some x) → l ≤ x.block ∧ x.block < w.heap.size) (hs : ∀ x y, v.a = some x → v.b = some y → ¬ x.block = y.block) (hl : lo ≤ l) (hh : ∀ u ∈ V, ∀ x, (u.a = some x ∨ u.b = some x) → x.block < l) : ApW w lo (V ++ [v]) := by
  have key : ∀ (i : Nat) (u : WiV), (V ++ [v])[i]? = some u → (V[i]? = some u) ∨ (i = V.length ∧ u = v) := by
    intro i u hu
    rw [List.getElem?_append] at hu
    split at hu
    · exact .inl hu
    · right
      have : i - V.length = 0 := by
        rcases Nat.eq_zero_or_pos (i - V.length) with e | e
        · exact e
        · rw [List.getElem?_eq_none (by simp; omega)] at hu; cases hu
      rw [this] at hu
      simp at hu
      exact ⟨by omega, hu.symm⟩
  refine ⟨fun i u hu => ?_, fun i j u q x y hi hj hne hx hy => ?_⟩
  · rcases key i u hu with h1 | ⟨-, rfl⟩
    · exact h.1 i u h1
    · exact ⟨ho, hb, fun x hx => ⟨Nat.le_trans hl (hr x hx).1, (hr x hx).2⟩, hs⟩
  · rcases key i u hi with h1 | ⟨h1, rfl⟩
    · rcases key j q hj with h2 | ⟨h2, rfl⟩
      · exact h.2 i j u q x y h1 h2 hne hx hy
      · have := hh u (List.mem_of_getElem? h1) x hx; have := (hr y hy).1; omega
    · rcases key j q hj with h2 | ⟨h2, rfl⟩
      · have := hh q (List.mem_of_getElem? h2) y hy; have := (hr x hx).1; omega
      · omega

theorem ApW.own {w : World} {lo hi g n c : Nat} {V : List WiV} (h : ApW w lo V) (hr : w.ownsRow 0 79 4 (.slice (some ⟨g, 0, none⟩) n c) n (cellsWi V)) (hg : g < lo) (hh : w.heap.size ≤ hi) : OwW1 w (fun x => g ≤ x ∧ x < hi) g n c V := by
  have hm : ∀ u ∈ V, ∃ i : Nat, V[i]? = some u := fun u hu => List.getElem?_of_mem hu
  refine ⟨hr, fun i u hu => (h.1 i u hu).1, fun u hu => ?_, fun u hu x hx => ?_, ?_, fun u hu => ?_, h.2⟩
  · obtain ⟨i, hi'⟩ := hm u hu
    exact (h.1 i u hi').2.1
  · obtain ⟨i, hi'⟩ := hm u hu
    have := (h.1 i u hi').2.2.1 x hx
    exact ⟨⟨by omega, by omega⟩, by omega⟩
  · have := (World.ownsRow.lt hr g rfl).2
    exact ⟨by omega, by omega⟩
  · obtain ⟨i, hi'⟩ := hm u hu
    exact (h.1 i u hi').2.2.2


/-- What belongs to the mails lies in blocks of its own. -/
def ApM (w : World) (lo : Nat) (V : List MlV) : Prop :=
  (∀ (i : Nat) (v : MlV), V[i]? = some v → (OwAt w v.a v.m.e.xs.length v.c v.m.e.xs) ∧ (v.m.e.xs.length ≤ 1048576) ∧ (∀ x, v.a = some x → lo ≤ x.block ∧ x.block < w.heap.size)) ∧ ∀ (i j : Nat) (u v : MlV) (x y : Addr), V[i]? = some u → V[j]? = some v → i ≠ j → u.a = some x → v.a = some y → ¬ x.block = y.block
theorem ApM.turn {w w' : World} {lo : Nat} {V : List MlV} {S : Nat → Prop} (h : ApM w lo V) (t : Turn S w w') (hS : ∀ k, lo ≤ k → k < w.heap.size → ¬ S k) : ApM w' lo V := by
  refine ⟨fun i v hv => ?_, h.2⟩
  obtain ⟨h1, h2, h3⟩ := h.1 i v hv
  have hs := t.size
  refine ⟨h1.turn t (fun x hx => hS _ (h3 x hx).1 (h3 x hx).2), h2, fun x hx => ⟨(h3 x hx).1, Nat.lt_of_lt_of_le (h3 x hx).2 hs⟩⟩
theorem ApM.new {w w' : World} {lo : Nat} {V : List MlV} (h : ApM w lo V) (t : New w w') : ApM w' lo V := h.turn t (fun _ _ _ f => f)
theorem ApM.snoc {w : World} {lo l : Nat} {V : List MlV} (h : ApM w lo V) (v : MlV) (ho : OwAt w v.a v.m.e.xs.length v.c v.m.e.xs) (hb : v.m.e.xs.length ≤ 1048576) (hr : ∀ x, v.a = some x → l ≤ x.block ∧ x.block < w.heap.size) (hl : lo ≤ l) (hh : ∀ u ∈ V, ∀ x, u.a = some x → x.block < l) : ApM w lo (V ++ [v]) := by
  have key : ∀ (i : Nat) (u : MlV), (V ++ [v])[i]? = some u → (V[i]? = some u) ∨ (i = V.length ∧ u = v) := by
    intro i u hu
    rw [List.getElem?_append] at hu
    split at hu
    · exact .inl hu
    · right
      have : i - V.length = 0 := by
        rcases Nat.eq_zero_or_pos (i - V.length) with e | e
        · exact e
        · rw [List.getElem?_eq_none (by simp; omega)] at hu; cases hu
      rw [this] at hu
      simp at hu
      exact ⟨by omega, hu.symm⟩
  refine ⟨fun i u hu => ?_, fun i j u q x y hi hj hne hx hy => ?_⟩
  · rcases key i u hu with h1 | ⟨-, rfl⟩
    · exact h.1 i u h1
    · exact ⟨ho, hb, fun x hx => ⟨Nat.le_trans hl (hr x hx).1, (hr x hx).2⟩⟩
  · rcases key i u hi with h1 | ⟨h1, rfl⟩
    · rcases key j q hj with h2 | ⟨h2, rfl⟩
      · exact h.2 i j u q x y h1 h2 hne hx hy
      · have := hh u (List.mem_of_getElem? h1) x hx; have := (hr y hy).1; omega
    · rcases key j q hj with h2 | ⟨h2, rfl⟩
      · have := hh q (List.mem_of_getElem? h2) y hy; have := (hr x hx).1; omega
      · omega

theorem ApM.own {w : World} {lo hi g n c : Nat} {V : List MlV} (h : ApM w lo V) (hr : w.ownsRow 0 137 10 (.slice (some ⟨g, 0, none⟩) n c) n (cellsMq V)) (hg : g < lo) (hh : w.heap.size ≤ hi) : OwQ1 w (fun x => g ≤ x ∧ x < hi) g n c V := by
  have hm : ∀ u ∈ V, ∃ i : Nat, V[i]? = some u := fun u hu => List.getElem?_of_mem hu
  refine ⟨hr, fun i u hu => (h.1 i u hu).1, fun u hu => ?_, fun u hu x hx => ?_, ?_, h.2⟩
  · obtain ⟨i, hi'⟩ := hm u hu
    exact (h.1 i u hi').2.1
  · obtain ⟨i, hi'⟩ := hm u hu
    have := (h.1 i u hi').2.2 x hx
    exact ⟨⟨by omega, by omega⟩, by omega⟩
  · have := (World.ownsRow.lt hr g rfl).2
    exact ⟨by omega, by omega⟩

end Go.Proofs.YtebkdaddndlmoaaGreat

namespace Go.Proofs.YtebkdaddndlmoaaGreat
open Go.RowKit
set_option maxHeartbeats 25600000

/-- How many addresses a prefix of length l has. -/
def szp (l : Int) : Int := 2 ^ (16 - l).toNat

theorem len_cases {l : Int} (h0 : 0 ≤ l) (h1 : l ≤ 16) : ∃ k : Nat, k ≤ 16 ∧ l = 16 - (k : Int) := ⟨(16 - l).toNat, by omega, by omega⟩
theorem szp_nat (k : Nat) (hk : k ≤ 16) : szp (16 - (k : Int)) = ((2 ^ k : Nat) : Int) := by
  unfold szp
  rw [show (16 - (16 - (k : Int))).toNat = k by omega]
  simp
theorem pow_bd (k : Nat) (hk : k ≤ 16) : 1 ≤ 2 ^ k ∧ 2 ^ k ≤ 65536 :=
  ⟨Nat.one_le_two_pow, Nat.pow_le_pow_right (n := 2) (by omega) hk⟩
theorem szp_bd {l : Int} (h0 : 0 ≤ l) (h1 : l ≤ 16) : 1 ≤ szp l ∧ szp l ≤ 65536 := by
  obtain ⟨k, hk, rfl⟩ := len_cases h0 h1
  rw [szp_nat k hk]
  have := pow_bd k hk
  omega

theorem and_low (a k : Nat) : a &&& (2 ^ k - 1) = a % 2 ^ k := Nat.and_two_pow_sub_one_eq_mod a k

/-- impl: the bits behind the mask. -/
theorem bits_low16 {a l : Int} (ha : 0 ≤ a) (ha' : a ≤ 65535) (h0 : 0 ≤ l) (h1 : l ≤ 16) : bits .andNot .u16 a (65536 - szp l) = a % szp l := by
  obtain ⟨k, hk, rfl⟩ := len_cases h0 h1
  obtain ⟨A, rfl⟩ := Int.eq_ofNat_of_zero_le ha
  have hp := pow_bd k hk
  rw [szp_nat k hk, show (65536 - ((2 ^ k : Nat) : Int)) = ((65536 - 2 ^ k : Nat) : Int) by omega, u16_andNot_nat A (65536 - 2 ^ k) (by omega) (by omega), show 65535 - (65536 - 2 ^ k) = 2 ^ k - 1 by omega, and_low]
  simp

theorem wrap_small (n : Nat) (h : n < 65536) : IntKind.i64.wrap (n : Int) = n := by
  simp [IntKind.wrap, IntKind.bits, IntKind.signed]
  omega

theorem i64_ofP (a : Nat) (ha : a < 65536) : (BitVec.ofInt 64 (a : Int)).toNat = a := by
  rw [BitVec.ofInt_natCast, BitVec.toNat_ofNat]; exact Nat.mod_eq_of_lt (by omega)

theorem bits_low64 {a l : Int} (ha : 0 ≤ a) (ha' : a ≤ 65535) (h0 : 0 ≤ l) (h1 : l ≤ 16) : bits .and .i64 a (szp l - 1) = a % szp l := by
  obtain ⟨k, hk, rfl⟩ := len_cases h0 h1
  obtain ⟨A, rfl⟩ := Int.eq_ofNat_of_zero_le ha
  have hp := pow_bd k hk
  have hm := Nat.mod_lt A (show 2 ^ k > 0 by omega)
  rw [szp_nat k hk, show ((2 ^ k : Nat) : Int) - 1 = ((2 ^ k - 1 : Nat) : Int) by omega]
  show IntKind.i64.wrap ((BitVec.ofInt 64 (A : Int) &&& BitVec.ofInt 64 ((2 ^ k - 1 : Nat) : Int)).toNat : Int) = _
  rw [BitVec.toNat_and, i64_ofP A (by omega), i64_ofP _ (by omega), and_low, wrap_small _ (by omega), ← Int.natCast_emod]

/-- The fault of a prefix. -/
def pf (a l : Int) : Int := if a < 0 ∨ 65535 < a ∨ l < 0 ∨ 16 < l then 3 else if a % szp l ≠ 0 then 1 else 0


theorem isAddr_yes (v : Int) (w : World) (h : 0 ≤ v ∧ v ≤ 65535) : Calls Tryz.prog 181 #[.int .i64 v] w fun e w' => e = .returned (.bool true) ∧ w' = w := by
  obtain ⟨h1, h2⟩ := h
  go_enter Tryz.func181, Tryz.ntmps181
  go_wp2
  go_ret
  exact ⟨by simp, rfl⟩

theorem isAddr_no (v : Int) (w : World) (h : v < 0 ∨ 65535 < v) : Calls Tryz.prog 181 #[.int .i64 v] w fun e w' => e = .returned (.bool false) ∧ w' = w := by
  by_cases h1 : 0 ≤ v
  · have h2 : 65535 < v := by omega
    go_enter Tryz.func181, Tryz.ntmps181
    go_wp2
    go_ret
    exact ⟨by simp; omega, rfl⟩
  · go_enter Tryz.func181, Tryz.ntmps181
    go_wp2
    go_ret
    exact ⟨rfl, rfl⟩

theorem mask_small : ∀ k : Nat, k < 17 → 65535 * 2 ^ k % 65536 = 65536 - 2 ^ k := by decide
theorem mask_eq {l : Int} (h0 : 0 ≤ l) (h1 : l ≤ 16) : IntKind.u16.wrap (65535 * 2 ^ (16 - l).toNat) = 65536 - szp l := by
  obtain ⟨k, hk, rfl⟩ := len_cases h0 h1
  have hp := pow_bd k hk
  have hm := mask_small k (by omega)
  rw [szp_nat k hk, IntKind.wrap_u16, show (16 - (16 - (k : Int))).toNat = k by omega]
  have : (65535 * 2 ^ k : Int) = ((65535 * 2 ^ k : Nat) : Int) := by simp
  rw [this]
  omega

theorem maskOf_any (l : Int) (w : World) (h0 : 0 ≤ l) (h1 : l ≤ 16) : Calls Tryz.prog 215 #[.int .i64 l] w fun e w' => e = .returned (.int .u16 (65536 - szp l)) ∧ w' = w := by
  have hm := mask_eq h0 h1
  go_enter Tryz.func215, Tryz.ntmps215
  go_wp2
  go_ret
  exact ⟨rfl, rfl⟩

theorem implPF (a l : Int) (w : World) : Calls Tryz.prog 210 #[.agg #[.int .i64 a, .int .i64 l]] w fun e w' => e = .returned (.int .i64 (pf a l)) ∧ New w w' := by
  by_cases ha : a < 0 ∨ 65535 < a
  · have hf : Hid (pf a l = 3) := by unfold pf Hid; rw [if_pos (by omega)]
    go_enter Tryz.func210, Tryz.ntmps210
    go_wp2_with fail
    refine (isAddr_no _ _ ha).mono ?_
    rintro e w1 ⟨rfl, rfl⟩
    go_wp2
    go_ret
    exact ⟨ret_i64 hf.out.symm, (New.refl _).alloc _⟩
  · have ha0 : 0 ≤ a := by omega
    have ha1 : a ≤ 65535 := by omega
    by_cases hl0 : l < 0
    · have hf : Hid (pf a l = 3) := by unfold pf Hid; rw [if_pos (by omega)]
      go_enter Tryz.func210, Tryz.ntmps210
      go_wp2_with fail
      refine (isAddr_yes _ _ ⟨ha0, ha1⟩).mono ?_
      rintro e w1 ⟨rfl, rfl⟩
      go_wp2
      go_ret
      exact ⟨ret_i64 hf.out.symm, (New.refl _).alloc _⟩
    · by_cases hl1 : 16 < l
      · have hf : Hid (pf a l = 3) := by unfold pf Hid; rw [if_pos (by omega)]
        go_enter Tryz.func210, Tryz.ntmps210
        go_wp2_with fail
        refine (isAddr_yes _ _ ⟨ha0, ha1⟩).mono ?_
        rintro e w1 ⟨rfl, rfl⟩
        go_wp2
        go_ret
        exact ⟨ret_i64 hf.out.symm, (New.refl _).alloc _⟩
      · have hl2 : 0 ≤ l := by omega
        have hl3 : l ≤ 16 := by omega
        have hwa : IntKind.u16.wrap a = a := by rw [IntKind.wrap_u16]; omega
        have hlow := bits_low16 ha0 ha1 hl2 hl3
        by_cases hz : a % szp l = 0
        · have hf : Hid (pf a l = 0) := by unfold pf Hid; rw [if_neg (by omega), if_neg (by omega)]
          go_enter Tryz.func210, Tryz.ntmps210
          go_wp2_with fail
          refine (isAddr_yes _ _ ⟨ha0, ha1⟩).mono ?_
          rintro e w1 ⟨rfl, rfl⟩
          go_wp2_with fail
          go_quiet ((go_at_call 215; exact Calls.quiet_of_same (maskOf_any l _ hl2 hl3)))
          go_wp2
          go_ret
          exact ⟨ret_i64 hf.out.symm, ((New.refl _).alloc _).drewN _⟩
        · have hf : Hid (pf a l = 1) := by unfold pf Hid; rw [if_neg (by omega), if_pos (by omega)]
          go_enter Tryz.func210, Tryz.ntmps210
          go_wp2_with fail
          refine (isAddr_yes _ _ ⟨ha0, ha1⟩).mono ?_
          rintro e w1 ⟨rfl, rfl⟩
          go_wp2_with fail
          go_quiet ((go_at_call 215; exact Calls.quiet_of_same (maskOf_any l _ hl2 hl3)))
          go_wp2
          go_ret
          exact ⟨ret_i64 hf.out.symm, ((New.refl _).alloc _).drewN _⟩

theorem l2Rest_any (l : Int) (w : World) (h0 : 0 ≤ l) (h1 : l ≤ 16) : Calls Tryz.prog 214 #[.int .i64 l] w fun e w' => e = .returned (.int .i64 (szp l - 1)) ∧ w' = w := by
  have hb := szp_bd h0 h1
  have hm : (2 ^ (16 - l).toNat : Int) = szp l := rfl
  go_enter Tryz.func214, Tryz.ntmps214
  go_wp2
  go_ret
  exact ⟨rfl, rfl⟩

theorem l2Addr_yes (v : Int) (w : World) (h : 0 ≤ v ∧ v ≤ 65535) : Calls Tryz.prog 175 #[.int .i64 v] w fun e w' => e = .returned (.bool true) ∧ w' = w := by
  go_enter Tryz.func175, Tryz.ntmps175
  go_wp2_with fail
  refine (in_yes _ _ _ _ h).mono ?_
  rintro e w1 ⟨rfl, rfl⟩
  go_wp2
  go_ret
  exact ⟨rfl, rfl⟩

theorem l2Addr_no (v : Int) (w : World) (h : v < 0 ∨ 65535 < v) : Calls Tryz.prog 175 #[.int .i64 v] w fun e w' => e = .returned (.bool false) ∧ w' = w := by
  go_enter Tryz.func175, Tryz.ntmps175
  go_wp2_with fail
  refine (in_no _ _ _ _ h).mono ?_
  rintro e w1 ⟨rfl, rfl⟩
  go_wp2
  go_ret
  exact ⟨rfl, rfl⟩

theorem specPF (a l : Int) (w : World) : Calls Tryz.prog 207 #[.agg #[.int .i64 a, .int .i64 l]] w fun e w' => e = .returned (.int .i64 (pf a l)) ∧ New w w' := by
  by_cases ha : a < 0 ∨ 65535 < a
  · have hf : Hid (pf a l = 3) := by unfold pf Hid; rw [if_pos (by omega)]
    go_enter Tryz.func207, Tryz.ntmps207
    go_wp2_with fail
    refine (l2Addr_no _ _ ha).mono ?_
    rintro e w1 ⟨rfl, rfl⟩
    go_wp2
    go_ret
    exact ⟨ret_i64 hf.out.symm, (New.refl _).alloc _⟩
  · have ha0 : 0 ≤ a := by omega
    have ha1 : a ≤ 65535 := by omega
    by_cases hl : l < 0 ∨ 16 < l
    · have hf : Hid (pf a l = 3) := by unfold pf Hid; rw [if_pos (by omega)]
      go_enter Tryz.func207, Tryz.ntmps207
      go_wp2_with fail
      refine (l2Addr_yes _ _ ⟨ha0, ha1⟩).mono ?_
      rintro e w1 ⟨rfl, rfl⟩
      go_wp2_with fail
      refine (in_no _ _ _ _ hl).mono ?_
      rintro e w1 ⟨rfl, rfl⟩
      go_wp2
      go_ret
      exact ⟨ret_i64 hf.out.symm, (New.refl _).alloc _⟩
    · have hl2 : 0 ≤ l := by omega
      have hl3 : l ≤ 16 := by omega
      have hlow := bits_low64 ha0 ha1 hl2 hl3
      by_cases hz : a % szp l = 0
      · have hf : Hid (pf a l = 0) := by unfold pf Hid; rw [if_neg (by omega), if_neg (by omega)]
        go_enter Tryz.func207, Tryz.ntmps207
        go_wp2_with fail
        refine (l2Addr_yes _ _ ⟨ha0, ha1⟩).mono ?_
        rintro e w1 ⟨rfl, rfl⟩
        go_wp2_with fail
        refine (in_yes _ _ _ _ ⟨hl2, hl3⟩).mono ?_
        rintro e w1 ⟨rfl, rfl⟩
        go_wp2_with fail
        go_quiet ((go_at_call 214; exact Calls.quiet_of_same (l2Rest_any l _ hl2 hl3)))
        go_wp2
        go_ret
        exact ⟨ret_i64 hf.out.symm, ((New.refl _).alloc _).drewN _⟩
      · have hf : Hid (pf a l = 1) := by unfold pf Hid; rw [if_neg (by omega), if_pos (by omega)]
        go_enter Tryz.func207, Tryz.ntmps207
        go_wp2_with fail
        refine (l2Addr_yes _ _ ⟨ha0, ha1⟩).mono ?_
        rintro e w1 ⟨rfl, rfl⟩
        go_wp2_with fail
        refine (in_yes _ _ _ _ ⟨hl2, hl3⟩).mono ?_
        rintro e w1 ⟨rfl, rfl⟩
        go_wp2_with fail
        go_quiet ((go_at_call 214; exact Calls.quiet_of_same (l2Rest_any l _ hl2 hl3)))
        go_wp2
        go_ret
        exact ⟨ret_i64 hf.out.symm, ((New.refl _).alloc _).drewN _⟩

end Go.Proofs.YtebkdaddndlmoaaGreat

namespace Go.Proofs.YtebkdaddndlmoaaGreat
open Go.RowKit Go.Sort
set_option maxHeartbeats 25600000

theorem implPF_is (a l c : Int) (w : World) (h : pf a l = c) : Calls Tryz.prog 210 #[.agg #[.int .i64 a, .int .i64 l]] w fun e w' => e = .returned (.int .i64 c) ∧ New w w' := h ▸ implPF a l w
theorem specPF_is (a l c : Int) (w : World) (h : pf a l = c) : Calls Tryz.prog 207 #[.agg #[.int .i64 a, .int .i64 l]] w fun e w' => e = .returned (.int .i64 c) ∧ New w w' := h ▸ specPF a l w

end Go.Proofs.YtebkdaddndlmoaaGreat

namespace Go.Proofs.YtebkdaddndlmoaaGreat
open Go.ChangeShapes Go.WideShapes Go.ChangeAt Go.RowKit
set_option maxHeartbeats 25600000

theorem toPrefix_any (a l : Int) (w : World) : Calls Tryz.prog 179 #[.agg #[.int .i64 a, .int .i64 l]] w fun e w' => e = .returned (.agg #[.int .i64 a, .int .i64 l]) ∧ New w w' := by
  go_enter Tryz.func179, Tryz.ntmps179
  go_wp2
  refine bodyPost_ret (v := .agg #[.int .i64 a, .int .i64 l]) (by simp [results, Tryz.results179, go_sem]) rfl ⟨rfl, ?_⟩
  exact ((((New.refl w).alloc _).alloc _).alloc _)

end Go.Proofs.YtebkdaddndlmoaaGreat

namespace Go.Proofs.YtebkdaddndlmoaaGreat
open Go.RowKit Go.Sort
set_option maxHeartbeats 25600000

/-- A whole number that an int64 holds. -/
def In6 (x : Int) : Prop := -9223372036854775808 ≤ x ∧ x ≤ 9223372036854775807


theorem eqPrefix_any (x y : Int) (w : World) : Calls Tryz.prog 188 #[.agg #[.int .i64 x, .int .i64 y], .agg #[.int .i64 x, .int .i64 y]] w fun e w' => e = .returned (.bool true) ∧ New w w' := by
  have hx : (x != x) = false := by simp
  have hy : (y != y) = false := by simp
  go_enter Tryz.func188, Tryz.ntmps188
  go_wp2
  go_ret
  exact ⟨rfl, ((New.refl _).alloc _).alloc _⟩

end Go.Proofs.YtebkdaddndlmoaaGreat

namespace Go.Proofs.YtebkdaddndlmoaaGreat
open Go.RowKit Go.Sort
set_option linter.unusedVariables false
set_option maxHeartbeats 25600000

/-- The address leads to the numbers xs. -/
def NsAt (w : World) (a : Option Addr) (xs : List Int) : Prop :=
  ∀ i z, xs[i]? = some z → ∃ b off, a = some ⟨b, off, none⟩ ∧ w.cell? ⟨b, off + i, none⟩ = some (.int .i64 z) ∧ In6 z

theorem NsAt.nil (w : World) (a : Option Addr) : NsAt w a [] := by intro i z h; simp at h

theorem NsAt.at {w : World} {a : Option Addr} {xs : List Int} (h : NsAt w a xs) (i : Nat) (hi : i < xs.length) :
    ∃ b off z, a = some ⟨b, off, none⟩ ∧ xs[i]? = some z ∧ w.cell? ⟨b, off + i, none⟩ = some (.int .i64 z) ∧ In6 z := by
  obtain ⟨b, off, h1, h2, h3⟩ := h i _ (List.getElem?_eq_getElem hi)
  exact ⟨b, off, _, h1, List.getElem?_eq_getElem hi, h2, h3⟩

theorem NsAt.bd {w : World} {a : Option Addr} {xs : List Int} (h : NsAt w a xs) : ∀ z ∈ xs, In6 z := by
  intro z hz
  obtain ⟨i, hi, rfl⟩ := List.mem_iff_getElem.1 hz
  obtain ⟨_, _, _, _, h4⟩ := h i _ (List.getElem?_eq_getElem hi)
  exact h4

theorem NsAt.turn {w w' : World} {a : Option Addr} {xs : List Int} {S : Nat → Prop} (h : NsAt w a xs) (t : Turn S w w') (hS : ∀ x, xs ≠ [] → a = some x → ¬ S x.block) : NsAt w' a xs := by
  intro i z hz
  obtain ⟨b, off, ha, hc, hb⟩ := h i z hz
  exact ⟨b, off, ha, (World.cell?_of_block (t.block b (World.block_lt_of_cell? w _ hc) (hS _ (by rintro rfl; simp at hz) ha))).trans hc, hb⟩

theorem NsAt.new {w w' : World} {a : Option Addr} {xs : List Int} (h : NsAt w a xs) (t : New w w') : NsAt w' a xs := h.turn t (fun _ _ _ f => f)

theorem fits_yesA (x : Int) (w : World) (h : 0 ≤ x ∧ x ≤ 65535) : Calls Tryz.prog 212 #[.int .i64 x] w fun e w' => e = .returned (.bool true) ∧ w' = w := by
  obtain ⟨h1, h2⟩ := h
  go_enter Tryz.func212, Tryz.ntmps212
  go_wp2
  go_ret
  exact ⟨by simp, rfl⟩

theorem fits_noA (x : Int) (w : World) (h : x < 0 ∨ 65535 < x) : Calls Tryz.prog 212 #[.int .i64 x] w fun e w' => e = .returned (.bool false) ∧ w' = w := by
  by_cases h1 : 0 ≤ x
  · have h2 : 65535 < x := by omega
    go_enter Tryz.func212, Tryz.ntmps212
    go_wp2
    go_ret
    exact ⟨by simp; omega, rfl⟩
  · go_enter Tryz.func212, Tryz.ntmps212
    go_wp2
    go_ret
    exact ⟨rfl, rfl⟩

theorem word_yes (x : Int) (w : World) (h : 0 ≤ x ∧ x ≤ 65535) : Calls Tryz.prog 208 #[.int .i64 x] w fun e w' => e = .returned (.bool true) ∧ w' = w := by
  go_enter Tryz.func208, Tryz.ntmps208
  go_wp2_with fail
  refine (in_yes _ _ _ _ h).mono ?_
  rintro e w1 ⟨rfl, rfl⟩
  go_wp2
  go_ret
  exact ⟨rfl, rfl⟩

theorem word_no (x : Int) (w : World) (h : x < 0 ∨ 65535 < x) : Calls Tryz.prog 208 #[.int .i64 x] w fun e w' => e = .returned (.bool false) ∧ w' = w := by
  go_enter Tryz.func208, Tryz.ntmps208
  go_wp2_with fail
  refine (in_no _ _ _ _ h).mono ?_
  rintro e w1 ⟨rfl, rfl⟩
  go_wp2
  go_ret
  exact ⟨rfl, rfl⟩

/-- A number that fits two bytes. -/
abbrev Wd (x : Int) : Prop := 0 ≤ x ∧ x ≤ 65535

end Go.Proofs.YtebkdaddndlmoaaGreat
