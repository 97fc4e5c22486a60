/- What is proved here: what the comparing and the marking of lists of entries, and of answers with them, leave, for lists of at most 2097152 entries and bytes. -/
import Derived.Test.YtlkhmnjghdbmoaaGreatDoorE10En
import Derived.Test.YtlkhmnjghdbmoaaGreatDoorE10Av
import Derived.Test.YtlkhmnjghdbmoaaGreatDoorPackLib
import Derived.Lib.QuietBelow
import Derived.Deep.CutRange
import Derived.Test.YtlkhmnjghdbmoaaGreatDoorQB
namespace Go.Proofs.YtlkhmnjghdbmoaaGreatDoor
open Go.RowKit Go.Sort
set_option linter.unusedVariables false
set_option linter.unusedSimpArgs false

/-- An entry. -/
structure Ek where
  ep : Int
  ki : Int
  pe : Int
  xs : List Int
/-- An entry in memory. -/
structure EkV where
  r : Ek
  a : Option Addr
  c : Nat
def EkV.cs (v : EkV) : List Value := [.int .i64 v.r.ep, .int .i64 v.r.ki, .int .i64 v.r.pe, .slice v.a v.r.xs.length v.c]
def cellsK (U : List EkV) : List Value := U.flatMap EkV.cs
theorem cellsK_len : ∀ U : List EkV, (cellsK U).length = U.length * 4
  | [] => rfl
  | x :: U => by
    have := cellsK_len U
    unfold cellsK at this ⊢
    rw [List.flatMap_cons, List.length_append, this]
    simp only [EkV.cs, List.length_cons, List.length_nil]
    omega
theorem cellsK_get : ∀ (U : List EkV) (i : Nat) (u : EkV), U[i]? = some u → ∀ j, j < 4 → (cellsK U)[i * 4 + j]? = u.cs[j]?
  | [], i, u, h, _, _ => by simp at h
  | x :: U, 0, u, h, j, hj => by
    simp at h
    subst h
    unfold cellsK
    rw [List.flatMap_cons, Nat.zero_mul, Nat.zero_add, List.getElem?_append_left (by simpa [EkV.cs] using hj)]
  | x :: U, i + 1, u, h, j, hj => by
    have ih := cellsK_get U i u (by simpa using h) j hj
    unfold cellsK at ih ⊢
    rw [List.flatMap_cons, List.getElem?_append_right (by simp [EkV.cs]; omega)]
    have e : (i + 1) * 4 + j - (EkV.cs x).length = i * 4 + j := by simp [EkV.cs]; omega
    rw [e]
    exact ih
theorem cellsK_set3 : ∀ (U : List EkV) (i : Nat) (u v : EkV), U[i]? = some u → (Value.slice v.a v.r.xs.length v.c) = .slice u.a u.r.xs.length u.c → (((cellsK U).set (i * 4) (.int .i64 v.r.ep)).set (i * 4 + 1) (.int .i64 v.r.ki)).set (i * 4 + 2) (.int .i64 v.r.pe) = cellsK (U.set i v)
  | [], i, u, v, h, _ => by simp at h
  | q :: U, 0, u, v, h, e => by
    simp at h
    subst h
    unfold cellsK
    simp only [List.set_cons_zero, List.flatMap_cons, Nat.zero_mul, Nat.zero_add, EkV.cs, List.cons_append, List.nil_append, List.set_cons_succ, e]
  | q :: U, i + 1, u, v, h, e => by
    have ih := cellsK_set3 U i u v (by simpa using h) e
    unfold cellsK at ih ⊢
    simp only [List.set_cons_succ, List.flatMap_cons]
    rw [← ih]
    have el : (EkV.cs q).length = 4 := rfl
    rw [List.set_append_right _ _ (by rw [el]; omega), List.set_append_right _ _ (by rw [el]; omega), List.set_append_right _ _ (by rw [el]; omega), el]
    rw [show (i + 1) * 4 - 4 = i * 4 by omega, show (i + 1) * 4 + 1 - 4 = i * 4 + 1 by omega, show (i + 1) * 4 + 2 - 4 = i * 4 + 2 by omega]

/-- The entries can be read there. -/
def LgAt (w : World) (A : Option Addr) (U : List EkV) : Prop := ∀ i u, U[i]? = some u → (∃ g, A = some ⟨g, 0, none⟩ ∧ ∀ j, j < 4 → w.cell? ⟨g, i * 4 + j, none⟩ = u.cs[j]?) ∧ BsAt w u.a u.r.xs ∧ u.r.xs.length ≤ 1048576
theorem LgAt.turn {w w' : World} {A : Option Addr} {U : List EkV} {S : Nat → Prop} (h : LgAt w A U) (t : Turn S w w') (hA : ∀ x, U ≠ [] → A = some x → ¬ S x.block) (hU : ∀ u ∈ U, ∀ x, u.r.xs ≠ [] → u.a = some x → ¬ S x.block) : LgAt w' A U := by
  intro i u hu
  obtain ⟨⟨g, hg, hc⟩, hb, hl⟩ := h i u hu
  have hne : U ≠ [] := by rintro rfl; simp at hu
  have h0 : w.cell? ⟨g, i * 4, none⟩ = some (.int .i64 u.r.ep) := hc 0 (by omega)
  exact ⟨⟨g, hg, fun j hj => (World.cell?_of_block (t.block g (World.block_lt_of_cell? w _ h0) (hA _ hne hg))).trans (hc j hj)⟩, hb.turnZ t (fun x hx => hU u (List.mem_of_getElem? hu) x hx), hl⟩
theorem LgAt.new {w w' : World} {A : Option Addr} {U : List EkV} (h : LgAt w A U) (t : New w w') : LgAt w' A U := h.turn t (fun _ _ _ f => f) (fun _ _ _ _ _ f => f)
theorem LgAt.at {w : World} {A : Option Addr} {U : List EkV} (h : LgAt w A U) (i : Nat) (hi : i < U.length) :
    ∃ (g : Nat) (ep ki pe : Int) (a : Option Addr) (n c : Nat) (xs : List Int), A = some ⟨g, 0, none⟩ ∧ U[i]? = some ⟨⟨ep, ki, pe, xs⟩, a, c⟩ ∧ xs.length = n ∧ BsAt w a xs ∧ n ≤ 1048576 ∧ w.cell? ⟨g, i * 4, none⟩ = some (.int .i64 ep) ∧ w.cell? ⟨g, i * 4 + 1, none⟩ = some (.int .i64 ki) ∧ w.cell? ⟨g, i * 4 + 2, none⟩ = some (.int .i64 pe) ∧ w.cell? ⟨g, i * 4 + 3, none⟩ = some (.slice a n c) := by
  obtain ⟨⟨g, hg, hc⟩, hb, hl⟩ := h i _ (List.getElem?_eq_getElem hi)
  exact ⟨g, _, _, _, _, _, _, _, hg, List.getElem?_eq_getElem hi, rfl, hb, hl, hc 0 (by omega), hc 1 (by omega), hc 2 (by omega), hc 3 (by omega)⟩

set_option maxHeartbeats 1600000 in
theorem eqEkS_any (A B : Option Addr) (n c d : Nat) (V U : List EkV) (w : World) (hF : LgAt w A V) (hG : LgAt w B U) (hVU : V.map EkV.r = U.map EkV.r) (hn : V.length = n) (hm : n ≤ 2097152) :
    Calls Tryz.prog 31 #[.slice A n c, .slice B n d] w fun e w' => e = .returned (.bool true) ∧ New w w' := by
  have hnn : ((n : Int) != (n : Int)) = false := by simp
  have HN : Hid (V.length = n) := hn
  have HU : Hid (V.map EkV.r = U.map EkV.r) := hVU
  have HUN : Hid (U.length = n) := by
    have := congrArg List.length hVU
    simp at this
    show U.length = n
    omega
  clear hn hVU
  go_enter Tryz.func31, Tryz.ntmps31
  go_wp2
  go_loopw [5] (fun i wr => ∃ k : Nat, k ≤ n ∧ i = .int .i64 k ∧ New w wr) (fun i _ => n - (intOf i).toNat)
  case atStart => exact ⟨0, Nat.zero_le _, rfl, New.refl _⟩
  case round =>
    obtain ⟨k, hk, rfl, hnw⟩ := hrel
    by_cases hlt : k < n
    · obtain ⟨g1, ep, ki, pe, a, m, c1, xs, rfl, hp1, hl1, hx1, hmx, x0, x1, x2, x3⟩ := (hF.new hnw).at k (by have := HN.out; omega)
      obtain ⟨g2, ep', ki', pe', a', m', c1', xs', rfl, hp2, hl2, hx2, hmx', y0, y1, y2, y3⟩ := (hG.new hnw).at k (by have := HUN.out; omega)
      have hh : (⟨ep, ki, pe, xs⟩ : Ek) = ⟨ep', ki', pe', xs'⟩ := by
        have h1 : (V.map EkV.r)[k]? = some ⟨ep, ki, pe, xs⟩ := by rw [List.getElem?_map, hp1]; rfl
        have h2 : (U.map EkV.r)[k]? = some ⟨ep', ki', pe', xs'⟩ := by rw [List.getElem?_map, hp2]; rfl
        rw [HU.out, h2] at h1
        exact (Option.some.inj h1).symm
      simp only [Ek.mk.injEq] at hh
      obtain ⟨rfl, rfl, rfl, rfl⟩ := hh
      obtain rfl : m = m' := hl1.symm.trans hl2
      have HL : Hid (xs.length = m) := hl1
      clear hp1 hp2 hF hG hl1 hl2
      have X0 := cell_regrown x0
      have X1 := cell_regrown x1
      have X2 := cell_regrown x2
      have X3 := cell_regrown x3
      have Y0 := cell_regrown y0
      have Y1 := cell_regrown y1
      have Y2 := cell_regrown y2
      have Y3 := cell_regrown y3
      go_wp2_with fail
      refine wp_region_quiet_below (by kernel_rfl) (by kernel_rfl) ?_
      repeat (go_big_quiet_step ((go_at_call 63; exact calls_regrown (eqEntry_any ep ki pe a a' m c1 c1' xs _ (hx1.new (new_regrown _ _ _)) (hx2.new (new_regrown _ _ _)) HL.out (by omega)))))
      refine wpQuiet_nil ?_
      rintro w1 hn1
      replace hn1 := new_of_regrown hn1
      go_wp2
      go_roundw
      case rel => exact ⟨k + 1, by omega, by go_num, hnw.trans hn1⟩
      case measure => simp [intOf]; omega
    · go_wp2
      go_ret
      exact ⟨rfl, hnw⟩

/-- An entry, marked from k on; the next mark. -/
def EkV.mkK (k : Int) (v : EkV) : EkV := ⟨⟨k, k + 1, k + 1 + 1, marks (k + 1 + 1 + 1) v.r.xs.length⟩, v.a, v.c⟩
def EkV.nxK (k : Int) (v : EkV) : Int := k + 1 + 1 + 1 + v.r.xs.length
def markK : Int → List EkV → List EkV
  | _, [] => []
  | k, v :: V => v.mkK k :: markK (v.nxK k) V
def endK : Int → List EkV → Int
  | k, [] => k
  | k, v :: V => endK (v.nxK k) V
theorem markK_length (V : List EkV) : ∀ k, (markK k V).length = V.length := by
  induction V with
  | nil => intro k; rfl
  | cons f F ih => intro k; simp [markK, ih]
theorem endK_snoc (V : List EkV) (v : EkV) : ∀ k, endK k (V ++ [v]) = v.nxK (endK k V) := by
  induction V with
  | nil => intro k; rfl
  | cons g F ih => intro k; simp only [List.cons_append, endK]; exact ih _
theorem markK_snoc (V : List EkV) (v : EkV) : ∀ k, markK k (V ++ [v]) = markK k V ++ [v.mkK (endK k V)] := by
  induction V with
  | nil => intro k; rfl
  | cons g F ih => intro k; simp only [List.cons_append, markK, endK, ih]
/-- How much there is to copy of a list. -/
def totK : List EkV → Nat
  | [] => 0
  | v :: V => v.r.xs.length + 1 + totK V
theorem totK_len : ∀ V : List EkV, V.length ≤ totK V
  | [] => Nat.le_refl _
  | v :: V => by have := totK_len V; simp only [totK, List.length_cons]; omega
theorem totK_mem : ∀ (V : List EkV) (v : EkV), v ∈ V → v.r.xs.length ≤ totK V
  | [], v, h => by simp at h
  | u :: V, v, h => by
    simp only [totK]
    rcases List.mem_cons.1 h with rfl | h
    · omega
    · have := totK_mem V v h; omega
theorem totK_take : ∀ (V : List EkV) (j : Nat), totK (V.take j) ≤ totK V
  | [], j => by simp
  | v :: V, 0 => by simp [totK]
  | v :: V, j + 1 => by have := totK_take V j; simp only [List.take_succ_cons, totK]; omega
theorem totK_snoc (V : List EkV) (v : EkV) : totK (V ++ [v]) = totK V + v.r.xs.length + 1 := by
  induction V with
  | nil => simp [totK]
  | cons f F ih => simp only [List.cons_append, totK, ih]; omega
theorem totK_drop {V : List EkV} {i : Nat} {v : EkV} (h : V[i]? = some v) : totK (V.drop i) = v.r.xs.length + 1 + totK (V.drop (i + 1)) := by
  obtain ⟨hk, e⟩ := List.getElem?_eq_some_iff.1 h
  rw [List.drop_eq_getElem_cons hk, e]
  rfl
theorem totK_map : ∀ (V U : List EkV), V.map EkV.r = U.map EkV.r → totK V = totK U
  | [], [], _ => rfl
  | [], u :: U, h => by simp at h
  | v :: V, [], h => by simp at h
  | v :: V, u :: U, h => by
    simp only [List.map_cons, List.cons.injEq] at h
    have := totK_map V U h.2
    simp only [totK, this, h.1]
theorem endK_bd (V : List EkV) : ∀ k, k ≤ endK k V ∧ endK k V ≤ k + 3 * totK V := by
  induction V with
  | nil => intro k; simp [endK, totK]
  | cons f F ih =>
    intro k
    have h2 := ih (f.nxK k)
    simp only [endK, totK]
    unfold EkV.nxK at h2 ⊢
    omega
theorem take_snocK {V : List EkV} {k : Nat} {f : EkV} (h : V[k]? = some f) : V.take (k + 1) = V.take k ++ [f] := by
  obtain ⟨hk, rfl⟩ := List.getElem?_eq_some_iff.1 h
  exact List.take_succ_eq_append_getElem hk
theorem markK_get (V : List EkV) {j : Nat} {f : EkV} (h : V[j]? = some f) (k : Int) : (markK k V)[j]? = some (f.mkK (endK k (V.take j))) := by
  induction V generalizing j k with
  | nil => simp at h
  | cons g F ih =>
    cases j with
    | zero => simp at h; subst h; simp [markK, endK]
    | succ j => simp at h; simp only [markK, List.getElem?_cons_succ, List.take_succ_cons, endK]; exact ih h _
theorem endK_take {V : List EkV} {j : Nat} {f : EkV} (h : V[j]? = some f) (k : Int) : endK k (V.take (j + 1)) = f.nxK (endK k (V.take j)) := by rw [take_snocK h, endK_snoc]
theorem stepK_get {V : List EkV} {j : Nat} {f : EkV} (h : V[j]? = some f) (k : Int) : (markK k (V.take j) ++ V.drop j)[j]? = some f := by
  obtain ⟨hj, rfl⟩ := List.getElem?_eq_some_iff.1 h
  have hl : (markK k (V.take j)).length = j := by rw [markK_length, List.length_take]; omega
  rw [List.getElem?_append_right (by omega), hl, Nat.sub_self, List.getElem?_drop]
  exact h
theorem stepK_set {V : List EkV} {j : Nat} {f : EkV} (h : V[j]? = some f) (k : Int) : (markK k (V.take j) ++ V.drop j).set j (f.mkK (endK k (V.take j))) = markK k (V.take (j + 1)) ++ V.drop (j + 1) := by
  have hf := take_snocK h
  obtain ⟨hj, rfl⟩ := List.getElem?_eq_some_iff.1 h
  have hl : (markK k (V.take j)).length = j := by rw [markK_length, List.length_take]; omega
  rw [hf, markK_snoc, List.set_append_right _ _ (by omega), hl, Nat.sub_self, List.drop_eq_getElem_cons hj, List.set_cons_zero]
  simp

/-- What the marking needs of a list: the row and each entry's bytes, of the call's own, from lo up to hi, each in a block of its own. -/
structure OwK (w : World) (lo hi g n c : Nat) (U : List EkV) : Prop where
  row : w.ownsRow 0 104 4 (.slice (some ⟨g, 0, none⟩) n c) n (cellsK U)
  own : ∀ (i : Nat) (u : EkV), U[i]? = some u → OwAt w u.a u.r.xs.length u.c u.r.xs
  len : ∀ u ∈ U, u.r.xs.length ≤ 1048576
  inn : ∀ u ∈ U, ∀ x, u.a = some x → lo ≤ x.block ∧ x.block < hi ∧ ¬ x.block = g
  glo : lo ≤ g ∧ g < hi
  apart : ∀ (i j : Nat) (u v : EkV) (x y : Addr), U[i]? = some u → U[j]? = some v → i ≠ j → u.a = some x → v.a = some y → ¬ x.block = y.block

theorem row_turnK {w w' : World} {g n c : Nat} {xs : List Value} {S : Nat → Prop} (h : w.ownsRow 0 104 4 (.slice (some ⟨g, 0, none⟩) n c) n xs) (t : Turn S w w') (hS : ¬ S g) : w'.ownsRow 0 104 4 (.slice (some ⟨g, 0, none⟩) n c) n xs := row9_turn h t (by intro k hk; simp [Value.ownBlock] at hk; subst hk; exact hS)
theorem set3k (w : World) (B j : Nat) (v0 v1 v2 : Value) : Turn (fun k => k = B) w (((w.setCell ⟨B, j, none⟩ v0).setCell ⟨B, j + 1, none⟩ v1).setCell ⟨B, j + 2, none⟩ v2) :=
  (((Turn.refl (fun k => k = B) w).set (p := ⟨B, j, none⟩) rfl v0).set (p := ⟨B, j + 1, none⟩) rfl v1).set (p := ⟨B, j + 2, none⟩) rfl v2

end Go.Proofs.YtlkhmnjghdbmoaaGreatDoor
