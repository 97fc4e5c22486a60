/- Lemmas and contracts of one law. -/
import Derived.Test.YtdbnmkffinhdjaaGreatLV12
import Derived.Test.YtdbnmkffinhdjaaGreatLV3
namespace Go.Proofs.YtdbnmkffinhdjaaGreat
open Go.RowKit Go.Sort
set_option linter.unusedVariables false
set_option linter.unusedSimpArgs false
set_option maxRecDepth 100000
set_option maxHeartbeats 25600000

/-- A node that is marked from k on. -/
def NdV.mkN (k : Int) (v : NdV) : NdV := ⟨k, (k + 1) % 3 == 0, k + 1 + 1, k + 1 + 1 + 1, endK (k + 1 + 1 + 1 + 1) v.V, endK (k + 1 + 1 + 1 + 1) v.V + 1, endK (k + 1 + 1 + 1 + 1) v.V + 1 + 1, endK (k + 1 + 1 + 1 + 1) v.V + 1 + 1 + 1, v.A, v.c, markK (k + 1 + 1 + 1 + 1) v.V⟩
def NdV.nxN (k : Int) (v : NdV) : Int := endK (k + 1 + 1 + 1 + 1) v.V + 1 + 1 + 1 + 1
def markN : Int → List NdV → List NdV
  | _, [] => []
  | k, v :: V => v.mkN k :: markN (v.nxN k) V
def endN : Int → List NdV → Int
  | k, [] => k
  | k, v :: V => endN (v.nxN k) V
theorem markN_length (V : List NdV) : ∀ k, (markN k V).length = V.length := by
  induction V with
  | nil => intro k; rfl
  | cons f F ih => intro k; simp [markN, ih]
theorem endN_snoc (V : List NdV) (v : NdV) : ∀ k, endN k (V ++ [v]) = v.nxN (endN k V) := by
  induction V with
  | nil => intro k; rfl
  | cons g F ih => intro k; simp only [List.cons_append, endN]; exact ih _
theorem markN_snoc (V : List NdV) (v : NdV) : ∀ k, markN k (V ++ [v]) = markN k V ++ [v.mkN (endN k V)] := by
  induction V with
  | nil => intro k; rfl
  | cons g F ih => intro k; simp only [List.cons_append, markN, endN, ih]
theorem totNd_take : ∀ (V : List NdV) (j : Nat), totNd (V.take j) ≤ totNd V
  | [], j => by simp
  | v :: V, 0 => by simp [totNd]
  | v :: V, j + 1 => by have := totNd_take V j; simp only [List.take_succ_cons, totNd]; omega
theorem endN_bd (V : List NdV) : ∀ k, k ≤ endN k V ∧ endN k V ≤ k + 8 * totNd V := by
  induction V with
  | nil => intro k; simp [endN, totNd]
  | cons f F ih =>
    intro k
    have h2 := ih (f.nxN k)
    have h3 := endK_bd f.V (k + 1 + 1 + 1 + 1)
    simp only [endN, totNd]
    unfold NdV.nxN at h2 ⊢
    unfold NdV.tot
    omega
theorem markN_get (V : List NdV) {j : Nat} {f : NdV} (h : V[j]? = some f) (k : Int) : (markN k V)[j]? = some (f.mkN (endN k (V.take j))) := by
  induction V generalizing j k with
  | nil => simp at h
  | cons g F ih =>
    cases j with
    | zero => simp at h; subst h; simp [markN, endN]
    | succ j => simp at h; simp only [markN, List.getElem?_cons_succ, List.take_succ_cons, endN]; exact ih h _
theorem endN_take {V : List NdV} {j : Nat} {f : NdV} (h : V[j]? = some f) (k : Int) : endN k (V.take (j + 1)) = f.nxN (endN k (V.take j)) := by rw [take_snocNd h, endN_snoc]
theorem stepN_get {V : List NdV} {j : Nat} {f : NdV} (h : V[j]? = some f) (k : Int) : (markN k (V.take j) ++ V.drop j)[j]? = some f := by
  obtain ⟨hj, rfl⟩ := List.getElem?_eq_some_iff.1 h
  have hl : (markN k (V.take j)).length = j := by rw [markN_length, List.length_take]; omega
  rw [List.getElem?_append_right (by omega), hl, Nat.sub_self, List.getElem?_drop]
  exact h
theorem stepN_set {V : List NdV} {j : Nat} {f : NdV} (h : V[j]? = some f) (k : Int) : (markN k (V.take j) ++ V.drop j).set j (f.mkN (endN k (V.take j))) = markN k (V.take (j + 1)) ++ V.drop (j + 1) := by
  have hf := take_snocNd h
  obtain ⟨hj, rfl⟩ := List.getElem?_eq_some_iff.1 h
  have hl : (markN k (V.take j)).length = j := by rw [markN_length, List.length_take]; omega
  rw [hf, markN_snoc, List.set_append_right _ _ (by omega), hl, Nat.sub_self, List.drop_eq_getElem_cons hj, List.set_cons_zero]
  simp
theorem cellsNd_set8 : ∀ (U : List NdV) (i : Nat) (u v : NdV), U[i]? = some u → (Value.slice v.A v.V.length v.c) = .slice u.A u.V.length u.c → ((((((((cellsNd U).set (i * 9) (.int .i64 v.id)).set (i * 9 + 1) (.bool v.up)).set (i * 9 + 2) (.int .i64 v.ro)).set (i * 9 + 3) (.int .i64 v.ep)).set (i * 9 + 5) (.int .i64 v.su)).set (i * 9 + 6) (.int .i64 v.ma)).set (i * 9 + 7) (.int .i64 v.ot)).set (i * 9 + 8) (.int .i64 v.co) = cellsNd (U.set i v)
  | [], i, u, v, h, _ => by simp at h
  | q :: U, 0, u, v, h, e => by
    simp at h
    subst h
    simp [cellsNd, NdV.cs, ← e]
  | q :: U, i + 1, u, v, h, e => by
    have ih := cellsNd_set8 U i u v (by simpa using h) e
    have e2 : ∀ (q : NdV) (U : List NdV), cellsNd (q :: U) = .int .i64 q.id :: .bool q.up :: .int .i64 q.ro :: .int .i64 q.ep :: .slice q.A q.V.length q.c :: .int .i64 q.su :: .int .i64 q.ma :: .int .i64 q.ot :: .int .i64 q.co :: cellsNd U := fun _ _ => rfl
    rw [show (i + 1) * 9 = i * 9 + 9 by omega, e2, show (q :: U).set (i + 1) v = q :: U.set i v from rfl, e2, ← ih]
    simp only [Nat.add_assoc, Nat.reduceAdd, List.set_cons_succ]

/-- What the marking needs of a list: the row and each node's log, of the call's own, in blocks of F, each log in a stretch of its own. -/
structure OwN1 (w : World) (F : Nat → Prop) (g n c : Nat) (P Q : Nat → Nat) (U : List NdV) : Prop where
  row : w.ownsRow 0 74 9 (.slice (some ⟨g, 0, none⟩) n c) n (cellsNd U)
  own : ∀ (i : Nat) (u : NdV), U[i]? = some u → OwL w (P i) (Q i) (.slice u.A u.V.length u.c) u.V
  tot : ∀ u ∈ U, totK u.V ≤ 1048576
  inn : ∀ i, i < U.length → (∀ x, P i ≤ x → x < Q i → F x) ∧ ¬ (P i ≤ g ∧ g < Q i)
  glo : F g
  apart : ∀ i j, i < U.length → j < U.length → i ≠ j → Q i ≤ P j ∨ Q j ≤ P i
theorem row_turnN {w w' : World} {g n c : Nat} {xs : List Value} {S : Nat → Prop} (h : w.ownsRow 0 74 9 (.slice (some ⟨g, 0, none⟩) n c) n xs) (t : Turn S w w') (hS : ¬ S g) : w'.ownsRow 0 74 9 (.slice (some ⟨g, 0, none⟩) n c) n xs := row9_turn h t (by intro k hk; simp [Value.ownBlock] at hk; subst hk; exact hS)
theorem lg_turnN {w w' : World} {lo hi : Nat} {A : Option Addr} {V : List EkV} {S : Nat → Prop} {k : Int} (h : LgAt w A (markK k V)) (ho : ∀ x, A = some x → lo ≤ x.block ∧ x.block < hi) (hb : ∀ v ∈ V, ∀ x, v.a = some x → lo ≤ x.block ∧ x.block < hi) (t : Turn S w w') (hS : ∀ j, lo ≤ j → j < hi → ¬ S j) : LgAt w' A (markK k V) := by
  refine h.turn t (fun x _ hx => hS _ (ho x hx).1 (ho x hx).2) ?_
  intro u hu x _ hx
  obtain ⟨i, hi⟩ := List.getElem?_of_mem hu
  have hl : i < V.length := by have := (List.getElem?_eq_some_iff.1 hi).1; rw [markK_length] at this; exact this
  have hg := markK_get V (List.getElem?_eq_getElem hl) k
  rw [hi] at hg
  obtain rfl := Option.some.inj hg
  have := hb _ (List.getElem_mem hl) x hx
  exact hS _ this.1 this.2
theorem owl_rng {w : World} {lo hi n c : Nat} {A : Option Addr} {V : List EkV} (h : OwL w lo hi (.slice A n c) V) : (∀ x, A = some x → lo ≤ x.block ∧ x.block < hi) ∧ ∀ v ∈ V, ∀ x, v.a = some x → lo ≤ x.block ∧ x.block < hi := by
  obtain ⟨A', c', e, -, h2⟩ := h.form
  simp only [Value.slice.injEq] at e
  obtain ⟨rfl, rfl, rfl⟩ := e
  rcases h2 with ⟨rfl, rfl, rfl⟩ | ⟨g, rfl, -, h3, h4, -, ho⟩
  · exact ⟨fun x hx => (by cases hx), fun v hv => (by cases hv)⟩
  · exact ⟨fun x hx => (by cases hx; exact ⟨h3, h4⟩), fun v hv x hx => ⟨(ho.inn v hv x hx).1, (ho.inn v hv x hx).2.1⟩⟩

theorem totK_mark : ∀ (V : List EkV) (k : Int), totK (markK k V) = totK V
  | [], k => rfl
  | v :: V, k => by simp only [markK, totK, totK_mark V]; simp [EkV.mkK, marks_length]

theorem markNdS_row (g n c : Nat) (F : Nat → Prop) (P Q : Nat → Nat) (k : Int) (U : List NdV) (w : World) (h : OwN1 w F g n c P Q U) (hn : U.length = n) (hT : totNd U ≤ 2097152) (hm : n ≤ 2097152) (hk0 : 0 ≤ k) (hk : k ≤ 67108864) :
    Calls Tryz.prog 45 #[.slice (some ⟨g, 0, none⟩) n c, .int .i64 k] w fun e w' => e = .returned (.int .i64 (endN k U)) ∧ NdAt w' (some ⟨g, 0, none⟩) (markN k U) ∧ Turn F w w' := by
  have HLn : Hid (U.length = n) := hn
  have HBd : Hid (∀ j, j ≤ n → k ≤ endN k (U.take j) ∧ endN k (U.take j) ≤ k + 16777216) := by
    intro j hj
    have h1 := endN_bd (U.take j) k
    have h2 := totNd_take U j
    omega
  have HTot : Hid _ := h.tot
  have HInn : Hid _ := h.inn
  have HAp : Hid _ := h.apart
  have HGl : Hid (F g) := h.glo
  have HR : Hid (∀ (i : Nat) (u : NdV), U[i]? = some u → (∀ x, u.A = some x → P i ≤ x.block ∧ x.block < Q i) ∧ ∀ v ∈ u.V, ∀ x, v.a = some x → P i ≤ x.block ∧ x.block < Q i) := fun i u hu => owl_rng (h.own i u hu)
  have hrow := h.row
  have hown := h.own
  clear hn h
  go_enter Tryz.func45, Tryz.ntmps45
  go_wp2
  go_loopw [1, 5] (fun s i wr => ∃ j : Nat, j ≤ n ∧ i = .int .i64 j ∧ s = .int .i64 (endN k (U.take j)) ∧ wr.ownsRow 0 74 9 (.slice (some ⟨g, 0, none⟩) n c) n (cellsNd (markN k (U.take j) ++ U.drop j)) ∧
      (∀ (i : Nat) (u : NdV), j ≤ i → U[i]? = some u → OwL wr (P i) (Q i) (.slice u.A u.V.length u.c) u.V) ∧ (∀ (i : Nat) (u : NdV), i < j → U[i]? = some u → LgAt wr u.A (markK (endN k (U.take i) + 1 + 1 + 1 + 1) u.V)) ∧ Turn F w wr) (fun _ i _ => n - (intOf i).toNat)
  case atStart => exact ⟨0, Nat.zero_le _, rfl, rfl, by simpa [markN] using hrow, fun i u _ hu => hown i u hu, fun i u hi => absurd hi (Nat.not_lt_zero i), Turn.refl _ _⟩
  case round =>
    obtain ⟨j, hj, rfl, rfl, hC, hrest, hdone, htn⟩ := hrel
    by_cases hlt : j < n
    · obtain ⟨f, hfj⟩ : ∃ f, U[j]? = some f := ⟨_, List.getElem?_eq_getElem (by have := HLn.out; omega)⟩
      have hCj := stepN_get hfj k
      have he := HBd.out j hj
      have HKC : Hid (∀ u, U[j]? = some u → u = f) := by intro u hu; rw [hfj] at hu; exact (Option.some.inj hu).symm
      have HDone : Hid _ := hdone
      obtain ⟨kc, hkc⟩ : ∃ kc, kc = endN k (U.take j) := ⟨_, rfl⟩
      have HK : Hid (kc = endN k (U.take j)) := hkc
      rw [← hkc] at he ⊢
      have HE2 : Hid (endN k (U.take (j + 1)) = f.nxN kc) := by unfold Hid; rw [hkc]; exact endN_take hfj k
      have HS3 : Hid ((markN k (U.take j) ++ U.drop j).set j (f.mkN kc) = markN k (U.take (j + 1)) ++ U.drop (j + 1)) := by unfold Hid; rw [hkc]; exact stepN_set hfj k
      clear hkc hdone
      generalize markN k (U.take j) ++ U.drop j = CC at *
      have HCj : Hid (CC[j]? = some f) := hCj
      have hCl : (cellsNd CC).length = n * 9 := by have := hC.1; omega
      have hov := hrest j f (Nat.le_refl _) hfj
      have htf := HTot.out f (List.mem_of_getElem? hfj)
      have hif := HInn.out j (by have := HLn.out; omega)
      have hset := cellsNd_set8 CC j f (f.mkN kc) HCj.out (by simp [NdV.mkN, markK_length])
      obtain ⟨E, hE⟩ : ∃ E, Hid (endK (kc + 1 + 1 + 1 + 1) f.V = E) := ⟨_, rfl⟩
      have HSET : Hid ((((((((((cellsNd CC).set (j * 9) (.int .i64 kc)).set (j * 9 + 1) (.bool ((kc + 1) % 3 == 0))).set (j * 9 + 2) (.int .i64 (kc + 1 + 1))).set (j * 9 + 3) (.int .i64 (kc + 1 + 1 + 1))).set (j * 9 + 5) (.int .i64 E)).set (j * 9 + 6) (.int .i64 (E + 1))).set (j * 9 + 7) (.int .i64 (E + 1 + 1))).set (j * 9 + 8) (.int .i64 (E + 1 + 1 + 1))) = cellsNd (CC.set j (f.mkN kc))) := by unfold Hid; rw [← hset]; simp only [NdV.mkN, hE.out]
      have hEb : kc ≤ E ∧ E ≤ kc + 3145732 := by have := endK_bd f.V (kc + 1 + 1 + 1 + 1); rw [hE.out] at this; omega
      have f0 := fun q => World.ownsRow.frozenAt hC q
      obtain ⟨v0, c0⟩ : ∃ v, wr.cell? ⟨g, j * 9, none⟩ = some v := ⟨_, (World.ownsRow.cellAt hC _ (by omega)).trans (List.getElem?_eq_getElem (by (try simp only [List.length_set]); omega))⟩
      obtain ⟨v1, c1⟩ : ∃ v, wr.cell? ⟨g, j * 9 + 1, none⟩ = some v := ⟨_, (World.ownsRow.cellAt hC _ (by omega)).trans (List.getElem?_eq_getElem (by (try simp only [List.length_set]); omega))⟩
      obtain ⟨v2, c2⟩ : ∃ v, wr.cell? ⟨g, j * 9 + 2, none⟩ = some v := ⟨_, (World.ownsRow.cellAt hC _ (by omega)).trans (List.getElem?_eq_getElem (by (try simp only [List.length_set]); omega))⟩
      obtain ⟨v3, c3⟩ : ∃ v, wr.cell? ⟨g, j * 9 + 3, none⟩ = some v := ⟨_, (World.ownsRow.cellAt hC _ (by omega)).trans (List.getElem?_eq_getElem (by (try simp only [List.length_set]); omega))⟩
      have hg1 := (World.ownsRow.stored hC (j * 9) (.int .i64 kc)).1
      have hg2 := (World.ownsRow.stored hg1 (j * 9 + 1) (.bool ((kc + 1) % 3 == 0))).1
      have hg3 := (World.ownsRow.stored hg2 (j * 9 + 2) (.int .i64 (kc + 1 + 1))).1
      have hg4 := (World.ownsRow.stored hg3 (j * 9 + 3) (.int .i64 (kc + 1 + 1 + 1))).1
      have t1 : Turn (fun i => i = g) wr ((((wr.setCell ⟨g, j * 9, none⟩ (.int .i64 kc)).setCell ⟨g, j * 9 + 1, none⟩ (.bool ((kc + 1) % 3 == 0))).setCell ⟨g, j * 9 + 2, none⟩ (.int .i64 (kc + 1 + 1))).setCell ⟨g, j * 9 + 3, none⟩ (.int .i64 (kc + 1 + 1 + 1))) := (((((Turn.refl (fun i => i = g) wr).set (p := ⟨g, j * 9, none⟩) rfl (.int .i64 kc)).set (p := ⟨g, j * 9 + 1, none⟩) rfl (.bool ((kc + 1) % 3 == 0))).set (p := ⟨g, j * 9 + 2, none⟩) rfl (.int .i64 (kc + 1 + 1))).set (p := ⟨g, j * 9 + 3, none⟩) rfl (.int .i64 (kc + 1 + 1 + 1)))
      have hO1 : OwL ((((wr.setCell ⟨g, j * 9, none⟩ (.int .i64 kc)).setCell ⟨g, j * 9 + 1, none⟩ (.bool ((kc + 1) % 3 == 0))).setCell ⟨g, j * 9 + 2, none⟩ (.int .i64 (kc + 1 + 1))).setCell ⟨g, j * 9 + 3, none⟩ (.int .i64 (kc + 1 + 1 + 1))) (P j) (Q j) (.slice f.A f.V.length f.c) f.V := hov.turn t1 (fun q h1 h2 e => hif.2 (by rw [← e]; exact ⟨h1, h2⟩))
      clear hset hCj hov hg1 hg2 hg3
      go_upto_region 12 with fail
      generalize ((((wr.setCell ⟨g, j * 9, none⟩ (.int .i64 kc)).setCell ⟨g, j * 9 + 1, none⟩ (.bool ((kc + 1) % 3 == 0))).setCell ⟨g, j * 9 + 2, none⟩ (.int .i64 (kc + 1 + 1))).setCell ⟨g, j * 9 + 3, none⟩ (.int .i64 (kc + 1 + 1 + 1))) = W1 at *
      clear c0 c1 c2 c3 f0
      have x4 : W1.cell? ⟨g, j * 9 + 4, none⟩ = some (.slice f.A f.V.length f.c) := by
        rw [World.ownsRow.cellAt hg4 (j * 9 + 4) (by omega), List.getElem?_set_ne (by omega), List.getElem?_set_ne (by omega), List.getElem?_set_ne (by omega), List.getElem?_set_ne (by omega)]
        exact cellsNd_get CC j f HCj.out 4 (by omega)
      go_wp2_with fail
      refine (markEkS_B f.A f.V.length f.c (P j) (Q j) (kc + 1 + 1 + 1 + 1) f.V _ hO1 (by omega) (by omega) (by omega)).mono ?_
      rintro e W2 ⟨rfl, hL2, tL⟩
      rw [hE.out]
      clear x4
      have hg5 := row_turnN hg4 tL (fun e => hif.2 e)
      have f2 := fun q => World.ownsRow.frozenAt hg5 q
      obtain ⟨v5, c5⟩ : ∃ v, W2.cell? ⟨g, j * 9 + 5, none⟩ = some v := ⟨_, (World.ownsRow.cellAt hg5 _ (by omega)).trans (List.getElem?_eq_getElem (by (try simp only [List.length_set]); omega))⟩
      obtain ⟨v6, c6⟩ : ∃ v, W2.cell? ⟨g, j * 9 + 6, none⟩ = some v := ⟨_, (World.ownsRow.cellAt hg5 _ (by omega)).trans (List.getElem?_eq_getElem (by (try simp only [List.length_set]); omega))⟩
      obtain ⟨v7, c7⟩ : ∃ v, W2.cell? ⟨g, j * 9 + 7, none⟩ = some v := ⟨_, (World.ownsRow.cellAt hg5 _ (by omega)).trans (List.getElem?_eq_getElem (by (try simp only [List.length_set]); omega))⟩
      obtain ⟨v8, c8⟩ : ∃ v, W2.cell? ⟨g, j * 9 + 8, none⟩ = some v := ⟨_, (World.ownsRow.cellAt hg5 _ (by omega)).trans (List.getElem?_eq_getElem (by (try simp only [List.length_set]); omega))⟩
      have hg6 := (World.ownsRow.stored hg5 (j * 9 + 5) (.int .i64 E)).1
      have hg7 := (World.ownsRow.stored hg6 (j * 9 + 6) (.int .i64 (E + 1))).1
      have hg8 := (World.ownsRow.stored hg7 (j * 9 + 7) (.int .i64 (E + 1 + 1))).1
      have hg9 := (World.ownsRow.stored hg8 (j * 9 + 8) (.int .i64 (E + 1 + 1 + 1))).1
      rw [HSET.out] at hg9
      have t3 : Turn (fun i => i = g) W2 ((((W2.setCell ⟨g, j * 9 + 5, none⟩ (.int .i64 E)).setCell ⟨g, j * 9 + 6, none⟩ (.int .i64 (E + 1))).setCell ⟨g, j * 9 + 7, none⟩ (.int .i64 (E + 1 + 1))).setCell ⟨g, j * 9 + 8, none⟩ (.int .i64 (E + 1 + 1 + 1))) := (((((Turn.refl (fun i => i = g) W2).set (p := ⟨g, j * 9 + 5, none⟩) rfl (.int .i64 E)).set (p := ⟨g, j * 9 + 6, none⟩) rfl (.int .i64 (E + 1))).set (p := ⟨g, j * 9 + 7, none⟩) rfl (.int .i64 (E + 1 + 1))).set (p := ⟨g, j * 9 + 8, none⟩) rfl (.int .i64 (E + 1 + 1 + 1)))
      have HRf := HR.out j f hfj
      have hL3 := lg_turnN hL2 HRf.1 HRf.2 t3 (fun q h1 h2 e => hif.2 (by rw [← e]; exact ⟨h1, h2⟩))
      clear hg4 hg5 hg6 hg7 hg8 hO1 hL2
      go_upto_region 20 with fail
      generalize ((((W2.setCell ⟨g, j * 9 + 5, none⟩ (.int .i64 E)).setCell ⟨g, j * 9 + 6, none⟩ (.int .i64 (E + 1))).setCell ⟨g, j * 9 + 7, none⟩ (.int .i64 (E + 1 + 1))).setCell ⟨g, j * 9 + 8, none⟩ (.int .i64 (E + 1 + 1 + 1))) = W3 at *
      clear c5 c6 c7 c8 f2
      have tt : Turn (fun i => i = g ∨ (P j ≤ i ∧ i < Q j)) wr W3 := by
        have a1 : Turn (fun i => i = g ∨ (P j ≤ i ∧ i < Q j)) wr W1 := Turn.mono t1 (fun i _ e => .inl e)
        have a2 := Turn.trans a1 tL (fun i _ e => .inr e)
        exact Turn.trans a2 t3 (fun i _ e => .inl e)
      have HT : Hid _ := tt
      have HG4 : Hid _ := hg9
      have HL3 : Hid (LgAt W3 f.A (markK (kc + 1 + 1 + 1 + 1) f.V)) := hL3
      have HN : Hid (E + 1 + 1 + 1 + 1 = f.nxN kc) := by unfold Hid NdV.nxN; rw [hE.out]
      clear hg9 hL3 tL t1 t3 tt hC
      go_wp2
      go_roundw
      case rel =>
        refine ⟨j + 1, by omega, by go_num, by rw [HE2.out, ← HN.out], ?_, ?_, ?_, ?_⟩
        · rw [← HS3.out]; exact HG4.out
        · intro i u hi hu
          refine (hrest i u (by omega) hu).turn HT.out ?_
          rintro q h1 h2 (e | ⟨e1, e2⟩)
          · exact (HInn.out i (List.getElem?_eq_some_iff.1 hu).1).2 (by rw [← e]; exact ⟨h1, h2⟩)
          · rcases HAp.out i j (List.getElem?_eq_some_iff.1 hu).1 (by have := HLn.out; omega) (by omega) with h3 | h3 <;> omega
        · intro i u hi hu
          by_cases hij : i = j
          · subst hij
            obtain rfl := HKC.out u hu
            rw [← HK.out]
            exact HL3.out
          · have hr := HR.out i u hu
            refine lg_turnN (HDone.out i u (by omega) hu) hr.1 hr.2 HT.out ?_
            rintro q h1 h2 (e | ⟨e1, e2⟩)
            · exact (HInn.out i (List.getElem?_eq_some_iff.1 hu).1).2 (by rw [← e]; exact ⟨h1, h2⟩)
            · rcases HAp.out i j (List.getElem?_eq_some_iff.1 hu).1 (by have := HLn.out; omega) hij with h3 | h3 <;> omega
        · refine Turn.trans htn HT.out ?_
          rintro i _ (e | ⟨e1, e2⟩)
          · rw [e]; exact HGl.out
          · exact hif.1 _ e1 e2
      case measure => simp [intOf]; omega
    · go_wp2
      go_ret
      obtain rfl : j = n := by omega
      have e1 : U.take j = U := List.take_of_length_le (by rw [HLn.out]; omega)
      have e2 : U.drop j = [] := List.drop_eq_nil_of_le (by rw [HLn.out]; omega)
      rw [e1, e2, List.append_nil] at hC
      rw [e1]
      refine ⟨rfl, ?_, htn⟩
      intro i u hu
      have hi : i < (markN k U).length := (List.getElem?_eq_some_iff.1 hu).1
      rw [markN_length] at hi
      obtain ⟨f, hf⟩ : ∃ f, U[i]? = some f := ⟨_, List.getElem?_eq_getElem hi⟩
      have hm' := markN_get U hf k
      rw [hu] at hm'
      obtain rfl := Option.some.inj hm'
      refine ⟨⟨g, rfl, fun q hq => ?_⟩, hdone i f (by have := HLn.out; omega) hf, ?_⟩
      · rw [World.ownsRow.cellAt hC (i * 9 + q) (by have := HLn.out; omega)]
        exact cellsNd_get _ i _ hu q hq
      · simp only [NdV.mkN]
        rw [totK_mark]
        exact HTot.out f (List.mem_of_getElem? hf)


theorem heldNdS_any (A : Option Addr) (n c : Nat) (k : Int) (U : List NdV) (w : World) (h : NdAt w A (markN k U)) (hn : U.length = n) (hl : ∀ u ∈ U, totK u.V ≤ 1048576 ∧ ∀ v ∈ u.V, v.r.xs.length ≤ 1048576) (hT : totNd U ≤ 2097152) (hm : n ≤ 2097152) (hk0 : 0 ≤ k) (hk : k ≤ 67108864) :
    Calls Tryz.prog 91 #[.slice A n c, .int .i64 k] w fun e w' => e = .returned (.int .i64 (endN k U)) ∧ w' = w := by
  have HLn : Hid (U.length = n) := hn
  have HL : Hid _ := hl
  have HBd : Hid (∀ j, j ≤ n → k ≤ endN k (U.take j) ∧ endN k (U.take j) ≤ k + 16777216) := by
    intro j hj
    have h1 := endN_bd (U.take j) k
    have h2 := totNd_take U j
    omega
  clear hn hl
  go_enter Tryz.func91, Tryz.ntmps91
  go_wp2
  go_loopw [1, 5] (fun s i wr => ∃ j : Nat, j ≤ n ∧ i = .int .i64 j ∧ s = .int .i64 (endN k (U.take j)) ∧ wr = w) (fun _ i _ => n - (intOf i).toNat)
  case atStart => exact ⟨0, Nat.zero_le _, rfl, rfl, rfl⟩
  case round =>
    obtain ⟨j, hj, rfl, rfl, rfl⟩ := hrel
    by_cases hlt : j < n
    · obtain ⟨f, hfj⟩ : ∃ f, U[j]? = some f := ⟨_, List.getElem?_eq_getElem (by have := HLn.out; omega)⟩
      obtain ⟨⟨b, rfl, hcell⟩, hns, -⟩ := h j _ (markN_get U hfj k)
      have he := HBd.out j hj
      have HE : Hid (endN k (U.take (j + 1)) = f.nxN (endN k (U.take j))) := endN_take hfj k
      obtain ⟨hlf, hlb⟩ := HL.out f (List.mem_of_getElem? hfj)
      generalize endN k (U.take j) = kc at *
      obtain ⟨fi, fu, fr, fe, fs, fm, fo, fo2, fA, fc, fV⟩ := f
      obtain ⟨E, hE⟩ : ∃ E, Hid (endK (kc + 1 + 1 + 1 + 1) fV = E) := ⟨_, rfl⟩
      have hEb : kc ≤ E ∧ E ≤ kc + 3145732 := by have := endK_bd fV (kc + 1 + 1 + 1 + 1); rw [hE.out] at this; simp only at hlf; omega
      simp only at hlf hlb
      have x0 : wr.cell? ⟨b, j * 9, none⟩ = some (.int .i64 kc) := hcell 0 (by omega)
      have x1 : wr.cell? ⟨b, j * 9 + 1, none⟩ = some (.bool ((kc + 1) % 3 == 0)) := hcell 1 (by omega)
      have x2 : wr.cell? ⟨b, j * 9 + 2, none⟩ = some (.int .i64 (kc + 1 + 1)) := hcell 2 (by omega)
      have x3 : wr.cell? ⟨b, j * 9 + 3, none⟩ = some (.int .i64 (kc + 1 + 1 + 1)) := hcell 3 (by omega)
      have x4 : wr.cell? ⟨b, j * 9 + 4, none⟩ = some (.slice fA fV.length fc) := by
        have := hcell 4 (by omega)
        simp only [NdV.mkN, NdV.cs, markK_length] at this
        exact this
      have x5 : wr.cell? ⟨b, j * 9 + 5, none⟩ = some (.int .i64 E) := by rw [← hE.out]; exact hcell 5 (by omega)
      have x6 : wr.cell? ⟨b, j * 9 + 6, none⟩ = some (.int .i64 (E + 1)) := by rw [← hE.out]; exact hcell 6 (by omega)
      have x7 : wr.cell? ⟨b, j * 9 + 7, none⟩ = some (.int .i64 (E + 1 + 1)) := by rw [← hE.out]; exact hcell 7 (by omega)
      have x8 : wr.cell? ⟨b, j * 9 + 8, none⟩ = some (.int .i64 (E + 1 + 1 + 1)) := by rw [← hE.out]; exact hcell 8 (by omega)
      have hns' : LgAt wr fA (markK (kc + 1 + 1 + 1 + 1) fV) := hns
      have HN : Hid (endN k (U.take (j + 1)) = E + 1 + 1 + 1 + 1) := by unfold Hid; rw [HE.out, ← hE.out]; rfl
      have d0 : (kc != kc) = false := by simp
      have d1 : (kc + 1 + 1 != kc + 1 + 1) = false := by simp
      have d2 : (kc + 1 + 1 + 1 != kc + 1 + 1 + 1) = false := by simp
      have d3 : (E != E) = false := by simp
      have d4 : (E + 1 != E + 1) = false := by simp
      have d5 : (E + 1 + 1 != E + 1 + 1) = false := by simp
      have d6 : (E + 1 + 1 + 1 != E + 1 + 1 + 1) = false := by simp
      have dB : ((((kc + 1) % 3 == 0) : Bool) != ((kc + 1) % 3 == 0)) = false := by simp
      have hle := totK_len fV
      have hE0 : ¬ E < 0 := by omega
      clear hcell hfj hns h HE
      go_wp2_with fail
      refine (heldEkS_B fA fV.length fc (kc + 1 + 1 + 1 + 1) fV _ hns' rfl hlb (by omega) (by omega) (by omega) (by omega)).mono ?_
      rintro e w5 ⟨rfl, hw5⟩
      obtain rfl := hw5.symm
      rw [hE.out]
      go_wp2
      go_roundw
      case rel => exact ⟨j + 1, by omega, by go_num, by rw [HN.out], by trivial⟩
      case measure => simp [intOf]; omega
    · go_wp2
      go_ret
      obtain rfl : j = n := by omega
      have e1 : U.take j = U := List.take_of_length_le (by rw [HLn.out]; omega)
      rw [e1]
      exact ⟨rfl, rfl⟩

end Go.Proofs.YtdbnmkffinhdjaaGreat

namespace Go.Proofs.YtdbnmkffinhdjaaGreat
open Go.ChangeShapes Go.WideShapes Go.ChangeAt Go.RowKit Go.Deep
set_option linter.unusedVariables false
set_option maxHeartbeats 25600000

theorem Tryz.cW11 : Tryz.prog.cellsOf 107 = 4 := by kernel_rfl
theorem Tryz.cB11 : Tryz.prog.cellsOf 33 = 1 := by kernel_rfl
theorem Tryz.cI11 : Tryz.prog.cellsOf 2 = 1 := by kernel_rfl

end Go.Proofs.YtdbnmkffinhdjaaGreat
