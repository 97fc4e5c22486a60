/- Lemmas and contracts of one law. -/
import Derived.Test.YtdbnmkffinhdjaaGreatLV15
import Derived.Test.YtdbnmkffinhdjaaGreatLV13
namespace Go.Proofs.YtdbnmkffinhdjaaGreat
open Go.RowKit Go.Sort
set_option linter.unusedVariables false
set_option linter.unusedSimpArgs false
set_option maxRecDepth 100000
set_option maxHeartbeats 25600000

/-- A mail that is marked from k on. -/
def MlV.mkQ (k : Int) (v : MlV) : MlV := ⟨⟨k, k + 1, k + 1 + 1, k + 1 + 1 + 1, k + 1 + 1 + 1 + 1, (k + 1 + 1 + 1 + 1 + 1) % 3 == 0, ⟨k + 1 + 1 + 1 + 1 + 1 + 1, k + 1 + 1 + 1 + 1 + 1 + 1 + 1, k + 1 + 1 + 1 + 1 + 1 + 1 + 1 + 1, marks (k + 1 + 1 + 1 + 1 + 1 + 1 + 1 + 1 + 1) v.m.e.xs.length⟩⟩, v.a, v.c⟩
def MlV.nxQ (k : Int) (v : MlV) : Int := k + 1 + 1 + 1 + 1 + 1 + 1 + 1 + 1 + 1 + v.m.e.xs.length
def markQ : Int → List MlV → List MlV
  | _, [] => []
  | k, v :: V => v.mkQ k :: markQ (v.nxQ k) V
def endQ : Int → List MlV → Int
  | k, [] => k
  | k, v :: V => endQ (v.nxQ k) V
theorem cellsMq_set9 : ∀ (U : List MlV) (i : Nat) (u v : MlV), U[i]? = some u → (Value.slice v.a v.m.e.xs.length v.c) = .slice u.a u.m.e.xs.length u.c → (((((((((cellsMq U).set (i * 10) (.int .i64 v.m.kd)).set (i * 10 + 1) (.int .i64 v.m.tgt)).set (i * 10 + 2) (.int .i64 v.m.ep)).set (i * 10 + 3) (.int .i64 v.m.at1)).set (i * 10 + 4) (.int .i64 v.m.pr)).set (i * 10 + 5) (.bool v.m.has)).set (i * 10 + 6) (.int .i64 v.m.e.ep)).set (i * 10 + 7) (.int .i64 v.m.e.ki)).set (i * 10 + 8) (.int .i64 v.m.e.pe) = cellsMq (U.set i v)
  | [], i, u, v, h, _ => by simp at h
  | q :: U, 0, u, v, h, e => by
    simp at h
    subst h
    simp [cellsMq, MlV.cs, ← e]
  | q :: U, i + 1, u, v, h, e => by
    have ih := cellsMq_set9 U i u v (by simpa using h) e
    have e2 : ∀ (q : MlV) (U : List MlV), cellsMq (q :: U) = .int .i64 q.m.kd :: .int .i64 q.m.tgt :: .int .i64 q.m.ep :: .int .i64 q.m.at1 :: .int .i64 q.m.pr :: .bool q.m.has :: .int .i64 q.m.e.ep :: .int .i64 q.m.e.ki :: .int .i64 q.m.e.pe :: .slice q.a q.m.e.xs.length q.c :: cellsMq U := fun _ _ => rfl
    rw [show (i + 1) * 10 = i * 10 + 10 by omega, e2, show (q :: U).set (i + 1) v = q :: U.set i v from rfl, e2, ← ih]
    simp only [Nat.add_assoc, Nat.reduceAdd, List.set_cons_succ]
theorem markQ_length (V : List MlV) : ∀ k, (markQ k V).length = V.length := by
  induction V with
  | nil => intro k; rfl
  | cons f F ih => intro k; simp [markQ, ih]
theorem endQ_snoc (V : List MlV) (v : MlV) : ∀ k, endQ k (V ++ [v]) = v.nxQ (endQ k V) := by
  induction V with
  | nil => intro k; rfl
  | cons g F ih => intro k; simp only [List.cons_append, endQ]; exact ih _
theorem markQ_snoc (V : List MlV) (v : MlV) : ∀ k, markQ k (V ++ [v]) = markQ k V ++ [v.mkQ (endQ k V)] := by
  induction V with
  | nil => intro k; rfl
  | cons g F ih => intro k; simp only [List.cons_append, markQ, endQ, ih]
theorem totMq_take : ∀ (V : List MlV) (j : Nat), totMq (V.take j) ≤ totMq V
  | [], j => by simp
  | v :: V, 0 => by simp [totMq]
  | v :: V, j + 1 => by have := totMq_take V j; simp only [List.take_succ_cons, totMq]; omega
theorem endQ_bd (V : List MlV) : ∀ k, k ≤ endQ k V ∧ endQ k V ≤ k + 9 * totMq V := by
  induction V with
  | nil => intro k; simp [endQ, totMq]
  | cons f F ih =>
    intro k
    have h2 := ih (f.nxQ k)
    simp only [endQ, totMq]
    unfold MlV.nxQ at h2 ⊢
    unfold MlV.tot
    omega
theorem markQ_get (V : List MlV) {j : Nat} {f : MlV} (h : V[j]? = some f) (k : Int) : (markQ k V)[j]? = some (f.mkQ (endQ k (V.take j))) := by
  induction V generalizing j k with
  | nil => simp at h
  | cons g F ih =>
    cases j with
    | zero => simp at h; subst h; simp [markQ, endQ]
    | succ j => simp at h; simp only [markQ, List.getElem?_cons_succ, List.take_succ_cons, endQ]; exact ih h _
theorem endQ_take {V : List MlV} {j : Nat} {f : MlV} (h : V[j]? = some f) (k : Int) : endQ k (V.take (j + 1)) = f.nxQ (endQ k (V.take j)) := by rw [take_snocMq h, endQ_snoc]
theorem stepQ_get {V : List MlV} {j : Nat} {f : MlV} (h : V[j]? = some f) (k : Int) : (markQ k (V.take j) ++ V.drop j)[j]? = some f := by
  obtain ⟨hj, rfl⟩ := List.getElem?_eq_some_iff.1 h
  have hl : (markQ k (V.take j)).length = j := by rw [markQ_length, List.length_take]; omega
  rw [List.getElem?_append_right (by omega), hl, Nat.sub_self, List.getElem?_drop]
  exact h
theorem stepQ_set {V : List MlV} {j : Nat} {f : MlV} (h : V[j]? = some f) (k : Int) : (markQ k (V.take j) ++ V.drop j).set j (f.mkQ (endQ k (V.take j))) = markQ k (V.take (j + 1)) ++ V.drop (j + 1) := by
  have hf := take_snocMq h
  obtain ⟨hj, rfl⟩ := List.getElem?_eq_some_iff.1 h
  have hl : (markQ k (V.take j)).length = j := by rw [markQ_length, List.length_take]; omega
  rw [hf, markQ_snoc, List.set_append_right _ _ (by omega), hl, Nat.sub_self, List.drop_eq_getElem_cons hj, List.set_cons_zero]
  simp

/-- What the marking needs of a list: the row and each entry's bytes, of the call's own, in blocks of F, each in a block of its own. -/
structure OwQ1 (w : World) (F : Nat → Prop) (g n c : Nat) (U : List MlV) : Prop where
  row : w.ownsRow 0 120 10 (.slice (some ⟨g, 0, none⟩) n c) n (cellsMq U)
  own : ∀ (i : Nat) (u : MlV), U[i]? = some u → OwAt w u.a u.m.e.xs.length u.c u.m.e.xs
  len : ∀ u ∈ U, u.m.e.xs.length ≤ 1048576
  inn : ∀ u ∈ U, ∀ x, u.a = some x → F x.block ∧ ¬ x.block = g
  glo : F g
  apart : ∀ (i j : Nat) (u v : MlV) (x y : Addr), U[i]? = some u → U[j]? = some v → i ≠ j → u.a = some x → v.a = some y → ¬ x.block = y.block

theorem row_turnQ {w w' : World} {g n c : Nat} {xs : List Value} {S : Nat → Prop} (h : w.ownsRow 0 120 10 (.slice (some ⟨g, 0, none⟩) n c) n xs) (t : Turn S w w') (hS : ¬ S g) : w'.ownsRow 0 120 10 (.slice (some ⟨g, 0, none⟩) n c) n xs := row9_turn h t (by intro k hk; simp [Value.ownBlock] at hk; subst hk; exact hS)
theorem set9q (w : World) (B j : Nat) (v0 v1 v2 v3 v4 v5 v6 v7 v8 : Value) : Turn (fun k => k = B) w (((((((((w.setCell ⟨B, j, none⟩ v0).setCell ⟨B, j + 1, none⟩ v1).setCell ⟨B, j + 2, none⟩ v2).setCell ⟨B, j + 3, none⟩ v3).setCell ⟨B, j + 4, none⟩ v4).setCell ⟨B, j + 5, none⟩ v5).setCell ⟨B, j + 6, none⟩ v6).setCell ⟨B, j + 7, none⟩ v7).setCell ⟨B, j + 8, none⟩ v8) :=
  ((((((((((Turn.refl (fun k => k = B) w).set (p := ⟨B, j, none⟩) rfl v0).set (p := ⟨B, j + 1, none⟩) rfl v1).set (p := ⟨B, j + 2, none⟩) rfl v2).set (p := ⟨B, j + 3, none⟩) rfl v3).set (p := ⟨B, j + 4, none⟩) rfl v4).set (p := ⟨B, j + 5, none⟩) rfl v5).set (p := ⟨B, j + 6, none⟩) rfl v6).set (p := ⟨B, j + 7, none⟩) rfl v7).set (p := ⟨B, j + 8, none⟩) rfl v8)

theorem markMqS_row (g n c : Nat) (F : Nat → Prop) (k : Int) (U : List MlV) (w : World) (h : OwQ1 w F g n c U) (hn : U.length = n) (hT : totMq U ≤ 2097152) (hm : n ≤ 2097152) (hk0 : 0 ≤ k) (hk : k ≤ 134217728) :
    Calls Tryz.prog 47 #[.slice (some ⟨g, 0, none⟩) n c, .int .i64 k] w fun e w' => e = .returned (.int .i64 (endQ k U)) ∧ MqAt w' (some ⟨g, 0, none⟩) (markQ k U) ∧ Turn F w w' := by
  have HLn : Hid (U.length = n) := hn
  have HBd : Hid (∀ j, j ≤ n → k ≤ endQ k (U.take j) ∧ endQ k (U.take j) ≤ k + 18874368) := by
    intro j hj
    have h1 := endQ_bd (U.take j) k
    have h2 := totMq_take U j
    omega
  have HLen : Hid (∀ u ∈ U, u.m.e.xs.length ≤ 1048576) := h.len
  have HInn : Hid (∀ u ∈ U, ∀ x, u.a = some x → F x.block ∧ ¬ x.block = g) := h.inn
  have HAp : Hid (∀ (i j : Nat) (u v : MlV) (x y : Addr), U[i]? = some u → U[j]? = some v → i ≠ j → u.a = some x → v.a = some y → ¬ x.block = y.block) := h.apart
  have HGl : Hid (F g) := h.glo
  have hrow := h.row
  have hown := h.own
  clear hn h
  go_enter Tryz.func47, Tryz.ntmps47
  go_wp2
  go_loopw [1, 5] (fun s i wr => ∃ j : Nat, j ≤ n ∧ i = .int .i64 j ∧ s = .int .i64 (endQ k (U.take j)) ∧ wr.ownsRow 0 120 10 (.slice (some ⟨g, 0, none⟩) n c) n (cellsMq (markQ k (U.take j) ++ U.drop j)) ∧
      (∀ (i : Nat) (u : MlV), j ≤ i → U[i]? = some u → OwAt wr u.a u.m.e.xs.length u.c u.m.e.xs) ∧ (∀ (i : Nat) (u : MlV), i < j → U[i]? = some u → BsAt wr u.a (marks (endQ k (U.take i) + 1 + 1 + 1 + 1 + 1 + 1 + 1 + 1 + 1) u.m.e.xs.length)) ∧ Turn F w wr) (fun _ i _ => n - (intOf i).toNat)
  case atStart => exact ⟨0, Nat.zero_le _, rfl, rfl, by simpa [markQ] using hrow, fun i u _ hu => hown i u hu, fun i u hi => absurd hi (Nat.not_lt_zero i), Turn.refl _ _⟩
  case round =>
    obtain ⟨j, hj, rfl, rfl, hC, hrest, hdone, htn⟩ := hrel
    by_cases hlt : j < n
    · obtain ⟨f, hfj⟩ : ∃ f, U[j]? = some f := ⟨_, List.getElem?_eq_getElem (by have := HLn.out; omega)⟩
      have hCj := stepQ_get hfj k
      have he := HBd.out j hj
      have HE : Hid (endQ k (U.take (j + 1)) = f.nxQ (endQ k (U.take j))) := endQ_take hfj k
      have HS2 : Hid _ := stepQ_set hfj k
      have HKC : Hid (∀ u, U[j]? = some u → u = f) := by intro u hu; rw [hfj] at hu; exact (Option.some.inj hu).symm
      have HFJ : Hid (U[j]? = some f) := hfj
      have HDone : Hid (∀ (i : Nat) (u : MlV), i < j → U[i]? = some u → BsAt wr u.a (marks (endQ k (U.take i) + 1 + 1 + 1 + 1 + 1 + 1 + 1 + 1 + 1) u.m.e.xs.length)) := hdone
      have HKE : Hid (∃ kk, kk = endQ k (U.take j)) := ⟨_, rfl⟩
      obtain ⟨kc, hkc⟩ : ∃ kc, kc = endQ k (U.take j) := ⟨_, rfl⟩
      have HK : Hid (kc = endQ k (U.take j)) := hkc
      rw [← hkc] at he ⊢
      have HE2 : Hid (endQ k (U.take (j + 1)) = f.nxQ kc) := by unfold Hid; rw [hkc]; exact HE.out
      have HS3 : Hid ((markQ k (U.take j) ++ U.drop j).set j (f.mkQ kc) = markQ k (U.take (j + 1)) ++ U.drop (j + 1)) := by unfold Hid; rw [hkc]; exact HS2.out
      clear hkc HE HS2 hdone
      generalize hCC0 : markQ k (U.take j) ++ U.drop j = CC at *
      have HCj : Hid (CC[j]? = some f) := hCj
      have hCl : (cellsMq CC).length = n * 10 := by have := hC.1; omega
      have hov := hrest j f (Nat.le_refl _) hfj
      have hlf := HLen.out f (List.mem_of_getElem? hfj)
      have hif := HInn.out f (List.mem_of_getElem? hfj)
      have x3 : wr.cell? ⟨g, j * 10 + 9, none⟩ = some (.slice f.a f.m.e.xs.length f.c) := by
        rw [World.ownsRow.cellAt hC (j * 10 + 9) (by omega)]
        exact cellsMq_get CC j f hCj 9 (by omega)
      have f0 := fun q => World.ownsRow.frozenAt hC q
      obtain ⟨v0, c0⟩ : ∃ v, wr.cell? ⟨g, j * 10, none⟩ = some v := ⟨_, (World.ownsRow.cellAt hC _ (by omega)).trans (List.getElem?_eq_getElem (by omega))⟩
      obtain ⟨v1, c1⟩ : ∃ v, wr.cell? ⟨g, j * 10 + 1, none⟩ = some v := ⟨_, (World.ownsRow.cellAt hC _ (by omega)).trans (List.getElem?_eq_getElem (by omega))⟩
      obtain ⟨v2, c2⟩ : ∃ v, wr.cell? ⟨g, j * 10 + 2, none⟩ = some v := ⟨_, (World.ownsRow.cellAt hC _ (by omega)).trans (List.getElem?_eq_getElem (by omega))⟩
      obtain ⟨v3, c3⟩ : ∃ v, wr.cell? ⟨g, j * 10 + 3, none⟩ = some v := ⟨_, (World.ownsRow.cellAt hC _ (by omega)).trans (List.getElem?_eq_getElem (by omega))⟩
      obtain ⟨v4, c4⟩ : ∃ v, wr.cell? ⟨g, j * 10 + 4, none⟩ = some v := ⟨_, (World.ownsRow.cellAt hC _ (by omega)).trans (List.getElem?_eq_getElem (by omega))⟩
      obtain ⟨v5, c5⟩ : ∃ v, wr.cell? ⟨g, j * 10 + 5, none⟩ = some v := ⟨_, (World.ownsRow.cellAt hC _ (by omega)).trans (List.getElem?_eq_getElem (by omega))⟩
      obtain ⟨v6, c6⟩ : ∃ v, wr.cell? ⟨g, j * 10 + 6, none⟩ = some v := ⟨_, (World.ownsRow.cellAt hC _ (by omega)).trans (List.getElem?_eq_getElem (by omega))⟩
      obtain ⟨v7, c7⟩ : ∃ v, wr.cell? ⟨g, j * 10 + 7, none⟩ = some v := ⟨_, (World.ownsRow.cellAt hC _ (by omega)).trans (List.getElem?_eq_getElem (by omega))⟩
      obtain ⟨v8, c8⟩ : ∃ v, wr.cell? ⟨g, j * 10 + 8, none⟩ = some v := ⟨_, (World.ownsRow.cellAt hC _ (by omega)).trans (List.getElem?_eq_getElem (by omega))⟩
      have hg1 := (World.ownsRow.stored hC (j * 10) (.int .i64 kc)).1
      have hg2 := (World.ownsRow.stored hg1 (j * 10 + 1) (.int .i64 (kc + 1))).1
      have hg3 := (World.ownsRow.stored hg2 (j * 10 + 2) (.int .i64 (kc + 1 + 1))).1
      have hg4 := (World.ownsRow.stored hg3 (j * 10 + 3) (.int .i64 (kc + 1 + 1 + 1))).1
      have hg5 := (World.ownsRow.stored hg4 (j * 10 + 4) (.int .i64 (kc + 1 + 1 + 1 + 1))).1
      have hg6 := (World.ownsRow.stored hg5 (j * 10 + 5) (.bool ((kc + 1 + 1 + 1 + 1 + 1) % 3 == 0))).1
      have hg7 := (World.ownsRow.stored hg6 (j * 10 + 6) (.int .i64 (kc + 1 + 1 + 1 + 1 + 1 + 1))).1
      have hg8 := (World.ownsRow.stored hg7 (j * 10 + 7) (.int .i64 (kc + 1 + 1 + 1 + 1 + 1 + 1 + 1))).1
      have hg9 := (World.ownsRow.stored hg8 (j * 10 + 8) (.int .i64 (kc + 1 + 1 + 1 + 1 + 1 + 1 + 1 + 1))).1
      have hset := cellsMq_set9 CC j f (f.mkQ kc) HCj.out (by simp [MlV.mkQ, marks_length])
      simp only [MlV.mkQ] at hset
      rw [hset] at hg9
      have t3 := set9q wr g (j * 10) (.int .i64 kc) (.int .i64 (kc + 1)) (.int .i64 (kc + 1 + 1)) (.int .i64 (kc + 1 + 1 + 1)) (.int .i64 (kc + 1 + 1 + 1 + 1)) (.bool ((kc + 1 + 1 + 1 + 1 + 1) % 3 == 0)) (.int .i64 (kc + 1 + 1 + 1 + 1 + 1 + 1)) (.int .i64 (kc + 1 + 1 + 1 + 1 + 1 + 1 + 1)) (.int .i64 (kc + 1 + 1 + 1 + 1 + 1 + 1 + 1 + 1))
      have hov3 : OwAt _ f.a f.m.e.xs.length f.c f.m.e.xs := hov.turn t3 (fun x hx e => (hif x hx).2 e)
      have x33 : (((((((((wr.setCell ⟨g, j * 10, none⟩ (.int .i64 kc)).setCell ⟨g, j * 10 + 1, none⟩ (.int .i64 (kc + 1))).setCell ⟨g, j * 10 + 2, none⟩ (.int .i64 (kc + 1 + 1))).setCell ⟨g, j * 10 + 3, none⟩ (.int .i64 (kc + 1 + 1 + 1))).setCell ⟨g, j * 10 + 4, none⟩ (.int .i64 (kc + 1 + 1 + 1 + 1))).setCell ⟨g, j * 10 + 5, none⟩ (.bool ((kc + 1 + 1 + 1 + 1 + 1) % 3 == 0))).setCell ⟨g, j * 10 + 6, none⟩ (.int .i64 (kc + 1 + 1 + 1 + 1 + 1 + 1))).setCell ⟨g, j * 10 + 7, none⟩ (.int .i64 (kc + 1 + 1 + 1 + 1 + 1 + 1 + 1))).setCell ⟨g, j * 10 + 8, none⟩ (.int .i64 (kc + 1 + 1 + 1 + 1 + 1 + 1 + 1 + 1))).cell? ⟨g, j * 10 + 9, none⟩ = some (.slice f.a f.m.e.xs.length f.c) := by
        rw [World.ownsRow.cellAt hg9 (j * 10 + 9) (by omega)]
        rw [cellsMq_get _ j _ (by rw [List.getElem?_set_self (by have := (List.getElem?_eq_some_iff.1 HCj.out).1; omega)]) 9 (by omega)]
        simp [MlV.cs, marks_length]
      clear hg1 hg2 hg3 hg4 hg5 hg6 hg7 hg8 hset hfj hCj
      go_upto_region 22 with fail
      generalize (((((((((wr.setCell ⟨g, j * 10, none⟩ (.int .i64 kc)).setCell ⟨g, j * 10 + 1, none⟩ (.int .i64 (kc + 1))).setCell ⟨g, j * 10 + 2, none⟩ (.int .i64 (kc + 1 + 1))).setCell ⟨g, j * 10 + 3, none⟩ (.int .i64 (kc + 1 + 1 + 1))).setCell ⟨g, j * 10 + 4, none⟩ (.int .i64 (kc + 1 + 1 + 1 + 1))).setCell ⟨g, j * 10 + 5, none⟩ (.bool ((kc + 1 + 1 + 1 + 1 + 1) % 3 == 0))).setCell ⟨g, j * 10 + 6, none⟩ (.int .i64 (kc + 1 + 1 + 1 + 1 + 1 + 1))).setCell ⟨g, j * 10 + 7, none⟩ (.int .i64 (kc + 1 + 1 + 1 + 1 + 1 + 1 + 1))).setCell ⟨g, j * 10 + 8, none⟩ (.int .i64 (kc + 1 + 1 + 1 + 1 + 1 + 1 + 1 + 1))) = w4 at *
      clear x3 c0 c1 c2 c3 c4 c5 c6 c7 c8 f0 hC hov
      go_wp2_with fail
      refine (mark_any f.a f.m.e.xs.length f.c (kc + 1 + 1 + 1 + 1 + 1 + 1 + 1 + 1 + 1) f.m.e.xs _ hov3 (by omega) (by omega) (by omega)).mono ?_
      rintro e w5 ⟨rfl, ho5, t5⟩
      clear x33
      have hif2 : ∀ i, inA f.a i → F i ∧ ¬ i = g := by rintro i ⟨x, hx, e⟩; rw [e]; exact hif x hx
      have t45 : Turn (fun i => i = g ∨ inA f.a i) wr w5 := Turn.trans (S := fun i => i = g ∨ inA f.a i) (Turn.mono t3 (fun i _ e => .inl e)) t5 (fun i _ e => .inr e)
      go_wp2
      go_roundw
      case rel =>
        refine ⟨j + 1, by omega, by go_num, by rw [HE2.out]; rfl, ?_, ?_, ?_, ?_⟩
        · rw [← HS3.out]
          exact row_turnQ hg9 t5 (fun e => (hif2 g e).2 rfl)
        · intro i u hi hu
          refine (hrest i u (by omega) hu).turn t45 ?_
          rintro x hx (e | ⟨y, hy, e⟩)
          · exact (HInn.out u (List.mem_of_getElem? hu) x hx).2 e
          · exact HAp.out i j u f x y hu HFJ.out (by omega) hx hy e
        · intro i u hi hu
          by_cases hij : i = j
          · subst hij
            obtain rfl := HKC.out u hu
            rw [← HK.out]
            exact ho5.bs (marks_bd _ _)
          · refine (HDone.out i u (by omega) hu).turn t45 ?_
            rintro x hx (e | ⟨y, hy, e⟩)
            · exact (HInn.out u (List.mem_of_getElem? hu) x hx).2 e
            · exact HAp.out i j u f x y hu HFJ.out (by omega) hx hy e
        · exact Turn.trans htn t45 (by rintro i _ (e | e); (rw [e]; exact HGl.out); exact (hif2 i e).1)
      case measure => simp [intOf]; omega
    · go_wp2
      go_ret
      obtain rfl : j = n := by omega
      have e1 : U.take j = U := List.take_of_length_le (by rw [HLn.out]; omega)
      have e2 : U.drop j = [] := List.drop_eq_nil_of_le (by rw [HLn.out]; omega)
      rw [e1, e2, List.append_nil] at hC
      rw [e1]
      refine ⟨rfl, ?_, htn⟩
      intro i u hu
      have hi : i < (markQ k U).length := (List.getElem?_eq_some_iff.1 hu).1
      rw [markQ_length] at hi
      obtain ⟨f, hf⟩ : ∃ f, U[i]? = some f := ⟨_, List.getElem?_eq_getElem hi⟩
      have hm' := markQ_get U hf k
      rw [hu] at hm'
      obtain rfl := Option.some.inj hm'
      refine ⟨⟨g, rfl, fun q hq => ?_⟩, ?_, ?_⟩
      · rw [World.ownsRow.cellAt hC (i * 10 + q) (by have := HLn.out; omega)]
        exact cellsMq_get _ i _ hu q hq
      · exact hdone i f (by have := HLn.out; omega) hf
      · simp only [MlV.mkQ, marks_length]
        exact HLen.out f (List.mem_of_getElem? hf)

theorem heldMqS_any (A : Option Addr) (n c : Nat) (k : Int) (U : List MlV) (w : World) (h : MqAt w A (markQ k U)) (hn : U.length = n) (hl : ∀ u ∈ U, u.m.e.xs.length ≤ 1048576) (hT : totMq U ≤ 2097152) (hm : n ≤ 2097152) (hk0 : 0 ≤ k) (hk : k ≤ 134217728) :
    Calls Tryz.prog 93 #[.slice A n c, .int .i64 k] w fun e w' => e = .returned (.int .i64 (endQ k U)) ∧ w' = w := by
  have HLn : Hid (U.length = n) := hn
  have HL : Hid (∀ u ∈ U, u.m.e.xs.length ≤ 1048576) := hl
  have HBd : Hid (∀ j, j ≤ n → k ≤ endQ k (U.take j) ∧ endQ k (U.take j) ≤ k + 18874368) := by
    intro j hj
    have h1 := endQ_bd (U.take j) k
    have h2 := totMq_take U j
    omega
  clear hn hl
  go_enter Tryz.func93, Tryz.ntmps93
  go_wp2
  go_loopw [1, 5] (fun s i wr => ∃ j : Nat, j ≤ n ∧ i = .int .i64 j ∧ s = .int .i64 (endQ k (U.take j)) ∧ wr = w) (fun _ i _ => n - (intOf i).toNat)
  case atStart => exact ⟨0, Nat.zero_le _, rfl, rfl, rfl⟩
  case round =>
    obtain ⟨j, hj, rfl, rfl, rfl⟩ := hrel
    by_cases hlt : j < n
    · obtain ⟨f, hfj⟩ : ∃ f, U[j]? = some f := ⟨_, List.getElem?_eq_getElem (by have := HLn.out; omega)⟩
      obtain ⟨⟨b, rfl, hcell⟩, hns, -⟩ := h j _ (markQ_get U hfj k)
      have he := HBd.out j hj
      have HE : Hid (endQ k (U.take (j + 1)) = f.nxQ (endQ k (U.take j))) := endQ_take hfj k
      have hlf := HL.out f (List.mem_of_getElem? hfj)
      generalize endQ k (U.take j) = kc at *
      obtain ⟨⟨kd, tgt, me, at1, pr, has, ⟨ee, ki, pe, xs⟩⟩, fa, fc⟩ := f
      have x0 : wr.cell? ⟨b, j * 10, none⟩ = some (.int .i64 kc) := hcell 0 (by omega)
      have x1 : wr.cell? ⟨b, j * 10 + 1, none⟩ = some (.int .i64 (kc + 1)) := hcell 1 (by omega)
      have x2 : wr.cell? ⟨b, j * 10 + 2, none⟩ = some (.int .i64 (kc + 1 + 1)) := hcell 2 (by omega)
      have x3 : wr.cell? ⟨b, j * 10 + 3, none⟩ = some (.int .i64 (kc + 1 + 1 + 1)) := hcell 3 (by omega)
      have x4 : wr.cell? ⟨b, j * 10 + 4, none⟩ = some (.int .i64 (kc + 1 + 1 + 1 + 1)) := hcell 4 (by omega)
      have x5 : wr.cell? ⟨b, j * 10 + 5, none⟩ = some (.bool ((kc + 1 + 1 + 1 + 1 + 1) % 3 == 0)) := hcell 5 (by omega)
      have x6 : wr.cell? ⟨b, j * 10 + 6, none⟩ = some (.int .i64 (kc + 1 + 1 + 1 + 1 + 1 + 1)) := hcell 6 (by omega)
      have x7 : wr.cell? ⟨b, j * 10 + 7, none⟩ = some (.int .i64 (kc + 1 + 1 + 1 + 1 + 1 + 1 + 1)) := hcell 7 (by omega)
      have x8 : wr.cell? ⟨b, j * 10 + 8, none⟩ = some (.int .i64 (kc + 1 + 1 + 1 + 1 + 1 + 1 + 1 + 1)) := hcell 8 (by omega)
      have x9 : wr.cell? ⟨b, j * 10 + 9, none⟩ = some (.slice fa xs.length fc) := by
        have := hcell 9 (by omega)
        simp only [MlV.mkQ, MlV.cs, marks_length] at this
        exact this
      have d0 : (kc != kc) = false := by simp
      have d1 : (kc + 1 != kc + 1) = false := by simp
      have d2 : (kc + 1 + 1 != kc + 1 + 1) = false := by simp
      have d3 : (kc + 1 + 1 + 1 != kc + 1 + 1 + 1) = false := by simp
      have d4 : (kc + 1 + 1 + 1 + 1 != kc + 1 + 1 + 1 + 1) = false := by simp
      have d5 : (kc + 1 + 1 + 1 + 1 + 1 != kc + 1 + 1 + 1 + 1 + 1) = false := by simp
      have d6 : (kc + 1 + 1 + 1 + 1 + 1 + 1 != kc + 1 + 1 + 1 + 1 + 1 + 1) = false := by simp
      have d7 : (kc + 1 + 1 + 1 + 1 + 1 + 1 + 1 != kc + 1 + 1 + 1 + 1 + 1 + 1 + 1) = false := by simp
      have d8 : (kc + 1 + 1 + 1 + 1 + 1 + 1 + 1 + 1 != kc + 1 + 1 + 1 + 1 + 1 + 1 + 1 + 1) = false := by simp
      have dB : ((((kc + 1 + 1 + 1 + 1 + 1) % 3 == 0) : Bool) != ((kc + 1 + 1 + 1 + 1 + 1) % 3 == 0)) = false := by simp
      have hns' : BsAt wr fa (marks (kc + 1 + 1 + 1 + 1 + 1 + 1 + 1 + 1 + 1) xs.length) := hns
      clear hcell hfj hns h
      go_wp2_with fail
      refine (held_any fa xs.length fc (kc + 1 + 1 + 1 + 1 + 1 + 1 + 1 + 1 + 1) _ hns' (by omega) (by omega) (by omega)).mono ?_
      rintro e w5 ⟨rfl, rfl⟩
      go_wp2
      go_roundw
      case rel => exact ⟨j + 1, by omega, by go_num, by rw [HE.out]; rfl, by trivial⟩
      case measure => simp [intOf]; omega
    · go_wp2
      go_ret
      obtain rfl : j = n := by omega
      have e1 : U.take j = U := List.take_of_length_le (by rw [HLn.out]; omega)
      rw [e1]
      exact ⟨rfl, rfl⟩

end Go.Proofs.YtdbnmkffinhdjaaGreat

namespace Go.Proofs.YtdbnmkffinhdjaaGreat
open Go.ChangeShapes Go.WideShapes Go.ChangeAt Go.RowKit Go.Deep Go.Sort
set_option linter.unusedVariables false
set_option linter.unusedSimpArgs false
set_option maxHeartbeats 25600000

/-- The logs of the nodes lie in stretches of their own. -/
def ApN (w : World) (lo : Nat) (P Q : Nat → Nat) (V : List NdV) : Prop :=
  (∀ (i : Nat) (v : NdV), V[i]? = some v → OwL w (P i) (Q i) (.slice v.A v.V.length v.c) v.V ∧ totK v.V ≤ 1048576 ∧ lo ≤ P i ∧ Q i ≤ w.heap.size) ∧ ∀ i j, i < V.length → j < V.length → i ≠ j → Q i ≤ P j ∨ Q j ≤ P i
theorem ApN.turn {w w' : World} {lo : Nat} {P Q : Nat → Nat} {V : List NdV} {S : Nat → Prop} (h : ApN w lo P Q V) (t : Turn S w w') (hS : ∀ k, lo ≤ k → k < w.heap.size → ¬ S k) : ApN w' lo P Q V := by
  refine ⟨fun i v hv => ?_, h.2⟩
  obtain ⟨h1, h2, h3, h4⟩ := h.1 i v hv
  have := t.size
  exact ⟨h1.turn t (fun k a b => hS k (by omega) (by omega)), h2, h3, by omega⟩
theorem ApN.new {w w' : World} {lo : Nat} {P Q : Nat → Nat} {V : List NdV} (h : ApN w lo P Q V) (t : New w w') : ApN w' lo P Q V := h.turn t (fun _ _ _ f => f)
theorem ApN.snoc {w : World} {lo l : Nat} {P Q : Nat → Nat} {V : List NdV} (h : ApN w lo P Q V) (v : NdV) (ho : OwL w l w.heap.size (.slice v.A v.V.length v.c) v.V) (ht : totK v.V ≤ 1048576) (hl : lo ≤ l) (hh : ∀ i, i < V.length → Q i ≤ l) : ApN w lo (fun i => if i = V.length then l else P i) (fun i => if i = V.length then w.heap.size else Q i) (V ++ [v]) := by
  refine ⟨fun i u hu => ?_, fun i j hi hj hne => ?_⟩ <;> dsimp only
  · rw [List.getElem?_append] at hu
    split at hu
    · rename_i hlt
      rw [if_neg (show ¬ i = V.length by omega), if_neg (show ¬ i = V.length by omega)]
      exact h.1 i u hu
    · have : i - V.length = 0 := by
        rcases Nat.eq_zero_or_pos (i - V.length) with e | e
        · exact e
        · rw [List.getElem?_eq_none (by simp; omega)] at hu; cases hu
      rw [this] at hu
      simp at hu
      subst hu
      rw [if_pos (show i = V.length by omega), if_pos (show i = V.length by omega)]
      exact ⟨ho, ht, hl, Nat.le_refl _⟩
  · simp at hi hj
    by_cases e1 : i = V.length
    · rw [if_pos e1, if_pos e1, if_neg (show ¬ j = V.length by omega), if_neg (show ¬ j = V.length by omega)]
      have := hh j (by omega)
      exact .inr this
    · by_cases e2 : j = V.length
      · rw [if_neg e1, if_neg e1, if_pos e2, if_pos e2]
        have := hh i (by omega)
        exact .inl this
      · rw [if_neg e1, if_neg e1, if_neg e2, if_neg e2]
        exact h.2 i j (by omega) (by omega) hne

theorem toNdS_own (A : Option Addr) (n c : Nat) (V : List NdV) (w : World) (h : NdCame w A V) (hn : V.length = n) (hm : totNd V ≤ 1048576) :
    Calls Tryz.prog 31 #[.slice A n c] w fun e w' => ∃ g V' P Q, e = .returned (.slice (some ⟨g, 0, none⟩) n n) ∧ V'.map NdV.r = V.map NdV.r ∧ RwNd w' g n n V' ∧ w.heap.size = g ∧ ApN w' (w.heap.size + 1) P Q V' ∧ New w w' := by
  have HN : Hid (V.length = n) := hn
  have hn1 : n ≤ 1048576 := by have := totNd_len V; omega
  have HM : Hid (∀ v ∈ V, v.tot ≤ 1048576) := fun v hv => Nat.le_trans (totNd_mem V v hv) hm
  clear hn hm
  obtain ⟨i0, hi, hz0, hz1, hz2⟩ := info_parts Tryz.infoNd
  go_enter Tryz.func31, Tryz.ntmps31
  go_wp2_with (at_make; refine wpList_make_full _ rfl _ _ 42 rfl w.heap.size 74 i0 (.agg #[.int .i64 0, .bool false, .int .i64 0, .int .i64 0, .slice none 0 0, .int .i64 0, .int .i64 0, .int .i64 0, .int .i64 0]) 9 Tryz.underlying42 hi hz0 hz1 _ _ _ _ n rfl rfl rfl rfl ?b2 ?b3 (Nat.le_refl _) ?_)
  case b2 => rw [hz2]; omega
  case b3 => unfold maxLen; omega
  intro w0 hown0 hgrow0
  have hown : RwNd w0 w.heap.size n n ([] ++ List.replicate (n - 0) zNd) := by
    have := own_base hown0
    have e8 := madeNd n
    simp only [RwNd, List.nil_append, Nat.sub_zero]
    rw [← e8]
    exact this
  have hnew := New.of_grown hgrow0
  clear hown0 hgrow0
  go_wp2
  go_loopw [4] (fun i wr => ∃ (k : Nat) (V' : List NdV) (P Q : Nat → Nat), k ≤ n ∧ i = .int .i64 k ∧ V'.length = k ∧ V'.map NdV.r = (V.take k).map NdV.r ∧ New w wr ∧ RwNd wr w.heap.size n n (V' ++ List.replicate (n - k) zNd) ∧ ApN wr (w.heap.size + 1) P Q V') (fun i _ => n - (intOf i).toNat)
  case atStart => exact ⟨0, [], id, id, Nat.zero_le _, rfl, rfl, rfl, hnew, hown, ⟨fun i v hv => by simp at hv, fun i j hi => by simp at hi⟩⟩
  case round =>
    obtain ⟨k, V', P, Q, hk, rfl, hl', hmap, hnw, how, hpa⟩ := hrel
    have HL' : Hid (V'.length = k) := hl'
    clear hl'
    by_cases hlt : k < n
    · obtain ⟨b, off, id, up, ro, ep, su, ma, ot, co, x, m, d, xs, rfl, hv, hlen, hns, hmx, q0, q1, q2, q3, q4, q5, q6, q7, q8⟩ := (h.new hnw).at k (by have := HN.out; omega)
      have HL : Hid (xs.length = m) := hlen
      clear hlen
      have hmm := HM.out _ (List.mem_of_getElem? hv)
      simp only [NdV.tot] at hmm
      have HMp : Hid (∀ u : NdV, u.r = NdV.r ⟨id, up, ro, ep, su, ma, ot, co, x, d, xs⟩ → (V' ++ [u]).map NdV.r = (V.take (k + 1)).map NdV.r) := by
        intro u hu
        obtain ⟨hk', e⟩ := List.getElem?_eq_some_iff.1 hv
        rw [List.take_succ_eq_append_getElem hk', e, List.map_append, List.map_append, hmap]
        simp [hu]
      have hgl : w.heap.size < wr.heap.size := how.lt
      clear hv hmap
      go_wp2_with fail
      refine (toNd_any id up ro ep su ma ot co x m d xs _ hns HL.out hmm).mono ?_
      rintro e w1 ⟨g, xs2, rfl, hxs, ho, hn1'⟩
      have how1 := how.new hn1'
      have hl2 : xs2.length = m := by have h1 := congrArg List.length hxs; simp at h1; have := HL.out; omega
      have HL2 : Hid (xs2.length = m) := hl2
      have hput := how1.put k (NdV.mk id up ro ep su ma ot co (some (Addr.mk g 0 none)) m xs2)
      rw [set_fillNd V' k n HL'.out hlt] at hput
      simp only [HL2.out] at hput
      have HPU : Hid _ := hput
      have hn2 := hnw.trans hn1'
      have HPA : Hid (ApN w1 (w.heap.size + 1) (fun i => if i = V'.length then wr.heap.size else P i) (fun i => if i = V'.length then w1.heap.size else Q i) (V' ++ [(NdV.mk id up ro ep su ma ot co (some (Addr.mk g 0 none)) m xs2)])) := by
        refine (hpa.new hn1').snoc (NdV.mk id up ro ep su ma ot co (some (Addr.mk g 0 none)) m xs2) ?_ ?_ (by omega) ?_
        · simp only [HL2.out]
          exact ho
        · show totK xs2 ≤ 1048576
          rw [totK_map _ _ hxs]; exact hmm
        · intro i hi
          obtain ⟨v, hv⟩ : ∃ v, V'[i]? = some v := ⟨_, List.getElem?_eq_getElem hi⟩
          exact (hpa.1 i v hv).2.2.2
      have HR : Hid (NdV.r (NdV.mk id up ro ep su ma ot co (some (Addr.mk g 0 none)) m xs2) = NdV.r ⟨id, up, ro, ep, su, ma, ot, co, x, d, xs⟩) := by
        unfold Hid
        simp only [NdV.r, hxs]
      have f0 := fun j => World.ownsRow.frozenAt how1 j
      obtain ⟨v0, c0⟩ := how1.cell (k * 9) (by omega)
      obtain ⟨v1, c1⟩ := how1.cell (k * 9 + 1) (by omega)
      obtain ⟨v2, c2⟩ := how1.cell (k * 9 + 2) (by omega)
      obtain ⟨v3, c3⟩ := how1.cell (k * 9 + 3) (by omega)
      obtain ⟨v4, c4⟩ := how1.cell (k * 9 + 4) (by omega)
      obtain ⟨v5, c5⟩ := how1.cell (k * 9 + 5) (by omega)
      obtain ⟨v6, c6⟩ := how1.cell (k * 9 + 6) (by omega)
      obtain ⟨v7, c7⟩ := how1.cell (k * 9 + 7) (by omega)
      obtain ⟨v8, c8⟩ := how1.cell (k * 9 + 8) (by omega)
      clear h how how1 q0 q1 q2 q3 q4 q5 q6 q7 q8 hnw hpa hput hns ho hl2
      go_wp2
      go_roundw
      case rel =>
        have tt : Turn (fun j => j = w.heap.size) w1 (((((((((w1.setCell ⟨w.heap.size, k * 9, none⟩ (.int .i64 id)).setCell ⟨w.heap.size, k * 9 + 1, none⟩ (.bool up)).setCell ⟨w.heap.size, k * 9 + 2, none⟩ (.int .i64 ro)).setCell ⟨w.heap.size, k * 9 + 3, none⟩ (.int .i64 ep)).setCell ⟨w.heap.size, k * 9 + 4, none⟩ (.slice (some ⟨g, 0, none⟩) m m)).setCell ⟨w.heap.size, k * 9 + 5, none⟩ (.int .i64 su)).setCell ⟨w.heap.size, k * 9 + 6, none⟩ (.int .i64 ma)).setCell ⟨w.heap.size, k * 9 + 7, none⟩ (.int .i64 ot)).setCell ⟨w.heap.size, k * 9 + 8, none⟩ (.int .i64 co)) := setNdk w1 w.heap.size (k * 9) _ _ _ _ _ _ _ _ _
        refine ⟨k + 1, V' ++ [(NdV.mk id up ro ep su ma ot co (some (Addr.mk g 0 none)) m xs2)], (fun i => if i = V'.length then wr.heap.size else P i), (fun i => if i = V'.length then w1.heap.size else Q i), by omega, by go_num, by simp [HL'.out], HMp.out _ HR.out, ?_, HPU.out, ?_⟩
        · exact hn2.before tt (by intro i hi e; omega)
        · exact HPA.out.turn tt (by intro j h1 h2 e; omega)
      case measure => simp [intOf]; omega
    · go_wp2
      go_ret
      have hkn : k = n := by omega
      subst hkn
      rw [List.take_of_length_le (by have := HN.out; omega)] at hmap
      simp only [Nat.sub_self, List.replicate_zero, List.append_nil] at how
      exact ⟨_, V', P, Q, rfl, hmap, how, rfl, hpa, hnw⟩

theorem ApN.own {w : World} {lo hi g n c : Nat} {P Q : Nat → Nat} {V : List NdV} (h : ApN w lo P Q V) (hr : w.ownsRow 0 74 9 (.slice (some ⟨g, 0, none⟩) n c) n (cellsNd V)) (hg : g < lo) (hh : w.heap.size ≤ hi) : OwN1 w (fun x => g ≤ x ∧ x < hi) g n c P Q V := by
  refine ⟨hr, fun i u hu => (h.1 i u hu).1, fun u hu => ?_, fun i hi' => ?_, ?_, h.2⟩
  · obtain ⟨i, hi'⟩ := List.getElem?_of_mem hu
    exact (h.1 i u hi').2.1
  · obtain ⟨h1, h2, h3, h4⟩ := h.1 i _ (List.getElem?_eq_getElem hi')
    exact ⟨fun x a b => ⟨by omega, by omega⟩, by omega⟩
  · have := (World.ownsRow.lt hr g rfl).2
    exact ⟨by omega, by omega⟩

end Go.Proofs.YtdbnmkffinhdjaaGreat
