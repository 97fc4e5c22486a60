/- What is proved here: what the counting, copying and comparing of lists of mails answers, for every list of at most 1048576 mails and bytes; how such a list comes in. What is proved here: what the counting, copying and comparing of a pair answers, for every pair of at most 1048576 rules, nodes, wires, mails, entries and bytes; how a pair comes in. -/
import Derived.Test.YtlkhmnjghdbmoaaGreatDoorTQ5
import Derived.Test.YtlkhmnjghdbmoaaGreatDoorTQ2
namespace Go.Proofs.YtlkhmnjghdbmoaaGreatDoor
open Go.ChangeShapes Go.WideShapes Go.ChangeAt Go.RowKit Go.Deep Go.Sort
set_option linter.unusedVariables false
set_option linter.unusedSimpArgs false

def MlV.r (v : MlV) : Ml := v.m
def MlV.tot (v : MlV) : Nat := v.m.e.xs.length
def cellsMq (V : List MlV) : List Value := V.flatMap MlV.cs
def totMq : List MlV → Nat
  | [] => 0
  | v :: V => v.tot + 1 + totMq V
theorem totMq_len : ∀ V : List MlV, V.length ≤ totMq V
  | [] => Nat.le_refl _
  | v :: V => by have := totMq_len V; simp only [totMq, List.length_cons]; omega
theorem totMq_mem : ∀ (V : List MlV) (v : MlV), v ∈ V → v.tot ≤ totMq V
  | [], v, h => by simp at h
  | u :: V, v, h => by
    simp only [totMq]
    rcases List.mem_cons.1 h with rfl | h
    · omega
    · have := totMq_mem V v h; omega
theorem totMq_snoc (V : List MlV) (v : MlV) : totMq (V ++ [v]) = totMq V + v.tot + 1 := by
  induction V with
  | nil => simp [totMq]
  | cons f F ih => simp only [List.cons_append, totMq, ih]; omega
theorem take_snocMq {V : List MlV} {k : Nat} {f : MlV} (h : V[k]? = some f) : V.take (k + 1) = V.take k ++ [f] := by
  obtain ⟨hk, rfl⟩ := List.getElem?_eq_some_iff.1 h
  exact List.take_succ_eq_append_getElem hk
theorem cellsMq_len : ∀ U : List MlV, (cellsMq U).length = U.length * 10
  | [] => rfl
  | x :: U => by
    have ih := cellsMq_len U
    unfold cellsMq at ih ⊢
    rw [List.flatMap_cons, List.length_append, ih, List.length_cons]
    simp [MlV.cs]
    omega
theorem cellsMq_get : ∀ (U : List MlV) (i : Nat) (u : MlV), U[i]? = some u → ∀ j, j < 10 → (cellsMq U)[i * 10 + j]? = u.cs[j]?
  | [], i, u, h, _, _ => by simp at h
  | x :: U, 0, u, h, j, hj => by
    simp at h
    subst h
    unfold cellsMq
    rw [List.flatMap_cons, Nat.zero_mul, Nat.zero_add, List.getElem?_append_left (by simp [MlV.cs]; omega)]
  | x :: U, i + 1, u, h, j, hj => by
    have ih := cellsMq_get U i u (by simpa using h) j hj
    unfold cellsMq at ih ⊢
    rw [List.flatMap_cons, List.getElem?_append_right (by simp [MlV.cs]; omega), show (x.cs).length = 10 from rfl, show (i + 1) * 10 + j - 10 = i * 10 + j by omega, ih]

/-- The address leads to those that came in. -/
def MqCame (w : World) (A : Option Addr) (V : List MlV) : Prop :=
  ∀ i v, V[i]? = some v → (∃ b off, A = some ⟨b, off, none⟩ ∧ ∀ j, j < 10 → w.cell? ⟨b, off + i * 10 + j, none⟩ = v.cs[j]?) ∧ BsAt w v.a v.m.e.xs ∧ v.m.e.xs.length ≤ maxLen
theorem MqCame.new {w w' : World} {A : Option Addr} {V : List MlV} (h : MqCame w A V) (t : New w w') : MqCame w' A V := by
  intro i v hv
  obtain ⟨⟨b, off, ha, hc⟩, h1⟩ := h i v hv
  have h0 : w.cell? ⟨b, off + i * 10, none⟩ = some (.int .i64 v.m.kd) := hc 0 (by omega)
  have hb' := t.block b (World.block_lt_of_cell? w _ h0) (fun f => f)
  exact ⟨⟨b, off, ha, fun j hj => (World.cell?_of_block hb').trans (hc j hj)⟩, ⟨h1.1.new t, h1.2⟩⟩
theorem MqCame.at {w : World} {A : Option Addr} {V : List MlV} (h : MqCame w A V) (i : Nat) (hi : i < V.length) :
    ∃ (b off : Nat) (kd tgt me at1 pr : Int) (has : Bool) (ee ki pe : Int) (x : Option Addr) (m d : Nat) (xs : List Int), A = some ⟨b, off, none⟩ ∧ V[i]? = some ⟨⟨kd, tgt, me, at1, pr, has, ⟨ee, ki, pe, xs⟩⟩, x, d⟩ ∧ xs.length = m ∧ BsAt w x xs ∧ m ≤ maxLen ∧ w.cell? ⟨b, off + i * 10, none⟩ = some (.int .i64 kd) ∧ w.cell? ⟨b, off + i * 10 + 1, none⟩ = some (.int .i64 tgt) ∧ w.cell? ⟨b, off + i * 10 + 2, none⟩ = some (.int .i64 me) ∧ w.cell? ⟨b, off + i * 10 + 3, none⟩ = some (.int .i64 at1) ∧ w.cell? ⟨b, off + i * 10 + 4, none⟩ = some (.int .i64 pr) ∧ w.cell? ⟨b, off + i * 10 + 5, none⟩ = some (.bool has) ∧ w.cell? ⟨b, off + i * 10 + 6, none⟩ = some (.int .i64 ee) ∧ w.cell? ⟨b, off + i * 10 + 7, none⟩ = some (.int .i64 ki) ∧ w.cell? ⟨b, off + i * 10 + 8, none⟩ = some (.int .i64 pe) ∧ w.cell? ⟨b, off + i * 10 + 9, none⟩ = some (.slice x m d) := by
  obtain ⟨⟨b, off, h1, h2⟩, h3⟩ := h i _ (List.getElem?_eq_getElem hi)
  exact ⟨b, off, _, _, _, _, _, _, _, _, _, _, _, _, _, h1, List.getElem?_eq_getElem hi, rfl, h3.1, h3.2, h2 0 (by omega), h2 1 (by omega), h2 2 (by omega), h2 3 (by omega), h2 4 (by omega), h2 5 (by omega), h2 6 (by omega), h2 7 (by omega), h2 8 (by omega), h2 9 (by omega)⟩

/-- They can be read there. -/
def MqAt (w : World) (A : Option Addr) (V : List MlV) : Prop :=
  ∀ i v, V[i]? = some v → (∃ g, A = some ⟨g, 0, none⟩ ∧ ∀ j, j < 10 → w.cell? ⟨g, i * 10 + j, none⟩ = v.cs[j]?) ∧ BsAt w v.a v.m.e.xs ∧ v.m.e.xs.length ≤ 1048576
theorem MqAt.new {w w' : World} {A : Option Addr} {V : List MlV} (h : MqAt w A V) (t : New w w') : MqAt w' A V := by
  intro i v hv
  obtain ⟨⟨g, ha, hc⟩, h1⟩ := h i v hv
  have h0 : w.cell? ⟨g, i * 10, none⟩ = some (.int .i64 v.m.kd) := hc 0 (by omega)
  have hb' := t.block g (World.block_lt_of_cell? w _ h0) (fun f => f)
  exact ⟨⟨g, ha, fun j hj => (World.cell?_of_block hb').trans (hc j hj)⟩, ⟨h1.1.new t, h1.2⟩⟩
theorem MqAt.at {w : World} {A : Option Addr} {V : List MlV} (h : MqAt w A V) (i : Nat) (hi : i < V.length) :
    ∃ (g : Nat) (kd tgt me at1 pr : Int) (has : Bool) (ee ki pe : Int) (x : Option Addr) (m d : Nat) (xs : List Int), A = some ⟨g, 0, none⟩ ∧ V[i]? = some ⟨⟨kd, tgt, me, at1, pr, has, ⟨ee, ki, pe, xs⟩⟩, x, d⟩ ∧ xs.length = m ∧ BsAt w x xs ∧ m ≤ 1048576 ∧ w.cell? ⟨g, i * 10, none⟩ = some (.int .i64 kd) ∧ w.cell? ⟨g, i * 10 + 1, none⟩ = some (.int .i64 tgt) ∧ w.cell? ⟨g, i * 10 + 2, none⟩ = some (.int .i64 me) ∧ w.cell? ⟨g, i * 10 + 3, none⟩ = some (.int .i64 at1) ∧ w.cell? ⟨g, i * 10 + 4, none⟩ = some (.int .i64 pr) ∧ w.cell? ⟨g, i * 10 + 5, none⟩ = some (.bool has) ∧ w.cell? ⟨g, i * 10 + 6, none⟩ = some (.int .i64 ee) ∧ w.cell? ⟨g, i * 10 + 7, none⟩ = some (.int .i64 ki) ∧ w.cell? ⟨g, i * 10 + 8, none⟩ = some (.int .i64 pe) ∧ w.cell? ⟨g, i * 10 + 9, none⟩ = some (.slice x m d) := by
  obtain ⟨⟨g, h1, h2⟩, h3⟩ := h i _ (List.getElem?_eq_getElem hi)
  exact ⟨g, _, _, _, _, _, _, _, _, _, _, _, _, _, h1, List.getElem?_eq_getElem hi, rfl, h3.1, h3.2, h2 0 (by omega), h2 1 (by omega), h2 2 (by omega), h2 3 (by omega), h2 4 (by omega), h2 5 (by omega), h2 6 (by omega), h2 7 (by omega), h2 8 (by omega), h2 9 (by omega)⟩

set_option maxHeartbeats 3200000 in
theorem szMqS_gen (A : Option Addr) (n c : Nat) (V : List MlV) (K : Int) (w : World) (hK0 : 0 ≤ K) (hK1 : K ≤ 1048576) (h : MqCame w A V) (hn : V.length = n) (hm : n ≤ maxLen) :
    Calls Tryz.prog 13 #[.slice A n c, .int .i64 K] w fun e w' => (∃ z : Int, e = .returned (.int .i64 z) ∧ (z = -1 ∨ (0 ≤ z ∧ (totMq V : Int) + z = K))) ∧ New w w' := by
  have HN : Hid (V.length = n) := hn
  unfold maxLen at hm
  clear hn
  by_cases hbig : K < (n : Int)
  case pos =>
    go_enter Tryz.func13, Tryz.ntmps13
    go_wp2
    go_ret
    exact ⟨⟨_, rfl, .inl rfl⟩, New.refl _⟩
  have hm' : (n : Int) ≤ K := by omega
  clear hm hbig
  go_enter Tryz.func13, Tryz.ntmps13
  go_wp2
  go_loopw [1, 5] (fun t i wr => ∃ (k : Nat) (z : Int), k ≤ n ∧ 0 ≤ z ∧ z ≤ 1048576 ∧ t = .int .i64 z ∧ i = .int .i64 k ∧ New w wr ∧ (totMq (V.take k) : Int) + (n - k) + z = K) (fun _ i _ => n - (intOf i).toNat)
  case atStart => exact ⟨0, _, Nat.zero_le _, by omega, by omega, rfl, rfl, New.refl _, by simp [totMq]; omega⟩
  case round =>
    obtain ⟨k, z, hk, hz0, hz1, rfl, rfl, hnw, hall⟩ := hrel
    by_cases hlt : k < n
    · obtain ⟨b, off, kd, tgt, me, at1, pr, has, ee, ki, pe, x, m, d, xs, rfl, hv, hlen, hns, hmx, q0, q1, q2, q3, q4, q5, q6, q7, q8, q9⟩ := (h.new hnw).at k (by have := HN.out; omega)
      have HL : Hid (xs.length = m) := hlen
      clear hlen
      have HA : Hid ((totMq (V.take (k + 1)) : Int) + (n - (k + 1)) + (z - (m : Nat)) = K) := by
        unfold Hid
        rw [take_snocMq hv, totMq_snoc]
        simp only [MlV.tot, HL.out]
        omega
      clear hv h hall
      go_wp2_with fail
      refine (szMl_gen kd tgt me at1 pr has ee ki pe x m d z _ hz0 hz1 hmx).mono ?_
      rintro e w1 ⟨⟨y, rfl, hy⟩, hn1⟩
      clear q0 q1 q2 q3 q4 q5 q6 q7 q8 q9
      by_cases hy0 : y < 0
      · go_wp2
        go_ret
        exact ⟨⟨_, rfl, .inl rfl⟩, hnw.trans hn1⟩
      · have hy' : 0 ≤ y ∧ ((m : Nat) : Int) + y = z := by rcases hy with hy | hy; (exfalso; omega); exact hy
        clear hy
        go_wp2
        go_roundw
        case rel => exact ⟨k + 1, y, by omega, by omega, by omega, rfl, by go_num, hnw.trans hn1, by have := HA.out; push_cast at this ⊢; omega⟩
        case measure => simp [intOf]; omega
    · go_wp2
      go_ret
      refine ⟨⟨_, rfl, .inr ⟨hz0, ?_⟩⟩, hnw⟩
      rw [List.take_of_length_le (by have := HN.out; omega)] at hall
      omega

/-- What all zeros are. -/
def zMq : MlV := ⟨⟨0, 0, 0, 0, 0, false, ⟨0, 0, 0, []⟩⟩, none, 0⟩
theorem madeMq (n : Nat) : (madeCells #[.int .i64 0, .int .i64 0, .int .i64 0, .int .i64 0, .int .i64 0, .bool false, .int .i64 0, .int .i64 0, .int .i64 0, .slice none 0 0] (n * 10)).toList = cellsMq (List.replicate n zMq) := by
  apply List.ext_getElem?
  intro k
  by_cases hk : k < n * 10
  · have h1 : (cellsMq (List.replicate n zMq))[k / 10 * 10 + k % 10]? = zMq.cs[k % 10]? := cellsMq_get _ (k / 10) zMq (by rw [List.getElem?_replicate]; simp; omega) (k % 10) (by omega)
    rw [show k / 10 * 10 + k % 10 = k by omega] at h1
    rw [h1]
    simp only [madeCells, Array.toList_map, Array.toList_range, List.getElem?_map, List.getElem?_range hk, Option.map_some]
    have h4 : k % 10 = 0 ∨ k % 10 = 1 ∨ k % 10 = 2 ∨ k % 10 = 3 ∨ k % 10 = 4 ∨ k % 10 = 5 ∨ k % 10 = 6 ∨ k % 10 = 7 ∨ k % 10 = 8 ∨ k % 10 = 9 := by omega
    rcases h4 with e | e | e | e | e | e | e | e | e | e <;> simp [e, MlV.cs, zMq]
  · rw [List.getElem?_eq_none (by simp [madeCells]; omega), List.getElem?_eq_none (by rw [cellsMq_len]; simp; omega)]
theorem set_fillMq (V : List MlV) (k n : Nat) (hn : V.length = k) (hk : k < n) (p : MlV) :
    (V ++ List.replicate (n - k) zMq).set k p = (V ++ [p]) ++ List.replicate (n - (k + 1)) zMq := by
  rw [List.set_append_right _ _ (by omega), hn, Nat.sub_self, show n - k = (n - (k + 1)) + 1 by omega, List.replicate_succ, List.set_cons_zero, List.append_assoc]
  rfl
theorem Tryz.infoMq : (Tryz.prog.info? 115).map (fun i => (i.zero, i.size, i.bytes)) = some (some (.agg #[.int .i64 0, .int .i64 0, .int .i64 0, .int .i64 0, .int .i64 0, .bool false, .int .i64 0, .int .i64 0, .int .i64 0, .slice none 0 0]), 10, 96) := by kernel_rfl
theorem cellsMq_set : ∀ (V : List MlV) (i : Nat) (v : MlV), ((((((((((cellsMq V).set (i * 10) (.int .i64 v.m.kd)).set (i * 10 + 1) (.int .i64 v.m.tgt)).set (i * 10 + 2) (.int .i64 v.m.ep)).set (i * 10 + 3) (.int .i64 v.m.at1)).set (i * 10 + 4) (.int .i64 v.m.pr)).set (i * 10 + 5) (.bool v.m.has)).set (i * 10 + 6) (.int .i64 v.m.e.ep)).set (i * 10 + 7) (.int .i64 v.m.e.ki)).set (i * 10 + 8) (.int .i64 v.m.e.pe)).set (i * 10 + 9) (.slice v.a v.m.e.xs.length v.c) = cellsMq (V.set i v)
  | [], i, p => by simp [cellsMq]
  | q :: V, 0, p => by simp [cellsMq, MlV.cs]
  | q :: V, i + 1, p => by
    have ih := cellsMq_set V i p
    have e : ∀ (q : MlV) (V : List MlV), cellsMq (q :: V) = .int .i64 q.m.kd :: .int .i64 q.m.tgt :: .int .i64 q.m.ep :: .int .i64 q.m.at1 :: .int .i64 q.m.pr :: .bool q.m.has :: .int .i64 q.m.e.ep :: .int .i64 q.m.e.ki :: .int .i64 q.m.e.pe :: .slice q.a q.m.e.xs.length q.c :: cellsMq V := fun _ _ => rfl
    rw [show (i + 1) * 10 = i * 10 + 10 by omega, e, show (q :: V).set (i + 1) p = q :: V.set i p from rfl, e, ← ih]
    simp only [Nat.add_assoc, Nat.reduceAdd, List.set_cons_succ]
theorem setMqk (w : World) (B j : Nat) (v0 v1 v2 v3 v4 v5 v6 v7 v8 v9 : Value) : Turn (fun k => k = B) w ((((((((((w.setCell ⟨B, j, none⟩ v0).setCell ⟨B, j + 1, none⟩ v1).setCell ⟨B, j + 2, none⟩ v2).setCell ⟨B, j + 3, none⟩ v3).setCell ⟨B, j + 4, none⟩ v4).setCell ⟨B, j + 5, none⟩ v5).setCell ⟨B, j + 6, none⟩ v6).setCell ⟨B, j + 7, none⟩ v7).setCell ⟨B, j + 8, none⟩ v8).setCell ⟨B, j + 9, none⟩ v9) :=
  ((((((((((Turn.refl (fun k => k = B) w).set (p := ⟨B, j, none⟩) rfl v0).set (p := ⟨B, j + 1, none⟩) rfl v1).set (p := ⟨B, j + 2, none⟩) rfl v2).set (p := ⟨B, j + 3, none⟩) rfl v3).set (p := ⟨B, j + 4, none⟩) rfl v4).set (p := ⟨B, j + 5, none⟩) rfl v5).set (p := ⟨B, j + 6, none⟩) rfl v6).set (p := ⟨B, j + 7, none⟩) rfl v7).set (p := ⟨B, j + 8, none⟩) rfl v8).set (p := ⟨B, j + 9, none⟩) rfl v9
/-- The block g is a row that a call has made. -/
def RwMq (w : World) (g n c : Nat) (V : List MlV) : Prop := w.ownsRow 0 115 10 (.slice (some ⟨g, 0, none⟩) n c) n (cellsMq V)
theorem RwMq.len {w : World} {g n c : Nat} {V : List MlV} (h : RwMq w g n c V) : V.length = n := by
  have := h.1
  rw [cellsMq_len] at this
  omega
theorem RwMq.lt {w : World} {g n c : Nat} {V : List MlV} (h : RwMq w g n c V) : g < w.heap.size := (World.ownsRow.lt h g rfl).2
theorem RwMq.new {w w' : World} {g n c : Nat} {V : List MlV} (h : RwMq w g n c V) (t : New w w') : RwMq w' g n c V := row9_new h t
theorem RwMq.put {w : World} {g n c : Nat} {V : List MlV} (h : RwMq w g n c V) (i : Nat) (v : MlV) : RwMq ((((((((((w.setCell ⟨g, i * 10, none⟩ (.int .i64 v.m.kd)).setCell ⟨g, i * 10 + 1, none⟩ (.int .i64 v.m.tgt)).setCell ⟨g, i * 10 + 2, none⟩ (.int .i64 v.m.ep)).setCell ⟨g, i * 10 + 3, none⟩ (.int .i64 v.m.at1)).setCell ⟨g, i * 10 + 4, none⟩ (.int .i64 v.m.pr)).setCell ⟨g, i * 10 + 5, none⟩ (.bool v.m.has)).setCell ⟨g, i * 10 + 6, none⟩ (.int .i64 v.m.e.ep)).setCell ⟨g, i * 10 + 7, none⟩ (.int .i64 v.m.e.ki)).setCell ⟨g, i * 10 + 8, none⟩ (.int .i64 v.m.e.pe)).setCell ⟨g, i * 10 + 9, none⟩ (.slice v.a v.m.e.xs.length v.c)) g n c (V.set i v) := by
  have h1 := (World.ownsRow.stored h (i * 10) (.int .i64 v.m.kd)).1
  have h2 := (World.ownsRow.stored h1 (i * 10 + 1) (.int .i64 v.m.tgt)).1
  have h3 := (World.ownsRow.stored h2 (i * 10 + 2) (.int .i64 v.m.ep)).1
  have h4 := (World.ownsRow.stored h3 (i * 10 + 3) (.int .i64 v.m.at1)).1
  have h5 := (World.ownsRow.stored h4 (i * 10 + 4) (.int .i64 v.m.pr)).1
  have h6 := (World.ownsRow.stored h5 (i * 10 + 5) (.bool v.m.has)).1
  have h7 := (World.ownsRow.stored h6 (i * 10 + 6) (.int .i64 v.m.e.ep)).1
  have h8 := (World.ownsRow.stored h7 (i * 10 + 7) (.int .i64 v.m.e.ki)).1
  have h9 := (World.ownsRow.stored h8 (i * 10 + 8) (.int .i64 v.m.e.pe)).1
  have h10 := (World.ownsRow.stored h9 (i * 10 + 9) (.slice v.a v.m.e.xs.length v.c)).1
  unfold RwMq
  rw [← cellsMq_set V i v]
  exact h10
theorem RwMq.cell {w : World} {g n c : Nat} {V : List MlV} (h : RwMq w g n c V) (j : Nat) (hj : j < n * 10) : ∃ v, w.cell? ⟨g, j, none⟩ = some v := by
  have hl := cellsMq_len V
  have := h.len
  exact ⟨_, (World.ownsRow.cellAt h j hj).trans (List.getElem?_eq_getElem (by omega))⟩

/-- What belongs to one of them is the call's own, from lo on. -/
def MlV.own (w : World) (lo : Nat) (v : MlV) : Prop := OvB w lo (.slice v.a v.m.e.xs.length v.c) v.m.e.xs ∧ (∀ z ∈ v.m.e.xs, By z) ∧ v.m.e.xs.length ≤ 1048576
theorem MlV.own.turn {w w' : World} {lo : Nat} {v : MlV} {S : Nat → Prop} (h : v.own w lo) (t : Turn S w w') (hS : ∀ k, lo ≤ k → k < w.heap.size → ¬ S k) : v.own w' lo := by
  exact ⟨h.1.turn t hS, h.2⟩
theorem MlV.own.new {w w' : World} {lo : Nat} {v : MlV} (h : v.own w lo) (t : New w w') : v.own w' lo := h.turn t (fun _ _ _ f => f)
theorem MlV.own.low {w : World} {lo lo' : Nat} {v : MlV} (h : v.own w lo) (hl : lo' ≤ lo) : v.own w lo' := by
  exact ⟨h.1.low hl, h.2⟩
/-- The row and what belongs to it are the call's own, from lo on. -/
structure OwMq (w : World) (lo g n : Nat) (V : List MlV) : Prop where
  row : RwMq w g n n V
  glo : lo ≤ g
  own : ∀ v ∈ V, v.own w lo
theorem OwMq.turn {w w' : World} {lo g n : Nat} {V : List MlV} {S : Nat → Prop} (h : OwMq w lo g n V) (t : Turn S w w') (hS : ∀ k, lo ≤ k → k < w.heap.size → ¬ S k) : OwMq w' lo g n V :=
  ⟨row9_turn h.row t (by intro k hk; simp [Value.ownBlock] at hk; subst hk; exact hS _ h.glo h.row.lt), h.glo, fun v hv => (h.own v hv).turn t hS⟩
theorem OwMq.new {w w' : World} {lo g n : Nat} {V : List MlV} (h : OwMq w lo g n V) (t : New w w') : OwMq w' lo g n V := h.turn t (fun _ _ _ f => f)
theorem OwMq.at' {w : World} {lo g n : Nat} {V : List MlV} (h : OwMq w lo g n V) : MqAt w (some ⟨g, 0, none⟩) V := by
  intro i v hv
  have hl := h.row.len
  have hi : i < V.length := (List.getElem?_eq_some_iff.1 hv).1
  refine ⟨⟨g, rfl, fun j hj => ?_⟩, ?_⟩
  · rw [World.ownsRow.cellAt h.row (i * 10 + j) (by omega)]
    exact cellsMq_get V i v hv j hj
  · have h1 := h.own v (List.mem_of_getElem? hv)
    obtain ⟨a1, a3, a5⟩ := h1
    exact ⟨a1.bsS a3, a5⟩

set_option maxHeartbeats 6400000 in
theorem toMqS_any (A : Option Addr) (n c : Nat) (V : List MlV) (w : World) (h : MqCame w A V) (hn : V.length = n) (hm : totMq V ≤ 1048576) :
    Calls Tryz.prog 20 #[.slice A n c] w fun e w' => ∃ g V', e = .returned (.slice (some ⟨g, 0, none⟩) n n) ∧ V'.map MlV.r = V.map MlV.r ∧ OwMq w' w.heap.size g n V' ∧ New w w' := by
  have HN : Hid (V.length = n) := hn
  have hn1 : n ≤ 1048576 := by have := totMq_len V; omega
  have HM : Hid (∀ v ∈ V, v.tot ≤ 1048576) := fun v hv => Nat.le_trans (totMq_mem V v hv) hm
  clear hn hm
  obtain ⟨i0, hi, hz0, hz1, hz2⟩ := info_parts Tryz.infoMq
  go_enter Tryz.func20, Tryz.ntmps20
  go_wp2_with (at_make; refine wpList_make_full _ rfl _ _ 43 rfl w.heap.size 115 i0 (.agg #[.int .i64 0, .int .i64 0, .int .i64 0, .int .i64 0, .int .i64 0, .bool false, .int .i64 0, .int .i64 0, .int .i64 0, .slice none 0 0]) 10 Tryz.underlying43 hi hz0 hz1 _ _ _ _ n rfl rfl rfl rfl ?b2 ?b3 (Nat.le_refl _) ?_)
  case b2 => rw [hz2]; omega
  case b3 => unfold maxLen; omega
  intro w0 hown0 hgrow0
  have hown : RwMq w0 w.heap.size n n ([] ++ List.replicate (n - 0) zMq) := by
    have := own_base hown0
    have e8 := madeMq n
    simp only [RwMq, List.nil_append, Nat.sub_zero]
    rw [← e8]
    exact this
  have hnew := New.of_grown hgrow0
  clear hown0 hgrow0
  go_wp2
  go_loopw [4] (fun i wr => ∃ (k : Nat) (V' : List MlV), k ≤ n ∧ i = .int .i64 k ∧ V'.length = k ∧ V'.map MlV.r = (V.take k).map MlV.r ∧ New w wr ∧ RwMq wr w.heap.size n n (V' ++ List.replicate (n - k) zMq) ∧ ∀ v ∈ V', v.own wr (w.heap.size + 1)) (fun i _ => n - (intOf i).toNat)
  case atStart => exact ⟨0, [], Nat.zero_le _, rfl, rfl, rfl, hnew, hown, by simp⟩
  case round =>
    obtain ⟨k, V', hk, rfl, hl', hmap, hnw, how, hpa⟩ := hrel
    have HL' : Hid (V'.length = k) := hl'
    clear hl'
    by_cases hlt : k < n
    · obtain ⟨b, off, kd, tgt, me, at1, pr, has, ee, ki, pe, x, m, d, xs, rfl, hv, hlen, hns, hmx, q0, q1, q2, q3, q4, q5, q6, q7, q8, q9⟩ := (h.new hnw).at k (by have := HN.out; omega)
      have HL : Hid (xs.length = m) := hlen
      clear hlen
      have hmm := HM.out _ (List.mem_of_getElem? hv)
      simp only [MlV.tot, HL.out] at hmm
      have hbd : Hid (∀ z ∈ xs, By z) := hns.lt
      have HMp : Hid (∀ u : MlV, u.r = MlV.r ⟨⟨kd, tgt, me, at1, pr, has, ⟨ee, ki, pe, xs⟩⟩, x, d⟩ → (V' ++ [u]).map MlV.r = (V.take (k + 1)).map MlV.r) := by
        intro u hu
        obtain ⟨hk', e⟩ := List.getElem?_eq_some_iff.1 hv
        rw [List.take_succ_eq_append_getElem hk', e, List.map_append, List.map_append, hmap]
        simp [hu]
      have hgl : w.heap.size < wr.heap.size := how.lt
      clear hv hmap
      go_wp2_with fail
      refine (toMl_any kd tgt me at1 pr has ee ki pe x m d xs _ hns HL.out (by omega)).mono ?_
      rintro e w1 ⟨g, rfl, hg, ho, hn1'⟩
      have how1 := how.new hn1'
      have hput := how1.put k (MlV.mk (Ml.mk kd tgt me at1 pr has (Ek.mk ee ki pe xs)) (some (Addr.mk g 0 none)) m)
      rw [set_fillMq V' k n HL'.out hlt] at hput
      simp only [HL.out] at hput
      have HPU : Hid _ := hput
      have hn2 := hnw.trans hn1'
      have HPA : Hid (∀ v ∈ V' ++ [(MlV.mk (Ml.mk kd tgt me at1 pr has (Ek.mk ee ki pe xs)) (some (Addr.mk g 0 none)) m)], v.own w1 (w.heap.size + 1)) := by
        intro v hv
        rcases List.mem_append.1 hv with hv | hv
        · exact (hpa v hv).new hn1'
        · obtain rfl := List.mem_singleton.1 hv
          unfold MlV.own
          simp only [HL.out]
          exact ⟨(OvB.ofK ho).low (by omega), hbd.out, by omega⟩
      have HR : Hid (MlV.r (MlV.mk (Ml.mk kd tgt me at1 pr has (Ek.mk ee ki pe xs)) (some (Addr.mk g 0 none)) m) = MlV.r ⟨⟨kd, tgt, me, at1, pr, has, ⟨ee, ki, pe, xs⟩⟩, x, d⟩) := by
        rfl
      have f0 := fun j => World.ownsRow.frozenAt how1 j
      obtain ⟨v0, c0⟩ := how1.cell (k * 10) (by omega)
      obtain ⟨v1, c1⟩ := how1.cell (k * 10 + 1) (by omega)
      obtain ⟨v2, c2⟩ := how1.cell (k * 10 + 2) (by omega)
      obtain ⟨v3, c3⟩ := how1.cell (k * 10 + 3) (by omega)
      obtain ⟨v4, c4⟩ := how1.cell (k * 10 + 4) (by omega)
      obtain ⟨v5, c5⟩ := how1.cell (k * 10 + 5) (by omega)
      obtain ⟨v6, c6⟩ := how1.cell (k * 10 + 6) (by omega)
      obtain ⟨v7, c7⟩ := how1.cell (k * 10 + 7) (by omega)
      obtain ⟨v8, c8⟩ := how1.cell (k * 10 + 8) (by omega)
      obtain ⟨v9, c9⟩ := how1.cell (k * 10 + 9) (by omega)
      clear h how how1 q0 q1 q2 q3 q4 q5 q6 q7 q8 q9 hnw hpa hput hns ho
      go_wp2
      go_roundw
      case rel =>
        have tt : Turn (fun j => j = w.heap.size) w1 ((((((((((w1.setCell ⟨w.heap.size, k * 10, none⟩ (.int .i64 kd)).setCell ⟨w.heap.size, k * 10 + 1, none⟩ (.int .i64 tgt)).setCell ⟨w.heap.size, k * 10 + 2, none⟩ (.int .i64 me)).setCell ⟨w.heap.size, k * 10 + 3, none⟩ (.int .i64 at1)).setCell ⟨w.heap.size, k * 10 + 4, none⟩ (.int .i64 pr)).setCell ⟨w.heap.size, k * 10 + 5, none⟩ (.bool has)).setCell ⟨w.heap.size, k * 10 + 6, none⟩ (.int .i64 ee)).setCell ⟨w.heap.size, k * 10 + 7, none⟩ (.int .i64 ki)).setCell ⟨w.heap.size, k * 10 + 8, none⟩ (.int .i64 pe)).setCell ⟨w.heap.size, k * 10 + 9, none⟩ (.slice (some ⟨g, 0, none⟩) m m)) := setMqk w1 w.heap.size (k * 10) _ _ _ _ _ _ _ _ _ _
        refine ⟨k + 1, V' ++ [(MlV.mk (Ml.mk kd tgt me at1 pr has (Ek.mk ee ki pe xs)) (some (Addr.mk g 0 none)) m)], by omega, by go_num, by simp [HL'.out], HMp.out _ HR.out, ?_, HPU.out, ?_⟩
        · exact hn2.before tt (by intro i hi e; omega)
        · exact fun v hv => (HPA.out v hv).turn tt (by intro j h1 h2 e; omega)
      case measure => simp [intOf]; omega
    · go_wp2
      go_ret
      have hkn : k = n := by omega
      subst hkn
      rw [List.take_of_length_le (by have := HN.out; omega)] at hmap
      simp only [Nat.sub_self, List.replicate_zero, List.append_nil] at how
      exact ⟨_, V', rfl, hmap, ⟨how, Nat.le_refl _, fun v hv => (hpa v hv).low (by omega)⟩, hnw⟩

set_option maxHeartbeats 3200000 in
theorem eqMqS_any (A B : Option Addr) (n c d : Nat) (V U : List MlV) (w : World) (hF : MqAt w A V) (hG : MqAt w B U) (hVU : V.map MlV.r = U.map MlV.r) (hn : V.length = n) (hm : n ≤ 2097152) :
    Calls Tryz.prog 30 #[.slice A n c, .slice B n d] w fun e w' => e = .returned (.bool true) ∧ New w w' := by
  have hnn : ((n : Int) != (n : Int)) = false := by simp
  have HN : Hid (V.length = n) := hn
  have HU : Hid (V.map MlV.r = U.map MlV.r) := hVU
  have HUN : Hid (U.length = n) := by
    have := congrArg List.length hVU
    simp at this
    show U.length = n
    omega
  clear hn hVU
  go_enter Tryz.func30, Tryz.ntmps30
  go_wp2
  go_loopw [5] (fun i wr => ∃ k : Nat, k ≤ n ∧ i = .int .i64 k ∧ New w wr) (fun i _ => n - (intOf i).toNat)
  case atStart => exact ⟨0, Nat.zero_le _, rfl, New.refl _⟩
  case round =>
    obtain ⟨k, hk, rfl, hnw⟩ := hrel
    by_cases hlt : k < n
    · obtain ⟨g1, kd, tgt, me, at1, pr, has, ee, ki, pe, x, m, d, xs, rfl, hp1, hlen, hns, hmx, q0, q1, q2, q3, q4, q5, q6, q7, q8, q9⟩ := (hF.new hnw).at k (by have := HN.out; omega)
      obtain ⟨g2, kd', tgt', me', at1', pr', has', ee', ki', pe', x', m', d', xs', rfl, hp2, hlen', hns', hmx', y0, y1, y2, y3, y4, y5, y6, y7, y8, y9⟩ := (hG.new hnw).at k (by have := HUN.out; omega)
      have hh : MlV.r ⟨⟨kd, tgt, me, at1, pr, has, ⟨ee, ki, pe, xs⟩⟩, x, d⟩ = MlV.r ⟨⟨kd', tgt', me', at1', pr', has', ⟨ee', ki', pe', xs'⟩⟩, x', d'⟩ := by
        have h1 : (V.map MlV.r)[k]? = some (MlV.r ⟨⟨kd, tgt, me, at1, pr, has, ⟨ee, ki, pe, xs⟩⟩, x, d⟩) := by rw [List.getElem?_map, hp1]; rfl
        have h2 : (U.map MlV.r)[k]? = some (MlV.r ⟨⟨kd', tgt', me', at1', pr', has', ⟨ee', ki', pe', xs'⟩⟩, x', d'⟩) := by rw [List.getElem?_map, hp2]; rfl
        rw [HU.out, h2] at h1
        exact (Option.some.inj h1).symm
      simp only [MlV.r, Ml.mk.injEq, Ek.mk.injEq] at hh
      obtain ⟨rfl, rfl, rfl, rfl, rfl, rfl, rfl, rfl, rfl, rfl⟩ := hh
      obtain rfl : m = m' := hlen.symm.trans hlen'
      have HL : Hid (xs.length = m) := hlen
      clear hlen hlen'
      clear hp1 hp2 hF hG
      have X0 := cell_regrown q0
      have Y0 := cell_regrown y0
      have X1 := cell_regrown q1
      have Y1 := cell_regrown y1
      have X2 := cell_regrown q2
      have Y2 := cell_regrown y2
      have X3 := cell_regrown q3
      have Y3 := cell_regrown y3
      have X4 := cell_regrown q4
      have Y4 := cell_regrown y4
      have X5 := cell_regrown q5
      have Y5 := cell_regrown y5
      have X6 := cell_regrown q6
      have Y6 := cell_regrown y6
      have X7 := cell_regrown q7
      have Y7 := cell_regrown y7
      have X8 := cell_regrown q8
      have Y8 := cell_regrown y8
      have X9 := cell_regrown q9
      have Y9 := cell_regrown y9
      go_wp2_with fail
      refine wp_region_quiet_below (by kernel_rfl) (by kernel_rfl) ?_
      repeat (go_big_quiet_step ((go_at_call 62; exact calls_regrown (eqMl_any kd tgt me at1 pr has ee ki pe x x' m d d' xs _ (hns.new (new_regrown _ _ _)) (hns'.new (new_regrown _ _ _)) HL.out (by omega)))))
      refine wpQuiet_nil ?_
      rintro w1 hn1
      replace hn1 := new_of_regrown hn1
      go_wp2
      go_roundw
      case rel => exact ⟨k + 1, by omega, by go_num, hnw.trans hn1⟩
      case measure => simp [intOf]; omega
    · go_wp2
      go_ret
      exact ⟨rfl, hnw⟩

set_option maxRecDepth 100000 in
theorem open_Mq_cells {H : Type} {enc : TypeId × Value → H} {W : World} {base fuel : Nat} {t1 : Nat → Bool} {t2 : Bool} {c0 c1 c2 c3 c4 c5 c6 c7 c8 c9 : Value} {y : DataW H × List MemPlace}
    (hf' : DataW.trod enc Tryz.prog W base t1 t2 fuel 96 [c0, c1, c2, c3, c4, c5, c6, c7, c8, c9] = some y) :
    ∃ v : MlV, [c0, c1, c2, c3, c4, c5, c6, c7, c8, c9] = v.cs ∧ BsAt W v.a v.m.e.xs ∧ v.m.e.xs.length ≤ maxLen := by
  obtain ⟨ys, m', _, rfl, hl, hlen, hq⟩ := DataW.trod_struct Tryz.underlying96 hf'
  match ys, hlen with
  | [y0, y1, y2, y3, y4, y5, y6], _ =>
    have k0 := hq 0 _ rfl
    have k1 := hq 1 _ rfl
    have k2 := hq 2 _ rfl
    have k3 := hq 3 _ rfl
    have k4 := hq 4 _ rfl
    have k5 := hq 5 _ rfl
    have k6 := hq 6 _ rfl
    simp [Tryz.cEn10, Tryz.cI9, Tryz.cBl] at k0 k1 k2 k3 k4 k5 k6
    obtain ⟨kd, e0, -, w0⟩ := DataW.trod_int Tryz.underlying2 k0
    obtain ⟨tgt, e1, -, w1⟩ := DataW.trod_int Tryz.underlying2 k1
    obtain ⟨me, e2, -, w2⟩ := DataW.trod_int Tryz.underlying2 k2
    obtain ⟨at1, e3, -, w3⟩ := DataW.trod_int Tryz.underlying2 k3
    obtain ⟨pr, e4, -, w4⟩ := DataW.trod_int Tryz.underlying2 k4
    obtain ⟨has, e5, -⟩ := DataW.trod_bool Tryz.underlying4 k5
    obtain ⟨⟨⟨ee, ki, pe, zs⟩, a, cc⟩, e6, hb, hlm⟩ := open_entry_cells k6
    simp only [List.cons.injEq, and_true] at e0 e1 e2 e3 e4 e5
    simp only [EkV.cs, List.cons.injEq, and_true] at e6
    obtain ⟨rfl, rfl, rfl, rfl⟩ := e6
    subst e0 e1 e2 e3 e4 e5
    exact ⟨⟨⟨kd, tgt, me, at1, pr, has, ⟨ee, ki, pe, zs⟩⟩, a, cc⟩, rfl, hb, hlm⟩

set_option maxRecDepth 100000 in
theorem open_MqS {H : Type} {enc : TypeId × Value → H} {W : World} {base fuel : Nat} {t1 : Nat → Bool} {t2 : Bool} {cs : List Value} {y : DataW H × List MemPlace}
    (hf : DataW.trod enc Tryz.prog W base t1 t2 fuel 29 cs = some y) : ∃ a n c V, cs = [.slice a n c] ∧ MqCame W a V ∧ V.length = n ∧ n ≤ maxLen := by
  rcases open_slice Tryz.underlying29 hf with ⟨hcs, _⟩ | ⟨x, l, cc, m, k, D, Pl, hcs, _, hl, hm, hmm, _, hall⟩
  · exact ⟨none, 0, 0, [], hcs, (by intro i v hv; simp at hv), rfl, Nat.zero_le _⟩
  · have hlm : l ≤ m := by rw [hmm]; split <;> omega
    have each : ∀ i, i < l → ∃ v : MlV, (∀ j, j < 10 → W.cell? (x.add (i * 10 + j)) = v.cs[j]?) ∧ BsAt W v.a v.m.e.xs ∧ v.m.e.xs.length ≤ maxLen := by
      intro i hi
      obtain ⟨cs', h1, h2⟩ := hall i (by omega)
      rw [Tryz.cMl] at h1
      obtain ⟨_, hlen, hcell⟩ := World.cells?_some h1
      match cs', hlen with
      | [c0, c1, c2, c3, c4, c5, c6, c7, c8, c9], _ =>
        obtain ⟨r, hr, hcm⟩ := open_Mq_cells h2
        refine ⟨r, fun j hj => ?_, hcm⟩
        have hc := hcell j (by omega)
        rw [add_add] at hc
        rw [hc, hr]
    refine ⟨some x, l, cc, (List.range l).map (fun i => if h : i < l then (each i h).choose else zMq), hcs, ?_, by simp, Nat.le_trans hl hm⟩
    obtain ⟨b, off, spot⟩ := x
    intro i q hq
    have hi : i < l := by
      have := (List.getElem?_eq_some_iff.1 hq).1
      simpa using this
    have hq' : q = (each i hi).choose := by
      rw [List.getElem?_map, List.getElem?_range hi] at hq
      simpa [hi] using hq.symm
    have hs := (each i hi).choose_spec
    rw [← hq'] at hs
    have hspot : spot = none := by
      obtain ⟨v, hr0, -⟩ := each 0 (by omega)
      have h2 : W.cell? (Addr.add ⟨b, off, spot⟩ (0 * 10 + 0)) = some (.int .i64 v.m.kd) := hr0 0 (by omega)
      simpa [Addr.add] using World.cell?_spot h2
    subst hspot
    refine ⟨⟨b, off, rfl, fun j hj => ?_⟩, hs.2⟩
    have := hs.1 j hj
    rw [Addr.add_lit] at this
    rw [Nat.add_assoc]
    exact this

end Go.Proofs.YtlkhmnjghdbmoaaGreatDoor

namespace Go.Proofs.YtlkhmnjghdbmoaaGreatDoor
open Go.ChangeShapes Go.WideShapes Go.ChangeAt Go.RowKit Go.Deep Go.Sort
set_option linter.unusedVariables false
set_option linter.unusedSimpArgs false

/-- A pair that came in. -/
structure PCame (w : World) (a1 a2 aN aW aM aS : Option Addr) (n1 n2 nN nW nM nS : Nat) (r1 r2 : List Ru) (LN : List NdV) (LW : List WiV) (LM : List MlV) (LS : List EkV) : Prop where
  s1 : RsAt w a1 r1
  s2 : RsAt w a2 r2
  l1 : r1.length = n1
  l2 : r2.length = n2
  b1 : n1 ≤ maxLen
  b2 : n2 ≤ maxLen
  nd : NdCame w aN LN
  lN : LN.length = nN
  bN : nN ≤ maxLen
  wi : WiCame w aW LW
  lW : LW.length = nW
  bW : nW ≤ maxLen
  mq : MqCame w aM LM
  lM : LM.length = nM
  bM : nM ≤ maxLen
  se : EkCame w aS LS
  lS : LS.length = nS
  bS : nS ≤ maxLen
theorem PCame.new {w w' : World} {a1 a2 aN aW aM aS : Option Addr} {n1 n2 nN nW nM nS : Nat} {r1 r2 : List Ru} {LN : List NdV} {LW : List WiV} {LM : List MlV} {LS : List EkV} (h : PCame w a1 a2 aN aW aM aS n1 n2 nN nW nM nS r1 r2 LN LW LM LS) (t : New w w') : PCame w' a1 a2 aN aW aM aS n1 n2 nN nW nM nS r1 r2 LN LW LM LS :=
  ⟨h.s1.new t, h.s2.new t, h.l1, h.l2, h.b1, h.b2, h.nd.new t, h.lN, h.bN, h.wi.new t, h.lW, h.bW, h.mq.new t, h.lM, h.bM, h.se.new t, h.lS, h.bS⟩
/-- A list has its room: none, or a row from its first place on. -/
def FitK (A : Option Addr) (n c : Nat) : Prop := n ≤ c ∧ ((A = none ∧ n = 0 ∧ c = 0) ∨ ∃ g, A = some ⟨g, 0, none⟩)
theorem row_fit {w : World} {lo sz n m c : Nat} {e : TypeId} {A : Option Addr} {xs : List Value} (h : w.ownsRow lo e sz (.slice A n c) m xs) : FitK A n c := by
  rcases h.2 with ⟨h1, h2⟩ | ⟨g, c', cur, h1, h2, h3, h4, h5⟩
  · simp only [Value.slice.injEq] at h1
    obtain ⟨rfl, rfl, rfl⟩ := h1
    exact ⟨Nat.le_refl _, .inl ⟨rfl, rfl, rfl⟩⟩
  · simp only [Value.slice.injEq] at h1
    obtain ⟨rfl, rfl, rfl⟩ := h1
    exact ⟨h4, .inr ⟨g, rfl⟩⟩
/-- A pair that can be read. -/
structure PAt (w : World) (a1 a2 aN aW aM aS : Option Addr) (r1 r2 : List Ru) (VN : List NdV) (VW : List WiV) (VM : List MlV) (VS : List EkV) : Prop where
  s1 : RsAt w a1 r1
  s2 : RsAt w a2 r2
  nd : NdAt w aN VN
  wi : WiAt w aW VW
  mq : MqAt w aM VM
  se : LgAt w aS VS
  rowN : ∃ g, aN = some ⟨g, 0, none⟩ ∧ RwNd w g VN.length VN.length VN
  fitN : ∀ v ∈ VN, FitK v.A v.V.length v.c
  fitW : ∀ v ∈ VW, FitK v.a v.xs.length v.c ∧ FitK v.b v.ys.length v.d
  nlN : ∀ v ∈ VN, NlK v.V
  nlS : NlK VS
theorem PAt.new {w w' : World} {a1 a2 aN aW aM aS : Option Addr} {r1 r2 : List Ru} {VN : List NdV} {VW : List WiV} {VM : List MlV} {VS : List EkV} (h : PAt w a1 a2 aN aW aM aS r1 r2 VN VW VM VS) (t : New w w') : PAt w' a1 a2 aN aW aM aS r1 r2 VN VW VM VS :=
  ⟨h.s1.new t, h.s2.new t, h.nd.new t, h.wi.new t, h.mq.new t, h.se.new t, by obtain ⟨g, e, k⟩ := h.rowN; exact ⟨g, e, k.new t⟩, h.fitN, h.fitW, h.nlN, h.nlS⟩
/-- How great a pair is at most. -/
structure PSm (n1 n2 : Nat) (LN : List NdV) (LW : List WiV) (LM : List MlV) (LS : List EkV) : Prop where
  m1 : n1 ≤ 1048576
  m2 : n2 ≤ 1048576
  mN : totNd LN ≤ 1048576
  mW : totWi LW ≤ 1048576
  mM : totMq LM ≤ 1048576
  mS : totK LS ≤ 1048576
/-- Two pairs read alike. -/
structure PEq (LN VN : List NdV) (LW VW : List WiV) (LM VM : List MlV) (LS VS : List EkV) : Prop where
  nd : VN.map NdV.r = LN.map NdV.r
  wi : VW.map WiV.r = LW.map WiV.r
  mq : VM.map MlV.r = LM.map MlV.r
  se : VS.map EkV.r = LS.map EkV.r

set_option maxHeartbeats 3200000 in
theorem szPair_any (sa si ho nx : Int) (a1 a2 aN aW aM aS : Option Addr) (n1 c1 n2 c2 nN cN nW cW nM cM nS cS : Nat) (r1 r2 : List Ru) (LN : List NdV) (LW : List WiV) (LM : List MlV) (LS : List EkV) (w : World) (h : PCame w a1 a2 aN aW aM aS n1 n2 nN nW nM nS r1 r2 LN LW LM LS) :
    Calls Tryz.prog 4 #[.agg #[.int .i64 sa, .int .i64 si, .int .i64 ho, .int .i64 nx, .slice a1 n1 c1, .slice a2 n2 c2, .slice aN nN cN, .slice aW nW cW, .slice aM nM cM, .slice aS nS cS], .int .i64 1048576] w fun e w' => (∃ z : Int, e = .returned (.int .i64 z) ∧ (z = -1 ∨ ((0 ≤ z ∧ z ≤ 1048576) ∧ PSm n1 n2 LN LW LM LS))) ∧ New w w' := by
  have hw := (New.refl w).alloc (.cells #[.int .i64 sa, .int .i64 si, .int .i64 ho, .int .i64 nx, .slice a1 n1 c1, .slice a2 n2 c2, .slice aN nN cN, .slice aW nW cW, .slice aM nM cM, .slice aS nS cS] 32)
  have b0 := Blk.mk w w.heap.size 32 #[.int .i64 sa, .int .i64 si, .int .i64 ho, .int .i64 nx, .slice a1 n1 c1, .slice a2 n2 c2, .slice aN nN cN, .slice aW nW cW, .slice aM nM cM, .slice aS nS cS] rfl
  have c0 := b0.cells
  by_cases hbig : 1048576 < n1 + n2
  case pos =>
    go_enter Tryz.func4, Tryz.ntmps4
    go_wp2_with fail
    refine (szSe_big sa si ho nx a1 a2 n1 c1 n2 c2 1048576 _ (Nat.le_refl _) hbig h.b1 h.b2).mono ?_
    rintro e w1 ⟨rfl, hn1⟩
    go_wp2
    go_ret
    exact ⟨⟨_, rfl, .inl rfl⟩, hw.trans hn1⟩
  go_enter Tryz.func4, Tryz.ntmps4
  go_wp2_with fail
  refine (szSe_ok sa si ho nx a1 a2 n1 c1 n2 c2 1048576 _ (Nat.le_refl _) (by omega)).mono ?_
  rintro e w1 ⟨rfl, hn1⟩
  have hw1 := hw.trans hn1
  have b1 := b0.new hn1
  have hz0 : ((1048576 - n1 - n2 : Nat) : Int) + n1 + n2 = 1048576 := by omega
  have hp0 : (0 : Int) ≤ ((1048576 - n1 - n2 : Nat) : Int) := by omega
  generalize ((1048576 - n1 - n2 : Nat) : Int) = z0 at *
  clear c0 b0 hw hn1
  have c1 := b1.cells
  go_wp2_with fail
  refine (szNdS_gen aN nN cN LN z0 _ (by omega) (by omega) (h.nd.new hw1) h.lN h.bN).mono ?_
  rintro e w2 ⟨⟨z1, rfl, hy⟩, hm1⟩
  have hw2 := hw1.trans hm1
  have b2 := b1.new hm1
  clear c1 hm1 b1
  by_cases hy0 : z1 < 0
  · go_wp2
    go_ret
    exact ⟨⟨_, rfl, .inl rfl⟩, hw2⟩
  have hp1 : (0 : Int) ≤ z1 := by omega
  have hz1 : (totNd LN : Int) + z1 = z0 := by rcases hy with hy | hy; (exfalso; omega); exact hy.2
  clear hy hy0
  have c2 := b2.cells
  go_wp2_with fail
  refine (szWiS_gen aW nW cW LW z1 _ (by omega) (by omega) (h.wi.new hw2) h.lW h.bW).mono ?_
  rintro e w3 ⟨⟨z2, rfl, hy⟩, hm2⟩
  have hw3 := hw2.trans hm2
  have b3 := b2.new hm2
  clear c2 hm2 b2
  by_cases hy0 : z2 < 0
  · go_wp2
    go_ret
    exact ⟨⟨_, rfl, .inl rfl⟩, hw3⟩
  have hp2 : (0 : Int) ≤ z2 := by omega
  have hz2 : (totWi LW : Int) + z2 = z1 := by rcases hy with hy | hy; (exfalso; omega); exact hy.2
  clear hy hy0
  have c3 := b3.cells
  go_wp2_with fail
  refine (szMqS_gen aM nM cM LM z2 _ (by omega) (by omega) (h.mq.new hw3) h.lM h.bM).mono ?_
  rintro e w4 ⟨⟨z3, rfl, hy⟩, hm3⟩
  have hw4 := hw3.trans hm3
  have b4 := b3.new hm3
  clear c3 hm3 b3
  by_cases hy0 : z3 < 0
  · go_wp2
    go_ret
    exact ⟨⟨_, rfl, .inl rfl⟩, hw4⟩
  have hp3 : (0 : Int) ≤ z3 := by omega
  have hz3 : (totMq LM : Int) + z3 = z2 := by rcases hy with hy | hy; (exfalso; omega); exact hy.2
  clear hy hy0
  have c4 := b4.cells
  go_wp2_with fail
  refine (szEkS_gen aS nS cS LS z3 _ (by omega) (by omega) (h.se.new hw4) h.lS h.bS).mono ?_
  rintro e w5 ⟨⟨z4, rfl, hy⟩, hm4⟩
  have hw5 := hw4.trans hm4
  have b5 := b4.new hm4
  clear c4 hm4 b4
  by_cases hy0 : z4 < 0
  · go_wp2
    go_ret
    exact ⟨⟨_, rfl, .inl rfl⟩, hw5⟩
  have hp4 : (0 : Int) ≤ z4 := by omega
  have hz4 : (totK LS : Int) + z4 = z3 := by rcases hy with hy | hy; (exfalso; omega); exact hy.2
  clear hy hy0
  go_wp2
  go_ret
  exact ⟨⟨_, rfl, .inr ⟨⟨by omega, by omega⟩, ⟨by omega, by omega, by omega, by omega, by omega, by omega⟩⟩⟩, hw5⟩

set_option maxHeartbeats 6400000 in
theorem toPair_any (sa si ho nx : Int) (a1 a2 aN aW aM aS : Option Addr) (n1 c1 n2 c2 nN cN nW cW nM cM nS cS : Nat) (r1 r2 : List Ru) (LN : List NdV) (LW : List WiV) (LM : List MlV) (LS : List EkV) (w : World) (h : PCame w a1 a2 aN aW aM aS n1 n2 nN nW nM nS r1 r2 LN LW LM LS) (hs : PSm n1 n2 LN LW LM LS) :
    Calls Tryz.prog 6 #[.agg #[.int .i64 sa, .int .i64 si, .int .i64 ho, .int .i64 nx, .slice a1 n1 c1, .slice a2 n2 c2, .slice aN nN cN, .slice aW nW cW, .slice aM nM cM, .slice aS nS cS]] w fun e w' => ∃ (g1 g2 gN gW gM gS : Nat) (VN : List NdV) (VW : List WiV) (VM : List MlV) (VS : List EkV), e = .returned (.agg #[.int .i64 sa, .int .i64 si, .int .i64 ho, .int .i64 nx, .slice (some ⟨g1, 0, none⟩) n1 n1, .slice (some ⟨g2, 0, none⟩) n2 n2, .slice (some ⟨gN, 0, none⟩) nN nN, .slice (some ⟨gW, 0, none⟩) nW nW, .slice (some ⟨gM, 0, none⟩) nM nM, .slice (some ⟨gS, 0, none⟩) nS nS]) ∧ PEq LN VN LW VW LM VM LS VS ∧ PAt w' (some ⟨g1, 0, none⟩) (some ⟨g2, 0, none⟩) (some ⟨gN, 0, none⟩) (some ⟨gW, 0, none⟩) (some ⟨gM, 0, none⟩) (some ⟨gS, 0, none⟩) r1 r2 VN VW VM VS ∧ New w w' := by
  have hw0 : New w (((w.alloc (.cells #[.int .i64 sa, .int .i64 si, .int .i64 ho, .int .i64 nx, .slice a1 n1 c1, .slice a2 n2 c2, .slice aN nN cN, .slice aW nW cW, .slice aM nM cM, .slice aS nS cS] 32)).alloc (.cells #[.int .i64 0, .int .i64 0, .int .i64 0, .int .i64 0, .slice none 0 0, .slice none 0 0, .slice none 0 0, .slice none 0 0, .slice none 0 0, .slice none 0 0] 46)).alloc (.cells #[.int .i64 0, .int .i64 0, .int .i64 0, .int .i64 0, .slice none 0 0, .slice none 0 0, .slice none 0 0, .slice none 0 0, .slice none 0 0, .slice none 0 0] 46)) := (((New.refl w).alloc _).alloc _).alloc _
  have b0 : Blk (((w.alloc (.cells #[.int .i64 sa, .int .i64 si, .int .i64 ho, .int .i64 nx, .slice a1 n1 c1, .slice a2 n2 c2, .slice aN nN cN, .slice aW nW cW, .slice aM nM cM, .slice aS nS cS] 32)).alloc (.cells #[.int .i64 0, .int .i64 0, .int .i64 0, .int .i64 0, .slice none 0 0, .slice none 0 0, .slice none 0 0, .slice none 0 0, .slice none 0 0, .slice none 0 0] 46)).alloc (.cells #[.int .i64 0, .int .i64 0, .int .i64 0, .int .i64 0, .slice none 0 0, .slice none 0 0, .slice none 0 0, .slice none 0 0, .slice none 0 0, .slice none 0 0] 46)) w.heap.size 32 #[.int .i64 sa, .int .i64 si, .int .i64 ho, .int .i64 nx, .slice a1 n1 c1, .slice a2 n2 c2, .slice aN nN cN, .slice aW nW cW, .slice aM nM cM, .slice aS nS cS] := ((Blk.mk _ _ _ _ rfl).alloc _).alloc _
  have b1 : Blk (((w.alloc (.cells #[.int .i64 sa, .int .i64 si, .int .i64 ho, .int .i64 nx, .slice a1 n1 c1, .slice a2 n2 c2, .slice aN nN cN, .slice aW nW cW, .slice aM nM cM, .slice aS nS cS] 32)).alloc (.cells #[.int .i64 0, .int .i64 0, .int .i64 0, .int .i64 0, .slice none 0 0, .slice none 0 0, .slice none 0 0, .slice none 0 0, .slice none 0 0, .slice none 0 0] 46)).alloc (.cells #[.int .i64 0, .int .i64 0, .int .i64 0, .int .i64 0, .slice none 0 0, .slice none 0 0, .slice none 0 0, .slice none 0 0, .slice none 0 0, .slice none 0 0] 46)) (w.heap.size + 1) 46 #[.int .i64 0, .int .i64 0, .int .i64 0, .int .i64 0, .slice none 0 0, .slice none 0 0, .slice none 0 0, .slice none 0 0, .slice none 0 0, .slice none 0 0] := (Blk.mk _ _ _ _ (by simp)).alloc _
  have b2 : Blk (((w.alloc (.cells #[.int .i64 sa, .int .i64 si, .int .i64 ho, .int .i64 nx, .slice a1 n1 c1, .slice a2 n2 c2, .slice aN nN cN, .slice aW nW cW, .slice aM nM cM, .slice aS nS cS] 32)).alloc (.cells #[.int .i64 0, .int .i64 0, .int .i64 0, .int .i64 0, .slice none 0 0, .slice none 0 0, .slice none 0 0, .slice none 0 0, .slice none 0 0, .slice none 0 0] 46)).alloc (.cells #[.int .i64 0, .int .i64 0, .int .i64 0, .int .i64 0, .slice none 0 0, .slice none 0 0, .slice none 0 0, .slice none 0 0, .slice none 0 0, .slice none 0 0] 46)) (w.heap.size + 1 + 1) 46 #[.int .i64 0, .int .i64 0, .int .i64 0, .int .i64 0, .slice none 0 0, .slice none 0 0, .slice none 0 0, .slice none 0 0, .slice none 0 0, .slice none 0 0] := Blk.mk _ _ _ _ (by simp)
  have s0 : Hid ((((w.alloc (.cells #[.int .i64 sa, .int .i64 si, .int .i64 ho, .int .i64 nx, .slice a1 n1 c1, .slice a2 n2 c2, .slice aN nN cN, .slice aW nW cW, .slice aM nM cM, .slice aS nS cS] 32)).alloc (.cells #[.int .i64 0, .int .i64 0, .int .i64 0, .int .i64 0, .slice none 0 0, .slice none 0 0, .slice none 0 0, .slice none 0 0, .slice none 0 0, .slice none 0 0] 46)).alloc (.cells #[.int .i64 0, .int .i64 0, .int .i64 0, .int .i64 0, .slice none 0 0, .slice none 0 0, .slice none 0 0, .slice none 0 0, .slice none 0 0, .slice none 0 0] 46)).heap.size = w.heap.size + 1 + 1 + 1) := by unfold Hid; simp
  have ge1 : w.heap.size ≤ w.heap.size + 1 := by omega
  have ge2 : w.heap.size ≤ w.heap.size + 1 + 1 := by omega
  have d01 : ¬ w.heap.size + 1 + 1 = w.heap.size := by omega
  have d12 : ¬ w.heap.size + 1 + 1 = w.heap.size + 1 := by omega
  go_enter Tryz.func6, Tryz.ntmps6
  go_wp2_with fail
  refine (toSe_any sa si ho nx a1 a2 n1 c1 n2 c2 r1 r2 _ (h.s1.new hw0) (h.s2.new hw0) h.l1 h.l2 hs.m1 hs.m2).mono ?_
  rintro e w1 ⟨g1, g2, rfl, hg1, hg12, hoA, hoB, hn1⟩
  have S0 := s0.out
  have nn := hw0.trans hn1
  have p0 := b0.new hn1
  have p1 := b1.new hn1
  have p2 := b2.new hn1
  have c0 := p0.cells
  have c2' := p2.cells
  have f2 := p2.frees
  have t1 : Turn (fun k => k = w.heap.size + 1 + 1) w1 ((((((w1.setCell ⟨w.heap.size + 1 + 1, 0, none⟩ (.int .i64 sa)).setCell ⟨w.heap.size + 1 + 1, 1, none⟩ (.int .i64 si)).setCell ⟨w.heap.size + 1 + 1, 2, none⟩ (.int .i64 ho)).setCell ⟨w.heap.size + 1 + 1, 3, none⟩ (.int .i64 nx)).setCell ⟨w.heap.size + 1 + 1, 4, none⟩ (.slice (some ⟨g1, 0, none⟩) n1 n1)).setCell ⟨w.heap.size + 1 + 1, 5, none⟩ (.slice (some ⟨g2, 0, none⟩) n2 n2)) := (Turn.here9 (Turn.here9 (Turn.here9 (Turn.here9 (Turn.here9 (Turn.here9 (Turn.refl _ _) _) _) _) _) _) _)
  have m1 : New w ((((((w1.setCell ⟨w.heap.size + 1 + 1, 0, none⟩ (.int .i64 sa)).setCell ⟨w.heap.size + 1 + 1, 1, none⟩ (.int .i64 si)).setCell ⟨w.heap.size + 1 + 1, 2, none⟩ (.int .i64 ho)).setCell ⟨w.heap.size + 1 + 1, 3, none⟩ (.int .i64 nx)).setCell ⟨w.heap.size + 1 + 1, 4, none⟩ (.slice (some ⟨g1, 0, none⟩) n1 n1)).setCell ⟨w.heap.size + 1 + 1, 5, none⟩ (.slice (some ⟨g2, 0, none⟩) n2 n2)) := ((((((nn.setCell ge2 _).setCell ge2 _).setCell ge2 _).setCell ge2 _).setCell ge2 _).setCell ge2 _)
  have q2 : Blk ((((((w1.setCell ⟨w.heap.size + 1 + 1, 0, none⟩ (.int .i64 sa)).setCell ⟨w.heap.size + 1 + 1, 1, none⟩ (.int .i64 si)).setCell ⟨w.heap.size + 1 + 1, 2, none⟩ (.int .i64 ho)).setCell ⟨w.heap.size + 1 + 1, 3, none⟩ (.int .i64 nx)).setCell ⟨w.heap.size + 1 + 1, 4, none⟩ (.slice (some ⟨g1, 0, none⟩) n1 n1)).setCell ⟨w.heap.size + 1 + 1, 5, none⟩ (.slice (some ⟨g2, 0, none⟩) n2 n2)) (w.heap.size + 1 + 1) 46 #[.int .i64 sa, .int .i64 si, .int .i64 ho, .int .i64 nx, .slice (some ⟨g1, 0, none⟩) n1 n1, .slice (some ⟨g2, 0, none⟩) n2 n2, .slice none 0 0, .slice none 0 0, .slice none 0 0, .slice none 0 0] := ((((((p2.set 0 (.int .i64 sa)).set 1 (.int .i64 si)).set 2 (.int .i64 ho)).set 3 (.int .i64 nx)).set 4 (.slice (some ⟨g1, 0, none⟩) n1 n1)).set 5 (.slice (some ⟨g2, 0, none⟩) n2 n2))
  have q0 := p0.turn t1 (by omega)
  have q1 := p1.turn t1 (by omega)
  have z01 := hn1.size
  have oA := hoA.turn t1 (by omega)
  have oB := hoB.turn t1 (by omega)
  have sz1 := t1.size
  clear b0 b1 b2 hn1 p0 p1 p2 hw0 t1 hoA hoB nn
  go_wp2_with fail
  refine (toNdS_any aN nN cN LN _ (h.nd.new m1) h.lN hs.mN).mono ?_
  rintro e w2 ⟨gN, VN, rfl, eN, hoN, hn2⟩
  have nn := m1.trans hn2
  have p0 := q0.new hn2
  have p1 := q1.new hn2
  have p2 : Blk w2 (w.heap.size + 1 + 1) 46 #[.int .i64 sa, .int .i64 si, .int .i64 ho, .int .i64 nx, .slice (some ⟨g1, 0, none⟩) n1 n1, .slice (some ⟨g2, 0, none⟩) n2 n2, .slice none 0 0, .slice none 0 0, .slice none 0 0, .slice none 0 0] := q2.new hn2
  have yl2 := hn2.size
  have oAn := oA.new hn2
  have oBn := oB.new hn2
  clear c0 c2' f2 q0 q1 q2
  clear oA
  clear oB
  have c0 := p0.cells
  have c2' := p2.cells
  have f2 := p2.frees
  have t2 : Turn (fun k => k = w.heap.size + 1 + 1) w2 (w2.setCell ⟨w.heap.size + 1 + 1, 6, none⟩ (.slice (some ⟨gN, 0, none⟩) nN nN)) := Turn.here9 (Turn.refl _ _) _
  have m2 : New w (w2.setCell ⟨w.heap.size + 1 + 1, 6, none⟩ (.slice (some ⟨gN, 0, none⟩) nN nN)) := nn.setCell ge2 _
  have q2 := p2.set 6 (.slice (some ⟨gN, 0, none⟩) nN nN)
  have q0 := p0.turn t2 (by omega)
  have q1 := p1.turn t2 (by omega)
  have sz2 := t2.size
  have oN := hoN.turn t2 (by intro j h1 h2 e; omega)
  have oA := oAn.turn t2 (by omega)
  clear oAn
  have oB := oBn.turn t2 (by omega)
  clear oBn
  clear hoN hn2 p0 p1 p2 t2 nn
  go_wp2_with fail
  refine (toWiS_any aW nW cW LW _ (h.wi.new m2) h.lW hs.mW).mono ?_
  rintro e w3 ⟨gW, VW, rfl, eW, hoW, hn3⟩
  have nn := m2.trans hn3
  have p0 := q0.new hn3
  have p1 := q1.new hn3
  have p2 : Blk w3 (w.heap.size + 1 + 1) 46 #[.int .i64 sa, .int .i64 si, .int .i64 ho, .int .i64 nx, .slice (some ⟨g1, 0, none⟩) n1 n1, .slice (some ⟨g2, 0, none⟩) n2 n2, .slice (some ⟨gN, 0, none⟩) nN nN, .slice none 0 0, .slice none 0 0, .slice none 0 0] := q2.new hn3
  have yl3 := hn3.size
  have oAn := oA.new hn3
  have oBn := oB.new hn3
  have oNn := oN.new hn3
  clear c0 c2' f2 q0 q1 q2
  clear oA
  clear oB
  clear oN
  have c0 := p0.cells
  have c2' := p2.cells
  have f2 := p2.frees
  have t3 : Turn (fun k => k = w.heap.size + 1 + 1) w3 (w3.setCell ⟨w.heap.size + 1 + 1, 7, none⟩ (.slice (some ⟨gW, 0, none⟩) nW nW)) := Turn.here9 (Turn.refl _ _) _
  have m3 : New w (w3.setCell ⟨w.heap.size + 1 + 1, 7, none⟩ (.slice (some ⟨gW, 0, none⟩) nW nW)) := nn.setCell ge2 _
  have q2 := p2.set 7 (.slice (some ⟨gW, 0, none⟩) nW nW)
  have q0 := p0.turn t3 (by omega)
  have q1 := p1.turn t3 (by omega)
  have sz3 := t3.size
  have oW := hoW.turn t3 (by intro j h1 h2 e; omega)
  have oA := oAn.turn t3 (by omega)
  clear oAn
  have oB := oBn.turn t3 (by omega)
  clear oBn
  have oN := oNn.turn t3 (by intro j h1 h2 e; omega)
  clear oNn
  clear hoW hn3 p0 p1 p2 t3 nn
  go_wp2_with fail
  refine (toMqS_any aM nM cM LM _ (h.mq.new m3) h.lM hs.mM).mono ?_
  rintro e w4 ⟨gM, VM, rfl, eM, hoM, hn4⟩
  have nn := m3.trans hn4
  have p0 := q0.new hn4
  have p1 := q1.new hn4
  have p2 : Blk w4 (w.heap.size + 1 + 1) 46 #[.int .i64 sa, .int .i64 si, .int .i64 ho, .int .i64 nx, .slice (some ⟨g1, 0, none⟩) n1 n1, .slice (some ⟨g2, 0, none⟩) n2 n2, .slice (some ⟨gN, 0, none⟩) nN nN, .slice (some ⟨gW, 0, none⟩) nW nW, .slice none 0 0, .slice none 0 0] := q2.new hn4
  have yl4 := hn4.size
  have oAn := oA.new hn4
  have oBn := oB.new hn4
  have oNn := oN.new hn4
  have oWn := oW.new hn4
  clear c0 c2' f2 q0 q1 q2
  clear oA
  clear oB
  clear oN
  clear oW
  have c0 := p0.cells
  have c2' := p2.cells
  have f2 := p2.frees
  have t4 : Turn (fun k => k = w.heap.size + 1 + 1) w4 (w4.setCell ⟨w.heap.size + 1 + 1, 8, none⟩ (.slice (some ⟨gM, 0, none⟩) nM nM)) := Turn.here9 (Turn.refl _ _) _
  have m4 : New w (w4.setCell ⟨w.heap.size + 1 + 1, 8, none⟩ (.slice (some ⟨gM, 0, none⟩) nM nM)) := nn.setCell ge2 _
  have q2 := p2.set 8 (.slice (some ⟨gM, 0, none⟩) nM nM)
  have q0 := p0.turn t4 (by omega)
  have q1 := p1.turn t4 (by omega)
  have sz4 := t4.size
  have oM := hoM.turn t4 (by intro j h1 h2 e; omega)
  have oA := oAn.turn t4 (by omega)
  clear oAn
  have oB := oBn.turn t4 (by omega)
  clear oBn
  have oN := oNn.turn t4 (by intro j h1 h2 e; omega)
  clear oNn
  have oW := oWn.turn t4 (by intro j h1 h2 e; omega)
  clear oWn
  clear hoM hn4 p0 p1 p2 t4 nn
  go_wp2_with fail
  refine (toEkS_any aS nS cS LS _ (h.se.new m4) h.lS hs.mS).mono ?_
  rintro e w5 ⟨gS, VS, rfl, eS, hoS, hn5⟩
  have nn := m4.trans hn5
  have p0 := q0.new hn5
  have p1 := q1.new hn5
  have p2 : Blk w5 (w.heap.size + 1 + 1) 46 #[.int .i64 sa, .int .i64 si, .int .i64 ho, .int .i64 nx, .slice (some ⟨g1, 0, none⟩) n1 n1, .slice (some ⟨g2, 0, none⟩) n2 n2, .slice (some ⟨gN, 0, none⟩) nN nN, .slice (some ⟨gW, 0, none⟩) nW nW, .slice (some ⟨gM, 0, none⟩) nM nM, .slice none 0 0] := q2.new hn5
  have yl5 := hn5.size
  have oAn := oA.new hn5
  have oBn := oB.new hn5
  have oNn := oN.new hn5
  have oWn := oW.new hn5
  have oMn := oM.new hn5
  clear c0 c2' f2 q0 q1 q2
  clear oA
  clear oB
  clear oN
  clear oW
  clear oM
  have c1' := p1.cells
  have f1 := p1.frees
  have c2' := p2.cells
  have f2 := p2.frees
  go_wp2
  refine bodyPost_ret (v := .agg #[.int .i64 sa, .int .i64 si, .int .i64 ho, .int .i64 nx, .slice (some ⟨g1, 0, none⟩) n1 n1, .slice (some ⟨g2, 0, none⟩) n2 n2, .slice (some ⟨gN, 0, none⟩) nN nN, .slice (some ⟨gW, 0, none⟩) nW nW, .slice (some ⟨gM, 0, none⟩) nM nM, .slice (some ⟨gS, 0, none⟩) nS nS]) (by simp [results, Tryz.results6, go_sem, c1']) rfl ⟨g1, g2, gN, gW, gM, gS, VN, VW, VM, VS, rfl, ⟨eN, eW, eM, eS⟩, ?_, ?_⟩
  · have tt : Turn (fun i => i = w.heap.size + 1 ∨ i = w.heap.size + 1 + 1) w5 (((((((((((w5.setCell ⟨w.heap.size + 1 + 1, 9, none⟩ (.slice (some ⟨gS, 0, none⟩) nS nS)).setCell ⟨w.heap.size + 1, 0, none⟩ (.int .i64 sa)).setCell ⟨w.heap.size + 1, 1, none⟩ (.int .i64 si)).setCell ⟨w.heap.size + 1, 2, none⟩ (.int .i64 ho)).setCell ⟨w.heap.size + 1, 3, none⟩ (.int .i64 nx)).setCell ⟨w.heap.size + 1, 4, none⟩ (.slice (some ⟨g1, 0, none⟩) n1 n1)).setCell ⟨w.heap.size + 1, 5, none⟩ (.slice (some ⟨g2, 0, none⟩) n2 n2)).setCell ⟨w.heap.size + 1, 6, none⟩ (.slice (some ⟨gN, 0, none⟩) nN nN)).setCell ⟨w.heap.size + 1, 7, none⟩ (.slice (some ⟨gW, 0, none⟩) nW nW)).setCell ⟨w.heap.size + 1, 8, none⟩ (.slice (some ⟨gM, 0, none⟩) nM nM)).setCell ⟨w.heap.size + 1, 9, none⟩ (.slice (some ⟨gS, 0, none⟩) nS nS)) := (Turn.set (S := fun i => i = w.heap.size + 1 ∨ i = w.heap.size + 1 + 1) (Turn.set (S := fun i => i = w.heap.size + 1 ∨ i = w.heap.size + 1 + 1) (Turn.set (S := fun i => i = w.heap.size + 1 ∨ i = w.heap.size + 1 + 1) (Turn.set (S := fun i => i = w.heap.size + 1 ∨ i = w.heap.size + 1 + 1) (Turn.set (S := fun i => i = w.heap.size + 1 ∨ i = w.heap.size + 1 + 1) (Turn.set (S := fun i => i = w.heap.size + 1 ∨ i = w.heap.size + 1 + 1) (Turn.set (S := fun i => i = w.heap.size + 1 ∨ i = w.heap.size + 1 + 1) (Turn.set (S := fun i => i = w.heap.size + 1 ∨ i = w.heap.size + 1 + 1) (Turn.set (S := fun i => i = w.heap.size + 1 ∨ i = w.heap.size + 1 + 1) (Turn.set (S := fun i => i = w.heap.size + 1 ∨ i = w.heap.size + 1 + 1) (Turn.set (S := fun i => i = w.heap.size + 1 ∨ i = w.heap.size + 1 + 1) (Turn.refl _ _) (Or.inr rfl) _) (Or.inl rfl) _) (Or.inl rfl) _) (Or.inl rfl) _) (Or.inl rfl) _) (Or.inl rfl) _) (Or.inl rfl) _) (Or.inl rfl) _) (Or.inl rfl) _) (Or.inl rfl) _) (Or.inl rfl) _)
    exact ⟨(oAn.turn tt (by omega)).rs, (oBn.turn tt (by omega)).rs, (oNn.turn tt (by intro j h1 h2 e; omega)).at', (oWn.turn tt (by intro j h1 h2 e; omega)).at', (oMn.turn tt (by intro j h1 h2 e; omega)).at', (hoS.turn tt (by intro j h1 h2 e; omega)).lg.1, ⟨gN, rfl, by have h1 := (oNn.turn tt (by intro j h1 h2 e; omega)).row; rw [h1.len]; exact h1⟩, fun v hv => (by obtain ⟨hi', -, h2, -⟩ := oNn.own v hv; exact row_fit h2.row), fun v hv => ⟨row_fit (oWn.own v hv).1, row_fit (oWn.own v hv).2.1⟩, fun v hv => (by obtain ⟨hi', -, h2, -⟩ := oNn.own v hv; exact h2.nl), hoS.nl⟩
  · exact (((((((((((nn.setCell ge2 _).setCell ge1 _).setCell ge1 _).setCell ge1 _).setCell ge1 _).setCell ge1 _).setCell ge1 _).setCell ge1 _).setCell ge1 _).setCell ge1 _).setCell ge1 _)

set_option maxHeartbeats 3200000 in
theorem eqPair_any (sa si ho nx : Int) (a1 a2 aN aW aM aS b1 b2 bN bW bM bS : Option Addr) (n1 c1 n2 c2 nN cN nW cW nM cM nS cS d1 d2 dN dW dM dS : Nat) (r1 r2 : List Ru) (VN UN : List NdV) (VW UW : List WiV) (VM UM : List MlV) (VS US : List EkV) (w : World)
    (h : PAt w a1 a2 aN aW aM aS r1 r2 VN VW VM VS) (k : PAt w b1 b2 bN bW bM bS r1 r2 UN UW UM US) (he : PEq VN UN VW UW VM UM VS US) (l1 : r1.length = n1) (l2 : r2.length = n2) (m1 : n1 ≤ 1048576) (m2 : n2 ≤ 1048576)
    (lN : VN.length = nN) (lW : VW.length = nW) (lM : VM.length = nM) (lS : VS.length = nS) (hN : nN ≤ 1048576) (hW : nW ≤ 1048576) (hM : nM ≤ 1048576) (hS : nS ≤ 1048576) :
    Calls Tryz.prog 9 #[.agg #[.int .i64 sa, .int .i64 si, .int .i64 ho, .int .i64 nx, .slice a1 n1 c1, .slice a2 n2 c2, .slice aN nN cN, .slice aW nW cW, .slice aM nM cM, .slice aS nS cS], .agg #[.int .i64 sa, .int .i64 si, .int .i64 ho, .int .i64 nx, .slice b1 n1 d1, .slice b2 n2 d2, .slice bN nN dN, .slice bW nW dW, .slice bM nM dM, .slice bS nS dS]] w fun e w' => e = .returned (.bool true) ∧ New w w' := by
  have hw : New w ((w.alloc (.cells #[.int .i64 sa, .int .i64 si, .int .i64 ho, .int .i64 nx, .slice a1 n1 c1, .slice a2 n2 c2, .slice aN nN cN, .slice aW nW cW, .slice aM nM cM, .slice aS nS cS] 46)).alloc (.cells #[.int .i64 sa, .int .i64 si, .int .i64 ho, .int .i64 nx, .slice b1 n1 d1, .slice b2 n2 d2, .slice bN nN dN, .slice bW nW dW, .slice bM nM dM, .slice bS nS dS] 46)) := ((New.refl w).alloc _).alloc _
  have bA : Blk ((w.alloc (.cells #[.int .i64 sa, .int .i64 si, .int .i64 ho, .int .i64 nx, .slice a1 n1 c1, .slice a2 n2 c2, .slice aN nN cN, .slice aW nW cW, .slice aM nM cM, .slice aS nS cS] 46)).alloc (.cells #[.int .i64 sa, .int .i64 si, .int .i64 ho, .int .i64 nx, .slice b1 n1 d1, .slice b2 n2 d2, .slice bN nN dN, .slice bW nW dW, .slice bM nM dM, .slice bS nS dS] 46)) w.heap.size 46 #[.int .i64 sa, .int .i64 si, .int .i64 ho, .int .i64 nx, .slice a1 n1 c1, .slice a2 n2 c2, .slice aN nN cN, .slice aW nW cW, .slice aM nM cM, .slice aS nS cS] := (Blk.mk _ _ _ _ rfl).alloc _
  have bB : Blk ((w.alloc (.cells #[.int .i64 sa, .int .i64 si, .int .i64 ho, .int .i64 nx, .slice a1 n1 c1, .slice a2 n2 c2, .slice aN nN cN, .slice aW nW cW, .slice aM nM cM, .slice aS nS cS] 46)).alloc (.cells #[.int .i64 sa, .int .i64 si, .int .i64 ho, .int .i64 nx, .slice b1 n1 d1, .slice b2 n2 d2, .slice bN nN dN, .slice bW nW dW, .slice bM nM dM, .slice bS nS dS] 46)) (w.heap.size + 1) 46 #[.int .i64 sa, .int .i64 si, .int .i64 ho, .int .i64 nx, .slice b1 n1 d1, .slice b2 n2 d2, .slice bN nN dN, .slice bW nW dW, .slice bM nM dM, .slice bS nS dS] := Blk.mk _ _ _ _ (by simp)
  go_enter Tryz.func9, Tryz.ntmps9
  have cA := bA.cells
  have cB := bB.cells
  go_wp2_with fail
  refine (eqSe_any sa si ho nx a1 a2 b1 b2 n1 c1 n2 c2 d1 d2 r1 r2 _ (h.s1.new hw) (h.s2.new hw) l1 l2 m1 m2 (k.s1.new hw) (k.s2.new hw)).mono ?_
  rintro e w1 ⟨rfl, hn1⟩
  have hw1 := hw.trans hn1
  replace bA := bA.new hn1
  replace bB := bB.new hn1
  clear cA cB hn1
  have cA := bA.cells
  have cB := bB.cells
  go_wp2_with fail
  refine (eqNdS_any aN bN nN cN dN VN UN _ (h.nd.new hw1) (k.nd.new hw1) he.nd.symm lN (by omega)).mono ?_
  rintro e w2 ⟨rfl, hn2⟩
  have hw2 := hw1.trans hn2
  replace bA := bA.new hn2
  replace bB := bB.new hn2
  clear cA cB hn2
  have cA := bA.cells
  have cB := bB.cells
  go_wp2_with fail
  refine (eqWiS_any aW bW nW cW dW VW UW _ (h.wi.new hw2) (k.wi.new hw2) he.wi.symm lW (by omega)).mono ?_
  rintro e w3 ⟨rfl, hn3⟩
  have hw3 := hw2.trans hn3
  replace bA := bA.new hn3
  replace bB := bB.new hn3
  clear cA cB hn3
  have cA := bA.cells
  have cB := bB.cells
  go_wp2_with fail
  refine (eqMqS_any aM bM nM cM dM VM UM _ (h.mq.new hw3) (k.mq.new hw3) he.mq.symm lM (by omega)).mono ?_
  rintro e w4 ⟨rfl, hn4⟩
  have hw4 := hw3.trans hn4
  replace bA := bA.new hn4
  replace bB := bB.new hn4
  clear cA cB hn4
  have cA := bA.cells
  have cB := bB.cells
  go_wp2_with fail
  refine (eqEkS_any aS bS nS cS dS VS US _ (h.se.new hw4) (k.se.new hw4) he.se.symm lS (by omega)).mono ?_
  rintro e w5 ⟨rfl, hn5⟩
  have hw5 := hw4.trans hn5
  replace bA := bA.new hn5
  replace bB := bB.new hn5
  clear cA cB hn5
  go_wp2
  go_ret
  exact ⟨rfl, hw5⟩

theorem arr10p {α : Type} {cs : Array α} (h : cs.size = 10) : ∃ c0 c1 c2 c3 c4 c5 c6 c7 c8 c9, cs = #[c0, c1, c2, c3, c4, c5, c6, c7, c8, c9] := by
  obtain ⟨l⟩ := cs
  match l, h with
  | [c0, c1, c2, c3, c4, c5, c6, c7, c8, c9], _ => exact ⟨c0, c1, c2, c3, c4, c5, c6, c7, c8, c9, rfl⟩
theorem Tryz.cPrP : Tryz.prog.cellsOf 32 = 10 := by kernel_rfl
theorem Tryz.cSeP : Tryz.prog.cellsOf 26 = 6 := by kernel_rfl
theorem Tryz.cNsP : Tryz.prog.cellsOf 27 = 1 := by kernel_rfl
theorem Tryz.cWsP : Tryz.prog.cellsOf 28 = 1 := by kernel_rfl
theorem Tryz.cMsP : Tryz.prog.cellsOf 29 = 1 := by kernel_rfl

set_option maxRecDepth 100000 in
set_option maxHeartbeats 1600000 in
theorem open_pair {H : Type} {enc : TypeId × Value → H} {W : World} {base b0 : Nat} {r : Reach} {t1 : Nat → Bool} {t2 : Bool} {v : Value} {d : DataW H} {p : List MemPlace}
    (hv : Value.okWide Tryz.prog W r b0 32 v) (h0 : DataW.Trod enc Tryz.prog W base t1 t2 32 v d p) :
    ∃ (sa si ho nx : Int) (a1 a2 aN aW aM aS : Option Addr) (n1 c1 n2 c2 nN cN nW cW nM cM nS cS : Nat) (r1 r2 : List Ru) (LN : List NdV) (LW : List WiV) (LM : List MlV) (LS : List EkV), v = .agg #[.int .i64 sa, .int .i64 si, .int .i64 ho, .int .i64 nx, .slice a1 n1 c1, .slice a2 n2 c2, .slice aN nN cN, .slice aW nW cW, .slice aM nM cM, .slice aS nS cS] ∧ PCame W a1 a2 aN aW aM aS n1 n2 nN nW nM nS r1 r2 LN LW LM LS := by
  obtain ⟨cs, rfl, hsz⟩ := okWide_struct Tryz.underlying32 hv
  obtain ⟨c0, c1, c2, c3, c4, c5, c6, c7, c8, c9, rfl⟩ := arr10p (hsz.trans Tryz.cPrP)
  obtain ⟨fuel, hf⟩ := h0
  obtain ⟨y, hf'⟩ : ∃ y, DataW.trod enc Tryz.prog W base t1 t2 fuel 32 [c0, c1, c2, c3, c4, c5, c6, c7, c8, c9] = some y := ⟨(d, p), by simpa [Value.cells] using hf⟩
  obtain ⟨ys, m, _, rfl, hl, hlen, hq⟩ := DataW.trod_struct Tryz.underlying32 hf'
  match ys, hlen with
  | [y0, y1, y2, y3, y4], _ =>
    have k0 := hq 0 _ rfl
    have k1 := hq 1 _ rfl
    have k2 := hq 2 _ rfl
    have k3 := hq 3 _ rfl
    have k4 := hq 4 _ rfl
    simp [Tryz.cSeP, Tryz.cNsP, Tryz.cWsP, Tryz.cMsP, Tryz.cEs] at k0 k1 k2 k3 k4
    obtain ⟨sa, si, ho, nx, a1, a2, n1, d1, n2, d2, r1, r2, e0, ⟨u1, u2, u3⟩, ⟨v1, v2, v3⟩⟩ := open_settings_cells k0
    obtain ⟨aN, nN, dN, LN, e1, hN, lN, mN⟩ := open_NdS k1
    obtain ⟨aW, nW, dW, LW, e2, hW, lW, mW⟩ := open_WiS k2
    obtain ⟨aM, nM, dM, LM, e3, hM, lM, mM⟩ := open_MqS k3
    obtain ⟨aS, nS, dS, LS, e4, hS, lS, mS⟩ := open_entries k4
    simp only [List.cons.injEq, and_true] at e0 e1 e2 e3 e4
    obtain ⟨rfl, rfl, rfl, rfl, rfl, rfl⟩ := e0
    subst e1 e2 e3 e4
    exact ⟨sa, si, ho, nx, a1, a2, aN, aW, aM, aS, n1, d1, n2, d2, nN, dN, nW, dW, nM, dM, nS, dS, r1, r2, LN, LW, LM, LS, rfl, ⟨u1, v1, u2, v2, u3, v3, hN, lN, mN, hW, lW, mW, hM, lM, mM, hS, lS, mS⟩⟩

end Go.Proofs.YtlkhmnjghdbmoaaGreatDoor
