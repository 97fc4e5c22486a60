/- Lemmas and contracts of one law. -/
import Derived.Test.YtdbnmkffinhdjaaGreatLV11
namespace Go.Proofs.YtdbnmkffinhdjaaGreat
open Go.ChangeShapes Go.WideShapes Go.ChangeAt Go.RowKit Go.Deep Go.Sort
set_option linter.unusedVariables false
set_option linter.unusedSimpArgs false
set_option maxHeartbeats 25600000

def MlV.r (v : MlV) : Ml := v.m
def MlV.tot (v : MlV) : Nat := v.m.e.xs.length
def cellsMq (V : List MlV) : List Value := V.flatMap MlV.cs
def totMq : List MlV → Nat
  | [] => 0
  | v :: V => v.tot + 1 + totMq V
theorem totMq_len : ∀ V : List MlV, V.length ≤ totMq V
  | [] => Nat.le_refl _
  | v :: V => by have := totMq_len V; simp only [totMq, List.length_cons]; omega
theorem totMq_mem : ∀ (V : List MlV) (v : MlV), v ∈ V → v.tot ≤ totMq V
  | [], v, h => by simp at h
  | u :: V, v, h => by
    simp only [totMq]
    rcases List.mem_cons.1 h with rfl | h
    · omega
    · have := totMq_mem V v h; omega
theorem totMq_snoc (V : List MlV) (v : MlV) : totMq (V ++ [v]) = totMq V + v.tot + 1 := by
  induction V with
  | nil => simp [totMq]
  | cons f F ih => simp only [List.cons_append, totMq, ih]; omega
theorem take_snocMq {V : List MlV} {k : Nat} {f : MlV} (h : V[k]? = some f) : V.take (k + 1) = V.take k ++ [f] := by
  obtain ⟨hk, rfl⟩ := List.getElem?_eq_some_iff.1 h
  exact List.take_succ_eq_append_getElem hk
theorem cellsMq_len : ∀ U : List MlV, (cellsMq U).length = U.length * 10
  | [] => rfl
  | x :: U => by
    have ih := cellsMq_len U
    unfold cellsMq at ih ⊢
    rw [List.flatMap_cons, List.length_append, ih, List.length_cons]
    simp [MlV.cs]
    omega
theorem cellsMq_get : ∀ (U : List MlV) (i : Nat) (u : MlV), U[i]? = some u → ∀ j, j < 10 → (cellsMq U)[i * 10 + j]? = u.cs[j]?
  | [], i, u, h, _, _ => by simp at h
  | x :: U, 0, u, h, j, hj => by
    simp at h
    subst h
    unfold cellsMq
    rw [List.flatMap_cons, Nat.zero_mul, Nat.zero_add, List.getElem?_append_left (by simp [MlV.cs]; omega)]
  | x :: U, i + 1, u, h, j, hj => by
    have ih := cellsMq_get U i u (by simpa using h) j hj
    unfold cellsMq at ih ⊢
    rw [List.flatMap_cons, List.getElem?_append_right (by simp [MlV.cs]; omega), show (x.cs).length = 10 from rfl, show (i + 1) * 10 + j - 10 = i * 10 + j by omega, ih]

/-- The address leads to those that came in. -/
def MqCame (w : World) (A : Option Addr) (V : List MlV) : Prop :=
  ∀ i v, V[i]? = some v → (∃ b off, A = some ⟨b, off, none⟩ ∧ ∀ j, j < 10 → w.cell? ⟨b, off + i * 10 + j, none⟩ = v.cs[j]?) ∧ BsAt w v.a v.m.e.xs ∧ v.m.e.xs.length ≤ maxLen
theorem MqCame.new {w w' : World} {A : Option Addr} {V : List MlV} (h : MqCame w A V) (t : New w w') : MqCame w' A V := by
  intro i v hv
  obtain ⟨⟨b, off, ha, hc⟩, h1⟩ := h i v hv
  have h0 : w.cell? ⟨b, off + i * 10, none⟩ = some (.int .i64 v.m.kd) := hc 0 (by omega)
  have hb' := t.block b (World.block_lt_of_cell? w _ h0) (fun f => f)
  exact ⟨⟨b, off, ha, fun j hj => (World.cell?_of_block hb').trans (hc j hj)⟩, ⟨h1.1.new t, h1.2⟩⟩
theorem MqCame.at {w : World} {A : Option Addr} {V : List MlV} (h : MqCame w A V) (i : Nat) (hi : i < V.length) :
    ∃ (b off : Nat) (kd tgt me at1 pr : Int) (has : Bool) (ee ki pe : Int) (x : Option Addr) (m d : Nat) (xs : List Int), A = some ⟨b, off, none⟩ ∧ V[i]? = some ⟨⟨kd, tgt, me, at1, pr, has, ⟨ee, ki, pe, xs⟩⟩, x, d⟩ ∧ xs.length = m ∧ BsAt w x xs ∧ m ≤ maxLen ∧ w.cell? ⟨b, off + i * 10, none⟩ = some (.int .i64 kd) ∧ w.cell? ⟨b, off + i * 10 + 1, none⟩ = some (.int .i64 tgt) ∧ w.cell? ⟨b, off + i * 10 + 2, none⟩ = some (.int .i64 me) ∧ w.cell? ⟨b, off + i * 10 + 3, none⟩ = some (.int .i64 at1) ∧ w.cell? ⟨b, off + i * 10 + 4, none⟩ = some (.int .i64 pr) ∧ w.cell? ⟨b, off + i * 10 + 5, none⟩ = some (.bool has) ∧ w.cell? ⟨b, off + i * 10 + 6, none⟩ = some (.int .i64 ee) ∧ w.cell? ⟨b, off + i * 10 + 7, none⟩ = some (.int .i64 ki) ∧ w.cell? ⟨b, off + i * 10 + 8, none⟩ = some (.int .i64 pe) ∧ w.cell? ⟨b, off + i * 10 + 9, none⟩ = some (.slice x m d) := by
  obtain ⟨⟨b, off, h1, h2⟩, h3⟩ := h i _ (List.getElem?_eq_getElem hi)
  exact ⟨b, off, _, _, _, _, _, _, _, _, _, _, _, _, _, h1, List.getElem?_eq_getElem hi, rfl, h3.1, h3.2, h2 0 (by omega), h2 1 (by omega), h2 2 (by omega), h2 3 (by omega), h2 4 (by omega), h2 5 (by omega), h2 6 (by omega), h2 7 (by omega), h2 8 (by omega), h2 9 (by omega)⟩

/-- They can be read there. -/
def MqAt (w : World) (A : Option Addr) (V : List MlV) : Prop :=
  ∀ i v, V[i]? = some v → (∃ g, A = some ⟨g, 0, none⟩ ∧ ∀ j, j < 10 → w.cell? ⟨g, i * 10 + j, none⟩ = v.cs[j]?) ∧ BsAt w v.a v.m.e.xs ∧ v.m.e.xs.length ≤ 1048576
theorem MqAt.new {w w' : World} {A : Option Addr} {V : List MlV} (h : MqAt w A V) (t : New w w') : MqAt w' A V := by
  intro i v hv
  obtain ⟨⟨g, ha, hc⟩, h1⟩ := h i v hv
  have h0 : w.cell? ⟨g, i * 10, none⟩ = some (.int .i64 v.m.kd) := hc 0 (by omega)
  have hb' := t.block g (World.block_lt_of_cell? w _ h0) (fun f => f)
  exact ⟨⟨g, ha, fun j hj => (World.cell?_of_block hb').trans (hc j hj)⟩, ⟨h1.1.new t, h1.2⟩⟩
theorem MqAt.at {w : World} {A : Option Addr} {V : List MlV} (h : MqAt w A V) (i : Nat) (hi : i < V.length) :
    ∃ (g : Nat) (kd tgt me at1 pr : Int) (has : Bool) (ee ki pe : Int) (x : Option Addr) (m d : Nat) (xs : List Int), A = some ⟨g, 0, none⟩ ∧ V[i]? = some ⟨⟨kd, tgt, me, at1, pr, has, ⟨ee, ki, pe, xs⟩⟩, x, d⟩ ∧ xs.length = m ∧ BsAt w x xs ∧ m ≤ 1048576 ∧ w.cell? ⟨g, i * 10, none⟩ = some (.int .i64 kd) ∧ w.cell? ⟨g, i * 10 + 1, none⟩ = some (.int .i64 tgt) ∧ w.cell? ⟨g, i * 10 + 2, none⟩ = some (.int .i64 me) ∧ w.cell? ⟨g, i * 10 + 3, none⟩ = some (.int .i64 at1) ∧ w.cell? ⟨g, i * 10 + 4, none⟩ = some (.int .i64 pr) ∧ w.cell? ⟨g, i * 10 + 5, none⟩ = some (.bool has) ∧ w.cell? ⟨g, i * 10 + 6, none⟩ = some (.int .i64 ee) ∧ w.cell? ⟨g, i * 10 + 7, none⟩ = some (.int .i64 ki) ∧ w.cell? ⟨g, i * 10 + 8, none⟩ = some (.int .i64 pe) ∧ w.cell? ⟨g, i * 10 + 9, none⟩ = some (.slice x m d) := by
  obtain ⟨⟨g, h1, h2⟩, h3⟩ := h i _ (List.getElem?_eq_getElem hi)
  exact ⟨g, _, _, _, _, _, _, _, _, _, _, _, _, _, h1, List.getElem?_eq_getElem hi, rfl, h3.1, h3.2, h2 0 (by omega), h2 1 (by omega), h2 2 (by omega), h2 3 (by omega), h2 4 (by omega), h2 5 (by omega), h2 6 (by omega), h2 7 (by omega), h2 8 (by omega), h2 9 (by omega)⟩

theorem szMqS_gen (A : Option Addr) (n c : Nat) (V : List MlV) (K : Int) (w : World) (hK0 : 0 ≤ K) (hK1 : K ≤ 1048576) (h : MqCame w A V) (hn : V.length = n) (hm : n ≤ maxLen) :
    Calls Tryz.prog 23 #[.slice A n c, .int .i64 K] w fun e w' => (∃ z : Int, e = .returned (.int .i64 z) ∧ (z = -1 ∨ (0 ≤ z ∧ (totMq V : Int) + z = K))) ∧ New w w' := by
  have HN : Hid (V.length = n) := hn
  unfold maxLen at hm
  clear hn
  by_cases hbig : K < (n : Int)
  case pos =>
    go_enter Tryz.func23, Tryz.ntmps23
    go_wp2
    go_ret
    exact ⟨⟨_, rfl, .inl rfl⟩, New.refl _⟩
  have hm' : (n : Int) ≤ K := by omega
  clear hm hbig
  go_enter Tryz.func23, Tryz.ntmps23
  go_wp2
  go_loopw [1, 5] (fun t i wr => ∃ (k : Nat) (z : Int), k ≤ n ∧ 0 ≤ z ∧ z ≤ 1048576 ∧ t = .int .i64 z ∧ i = .int .i64 k ∧ New w wr ∧ (totMq (V.take k) : Int) + (n - k) + z = K) (fun _ i _ => n - (intOf i).toNat)
  case atStart => exact ⟨0, _, Nat.zero_le _, by omega, by omega, rfl, rfl, New.refl _, by simp [totMq]; omega⟩
  case round =>
    obtain ⟨k, z, hk, hz0, hz1, rfl, rfl, hnw, hall⟩ := hrel
    by_cases hlt : k < n
    · obtain ⟨b, off, kd, tgt, me, at1, pr, has, ee, ki, pe, x, m, d, xs, rfl, hv, hlen, hns, hmx, q0, q1, q2, q3, q4, q5, q6, q7, q8, q9⟩ := (h.new hnw).at k (by have := HN.out; omega)
      have HL : Hid (xs.length = m) := hlen
      clear hlen
      have HA : Hid ((totMq (V.take (k + 1)) : Int) + (n - (k + 1)) + (z - (m : Nat)) = K) := by
        unfold Hid
        rw [take_snocMq hv, totMq_snoc]
        simp only [MlV.tot, HL.out]
        omega
      clear hv h hall
      go_wp2_with fail
      refine (szMl_gen kd tgt me at1 pr has ee ki pe x m d z _ hz0 hz1 hmx).mono ?_
      rintro e w1 ⟨⟨y, rfl, hy⟩, hn1⟩
      clear q0 q1 q2 q3 q4 q5 q6 q7 q8 q9
      by_cases hy0 : y < 0
      · go_wp2
        go_ret
        exact ⟨⟨_, rfl, .inl rfl⟩, hnw.trans hn1⟩
      · have hy' : 0 ≤ y ∧ ((m : Nat) : Int) + y = z := by rcases hy with hy | hy; (exfalso; omega); exact hy
        clear hy
        go_wp2
        go_roundw
        case rel => exact ⟨k + 1, y, by omega, by omega, by omega, rfl, by go_num, hnw.trans hn1, by have := HA.out; push_cast at this ⊢; omega⟩
        case measure => simp [intOf]; omega
    · go_wp2
      go_ret
      refine ⟨⟨_, rfl, .inr ⟨hz0, ?_⟩⟩, hnw⟩
      rw [List.take_of_length_le (by have := HN.out; omega)] at hall
      omega

/-- What all zeros are. -/
def zMq : MlV := ⟨⟨0, 0, 0, 0, 0, false, ⟨0, 0, 0, []⟩⟩, none, 0⟩
theorem madeMq (n : Nat) : (madeCells #[.int .i64 0, .int .i64 0, .int .i64 0, .int .i64 0, .int .i64 0, .bool false, .int .i64 0, .int .i64 0, .int .i64 0, .slice none 0 0] (n * 10)).toList = cellsMq (List.replicate n zMq) := by
  apply List.ext_getElem?
  intro k
  by_cases hk : k < n * 10
  · have h1 : (cellsMq (List.replicate n zMq))[k / 10 * 10 + k % 10]? = zMq.cs[k % 10]? := cellsMq_get _ (k / 10) zMq (by rw [List.getElem?_replicate]; simp; omega) (k % 10) (by omega)
    rw [show k / 10 * 10 + k % 10 = k by omega] at h1
    rw [h1]
    simp only [madeCells, Array.toList_map, Array.toList_range, List.getElem?_map, List.getElem?_range hk, Option.map_some]
    have h4 : k % 10 = 0 ∨ k % 10 = 1 ∨ k % 10 = 2 ∨ k % 10 = 3 ∨ k % 10 = 4 ∨ k % 10 = 5 ∨ k % 10 = 6 ∨ k % 10 = 7 ∨ k % 10 = 8 ∨ k % 10 = 9 := by omega
    rcases h4 with e | e | e | e | e | e | e | e | e | e <;> simp [e, MlV.cs, zMq]
  · rw [List.getElem?_eq_none (by simp [madeCells]; omega), List.getElem?_eq_none (by rw [cellsMq_len]; simp; omega)]
theorem set_fillMq (V : List MlV) (k n : Nat) (hn : V.length = k) (hk : k < n) (p : MlV) :
    (V ++ List.replicate (n - k) zMq).set k p = (V ++ [p]) ++ List.replicate (n - (k + 1)) zMq := by
  rw [List.set_append_right _ _ (by omega), hn, Nat.sub_self, show n - k = (n - (k + 1)) + 1 by omega, List.replicate_succ, List.set_cons_zero, List.append_assoc]
  rfl
theorem Tryz.infoMq : (Tryz.prog.info? 120).map (fun i => (i.zero, i.size, i.bytes)) = some (some (.agg #[.int .i64 0, .int .i64 0, .int .i64 0, .int .i64 0, .int .i64 0, .bool false, .int .i64 0, .int .i64 0, .int .i64 0, .slice none 0 0]), 10, 96) := by kernel_rfl
theorem cellsMq_set : ∀ (V : List MlV) (i : Nat) (v : MlV), ((((((((((cellsMq V).set (i * 10) (.int .i64 v.m.kd)).set (i * 10 + 1) (.int .i64 v.m.tgt)).set (i * 10 + 2) (.int .i64 v.m.ep)).set (i * 10 + 3) (.int .i64 v.m.at1)).set (i * 10 + 4) (.int .i64 v.m.pr)).set (i * 10 + 5) (.bool v.m.has)).set (i * 10 + 6) (.int .i64 v.m.e.ep)).set (i * 10 + 7) (.int .i64 v.m.e.ki)).set (i * 10 + 8) (.int .i64 v.m.e.pe)).set (i * 10 + 9) (.slice v.a v.m.e.xs.length v.c) = cellsMq (V.set i v)
  | [], i, p => by simp [cellsMq]
  | q :: V, 0, p => by simp [cellsMq, MlV.cs]
  | q :: V, i + 1, p => by
    have ih := cellsMq_set V i p
    have e : ∀ (q : MlV) (V : List MlV), cellsMq (q :: V) = .int .i64 q.m.kd :: .int .i64 q.m.tgt :: .int .i64 q.m.ep :: .int .i64 q.m.at1 :: .int .i64 q.m.pr :: .bool q.m.has :: .int .i64 q.m.e.ep :: .int .i64 q.m.e.ki :: .int .i64 q.m.e.pe :: .slice q.a q.m.e.xs.length q.c :: cellsMq V := fun _ _ => rfl
    rw [show (i + 1) * 10 = i * 10 + 10 by omega, e, show (q :: V).set (i + 1) p = q :: V.set i p from rfl, e, ← ih]
    simp only [Nat.add_assoc, Nat.reduceAdd, List.set_cons_succ]
theorem setMqk (w : World) (B j : Nat) (v0 v1 v2 v3 v4 v5 v6 v7 v8 v9 : Value) : Turn (fun k => k = B) w ((((((((((w.setCell ⟨B, j, none⟩ v0).setCell ⟨B, j + 1, none⟩ v1).setCell ⟨B, j + 2, none⟩ v2).setCell ⟨B, j + 3, none⟩ v3).setCell ⟨B, j + 4, none⟩ v4).setCell ⟨B, j + 5, none⟩ v5).setCell ⟨B, j + 6, none⟩ v6).setCell ⟨B, j + 7, none⟩ v7).setCell ⟨B, j + 8, none⟩ v8).setCell ⟨B, j + 9, none⟩ v9) :=
  ((((((((((Turn.refl (fun k => k = B) w).set (p := ⟨B, j, none⟩) rfl v0).set (p := ⟨B, j + 1, none⟩) rfl v1).set (p := ⟨B, j + 2, none⟩) rfl v2).set (p := ⟨B, j + 3, none⟩) rfl v3).set (p := ⟨B, j + 4, none⟩) rfl v4).set (p := ⟨B, j + 5, none⟩) rfl v5).set (p := ⟨B, j + 6, none⟩) rfl v6).set (p := ⟨B, j + 7, none⟩) rfl v7).set (p := ⟨B, j + 8, none⟩) rfl v8).set (p := ⟨B, j + 9, none⟩) rfl v9
/-- The block g is a row that a call has made. -/
def RwMq (w : World) (g n c : Nat) (V : List MlV) : Prop := w.ownsRow 0 120 10 (.slice (some ⟨g, 0, none⟩) n c) n (cellsMq V)
theorem RwMq.len {w : World} {g n c : Nat} {V : List MlV} (h : RwMq w g n c V) : V.length = n := by
  have := h.1
  rw [cellsMq_len] at this
  omega
theorem RwMq.lt {w : World} {g n c : Nat} {V : List MlV} (h : RwMq w g n c V) : g < w.heap.size := (World.ownsRow.lt h g rfl).2
theorem RwMq.new {w w' : World} {g n c : Nat} {V : List MlV} (h : RwMq w g n c V) (t : New w w') : RwMq w' g n c V := row9_new h t
theorem RwMq.put {w : World} {g n c : Nat} {V : List MlV} (h : RwMq w g n c V) (i : Nat) (v : MlV) : RwMq ((((((((((w.setCell ⟨g, i * 10, none⟩ (.int .i64 v.m.kd)).setCell ⟨g, i * 10 + 1, none⟩ (.int .i64 v.m.tgt)).setCell ⟨g, i * 10 + 2, none⟩ (.int .i64 v.m.ep)).setCell ⟨g, i * 10 + 3, none⟩ (.int .i64 v.m.at1)).setCell ⟨g, i * 10 + 4, none⟩ (.int .i64 v.m.pr)).setCell ⟨g, i * 10 + 5, none⟩ (.bool v.m.has)).setCell ⟨g, i * 10 + 6, none⟩ (.int .i64 v.m.e.ep)).setCell ⟨g, i * 10 + 7, none⟩ (.int .i64 v.m.e.ki)).setCell ⟨g, i * 10 + 8, none⟩ (.int .i64 v.m.e.pe)).setCell ⟨g, i * 10 + 9, none⟩ (.slice v.a v.m.e.xs.length v.c)) g n c (V.set i v) := by
  have h1 := (World.ownsRow.stored h (i * 10) (.int .i64 v.m.kd)).1
  have h2 := (World.ownsRow.stored h1 (i * 10 + 1) (.int .i64 v.m.tgt)).1
  have h3 := (World.ownsRow.stored h2 (i * 10 + 2) (.int .i64 v.m.ep)).1
  have h4 := (World.ownsRow.stored h3 (i * 10 + 3) (.int .i64 v.m.at1)).1
  have h5 := (World.ownsRow.stored h4 (i * 10 + 4) (.int .i64 v.m.pr)).1
  have h6 := (World.ownsRow.stored h5 (i * 10 + 5) (.bool v.m.has)).1
  have h7 := (World.ownsRow.stored h6 (i * 10 + 6) (.int .i64 v.m.e.ep)).1
  have h8 := (World.ownsRow.stored h7 (i * 10 + 7) (.int .i64 v.m.e.ki)).1
  have h9 := (World.ownsRow.stored h8 (i * 10 + 8) (.int .i64 v.m.e.pe)).1
  have h10 := (World.ownsRow.stored h9 (i * 10 + 9) (.slice v.a v.m.e.xs.length v.c)).1
  unfold RwMq
  rw [← cellsMq_set V i v]
  exact h10
theorem RwMq.cell {w : World} {g n c : Nat} {V : List MlV} (h : RwMq w g n c V) (j : Nat) (hj : j < n * 10) : ∃ v, w.cell? ⟨g, j, none⟩ = some v := by
  have hl := cellsMq_len V
  have := h.len
  exact ⟨_, (World.ownsRow.cellAt h j hj).trans (List.getElem?_eq_getElem (by omega))⟩

/-- What belongs to one of them is the call's own, from lo on. -/
def MlV.own (w : World) (lo : Nat) (v : MlV) : Prop := OvB w lo (.slice v.a v.m.e.xs.length v.c) v.m.e.xs ∧ (∀ z ∈ v.m.e.xs, By z) ∧ v.m.e.xs.length ≤ 1048576
theorem MlV.own.turn {w w' : World} {lo : Nat} {v : MlV} {S : Nat → Prop} (h : v.own w lo) (t : Turn S w w') (hS : ∀ k, lo ≤ k → k < w.heap.size → ¬ S k) : v.own w' lo := by
  exact ⟨h.1.turn t hS, h.2⟩
theorem MlV.own.new {w w' : World} {lo : Nat} {v : MlV} (h : v.own w lo) (t : New w w') : v.own w' lo := h.turn t (fun _ _ _ f => f)
theorem MlV.own.low {w : World} {lo lo' : Nat} {v : MlV} (h : v.own w lo) (hl : lo' ≤ lo) : v.own w lo' := by
  exact ⟨h.1.low hl, h.2⟩
theorem eqMqS_any (A B : Option Addr) (n c d : Nat) (V U : List MlV) (w : World) (hF : MqAt w A V) (hG : MqAt w B U) (hVU : V.map MlV.r = U.map MlV.r) (hn : V.length = n) (hm : n ≤ 2097152) :
    Calls Tryz.prog 42 #[.slice A n c, .slice B n d] w fun e w' => e = .returned (.bool true) ∧ New w w' := by
  have hnn : ((n : Int) != (n : Int)) = false := by simp
  have HN : Hid (V.length = n) := hn
  have HU : Hid (V.map MlV.r = U.map MlV.r) := hVU
  have HUN : Hid (U.length = n) := by
    have := congrArg List.length hVU
    simp at this
    show U.length = n
    omega
  clear hn hVU
  go_enter Tryz.func42, Tryz.ntmps42
  go_wp2
  go_loopw [5] (fun i wr => ∃ k : Nat, k ≤ n ∧ i = .int .i64 k ∧ New w wr) (fun i _ => n - (intOf i).toNat)
  case atStart => exact ⟨0, Nat.zero_le _, rfl, New.refl _⟩
  case round =>
    obtain ⟨k, hk, rfl, hnw⟩ := hrel
    by_cases hlt : k < n
    · obtain ⟨g1, kd, tgt, me, at1, pr, has, ee, ki, pe, x, m, d, xs, rfl, hp1, hlen, hns, hmx, q0, q1, q2, q3, q4, q5, q6, q7, q8, q9⟩ := (hF.new hnw).at k (by have := HN.out; omega)
      obtain ⟨g2, kd', tgt', me', at1', pr', has', ee', ki', pe', x', m', d', xs', rfl, hp2, hlen', hns', hmx', y0, y1, y2, y3, y4, y5, y6, y7, y8, y9⟩ := (hG.new hnw).at k (by have := HUN.out; omega)
      have hh : MlV.r ⟨⟨kd, tgt, me, at1, pr, has, ⟨ee, ki, pe, xs⟩⟩, x, d⟩ = MlV.r ⟨⟨kd', tgt', me', at1', pr', has', ⟨ee', ki', pe', xs'⟩⟩, x', d'⟩ := by
        have h1 : (V.map MlV.r)[k]? = some (MlV.r ⟨⟨kd, tgt, me, at1, pr, has, ⟨ee, ki, pe, xs⟩⟩, x, d⟩) := by rw [List.getElem?_map, hp1]; rfl
        have h2 : (U.map MlV.r)[k]? = some (MlV.r ⟨⟨kd', tgt', me', at1', pr', has', ⟨ee', ki', pe', xs'⟩⟩, x', d'⟩) := by rw [List.getElem?_map, hp2]; rfl
        rw [HU.out, h2] at h1
        exact (Option.some.inj h1).symm
      simp only [MlV.r, Ml.mk.injEq, Ek.mk.injEq] at hh
      obtain ⟨rfl, rfl, rfl, rfl, rfl, rfl, rfl, rfl, rfl, rfl⟩ := hh
      obtain rfl : m = m' := hlen.symm.trans hlen'
      have HL : Hid (xs.length = m) := hlen
      clear hlen hlen'
      clear hp1 hp2 hF hG
      have X0 := cell_regrown q0
      have Y0 := cell_regrown y0
      have X1 := cell_regrown q1
      have Y1 := cell_regrown y1
      have X2 := cell_regrown q2
      have Y2 := cell_regrown y2
      have X3 := cell_regrown q3
      have Y3 := cell_regrown y3
      have X4 := cell_regrown q4
      have Y4 := cell_regrown y4
      have X5 := cell_regrown q5
      have Y5 := cell_regrown y5
      have X6 := cell_regrown q6
      have Y6 := cell_regrown y6
      have X7 := cell_regrown q7
      have Y7 := cell_regrown y7
      have X8 := cell_regrown q8
      have Y8 := cell_regrown y8
      have X9 := cell_regrown q9
      have Y9 := cell_regrown y9
      go_wp2_with fail
      refine wp_region_quiet_below (by kernel_rfl) (by kernel_rfl) ?_
      repeat (go_big_quiet_step ((go_at_call 87; exact calls_regrown (eqMl_any kd tgt me at1 pr has ee ki pe x x' m d d' xs _ (hns.new (new_regrown _ _ _)) (hns'.new (new_regrown _ _ _)) HL.out (by omega)))))
      refine wpQuiet_nil ?_
      rintro w1 hn1
      replace hn1 := new_of_regrown hn1
      go_wp2
      go_roundw
      case rel => exact ⟨k + 1, by omega, by go_num, hnw.trans hn1⟩
      case measure => simp [intOf]; omega
    · go_wp2
      go_ret
      exact ⟨rfl, hnw⟩

set_option maxRecDepth 100000 in
theorem open_Mq_cells {H : Type} {enc : TypeId × Value → H} {W : World} {base fuel : Nat} {t1 : Nat → Bool} {t2 : Bool} {c0 c1 c2 c3 c4 c5 c6 c7 c8 c9 : Value} {y : DataW H × List MemPlace}
    (hf' : DataW.trod enc Tryz.prog W base t1 t2 fuel 112 [c0, c1, c2, c3, c4, c5, c6, c7, c8, c9] = some y) :
    ∃ v : MlV, [c0, c1, c2, c3, c4, c5, c6, c7, c8, c9] = v.cs ∧ BsAt W v.a v.m.e.xs ∧ v.m.e.xs.length ≤ maxLen := by
  obtain ⟨ys, m', _, rfl, hl, hlen, hq⟩ := DataW.trod_struct Tryz.underlying112 hf'
  match ys, hlen with
  | [y0, y1, y2, y3, y4, y5, y6], _ =>
    have k0 := hq 0 _ rfl
    have k1 := hq 1 _ rfl
    have k2 := hq 2 _ rfl
    have k3 := hq 3 _ rfl
    have k4 := hq 4 _ rfl
    have k5 := hq 5 _ rfl
    have k6 := hq 6 _ rfl
    simp [Tryz.cEn10, Tryz.cI9, Tryz.cBl] at k0 k1 k2 k3 k4 k5 k6
    obtain ⟨kd, e0, -, w0⟩ := DataW.trod_int Tryz.underlying2 k0
    obtain ⟨tgt, e1, -, w1⟩ := DataW.trod_int Tryz.underlying2 k1
    obtain ⟨me, e2, -, w2⟩ := DataW.trod_int Tryz.underlying2 k2
    obtain ⟨at1, e3, -, w3⟩ := DataW.trod_int Tryz.underlying2 k3
    obtain ⟨pr, e4, -, w4⟩ := DataW.trod_int Tryz.underlying2 k4
    obtain ⟨has, e5, -⟩ := DataW.trod_bool Tryz.underlying4 k5
    obtain ⟨⟨⟨ee, ki, pe, zs⟩, a, cc⟩, e6, hb, hlm⟩ := open_entry_cells k6
    simp only [List.cons.injEq, and_true] at e0 e1 e2 e3 e4 e5
    simp only [EkV.cs, List.cons.injEq, and_true] at e6
    obtain ⟨rfl, rfl, rfl, rfl⟩ := e6
    subst e0 e1 e2 e3 e4 e5
    exact ⟨⟨⟨kd, tgt, me, at1, pr, has, ⟨ee, ki, pe, zs⟩⟩, a, cc⟩, rfl, hb, hlm⟩

set_option maxRecDepth 100000 in
theorem open_MqS {H : Type} {enc : TypeId × Value → H} {W : World} {base fuel : Nat} {t1 : Nat → Bool} {t2 : Bool} {cs : List Value} {y : DataW H × List MemPlace}
    (hf : DataW.trod enc Tryz.prog W base t1 t2 fuel 29 cs = some y) : ∃ a n c V, cs = [.slice a n c] ∧ MqCame W a V ∧ V.length = n ∧ n ≤ maxLen := by
  rcases open_slice Tryz.underlying29 hf with ⟨hcs, _⟩ | ⟨x, l, cc, m, k, D, Pl, hcs, _, hl, hm, hmm, _, hall⟩
  · exact ⟨none, 0, 0, [], hcs, (by intro i v hv; simp at hv), rfl, Nat.zero_le _⟩
  · have hlm : l ≤ m := by rw [hmm]; split <;> omega
    have each : ∀ i, i < l → ∃ v : MlV, (∀ j, j < 10 → W.cell? (x.add (i * 10 + j)) = v.cs[j]?) ∧ BsAt W v.a v.m.e.xs ∧ v.m.e.xs.length ≤ maxLen := by
      intro i hi
      obtain ⟨cs', h1, h2⟩ := hall i (by omega)
      rw [Tryz.cMl] at h1
      obtain ⟨_, hlen, hcell⟩ := World.cells?_some h1
      match cs', hlen with
      | [c0, c1, c2, c3, c4, c5, c6, c7, c8, c9], _ =>
        obtain ⟨r, hr, hcm⟩ := open_Mq_cells h2
        refine ⟨r, fun j hj => ?_, hcm⟩
        have hc := hcell j (by omega)
        rw [add_add] at hc
        rw [hc, hr]
    refine ⟨some x, l, cc, (List.range l).map (fun i => if h : i < l then (each i h).choose else zMq), hcs, ?_, by simp, Nat.le_trans hl hm⟩
    obtain ⟨b, off, spot⟩ := x
    intro i q hq
    have hi : i < l := by
      have := (List.getElem?_eq_some_iff.1 hq).1
      simpa using this
    have hq' : q = (each i hi).choose := by
      rw [List.getElem?_map, List.getElem?_range hi] at hq
      simpa [hi] using hq.symm
    have hs := (each i hi).choose_spec
    rw [← hq'] at hs
    have hspot : spot = none := by
      obtain ⟨v, hr0, -⟩ := each 0 (by omega)
      have h2 : W.cell? (Addr.add ⟨b, off, spot⟩ (0 * 10 + 0)) = some (.int .i64 v.m.kd) := hr0 0 (by omega)
      simpa [Addr.add] using World.cell?_spot h2
    subst hspot
    refine ⟨⟨b, off, rfl, fun j hj => ?_⟩, hs.2⟩
    have := hs.1 j hj
    rw [Addr.add_lit] at this
    rw [Nat.add_assoc]
    exact this

end Go.Proofs.YtdbnmkffinhdjaaGreat
