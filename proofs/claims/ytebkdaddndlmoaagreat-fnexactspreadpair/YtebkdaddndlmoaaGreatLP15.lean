/- Lemmas and contracts of one law. -/
import Derived.Test.YtebkdaddndlmoaaGreatLP11
namespace Go.Proofs.YtebkdaddndlmoaaGreat
open Go.ChangeShapes Go.WideShapes Go.ChangeAt Go.RowKit Go.Deep Go.Sort
set_option linter.unusedVariables false
set_option linter.unusedSimpArgs false
set_option maxHeartbeats 25600000

def MlV.r (v : MlV) : Ml := v.m
def MlV.tot (v : MlV) : Nat := v.m.e.xs.length
def cellsMq (V : List MlV) : List Value := V.flatMap MlV.cs
def totMq : List MlV → Nat
  | [] => 0
  | v :: V => v.tot + 1 + totMq V
theorem totMq_len : ∀ V : List MlV, V.length ≤ totMq V
  | [] => Nat.le_refl _
  | v :: V => by have := totMq_len V; simp only [totMq, List.length_cons]; omega
theorem totMq_mem : ∀ (V : List MlV) (v : MlV), v ∈ V → v.tot ≤ totMq V
  | [], v, h => by simp at h
  | u :: V, v, h => by
    simp only [totMq]
    rcases List.mem_cons.1 h with rfl | h
    · omega
    · have := totMq_mem V v h; omega
theorem totMq_snoc (V : List MlV) (v : MlV) : totMq (V ++ [v]) = totMq V + v.tot + 1 := by
  induction V with
  | nil => simp [totMq]
  | cons f F ih => simp only [List.cons_append, totMq, ih]; omega
theorem take_snocMq {V : List MlV} {k : Nat} {f : MlV} (h : V[k]? = some f) : V.take (k + 1) = V.take k ++ [f] := by
  obtain ⟨hk, rfl⟩ := List.getElem?_eq_some_iff.1 h
  exact List.take_succ_eq_append_getElem hk
theorem cellsMq_len : ∀ U : List MlV, (cellsMq U).length = U.length * 10
  | [] => rfl
  | x :: U => by
    have ih := cellsMq_len U
    unfold cellsMq at ih ⊢
    rw [List.flatMap_cons, List.length_append, ih, List.length_cons]
    simp [MlV.cs]
    omega
theorem cellsMq_get : ∀ (U : List MlV) (i : Nat) (u : MlV), U[i]? = some u → ∀ j, j < 10 → (cellsMq U)[i * 10 + j]? = u.cs[j]?
  | [], i, u, h, _, _ => by simp at h
  | x :: U, 0, u, h, j, hj => by
    simp at h
    subst h
    unfold cellsMq
    rw [List.flatMap_cons, Nat.zero_mul, Nat.zero_add, List.getElem?_append_left (by simp [MlV.cs]; omega)]
  | x :: U, i + 1, u, h, j, hj => by
    have ih := cellsMq_get U i u (by simpa using h) j hj
    unfold cellsMq at ih ⊢
    rw [List.flatMap_cons, List.getElem?_append_right (by simp [MlV.cs]; omega), show (x.cs).length = 10 from rfl, show (i + 1) * 10 + j - 10 = i * 10 + j by omega, ih]

/-- The address leads to those that came in. -/
def MqCame (w : World) (A : Option Addr) (V : List MlV) : Prop :=
  ∀ i v, V[i]? = some v → (∃ b off, A = some ⟨b, off, none⟩ ∧ ∀ j, j < 10 → w.cell? ⟨b, off + i * 10 + j, none⟩ = v.cs[j]?) ∧ BsAt w v.a v.m.e.xs ∧ v.m.e.xs.length ≤ maxLen
theorem MqCame.new {w w' : World} {A : Option Addr} {V : List MlV} (h : MqCame w A V) (t : New w w') : MqCame w' A V := by
  intro i v hv
  obtain ⟨⟨b, off, ha, hc⟩, h1⟩ := h i v hv
  have h0 : w.cell? ⟨b, off + i * 10, none⟩ = some (.int .i64 v.m.kd) := hc 0 (by omega)
  have hb' := t.block b (World.block_lt_of_cell? w _ h0) (fun f => f)
  exact ⟨⟨b, off, ha, fun j hj => (World.cell?_of_block hb').trans (hc j hj)⟩, ⟨h1.1.new t, h1.2⟩⟩
theorem MqCame.at {w : World} {A : Option Addr} {V : List MlV} (h : MqCame w A V) (i : Nat) (hi : i < V.length) :
    ∃ (b off : Nat) (kd tgt me at1 pr : Int) (has : Bool) (ee ki pe : Int) (x : Option Addr) (m d : Nat) (xs : List Int), A = some ⟨b, off, none⟩ ∧ V[i]? = some ⟨⟨kd, tgt, me, at1, pr, has, ⟨ee, ki, pe, xs⟩⟩, x, d⟩ ∧ xs.length = m ∧ BsAt w x xs ∧ m ≤ maxLen ∧ w.cell? ⟨b, off + i * 10, none⟩ = some (.int .i64 kd) ∧ w.cell? ⟨b, off + i * 10 + 1, none⟩ = some (.int .i64 tgt) ∧ w.cell? ⟨b, off + i * 10 + 2, none⟩ = some (.int .i64 me) ∧ w.cell? ⟨b, off + i * 10 + 3, none⟩ = some (.int .i64 at1) ∧ w.cell? ⟨b, off + i * 10 + 4, none⟩ = some (.int .i64 pr) ∧ w.cell? ⟨b, off + i * 10 + 5, none⟩ = some (.bool has) ∧ w.cell? ⟨b, off + i * 10 + 6, none⟩ = some (.int .i64 ee) ∧ w.cell? ⟨b, off + i * 10 + 7, none⟩ = some (.int .i64 ki) ∧ w.cell? ⟨b, off + i * 10 + 8, none⟩ = some (.int .i64 pe) ∧ w.cell? ⟨b, off + i * 10 + 9, none⟩ = some (.slice x m d) := by
  obtain ⟨⟨b, off, h1, h2⟩, h3⟩ := h i _ (List.getElem?_eq_getElem hi)
  exact ⟨b, off, _, _, _, _, _, _, _, _, _, _, _, _, _, h1, List.getElem?_eq_getElem hi, rfl, h3.1, h3.2, h2 0 (by omega), h2 1 (by omega), h2 2 (by omega), h2 3 (by omega), h2 4 (by omega), h2 5 (by omega), h2 6 (by omega), h2 7 (by omega), h2 8 (by omega), h2 9 (by omega)⟩

/-- They can be read there. -/
def MqAt (w : World) (A : Option Addr) (V : List MlV) : Prop :=
  ∀ i v, V[i]? = some v → (∃ g, A = some ⟨g, 0, none⟩ ∧ ∀ j, j < 10 → w.cell? ⟨g, i * 10 + j, none⟩ = v.cs[j]?) ∧ BsAt w v.a v.m.e.xs ∧ v.m.e.xs.length ≤ 1048576
theorem MqAt.new {w w' : World} {A : Option Addr} {V : List MlV} (h : MqAt w A V) (t : New w w') : MqAt w' A V := by
  intro i v hv
  obtain ⟨⟨g, ha, hc⟩, h1⟩ := h i v hv
  have h0 : w.cell? ⟨g, i * 10, none⟩ = some (.int .i64 v.m.kd) := hc 0 (by omega)
  have hb' := t.block g (World.block_lt_of_cell? w _ h0) (fun f => f)
  exact ⟨⟨g, ha, fun j hj => (World.cell?_of_block hb').trans (hc j hj)⟩, ⟨h1.1.new t, h1.2⟩⟩
theorem MqAt.at {w : World} {A : Option Addr} {V : List MlV} (h : MqAt w A V) (i : Nat) (hi : i < V.length) :
    ∃ (g : Nat) (kd tgt me at1 pr : Int) (has : Bool) (ee ki pe : Int) (x : Option Addr) (m d : Nat) (xs : List Int), A = some ⟨g, 0, none⟩ ∧ V[i]? = some ⟨⟨kd, tgt, me, at1, pr, has, ⟨ee, ki, pe, xs⟩⟩, x, d⟩ ∧ xs.length = m ∧ BsAt w x xs ∧ m ≤ 1048576 ∧ w.cell? ⟨g, i * 10, none⟩ = some (.int .i64 kd) ∧ w.cell? ⟨g, i * 10 + 1, none⟩ = some (.int .i64 tgt) ∧ w.cell? ⟨g, i * 10 + 2, none⟩ = some (.int .i64 me) ∧ w.cell? ⟨g, i * 10 + 3, none⟩ = some (.int .i64 at1) ∧ w.cell? ⟨g, i * 10 + 4, none⟩ = some (.int .i64 pr) ∧ w.cell? ⟨g, i * 10 + 5, none⟩ = some (.bool has) ∧ w.cell? ⟨g, i * 10 + 6, none⟩ = some (.int .i64 ee) ∧ w.cell? ⟨g, i * 10 + 7, none⟩ = some (.int .i64 ki) ∧ w.cell? ⟨g, i * 10 + 8, none⟩ = some (.int .i64 pe) ∧ w.cell? ⟨g, i * 10 + 9, none⟩ = some (.slice x m d) := by
  obtain ⟨⟨g, h1, h2⟩, h3⟩ := h i _ (List.getElem?_eq_getElem hi)
  exact ⟨g, _, _, _, _, _, _, _, _, _, _, _, _, _, h1, List.getElem?_eq_getElem hi, rfl, h3.1, h3.2, h2 0 (by omega), h2 1 (by omega), h2 2 (by omega), h2 3 (by omega), h2 4 (by omega), h2 5 (by omega), h2 6 (by omega), h2 7 (by omega), h2 8 (by omega), h2 9 (by omega)⟩

theorem szMqS_gen (A : Option Addr) (n c : Nat) (V : List MlV) (K : Int) (w : World) (hK0 : 0 ≤ K) (hK1 : K ≤ 1048576) (h : MqCame w A V) (hn : V.length = n) (hm : n ≤ maxLen) :
    Calls Tryz.prog 41 #[.slice A n c, .int .i64 K] w fun e w' => (∃ z : Int, e = .returned (.int .i64 z) ∧ (z = -1 ∨ (0 ≤ z ∧ (totMq V : Int) + z = K))) ∧ New w w' := by
  have HN : Hid (V.length = n) := hn
  unfold maxLen at hm
  clear hn
  by_cases hbig : K < (n : Int)
  case pos =>
    go_enter Tryz.func41, Tryz.ntmps41
    go_wp2
    go_ret
    exact ⟨⟨_, rfl, .inl rfl⟩, New.refl _⟩
  have hm' : (n : Int) ≤ K := by omega
  clear hm hbig
  go_enter Tryz.func41, Tryz.ntmps41
  go_wp2
  go_loopw [1, 5] (fun t i wr => ∃ (k : Nat) (z : Int), k ≤ n ∧ 0 ≤ z ∧ z ≤ 1048576 ∧ t = .int .i64 z ∧ i = .int .i64 k ∧ New w wr ∧ (totMq (V.take k) : Int) + (n - k) + z = K) (fun _ i _ => n - (intOf i).toNat)
  case atStart => exact ⟨0, _, Nat.zero_le _, by omega, by omega, rfl, rfl, New.refl _, by simp [totMq]; omega⟩
  case round =>
    obtain ⟨k, z, hk, hz0, hz1, rfl, rfl, hnw, hall⟩ := hrel
    by_cases hlt : k < n
    · obtain ⟨b, off, kd, tgt, me, at1, pr, has, ee, ki, pe, x, m, d, xs, rfl, hv, hlen, hns, hmx, q0, q1, q2, q3, q4, q5, q6, q7, q8, q9⟩ := (h.new hnw).at k (by have := HN.out; omega)
      have HL : Hid (xs.length = m) := hlen
      clear hlen
      have HA : Hid ((totMq (V.take (k + 1)) : Int) + (n - (k + 1)) + (z - (m : Nat)) = K) := by
        unfold Hid
        rw [take_snocMq hv, totMq_snoc]
        simp only [MlV.tot, HL.out]
        omega
      clear hv h hall
      go_wp2_with fail
      refine (szMl_gen kd tgt me at1 pr has ee ki pe x m d z _ hz0 hz1 hmx).mono ?_
      rintro e w1 ⟨⟨y, rfl, hy⟩, hn1⟩
      clear q0 q1 q2 q3 q4 q5 q6 q7 q8 q9
      by_cases hy0 : y < 0
      · go_wp2
        go_ret
        exact ⟨⟨_, rfl, .inl rfl⟩, hnw.trans hn1⟩
      · have hy' : 0 ≤ y ∧ ((m : Nat) : Int) + y = z := by rcases hy with hy | hy; (exfalso; omega); exact hy
        clear hy
        go_wp2
        go_roundw
        case rel => exact ⟨k + 1, y, by omega, by omega, by omega, rfl, by go_num, hnw.trans hn1, by have := HA.out; push_cast at this ⊢; omega⟩
        case measure => simp [intOf]; omega
    · go_wp2
      go_ret
      refine ⟨⟨_, rfl, .inr ⟨hz0, ?_⟩⟩, hnw⟩
      rw [List.take_of_length_le (by have := HN.out; omega)] at hall
      omega

/-- What all zeros are. -/
def zMq : MlV := ⟨⟨0, 0, 0, 0, 0, false, ⟨0, 0, 0, []⟩⟩, none, 0⟩
theorem madeMq (n : Nat) : (madeCells #[.int .i64 0, .int .i64 0, .int .i64 0, .int .i64 0, .int .i64 0, .bool false, .int .i64 0, .int .i64 0, .int .i64 0, .slice none 0 0] (n * 10)).toList = cellsMq (List.replicate n zMq) := by
  apply List.ext_getElem?
  intro k
  by_cases hk : k < n * 10
  · have h1 : (cellsMq (List.replicate n zMq))[k / 10 * 10 + k % 10]? = zMq.cs[k % 10]? := cellsMq_get _ (k / 10) zMq (by rw [List.getElem?_replicate]; simp; omega) (k % 10) (by omega)
    rw [show k / 10 * 10 + k % 10 = k by omega] at h1
    rw [h1]
    simp only [madeCells, Array.toList_map, Array.toList_range, List.getElem?_map, List.getElem?_range hk, Option.map_some]
    have h4 : k % 10 = 0 ∨ k % 10 = 1 ∨ k % 10 = 2 ∨ k % 10 = 3 ∨ k % 10 = 4 ∨ k % 10 = 5 ∨ k % 10 = 6 ∨ k % 10 = 7 ∨ k % 10 = 8 ∨ k % 10 = 9 := by omega
    rcases h4 with e | e | e | e | e | e | e | e | e | e <;> simp [e, MlV.cs, zMq]
  · rw [List.getElem?_eq_none (by simp [madeCells]; omega), List.getElem?_eq_none (by rw [cellsMq_len]; simp; omega)]
theorem set_fillMq (V : List MlV) (k n : Nat) (hn : V.length = k) (hk : k < n) (p : MlV) :
    (V ++ List.replicate (n - k) zMq).set k p = (V ++ [p]) ++ List.replicate (n - (k + 1)) zMq := by
  rw [List.set_append_right _ _ (by omega), hn, Nat.sub_self, show n - k = (n - (k + 1)) + 1 by omega, List.replicate_succ, List.set_cons_zero, List.append_assoc]
  rfl
theorem Tryz.infoMq : (Tryz.prog.info? 137).map (fun i => (i.zero, i.size, i.bytes)) = some (some (.agg #[.int .i64 0, .int .i64 0, .int .i64 0, .int .i64 0, .int .i64 0, .bool false, .int .i64 0, .int .i64 0, .int .i64 0, .slice none 0 0]), 10, 96) := by kernel_rfl
theorem cellsMq_set : ∀ (V : List MlV) (i : Nat) (v : MlV), ((((((((((cellsMq V).set (i * 10) (.int .i64 v.m.kd)).set (i * 10 + 1) (.int .i64 v.m.tgt)).set (i * 10 + 2) (.int .i64 v.m.ep)).set (i * 10 + 3) (.int .i64 v.m.at1)).set (i * 10 + 4) (.int .i64 v.m.pr)).set (i * 10 + 5) (.bool v.m.has)).set (i * 10 + 6) (.int .i64 v.m.e.ep)).set (i * 10 + 7) (.int .i64 v.m.e.ki)).set (i * 10 + 8) (.int .i64 v.m.e.pe)).set (i * 10 + 9) (.slice v.a v.m.e.xs.length v.c) = cellsMq (V.set i v)
  | [], i, p => by simp [cellsMq]
  | q :: V, 0, p => by simp [cellsMq, MlV.cs]
  | q :: V, i + 1, p => by
    have ih := cellsMq_set V i p
    have e : ∀ (q : MlV) (V : List MlV), cellsMq (q :: V) = .int .i64 q.m.kd :: .int .i64 q.m.tgt :: .int .i64 q.m.ep :: .int .i64 q.m.at1 :: .int .i64 q.m.pr :: .bool q.m.has :: .int .i64 q.m.e.ep :: .int .i64 q.m.e.ki :: .int .i64 q.m.e.pe :: .slice q.a q.m.e.xs.length q.c :: cellsMq V := fun _ _ => rfl
    rw [show (i + 1) * 10 = i * 10 + 10 by omega, e, show (q :: V).set (i + 1) p = q :: V.set i p from rfl, e, ← ih]
    simp only [Nat.add_assoc, Nat.reduceAdd, List.set_cons_succ]
theorem setMqk (w : World) (B j : Nat) (v0 v1 v2 v3 v4 v5 v6 v7 v8 v9 : Value) : Turn (fun k => k = B) w ((((((((((w.setCell ⟨B, j, none⟩ v0).setCell ⟨B, j + 1, none⟩ v1).setCell ⟨B, j + 2, none⟩ v2).setCell ⟨B, j + 3, none⟩ v3).setCell ⟨B, j + 4, none⟩ v4).setCell ⟨B, j + 5, none⟩ v5).setCell ⟨B, j + 6, none⟩ v6).setCell ⟨B, j + 7, none⟩ v7).setCell ⟨B, j + 8, none⟩ v8).setCell ⟨B, j + 9, none⟩ v9) :=
  ((((((((((Turn.refl (fun k => k = B) w).set (p := ⟨B, j, none⟩) rfl v0).set (p := ⟨B, j + 1, none⟩) rfl v1).set (p := ⟨B, j + 2, none⟩) rfl v2).set (p := ⟨B, j + 3, none⟩) rfl v3).set (p := ⟨B, j + 4, none⟩) rfl v4).set (p := ⟨B, j + 5, none⟩) rfl v5).set (p := ⟨B, j + 6, none⟩) rfl v6).set (p := ⟨B, j + 7, none⟩) rfl v7).set (p := ⟨B, j + 8, none⟩) rfl v8).set (p := ⟨B, j + 9, none⟩) rfl v9
/-- The block g is a row that a call has made. -/
def RwMq (w : World) (g n c : Nat) (V : List MlV) : Prop := w.ownsRow 0 137 10 (.slice (some ⟨g, 0, none⟩) n c) n (cellsMq V)
theorem RwMq.len {w : World} {g n c : Nat} {V : List MlV} (h : RwMq w g n c V) : V.length = n := by
  have := h.1
  rw [cellsMq_len] at this
  omega
theorem RwMq.lt {w : World} {g n c : Nat} {V : List MlV} (h : RwMq w g n c V) : g < w.heap.size := (World.ownsRow.lt h g rfl).2
theorem RwMq.new {w w' : World} {g n c : Nat} {V : List MlV} (h : RwMq w g n c V) (t : New w w') : RwMq w' g n c V := row9_new h t
theorem RwMq.put {w : World} {g n c : Nat} {V : List MlV} (h : RwMq w g n c V) (i : Nat) (v : MlV) : RwMq ((((((((((w.setCell ⟨g, i * 10, none⟩ (.int .i64 v.m.kd)).setCell ⟨g, i * 10 + 1, none⟩ (.int .i64 v.m.tgt)).setCell ⟨g, i * 10 + 2, none⟩ (.int .i64 v.m.ep)).setCell ⟨g, i * 10 + 3, none⟩ (.int .i64 v.m.at1)).setCell ⟨g, i * 10 + 4, none⟩ (.int .i64 v.m.pr)).setCell ⟨g, i * 10 + 5, none⟩ (.bool v.m.has)).setCell ⟨g, i * 10 + 6, none⟩ (.int .i64 v.m.e.ep)).setCell ⟨g, i * 10 + 7, none⟩ (.int .i64 v.m.e.ki)).setCell ⟨g, i * 10 + 8, none⟩ (.int .i64 v.m.e.pe)).setCell ⟨g, i * 10 + 9, none⟩ (.slice v.a v.m.e.xs.length v.c)) g n c (V.set i v) := by
  have h1 := (World.ownsRow.stored h (i * 10) (.int .i64 v.m.kd)).1
  have h2 := (World.ownsRow.stored h1 (i * 10 + 1) (.int .i64 v.m.tgt)).1
  have h3 := (World.ownsRow.stored h2 (i * 10 + 2) (.int .i64 v.m.ep)).1
  have h4 := (World.ownsRow.stored h3 (i * 10 + 3) (.int .i64 v.m.at1)).1
  have h5 := (World.ownsRow.stored h4 (i * 10 + 4) (.int .i64 v.m.pr)).1
  have h6 := (World.ownsRow.stored h5 (i * 10 + 5) (.bool v.m.has)).1
  have h7 := (World.ownsRow.stored h6 (i * 10 + 6) (.int .i64 v.m.e.ep)).1
  have h8 := (World.ownsRow.stored h7 (i * 10 + 7) (.int .i64 v.m.e.ki)).1
  have h9 := (World.ownsRow.stored h8 (i * 10 + 8) (.int .i64 v.m.e.pe)).1
  have h10 := (World.ownsRow.stored h9 (i * 10 + 9) (.slice v.a v.m.e.xs.length v.c)).1
  unfold RwMq
  rw [← cellsMq_set V i v]
  exact h10
theorem RwMq.cell {w : World} {g n c : Nat} {V : List MlV} (h : RwMq w g n c V) (j : Nat) (hj : j < n * 10) : ∃ v, w.cell? ⟨g, j, none⟩ = some v := by
  have hl := cellsMq_len V
  have := h.len
  exact ⟨_, (World.ownsRow.cellAt h j hj).trans (List.getElem?_eq_getElem (by omega))⟩

/-- What belongs to one of them is the call's own, from lo on. -/
def MlV.own (w : World) (lo : Nat) (v : MlV) : Prop := OvB w lo (.slice v.a v.m.e.xs.length v.c) v.m.e.xs ∧ (∀ z ∈ v.m.e.xs, By z) ∧ v.m.e.xs.length ≤ 1048576
theorem MlV.own.turn {w w' : World} {lo : Nat} {v : MlV} {S : Nat → Prop} (h : v.own w lo) (t : Turn S w w') (hS : ∀ k, lo ≤ k → k < w.heap.size → ¬ S k) : v.own w' lo := by
  exact ⟨h.1.turn t hS, h.2⟩
theorem MlV.own.new {w w' : World} {lo : Nat} {v : MlV} (h : v.own w lo) (t : New w w') : v.own w' lo := h.turn t (fun _ _ _ f => f)
theorem MlV.own.low {w : World} {lo lo' : Nat} {v : MlV} (h : v.own w lo) (hl : lo' ≤ lo) : v.own w lo' := by
  exact ⟨h.1.low hl, h.2⟩
theorem eqMqS_any (A B : Option Addr) (n c d : Nat) (V U : List MlV) (w : World) (hF : MqAt w A V) (hG : MqAt w B U) (hVU : V.map MlV.r = U.map MlV.r) (hn : V.length = n) (hm : n ≤ 2097152) :
    Calls Tryz.prog 57 #[.slice A n c, .slice B n d] w fun e w' => e = .returned (.bool true) ∧ New w w' := by
  have hnn : ((n : Int) != (n : Int)) = false := by simp
  have HN : Hid (V.length = n) := hn
  have HU : Hid (V.map MlV.r = U.map MlV.r) := hVU
  have HUN : Hid (U.length = n) := by
    have := congrArg List.length hVU
    simp at this
    show U.length = n
    omega
  clear hn hVU
  go_enter Tryz.func57, Tryz.ntmps57
  go_wp2
  go_loopw [5] (fun i wr => ∃ k : Nat, k ≤ n ∧ i = .int .i64 k ∧ New w wr) (fun i _ => n - (intOf i).toNat)
  case atStart => exact ⟨0, Nat.zero_le _, rfl, New.refl _⟩
  case round =>
    obtain ⟨k, hk, rfl, hnw⟩ := hrel
    by_cases hlt : k < n
    · obtain ⟨g1, kd, tgt, me, at1, pr, has, ee, ki, pe, x, m, d, xs, rfl, hp1, hlen, hns, hmx, q0, q1, q2, q3, q4, q5, q6, q7, q8, q9⟩ := (hF.new hnw).at k (by have := HN.out; omega)
      obtain ⟨g2, kd', tgt', me', at1', pr', has', ee', ki', pe', x', m', d', xs', rfl, hp2, hlen', hns', hmx', y0, y1, y2, y3, y4, y5, y6, y7, y8, y9⟩ := (hG.new hnw).at k (by have := HUN.out; omega)
      have hh : MlV.r ⟨⟨kd, tgt, me, at1, pr, has, ⟨ee, ki, pe, xs⟩⟩, x, d⟩ = MlV.r ⟨⟨kd', tgt', me', at1', pr', has', ⟨ee', ki', pe', xs'⟩⟩, x', d'⟩ := by
        have h1 : (V.map MlV.r)[k]? = some (MlV.r ⟨⟨kd, tgt, me, at1, pr, has, ⟨ee, ki, pe, xs⟩⟩, x, d⟩) := by rw [List.getElem?_map, hp1]; rfl
        have h2 : (U.map MlV.r)[k]? = some (MlV.r ⟨⟨kd', tgt', me', at1', pr', has', ⟨ee', ki', pe', xs'⟩⟩, x', d'⟩) := by rw [List.getElem?_map, hp2]; rfl
        rw [HU.out, h2] at h1
        exact (Option.some.inj h1).symm
      simp only [MlV.r, Ml.mk.injEq, Ek.mk.injEq] at hh
      obtain ⟨rfl, rfl, rfl, rfl, rfl, rfl, rfl, rfl, rfl, rfl⟩ := hh
      obtain rfl : m = m' := hlen.symm.trans hlen'
      have HL : Hid (xs.length = m) := hlen
      clear hlen hlen'
      clear hp1 hp2 hF hG
      have X0 := cell_regrown q0
      have Y0 := cell_regrown y0
      have X1 := cell_regrown q1
      have Y1 := cell_regrown y1
      have X2 := cell_regrown q2
      have Y2 := cell_regrown y2
      have X3 := cell_regrown q3
      have Y3 := cell_regrown y3
      have X4 := cell_regrown q4
      have Y4 := cell_regrown y4
      have X5 := cell_regrown q5
      have Y5 := cell_regrown y5
      have X6 := cell_regrown q6
      have Y6 := cell_regrown y6
      have X7 := cell_regrown q7
      have Y7 := cell_regrown y7
      have X8 := cell_regrown q8
      have Y8 := cell_regrown y8
      have X9 := cell_regrown q9
      have Y9 := cell_regrown y9
      go_wp2_with fail
      refine wp_region_quiet_below (by kernel_rfl) (by kernel_rfl) ?_
      repeat (go_big_quiet_step ((go_at_call 113; exact calls_regrown (eqMl_any kd tgt me at1 pr has ee ki pe x x' m d d' xs _ (hns.new (new_regrown _ _ _)) (hns'.new (new_regrown _ _ _)) HL.out (by omega)))))
      refine wpQuiet_nil ?_
      rintro w1 hn1
      replace hn1 := new_of_regrown hn1
      go_wp2
      go_roundw
      case rel => exact ⟨k + 1, by omega, by go_num, hnw.trans hn1⟩
      case measure => simp [intOf]; omega
    · go_wp2
      go_ret
      exact ⟨rfl, hnw⟩

set_option maxRecDepth 100000 in
theorem open_Mq_cells {H : Type} {enc : TypeId × Value → H} {W : World} {base fuel : Nat} {t1 : Nat → Bool} {t2 : Bool} {c0 c1 c2 c3 c4 c5 c6 c7 c8 c9 : Value} {y : DataW H × List MemPlace}
    (hf' : DataW.trod enc Tryz.prog W base t1 t2 fuel 124 [c0, c1, c2, c3, c4, c5, c6, c7, c8, c9] = some y) :
    ∃ v : MlV, [c0, c1, c2, c3, c4, c5, c6, c7, c8, c9] = v.cs ∧ BsAt W v.a v.m.e.xs ∧ v.m.e.xs.length ≤ maxLen := by
  obtain ⟨ys, m', _, rfl, hl, hlen, hq⟩ := DataW.trod_struct Tryz.underlying124 hf'
  match ys, hlen with
  | [y0, y1, y2, y3, y4, y5, y6], _ =>
    have k0 := hq 0 _ rfl
    have k1 := hq 1 _ rfl
    have k2 := hq 2 _ rfl
    have k3 := hq 3 _ rfl
    have k4 := hq 4 _ rfl
    have k5 := hq 5 _ rfl
    have k6 := hq 6 _ rfl
    simp [Tryz.cEn10, Tryz.cI9, Tryz.cBl] at k0 k1 k2 k3 k4 k5 k6
    obtain ⟨kd, e0, -, w0⟩ := DataW.trod_int Tryz.underlying2 k0
    obtain ⟨tgt, e1, -, w1⟩ := DataW.trod_int Tryz.underlying2 k1
    obtain ⟨me, e2, -, w2⟩ := DataW.trod_int Tryz.underlying2 k2
    obtain ⟨at1, e3, -, w3⟩ := DataW.trod_int Tryz.underlying2 k3
    obtain ⟨pr, e4, -, w4⟩ := DataW.trod_int Tryz.underlying2 k4
    obtain ⟨has, e5, -⟩ := DataW.trod_bool Tryz.underlying4 k5
    obtain ⟨⟨⟨ee, ki, pe, zs⟩, a, cc⟩, e6, hb, hlm⟩ := open_entry_cells k6
    simp only [List.cons.injEq, and_true] at e0 e1 e2 e3 e4 e5
    simp only [EkV.cs, List.cons.injEq, and_true] at e6
    obtain ⟨rfl, rfl, rfl, rfl⟩ := e6
    subst e0 e1 e2 e3 e4 e5
    exact ⟨⟨⟨kd, tgt, me, at1, pr, has, ⟨ee, ki, pe, zs⟩⟩, a, cc⟩, rfl, hb, hlm⟩

set_option maxRecDepth 100000 in
theorem open_MqS {H : Type} {enc : TypeId × Value → H} {W : World} {base fuel : Nat} {t1 : Nat → Bool} {t2 : Bool} {cs : List Value} {y : DataW H × List MemPlace}
    (hf : DataW.trod enc Tryz.prog W base t1 t2 fuel 29 cs = some y) : ∃ a n c V, cs = [.slice a n c] ∧ MqCame W a V ∧ V.length = n ∧ n ≤ maxLen := by
  rcases open_slice Tryz.underlying29 hf with ⟨hcs, _⟩ | ⟨x, l, cc, m, k, D, Pl, hcs, _, hl, hm, hmm, _, hall⟩
  · exact ⟨none, 0, 0, [], hcs, (by intro i v hv; simp at hv), rfl, Nat.zero_le _⟩
  · have hlm : l ≤ m := by rw [hmm]; split <;> omega
    have each : ∀ i, i < l → ∃ v : MlV, (∀ j, j < 10 → W.cell? (x.add (i * 10 + j)) = v.cs[j]?) ∧ BsAt W v.a v.m.e.xs ∧ v.m.e.xs.length ≤ maxLen := by
      intro i hi
      obtain ⟨cs', h1, h2⟩ := hall i (by omega)
      rw [Tryz.cMl] at h1
      obtain ⟨_, hlen, hcell⟩ := World.cells?_some h1
      match cs', hlen with
      | [c0, c1, c2, c3, c4, c5, c6, c7, c8, c9], _ =>
        obtain ⟨r, hr, hcm⟩ := open_Mq_cells h2
        refine ⟨r, fun j hj => ?_, hcm⟩
        have hc := hcell j (by omega)
        rw [add_add] at hc
        rw [hc, hr]
    refine ⟨some x, l, cc, (List.range l).map (fun i => if h : i < l then (each i h).choose else zMq), hcs, ?_, by simp, Nat.le_trans hl hm⟩
    obtain ⟨b, off, spot⟩ := x
    intro i q hq
    have hi : i < l := by
      have := (List.getElem?_eq_some_iff.1 hq).1
      simpa using this
    have hq' : q = (each i hi).choose := by
      rw [List.getElem?_map, List.getElem?_range hi] at hq
      simpa [hi] using hq.symm
    have hs := (each i hi).choose_spec
    rw [← hq'] at hs
    have hspot : spot = none := by
      obtain ⟨v, hr0, -⟩ := each 0 (by omega)
      have h2 : W.cell? (Addr.add ⟨b, off, spot⟩ (0 * 10 + 0)) = some (.int .i64 v.m.kd) := hr0 0 (by omega)
      simpa [Addr.add] using World.cell?_spot h2
    subst hspot
    refine ⟨⟨b, off, rfl, fun j hj => ?_⟩, hs.2⟩
    have := hs.1 j hj
    rw [Addr.add_lit] at this
    rw [Nat.add_assoc]
    exact this

end Go.Proofs.YtebkdaddndlmoaaGreat

namespace Go.Proofs.YtebkdaddndlmoaaGreat
open Go.RowKit Go.Sort
set_option linter.unusedVariables false
set_option linter.unusedSimpArgs false
set_option maxRecDepth 100000
set_option maxHeartbeats 25600000

/-- A mail that is marked from k on. -/
def MlV.mkQ (k : Int) (v : MlV) : MlV := ⟨⟨k, k + 1, k + 1 + 1, k + 1 + 1 + 1, k + 1 + 1 + 1 + 1, (k + 1 + 1 + 1 + 1 + 1) % 3 == 0, ⟨k + 1 + 1 + 1 + 1 + 1 + 1, k + 1 + 1 + 1 + 1 + 1 + 1 + 1, k + 1 + 1 + 1 + 1 + 1 + 1 + 1 + 1, marks (k + 1 + 1 + 1 + 1 + 1 + 1 + 1 + 1 + 1) v.m.e.xs.length⟩⟩, v.a, v.c⟩
def MlV.nxQ (k : Int) (v : MlV) : Int := k + 1 + 1 + 1 + 1 + 1 + 1 + 1 + 1 + 1 + v.m.e.xs.length
def markQ : Int → List MlV → List MlV
  | _, [] => []
  | k, v :: V => v.mkQ k :: markQ (v.nxQ k) V
def endQ : Int → List MlV → Int
  | k, [] => k
  | k, v :: V => endQ (v.nxQ k) V
theorem cellsMq_set9 : ∀ (U : List MlV) (i : Nat) (u v : MlV), U[i]? = some u → (Value.slice v.a v.m.e.xs.length v.c) = .slice u.a u.m.e.xs.length u.c → (((((((((cellsMq U).set (i * 10) (.int .i64 v.m.kd)).set (i * 10 + 1) (.int .i64 v.m.tgt)).set (i * 10 + 2) (.int .i64 v.m.ep)).set (i * 10 + 3) (.int .i64 v.m.at1)).set (i * 10 + 4) (.int .i64 v.m.pr)).set (i * 10 + 5) (.bool v.m.has)).set (i * 10 + 6) (.int .i64 v.m.e.ep)).set (i * 10 + 7) (.int .i64 v.m.e.ki)).set (i * 10 + 8) (.int .i64 v.m.e.pe) = cellsMq (U.set i v)
  | [], i, u, v, h, _ => by simp at h
  | q :: U, 0, u, v, h, e => by
    simp at h
    subst h
    simp [cellsMq, MlV.cs, ← e]
  | q :: U, i + 1, u, v, h, e => by
    have ih := cellsMq_set9 U i u v (by simpa using h) e
    have e2 : ∀ (q : MlV) (U : List MlV), cellsMq (q :: U) = .int .i64 q.m.kd :: .int .i64 q.m.tgt :: .int .i64 q.m.ep :: .int .i64 q.m.at1 :: .int .i64 q.m.pr :: .bool q.m.has :: .int .i64 q.m.e.ep :: .int .i64 q.m.e.ki :: .int .i64 q.m.e.pe :: .slice q.a q.m.e.xs.length q.c :: cellsMq U := fun _ _ => rfl
    rw [show (i + 1) * 10 = i * 10 + 10 by omega, e2, show (q :: U).set (i + 1) v = q :: U.set i v from rfl, e2, ← ih]
    simp only [Nat.add_assoc, Nat.reduceAdd, List.set_cons_succ]
theorem markQ_length (V : List MlV) : ∀ k, (markQ k V).length = V.length := by
  induction V with
  | nil => intro k; rfl
  | cons f F ih => intro k; simp [markQ, ih]
theorem endQ_snoc (V : List MlV) (v : MlV) : ∀ k, endQ k (V ++ [v]) = v.nxQ (endQ k V) := by
  induction V with
  | nil => intro k; rfl
  | cons g F ih => intro k; simp only [List.cons_append, endQ]; exact ih _
theorem markQ_snoc (V : List MlV) (v : MlV) : ∀ k, markQ k (V ++ [v]) = markQ k V ++ [v.mkQ (endQ k V)] := by
  induction V with
  | nil => intro k; rfl
  | cons g F ih => intro k; simp only [List.cons_append, markQ, endQ, ih]
theorem totMq_take : ∀ (V : List MlV) (j : Nat), totMq (V.take j) ≤ totMq V
  | [], j => by simp
  | v :: V, 0 => by simp [totMq]
  | v :: V, j + 1 => by have := totMq_take V j; simp only [List.take_succ_cons, totMq]; omega
theorem endQ_bd (V : List MlV) : ∀ k, k ≤ endQ k V ∧ endQ k V ≤ k + 9 * totMq V := by
  induction V with
  | nil => intro k; simp [endQ, totMq]
  | cons f F ih =>
    intro k
    have h2 := ih (f.nxQ k)
    simp only [endQ, totMq]
    unfold MlV.nxQ at h2 ⊢
    unfold MlV.tot
    omega
theorem markQ_get (V : List MlV) {j : Nat} {f : MlV} (h : V[j]? = some f) (k : Int) : (markQ k V)[j]? = some (f.mkQ (endQ k (V.take j))) := by
  induction V generalizing j k with
  | nil => simp at h
  | cons g F ih =>
    cases j with
    | zero => simp at h; subst h; simp [markQ, endQ]
    | succ j => simp at h; simp only [markQ, List.getElem?_cons_succ, List.take_succ_cons, endQ]; exact ih h _
theorem endQ_take {V : List MlV} {j : Nat} {f : MlV} (h : V[j]? = some f) (k : Int) : endQ k (V.take (j + 1)) = f.nxQ (endQ k (V.take j)) := by rw [take_snocMq h, endQ_snoc]
theorem stepQ_get {V : List MlV} {j : Nat} {f : MlV} (h : V[j]? = some f) (k : Int) : (markQ k (V.take j) ++ V.drop j)[j]? = some f := by
  obtain ⟨hj, rfl⟩ := List.getElem?_eq_some_iff.1 h
  have hl : (markQ k (V.take j)).length = j := by rw [markQ_length, List.length_take]; omega
  rw [List.getElem?_append_right (by omega), hl, Nat.sub_self, List.getElem?_drop]
  exact h
theorem stepQ_set {V : List MlV} {j : Nat} {f : MlV} (h : V[j]? = some f) (k : Int) : (markQ k (V.take j) ++ V.drop j).set j (f.mkQ (endQ k (V.take j))) = markQ k (V.take (j + 1)) ++ V.drop (j + 1) := by
  have hf := take_snocMq h
  obtain ⟨hj, rfl⟩ := List.getElem?_eq_some_iff.1 h
  have hl : (markQ k (V.take j)).length = j := by rw [markQ_length, List.length_take]; omega
  rw [hf, markQ_snoc, List.set_append_right _ _ (by omega), hl, Nat.sub_self, List.drop_eq_getElem_cons hj, List.set_cons_zero]
  simp

/-- What the marking needs of a list: the row and each entry's bytes, of the call's own, in blocks of F, each in a block of its own. -/
structure OwQ1 (w : World) (F : Nat → Prop) (g n c : Nat) (U : List MlV) : Prop where
  row : w.ownsRow 0 137 10 (.slice (some ⟨g, 0, none⟩) n c) n (cellsMq U)
  own : ∀ (i : Nat) (u : MlV), U[i]? = some u → OwAt w u.a u.m.e.xs.length u.c u.m.e.xs
  len : ∀ u ∈ U, u.m.e.xs.length ≤ 1048576
  inn : ∀ u ∈ U, ∀ x, u.a = some x → F x.block ∧ ¬ x.block = g
  glo : F g
  apart : ∀ (i j : Nat) (u v : MlV) (x y : Addr), U[i]? = some u → U[j]? = some v → i ≠ j → u.a = some x → v.a = some y → ¬ x.block = y.block

theorem row_turnQ {w w' : World} {g n c : Nat} {xs : List Value} {S : Nat → Prop} (h : w.ownsRow 0 137 10 (.slice (some ⟨g, 0, none⟩) n c) n xs) (t : Turn S w w') (hS : ¬ S g) : w'.ownsRow 0 137 10 (.slice (some ⟨g, 0, none⟩) n c) n xs := row9_turn h t (by intro k hk; simp [Value.ownBlock] at hk; subst hk; exact hS)
theorem set9q (w : World) (B j : Nat) (v0 v1 v2 v3 v4 v5 v6 v7 v8 : Value) : Turn (fun k => k = B) w (((((((((w.setCell ⟨B, j, none⟩ v0).setCell ⟨B, j + 1, none⟩ v1).setCell ⟨B, j + 2, none⟩ v2).setCell ⟨B, j + 3, none⟩ v3).setCell ⟨B, j + 4, none⟩ v4).setCell ⟨B, j + 5, none⟩ v5).setCell ⟨B, j + 6, none⟩ v6).setCell ⟨B, j + 7, none⟩ v7).setCell ⟨B, j + 8, none⟩ v8) :=
  ((((((((((Turn.refl (fun k => k = B) w).set (p := ⟨B, j, none⟩) rfl v0).set (p := ⟨B, j + 1, none⟩) rfl v1).set (p := ⟨B, j + 2, none⟩) rfl v2).set (p := ⟨B, j + 3, none⟩) rfl v3).set (p := ⟨B, j + 4, none⟩) rfl v4).set (p := ⟨B, j + 5, none⟩) rfl v5).set (p := ⟨B, j + 6, none⟩) rfl v6).set (p := ⟨B, j + 7, none⟩) rfl v7).set (p := ⟨B, j + 8, none⟩) rfl v8)

theorem markMqS_row (g n c : Nat) (F : Nat → Prop) (k : Int) (U : List MlV) (w : World) (h : OwQ1 w F g n c U) (hn : U.length = n) (hT : totMq U ≤ 2097152) (hm : n ≤ 2097152) (hk0 : 0 ≤ k) (hk : k ≤ 134217728) :
    Calls Tryz.prog 62 #[.slice (some ⟨g, 0, none⟩) n c, .int .i64 k] w fun e w' => e = .returned (.int .i64 (endQ k U)) ∧ MqAt w' (some ⟨g, 0, none⟩) (markQ k U) ∧ Turn F w w' := by
  have HLn : Hid (U.length = n) := hn
  have HBd : Hid (∀ j, j ≤ n → k ≤ endQ k (U.take j) ∧ endQ k (U.take j) ≤ k + 18874368) := by
    intro j hj
    have h1 := endQ_bd (U.take j) k
    have h2 := totMq_take U j
    omega
  have HLen : Hid (∀ u ∈ U, u.m.e.xs.length ≤ 1048576) := h.len
  have HInn : Hid (∀ u ∈ U, ∀ x, u.a = some x → F x.block ∧ ¬ x.block = g) := h.inn
  have HAp : Hid (∀ (i j : Nat) (u v : MlV) (x y : Addr), U[i]? = some u → U[j]? = some v → i ≠ j → u.a = some x → v.a = some y → ¬ x.block = y.block) := h.apart
  have HGl : Hid (F g) := h.glo
  have hrow := h.row
  have hown := h.own
  clear hn h
  go_enter Tryz.func62, Tryz.ntmps62
  go_wp2
  go_loopw [1, 5] (fun s i wr => ∃ j : Nat, j ≤ n ∧ i = .int .i64 j ∧ s = .int .i64 (endQ k (U.take j)) ∧ wr.ownsRow 0 137 10 (.slice (some ⟨g, 0, none⟩) n c) n (cellsMq (markQ k (U.take j) ++ U.drop j)) ∧
      (∀ (i : Nat) (u : MlV), j ≤ i → U[i]? = some u → OwAt wr u.a u.m.e.xs.length u.c u.m.e.xs) ∧ (∀ (i : Nat) (u : MlV), i < j → U[i]? = some u → BsAt wr u.a (marks (endQ k (U.take i) + 1 + 1 + 1 + 1 + 1 + 1 + 1 + 1 + 1) u.m.e.xs.length)) ∧ Turn F w wr) (fun _ i _ => n - (intOf i).toNat)
  case atStart => exact ⟨0, Nat.zero_le _, rfl, rfl, by simpa [markQ] using hrow, fun i u _ hu => hown i u hu, fun i u hi => absurd hi (Nat.not_lt_zero i), Turn.refl _ _⟩
  case round =>
    obtain ⟨j, hj, rfl, rfl, hC, hrest, hdone, htn⟩ := hrel
    by_cases hlt : j < n
    · obtain ⟨f, hfj⟩ : ∃ f, U[j]? = some f := ⟨_, List.getElem?_eq_getElem (by have := HLn.out; omega)⟩
      have hCj := stepQ_get hfj k
      have he := HBd.out j hj
      have HE : Hid (endQ k (U.take (j + 1)) = f.nxQ (endQ k (U.take j))) := endQ_take hfj k
      have HS2 : Hid _ := stepQ_set hfj k
      have HKC : Hid (∀ u, U[j]? = some u → u = f) := by intro u hu; rw [hfj] at hu; exact (Option.some.inj hu).symm
      have HFJ : Hid (U[j]? = some f) := hfj
      have HDone : Hid (∀ (i : Nat) (u : MlV), i < j → U[i]? = some u → BsAt wr u.a (marks (endQ k (U.take i) + 1 + 1 + 1 + 1 + 1 + 1 + 1 + 1 + 1) u.m.e.xs.length)) := hdone
      have HKE : Hid (∃ kk, kk = endQ k (U.take j)) := ⟨_, rfl⟩
      obtain ⟨kc, hkc⟩ : ∃ kc, kc = endQ k (U.take j) := ⟨_, rfl⟩
      have HK : Hid (kc = endQ k (U.take j)) := hkc
      rw [← hkc] at he ⊢
      have HE2 : Hid (endQ k (U.take (j + 1)) = f.nxQ kc) := by unfold Hid; rw [hkc]; exact HE.out
      have HS3 : Hid ((markQ k (U.take j) ++ U.drop j).set j (f.mkQ kc) = markQ k (U.take (j + 1)) ++ U.drop (j + 1)) := by unfold Hid; rw [hkc]; exact HS2.out
      clear hkc HE HS2 hdone
      generalize hCC0 : markQ k (U.take j) ++ U.drop j = CC at *
      have HCj : Hid (CC[j]? = some f) := hCj
      have hCl : (cellsMq CC).length = n * 10 := by have := hC.1; omega
      have hov := hrest j f (Nat.le_refl _) hfj
      have hlf := HLen.out f (List.mem_of_getElem? hfj)
      have hif := HInn.out f (List.mem_of_getElem? hfj)
      have x3 : wr.cell? ⟨g, j * 10 + 9, none⟩ = some (.slice f.a f.m.e.xs.length f.c) := by
        rw [World.ownsRow.cellAt hC (j * 10 + 9) (by omega)]
        exact cellsMq_get CC j f hCj 9 (by omega)
      have f0 := fun q => World.ownsRow.frozenAt hC q
      obtain ⟨v0, c0⟩ : ∃ v, wr.cell? ⟨g, j * 10, none⟩ = some v := ⟨_, (World.ownsRow.cellAt hC _ (by omega)).trans (List.getElem?_eq_getElem (by omega))⟩
      obtain ⟨v1, c1⟩ : ∃ v, wr.cell? ⟨g, j * 10 + 1, none⟩ = some v := ⟨_, (World.ownsRow.cellAt hC _ (by omega)).trans (List.getElem?_eq_getElem (by omega))⟩
      obtain ⟨v2, c2⟩ : ∃ v, wr.cell? ⟨g, j * 10 + 2, none⟩ = some v := ⟨_, (World.ownsRow.cellAt hC _ (by omega)).trans (List.getElem?_eq_getElem (by omega))⟩
      obtain ⟨v3, c3⟩ : ∃ v, wr.cell? ⟨g, j * 10 + 3, none⟩ = some v := ⟨_, (World.ownsRow.cellAt hC _ (by omega)).trans (List.getElem?_eq_getElem (by omega))⟩
      obtain ⟨v4, c4⟩ : ∃ v, wr.cell? ⟨g, j * 10 + 4, none⟩ = some v := ⟨_, (World.ownsRow.cellAt hC _ (by omega)).trans (List.getElem?_eq_getElem (by omega))⟩
      obtain ⟨v5, c5⟩ : ∃ v, wr.cell? ⟨g, j * 10 + 5, none⟩ = some v := ⟨_, (World.ownsRow.cellAt hC _ (by omega)).trans (List.getElem?_eq_getElem (by omega))⟩
      obtain ⟨v6, c6⟩ : ∃ v, wr.cell? ⟨g, j * 10 + 6, none⟩ = some v := ⟨_, (World.ownsRow.cellAt hC _ (by omega)).trans (List.getElem?_eq_getElem (by omega))⟩
      obtain ⟨v7, c7⟩ : ∃ v, wr.cell? ⟨g, j * 10 + 7, none⟩ = some v := ⟨_, (World.ownsRow.cellAt hC _ (by omega)).trans (List.getElem?_eq_getElem (by omega))⟩
      obtain ⟨v8, c8⟩ : ∃ v, wr.cell? ⟨g, j * 10 + 8, none⟩ = some v := ⟨_, (World.ownsRow.cellAt hC _ (by omega)).trans (List.getElem?_eq_getElem (by omega))⟩
      have hg1 := (World.ownsRow.stored hC (j * 10) (.int .i64 kc)).1
      have hg2 := (World.ownsRow.stored hg1 (j * 10 + 1) (.int .i64 (kc + 1))).1
      have hg3 := (World.ownsRow.stored hg2 (j * 10 + 2) (.int .i64 (kc + 1 + 1))).1
      have hg4 := (World.ownsRow.stored hg3 (j * 10 + 3) (.int .i64 (kc + 1 + 1 + 1))).1
      have hg5 := (World.ownsRow.stored hg4 (j * 10 + 4) (.int .i64 (kc + 1 + 1 + 1 + 1))).1
      have hg6 := (World.ownsRow.stored hg5 (j * 10 + 5) (.bool ((kc + 1 + 1 + 1 + 1 + 1) % 3 == 0))).1
      have hg7 := (World.ownsRow.stored hg6 (j * 10 + 6) (.int .i64 (kc + 1 + 1 + 1 + 1 + 1 + 1))).1
      have hg8 := (World.ownsRow.stored hg7 (j * 10 + 7) (.int .i64 (kc + 1 + 1 + 1 + 1 + 1 + 1 + 1))).1
      have hg9 := (World.ownsRow.stored hg8 (j * 10 + 8) (.int .i64 (kc + 1 + 1 + 1 + 1 + 1 + 1 + 1 + 1))).1
      have hset := cellsMq_set9 CC j f (f.mkQ kc) HCj.out (by simp [MlV.mkQ, marks_length])
      simp only [MlV.mkQ] at hset
      rw [hset] at hg9
      have t3 := set9q wr g (j * 10) (.int .i64 kc) (.int .i64 (kc + 1)) (.int .i64 (kc + 1 + 1)) (.int .i64 (kc + 1 + 1 + 1)) (.int .i64 (kc + 1 + 1 + 1 + 1)) (.bool ((kc + 1 + 1 + 1 + 1 + 1) % 3 == 0)) (.int .i64 (kc + 1 + 1 + 1 + 1 + 1 + 1)) (.int .i64 (kc + 1 + 1 + 1 + 1 + 1 + 1 + 1)) (.int .i64 (kc + 1 + 1 + 1 + 1 + 1 + 1 + 1 + 1))
      have hov3 : OwAt _ f.a f.m.e.xs.length f.c f.m.e.xs := hov.turn t3 (fun x hx e => (hif x hx).2 e)
      have x33 : (((((((((wr.setCell ⟨g, j * 10, none⟩ (.int .i64 kc)).setCell ⟨g, j * 10 + 1, none⟩ (.int .i64 (kc + 1))).setCell ⟨g, j * 10 + 2, none⟩ (.int .i64 (kc + 1 + 1))).setCell ⟨g, j * 10 + 3, none⟩ (.int .i64 (kc + 1 + 1 + 1))).setCell ⟨g, j * 10 + 4, none⟩ (.int .i64 (kc + 1 + 1 + 1 + 1))).setCell ⟨g, j * 10 + 5, none⟩ (.bool ((kc + 1 + 1 + 1 + 1 + 1) % 3 == 0))).setCell ⟨g, j * 10 + 6, none⟩ (.int .i64 (kc + 1 + 1 + 1 + 1 + 1 + 1))).setCell ⟨g, j * 10 + 7, none⟩ (.int .i64 (kc + 1 + 1 + 1 + 1 + 1 + 1 + 1))).setCell ⟨g, j * 10 + 8, none⟩ (.int .i64 (kc + 1 + 1 + 1 + 1 + 1 + 1 + 1 + 1))).cell? ⟨g, j * 10 + 9, none⟩ = some (.slice f.a f.m.e.xs.length f.c) := by
        rw [World.ownsRow.cellAt hg9 (j * 10 + 9) (by omega)]
        rw [cellsMq_get _ j _ (by rw [List.getElem?_set_self (by have := (List.getElem?_eq_some_iff.1 HCj.out).1; omega)]) 9 (by omega)]
        simp [MlV.cs, marks_length]
      clear hg1 hg2 hg3 hg4 hg5 hg6 hg7 hg8 hset hfj hCj
      go_upto_region 22 with fail
      generalize (((((((((wr.setCell ⟨g, j * 10, none⟩ (.int .i64 kc)).setCell ⟨g, j * 10 + 1, none⟩ (.int .i64 (kc + 1))).setCell ⟨g, j * 10 + 2, none⟩ (.int .i64 (kc + 1 + 1))).setCell ⟨g, j * 10 + 3, none⟩ (.int .i64 (kc + 1 + 1 + 1))).setCell ⟨g, j * 10 + 4, none⟩ (.int .i64 (kc + 1 + 1 + 1 + 1))).setCell ⟨g, j * 10 + 5, none⟩ (.bool ((kc + 1 + 1 + 1 + 1 + 1) % 3 == 0))).setCell ⟨g, j * 10 + 6, none⟩ (.int .i64 (kc + 1 + 1 + 1 + 1 + 1 + 1))).setCell ⟨g, j * 10 + 7, none⟩ (.int .i64 (kc + 1 + 1 + 1 + 1 + 1 + 1 + 1))).setCell ⟨g, j * 10 + 8, none⟩ (.int .i64 (kc + 1 + 1 + 1 + 1 + 1 + 1 + 1 + 1))) = w4 at *
      clear x3 c0 c1 c2 c3 c4 c5 c6 c7 c8 f0 hC hov
      go_wp2_with fail
      refine (mark_any f.a f.m.e.xs.length f.c (kc + 1 + 1 + 1 + 1 + 1 + 1 + 1 + 1 + 1) f.m.e.xs _ hov3 (by omega) (by omega) (by omega)).mono ?_
      rintro e w5 ⟨rfl, ho5, t5⟩
      clear x33
      have hif2 : ∀ i, inA f.a i → F i ∧ ¬ i = g := by rintro i ⟨x, hx, e⟩; rw [e]; exact hif x hx
      have t45 : Turn (fun i => i = g ∨ inA f.a i) wr w5 := Turn.trans (S := fun i => i = g ∨ inA f.a i) (Turn.mono t3 (fun i _ e => .inl e)) t5 (fun i _ e => .inr e)
      go_wp2
      go_roundw
      case rel =>
        refine ⟨j + 1, by omega, by go_num, by rw [HE2.out]; rfl, ?_, ?_, ?_, ?_⟩
        · rw [← HS3.out]
          exact row_turnQ hg9 t5 (fun e => (hif2 g e).2 rfl)
        · intro i u hi hu
          refine (hrest i u (by omega) hu).turn t45 ?_
          rintro x hx (e | ⟨y, hy, e⟩)
          · exact (HInn.out u (List.mem_of_getElem? hu) x hx).2 e
          · exact HAp.out i j u f x y hu HFJ.out (by omega) hx hy e
        · intro i u hi hu
          by_cases hij : i = j
          · subst hij
            obtain rfl := HKC.out u hu
            rw [← HK.out]
            exact ho5.bs (marks_bd _ _)
          · refine (HDone.out i u (by omega) hu).turn t45 ?_
            rintro x hx (e | ⟨y, hy, e⟩)
            · exact (HInn.out u (List.mem_of_getElem? hu) x hx).2 e
            · exact HAp.out i j u f x y hu HFJ.out (by omega) hx hy e
        · exact Turn.trans htn t45 (by rintro i _ (e | e); (rw [e]; exact HGl.out); exact (hif2 i e).1)
      case measure => simp [intOf]; omega
    · go_wp2
      go_ret
      obtain rfl : j = n := by omega
      have e1 : U.take j = U := List.take_of_length_le (by rw [HLn.out]; omega)
      have e2 : U.drop j = [] := List.drop_eq_nil_of_le (by rw [HLn.out]; omega)
      rw [e1, e2, List.append_nil] at hC
      rw [e1]
      refine ⟨rfl, ?_, htn⟩
      intro i u hu
      have hi : i < (markQ k U).length := (List.getElem?_eq_some_iff.1 hu).1
      rw [markQ_length] at hi
      obtain ⟨f, hf⟩ : ∃ f, U[i]? = some f := ⟨_, List.getElem?_eq_getElem hi⟩
      have hm' := markQ_get U hf k
      rw [hu] at hm'
      obtain rfl := Option.some.inj hm'
      refine ⟨⟨g, rfl, fun q hq => ?_⟩, ?_, ?_⟩
      · rw [World.ownsRow.cellAt hC (i * 10 + q) (by have := HLn.out; omega)]
        exact cellsMq_get _ i _ hu q hq
      · exact hdone i f (by have := HLn.out; omega) hf
      · simp only [MlV.mkQ, marks_length]
        exact HLen.out f (List.mem_of_getElem? hf)

theorem heldMqS_any (A : Option Addr) (n c : Nat) (k : Int) (U : List MlV) (w : World) (h : MqAt w A (markQ k U)) (hn : U.length = n) (hl : ∀ u ∈ U, u.m.e.xs.length ≤ 1048576) (hT : totMq U ≤ 2097152) (hm : n ≤ 2097152) (hk0 : 0 ≤ k) (hk : k ≤ 134217728) :
    Calls Tryz.prog 119 #[.slice A n c, .int .i64 k] w fun e w' => e = .returned (.int .i64 (endQ k U)) ∧ w' = w := by
  have HLn : Hid (U.length = n) := hn
  have HL : Hid (∀ u ∈ U, u.m.e.xs.length ≤ 1048576) := hl
  have HBd : Hid (∀ j, j ≤ n → k ≤ endQ k (U.take j) ∧ endQ k (U.take j) ≤ k + 18874368) := by
    intro j hj
    have h1 := endQ_bd (U.take j) k
    have h2 := totMq_take U j
    omega
  clear hn hl
  go_enter Tryz.func119, Tryz.ntmps119
  go_wp2
  go_loopw [1, 5] (fun s i wr => ∃ j : Nat, j ≤ n ∧ i = .int .i64 j ∧ s = .int .i64 (endQ k (U.take j)) ∧ wr = w) (fun _ i _ => n - (intOf i).toNat)
  case atStart => exact ⟨0, Nat.zero_le _, rfl, rfl, rfl⟩
  case round =>
    obtain ⟨j, hj, rfl, rfl, rfl⟩ := hrel
    by_cases hlt : j < n
    · obtain ⟨f, hfj⟩ : ∃ f, U[j]? = some f := ⟨_, List.getElem?_eq_getElem (by have := HLn.out; omega)⟩
      obtain ⟨⟨b, rfl, hcell⟩, hns, -⟩ := h j _ (markQ_get U hfj k)
      have he := HBd.out j hj
      have HE : Hid (endQ k (U.take (j + 1)) = f.nxQ (endQ k (U.take j))) := endQ_take hfj k
      have hlf := HL.out f (List.mem_of_getElem? hfj)
      generalize endQ k (U.take j) = kc at *
      obtain ⟨⟨kd, tgt, me, at1, pr, has, ⟨ee, ki, pe, xs⟩⟩, fa, fc⟩ := f
      have x0 : wr.cell? ⟨b, j * 10, none⟩ = some (.int .i64 kc) := hcell 0 (by omega)
      have x1 : wr.cell? ⟨b, j * 10 + 1, none⟩ = some (.int .i64 (kc + 1)) := hcell 1 (by omega)
      have x2 : wr.cell? ⟨b, j * 10 + 2, none⟩ = some (.int .i64 (kc + 1 + 1)) := hcell 2 (by omega)
      have x3 : wr.cell? ⟨b, j * 10 + 3, none⟩ = some (.int .i64 (kc + 1 + 1 + 1)) := hcell 3 (by omega)
      have x4 : wr.cell? ⟨b, j * 10 + 4, none⟩ = some (.int .i64 (kc + 1 + 1 + 1 + 1)) := hcell 4 (by omega)
      have x5 : wr.cell? ⟨b, j * 10 + 5, none⟩ = some (.bool ((kc + 1 + 1 + 1 + 1 + 1) % 3 == 0)) := hcell 5 (by omega)
      have x6 : wr.cell? ⟨b, j * 10 + 6, none⟩ = some (.int .i64 (kc + 1 + 1 + 1 + 1 + 1 + 1)) := hcell 6 (by omega)
      have x7 : wr.cell? ⟨b, j * 10 + 7, none⟩ = some (.int .i64 (kc + 1 + 1 + 1 + 1 + 1 + 1 + 1)) := hcell 7 (by omega)
      have x8 : wr.cell? ⟨b, j * 10 + 8, none⟩ = some (.int .i64 (kc + 1 + 1 + 1 + 1 + 1 + 1 + 1 + 1)) := hcell 8 (by omega)
      have x9 : wr.cell? ⟨b, j * 10 + 9, none⟩ = some (.slice fa xs.length fc) := by
        have := hcell 9 (by omega)
        simp only [MlV.mkQ, MlV.cs, marks_length] at this
        exact this
      have d0 : (kc != kc) = false := by simp
      have d1 : (kc + 1 != kc + 1) = false := by simp
      have d2 : (kc + 1 + 1 != kc + 1 + 1) = false := by simp
      have d3 : (kc + 1 + 1 + 1 != kc + 1 + 1 + 1) = false := by simp
      have d4 : (kc + 1 + 1 + 1 + 1 != kc + 1 + 1 + 1 + 1) = false := by simp
      have d5 : (kc + 1 + 1 + 1 + 1 + 1 != kc + 1 + 1 + 1 + 1 + 1) = false := by simp
      have d6 : (kc + 1 + 1 + 1 + 1 + 1 + 1 != kc + 1 + 1 + 1 + 1 + 1 + 1) = false := by simp
      have d7 : (kc + 1 + 1 + 1 + 1 + 1 + 1 + 1 != kc + 1 + 1 + 1 + 1 + 1 + 1 + 1) = false := by simp
      have d8 : (kc + 1 + 1 + 1 + 1 + 1 + 1 + 1 + 1 != kc + 1 + 1 + 1 + 1 + 1 + 1 + 1 + 1) = false := by simp
      have dB : ((((kc + 1 + 1 + 1 + 1 + 1) % 3 == 0) : Bool) != ((kc + 1 + 1 + 1 + 1 + 1) % 3 == 0)) = false := by simp
      have hns' : BsAt wr fa (marks (kc + 1 + 1 + 1 + 1 + 1 + 1 + 1 + 1 + 1) xs.length) := hns
      clear hcell hfj hns h
      go_wp2_with fail
      refine (held_any fa xs.length fc (kc + 1 + 1 + 1 + 1 + 1 + 1 + 1 + 1 + 1) _ hns' (by omega) (by omega) (by omega)).mono ?_
      rintro e w5 ⟨rfl, rfl⟩
      go_wp2
      go_roundw
      case rel => exact ⟨j + 1, by omega, by go_num, by rw [HE.out]; rfl, by trivial⟩
      case measure => simp [intOf]; omega
    · go_wp2
      go_ret
      obtain rfl : j = n := by omega
      have e1 : U.take j = U := List.take_of_length_le (by rw [HLn.out]; omega)
      rw [e1]
      exact ⟨rfl, rfl⟩

end Go.Proofs.YtebkdaddndlmoaaGreat
