/- Lemmas and contracts of one law. -/
import Derived.Test.YtdbnmkffinhdjaaGreatLV11
import Derived.Test.YtdbnmkffinhdjaaGreatLV4
namespace Go.Proofs.YtdbnmkffinhdjaaGreat
open Go.ChangeShapes Go.WideShapes Go.ChangeAt Go.RowKit Go.Deep Go.Sort
set_option linter.unusedVariables false
set_option linter.unusedSimpArgs false
set_option maxHeartbeats 25600000

/-- A node in memory, with its log. -/
structure NdV where
  id : Int
  up : Bool
  ro : Int
  ep : Int
  su : Int
  ma : Int
  ot : Int
  co : Int
  A : Option Addr
  c : Nat
  V : List EkV
def NdV.cs (v : NdV) : List Value := [.int .i64 v.id, .bool v.up, .int .i64 v.ro, .int .i64 v.ep, .slice v.A v.V.length v.c, .int .i64 v.su, .int .i64 v.ma, .int .i64 v.ot, .int .i64 v.co]
def NdV.r (v : NdV) : Int × Bool × Int × Int × Int × Int × Int × Int × List Ek := (v.id, v.up, v.ro, v.ep, v.su, v.ma, v.ot, v.co, v.V.map EkV.r)
def NdV.tot (v : NdV) : Nat := totK v.V
def cellsNd (V : List NdV) : List Value := V.flatMap NdV.cs
def totNd : List NdV → Nat
  | [] => 0
  | v :: V => v.tot + 1 + totNd V
theorem totNd_len : ∀ V : List NdV, V.length ≤ totNd V
  | [] => Nat.le_refl _
  | v :: V => by have := totNd_len V; simp only [totNd, List.length_cons]; omega
theorem totNd_mem : ∀ (V : List NdV) (v : NdV), v ∈ V → v.tot ≤ totNd V
  | [], v, h => by simp at h
  | u :: V, v, h => by
    simp only [totNd]
    rcases List.mem_cons.1 h with rfl | h
    · omega
    · have := totNd_mem V v h; omega
theorem totNd_snoc (V : List NdV) (v : NdV) : totNd (V ++ [v]) = totNd V + v.tot + 1 := by
  induction V with
  | nil => simp [totNd]
  | cons f F ih => simp only [List.cons_append, totNd, ih]; omega
theorem take_snocNd {V : List NdV} {k : Nat} {f : NdV} (h : V[k]? = some f) : V.take (k + 1) = V.take k ++ [f] := by
  obtain ⟨hk, rfl⟩ := List.getElem?_eq_some_iff.1 h
  exact List.take_succ_eq_append_getElem hk
theorem cellsNd_len : ∀ U : List NdV, (cellsNd U).length = U.length * 9
  | [] => rfl
  | x :: U => by
    have ih := cellsNd_len U
    unfold cellsNd at ih ⊢
    rw [List.flatMap_cons, List.length_append, ih, List.length_cons]
    simp [NdV.cs]
    omega
theorem cellsNd_get : ∀ (U : List NdV) (i : Nat) (u : NdV), U[i]? = some u → ∀ j, j < 9 → (cellsNd U)[i * 9 + j]? = u.cs[j]?
  | [], i, u, h, _, _ => by simp at h
  | x :: U, 0, u, h, j, hj => by
    simp at h
    subst h
    unfold cellsNd
    rw [List.flatMap_cons, Nat.zero_mul, Nat.zero_add, List.getElem?_append_left (by simp [NdV.cs]; omega)]
  | x :: U, i + 1, u, h, j, hj => by
    have ih := cellsNd_get U i u (by simpa using h) j hj
    unfold cellsNd at ih ⊢
    rw [List.flatMap_cons, List.getElem?_append_right (by simp [NdV.cs]; omega), show (x.cs).length = 9 from rfl, show (i + 1) * 9 + j - 9 = i * 9 + j by omega, ih]

/-- The address leads to those that came in. -/
def NdCame (w : World) (A : Option Addr) (V : List NdV) : Prop :=
  ∀ i v, V[i]? = some v → (∃ b off, A = some ⟨b, off, none⟩ ∧ ∀ j, j < 9 → w.cell? ⟨b, off + i * 9 + j, none⟩ = v.cs[j]?) ∧ EkCame w v.A v.V ∧ v.V.length ≤ maxLen
theorem NdCame.new {w w' : World} {A : Option Addr} {V : List NdV} (h : NdCame w A V) (t : New w w') : NdCame w' A V := by
  intro i v hv
  obtain ⟨⟨b, off, ha, hc⟩, h1⟩ := h i v hv
  have h0 : w.cell? ⟨b, off + i * 9, none⟩ = some (.int .i64 v.id) := hc 0 (by omega)
  have hb' := t.block b (World.block_lt_of_cell? w _ h0) (fun f => f)
  exact ⟨⟨b, off, ha, fun j hj => (World.cell?_of_block hb').trans (hc j hj)⟩, ⟨h1.1.new t, h1.2⟩⟩
theorem NdCame.at {w : World} {A : Option Addr} {V : List NdV} (h : NdCame w A V) (i : Nat) (hi : i < V.length) :
    ∃ (b off : Nat) (id : Int) (up : Bool) (ro ep su ma ot co : Int) (x : Option Addr) (m d : Nat) (xs : List EkV), A = some ⟨b, off, none⟩ ∧ V[i]? = some ⟨id, up, ro, ep, su, ma, ot, co, x, d, xs⟩ ∧ xs.length = m ∧ EkCame w x xs ∧ m ≤ maxLen ∧ w.cell? ⟨b, off + i * 9, none⟩ = some (.int .i64 id) ∧ w.cell? ⟨b, off + i * 9 + 1, none⟩ = some (.bool up) ∧ w.cell? ⟨b, off + i * 9 + 2, none⟩ = some (.int .i64 ro) ∧ w.cell? ⟨b, off + i * 9 + 3, none⟩ = some (.int .i64 ep) ∧ w.cell? ⟨b, off + i * 9 + 4, none⟩ = some (.slice x m d) ∧ w.cell? ⟨b, off + i * 9 + 5, none⟩ = some (.int .i64 su) ∧ w.cell? ⟨b, off + i * 9 + 6, none⟩ = some (.int .i64 ma) ∧ w.cell? ⟨b, off + i * 9 + 7, none⟩ = some (.int .i64 ot) ∧ w.cell? ⟨b, off + i * 9 + 8, none⟩ = some (.int .i64 co) := by
  obtain ⟨⟨b, off, h1, h2⟩, h3⟩ := h i _ (List.getElem?_eq_getElem hi)
  exact ⟨b, off, _, _, _, _, _, _, _, _, _, _, _, _, h1, List.getElem?_eq_getElem hi, rfl, h3.1, h3.2, h2 0 (by omega), h2 1 (by omega), h2 2 (by omega), h2 3 (by omega), h2 4 (by omega), h2 5 (by omega), h2 6 (by omega), h2 7 (by omega), h2 8 (by omega)⟩

/-- They can be read there. -/
def NdAt (w : World) (A : Option Addr) (V : List NdV) : Prop :=
  ∀ i v, V[i]? = some v → (∃ g, A = some ⟨g, 0, none⟩ ∧ ∀ j, j < 9 → w.cell? ⟨g, i * 9 + j, none⟩ = v.cs[j]?) ∧ LgAt w v.A v.V ∧ totK v.V ≤ 1048576
theorem NdAt.new {w w' : World} {A : Option Addr} {V : List NdV} (h : NdAt w A V) (t : New w w') : NdAt w' A V := by
  intro i v hv
  obtain ⟨⟨g, ha, hc⟩, h1⟩ := h i v hv
  have h0 : w.cell? ⟨g, i * 9, none⟩ = some (.int .i64 v.id) := hc 0 (by omega)
  have hb' := t.block g (World.block_lt_of_cell? w _ h0) (fun f => f)
  exact ⟨⟨g, ha, fun j hj => (World.cell?_of_block hb').trans (hc j hj)⟩, ⟨h1.1.new t, h1.2⟩⟩
theorem NdAt.at {w : World} {A : Option Addr} {V : List NdV} (h : NdAt w A V) (i : Nat) (hi : i < V.length) :
    ∃ (g : Nat) (id : Int) (up : Bool) (ro ep su ma ot co : Int) (x : Option Addr) (m d : Nat) (xs : List EkV), A = some ⟨g, 0, none⟩ ∧ V[i]? = some ⟨id, up, ro, ep, su, ma, ot, co, x, d, xs⟩ ∧ xs.length = m ∧ LgAt w x xs ∧ totK xs ≤ 1048576 ∧ w.cell? ⟨g, i * 9, none⟩ = some (.int .i64 id) ∧ w.cell? ⟨g, i * 9 + 1, none⟩ = some (.bool up) ∧ w.cell? ⟨g, i * 9 + 2, none⟩ = some (.int .i64 ro) ∧ w.cell? ⟨g, i * 9 + 3, none⟩ = some (.int .i64 ep) ∧ w.cell? ⟨g, i * 9 + 4, none⟩ = some (.slice x m d) ∧ w.cell? ⟨g, i * 9 + 5, none⟩ = some (.int .i64 su) ∧ w.cell? ⟨g, i * 9 + 6, none⟩ = some (.int .i64 ma) ∧ w.cell? ⟨g, i * 9 + 7, none⟩ = some (.int .i64 ot) ∧ w.cell? ⟨g, i * 9 + 8, none⟩ = some (.int .i64 co) := by
  obtain ⟨⟨g, h1, h2⟩, h3⟩ := h i _ (List.getElem?_eq_getElem hi)
  exact ⟨g, _, _, _, _, _, _, _, _, _, _, _, _, h1, List.getElem?_eq_getElem hi, rfl, h3.1, h3.2, h2 0 (by omega), h2 1 (by omega), h2 2 (by omega), h2 3 (by omega), h2 4 (by omega), h2 5 (by omega), h2 6 (by omega), h2 7 (by omega), h2 8 (by omega)⟩

theorem szNdS_gen (A : Option Addr) (n c : Nat) (V : List NdV) (K : Int) (w : World) (hK0 : 0 ≤ K) (hK1 : K ≤ 1048576) (h : NdCame w A V) (hn : V.length = n) (hm : n ≤ maxLen) :
    Calls Tryz.prog 21 #[.slice A n c, .int .i64 K] w fun e w' => (∃ z : Int, e = .returned (.int .i64 z) ∧ (z = -1 ∨ (0 ≤ z ∧ (totNd V : Int) + z = K))) ∧ New w w' := by
  have HN : Hid (V.length = n) := hn
  unfold maxLen at hm
  clear hn
  by_cases hbig : K < (n : Int)
  case pos =>
    go_enter Tryz.func21, Tryz.ntmps21
    go_wp2
    go_ret
    exact ⟨⟨_, rfl, .inl rfl⟩, New.refl _⟩
  have hm' : (n : Int) ≤ K := by omega
  clear hm hbig
  go_enter Tryz.func21, Tryz.ntmps21
  go_wp2
  go_loopw [1, 5] (fun t i wr => ∃ (k : Nat) (z : Int), k ≤ n ∧ 0 ≤ z ∧ z ≤ 1048576 ∧ t = .int .i64 z ∧ i = .int .i64 k ∧ New w wr ∧ (totNd (V.take k) : Int) + (n - k) + z = K) (fun _ i _ => n - (intOf i).toNat)
  case atStart => exact ⟨0, _, Nat.zero_le _, by omega, by omega, rfl, rfl, New.refl _, by simp [totNd]; omega⟩
  case round =>
    obtain ⟨k, z, hk, hz0, hz1, rfl, rfl, hnw, hall⟩ := hrel
    by_cases hlt : k < n
    · obtain ⟨b, off, id, up, ro, ep, su, ma, ot, co, x, m, d, xs, rfl, hv, hlen, hns, hmx, q0, q1, q2, q3, q4, q5, q6, q7, q8⟩ := (h.new hnw).at k (by have := HN.out; omega)
      have HL : Hid (xs.length = m) := hlen
      clear hlen
      have HA : Hid ((totNd (V.take (k + 1)) : Int) + (n - (k + 1)) + (z - (totK xs : Nat)) = K) := by
        unfold Hid
        rw [take_snocNd hv, totNd_snoc]
        simp only [NdV.tot]
        omega
      clear hv h hall
      go_wp2_with fail
      refine (szNd_gen id up ro ep su ma ot co x m d xs z _ hz0 hz1 hns HL.out hmx).mono ?_
      rintro e w1 ⟨⟨y, rfl, hy⟩, hn1⟩
      clear q0 q1 q2 q3 q4 q5 q6 q7 q8
      by_cases hy0 : y < 0
      · go_wp2
        go_ret
        exact ⟨⟨_, rfl, .inl rfl⟩, hnw.trans hn1⟩
      · have hy' : 0 ≤ y ∧ ((totK xs : Nat) : Int) + y = z := by rcases hy with hy | hy; (exfalso; omega); exact hy
        clear hy
        go_wp2
        go_roundw
        case rel => exact ⟨k + 1, y, by omega, by omega, by omega, rfl, by go_num, hnw.trans hn1, by have := HA.out; push_cast at this ⊢; omega⟩
        case measure => simp [intOf]; omega
    · go_wp2
      go_ret
      refine ⟨⟨_, rfl, .inr ⟨hz0, ?_⟩⟩, hnw⟩
      rw [List.take_of_length_le (by have := HN.out; omega)] at hall
      omega

/-- What all zeros are. -/
def zNd : NdV := ⟨0, false, 0, 0, 0, 0, 0, 0, none, 0, []⟩
theorem madeNd (n : Nat) : (madeCells #[.int .i64 0, .bool false, .int .i64 0, .int .i64 0, .slice none 0 0, .int .i64 0, .int .i64 0, .int .i64 0, .int .i64 0] (n * 9)).toList = cellsNd (List.replicate n zNd) := by
  apply List.ext_getElem?
  intro k
  by_cases hk : k < n * 9
  · have h1 : (cellsNd (List.replicate n zNd))[k / 9 * 9 + k % 9]? = zNd.cs[k % 9]? := cellsNd_get _ (k / 9) zNd (by rw [List.getElem?_replicate]; simp; omega) (k % 9) (by omega)
    rw [show k / 9 * 9 + k % 9 = k by omega] at h1
    rw [h1]
    simp only [madeCells, Array.toList_map, Array.toList_range, List.getElem?_map, List.getElem?_range hk, Option.map_some]
    have h4 : k % 9 = 0 ∨ k % 9 = 1 ∨ k % 9 = 2 ∨ k % 9 = 3 ∨ k % 9 = 4 ∨ k % 9 = 5 ∨ k % 9 = 6 ∨ k % 9 = 7 ∨ k % 9 = 8 := by omega
    rcases h4 with e | e | e | e | e | e | e | e | e <;> simp [e, NdV.cs, zNd]
  · rw [List.getElem?_eq_none (by simp [madeCells]; omega), List.getElem?_eq_none (by rw [cellsNd_len]; simp; omega)]
theorem set_fillNd (V : List NdV) (k n : Nat) (hn : V.length = k) (hk : k < n) (p : NdV) :
    (V ++ List.replicate (n - k) zNd).set k p = (V ++ [p]) ++ List.replicate (n - (k + 1)) zNd := by
  rw [List.set_append_right _ _ (by omega), hn, Nat.sub_self, show n - k = (n - (k + 1)) + 1 by omega, List.replicate_succ, List.set_cons_zero, List.append_assoc]
  rfl
theorem Tryz.infoNd : (Tryz.prog.info? 74).map (fun i => (i.zero, i.size, i.bytes)) = some (some (.agg #[.int .i64 0, .bool false, .int .i64 0, .int .i64 0, .slice none 0 0, .int .i64 0, .int .i64 0, .int .i64 0, .int .i64 0]), 9, 88) := by kernel_rfl
theorem cellsNd_set : ∀ (V : List NdV) (i : Nat) (v : NdV), (((((((((cellsNd V).set (i * 9) (.int .i64 v.id)).set (i * 9 + 1) (.bool v.up)).set (i * 9 + 2) (.int .i64 v.ro)).set (i * 9 + 3) (.int .i64 v.ep)).set (i * 9 + 4) (.slice v.A v.V.length v.c)).set (i * 9 + 5) (.int .i64 v.su)).set (i * 9 + 6) (.int .i64 v.ma)).set (i * 9 + 7) (.int .i64 v.ot)).set (i * 9 + 8) (.int .i64 v.co) = cellsNd (V.set i v)
  | [], i, p => by simp [cellsNd]
  | q :: V, 0, p => by simp [cellsNd, NdV.cs]
  | q :: V, i + 1, p => by
    have ih := cellsNd_set V i p
    have e : ∀ (q : NdV) (V : List NdV), cellsNd (q :: V) = .int .i64 q.id :: .bool q.up :: .int .i64 q.ro :: .int .i64 q.ep :: .slice q.A q.V.length q.c :: .int .i64 q.su :: .int .i64 q.ma :: .int .i64 q.ot :: .int .i64 q.co :: cellsNd V := fun _ _ => rfl
    rw [show (i + 1) * 9 = i * 9 + 9 by omega, e, show (q :: V).set (i + 1) p = q :: V.set i p from rfl, e, ← ih]
    simp only [Nat.add_assoc, Nat.reduceAdd, List.set_cons_succ]
theorem setNdk (w : World) (B j : Nat) (v0 v1 v2 v3 v4 v5 v6 v7 v8 : Value) : Turn (fun k => k = B) w (((((((((w.setCell ⟨B, j, none⟩ v0).setCell ⟨B, j + 1, none⟩ v1).setCell ⟨B, j + 2, none⟩ v2).setCell ⟨B, j + 3, none⟩ v3).setCell ⟨B, j + 4, none⟩ v4).setCell ⟨B, j + 5, none⟩ v5).setCell ⟨B, j + 6, none⟩ v6).setCell ⟨B, j + 7, none⟩ v7).setCell ⟨B, j + 8, none⟩ v8) :=
  (((((((((Turn.refl (fun k => k = B) w).set (p := ⟨B, j, none⟩) rfl v0).set (p := ⟨B, j + 1, none⟩) rfl v1).set (p := ⟨B, j + 2, none⟩) rfl v2).set (p := ⟨B, j + 3, none⟩) rfl v3).set (p := ⟨B, j + 4, none⟩) rfl v4).set (p := ⟨B, j + 5, none⟩) rfl v5).set (p := ⟨B, j + 6, none⟩) rfl v6).set (p := ⟨B, j + 7, none⟩) rfl v7).set (p := ⟨B, j + 8, none⟩) rfl v8
/-- The block g is a row that a call has made. -/
def RwNd (w : World) (g n c : Nat) (V : List NdV) : Prop := w.ownsRow 0 74 9 (.slice (some ⟨g, 0, none⟩) n c) n (cellsNd V)
theorem RwNd.len {w : World} {g n c : Nat} {V : List NdV} (h : RwNd w g n c V) : V.length = n := by
  have := h.1
  rw [cellsNd_len] at this
  omega
theorem RwNd.lt {w : World} {g n c : Nat} {V : List NdV} (h : RwNd w g n c V) : g < w.heap.size := (World.ownsRow.lt h g rfl).2
theorem RwNd.new {w w' : World} {g n c : Nat} {V : List NdV} (h : RwNd w g n c V) (t : New w w') : RwNd w' g n c V := row9_new h t
theorem RwNd.put {w : World} {g n c : Nat} {V : List NdV} (h : RwNd w g n c V) (i : Nat) (v : NdV) : RwNd (((((((((w.setCell ⟨g, i * 9, none⟩ (.int .i64 v.id)).setCell ⟨g, i * 9 + 1, none⟩ (.bool v.up)).setCell ⟨g, i * 9 + 2, none⟩ (.int .i64 v.ro)).setCell ⟨g, i * 9 + 3, none⟩ (.int .i64 v.ep)).setCell ⟨g, i * 9 + 4, none⟩ (.slice v.A v.V.length v.c)).setCell ⟨g, i * 9 + 5, none⟩ (.int .i64 v.su)).setCell ⟨g, i * 9 + 6, none⟩ (.int .i64 v.ma)).setCell ⟨g, i * 9 + 7, none⟩ (.int .i64 v.ot)).setCell ⟨g, i * 9 + 8, none⟩ (.int .i64 v.co)) g n c (V.set i v) := by
  have h1 := (World.ownsRow.stored h (i * 9) (.int .i64 v.id)).1
  have h2 := (World.ownsRow.stored h1 (i * 9 + 1) (.bool v.up)).1
  have h3 := (World.ownsRow.stored h2 (i * 9 + 2) (.int .i64 v.ro)).1
  have h4 := (World.ownsRow.stored h3 (i * 9 + 3) (.int .i64 v.ep)).1
  have h5 := (World.ownsRow.stored h4 (i * 9 + 4) (.slice v.A v.V.length v.c)).1
  have h6 := (World.ownsRow.stored h5 (i * 9 + 5) (.int .i64 v.su)).1
  have h7 := (World.ownsRow.stored h6 (i * 9 + 6) (.int .i64 v.ma)).1
  have h8 := (World.ownsRow.stored h7 (i * 9 + 7) (.int .i64 v.ot)).1
  have h9 := (World.ownsRow.stored h8 (i * 9 + 8) (.int .i64 v.co)).1
  unfold RwNd
  rw [← cellsNd_set V i v]
  exact h9
theorem RwNd.cell {w : World} {g n c : Nat} {V : List NdV} (h : RwNd w g n c V) (j : Nat) (hj : j < n * 9) : ∃ v, w.cell? ⟨g, j, none⟩ = some v := by
  have hl := cellsNd_len V
  have := h.len
  exact ⟨_, (World.ownsRow.cellAt h j hj).trans (List.getElem?_eq_getElem (by omega))⟩

/-- What belongs to one of them is the call's own, from lo on. -/
def NdV.own (w : World) (lo : Nat) (v : NdV) : Prop := ∃ hi, hi ≤ w.heap.size ∧ OwL w lo hi (.slice v.A v.V.length v.c) v.V ∧ totK v.V ≤ 1048576
theorem NdV.own.turn {w w' : World} {lo : Nat} {v : NdV} {S : Nat → Prop} (h : v.own w lo) (t : Turn S w w') (hS : ∀ k, lo ≤ k → k < w.heap.size → ¬ S k) : v.own w' lo := by
  obtain ⟨hi, h1, h2, h3⟩ := h
  exact ⟨hi, Nat.le_trans h1 t.size, h2.turn t (fun k a b => hS k a (by omega)), h3⟩
theorem NdV.own.new {w w' : World} {lo : Nat} {v : NdV} (h : v.own w lo) (t : New w w') : v.own w' lo := h.turn t (fun _ _ _ f => f)
theorem NdV.own.low {w : World} {lo lo' : Nat} {v : NdV} (h : v.own w lo) (hl : lo' ≤ lo) : v.own w lo' := by
  obtain ⟨hi, h1, h2, h3⟩ := h
  exact ⟨hi, h1, h2.low hl, h3⟩
theorem eqNdS_any (A B : Option Addr) (n c d : Nat) (V U : List NdV) (w : World) (hF : NdAt w A V) (hG : NdAt w B U) (hVU : V.map NdV.r = U.map NdV.r) (hn : V.length = n) (hm : n ≤ 2097152) :
    Calls Tryz.prog 40 #[.slice A n c, .slice B n d] w fun e w' => e = .returned (.bool true) ∧ New w w' := by
  have hnn : ((n : Int) != (n : Int)) = false := by simp
  have HN : Hid (V.length = n) := hn
  have HU : Hid (V.map NdV.r = U.map NdV.r) := hVU
  have HUN : Hid (U.length = n) := by
    have := congrArg List.length hVU
    simp at this
    show U.length = n
    omega
  clear hn hVU
  go_enter Tryz.func40, Tryz.ntmps40
  go_wp2
  go_loopw [5] (fun i wr => ∃ k : Nat, k ≤ n ∧ i = .int .i64 k ∧ New w wr) (fun i _ => n - (intOf i).toNat)
  case atStart => exact ⟨0, Nat.zero_le _, rfl, New.refl _⟩
  case round =>
    obtain ⟨k, hk, rfl, hnw⟩ := hrel
    by_cases hlt : k < n
    · obtain ⟨g1, id, up, ro, ep, su, ma, ot, co, x, m, d, xs, rfl, hp1, hlen, hns, hmx, q0, q1, q2, q3, q4, q5, q6, q7, q8⟩ := (hF.new hnw).at k (by have := HN.out; omega)
      obtain ⟨g2, id', up', ro', ep', su', ma', ot', co', x', m', d', xs', rfl, hp2, hlen', hns', hmx', y0, y1, y2, y3, y4, y5, y6, y7, y8⟩ := (hG.new hnw).at k (by have := HUN.out; omega)
      have hh : NdV.r ⟨id, up, ro, ep, su, ma, ot, co, x, d, xs⟩ = NdV.r ⟨id', up', ro', ep', su', ma', ot', co', x', d', xs'⟩ := by
        have h1 : (V.map NdV.r)[k]? = some (NdV.r ⟨id, up, ro, ep, su, ma, ot, co, x, d, xs⟩) := by rw [List.getElem?_map, hp1]; rfl
        have h2 : (U.map NdV.r)[k]? = some (NdV.r ⟨id', up', ro', ep', su', ma', ot', co', x', d', xs'⟩) := by rw [List.getElem?_map, hp2]; rfl
        rw [HU.out, h2] at h1
        exact (Option.some.inj h1).symm
      simp only [NdV.r, Prod.mk.injEq] at hh
      obtain ⟨rfl, rfl, rfl, rfl, rfl, rfl, rfl, rfl, hxx⟩ := hh
      obtain rfl : m = m' := by have h1 := congrArg List.length hxx; simp at h1; omega
      have HX : Hid (xs.map EkV.r = xs'.map EkV.r) := hxx
      have HL : Hid (xs.length = m) := hlen
      have hm1 : m ≤ 1048576 := by have := totK_len xs; omega
      clear hxx hlen hlen'
      clear hp1 hp2 hF hG
      have X0 := cell_regrown q0
      have Y0 := cell_regrown y0
      have X1 := cell_regrown q1
      have Y1 := cell_regrown y1
      have X2 := cell_regrown q2
      have Y2 := cell_regrown y2
      have X3 := cell_regrown q3
      have Y3 := cell_regrown y3
      have X4 := cell_regrown q4
      have Y4 := cell_regrown y4
      have X5 := cell_regrown q5
      have Y5 := cell_regrown y5
      have X6 := cell_regrown q6
      have Y6 := cell_regrown y6
      have X7 := cell_regrown q7
      have Y7 := cell_regrown y7
      have X8 := cell_regrown q8
      have Y8 := cell_regrown y8
      go_wp2_with fail
      refine wp_region_quiet_below (by kernel_rfl) (by kernel_rfl) ?_
      repeat (go_big_quiet_step ((go_at_call 85; exact calls_regrown (eqNd_any id up ro ep su ma ot co x x' m d d' xs xs' _ (hns.new (new_regrown _ _ _)) (hns'.new (new_regrown _ _ _)) HX.out HL.out (by omega)))))
      refine wpQuiet_nil ?_
      rintro w1 hn1
      replace hn1 := new_of_regrown hn1
      go_wp2
      go_roundw
      case rel => exact ⟨k + 1, by omega, by go_num, hnw.trans hn1⟩
      case measure => simp [intOf]; omega
    · go_wp2
      go_ret
      exact ⟨rfl, hnw⟩

set_option maxRecDepth 100000 in
theorem open_Nd_cells {H : Type} {enc : TypeId × Value → H} {W : World} {base fuel : Nat} {t1 : Nat → Bool} {t2 : Bool} {c0 c1 c2 c3 c4 c5 c6 c7 c8 : Value} {y : DataW H × List MemPlace}
    (hf' : DataW.trod enc Tryz.prog W base t1 t2 fuel 104 [c0, c1, c2, c3, c4, c5, c6, c7, c8] = some y) :
    ∃ v : NdV, [c0, c1, c2, c3, c4, c5, c6, c7, c8] = v.cs ∧ EkCame W v.A v.V ∧ v.V.length ≤ maxLen := by
  obtain ⟨ys, m, _, rfl, hl, hlen, hq⟩ := DataW.trod_struct Tryz.underlying104 hf'
  match ys, hlen with
  | [y0, y1, y2, y3, y4, y5, y6, y7, y8], _ =>
    have k0 := hq 0 _ rfl
    have k1 := hq 1 _ rfl
    have k2 := hq 2 _ rfl
    have k3 := hq 3 _ rfl
    have k4 := hq 4 _ rfl
    have k5 := hq 5 _ rfl
    have k6 := hq 6 _ rfl
    have k7 := hq 7 _ rfl
    have k8 := hq 8 _ rfl
    simp [Tryz.cEs, Tryz.cI9, Tryz.cBl] at k0 k1 k2 k3 k4 k5 k6 k7 k8
    obtain ⟨id, e0, -, w0⟩ := DataW.trod_int Tryz.underlying2 k0
    obtain ⟨up, e1, -⟩ := DataW.trod_bool Tryz.underlying4 k1
    obtain ⟨ro, e2, -, w2⟩ := DataW.trod_int Tryz.underlying2 k2
    obtain ⟨ep, e3, -, w3⟩ := DataW.trod_int Tryz.underlying2 k3
    obtain ⟨A, n, c, V, e4, hV, hlV, hmV⟩ := open_entries k4
    obtain ⟨su, e5, -, w5⟩ := DataW.trod_int Tryz.underlying2 k5
    obtain ⟨ma, e6, -, w6⟩ := DataW.trod_int Tryz.underlying2 k6
    obtain ⟨ot, e7, -, w7⟩ := DataW.trod_int Tryz.underlying2 k7
    obtain ⟨co, e8, -, w8⟩ := DataW.trod_int Tryz.underlying2 k8
    simp only [List.cons.injEq, and_true] at e0 e1 e2 e3 e4 e5 e6 e7 e8
    subst e0 e1 e2 e3 e4 e5 e6 e7 e8
    subst hlV
    exact ⟨⟨id, up, ro, ep, su, ma, ot, co, A, c, V⟩, rfl, hV, hmV⟩

set_option maxRecDepth 100000 in
theorem open_NdS {H : Type} {enc : TypeId × Value → H} {W : World} {base fuel : Nat} {t1 : Nat → Bool} {t2 : Bool} {cs : List Value} {y : DataW H × List MemPlace}
    (hf : DataW.trod enc Tryz.prog W base t1 t2 fuel 27 cs = some y) : ∃ a n c V, cs = [.slice a n c] ∧ NdCame W a V ∧ V.length = n ∧ n ≤ maxLen := by
  rcases open_slice Tryz.underlying27 hf with ⟨hcs, _⟩ | ⟨x, l, cc, m, k, D, Pl, hcs, _, hl, hm, hmm, _, hall⟩
  · exact ⟨none, 0, 0, [], hcs, (by intro i v hv; simp at hv), rfl, Nat.zero_le _⟩
  · have hlm : l ≤ m := by rw [hmm]; split <;> omega
    have each : ∀ i, i < l → ∃ v : NdV, (∀ j, j < 9 → W.cell? (x.add (i * 9 + j)) = v.cs[j]?) ∧ EkCame W v.A v.V ∧ v.V.length ≤ maxLen := by
      intro i hi
      obtain ⟨cs', h1, h2⟩ := hall i (by omega)
      rw [Tryz.cNd] at h1
      obtain ⟨_, hlen, hcell⟩ := World.cells?_some h1
      match cs', hlen with
      | [c0, c1, c2, c3, c4, c5, c6, c7, c8], _ =>
        obtain ⟨r, hr, hcm⟩ := open_Nd_cells h2
        refine ⟨r, fun j hj => ?_, hcm⟩
        have hc := hcell j (by omega)
        rw [add_add] at hc
        rw [hc, hr]
    refine ⟨some x, l, cc, (List.range l).map (fun i => if h : i < l then (each i h).choose else zNd), hcs, ?_, by simp, Nat.le_trans hl hm⟩
    obtain ⟨b, off, spot⟩ := x
    intro i q hq
    have hi : i < l := by
      have := (List.getElem?_eq_some_iff.1 hq).1
      simpa using this
    have hq' : q = (each i hi).choose := by
      rw [List.getElem?_map, List.getElem?_range hi] at hq
      simpa [hi] using hq.symm
    have hs := (each i hi).choose_spec
    rw [← hq'] at hs
    have hspot : spot = none := by
      obtain ⟨v, hr0, -⟩ := each 0 (by omega)
      have h2 : W.cell? (Addr.add ⟨b, off, spot⟩ (0 * 9 + 0)) = some (.int .i64 v.id) := hr0 0 (by omega)
      simpa [Addr.add] using World.cell?_spot h2
    subst hspot
    refine ⟨⟨b, off, rfl, fun j hj => ?_⟩, hs.2⟩
    have := hs.1 j hj
    rw [Addr.add_lit] at this
    rw [Nat.add_assoc]
    exact this

end Go.Proofs.YtdbnmkffinhdjaaGreat

namespace Go.Proofs.YtdbnmkffinhdjaaGreat
open Go.RowKit Go.Sort
set_option linter.unusedVariables false
set_option linter.unusedSimpArgs false
set_option maxRecDepth 100000
set_option maxHeartbeats 25600000

theorem markEkS_rowB (g n c lo hi : Nat) (k : Int) (U : List EkV) (w : World) (h : OwK w lo hi g n c U) (hn : U.length = n) (hT : totK U ≤ 2097152) (hm : n ≤ 2097152) (hk0 : 0 ≤ k) (hk : k ≤ 134217728) :
    Calls Tryz.prog 48 #[.slice (some ⟨g, 0, none⟩) n c, .int .i64 k] w fun e w' => e = .returned (.int .i64 (endK k U)) ∧ LgAt w' (some ⟨g, 0, none⟩) (markK k U) ∧ Turn (fun x => lo ≤ x ∧ x < hi) w w' := by
  have HLn : Hid (U.length = n) := hn
  have HBd : Hid (∀ j, j ≤ n → k ≤ endK k (U.take j) ∧ endK k (U.take j) ≤ k + 6291456) := by
    intro j hj
    have h1 := endK_bd (U.take j) k
    have h2 := totK_take U j
    omega
  have HLen : Hid (∀ u ∈ U, u.r.xs.length ≤ 1048576) := h.len
  have HInn : Hid (∀ u ∈ U, ∀ x, u.a = some x → lo ≤ x.block ∧ x.block < hi ∧ ¬ x.block = g) := h.inn
  have HAp : Hid (∀ (i j : Nat) (u v : EkV) (x y : Addr), U[i]? = some u → U[j]? = some v → i ≠ j → u.a = some x → v.a = some y → ¬ x.block = y.block) := h.apart
  have HGl : Hid (lo ≤ g ∧ g < hi) := h.glo
  have hrow := h.row
  have hown := h.own
  clear hn h
  go_enter Tryz.func48, Tryz.ntmps48
  go_wp2
  go_loopw [1, 5] (fun s i wr => ∃ j : Nat, j ≤ n ∧ i = .int .i64 j ∧ s = .int .i64 (endK k (U.take j)) ∧ wr.ownsRow 0 118 4 (.slice (some ⟨g, 0, none⟩) n c) n (cellsK (markK k (U.take j) ++ U.drop j)) ∧
      (∀ (i : Nat) (u : EkV), j ≤ i → U[i]? = some u → OwAt wr u.a u.r.xs.length u.c u.r.xs) ∧ (∀ (i : Nat) (u : EkV), i < j → U[i]? = some u → BsAt wr u.a (marks (endK k (U.take i) + 1 + 1 + 1) u.r.xs.length)) ∧ Turn (fun x => lo ≤ x ∧ x < hi) w wr) (fun _ i _ => n - (intOf i).toNat)
  case atStart => exact ⟨0, Nat.zero_le _, rfl, rfl, by simpa [markK] using hrow, fun i u _ hu => hown i u hu, fun i u hi => absurd hi (Nat.not_lt_zero i), Turn.refl _ _⟩
  case round =>
    obtain ⟨j, hj, rfl, rfl, hC, hrest, hdone, htn⟩ := hrel
    by_cases hlt : j < n
    · obtain ⟨f, hfj⟩ : ∃ f, U[j]? = some f := ⟨_, List.getElem?_eq_getElem (by have := HLn.out; omega)⟩
      have hCj := stepK_get hfj k
      have he := HBd.out j hj
      have HE : Hid (endK k (U.take (j + 1)) = f.nxK (endK k (U.take j))) := endK_take hfj k
      have HS2 : Hid _ := stepK_set hfj k
      have HKC : Hid (∀ u, U[j]? = some u → u = f) := by intro u hu; rw [hfj] at hu; exact (Option.some.inj hu).symm
      have HFJ : Hid (U[j]? = some f) := hfj
      have HDone : Hid (∀ (i : Nat) (u : EkV), i < j → U[i]? = some u → BsAt wr u.a (marks (endK k (U.take i) + 1 + 1 + 1) u.r.xs.length)) := hdone
      have HKE : Hid (∃ kk, kk = endK k (U.take j)) := ⟨_, rfl⟩
      obtain ⟨kc, hkc⟩ : ∃ kc, kc = endK k (U.take j) := ⟨_, rfl⟩
      have HK : Hid (kc = endK k (U.take j)) := hkc
      rw [← hkc] at he ⊢
      have HE2 : Hid (endK k (U.take (j + 1)) = f.nxK kc) := by unfold Hid; rw [hkc]; exact HE.out
      have HS3 : Hid ((markK k (U.take j) ++ U.drop j).set j (f.mkK kc) = markK k (U.take (j + 1)) ++ U.drop (j + 1)) := by unfold Hid; rw [hkc]; exact HS2.out
      clear hkc HE HS2 hdone
      generalize hCC0 : markK k (U.take j) ++ U.drop j = CC at *
      have HCj : Hid (CC[j]? = some f) := hCj
      have hCl : (cellsK CC).length = n * 4 := by have := hC.1; omega
      have hov := hrest j f (Nat.le_refl _) hfj
      have hlf := HLen.out f (List.mem_of_getElem? hfj)
      have hif := HInn.out f (List.mem_of_getElem? hfj)
      have x3 : wr.cell? ⟨g, j * 4 + 3, none⟩ = some (.slice f.a f.r.xs.length f.c) := by
        rw [World.ownsRow.cellAt hC (j * 4 + 3) (by omega)]
        exact cellsK_get CC j f hCj 3 (by omega)
      have f0 := fun q => World.ownsRow.frozenAt hC q
      obtain ⟨v0, c0⟩ : ∃ v, wr.cell? ⟨g, j * 4, none⟩ = some v := ⟨_, (World.ownsRow.cellAt hC _ (by omega)).trans (List.getElem?_eq_getElem (by omega))⟩
      obtain ⟨v1, c1⟩ : ∃ v, wr.cell? ⟨g, j * 4 + 1, none⟩ = some v := ⟨_, (World.ownsRow.cellAt hC _ (by omega)).trans (List.getElem?_eq_getElem (by omega))⟩
      obtain ⟨v2, c2⟩ : ∃ v, wr.cell? ⟨g, j * 4 + 2, none⟩ = some v := ⟨_, (World.ownsRow.cellAt hC _ (by omega)).trans (List.getElem?_eq_getElem (by omega))⟩
      have hg1 := (World.ownsRow.stored hC (j * 4) (.int .i64 kc)).1
      have hg2 := (World.ownsRow.stored hg1 (j * 4 + 1) (.int .i64 (kc + 1))).1
      have hg3 := (World.ownsRow.stored hg2 (j * 4 + 2) (.int .i64 (kc + 1 + 1))).1
      have hset := cellsK_set3 CC j f (f.mkK kc) HCj.out (by simp [EkV.mkK, marks_length])
      simp only [EkV.mkK] at hset
      rw [hset] at hg3
      have t3 := set3k wr g (j * 4) (.int .i64 kc) (.int .i64 (kc + 1)) (.int .i64 (kc + 1 + 1))
      have hov3 : OwAt _ f.a f.r.xs.length f.c f.r.xs := hov.turn t3 (fun x hx e => (hif x hx).2.2 e)
      have x33 : (((wr.setCell ⟨g, j * 4, none⟩ (.int .i64 kc)).setCell ⟨g, j * 4 + 1, none⟩ (.int .i64 (kc + 1))).setCell ⟨g, j * 4 + 2, none⟩ (.int .i64 (kc + 1 + 1))).cell? ⟨g, j * 4 + 3, none⟩ = some (.slice f.a f.r.xs.length f.c) := by
        rw [World.ownsRow.cellAt hg3 (j * 4 + 3) (by omega)]
        rw [cellsK_get _ j _ (by rw [List.getElem?_set_self (by have := (List.getElem?_eq_some_iff.1 HCj.out).1; omega)]) 3 (by omega)]
        simp [EkV.cs, marks_length]
      clear hg1 hg2 hset hfj hCj
      go_upto_region 10 with fail
      generalize (((wr.setCell ⟨g, j * 4, none⟩ (.int .i64 kc)).setCell ⟨g, j * 4 + 1, none⟩ (.int .i64 (kc + 1))).setCell ⟨g, j * 4 + 2, none⟩ (.int .i64 (kc + 1 + 1))) = w4 at *
      clear x3 c0 c1 c2 f0 hC hov
      go_wp2_with fail
      refine (mark_any f.a f.r.xs.length f.c (kc + 1 + 1 + 1) f.r.xs _ hov3 (by omega) (by omega) (by omega)).mono ?_
      rintro e w5 ⟨rfl, ho5, t5⟩
      clear x33
      have hif2 : ∀ i, inA f.a i → lo ≤ i ∧ i < hi ∧ ¬ i = g := by rintro i ⟨x, hx, e⟩; rw [e]; exact hif x hx
      have t45 : Turn (fun i => i = g ∨ inA f.a i) wr w5 := Turn.trans (S := fun i => i = g ∨ inA f.a i) (Turn.mono t3 (fun i _ e => .inl e)) t5 (fun i _ e => .inr e)
      go_wp2
      go_roundw
      case rel =>
        refine ⟨j + 1, by omega, by go_num, by rw [HE2.out]; rfl, ?_, ?_, ?_, ?_⟩
        · rw [← HS3.out]
          exact row_turnK hg3 t5 (fun e => (hif2 g e).2.2 rfl)
        · intro i u hi hu
          refine (hrest i u (by omega) hu).turn t45 ?_
          rintro x hx (e | ⟨y, hy, e⟩)
          · exact (HInn.out u (List.mem_of_getElem? hu) x hx).2.2 e
          · exact HAp.out i j u f x y hu HFJ.out (by omega) hx hy e
        · intro i u hi hu
          by_cases hij : i = j
          · subst hij
            obtain rfl := HKC.out u hu
            rw [← HK.out]
            exact ho5.bs (marks_bd _ _)
          · refine (HDone.out i u (by omega) hu).turn t45 ?_
            rintro x hx (e | ⟨y, hy, e⟩)
            · exact (HInn.out u (List.mem_of_getElem? hu) x hx).2.2 e
            · exact HAp.out i j u f x y hu HFJ.out (by omega) hx hy e
        · exact Turn.trans htn t45 (by rintro i _ (e | e); (rw [e]; exact HGl.out); exact ⟨(hif2 i e).1, (hif2 i e).2.1⟩)
      case measure => simp [intOf]; omega
    · go_wp2
      go_ret
      obtain rfl : j = n := by omega
      have e1 : U.take j = U := List.take_of_length_le (by rw [HLn.out]; omega)
      have e2 : U.drop j = [] := List.drop_eq_nil_of_le (by rw [HLn.out]; omega)
      rw [e1, e2, List.append_nil] at hC
      rw [e1]
      refine ⟨rfl, ?_, htn⟩
      intro i u hu
      have hi : i < (markK k U).length := (List.getElem?_eq_some_iff.1 hu).1
      rw [markK_length] at hi
      obtain ⟨f, hf⟩ : ∃ f, U[i]? = some f := ⟨_, List.getElem?_eq_getElem hi⟩
      have hm' := markK_get U hf k
      rw [hu] at hm'
      obtain rfl := Option.some.inj hm'
      refine ⟨⟨g, rfl, fun q hq => ?_⟩, ?_, ?_⟩
      · rw [World.ownsRow.cellAt hC (i * 4 + q) (by have := HLn.out; omega)]
        exact cellsK_get _ i _ hu q hq
      · exact hdone i f (by have := HLn.out; omega) hf
      · simp only [EkV.mkK, marks_length]
        exact HLen.out f (List.mem_of_getElem? hf)

theorem heldEkS_B (A : Option Addr) (n c : Nat) (k : Int) (U : List EkV) (w : World) (h : LgAt w A (markK k U)) (hn : U.length = n) (hl : ∀ u ∈ U, u.r.xs.length ≤ 1048576) (hT : totK U ≤ 2097152) (hm : n ≤ 2097152) (hk0 : 0 ≤ k) (hk : k ≤ 134217728) :
    Calls Tryz.prog 94 #[.slice A n c, .int .i64 k] w fun e w' => e = .returned (.int .i64 (endK k U)) ∧ w' = w := by
  have HLn : Hid (U.length = n) := hn
  have HL : Hid (∀ u ∈ U, u.r.xs.length ≤ 1048576) := hl
  have HBd : Hid (∀ j, j ≤ n → k ≤ endK k (U.take j) ∧ endK k (U.take j) ≤ k + 6291456) := by
    intro j hj
    have h1 := endK_bd (U.take j) k
    have h2 := totK_take U j
    omega
  clear hn hl
  go_enter Tryz.func94, Tryz.ntmps94
  go_wp2
  go_loopw [1, 5] (fun s i wr => ∃ j : Nat, j ≤ n ∧ i = .int .i64 j ∧ s = .int .i64 (endK k (U.take j)) ∧ wr = w) (fun _ i _ => n - (intOf i).toNat)
  case atStart => exact ⟨0, Nat.zero_le _, rfl, rfl, rfl⟩
  case round =>
    obtain ⟨j, hj, rfl, rfl, rfl⟩ := hrel
    by_cases hlt : j < n
    · obtain ⟨f, hfj⟩ : ∃ f, U[j]? = some f := ⟨_, List.getElem?_eq_getElem (by have := HLn.out; omega)⟩
      obtain ⟨⟨b, rfl, hcell⟩, hns, -⟩ := h j _ (markK_get U hfj k)
      have he := HBd.out j hj
      have HE : Hid (endK k (U.take (j + 1)) = f.nxK (endK k (U.take j))) := endK_take hfj k
      have hlf := HL.out f (List.mem_of_getElem? hfj)
      generalize endK k (U.take j) = kc at *
      obtain ⟨⟨ep, ki, pe, xs⟩, fa, fc⟩ := f
      have x0 : wr.cell? ⟨b, j * 4, none⟩ = some (.int .i64 kc) := hcell 0 (by omega)
      have x1 : wr.cell? ⟨b, j * 4 + 1, none⟩ = some (.int .i64 (kc + 1)) := hcell 1 (by omega)
      have x2 : wr.cell? ⟨b, j * 4 + 2, none⟩ = some (.int .i64 (kc + 1 + 1)) := hcell 2 (by omega)
      have x3 : wr.cell? ⟨b, j * 4 + 3, none⟩ = some (.slice fa xs.length fc) := by
        have := hcell 3 (by omega)
        simp only [EkV.mkK, EkV.cs, marks_length] at this
        exact this
      have hns' : BsAt wr fa (marks (kc + 1 + 1 + 1) xs.length) := hns
      clear hcell hfj hns h
      go_wp2_with fail
      refine (held_any fa xs.length fc (kc + 1 + 1 + 1) _ hns' (by omega) (by omega) (by omega)).mono ?_
      rintro e w5 ⟨rfl, rfl⟩
      go_wp2
      go_roundw
      case rel => exact ⟨j + 1, by omega, by go_num, by rw [HE.out]; rfl, by trivial⟩
      case measure => simp [intOf]; omega
    · go_wp2
      go_ret
      obtain rfl : j = n := by omega
      have e1 : U.take j = U := List.take_of_length_le (by rw [HLn.out]; omega)
      rw [e1]
      exact ⟨rfl, rfl⟩

theorem markEkS_nilB (c : Nat) (k : Int) (w : World) : Calls Tryz.prog 48 #[.slice none 0 c, .int .i64 k] w fun e w' => e = .returned (.int .i64 k) ∧ w' = w := by
  go_enter Tryz.func48, Tryz.ntmps48
  go_wp2
  refine wp_loop_rounds 1 ?_
  rw [rounds_succ]
  go_wp2
  go_ret
  exact ⟨rfl, rfl⟩

theorem markEkS_B (A : Option Addr) (n c lo hi : Nat) (k : Int) (U : List EkV) (w : World) (h : OwL w lo hi (.slice A n c) U) (hT : totK U ≤ 2097152) (hk0 : 0 ≤ k) (hk : k ≤ 134217728) :
    Calls Tryz.prog 48 #[.slice A n c, .int .i64 k] w fun e w' => e = .returned (.int .i64 (endK k U)) ∧ LgAt w' A (markK k U) ∧ Turn (fun x => lo ≤ x ∧ x < hi) w w' := by
  obtain ⟨A', c', e, h1, h2⟩ := h.form
  simp only [Value.slice.injEq] at e
  obtain ⟨rfl, rfl, rfl⟩ := e
  have hl := totK_len U
  rcases h2 with ⟨rfl, rfl, rfl⟩ | ⟨g, rfl, -, -, -, -, ho⟩
  · refine (markEkS_nilB 0 k w).mono ?_
    rintro e w1 ⟨rfl, rfl⟩
    exact ⟨rfl, LgAt.nil _ _, Turn.refl _ _⟩
  · exact markEkS_rowB g U.length c lo hi k U w ho rfl hT (by omega) hk0 hk

end Go.Proofs.YtdbnmkffinhdjaaGreat
