/- Lemmas and contracts of one law. -/
import Derived.Test.YtdbnmkffinhdjaaGreatLV11
import Derived.Test.YtdbnmkffinhdjaaGreatLV13
namespace Go.Proofs.YtdbnmkffinhdjaaGreat
open Go.ChangeShapes Go.WideShapes Go.ChangeAt Go.RowKit Go.Deep Go.Sort
set_option linter.unusedVariables false
set_option linter.unusedSimpArgs false
set_option maxHeartbeats 25600000

/-- A wire in memory. -/
structure WiV where
  E : Int
  T : Int
  a : Option Addr
  b : Option Addr
  c : Nat
  d : Nat
  xs : List Int
  ys : List Int
def WiV.cs (v : WiV) : List Value := [.int .i64 v.E, .slice v.a v.xs.length v.c, .int .i64 v.T, .slice v.b v.ys.length v.d]
def WiV.r (v : WiV) : Int × Int × List Int × List Int := (v.E, v.T, v.xs, v.ys)
def WiV.tot (v : WiV) : Nat := v.xs.length + v.ys.length
def cellsWi (V : List WiV) : List Value := V.flatMap WiV.cs
def totWi : List WiV → Nat
  | [] => 0
  | v :: V => v.tot + 1 + totWi V
theorem totWi_len : ∀ V : List WiV, V.length ≤ totWi V
  | [] => Nat.le_refl _
  | v :: V => by have := totWi_len V; simp only [totWi, List.length_cons]; omega
theorem totWi_mem : ∀ (V : List WiV) (v : WiV), v ∈ V → v.tot ≤ totWi V
  | [], v, h => by simp at h
  | u :: V, v, h => by
    simp only [totWi]
    rcases List.mem_cons.1 h with rfl | h
    · omega
    · have := totWi_mem V v h; omega
theorem totWi_snoc (V : List WiV) (v : WiV) : totWi (V ++ [v]) = totWi V + v.tot + 1 := by
  induction V with
  | nil => simp [totWi]
  | cons f F ih => simp only [List.cons_append, totWi, ih]; omega
theorem take_snocWi {V : List WiV} {k : Nat} {f : WiV} (h : V[k]? = some f) : V.take (k + 1) = V.take k ++ [f] := by
  obtain ⟨hk, rfl⟩ := List.getElem?_eq_some_iff.1 h
  exact List.take_succ_eq_append_getElem hk
theorem cellsWi_len : ∀ U : List WiV, (cellsWi U).length = U.length * 4
  | [] => rfl
  | x :: U => by
    have ih := cellsWi_len U
    unfold cellsWi at ih ⊢
    rw [List.flatMap_cons, List.length_append, ih, List.length_cons]
    simp [WiV.cs]
    omega
theorem cellsWi_get : ∀ (U : List WiV) (i : Nat) (u : WiV), U[i]? = some u → ∀ j, j < 4 → (cellsWi U)[i * 4 + j]? = u.cs[j]?
  | [], i, u, h, _, _ => by simp at h
  | x :: U, 0, u, h, j, hj => by
    simp at h
    subst h
    unfold cellsWi
    rw [List.flatMap_cons, Nat.zero_mul, Nat.zero_add, List.getElem?_append_left (by simp [WiV.cs]; omega)]
  | x :: U, i + 1, u, h, j, hj => by
    have ih := cellsWi_get U i u (by simpa using h) j hj
    unfold cellsWi at ih ⊢
    rw [List.flatMap_cons, List.getElem?_append_right (by simp [WiV.cs]; omega), show (x.cs).length = 4 from rfl, show (i + 1) * 4 + j - 4 = i * 4 + j by omega, ih]

/-- The address leads to those that came in. -/
def WiCame (w : World) (A : Option Addr) (V : List WiV) : Prop :=
  ∀ i v, V[i]? = some v → (∃ b off, A = some ⟨b, off, none⟩ ∧ ∀ j, j < 4 → w.cell? ⟨b, off + i * 4 + j, none⟩ = v.cs[j]?) ∧ BsAt w v.a v.xs ∧ BsAt w v.b v.ys ∧ v.xs.length ≤ maxLen ∧ v.ys.length ≤ maxLen
theorem WiCame.new {w w' : World} {A : Option Addr} {V : List WiV} (h : WiCame w A V) (t : New w w') : WiCame w' A V := by
  intro i v hv
  obtain ⟨⟨b, off, ha, hc⟩, h1⟩ := h i v hv
  have h0 : w.cell? ⟨b, off + i * 4, none⟩ = some (.int .i64 v.E) := hc 0 (by omega)
  have hb' := t.block b (World.block_lt_of_cell? w _ h0) (fun f => f)
  exact ⟨⟨b, off, ha, fun j hj => (World.cell?_of_block hb').trans (hc j hj)⟩, ⟨h1.1.new t, h1.2.1.new t, h1.2.2⟩⟩
theorem WiCame.at {w : World} {A : Option Addr} {V : List WiV} (h : WiCame w A V) (i : Nat) (hi : i < V.length) :
    ∃ (b off : Nat) (E T : Int) (x x2 : Option Addr) (m d m2 d2 : Nat) (xs ys : List Int), A = some ⟨b, off, none⟩ ∧ V[i]? = some ⟨E, T, x, x2, d, d2, xs, ys⟩ ∧ xs.length = m ∧ ys.length = m2 ∧ BsAt w x xs ∧ BsAt w x2 ys ∧ m ≤ maxLen ∧ m2 ≤ maxLen ∧ w.cell? ⟨b, off + i * 4, none⟩ = some (.int .i64 E) ∧ w.cell? ⟨b, off + i * 4 + 1, none⟩ = some (.slice x m d) ∧ w.cell? ⟨b, off + i * 4 + 2, none⟩ = some (.int .i64 T) ∧ w.cell? ⟨b, off + i * 4 + 3, none⟩ = some (.slice x2 m2 d2) := by
  obtain ⟨⟨b, off, h1, h2⟩, h3⟩ := h i _ (List.getElem?_eq_getElem hi)
  exact ⟨b, off, _, _, _, _, _, _, _, _, _, _, h1, List.getElem?_eq_getElem hi, rfl, rfl, h3.1, h3.2.1, h3.2.2.1, h3.2.2.2, h2 0 (by omega), h2 1 (by omega), h2 2 (by omega), h2 3 (by omega)⟩

/-- They can be read there. -/
def WiAt (w : World) (A : Option Addr) (V : List WiV) : Prop :=
  ∀ i v, V[i]? = some v → (∃ g, A = some ⟨g, 0, none⟩ ∧ ∀ j, j < 4 → w.cell? ⟨g, i * 4 + j, none⟩ = v.cs[j]?) ∧ BsAt w v.a v.xs ∧ BsAt w v.b v.ys ∧ v.xs.length ≤ 1048576 ∧ v.ys.length ≤ 1048576
theorem WiAt.new {w w' : World} {A : Option Addr} {V : List WiV} (h : WiAt w A V) (t : New w w') : WiAt w' A V := by
  intro i v hv
  obtain ⟨⟨g, ha, hc⟩, h1⟩ := h i v hv
  have h0 : w.cell? ⟨g, i * 4, none⟩ = some (.int .i64 v.E) := hc 0 (by omega)
  have hb' := t.block g (World.block_lt_of_cell? w _ h0) (fun f => f)
  exact ⟨⟨g, ha, fun j hj => (World.cell?_of_block hb').trans (hc j hj)⟩, ⟨h1.1.new t, h1.2.1.new t, h1.2.2⟩⟩
theorem WiAt.at {w : World} {A : Option Addr} {V : List WiV} (h : WiAt w A V) (i : Nat) (hi : i < V.length) :
    ∃ (g : Nat) (E T : Int) (x x2 : Option Addr) (m d m2 d2 : Nat) (xs ys : List Int), A = some ⟨g, 0, none⟩ ∧ V[i]? = some ⟨E, T, x, x2, d, d2, xs, ys⟩ ∧ xs.length = m ∧ ys.length = m2 ∧ BsAt w x xs ∧ BsAt w x2 ys ∧ m ≤ 1048576 ∧ m2 ≤ 1048576 ∧ w.cell? ⟨g, i * 4, none⟩ = some (.int .i64 E) ∧ w.cell? ⟨g, i * 4 + 1, none⟩ = some (.slice x m d) ∧ w.cell? ⟨g, i * 4 + 2, none⟩ = some (.int .i64 T) ∧ w.cell? ⟨g, i * 4 + 3, none⟩ = some (.slice x2 m2 d2) := by
  obtain ⟨⟨g, h1, h2⟩, h3⟩ := h i _ (List.getElem?_eq_getElem hi)
  exact ⟨g, _, _, _, _, _, _, _, _, _, _, h1, List.getElem?_eq_getElem hi, rfl, rfl, h3.1, h3.2.1, h3.2.2.1, h3.2.2.2, h2 0 (by omega), h2 1 (by omega), h2 2 (by omega), h2 3 (by omega)⟩

theorem szWiS_gen (A : Option Addr) (n c : Nat) (V : List WiV) (K : Int) (w : World) (hK0 : 0 ≤ K) (hK1 : K ≤ 1048576) (h : WiCame w A V) (hn : V.length = n) (hm : n ≤ maxLen) :
    Calls Tryz.prog 22 #[.slice A n c, .int .i64 K] w fun e w' => (∃ z : Int, e = .returned (.int .i64 z) ∧ (z = -1 ∨ (0 ≤ z ∧ (totWi V : Int) + z = K))) ∧ New w w' := by
  have HN : Hid (V.length = n) := hn
  unfold maxLen at hm
  clear hn
  by_cases hbig : K < (n : Int)
  case pos =>
    go_enter Tryz.func22, Tryz.ntmps22
    go_wp2
    go_ret
    exact ⟨⟨_, rfl, .inl rfl⟩, New.refl _⟩
  have hm' : (n : Int) ≤ K := by omega
  clear hm hbig
  go_enter Tryz.func22, Tryz.ntmps22
  go_wp2
  go_loopw [1, 5] (fun t i wr => ∃ (k : Nat) (z : Int), k ≤ n ∧ 0 ≤ z ∧ z ≤ 1048576 ∧ t = .int .i64 z ∧ i = .int .i64 k ∧ New w wr ∧ (totWi (V.take k) : Int) + (n - k) + z = K) (fun _ i _ => n - (intOf i).toNat)
  case atStart => exact ⟨0, _, Nat.zero_le _, by omega, by omega, rfl, rfl, New.refl _, by simp [totWi]; omega⟩
  case round =>
    obtain ⟨k, z, hk, hz0, hz1, rfl, rfl, hnw, hall⟩ := hrel
    by_cases hlt : k < n
    · obtain ⟨b, off, E, T, x, x2, m, d, m2, d2, xs, ys, rfl, hv, hlen, hlen2, hns, hns2, hmx, hmx2, q0, q1, q2, q3⟩ := (h.new hnw).at k (by have := HN.out; omega)
      have HL : Hid (xs.length = m) := hlen
      have HL2 : Hid (ys.length = m2) := hlen2
      clear hlen hlen2
      have HA : Hid ((totWi (V.take (k + 1)) : Int) + (n - (k + 1)) + (z - (m + m2 : Nat)) = K) := by
        unfold Hid
        rw [take_snocWi hv, totWi_snoc]
        simp only [WiV.tot, HL.out, HL2.out]
        omega
      clear hv h hall
      go_wp2_with fail
      refine (szWi_gen E T x x2 m d m2 d2 z _ hz0 hz1 hmx hmx2).mono ?_
      rintro e w1 ⟨⟨y, rfl, hy⟩, hn1⟩
      clear q0 q1 q2 q3
      by_cases hy0 : y < 0
      · go_wp2
        go_ret
        exact ⟨⟨_, rfl, .inl rfl⟩, hnw.trans hn1⟩
      · have hy' : 0 ≤ y ∧ ((m + m2 : Nat) : Int) + y = z := by rcases hy with hy | hy; (exfalso; omega); exact hy
        clear hy
        go_wp2
        go_roundw
        case rel => exact ⟨k + 1, y, by omega, by omega, by omega, rfl, by go_num, hnw.trans hn1, by have := HA.out; push_cast at this ⊢; omega⟩
        case measure => simp [intOf]; omega
    · go_wp2
      go_ret
      refine ⟨⟨_, rfl, .inr ⟨hz0, ?_⟩⟩, hnw⟩
      rw [List.take_of_length_le (by have := HN.out; omega)] at hall
      omega

/-- What all zeros are. -/
def zWi : WiV := ⟨0, 0, none, none, 0, 0, [], []⟩
theorem madeWi (n : Nat) : (madeCells #[.int .i64 0, .slice none 0 0, .int .i64 0, .slice none 0 0] (n * 4)).toList = cellsWi (List.replicate n zWi) := by
  apply List.ext_getElem?
  intro k
  by_cases hk : k < n * 4
  · have h1 : (cellsWi (List.replicate n zWi))[k / 4 * 4 + k % 4]? = zWi.cs[k % 4]? := cellsWi_get _ (k / 4) zWi (by rw [List.getElem?_replicate]; simp; omega) (k % 4) (by omega)
    rw [show k / 4 * 4 + k % 4 = k by omega] at h1
    rw [h1]
    simp only [madeCells, Array.toList_map, Array.toList_range, List.getElem?_map, List.getElem?_range hk, Option.map_some]
    have h4 : k % 4 = 0 ∨ k % 4 = 1 ∨ k % 4 = 2 ∨ k % 4 = 3 := by omega
    rcases h4 with e | e | e | e <;> simp [e, WiV.cs, zWi]
  · rw [List.getElem?_eq_none (by simp [madeCells]; omega), List.getElem?_eq_none (by rw [cellsWi_len]; simp; omega)]
theorem set_fillWi (V : List WiV) (k n : Nat) (hn : V.length = k) (hk : k < n) (p : WiV) :
    (V ++ List.replicate (n - k) zWi).set k p = (V ++ [p]) ++ List.replicate (n - (k + 1)) zWi := by
  rw [List.set_append_right _ _ (by omega), hn, Nat.sub_self, show n - k = (n - (k + 1)) + 1 by omega, List.replicate_succ, List.set_cons_zero, List.append_assoc]
  rfl
theorem Tryz.infoWi : (Tryz.prog.info? 132).map (fun i => (i.zero, i.size, i.bytes)) = some (some (.agg #[.int .i64 0, .slice none 0 0, .int .i64 0, .slice none 0 0]), 4, 64) := by kernel_rfl
theorem cellsWi_set : ∀ (V : List WiV) (i : Nat) (v : WiV), ((((cellsWi V).set (i * 4) (.int .i64 v.E)).set (i * 4 + 1) (.slice v.a v.xs.length v.c)).set (i * 4 + 2) (.int .i64 v.T)).set (i * 4 + 3) (.slice v.b v.ys.length v.d) = cellsWi (V.set i v)
  | [], i, p => by simp [cellsWi]
  | q :: V, 0, p => by simp [cellsWi, WiV.cs]
  | q :: V, i + 1, p => by
    have ih := cellsWi_set V i p
    have e : ∀ (q : WiV) (V : List WiV), cellsWi (q :: V) = .int .i64 q.E :: .slice q.a q.xs.length q.c :: .int .i64 q.T :: .slice q.b q.ys.length q.d :: cellsWi V := fun _ _ => rfl
    rw [show (i + 1) * 4 = i * 4 + 4 by omega, e, show (q :: V).set (i + 1) p = q :: V.set i p from rfl, e, ← ih]
    simp only [Nat.add_assoc, Nat.reduceAdd, List.set_cons_succ]
theorem setWik (w : World) (B j : Nat) (v0 v1 v2 v3 : Value) : Turn (fun k => k = B) w ((((w.setCell ⟨B, j, none⟩ v0).setCell ⟨B, j + 1, none⟩ v1).setCell ⟨B, j + 2, none⟩ v2).setCell ⟨B, j + 3, none⟩ v3) :=
  ((((Turn.refl (fun k => k = B) w).set (p := ⟨B, j, none⟩) rfl v0).set (p := ⟨B, j + 1, none⟩) rfl v1).set (p := ⟨B, j + 2, none⟩) rfl v2).set (p := ⟨B, j + 3, none⟩) rfl v3
/-- The block g is a row that a call has made. -/
def RwWi (w : World) (g n c : Nat) (V : List WiV) : Prop := w.ownsRow 0 132 4 (.slice (some ⟨g, 0, none⟩) n c) n (cellsWi V)
theorem RwWi.len {w : World} {g n c : Nat} {V : List WiV} (h : RwWi w g n c V) : V.length = n := by
  have := h.1
  rw [cellsWi_len] at this
  omega
theorem RwWi.lt {w : World} {g n c : Nat} {V : List WiV} (h : RwWi w g n c V) : g < w.heap.size := (World.ownsRow.lt h g rfl).2
theorem RwWi.new {w w' : World} {g n c : Nat} {V : List WiV} (h : RwWi w g n c V) (t : New w w') : RwWi w' g n c V := row9_new h t
theorem RwWi.put {w : World} {g n c : Nat} {V : List WiV} (h : RwWi w g n c V) (i : Nat) (v : WiV) : RwWi ((((w.setCell ⟨g, i * 4, none⟩ (.int .i64 v.E)).setCell ⟨g, i * 4 + 1, none⟩ (.slice v.a v.xs.length v.c)).setCell ⟨g, i * 4 + 2, none⟩ (.int .i64 v.T)).setCell ⟨g, i * 4 + 3, none⟩ (.slice v.b v.ys.length v.d)) g n c (V.set i v) := by
  have h1 := (World.ownsRow.stored h (i * 4) (.int .i64 v.E)).1
  have h2 := (World.ownsRow.stored h1 (i * 4 + 1) (.slice v.a v.xs.length v.c)).1
  have h3 := (World.ownsRow.stored h2 (i * 4 + 2) (.int .i64 v.T)).1
  have h4 := (World.ownsRow.stored h3 (i * 4 + 3) (.slice v.b v.ys.length v.d)).1
  unfold RwWi
  rw [← cellsWi_set V i v]
  exact h4
theorem RwWi.cell {w : World} {g n c : Nat} {V : List WiV} (h : RwWi w g n c V) (j : Nat) (hj : j < n * 4) : ∃ v, w.cell? ⟨g, j, none⟩ = some v := by
  have hl := cellsWi_len V
  have := h.len
  exact ⟨_, (World.ownsRow.cellAt h j hj).trans (List.getElem?_eq_getElem (by omega))⟩

/-- What belongs to one of them is the call's own, from lo on. -/
def WiV.own (w : World) (lo : Nat) (v : WiV) : Prop := OvB w lo (.slice v.a v.xs.length v.c) v.xs ∧ OvB w lo (.slice v.b v.ys.length v.d) v.ys ∧ ((∀ z ∈ v.xs, By z) ∧ ∀ z ∈ v.ys, By z) ∧ v.xs.length ≤ 1048576 ∧ v.ys.length ≤ 1048576
theorem WiV.own.turn {w w' : World} {lo : Nat} {v : WiV} {S : Nat → Prop} (h : v.own w lo) (t : Turn S w w') (hS : ∀ k, lo ≤ k → k < w.heap.size → ¬ S k) : v.own w' lo := by
  exact ⟨h.1.turn t hS, h.2.1.turn t hS, h.2.2⟩
theorem WiV.own.new {w w' : World} {lo : Nat} {v : WiV} (h : v.own w lo) (t : New w w') : v.own w' lo := h.turn t (fun _ _ _ f => f)
theorem WiV.own.low {w : World} {lo lo' : Nat} {v : WiV} (h : v.own w lo) (hl : lo' ≤ lo) : v.own w lo' := by
  exact ⟨h.1.low hl, h.2.1.low hl, h.2.2⟩
theorem eqWiS_any (A B : Option Addr) (n c d : Nat) (V U : List WiV) (w : World) (hF : WiAt w A V) (hG : WiAt w B U) (hVU : V.map WiV.r = U.map WiV.r) (hn : V.length = n) (hm : n ≤ 2097152) :
    Calls Tryz.prog 41 #[.slice A n c, .slice B n d] w fun e w' => e = .returned (.bool true) ∧ New w w' := by
  have hnn : ((n : Int) != (n : Int)) = false := by simp
  have HN : Hid (V.length = n) := hn
  have HU : Hid (V.map WiV.r = U.map WiV.r) := hVU
  have HUN : Hid (U.length = n) := by
    have := congrArg List.length hVU
    simp at this
    show U.length = n
    omega
  clear hn hVU
  go_enter Tryz.func41, Tryz.ntmps41
  go_wp2
  go_loopw [5] (fun i wr => ∃ k : Nat, k ≤ n ∧ i = .int .i64 k ∧ New w wr) (fun i _ => n - (intOf i).toNat)
  case atStart => exact ⟨0, Nat.zero_le _, rfl, New.refl _⟩
  case round =>
    obtain ⟨k, hk, rfl, hnw⟩ := hrel
    by_cases hlt : k < n
    · obtain ⟨g1, E, T, x, x2, m, d, m2, d2, xs, ys, rfl, hp1, hlen, hlen2, hns, hns2, hmx, hmx2, q0, q1, q2, q3⟩ := (hF.new hnw).at k (by have := HN.out; omega)
      obtain ⟨g2, E', T', x', x2', m', d', m2', d2', xs', ys', rfl, hp2, hlen', hlen2', hns', hns2', hmx', hmx2', y0, y1, y2, y3⟩ := (hG.new hnw).at k (by have := HUN.out; omega)
      have hh : WiV.r ⟨E, T, x, x2, d, d2, xs, ys⟩ = WiV.r ⟨E', T', x', x2', d', d2', xs', ys'⟩ := by
        have h1 : (V.map WiV.r)[k]? = some (WiV.r ⟨E, T, x, x2, d, d2, xs, ys⟩) := by rw [List.getElem?_map, hp1]; rfl
        have h2 : (U.map WiV.r)[k]? = some (WiV.r ⟨E', T', x', x2', d', d2', xs', ys'⟩) := by rw [List.getElem?_map, hp2]; rfl
        rw [HU.out, h2] at h1
        exact (Option.some.inj h1).symm
      simp only [WiV.r, Prod.mk.injEq] at hh
      obtain ⟨rfl, rfl, rfl, rfl⟩ := hh
      obtain rfl : m = m' := hlen.symm.trans hlen'
      obtain rfl : m2 = m2' := hlen2.symm.trans hlen2'
      have HL : Hid (xs.length = m) := hlen
      have HL2 : Hid (ys.length = m2) := hlen2
      clear hlen hlen' hlen2 hlen2'
      clear hp1 hp2 hF hG
      have X0 := cell_regrown q0
      have Y0 := cell_regrown y0
      have X1 := cell_regrown q1
      have Y1 := cell_regrown y1
      have X2 := cell_regrown q2
      have Y2 := cell_regrown y2
      have X3 := cell_regrown q3
      have Y3 := cell_regrown y3
      go_wp2_with fail
      refine wp_region_quiet_below (by kernel_rfl) (by kernel_rfl) ?_
      repeat (go_big_quiet_step ((go_at_call 86; exact calls_regrown (eqW_any E T x x2 x' x2' m d m2 d2 d' d2' xs ys _ (hns.new (new_regrown _ _ _)) (hns2.new (new_regrown _ _ _)) (hns'.new (new_regrown _ _ _)) (hns2'.new (new_regrown _ _ _)) HL.out HL2.out (by omega) (by omega)))))
      refine wpQuiet_nil ?_
      rintro w1 hn1
      replace hn1 := new_of_regrown hn1
      go_wp2
      go_roundw
      case rel => exact ⟨k + 1, by omega, by go_num, hnw.trans hn1⟩
      case measure => simp [intOf]; omega
    · go_wp2
      go_ret
      exact ⟨rfl, hnw⟩

set_option maxRecDepth 100000 in
theorem open_Wi_cells {H : Type} {enc : TypeId × Value → H} {W : World} {base fuel : Nat} {t1 : Nat → Bool} {t2 : Bool} {c0 c1 c2 c3 : Value} {y : DataW H × List MemPlace}
    (hf' : DataW.trod enc Tryz.prog W base t1 t2 fuel 107 [c0, c1, c2, c3] = some y) :
    ∃ v : WiV, [c0, c1, c2, c3] = v.cs ∧ BsAt W v.a v.xs ∧ BsAt W v.b v.ys ∧ v.xs.length ≤ maxLen ∧ v.ys.length ≤ maxLen := by
  obtain ⟨ys, m, _, rfl, hl, hlen, hq⟩ := DataW.trod_struct Tryz.underlying107 hf'
  match ys, hlen with
  | [y0, y1, y2, y3], _ =>
    have k0 := hq 0 _ rfl
    have k1 := hq 1 _ rfl
    have k2 := hq 2 _ rfl
    have k3 := hq 3 _ rfl
    simp [Tryz.cB11, Tryz.cI11] at k0 k1 k2 k3
    obtain ⟨E, e0, -, wE⟩ := DataW.trod_int Tryz.underlying2 k0
    simp only [List.cons.injEq, and_true] at e0
    subst e0
    obtain ⟨T, e2, -, wT⟩ := DataW.trod_int Tryz.underlying2 k2
    simp only [List.cons.injEq, and_true] at e2
    subst e2
    have hb0 : ∃ (a : Option Addr) (n c : Nat), c1 = .slice a n c := by
      rcases open_ints Tryz.underlying33 Tryz.underlying5 (by kernel_rfl) k1 with ⟨hcs, _⟩ | ⟨x, l, c, zs, hcs, _⟩
      · simp only [List.cons.injEq, and_true] at hcs
        exact ⟨none, 0, 0, hcs⟩
      · simp only [List.cons.injEq, and_true] at hcs
        exact ⟨some x, l, c, hcs⟩
    have hb1 : ∃ (a : Option Addr) (n c : Nat), c3 = .slice a n c := by
      rcases open_ints Tryz.underlying33 Tryz.underlying5 (by kernel_rfl) k3 with ⟨hcs, _⟩ | ⟨x, l, c, zs, hcs, _⟩
      · simp only [List.cons.injEq, and_true] at hcs
        exact ⟨none, 0, 0, hcs⟩
      · simp only [List.cons.injEq, and_true] at hcs
        exact ⟨some x, l, c, hcs⟩
    obtain ⟨a, n, c, rfl⟩ := hb0
    obtain ⟨b, m', d', rfl⟩ := hb1
    obtain ⟨zs, h1, h2, h3, h4⟩ := open_bytes (enc := enc) (W := W) (base := base) (t1 := t1) (t2 := t2) (a := a) (n := n) (c := c) (d := y1.1) (p := y1.2) ⟨m, by simpa [Value.cells] using k1⟩
    obtain ⟨us, i1, i2, i3, i4⟩ := open_bytes (enc := enc) (W := W) (base := base) (t1 := t1) (t2 := t2) (a := b) (n := m') (c := d') (d := y3.1) (p := y3.2) ⟨m, by simpa [Value.cells] using k3⟩
    subst h2 i2
    exact ⟨⟨E, T, a, b, c, d', zs, us⟩, rfl, h1, i1, h4, i4⟩

set_option maxRecDepth 100000 in
theorem open_WiS {H : Type} {enc : TypeId × Value → H} {W : World} {base fuel : Nat} {t1 : Nat → Bool} {t2 : Bool} {cs : List Value} {y : DataW H × List MemPlace}
    (hf : DataW.trod enc Tryz.prog W base t1 t2 fuel 28 cs = some y) : ∃ a n c V, cs = [.slice a n c] ∧ WiCame W a V ∧ V.length = n ∧ n ≤ maxLen := by
  rcases open_slice Tryz.underlying28 hf with ⟨hcs, _⟩ | ⟨x, l, cc, m, k, D, Pl, hcs, _, hl, hm, hmm, _, hall⟩
  · exact ⟨none, 0, 0, [], hcs, (by intro i v hv; simp at hv), rfl, Nat.zero_le _⟩
  · have hlm : l ≤ m := by rw [hmm]; split <;> omega
    have each : ∀ i, i < l → ∃ v : WiV, (∀ j, j < 4 → W.cell? (x.add (i * 4 + j)) = v.cs[j]?) ∧ BsAt W v.a v.xs ∧ BsAt W v.b v.ys ∧ v.xs.length ≤ maxLen ∧ v.ys.length ≤ maxLen := by
      intro i hi
      obtain ⟨cs', h1, h2⟩ := hall i (by omega)
      rw [Tryz.cW11] at h1
      obtain ⟨_, hlen, hcell⟩ := World.cells?_some h1
      match cs', hlen with
      | [c0, c1, c2, c3], _ =>
        obtain ⟨r, hr, hcm⟩ := open_Wi_cells h2
        refine ⟨r, fun j hj => ?_, hcm⟩
        have hc := hcell j (by omega)
        rw [add_add] at hc
        rw [hc, hr]
    refine ⟨some x, l, cc, (List.range l).map (fun i => if h : i < l then (each i h).choose else zWi), hcs, ?_, by simp, Nat.le_trans hl hm⟩
    obtain ⟨b, off, spot⟩ := x
    intro i q hq
    have hi : i < l := by
      have := (List.getElem?_eq_some_iff.1 hq).1
      simpa using this
    have hq' : q = (each i hi).choose := by
      rw [List.getElem?_map, List.getElem?_range hi] at hq
      simpa [hi] using hq.symm
    have hs := (each i hi).choose_spec
    rw [← hq'] at hs
    have hspot : spot = none := by
      obtain ⟨v, hr0, -⟩ := each 0 (by omega)
      have h2 : W.cell? (Addr.add ⟨b, off, spot⟩ (0 * 4 + 0)) = some (.int .i64 v.E) := hr0 0 (by omega)
      simpa [Addr.add] using World.cell?_spot h2
    subst hspot
    refine ⟨⟨b, off, rfl, fun j hj => ?_⟩, hs.2⟩
    have := hs.1 j hj
    rw [Addr.add_lit] at this
    rw [Nat.add_assoc]
    exact this

end Go.Proofs.YtdbnmkffinhdjaaGreat

namespace Go.Proofs.YtdbnmkffinhdjaaGreat
open Go.RowKit Go.Sort
set_option linter.unusedVariables false
set_option linter.unusedSimpArgs false
set_option maxRecDepth 100000
set_option maxHeartbeats 25600000

/-- A wire that is marked from k on. -/
def WiV.mkW (k : Int) (v : WiV) : WiV := ⟨k, k + 1 + (v.xs.length : Int), v.a, v.b, v.c, v.d, marks (k + 1) v.xs.length, marks (k + 1 + (v.xs.length : Int) + 1) v.ys.length⟩
def WiV.nxW (k : Int) (v : WiV) : Int := k + 1 + (v.xs.length : Int) + 1 + (v.ys.length : Int)
def markW : Int → List WiV → List WiV
  | _, [] => []
  | k, v :: V => v.mkW k :: markW (v.nxW k) V
def endW : Int → List WiV → Int
  | k, [] => k
  | k, v :: V => endW (v.nxW k) V
theorem markW_length (V : List WiV) : ∀ k, (markW k V).length = V.length := by
  induction V with
  | nil => intro k; rfl
  | cons f F ih => intro k; simp [markW, ih]
theorem endW_snoc (V : List WiV) (v : WiV) : ∀ k, endW k (V ++ [v]) = v.nxW (endW k V) := by
  induction V with
  | nil => intro k; rfl
  | cons g F ih => intro k; simp only [List.cons_append, endW]; exact ih _
theorem markW_snoc (V : List WiV) (v : WiV) : ∀ k, markW k (V ++ [v]) = markW k V ++ [v.mkW (endW k V)] := by
  induction V with
  | nil => intro k; rfl
  | cons g F ih => intro k; simp only [List.cons_append, markW, endW, ih]
theorem totWi_take : ∀ (V : List WiV) (j : Nat), totWi (V.take j) ≤ totWi V
  | [], j => by simp
  | v :: V, 0 => by simp [totWi]
  | v :: V, j + 1 => by have := totWi_take V j; simp only [List.take_succ_cons, totWi]; omega
theorem endW_bd (V : List WiV) : ∀ k, k ≤ endW k V ∧ endW k V ≤ k + 2 * totWi V := by
  induction V with
  | nil => intro k; simp [endW, totWi]
  | cons f F ih =>
    intro k
    have h2 := ih (f.nxW k)
    simp only [endW, totWi]
    unfold WiV.nxW at h2 ⊢
    unfold WiV.tot
    omega
theorem markW_get (V : List WiV) {j : Nat} {f : WiV} (h : V[j]? = some f) (k : Int) : (markW k V)[j]? = some (f.mkW (endW k (V.take j))) := by
  induction V generalizing j k with
  | nil => simp at h
  | cons g F ih =>
    cases j with
    | zero => simp at h; subst h; simp [markW, endW]
    | succ j => simp at h; simp only [markW, List.getElem?_cons_succ, List.take_succ_cons, endW]; exact ih h _
theorem endW_take {V : List WiV} {j : Nat} {f : WiV} (h : V[j]? = some f) (k : Int) : endW k (V.take (j + 1)) = f.nxW (endW k (V.take j)) := by rw [take_snocWi h, endW_snoc]
theorem stepW_get {V : List WiV} {j : Nat} {f : WiV} (h : V[j]? = some f) (k : Int) : (markW k (V.take j) ++ V.drop j)[j]? = some f := by
  obtain ⟨hj, rfl⟩ := List.getElem?_eq_some_iff.1 h
  have hl : (markW k (V.take j)).length = j := by rw [markW_length, List.length_take]; omega
  rw [List.getElem?_append_right (by omega), hl, Nat.sub_self, List.getElem?_drop]
  exact h
theorem stepW_set {V : List WiV} {j : Nat} {f : WiV} (h : V[j]? = some f) (k : Int) : (markW k (V.take j) ++ V.drop j).set j (f.mkW (endW k (V.take j))) = markW k (V.take (j + 1)) ++ V.drop (j + 1) := by
  have hf := take_snocWi h
  obtain ⟨hj, rfl⟩ := List.getElem?_eq_some_iff.1 h
  have hl : (markW k (V.take j)).length = j := by rw [markW_length, List.length_take]; omega
  rw [hf, markW_snoc, List.set_append_right _ _ (by omega), hl, Nat.sub_self, List.drop_eq_getElem_cons hj, List.set_cons_zero]
  simp
theorem cellsWi_set2 : ∀ (U : List WiV) (i : Nat) (u v : WiV), U[i]? = some u → (Value.slice v.a v.xs.length v.c) = .slice u.a u.xs.length u.c → (Value.slice v.b v.ys.length v.d) = .slice u.b u.ys.length u.d → ((cellsWi U).set (i * 4) (.int .i64 v.E)).set (i * 4 + 2) (.int .i64 v.T) = cellsWi (U.set i v)
  | [], i, u, v, h, _, _ => by simp at h
  | q :: U, 0, u, v, h, e, e' => by
    simp at h
    subst h
    simp [cellsWi, WiV.cs, ← e, ← e']
  | q :: U, i + 1, u, v, h, e, e' => by
    have ih := cellsWi_set2 U i u v (by simpa using h) e e'
    have e2 : ∀ (q : WiV) (U : List WiV), cellsWi (q :: U) = .int .i64 q.E :: .slice q.a q.xs.length q.c :: .int .i64 q.T :: .slice q.b q.ys.length q.d :: cellsWi U := fun _ _ => rfl
    rw [show (i + 1) * 4 = i * 4 + 4 by omega, e2, show (q :: U).set (i + 1) v = q :: U.set i v from rfl, e2, ← ih]
    simp only [Nat.add_assoc, Nat.reduceAdd, List.set_cons_succ]

/-- What the marking needs of a list: the row and each wire's two lists of bytes, of the call's own, in blocks of F, each in a block of its own. -/
structure OwW1 (w : World) (F : Nat → Prop) (g n c : Nat) (U : List WiV) : Prop where
  row : w.ownsRow 0 132 4 (.slice (some ⟨g, 0, none⟩) n c) n (cellsWi U)
  own : ∀ (i : Nat) (u : WiV), U[i]? = some u → OwAt w u.a u.xs.length u.c u.xs ∧ OwAt w u.b u.ys.length u.d u.ys
  len : ∀ u ∈ U, u.xs.length ≤ 1048576 ∧ u.ys.length ≤ 1048576
  inn : ∀ u ∈ U, ∀ x, (u.a = some x ∨ u.b = some x) → F x.block ∧ ¬ x.block = g
  glo : F g
  self : ∀ u ∈ U, ∀ x y, u.a = some x → u.b = some y → ¬ x.block = y.block
  apart : ∀ (i j : Nat) (u v : WiV) (x y : Addr), U[i]? = some u → U[j]? = some v → i ≠ j → (u.a = some x ∨ u.b = some x) → (v.a = some y ∨ v.b = some y) → ¬ x.block = y.block
theorem row_turnW {w w' : World} {g n c : Nat} {xs : List Value} {S : Nat → Prop} (h : w.ownsRow 0 132 4 (.slice (some ⟨g, 0, none⟩) n c) n xs) (t : Turn S w w') (hS : ¬ S g) : w'.ownsRow 0 132 4 (.slice (some ⟨g, 0, none⟩) n c) n xs := row9_turn h t (by intro k hk; simp [Value.ownBlock] at hk; subst hk; exact hS)

theorem markWiS_row (g n c : Nat) (F : Nat → Prop) (k : Int) (U : List WiV) (w : World) (h : OwW1 w F g n c U) (hn : U.length = n) (hT : totWi U ≤ 2097152) (hm : n ≤ 2097152) (hk0 : 0 ≤ k) (hk : k ≤ 134217728) :
    Calls Tryz.prog 46 #[.slice (some ⟨g, 0, none⟩) n c, .int .i64 k] w fun e w' => e = .returned (.int .i64 (endW k U)) ∧ WiAt w' (some ⟨g, 0, none⟩) (markW k U) ∧ Turn F w w' := by
  have HLn : Hid (U.length = n) := hn
  have HBd : Hid (∀ j, j ≤ n → k ≤ endW k (U.take j) ∧ endW k (U.take j) ≤ k + 4194304) := by
    intro j hj
    have h1 := endW_bd (U.take j) k
    have h2 := totWi_take U j
    omega
  have HLen : Hid _ := h.len
  have HInn : Hid _ := h.inn
  have HSelf : Hid _ := h.self
  have HAp : Hid _ := h.apart
  have HGl : Hid (F g) := h.glo
  have hrow := h.row
  have hown := h.own
  clear hn h
  go_enter Tryz.func46, Tryz.ntmps46
  go_wp2
  go_loopw [1, 5] (fun s i wr => ∃ j : Nat, j ≤ n ∧ i = .int .i64 j ∧ s = .int .i64 (endW k (U.take j)) ∧ wr.ownsRow 0 132 4 (.slice (some ⟨g, 0, none⟩) n c) n (cellsWi (markW k (U.take j) ++ U.drop j)) ∧
      (∀ (i : Nat) (u : WiV), j ≤ i → U[i]? = some u → OwAt wr u.a u.xs.length u.c u.xs ∧ OwAt wr u.b u.ys.length u.d u.ys) ∧ (∀ (i : Nat) (u : WiV), i < j → U[i]? = some u → BsAt wr u.a (u.mkW (endW k (U.take i))).xs ∧ BsAt wr u.b (u.mkW (endW k (U.take i))).ys) ∧ Turn F w wr) (fun _ i _ => n - (intOf i).toNat)
  case atStart => exact ⟨0, Nat.zero_le _, rfl, rfl, by simpa [markW] using hrow, fun i u _ hu => hown i u hu, fun i u hi => absurd hi (Nat.not_lt_zero i), Turn.refl _ _⟩
  case round =>
    obtain ⟨j, hj, rfl, rfl, hC, hrest, hdone, htn⟩ := hrel
    by_cases hlt : j < n
    · obtain ⟨f, hfj⟩ : ∃ f, U[j]? = some f := ⟨_, List.getElem?_eq_getElem (by have := HLn.out; omega)⟩
      have hCj := stepW_get hfj k
      have he := HBd.out j hj
      have HKC : Hid (∀ u, U[j]? = some u → u = f) := by intro u hu; rw [hfj] at hu; exact (Option.some.inj hu).symm
      have HFJ : Hid (U[j]? = some f) := hfj
      have HDone : Hid _ := hdone
      obtain ⟨kc, hkc⟩ : ∃ kc, kc = endW k (U.take j) := ⟨_, rfl⟩
      have HK : Hid (kc = endW k (U.take j)) := hkc
      rw [← hkc] at he ⊢
      have HE2 : Hid (endW k (U.take (j + 1)) = f.nxW kc) := by unfold Hid; rw [hkc]; exact endW_take hfj k
      have HS3 : Hid ((markW k (U.take j) ++ U.drop j).set j (f.mkW kc) = markW k (U.take (j + 1)) ++ U.drop (j + 1)) := by unfold Hid; rw [hkc]; exact stepW_set hfj k
      clear hkc hdone
      generalize markW k (U.take j) ++ U.drop j = CC at *
      have HCj : Hid (CC[j]? = some f) := hCj
      have hCl : (cellsWi CC).length = n * 4 := by have := hC.1; omega
      obtain ⟨hovA, hovB⟩ := hrest j f (Nat.le_refl _) hfj
      obtain ⟨hlA, hlB⟩ := HLen.out f (List.mem_of_getElem? hfj)
      have hif := HInn.out f (List.mem_of_getElem? hfj)
      have hse := HSelf.out f (List.mem_of_getElem? hfj)
      have hset := cellsWi_set2 CC j f (f.mkW kc) HCj.out (by simp [WiV.mkW, marks_length]) (by simp [WiV.mkW, marks_length])
      have HSET : Hid (((cellsWi CC).set (j * 4) (.int .i64 kc)).set (j * 4 + 2) (.int .i64 (kc + 1 + (f.xs.length : Int))) = cellsWi (CC.set j (f.mkW kc))) := hset
      have f0 := fun q => World.ownsRow.frozenAt hC q
      obtain ⟨v0, c0⟩ : ∃ v, wr.cell? ⟨g, j * 4, none⟩ = some v := ⟨_, (World.ownsRow.cellAt hC _ (by omega)).trans (List.getElem?_eq_getElem (by omega))⟩
      have hg1 := (World.ownsRow.stored hC (j * 4) (.int .i64 kc)).1
      have t1 : Turn (fun i => i = g) wr (wr.setCell ⟨g, j * 4, none⟩ (.int .i64 kc)) := (Turn.refl (fun i => i = g) wr).set (p := ⟨g, j * 4, none⟩) rfl _
      have hA1 : OwAt (wr.setCell ⟨g, j * 4, none⟩ (.int .i64 kc)) f.a f.xs.length f.c f.xs := hovA.turn t1 (fun x hx e => (hif x (.inl hx)).2 e)
      have hB1 : OwAt (wr.setCell ⟨g, j * 4, none⟩ (.int .i64 kc)) f.b f.ys.length f.d f.ys := hovB.turn t1 (fun x hx e => (hif x (.inr hx)).2 e)
      clear hset hCj hovA hovB
      go_upto_region 6 with fail
      generalize wr.setCell ⟨g, j * 4, none⟩ (.int .i64 kc) = W1 at *
      clear c0 f0
      have x1 : W1.cell? ⟨g, j * 4 + 1, none⟩ = some (.slice f.a f.xs.length f.c) := by
        rw [World.ownsRow.cellAt hg1 (j * 4 + 1) (by omega), List.getElem?_set_ne (by omega)]
        exact cellsWi_get CC j f HCj.out 1 (by omega)
      go_wp2_with fail
      refine (mark_any f.a f.xs.length f.c (kc + 1) f.xs _ hA1 (by omega) (by omega) (by omega)).mono ?_
      rintro e W2 ⟨rfl, hoA, tA⟩
      clear x1
      have inG : ∀ i, inA f.a i → F i ∧ ¬ i = g := by rintro i ⟨x, hx, e⟩; rw [e]; exact hif x (.inl hx)
      have inH : ∀ i, inA f.b i → F i ∧ ¬ i = g := by rintro i ⟨x, hx, e⟩; rw [e]; exact hif x (.inr hx)
      have hg2 := row_turnW hg1 tA (fun e => (inG g e).2 rfl)
      have hB2 := hB1.turn tA (fun x hx e => by obtain ⟨y, hy, e⟩ := e; exact hse y x hy hx e.symm)
      have f2 := fun q => World.ownsRow.frozenAt hg2 q
      obtain ⟨v2, c2⟩ : ∃ v, W2.cell? ⟨g, j * 4 + 2, none⟩ = some v := ⟨_, (World.ownsRow.cellAt hg2 _ (by omega)).trans (List.getElem?_eq_getElem (by simp only [List.length_set]; omega))⟩
      have hg3 := (World.ownsRow.stored hg2 (j * 4 + 2) (.int .i64 (kc + 1 + (f.xs.length : Int)))).1
      rw [HSET.out] at hg3
      have t3 : Turn (fun i => i = g) W2 (W2.setCell ⟨g, j * 4 + 2, none⟩ (.int .i64 (kc + 1 + (f.xs.length : Int)))) := (Turn.refl (fun i => i = g) W2).set (p := ⟨g, j * 4 + 2, none⟩) rfl _
      have hA3 := hoA.turn t3 (fun x hx e => (hif x (.inl hx)).2 e)
      have hB3 := hB2.turn t3 (fun x hx e => (hif x (.inr hx)).2 e)
      clear hg1 hg2 hA1 hB1 hB2 hoA
      go_upto_region 9 with fail
      generalize W2.setCell ⟨g, j * 4 + 2, none⟩ (.int .i64 (kc + 1 + (f.xs.length : Int))) = W3 at *
      clear c2 f2
      have x3 : W3.cell? ⟨g, j * 4 + 3, none⟩ = some (.slice f.b f.ys.length f.d) := by
        rw [World.ownsRow.cellAt hg3 (j * 4 + 3) (by omega), cellsWi_get _ j _ (by rw [List.getElem?_set_self (by have := (List.getElem?_eq_some_iff.1 HCj.out).1; omega)]) 3 (by omega)]
        simp [WiV.cs, WiV.mkW, marks_length]
      go_wp2_with fail
      refine (mark_any f.b f.ys.length f.d (kc + 1 + (f.xs.length : Int) + 1) f.ys _ hB3 (by omega) (by omega) (by omega)).mono ?_
      rintro e W4 ⟨rfl, hoB, tB⟩
      clear x3
      have hg4 := row_turnW hg3 tB (fun e => (inH g e).2 rfl)
      have hA4 := hA3.turn tB (fun x hx e => by obtain ⟨y, hy, e⟩ := e; exact hse x y hx hy e)
      have tt : Turn (fun i => i = g ∨ inA f.a i ∨ inA f.b i) wr W4 := by
        have a1 : Turn (fun i => i = g ∨ inA f.a i ∨ inA f.b i) wr W1 := Turn.mono t1 (fun i _ e => .inl e)
        have a2 := Turn.trans a1 tA (fun i _ e => .inr (.inl e))
        have a3 := Turn.trans a2 t3 (fun i _ e => .inl e)
        exact Turn.trans a3 tB (fun i _ e => .inr (.inr e))
      have HT : Hid _ := tt
      have HG4 : Hid _ := hg4
      have HA4 : Hid _ := hA4
      have HOB : Hid _ := hoB
      clear hg3 hg4 hA3 hA4 hB3 hoB tA tB t1 t3 tt hC
      go_wp2
      go_roundw
      case rel =>
        refine ⟨j + 1, by omega, by go_num, by rw [HE2.out]; rfl, ?_, ?_, ?_, ?_⟩
        · rw [← HS3.out]; exact HG4.out
        · intro i u hi hu
          have hx := hrest i u (by omega) hu
          refine ⟨hx.1.turn HT.out ?_, hx.2.turn HT.out ?_⟩
          · rintro x hx (e | ⟨y, hy, e⟩ | ⟨y, hy, e⟩)
            · exact (HInn.out u (List.mem_of_getElem? hu) x (.inl hx)).2 e
            · exact HAp.out i j u f x y hu HFJ.out (by omega) (.inl hx) (.inl hy) e
            · exact HAp.out i j u f x y hu HFJ.out (by omega) (.inl hx) (.inr hy) e
          · rintro x hx (e | ⟨y, hy, e⟩ | ⟨y, hy, e⟩)
            · exact (HInn.out u (List.mem_of_getElem? hu) x (.inr hx)).2 e
            · exact HAp.out i j u f x y hu HFJ.out (by omega) (.inr hx) (.inl hy) e
            · exact HAp.out i j u f x y hu HFJ.out (by omega) (.inr hx) (.inr hy) e
        · intro i u hi hu
          by_cases hij : i = j
          · subst hij
            obtain rfl := HKC.out u hu
            rw [← HK.out]
            exact ⟨OwAt.bs HA4.out (marks_bd _ _), OwAt.bs HOB.out (marks_bd _ _)⟩
          · have hx := HDone.out i u (by omega) hu
            refine ⟨hx.1.turn HT.out ?_, hx.2.turn HT.out ?_⟩
            · rintro x hx (e | ⟨y, hy, e⟩ | ⟨y, hy, e⟩)
              · exact (HInn.out u (List.mem_of_getElem? hu) x (.inl hx)).2 e
              · exact HAp.out i j u f x y hu HFJ.out (by omega) (.inl hx) (.inl hy) e
              · exact HAp.out i j u f x y hu HFJ.out (by omega) (.inl hx) (.inr hy) e
            · rintro x hx (e | ⟨y, hy, e⟩ | ⟨y, hy, e⟩)
              · exact (HInn.out u (List.mem_of_getElem? hu) x (.inr hx)).2 e
              · exact HAp.out i j u f x y hu HFJ.out (by omega) (.inr hx) (.inl hy) e
              · exact HAp.out i j u f x y hu HFJ.out (by omega) (.inr hx) (.inr hy) e
        · exact Turn.trans htn HT.out (by rintro i _ (e | e | e); (rw [e]; exact HGl.out); exact (inG i e).1; exact (inH i e).1)
      case measure => simp [intOf]; omega
    · go_wp2
      go_ret
      obtain rfl : j = n := by omega
      have e1 : U.take j = U := List.take_of_length_le (by rw [HLn.out]; omega)
      have e2 : U.drop j = [] := List.drop_eq_nil_of_le (by rw [HLn.out]; omega)
      rw [e1, e2, List.append_nil] at hC
      rw [e1]
      refine ⟨rfl, ?_, htn⟩
      intro i u hu
      have hi : i < (markW k U).length := (List.getElem?_eq_some_iff.1 hu).1
      rw [markW_length] at hi
      obtain ⟨f, hf⟩ : ∃ f, U[i]? = some f := ⟨_, List.getElem?_eq_getElem hi⟩
      have hm' := markW_get U hf k
      rw [hu] at hm'
      obtain rfl := Option.some.inj hm'
      have hd := hdone i f (by have := HLn.out; omega) hf
      have hl := HLen.out f (List.mem_of_getElem? hf)
      refine ⟨⟨g, rfl, fun q hq => ?_⟩, hd.1, hd.2, ?_, ?_⟩
      · rw [World.ownsRow.cellAt hC (i * 4 + q) (by have := HLn.out; omega)]
        exact cellsWi_get _ i _ hu q hq
      · simp only [WiV.mkW, marks_length]; exact hl.1
      · simp only [WiV.mkW, marks_length]; exact hl.2

theorem heldWiS_any (A : Option Addr) (n c : Nat) (k : Int) (U : List WiV) (w : World) (h : WiAt w A (markW k U)) (hn : U.length = n) (hl : ∀ u ∈ U, u.xs.length ≤ 1048576 ∧ u.ys.length ≤ 1048576) (hT : totWi U ≤ 2097152) (hm : n ≤ 2097152) (hk0 : 0 ≤ k) (hk : k ≤ 134217728) :
    Calls Tryz.prog 92 #[.slice A n c, .int .i64 k] w fun e w' => e = .returned (.int .i64 (endW k U)) ∧ w' = w := by
  have HLn : Hid (U.length = n) := hn
  have HL : Hid _ := hl
  have HBd : Hid (∀ j, j ≤ n → k ≤ endW k (U.take j) ∧ endW k (U.take j) ≤ k + 4194304) := by
    intro j hj
    have h1 := endW_bd (U.take j) k
    have h2 := totWi_take U j
    omega
  clear hn hl
  go_enter Tryz.func92, Tryz.ntmps92
  go_wp2
  go_loopw [1, 5] (fun s i wr => ∃ j : Nat, j ≤ n ∧ i = .int .i64 j ∧ s = .int .i64 (endW k (U.take j)) ∧ wr = w) (fun _ i _ => n - (intOf i).toNat)
  case atStart => exact ⟨0, Nat.zero_le _, rfl, rfl, rfl⟩
  case round =>
    obtain ⟨j, hj, rfl, rfl, rfl⟩ := hrel
    by_cases hlt : j < n
    · obtain ⟨f, hfj⟩ : ∃ f, U[j]? = some f := ⟨_, List.getElem?_eq_getElem (by have := HLn.out; omega)⟩
      obtain ⟨⟨b, rfl, hcell⟩, hns, hns2, -⟩ := h j _ (markW_get U hfj k)
      have he := HBd.out j hj
      have HE : Hid (endW k (U.take (j + 1)) = f.nxW (endW k (U.take j))) := endW_take hfj k
      obtain ⟨hlf, hlf2⟩ := HL.out f (List.mem_of_getElem? hfj)
      generalize endW k (U.take j) = kc at *
      obtain ⟨fE, fT, fa, fb, fc, fd, xs, ys⟩ := f
      have x0 : wr.cell? ⟨b, j * 4, none⟩ = some (.int .i64 kc) := hcell 0 (by omega)
      have x1 : wr.cell? ⟨b, j * 4 + 1, none⟩ = some (.slice fa xs.length fc) := by
        have := hcell 1 (by omega)
        simp only [WiV.mkW, WiV.cs, marks_length] at this
        exact this
      have x2 : wr.cell? ⟨b, j * 4 + 2, none⟩ = some (.int .i64 (kc + 1 + (xs.length : Int))) := hcell 2 (by omega)
      have x3 : wr.cell? ⟨b, j * 4 + 3, none⟩ = some (.slice fb ys.length fd) := by
        have := hcell 3 (by omega)
        simp only [WiV.mkW, WiV.cs, marks_length] at this
        exact this
      have hns' : BsAt wr fa (marks (kc + 1) xs.length) := hns
      have hns2' : BsAt wr fb (marks (kc + 1 + (xs.length : Int) + 1) ys.length) := hns2
      have d0 : (kc != kc) = false := by simp
      have d1 : (kc + 1 + (xs.length : Int) != kc + 1 + (xs.length : Int)) = false := by simp
      simp only at hlf hlf2
      clear hcell hfj hns hns2 h
      go_wp2_with fail
      refine (held_any fa xs.length fc (kc + 1) _ hns' (by omega) (by omega) (by omega)).mono ?_
      rintro e w5 ⟨rfl, hw5⟩
      obtain rfl := hw5.symm
      go_wp2_with fail
      refine (held_any fb ys.length fd (kc + 1 + (xs.length : Int) + 1) _ hns2' (by omega) (by omega) (by omega)).mono ?_
      rintro e w6 ⟨rfl, hw6⟩
      obtain rfl := hw6.symm
      go_wp2
      go_roundw
      case rel => exact ⟨j + 1, by omega, by go_num, by rw [HE.out]; rfl, by trivial⟩
      case measure => simp [intOf]; omega
    · go_wp2
      go_ret
      obtain rfl : j = n := by omega
      have e1 : U.take j = U := List.take_of_length_le (by rw [HLn.out]; omega)
      rw [e1]
      exact ⟨rfl, rfl⟩

end Go.Proofs.YtdbnmkffinhdjaaGreat
