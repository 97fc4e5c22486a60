/- What is proved here: what the counting of lists of entries and of nodes answers, from any bound of at most 1048576 on. No other condition. What is proved here: what the counting, copying and comparing of lists of nodes answers, for every list of at most 1048576 nodes, entries and bytes; how such a list comes in. What is proved here: what the counting, copying and comparing of lists of wires answers, for every list of at most 1048576 wires and bytes; how such a list comes in. -/
import Derived.Test.YtlkhmnjghdbmoaaGreatDoorTQ4
namespace Go.Proofs.YtlkhmnjghdbmoaaGreatDoor
open Go.ChangeShapes Go.WideShapes Go.ChangeAt Go.RowKit Go.Deep Go.Sort
set_option linter.unusedVariables false
set_option linter.unusedSimpArgs false

set_option maxHeartbeats 3200000 in
theorem szEkS_gen (A : Option Addr) (n c : Nat) (V : List EkV) (K : Int) (w : World) (hK0 : 0 ≤ K) (hK1 : K ≤ 1048576) (h : EkCame w A V) (hn : V.length = n) (hm : n ≤ maxLen) :
    Calls Tryz.prog 14 #[.slice A n c, .int .i64 K] w fun e w' => (∃ z : Int, e = .returned (.int .i64 z) ∧ (z = -1 ∨ (0 ≤ z ∧ (totK V : Int) + z = K))) ∧ New w w' := by
  have HN : Hid (V.length = n) := hn
  unfold maxLen at hm
  clear hn
  by_cases hbig : K < (n : Int)
  case pos =>
    go_enter Tryz.func14, Tryz.ntmps14
    go_wp2
    go_ret
    exact ⟨⟨_, rfl, .inl rfl⟩, New.refl _⟩
  have hm' : (n : Int) ≤ K := by omega
  clear hm hbig
  go_enter Tryz.func14, Tryz.ntmps14
  go_wp2
  go_loopw [1, 5] (fun t i wr => ∃ (k : Nat) (z : Int), k ≤ n ∧ 0 ≤ z ∧ z ≤ 1048576 ∧ t = .int .i64 z ∧ i = .int .i64 k ∧ New w wr ∧ (totK (V.take k) : Int) + (n - k) + z = K) (fun _ i _ => n - (intOf i).toNat)
  case atStart => exact ⟨0, _, Nat.zero_le _, by omega, by omega, rfl, rfl, New.refl _, by simp [totK]; omega⟩
  case round =>
    obtain ⟨k, z, hk, hz0, hz1, rfl, rfl, hnw, hall⟩ := hrel
    by_cases hlt : k < n
    · obtain ⟨b, off, ep, ki, pe, x, m, d, xs, rfl, hv, hlen, hns, hmx, q0, q1, q2, q3⟩ := (h.new hnw).at k (by have := HN.out; omega)
      have HA : Hid ((totK (V.take (k + 1)) : Int) + (n - (k + 1)) + (z - m) = K) := by
        unfold Hid
        rw [take_snocK hv, totK_snoc]
        simp only [hlen]
        omega
      clear hv hlen hns h hall
      by_cases hfit : (m : Int) ≤ z
      · go_wp2_with fail
        refine (szEk_okZ ep ki pe x m d z _ hz0 hz1 hfit).mono ?_
        rintro e w1 ⟨rfl, hn1⟩
        clear q0 q1 q2 q3
        go_wp2
        go_roundw
        case rel => exact ⟨k + 1, z - m, by omega, by omega, by omega, rfl, by go_num, hnw.trans hn1, by have := HA.out; push_cast; exact this⟩
        case measure => simp [intOf]; omega
      · go_wp2_with fail
        refine (szEk_bigZ ep ki pe x m d z _ hz0 hz1 hmx (by omega)).mono ?_
        rintro e w1 ⟨rfl, hn1⟩
        clear q0 q1 q2 q3
        go_wp2
        go_ret
        exact ⟨⟨_, rfl, .inl rfl⟩, hnw.trans hn1⟩
    · go_wp2
      go_ret
      refine ⟨⟨_, rfl, .inr ⟨hz0, ?_⟩⟩, hnw⟩
      rw [List.take_of_length_le (by have := HN.out; omega)] at hall
      omega

theorem szNd_gen (id : Int) (up : Bool) (ro ep su ma ot co : Int) (A : Option Addr) (n c : Nat) (V : List EkV) (K : Int) (w : World) (hK0 : 0 ≤ K) (hK1 : K ≤ 1048576) (h : EkCame w A V) (hn : V.length = n) (hm : n ≤ maxLen) :
    Calls Tryz.prog 33 #[.agg #[.int .i64 id, .bool up, .int .i64 ro, .int .i64 ep, .slice A n c, .int .i64 su, .int .i64 ma, .int .i64 ot, .int .i64 co], .int .i64 K] w fun e w' => (∃ z : Int, e = .returned (.int .i64 z) ∧ (z = -1 ∨ (0 ≤ z ∧ (totK V : Int) + z = K))) ∧ New w w' := by
  have hw := (New.refl w).alloc (.cells #[.int .i64 id, .bool up, .int .i64 ro, .int .i64 ep, .slice A n c, .int .i64 su, .int .i64 ma, .int .i64 ot, .int .i64 co] 86)
  go_enter Tryz.func33, Tryz.ntmps33
  go_wp2_with fail
  refine (szEkS_gen A n c V K _ hK0 hK1 (h.new hw) hn hm).mono ?_
  rintro e w1 ⟨⟨z, rfl, hz⟩, hn1⟩
  have hw1 := hw.trans hn1
  by_cases h0 : z < 0
  · go_wp2
    go_ret
    exact ⟨⟨_, rfl, .inl rfl⟩, hw1⟩
  · go_wp2
    go_ret
    exact ⟨⟨_, rfl, by rcases hz with hz | hz; (exfalso; omega); exact .inr hz⟩, hw1⟩

theorem szWi_gen (E T : Int) (a b : Option Addr) (n c m d : Nat) (K : Int) (w : World) (hK0 : 0 ≤ K) (hK1 : K ≤ 1048576) (hn : n ≤ maxLen) (hm : m ≤ maxLen) : Calls Tryz.prog 34 #[.agg #[.int .i64 E, .slice a n c, .int .i64 T, .slice b m d], .int .i64 K] w fun e w' => (∃ z : Int, e = .returned (.int .i64 z) ∧ (z = -1 ∨ (0 ≤ z ∧ ((n + m : Nat) : Int) + z = K))) ∧ New w w' := by
  obtain ⟨l, rfl⟩ : ∃ l : Nat, K = l := ⟨K.toNat, by omega⟩
  by_cases h : n + m ≤ l
  · exact (szW_ok E T a b n c m d l w (by omega) h).mono fun e w' ⟨he, hn⟩ => ⟨⟨_, he, .inr ⟨by omega, by omega⟩⟩, hn⟩
  · exact (szW_big E T a b n c m d l w (by omega) hn hm (by omega)).mono fun e w' ⟨he, hn⟩ => ⟨⟨_, he, .inl rfl⟩, hn⟩
theorem szMl_gen (kd tgt me at1 pr : Int) (has : Bool) (ee ki pe : Int) (a : Option Addr) (m c1 : Nat) (K : Int) (w : World) (hK0 : 0 ≤ K) (hK1 : K ≤ 1048576) (hm : m ≤ maxLen) : Calls Tryz.prog 35 #[.agg #[.int .i64 kd, .int .i64 tgt, .int .i64 me, .int .i64 at1, .int .i64 pr, .bool has, .int .i64 ee, .int .i64 ki, .int .i64 pe, .slice a m c1], .int .i64 K] w fun e w' => (∃ z : Int, e = .returned (.int .i64 z) ∧ (z = -1 ∨ (0 ≤ z ∧ (m : Int) + z = K))) ∧ New w w' := by
  by_cases h : (m : Int) ≤ K
  · exact (szMl_okZ kd tgt me at1 pr has ee ki pe a m c1 K w hK0 hK1 h).mono fun e w' ⟨he, hn⟩ => ⟨⟨_, he, .inr ⟨by omega, by omega⟩⟩, hn⟩
  · exact (szMl_bigZ kd tgt me at1 pr has ee ki pe a m c1 K w hK0 hK1 hm (by omega)).mono fun e w' ⟨he, hn⟩ => ⟨⟨_, he, .inl rfl⟩, hn⟩

theorem OvB.bsS {w : World} {lo n c : Nat} {a : Option Addr} {xs : List Int} (h : OvB w lo (.slice a n c) xs) (hb : ∀ z ∈ xs, By z) : BsAt w a xs := by
  obtain ⟨a', c', e, h1, -⟩ := h.bs hb
  simp only [Value.slice.injEq] at e
  obtain ⟨rfl, -, -⟩ := e
  exact h1

end Go.Proofs.YtlkhmnjghdbmoaaGreatDoor

namespace Go.Proofs.YtlkhmnjghdbmoaaGreatDoor
open Go.ChangeShapes Go.WideShapes Go.ChangeAt Go.RowKit Go.Deep Go.Sort
set_option linter.unusedVariables false
set_option linter.unusedSimpArgs false

/-- A node in memory, with its log. -/
structure NdV where
  id : Int
  up : Bool
  ro : Int
  ep : Int
  su : Int
  ma : Int
  ot : Int
  co : Int
  A : Option Addr
  c : Nat
  V : List EkV
def NdV.cs (v : NdV) : List Value := [.int .i64 v.id, .bool v.up, .int .i64 v.ro, .int .i64 v.ep, .slice v.A v.V.length v.c, .int .i64 v.su, .int .i64 v.ma, .int .i64 v.ot, .int .i64 v.co]
def NdV.r (v : NdV) : Int × Bool × Int × Int × Int × Int × Int × Int × List Ek := (v.id, v.up, v.ro, v.ep, v.su, v.ma, v.ot, v.co, v.V.map EkV.r)
def NdV.tot (v : NdV) : Nat := totK v.V
def cellsNd (V : List NdV) : List Value := V.flatMap NdV.cs
def totNd : List NdV → Nat
  | [] => 0
  | v :: V => v.tot + 1 + totNd V
theorem totNd_len : ∀ V : List NdV, V.length ≤ totNd V
  | [] => Nat.le_refl _
  | v :: V => by have := totNd_len V; simp only [totNd, List.length_cons]; omega
theorem totNd_mem : ∀ (V : List NdV) (v : NdV), v ∈ V → v.tot ≤ totNd V
  | [], v, h => by simp at h
  | u :: V, v, h => by
    simp only [totNd]
    rcases List.mem_cons.1 h with rfl | h
    · omega
    · have := totNd_mem V v h; omega
theorem totNd_snoc (V : List NdV) (v : NdV) : totNd (V ++ [v]) = totNd V + v.tot + 1 := by
  induction V with
  | nil => simp [totNd]
  | cons f F ih => simp only [List.cons_append, totNd, ih]; omega
theorem take_snocNd {V : List NdV} {k : Nat} {f : NdV} (h : V[k]? = some f) : V.take (k + 1) = V.take k ++ [f] := by
  obtain ⟨hk, rfl⟩ := List.getElem?_eq_some_iff.1 h
  exact List.take_succ_eq_append_getElem hk
theorem cellsNd_len : ∀ U : List NdV, (cellsNd U).length = U.length * 9
  | [] => rfl
  | x :: U => by
    have ih := cellsNd_len U
    unfold cellsNd at ih ⊢
    rw [List.flatMap_cons, List.length_append, ih, List.length_cons]
    simp [NdV.cs]
    omega
theorem cellsNd_get : ∀ (U : List NdV) (i : Nat) (u : NdV), U[i]? = some u → ∀ j, j < 9 → (cellsNd U)[i * 9 + j]? = u.cs[j]?
  | [], i, u, h, _, _ => by simp at h
  | x :: U, 0, u, h, j, hj => by
    simp at h
    subst h
    unfold cellsNd
    rw [List.flatMap_cons, Nat.zero_mul, Nat.zero_add, List.getElem?_append_left (by simp [NdV.cs]; omega)]
  | x :: U, i + 1, u, h, j, hj => by
    have ih := cellsNd_get U i u (by simpa using h) j hj
    unfold cellsNd at ih ⊢
    rw [List.flatMap_cons, List.getElem?_append_right (by simp [NdV.cs]; omega), show (x.cs).length = 9 from rfl, show (i + 1) * 9 + j - 9 = i * 9 + j by omega, ih]

/-- The address leads to those that came in. -/
def NdCame (w : World) (A : Option Addr) (V : List NdV) : Prop :=
  ∀ i v, V[i]? = some v → (∃ b off, A = some ⟨b, off, none⟩ ∧ ∀ j, j < 9 → w.cell? ⟨b, off + i * 9 + j, none⟩ = v.cs[j]?) ∧ EkCame w v.A v.V ∧ v.V.length ≤ maxLen
theorem NdCame.new {w w' : World} {A : Option Addr} {V : List NdV} (h : NdCame w A V) (t : New w w') : NdCame w' A V := by
  intro i v hv
  obtain ⟨⟨b, off, ha, hc⟩, h1⟩ := h i v hv
  have h0 : w.cell? ⟨b, off + i * 9, none⟩ = some (.int .i64 v.id) := hc 0 (by omega)
  have hb' := t.block b (World.block_lt_of_cell? w _ h0) (fun f => f)
  exact ⟨⟨b, off, ha, fun j hj => (World.cell?_of_block hb').trans (hc j hj)⟩, ⟨h1.1.new t, h1.2⟩⟩
theorem NdCame.at {w : World} {A : Option Addr} {V : List NdV} (h : NdCame w A V) (i : Nat) (hi : i < V.length) :
    ∃ (b off : Nat) (id : Int) (up : Bool) (ro ep su ma ot co : Int) (x : Option Addr) (m d : Nat) (xs : List EkV), A = some ⟨b, off, none⟩ ∧ V[i]? = some ⟨id, up, ro, ep, su, ma, ot, co, x, d, xs⟩ ∧ xs.length = m ∧ EkCame w x xs ∧ m ≤ maxLen ∧ w.cell? ⟨b, off + i * 9, none⟩ = some (.int .i64 id) ∧ w.cell? ⟨b, off + i * 9 + 1, none⟩ = some (.bool up) ∧ w.cell? ⟨b, off + i * 9 + 2, none⟩ = some (.int .i64 ro) ∧ w.cell? ⟨b, off + i * 9 + 3, none⟩ = some (.int .i64 ep) ∧ w.cell? ⟨b, off + i * 9 + 4, none⟩ = some (.slice x m d) ∧ w.cell? ⟨b, off + i * 9 + 5, none⟩ = some (.int .i64 su) ∧ w.cell? ⟨b, off + i * 9 + 6, none⟩ = some (.int .i64 ma) ∧ w.cell? ⟨b, off + i * 9 + 7, none⟩ = some (.int .i64 ot) ∧ w.cell? ⟨b, off + i * 9 + 8, none⟩ = some (.int .i64 co) := by
  obtain ⟨⟨b, off, h1, h2⟩, h3⟩ := h i _ (List.getElem?_eq_getElem hi)
  exact ⟨b, off, _, _, _, _, _, _, _, _, _, _, _, _, h1, List.getElem?_eq_getElem hi, rfl, h3.1, h3.2, h2 0 (by omega), h2 1 (by omega), h2 2 (by omega), h2 3 (by omega), h2 4 (by omega), h2 5 (by omega), h2 6 (by omega), h2 7 (by omega), h2 8 (by omega)⟩

/-- They can be read there. -/
def NdAt (w : World) (A : Option Addr) (V : List NdV) : Prop :=
  ∀ i v, V[i]? = some v → (∃ g, A = some ⟨g, 0, none⟩ ∧ ∀ j, j < 9 → w.cell? ⟨g, i * 9 + j, none⟩ = v.cs[j]?) ∧ LgAt w v.A v.V ∧ totK v.V ≤ 1048576
theorem NdAt.new {w w' : World} {A : Option Addr} {V : List NdV} (h : NdAt w A V) (t : New w w') : NdAt w' A V := by
  intro i v hv
  obtain ⟨⟨g, ha, hc⟩, h1⟩ := h i v hv
  have h0 : w.cell? ⟨g, i * 9, none⟩ = some (.int .i64 v.id) := hc 0 (by omega)
  have hb' := t.block g (World.block_lt_of_cell? w _ h0) (fun f => f)
  exact ⟨⟨g, ha, fun j hj => (World.cell?_of_block hb').trans (hc j hj)⟩, ⟨h1.1.new t, h1.2⟩⟩
theorem NdAt.at {w : World} {A : Option Addr} {V : List NdV} (h : NdAt w A V) (i : Nat) (hi : i < V.length) :
    ∃ (g : Nat) (id : Int) (up : Bool) (ro ep su ma ot co : Int) (x : Option Addr) (m d : Nat) (xs : List EkV), A = some ⟨g, 0, none⟩ ∧ V[i]? = some ⟨id, up, ro, ep, su, ma, ot, co, x, d, xs⟩ ∧ xs.length = m ∧ LgAt w x xs ∧ totK xs ≤ 1048576 ∧ w.cell? ⟨g, i * 9, none⟩ = some (.int .i64 id) ∧ w.cell? ⟨g, i * 9 + 1, none⟩ = some (.bool up) ∧ w.cell? ⟨g, i * 9 + 2, none⟩ = some (.int .i64 ro) ∧ w.cell? ⟨g, i * 9 + 3, none⟩ = some (.int .i64 ep) ∧ w.cell? ⟨g, i * 9 + 4, none⟩ = some (.slice x m d) ∧ w.cell? ⟨g, i * 9 + 5, none⟩ = some (.int .i64 su) ∧ w.cell? ⟨g, i * 9 + 6, none⟩ = some (.int .i64 ma) ∧ w.cell? ⟨g, i * 9 + 7, none⟩ = some (.int .i64 ot) ∧ w.cell? ⟨g, i * 9 + 8, none⟩ = some (.int .i64 co) := by
  obtain ⟨⟨g, h1, h2⟩, h3⟩ := h i _ (List.getElem?_eq_getElem hi)
  exact ⟨g, _, _, _, _, _, _, _, _, _, _, _, _, h1, List.getElem?_eq_getElem hi, rfl, h3.1, h3.2, h2 0 (by omega), h2 1 (by omega), h2 2 (by omega), h2 3 (by omega), h2 4 (by omega), h2 5 (by omega), h2 6 (by omega), h2 7 (by omega), h2 8 (by omega)⟩

set_option maxHeartbeats 3200000 in
theorem szNdS_gen (A : Option Addr) (n c : Nat) (V : List NdV) (K : Int) (w : World) (hK0 : 0 ≤ K) (hK1 : K ≤ 1048576) (h : NdCame w A V) (hn : V.length = n) (hm : n ≤ maxLen) :
    Calls Tryz.prog 11 #[.slice A n c, .int .i64 K] w fun e w' => (∃ z : Int, e = .returned (.int .i64 z) ∧ (z = -1 ∨ (0 ≤ z ∧ (totNd V : Int) + z = K))) ∧ New w w' := by
  have HN : Hid (V.length = n) := hn
  unfold maxLen at hm
  clear hn
  by_cases hbig : K < (n : Int)
  case pos =>
    go_enter Tryz.func11, Tryz.ntmps11
    go_wp2
    go_ret
    exact ⟨⟨_, rfl, .inl rfl⟩, New.refl _⟩
  have hm' : (n : Int) ≤ K := by omega
  clear hm hbig
  go_enter Tryz.func11, Tryz.ntmps11
  go_wp2
  go_loopw [1, 5] (fun t i wr => ∃ (k : Nat) (z : Int), k ≤ n ∧ 0 ≤ z ∧ z ≤ 1048576 ∧ t = .int .i64 z ∧ i = .int .i64 k ∧ New w wr ∧ (totNd (V.take k) : Int) + (n - k) + z = K) (fun _ i _ => n - (intOf i).toNat)
  case atStart => exact ⟨0, _, Nat.zero_le _, by omega, by omega, rfl, rfl, New.refl _, by simp [totNd]; omega⟩
  case round =>
    obtain ⟨k, z, hk, hz0, hz1, rfl, rfl, hnw, hall⟩ := hrel
    by_cases hlt : k < n
    · obtain ⟨b, off, id, up, ro, ep, su, ma, ot, co, x, m, d, xs, rfl, hv, hlen, hns, hmx, q0, q1, q2, q3, q4, q5, q6, q7, q8⟩ := (h.new hnw).at k (by have := HN.out; omega)
      have HL : Hid (xs.length = m) := hlen
      clear hlen
      have HA : Hid ((totNd (V.take (k + 1)) : Int) + (n - (k + 1)) + (z - (totK xs : Nat)) = K) := by
        unfold Hid
        rw [take_snocNd hv, totNd_snoc]
        simp only [NdV.tot]
        omega
      clear hv h hall
      go_wp2_with fail
      refine (szNd_gen id up ro ep su ma ot co x m d xs z _ hz0 hz1 hns HL.out hmx).mono ?_
      rintro e w1 ⟨⟨y, rfl, hy⟩, hn1⟩
      clear q0 q1 q2 q3 q4 q5 q6 q7 q8
      by_cases hy0 : y < 0
      · go_wp2
        go_ret
        exact ⟨⟨_, rfl, .inl rfl⟩, hnw.trans hn1⟩
      · have hy' : 0 ≤ y ∧ ((totK xs : Nat) : Int) + y = z := by rcases hy with hy | hy; (exfalso; omega); exact hy
        clear hy
        go_wp2
        go_roundw
        case rel => exact ⟨k + 1, y, by omega, by omega, by omega, rfl, by go_num, hnw.trans hn1, by have := HA.out; push_cast at this ⊢; omega⟩
        case measure => simp [intOf]; omega
    · go_wp2
      go_ret
      refine ⟨⟨_, rfl, .inr ⟨hz0, ?_⟩⟩, hnw⟩
      rw [List.take_of_length_le (by have := HN.out; omega)] at hall
      omega

/-- What all zeros are. -/
def zNd : NdV := ⟨0, false, 0, 0, 0, 0, 0, 0, none, 0, []⟩
theorem madeNd (n : Nat) : (madeCells #[.int .i64 0, .bool false, .int .i64 0, .int .i64 0, .slice none 0 0, .int .i64 0, .int .i64 0, .int .i64 0, .int .i64 0] (n * 9)).toList = cellsNd (List.replicate n zNd) := by
  apply List.ext_getElem?
  intro k
  by_cases hk : k < n * 9
  · have h1 : (cellsNd (List.replicate n zNd))[k / 9 * 9 + k % 9]? = zNd.cs[k % 9]? := cellsNd_get _ (k / 9) zNd (by rw [List.getElem?_replicate]; simp; omega) (k % 9) (by omega)
    rw [show k / 9 * 9 + k % 9 = k by omega] at h1
    rw [h1]
    simp only [madeCells, Array.toList_map, Array.toList_range, List.getElem?_map, List.getElem?_range hk, Option.map_some]
    have h4 : k % 9 = 0 ∨ k % 9 = 1 ∨ k % 9 = 2 ∨ k % 9 = 3 ∨ k % 9 = 4 ∨ k % 9 = 5 ∨ k % 9 = 6 ∨ k % 9 = 7 ∨ k % 9 = 8 := by omega
    rcases h4 with e | e | e | e | e | e | e | e | e <;> simp [e, NdV.cs, zNd]
  · rw [List.getElem?_eq_none (by simp [madeCells]; omega), List.getElem?_eq_none (by rw [cellsNd_len]; simp; omega)]
theorem set_fillNd (V : List NdV) (k n : Nat) (hn : V.length = k) (hk : k < n) (p : NdV) :
    (V ++ List.replicate (n - k) zNd).set k p = (V ++ [p]) ++ List.replicate (n - (k + 1)) zNd := by
  rw [List.set_append_right _ _ (by omega), hn, Nat.sub_self, show n - k = (n - (k + 1)) + 1 by omega, List.replicate_succ, List.set_cons_zero, List.append_assoc]
  rfl
theorem Tryz.infoNd : (Tryz.prog.info? 107).map (fun i => (i.zero, i.size, i.bytes)) = some (some (.agg #[.int .i64 0, .bool false, .int .i64 0, .int .i64 0, .slice none 0 0, .int .i64 0, .int .i64 0, .int .i64 0, .int .i64 0]), 9, 88) := by kernel_rfl
theorem cellsNd_set : ∀ (V : List NdV) (i : Nat) (v : NdV), (((((((((cellsNd V).set (i * 9) (.int .i64 v.id)).set (i * 9 + 1) (.bool v.up)).set (i * 9 + 2) (.int .i64 v.ro)).set (i * 9 + 3) (.int .i64 v.ep)).set (i * 9 + 4) (.slice v.A v.V.length v.c)).set (i * 9 + 5) (.int .i64 v.su)).set (i * 9 + 6) (.int .i64 v.ma)).set (i * 9 + 7) (.int .i64 v.ot)).set (i * 9 + 8) (.int .i64 v.co) = cellsNd (V.set i v)
  | [], i, p => by simp [cellsNd]
  | q :: V, 0, p => by simp [cellsNd, NdV.cs]
  | q :: V, i + 1, p => by
    have ih := cellsNd_set V i p
    have e : ∀ (q : NdV) (V : List NdV), cellsNd (q :: V) = .int .i64 q.id :: .bool q.up :: .int .i64 q.ro :: .int .i64 q.ep :: .slice q.A q.V.length q.c :: .int .i64 q.su :: .int .i64 q.ma :: .int .i64 q.ot :: .int .i64 q.co :: cellsNd V := fun _ _ => rfl
    rw [show (i + 1) * 9 = i * 9 + 9 by omega, e, show (q :: V).set (i + 1) p = q :: V.set i p from rfl, e, ← ih]
    simp only [Nat.add_assoc, Nat.reduceAdd, List.set_cons_succ]
theorem setNdk (w : World) (B j : Nat) (v0 v1 v2 v3 v4 v5 v6 v7 v8 : Value) : Turn (fun k => k = B) w (((((((((w.setCell ⟨B, j, none⟩ v0).setCell ⟨B, j + 1, none⟩ v1).setCell ⟨B, j + 2, none⟩ v2).setCell ⟨B, j + 3, none⟩ v3).setCell ⟨B, j + 4, none⟩ v4).setCell ⟨B, j + 5, none⟩ v5).setCell ⟨B, j + 6, none⟩ v6).setCell ⟨B, j + 7, none⟩ v7).setCell ⟨B, j + 8, none⟩ v8) :=
  (((((((((Turn.refl (fun k => k = B) w).set (p := ⟨B, j, none⟩) rfl v0).set (p := ⟨B, j + 1, none⟩) rfl v1).set (p := ⟨B, j + 2, none⟩) rfl v2).set (p := ⟨B, j + 3, none⟩) rfl v3).set (p := ⟨B, j + 4, none⟩) rfl v4).set (p := ⟨B, j + 5, none⟩) rfl v5).set (p := ⟨B, j + 6, none⟩) rfl v6).set (p := ⟨B, j + 7, none⟩) rfl v7).set (p := ⟨B, j + 8, none⟩) rfl v8
/-- The block g is a row that a call has made. -/
def RwNd (w : World) (g n c : Nat) (V : List NdV) : Prop := w.ownsRow 0 107 9 (.slice (some ⟨g, 0, none⟩) n c) n (cellsNd V)
theorem RwNd.len {w : World} {g n c : Nat} {V : List NdV} (h : RwNd w g n c V) : V.length = n := by
  have := h.1
  rw [cellsNd_len] at this
  omega
theorem RwNd.lt {w : World} {g n c : Nat} {V : List NdV} (h : RwNd w g n c V) : g < w.heap.size := (World.ownsRow.lt h g rfl).2
theorem RwNd.new {w w' : World} {g n c : Nat} {V : List NdV} (h : RwNd w g n c V) (t : New w w') : RwNd w' g n c V := row9_new h t
theorem RwNd.put {w : World} {g n c : Nat} {V : List NdV} (h : RwNd w g n c V) (i : Nat) (v : NdV) : RwNd (((((((((w.setCell ⟨g, i * 9, none⟩ (.int .i64 v.id)).setCell ⟨g, i * 9 + 1, none⟩ (.bool v.up)).setCell ⟨g, i * 9 + 2, none⟩ (.int .i64 v.ro)).setCell ⟨g, i * 9 + 3, none⟩ (.int .i64 v.ep)).setCell ⟨g, i * 9 + 4, none⟩ (.slice v.A v.V.length v.c)).setCell ⟨g, i * 9 + 5, none⟩ (.int .i64 v.su)).setCell ⟨g, i * 9 + 6, none⟩ (.int .i64 v.ma)).setCell ⟨g, i * 9 + 7, none⟩ (.int .i64 v.ot)).setCell ⟨g, i * 9 + 8, none⟩ (.int .i64 v.co)) g n c (V.set i v) := by
  have h1 := (World.ownsRow.stored h (i * 9) (.int .i64 v.id)).1
  have h2 := (World.ownsRow.stored h1 (i * 9 + 1) (.bool v.up)).1
  have h3 := (World.ownsRow.stored h2 (i * 9 + 2) (.int .i64 v.ro)).1
  have h4 := (World.ownsRow.stored h3 (i * 9 + 3) (.int .i64 v.ep)).1
  have h5 := (World.ownsRow.stored h4 (i * 9 + 4) (.slice v.A v.V.length v.c)).1
  have h6 := (World.ownsRow.stored h5 (i * 9 + 5) (.int .i64 v.su)).1
  have h7 := (World.ownsRow.stored h6 (i * 9 + 6) (.int .i64 v.ma)).1
  have h8 := (World.ownsRow.stored h7 (i * 9 + 7) (.int .i64 v.ot)).1
  have h9 := (World.ownsRow.stored h8 (i * 9 + 8) (.int .i64 v.co)).1
  unfold RwNd
  rw [← cellsNd_set V i v]
  exact h9
theorem RwNd.cell {w : World} {g n c : Nat} {V : List NdV} (h : RwNd w g n c V) (j : Nat) (hj : j < n * 9) : ∃ v, w.cell? ⟨g, j, none⟩ = some v := by
  have hl := cellsNd_len V
  have := h.len
  exact ⟨_, (World.ownsRow.cellAt h j hj).trans (List.getElem?_eq_getElem (by omega))⟩

/-- What belongs to one of them is the call's own, from lo on. -/
def NdV.own (w : World) (lo : Nat) (v : NdV) : Prop := ∃ hi, hi ≤ w.heap.size ∧ OwL w lo hi (.slice v.A v.V.length v.c) v.V ∧ totK v.V ≤ 1048576
theorem NdV.own.turn {w w' : World} {lo : Nat} {v : NdV} {S : Nat → Prop} (h : v.own w lo) (t : Turn S w w') (hS : ∀ k, lo ≤ k → k < w.heap.size → ¬ S k) : v.own w' lo := by
  obtain ⟨hi, h1, h2, h3⟩ := h
  exact ⟨hi, Nat.le_trans h1 t.size, h2.turn t (fun k a b => hS k a (by omega)), h3⟩
theorem NdV.own.new {w w' : World} {lo : Nat} {v : NdV} (h : v.own w lo) (t : New w w') : v.own w' lo := h.turn t (fun _ _ _ f => f)
theorem NdV.own.low {w : World} {lo lo' : Nat} {v : NdV} (h : v.own w lo) (hl : lo' ≤ lo) : v.own w lo' := by
  obtain ⟨hi, h1, h2, h3⟩ := h
  exact ⟨hi, h1, h2.low hl, h3⟩
/-- The row and what belongs to it are the call's own, from lo on. -/
structure OwNd (w : World) (lo g n : Nat) (V : List NdV) : Prop where
  row : RwNd w g n n V
  glo : lo ≤ g
  own : ∀ v ∈ V, v.own w lo
theorem OwNd.turn {w w' : World} {lo g n : Nat} {V : List NdV} {S : Nat → Prop} (h : OwNd w lo g n V) (t : Turn S w w') (hS : ∀ k, lo ≤ k → k < w.heap.size → ¬ S k) : OwNd w' lo g n V :=
  ⟨row9_turn h.row t (by intro k hk; simp [Value.ownBlock] at hk; subst hk; exact hS _ h.glo h.row.lt), h.glo, fun v hv => (h.own v hv).turn t hS⟩
theorem OwNd.new {w w' : World} {lo g n : Nat} {V : List NdV} (h : OwNd w lo g n V) (t : New w w') : OwNd w' lo g n V := h.turn t (fun _ _ _ f => f)
theorem OwNd.at' {w : World} {lo g n : Nat} {V : List NdV} (h : OwNd w lo g n V) : NdAt w (some ⟨g, 0, none⟩) V := by
  intro i v hv
  have hl := h.row.len
  have hi : i < V.length := (List.getElem?_eq_some_iff.1 hv).1
  refine ⟨⟨g, rfl, fun j hj => ?_⟩, ?_⟩
  · rw [World.ownsRow.cellAt h.row (i * 9 + j) (by omega)]
    exact cellsNd_get V i v hv j hj
  · have h1 := h.own v (List.mem_of_getElem? hv)
    obtain ⟨hi', h1, h2, h3⟩ := h1
    exact ⟨h2.lg.1, h3⟩

set_option maxHeartbeats 6400000 in
theorem toNdS_any (A : Option Addr) (n c : Nat) (V : List NdV) (w : World) (h : NdCame w A V) (hn : V.length = n) (hm : totNd V ≤ 1048576) :
    Calls Tryz.prog 18 #[.slice A n c] w fun e w' => ∃ g V', e = .returned (.slice (some ⟨g, 0, none⟩) n n) ∧ V'.map NdV.r = V.map NdV.r ∧ OwNd w' w.heap.size g n V' ∧ New w w' := by
  have HN : Hid (V.length = n) := hn
  have hn1 : n ≤ 1048576 := by have := totNd_len V; omega
  have HM : Hid (∀ v ∈ V, v.tot ≤ 1048576) := fun v hv => Nat.le_trans (totNd_mem V v hv) hm
  clear hn hm
  obtain ⟨i0, hi, hz0, hz1, hz2⟩ := info_parts Tryz.infoNd
  go_enter Tryz.func18, Tryz.ntmps18
  go_wp2_with (at_make; refine wpList_make_full _ rfl _ _ 41 rfl w.heap.size 107 i0 (.agg #[.int .i64 0, .bool false, .int .i64 0, .int .i64 0, .slice none 0 0, .int .i64 0, .int .i64 0, .int .i64 0, .int .i64 0]) 9 Tryz.underlying41 hi hz0 hz1 _ _ _ _ n rfl rfl rfl rfl ?b2 ?b3 (Nat.le_refl _) ?_)
  case b2 => rw [hz2]; omega
  case b3 => unfold maxLen; omega
  intro w0 hown0 hgrow0
  have hown : RwNd w0 w.heap.size n n ([] ++ List.replicate (n - 0) zNd) := by
    have := own_base hown0
    have e8 := madeNd n
    simp only [RwNd, List.nil_append, Nat.sub_zero]
    rw [← e8]
    exact this
  have hnew := New.of_grown hgrow0
  clear hown0 hgrow0
  go_wp2
  go_loopw [4] (fun i wr => ∃ (k : Nat) (V' : List NdV), k ≤ n ∧ i = .int .i64 k ∧ V'.length = k ∧ V'.map NdV.r = (V.take k).map NdV.r ∧ New w wr ∧ RwNd wr w.heap.size n n (V' ++ List.replicate (n - k) zNd) ∧ ∀ v ∈ V', v.own wr (w.heap.size + 1)) (fun i _ => n - (intOf i).toNat)
  case atStart => exact ⟨0, [], Nat.zero_le _, rfl, rfl, rfl, hnew, hown, by simp⟩
  case round =>
    obtain ⟨k, V', hk, rfl, hl', hmap, hnw, how, hpa⟩ := hrel
    have HL' : Hid (V'.length = k) := hl'
    clear hl'
    by_cases hlt : k < n
    · obtain ⟨b, off, id, up, ro, ep, su, ma, ot, co, x, m, d, xs, rfl, hv, hlen, hns, hmx, q0, q1, q2, q3, q4, q5, q6, q7, q8⟩ := (h.new hnw).at k (by have := HN.out; omega)
      have HL : Hid (xs.length = m) := hlen
      clear hlen
      have hmm := HM.out _ (List.mem_of_getElem? hv)
      simp only [NdV.tot] at hmm
      have HMp : Hid (∀ u : NdV, u.r = NdV.r ⟨id, up, ro, ep, su, ma, ot, co, x, d, xs⟩ → (V' ++ [u]).map NdV.r = (V.take (k + 1)).map NdV.r) := by
        intro u hu
        obtain ⟨hk', e⟩ := List.getElem?_eq_some_iff.1 hv
        rw [List.take_succ_eq_append_getElem hk', e, List.map_append, List.map_append, hmap]
        simp [hu]
      have hgl : w.heap.size < wr.heap.size := how.lt
      clear hv hmap
      go_wp2_with fail
      refine (toNd_any id up ro ep su ma ot co x m d xs _ hns HL.out hmm).mono ?_
      rintro e w1 ⟨g, xs2, rfl, hxs, ho, hn1'⟩
      have how1 := how.new hn1'
      have hl2 : xs2.length = m := by have h1 := congrArg List.length hxs; simp at h1; have := HL.out; omega
      have HL2 : Hid (xs2.length = m) := hl2
      have hput := how1.put k (NdV.mk id up ro ep su ma ot co (some (Addr.mk g 0 none)) m xs2)
      rw [set_fillNd V' k n HL'.out hlt] at hput
      simp only [HL2.out] at hput
      have HPU : Hid _ := hput
      have hn2 := hnw.trans hn1'
      have HPA : Hid (∀ v ∈ V' ++ [(NdV.mk id up ro ep su ma ot co (some (Addr.mk g 0 none)) m xs2)], v.own w1 (w.heap.size + 1)) := by
        intro v hv
        rcases List.mem_append.1 hv with hv | hv
        · exact (hpa v hv).new hn1'
        · obtain rfl := List.mem_singleton.1 hv
          unfold NdV.own
          simp only [HL2.out]
          exact ⟨w1.heap.size, Nat.le_refl _, ho.low (by omega), by rw [totK_map _ _ hxs]; exact hmm⟩
      have HR : Hid (NdV.r (NdV.mk id up ro ep su ma ot co (some (Addr.mk g 0 none)) m xs2) = NdV.r ⟨id, up, ro, ep, su, ma, ot, co, x, d, xs⟩) := by
        unfold Hid
        simp only [NdV.r, hxs]
      have f0 := fun j => World.ownsRow.frozenAt how1 j
      obtain ⟨v0, c0⟩ := how1.cell (k * 9) (by omega)
      obtain ⟨v1, c1⟩ := how1.cell (k * 9 + 1) (by omega)
      obtain ⟨v2, c2⟩ := how1.cell (k * 9 + 2) (by omega)
      obtain ⟨v3, c3⟩ := how1.cell (k * 9 + 3) (by omega)
      obtain ⟨v4, c4⟩ := how1.cell (k * 9 + 4) (by omega)
      obtain ⟨v5, c5⟩ := how1.cell (k * 9 + 5) (by omega)
      obtain ⟨v6, c6⟩ := how1.cell (k * 9 + 6) (by omega)
      obtain ⟨v7, c7⟩ := how1.cell (k * 9 + 7) (by omega)
      obtain ⟨v8, c8⟩ := how1.cell (k * 9 + 8) (by omega)
      clear h how how1 q0 q1 q2 q3 q4 q5 q6 q7 q8 hnw hpa hput hns ho hl2
      go_wp2
      go_roundw
      case rel =>
        have tt : Turn (fun j => j = w.heap.size) w1 (((((((((w1.setCell ⟨w.heap.size, k * 9, none⟩ (.int .i64 id)).setCell ⟨w.heap.size, k * 9 + 1, none⟩ (.bool up)).setCell ⟨w.heap.size, k * 9 + 2, none⟩ (.int .i64 ro)).setCell ⟨w.heap.size, k * 9 + 3, none⟩ (.int .i64 ep)).setCell ⟨w.heap.size, k * 9 + 4, none⟩ (.slice (some ⟨g, 0, none⟩) m m)).setCell ⟨w.heap.size, k * 9 + 5, none⟩ (.int .i64 su)).setCell ⟨w.heap.size, k * 9 + 6, none⟩ (.int .i64 ma)).setCell ⟨w.heap.size, k * 9 + 7, none⟩ (.int .i64 ot)).setCell ⟨w.heap.size, k * 9 + 8, none⟩ (.int .i64 co)) := setNdk w1 w.heap.size (k * 9) _ _ _ _ _ _ _ _ _
        refine ⟨k + 1, V' ++ [(NdV.mk id up ro ep su ma ot co (some (Addr.mk g 0 none)) m xs2)], by omega, by go_num, by simp [HL'.out], HMp.out _ HR.out, ?_, HPU.out, ?_⟩
        · exact hn2.before tt (by intro i hi e; omega)
        · exact fun v hv => (HPA.out v hv).turn tt (by intro j h1 h2 e; omega)
      case measure => simp [intOf]; omega
    · go_wp2
      go_ret
      have hkn : k = n := by omega
      subst hkn
      rw [List.take_of_length_le (by have := HN.out; omega)] at hmap
      simp only [Nat.sub_self, List.replicate_zero, List.append_nil] at how
      exact ⟨_, V', rfl, hmap, ⟨how, Nat.le_refl _, fun v hv => (hpa v hv).low (by omega)⟩, hnw⟩

set_option maxHeartbeats 3200000 in
theorem eqNdS_any (A B : Option Addr) (n c d : Nat) (V U : List NdV) (w : World) (hF : NdAt w A V) (hG : NdAt w B U) (hVU : V.map NdV.r = U.map NdV.r) (hn : V.length = n) (hm : n ≤ 2097152) :
    Calls Tryz.prog 28 #[.slice A n c, .slice B n d] w fun e w' => e = .returned (.bool true) ∧ New w w' := by
  have hnn : ((n : Int) != (n : Int)) = false := by simp
  have HN : Hid (V.length = n) := hn
  have HU : Hid (V.map NdV.r = U.map NdV.r) := hVU
  have HUN : Hid (U.length = n) := by
    have := congrArg List.length hVU
    simp at this
    show U.length = n
    omega
  clear hn hVU
  go_enter Tryz.func28, Tryz.ntmps28
  go_wp2
  go_loopw [5] (fun i wr => ∃ k : Nat, k ≤ n ∧ i = .int .i64 k ∧ New w wr) (fun i _ => n - (intOf i).toNat)
  case atStart => exact ⟨0, Nat.zero_le _, rfl, New.refl _⟩
  case round =>
    obtain ⟨k, hk, rfl, hnw⟩ := hrel
    by_cases hlt : k < n
    · obtain ⟨g1, id, up, ro, ep, su, ma, ot, co, x, m, d, xs, rfl, hp1, hlen, hns, hmx, q0, q1, q2, q3, q4, q5, q6, q7, q8⟩ := (hF.new hnw).at k (by have := HN.out; omega)
      obtain ⟨g2, id', up', ro', ep', su', ma', ot', co', x', m', d', xs', rfl, hp2, hlen', hns', hmx', y0, y1, y2, y3, y4, y5, y6, y7, y8⟩ := (hG.new hnw).at k (by have := HUN.out; omega)
      have hh : NdV.r ⟨id, up, ro, ep, su, ma, ot, co, x, d, xs⟩ = NdV.r ⟨id', up', ro', ep', su', ma', ot', co', x', d', xs'⟩ := by
        have h1 : (V.map NdV.r)[k]? = some (NdV.r ⟨id, up, ro, ep, su, ma, ot, co, x, d, xs⟩) := by rw [List.getElem?_map, hp1]; rfl
        have h2 : (U.map NdV.r)[k]? = some (NdV.r ⟨id', up', ro', ep', su', ma', ot', co', x', d', xs'⟩) := by rw [List.getElem?_map, hp2]; rfl
        rw [HU.out, h2] at h1
        exact (Option.some.inj h1).symm
      simp only [NdV.r, Prod.mk.injEq] at hh
      obtain ⟨rfl, rfl, rfl, rfl, rfl, rfl, rfl, rfl, hxx⟩ := hh
      obtain rfl : m = m' := by have h1 := congrArg List.length hxx; simp at h1; omega
      have HX : Hid (xs.map EkV.r = xs'.map EkV.r) := hxx
      have HL : Hid (xs.length = m) := hlen
      have hm1 : m ≤ 1048576 := by have := totK_len xs; omega
      clear hxx hlen hlen'
      clear hp1 hp2 hF hG
      have X0 := cell_regrown q0
      have Y0 := cell_regrown y0
      have X1 := cell_regrown q1
      have Y1 := cell_regrown y1
      have X2 := cell_regrown q2
      have Y2 := cell_regrown y2
      have X3 := cell_regrown q3
      have Y3 := cell_regrown y3
      have X4 := cell_regrown q4
      have Y4 := cell_regrown y4
      have X5 := cell_regrown q5
      have Y5 := cell_regrown y5
      have X6 := cell_regrown q6
      have Y6 := cell_regrown y6
      have X7 := cell_regrown q7
      have Y7 := cell_regrown y7
      have X8 := cell_regrown q8
      have Y8 := cell_regrown y8
      go_wp2_with fail
      refine wp_region_quiet_below (by kernel_rfl) (by kernel_rfl) ?_
      repeat (go_big_quiet_step ((go_at_call 60; exact calls_regrown (eqNd_any id up ro ep su ma ot co x x' m d d' xs xs' _ (hns.new (new_regrown _ _ _)) (hns'.new (new_regrown _ _ _)) HX.out HL.out (by omega)))))
      refine wpQuiet_nil ?_
      rintro w1 hn1
      replace hn1 := new_of_regrown hn1
      go_wp2
      go_roundw
      case rel => exact ⟨k + 1, by omega, by go_num, hnw.trans hn1⟩
      case measure => simp [intOf]; omega
    · go_wp2
      go_ret
      exact ⟨rfl, hnw⟩

set_option maxRecDepth 100000 in
theorem open_Nd_cells {H : Type} {enc : TypeId × Value → H} {W : World} {base fuel : Nat} {t1 : Nat → Bool} {t2 : Bool} {c0 c1 c2 c3 c4 c5 c6 c7 c8 : Value} {y : DataW H × List MemPlace}
    (hf' : DataW.trod enc Tryz.prog W base t1 t2 fuel 86 [c0, c1, c2, c3, c4, c5, c6, c7, c8] = some y) :
    ∃ v : NdV, [c0, c1, c2, c3, c4, c5, c6, c7, c8] = v.cs ∧ EkCame W v.A v.V ∧ v.V.length ≤ maxLen := by
  obtain ⟨ys, m, _, rfl, hl, hlen, hq⟩ := DataW.trod_struct Tryz.underlying86 hf'
  match ys, hlen with
  | [y0, y1, y2, y3, y4, y5, y6, y7, y8], _ =>
    have k0 := hq 0 _ rfl
    have k1 := hq 1 _ rfl
    have k2 := hq 2 _ rfl
    have k3 := hq 3 _ rfl
    have k4 := hq 4 _ rfl
    have k5 := hq 5 _ rfl
    have k6 := hq 6 _ rfl
    have k7 := hq 7 _ rfl
    have k8 := hq 8 _ rfl
    simp [Tryz.cEs, Tryz.cI9, Tryz.cBl] at k0 k1 k2 k3 k4 k5 k6 k7 k8
    obtain ⟨id, e0, -, w0⟩ := DataW.trod_int Tryz.underlying2 k0
    obtain ⟨up, e1, -⟩ := DataW.trod_bool Tryz.underlying4 k1
    obtain ⟨ro, e2, -, w2⟩ := DataW.trod_int Tryz.underlying2 k2
    obtain ⟨ep, e3, -, w3⟩ := DataW.trod_int Tryz.underlying2 k3
    obtain ⟨A, n, c, V, e4, hV, hlV, hmV⟩ := open_entries k4
    obtain ⟨su, e5, -, w5⟩ := DataW.trod_int Tryz.underlying2 k5
    obtain ⟨ma, e6, -, w6⟩ := DataW.trod_int Tryz.underlying2 k6
    obtain ⟨ot, e7, -, w7⟩ := DataW.trod_int Tryz.underlying2 k7
    obtain ⟨co, e8, -, w8⟩ := DataW.trod_int Tryz.underlying2 k8
    simp only [List.cons.injEq, and_true] at e0 e1 e2 e3 e4 e5 e6 e7 e8
    subst e0 e1 e2 e3 e4 e5 e6 e7 e8
    subst hlV
    exact ⟨⟨id, up, ro, ep, su, ma, ot, co, A, c, V⟩, rfl, hV, hmV⟩

set_option maxRecDepth 100000 in
theorem open_NdS {H : Type} {enc : TypeId × Value → H} {W : World} {base fuel : Nat} {t1 : Nat → Bool} {t2 : Bool} {cs : List Value} {y : DataW H × List MemPlace}
    (hf : DataW.trod enc Tryz.prog W base t1 t2 fuel 27 cs = some y) : ∃ a n c V, cs = [.slice a n c] ∧ NdCame W a V ∧ V.length = n ∧ n ≤ maxLen := by
  rcases open_slice Tryz.underlying27 hf with ⟨hcs, _⟩ | ⟨x, l, cc, m, k, D, Pl, hcs, _, hl, hm, hmm, _, hall⟩
  · exact ⟨none, 0, 0, [], hcs, (by intro i v hv; simp at hv), rfl, Nat.zero_le _⟩
  · have hlm : l ≤ m := by rw [hmm]; split <;> omega
    have each : ∀ i, i < l → ∃ v : NdV, (∀ j, j < 9 → W.cell? (x.add (i * 9 + j)) = v.cs[j]?) ∧ EkCame W v.A v.V ∧ v.V.length ≤ maxLen := by
      intro i hi
      obtain ⟨cs', h1, h2⟩ := hall i (by omega)
      rw [Tryz.cNd] at h1
      obtain ⟨_, hlen, hcell⟩ := World.cells?_some h1
      match cs', hlen with
      | [c0, c1, c2, c3, c4, c5, c6, c7, c8], _ =>
        obtain ⟨r, hr, hcm⟩ := open_Nd_cells h2
        refine ⟨r, fun j hj => ?_, hcm⟩
        have hc := hcell j (by omega)
        rw [add_add] at hc
        rw [hc, hr]
    refine ⟨some x, l, cc, (List.range l).map (fun i => if h : i < l then (each i h).choose else zNd), hcs, ?_, by simp, Nat.le_trans hl hm⟩
    obtain ⟨b, off, spot⟩ := x
    intro i q hq
    have hi : i < l := by
      have := (List.getElem?_eq_some_iff.1 hq).1
      simpa using this
    have hq' : q = (each i hi).choose := by
      rw [List.getElem?_map, List.getElem?_range hi] at hq
      simpa [hi] using hq.symm
    have hs := (each i hi).choose_spec
    rw [← hq'] at hs
    have hspot : spot = none := by
      obtain ⟨v, hr0, -⟩ := each 0 (by omega)
      have h2 : W.cell? (Addr.add ⟨b, off, spot⟩ (0 * 9 + 0)) = some (.int .i64 v.id) := hr0 0 (by omega)
      simpa [Addr.add] using World.cell?_spot h2
    subst hspot
    refine ⟨⟨b, off, rfl, fun j hj => ?_⟩, hs.2⟩
    have := hs.1 j hj
    rw [Addr.add_lit] at this
    rw [Nat.add_assoc]
    exact this

end Go.Proofs.YtlkhmnjghdbmoaaGreatDoor

namespace Go.Proofs.YtlkhmnjghdbmoaaGreatDoor
open Go.ChangeShapes Go.WideShapes Go.ChangeAt Go.RowKit Go.Deep Go.Sort
set_option linter.unusedVariables false
set_option linter.unusedSimpArgs false

/-- A wire in memory. -/
structure WiV where
  E : Int
  T : Int
  a : Option Addr
  b : Option Addr
  c : Nat
  d : Nat
  xs : List Int
  ys : List Int
def WiV.cs (v : WiV) : List Value := [.int .i64 v.E, .slice v.a v.xs.length v.c, .int .i64 v.T, .slice v.b v.ys.length v.d]
def WiV.r (v : WiV) : Int × Int × List Int × List Int := (v.E, v.T, v.xs, v.ys)
def WiV.tot (v : WiV) : Nat := v.xs.length + v.ys.length
def cellsWi (V : List WiV) : List Value := V.flatMap WiV.cs
def totWi : List WiV → Nat
  | [] => 0
  | v :: V => v.tot + 1 + totWi V
theorem totWi_len : ∀ V : List WiV, V.length ≤ totWi V
  | [] => Nat.le_refl _
  | v :: V => by have := totWi_len V; simp only [totWi, List.length_cons]; omega
theorem totWi_mem : ∀ (V : List WiV) (v : WiV), v ∈ V → v.tot ≤ totWi V
  | [], v, h => by simp at h
  | u :: V, v, h => by
    simp only [totWi]
    rcases List.mem_cons.1 h with rfl | h
    · omega
    · have := totWi_mem V v h; omega
theorem totWi_snoc (V : List WiV) (v : WiV) : totWi (V ++ [v]) = totWi V + v.tot + 1 := by
  induction V with
  | nil => simp [totWi]
  | cons f F ih => simp only [List.cons_append, totWi, ih]; omega
theorem take_snocWi {V : List WiV} {k : Nat} {f : WiV} (h : V[k]? = some f) : V.take (k + 1) = V.take k ++ [f] := by
  obtain ⟨hk, rfl⟩ := List.getElem?_eq_some_iff.1 h
  exact List.take_succ_eq_append_getElem hk
theorem cellsWi_len : ∀ U : List WiV, (cellsWi U).length = U.length * 4
  | [] => rfl
  | x :: U => by
    have ih := cellsWi_len U
    unfold cellsWi at ih ⊢
    rw [List.flatMap_cons, List.length_append, ih, List.length_cons]
    simp [WiV.cs]
    omega
theorem cellsWi_get : ∀ (U : List WiV) (i : Nat) (u : WiV), U[i]? = some u → ∀ j, j < 4 → (cellsWi U)[i * 4 + j]? = u.cs[j]?
  | [], i, u, h, _, _ => by simp at h
  | x :: U, 0, u, h, j, hj => by
    simp at h
    subst h
    unfold cellsWi
    rw [List.flatMap_cons, Nat.zero_mul, Nat.zero_add, List.getElem?_append_left (by simp [WiV.cs]; omega)]
  | x :: U, i + 1, u, h, j, hj => by
    have ih := cellsWi_get U i u (by simpa using h) j hj
    unfold cellsWi at ih ⊢
    rw [List.flatMap_cons, List.getElem?_append_right (by simp [WiV.cs]; omega), show (x.cs).length = 4 from rfl, show (i + 1) * 4 + j - 4 = i * 4 + j by omega, ih]

/-- The address leads to those that came in. -/
def WiCame (w : World) (A : Option Addr) (V : List WiV) : Prop :=
  ∀ i v, V[i]? = some v → (∃ b off, A = some ⟨b, off, none⟩ ∧ ∀ j, j < 4 → w.cell? ⟨b, off + i * 4 + j, none⟩ = v.cs[j]?) ∧ BsAt w v.a v.xs ∧ BsAt w v.b v.ys ∧ v.xs.length ≤ maxLen ∧ v.ys.length ≤ maxLen
theorem WiCame.new {w w' : World} {A : Option Addr} {V : List WiV} (h : WiCame w A V) (t : New w w') : WiCame w' A V := by
  intro i v hv
  obtain ⟨⟨b, off, ha, hc⟩, h1⟩ := h i v hv
  have h0 : w.cell? ⟨b, off + i * 4, none⟩ = some (.int .i64 v.E) := hc 0 (by omega)
  have hb' := t.block b (World.block_lt_of_cell? w _ h0) (fun f => f)
  exact ⟨⟨b, off, ha, fun j hj => (World.cell?_of_block hb').trans (hc j hj)⟩, ⟨h1.1.new t, h1.2.1.new t, h1.2.2⟩⟩
theorem WiCame.at {w : World} {A : Option Addr} {V : List WiV} (h : WiCame w A V) (i : Nat) (hi : i < V.length) :
    ∃ (b off : Nat) (E T : Int) (x x2 : Option Addr) (m d m2 d2 : Nat) (xs ys : List Int), A = some ⟨b, off, none⟩ ∧ V[i]? = some ⟨E, T, x, x2, d, d2, xs, ys⟩ ∧ xs.length = m ∧ ys.length = m2 ∧ BsAt w x xs ∧ BsAt w x2 ys ∧ m ≤ maxLen ∧ m2 ≤ maxLen ∧ w.cell? ⟨b, off + i * 4, none⟩ = some (.int .i64 E) ∧ w.cell? ⟨b, off + i * 4 + 1, none⟩ = some (.slice x m d) ∧ w.cell? ⟨b, off + i * 4 + 2, none⟩ = some (.int .i64 T) ∧ w.cell? ⟨b, off + i * 4 + 3, none⟩ = some (.slice x2 m2 d2) := by
  obtain ⟨⟨b, off, h1, h2⟩, h3⟩ := h i _ (List.getElem?_eq_getElem hi)
  exact ⟨b, off, _, _, _, _, _, _, _, _, _, _, h1, List.getElem?_eq_getElem hi, rfl, rfl, h3.1, h3.2.1, h3.2.2.1, h3.2.2.2, h2 0 (by omega), h2 1 (by omega), h2 2 (by omega), h2 3 (by omega)⟩

/-- They can be read there. -/
def WiAt (w : World) (A : Option Addr) (V : List WiV) : Prop :=
  ∀ i v, V[i]? = some v → (∃ g, A = some ⟨g, 0, none⟩ ∧ ∀ j, j < 4 → w.cell? ⟨g, i * 4 + j, none⟩ = v.cs[j]?) ∧ BsAt w v.a v.xs ∧ BsAt w v.b v.ys ∧ v.xs.length ≤ 1048576 ∧ v.ys.length ≤ 1048576
theorem WiAt.new {w w' : World} {A : Option Addr} {V : List WiV} (h : WiAt w A V) (t : New w w') : WiAt w' A V := by
  intro i v hv
  obtain ⟨⟨g, ha, hc⟩, h1⟩ := h i v hv
  have h0 : w.cell? ⟨g, i * 4, none⟩ = some (.int .i64 v.E) := hc 0 (by omega)
  have hb' := t.block g (World.block_lt_of_cell? w _ h0) (fun f => f)
  exact ⟨⟨g, ha, fun j hj => (World.cell?_of_block hb').trans (hc j hj)⟩, ⟨h1.1.new t, h1.2.1.new t, h1.2.2⟩⟩
theorem WiAt.at {w : World} {A : Option Addr} {V : List WiV} (h : WiAt w A V) (i : Nat) (hi : i < V.length) :
    ∃ (g : Nat) (E T : Int) (x x2 : Option Addr) (m d m2 d2 : Nat) (xs ys : List Int), A = some ⟨g, 0, none⟩ ∧ V[i]? = some ⟨E, T, x, x2, d, d2, xs, ys⟩ ∧ xs.length = m ∧ ys.length = m2 ∧ BsAt w x xs ∧ BsAt w x2 ys ∧ m ≤ 1048576 ∧ m2 ≤ 1048576 ∧ w.cell? ⟨g, i * 4, none⟩ = some (.int .i64 E) ∧ w.cell? ⟨g, i * 4 + 1, none⟩ = some (.slice x m d) ∧ w.cell? ⟨g, i * 4 + 2, none⟩ = some (.int .i64 T) ∧ w.cell? ⟨g, i * 4 + 3, none⟩ = some (.slice x2 m2 d2) := by
  obtain ⟨⟨g, h1, h2⟩, h3⟩ := h i _ (List.getElem?_eq_getElem hi)
  exact ⟨g, _, _, _, _, _, _, _, _, _, _, h1, List.getElem?_eq_getElem hi, rfl, rfl, h3.1, h3.2.1, h3.2.2.1, h3.2.2.2, h2 0 (by omega), h2 1 (by omega), h2 2 (by omega), h2 3 (by omega)⟩

set_option maxHeartbeats 3200000 in
theorem szWiS_gen (A : Option Addr) (n c : Nat) (V : List WiV) (K : Int) (w : World) (hK0 : 0 ≤ K) (hK1 : K ≤ 1048576) (h : WiCame w A V) (hn : V.length = n) (hm : n ≤ maxLen) :
    Calls Tryz.prog 12 #[.slice A n c, .int .i64 K] w fun e w' => (∃ z : Int, e = .returned (.int .i64 z) ∧ (z = -1 ∨ (0 ≤ z ∧ (totWi V : Int) + z = K))) ∧ New w w' := by
  have HN : Hid (V.length = n) := hn
  unfold maxLen at hm
  clear hn
  by_cases hbig : K < (n : Int)
  case pos =>
    go_enter Tryz.func12, Tryz.ntmps12
    go_wp2
    go_ret
    exact ⟨⟨_, rfl, .inl rfl⟩, New.refl _⟩
  have hm' : (n : Int) ≤ K := by omega
  clear hm hbig
  go_enter Tryz.func12, Tryz.ntmps12
  go_wp2
  go_loopw [1, 5] (fun t i wr => ∃ (k : Nat) (z : Int), k ≤ n ∧ 0 ≤ z ∧ z ≤ 1048576 ∧ t = .int .i64 z ∧ i = .int .i64 k ∧ New w wr ∧ (totWi (V.take k) : Int) + (n - k) + z = K) (fun _ i _ => n - (intOf i).toNat)
  case atStart => exact ⟨0, _, Nat.zero_le _, by omega, by omega, rfl, rfl, New.refl _, by simp [totWi]; omega⟩
  case round =>
    obtain ⟨k, z, hk, hz0, hz1, rfl, rfl, hnw, hall⟩ := hrel
    by_cases hlt : k < n
    · obtain ⟨b, off, E, T, x, x2, m, d, m2, d2, xs, ys, rfl, hv, hlen, hlen2, hns, hns2, hmx, hmx2, q0, q1, q2, q3⟩ := (h.new hnw).at k (by have := HN.out; omega)
      have HL : Hid (xs.length = m) := hlen
      have HL2 : Hid (ys.length = m2) := hlen2
      clear hlen hlen2
      have HA : Hid ((totWi (V.take (k + 1)) : Int) + (n - (k + 1)) + (z - (m + m2 : Nat)) = K) := by
        unfold Hid
        rw [take_snocWi hv, totWi_snoc]
        simp only [WiV.tot, HL.out, HL2.out]
        omega
      clear hv h hall
      go_wp2_with fail
      refine (szWi_gen E T x x2 m d m2 d2 z _ hz0 hz1 hmx hmx2).mono ?_
      rintro e w1 ⟨⟨y, rfl, hy⟩, hn1⟩
      clear q0 q1 q2 q3
      by_cases hy0 : y < 0
      · go_wp2
        go_ret
        exact ⟨⟨_, rfl, .inl rfl⟩, hnw.trans hn1⟩
      · have hy' : 0 ≤ y ∧ ((m + m2 : Nat) : Int) + y = z := by rcases hy with hy | hy; (exfalso; omega); exact hy
        clear hy
        go_wp2
        go_roundw
        case rel => exact ⟨k + 1, y, by omega, by omega, by omega, rfl, by go_num, hnw.trans hn1, by have := HA.out; push_cast at this ⊢; omega⟩
        case measure => simp [intOf]; omega
    · go_wp2
      go_ret
      refine ⟨⟨_, rfl, .inr ⟨hz0, ?_⟩⟩, hnw⟩
      rw [List.take_of_length_le (by have := HN.out; omega)] at hall
      omega

/-- What all zeros are. -/
def zWi : WiV := ⟨0, 0, none, none, 0, 0, [], []⟩
theorem madeWi (n : Nat) : (madeCells #[.int .i64 0, .slice none 0 0, .int .i64 0, .slice none 0 0] (n * 4)).toList = cellsWi (List.replicate n zWi) := by
  apply List.ext_getElem?
  intro k
  by_cases hk : k < n * 4
  · have h1 : (cellsWi (List.replicate n zWi))[k / 4 * 4 + k % 4]? = zWi.cs[k % 4]? := cellsWi_get _ (k / 4) zWi (by rw [List.getElem?_replicate]; simp; omega) (k % 4) (by omega)
    rw [show k / 4 * 4 + k % 4 = k by omega] at h1
    rw [h1]
    simp only [madeCells, Array.toList_map, Array.toList_range, List.getElem?_map, List.getElem?_range hk, Option.map_some]
    have h4 : k % 4 = 0 ∨ k % 4 = 1 ∨ k % 4 = 2 ∨ k % 4 = 3 := by omega
    rcases h4 with e | e | e | e <;> simp [e, WiV.cs, zWi]
  · rw [List.getElem?_eq_none (by simp [madeCells]; omega), List.getElem?_eq_none (by rw [cellsWi_len]; simp; omega)]
theorem set_fillWi (V : List WiV) (k n : Nat) (hn : V.length = k) (hk : k < n) (p : WiV) :
    (V ++ List.replicate (n - k) zWi).set k p = (V ++ [p]) ++ List.replicate (n - (k + 1)) zWi := by
  rw [List.set_append_right _ _ (by omega), hn, Nat.sub_self, show n - k = (n - (k + 1)) + 1 by omega, List.replicate_succ, List.set_cons_zero, List.append_assoc]
  rfl
theorem Tryz.infoWi : (Tryz.prog.info? 100).map (fun i => (i.zero, i.size, i.bytes)) = some (some (.agg #[.int .i64 0, .slice none 0 0, .int .i64 0, .slice none 0 0]), 4, 64) := by kernel_rfl
theorem cellsWi_set : ∀ (V : List WiV) (i : Nat) (v : WiV), ((((cellsWi V).set (i * 4) (.int .i64 v.E)).set (i * 4 + 1) (.slice v.a v.xs.length v.c)).set (i * 4 + 2) (.int .i64 v.T)).set (i * 4 + 3) (.slice v.b v.ys.length v.d) = cellsWi (V.set i v)
  | [], i, p => by simp [cellsWi]
  | q :: V, 0, p => by simp [cellsWi, WiV.cs]
  | q :: V, i + 1, p => by
    have ih := cellsWi_set V i p
    have e : ∀ (q : WiV) (V : List WiV), cellsWi (q :: V) = .int .i64 q.E :: .slice q.a q.xs.length q.c :: .int .i64 q.T :: .slice q.b q.ys.length q.d :: cellsWi V := fun _ _ => rfl
    rw [show (i + 1) * 4 = i * 4 + 4 by omega, e, show (q :: V).set (i + 1) p = q :: V.set i p from rfl, e, ← ih]
    simp only [Nat.add_assoc, Nat.reduceAdd, List.set_cons_succ]
theorem setWik (w : World) (B j : Nat) (v0 v1 v2 v3 : Value) : Turn (fun k => k = B) w ((((w.setCell ⟨B, j, none⟩ v0).setCell ⟨B, j + 1, none⟩ v1).setCell ⟨B, j + 2, none⟩ v2).setCell ⟨B, j + 3, none⟩ v3) :=
  ((((Turn.refl (fun k => k = B) w).set (p := ⟨B, j, none⟩) rfl v0).set (p := ⟨B, j + 1, none⟩) rfl v1).set (p := ⟨B, j + 2, none⟩) rfl v2).set (p := ⟨B, j + 3, none⟩) rfl v3
/-- The block g is a row that a call has made. -/
def RwWi (w : World) (g n c : Nat) (V : List WiV) : Prop := w.ownsRow 0 100 4 (.slice (some ⟨g, 0, none⟩) n c) n (cellsWi V)
theorem RwWi.len {w : World} {g n c : Nat} {V : List WiV} (h : RwWi w g n c V) : V.length = n := by
  have := h.1
  rw [cellsWi_len] at this
  omega
theorem RwWi.lt {w : World} {g n c : Nat} {V : List WiV} (h : RwWi w g n c V) : g < w.heap.size := (World.ownsRow.lt h g rfl).2
theorem RwWi.new {w w' : World} {g n c : Nat} {V : List WiV} (h : RwWi w g n c V) (t : New w w') : RwWi w' g n c V := row9_new h t
theorem RwWi.put {w : World} {g n c : Nat} {V : List WiV} (h : RwWi w g n c V) (i : Nat) (v : WiV) : RwWi ((((w.setCell ⟨g, i * 4, none⟩ (.int .i64 v.E)).setCell ⟨g, i * 4 + 1, none⟩ (.slice v.a v.xs.length v.c)).setCell ⟨g, i * 4 + 2, none⟩ (.int .i64 v.T)).setCell ⟨g, i * 4 + 3, none⟩ (.slice v.b v.ys.length v.d)) g n c (V.set i v) := by
  have h1 := (World.ownsRow.stored h (i * 4) (.int .i64 v.E)).1
  have h2 := (World.ownsRow.stored h1 (i * 4 + 1) (.slice v.a v.xs.length v.c)).1
  have h3 := (World.ownsRow.stored h2 (i * 4 + 2) (.int .i64 v.T)).1
  have h4 := (World.ownsRow.stored h3 (i * 4 + 3) (.slice v.b v.ys.length v.d)).1
  unfold RwWi
  rw [← cellsWi_set V i v]
  exact h4
theorem RwWi.cell {w : World} {g n c : Nat} {V : List WiV} (h : RwWi w g n c V) (j : Nat) (hj : j < n * 4) : ∃ v, w.cell? ⟨g, j, none⟩ = some v := by
  have hl := cellsWi_len V
  have := h.len
  exact ⟨_, (World.ownsRow.cellAt h j hj).trans (List.getElem?_eq_getElem (by omega))⟩

/-- What belongs to one of them is the call's own, from lo on. -/
def WiV.own (w : World) (lo : Nat) (v : WiV) : Prop := OvB w lo (.slice v.a v.xs.length v.c) v.xs ∧ OvB w lo (.slice v.b v.ys.length v.d) v.ys ∧ ((∀ z ∈ v.xs, By z) ∧ ∀ z ∈ v.ys, By z) ∧ v.xs.length ≤ 1048576 ∧ v.ys.length ≤ 1048576
theorem WiV.own.turn {w w' : World} {lo : Nat} {v : WiV} {S : Nat → Prop} (h : v.own w lo) (t : Turn S w w') (hS : ∀ k, lo ≤ k → k < w.heap.size → ¬ S k) : v.own w' lo := by
  exact ⟨h.1.turn t hS, h.2.1.turn t hS, h.2.2⟩
theorem WiV.own.new {w w' : World} {lo : Nat} {v : WiV} (h : v.own w lo) (t : New w w') : v.own w' lo := h.turn t (fun _ _ _ f => f)
theorem WiV.own.low {w : World} {lo lo' : Nat} {v : WiV} (h : v.own w lo) (hl : lo' ≤ lo) : v.own w lo' := by
  exact ⟨h.1.low hl, h.2.1.low hl, h.2.2⟩
/-- The row and what belongs to it are the call's own, from lo on. -/
structure OwWi (w : World) (lo g n : Nat) (V : List WiV) : Prop where
  row : RwWi w g n n V
  glo : lo ≤ g
  own : ∀ v ∈ V, v.own w lo
theorem OwWi.turn {w w' : World} {lo g n : Nat} {V : List WiV} {S : Nat → Prop} (h : OwWi w lo g n V) (t : Turn S w w') (hS : ∀ k, lo ≤ k → k < w.heap.size → ¬ S k) : OwWi w' lo g n V :=
  ⟨row9_turn h.row t (by intro k hk; simp [Value.ownBlock] at hk; subst hk; exact hS _ h.glo h.row.lt), h.glo, fun v hv => (h.own v hv).turn t hS⟩
theorem OwWi.new {w w' : World} {lo g n : Nat} {V : List WiV} (h : OwWi w lo g n V) (t : New w w') : OwWi w' lo g n V := h.turn t (fun _ _ _ f => f)
theorem OwWi.at' {w : World} {lo g n : Nat} {V : List WiV} (h : OwWi w lo g n V) : WiAt w (some ⟨g, 0, none⟩) V := by
  intro i v hv
  have hl := h.row.len
  have hi : i < V.length := (List.getElem?_eq_some_iff.1 hv).1
  refine ⟨⟨g, rfl, fun j hj => ?_⟩, ?_⟩
  · rw [World.ownsRow.cellAt h.row (i * 4 + j) (by omega)]
    exact cellsWi_get V i v hv j hj
  · have h1 := h.own v (List.mem_of_getElem? hv)
    obtain ⟨a1, a2, ⟨a3, a4⟩, a5, a6⟩ := h1
    exact ⟨a1.bsS a3, a2.bsS a4, a5, a6⟩

set_option maxHeartbeats 6400000 in
theorem toWiS_any (A : Option Addr) (n c : Nat) (V : List WiV) (w : World) (h : WiCame w A V) (hn : V.length = n) (hm : totWi V ≤ 1048576) :
    Calls Tryz.prog 19 #[.slice A n c] w fun e w' => ∃ g V', e = .returned (.slice (some ⟨g, 0, none⟩) n n) ∧ V'.map WiV.r = V.map WiV.r ∧ OwWi w' w.heap.size g n V' ∧ New w w' := by
  have HN : Hid (V.length = n) := hn
  have hn1 : n ≤ 1048576 := by have := totWi_len V; omega
  have HM : Hid (∀ v ∈ V, v.tot ≤ 1048576) := fun v hv => Nat.le_trans (totWi_mem V v hv) hm
  clear hn hm
  obtain ⟨i0, hi, hz0, hz1, hz2⟩ := info_parts Tryz.infoWi
  go_enter Tryz.func19, Tryz.ntmps19
  go_wp2_with (at_make; refine wpList_make_full _ rfl _ _ 42 rfl w.heap.size 100 i0 (.agg #[.int .i64 0, .slice none 0 0, .int .i64 0, .slice none 0 0]) 4 Tryz.underlying42 hi hz0 hz1 _ _ _ _ n rfl rfl rfl rfl ?b2 ?b3 (Nat.le_refl _) ?_)
  case b2 => rw [hz2]; omega
  case b3 => unfold maxLen; omega
  intro w0 hown0 hgrow0
  have hown : RwWi w0 w.heap.size n n ([] ++ List.replicate (n - 0) zWi) := by
    have := own_base hown0
    have e8 := madeWi n
    simp only [RwWi, List.nil_append, Nat.sub_zero]
    rw [← e8]
    exact this
  have hnew := New.of_grown hgrow0
  clear hown0 hgrow0
  go_wp2
  go_loopw [4] (fun i wr => ∃ (k : Nat) (V' : List WiV), k ≤ n ∧ i = .int .i64 k ∧ V'.length = k ∧ V'.map WiV.r = (V.take k).map WiV.r ∧ New w wr ∧ RwWi wr w.heap.size n n (V' ++ List.replicate (n - k) zWi) ∧ ∀ v ∈ V', v.own wr (w.heap.size + 1)) (fun i _ => n - (intOf i).toNat)
  case atStart => exact ⟨0, [], Nat.zero_le _, rfl, rfl, rfl, hnew, hown, by simp⟩
  case round =>
    obtain ⟨k, V', hk, rfl, hl', hmap, hnw, how, hpa⟩ := hrel
    have HL' : Hid (V'.length = k) := hl'
    clear hl'
    by_cases hlt : k < n
    · obtain ⟨b, off, E, T, x, x2, m, d, m2, d2, xs, ys, rfl, hv, hlen, hlen2, hns, hns2, hmx, hmx2, q0, q1, q2, q3⟩ := (h.new hnw).at k (by have := HN.out; omega)
      have HL : Hid (xs.length = m) := hlen
      have HL2 : Hid (ys.length = m2) := hlen2
      clear hlen hlen2
      have hmm := HM.out _ (List.mem_of_getElem? hv)
      simp only [WiV.tot, HL.out, HL2.out] at hmm
      have hbd : Hid (∀ z ∈ xs, By z) := hns.lt
      have hbd2 : Hid (∀ z ∈ ys, By z) := hns2.lt
      have HMp : Hid (∀ u : WiV, u.r = WiV.r ⟨E, T, x, x2, d, d2, xs, ys⟩ → (V' ++ [u]).map WiV.r = (V.take (k + 1)).map WiV.r) := by
        intro u hu
        obtain ⟨hk', e⟩ := List.getElem?_eq_some_iff.1 hv
        rw [List.take_succ_eq_append_getElem hk', e, List.map_append, List.map_append, hmap]
        simp [hu]
      have hgl : w.heap.size < wr.heap.size := how.lt
      clear hv hmap
      go_wp2_with fail
      refine (toW_any E T x x2 m d m2 d2 xs ys _ hns hns2 HL.out HL2.out (by omega) (by omega)).mono ?_
      rintro e w1 ⟨g, g2, rfl, hg, hg2, ho, ho2, hn1'⟩
      have how1 := how.new hn1'
      have hput := how1.put k (WiV.mk E T (some (Addr.mk g 0 none)) (some (Addr.mk g2 0 none)) m m2 xs ys)
      rw [set_fillWi V' k n HL'.out hlt] at hput
      simp only [HL.out, HL2.out] at hput
      have HPU : Hid _ := hput
      have hn2 := hnw.trans hn1'
      have HPA : Hid (∀ v ∈ V' ++ [(WiV.mk E T (some (Addr.mk g 0 none)) (some (Addr.mk g2 0 none)) m m2 xs ys)], v.own w1 (w.heap.size + 1)) := by
        intro v hv
        rcases List.mem_append.1 hv with hv | hv
        · exact (hpa v hv).new hn1'
        · obtain rfl := List.mem_singleton.1 hv
          unfold WiV.own
          simp only [HL.out, HL2.out]
          exact ⟨(OvB.ofK ho).low (by omega), (OvB.ofK ho2).low (by omega), ⟨hbd.out, hbd2.out⟩, by omega, by omega⟩
      have HR : Hid (WiV.r (WiV.mk E T (some (Addr.mk g 0 none)) (some (Addr.mk g2 0 none)) m m2 xs ys) = WiV.r ⟨E, T, x, x2, d, d2, xs, ys⟩) := by
        rfl
      have f0 := fun j => World.ownsRow.frozenAt how1 j
      obtain ⟨v0, c0⟩ := how1.cell (k * 4) (by omega)
      obtain ⟨v1, c1⟩ := how1.cell (k * 4 + 1) (by omega)
      obtain ⟨v2, c2⟩ := how1.cell (k * 4 + 2) (by omega)
      obtain ⟨v3, c3⟩ := how1.cell (k * 4 + 3) (by omega)
      clear h how how1 q0 q1 q2 q3 hnw hpa hput hns hns2 ho ho2
      go_wp2
      go_roundw
      case rel =>
        have tt : Turn (fun j => j = w.heap.size) w1 ((((w1.setCell ⟨w.heap.size, k * 4, none⟩ (.int .i64 E)).setCell ⟨w.heap.size, k * 4 + 1, none⟩ (.slice (some ⟨g, 0, none⟩) m m)).setCell ⟨w.heap.size, k * 4 + 2, none⟩ (.int .i64 T)).setCell ⟨w.heap.size, k * 4 + 3, none⟩ (.slice (some ⟨g2, 0, none⟩) m2 m2)) := setWik w1 w.heap.size (k * 4) _ _ _ _
        refine ⟨k + 1, V' ++ [(WiV.mk E T (some (Addr.mk g 0 none)) (some (Addr.mk g2 0 none)) m m2 xs ys)], by omega, by go_num, by simp [HL'.out], HMp.out _ HR.out, ?_, HPU.out, ?_⟩
        · exact hn2.before tt (by intro i hi e; omega)
        · exact fun v hv => (HPA.out v hv).turn tt (by intro j h1 h2 e; omega)
      case measure => simp [intOf]; omega
    · go_wp2
      go_ret
      have hkn : k = n := by omega
      subst hkn
      rw [List.take_of_length_le (by have := HN.out; omega)] at hmap
      simp only [Nat.sub_self, List.replicate_zero, List.append_nil] at how
      exact ⟨_, V', rfl, hmap, ⟨how, Nat.le_refl _, fun v hv => (hpa v hv).low (by omega)⟩, hnw⟩

set_option maxHeartbeats 3200000 in
theorem eqWiS_any (A B : Option Addr) (n c d : Nat) (V U : List WiV) (w : World) (hF : WiAt w A V) (hG : WiAt w B U) (hVU : V.map WiV.r = U.map WiV.r) (hn : V.length = n) (hm : n ≤ 2097152) :
    Calls Tryz.prog 29 #[.slice A n c, .slice B n d] w fun e w' => e = .returned (.bool true) ∧ New w w' := by
  have hnn : ((n : Int) != (n : Int)) = false := by simp
  have HN : Hid (V.length = n) := hn
  have HU : Hid (V.map WiV.r = U.map WiV.r) := hVU
  have HUN : Hid (U.length = n) := by
    have := congrArg List.length hVU
    simp at this
    show U.length = n
    omega
  clear hn hVU
  go_enter Tryz.func29, Tryz.ntmps29
  go_wp2
  go_loopw [5] (fun i wr => ∃ k : Nat, k ≤ n ∧ i = .int .i64 k ∧ New w wr) (fun i _ => n - (intOf i).toNat)
  case atStart => exact ⟨0, Nat.zero_le _, rfl, New.refl _⟩
  case round =>
    obtain ⟨k, hk, rfl, hnw⟩ := hrel
    by_cases hlt : k < n
    · obtain ⟨g1, E, T, x, x2, m, d, m2, d2, xs, ys, rfl, hp1, hlen, hlen2, hns, hns2, hmx, hmx2, q0, q1, q2, q3⟩ := (hF.new hnw).at k (by have := HN.out; omega)
      obtain ⟨g2, E', T', x', x2', m', d', m2', d2', xs', ys', rfl, hp2, hlen', hlen2', hns', hns2', hmx', hmx2', y0, y1, y2, y3⟩ := (hG.new hnw).at k (by have := HUN.out; omega)
      have hh : WiV.r ⟨E, T, x, x2, d, d2, xs, ys⟩ = WiV.r ⟨E', T', x', x2', d', d2', xs', ys'⟩ := by
        have h1 : (V.map WiV.r)[k]? = some (WiV.r ⟨E, T, x, x2, d, d2, xs, ys⟩) := by rw [List.getElem?_map, hp1]; rfl
        have h2 : (U.map WiV.r)[k]? = some (WiV.r ⟨E', T', x', x2', d', d2', xs', ys'⟩) := by rw [List.getElem?_map, hp2]; rfl
        rw [HU.out, h2] at h1
        exact (Option.some.inj h1).symm
      simp only [WiV.r, Prod.mk.injEq] at hh
      obtain ⟨rfl, rfl, rfl, rfl⟩ := hh
      obtain rfl : m = m' := hlen.symm.trans hlen'
      obtain rfl : m2 = m2' := hlen2.symm.trans hlen2'
      have HL : Hid (xs.length = m) := hlen
      have HL2 : Hid (ys.length = m2) := hlen2
      clear hlen hlen' hlen2 hlen2'
      clear hp1 hp2 hF hG
      have X0 := cell_regrown q0
      have Y0 := cell_regrown y0
      have X1 := cell_regrown q1
      have Y1 := cell_regrown y1
      have X2 := cell_regrown q2
      have Y2 := cell_regrown y2
      have X3 := cell_regrown q3
      have Y3 := cell_regrown y3
      go_wp2_with fail
      refine wp_region_quiet_below (by kernel_rfl) (by kernel_rfl) ?_
      repeat (go_big_quiet_step ((go_at_call 61; exact calls_regrown (eqW_any E T x x2 x' x2' m d m2 d2 d' d2' xs ys _ (hns.new (new_regrown _ _ _)) (hns2.new (new_regrown _ _ _)) (hns'.new (new_regrown _ _ _)) (hns2'.new (new_regrown _ _ _)) HL.out HL2.out (by omega) (by omega)))))
      refine wpQuiet_nil ?_
      rintro w1 hn1
      replace hn1 := new_of_regrown hn1
      go_wp2
      go_roundw
      case rel => exact ⟨k + 1, by omega, by go_num, hnw.trans hn1⟩
      case measure => simp [intOf]; omega
    · go_wp2
      go_ret
      exact ⟨rfl, hnw⟩

set_option maxRecDepth 100000 in
theorem open_Wi_cells {H : Type} {enc : TypeId × Value → H} {W : World} {base fuel : Nat} {t1 : Nat → Bool} {t2 : Bool} {c0 c1 c2 c3 : Value} {y : DataW H × List MemPlace}
    (hf' : DataW.trod enc Tryz.prog W base t1 t2 fuel 89 [c0, c1, c2, c3] = some y) :
    ∃ v : WiV, [c0, c1, c2, c3] = v.cs ∧ BsAt W v.a v.xs ∧ BsAt W v.b v.ys ∧ v.xs.length ≤ maxLen ∧ v.ys.length ≤ maxLen := by
  obtain ⟨ys, m, _, rfl, hl, hlen, hq⟩ := DataW.trod_struct Tryz.underlying89 hf'
  match ys, hlen with
  | [y0, y1, y2, y3], _ =>
    have k0 := hq 0 _ rfl
    have k1 := hq 1 _ rfl
    have k2 := hq 2 _ rfl
    have k3 := hq 3 _ rfl
    simp [Tryz.cB11, Tryz.cI11] at k0 k1 k2 k3
    obtain ⟨E, e0, -, wE⟩ := DataW.trod_int Tryz.underlying2 k0
    simp only [List.cons.injEq, and_true] at e0
    subst e0
    obtain ⟨T, e2, -, wT⟩ := DataW.trod_int Tryz.underlying2 k2
    simp only [List.cons.injEq, and_true] at e2
    subst e2
    have hb0 : ∃ (a : Option Addr) (n c : Nat), c1 = .slice a n c := by
      rcases open_ints Tryz.underlying66 Tryz.underlying5 (by kernel_rfl) k1 with ⟨hcs, _⟩ | ⟨x, l, c, zs, hcs, _⟩
      · simp only [List.cons.injEq, and_true] at hcs
        exact ⟨none, 0, 0, hcs⟩
      · simp only [List.cons.injEq, and_true] at hcs
        exact ⟨some x, l, c, hcs⟩
    have hb1 : ∃ (a : Option Addr) (n c : Nat), c3 = .slice a n c := by
      rcases open_ints Tryz.underlying66 Tryz.underlying5 (by kernel_rfl) k3 with ⟨hcs, _⟩ | ⟨x, l, c, zs, hcs, _⟩
      · simp only [List.cons.injEq, and_true] at hcs
        exact ⟨none, 0, 0, hcs⟩
      · simp only [List.cons.injEq, and_true] at hcs
        exact ⟨some x, l, c, hcs⟩
    obtain ⟨a, n, c, rfl⟩ := hb0
    obtain ⟨b, m', d', rfl⟩ := hb1
    obtain ⟨zs, h1, h2, h3, h4⟩ := open_bytes (enc := enc) (W := W) (base := base) (t1 := t1) (t2 := t2) (a := a) (n := n) (c := c) (d := y1.1) (p := y1.2) ⟨m, by simpa [Value.cells] using k1⟩
    obtain ⟨us, i1, i2, i3, i4⟩ := open_bytes (enc := enc) (W := W) (base := base) (t1 := t1) (t2 := t2) (a := b) (n := m') (c := d') (d := y3.1) (p := y3.2) ⟨m, by simpa [Value.cells] using k3⟩
    subst h2 i2
    exact ⟨⟨E, T, a, b, c, d', zs, us⟩, rfl, h1, i1, h4, i4⟩

set_option maxRecDepth 100000 in
theorem open_WiS {H : Type} {enc : TypeId × Value → H} {W : World} {base fuel : Nat} {t1 : Nat → Bool} {t2 : Bool} {cs : List Value} {y : DataW H × List MemPlace}
    (hf : DataW.trod enc Tryz.prog W base t1 t2 fuel 28 cs = some y) : ∃ a n c V, cs = [.slice a n c] ∧ WiCame W a V ∧ V.length = n ∧ n ≤ maxLen := by
  rcases open_slice Tryz.underlying28 hf with ⟨hcs, _⟩ | ⟨x, l, cc, m, k, D, Pl, hcs, _, hl, hm, hmm, _, hall⟩
  · exact ⟨none, 0, 0, [], hcs, (by intro i v hv; simp at hv), rfl, Nat.zero_le _⟩
  · have hlm : l ≤ m := by rw [hmm]; split <;> omega
    have each : ∀ i, i < l → ∃ v : WiV, (∀ j, j < 4 → W.cell? (x.add (i * 4 + j)) = v.cs[j]?) ∧ BsAt W v.a v.xs ∧ BsAt W v.b v.ys ∧ v.xs.length ≤ maxLen ∧ v.ys.length ≤ maxLen := by
      intro i hi
      obtain ⟨cs', h1, h2⟩ := hall i (by omega)
      rw [Tryz.cW11] at h1
      obtain ⟨_, hlen, hcell⟩ := World.cells?_some h1
      match cs', hlen with
      | [c0, c1, c2, c3], _ =>
        obtain ⟨r, hr, hcm⟩ := open_Wi_cells h2
        refine ⟨r, fun j hj => ?_, hcm⟩
        have hc := hcell j (by omega)
        rw [add_add] at hc
        rw [hc, hr]
    refine ⟨some x, l, cc, (List.range l).map (fun i => if h : i < l then (each i h).choose else zWi), hcs, ?_, by simp, Nat.le_trans hl hm⟩
    obtain ⟨b, off, spot⟩ := x
    intro i q hq
    have hi : i < l := by
      have := (List.getElem?_eq_some_iff.1 hq).1
      simpa using this
    have hq' : q = (each i hi).choose := by
      rw [List.getElem?_map, List.getElem?_range hi] at hq
      simpa [hi] using hq.symm
    have hs := (each i hi).choose_spec
    rw [← hq'] at hs
    have hspot : spot = none := by
      obtain ⟨v, hr0, -⟩ := each 0 (by omega)
      have h2 : W.cell? (Addr.add ⟨b, off, spot⟩ (0 * 4 + 0)) = some (.int .i64 v.E) := hr0 0 (by omega)
      simpa [Addr.add] using World.cell?_spot h2
    subst hspot
    refine ⟨⟨b, off, rfl, fun j hj => ?_⟩, hs.2⟩
    have := hs.1 j hj
    rw [Addr.add_lit] at this
    rw [Nat.add_assoc]
    exact this

end Go.Proofs.YtlkhmnjghdbmoaaGreatDoor
