/- Lemmas and contracts of one law. -/
import Derived.Test.YtdbnmkffinhdjaaGreatLV3
import Derived.Deep.SlicePairs
import Derived.Test.YtdbnmkffinhdjaaGreatLV2
namespace Go.Proofs.YtdbnmkffinhdjaaGreat
open Go.ChangeShapes Go.WideShapes Go.ChangeAt Go.RowKit Go.Deep Go.Sort
set_option linter.unusedVariables false
set_option linter.unusedSimpArgs false
set_option maxHeartbeats 25600000

/-- The address leads to the entries that came in. -/
def EkCame (w : World) (A : Option Addr) (V : List EkV) : Prop :=
  ∀ i v, V[i]? = some v → (∃ b off, A = some ⟨b, off, none⟩ ∧ ∀ j, j < 4 → w.cell? ⟨b, off + i * 4 + j, none⟩ = v.cs[j]?) ∧ BsAt w v.a v.r.xs ∧ v.r.xs.length ≤ maxLen
theorem EkCame.new {w w' : World} {A : Option Addr} {V : List EkV} (h : EkCame w A V) (t : New w w') : EkCame w' A V := by
  intro i v hv
  obtain ⟨⟨b, off, ha, hc⟩, h1, h2⟩ := h i v hv
  have h0 : w.cell? ⟨b, off + i * 4, none⟩ = some (.int .i64 v.r.ep) := hc 0 (by omega)
  have hb' := t.block b (World.block_lt_of_cell? w _ h0) (fun f => f)
  exact ⟨⟨b, off, ha, fun j hj => (World.cell?_of_block hb').trans (hc j hj)⟩, h1.new t, h2⟩
theorem EkCame.at {w : World} {A : Option Addr} {V : List EkV} (h : EkCame w A V) (i : Nat) (hi : i < V.length) :
    ∃ (b off : Nat) (ep ki pe : Int) (x : Option Addr) (n c : Nat) (xs : List Int), A = some ⟨b, off, none⟩ ∧ V[i]? = some ⟨⟨ep, ki, pe, xs⟩, x, c⟩ ∧ xs.length = n ∧ BsAt w x xs ∧ n ≤ maxLen ∧ w.cell? ⟨b, off + i * 4, none⟩ = some (.int .i64 ep) ∧ w.cell? ⟨b, off + i * 4 + 1, none⟩ = some (.int .i64 ki) ∧ w.cell? ⟨b, off + i * 4 + 2, none⟩ = some (.int .i64 pe) ∧ w.cell? ⟨b, off + i * 4 + 3, none⟩ = some (.slice x n c) := by
  obtain ⟨⟨b, off, h1, h2⟩, h3, h4⟩ := h i _ (List.getElem?_eq_getElem hi)
  exact ⟨b, off, _, _, _, _, _, _, _, h1, List.getElem?_eq_getElem hi, rfl, h3, h4, h2 0 (by omega), h2 1 (by omega), h2 2 (by omega), h2 3 (by omega)⟩

theorem szEk_okZ (ep ki pe : Int) (x : Option Addr) (n c : Nat) (k : Int) (w : World) (h0 : 0 ≤ k) (hk : k ≤ 1048576) (h : (n : Int) ≤ k) : Calls Tryz.prog 59 #[.agg #[.int .i64 ep, .int .i64 ki, .int .i64 pe, .slice x n c], .int .i64 k] w fun e w' => e = .returned (.int .i64 (k - n)) ∧ New w w' := by
  obtain ⟨K, rfl⟩ : ∃ K : Nat, k = K := ⟨k.toNat, by omega⟩
  exact szEntry_ok ep ki pe x n c K w (by omega) (by omega)

theorem szEk_bigZ (ep ki pe : Int) (x : Option Addr) (n c : Nat) (k : Int) (w : World) (h0 : 0 ≤ k) (hk : k ≤ 1048576) (hm : n ≤ maxLen) (h : k < (n : Int)) : Calls Tryz.prog 59 #[.agg #[.int .i64 ep, .int .i64 ki, .int .i64 pe, .slice x n c], .int .i64 k] w fun e w' => e = .returned (.int .i64 (-1)) ∧ New w w' := by
  obtain ⟨K, rfl⟩ : ∃ K : Nat, k = K := ⟨k.toNat, by omega⟩
  exact szEntry_big ep ki pe x n c K w (by omega) hm (by omega)

/-- The entry of zeros. -/
def ek0 : EkV := ⟨⟨0, 0, 0, []⟩, none, 0⟩
theorem made_ek (n : Nat) : (madeCells #[.int .i64 0, .int .i64 0, .int .i64 0, .slice none 0 0] (n * 4)).toList = cellsK (List.replicate n ek0) := by
  apply List.ext_getElem?
  intro k
  by_cases hk : k < n * 4
  · have h1 : (cellsK (List.replicate n ek0))[k / 4 * 4 + k % 4]? = ek0.cs[k % 4]? := cellsK_get _ (k / 4) ek0 (by rw [List.getElem?_replicate]; simp; omega) (k % 4) (by omega)
    rw [show k / 4 * 4 + k % 4 = k by omega] at h1
    rw [h1]
    simp only [madeCells, Array.toList_map, Array.toList_range, List.getElem?_map, List.getElem?_range hk, Option.map_some]
    have h4 : k % 4 = 0 ∨ k % 4 = 1 ∨ k % 4 = 2 ∨ k % 4 = 3 := by omega
    rcases h4 with e | e | e | e <;> simp [e, EkV.cs, ek0]
  · rw [List.getElem?_eq_none (by simp [madeCells]; omega), List.getElem?_eq_none (by rw [cellsK_len]; simp; omega)]
theorem set_fillK (V : List EkV) (k n : Nat) (hn : V.length = k) (hk : k < n) (p : EkV) :
    (V ++ List.replicate (n - k) ek0).set k p = (V ++ [p]) ++ List.replicate (n - (k + 1)) ek0 := by
  rw [List.set_append_right _ _ (by omega), hn, Nat.sub_self, show n - k = (n - (k + 1)) + 1 by omega, List.replicate_succ, List.set_cons_zero, List.append_assoc]
  rfl
theorem Tryz.infoEk : (Tryz.prog.info? 118).map (fun i => (i.zero, i.size, i.bytes)) = some (some (.agg #[.int .i64 0, .int .i64 0, .int .i64 0, .slice none 0 0]), 4, 48) := by kernel_rfl
theorem cellsK_set4 : ∀ (V : List EkV) (i : Nat) (v : EkV), ((((cellsK V).set (i * 4) (.int .i64 v.r.ep)).set (i * 4 + 1) (.int .i64 v.r.ki)).set (i * 4 + 2) (.int .i64 v.r.pe)).set (i * 4 + 3) (.slice v.a v.r.xs.length v.c) = cellsK (V.set i v)
  | [], i, p => by simp [cellsK]
  | q :: V, 0, p => by simp [cellsK, EkV.cs]
  | q :: V, i + 1, p => by
    have ih := cellsK_set4 V i p
    have e : ∀ (q : EkV) (V : List EkV), cellsK (q :: V) = .int .i64 q.r.ep :: .int .i64 q.r.ki :: .int .i64 q.r.pe :: .slice q.a q.r.xs.length q.c :: cellsK V := fun _ _ => rfl
    rw [show (i + 1) * 4 = i * 4 + 4 by omega, e, show (q :: V).set (i + 1) p = q :: V.set i p from rfl, e, ← ih]
    simp only [Nat.add_assoc, Nat.reduceAdd, List.set_cons_succ]
theorem set4k (w : World) (B j : Nat) (v0 v1 v2 v3 : Value) : Turn (fun k => k = B) w ((((w.setCell ⟨B, j, none⟩ v0).setCell ⟨B, j + 1, none⟩ v1).setCell ⟨B, j + 2, none⟩ v2).setCell ⟨B, j + 3, none⟩ v3) :=
  ((((Turn.refl (fun k => k = B) w).set (p := ⟨B, j, none⟩) rfl v0).set (p := ⟨B, j + 1, none⟩) rfl v1).set (p := ⟨B, j + 2, none⟩) rfl v2).set (p := ⟨B, j + 3, none⟩) rfl v3
/-- The block g is a row of entries that a call has made. -/
def RwK (w : World) (g n c : Nat) (V : List EkV) : Prop := w.ownsRow 0 118 4 (.slice (some ⟨g, 0, none⟩) n c) n (cellsK V)
theorem RwK.len {w : World} {g n c : Nat} {V : List EkV} (h : RwK w g n c V) : V.length = n := by
  have := h.1
  rw [cellsK_len] at this
  omega
theorem RwK.lt {w : World} {g n c : Nat} {V : List EkV} (h : RwK w g n c V) : g < w.heap.size := (World.ownsRow.lt h g rfl).2
theorem RwK.new {w w' : World} {g n c : Nat} {V : List EkV} (h : RwK w g n c V) (t : New w w') : RwK w' g n c V := row9_new h t
theorem RwK.put {w : World} {g n c : Nat} {V : List EkV} (h : RwK w g n c V) (i : Nat) (v : EkV) : RwK ((((w.setCell ⟨g, i * 4, none⟩ (.int .i64 v.r.ep)).setCell ⟨g, i * 4 + 1, none⟩ (.int .i64 v.r.ki)).setCell ⟨g, i * 4 + 2, none⟩ (.int .i64 v.r.pe)).setCell ⟨g, i * 4 + 3, none⟩ (.slice v.a v.r.xs.length v.c)) g n c (V.set i v) := by
  have h1 := (World.ownsRow.stored h (i * 4) (.int .i64 v.r.ep)).1
  have h2 := (World.ownsRow.stored h1 (i * 4 + 1) (.int .i64 v.r.ki)).1
  have h3 := (World.ownsRow.stored h2 (i * 4 + 2) (.int .i64 v.r.pe)).1
  have h4 := (World.ownsRow.stored h3 (i * 4 + 3) (.slice v.a v.r.xs.length v.c)).1
  unfold RwK
  rw [← cellsK_set4 V i v]
  exact h4
theorem RwK.cell {w : World} {g n c : Nat} {V : List EkV} (h : RwK w g n c V) (j : Nat) (hj : j < n * 4) : ∃ v, w.cell? ⟨g, j, none⟩ = some v := by
  have hl := cellsK_len V
  have := h.len
  exact ⟨_, (World.ownsRow.cellAt h j hj).trans (List.getElem?_eq_getElem (by omega))⟩
theorem rowK_of {w : World} {lo g n c : Nat} {V : List EkV} (h : RwK w g n c V) (hl : lo ≤ g) : w.ownsRow lo 118 4 (.slice (some ⟨g, 0, none⟩) n c) V.length (cellsK V) := by
  have hn := h.len
  subst hn
  refine ⟨h.1, ?_⟩
  rcases h.2 with h' | ⟨g', cap', cur, h', r⟩
  · exact .inl h'
  · have e2 := congrArg Value.ownBlock h'
    have e3 : g = g' := by simpa [Value.ownBlock] using e2
    exact .inr ⟨g', cap', cur, h', by omega, r.2⟩

theorem toEkS_any (A : Option Addr) (n c : Nat) (V : List EkV) (w : World) (h : EkCame w A V) (hn : V.length = n) (hm : totK V ≤ 1048576) :
    Calls Tryz.prog 34 #[.slice A n c] w fun e w' => ∃ g V', e = .returned (.slice (some ⟨g, 0, none⟩) n n) ∧ V'.map EkV.r = V.map EkV.r ∧ OwL w' w.heap.size w'.heap.size (.slice (some ⟨g, 0, none⟩) n n) V' ∧ New w w' := by
  have HN : Hid (V.length = n) := hn
  have hn1 : n ≤ 1048576 := by have := totK_len V; omega
  have HM : Hid (∀ v ∈ V, v.r.xs.length ≤ 1048576) := fun v hv => Nat.le_trans (totK_mem V v hv) hm
  clear hn hm
  obtain ⟨i0, hi, hz0, hz1, hz2⟩ := info_parts Tryz.infoEk
  go_enter Tryz.func34, Tryz.ntmps34
  go_wp2_with (at_make; refine wpList_make_full _ rfl _ _ 45 rfl w.heap.size 118 i0 (.agg #[.int .i64 0, .int .i64 0, .int .i64 0, .slice none 0 0]) 4 Tryz.underlying45 hi hz0 hz1 _ _ _ _ n rfl rfl rfl rfl ?b2 ?b3 (Nat.le_refl _) ?_)
  case b2 => rw [hz2]; omega
  case b3 => unfold maxLen; omega
  intro w0 hown0 hgrow0
  have hown : RwK w0 w.heap.size n n ([] ++ List.replicate (n - 0) ek0) := by
    have := own_base hown0
    have e8 := made_ek n
    simp only [RwK, List.nil_append, Nat.sub_zero]
    rw [← e8]
    exact this
  have hnew := New.of_grown hgrow0
  clear hown0 hgrow0
  go_wp2
  go_loopw [4] (fun i wr => ∃ (k : Nat) (V' : List EkV), k ≤ n ∧ i = .int .i64 k ∧ V'.length = k ∧ V'.map EkV.r = (V.take k).map EkV.r ∧ New w wr ∧ RwK wr w.heap.size n n (V' ++ List.replicate (n - k) ek0) ∧ PaK wr (w.heap.size + 1) wr.heap.size V') (fun i _ => n - (intOf i).toNat)
  case atStart => exact ⟨0, [], Nat.zero_le _, rfl, rfl, rfl, hnew, hown, PaK.nil _ _ _⟩
  case round =>
    obtain ⟨k, V', hk, rfl, hl', hmap, hnw, how, hpa⟩ := hrel
    have HL' : Hid (V'.length = k) := hl'
    clear hl'
    by_cases hlt : k < n
    · obtain ⟨b, off, ep, ki, pe, x, m, d, xs, rfl, hv, hlen, hns, hmx, q0, q1, q2, q3⟩ := (h.new hnw).at k (by have := HN.out; omega)
      have HL : Hid (xs.length = m) := hlen
      have hmm : m ≤ 1048576 := by rw [← hlen]; exact HM.out _ (List.mem_of_getElem? hv)
      have hbd : Hid (∀ z ∈ xs, By z) := hns.lt
      have HMp : Hid (∀ u : EkV, u.r = ⟨ep, ki, pe, xs⟩ → (V' ++ [u]).map EkV.r = (V.take (k + 1)).map EkV.r) := by
        intro u hu
        obtain ⟨hk', e⟩ := List.getElem?_eq_some_iff.1 hv
        rw [List.take_succ_eq_append_getElem hk', e, List.map_append, List.map_append, hmap]
        simp [hu]
      have hgl : w.heap.size < wr.heap.size := how.lt
      clear hv hlen hmap hmx
      go_wp2_with fail
      refine (toEntry_any ep ki pe x m d xs _ hns HL.out hmm).mono ?_
      rintro e w1 ⟨g, rfl, hg, ho, hn1'⟩
      have how1 := how.new hn1'
      have hput := how1.put k ⟨⟨ep, ki, pe, xs⟩, some ⟨g, 0, none⟩, m⟩
      rw [set_fillK V' k n HL'.out hlt] at hput
      simp only [HL.out] at hput
      have hov : OvB w1 wr.heap.size (EkV.pv ⟨⟨ep, ki, pe, xs⟩, some ⟨g, 0, none⟩, m⟩) xs := by
        have := (OvB.ofK ho).low hg
        unfold EkV.pv
        simp only [HL.out]
        exact this
      have hpa1 := (hpa.new hn1').snoc ⟨⟨ep, ki, pe, xs⟩, some ⟨g, 0, none⟩, m⟩ hov hbd.out (by simp only [HL.out]; exact hmm) (by omega) hn1'.size (Nat.le_refl _)
      have hn2 := hnw.trans hn1'
      have f0 := fun j => World.ownsRow.frozenAt how1 j
      obtain ⟨v0, c0⟩ := how1.cell (k * 4) (by omega)
      obtain ⟨v1, c1⟩ := how1.cell (k * 4 + 1) (by omega)
      obtain ⟨v2, c2⟩ := how1.cell (k * 4 + 2) (by omega)
      obtain ⟨v3, c3⟩ := how1.cell (k * 4 + 3) (by omega)
      have HPA : Hid _ := hpa1
      have HPU : Hid _ := hput
      clear h how how1 q0 q1 q2 q3 hnw hpa hns hpa1 hput hov ho
      go_wp2
      go_roundw
      case rel =>
        have tt : Turn (fun j => j = w.heap.size) w1 ((((w1.setCell ⟨w.heap.size, k * 4, none⟩ (.int .i64 ep)).setCell ⟨w.heap.size, k * 4 + 1, none⟩ (.int .i64 ki)).setCell ⟨w.heap.size, k * 4 + 2, none⟩ (.int .i64 pe)).setCell ⟨w.heap.size, k * 4 + 3, none⟩ (.slice (some ⟨g, 0, none⟩) m m)) := set4k w1 w.heap.size (k * 4) _ _ _ _
        refine ⟨k + 1, V' ++ [EkV.mk (Ek.mk ep ki pe xs) (some (Addr.mk g 0 none)) m], by omega, by go_num, by simp [HL'.out], HMp.out _ rfl, ?_, HPU.out, ?_⟩
        · exact hn2.before tt (by intro i hi e; omega)
        · exact (HPA.out.turn tt (by intro j h1 h2 e; omega)).up tt.size
      case measure => simp [intOf]; omega
    · go_wp2
      go_ret
      have hkn : k = n := by omega
      subst hkn
      rw [List.take_of_length_le (by have := HN.out; omega)] at hmap
      simp only [Nat.sub_self, List.replicate_zero, List.append_nil] at how
      have row := rowK_of how (Nat.le_refl _)
      rw [HL'.out] at row
      refine ⟨_, V', rfl, hmap, ⟨by rw [HL'.out]; exact row, ?_, hpa.low (by omega)⟩, hnw⟩
      intro j hj
      simp [Value.ownBlock] at hj
      have := how.lt
      omega

set_option maxRecDepth 100000 in
theorem open_entry_cells {H : Type} {enc : TypeId × Value → H} {W : World} {base fuel : Nat} {t1 : Nat → Bool} {t2 : Bool} {c9 c0 c1 c2 : Value} {y : DataW H × List MemPlace}
    (hf' : DataW.trod enc Tryz.prog W base t1 t2 fuel 110 [c9, c0, c1, c2] = some y) :
    ∃ (v : EkV), [c9, c0, c1, c2] = v.cs ∧ BsAt W v.a v.r.xs ∧ v.r.xs.length ≤ maxLen := by
  obtain ⟨yt, mt, _, rfl, hlt, hlent, hqt⟩ := DataW.trod_struct Tryz.underlying110 hf'
  match yt, hlent with
  | [u0, u1], _ =>
    have j0 := hqt 0 _ rfl
    have j1 := hqt 1 _ rfl
    simp [Tryz.cI9, Tryz.cEv9] at j0 j1
    obtain ⟨ep, e9, -, w9⟩ := DataW.trod_int Tryz.underlying2 j0
    simp only [List.cons.injEq, and_true] at e9
    subst e9
    obtain ⟨ys, m, _, rfl, hl, hlen, hq⟩ := DataW.trod_struct Tryz.underlying35 j1
    match ys, hlen with
    | [y0, y1, y2], _ =>
      have k0 := hq 0 _ rfl
      have k1 := hq 1 _ rfl
      have k2 := hq 2 _ rfl
      simp [Tryz.cI9, Tryz.cBs9] at k0 k1 k2
      obtain ⟨k, e0, -, w0⟩ := DataW.trod_int Tryz.underlying2 k0
      obtain ⟨q, e1, -, w1⟩ := DataW.trod_int Tryz.underlying2 k1
      simp only [List.cons.injEq, and_true] at e0 e1
      subst e0 e1
      have hb : ∃ (a : Option Addr) (n c : Nat), c2 = .slice a n c := by
        rcases open_ints Tryz.underlying33 Tryz.underlying5 (by kernel_rfl) k2 with ⟨hcs, _⟩ | ⟨x, l, c, zs, hcs, _⟩
        · simp only [List.cons.injEq, and_true] at hcs
          exact ⟨none, 0, 0, hcs⟩
        · simp only [List.cons.injEq, and_true] at hcs
          exact ⟨some x, l, c, hcs⟩
      obtain ⟨a, n, c, rfl⟩ := hb
      obtain ⟨zs, h1, h2, h3, h4⟩ := open_bytes (enc := enc) (W := W) (base := base) (t1 := t1) (t2 := t2) (a := a) (n := n) (c := c) (d := y2.1) (p := y2.2) ⟨m, by simpa [Value.cells] using k2⟩
      subst h2
      exact ⟨⟨⟨ep, k, q, zs⟩, a, c⟩, rfl, h1, h4⟩

set_option maxRecDepth 100000 in
theorem open_entries {H : Type} {enc : TypeId × Value → H} {W : World} {base fuel : Nat} {t1 : Nat → Bool} {t2 : Bool} {cs : List Value} {y : DataW H × List MemPlace}
    (hf : DataW.trod enc Tryz.prog W base t1 t2 fuel 30 cs = some y) : ∃ a n c V, cs = [.slice a n c] ∧ EkCame W a V ∧ V.length = n ∧ n ≤ maxLen := by
  rcases open_slice Tryz.underlying30 hf with ⟨hcs, _⟩ | ⟨x, l, cc, m, k, D, Pl, hcs, _, hl, hm, hmm, _, hall⟩
  · exact ⟨none, 0, 0, [], hcs, (by intro i v hv; simp at hv), rfl, Nat.zero_le _⟩
  · have hlm : l ≤ m := by rw [hmm]; split <;> omega
    have each : ∀ i, i < l → ∃ r : EkV, (∀ j, j < 4 → W.cell? (x.add (i * 4 + j)) = r.cs[j]?) ∧ BsAt W r.a r.r.xs ∧ r.r.xs.length ≤ maxLen := by
      intro i hi
      obtain ⟨cs', h1, h2⟩ := hall i (by omega)
      rw [Tryz.cEn10] at h1
      obtain ⟨_, hlen, hcell⟩ := World.cells?_some h1
      match cs', hlen with
      | [c0, c1, c2, c3], _ =>
        obtain ⟨r, hr, hcm⟩ := open_entry_cells h2
        refine ⟨r, fun j hj => ?_, hcm⟩
        have hc := hcell j (by omega)
        rw [add_add] at hc
        rw [hc, hr]
    refine ⟨some x, l, cc, (List.range l).map (fun i => if h : i < l then (each i h).choose else ek0), hcs, ?_, by simp, Nat.le_trans hl hm⟩
    obtain ⟨b, off, spot⟩ := x
    intro i q hq
    have hi : i < l := by
      have := (List.getElem?_eq_some_iff.1 hq).1
      simpa using this
    have hq' : q = (each i hi).choose := by
      rw [List.getElem?_map, List.getElem?_range hi] at hq
      simpa [hi] using hq.symm
    have hs := (each i hi).choose_spec
    rw [← hq'] at hs
    have hspot : spot = none := by
      obtain ⟨r0, hr0, -⟩ := each 0 (by omega)
      have h2 : W.cell? (Addr.add ⟨b, off, spot⟩ (0 * 4 + 0)) = some (.int .i64 r0.r.ep) := hr0 0 (by omega)
      simpa [Addr.add] using World.cell?_spot h2
    subst hspot
    refine ⟨⟨b, off, rfl, fun j hj => ?_⟩, hs.2⟩
    have := hs.1 j hj
    rw [Addr.add_lit] at this
    rw [Nat.add_assoc]
    exact this

end Go.Proofs.YtdbnmkffinhdjaaGreat

namespace Go.Proofs.YtdbnmkffinhdjaaGreat
open Go.RowKit
set_option linter.unusedVariables false
set_option maxHeartbeats 25600000

theorem markEv_any (x y : Int) (a : Option Addr) (n c : Nat) (k : Int) (zs : List Int) (w : World) (h : OwAt w a n c zs) (hm : n ≤ 4194304) (hk0 : 0 ≤ k) (hk : k ≤ 1073741824) :
    Calls Tryz.prog 15 #[.agg #[.int .i64 x, .int .i64 y, .slice a n c], .int .i64 k] w fun e w' => e = .returned (.int .i64 (k + n)) ∧ OwAt w' a n c (marks k n) ∧ Turn (inA a) w w' := by
  have hw := (New.refl w).alloc (.cells #[.int .i64 x, .int .i64 y, .slice a n c] 52)
  go_enter Tryz.func15, Tryz.ntmps15
  go_wp2_with fail
  refine (mark_any a n c k zs _ (h.new hw) hm hk0 hk).mono ?_
  rintro e w1 ⟨rfl, ho1, ht1⟩
  go_wp2
  go_ret
  exact ⟨rfl, ho1, Turn.trans hw.turn ht1 (fun _ _ h => h)⟩

end Go.Proofs.YtdbnmkffinhdjaaGreat

namespace Go.Proofs.YtdbnmkffinhdjaaGreat
open Go.ChangeShapes Go.WideShapes Go.ChangeAt Go.RowKit Go.Deep Go.Sort
set_option linter.unusedVariables false
set_option linter.unusedSimpArgs false
set_option maxHeartbeats 25600000

theorem toNd_any (id : Int) (up : Bool) (ro ep su ma ot co : Int) (A : Option Addr) (n c : Nat) (V : List EkV) (w : World) (h : EkCame w A V) (hn : V.length = n) (hm : totK V ≤ 1048576) :
    Calls Tryz.prog 72 #[.agg #[.int .i64 id, .bool up, .int .i64 ro, .int .i64 ep, .slice A n c, .int .i64 su, .int .i64 ma, .int .i64 ot, .int .i64 co]] w fun e w' => ∃ g V', e = .returned (.agg #[.int .i64 id, .bool up, .int .i64 ro, .int .i64 ep, .slice (some ⟨g, 0, none⟩) n n, .int .i64 su, .int .i64 ma, .int .i64 ot, .int .i64 co]) ∧ V'.map EkV.r = V.map EkV.r ∧ OwL w' w.heap.size w'.heap.size (.slice (some ⟨g, 0, none⟩) n n) V' ∧ New w w' := by
  have HN : Hid (V.length = n) := hn
  clear hn
  have hw0 : New w (((w.alloc (.cells #[.int .i64 id, .bool up, .int .i64 ro, .int .i64 ep, .slice A n c, .int .i64 su, .int .i64 ma, .int .i64 ot, .int .i64 co] 104)).alloc (.cells #[.int .i64 0, .bool false, .int .i64 0, .int .i64 0, .slice none 0 0, .int .i64 0, .int .i64 0, .int .i64 0, .int .i64 0] 74)).alloc (.cells #[.int .i64 id, .bool up, .int .i64 ro, .int .i64 ep, .slice none 0 0, .int .i64 0, .int .i64 0, .int .i64 0, .int .i64 0] 74)) := (((New.refl w).alloc _).alloc _).alloc _
  have b0 : Blk (((w.alloc (.cells #[.int .i64 id, .bool up, .int .i64 ro, .int .i64 ep, .slice A n c, .int .i64 su, .int .i64 ma, .int .i64 ot, .int .i64 co] 104)).alloc (.cells #[.int .i64 0, .bool false, .int .i64 0, .int .i64 0, .slice none 0 0, .int .i64 0, .int .i64 0, .int .i64 0, .int .i64 0] 74)).alloc (.cells #[.int .i64 id, .bool up, .int .i64 ro, .int .i64 ep, .slice none 0 0, .int .i64 0, .int .i64 0, .int .i64 0, .int .i64 0] 74)) w.heap.size 104 #[.int .i64 id, .bool up, .int .i64 ro, .int .i64 ep, .slice A n c, .int .i64 su, .int .i64 ma, .int .i64 ot, .int .i64 co] := ((Blk.mk _ _ _ _ rfl).alloc _).alloc _
  have b1 : Blk (((w.alloc (.cells #[.int .i64 id, .bool up, .int .i64 ro, .int .i64 ep, .slice A n c, .int .i64 su, .int .i64 ma, .int .i64 ot, .int .i64 co] 104)).alloc (.cells #[.int .i64 0, .bool false, .int .i64 0, .int .i64 0, .slice none 0 0, .int .i64 0, .int .i64 0, .int .i64 0, .int .i64 0] 74)).alloc (.cells #[.int .i64 id, .bool up, .int .i64 ro, .int .i64 ep, .slice none 0 0, .int .i64 0, .int .i64 0, .int .i64 0, .int .i64 0] 74)) (w.heap.size + 1) 74 #[.int .i64 0, .bool false, .int .i64 0, .int .i64 0, .slice none 0 0, .int .i64 0, .int .i64 0, .int .i64 0, .int .i64 0] := (Blk.mk _ _ _ _ (by simp)).alloc _
  have b2 : Blk (((w.alloc (.cells #[.int .i64 id, .bool up, .int .i64 ro, .int .i64 ep, .slice A n c, .int .i64 su, .int .i64 ma, .int .i64 ot, .int .i64 co] 104)).alloc (.cells #[.int .i64 0, .bool false, .int .i64 0, .int .i64 0, .slice none 0 0, .int .i64 0, .int .i64 0, .int .i64 0, .int .i64 0] 74)).alloc (.cells #[.int .i64 id, .bool up, .int .i64 ro, .int .i64 ep, .slice none 0 0, .int .i64 0, .int .i64 0, .int .i64 0, .int .i64 0] 74)) (w.heap.size + 1 + 1) 74 #[.int .i64 id, .bool up, .int .i64 ro, .int .i64 ep, .slice none 0 0, .int .i64 0, .int .i64 0, .int .i64 0, .int .i64 0] := Blk.mk _ _ _ _ (by simp)
  have s0 : Hid ((((w.alloc (.cells #[.int .i64 id, .bool up, .int .i64 ro, .int .i64 ep, .slice A n c, .int .i64 su, .int .i64 ma, .int .i64 ot, .int .i64 co] 104)).alloc (.cells #[.int .i64 0, .bool false, .int .i64 0, .int .i64 0, .slice none 0 0, .int .i64 0, .int .i64 0, .int .i64 0, .int .i64 0] 74)).alloc (.cells #[.int .i64 id, .bool up, .int .i64 ro, .int .i64 ep, .slice none 0 0, .int .i64 0, .int .i64 0, .int .i64 0, .int .i64 0] 74)).heap.size = w.heap.size + 1 + 1 + 1) := by unfold Hid; simp
  go_enter Tryz.func72, Tryz.ntmps72
  go_upto_region 6 with fail
  generalize (((w.alloc (.cells #[.int .i64 id, .bool up, .int .i64 ro, .int .i64 ep, .slice A n c, .int .i64 su, .int .i64 ma, .int .i64 ot, .int .i64 co] 104)).alloc (.cells #[.int .i64 0, .bool false, .int .i64 0, .int .i64 0, .slice none 0 0, .int .i64 0, .int .i64 0, .int .i64 0, .int .i64 0] 74)).alloc (.cells #[.int .i64 id, .bool up, .int .i64 ro, .int .i64 ep, .slice none 0 0, .int .i64 0, .int .i64 0, .int .i64 0, .int .i64 0] 74)) = w0 at *
  have c0 := b0.cells
  go_wp2_with fail
  refine (toEkS_any A n c V _ (h.new hw0) HN.out hm).mono ?_
  rintro e w1 ⟨g, V', rfl, hV, ho, hn1⟩
  have n1 := hw0.trans hn1
  have B0 := b0.new hn1
  have B1 := b1.new hn1
  have B2 := b2.new hn1
  have c0 := B0.cells
  have c1 := B1.cells
  have f1 := B1.frees
  have c2 := B2.cells
  have f2 := B2.frees
  clear b0 b1 b2 hn1 hw0 h
  have S0 := s0.out
  go_wp2
  refine bodyPost_ret (v := .agg #[.int .i64 id, .bool up, .int .i64 ro, .int .i64 ep, .slice (some ⟨g, 0, none⟩) n n, .int .i64 su, .int .i64 ma, .int .i64 ot, .int .i64 co]) (by simp [results, Tryz.results72, go_sem, c1]) rfl ⟨g, V', rfl, hV, ?_, ?_⟩
  · have hlo : w.heap.size + 1 + 1 + 1 ≤ w0.heap.size := by omega
    refine OwL.low (lo := w0.heap.size) (OwL.up (hi := w1.heap.size) (OwL.turn (w := w1) (S := fun i => i = w.heap.size + 1 ∨ i = w.heap.size + 1 + 1) ho ?t (by intro k hk _ e; omega)) ?u) (by omega)
    case t => exact Turn.set (S := fun i => i = w.heap.size + 1 ∨ i = w.heap.size + 1 + 1) (Turn.set (S := fun i => i = w.heap.size + 1 ∨ i = w.heap.size + 1 + 1) (Turn.set (S := fun i => i = w.heap.size + 1 ∨ i = w.heap.size + 1 + 1) (Turn.set (S := fun i => i = w.heap.size + 1 ∨ i = w.heap.size + 1 + 1) (Turn.set (S := fun i => i = w.heap.size + 1 ∨ i = w.heap.size + 1 + 1) (Turn.set (S := fun i => i = w.heap.size + 1 ∨ i = w.heap.size + 1 + 1) (Turn.set (S := fun i => i = w.heap.size + 1 ∨ i = w.heap.size + 1 + 1) (Turn.set (S := fun i => i = w.heap.size + 1 ∨ i = w.heap.size + 1 + 1) (Turn.set (S := fun i => i = w.heap.size + 1 ∨ i = w.heap.size + 1 + 1) (Turn.set (S := fun i => i = w.heap.size + 1 ∨ i = w.heap.size + 1 + 1) (Turn.set (S := fun i => i = w.heap.size + 1 ∨ i = w.heap.size + 1 + 1) (Turn.set (S := fun i => i = w.heap.size + 1 ∨ i = w.heap.size + 1 + 1) (Turn.set (S := fun i => i = w.heap.size + 1 ∨ i = w.heap.size + 1 + 1) (Turn.set (S := fun i => i = w.heap.size + 1 ∨ i = w.heap.size + 1 + 1) (Turn.refl _ _) (Or.inr rfl) _) (Or.inr rfl) _) (Or.inr rfl) _) (Or.inr rfl) _) (Or.inr rfl) _) (Or.inl rfl) _) (Or.inl rfl) _) (Or.inl rfl) _) (Or.inl rfl) _) (Or.inl rfl) _) (Or.inl rfl) _) (Or.inl rfl) _) (Or.inl rfl) _) (Or.inl rfl) _
    case u => exact Turn.size (S := fun i => i = w.heap.size + 1 ∨ i = w.heap.size + 1 + 1) (Turn.set (S := fun i => i = w.heap.size + 1 ∨ i = w.heap.size + 1 + 1) (Turn.set (S := fun i => i = w.heap.size + 1 ∨ i = w.heap.size + 1 + 1) (Turn.set (S := fun i => i = w.heap.size + 1 ∨ i = w.heap.size + 1 + 1) (Turn.set (S := fun i => i = w.heap.size + 1 ∨ i = w.heap.size + 1 + 1) (Turn.set (S := fun i => i = w.heap.size + 1 ∨ i = w.heap.size + 1 + 1) (Turn.set (S := fun i => i = w.heap.size + 1 ∨ i = w.heap.size + 1 + 1) (Turn.set (S := fun i => i = w.heap.size + 1 ∨ i = w.heap.size + 1 + 1) (Turn.set (S := fun i => i = w.heap.size + 1 ∨ i = w.heap.size + 1 + 1) (Turn.set (S := fun i => i = w.heap.size + 1 ∨ i = w.heap.size + 1 + 1) (Turn.set (S := fun i => i = w.heap.size + 1 ∨ i = w.heap.size + 1 + 1) (Turn.set (S := fun i => i = w.heap.size + 1 ∨ i = w.heap.size + 1 + 1) (Turn.set (S := fun i => i = w.heap.size + 1 ∨ i = w.heap.size + 1 + 1) (Turn.set (S := fun i => i = w.heap.size + 1 ∨ i = w.heap.size + 1 + 1) (Turn.set (S := fun i => i = w.heap.size + 1 ∨ i = w.heap.size + 1 + 1) (Turn.refl _ _) (Or.inr rfl) _) (Or.inr rfl) _) (Or.inr rfl) _) (Or.inr rfl) _) (Or.inr rfl) _) (Or.inl rfl) _) (Or.inl rfl) _) (Or.inl rfl) _) (Or.inl rfl) _) (Or.inl rfl) _) (Or.inl rfl) _) (Or.inl rfl) _) (Or.inl rfl) _) (Or.inl rfl) _)
  · exact ((((((((((((((n1).setCell (by simp; try omega) _).setCell (by simp; try omega) _).setCell (by simp; try omega) _).setCell (by simp; try omega) _).setCell (by simp; try omega) _).setCell (by simp; try omega) _).setCell (by simp; try omega) _).setCell (by simp; try omega) _).setCell (by simp; try omega) _).setCell (by simp; try omega) _).setCell (by simp; try omega) _).setCell (by simp; try omega) _).setCell (by simp; try omega) _).setCell (by simp; try omega) _

theorem eqNd_any (id : Int) (up : Bool) (ro ep su ma ot co : Int) (A B : Option Addr) (n c d : Nat) (V U : List EkV) (w : World) (hF : LgAt w A V) (hG : LgAt w B U) (hVU : V.map EkV.r = U.map EkV.r) (hn : V.length = n) (hm : n ≤ 2097152) :
    Calls Tryz.prog 85 #[.agg #[.int .i64 id, .bool up, .int .i64 ro, .int .i64 ep, .slice A n c, .int .i64 su, .int .i64 ma, .int .i64 ot, .int .i64 co], .agg #[.int .i64 id, .bool up, .int .i64 ro, .int .i64 ep, .slice B n d, .int .i64 su, .int .i64 ma, .int .i64 ot, .int .i64 co]] w fun e w' => e = .returned (.bool true) ∧ New w w' := by
  have hw := ((New.refl w).alloc (.cells #[.int .i64 id, .bool up, .int .i64 ro, .int .i64 ep, .slice A n c, .int .i64 su, .int .i64 ma, .int .i64 ot, .int .i64 co] 74)).alloc (.cells #[.int .i64 id, .bool up, .int .i64 ro, .int .i64 ep, .slice B n d, .int .i64 su, .int .i64 ma, .int .i64 ot, .int .i64 co] 74)
  have bA := (Blk.mk w w.heap.size 74 #[.int .i64 id, .bool up, .int .i64 ro, .int .i64 ep, .slice A n c, .int .i64 su, .int .i64 ma, .int .i64 ot, .int .i64 co] rfl).alloc (.cells #[.int .i64 id, .bool up, .int .i64 ro, .int .i64 ep, .slice B n d, .int .i64 su, .int .i64 ma, .int .i64 ot, .int .i64 co] 74)
  have bB := Blk.mk (w.alloc (.cells #[.int .i64 id, .bool up, .int .i64 ro, .int .i64 ep, .slice A n c, .int .i64 su, .int .i64 ma, .int .i64 ot, .int .i64 co] 74)) (w.heap.size + 1) 74 #[.int .i64 id, .bool up, .int .i64 ro, .int .i64 ep, .slice B n d, .int .i64 su, .int .i64 ma, .int .i64 ot, .int .i64 co] (by simp)
  have z1 : (id != id) = false := by simp
  have z2 : (up != up) = false := by simp
  have z3 : (ro != ro) = false := by simp
  have z4 : (ep != ep) = false := by simp
  have z5 : (su != su) = false := by simp
  have z6 : (ma != ma) = false := by simp
  have z7 : (ot != ot) = false := by simp
  have z8 : (co != co) = false := by simp
  go_enter Tryz.func85, Tryz.ntmps85
  go_wp2_with fail
  refine (eqEkS_any A B n c d V U _ (hF.new hw) (hG.new hw) hVU hn hm).mono ?_
  rintro e w1 ⟨rfl, hn1⟩
  have cA := (bA.new hn1).cells
  have cB := (bB.new hn1).cells
  go_wp2
  go_ret
  exact ⟨rfl, hw.trans hn1⟩

theorem Tryz.cNd : Tryz.prog.cellsOf 104 = 9 := by kernel_rfl
theorem Tryz.cEs : Tryz.prog.cellsOf 30 = 1 := by kernel_rfl
theorem Tryz.cBl : Tryz.prog.cellsOf 4 = 1 := by kernel_rfl

end Go.Proofs.YtdbnmkffinhdjaaGreat

namespace Go.Proofs.YtdbnmkffinhdjaaGreat
open Go.RowKit Go.Sort
set_option linter.unusedVariables false
set_option linter.unusedSimpArgs false
set_option maxHeartbeats 25600000

/-- The fault of a log in the epoch E, behind an entry of the epoch p. -/
def lgF (E : Int) : Int → List Ek → Int
  | _, [] => 0
  | p, x :: L => if enF x.ep x.ki x.pe x.xs.length ≠ 0 then enF x.ep x.ki x.pe x.xs.length else if E < x.ep ∨ x.ep < p then 1 else lgF E x.ep L

theorem lgF_at {V : List EkV} {k m : Nat} {e1 ki pe E p : Int} {xs : List Int} {a : Option Addr} {c1 : Nat} (hv : V[k]? = some ⟨⟨e1, ki, pe, xs⟩, a, c1⟩) (hl : xs.length = m) :
    lgF E p ((V.map EkV.r).drop k) = if enF e1 ki pe m ≠ 0 then enF e1 ki pe m else if E < e1 ∨ e1 < p then 1 else lgF E e1 ((V.map EkV.r).drop (k + 1)) := by
  obtain ⟨hk, e⟩ := List.getElem?_eq_some_iff.1 hv
  have hk' : k < (V.map EkV.r).length := by simpa using hk
  rw [List.drop_eq_getElem_cons hk', lgF]
  simp only [List.getElem_map, e, hl]
theorem lgF_end {V : List EkV} {k : Nat} (E p : Int) (hk : V.length ≤ k) : lgF E p ((V.map EkV.r).drop k) = 0 := by
  rw [List.drop_eq_nil_of_le (by simpa using hk)]; rfl
theorem enF_ep {e1 ki pe : Int} {m : Nat} (h : enF e1 ki pe m = 0) : 1 ≤ e1 ∧ e1 ≤ 1000 := by
  unfold enF at h
  by_cases he : e1 < 1 ∨ 1000 < e1
  · rw [if_pos he] at h; omega
  · omega

theorem implLF (B : Nat) (id : Int) (up : Bool) (ro ep su ma ot co : Int) (A : Option Addr) (n c : Nat) (V : List EkV) (w : World) (hb : Blk w B 74 #[.int .i64 id, .bool up, .int .i64 ro, .int .i64 ep, .slice A n c, .int .i64 su, .int .i64 ma, .int .i64 ot, .int .i64 co]) (h : LgAt w A V) (hn : V.length = n) (hm : n ≤ 2097152) :
    Calls Tryz.prog 173 #[.pointer (some ⟨B, 0, none⟩)] w fun e w' => e = .returned (.int .i64 (lgF ep 0 (V.map EkV.r))) ∧ New w w' := by
  have HN : Hid (V.length = n) := hn
  have cB := hb.cells
  clear hn
  go_enter Tryz.func173, Tryz.ntmps173
  go_wp2
  go_loopw [3, 12] (fun q i wr => ∃ (k : Nat) (p : Int), k ≤ n ∧ i = .int .i64 k ∧ q = .int .i64 p ∧ New w wr ∧ Hid (lgF ep p ((V.map EkV.r).drop k) = lgF ep 0 (V.map EkV.r))) (fun _ i _ => n - (intOf i).toNat)
  case atStart => exact ⟨0, 0, Nat.zero_le _, rfl, rfl, New.refl _, by unfold Hid; simp⟩
  case round =>
    obtain ⟨k, p, hk, rfl, rfl, hnw, hL⟩ := hrel
    by_cases hlt : k < n
    · obtain ⟨g, e1, ki, pe, a, m, c1, xs, rfl, hv, hl, hx, hmx, x0, x1, x2, x3⟩ := (h.new hnw).at k (by have := HN.out; omega)
      have HD : Hid (lgF ep 0 (V.map EkV.r) = _) := hL.out.symm.trans (lgF_at hv hl)
      have cBr := (hb.new hnw).cells
      have lB := (hb.new hnw).lt
      have hw1 := hnw.alloc (.cells #[.int .i64 e1, .int .i64 ki, .int .i64 pe, .slice a m c1] 118)
      have bx := Blk.mk wr wr.heap.size 118 #[.int .i64 e1, .int .i64 ki, .int .i64 pe, .slice a m c1] rfl
      clear hv hl h hL cB
      go_wp2_with fail
      refine (implEN e1 ki pe a m c1 _ (by omega)).mono ?_
      rintro e w2 ⟨rfl, hn2⟩
      have cX := (bx.new hn2).cells
      have cN := (((hb.new hnw).alloc _).new hn2).cells
      have hw2 := hw1.trans hn2
      have HX : Hid (enF e1 ki pe m = 0 → 1 ≤ e1 ∧ e1 ≤ 1000) := enF_ep
      clear x0 x1 x2 x3 cBr
      generalize enF e1 ki pe m = f at *
      by_cases hf : f = 0
      · subst hf
        by_cases h1 : ep < e1
        · have HR : Hid (lgF ep 0 (V.map EkV.r) = 1) := by unfold Hid; rw [HD.out]; simp [h1]
          go_wp2
          go_quiet (fail)
          go_wp2
          go_ret
          exact ⟨ret_i64 HR.out.symm, hw2.drewN _⟩
        · by_cases h2 : e1 < p
          · have HR : Hid (lgF ep 0 (V.map EkV.r) = 1) := by unfold Hid; rw [HD.out]; simp [h2]
            go_wp2
            go_quiet (fail)
            go_wp2
            go_ret
            exact ⟨ret_i64 HR.out.symm, hw2.drewN _⟩
          · have HR : Hid (lgF ep e1 ((V.map EkV.r).drop (k + 1)) = lgF ep 0 (V.map EkV.r)) := by unfold Hid; rw [HD.out]; simp [h1, h2]
            go_wp2
            go_quiet (fail)
            have cX := (bx.new (hn2.drewN 1)).cells
            go_wp2
            go_roundw
            case rel => exact ⟨k + 1, e1, by omega, by go_num, rfl, hw2.drewN _, HR⟩
            case measure => simp [intOf]; omega
      · have HR : Hid (lgF ep 0 (V.map EkV.r) = f) := by unfold Hid; rw [HD.out]; simp [hf]
        go_wp2
        go_ret
        exact ⟨ret_i64 HR.out.symm, hw2⟩
    · have HR : Hid (0 = lgF ep 0 (V.map EkV.r)) := by unfold Hid; rw [← hL.out, lgF_end ep p (by have := HN.out; omega)]
      go_wp2
      go_ret
      exact ⟨ret_i64 HR.out, hnw⟩

end Go.Proofs.YtdbnmkffinhdjaaGreat
