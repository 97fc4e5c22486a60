/- What is proved here: what the counting and the copying of lists of entries answer, for every list of at most 1048576 entries and bytes; how a node comes in. -/
import Derived.Test.YtlkhmnjghdbmoaaGreatDoorK12Ow
import Derived.Test.YtlkhmnjghdbmoaaGreatDoorE10Op
import Derived.Deep.SlicePairs
namespace Go.Proofs.YtlkhmnjghdbmoaaGreatDoor
open Go.ChangeShapes Go.WideShapes Go.ChangeAt Go.RowKit Go.Deep Go.Sort
set_option linter.unusedVariables false
set_option linter.unusedSimpArgs false

/-- The address leads to the entries that came in. -/
def EkCame (w : World) (A : Option Addr) (V : List EkV) : Prop :=
  ∀ i v, V[i]? = some v → (∃ b off, A = some ⟨b, off, none⟩ ∧ ∀ j, j < 4 → w.cell? ⟨b, off + i * 4 + j, none⟩ = v.cs[j]?) ∧ BsAt w v.a v.r.xs ∧ v.r.xs.length ≤ maxLen
theorem EkCame.new {w w' : World} {A : Option Addr} {V : List EkV} (h : EkCame w A V) (t : New w w') : EkCame w' A V := by
  intro i v hv
  obtain ⟨⟨b, off, ha, hc⟩, h1, h2⟩ := h i v hv
  have h0 : w.cell? ⟨b, off + i * 4, none⟩ = some (.int .i64 v.r.ep) := hc 0 (by omega)
  have hb' := t.block b (World.block_lt_of_cell? w _ h0) (fun f => f)
  exact ⟨⟨b, off, ha, fun j hj => (World.cell?_of_block hb').trans (hc j hj)⟩, h1.new t, h2⟩
theorem EkCame.at {w : World} {A : Option Addr} {V : List EkV} (h : EkCame w A V) (i : Nat) (hi : i < V.length) :
    ∃ (b off : Nat) (ep ki pe : Int) (x : Option Addr) (n c : Nat) (xs : List Int), A = some ⟨b, off, none⟩ ∧ V[i]? = some ⟨⟨ep, ki, pe, xs⟩, x, c⟩ ∧ xs.length = n ∧ BsAt w x xs ∧ n ≤ maxLen ∧ w.cell? ⟨b, off + i * 4, none⟩ = some (.int .i64 ep) ∧ w.cell? ⟨b, off + i * 4 + 1, none⟩ = some (.int .i64 ki) ∧ w.cell? ⟨b, off + i * 4 + 2, none⟩ = some (.int .i64 pe) ∧ w.cell? ⟨b, off + i * 4 + 3, none⟩ = some (.slice x n c) := by
  obtain ⟨⟨b, off, h1, h2⟩, h3, h4⟩ := h i _ (List.getElem?_eq_getElem hi)
  exact ⟨b, off, _, _, _, _, _, _, _, h1, List.getElem?_eq_getElem hi, rfl, h3, h4, h2 0 (by omega), h2 1 (by omega), h2 2 (by omega), h2 3 (by omega)⟩

theorem szEk_okZ (ep ki pe : Int) (x : Option Addr) (n c : Nat) (k : Int) (w : World) (h0 : 0 ≤ k) (hk : k ≤ 1048576) (h : (n : Int) ≤ k) : Calls Tryz.prog 36 #[.agg #[.int .i64 ep, .int .i64 ki, .int .i64 pe, .slice x n c], .int .i64 k] w fun e w' => e = .returned (.int .i64 (k - n)) ∧ New w w' := by
  obtain ⟨K, rfl⟩ : ∃ K : Nat, k = K := ⟨k.toNat, by omega⟩
  exact szEntry_ok ep ki pe x n c K w (by omega) (by omega)

theorem szEk_bigZ (ep ki pe : Int) (x : Option Addr) (n c : Nat) (k : Int) (w : World) (h0 : 0 ≤ k) (hk : k ≤ 1048576) (hm : n ≤ maxLen) (h : k < (n : Int)) : Calls Tryz.prog 36 #[.agg #[.int .i64 ep, .int .i64 ki, .int .i64 pe, .slice x n c], .int .i64 k] w fun e w' => e = .returned (.int .i64 (-1)) ∧ New w w' := by
  obtain ⟨K, rfl⟩ : ∃ K : Nat, k = K := ⟨k.toNat, by omega⟩
  exact szEntry_big ep ki pe x n c K w (by omega) hm (by omega)

set_option maxHeartbeats 3200000 in
theorem szEkS_any (A : Option Addr) (n c : Nat) (V : List EkV) (w : World) (h : EkCame w A V) (hn : V.length = n) (hm : n ≤ maxLen) :
    Calls Tryz.prog 14 #[.slice A n c, .int .i64 1048576] w fun e w' => (∃ z : Int, e = .returned (.int .i64 z) ∧ (z = -1 ∨ (0 ≤ z ∧ z ≤ 1048576 ∧ totK V ≤ 1048576))) ∧ New w w' := by
  have HN : Hid (V.length = n) := hn
  unfold maxLen at hm
  clear hn
  by_cases hbig : 1048576 < n
  case pos =>
    go_enter Tryz.func14, Tryz.ntmps14
    go_wp2
    go_ret
    exact ⟨⟨_, rfl, .inl rfl⟩, New.refl _⟩
  have hm' : n ≤ 1048576 := by omega
  clear hm hbig
  go_enter Tryz.func14, Tryz.ntmps14
  go_wp2
  go_loopw [1, 5] (fun t i wr => ∃ (k : Nat) (z : Int), k ≤ n ∧ 0 ≤ z ∧ z ≤ 1048576 ∧ t = .int .i64 z ∧ i = .int .i64 k ∧ New w wr ∧ (totK (V.take k) : Int) + (n - k) + z = 1048576) (fun _ i _ => n - (intOf i).toNat)
  case atStart => exact ⟨0, _, Nat.zero_le _, by omega, by omega, rfl, rfl, New.refl _, by simp [totK]; omega⟩
  case round =>
    obtain ⟨k, z, hk, hz0, hz1, rfl, rfl, hnw, hall⟩ := hrel
    by_cases hlt : k < n
    · obtain ⟨b, off, ep, ki, pe, x, m, d, xs, rfl, hv, hlen, hns, hmx, q0, q1, q2, q3⟩ := (h.new hnw).at k (by have := HN.out; omega)
      have HA : Hid ((totK (V.take (k + 1)) : Int) + (n - (k + 1)) + (z - m) = 1048576) := by
        unfold Hid
        rw [take_snocK hv, totK_snoc]
        simp only [hlen]
        omega
      clear hv hlen hns h hall
      by_cases hfit : (m : Int) ≤ z
      · go_wp2_with fail
        refine (szEk_okZ ep ki pe x m d z _ hz0 hz1 hfit).mono ?_
        rintro e w1 ⟨rfl, hn1⟩
        clear q0 q1 q2 q3
        go_wp2
        go_roundw
        case rel => exact ⟨k + 1, z - m, by omega, by omega, by omega, rfl, by go_num, hnw.trans hn1, by have := HA.out; push_cast; exact this⟩
        case measure => simp [intOf]; omega
      · go_wp2_with fail
        refine (szEk_bigZ ep ki pe x m d z _ hz0 hz1 hmx (by omega)).mono ?_
        rintro e w1 ⟨rfl, hn1⟩
        clear q0 q1 q2 q3
        go_wp2
        go_ret
        exact ⟨⟨_, rfl, .inl rfl⟩, hnw.trans hn1⟩
    · go_wp2
      go_ret
      refine ⟨⟨_, rfl, .inr ⟨hz0, hz1, ?_⟩⟩, hnw⟩
      rw [List.take_of_length_le (by have := HN.out; omega)] at hall
      omega

/-- The entry of zeros. -/
def ek0 : EkV := ⟨⟨0, 0, 0, []⟩, none, 0⟩
theorem made_ek (n : Nat) : (madeCells #[.int .i64 0, .int .i64 0, .int .i64 0, .slice none 0 0] (n * 4)).toList = cellsK (List.replicate n ek0) := by
  apply List.ext_getElem?
  intro k
  by_cases hk : k < n * 4
  · have h1 : (cellsK (List.replicate n ek0))[k / 4 * 4 + k % 4]? = ek0.cs[k % 4]? := cellsK_get _ (k / 4) ek0 (by rw [List.getElem?_replicate]; simp; omega) (k % 4) (by omega)
    rw [show k / 4 * 4 + k % 4 = k by omega] at h1
    rw [h1]
    simp only [madeCells, Array.toList_map, Array.toList_range, List.getElem?_map, List.getElem?_range hk, Option.map_some]
    have h4 : k % 4 = 0 ∨ k % 4 = 1 ∨ k % 4 = 2 ∨ k % 4 = 3 := by omega
    rcases h4 with e | e | e | e <;> simp [e, EkV.cs, ek0]
  · rw [List.getElem?_eq_none (by simp [madeCells]; omega), List.getElem?_eq_none (by rw [cellsK_len]; simp; omega)]
theorem set_fillK (V : List EkV) (k n : Nat) (hn : V.length = k) (hk : k < n) (p : EkV) :
    (V ++ List.replicate (n - k) ek0).set k p = (V ++ [p]) ++ List.replicate (n - (k + 1)) ek0 := by
  rw [List.set_append_right _ _ (by omega), hn, Nat.sub_self, show n - k = (n - (k + 1)) + 1 by omega, List.replicate_succ, List.set_cons_zero, List.append_assoc]
  rfl
theorem Tryz.infoEk : (Tryz.prog.info? 104).map (fun i => (i.zero, i.size, i.bytes)) = some (some (.agg #[.int .i64 0, .int .i64 0, .int .i64 0, .slice none 0 0]), 4, 48) := by kernel_rfl
theorem cellsK_set4 : ∀ (V : List EkV) (i : Nat) (v : EkV), ((((cellsK V).set (i * 4) (.int .i64 v.r.ep)).set (i * 4 + 1) (.int .i64 v.r.ki)).set (i * 4 + 2) (.int .i64 v.r.pe)).set (i * 4 + 3) (.slice v.a v.r.xs.length v.c) = cellsK (V.set i v)
  | [], i, p => by simp [cellsK]
  | q :: V, 0, p => by simp [cellsK, EkV.cs]
  | q :: V, i + 1, p => by
    have ih := cellsK_set4 V i p
    have e : ∀ (q : EkV) (V : List EkV), cellsK (q :: V) = .int .i64 q.r.ep :: .int .i64 q.r.ki :: .int .i64 q.r.pe :: .slice q.a q.r.xs.length q.c :: cellsK V := fun _ _ => rfl
    rw [show (i + 1) * 4 = i * 4 + 4 by omega, e, show (q :: V).set (i + 1) p = q :: V.set i p from rfl, e, ← ih]
    simp only [Nat.add_assoc, Nat.reduceAdd, List.set_cons_succ]
theorem set4k (w : World) (B j : Nat) (v0 v1 v2 v3 : Value) : Turn (fun k => k = B) w ((((w.setCell ⟨B, j, none⟩ v0).setCell ⟨B, j + 1, none⟩ v1).setCell ⟨B, j + 2, none⟩ v2).setCell ⟨B, j + 3, none⟩ v3) :=
  ((((Turn.refl (fun k => k = B) w).set (p := ⟨B, j, none⟩) rfl v0).set (p := ⟨B, j + 1, none⟩) rfl v1).set (p := ⟨B, j + 2, none⟩) rfl v2).set (p := ⟨B, j + 3, none⟩) rfl v3
/-- The block g is a row of entries that a call has made. -/
def RwK (w : World) (g n c : Nat) (V : List EkV) : Prop := w.ownsRow 0 104 4 (.slice (some ⟨g, 0, none⟩) n c) n (cellsK V)
theorem RwK.len {w : World} {g n c : Nat} {V : List EkV} (h : RwK w g n c V) : V.length = n := by
  have := h.1
  rw [cellsK_len] at this
  omega
theorem RwK.lt {w : World} {g n c : Nat} {V : List EkV} (h : RwK w g n c V) : g < w.heap.size := (World.ownsRow.lt h g rfl).2
theorem RwK.new {w w' : World} {g n c : Nat} {V : List EkV} (h : RwK w g n c V) (t : New w w') : RwK w' g n c V := row9_new h t
theorem RwK.put {w : World} {g n c : Nat} {V : List EkV} (h : RwK w g n c V) (i : Nat) (v : EkV) : RwK ((((w.setCell ⟨g, i * 4, none⟩ (.int .i64 v.r.ep)).setCell ⟨g, i * 4 + 1, none⟩ (.int .i64 v.r.ki)).setCell ⟨g, i * 4 + 2, none⟩ (.int .i64 v.r.pe)).setCell ⟨g, i * 4 + 3, none⟩ (.slice v.a v.r.xs.length v.c)) g n c (V.set i v) := by
  have h1 := (World.ownsRow.stored h (i * 4) (.int .i64 v.r.ep)).1
  have h2 := (World.ownsRow.stored h1 (i * 4 + 1) (.int .i64 v.r.ki)).1
  have h3 := (World.ownsRow.stored h2 (i * 4 + 2) (.int .i64 v.r.pe)).1
  have h4 := (World.ownsRow.stored h3 (i * 4 + 3) (.slice v.a v.r.xs.length v.c)).1
  unfold RwK
  rw [← cellsK_set4 V i v]
  exact h4
theorem RwK.cell {w : World} {g n c : Nat} {V : List EkV} (h : RwK w g n c V) (j : Nat) (hj : j < n * 4) : ∃ v, w.cell? ⟨g, j, none⟩ = some v := by
  have hl := cellsK_len V
  have := h.len
  exact ⟨_, (World.ownsRow.cellAt h j hj).trans (List.getElem?_eq_getElem (by omega))⟩
theorem rowK_of {w : World} {lo g n c : Nat} {V : List EkV} (h : RwK w g n c V) (hl : lo ≤ g) : w.ownsRow lo 104 4 (.slice (some ⟨g, 0, none⟩) n c) V.length (cellsK V) := by
  have hn := h.len
  subst hn
  refine ⟨h.1, ?_⟩
  rcases h.2 with h' | ⟨g', cap', cur, h', r⟩
  · exact .inl h'
  · have e2 := congrArg Value.ownBlock h'
    have e3 : g = g' := by simpa [Value.ownBlock] using e2
    exact .inr ⟨g', cap', cur, h', by omega, r.2⟩

set_option maxHeartbeats 6400000 in
theorem toEkS_any (A : Option Addr) (n c : Nat) (V : List EkV) (w : World) (h : EkCame w A V) (hn : V.length = n) (hm : totK V ≤ 1048576) :
    Calls Tryz.prog 21 #[.slice A n c] w fun e w' => ∃ g V', e = .returned (.slice (some ⟨g, 0, none⟩) n n) ∧ V'.map EkV.r = V.map EkV.r ∧ OwL w' w.heap.size w'.heap.size (.slice (some ⟨g, 0, none⟩) n n) V' ∧ New w w' := by
  have HN : Hid (V.length = n) := hn
  have hn1 : n ≤ 1048576 := by have := totK_len V; omega
  have HM : Hid (∀ v ∈ V, v.r.xs.length ≤ 1048576) := fun v hv => Nat.le_trans (totK_mem V v hv) hm
  clear hn hm
  obtain ⟨i0, hi, hz0, hz1, hz2⟩ := info_parts Tryz.infoEk
  go_enter Tryz.func21, Tryz.ntmps21
  go_wp2_with (at_make; refine wpList_make_full _ rfl _ _ 44 rfl w.heap.size 104 i0 (.agg #[.int .i64 0, .int .i64 0, .int .i64 0, .slice none 0 0]) 4 Tryz.underlying44 hi hz0 hz1 _ _ _ _ n rfl rfl rfl rfl ?b2 ?b3 (Nat.le_refl _) ?_)
  case b2 => rw [hz2]; omega
  case b3 => unfold maxLen; omega
  intro w0 hown0 hgrow0
  have hown : RwK w0 w.heap.size n n ([] ++ List.replicate (n - 0) ek0) := by
    have := own_base hown0
    have e8 := made_ek n
    simp only [RwK, List.nil_append, Nat.sub_zero]
    rw [← e8]
    exact this
  have hnew := New.of_grown hgrow0
  clear hown0 hgrow0
  go_wp2
  go_loopw [4] (fun i wr => ∃ (k : Nat) (V' : List EkV), k ≤ n ∧ i = .int .i64 k ∧ V'.length = k ∧ V'.map EkV.r = (V.take k).map EkV.r ∧ New w wr ∧ RwK wr w.heap.size n n (V' ++ List.replicate (n - k) ek0) ∧ PaK wr (w.heap.size + 1) wr.heap.size V') (fun i _ => n - (intOf i).toNat)
  case atStart => exact ⟨0, [], Nat.zero_le _, rfl, rfl, rfl, hnew, hown, PaK.nil _ _ _⟩
  case round =>
    obtain ⟨k, V', hk, rfl, hl', hmap, hnw, how, hpa⟩ := hrel
    have HL' : Hid (V'.length = k) := hl'
    clear hl'
    by_cases hlt : k < n
    · obtain ⟨b, off, ep, ki, pe, x, m, d, xs, rfl, hv, hlen, hns, hmx, q0, q1, q2, q3⟩ := (h.new hnw).at k (by have := HN.out; omega)
      have HL : Hid (xs.length = m) := hlen
      have hmm : m ≤ 1048576 := by rw [← hlen]; exact HM.out _ (List.mem_of_getElem? hv)
      have hbd : Hid (∀ z ∈ xs, By z) := hns.lt
      have HMp : Hid (∀ u : EkV, u.r = ⟨ep, ki, pe, xs⟩ → (V' ++ [u]).map EkV.r = (V.take (k + 1)).map EkV.r) := by
        intro u hu
        obtain ⟨hk', e⟩ := List.getElem?_eq_some_iff.1 hv
        rw [List.take_succ_eq_append_getElem hk', e, List.map_append, List.map_append, hmap]
        simp [hu]
      have hgl : w.heap.size < wr.heap.size := how.lt
      clear hv hlen hmap hmx
      go_wp2_with fail
      refine (toEntry_any ep ki pe x m d xs _ hns HL.out hmm).mono ?_
      rintro e w1 ⟨g, rfl, hg, ho, hn1'⟩
      have how1 := how.new hn1'
      have hput := how1.put k ⟨⟨ep, ki, pe, xs⟩, some ⟨g, 0, none⟩, m⟩
      rw [set_fillK V' k n HL'.out hlt] at hput
      simp only [HL.out] at hput
      have hov : OvB w1 wr.heap.size (EkV.pv ⟨⟨ep, ki, pe, xs⟩, some ⟨g, 0, none⟩, m⟩) xs := by
        have := (OvB.ofK ho).low hg
        unfold EkV.pv
        simp only [HL.out]
        exact this
      have hpa1 := (hpa.new hn1').snoc ⟨⟨ep, ki, pe, xs⟩, some ⟨g, 0, none⟩, m⟩ hov hbd.out (by simp only [HL.out]; exact hmm) (by omega) hn1'.size (Nat.le_refl _)
      have hn2 := hnw.trans hn1'
      have f0 := fun j => World.ownsRow.frozenAt how1 j
      obtain ⟨v0, c0⟩ := how1.cell (k * 4) (by omega)
      obtain ⟨v1, c1⟩ := how1.cell (k * 4 + 1) (by omega)
      obtain ⟨v2, c2⟩ := how1.cell (k * 4 + 2) (by omega)
      obtain ⟨v3, c3⟩ := how1.cell (k * 4 + 3) (by omega)
      have HPA : Hid _ := hpa1
      have HPU : Hid _ := hput
      clear h how how1 q0 q1 q2 q3 hnw hpa hns hpa1 hput hov ho
      go_wp2
      go_roundw
      case rel =>
        have tt : Turn (fun j => j = w.heap.size) w1 ((((w1.setCell ⟨w.heap.size, k * 4, none⟩ (.int .i64 ep)).setCell ⟨w.heap.size, k * 4 + 1, none⟩ (.int .i64 ki)).setCell ⟨w.heap.size, k * 4 + 2, none⟩ (.int .i64 pe)).setCell ⟨w.heap.size, k * 4 + 3, none⟩ (.slice (some ⟨g, 0, none⟩) m m)) := set4k w1 w.heap.size (k * 4) _ _ _ _
        refine ⟨k + 1, V' ++ [EkV.mk (Ek.mk ep ki pe xs) (some (Addr.mk g 0 none)) m], by omega, by go_num, by simp [HL'.out], HMp.out _ rfl, ?_, HPU.out, ?_⟩
        · exact hn2.before tt (by intro i hi e; omega)
        · exact (HPA.out.turn tt (by intro j h1 h2 e; omega)).up tt.size
      case measure => simp [intOf]; omega
    · go_wp2
      go_ret
      have hkn : k = n := by omega
      subst hkn
      rw [List.take_of_length_le (by have := HN.out; omega)] at hmap
      simp only [Nat.sub_self, List.replicate_zero, List.append_nil] at how
      have row := rowK_of how (Nat.le_refl _)
      rw [HL'.out] at row
      refine ⟨_, V', rfl, hmap, ⟨by rw [HL'.out]; exact row, ?_, hpa.low (by omega)⟩, hnw⟩
      intro j hj
      simp [Value.ownBlock] at hj
      have := how.lt
      omega

set_option maxRecDepth 100000 in
theorem open_entry_cells {H : Type} {enc : TypeId × Value → H} {W : World} {base fuel : Nat} {t1 : Nat → Bool} {t2 : Bool} {c9 c0 c1 c2 : Value} {y : DataW H × List MemPlace}
    (hf' : DataW.trod enc Tryz.prog W base t1 t2 fuel 94 [c9, c0, c1, c2] = some y) :
    ∃ (v : EkV), [c9, c0, c1, c2] = v.cs ∧ BsAt W v.a v.r.xs ∧ v.r.xs.length ≤ maxLen := by
  obtain ⟨yt, mt, _, rfl, hlt, hlent, hqt⟩ := DataW.trod_struct Tryz.underlying94 hf'
  match yt, hlent with
  | [u0, u1], _ =>
    have j0 := hqt 0 _ rfl
    have j1 := hqt 1 _ rfl
    simp [Tryz.cI9, Tryz.cEv9] at j0 j1
    obtain ⟨ep, e9, -, w9⟩ := DataW.trod_int Tryz.underlying2 j0
    simp only [List.cons.injEq, and_true] at e9
    subst e9
    obtain ⟨ys, m, _, rfl, hl, hlen, hq⟩ := DataW.trod_struct Tryz.underlying92 j1
    match ys, hlen with
    | [y0, y1, y2], _ =>
      have k0 := hq 0 _ rfl
      have k1 := hq 1 _ rfl
      have k2 := hq 2 _ rfl
      simp [Tryz.cI9, Tryz.cBs9] at k0 k1 k2
      obtain ⟨k, e0, -, w0⟩ := DataW.trod_int Tryz.underlying2 k0
      obtain ⟨q, e1, -, w1⟩ := DataW.trod_int Tryz.underlying2 k1
      simp only [List.cons.injEq, and_true] at e0 e1
      subst e0 e1
      have hb : ∃ (a : Option Addr) (n c : Nat), c2 = .slice a n c := by
        rcases open_ints Tryz.underlying66 Tryz.underlying5 (by kernel_rfl) k2 with ⟨hcs, _⟩ | ⟨x, l, c, zs, hcs, _⟩
        · simp only [List.cons.injEq, and_true] at hcs
          exact ⟨none, 0, 0, hcs⟩
        · simp only [List.cons.injEq, and_true] at hcs
          exact ⟨some x, l, c, hcs⟩
      obtain ⟨a, n, c, rfl⟩ := hb
      obtain ⟨zs, h1, h2, h3, h4⟩ := open_bytes (enc := enc) (W := W) (base := base) (t1 := t1) (t2 := t2) (a := a) (n := n) (c := c) (d := y2.1) (p := y2.2) ⟨m, by simpa [Value.cells] using k2⟩
      subst h2
      exact ⟨⟨⟨ep, k, q, zs⟩, a, c⟩, rfl, h1, h4⟩

set_option maxRecDepth 100000 in
theorem open_entries {H : Type} {enc : TypeId × Value → H} {W : World} {base fuel : Nat} {t1 : Nat → Bool} {t2 : Bool} {cs : List Value} {y : DataW H × List MemPlace}
    (hf : DataW.trod enc Tryz.prog W base t1 t2 fuel 30 cs = some y) : ∃ a n c V, cs = [.slice a n c] ∧ EkCame W a V ∧ V.length = n ∧ n ≤ maxLen := by
  rcases open_slice Tryz.underlying30 hf with ⟨hcs, _⟩ | ⟨x, l, cc, m, k, D, Pl, hcs, _, hl, hm, hmm, _, hall⟩
  · exact ⟨none, 0, 0, [], hcs, (by intro i v hv; simp at hv), rfl, Nat.zero_le _⟩
  · have hlm : l ≤ m := by rw [hmm]; split <;> omega
    have each : ∀ i, i < l → ∃ r : EkV, (∀ j, j < 4 → W.cell? (x.add (i * 4 + j)) = r.cs[j]?) ∧ BsAt W r.a r.r.xs ∧ r.r.xs.length ≤ maxLen := by
      intro i hi
      obtain ⟨cs', h1, h2⟩ := hall i (by omega)
      rw [Tryz.cEn10] at h1
      obtain ⟨_, hlen, hcell⟩ := World.cells?_some h1
      match cs', hlen with
      | [c0, c1, c2, c3], _ =>
        obtain ⟨r, hr, hcm⟩ := open_entry_cells h2
        refine ⟨r, fun j hj => ?_, hcm⟩
        have hc := hcell j (by omega)
        rw [add_add] at hc
        rw [hc, hr]
    refine ⟨some x, l, cc, (List.range l).map (fun i => if h : i < l then (each i h).choose else ek0), hcs, ?_, by simp, Nat.le_trans hl hm⟩
    obtain ⟨b, off, spot⟩ := x
    intro i q hq
    have hi : i < l := by
      have := (List.getElem?_eq_some_iff.1 hq).1
      simpa using this
    have hq' : q = (each i hi).choose := by
      rw [List.getElem?_map, List.getElem?_range hi] at hq
      simpa [hi] using hq.symm
    have hs := (each i hi).choose_spec
    rw [← hq'] at hs
    have hspot : spot = none := by
      obtain ⟨r0, hr0, -⟩ := each 0 (by omega)
      have h2 : W.cell? (Addr.add ⟨b, off, spot⟩ (0 * 4 + 0)) = some (.int .i64 r0.r.ep) := hr0 0 (by omega)
      simpa [Addr.add] using World.cell?_spot h2
    subst hspot
    refine ⟨⟨b, off, rfl, fun j hj => ?_⟩, hs.2⟩
    have := hs.1 j hj
    rw [Addr.add_lit] at this
    rw [Nat.add_assoc]
    exact this

end Go.Proofs.YtlkhmnjghdbmoaaGreatDoor
