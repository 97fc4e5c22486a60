/- What is proved here: what the counting, the copying and the comparing of lists of routes answer, for every list of at most 1048576 routes with paths of at most 1048576 numbers. -/
import Derived.Test.YtjampcfikfafkaaGreatR7Own
import Derived.Test.YtjampcfikfafkaaGreatR7Open
import Derived.Deep.CutRange
namespace Go.Proofs.YtjampcfikfafkaaGreat
open Go.RowKit Go.Sort
set_option linter.unusedVariables false

theorem set8 (w : World) (B j : Nat) (v0 v1 v2 v3 v4 v5 v6 v7 : Value) : Turn (fun k => k = B) w ((((((((w.setCell ⟨B, j, none⟩ v0).setCell ⟨B, j + 1, none⟩ v1).setCell ⟨B, j + 2, none⟩ v2).setCell ⟨B, j + 3, none⟩ v3).setCell ⟨B, j + 4, none⟩ v4).setCell ⟨B, j + 5, none⟩ v5).setCell ⟨B, j + 6, none⟩ v6).setCell ⟨B, j + 7, none⟩ v7) :=
  ((((((((Turn.refl (fun k => k = B) w).set (p := ⟨B, j, none⟩) rfl v0).set (p := ⟨B, j + 1, none⟩) rfl v1).set (p := ⟨B, j + 2, none⟩) rfl v2).set (p := ⟨B, j + 3, none⟩) rfl v3).set (p := ⟨B, j + 4, none⟩) rfl v4).set (p := ⟨B, j + 5, none⟩) rfl v5).set (p := ⟨B, j + 6, none⟩) rfl v6).set (p := ⟨B, j + 7, none⟩) rfl v7

theorem RtCame.new {w w' : World} {A : Option Addr} {V : List Rv} (h : RtCame w A V) (t : New w w') : RtCame w' A V := by
  intro i v hv
  obtain ⟨⟨b, off, ha, hc⟩, h1, h2⟩ := h i v hv
  have h0 : w.cell? ⟨b, off + i * 8, none⟩ = some (.int .i64 v.r.p) := hc 0 (by omega)
  have hb' := t.block b (World.block_lt_of_cell? w _ h0) (fun f => f)
  exact ⟨⟨b, off, ha, fun j hj => (World.cell?_of_block hb').trans (hc j hj)⟩, h1.new t, h2⟩
theorem RtCame.at {w : World} {A : Option Addr} {V : List Rv} (h : RtCame w A V) (i : Nat) (hi : i < V.length) :
    ∃ (b off : Nat) (p a l o nx md lc : Int) (x : Option Addr) (n c : Nat) (xs : List Int), A = some ⟨b, off, none⟩ ∧ V[i]? = some ⟨⟨p, a, l, o, xs, nx, md, lc⟩, x, c⟩ ∧ xs.length = n ∧ NsAt w x xs ∧ (x = none → n = 0 ∧ c = 0) ∧ n ≤ maxLen ∧ w.cell? ⟨b, off + i * 8, none⟩ = some (.int .i64 p) ∧ w.cell? ⟨b, off + i * 8 + 1, none⟩ = some (.int .i64 a) ∧ w.cell? ⟨b, off + i * 8 + 2, none⟩ = some (.int .i64 l) ∧ w.cell? ⟨b, off + i * 8 + 3, none⟩ = some (.int .i64 o) ∧ w.cell? ⟨b, off + i * 8 + 4, none⟩ = some (.slice x n c) ∧ w.cell? ⟨b, off + i * 8 + 5, none⟩ = some (.int .i64 nx) ∧ w.cell? ⟨b, off + i * 8 + 6, none⟩ = some (.int .i64 md) ∧ w.cell? ⟨b, off + i * 8 + 7, none⟩ = some (.int .i64 lc) := by
  obtain ⟨⟨b, off, h1, h2⟩, hh⟩ := h i _ (List.getElem?_eq_getElem hi)
  exact ⟨b, off, _, _, _, _, _, _, _, _, _, _, _, h1, List.getElem?_eq_getElem hi, rfl, hh.1, hh.2.1, hh.2.2, h2 0 (by omega), h2 1 (by omega), h2 2 (by omega), h2 3 (by omega), h2 4 (by omega), h2 5 (by omega), h2 6 (by omega), h2 7 (by omega)⟩
theorem RtCame.rt {w : World} {A : Option Addr} {V : List Rv} (h : RtCame w A V) (hb : ∀ v ∈ V, v.r.xs.length ≤ 1048576) : RtAt w A V := by
  intro i v hv
  obtain ⟨h1, h2, h3, -⟩ := h i v hv
  exact ⟨h1, h2, h3, hb v (List.mem_of_getElem? hv)⟩

set_option maxHeartbeats 3200000 in
theorem szRts_any (A : Option Addr) (n c : Nat) (V : List Rv) (w : World) (h : RtCame w A V) (hn : V.length = n) (hm : n ≤ maxLen) :
    Calls Tryz.prog 12 #[.slice A n c, .int .i64 1048576] w fun e w' => (∃ z : Int, e = .returned (.int .i64 z) ∧ (z = -1 ∨ (0 ≤ z ∧ z ≤ 1048576 ∧ n ≤ 1048576 ∧ ∀ v ∈ V, v.r.xs.length ≤ 1048576))) ∧ New w w' := by
  have HN : Hid (V.length = n) := hn
  unfold maxLen at hm
  clear hn
  by_cases hbig : 1048576 < n
  case pos =>
    go_enter Tryz.func12, Tryz.ntmps12
    go_wp2
    go_ret
    exact ⟨⟨_, rfl, .inl rfl⟩, New.refl _⟩
  have hm' : n ≤ 1048576 := by omega
  clear hm hbig
  go_enter Tryz.func12, Tryz.ntmps12
  go_wp2
  go_loopw [1, 5] (fun t i wr => ∃ (k : Nat) (z : Int), k ≤ n ∧ 0 ≤ z ∧ z ≤ 1048576 ∧ t = .int .i64 z ∧ i = .int .i64 k ∧ New w wr ∧ ∀ v ∈ V.take k, v.r.xs.length ≤ 1048576) (fun _ i _ => n - (intOf i).toNat)
  case atStart => exact ⟨0, _, Nat.zero_le _, by omega, by omega, rfl, rfl, New.refl _, by simp⟩
  case round =>
    obtain ⟨k, z, hk, hz0, hz1, rfl, rfl, hnw, hall⟩ := hrel
    by_cases hlt : k < n
    · obtain ⟨b, off, p, a, l, o, nx, md, lc, x, m, d, xs, rfl, hv, hlen, hns, hnl, hmx, q0, q1, q2, q3, q4, q5, q6, q7⟩ := (h.new hnw).at k (by have := HN.out; omega)
      have HL : Hid (xs.length = m) := hlen
      have hall' : m ≤ 1048576 → ∀ v ∈ V.take (k + 1), v.r.xs.length ≤ 1048576 := by
        intro hmm v hv'
        obtain ⟨hk', e⟩ := List.getElem?_eq_some_iff.1 hv
        rw [List.take_succ_eq_append_getElem hk', e] at hv'
        rcases List.mem_append.1 hv' with h1 | h1
        · exact hall v h1
        · obtain rfl := List.mem_singleton.1 h1
          rw [show (Rv.r ⟨⟨p, a, l, o, xs, nx, md, lc⟩, x, d⟩).xs.length = m from HL.out]; exact hmm
      clear hv hlen hns hnl h hall
      by_cases hfit : (m : Int) ≤ z
      · go_wp2_with fail
        refine (szRt_okZ p a l o nx md lc x m d z _ hz0 hz1 hfit).mono ?_
        rintro e w1 ⟨rfl, hn1⟩
        clear q0 q1 q2 q3 q4 q5 q6 q7
        go_wp2
        go_roundw
        case rel => exact ⟨k + 1, z - m, by omega, by omega, by omega, rfl, by go_num, hnw.trans hn1, hall' (by omega)⟩
        case measure => simp [intOf]; omega
      · go_wp2_with fail
        refine (szRt_bigZ p a l o nx md lc x m d z _ hz0 hz1 hmx (by omega)).mono ?_
        rintro e w1 ⟨rfl, hn1⟩
        clear q0 q1 q2 q3 q4 q5 q6 q7
        go_wp2
        go_ret
        exact ⟨⟨_, rfl, .inl rfl⟩, hnw.trans hn1⟩
    · go_wp2
      go_ret
      refine ⟨⟨_, rfl, .inr ⟨hz0, hz1, hm', ?_⟩⟩, hnw⟩
      rw [List.take_of_length_le (by have := HN.out; omega)] at hall
      exact hall

set_option maxHeartbeats 6400000 in
theorem toRts_any (A : Option Addr) (n c : Nat) (V : List Rv) (w : World) (h : RtAt w A V) (hn : V.length = n) (hm : n ≤ 1048576) :
    Calls Tryz.prog 14 #[.slice A n c] w fun e w' => ∃ g V', e = .returned (.slice (some ⟨g, 0, none⟩) n n) ∧ V'.map Rv.r = V.map Rv.r ∧ OwT w' w.heap.size w'.heap.size (.slice (some ⟨g, 0, none⟩) n n) V' ∧ New w w' := by
  have HN : Hid (V.length = n) := hn
  clear hn
  obtain ⟨i0, hi, hz0, hz1, hz2⟩ := info_parts Tryz.infoRt
  go_enter Tryz.func14, Tryz.ntmps14
  go_wp2_with (at_make; refine wpList_make_full _ rfl _ _ 24 rfl w.heap.size 38 i0 (.agg #[.int .i64 0, .int .i64 0, .int .i64 0, .int .i64 0, .slice none 0 0, .int .i64 0, .int .i64 0, .int .i64 0]) 8 Tryz.underlying24 hi hz0 hz1 _ _ _ _ n rfl rfl rfl rfl ?b2 ?b3 (Nat.le_refl _) ?_)
  case b2 => rw [hz2]; omega
  case b3 => unfold maxLen; omega
  intro w0 hown0 hgrow0
  have hown : OwRow w0 w.heap.size n n ([] ++ List.replicate (n - 0) rv0) := by
    have := own_base hown0
    have e8 := made_rv n
    simp only [OwRow, List.nil_append, Nat.sub_zero]
    rw [← e8]
    exact this
  have hnew := New.of_grown hgrow0
  clear hown0 hgrow0
  go_wp2
  go_loopw [4] (fun i wr => ∃ (k : Nat) (V' : List Rv), k ≤ n ∧ i = .int .i64 k ∧ V'.length = k ∧ V'.map Rv.r = (V.take k).map Rv.r ∧ New w wr ∧ OwRow wr w.heap.size n n (V' ++ List.replicate (n - k) rv0) ∧ PathsT wr (w.heap.size + 1) wr.heap.size V') (fun i _ => n - (intOf i).toNat)
  case atStart => exact ⟨0, [], Nat.zero_le _, rfl, rfl, rfl, hnew, hown, PathsT.nil _ _ _⟩
  case round =>
    obtain ⟨k, V', hk, rfl, hl', hmap, hnw, how, hpa⟩ := hrel
    have HL' : Hid (V'.length = k) := hl'
    clear hl'
    by_cases hlt : k < n
    · obtain ⟨b, off, p, a, l, o, nx, md, lc, x, m, d, xs, rfl, hv, hlen, hns, hnl, hmx, q0, q1, q2, q3, q4, q5, q6, q7⟩ := (h.new hnw).at k (by have := HN.out; omega)
      have HL : Hid (xs.length = m) := hlen
      have hbd : Hid (∀ z ∈ xs, In6 z) := hns.bd
      have HM : Hid (∀ u : Rv, u.r = ⟨p, a, l, o, xs, nx, md, lc⟩ → (V' ++ [u]).map Rv.r = (V.take (k + 1)).map Rv.r) := by
        intro u hu
        obtain ⟨hk', e⟩ := List.getElem?_eq_some_iff.1 hv
        rw [List.take_succ_eq_append_getElem hk', e, List.map_append, List.map_append, hmap]
        simp [hu]
      have hgl : w.heap.size < wr.heap.size := how.lt
      clear hv hlen hmap
      go_wp2_with fail
      refine (toRt_any p a l o nx md lc x m d xs _ hns HL.out hmx).mono ?_
      rintro e w1 ⟨g, rfl, hg, ho, hn1⟩
      have how1 := how.new hn1
      have hput := how1.put k ⟨⟨p, a, l, o, xs, nx, md, lc⟩, some ⟨g, 0, none⟩, m⟩
      rw [set_fillT V' k n HL'.out hlt] at hput
      simp only [HL.out] at hput
      have hov : OvN w1 wr.heap.size (Rv.pv ⟨⟨p, a, l, o, xs, nx, md, lc⟩, some ⟨g, 0, none⟩, m⟩) xs := by
        have := ho.ov7.low hg
        unfold Rv.pv
        simp only [HL.out]
        exact this
      have hpa1 := (hpa.new hn1).snoc ⟨⟨p, a, l, o, xs, nx, md, lc⟩, some ⟨g, 0, none⟩, m⟩ hov hbd.out (by simp only [HL.out]; exact hmx) (by omega) hn1.size (Nat.le_refl _)
      have hn2 := hnw.trans hn1
      have f0 := fun j => World.ownsRow.frozenAt how1 j
      obtain ⟨v0, c0⟩ := how1.cell (k * 8) (by omega)
      obtain ⟨v1, c1⟩ := how1.cell (k * 8 + 1) (by omega)
      obtain ⟨v2, c2⟩ := how1.cell (k * 8 + 2) (by omega)
      obtain ⟨v3, c3⟩ := how1.cell (k * 8 + 3) (by omega)
      obtain ⟨v4, c4⟩ := how1.cell (k * 8 + 4) (by omega)
      obtain ⟨v5, c5⟩ := how1.cell (k * 8 + 5) (by omega)
      obtain ⟨v6, c6⟩ := how1.cell (k * 8 + 6) (by omega)
      obtain ⟨v7, c7⟩ := how1.cell (k * 8 + 7) (by omega)
      have HPA : Hid _ := hpa1
      have HPU : Hid _ := hput
      clear h how how1 q0 q1 q2 q3 q4 q5 q6 q7 hnw hpa hns hnl hpa1 hput hov ho
      go_wp2
      go_roundw
      case rel =>
        have tt : Turn (fun j => j = w.heap.size) w1 ((((((((w1.setCell ⟨w.heap.size, k * 8, none⟩ (.int .i64 p)).setCell ⟨w.heap.size, k * 8 + 1, none⟩ (.int .i64 a)).setCell ⟨w.heap.size, k * 8 + 2, none⟩ (.int .i64 l)).setCell ⟨w.heap.size, k * 8 + 3, none⟩ (.int .i64 o)).setCell ⟨w.heap.size, k * 8 + 4, none⟩ (.slice (some ⟨g, 0, none⟩) m m)).setCell ⟨w.heap.size, k * 8 + 5, none⟩ (.int .i64 nx)).setCell ⟨w.heap.size, k * 8 + 6, none⟩ (.int .i64 md)).setCell ⟨w.heap.size, k * 8 + 7, none⟩ (.int .i64 lc)) := set8 w1 w.heap.size (k * 8) _ _ _ _ _ _ _ _
        refine ⟨k + 1, V' ++ [Rv.mk (Rt.mk p a l o xs nx md lc) (some (Addr.mk g 0 none)) m], by omega, by go_num, by simp [HL'.out], HM.out _ rfl, ?_, HPU.out, ?_⟩
        · exact hn2.before tt (by intro i hi e; omega)
        · exact (HPA.out.turn tt (by intro j h1 h2 e; omega)).up tt.size
      case measure => simp [intOf]; omega
    · go_wp2
      go_ret
      have hkn : k = n := by omega
      subst hkn
      rw [List.take_of_length_le (by have := HN.out; omega)] at hmap
      simp only [Nat.sub_self, List.replicate_zero, List.append_nil] at how
      refine ⟨_, V', rfl, hmap, ⟨row_of7 how (Nat.le_refl _), ?_, hpa.low (by omega)⟩, hnw⟩
      intro j hj
      simp [Value.ownBlock] at hj
      have := how.lt
      omega

set_option maxHeartbeats 3200000 in
theorem eqRts_any (A B : Option Addr) (n c e0 : Nat) (V U : List Rv) (w : World) (hF : RtAt w A V) (hG : RtAt w B U) (hVU : V.map Rv.r = U.map Rv.r) (hn : V.length = n) (hm : n ≤ 1048576) :
    Calls Tryz.prog 17 #[.slice A n c, .slice B n e0] w fun e w' => e = .returned (.bool true) ∧ New w w' := by
  have hnn : ((n : Int) != (n : Int)) = false := by simp
  have HN : Hid (V.length = n) := hn
  have HU : Hid (V.map Rv.r = U.map Rv.r) := hVU
  have HUN : Hid (U.length = n) := by
    have := congrArg List.length hVU
    simp at this
    show U.length = n
    omega
  clear hn hVU
  go_enter Tryz.func17, Tryz.ntmps17
  go_wp2
  go_loopw [5] (fun i wr => ∃ k : Nat, k ≤ n ∧ i = .int .i64 k ∧ New w wr) (fun i _ => n - (intOf i).toNat)
  case atStart => exact ⟨0, Nat.zero_le _, rfl, New.refl _⟩
  case round =>
    obtain ⟨k, hk, rfl, hnw⟩ := hrel
    by_cases hlt : k < n
    · obtain ⟨g1, o1, p, a, l, o, nx, md, lc, x, m, d, xs, rfl, hp1, hl1, hx1, -, hmx, x0, x1, x2, x3, x4, x5, x6, x7⟩ := (hF.new hnw).at k (by have := HN.out; omega)
      obtain ⟨g2, o2, p', a', l', o', nx', md', lc', x', m', d', xs', rfl, hp2, hl2, hx2, -, hmx', y0, y1, y2, y3, y4, y5, y6, y7⟩ := (hG.new hnw).at k (by have := HUN.out; omega)
      have hh : (⟨p, a, l, o, xs, nx, md, lc⟩ : Rt) = ⟨p', a', l', o', xs', nx', md', lc'⟩ := by
        have h1 : (V.map Rv.r)[k]? = some ⟨p, a, l, o, xs, nx, md, lc⟩ := by rw [List.getElem?_map, hp1]; rfl
        have h2 : (U.map Rv.r)[k]? = some ⟨p', a', l', o', xs', nx', md', lc'⟩ := by rw [List.getElem?_map, hp2]; rfl
        rw [HU.out, h2] at h1
        exact (Option.some.inj h1).symm
      simp only [Rt.mk.injEq] at hh
      obtain ⟨rfl, rfl, rfl, rfl, rfl, rfl, rfl, rfl⟩ := hh
      obtain rfl : m = m' := hl1.symm.trans hl2
      have HL : Hid (xs.length = m) := hl1
      clear hp1 hp2 hF hG hl1 hl2
      have X0 := cell_regrown x0
      have X1 := cell_regrown x1
      have X2 := cell_regrown x2
      have X3 := cell_regrown x3
      have X4 := cell_regrown x4
      have X5 := cell_regrown x5
      have X6 := cell_regrown x6
      have X7 := cell_regrown x7
      have Y0 := cell_regrown y0
      have Y1 := cell_regrown y1
      have Y2 := cell_regrown y2
      have Y3 := cell_regrown y3
      have Y4 := cell_regrown y4
      have Y5 := cell_regrown y5
      have Y6 := cell_regrown y6
      have Y7 := cell_regrown y7
      go_wp2_with fail
      refine wp_region_quiet_below (by kernel_rfl) (by kernel_rfl) ?_
      repeat (go_big_quiet_step ((go_at_call 50; exact calls_regrown (eqRt_any p a l o nx md lc x x' m d d' xs _ (hx1.new (new_regrown _ _ _)) (hx2.new (new_regrown _ _ _)) HL.out hmx))))
      refine wpQuiet_nil ?_
      rintro w1 hn1
      replace hn1 := new_of_regrown hn1
      go_wp2
      go_roundw
      case rel => exact ⟨k + 1, by omega, by go_num, hnw.trans hn1⟩
      case measure => simp [intOf]; omega
    · go_wp2
      go_ret
      exact ⟨rfl, hnw⟩

end Go.Proofs.YtjampcfikfafkaaGreat
