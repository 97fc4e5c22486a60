/- What is proved here: what the library's joining of two lists of prefixes, and the program's taking back, answer. -/
import Derived.Test.YtljkcijakdhdiaaRdDel2
namespace Go.Proofs.Ytljkcijakdhdiaa
open Go.RowKit Go.Sort
set_option linter.unusedVariables false

set_option maxRecDepth 100000 in
set_option maxHeartbeats 1600000 in
theorem grow_nil (m : Nat) (w : World) (hm : m ≤ 4194304) :
    Calls Try.prog 109 #[.slice none 0 0, .int .i64 m] w fun e w' => ∃ v, e = .returned v ∧ w'.ownsRow w.heap.size 88 2 v 0 [] ∧ New w w' := by
  by_cases h0 : m = 0
  · subst h0
    go_enter Try.func109, Try.ntmps109
    go_wp2
    go_ret
    exact ⟨_, rfl, World.ownsRow_nil _ _ _ _, New.refl _⟩
  · obtain ⟨iP, hi, hz0, hz1, hz2⟩ := info_parts Try.infoPx
    have hge := grownCap_ge w m 0 88
    have hle := grownCap_le_maxLen w m 0 88 (by unfold maxLen; omega)
    have hrz : ∀ ty, (Builtin.append_ #[44, 3] ty #[.slice none 0 0, .int .i64 m]).run Try.prog w =
        .ok (.slice (some ⟨w.heap.size, 0, none⟩) m (grownCap w m 0 88)) (w.drew.alloc (.cells (([] : List Value).toArray ++ Builtin.zeroCells (Value.cells (.agg #[.int .i64 0, .int .i64 0])) m ++ Builtin.zeroCells (Value.cells (.agg #[.int .i64 0, .int .i64 0])) (grownCap w m 0 88 - m)) 88)) := fun ty => by
      have h := Lib.run_append_grow_zeros (P := Try.prog) w 44 3 ty 88 iP (.agg #[.int .i64 0, .int .i64 0]) .i64 .i64 Try.underlying44 Try.underlying3 hi hz0 none 0 0 [] (run_firstCells_none w.drew iP.size 0 0 0) m (by omega) (by omega) (by omega) (by omega) (by rw [hz2]; omega)
        (by rw [hz2]; exact growslice_fits (by omega) (by omega))
      simpa using h
    obtain ⟨G, hG⟩ : ∃ G, G = grownCap w m 0 88 := ⟨_, rfl⟩
    rw [← hG] at hge hle hrz
    have hsz : (([] : List Value).toArray ++ Builtin.zeroCells (Value.cells (.agg #[.int .i64 0, .int .i64 0])) m ++ Builtin.zeroCells (Value.cells (.agg #[.int .i64 0, .int .i64 0])) (G - m)).size = G * 2 := by
      have : (Value.cells (.agg #[.int .i64 0, .int .i64 0])).size = 2 := rfl
      simp only [Array.size_append, size_zeroCells, this]
      simp
      omega
    generalize (([] : List Value).toArray ++ Builtin.zeroCells (Value.cells (.agg #[.int .i64 0, .int .i64 0])) m ++ Builtin.zeroCells (Value.cells (.agg #[.int .i64 0, .int .i64 0])) (G - m)) = cur at *
    have hown : (w.drew.alloc (.cells cur 88)).ownsRow w.heap.size 88 2 (.slice (some ⟨w.heap.size, 0, none⟩) 0 G) 0 [] := ⟨rfl, .inr ⟨w.heap.size, G, cur, rfl, Nat.le_refl _, heap_alloc_new w.drew _, Nat.zero_le _, hle, hsz, by simp⟩⟩
    have hN : New w (w.drew.alloc (.cells cur 88)) := ((New.refl w).drew).alloc _
    unfold maxLen at hle
    clear hG hsz
    go_enter Try.func109, Try.ntmps109
    go_wp2_with (at_builtin; refine Lib.wpList_append_run _ rfl _ _ _ _ rfl _ _ rfl rfl _ _ (hrz _) ?_)
    all_goals (go_ret; exact ⟨_, rfl, hown, hN⟩)

section
variable {P : Program} {t e : TypeId} {i : TypeInfo}
/-- Appending prefixes, whatever their make, onto a list that the call owns. -/
theorem wpList_apQ (w : World) {ops : Array Oper} {rest : List Oper} {o : Oper} {a : Act} {Q : Exit → Act → World → Prop} (hgd : o.guard = none) (s x : Operand)
    (ho : o.op = .call { callee := .builtin .append, args := #[s, x], argTypes := #[t, t] }) (base : Nat) (ht : P.underlying t = some (.slice e)) (hi : P.info? e = some i) (hz : i.zero = some (.agg #[.int .i64 0, .int .i64 0])) (hs : i.size = 2) (hb : i.bytes = 16)
    (v : Value) (n : Nat) (xs : List (Int × Int)) (hsv : a.eval s = v) (hown : w.ownsRow base e 2 v n (cellsP xs))
    (ao : Option Addr) (m c : Nat) (zs : List (Int × Int)) (hxv : a.eval x = .slice ao m c) (hsrc : PsAt w ao zs) (hm : zs.length = m) (hnone : ao = none → m = 0 ∧ c = 0)
    (hle : n + m ≤ 4194304) (hbase : base ≤ w.heap.size)
    (h : ∀ v' w', w'.ownsRow base e 2 v' (n + m) (cellsP (xs ++ zs)) → w.grownBy w' v.ownBlock → wpList P ops Q rest (a.put o.dst v') w') : wpList P ops Q (o :: rest) a w := by
  refine wpList_plain hgd fun K hK => ?_
  cases ao with
  | none =>
    obtain ⟨rfl, rfl⟩ := hnone rfl
    obtain rfl : zs = [] := List.eq_nil_of_length_eq_zero hm
    have hr := run_append_owned_none (P := P) w base t o.type e i 2 ht hi v n _ hown
    unfold Oper.wp execOp
    simp only [ho, resolve, invoke, builtin, Sem.run_bind, Sem.run_pure, Result.andThen_ok, List.map_toArray, List.map_cons, List.map_nil, hsv, hxv, hr]
    exact hK _ _ (h v w (by simpa using hown) (World.grownBy.refl _ _))
  | some ad =>
    obtain ⟨v', w', hr, h2, h3, h4, h5⟩ := run_append_own_at (P := P) w base t o.type e i (.agg #[.int .i64 0, .int .i64 0]) 2 16 ht hi hz hs hb rfl (by decide) v n _ hown ad m c (cellsP zs) (by rw [cellsP_len, hm]) hsrc.src (cellsP_ones zs) (by unfold maxLen; omega) (by omega) hbase
    rw [← cellsP_append] at h2
    unfold Oper.wp execOp
    simp only [ho, resolve, invoke, builtin, Sem.run_bind, Sem.run_pure, Result.andThen_ok, List.map_toArray, List.map_cons, List.map_nil, hsv, hxv, hr]
    exact hK _ _ (h v' w' h2 h3)
end

theorem own_low {w : World} {base base' n : Nat} {v : Value} {xs : List Value} (h : w.ownsRow base 88 2 v n xs) (hb : base' ≤ base) : w.ownsRow base' 88 2 v n xs := by
  refine ⟨h.1, ?_⟩
  rcases h.2 with h' | ⟨g, cap, cur, hv, hg, r⟩
  · exact .inl h'
  · exact .inr ⟨g, cap, cur, hv, by omega, r⟩

set_option maxRecDepth 100000 in
set_option maxHeartbeats 1600000 in
theorem concat_two (B : Nat) (a1 a2 : Option Addr) (n1 c1 n2 c2 : Nat) (p1 p2 : List (Int × Int)) (w : World) (hB : w.heap[B]? = some (.cells #[.slice a1 n1 c1, .slice a2 n2 c2] 44 (0, 0)))
    (h1 : PsAt w a1 p1) (h2 : PsAt w a2 p2) (hn1 : p1.length = n1) (hn2 : p2.length = n2) (e1 : a1 = none → n1 = 0 ∧ c1 = 0) (e2 : a2 = none → n2 = 0 ∧ c2 = 0) (m1 : n1 ≤ 1048576) (m2 : n2 ≤ 1048576) :
    Calls Try.prog 100 #[.slice (some ⟨B, 0, none⟩) 2 2] w fun e w' => ∃ v, e = .returned v ∧ OwQ w' w.heap.size v (p1 ++ p2) ∧ New w w' := by
  obtain ⟨iP, hi, hz0, hz1, hz2⟩ := info_parts Try.infoPx
  have bB : Blk w B 44 #[.slice a1 n1 c1, .slice a2 n2 c2] := hB
  have cB := bB.cells
  have H1 : Hid (p1.length = n1) := hn1
  have H2 : Hid (p2.length = n2) := hn2
  clear hn1 hn2 hB
  go_enter Try.func100, Try.ntmps100
  go_wp2_with fail
  go_loopw [3, 5, 11] (fun s _ i wr => ∃ k sz : Nat, i = .int .i64 k ∧ s = .int .i64 sz ∧ New w wr ∧ Hid ((k = 0 ∧ sz = 0) ∨ (k = 1 ∧ sz = n1) ∨ (k = 2 ∧ sz = n1 + n2))) (fun _ _ k _ => 2 - (intOf k).toNat)
  case atStart => exact ⟨0, 0, rfl, rfl, New.refl _, .inl ⟨rfl, rfl⟩⟩
  case round =>
    obtain ⟨k, sz, rfl, rfl, hN, hk⟩ := hrel
    have cB := (bB.new hN).cells
    rcases hk.out with ⟨rfl, rfl⟩ | ⟨rfl, rfl⟩ | ⟨rfl, rfl⟩
    · go_wp2
      go_roundw
      case rel => exact ⟨1, n1, rfl, by go_num, hN, .inr (.inl ⟨rfl, rfl⟩)⟩
      case measure => simp [intOf]
    · go_wp2
      go_roundw
      case rel => exact ⟨2, sz + n2, rfl, by go_num, hN, .inr (.inr ⟨rfl, rfl⟩)⟩
      case measure => simp [intOf]
    · have hc : ((n1 + n2 : Nat) : Int) = (n1 : Int) + n2 := by omega
      go_wp2_with fail
      rw [← hc]
      refine (grow_nil (n1 + n2) _ (by omega)).mono ?_
      rintro e w1 ⟨v1, rfl, ho1, hN1⟩
      have ho1' : w1.ownsRow w.heap.size 88 2 v1 0 [] := own_low ho1 hN.size
      have M1 := hN.trans hN1
      clear cB hN hN1 ho1 hc
      go_wp2_with fail
      go_loopw [6, 8, 27] (fun v _ i wr => ∃ (k m : Nat) (L : List (Int × Int)), i = .int .i64 k ∧ wr.ownsRow w.heap.size 88 2 v m (cellsP L) ∧ New w wr ∧ Hid ((k = 0 ∧ m = 0 ∧ L = []) ∨ (k = 1 ∧ m = n1 ∧ L = p1) ∨ (k = 2 ∧ m = n1 + n2 ∧ L = p1 ++ p2))) (fun _ _ k _ => 2 - (intOf k).toNat)
      case atStart => exact ⟨0, 0, [], rfl, ho1', M1, .inl ⟨rfl, rfl, rfl⟩⟩
      case round =>
        clear ho1' M1 hk
        obtain ⟨k, m, L, rfl, ho, hN, hk⟩ := hrel
        have cB := (bB.new hN).cells
        have hblk := own_blk ho
        have hsz := hN.size
        rcases hk.out with ⟨rfl, rfl, rfl⟩ | ⟨rfl, rfl, rfl⟩ | ⟨rfl, rfl, rfl⟩
        · go_wp2_with (at_builtin; refine wpList_apQ _ rfl _ _ rfl w.heap.size Try.underlying44 hi hz0 hz1 hz2 _ 0 [] rfl ho a1 n1 c1 p1 rfl (h1.new hN) H1.out e1 (by omega) hsz ?_; intro v' w3 ho3 hgr)
          have N3 : New w w3 := hN.grow hgr hblk
          simp only [Nat.zero_add, List.nil_append] at ho3
          clear ho hgr
          go_wp2
          go_roundw
          case rel => exact ⟨1, n1, p1, rfl, ho3, N3, .inr (.inl ⟨rfl, rfl, rfl⟩)⟩
          case measure => simp [intOf]
        · go_wp2_with (at_builtin; refine wpList_apQ _ rfl _ _ rfl w.heap.size Try.underlying44 hi hz0 hz1 hz2 _ m L rfl ho a2 n2 c2 p2 rfl (h2.new hN) H2.out e2 (by omega) hsz ?_; intro v' w3 ho3 hgr)
          have N3 : New w w3 := hN.grow hgr hblk
          clear ho hgr
          go_wp2
          go_roundw
          case rel => exact ⟨2, m + n2, L ++ p2, rfl, ho3, N3, .inr (.inr ⟨rfl, rfl, rfl⟩)⟩
          case measure => simp [intOf]
        · go_wp2
          go_ret
          exact ⟨_, rfl, OwQ.of_own ho (by rw [List.length_append, H1.out, H2.out]), hN⟩

theorem OwQ.cut {w : World} {lo n c : Nat} {a : Option Addr} {L : List (Int × Int)} (h : OwQ w lo (.slice a n c) L) (i : Nat) (hi : i ≤ n) : OwQ w lo (.slice a i c) (L.take i) := by
  rcases h with ⟨h1, rfl⟩ | ⟨g, c', h1, h2, h3⟩
  · simp only [Value.slice.injEq] at h1
    obtain ⟨rfl, rfl, rfl⟩ := h1
    exact .inl ⟨by rw [Nat.le_zero.1 hi], by simp⟩
  · simp only [Value.slice.injEq] at h1
    obtain ⟨rfl, rfl, rfl⟩ := h1
    exact .inr ⟨g, c, by rw [List.length_take, Nat.min_eq_left hi], h2, by rw [List.length_take, Nat.min_eq_left hi]; exact h3.cut i hi⟩

theorem OwQ.turn {w w' : World} {lo : Nat} {v : Value} {L : List (Int × Int)} {S : Nat → Prop} (h : OwQ w lo v L) (t : Turn S w w') (hS : ∀ g, lo ≤ g → ¬ S g) : OwQ w' lo v L := by
  rcases h with h | ⟨g, c, h1, h2, h3⟩
  · exact .inl h
  · exact .inr ⟨g, c, h1, h2, h3.turn t (hS g h2)⟩

theorem OwQ.form {w : World} {lo : Nat} {v : Value} {L : List (Int × Int)} (h : OwQ w lo v L) : ∃ a c, v = .slice a L.length c ∧ (a = none → L.length = 0 ∧ c = 0) ∧ L.length ≤ c ∧ (∀ x, a = some x → ∃ g, x = ⟨g, 0, none⟩) := by
  rcases h with ⟨rfl, rfl⟩ | ⟨g, c, rfl, hg, ho⟩
  · exact ⟨none, 0, rfl, fun _ => ⟨rfl, rfl⟩, Nat.le_refl _, by intro x hx; cases hx⟩
  · refine ⟨_, c, rfl, (by intro h; cases h), ?_, (by intro x hx; exact ⟨g, (Option.some.inj hx).symm⟩)⟩
    rcases ho.2 with ⟨h', _⟩ | ⟨g', cap', cur, h', r1, r2, r3, _⟩
    · simp at h'
    · simp only [Value.slice.injEq, Option.some.injEq, Addr.mk.injEq, and_true, true_and] at h'
      obtain ⟨rfl, rfl⟩ := h'
      exact r3


set_option maxRecDepth 100000 in
set_option maxHeartbeats 1600000 in
theorem takenBack_any (a1 a2 : Option Addr) (n1 c1 n2 c2 : Nat) (p1 p2 : List (Int × Int)) (w : World) (h1 : PsAt w a1 p1) (h2 : PsAt w a2 p2) (hn1 : p1.length = n1) (hn2 : p2.length = n2) (e1 : a1 = none → n1 = 0 ∧ c1 = 0) (e2 : a2 = none → n2 = 0 ∧ c2 = 0) (m1 : n1 ≤ 1048576) (m2 : n2 ≤ 1048576) :
    Calls Try.prog 88 #[.slice a1 n1 c1, .slice a2 n2 c2] w fun e w' => ∃ a m c, e = .returned (.agg #[.int .i64 1, .bool true, .slice a m c, .bool false, .int .i64 0, .slice none 0 0, .int .i64 0, .int .i64 0, .int .i64 0, .slice none 0 0]) ∧ OwQ w' w.heap.size (.slice a m c) ((p1 ++ okL p2).take 8) ∧ New w w' := by
  have hw := (New.refl w).alloc (.cells #[.int .i64 0, .bool false, .slice none 0 0, .bool false, .int .i64 0, .slice none 0 0, .int .i64 0, .int .i64 0, .int .i64 0, .slice none 0 0] 93)
  have bR := Blk.mk w w.heap.size 93 #[.int .i64 0, .bool false, .slice none 0 0, .bool false, .int .i64 0, .slice none 0 0, .int .i64 0, .int .i64 0, .int .i64 0, .slice none 0 0] rfl
  have H1 : Hid (p1.length = n1) := hn1
  have H2 : Hid (p2.length = n2) := hn2
  have B1 : Hid (∀ p ∈ p1, In6 p.1 ∧ In6 p.2) := h1.bd
  have B2 : Hid (∀ p ∈ p2, In6 p.1 ∧ In6 p.2) := h2.bd
  -- what the copying and the cutting leave
  have key : ∀ W, New w W → Calls Try.prog 102 #[.slice a2 n2 c2] W fun e W1 => ∃ a n c, e = .returned (.slice a n c) ∧ New W W1 ∧
      Calls Try.prog 101 #[.slice a n c, .func (.func 86) #[] #[]] W1 fun e W2 => ∃ a' n' c', e = .returned (.slice a' n' c') ∧ PsAt W2 a' (okL p2) ∧ (okL p2).length = n' ∧ (a' = none → n' = 0 ∧ c' = 0) ∧ n' ≤ 1048576 ∧ New W W2 := by
    intro W hN
    cases a2 with
    | none =>
      obtain ⟨rfl, rfl⟩ := e2 rfl
      obtain rfl : p2 = [] := List.eq_nil_of_length_eq_zero H2.out
      refine (clone_nil W).mono ?_
      rintro e W1 ⟨rfl, rfl⟩
      refine ⟨none, 0, 0, rfl, New.refl _, ?_⟩
      refine (delete_nil W1).mono ?_
      rintro e W2 ⟨rfl, hn⟩
      exact ⟨none, 0, 0, rfl, PsAt.nil _ _, rfl, fun _ => ⟨rfl, rfl⟩, by omega, hn⟩
    | some ad =>
      refine (clone_row ad n2 c2 p2 W (h2.new hN) H2.out m2).mono ?_
      rintro e W1 ⟨g, c', rfl, hg, ho, hn⟩
      refine ⟨_, n2, c', rfl, hn, ?_⟩
      refine (delete_row g n2 c' p2 W1 ho B2.out m2).mono ?_
      rintro e W2 ⟨m, rfl, hm, ho2, ht⟩
      refine ⟨_, m, c', rfl, ho2.ps (fun p hp => B2.out p (List.mem_filter.1 hp).1), hm, (by intro h; cases h), ?_, hn.before ht (fun i hi e => by omega)⟩
      rw [← hm]
      have : (okL p2).length ≤ p2.length := List.length_filter_le _ _
      rw [H2.out] at this
      omega
  clear hn1 hn2 h2 e2
  go_enter Try.func88, Try.ntmps88
  go_wp2_with fail
  refine (key _ hw).mono ?_
  rintro e w1 ⟨a3, n3, c3, rfl, hn3, k3⟩
  clear key
  go_wp2_with fail
  refine k3.mono ?_
  rintro e w2 ⟨a4, n4, c4, rfl, hp4, hl4, e4, m4, hn4⟩
  have H4 : Hid ((okL p2).length = n4) := hl4
  have M2 := hw.trans hn4
  have bR2 := bR.new hn4
  have hal := (New.refl w2).alloc (.cells #[.slice a1 n1 c1, .slice a4 n4 c4] 44)
  have hB := Blk.mk w2 w2.heap.size 44 #[.slice a1 n1 c1, .slice a4 n4 c4] rfl
  clear hl4 k3 hn3
  go_wp2_with fail
  refine (concat_two w2.heap.size a1 a4 n1 c1 n4 c4 p1 (okL p2) _ hB ((h1.new M2).new hal) (hp4.new hal) H1.out H4.out e1 e4 m1 m4).mono ?_
  rintro e w3 ⟨v, rfl, hq, hn5⟩
  have M3 := (M2.trans hal).trans hn5
  have hs2 := (M2.trans hal).size
  have hs3 : w.heap.size + 1 ≤ (w2.alloc (.cells #[.slice a1 n1 c1, .slice a4 n4 c4] 44)).heap.size := by have := M2.size; simp; omega
  have hq' : OwQ w3 (w.heap.size + 1) v (p1 ++ okL p2) := hq.low hs3
  have bR3 := (bR2.new hal).new hn5
  obtain ⟨a5, c5, rfl, e5, l5, f5⟩ := hq'.form
  have HT : Hid ((p1 ++ okL p2).take 8 = (p1 ++ okL p2).take (if (8 : Int) < ((p1 ++ okL p2).length : Int) then 8 else (p1 ++ okL p2).length)) := by
    unfold Hid
    split
    · rfl
    · rw [List.take_of_length_le (by omega), List.take_of_length_le (Nat.le_refl _)]
  have hle : (if (8 : Int) < ((p1 ++ okL p2).length : Int) then 8 else (p1 ++ okL p2).length) ≤ (p1 ++ okL p2).length := by split <;> omega
  have hq8 := hq'.cut _ hle
  rw [← HT.out] at hq8
  have hlen : (p1 ++ okL p2).length ≤ 4194304 := by rw [List.length_append, H1.out, H4.out]; omega
  clear hq hq' hB hal hp4 hn4 hn5 hle
  generalize hLe : p1 ++ okL p2 = L at *
  have HLE : Hid (p1 ++ okL p2 = L) := hLe
  clear hLe
  generalize L.length = m at *
  have cR := bR3.cells
  have fR := bR3.frees
  have lR := bR3.lt
  by_cases h8 : (8 : Int) < (m : Int)
  · rw [if_pos h8] at hq8
    cases a5 with
    | none => have := (e5 rfl).1; omega
    | some x =>
      obtain ⟨g, rfl⟩ := f5 x rfl
      go_wp2
      refine bodyPost_ret (v := .agg #[.int .i64 1, .bool true, .slice (some ⟨g, 0, none⟩) 8 c5, .bool false, .int .i64 0, .slice none 0 0, .int .i64 0, .int .i64 0, .int .i64 0, .slice none 0 0]) (by simp [results, Try.results88, go_sem, cR]; omega) rfl ?_
      refine (fun (hT : Turn (fun k => k = w.heap.size) w3 _) => ⟨_, _, _, rfl, by rw [HLE.out]; exact (hq8.turn hT (fun g hg e => by omega)).low (Nat.le_succ _), M3.before hT (fun i hi e => by omega)⟩) ?_
      exact Turn.here (Turn.here (Turn.here (Turn.here (Turn.here (Turn.here (Turn.here (Turn.here (Turn.here (Turn.here (Turn.refl _ _) _) _) _) _) _) _) _) _) _) _
  · rw [if_neg h8] at hq8
    cases a5 with
    | none =>
      obtain ⟨rfl, rfl⟩ := e5 rfl
      go_wp2
      refine bodyPost_ret (v := .agg #[.int .i64 1, .bool true, .slice none 0 0, .bool false, .int .i64 0, .slice none 0 0, .int .i64 0, .int .i64 0, .int .i64 0, .slice none 0 0]) (by simp [results, Try.results88, go_sem, cR]; omega) rfl ?_
      refine (fun (hT : Turn (fun k => k = w.heap.size) w3 _) => ⟨_, _, _, rfl, by rw [HLE.out]; exact (hq8.turn hT (fun g hg e => by omega)).low (Nat.le_succ _), M3.before hT (fun i hi e => by omega)⟩) ?_
      exact Turn.here (Turn.here (Turn.here (Turn.here (Turn.here (Turn.here (Turn.here (Turn.here (Turn.here (Turn.here (Turn.refl _ _) _) _) _) _) _) _) _) _) _) _
    | some x =>
      obtain ⟨g, rfl⟩ := f5 x rfl
      go_wp2
      refine bodyPost_ret (v := .agg #[.int .i64 1, .bool true, .slice (some ⟨g, 0, none⟩) m c5, .bool false, .int .i64 0, .slice none 0 0, .int .i64 0, .int .i64 0, .int .i64 0, .slice none 0 0]) (by simp [results, Try.results88, go_sem, cR]; omega) rfl ?_
      refine (fun (hT : Turn (fun k => k = w.heap.size) w3 _) => ⟨_, _, _, rfl, by rw [HLE.out]; exact (hq8.turn hT (fun g hg e => by omega)).low (Nat.le_succ _), M3.before hT (fun i hi e => by omega)⟩) ?_
      exact Turn.here (Turn.here (Turn.here (Turn.here (Turn.here (Turn.here (Turn.here (Turn.here (Turn.here (Turn.here (Turn.refl _ _) _) _) _) _) _) _) _) _) _) _

end Go.Proofs.Ytljkcijakdhdiaa
