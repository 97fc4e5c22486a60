/- What is proved here: what the model's reading of prefixes out of bytes answers, for every list of at most 1048576 bytes, three a prefix. What is proved here: what the model's taking back answers, for lists of at most 1048576 prefixes. What is proved here: what the model's reading of attributes answers. What is proved here: what the model's reading of an update answers where nothing of it can be read. What is proved here: what the model's reading of an update answers, for every list of at most 1048576 bytes. What is proved here: what the model's reading of an update answers, for every list of at most 1048576 bytes: all of it. -/
import Derived.Test.YtljkcijakdhdiaaRA3
import Derived.Test.YtljkcijakdhdiaaRdImpl
import Derived.Deep.RegionLaw
namespace Go.Proofs.Ytljkcijakdhdiaa
open Go.RowKit Go.Sort
set_option linter.unusedVariables false

section
variable {P : Program} {t e : TypeId} {i : TypeInfo}
/-- Appending one prefix, at a drawn step, onto a list that the call owns. -/
theorem step_apR (w : World) {ops : Array Oper} {o : Oper} {a : Act} {K : Act → World → Prop} {Q : Exit → Act → World → Prop} {E : Prop} (hgd : o.guard = none) (s x : Operand)
    (ho : o.op = .call { callee := .builtin .append, args := #[s, x], argTypes := #[t, t] }) (base : Nat) (ht : P.underlying t = some (.slice e)) (hi : P.info? e = some i) (hz : i.zero = some (.agg #[.int .i64 0, .int .i64 0])) (hs : i.size = 2) (hb : i.bytes = 16)
    (v : Value) (n : Nat) (xs : List Value) (hsv : a.eval s = v) (hown : w.ownsRow base e 2 v n xs)
    (ad : Addr) (p q : Int) (hxv : a.eval x = .slice (some ad) 1 1) (h0 : w.cell? (ad.add 0) = some (.int .i64 p)) (h1 : w.cell? (ad.add 1) = some (.int .i64 q))
    (hle : n + 1 ≤ 4194304) (hbase : base ≤ w.heap.size)
    (h : ∀ v' w', w'.ownsRow base e 2 v' (n + 1) (xs ++ [.int .i64 p, .int .i64 q]) → w.grownBy w' v.ownBlock → K (a.put o.dst v') w') :
    if Region.wanted o (yielded ops a.tmps) = true then Oper.wp P o a w K Q else E := by
  have hw : Region.wanted o (yielded ops a.tmps) = true := by simp [Region.wanted, hgd]
  rw [if_pos hw]
  have hnews : ∀ j y, [Value.int .i64 p, Value.int .i64 q][j]? = some y → w.cell? (ad.add j) = some y := by
    intro j y hy
    match j, hy with
    | 0, hy => simp at hy; subst hy; exact h0
    | 1, hy => simp at hy; subst hy; exact h1
  obtain ⟨v', w', hr, h2, h3, _, _⟩ := run_append_own_at (P := P) w base t o.type e i (.agg #[.int .i64 0, .int .i64 0]) 2 16 ht hi hz hs hb rfl (by decide) v n xs hown ad 1 1 [.int .i64 p, .int .i64 q] rfl hnews (by simp [Value.oneCell']) (by unfold maxLen; omega) (by omega) hbase
  unfold Oper.wp execOp
  simp only [ho, resolve, invoke, builtin, Sem.run_bind, Sem.run_pure, Result.andThen_ok, List.map_toArray, List.map_cons, List.map_nil, hsv, hxv, hr]
  exact h v' w' h2 h3
end

set_option maxRecDepth 100000 in
set_option maxHeartbeats 1600000 in
theorem l3Read_any (a : Option Addr) (k c : Nat) (zs : List Int) (w : World) (h : BsAt w a zs) (hn : zs.length = k * 3) (hm : k * 3 ≤ 1048576) :
    Calls Try.prog 77 #[.slice a (k * 3) c] w fun e w' => ∃ v, e = .returned v ∧ OwQ w' w.heap.size v (rdP zs) ∧ New w w' := by
  obtain ⟨iP, hi, hz0, hz1, hz2⟩ := info_parts Try.infoPx
  have HN : Hid (zs.length = k * 3) := hn
  have HL : Hid ((rdP zs).length = k) := rdP_len k zs hn
  have hw := (New.refl w).alloc (.cells #[] 88)
  have hlit : (w.alloc (.cells #[] 88)).ownsRow w.heap.size 88 2 (.slice (some ⟨w.heap.size, 0, none⟩) 0 0) 0 [] := ⟨rfl, .inr ⟨w.heap.size, 0, #[], rfl, Nat.le_refl _, heap_alloc_new w _, Nat.le_refl _, by decide, rfl, rfl⟩⟩
  clear hn
  go_enter Try.func77, Try.ntmps77
  go_wp2
  go_loopw [3, 4] (fun s i wr => ∃ (j : Nat) (v : Value), Hid (v = s) ∧ j ≤ k ∧ i = .int .i64 ((j * 3 : Nat) : Int) ∧ wr.ownsRow w.heap.size 88 2 v j (cellsP (rdP (zs.take (j * 3)))) ∧ New w wr) (fun _ i _ => k * 3 - (intOf i).toNat)
  case atStart => exact ⟨0, _, rfl, Nat.zero_le _, rfl, hlit, hw⟩
  case round =>
    clear hlit hw
    obtain ⟨j, v, hv, hj, rfl, ho, hnw⟩ := hrel
    have hv' := hv.out
    subst hv'
    clear hv
    by_cases hlt : j < k
    · obtain ⟨b, off, z0, ha, e0, c0, l0, u0⟩ := (h.new hnw).at (j * 3) (by rw [HN.out]; omega)
      have ha' := ha
      subst ha'
      obtain ⟨b1, off1, z1, ha1, e1, c1, l1, u1⟩ := (h.new hnw).at (j * 3 + 1) (by rw [HN.out]; omega)
      obtain ⟨b2, off2, z2, ha2, e2, c2, l2, u2⟩ := (h.new hnw).at (j * 3 + 2) (by rw [HN.out]; omega)
      simp only [Option.some.injEq, Addr.mk.injEq, and_true] at ha2
      obtain ⟨rfl, rfl⟩ := ha2
      have hnum := numAt_two e0 e1
      have hT : Hid (rdP (zs.take ((j + 1) * 3)) = rdP (zs.take (j * 3)) ++ [(z0 * 256 + z1, z2)]) := by
        unfold Hid
        rw [show (j + 1) * 3 = j * 3 + 3 by omega, take3 e0 e1 e2]
        exact rdP_snoc j _ _ _ _ (by rw [List.length_take, HN.out]; omega)
      have hwz : IntKind.i64.wrap z2 = z2 := by simp [IntKind.wrap, IntKind.signed, IntKind.bits]; omega
      have hwt : IntKind.i64.wrap ((j : Int) * 3 + 2) = (j : Int) * 3 + 2 := by simp [IntKind.wrap, IntKind.signed, IntKind.bits]; omega
      have htn : ((j : Int) * 3 + 2).toNat = j * 3 + 2 := by omega
      have hb0 : 0 ≤ (j : Int) * 3 + 2 := by omega
      have hb1 : (j : Int) * 3 + 2 < (k : Int) * 3 := by omega
      have hlt3 : ((j * 3 : Nat) : Int) + 3 ≤ ((k * 3 : Nat) : Int) := by omega
      have hblk := own_blk ho
      have hsz := hnw.size
      generalize hA : z0 * 256 + z1 = A at *
      have HA : Hid (numAt zs (j * 3) 2 = A) := hnum
      have hbn := h.new hnw
      clear e0 e1 e2 ha ha1 c0 c1 hnum hA
      go_wp2_with fail
      go_region_law (first
        | (refine step_apR _ rfl (.tmp 13) (.tmp 24) rfl w.heap.size Try.underlying44 hi hz0 hz1 hz2 v j _ rfl ((own_turnQ ho N1).alloc _) ⟨_, 0, none⟩ A z2 rfl (by simp [Addr.add]) (by simp [Addr.add]) (by omega) (by first | omega | (simp; omega)) ?_; intro v' w3 ho3 hgr3)
        | (go_simp; go_at_call 38; refine (take_any _ (k * 3) c (j * 3) 2 zs _ (hbn.new ((New.refl _).drew)) HN.out hm (by omega) (by omega)).mono ?_; rintro e w1 ⟨rfl, hw1⟩; (rw [HA.out]); have N1 : New wr w1 := (by rw [hw1]; exact (New.refl _).drew); have c2' : w1.cell? ⟨b, off + (j * 3 + 2), none⟩ = some (.int .u8 z2) := (by rw [hw1]; exact c2); have s1 := N1.size; clear hw1))
      all_goals
        have N3 : New w w3 := ((hnw.trans N1).alloc _).grow hgr3 hblk
        have hrow : w3.ownsRow w.heap.size 88 2 v' (j + 1) (cellsP (rdP (zs.take ((j + 1) * 3)))) := by rw [hT.out, cellsP_append]; exact ho3
        clear ho3 hgr3 ho hbn
        go_wp2
        go_roundw
        case rel => exact ⟨j + 1, _, rfl, by omega, by go_num, hrow, N3⟩
        case measure => simp [intOf]; omega
    · obtain rfl : j = k := by omega
      go_wp2
      go_ret
      rw [List.take_of_length_le (by rw [HN.out]; omega)] at ho
      exact ⟨_, rfl, OwQ.of_own ho HL.out, hnw⟩

end Go.Proofs.Ytljkcijakdhdiaa

namespace Go.Proofs.Ytljkcijakdhdiaa
open Go.RowKit Go.Sort
set_option linter.unusedVariables false

theorem own_slice {w : World} {base n : Nat} {v : Value} {xs : List Value} (h : w.ownsRow base 88 2 v n xs) : ∃ a c, v = .slice a n c ∧ (∀ x, a = some x → base ≤ x.block ∧ x.block < w.heap.size) := by
  rcases h.2 with ⟨rfl, rfl⟩ | ⟨g, cap, cur, rfl, hb, hh, _⟩
  · exact ⟨none, 0, rfl, (by intro x hx; cases hx)⟩
  · refine ⟨_, cap, rfl, ?_⟩
    intro x hx
    obtain rfl := Option.some.inj hx
    exact ⟨hb, (Array.getElem?_eq_some_iff.1 hh).1⟩

theorem PsAt.grown {w w' : World} {a : Option Addr} {ps : List (Int × Int)} {row : Option Nat} (h : PsAt w a ps) (hg : w.grownBy w' row) (hne : ∀ x, a = some x → row ≠ some x.block) : PsAt w' a ps := by
  intro i p hp
  obtain ⟨b, off, ha, hc, hd, hb⟩ := h i p hp
  have hb' := hg.block b (World.block_lt_of_cell? w _ hc) (fun e => hne _ ha e.symm)
  exact ⟨b, off, ha, (World.cell?_of_block hb').trans hc, (World.cell?_of_block hb').trans hd, hb⟩
theorem own_setQ {w : World} {base n : Nat} {v : Value} {xs : List Value} {p : Addr} {u : Value} (h : w.ownsRow base 88 2 v n xs) (hp : p.block < base) : (w.setCell p u).ownsRow base 88 2 v n xs := by
  refine ⟨h.1, ?_⟩
  rcases h.2 with h' | ⟨g', cap', cur, h', hb, hh, r⟩
  · exact .inl h'
  · exact .inr ⟨g', cap', cur, h', hb, (Below.heap_setCell w p u g' (by omega)).trans hh, r⟩

theorem okL_split (L : List (Int × Int)) (j : Nat) : okL L = okL (L.take j) ++ okL (L.drop j) := by
  unfold okL
  rw [← List.filter_append, List.take_append_drop]

set_option maxRecDepth 100000 in
set_option maxHeartbeats 3200000 in
theorem l3Soft_any (a1 a2 : Option Addr) (n1 c1 n2 c2 : Nat) (p1 p2 : List (Int × Int)) (w : World) (h1 : PsAt w a1 p1) (h2 : PsAt w a2 p2) (hn1 : p1.length = n1) (hn2 : p2.length = n2) (e1 : a1 = none → n1 = 0 ∧ c1 = 0) (e2 : a2 = none → n2 = 0 ∧ c2 = 0) (m1 : n1 ≤ 1048576) (m2 : n2 ≤ 1048576) :
    Calls Try.prog 79 #[.slice a1 n1 c1, .slice a2 n2 c2] w fun e w' => ∃ a m c, e = .returned (.agg #[.int .i64 1, .bool true, .slice a m c, .bool false, .int .i64 0, .slice none 0 0, .int .i64 0, .int .i64 0, .int .i64 0, .slice none 0 0]) ∧ OwQ w' w.heap.size (.slice a m c) ((okL (p1 ++ p2)).take 8) ∧ New w w' := by
  obtain ⟨iP, hi, hz0, hz1, hz2⟩ := info_parts Try.infoPx
  have H1 : Hid (p1.length = n1) := hn1
  have H2 : Hid (p2.length = n2) := hn2
  have bR := ((Blk.mk w w.heap.size 82 #[.int .i64 0, .bool false, .slice none 0 0, .bool false, .int .i64 0, .slice none 0 0, .int .i64 0, .int .i64 0, .int .i64 0, .slice none 0 0] rfl).alloc (.cells #[.int .i64 1, .bool true, .slice none 0 0, .bool false, .int .i64 0, .slice none 0 0, .int .i64 0, .int .i64 0, .int .i64 0, .slice none 0 0] 82)).alloc (.cells #[] 88)
  have bO := (Blk.mk (w.alloc (.cells #[.int .i64 0, .bool false, .slice none 0 0, .bool false, .int .i64 0, .slice none 0 0, .int .i64 0, .int .i64 0, .int .i64 0, .slice none 0 0] 82)) (w.heap.size + 1) 82 #[.int .i64 1, .bool true, .slice none 0 0, .bool false, .int .i64 0, .slice none 0 0, .int .i64 0, .int .i64 0, .int .i64 0, .slice none 0 0] (by simp)).alloc (.cells #[] 88)
  have hw0 := (((New.refl w).alloc (.cells #[.int .i64 0, .bool false, .slice none 0 0, .bool false, .int .i64 0, .slice none 0 0, .int .i64 0, .int .i64 0, .int .i64 0, .slice none 0 0] 82)).alloc (.cells #[.int .i64 1, .bool true, .slice none 0 0, .bool false, .int .i64 0, .slice none 0 0, .int .i64 0, .int .i64 0, .int .i64 0, .slice none 0 0] 82)).alloc (.cells #[] 88)
  have hlit : (((w.alloc (.cells #[.int .i64 0, .bool false, .slice none 0 0, .bool false, .int .i64 0, .slice none 0 0, .int .i64 0, .int .i64 0, .int .i64 0, .slice none 0 0] 82)).alloc (.cells #[.int .i64 1, .bool true, .slice none 0 0, .bool false, .int .i64 0, .slice none 0 0, .int .i64 0, .int .i64 0, .int .i64 0, .slice none 0 0] 82)).alloc (.cells #[] 88)).ownsRow (w.heap.size + 2) 88 2 (.slice (some ⟨w.heap.size + 1 + 1, 0, none⟩) 0 0) 0 (cellsP []) := by
    refine ⟨rfl, .inr ⟨w.heap.size + 1 + 1, 0, #[], rfl, Nat.le_refl _, ?_, Nat.le_refl _, by decide, rfl, rfl⟩⟩
    have := heap_alloc_new ((w.alloc (.cells #[.int .i64 0, .bool false, .slice none 0 0, .bool false, .int .i64 0, .slice none 0 0, .int .i64 0, .int .i64 0, .int .i64 0, .slice none 0 0] 82)).alloc (.cells #[.int .i64 1, .bool true, .slice none 0 0, .bool false, .int .i64 0, .slice none 0 0, .int .i64 0, .int .i64 0, .int .i64 0, .slice none 0 0] 82)) (.cells #[] 88)
    simpa using this
  have hbs : w.heap.size + 2 ≤ (((w.alloc (.cells #[.int .i64 0, .bool false, .slice none 0 0, .bool false, .int .i64 0, .slice none 0 0, .int .i64 0, .int .i64 0, .int .i64 0, .slice none 0 0] 82)).alloc (.cells #[.int .i64 1, .bool true, .slice none 0 0, .bool false, .int .i64 0, .slice none 0 0, .int .i64 0, .int .i64 0, .int .i64 0, .slice none 0 0] 82)).alloc (.cells #[] 88)).heap.size := by simp
  clear hn1 hn2
  go_enter Try.func79, Try.ntmps79
  go_wp2_with (at_builtin; first
    | (refine wpList_apQ _ rfl (.tmp 9) (.tmp 10) rfl (w.heap.size + 2) Try.underlying44 hi hz0 hz1 hz2 (.slice (some ⟨w.heap.size + 1 + 1, 0, none⟩) 0 0) 0 [] rfl hlit a1 n1 c1 p1 rfl (h1.new hw0) H1.out e1 (by omega) hbs ?_; intro v3 w3 ho3' hgr3; have bR3 := bR.grow hgr3 (by simp [Value.ownBlock]; omega); have bO3 := bO.grow hgr3 (by simp [Value.ownBlock]); have N3 : New w w3 := hw0.grow hgr3 (fun k e => by obtain rfl := Option.some.inj e; show w.heap.size ≤ w.heap.size + 1 + 1; omega); have s3 := Nat.le_trans hbs hgr3.size; have ho3 : w3.ownsRow (w.heap.size + 2) 88 2 v3 n1 (cellsP p1) := (by simpa using ho3'); have blk3 := own_blk ho3; clear ho3' bR bO hw0 hlit hbs hgr3)
    | (refine wpList_apQ _ rfl (.tmp 11) (.tmp 12) rfl (w.heap.size + 2) Try.underlying44 hi hz0 hz1 hz2 v3 n1 p1 rfl ho3 a2 n2 c2 p2 rfl (h2.new N3) H2.out e2 (by omega) s3 ?_; intro v4 w4 ho4 hgr4))
  have bR4 := bR3.grow hgr4 (fun e => by have := blk3 _ e; omega)
  have bO4 := bO3.grow hgr4 (fun e => by have := blk3 _ e; omega)
  have N4 : New w w4 := N3.grow hgr4 (fun k e => by have := blk3 _ e; omega)
  have HB1 : Hid (∀ p ∈ p1 ++ p2, In6 p.1 ∧ In6 p.2) := fun p hp => by
    rcases List.mem_append.1 hp with h | h
    · exact h1.bd p h
    · exact h2.bd p h
  have HL : Hid ((p1 ++ p2).length = n1 + n2) := by unfold Hid; rw [List.length_append, H1.out, H2.out]
  have hq4 : OwQ w4 (w.heap.size + 2) v4 (p1 ++ p2) := OwQ.of_own ho4 HL.out
  obtain ⟨a4, c4, rfl, hp4, hb4⟩ := hq4.ps HB1.out
  have s4 := N4.size
  have lO4 := bO4.lt
  rw [HL.out]
  clear ho4 hgr4 ho3 N3 bR3 bO3 s3 blk3 hq4 h1 h2
  generalize hLe : p1 ++ p2 = L at *
  have HLE : Hid (p1 ++ p2 = L) := hLe
  have hN : n1 + n2 ≤ 2097152 := by omega
  clear hLe H1 H2 e1 e2 m1 m2
  generalize n1 + n2 = N at *
  go_wp2_with fail
  go_loopw [7] (fun i wr => ∃ (j m : Nat) (v : Value), j ≤ N ∧ i = .int .i64 j ∧ m ≤ 8 ∧ wr.ownsRow w4.heap.size 88 2 v m (cellsP (okL (L.take j))) ∧ Blk wr w.heap.size 82 #[.int .i64 0, .bool false, .slice none 0 0, .bool false, .int .i64 0, .slice none 0 0, .int .i64 0, .int .i64 0, .int .i64 0, .slice none 0 0] ∧ Blk wr (w.heap.size + 1) 82 #[.int .i64 1, .bool true, v, .bool false, .int .i64 0, .slice none 0 0, .int .i64 0, .int .i64 0, .int .i64 0, .slice none 0 0] ∧ PsAt wr a4 L ∧ New w wr ∧ w4.heap.size ≤ wr.heap.size) (fun i _ => N - (intOf i).toNat)
  case atStart => exact ⟨0, 0, .slice none 0 0, Nat.zero_le _, rfl, by omega, ⟨rfl, .inl ⟨rfl, rfl⟩⟩, bR4, bO4, hp4, N4, Nat.le_refl _⟩
  case round =>
    clear bR4 bO4 hp4 N4
    obtain ⟨j, m, v, hj, rfl, hm8, ho, bR, bO, hp, hnw, hs⟩ := hrel
    have hml : Hid ((okL (L.take j)).length = m) := by have := ho.1; rw [cellsP_len] at this; unfold Hid; omega
    obtain ⟨va, vc, rfl, hva⟩ := own_slice ho
    have cO := bO.cells
    have fO := bO.frees
    have lO := bO.lt
    by_cases hend : j < N ∧ m < 8
    · obtain ⟨hlt, hm7⟩ := hend
      obtain ⟨b, off, x, y, ha4, hpx, x0, x1⟩ := hp.at j (by rw [HL.out]; exact hlt)
      subst ha4
      have hlti : (j : Int) < (N : Int) := by omega
      have hm7i : (m : Int) < 8 := by omega
      have HP : Hid (L[j]? = some (x, y)) := hpx
      clear hpx
      by_cases hz : pf x y = 0
      · have hT : Hid (okL (L.take (j + 1)) = okL (L.take j) ++ [(x, y)]) := okL_snoc_yes HP.out hz
        have HZ : Hid (pf x y = 0) := hz
        clear hz
        go_wp2_with fail
        refine (specPF x y _).mono ?_
        rintro e w5 ⟨rfl, hn5⟩
        rw [HZ.out]
        have ho5 := own_turnQ ho hn5
        have bO5 := bO.new hn5
        have bR5 := bR.new hn5
        have hp5 := hp.new hn5
        have N5 := hnw.trans hn5
        have s5 := hn5.size
        have x05 : w5.cell? ⟨b, off + j * 2, none⟩ = some (.int .i64 x) := (World.cell?_of_block (hn5.block b (World.block_lt_of_cell? _ _ x0) (fun f => f))).trans x0
        have x15 : w5.cell? ⟨b, off + j * 2 + 1, none⟩ = some (.int .i64 y) := (World.cell?_of_block (hn5.block b (World.block_lt_of_cell? _ _ x1) (fun f => f))).trans x1
        have hbl := hb4 ⟨b, off, none⟩ rfl
        have hblk := own_blk ho5
        clear cO fO lO x0 x1 ho bO bR hp hn5 hnw
        have cO := bO5.cells
        have fO := bO5.frees
        have lO := bO5.lt
        have cOa := (bO5.alloc (.cells #[.int .i64 x, .int .i64 y] 88)).cells
        go_wp2_with fail
        go_region_law (refine step_apR _ rfl (.tmp 35) (.tmp 40) rfl w4.heap.size Try.underlying44 hi hz0 hz1 hz2 (.slice va m vc) m _ rfl ((own_turnQ ho5 ((New.refl _).drew)).alloc _) ⟨_, 0, none⟩ x y rfl (by simp [Addr.add]) (by simp [Addr.add]) (by omega) (by first | omega | (simp; omega)) ?_; intro v6 w6 ho6 hgr6; obtain ⟨g6, c6, rfl⟩ := Joins.ownsRow_form ho6 (by omega); have bO6 := ((bO5.new ((New.refl _).drew)).alloc (.cells #[.int .i64 x, .int .i64 y] 88)).grow hgr6 (fun e => by have := hblk _ e; omega); have cO6 := bO6.cells; have fO6 := bO6.frees; have lO6 := bO6.lt)
        all_goals
          have N6 : New w w6 := ((N5.drew).alloc (.cells #[.int .i64 x, .int .i64 y] 88)).grow hgr6 (fun k e => by have := hblk k e; omega)
          have bR6 := ((bR5.new ((New.refl _).drew)).alloc (.cells #[.int .i64 x, .int .i64 y] 88)).grow hgr6 (fun e => by have := hblk _ e; omega)
          have hp6 : PsAt w6 (some ⟨b, off, none⟩) L := ((hp5.new ((New.refl _).drew)).new ((New.refl _).alloc (.cells #[.int .i64 x, .int .i64 y] 88))).grown hgr6 (fun z hz e => by obtain rfl := Option.some.inj hz; have := hblk _ e; simp only at this; omega)
          have s6 := hgr6.size
          have s56 : w5.heap.size ≤ (w5.drew.alloc (.cells #[.int .i64 x, .int .i64 y] 88)).heap.size := by simp
          have T7 := Turn.here (B := w.heap.size + 1) (j := 2) (Turn.refl _ w6) (.slice (some ⟨g6, 0, none⟩) (m + 1) c6)
          have ho7 : (w6.setCell ⟨w.heap.size + 1, 2, none⟩ (.slice (some ⟨g6, 0, none⟩) (m + 1) c6)).ownsRow w4.heap.size 88 2 (.slice (some ⟨g6, 0, none⟩) (m + 1) c6) (m + 1) (cellsP (okL (L.take (j + 1)))) := by rw [hT.out, cellsP_append]; exact own_setQ ho6 (by simp; omega)
          have bO7 := bO6.set 2 (.slice (some ⟨g6, 0, none⟩) (m + 1) c6)
          simp only [List.setIfInBounds_toArray, List.set_cons_zero, List.set_cons_succ] at bO7
          have bR7 := bR6.turn T7 (by omega)
          have hp7 : PsAt _ (some ⟨b, off, none⟩) L := hp6.turn T7 (fun z _ hz e => by obtain rfl := Option.some.inj hz; simp only at e; omega)
          have N7 := N6.before T7 (fun i hi e => by omega)
          have s7 : w4.heap.size ≤ (w6.setCell ⟨w.heap.size + 1, 2, none⟩ (.slice (some ⟨g6, 0, none⟩) (m + 1) c6)).heap.size := by have := T7.size; have := hgr6.size; simp at s56; simp at this; omega
          clear ho6 hgr6 bO6 cO6 fO6 lO6 bR6 hp6 N6 bO5 bR5 hp5 N5 ho5 cO fO lO cOa
          go_wp2
          go_roundw
          case rel => exact ⟨j + 1, m + 1, _, by omega, by go_num, by omega, ho7, bR7, bO7, hp7, N7, s7⟩
          case measure => simp [intOf]; omega
      · have hT : Hid (okL (L.take (j + 1)) = okL (L.take j)) := okL_snoc_no HP.out hz
        obtain ⟨q, hq⟩ : ∃ q, pf x y = q := ⟨_, rfl⟩
        rw [hq] at hz
        go_wp2_with fail
        refine (specPF_is x y q _ hq).mono ?_
        rintro e w5 ⟨rfl, hn5⟩
        have ho5 := own_turnQ ho hn5
        rw [← hT.out] at ho5
        have bO5 := bO.new hn5
        have bR5 := bR.new hn5
        have hp5 := hp.new hn5
        have N5 := hnw.trans hn5
        have s5 := Nat.le_trans hs hn5.size
        clear cO fO lO ho bO bR hp hn5 hnw
        go_wp2
        go_roundw
        case rel => exact ⟨j + 1, m, _, by omega, by go_num, by omega, ho5, bR5, bO5, hp5, N5, s5⟩
        case measure => simp [intOf]; omega
    · have HT : Hid ((okL L).take 8 = okL (L.take j)) := by
        unfold Hid
        by_cases hjN : j < N
        · have h8 : m = 8 := by omega
          rw [okL_split L j, List.take_append_of_le_length (by rw [hml.out]; omega), List.take_of_length_le (by rw [hml.out]; omega)]
        · rw [List.take_of_length_le (i := j) (by rw [HL.out]; omega)] at hml ⊢
          rw [List.take_of_length_le (by rw [hml.out]; exact hm8)]
      have hq : OwQ wr w4.heap.size (.slice va m vc) (okL (L.take j)) := OwQ.of_own ho hml.out
      have cR := bR.cells
      have fR := bR.frees
      have lR := bR.lt
      clear ho hml
      by_cases hjN : j < N
      · obtain rfl : m = 8 := by omega
        have hlti : (j : Int) < (N : Int) := by omega
        go_wp2
        refine bodyPost_ret (v := .agg #[.int .i64 1, .bool true, .slice va 8 vc, .bool false, .int .i64 0, .slice none 0 0, .int .i64 0, .int .i64 0, .int .i64 0, .slice none 0 0]) (by simp [results, Try.results79, go_sem, cR]) rfl ?_
        refine (fun (hT : Turn (fun k => k = w.heap.size) wr _) => ⟨_, _, _, rfl, by rw [HLE.out, HT.out]; exact (hq.turn hT (fun g hg e => by omega)).low (by omega), hnw.before hT (fun i hi e => by omega)⟩) ?_
        exact Turn.here (Turn.here (Turn.here (Turn.here (Turn.here (Turn.here (Turn.here (Turn.here (Turn.here (Turn.here (Turn.refl _ _) _) _) _) _) _) _) _) _) _) _
      · have hlti : ¬ (j : Int) < (N : Int) := by omega
        go_wp2
        refine bodyPost_ret (v := .agg #[.int .i64 1, .bool true, .slice va m vc, .bool false, .int .i64 0, .slice none 0 0, .int .i64 0, .int .i64 0, .int .i64 0, .slice none 0 0]) (by simp [results, Try.results79, go_sem, cR]) rfl ?_
        refine (fun (hT : Turn (fun k => k = w.heap.size) wr _) => ⟨_, _, _, rfl, by rw [HLE.out, HT.out]; exact (hq.turn hT (fun g hg e => by omega)).low (by omega), hnw.before hT (fun i hi e => by omega)⟩) ?_
        exact Turn.here (Turn.here (Turn.here (Turn.here (Turn.here (Turn.here (Turn.here (Turn.here (Turn.here (Turn.here (Turn.refl _ _) _) _) _) _) _) _) _) _) _) _

end Go.Proofs.Ytljkcijakdhdiaa

namespace Go.Proofs.Ytljkcijakdhdiaa
open Go.RowKit Go.Sort
set_option linter.unusedVariables false

theorem own_sliceN {w : World} {base n : Nat} {v : Value} {xs : List Value} (h : w.ownsRow base 2 1 v n xs) : ∃ a c, v = .slice a n c := by
  rcases h.2 with ⟨rfl, rfl⟩ | ⟨g, cap, cur, rfl, _⟩
  · exact ⟨none, 0, rfl⟩
  · exact ⟨_, cap, rfl⟩

theorem l3Attrs_short (b off n c k : Nat) (w : World) (hc : w.cell? ⟨b, off, none⟩ = some (.int .u8 (k : Int))) (hk : k ≤ 255) (hn : 0 < n) (hm : n ≤ 1048576) (hs : n < 8 + 2 * k) :
    Calls Try.prog 80 #[.slice (some ⟨b, off, none⟩) n c] w fun e w' => e = .returned (.tuple #[.agg #[.int .i64 0, .slice none 0 0, .int .i64 0, .int .i64 0, .int .i64 0], .int .i64 (-1)]) ∧ New w w' := by
  have hw := (New.refl w).alloc (.cells #[.int .i64 0, .slice none 0 0, .int .i64 0, .int .i64 0, .int .i64 0] 47)
  have bR := Blk.mk w w.heap.size 47 #[.int .i64 0, .slice none 0 0, .int .i64 0, .int .i64 0, .int .i64 0] rfl
  have cR := bR.cells
  have hwk : IntKind.i64.wrap (k : Int) = (k : Int) := by simp [IntKind.wrap, IntKind.signed, IntKind.bits]; omega
  have hn' : (0 : Int) < (n : Int) := by omega
  have hs' : (n : Int) < 8 + 2 * (k : Int) := by omega
  have hc' := (World.cell?_of_block (hw.block b (World.block_lt_of_cell? w _ hc) (fun f => f))).trans hc
  go_enter Try.func80, Try.ntmps80
  go_wp2
  refine bodyPost_ret (v := .tuple #[.agg #[.int .i64 0, .slice none 0 0, .int .i64 0, .int .i64 0, .int .i64 0], .int .i64 (-1)]) (by simp [results, Try.results80, go_sem, cR]) rfl ⟨rfl, ?_⟩
  exact hw

set_option maxRecDepth 100000 in
set_option maxHeartbeats 3200000 in
theorem l3Attrs_ok (b off n c k : Nat) (zs : List Int) (o : Int) (w : World) (h : BsAt w (some ⟨b, off, none⟩) zs) (hn : zs.length = n) (h0 : zs[0]? = some (k : Int)) (hm : n ≤ 1048576) (hk : 8 + 2 * k ≤ n) (hk5 : k ≤ 255) (ho : zs[1 + 2 * k]? = some o) :
    Calls Try.prog 80 #[.slice (some ⟨b, off, none⟩) n c] w fun e w' => ∃ a xc, e = .returned (.tuple #[.agg #[.int .i64 o, .slice a k xc, .int .i64 (numAt zs (2 + 2 * k) 2), .int .i64 (numAt zs (4 + 2 * k) 2), .int .i64 (numAt zs (6 + 2 * k) 2)], .int .i64 (8 + 2 * (k : Int))]) ∧ OwM w' w.heap.size (.slice a k xc) (nsR zs k) ∧ New w w' := by
  obtain ⟨iN, hi, hz0, hz1, hz2⟩ := info_parts Try.infoI64
  have HN : Hid (zs.length = n) := hn
  have hob := h.lt o (List.mem_of_getElem? ho)
  have hn' : (0 : Int) < (n : Int) := by omega
  have hs' : ¬ (n : Int) < 8 + 2 * (k : Int) := by omega
  have hwk : IntKind.i64.wrap (k : Int) = (k : Int) := by simp [IntKind.wrap, IntKind.signed, IntKind.bits]; omega
  have hw0 := ((New.refl w).alloc (.cells #[.int .i64 0, .slice none 0 0, .int .i64 0, .int .i64 0, .int .i64 0] 47)).alloc (.cells #[.int .i64 0, .slice none 0 0, .int .i64 0, .int .i64 0, .int .i64 0] 47)
  have bR : Blk ((w.alloc (.cells #[.int .i64 0, .slice none 0 0, .int .i64 0, .int .i64 0, .int .i64 0] 47)).alloc (.cells #[.int .i64 0, .slice none 0 0, .int .i64 0, .int .i64 0, .int .i64 0] 47)) w.heap.size 47 #[.int .i64 0, .slice none 0 0, .int .i64 0, .int .i64 0, .int .i64 0] := (Blk.mk _ _ _ _ rfl).alloc _
  have bA : Blk ((w.alloc (.cells #[.int .i64 0, .slice none 0 0, .int .i64 0, .int .i64 0, .int .i64 0] 47)).alloc (.cells #[.int .i64 0, .slice none 0 0, .int .i64 0, .int .i64 0, .int .i64 0] 47)) (w.heap.size + 1) 47 #[.int .i64 0, .slice none 0 0, .int .i64 0, .int .i64 0, .int .i64 0] := Blk.mk _ _ _ _ (by simp)
  have hc0 : w.cell? ⟨b, off, none⟩ = some (.int .u8 (k : Int)) := by
    obtain ⟨b', off', e', h1', _⟩ := h 0 _ h0
    simp only [Option.some.injEq, Addr.mk.injEq, and_true] at e'
    obtain ⟨rfl, rfl⟩ := e'
    simpa using h1'
  have hc1 := (World.cell?_of_block (((New.refl w).alloc (.cells #[.int .i64 0, .slice none 0 0, .int .i64 0, .int .i64 0, .int .i64 0] 47)).block b (World.block_lt_of_cell? w _ hc0) (fun f => f))).trans hc0
  clear hn
  go_enter Try.func80, Try.ntmps80
  go_wp2_with fail
  go_loopw [7] (fun i wr => ∃ (j : Nat) (v : Value), j ≤ k ∧ i = .int .i64 (j : Int) ∧ New w wr ∧ wr.ownsRow (w.heap.size + 2) 2 1 v j ((nsR zs j).map (Value.int .i64)) ∧ Blk wr w.heap.size 47 #[.int .i64 0, .slice none 0 0, .int .i64 0, .int .i64 0, .int .i64 0] ∧ Blk wr (w.heap.size + 1) 47 #[.int .i64 0, v, .int .i64 0, .int .i64 0, .int .i64 0]) (fun i _ => k - (intOf i).toNat)
  case atStart => exact ⟨0, .slice none 0 0, Nat.zero_le _, rfl, hw0, ⟨rfl, .inl ⟨rfl, rfl⟩⟩, bR, bA⟩
  case round =>
    clear hc0 hc1 bR bA hw0
    obtain ⟨j, v, hj, rfl, hnw, hown, bR, bA⟩ := hrel
    have hblk := own_blkN hown
    obtain ⟨va, vc, rfl⟩ := own_sliceN hown
    have cA := bA.cells
    have fA := bA.frees
    have hal := bA.lt
    by_cases hlt : j < k
    · have hS : Hid ((nsR zs (j + 1)).map (Value.int .i64) = (nsR zs j).map (Value.int .i64) ++ [.int .i64 (numAt zs (1 + 2 * j) 2)]) := by unfold Hid; rw [nsR_succ]; simp
      generalize hA : numAt zs (1 + 2 * j) 2 = A at *
      have HA : Hid (numAt zs (1 + 2 * j) 2 = A) := hA
      clear hA
      have cAa := (bA.alloc (.cells #[.int .i64 A] 2)).cells
      have hlt8 : (j : Int) < (k : Int) := by omega
      have hw1 : IntKind.i64.wrap (2 * (j : Int)) = 2 * (j : Int) := by simp [IntKind.wrap, IntKind.signed, IntKind.bits]; omega
      have hw2 : IntKind.i64.wrap (1 + 2 * (j : Int)) = 1 + 2 * (j : Int) := by simp [IntKind.wrap, IntKind.signed, IntKind.bits]; omega
      have hbn := h.new hnw
      have hsz := hnw.size
      go_wp2_with fail
      go_region_law (first
        | (refine step_apV _ rfl (.tmp 28) (.tmp 34) rfl (w.heap.size + 2) (.int .i64 0) Try.underlying45 hi hz0 hz1 hz2 rfl (.slice va j vc) j _ rfl ((own_newN hown N1).alloc _) ⟨_, 0, none⟩ (.int .i64 A) rfl (by simp [Addr.add]) rfl (by omega) (by first | omega | (simp; omega)) ?_; intro v' w3 ho3 hgr3; obtain ⟨g3, c3, rfl⟩ := Joins.ownsRow_form ho3 (by omega); have bA3 := ((bA.new N1).alloc (.cells #[.int .i64 A] 2)).grow hgr3 (fun e => by have := hblk _ e; omega); have cA3 := bA3.cells; have fA3 := bA3.frees)
        | (go_simp; go_at_call 38; (rw [show (1 + 2 * (j : Int)) = ((1 + 2 * j : Nat) : Int) by omega]); refine (take_any _ n c (1 + 2 * j) 2 zs _ (hbn.new ((New.refl _).drew)) HN.out hm (by omega) (by omega)).mono ?_; rintro e w1 ⟨rfl, hw1⟩; (rw [HA.out]); have N1 : New wr w1 := (by rw [hw1]; exact (New.refl _).drew); have cA1 := (bA.new N1).cells; have cA1a := ((bA.new N1).alloc (.cells #[.int .i64 A] 2)).cells; have s1 := N1.size; clear hw1))
      all_goals
        have N3 : New w w3 := ((hnw.trans N1).alloc (.cells #[.int .i64 A] 2)).grow hgr3 (fun k e => by have := hblk k e; omega)
        have bR3 := ((bR.new N1).alloc (.cells #[.int .i64 A] 2)).grow hgr3 (fun e => by have := hblk _ e; omega)
        have N4 : New w (w3.setCell ⟨w.heap.size + 1, 1, none⟩ (.slice (some ⟨g3, 0, none⟩) (j + 1) c3)) := N3.setCell (by simp) _
        have bR4 : Blk (w3.setCell ⟨w.heap.size + 1, 1, none⟩ (.slice (some ⟨g3, 0, none⟩) (j + 1) c3)) w.heap.size 47 #[.int .i64 0, .slice none 0 0, .int .i64 0, .int .i64 0, .int .i64 0] := bR3.turn (Turn.here (Turn.refl _ _) _) (by omega)
        have bA4 : Blk (w3.setCell ⟨w.heap.size + 1, 1, none⟩ (.slice (some ⟨g3, 0, none⟩) (j + 1) c3)) (w.heap.size + 1) 47 #[.int .i64 0, .slice (some ⟨g3, 0, none⟩) (j + 1) c3, .int .i64 0, .int .i64 0, .int .i64 0] := bA3.set 1 _
        have ho4 : (w3.setCell ⟨w.heap.size + 1, 1, none⟩ (.slice (some ⟨g3, 0, none⟩) (j + 1) c3)).ownsRow (w.heap.size + 2) 2 1 (.slice (some ⟨g3, 0, none⟩) (j + 1) c3) (j + 1) ((nsR zs (j + 1)).map (Value.int .i64)) := by rw [hS.out]; exact own_setN ho3 (by simp)
        clear ho3 hgr3 hown bA bR bA3 bR3 cA cAa cA1 cA1a cA3 fA3 fA N1 N3
        go_wp2
        go_roundw
        case rel => exact ⟨j + 1, _, by omega, by go_num, N4, ho4, bR4, bA4⟩
        case measure => simp [intOf]; omega
    · obtain rfl : j = k := by omega
      have hco : wr.cell? ⟨b, off + (1 + 2 * j), none⟩ = some (.int .u8 o) := by
        obtain ⟨b', off', e', h1', _⟩ := (h.new hnw) (1 + 2 * j) o ho
        simp only [Option.some.injEq, Addr.mk.injEq, and_true] at e'
        obtain ⟨rfl, rfl⟩ := e'
        exact h1'
      have hwo : IntKind.i64.wrap o = o := by simp [IntKind.wrap, IntKind.signed, IntKind.bits]; omega
      have hM : OwM wr (w.heap.size + 2) (.slice va j vc) (nsR zs j) := OwM.of_own hown (nsR_len _ _)
      obtain ⟨X, hX⟩ : ∃ X, numAt zs (2 + 2 * j) 2 = X := ⟨_, rfl⟩
      obtain ⟨Y, hY⟩ : ∃ Y, numAt zs (4 + 2 * j) 2 = Y := ⟨_, rfl⟩
      obtain ⟨Z, hZ⟩ : ∃ Z, numAt zs (6 + 2 * j) 2 = Z := ⟨_, rfl⟩
      have HX : Hid (numAt zs (2 + 2 * j) 2 = X) := hX
      have HY : Hid (numAt zs (4 + 2 * j) 2 = Y) := hY
      have HZ : Hid (numAt zs (6 + 2 * j) 2 = Z) := hZ
      have e1 : 1 + 2 * (j : Int) + 1 = ((2 + 2 * j : Nat) : Int) := by omega
      have e3 : 1 + 2 * (j : Int) + 3 = ((4 + 2 * j : Nat) : Int) := by omega
      have e5 : 1 + 2 * (j : Int) + 5 = ((6 + 2 * j : Nat) : Int) := by omega
      have hi0 : 0 ≤ 1 + 2 * (j : Int) := by omega
      have hi1 : 1 + 2 * (j : Int) < (n : Int) := by omega
      have hit : (1 + 2 * (j : Int)).toNat = 1 + 2 * j := by omega
      clear hX hY hZ hown
      have T1 := Turn.here (B := w.heap.size + 1) (j := 0) (Turn.refl _ wr) (.int .i64 o)
      have N1 := hnw.before T1 (fun i hi e => by omega)
      have T2 := Turn.here (B := w.heap.size + 1) (j := 2) T1 (.int .i64 X)
      have N2 := hnw.before T2 (fun i hi e => by omega)
      have T3 := Turn.here (B := w.heap.size + 1) (j := 3) T2 (.int .i64 Y)
      have N3 := hnw.before T3 (fun i hi e => by omega)
      have T4 := Turn.here (B := w.heap.size + 1) (j := 4) T3 (.int .i64 Z)
      have N4 := hnw.before T4 (fun i hi e => by omega)
      have M4 := hM.turn T4 (fun g hg e => by omega)
      have b4 := (((bA.set 0 (.int .i64 o)).set 2 (.int .i64 X)).set 3 (.int .i64 Y)).set 4 (.int .i64 Z)
      simp only [List.setIfInBounds_toArray, List.set_cons_zero, List.set_cons_succ] at b4
      have bR4 := bR.turn T4 (by omega)
      go_wp2_with fail
      rw [show (2 + 2 * (j : Int)) = ((2 + 2 * j : Nat) : Int) by omega]
      refine (take_any _ n c (2 + 2 * j) 2 zs _ (h.new N1) HN.out hm (by omega) (by omega)).mono ?_
      rintro e w2 ⟨rfl, rfl⟩
      rw [HX.out]
      go_wp2_with fail
      rw [show (4 + 2 * (j : Int)) = ((4 + 2 * j : Nat) : Int) by omega]
      refine (take_any _ n c (4 + 2 * j) 2 zs _ (h.new N2) HN.out hm (by omega) (by omega)).mono ?_
      rintro e w2 ⟨rfl, rfl⟩
      rw [HY.out]
      go_wp2_with fail
      rw [show (6 + 2 * (j : Int)) = ((6 + 2 * j : Nat) : Int) by omega]
      refine (take_any _ n c (6 + 2 * j) 2 zs _ (h.new N3) HN.out hm (by omega) (by omega)).mono ?_
      rintro e w2 ⟨rfl, rfl⟩
      rw [HZ.out]
      have cR := bR.cells
      have fR := bR.frees
      have lR := bR.lt
      have hne : ¬ w.heap.size + 1 = w.heap.size := by omega
      have hne' : ¬ w.heap.size = w.heap.size + 1 := by omega
      clear b4 bR4
      go_wp2
      refine bodyPost_ret (v := .tuple #[.agg #[.int .i64 o, .slice va j vc, .int .i64 X, .int .i64 Y, .int .i64 Z], .int .i64 (8 + 2 * (j : Int))]) (by simp [results, Try.results80, go_sem, cR]) rfl ?_
      refine (fun (hT : Turn (fun k => k = w.heap.size) ((((wr.setCell ⟨w.heap.size + 1, 0, none⟩ (.int .i64 o)).setCell ⟨w.heap.size + 1, 2, none⟩ (.int .i64 X)).setCell ⟨w.heap.size + 1, 3, none⟩ (.int .i64 Y)).setCell ⟨w.heap.size + 1, 4, none⟩ (.int .i64 Z)) _) => ⟨va, vc, by rw [HX.out, HY.out, HZ.out], (M4.turn hT (fun g hg e => by omega)).low (by omega), N4.before hT (fun i hi e => by omega)⟩) ?_
      exact Turn.here (Turn.here (Turn.here (Turn.here (Turn.here (Turn.refl _ _) _) _) _) _) _

end Go.Proofs.Ytljkcijakdhdiaa

namespace Go.Proofs.Ytljkcijakdhdiaa
open Go.RowKit Go.Sort
set_option linter.unusedVariables false

set_option maxHeartbeats 1600000 in
theorem specParse_empty (a : Option Addr) (c : Nat) (w : World) :
    Calls Try.prog 67 #[.slice a 0 c] w fun e w' => e = .returned (puV (puZ 5) (.slice none 0 0) (.slice none 0 0) (.slice none 0 0)) ∧ New w w' := by
  have hw := (New.refl w).alloc (.cells #[.int .i64 0, .bool false, .slice none 0 0, .bool false, .int .i64 0, .slice none 0 0, .int .i64 0, .int .i64 0, .int .i64 0, .slice none 0 0] 82)
  have hN5 := (New.refl w).alloc (.cells #[.int .i64 5, .bool false, .slice none 0 0, .bool false, .int .i64 0, .slice none 0 0, .int .i64 0, .int .i64 0, .int .i64 0, .slice none 0 0] 82)
  go_enter Try.func67, Try.ntmps67
  go_wp2
  refine bodyPost_ret (v := puV (puZ 5) (.slice none 0 0) (.slice none 0 0) (.slice none 0 0)) (by simp [results, Try.results67, go_sem, puV, puZ]) rfl ⟨rfl, ?_⟩
  exact hN5

set_option maxHeartbeats 1600000 in
theorem specParse_short (b off n c k : Nat) (w : World) (hc : w.cell? ⟨b, off, none⟩ = some (.int .u8 (k : Int))) (hk : k ≤ 255) (hn : 0 < n) (hm : n ≤ 1048576) (hs : n < 1 + 3 * k) :
    Calls Try.prog 67 #[.slice (some ⟨b, off, none⟩) n c] w fun e w' => e = .returned (puV (puZ 5) (.slice none 0 0) (.slice none 0 0) (.slice none 0 0)) ∧ New w w' := by
  have hw := (New.refl w).alloc (.cells #[.int .i64 0, .bool false, .slice none 0 0, .bool false, .int .i64 0, .slice none 0 0, .int .i64 0, .int .i64 0, .int .i64 0, .slice none 0 0] 82)
  have hN5 := (New.refl w).alloc (.cells #[.int .i64 5, .bool false, .slice none 0 0, .bool false, .int .i64 0, .slice none 0 0, .int .i64 0, .int .i64 0, .int .i64 0, .slice none 0 0] 82)
  have hc' := (World.cell?_of_block (hw.block b (World.block_lt_of_cell? w _ hc) (fun f => f))).trans hc
  have hwk : IntKind.i64.wrap (k : Int) = (k : Int) := by simp [IntKind.wrap, IntKind.signed, IntKind.bits]; omega
  have hn' : (0 : Int) < (n : Int) := by omega
  have hne : ((n : Int) == 0) = false := by simp; omega
  have hs' : (n : Int) < 1 + 3 * (k : Int) := by omega
  go_enter Try.func67, Try.ntmps67
  go_wp2
  refine bodyPost_ret (v := puV (puZ 5) (.slice none 0 0) (.slice none 0 0) (.slice none 0 0)) (by simp [results, Try.results67, go_sem, puV, puZ]) rfl ⟨rfl, ?_⟩
  exact hN5

end Go.Proofs.Ytljkcijakdhdiaa

namespace Go.Proofs.Ytljkcijakdhdiaa
open Go.RowKit Go.Sort
set_option linter.unusedVariables false

theorem OwQ.ps' {w : World} {lo n c : Nat} {a : Option Addr} {L : List (Int × Int)} (h : OwQ w lo (.slice a n c) L) (hb : ∀ p ∈ L, In6 p.1 ∧ In6 p.2) : PsAt w a L := by
  obtain ⟨a', c', e, hp, -⟩ := h.ps hb
  simp only [Value.slice.injEq] at e
  obtain ⟨rfl, -, rfl⟩ := e
  exact hp
theorem OwM.ns' {w : World} {lo n c : Nat} {a : Option Addr} {L : List Int} (h : OwM w lo (.slice a n c) L) (hb : ∀ z ∈ L, In6 z) : NsAt w a L := by
  obtain ⟨a', c', e, hp, -⟩ := h.ns hb
  simp only [Value.slice.injEq] at e
  obtain ⟨rfl, -, rfl⟩ := e
  exact hp
theorem OwQ.turnB {w w' : World} {lo : Nat} {v : Value} {L : List (Int × Int)} {S : Nat → Prop} (h : OwQ w lo v L) (t : Turn S w w') (hS : ∀ g, v.ownBlock = some g → ¬ S g) : OwQ w' lo v L := by
  rcases h with h | ⟨g, c, h1, h2, h3⟩
  · exact .inl h
  · exact .inr ⟨g, c, h1, h2, h3.turn t (hS g (by rw [h1]; rfl))⟩
theorem OwM.turnB {w w' : World} {lo : Nat} {v : Value} {L : List Int} {S : Nat → Prop} (h : OwM w lo v L) (t : Turn S w w') (hS : ∀ g, v.ownBlock = some g → ¬ S g) : OwM w' lo v L := by
  rcases h with h | ⟨g, c, h1, h2, h3⟩
  · exact .inl h
  · exact .inr ⟨g, c, h1, h2, h3.turn t (hS g (by rw [h1]; rfl))⟩

theorem lfc_zero : ∀ {ps : List (Int × Int)}, (∀ p ∈ ps, pf p.1 p.2 = 0) → lfc ps = 0
  | [], _ => rfl
  | p :: r, h => by
    unfold lfc
    rw [if_pos (h p (by simp))]
    exact lfc_zero (fun q hq => h q (by simp [hq]))
theorem ufU_gone {gs : List (Int × Int)} (h : ∀ p ∈ gs, pf p.1 p.2 = 0) : ufU (puU gs) = if 8 < gs.length then 2 else 0 := by
  unfold ufU puU uf
  simp only
  by_cases h8 : 8 < gs.length
  · rw [if_pos (.inl h8), if_pos h8]
  · have h0 : lf gs = 0 := by unfold lf; rw [if_neg (by omega), lfc_zero h]
    rw [if_neg (by simp; omega), h0]
    simp [lf, lfc, ZaP, h8]

set_option maxRecDepth 100000 in
set_option maxHeartbeats 6400000 in
theorem specParse_main (b off n c k : Nat) (zs : List Int) (w : World) (h : BsAt w (some ⟨b, off, none⟩) zs) (hn : zs.length = n) (hcc : n ≤ c) (h0 : zs[0]? = some (k : Int)) (hk : k ≤ 255) (hm : n ≤ 1048576) (hs : 1 + 3 * k ≤ n) (hc1 : ¬ c = 1) :
    Calls Try.prog 67 #[.slice (some ⟨b, off, none⟩) n c] w fun e w' => ∃ x y z, e = .returned (puV (pu zs) x y z) ∧ Got w' w.heap.size (pu zs) x y z ∧ New w w' := by
  have hw := (New.refl w).alloc (.cells #[.int .i64 0, .bool false, .slice none 0 0, .bool false, .int .i64 0, .slice none 0 0, .int .i64 0, .int .i64 0, .int .i64 0, .slice none 0 0] 82)
  have bR := Blk.mk w w.heap.size 82 #[.int .i64 0, .bool false, .slice none 0 0, .bool false, .int .i64 0, .slice none 0 0, .int .i64 0, .int .i64 0, .int .i64 0, .slice none 0 0] rfl
  have hne : ((n : Int) == 0) = false := by simp; omega
  have hwk : IntKind.i64.wrap (k : Int) = (k : Int) := by simp [IntKind.wrap, IntKind.signed, IntKind.bits]; omega
  have hn' : (0 : Int) < (n : Int) := by omega
  have hns : ¬ (n : Int) < 1 + 3 * (k : Int) := by omega
  have hc : w.cell? ⟨b, off, none⟩ = some (.int .u8 (k : Int)) := by
    obtain ⟨b', off', e', h1', _⟩ := h 0 _ h0
    simp only [Option.some.injEq, Addr.mk.injEq, and_true] at e'
    obtain ⟨rfl, rfl⟩ := e'
    simpa using h1'
  have hc' := (World.cell?_of_block (hw.block b (World.block_lt_of_cell? w _ hc) (fun f => f))).trans hc
  have hzl : ((zs.drop 1).take (k * 3)).length = k * 3 := by rw [List.length_take, List.length_drop, hn]; omega
  have HB : Hid (∀ p ∈ gnL zs k, In6 p.1 ∧ In6 p.2) := fun p hp => by
    have := rdP_bd _ (fun z hz => h.lt z (List.mem_of_mem_drop (List.mem_of_mem_take hz))) p hp
    unfold In6; omega
  have HL : Hid ((gnL zs k).length = k) := rdP_len k _ hzl
  have HZ : Hid (((zs.drop 1).take (k * 3)).length = k * 3) := hzl
  have hbs : BsAt w (some ⟨b, off + 1, none⟩) ((zs.drop 1).take (k * 3)) := (h.drop 1).take (k * 3)
  have h3 : 3 * k = k * 3 := Nat.mul_comm _ _
  have HN : Hid (zs.length = n) := hn
  have HPU : Hid (pu zs = if 0 ≤ ixF (gnL zs k) then puZ 3 else rdU (gnL zs k) (zs.drop (1 + 3 * k))) := by
    unfold Hid
    rw [pu_some h0, if_neg (by omega)]
  clear hn hzl hc
  go_enter Try.func67, Try.ntmps67
  go_wp2_with fail
  refine (l3Read_any _ k (c - 1) _ _ (hbs.new hw) HZ.out (by omega)).mono ?_
  rintro e w1 ⟨v, rfl, hq0, hn1⟩
  have hq1 : OwQ w1 (w.heap.size + 1) v (gnL zs k) := hq0.low (by simp)
  have bR1 := bR.new hn1
  have N1 := hw.trans hn1
  obtain ⟨a1, c1, rfl, f1, -, -⟩ := hq1.form
  obtain ⟨a2, c2, e2, hps, -⟩ := hq1.ps HB.out
  simp only [Value.slice.injEq] at e2
  obtain ⟨rfl, -, rfl⟩ := e2
  rw [HL.out] at hq1 f1 ⊢
  clear hq0 hn1 bR hw hc' hbs
  go_wp2_with fail
  go_loopw [5] (fun i wr => ∃ j : Nat, j ≤ k ∧ i = .int .i64 j ∧ New w1 wr ∧ Hid (∀ p ∈ (gnL zs k).take j, pf p.1 p.2 = 0)) (fun i _ => k - (intOf i).toNat)
  case atStart => exact ⟨0, Nat.zero_le _, rfl, New.refl _, by unfold Hid; simp⟩
  case round =>
    obtain ⟨j, hj, rfl, hn2, hall⟩ := hrel
    have bR2 := bR1.new hn2
    have cR := bR2.cells
    have fR := bR2.frees
    have lR := bR2.lt
    have N2 := N1.trans hn2
    by_cases hlt : j < k
    · obtain ⟨b2, o2, x, y, rfl, hpx, x0, x1⟩ := (hps.new hn2).at j (by rw [HL.out]; exact hlt)
      have HP : Hid ((gnL zs k)[j]? = some (x, y)) := hpx
      have hlti : (j : Int) < (k : Int) := by omega
      clear hpx
      by_cases hz : pf x y = 0
      · have hall' : Hid (∀ p ∈ (gnL zs k).take (j + 1), pf p.1 p.2 = 0) := by
          obtain ⟨hj', e⟩ := List.getElem?_eq_some_iff.1 HP.out
          unfold Hid
          rw [List.take_succ_eq_append_getElem hj', e]
          intro p hp
          rcases List.mem_append.1 hp with hp | hp
          · exact hall.out p hp
          · simp at hp; subst hp; exact hz
        have HZ0 : Hid (pf x y = 0) := hz
        clear hz hall
        go_wp2_with fail
        refine (specPF_is x y 0 _ HZ0.out).mono ?_
        rintro e w3 ⟨rfl, hn3⟩
        have N3 := hn2.trans hn3
        clear cR fR lR bR2 N2 x0 x1
        go_wp2
        go_roundw
        case rel => exact ⟨j + 1, by omega, by go_num, N3, hall'⟩
        case measure => simp [intOf]; omega
      · have hpu : pu zs = puZ 3 := by
          rw [HPU.out, if_pos]
          apply Classical.byContradiction
          intro hno
          exact hz ((ixF_neg _).1 (by omega) _ (List.mem_of_getElem? HP.out))
        obtain ⟨q, hq⟩ : ∃ q, pf x y = q := ⟨_, rfl⟩
        rw [hq] at hz
        have HPU3 : Hid (pu zs = puZ 3) := hpu
        clear hpu
        go_wp2_with fail
        refine (specPF_is x y q _ hq).mono ?_
        rintro e w3 ⟨rfl, hn3⟩
        have bR3 := bR2.new hn3
        have N3 := N2.trans hn3
        clear cR fR lR bR2 x0 x1
        have cR := bR3.cells
        have fR := bR3.frees
        have lR := bR3.lt
        go_wp2
        refine bodyPost_ret (v := puV (puZ 3) (.slice none 0 0) (.slice none 0 0) (.slice none 0 0)) (by simp [results, Try.results67, go_sem, puV, puZ, cR]) rfl ?_
        refine (fun (hT : Turn (fun k => k = w.heap.size) w3 _) => ⟨_, _, _, by rw [HPU3.out], by rw [HPU3.out]; exact Got.one (OwQ.nil _ _) rfl rfl, N3.before hT (fun i hi e => by omega)⟩) ?_
        exact Turn.here (Turn.here (Turn.here (Turn.here (Turn.here (Turn.here (Turn.here (Turn.here (Turn.here (Turn.here (Turn.refl _ _) _) _) _) _) _) _) _) _) _) _
    · obtain rfl : j = k := by omega
      have hgood : ∀ p ∈ gnL zs j, pf p.1 p.2 = 0 := by
        have := hall.out
        rw [List.take_of_length_le (by rw [HL.out]; exact Nat.le_refl _)] at this
        exact this
      have HG : Hid (∀ p ∈ gnL zs j, pf p.1 p.2 = 0) := hgood
      have HPU2 : Hid (pu zs = rdU (gnL zs j) (zs.drop (1 + 3 * j))) := by
        unfold Hid
        rw [HPU.out, if_neg]
        have := (ixF_neg _).2 hgood
        omega
      have hq2 := hq1.new hn2
      have hps2 := hps.new hn2
      clear hall hgood hn2 bR1 N1 hq1 hps HPU
      by_cases hz : n = 1 + 3 * j
      · have hnil : zs.drop (1 + 3 * j) = [] := List.eq_nil_of_length_eq_zero (by rw [List.length_drop, HN.out]; omega)
        have HR : Hid (pu zs = if ufU (puU (gnL zs j)) = 0 then puU (gnL zs j) else puS ((gnL zs j).take 8)) := by
          unfold Hid
          rw [HPU2.out, hnil]
          rfl
        have hlt' : ¬ (j : Int) < (j : Int) := by omega
        have hz0 : n - (1 + 3 * j) = 0 := by omega
        clear hnil HPU2 h3
        by_cases h8 : 8 < j
        · have HPS : Hid (pu zs = puS ((gnL zs j).take 8)) := by
            unfold Hid
            rw [HR.out, ufU_gone HG.out, HL.out, if_pos h8]
            rfl
          have h8' : (8 : Int) < (j : Int) := by omega
          clear HR
          by_cases hce : c = 1 + 3 * j
          · subst hce
            go_wp2_with fail
            refine (l3Soft_any a1 none j c1 0 0 (gnL zs j) [] _ (hps2) (PsAt.nil _ _) HL.out rfl f1 (fun _ => ⟨rfl, rfl⟩) (by omega) (by omega)).mono ?_
            rintro e w9 ⟨ta, tm, tc, rfl, hq9, hn9⟩
            have bR9 := bR2.new hn9
            have N9 := N2.trans hn9
            have hsz9 := N2.size
            have hlR := bR2.lt
            have hq9' : OwQ w9 (w.heap.size + 1) (.slice ta tm tc) ((gnL zs j).take 8) := by rw [show okL (gnL zs j ++ []) = gnL zs j by rw [List.append_nil]; exact okL_all HG.out] at hq9; exact hq9.low (by omega)
            have cR9 := bR9.cells
            have fR9 := bR9.frees
            have lR9 := bR9.lt
            go_wp2
            refine bodyPost_ret (v := puV (puS ((gnL zs j).take 8)) (.slice ta tm tc) (.slice none 0 0) (.slice none 0 0)) (by simp [results, Try.results67, go_sem, puV, puS, cR9]) rfl ?_
            refine (fun (hT : Turn (fun k => k = w.heap.size) w9 _) => ⟨_, _, _, by rw [HPS.out], by rw [HPS.out]; exact Got.one (p := puS ((gnL zs j).take 8)) ((hq9'.turn hT (fun g hg e => by omega)).low (Nat.le_succ _)) rfl rfl, N9.before hT (fun i hi e => by omega)⟩) ?_
            exact Turn.here (Turn.here (Turn.here (Turn.here (Turn.here (Turn.here (Turn.here (Turn.here (Turn.here (Turn.here (Turn.refl _ _) _) _) _) _) _) _) _) _) _) _
          · have hci : ¬ (1 + 3 * j = c) := fun e => hce e.symm
            go_wp2_with fail
            refine (l3Soft_any a1 none j c1 0 0 (gnL zs j) [] _ (hps2) (PsAt.nil _ _) HL.out rfl f1 (fun _ => ⟨rfl, rfl⟩) (by omega) (by omega)).mono ?_
            rintro e w9 ⟨ta, tm, tc, rfl, hq9, hn9⟩
            have bR9 := bR2.new hn9
            have N9 := N2.trans hn9
            have hsz9 := N2.size
            have hlR := bR2.lt
            have hq9' : OwQ w9 (w.heap.size + 1) (.slice ta tm tc) ((gnL zs j).take 8) := by rw [show okL (gnL zs j ++ []) = gnL zs j by rw [List.append_nil]; exact okL_all HG.out] at hq9; exact hq9.low (by omega)
            have cR9 := bR9.cells
            have fR9 := bR9.frees
            have lR9 := bR9.lt
            go_wp2
            refine bodyPost_ret (v := puV (puS ((gnL zs j).take 8)) (.slice ta tm tc) (.slice none 0 0) (.slice none 0 0)) (by simp [results, Try.results67, go_sem, puV, puS, cR9]) rfl ?_
            refine (fun (hT : Turn (fun k => k = w.heap.size) w9 _) => ⟨_, _, _, by rw [HPS.out], by rw [HPS.out]; exact Got.one (p := puS ((gnL zs j).take 8)) ((hq9'.turn hT (fun g hg e => by omega)).low (Nat.le_succ _)) rfl rfl, N9.before hT (fun i hi e => by omega)⟩) ?_
            exact Turn.here (Turn.here (Turn.here (Turn.here (Turn.here (Turn.here (Turn.here (Turn.here (Turn.here (Turn.here (Turn.refl _ _) _) _) _) _) _) _) _) _) _) _
        · have HPS : Hid (pu zs = puU (gnL zs j)) := by
            unfold Hid
            rw [HR.out, ufU_gone HG.out, HL.out, if_neg h8]
            rfl
          have h8' : ¬ (8 : Int) < (j : Int) := by omega
          clear HR
          by_cases hce : c = 1 + 3 * j
          · subst hce
            go_wp2
            refine bodyPost_ret (v := puV (puU (gnL zs j)) (.slice a1 j c1) (.slice none 0 0) (.slice none 0 0)) (by simp [results, Try.results67, go_sem, puV, puU, cR]) rfl ?_
            refine (fun (hT : Turn (fun k => k = w.heap.size) wr _) => ⟨_, _, _, by rw [HPS.out], by rw [HPS.out]; exact Got.one (p := puU (gnL zs j)) ((hq2.turn hT (fun g hg e => by omega)).low (Nat.le_succ _)) rfl rfl, N2.before hT (fun i hi e => by omega)⟩) ?_
            exact Turn.here (Turn.here (Turn.here (Turn.here (Turn.here (Turn.here (Turn.here (Turn.here (Turn.here (Turn.here (Turn.refl _ _) _) _) _) _) _) _) _) _) _) _
          · have hci : ¬ (1 + 3 * j = c) := fun e => hce e.symm
            go_wp2
            refine bodyPost_ret (v := puV (puU (gnL zs j)) (.slice a1 j c1) (.slice none 0 0) (.slice none 0 0)) (by simp [results, Try.results67, go_sem, puV, puU, cR]) rfl ?_
            refine (fun (hT : Turn (fun k => k = w.heap.size) wr _) => ⟨_, _, _, by rw [HPS.out], by rw [HPS.out]; exact Got.one (p := puU (gnL zs j)) ((hq2.turn hT (fun g hg e => by omega)).low (Nat.le_succ _)) rfl rfl, N2.before hT (fun i hi e => by omega)⟩) ?_
            exact Turn.here (Turn.here (Turn.here (Turn.here (Turn.here (Turn.here (Turn.here (Turn.here (Turn.here (Turn.here (Turn.refl _ _) _) _) _) _) _) _) _) _) _) _
      · obtain ⟨ls, hls⟩ : ∃ ls, ls = zs.drop (1 + 3 * j) := ⟨_, rfl⟩
        have hbs := (h.drop (1 + 3 * j)).new N2
        have hll : ls.length = n - (1 + 3 * j) := by rw [hls, List.length_drop, HN.out]
        rw [← hls] at hbs
        obtain ⟨b1, off1, z1, e1, h1, hcz, l1, u1⟩ := hbs.at 0 (by omega)
        simp only [Option.some.injEq, Addr.mk.injEq, and_true] at e1
        obtain ⟨rfl, rfl⟩ := e1
        obtain ⟨k1, rfl⟩ : ∃ k1 : Nat, z1 = (k1 : Int) := ⟨z1.toNat, by omega⟩
        have hk1 : k1 ≤ 255 := by omega
        have HR : Hid (pu zs = if ls.length < 8 + 2 * k1 + 3 ∨ (ls.length - (8 + 2 * k1)) % 3 ≠ 0 then puS ((gnL zs j).take 8) else if ufU (puA (gnL zs j) k1 ls) = 0 then puA (gnL zs j) k1 ls else puS ((gnL zs j ++ okL (rdP (ls.drop (8 + 2 * k1)))).take 8)) := by
          unfold Hid
          rw [HPU2.out, ← hls, rdU_some h1]
        have hce : ¬ c = 1 + 3 * j := by omega
        have hlt' : ¬ (j : Int) < (j : Int) := by omega
        have hln0 : (((n - (1 + 3 * j) : Nat) : Int) == 0) = false := by simp; omega
        simp only [Nat.add_zero] at hcz
        have HLS : Hid (ls.length = n - (1 + 3 * j)) := hll
        have H1 : Hid (ls[0]? = some (k1 : Int)) := h1
        clear h3 HPU2 hls h1 hll
        by_cases hs1 : n - (1 + 3 * j) < 8 + 2 * k1
        · have HPS : Hid (pu zs = puS ((gnL zs j).take 8)) := by
            unfold Hid
            rw [HR.out, if_pos (.inl (by rw [HLS.out]; omega))]
          clear HR
          go_wp2_with fail
          refine (l3Attrs_short b (off + (1 + 3 * j)) (n - (1 + 3 * j)) (c - (1 + 3 * j)) k1 _ hcz hk1 (by omega) (by omega) hs1).mono ?_
          rintro e w3 ⟨rfl, hn3⟩
          have hal3 := (New.refl w3).alloc (.cells #[.int .i64 0, .slice none 0 0, .int .i64 0, .int .i64 0, .int .i64 0] 47)
          have bR3 := (bR2.new hn3).new hal3
          have N3 := (N2.trans hn3).trans hal3
          have hps3 := (hps2.new hn3).new hal3
          clear cR fR lR bR2 N2 hn3 hal3
          go_wp2_with fail
          refine (l3Soft_any a1 none j c1 0 0 (gnL zs j) [] _ (hps3) (PsAt.nil _ _) HL.out rfl f1 (fun _ => ⟨rfl, rfl⟩) (by omega) (by omega)).mono ?_
          rintro e w9 ⟨ta, tm, tc, rfl, hq9, hn9⟩
          have bR9 := bR3.new hn9
          have N9 := N3.trans hn9
          have hsz9 := N3.size
          have hlR := bR3.lt
          have hq9' : OwQ w9 (w.heap.size + 1) (.slice ta tm tc) ((gnL zs j).take 8) := by rw [show okL (gnL zs j ++ []) = gnL zs j by rw [List.append_nil]; exact okL_all HG.out] at hq9; exact hq9.low (by omega)
          have cR9 := bR9.cells
          have fR9 := bR9.frees
          have lR9 := bR9.lt
          go_wp2
          refine bodyPost_ret (v := puV (puS ((gnL zs j).take 8)) (.slice ta tm tc) (.slice none 0 0) (.slice none 0 0)) (by simp [results, Try.results67, go_sem, puV, puS, cR9]) rfl ?_
          refine (fun (hT : Turn (fun k => k = w.heap.size) w9 _) => ⟨_, _, _, by rw [HPS.out], by rw [HPS.out]; exact Got.one (p := puS ((gnL zs j).take 8)) ((hq9'.turn hT (fun g hg e => by omega)).low (Nat.le_succ _)) rfl rfl, N9.before hT (fun i hi e => by omega)⟩) ?_
          exact Turn.here (Turn.here (Turn.here (Turn.here (Turn.here (Turn.here (Turn.here (Turn.here (Turn.here (Turn.here (Turn.refl _ _) _) _) _) _) _) _) _) _) _) _
        · obtain ⟨o, ho⟩ : ∃ o, ls[1 + 2 * k1]? = some o := ⟨_, List.getElem?_eq_getElem (by rw [HLS.out]; omega)⟩
          have HO : Hid ((puA (gnL zs j) k1 ls).o = o) := by unfold Hid puA; simp [ho]
          have NB : Hid (∀ z ∈ nsR ls k1, In6 z) := fun z hz => by
            unfold nsR at hz
            obtain ⟨i, _, rfl⟩ := List.mem_map.1 hz
            have := numAt_bd2 ls hbs.lt (1 + 2 * i)
            unfold In6; omega
          have PB : Hid (∀ p ∈ rdP (ls.drop (8 + 2 * k1)), In6 p.1 ∧ In6 p.2) := fun p hp => by
            have := rdP_bd _ (fun z hz => hbs.lt z (List.mem_of_mem_drop hz)) p hp
            unfold In6; omega
          go_wp2_with fail
          refine (l3Attrs_ok b (off + (1 + 3 * j)) (n - (1 + 3 * j)) (c - (1 + 3 * j)) k1 ls o _ hbs HLS.out H1.out (by omega) (by omega) hk1 ho).mono ?_
          rintro e w3 ⟨xa, xc, rfl, hM3, hn3⟩
          have EX : Hid (numAt ls (2 + 2 * k1) 2 = (puA (gnL zs j) k1 ls).nx) := rfl
          have EY : Hid (numAt ls (4 + 2 * k1) 2 = (puA (gnL zs j) k1 ls).md) := rfl
          have EZ : Hid (numAt ls (6 + 2 * k1) 2 = (puA (gnL zs j) k1 ls).lc) := rfl
          rw [EX.out, EY.out, EZ.out]
          obtain ⟨X, hX⟩ : ∃ X, (puA (gnL zs j) k1 ls).nx = X := ⟨_, rfl⟩
          obtain ⟨Y, hY⟩ : ∃ Y, (puA (gnL zs j) k1 ls).md = Y := ⟨_, rfl⟩
          obtain ⟨Z, hZ⟩ : ∃ Z, (puA (gnL zs j) k1 ls).lc = Z := ⟨_, rfl⟩
          rw [hX, hY, hZ]
          have HX : Hid ((puA (gnL zs j) k1 ls).nx = X) := hX
          have HY : Hid ((puA (gnL zs j) k1 ls).md = Y) := hY
          have HZ2 : Hid ((puA (gnL zs j) k1 ls).lc = Z) := hZ
          clear hX hY hZ EX EY EZ
          have hal3 := (New.refl w3).alloc (.cells #[.int .i64 o, .slice xa k1 xc, .int .i64 X, .int .i64 Y, .int .i64 Z] 47)
          have bT := Blk.mk w3 w3.heap.size 47 #[.int .i64 o, .slice xa k1 xc, .int .i64 X, .int .i64 Y, .int .i64 Z] rfl
          have bR3 := (bR2.new hn3).new hal3
          have N3 := (N2.trans hn3).trans hal3
          have hps3 := (hps2.new hn3).new hal3
          have hq3 := (hq2.new hn3).new hal3
          have hb3 := (hbs.new hn3).new hal3
          have hM4 := hM3.new hal3
          have hMb := hM3.blk
          have hqb := hq2.blk
          have s23 := hn3.size
          have s2 := bR2.lt
          clear cR fR lR bR2 N2 hn3 hal3 hq2 hps2 hbs hM3 ho hcz
          have hsz0 : ¬ (8 + 2 * (k1 : Int) < 0) := by omega
          by_cases hce2 : c - (1 + 3 * j) = 8 + 2 * k1
          · have hn2 : n - (1 + 3 * j) = 8 + 2 * k1 := by omega
            have hd0 : ls.drop (8 + 2 * k1) = [] := List.eq_nil_of_length_eq_zero (by rw [List.length_drop, HLS.out]; omega)
            have hb0 : BsAt (w3.alloc (.cells #[.int .i64 o, .slice xa k1 xc, .int .i64 X, .int .i64 Y, .int .i64 Z] 47)) (some ⟨b, off + (1 + 3 * j), none⟩) (ls.drop (8 + 2 * k1)) := by rw [hd0]; exact BsAt.nil _ _
            clear hd0
            have RL : Hid ((ls.drop (8 + 2 * k1)).length = 0 * 3) := by unfold Hid; rw [List.length_drop, HLS.out]; omega
            have PL : Hid ((rdP (ls.drop (8 + 2 * k1))).length = 0) := rdP_len 0 _ RL.out
            obtain ⟨uq, huq⟩ : ∃ uq, ufU (puA (gnL zs j) k1 ls) = uq := ⟨_, rfl⟩
            have HUF : Hid (uf (gnL zs j) true o (nsR ls k1) X Y Z (rdP (ls.drop (8 + 2 * k1))) = uq) := by
              unfold Hid
              rw [← huq, ← HO.out, ← HX.out, ← HY.out, ← HZ2.out]
              rfl
            have HP0 : Hid (uq = 0 → pu zs = puA (gnL zs j) k1 ls) := by
              intro hu
              have hqp : 0 < 0 := by
                rcases Nat.eq_zero_or_pos 0 with hq0 | hq0
                · exact absurd (huq.trans hu) (ufU_nil _ _ _ (List.eq_nil_of_length_eq_zero (by first | (rw [PL.out, hq0]; done) | rw [PL.out])))
                · exact hq0
              rw [HR.out, if_neg (by rw [HLS.out]; omega), if_pos (huq.trans hu)]
            have HP1 : Hid (uq ≠ 0 → pu zs = puS ((gnL zs j ++ okL (rdP (ls.drop (8 + 2 * k1)))).take 8)) := by
              intro hu
              rcases Nat.eq_zero_or_pos 0 with hq0 | hq0
              · have hnl : rdP (ls.drop (8 + 2 * k1)) = [] := List.eq_nil_of_length_eq_zero (by first | (rw [PL.out, hq0]; done) | rw [PL.out])
                rw [HR.out, if_pos (.inl (by rw [HLS.out]; omega)), hnl]
                simp [okL]
              · rw [HR.out, if_neg (by rw [HLS.out]; omega), if_neg (by rw [huq]; exact hu)]
            clear huq HR
            have cT := bT.cells
            have lT := bT.lt
            have cTa := (bT.alloc (.cells #[.slice none 0 0, .bool false, .int .i64 0, .slice none 0 0, .int .i64 0, .int .i64 0, .int .i64 0, .slice none 0 0] 49)).cells
            go_wp2_with fail
            go_region_law (go_simp; go_at_call 77; refine (l3Read_any (some ⟨b, off + (1 + 3 * j), none⟩) 0 (0) (ls.drop (8 + 2 * k1)) _ (hb0.new (by first | exact (New.refl _).drew | exact ((New.refl _).alloc _).drew)) RL.out (by omega)).mono ?_; rintro e w5 ⟨v5, rfl, hQ5, hn5⟩; have bT5 := bT.new (New.trans (by first | exact (New.refl _).drew | exact ((New.refl _).alloc _).drew) hn5); have cT5 := bT5.cells; have cT5a := (bT5.alloc (.cells #[.slice none 0 0, .bool false, .int .i64 0, .slice none 0 0, .int .i64 0, .int .i64 0, .int .i64 0, .slice none 0 0] 49)).cells; obtain ⟨ra, rc, hv5, hps5, hrb5⟩ := hQ5.ps PB.out; obtain ⟨ra', rc', hv5', hra5, hlc5, hf5⟩ := hQ5.form; subst hv5; simp only [Value.slice.injEq] at hv5'; obtain ⟨rfl, -, rfl⟩ := hv5'; (rw [PL.out] at hQ5 hra5 ⊢); first | (have bU5 := ((Blk.mk (w3.alloc (.cells #[.int .i64 o, .slice xa k1 xc, .int .i64 X, .int .i64 Y, .int .i64 Z] 47)) (w3.heap.size + 1) 49 #[.slice none 0 0, .bool false, .int .i64 0, .slice none 0 0, .int .i64 0, .int .i64 0, .int .i64 0, .slice none 0 0] (by simp)).new ((New.refl _).drew)).new hn5; have cU5 := bU5.cells; have fU5 := bU5.frees; have lU5 := bU5.lt) | skip)
            all_goals
              first
              | (have hQ6a := hQ5.low (lo' := w3.heap.size + 2) (by simp); have M6 : New (w3.alloc (.cells #[.int .i64 o, .slice xa k1 xc, .int .i64 X, .int .i64 Y, .int .i64 Z] 47)) w5 := (((New.refl _).alloc _).drew).trans hn5; have b6 := (((((((bU5.set 0 (.slice a1 j c1)).set 1 (.bool true)).set 2 (.int .i64 o)).set 3 (.slice xa k1 xc)).set 4 (.int .i64 X)).set 5 (.int .i64 Y)).set 6 (.int .i64 Z)).set 7 (.slice ra 0 rc); have T6 := Turn.here (B := w3.heap.size + 1) (j := 7) (Turn.here (B := w3.heap.size + 1) (j := 6) (Turn.here (B := w3.heap.size + 1) (j := 5) (Turn.here (B := w3.heap.size + 1) (j := 4) (Turn.here (B := w3.heap.size + 1) (j := 3) (Turn.here (B := w3.heap.size + 1) (j := 2) (Turn.here (B := w3.heap.size + 1) (j := 1) (Turn.here (B := w3.heap.size + 1) (j := 0) (Turn.refl _ w5) (.slice a1 j c1)) (.bool true)) (.int .i64 o)) (.slice xa k1 xc)) (.int .i64 X)) (.int .i64 Y)) (.int .i64 Z)) (.slice ra 0 rc); simp only [List.setIfInBounds_toArray, List.set_cons_zero, List.set_cons_succ] at b6; have bR6 := (bR3.new M6).turn T6 (by omega); have N6 := (N3.trans M6).before T6 (fun i hi e => by omega); have hq6 : OwQ _ (w.heap.size + 1) (.slice a1 j c1) (gnL zs j) := (hq3.new M6).turnB T6 (fun g hg e => by have := hqb g hg; omega); have hM6 : OwM _ wr.heap.size (.slice xa k1 xc) (nsR ls k1) := (hM4.new M6).turnB T6 (fun g hg e => by have := hMb g hg; omega); have hQ6 := (hQ6a.turn T6 (fun g hg e => by omega)).low (lo' := w3.heap.size) (by omega); clear T6 M6 hQ6a bU5 cU5 fU5 lU5)
              | (have M6 : New (w3.alloc (.cells #[.int .i64 o, .slice xa k1 xc, .int .i64 X, .int .i64 Y, .int .i64 Z] 47)) w5 := ((New.refl _).drew).trans hn5; have b6 := Blk.mk w5 w5.heap.size 49 #[.slice a1 j c1, .bool true, .int .i64 o, .slice xa k1 xc, .int .i64 X, .int .i64 Y, .int .i64 Z, .slice ra 0 rc] rfl; have T6 := (New.refl w5).alloc (.cells #[.slice a1 j c1, .bool true, .int .i64 o, .slice xa k1 xc, .int .i64 X, .int .i64 Y, .int .i64 Z, .slice ra 0 rc] 49); have bR6 := (bR3.new M6).new T6; have N6 := (N3.trans M6).trans T6; have hq6 : OwQ _ (w.heap.size + 1) (.slice a1 j c1) (gnL zs j) := (hq3.new M6).new T6; have hM6 : OwM _ wr.heap.size (.slice xa k1 xc) (nsR ls k1) := (hM4.new M6).new T6; have hQ6 := (hQ5.new T6).low (lo' := w3.heap.size) (by simp); clear T6 M6)
              have hrb := hQ6.blk
              clear hQ5 hn5 bT5 cT5 cT5a hps5 hrb5 hlc5 hf5 cT lT cTa bT bR3 N3 hps3 hq3 hb3 hM4
              have cU := b6.cells
              have hpg := hq6.ps' HB.out
              have hnx := hM6.ns' NB.out
              have hpr := hQ6.ps' PB.out
              go_wp2_with fail
              refine (specUF a1 xa ra j c1 k1 xc 0 rc true o X Y Z (gnL zs j) (rdP (ls.drop (8 + 2 * k1))) (nsR ls k1) _ hpg hnx hpr HL.out (nsR_len _ _) PL.out (by omega) (by omega) (by omega)).mono ?_
              rintro e w7 ⟨rfl, hn7⟩
              rw [HUF.out]
              have b7 := b6.new hn7
              have bR7 := bR6.new hn7
              have N7 := N6.trans hn7
              have hq7 := hq6.new hn7
              have hM7 := hM6.new hn7
              have hQ7 := hQ6.new hn7
              have hpg7 := hpg.new hn7
              have hpr7 := hpr.new hn7
              clear b6 bR6 N6 hq6 hM6 hQ6 hpg hnx hpr hn7 cU
              have cU := b7.cells
              have cR := bR7.cells
              have fR := bR7.frees
              have lR := bR7.lt
              by_cases hu : uq = 0
              · have HPS : Hid (pu zs = puA (gnL zs j) k1 ls) := HP0.out hu
                subst hu
                go_wp2
                refine bodyPost_ret (v := .agg #[.int .i64 0, .bool false, .slice a1 j c1, .bool true, .int .i64 o, .slice xa k1 xc, .int .i64 X, .int .i64 Y, .int .i64 Z, .slice ra 0 rc]) (by simp [results, Try.results67, go_sem, cR]) rfl ?_
                refine (fun (hT : Turn (fun k => k = w.heap.size) w7 _) => ⟨.slice a1 j c1, .slice xa k1 xc, .slice ra 0 rc, by rw [HPS.out]; unfold puV; rw [HO.out, HX.out, HY.out, HZ2.out]; rfl, by rw [HPS.out]; exact ⟨(hq7.turn hT (fun g hg e => by omega)).low (Nat.le_succ _), (hM7.turn hT (fun g hg e => by omega)).low (by omega), (hQ7.turn hT (fun g hg e => by omega)).low (by omega), (fun bb e1 e2 => by have := hqb bb e1; have := hMb bb e2; omega), (fun bb e1 e2 => by have := hqb bb e1; have := hrb bb e2; omega), (fun bb e1 e2 => by have := hMb bb e1; have := hrb bb e2; omega)⟩, N7.before hT (fun i hi e => by omega)⟩) ?_
                exact Turn.here (Turn.here (Turn.here (Turn.here (Turn.here (Turn.here (Turn.here (Turn.here (Turn.here (Turn.here (Turn.refl _ _) _) _) _) _) _) _) _) _) _) _
              · have HPS : Hid (pu zs = puS ((gnL zs j ++ okL (rdP (ls.drop (8 + 2 * k1)))).take 8)) := HP1.out hu
                have hu' : ¬ uq = 0 := hu
                go_wp2_with fail
                refine (l3Soft_any a1 ra j c1 0 rc (gnL zs j) (rdP (ls.drop (8 + 2 * k1))) _ hpg7 hpr7 HL.out PL.out f1 (fun e => ⟨rfl, by simpa using hra5 e⟩) (by omega) (by omega)).mono ?_
                rintro e w9 ⟨ta, tm, tc, rfl, hq9, hn9⟩
                have bR9 := bR7.new hn9
                have N9 := N7.trans hn9
                have hsz9 := N7.size
                have hlR := bR7.lt
                have hq9' : OwQ w9 (w.heap.size + 1) (.slice ta tm tc) ((gnL zs j ++ okL (rdP (ls.drop (8 + 2 * k1)))).take 8) := by rw [show okL (gnL zs j ++ rdP (ls.drop (8 + 2 * k1))) = gnL zs j ++ okL (rdP (ls.drop (8 + 2 * k1))) by rw [show okL (gnL zs j ++ rdP (ls.drop (8 + 2 * k1))) = okL (gnL zs j) ++ okL (rdP (ls.drop (8 + 2 * k1))) from List.filter_append .., okL_all HG.out]] at hq9; exact hq9.low (by omega)
                have cR9 := bR9.cells
                have fR9 := bR9.frees
                have lR9 := bR9.lt
                go_wp2
                refine bodyPost_ret (v := puV (puS ((gnL zs j ++ okL (rdP (ls.drop (8 + 2 * k1)))).take 8)) (.slice ta tm tc) (.slice none 0 0) (.slice none 0 0)) (by simp [results, Try.results67, go_sem, puV, puS, cR9]) rfl ?_
                refine (fun (hT : Turn (fun k => k = w.heap.size) w9 _) => ⟨_, _, _, by rw [HPS.out], by rw [HPS.out]; exact Got.one (p := puS ((gnL zs j ++ okL (rdP (ls.drop (8 + 2 * k1)))).take 8)) ((hq9'.turn hT (fun g hg e => by omega)).low (Nat.le_succ _)) rfl rfl, N9.before hT (fun i hi e => by omega)⟩) ?_
                exact Turn.here (Turn.here (Turn.here (Turn.here (Turn.here (Turn.here (Turn.here (Turn.here (Turn.here (Turn.here (Turn.refl _ _) _) _) _) _) _) _) _) _) _) _
          · obtain ⟨r, hrn⟩ : ∃ r, n - (1 + 3 * j) - (8 + 2 * k1) = r := ⟨_, rfl⟩
            have hlel : 8 + 2 * k1 ≤ n - (1 + 3 * j) := by omega
            have hlel' : 8 + 2 * (k1 : Int) ≤ ((n - (1 + 3 * j) : Nat) : Int) := by omega
            have hmod : (r : Int).tmod 3 = ((r % 3 : Nat) : Int) := by rw [Int.tmod_eq_emod_of_nonneg (by omega)]; omega
            by_cases hr3 : r % 3 ≠ 0
            · have HPS : Hid (pu zs = puS ((gnL zs j).take 8)) := by
                unfold Hid
                rw [HR.out, if_pos (.inr (by rw [HLS.out, hrn]; exact hr3))]
              clear HR
              have hne3 : (((r % 3 : Nat) : Int) != 0) = true := by simp; omega
              generalize r % 3 = r3 at *
              go_wp2_with fail
              refine (l3Soft_any a1 none j c1 0 0 (gnL zs j) [] _ (hps3) (PsAt.nil _ _) HL.out rfl f1 (fun _ => ⟨rfl, rfl⟩) (by omega) (by omega)).mono ?_
              rintro e w9 ⟨ta, tm, tc, rfl, hq9, hn9⟩
              have bR9 := bR3.new hn9
              have N9 := N3.trans hn9
              have hsz9 := N3.size
              have hlR := bR3.lt
              have hq9' : OwQ w9 (w.heap.size + 1) (.slice ta tm tc) ((gnL zs j).take 8) := by rw [show okL (gnL zs j ++ []) = gnL zs j by rw [List.append_nil]; exact okL_all HG.out] at hq9; exact hq9.low (by omega)
              have cR9 := bR9.cells
              have fR9 := bR9.frees
              have lR9 := bR9.lt
              go_wp2
              refine bodyPost_ret (v := puV (puS ((gnL zs j).take 8)) (.slice ta tm tc) (.slice none 0 0) (.slice none 0 0)) (by simp [results, Try.results67, go_sem, puV, puS, cR9]) rfl ?_
              refine (fun (hT : Turn (fun k => k = w.heap.size) w9 _) => ⟨_, _, _, by rw [HPS.out], by rw [HPS.out]; exact Got.one (p := puS ((gnL zs j).take 8)) ((hq9'.turn hT (fun g hg e => by omega)).low (Nat.le_succ _)) rfl rfl, N9.before hT (fun i hi e => by omega)⟩) ?_
              exact Turn.here (Turn.here (Turn.here (Turn.here (Turn.here (Turn.here (Turn.here (Turn.here (Turn.here (Turn.here (Turn.refl _ _) _) _) _) _) _) _) _) _) _) _
            · obtain ⟨q, rfl⟩ : ∃ q, r = q * 3 := ⟨r / 3, by omega⟩
              have hm0 : ((q * 3 : Nat) : Int).tmod 3 = 0 := by rw [Int.tmod_eq_emod_of_nonneg (by omega)]; omega
              clear hmod hr3
              have RL : Hid ((ls.drop (8 + 2 * k1)).length = q * 3) := by unfold Hid; rw [List.length_drop, HLS.out]; omega
              have PL : Hid ((rdP (ls.drop (8 + 2 * k1))).length = q) := rdP_len q _ RL.out
              obtain ⟨uq, huq⟩ : ∃ uq, ufU (puA (gnL zs j) k1 ls) = uq := ⟨_, rfl⟩
              have HUF : Hid (uf (gnL zs j) true o (nsR ls k1) X Y Z (rdP (ls.drop (8 + 2 * k1))) = uq) := by
                unfold Hid
                rw [← huq, ← HO.out, ← HX.out, ← HY.out, ← HZ2.out]
                rfl
              have HP0 : Hid (uq = 0 → pu zs = puA (gnL zs j) k1 ls) := by
                intro hu
                have hqp : 0 < q := by
                  rcases Nat.eq_zero_or_pos q with hq0 | hq0
                  · exact absurd (huq.trans hu) (ufU_nil _ _ _ (List.eq_nil_of_length_eq_zero (by first | (rw [PL.out, hq0]; done) | rw [PL.out])))
                  · exact hq0
                rw [HR.out, if_neg (by rw [HLS.out]; omega), if_pos (huq.trans hu)]
              have HP1 : Hid (uq ≠ 0 → pu zs = puS ((gnL zs j ++ okL (rdP (ls.drop (8 + 2 * k1)))).take 8)) := by
                intro hu
                rcases Nat.eq_zero_or_pos q with hq0 | hq0
                · have hnl : rdP (ls.drop (8 + 2 * k1)) = [] := List.eq_nil_of_length_eq_zero (by first | (rw [PL.out, hq0]; done) | rw [PL.out])
                  rw [HR.out, if_pos (.inl (by rw [HLS.out]; omega)), hnl]
                  simp [okL]
                · rw [HR.out, if_neg (by rw [HLS.out]; omega), if_neg (by rw [huq]; exact hu)]
              clear huq HR
              have cT := bT.cells
              have lT := bT.lt
              have cTa := (bT.alloc (.cells #[.slice none 0 0, .bool false, .int .i64 0, .slice none 0 0, .int .i64 0, .int .i64 0, .int .i64 0, .slice none 0 0] 49)).cells
              go_wp2_with fail
              go_region_law (go_simp; go_at_call 77; refine (l3Read_any (some ⟨b, off + (1 + 3 * j) + (8 + 2 * k1), none⟩) q (c - (1 + 3 * j) - (8 + 2 * k1)) (ls.drop (8 + 2 * k1)) _ ((hb3.drop (8 + 2 * k1)).new (by first | exact (New.refl _).drew | exact ((New.refl _).alloc _).drew)) RL.out (by omega)).mono ?_; rintro e w5 ⟨v5, rfl, hQ5, hn5⟩; have bT5 := bT.new (New.trans (by first | exact (New.refl _).drew | exact ((New.refl _).alloc _).drew) hn5); have cT5 := bT5.cells; have cT5a := (bT5.alloc (.cells #[.slice none 0 0, .bool false, .int .i64 0, .slice none 0 0, .int .i64 0, .int .i64 0, .int .i64 0, .slice none 0 0] 49)).cells; obtain ⟨ra, rc, hv5, hps5, hrb5⟩ := hQ5.ps PB.out; obtain ⟨ra', rc', hv5', hra5, hlc5, hf5⟩ := hQ5.form; subst hv5; simp only [Value.slice.injEq] at hv5'; obtain ⟨rfl, -, rfl⟩ := hv5'; (rw [PL.out] at hQ5 hra5 ⊢); first | (have bU5 := ((Blk.mk (w3.alloc (.cells #[.int .i64 o, .slice xa k1 xc, .int .i64 X, .int .i64 Y, .int .i64 Z] 47)) (w3.heap.size + 1) 49 #[.slice none 0 0, .bool false, .int .i64 0, .slice none 0 0, .int .i64 0, .int .i64 0, .int .i64 0, .slice none 0 0] (by simp)).new ((New.refl _).drew)).new hn5; have cU5 := bU5.cells; have fU5 := bU5.frees; have lU5 := bU5.lt) | skip)
              all_goals
                first
                | (have hQ6a := hQ5.low (lo' := w3.heap.size + 2) (by simp); have M6 : New (w3.alloc (.cells #[.int .i64 o, .slice xa k1 xc, .int .i64 X, .int .i64 Y, .int .i64 Z] 47)) w5 := (((New.refl _).alloc _).drew).trans hn5; have b6 := (((((((bU5.set 0 (.slice a1 j c1)).set 1 (.bool true)).set 2 (.int .i64 o)).set 3 (.slice xa k1 xc)).set 4 (.int .i64 X)).set 5 (.int .i64 Y)).set 6 (.int .i64 Z)).set 7 (.slice ra q rc); have T6 := Turn.here (B := w3.heap.size + 1) (j := 7) (Turn.here (B := w3.heap.size + 1) (j := 6) (Turn.here (B := w3.heap.size + 1) (j := 5) (Turn.here (B := w3.heap.size + 1) (j := 4) (Turn.here (B := w3.heap.size + 1) (j := 3) (Turn.here (B := w3.heap.size + 1) (j := 2) (Turn.here (B := w3.heap.size + 1) (j := 1) (Turn.here (B := w3.heap.size + 1) (j := 0) (Turn.refl _ w5) (.slice a1 j c1)) (.bool true)) (.int .i64 o)) (.slice xa k1 xc)) (.int .i64 X)) (.int .i64 Y)) (.int .i64 Z)) (.slice ra q rc); simp only [List.setIfInBounds_toArray, List.set_cons_zero, List.set_cons_succ] at b6; have bR6 := (bR3.new M6).turn T6 (by omega); have N6 := (N3.trans M6).before T6 (fun i hi e => by omega); have hq6 : OwQ _ (w.heap.size + 1) (.slice a1 j c1) (gnL zs j) := (hq3.new M6).turnB T6 (fun g hg e => by have := hqb g hg; omega); have hM6 : OwM _ wr.heap.size (.slice xa k1 xc) (nsR ls k1) := (hM4.new M6).turnB T6 (fun g hg e => by have := hMb g hg; omega); have hQ6 := (hQ6a.turn T6 (fun g hg e => by omega)).low (lo' := w3.heap.size) (by omega); clear T6 M6 hQ6a bU5 cU5 fU5 lU5)
                | (have M6 : New (w3.alloc (.cells #[.int .i64 o, .slice xa k1 xc, .int .i64 X, .int .i64 Y, .int .i64 Z] 47)) w5 := ((New.refl _).drew).trans hn5; have b6 := Blk.mk w5 w5.heap.size 49 #[.slice a1 j c1, .bool true, .int .i64 o, .slice xa k1 xc, .int .i64 X, .int .i64 Y, .int .i64 Z, .slice ra q rc] rfl; have T6 := (New.refl w5).alloc (.cells #[.slice a1 j c1, .bool true, .int .i64 o, .slice xa k1 xc, .int .i64 X, .int .i64 Y, .int .i64 Z, .slice ra q rc] 49); have bR6 := (bR3.new M6).new T6; have N6 := (N3.trans M6).trans T6; have hq6 : OwQ _ (w.heap.size + 1) (.slice a1 j c1) (gnL zs j) := (hq3.new M6).new T6; have hM6 : OwM _ wr.heap.size (.slice xa k1 xc) (nsR ls k1) := (hM4.new M6).new T6; have hQ6 := (hQ5.new T6).low (lo' := w3.heap.size) (by simp); clear T6 M6)
                have hrb := hQ6.blk
                clear hQ5 hn5 bT5 cT5 cT5a hps5 hrb5 hlc5 hf5 cT lT cTa bT bR3 N3 hps3 hq3 hb3 hM4
                have cU := b6.cells
                have hpg := hq6.ps' HB.out
                have hnx := hM6.ns' NB.out
                have hpr := hQ6.ps' PB.out
                go_wp2_with fail
                refine (specUF a1 xa ra j c1 k1 xc q rc true o X Y Z (gnL zs j) (rdP (ls.drop (8 + 2 * k1))) (nsR ls k1) _ hpg hnx hpr HL.out (nsR_len _ _) PL.out (by omega) (by omega) (by omega)).mono ?_
                rintro e w7 ⟨rfl, hn7⟩
                rw [HUF.out]
                have b7 := b6.new hn7
                have bR7 := bR6.new hn7
                have N7 := N6.trans hn7
                have hq7 := hq6.new hn7
                have hM7 := hM6.new hn7
                have hQ7 := hQ6.new hn7
                have hpg7 := hpg.new hn7
                have hpr7 := hpr.new hn7
                clear b6 bR6 N6 hq6 hM6 hQ6 hpg hnx hpr hn7 cU
                have cU := b7.cells
                have cR := bR7.cells
                have fR := bR7.frees
                have lR := bR7.lt
                by_cases hu : uq = 0
                · have HPS : Hid (pu zs = puA (gnL zs j) k1 ls) := HP0.out hu
                  subst hu
                  go_wp2
                  refine bodyPost_ret (v := .agg #[.int .i64 0, .bool false, .slice a1 j c1, .bool true, .int .i64 o, .slice xa k1 xc, .int .i64 X, .int .i64 Y, .int .i64 Z, .slice ra q rc]) (by simp [results, Try.results67, go_sem, cR]) rfl ?_
                  refine (fun (hT : Turn (fun k => k = w.heap.size) w7 _) => ⟨.slice a1 j c1, .slice xa k1 xc, .slice ra q rc, by rw [HPS.out]; unfold puV; rw [HO.out, HX.out, HY.out, HZ2.out]; rfl, by rw [HPS.out]; exact ⟨(hq7.turn hT (fun g hg e => by omega)).low (Nat.le_succ _), (hM7.turn hT (fun g hg e => by omega)).low (by omega), (hQ7.turn hT (fun g hg e => by omega)).low (by omega), (fun bb e1 e2 => by have := hqb bb e1; have := hMb bb e2; omega), (fun bb e1 e2 => by have := hqb bb e1; have := hrb bb e2; omega), (fun bb e1 e2 => by have := hMb bb e1; have := hrb bb e2; omega)⟩, N7.before hT (fun i hi e => by omega)⟩) ?_
                  exact Turn.here (Turn.here (Turn.here (Turn.here (Turn.here (Turn.here (Turn.here (Turn.here (Turn.here (Turn.here (Turn.refl _ _) _) _) _) _) _) _) _) _) _) _
                · have HPS : Hid (pu zs = puS ((gnL zs j ++ okL (rdP (ls.drop (8 + 2 * k1)))).take 8)) := HP1.out hu
                  have hu' : ¬ uq = 0 := hu
                  go_wp2_with fail
                  refine (l3Soft_any a1 ra j c1 q rc (gnL zs j) (rdP (ls.drop (8 + 2 * k1))) _ hpg7 hpr7 HL.out PL.out f1 hra5 (by omega) (by omega)).mono ?_
                  rintro e w9 ⟨ta, tm, tc, rfl, hq9, hn9⟩
                  have bR9 := bR7.new hn9
                  have N9 := N7.trans hn9
                  have hsz9 := N7.size
                  have hlR := bR7.lt
                  have hq9' : OwQ w9 (w.heap.size + 1) (.slice ta tm tc) ((gnL zs j ++ okL (rdP (ls.drop (8 + 2 * k1)))).take 8) := by rw [show okL (gnL zs j ++ rdP (ls.drop (8 + 2 * k1))) = gnL zs j ++ okL (rdP (ls.drop (8 + 2 * k1))) by rw [show okL (gnL zs j ++ rdP (ls.drop (8 + 2 * k1))) = okL (gnL zs j) ++ okL (rdP (ls.drop (8 + 2 * k1))) from List.filter_append .., okL_all HG.out]] at hq9; exact hq9.low (by omega)
                  have cR9 := bR9.cells
                  have fR9 := bR9.frees
                  have lR9 := bR9.lt
                  go_wp2
                  refine bodyPost_ret (v := puV (puS ((gnL zs j ++ okL (rdP (ls.drop (8 + 2 * k1)))).take 8)) (.slice ta tm tc) (.slice none 0 0) (.slice none 0 0)) (by simp [results, Try.results67, go_sem, puV, puS, cR9]) rfl ?_
                  refine (fun (hT : Turn (fun k => k = w.heap.size) w9 _) => ⟨_, _, _, by rw [HPS.out], by rw [HPS.out]; exact Got.one (p := puS ((gnL zs j ++ okL (rdP (ls.drop (8 + 2 * k1)))).take 8)) ((hq9'.turn hT (fun g hg e => by omega)).low (Nat.le_succ _)) rfl rfl, N9.before hT (fun i hi e => by omega)⟩) ?_
                  exact Turn.here (Turn.here (Turn.here (Turn.here (Turn.here (Turn.here (Turn.here (Turn.here (Turn.here (Turn.here (Turn.refl _ _) _) _) _) _) _) _) _) _) _) _

end Go.Proofs.Ytljkcijakdhdiaa

namespace Go.Proofs.Ytljkcijakdhdiaa
open Go.RowKit Go.Sort
set_option linter.unusedVariables false

set_option maxHeartbeats 1600000 in
theorem specParse_one (b off : Nat) (w : World) (hc : w.cell? ⟨b, off, none⟩ = some (.int .u8 0)) :
    Calls Try.prog 67 #[.slice (some ⟨b, off, none⟩) 1 1] w fun e w' => ∃ x, e = .returned (puV (puU []) x (.slice none 0 0) (.slice none 0 0)) ∧ OwQ w' w.heap.size x [] ∧ New w w' := by
  have hw := (New.refl w).alloc (.cells #[.int .i64 0, .bool false, .slice none 0 0, .bool false, .int .i64 0, .slice none 0 0, .int .i64 0, .int .i64 0, .int .i64 0, .slice none 0 0] 82)
  have bR := Blk.mk w w.heap.size 82 #[.int .i64 0, .bool false, .slice none 0 0, .bool false, .int .i64 0, .slice none 0 0, .int .i64 0, .int .i64 0, .int .i64 0, .slice none 0 0] rfl
  have hc' := (World.cell?_of_block (hw.block b (World.block_lt_of_cell? w _ hc) (fun f => f))).trans hc
  go_enter Try.func67, Try.ntmps67
  go_wp2_with fail
  refine (l3Read_any (some ⟨b, off, none⟩) 0 0 [] _ (BsAt.nil _ _) rfl (by omega)).mono ?_
  rintro e w1 ⟨v, rfl, hq0, hn1⟩
  have hq1 : OwQ w1 (w.heap.size + 1) v [] := hq0.low (by simp)
  have bR1 := bR.new hn1
  have N1 := hw.trans hn1
  obtain ⟨a1, c1, rfl, f1, -, -⟩ := hq1.form
  simp only [List.length_nil] at hq1 ⊢
  clear hq0 hn1 bR hw hc'
  go_wp2_with fail
  go_loopw [5] (fun i wr => i = .int .i64 0 ∧ New w1 wr) (fun _ _ => 0)
  case atStart => exact ⟨rfl, New.refl _⟩
  case round =>
    obtain ⟨rfl, hn2⟩ := hrel
    have bR2 := bR1.new hn2
    have cR := bR2.cells
    have fR := bR2.frees
    have lR := bR2.lt
    have N2 := N1.trans hn2
    have hq2 := hq1.new hn2
    go_wp2
    refine bodyPost_ret (v := puV (puU []) (.slice a1 0 c1) (.slice none 0 0) (.slice none 0 0)) (by simp [results, Try.results67, go_sem, puV, puU, cR]) rfl ?_
    refine (fun (hT : Turn (fun k => k = w.heap.size) wr _) => ⟨_, rfl, (hq2.turn hT (fun g hg e => by omega)).low (Nat.le_succ _), N2.before hT (fun i hi e => by omega)⟩) ?_
    exact Turn.here (Turn.here (Turn.here (Turn.here (Turn.here (Turn.here (Turn.here (Turn.here (Turn.here (Turn.here (Turn.refl _ _) _) _) _) _) _) _) _) _) _) _

theorem specParse (a : Option Addr) (n c : Nat) (zs : List Int) (w : World) (h : BsAt w a zs) (hn : zs.length = n) (hcc : n ≤ c) (hm : n ≤ 1048576) :
    Calls Try.prog 67 #[.slice a n c] w fun e w' => ∃ x y z, e = .returned (puV (pu zs) x y z) ∧ Got w' w.heap.size (pu zs) x y z ∧ New w w' := by
  rcases Nat.eq_zero_or_pos n with rfl | hpos
  · obtain rfl : zs = [] := List.eq_nil_of_length_eq_zero hn
    refine (specParse_empty a c w).mono ?_
    rintro e w' ⟨rfl, hnw⟩
    exact ⟨_, _, _, rfl, Got.one (p := puZ 5) (OwQ.nil _ _) rfl rfl, hnw⟩
  · obtain ⟨b, off, z0, rfl, h0, hc0, l0, u0⟩ := h.at 0 (by omega)
    obtain ⟨k, rfl⟩ : ∃ k : Nat, z0 = (k : Int) := ⟨z0.toNat, by omega⟩
    have hk : k ≤ 255 := by omega
    have hpu := pu_some h0
    rw [Nat.add_zero] at hc0
    by_cases hs : n < 1 + 3 * k
    · rw [if_pos (by omega)] at hpu
      refine (specParse_short b off n c k w hc0 hk hpos hm hs).mono ?_
      rintro e w' ⟨rfl, hnw⟩
      rw [hpu]
      exact ⟨_, _, _, rfl, Got.one (p := puZ 5) (OwQ.nil _ _) rfl rfl, hnw⟩
    · by_cases hc1 : c = 1
      · subst hc1
        obtain rfl : n = 1 := by omega
        obtain rfl : k = 0 := by omega
        have hg0 : gnL zs 0 = [] := by simp [gnL, rdP]
        have hd : zs.drop (1 + 3 * 0) = [] := List.eq_nil_of_length_eq_zero (by rw [List.length_drop, hn])
        have hu : ufU (puU []) = 0 := by rw [ufU_gone (by simp)]; simp
        have hpu' : pu zs = puU [] := by
          rw [hpu, if_neg (by omega), hg0, hd, if_neg (by simp [ixF])]
          show (if ufU (puU []) = 0 then puU [] else puS (([] : List (Int × Int)).take 8)) = puU []
          rw [if_pos hu]
        refine (specParse_one b off w (by simpa using hc0)).mono ?_
        rintro e w' ⟨x, rfl, hq, hnw⟩
        rw [hpu']
        exact ⟨_, _, _, rfl, Got.one (p := puU []) hq rfl rfl, hnw⟩
      · exact specParse_main b off n c k zs w h hn hcc h0 hk hm (by omega) hc1

end Go.Proofs.Ytljkcijakdhdiaa
