/- What is proved here: what the program's reading of attributes out of bytes answers. -/
import Derived.Test.YtljkcijakdhdiaaRdFn
namespace Go.Proofs.Ytljkcijakdhdiaa
open Go.RowKit Go.Sort
set_option linter.unusedVariables false

section
variable {P : Program} {t e : TypeId} {i : TypeInfo}
/-- Appending, at a drawn step, onto a list that the call owns. -/
theorem step_apV (w : World) {ops : Array Oper} {o : Oper} {a : Act} {K : Act → World → Prop} {Q : Exit → Act → World → Prop} {E : Prop} (hgd : o.guard = none) (s x : Operand)
    (ho : o.op = .call { callee := .builtin .append, args := #[s, x], argTypes := #[t, t] }) (base : Nat) (zero : Value) (ht : P.underlying t = some (.slice e)) (hi : P.info? e = some i) (hz : i.zero = some zero) (hs : i.size = 1) (hb : i.bytes = 8) (hz1 : zero.cells.size = 1)
    (v : Value) (n : Nat) (xs : List Value) (hsv : a.eval s = v) (hown : w.ownsRow base e 1 v n xs)
    (ad : Addr) (u : Value) (hxv : a.eval x = .slice (some ad) 1 1) (hsrc : w.cell? (ad.add 0) = some u) (hu : u.oneCell' = true)
    (hle : n + 1 ≤ 4194304) (hbase : base ≤ w.heap.size)
    (h : ∀ v' w', w'.ownsRow base e 1 v' (n + 1) (xs ++ [u]) → w.grownBy w' v.ownBlock → K (a.put o.dst v') w') :
    if Region.wanted o (yielded ops a.tmps) = true then Oper.wp P o a w K Q else E := by
  have hw : Region.wanted o (yielded ops a.tmps) = true := by simp [Region.wanted, hgd]
  rw [if_pos hw]
  have hnews : ∀ j y, [u][j]? = some y → w.cell? (ad.add j) = some y := by
    intro j y hy
    match j, hy with
    | 0, hy => simp at hy; subst hy; exact hsrc
  obtain ⟨v', w', hr, h2, h3, _, _⟩ := run_append_own_at (P := P) w base t o.type e i zero 1 8 ht hi hz hs hb hz1 (by decide) v n xs hown ad 1 1 [u] rfl hnews (by simpa using hu) (by unfold maxLen; omega) (by omega) hbase
  unfold Oper.wp execOp
  simp only [ho, resolve, invoke, builtin, Sem.run_bind, Sem.run_pure, Result.andThen_ok, List.map_toArray, List.map_cons, List.map_nil, hsv, hxv, hr]
  exact h v' w' h2 h3
end

/-- The first j numbers behind the count. -/
def nsR (zs : List Int) (j : Nat) : List Int := (List.range j).map fun i => numAt zs (1 + 2 * i) 2
theorem nsR_succ (zs : List Int) (j : Nat) : nsR zs (j + 1) = nsR zs j ++ [numAt zs (1 + 2 * j) 2] := by simp [nsR, List.range_succ]
theorem nsR_len (zs : List Int) (j : Nat) : (nsR zs j).length = j := by simp [nsR]
theorem numAt_bd2 (zs : List Int) (hz : ∀ z ∈ zs, 0 ≤ z ∧ z ≤ 255) (t : Nat) : 0 ≤ numAt zs t 2 ∧ numAt zs t 2 ≤ 65535 := by
  unfold numAt
  have hb : ∀ z ∈ (zs.drop t).take 2, 0 ≤ z ∧ z ≤ 255 := fun z h => hz z (List.mem_of_mem_drop (List.mem_of_mem_take h))
  have hl : ((zs.drop t).take 2).length ≤ 2 := by rw [List.length_take]; omega
  generalize (zs.drop t).take 2 = l at *
  match l, hl with
  | [], _ => simp [num]
  | [a], _ => have := hb a (by simp); simp [num]; omega
  | [a, b], _ => have := hb a (by simp); have := hb b (by simp); simp [num]; omega

/-- A list of numbers in memory of the call's own, or nil for none. -/
def OwM (w : World) (lo : Nat) (v : Value) (L : List Int) : Prop := (v = .slice none 0 0 ∧ L = []) ∨ ∃ g c, v = .slice (some ⟨g, 0, none⟩) L.length c ∧ lo ≤ g ∧ OwN w g L.length c L
theorem OwM.new {w w' : World} {lo : Nat} {v : Value} {L : List Int} (h : OwM w lo v L) (t : New w w') : OwM w' lo v L := by
  rcases h with h | ⟨g, c, h1, h2, h3⟩
  · exact .inl h
  · exact .inr ⟨g, c, h1, h2, h3.new t⟩
theorem OwM.of_own {w : World} {lo n : Nat} {v : Value} {L : List Int} (h : w.ownsRow lo 2 1 v n (L.map (Value.int .i64))) (hn : L.length = n) : OwM w lo v L := by
  subst hn
  rcases Joins.ownsRow_forms h with ⟨rfl, h0⟩ | ⟨g, cap, rfl⟩
  · exact .inl ⟨rfl, List.eq_nil_of_length_eq_zero h0⟩
  · exact .inr ⟨g, cap, rfl, (World.ownsRow.lt h g rfl).1, own_base h⟩
theorem OwM.ns {w : World} {lo : Nat} {v : Value} {L : List Int} (h : OwM w lo v L) (hb : ∀ z ∈ L, In6 z) : ∃ a c, v = .slice a L.length c ∧ NsAt w a L ∧ (∀ x, a = some x → lo ≤ x.block ∧ x.block < w.heap.size) := by
  rcases h with ⟨rfl, rfl⟩ | ⟨g, c, rfl, hg, ho⟩
  · exact ⟨none, 0, rfl, NsAt.nil _ _, by intro x hx; cases hx⟩
  · exact ⟨_, c, rfl, ho.ns hb, by intro x hx; obtain rfl := Option.some.inj hx; exact ⟨hg, ho.lt⟩⟩

theorem own_newN {w w' : World} {base n : Nat} {v : Value} {xs : List Value} (h : w.ownsRow base 2 1 v n xs) (t : New w w') : w'.ownsRow base 2 1 v n xs := by
  refine ⟨h.1, ?_⟩
  rcases h.2 with h' | ⟨g', cap', cur, h', hb, hh, r⟩
  · exact .inl h'
  · have hlt : g' < w.heap.size := (Array.getElem?_eq_some_iff.1 hh).1
    exact .inr ⟨g', cap', cur, h', hb, (t.block g' hlt (fun f => f)).trans hh, r⟩
theorem own_blkN {w : World} {base n : Nat} {v : Value} {xs : List Value} (h : w.ownsRow base 2 1 v n xs) : ∀ k, v.ownBlock = some k → base ≤ k := by
  intro k hk
  rcases Joins.ownsRow_forms h with ⟨rfl, _⟩ | ⟨g, cap, rfl⟩
  · simp [Value.ownBlock] at hk
  · simp [Value.ownBlock] at hk
    subst hk
    exact (World.ownsRow.lt h g rfl).1
theorem own_setN {w : World} {base n : Nat} {v : Value} {xs : List Value} {p : Addr} {u : Value} (h : w.ownsRow base 2 1 v n xs) (hp : p.block < base) : (w.setCell p u).ownsRow base 2 1 v n xs := by
  refine ⟨h.1, ?_⟩
  rcases h.2 with h' | ⟨g', cap', cur, h', hb, hh, r⟩
  · exact .inl h'
  · exact .inr ⟨g', cap', cur, h', hb, (Below.heap_setCell w p u g' (by omega)).trans hh, r⟩

theorem own_setN_iff {w : World} {base n : Nat} {v : Value} {xs : List Value} {p : Addr} {u : Value} (hp : p.block < base) : (w.setCell p u).ownsRow base 2 1 v n xs ↔ w.ownsRow base 2 1 v n xs := by
  refine ⟨fun h => ⟨h.1, ?_⟩, fun h => own_setN h hp⟩
  rcases h.2 with h' | ⟨g', cap', cur, h', hb, hh, r⟩
  · exact .inl h'
  · exact .inr ⟨g', cap', cur, h', hb, (Below.heap_setCell w p u g' (by omega)).symm.trans hh, r⟩

set_option maxRecDepth 100000 in
set_option maxHeartbeats 3200000 in
theorem attrsOf_any (b off n c k : Nat) (zs : List Int) (o : Int) (w : World) (h : BsAt w (some ⟨b, off, none⟩) zs) (hn : zs.length = n) (hcc : n ≤ c) (h0 : zs[0]? = some (k : Int)) (hk : n = 8 + 2 * k) (hk5 : k ≤ 255) (ho : zs[1 + 2 * k]? = some o) :
    Calls Try.prog 89 #[.slice (some ⟨b, off, none⟩) n c] w fun e w' => ∃ v, e = .returned (.agg #[.int .i64 o, v, .int .i64 (numAt zs (2 + 2 * k) 2), .int .i64 (numAt zs (4 + 2 * k) 2), .int .i64 (numAt zs (6 + 2 * k) 2)]) ∧ OwM w' w.heap.size v (nsR zs k) ∧ New w w' := by
  obtain ⟨iN, hi, hz0, hz1, hz2⟩ := info_parts Try.infoI64
  have hfd : ∀ (x y : Int) (W : World), (Instr.field 77 (.agg #[.int .i64 x, .int .i64 y]) 1).run Try.prog W = .ok (.int .i64 y) W := fun _ _ _ => by kernel_rfl
  have HN : Hid (zs.length = n) := hn
  have HK : Hid (n = 8 + 2 * k) := hk
  have HB : Hid (∀ z ∈ zs, 0 ≤ z ∧ z ≤ 255) := h.lt
  have hob := HB.out o (List.mem_of_getElem? ho)
  have hnb : n ≤ 1048576 := by omega
  have hnp : 0 < n := by omega
  have hk1 : 1 + 2 * k < n := by omega
  have hw0 := ((New.refl w).alloc (.cells #[.int .i64 0, .slice none 0 0, .int .i64 0, .int .i64 0, .int .i64 0] 47)).alloc (.cells #[.int .i64 0, .slice none 0 0, .int .i64 0, .int .i64 0, .int .i64 0] 47)
  have bR : Blk ((w.alloc (.cells #[.int .i64 0, .slice none 0 0, .int .i64 0, .int .i64 0, .int .i64 0] 47)).alloc (.cells #[.int .i64 0, .slice none 0 0, .int .i64 0, .int .i64 0, .int .i64 0] 47)) w.heap.size 47 #[.int .i64 0, .slice none 0 0, .int .i64 0, .int .i64 0, .int .i64 0] := (Blk.mk _ _ _ _ rfl).alloc _
  have bA : Blk ((w.alloc (.cells #[.int .i64 0, .slice none 0 0, .int .i64 0, .int .i64 0, .int .i64 0] 47)).alloc (.cells #[.int .i64 0, .slice none 0 0, .int .i64 0, .int .i64 0, .int .i64 0] 47)) (w.heap.size + 1) 47 #[.int .i64 0, .slice none 0 0, .int .i64 0, .int .i64 0, .int .i64 0] := Blk.mk _ _ _ _ (by simp)
  have hb0 := h.new hw0
  have hc0 : ((w.alloc (.cells #[.int .i64 0, .slice none 0 0, .int .i64 0, .int .i64 0, .int .i64 0] 47)).alloc (.cells #[.int .i64 0, .slice none 0 0, .int .i64 0, .int .i64 0, .int .i64 0] 47)).cell? ⟨b, off, none⟩ = some (.int .u8 (k : Int)) := by
    obtain ⟨b', off', e', h1', _⟩ := hb0 0 _ h0
    simp only [Option.some.injEq, Addr.mk.injEq, and_true] at e'
    obtain ⟨rfl, rfl⟩ := e'
    simpa using h1'
  clear hn hk
  go_enter Try.func89, Try.ntmps89
  go_wp2_with fail
  go_loopw [4, 8] (fun s i wr => ∃ (j : Nat) (v : Value), j ≤ k ∧ s = .int .i64 ((1 + 2 * j : Nat) : Int) ∧ i = .int .u8 (j : Int) ∧ New w wr ∧ wr.ownsRow (w.heap.size + 2) 2 1 v j ((nsR zs j).map (Value.int .i64)) ∧ Blk wr w.heap.size 47 #[.int .i64 0, .slice none 0 0, .int .i64 0, .int .i64 0, .int .i64 0] ∧ Blk wr (w.heap.size + 1) 47 #[.int .i64 0, v, .int .i64 0, .int .i64 0, .int .i64 0]) (fun _ i _ => k - (intOf i).toNat)
  case atStart => exact ⟨0, .slice none 0 0, Nat.zero_le _, rfl, rfl, hw0, ⟨rfl, .inl ⟨rfl, rfl⟩⟩, bR, bA⟩
  case round =>
    clear hc0 hb0 bR bA
    obtain ⟨j, v, hj, rfl, rfl, hnw, hown, bR, bA⟩ := hrel
    have cA := bA.cells
    have fA := bA.frees
    have hal := bA.lt
    by_cases hlt : j < k
    · have hblk := own_blkN hown
      have hS : Hid ((nsR zs (j + 1)).map (Value.int .i64) = (nsR zs j).map (Value.int .i64) ++ [.int .i64 (numAt zs (1 + 2 * j) 2)]) := by unfold Hid; rw [nsR_succ]; simp
      generalize hA : numAt zs (1 + 2 * j) 2 = A at *
      have HA : Hid (numAt zs (1 + 2 * j) 2 = A) := hA
      clear hA
      have cAa := (bA.alloc (.cells #[.int .i64 A] 2)).cells
      have hlt8 : (j : Int) < (k : Int) := by omega
      have hcast : IntKind.u8.wrap ((j : Int) + 1) = ((j + 1 : Nat) : Int) := by simp [IntKind.wrap, IntKind.signed, IntKind.bits]; omega
      go_wp2_with fail
      go_region_law (first
        | (refine step_apV _ rfl (.tmp 11) (.tmp 16) rfl (w.heap.size + 2) (.int .i64 0) Try.underlying45 hi hz0 hz1 hz2 rfl v j _ rfl (by first | exact (own_newN hown N1).alloc _ | exact own_newN hown N1) ⟨_, 0, none⟩ (.int .i64 A) rfl (by simp [Addr.add]) rfl (by omega) (by first | omega | (simp; omega)) ?_; intro v' w3 ho3 hgr3; obtain ⟨g3, c3, rfl⟩ := Joins.ownsRow_form ho3 (by omega); have bA3 := ((bA.new N1).alloc (.cells #[.int .i64 A] 2)).grow hgr3 (fun e => by have := hblk _ e; omega); have cA3 := bA3.cells; have fA3 := bA3.frees)
        | (go_simp; go_at_call 55; refine (implNum_good _ n c (1 + 2 * j) 2 zs _ ((h.new hnw).new ((New.refl _).drew)) HN.out hcc hnb (by omega) (by omega) (by have := HK.out; omega)).mono ?_; rintro e w1 ⟨rfl, hn1⟩; (rw [HA.out]); have N1 : New wr w1 := ((New.refl _).drew).trans hn1; have cA1 := (bA.new N1).cells; have cA1a := ((bA.new N1).alloc (.cells #[.int .i64 A] 2)).cells; have s1 := N1.size))
      all_goals
        have N3 : New w w3 := ((hnw.trans N1).alloc (.cells #[.int .i64 A] 2)).grow hgr3 (fun k e => by have := hblk k e; omega)
        have bR3 := ((bR.new N1).alloc (.cells #[.int .i64 A] 2)).grow hgr3 (fun e => by have := hblk _ e; omega)
        have N4 : New w (w3.setCell ⟨w.heap.size + 1, 1, none⟩ (.slice (some ⟨g3, 0, none⟩) (j + 1) c3)) := N3.setCell (by simp) _
        have bR4 : Blk (w3.setCell ⟨w.heap.size + 1, 1, none⟩ (.slice (some ⟨g3, 0, none⟩) (j + 1) c3)) w.heap.size 47 #[.int .i64 0, .slice none 0 0, .int .i64 0, .int .i64 0, .int .i64 0] := bR3.turn (Turn.here (Turn.refl _ _) _) (by omega)
        have bA4 : Blk (w3.setCell ⟨w.heap.size + 1, 1, none⟩ (.slice (some ⟨g3, 0, none⟩) (j + 1) c3)) (w.heap.size + 1) 47 #[.int .i64 0, .slice (some ⟨g3, 0, none⟩) (j + 1) c3, .int .i64 0, .int .i64 0, .int .i64 0] := bA3.set 1 _
        have ho4 : (w3.setCell ⟨w.heap.size + 1, 1, none⟩ (.slice (some ⟨g3, 0, none⟩) (j + 1) c3)).ownsRow (w.heap.size + 2) 2 1 (.slice (some ⟨g3, 0, none⟩) (j + 1) c3) (j + 1) ((nsR zs (j + 1)).map (Value.int .i64)) := by rw [hS.out]; exact own_setN ho3 (by simp)
        have h2j : ((1 + 2 * j : Nat) : Int) + 2 = ((1 + 2 * (j + 1) : Nat) : Int) := by omega
        clear ho3 hgr3 hown bA bR bA3 bR3 cA cAa cA1 cA1a cA3 fA3 fA hn1 N1 N3
        go_wp2
        go_roundw
        case rel => exact ⟨j + 1, _, by omega, by go_num, by first | rfl | (rw [hcast]) | go_num, N4, ho4, bR4, bA4⟩
        case measure => simp [intOf]; omega
    · obtain rfl : j = k := by omega
      rcases Joins.ownsRow_forms hown with ⟨rfl, hj0⟩ | ⟨g, cap, rfl⟩
      · have HJ : Hid (j = 0) := hj0
        clear hj0
        have hV : 47 = 47 := rfl
        clear hV
        have hco : wr.cell? ⟨b, off + (1 + 2 * j), none⟩ = some (.int .u8 o) := by
          obtain ⟨b', off', e', h1', _⟩ := (h.new hnw) (1 + 2 * j) o ho
          simp only [Option.some.injEq, Addr.mk.injEq, and_true] at e'
          obtain ⟨rfl, rfl⟩ := e'
          exact h1'
        have hwo : IntKind.i64.wrap o = o := by simp [IntKind.wrap, IntKind.signed, IntKind.bits]; omega
        have ge0 := Nat.le_refl w.heap.size
        have lt0 : w.heap.size < w.heap.size + 2 := by omega
        have lt1 : w.heap.size + 1 < w.heap.size + 2 := by omega
        have ge1 : w.heap.size ≤ w.heap.size + 1 := by omega
        obtain ⟨X, hX⟩ : ∃ X, numAt zs (2 + 2 * j) 2 = X := ⟨_, rfl⟩
        obtain ⟨Y, hY⟩ : ∃ Y, numAt zs (4 + 2 * j) 2 = Y := ⟨_, rfl⟩
        obtain ⟨Z, hZ⟩ : ∃ Z, numAt zs (6 + 2 * j) 2 = Z := ⟨_, rfl⟩
        have HX : Hid (numAt zs (2 + 2 * j) 2 = X) := hX
        have HY : Hid (numAt zs (4 + 2 * j) 2 = Y) := hY
        have HZ : Hid (numAt zs (6 + 2 * j) 2 = Z) := hZ
        clear hX hY hZ
        have N1 : New w (wr.setCell ⟨w.heap.size + 1, 0, none⟩ (.int .i64 o)) := hnw.setCell ge1 _
        have bA1 : Blk (wr.setCell ⟨w.heap.size + 1, 0, none⟩ (.int .i64 o)) (w.heap.size + 1) 47 #[.int .i64 o, .slice none 0 0, .int .i64 0, .int .i64 0, .int .i64 0] := bA.set 0 _
        have bR1 := bR.turn (Turn.here (B := w.heap.size + 1) (j := 0) (Turn.refl _ wr) (.int .i64 o)) (by omega)
        have o1 : (wr.setCell ⟨w.heap.size + 1, 0, none⟩ (.int .i64 o)).ownsRow (w.heap.size + 2) 2 1 (.slice none 0 0) j ((nsR zs j).map (Value.int .i64)) := own_setN hown (by simp)
        go_wp2_with fail
        rw [show (1 + 2 * (j : Int) + 1) = ((2 + 2 * j : Nat) : Int) by omega]
        refine (implNum_good _ n c (2 + 2 * j) 2 zs _ (h.new N1) HN.out hcc hnb (by omega) (by omega) (by have := HK.out; omega)).mono ?_
        rintro e w2 ⟨rfl, hn2⟩
        rw [HX.out]
        have M2 := N1.trans hn2
        have bA2 := bA1.new hn2
        have bR2 := bR1.new hn2
        have o2 := own_newN o1 hn2
        clear bA1 bR1 o1 N1 hn2 bA bR hown cA fA hco
        have cA := bA2.cells
        have fA := bA2.frees
        have N2 : New w (w2.setCell ⟨w.heap.size + 1, 2, none⟩ (.int .i64 X)) := M2.setCell ge1 _
        have bA3 : Blk (w2.setCell ⟨w.heap.size + 1, 2, none⟩ (.int .i64 X)) (w.heap.size + 1) 47 #[.int .i64 o, .slice none 0 0, .int .i64 X, .int .i64 0, .int .i64 0] := bA2.set 2 _
        have bR3 := bR2.turn (Turn.here (B := w.heap.size + 1) (j := 2) (Turn.refl _ w2) (.int .i64 X)) (by omega)
        have o3 : (w2.setCell ⟨w.heap.size + 1, 2, none⟩ (.int .i64 X)).ownsRow (w.heap.size + 2) 2 1 (.slice none 0 0) j ((nsR zs j).map (Value.int .i64)) := own_setN o2 (by simp)
        go_wp2_with fail
        first | rw [show (1 + 2 * (j : Int) + 1 + 2) = ((4 + 2 * j : Nat) : Int) by omega] | rw [show (((2 + 2 * j : Nat) : Int) + 2) = ((4 + 2 * j : Nat) : Int) by omega]
        refine (implNum_good _ n c (4 + 2 * j) 2 zs _ (h.new N2) HN.out hcc hnb (by omega) (by omega) (by have := HK.out; omega)).mono ?_
        rintro e w4 ⟨rfl, hn4⟩
        rw [HY.out]
        have M4 := N2.trans hn4
        have bA4 := bA3.new hn4
        have bR4 := bR3.new hn4
        have o4 := own_newN o3 hn4
        clear bA3 bR3 o3 N2 hn4 bA2 bR2 o2 M2 cA fA
        have cA := bA4.cells
        have fA := bA4.frees
        have N4 : New w (w4.setCell ⟨w.heap.size + 1, 3, none⟩ (.int .i64 Y)) := M4.setCell ge1 _
        have bA5 : Blk (w4.setCell ⟨w.heap.size + 1, 3, none⟩ (.int .i64 Y)) (w.heap.size + 1) 47 #[.int .i64 o, .slice none 0 0, .int .i64 X, .int .i64 Y, .int .i64 0] := bA4.set 3 _
        have bR5 := bR4.turn (Turn.here (B := w.heap.size + 1) (j := 3) (Turn.refl _ w4) (.int .i64 Y)) (by omega)
        have o5 : (w4.setCell ⟨w.heap.size + 1, 3, none⟩ (.int .i64 Y)).ownsRow (w.heap.size + 2) 2 1 (.slice none 0 0) j ((nsR zs j).map (Value.int .i64)) := own_setN o4 (by simp)
        go_wp2_with fail
        first | rw [show (1 + 2 * (j : Int) + 1 + 4) = ((6 + 2 * j : Nat) : Int) by omega] | rw [show (((2 + 2 * j : Nat) : Int) + 4) = ((6 + 2 * j : Nat) : Int) by omega]
        refine (implNum_good _ n c (6 + 2 * j) 2 zs _ (h.new N4) HN.out hcc hnb (by omega) (by omega) (by have := HK.out; omega)).mono ?_
        rintro e w6 ⟨rfl, hn6⟩
        rw [HZ.out]
        have M6 := N4.trans hn6
        have bA6 := bA5.new hn6
        have bR6 := bR5.new hn6
        have o6 := own_newN o5 hn6
        clear bA5 bR5 o5 N4 hn6 bA4 bR4 o4 M4 cA fA
        have cA := bA6.cells
        have fA := bA6.frees
        have cR := bR6.cells
        have fR := bR6.frees
        go_wp2
        refine bodyPost_ret (v := .agg #[.int .i64 o, .slice none 0 0, .int .i64 X, .int .i64 Y, .int .i64 Z]) (by simp [results, Try.results89, go_sem, cR]) rfl ⟨.slice none 0 0, by rw [HX.out, HY.out, HZ.out], ?_, ?_⟩
        · refine OwM.of_own (n := j) ?_ (nsR_len _ _)
          have : ∀ {W : World}, W.ownsRow (w.heap.size + 2) 2 1 (.slice none 0 0) j ((nsR zs j).map (Value.int .i64)) → W.ownsRow w.heap.size 2 1 (.slice none 0 0) j ((nsR zs j).map (Value.int .i64)) := fun h => Joins.ownsRow_le h (by omega)
          refine this ?_
          simp (disch := (first | exact lt0 | exact lt1)) only [own_setN_iff, o6]
        · simp (disch := (first | exact ge0 | exact ge1)) only [New.set_iff, M6]
      · have HJ : Hid (True) := trivial
        have hV : 47 = 47 := rfl
        clear hV
        have hco : wr.cell? ⟨b, off + (1 + 2 * j), none⟩ = some (.int .u8 o) := by
          obtain ⟨b', off', e', h1', _⟩ := (h.new hnw) (1 + 2 * j) o ho
          simp only [Option.some.injEq, Addr.mk.injEq, and_true] at e'
          obtain ⟨rfl, rfl⟩ := e'
          exact h1'
        have hwo : IntKind.i64.wrap o = o := by simp [IntKind.wrap, IntKind.signed, IntKind.bits]; omega
        have ge0 := Nat.le_refl w.heap.size
        have lt0 : w.heap.size < w.heap.size + 2 := by omega
        have lt1 : w.heap.size + 1 < w.heap.size + 2 := by omega
        have ge1 : w.heap.size ≤ w.heap.size + 1 := by omega
        obtain ⟨X, hX⟩ : ∃ X, numAt zs (2 + 2 * j) 2 = X := ⟨_, rfl⟩
        obtain ⟨Y, hY⟩ : ∃ Y, numAt zs (4 + 2 * j) 2 = Y := ⟨_, rfl⟩
        obtain ⟨Z, hZ⟩ : ∃ Z, numAt zs (6 + 2 * j) 2 = Z := ⟨_, rfl⟩
        have HX : Hid (numAt zs (2 + 2 * j) 2 = X) := hX
        have HY : Hid (numAt zs (4 + 2 * j) 2 = Y) := hY
        have HZ : Hid (numAt zs (6 + 2 * j) 2 = Z) := hZ
        clear hX hY hZ
        have N1 : New w (wr.setCell ⟨w.heap.size + 1, 0, none⟩ (.int .i64 o)) := hnw.setCell ge1 _
        have bA1 : Blk (wr.setCell ⟨w.heap.size + 1, 0, none⟩ (.int .i64 o)) (w.heap.size + 1) 47 #[.int .i64 o, .slice (some ⟨g, 0, none⟩) j cap, .int .i64 0, .int .i64 0, .int .i64 0] := bA.set 0 _
        have bR1 := bR.turn (Turn.here (B := w.heap.size + 1) (j := 0) (Turn.refl _ wr) (.int .i64 o)) (by omega)
        have o1 : (wr.setCell ⟨w.heap.size + 1, 0, none⟩ (.int .i64 o)).ownsRow (w.heap.size + 2) 2 1 (.slice (some ⟨g, 0, none⟩) j cap) j ((nsR zs j).map (Value.int .i64)) := own_setN hown (by simp)
        go_wp2_with fail
        rw [show (1 + 2 * (j : Int) + 1) = ((2 + 2 * j : Nat) : Int) by omega]
        refine (implNum_good _ n c (2 + 2 * j) 2 zs _ (h.new N1) HN.out hcc hnb (by omega) (by omega) (by have := HK.out; omega)).mono ?_
        rintro e w2 ⟨rfl, hn2⟩
        rw [HX.out]
        have M2 := N1.trans hn2
        have bA2 := bA1.new hn2
        have bR2 := bR1.new hn2
        have o2 := own_newN o1 hn2
        clear bA1 bR1 o1 N1 hn2 bA bR hown cA fA hco
        have cA := bA2.cells
        have fA := bA2.frees
        have N2 : New w (w2.setCell ⟨w.heap.size + 1, 2, none⟩ (.int .i64 X)) := M2.setCell ge1 _
        have bA3 : Blk (w2.setCell ⟨w.heap.size + 1, 2, none⟩ (.int .i64 X)) (w.heap.size + 1) 47 #[.int .i64 o, .slice (some ⟨g, 0, none⟩) j cap, .int .i64 X, .int .i64 0, .int .i64 0] := bA2.set 2 _
        have bR3 := bR2.turn (Turn.here (B := w.heap.size + 1) (j := 2) (Turn.refl _ w2) (.int .i64 X)) (by omega)
        have o3 : (w2.setCell ⟨w.heap.size + 1, 2, none⟩ (.int .i64 X)).ownsRow (w.heap.size + 2) 2 1 (.slice (some ⟨g, 0, none⟩) j cap) j ((nsR zs j).map (Value.int .i64)) := own_setN o2 (by simp)
        go_wp2_with fail
        first | rw [show (1 + 2 * (j : Int) + 1 + 2) = ((4 + 2 * j : Nat) : Int) by omega] | rw [show (((2 + 2 * j : Nat) : Int) + 2) = ((4 + 2 * j : Nat) : Int) by omega]
        refine (implNum_good _ n c (4 + 2 * j) 2 zs _ (h.new N2) HN.out hcc hnb (by omega) (by omega) (by have := HK.out; omega)).mono ?_
        rintro e w4 ⟨rfl, hn4⟩
        rw [HY.out]
        have M4 := N2.trans hn4
        have bA4 := bA3.new hn4
        have bR4 := bR3.new hn4
        have o4 := own_newN o3 hn4
        clear bA3 bR3 o3 N2 hn4 bA2 bR2 o2 M2 cA fA
        have cA := bA4.cells
        have fA := bA4.frees
        have N4 : New w (w4.setCell ⟨w.heap.size + 1, 3, none⟩ (.int .i64 Y)) := M4.setCell ge1 _
        have bA5 : Blk (w4.setCell ⟨w.heap.size + 1, 3, none⟩ (.int .i64 Y)) (w.heap.size + 1) 47 #[.int .i64 o, .slice (some ⟨g, 0, none⟩) j cap, .int .i64 X, .int .i64 Y, .int .i64 0] := bA4.set 3 _
        have bR5 := bR4.turn (Turn.here (B := w.heap.size + 1) (j := 3) (Turn.refl _ w4) (.int .i64 Y)) (by omega)
        have o5 : (w4.setCell ⟨w.heap.size + 1, 3, none⟩ (.int .i64 Y)).ownsRow (w.heap.size + 2) 2 1 (.slice (some ⟨g, 0, none⟩) j cap) j ((nsR zs j).map (Value.int .i64)) := own_setN o4 (by simp)
        go_wp2_with fail
        first | rw [show (1 + 2 * (j : Int) + 1 + 4) = ((6 + 2 * j : Nat) : Int) by omega] | rw [show (((2 + 2 * j : Nat) : Int) + 4) = ((6 + 2 * j : Nat) : Int) by omega]
        refine (implNum_good _ n c (6 + 2 * j) 2 zs _ (h.new N4) HN.out hcc hnb (by omega) (by omega) (by have := HK.out; omega)).mono ?_
        rintro e w6 ⟨rfl, hn6⟩
        rw [HZ.out]
        have M6 := N4.trans hn6
        have bA6 := bA5.new hn6
        have bR6 := bR5.new hn6
        have o6 := own_newN o5 hn6
        clear bA5 bR5 o5 N4 hn6 bA4 bR4 o4 M4 cA fA
        have cA := bA6.cells
        have fA := bA6.frees
        have cR := bR6.cells
        have fR := bR6.frees
        go_wp2
        refine bodyPost_ret (v := .agg #[.int .i64 o, .slice (some ⟨g, 0, none⟩) j cap, .int .i64 X, .int .i64 Y, .int .i64 Z]) (by simp [results, Try.results89, go_sem, cR]) rfl ⟨.slice (some ⟨g, 0, none⟩) j cap, by rw [HX.out, HY.out, HZ.out], ?_, ?_⟩
        · refine OwM.of_own (n := j) ?_ (nsR_len _ _)
          have : ∀ {W : World}, W.ownsRow (w.heap.size + 2) 2 1 (.slice (some ⟨g, 0, none⟩) j cap) j ((nsR zs j).map (Value.int .i64)) → W.ownsRow w.heap.size 2 1 (.slice (some ⟨g, 0, none⟩) j cap) j ((nsR zs j).map (Value.int .i64)) := fun h => Joins.ownsRow_le h (by omega)
          refine this ?_
          simp (disch := (first | exact lt0 | exact lt1)) only [own_setN_iff, o6]
        · simp (disch := (first | exact ge0 | exact ge1)) only [New.set_iff, M6]

end Go.Proofs.Ytljkcijakdhdiaa
