/- What is proved here: what the bending of attributes answers: attributes within bounds. -/
import Derived.Test.YtjampcfikfafkaaDrawAt6
namespace Go.Proofs.Ytjampcfikfafkaa
open Go.RowKit Go.Sort
set_option linter.unusedVariables false

theorem OwM.own {w : World} {lo n : Nat} {v : Value} {L : List Int} (h : OwM w lo v L) (hn : L.length = n) : w.ownsRow lo 2 1 v n (L.map (Value.int .i64)) := by
  subst hn
  rcases h with ⟨rfl, rfl⟩ | ⟨g, c, rfl, hg, ho⟩
  · exact ⟨rfl, .inl ⟨rfl, rfl⟩⟩
  · refine ⟨ho.1, ?_⟩
    rcases ho.2 with ⟨h', _⟩ | ⟨g', cap', cur, h', r⟩
    · simp at h'
    · simp only [Value.slice.injEq, Option.some.injEq, Addr.mk.injEq, and_true, true_and] at h'
      obtain ⟨rfl, rfl⟩ := h'
      exact .inr ⟨g, c, cur, rfl, hg, r.2⟩

section
variable {P : Program} {t e : TypeId} {i : TypeInfo}
/-- Appending, at a drawn step, onto a list that the call owns. -/
theorem step_apW (w : World) {ops : Array Oper} {o : Oper} {a : Act} {K : Act → World → Prop} {Q : Exit → Act → World → Prop} {E : Prop} (hgd : o.guard = none) (s x : Operand)
    (ho : o.op = .call { callee := .builtin .append, args := #[s, x], argTypes := #[t, t] }) (base : Nat) (zero : Value) (ht : P.underlying t = some (.slice e)) (hi : P.info? e = some i) (hz : i.zero = some zero) (hs : i.size = 1) (hb : i.bytes = 8) (hz1 : zero.cells.size = 1)
    (v : Value) (n : Nat) (xs : List Value) (hsv : a.eval s = v) (hown : w.ownsRow base e 1 v n xs)
    (ad : Addr) (u : Value) (hxv : a.eval x = .slice (some ad) 1 1) (hsrc : w.cell? (ad.add 0) = some u) (hu : u.oneCell' = true)
    (hle : n + 1 ≤ 4194304) (hbase : base ≤ w.heap.size)
    (h : ∀ v' w', w'.ownsRow base e 1 v' (n + 1) (xs ++ [u]) → w.grownBy w' v.ownBlock → (v'.ownBlock = v.ownBlock ∨ v'.ownBlock = some w.heap.size) → K (a.put o.dst v') w') :
    if Region.wanted o (yielded ops a.tmps) = true then Oper.wp P o a w K Q else E := by
  have hw : Region.wanted o (yielded ops a.tmps) = true := by simp [Region.wanted, hgd]
  rw [if_pos hw]
  have hnews : ∀ j y, [u][j]? = some y → w.cell? (ad.add j) = some y := by
    intro j y hy
    match j, hy with
    | 0, hy => simp at hy; subst hy; exact hsrc
  obtain ⟨v', w', hr, h2, h3, _, h5⟩ := run_append_own_at (P := P) w base t o.type e i zero 1 8 ht hi hz hs hb hz1 (by decide) v n xs hown ad 1 1 [u] rfl hnews (by simpa using hu) (by unfold maxLen; omega) (by omega) hbase
  unfold Oper.wp execOp
  simp only [ho, resolve, invoke, builtin, Sem.run_bind, Sem.run_pure, Result.andThen_ok, List.map_toArray, List.map_cons, List.map_nil, hsv, hxv, hr]
  exact h v' w' h2 h3 h5
end

set_option maxRecDepth 100000 in
set_option maxHeartbeats 3200000 in
theorem l3BentAttrs_sc {B n c t : Nat} {a : Option Addr} {zs : List Int} {w : World} (h : Sc w B a n c zs t) (ht : t ≤ 10000) :
    Calls Try.prog 27 #[.pointer (some ⟨B, 0, none⟩)] w fun e w' => ∃ (o nx md lc : Int) (xs : List Int) (xa : Option Addr) (xc m t' : Nat), e = .returned (.agg #[.int .i64 o, .slice xa m xc, .int .i64 nx, .int .i64 md, .int .i64 lc]) ∧ xs.length = m ∧ m ≤ 7 ∧ (-1 ≤ o ∧ -1 ≤ nx ∧ -1 ≤ md ∧ -1 ≤ lc) ∧ (o ≤ 65536 ∧ nx ≤ 65536 ∧ md ≤ 65536 ∧ lc ≤ 65536) ∧ (∀ x ∈ xs, -1 ≤ x ∧ x ≤ 65536) ∧ t' ≤ t + 60 ∧ OwM w' w.heap.size (.slice xa m xc) xs ∧ Sc w' B a n c zs t' ∧ Turn (fun k => k = B) w w' := by
  obtain ⟨iN, hi, hz0, hz1, hz2⟩ := info_parts Try.infoI64
  have hlt := h.blk.lt
  have hA := h.lt_of
  have hw0 := (New.refl w).alloc (.cells #[.int .i64 0, .slice none 0 0, .int .i64 0, .int .i64 0, .int .i64 0] 33)
  have bR0 := Blk.mk w w.heap.size 33 #[.int .i64 0, .slice none 0 0, .int .i64 0, .int .i64 0, .int .i64 0] rfl
  have hRB : ¬ w.heap.size = B := by omega
  go_enter Try.func27, Try.ntmps27
  go_wp2_with fail
  refine (l3DrawAttrs_sc (h.new hw0) (by omega)).mono ?_
  rintro e w2 ⟨o, nx, md, lc, xs, xa, xc, t2, rfl, haf, hxl, ht2, hM2, hs2, htn2⟩
  obtain ⟨⟨⟨ho0, ho1⟩, ⟨hx0, hx1⟩, ⟨hm0, hm1⟩, ⟨hl0, hl1⟩⟩, -, hall⟩ := af_ok haf
  have HXS : Hid (∀ x ∈ xs, -1 ≤ x ∧ x ≤ 65536) := fun x hx => by have := hall x hx; omega
  generalize hXe : xs.length = xn at *
  have HX : Hid (xs.length = xn) := hXe
  have hM2' : OwM w2 (w.heap.size + 1) (.slice xa xn xc) xs := hM2.low (by simp)
  have hMb := hM2'.blk
  have bR2 := bR0.turn htn2 hRB
  have t02 := Turn.both (hw0.turn (S := fun k => k = B)) htn2
  have s2 := bR2.lt
  have lB2 := hs2.blk.lt
  clear hXe hall haf hM2 bR0 hw0 htn2
  have hal2 := (New.refl w2).alloc (.cells #[.int .i64 o, .slice xa xn xc, .int .i64 nx, .int .i64 md, .int .i64 lc] 33)
  have bA2 := Blk.mk w2 w2.heap.size 33 #[.int .i64 o, .slice xa xn xc, .int .i64 nx, .int .i64 md, .int .i64 lc] rfl
  go_wp2_with fail
  refine (next_sc (hs2.new hal2) 14 (by omega) (by omega)).mono ?_
  rintro e w4 ⟨r4, rfl, ⟨p4, q4, -⟩, hs4, ht4⟩
  have q4 := q4 (by omega)
  have bA4 := bA2.turn ht4 (by omega)
  have bR4 := (bR2.new hal2).turn ht4 hRB
  have hM4 := (hM2'.new hal2).turnB' ht4 (fun g hg e => by have := hMb g hg; omega)
  have t04 := Turn.both t02 (Turn.both (hal2.turn (S := fun k => k = B)) ht4)
  have s4 : w2.heap.size < w4.heap.size := bA4.lt
  clear bA2 bR2 hM2' t02 hs2 hal2 ht4
  by_cases e0 : r4 = 0
  · subst e0
    have n0 : ((0 : Int) == 0) = true := rfl
    have hal5 := (New.refl w4).alloc (.cells #[.int .i64 (-1), .int .i64 3] 2)
    have hbl5 := Blk.mk w4 w4.heap.size 2 #[.int .i64 (-1), .int .i64 3] rfl
    go_wp2_with fail
    refine (pick_sc (hs4.new hal5) [-1, 3] hbl5 2 rfl (by omega) (by omega) (by omega)).mono ?_
    rintro e w5 ⟨x5, rfl, hx5, hs5, ht5⟩
    have hx5' : -1 ≤ x5 ∧ x5 ≤ 65536 := by
      simp only [List.mem_cons, List.not_mem_nil, or_false] at hx5
      rcases hx5 with rfl | rfl <;> omega
    have bA5 := (bA4.new hal5).turn ht5 (by omega)
    have bR5 := (bR4.new hal5).turn ht5 hRB
    have hM5 := (hM4.new hal5).turnB' ht5 (fun g hg e => by have := hMb g hg; omega)
    have t05 := Turn.both t04 (Turn.both (hal5.turn (S := fun k => k = B)) ht5)
    clear hx5 hbl5 hal5 hs4 ht5 bA4 bR4 hM4 t04
    have cA5 := bA5.cells
    have fA5 := bA5.frees
    have lA5 := bA5.lt
    have T9 := Turn.here (B := w2.heap.size) (j := 0) (Turn.refl _ w5) (.int .i64 x5)
    have bA9 := bA5.set 0 (.int .i64 x5)
    simp only [List.setIfInBounds_toArray, List.set_cons_zero] at bA9
    have bR9 := bR5.turn T9 (by omega)
    have hM9 := hM5.turnB' T9 (fun g hg e => by have := hMb g hg; omega)
    have hs9 := hs5.turn T9 (by omega) (fun x hz hx e => by have := hA x hz hx; omega)
    have t09 := Turn.trans t05 T9 (fun i hi e => by omega)
    clear bA5 bR5 hM5 hs5 t05
    have cA9 := bA9.cells
    have cR9 := bR9.cells
    have fR9 := bR9.frees
    have lR9 := bR9.lt
    go_wp2
    refine bodyPost_ret (v := .agg #[.int .i64 x5, .slice xa xn xc, .int .i64 nx, .int .i64 md, .int .i64 lc]) (by simp [results, Try.results27, go_sem, cR9]) rfl ?_
    refine (fun (hT : Turn (fun k => k = w.heap.size) (w5.setCell ⟨w2.heap.size, 0, none⟩ (.int .i64 x5)) _) => ⟨x5, nx, md, lc, xs, _, _, xn, _, rfl, HX.out, by omega, ⟨by omega, by omega, by omega, by omega⟩, ⟨by omega, by omega, by omega, by omega⟩, HXS.out, by omega, (hM9.turn hT (fun g hg e => by omega)).low (by omega), hs9.turn hT (by omega) (fun x hz hx e => by have := hA x hz hx; omega), Turn.trans t09 hT (fun i hi e => by omega)⟩) ?_
    exact Turn.here (Turn.here (Turn.here (Turn.here (Turn.here (Turn.refl _ _) _) _) _) _) _
  by_cases e1 : r4 = 1
  · subst e1
    have n0 : ((1 : Int) == 0) = false := rfl
    have n1 : ((1 : Int) == 1) = true := rfl
    have hal5 := (New.refl w4).alloc (.cells #[.int .i64 (-1), .int .i64 65536] 2)
    have hbl5 := Blk.mk w4 w4.heap.size 2 #[.int .i64 (-1), .int .i64 65536] rfl
    go_wp2_with fail
    refine (pick_sc (hs4.new hal5) [-1, 65536] hbl5 2 rfl (by omega) (by omega) (by omega)).mono ?_
    rintro e w5 ⟨x5, rfl, hx5, hs5, ht5⟩
    have hx5' : -1 ≤ x5 ∧ x5 ≤ 65536 := by
      simp only [List.mem_cons, List.not_mem_nil, or_false] at hx5
      rcases hx5 with rfl | rfl <;> omega
    have bA5 := (bA4.new hal5).turn ht5 (by omega)
    have bR5 := (bR4.new hal5).turn ht5 hRB
    have hM5 := (hM4.new hal5).turnB' ht5 (fun g hg e => by have := hMb g hg; omega)
    have t05 := Turn.both t04 (Turn.both (hal5.turn (S := fun k => k = B)) ht5)
    clear hx5 hbl5 hal5 hs4 ht5 bA4 bR4 hM4 t04
    have cA5 := bA5.cells
    have fA5 := bA5.frees
    have lA5 := bA5.lt
    have T9 := Turn.here (B := w2.heap.size) (j := 2) (Turn.refl _ w5) (.int .i64 x5)
    have bA9 := bA5.set 2 (.int .i64 x5)
    simp only [List.setIfInBounds_toArray, List.set_cons_zero, List.set_cons_succ] at bA9
    have bR9 := bR5.turn T9 (by omega)
    have hM9 := hM5.turnB' T9 (fun g hg e => by have := hMb g hg; omega)
    have hs9 := hs5.turn T9 (by omega) (fun x hz hx e => by have := hA x hz hx; omega)
    have t09 := Turn.trans t05 T9 (fun i hi e => by omega)
    clear bA5 bR5 hM5 hs5 t05
    have cA9 := bA9.cells
    have cR9 := bR9.cells
    have fR9 := bR9.frees
    have lR9 := bR9.lt
    go_wp2
    refine bodyPost_ret (v := .agg #[.int .i64 o, .slice xa xn xc, .int .i64 x5, .int .i64 md, .int .i64 lc]) (by simp [results, Try.results27, go_sem, cR9]) rfl ?_
    refine (fun (hT : Turn (fun k => k = w.heap.size) (w5.setCell ⟨w2.heap.size, 2, none⟩ (.int .i64 x5)) _) => ⟨o, x5, md, lc, xs, _, _, xn, _, rfl, HX.out, by omega, ⟨by omega, by omega, by omega, by omega⟩, ⟨by omega, by omega, by omega, by omega⟩, HXS.out, by omega, (hM9.turn hT (fun g hg e => by omega)).low (by omega), hs9.turn hT (by omega) (fun x hz hx e => by have := hA x hz hx; omega), Turn.trans t09 hT (fun i hi e => by omega)⟩) ?_
    exact Turn.here (Turn.here (Turn.here (Turn.here (Turn.here (Turn.refl _ _) _) _) _) _) _
  by_cases e2 : r4 = 2
  · subst e2
    have n0 : ((2 : Int) == 0) = false := rfl
    have n1 : ((2 : Int) == 1) = false := rfl
    have n2 : ((2 : Int) == 2) = true := rfl
    have cA4 := bA4.cells
    have fA4 := bA4.frees
    have lA4 := bA4.lt
    have cA4a := (bA4.alloc (.cells #[.int .i64 0, .int .i64 65536] 2)).cells
    have hsd := hs4.new ((New.refl _).drew)
    have hown := hM4.own HX.out
    have hblk := own_blkN hown
    go_wp2_with fail
    go_region_law (first
      | (refine step_apW _ rfl (.tmp 23) (.tmp 27) rfl (w.heap.size + 1) (.int .i64 0) Try.underlying31 hi hz0 hz1 hz2 rfl (.slice xa xn xc) xn _ rfl (own5.alloc _) ⟨_, 0, none⟩ (.int .i64 x5) rfl (by simp [Addr.add]) rfl (by omega) (by first | omega | (simp; omega)) ?_; intro v' w6 ho6 hgr6 hat6; obtain ⟨g6, c6, rfl⟩ := Joins.ownsRow_form ho6 (by omega); have bA6 := (bA5.alloc (.cells #[.int .i64 x5] 2)).grow hgr6 (fun e => by have := hMb _ e; omega); have cA6 := bA6.cells; have fA6 := bA6.frees)
      | (go_simp; go_at_call 26; refine (pick_sc (hs4.new (by first | exact ((New.refl _).drew).alloc (.cells #[.int .i64 0, .int .i64 65536] 2) | exact ((New.refl _).alloc (.cells #[.int .i64 0, .int .i64 65536] 2)).drew)) [0, 65536] (Blk.mk w4.drew w4.heap.size 2 #[.int .i64 0, .int .i64 65536] rfl) 2 rfl (by omega) (by omega) (by omega)).mono ?_; rintro e w5 ⟨x5, rfl, hx5, hs5, ht5⟩; have bA5 := ((bA4.new ((New.refl _).drew)).alloc (.cells #[.int .i64 0, .int .i64 65536] 2)).turn ht5 (by omega); have cA5 := bA5.cells; have cA5a := (bA5.alloc (.cells #[.int .i64 x5] 2)).cells; have own5 := own_turnN ((own_newN hown ((New.refl _).drew)).alloc (.cells #[.int .i64 0, .int .i64 65536] 2)) ht5 (fun g hg e => by have := hMb g hg; omega); have s5 : w4.heap.size ≤ w5.heap.size := (by have := ht5.size; simp at this; omega)))
    all_goals
      have hx5' : -1 ≤ x5 ∧ x5 ≤ 65536 := by
        simp only [List.mem_cons, List.not_mem_nil, or_false] at hx5
        rcases hx5 with rfl | rfl <;> omega
      have hn45 : New w4 (w4.drew.alloc (.cells #[.int .i64 0, .int .i64 65536] 2)) := ((New.refl _).drew).alloc _
      have hal5 := (New.refl w5).alloc (.cells #[.int .i64 x5] 2)
      have bR6 := (((bR4.new hn45).turn ht5 hRB).new hal5).grow hgr6 (fun e => by have := hMb _ e; omega)
      have tg : Turn (fun k => (Value.slice xa xn xc).ownBlock = some k) (w5.alloc (.cells #[.int .i64 x5] 2)) w6 := ⟨hgr6.os, hgr6.tape, hgr6.output, hgr6.size, fun k hk hs => hgr6.block k hk (fun e => hs e.symm)⟩
      have sc6 := (hs5.new hal5).turn tg (fun e => by have := hMb _ e; omega) (fun x hz hx e => by have := hA x hz hx; have := hMb _ e; omega)
      have t06 := Turn.trans (Turn.both t04 (Turn.both (hn45.turn (S := fun k => k = B)) (Turn.both ht5 (hal5.turn (S := fun k => k = B))))) tg (fun i hi e => by have := hMb _ e; omega)
      have T9 := Turn.here (B := w2.heap.size) (j := 1) (Turn.refl _ w6) (.slice (some ⟨g6, 0, none⟩) (xn + 1) c6)
      have bA9 := bA6.set 1 (.slice (some ⟨g6, 0, none⟩) (xn + 1) c6)
      simp only [List.setIfInBounds_toArray, List.set_cons_zero, List.set_cons_succ] at bA9
      have bR9 := bR6.turn T9 (by omega)
      have hbk6 : g6 ≠ w2.heap.size := fun e => by
        have k6 := ho6.lt g6 rfl
        rcases hat6 with h' | h'
        · have := hMb g6 (by rw [← h']; rfl); omega
        · simp [Value.ownBlock] at h'; omega
      have hM9 : OwM (w6.setCell ⟨w2.heap.size, 1, none⟩ (.slice (some ⟨g6, 0, none⟩) (xn + 1) c6)) (w.heap.size + 1) (.slice (some ⟨g6, 0, none⟩) (xn + 1) c6) (xs ++ [x5]) := (OwM.of_own (L := xs ++ [x5]) (by simpa using ho6) (by rw [List.length_append, HX.out]; rfl)).turnB' T9 (fun g hg e => by obtain rfl := Option.some.inj hg; exact hbk6 e)
      have hs9 := sc6.turn T9 (by omega) (fun x hz hx e => by have := hA x hz hx; omega)
      have t09 := Turn.trans t06 T9 (fun i hi e => by omega)
      have hxs9 : ∀ x ∈ xs ++ [x5], -1 ≤ x ∧ x ≤ 65536 := by
        intro x hx
        rcases List.mem_append.1 hx with h | h
        · exact HXS.out x h
        · simp at h; subst h; exact hx5'
      clear ho6 hgr6 hat6 bA6 bR6 cA6 fA6 own5 bA5 cA5 cA5a hs5 ht5 sc6 t06 tg hown hblk hsd
      have cA9 := bA9.cells
      have cR9 := bR9.cells
      have fR9 := bR9.frees
      have lR9 := bR9.lt
      go_wp2
      refine bodyPost_ret (v := .agg #[.int .i64 o, .slice (some ⟨g6, 0, none⟩) (xn + 1) c6, .int .i64 nx, .int .i64 md, .int .i64 lc]) (by simp [results, Try.results27, go_sem, cR9]) rfl ?_
      refine (fun (hT : Turn (fun k => k = w.heap.size) (w6.setCell ⟨w2.heap.size, 1, none⟩ (.slice (some ⟨g6, 0, none⟩) (xn + 1) c6)) _) => ⟨o, nx, md, lc, (xs ++ [x5]), _, _, xn + 1, _, rfl, by rw [List.length_append, HX.out]; rfl, by omega, ⟨by omega, by omega, by omega, by omega⟩, ⟨by omega, by omega, by omega, by omega⟩, hxs9, by omega, (hM9.turn hT (fun g hg e => by omega)).low (by omega), hs9.turn hT (by omega) (fun x hz hx e => by have := hA x hz hx; omega), Turn.trans t09 hT (fun i hi e => by omega)⟩) ?_
      exact Turn.here (Turn.here (Turn.here (Turn.here (Turn.here (Turn.refl _ _) _) _) _) _) _
  by_cases e3 : r4 = 3
  · subst e3
    have n0 : ((3 : Int) == 0) = false := rfl
    have n1 : ((3 : Int) == 1) = false := rfl
    have n2 : ((3 : Int) == 2) = false := rfl
    have n3 : ((3 : Int) == 3) = true := rfl
    have cA4 := bA4.cells
    have fA4 := bA4.frees
    have lA4 := bA4.lt
    have cR4 := bR4.cells
    have fR4 := bR4.frees
    have lR4 := bR4.lt
    have T1 := Turn.here (B := w2.heap.size) (j := 1) (Turn.refl _ w4) (.slice (some ⟨w4.heap.size, 0, none⟩) 7 7)
    have TR := Turn.here (B := w.heap.size) (j := 4) (Turn.here (j := 3) (Turn.here (j := 2) (Turn.here (j := 1) (Turn.here (j := 0) (Turn.refl _ (w4.setCell ⟨w2.heap.size, 1, none⟩ (.slice (some ⟨w4.heap.size, 0, none⟩) 7 7))) (.int .i64 o)) (.slice (some ⟨w4.heap.size, 0, none⟩) 7 7)) (.int .i64 nx)) (.int .i64 md)) (.int .i64 lc)
    have bRf := ((((((bR4.turn T1 (by omega)).set 0 (.int .i64 o)).set 1 (.slice (some ⟨w4.heap.size, 0, none⟩) 7 7)).set 2 (.int .i64 nx)).set 3 (.int .i64 md)).set 4 (.int .i64 lc)).alloc (.cells #[.int .i64 1, .int .i64 1, .int .i64 1, .int .i64 1, .int .i64 1, .int .i64 1, .int .i64 1] 2)
    simp only [List.setIfInBounds_toArray, List.set_cons_zero, List.set_cons_succ] at bRf
    have hszW : ((((((w4.setCell ⟨w2.heap.size, 1, none⟩ (.slice (some ⟨w4.heap.size, 0, none⟩) 7 7)).setCell ⟨w.heap.size, 0, none⟩ (.int .i64 o)).setCell ⟨w.heap.size, 1, none⟩ (.slice (some ⟨w4.heap.size, 0, none⟩) 7 7)).setCell ⟨w.heap.size, 2, none⟩ (.int .i64 nx)).setCell ⟨w.heap.size, 3, none⟩ (.int .i64 md)).setCell ⟨w.heap.size, 4, none⟩ (.int .i64 lc)).heap.size = w4.heap.size := by simp [World.setCell]
    have hlit := World.ownsRow_lit (base := w4.heap.size) (size := 1) (e := 2) ((((((w4.setCell ⟨w2.heap.size, 1, none⟩ (.slice (some ⟨w4.heap.size, 0, none⟩) 7 7)).setCell ⟨w.heap.size, 0, none⟩ (.int .i64 o)).setCell ⟨w.heap.size, 1, none⟩ (.slice (some ⟨w4.heap.size, 0, none⟩) 7 7)).setCell ⟨w.heap.size, 2, none⟩ (.int .i64 nx)).setCell ⟨w.heap.size, 3, none⟩ (.int .i64 md)).setCell ⟨w.heap.size, 4, none⟩ (.int .i64 lc)) #[.int .i64 1, .int .i64 1, .int .i64 1, .int .i64 1, .int .i64 1, .int .i64 1, .int .i64 1] 7 (by rw [hszW]; exact Nat.le_refl _) (by decide) rfl
    rw [hszW] at hlit
    have halF := (New.refl ((((((w4.setCell ⟨w2.heap.size, 1, none⟩ (.slice (some ⟨w4.heap.size, 0, none⟩) 7 7)).setCell ⟨w.heap.size, 0, none⟩ (.int .i64 o)).setCell ⟨w.heap.size, 1, none⟩ (.slice (some ⟨w4.heap.size, 0, none⟩) 7 7)).setCell ⟨w.heap.size, 2, none⟩ (.int .i64 nx)).setCell ⟨w.heap.size, 3, none⟩ (.int .i64 md)).setCell ⟨w.heap.size, 4, none⟩ (.int .i64 lc))).alloc (.cells #[.int .i64 1, .int .i64 1, .int .i64 1, .int .i64 1, .int .i64 1, .int .i64 1, .int .i64 1] 2)
    have hs9 := ((hs4.turn T1 (by omega) (fun x hz hx e => by have := hA x hz hx; omega)).turn TR (by omega) (fun x hz hx e => by have := hA x hz hx; omega)).new halF
    have t09 := Turn.both (Turn.trans (Turn.trans t04 T1 (fun i hi e => by omega)) TR (fun i hi e => by omega)) (halF.turn (S := fun k => k = B))
    have hM9 := (OwM.of_own (L := [1, 1, 1, 1, 1, 1, 1]) hlit rfl).low (lo' := w.heap.size) (by omega)
    clear bA4 bR4 hM4 t04 hs4 hlit T1 TR halF hszW
    go_wp2
    have cRf := bRf.cells
    refine bodyPost_ret (v := .agg #[.int .i64 o, .slice (some ⟨w4.heap.size, 0, none⟩) 7 7, .int .i64 nx, .int .i64 md, .int .i64 lc]) (by simp [results, Try.results27, go_sem, cRf]) rfl ?_
    exact ⟨o, nx, md, lc, [1, 1, 1, 1, 1, 1, 1], _, _, 7, _, rfl, rfl, by omega, ⟨by omega, by omega, by omega, by omega⟩, ⟨by omega, by omega, by omega, by omega⟩, (by intro x hx; simp at hx; omega), by omega, hM9, hs9, t09⟩
  by_cases e4 : r4 = 4
  · subst e4
    have n0 : ((4 : Int) == 0) = false := rfl
    have n1 : ((4 : Int) == 1) = false := rfl
    have n2 : ((4 : Int) == 2) = false := rfl
    have n3 : ((4 : Int) == 3) = false := rfl
    have n4 : ((4 : Int) == 4) = true := rfl
    have hal5 := (New.refl w4).alloc (.cells #[.int .i64 (-1), .int .i64 65536] 2)
    have hbl5 := Blk.mk w4 w4.heap.size 2 #[.int .i64 (-1), .int .i64 65536] rfl
    go_wp2_with fail
    refine (pick_sc (hs4.new hal5) [-1, 65536] hbl5 2 rfl (by omega) (by omega) (by omega)).mono ?_
    rintro e w5 ⟨x5, rfl, hx5, hs5, ht5⟩
    have hx5' : -1 ≤ x5 ∧ x5 ≤ 65536 := by
      simp only [List.mem_cons, List.not_mem_nil, or_false] at hx5
      rcases hx5 with rfl | rfl <;> omega
    have bA5 := (bA4.new hal5).turn ht5 (by omega)
    have bR5 := (bR4.new hal5).turn ht5 hRB
    have hM5 := (hM4.new hal5).turnB' ht5 (fun g hg e => by have := hMb g hg; omega)
    have t05 := Turn.both t04 (Turn.both (hal5.turn (S := fun k => k = B)) ht5)
    clear hx5 hbl5 hal5 hs4 ht5 bA4 bR4 hM4 t04
    have cA5 := bA5.cells
    have fA5 := bA5.frees
    have lA5 := bA5.lt
    have T9 := Turn.here (B := w2.heap.size) (j := 4) (Turn.refl _ w5) (.int .i64 x5)
    have bA9 := bA5.set 4 (.int .i64 x5)
    simp only [List.setIfInBounds_toArray, List.set_cons_zero, List.set_cons_succ] at bA9
    have bR9 := bR5.turn T9 (by omega)
    have hM9 := hM5.turnB' T9 (fun g hg e => by have := hMb g hg; omega)
    have hs9 := hs5.turn T9 (by omega) (fun x hz hx e => by have := hA x hz hx; omega)
    have t09 := Turn.trans t05 T9 (fun i hi e => by omega)
    clear bA5 bR5 hM5 hs5 t05
    have cA9 := bA9.cells
    have cR9 := bR9.cells
    have fR9 := bR9.frees
    have lR9 := bR9.lt
    go_wp2
    refine bodyPost_ret (v := .agg #[.int .i64 o, .slice xa xn xc, .int .i64 nx, .int .i64 md, .int .i64 x5]) (by simp [results, Try.results27, go_sem, cR9]) rfl ?_
    refine (fun (hT : Turn (fun k => k = w.heap.size) (w5.setCell ⟨w2.heap.size, 4, none⟩ (.int .i64 x5)) _) => ⟨o, nx, md, x5, xs, _, _, xn, _, rfl, HX.out, by omega, ⟨by omega, by omega, by omega, by omega⟩, ⟨by omega, by omega, by omega, by omega⟩, HXS.out, by omega, (hM9.turn hT (fun g hg e => by omega)).low (by omega), hs9.turn hT (by omega) (fun x hz hx e => by have := hA x hz hx; omega), Turn.trans t09 hT (fun i hi e => by omega)⟩) ?_
    exact Turn.here (Turn.here (Turn.here (Turn.here (Turn.here (Turn.refl _ _) _) _) _) _) _
  · have n0 : (r4 == 0) = false := by simpa using e0
    have n1 : (r4 == 1) = false := by simpa using e1
    have n2 : (r4 == 2) = false := by simpa using e2
    have n3 : (r4 == 3) = false := by simpa using e3
    have n4 : (r4 == 4) = false := by simpa using e4
    have cA4 := bA4.cells
    have bA9 := bA4
    have bR9 := bR4
    have cA9 := bA9.cells
    have cR9 := bR9.cells
    have fR9 := bR9.frees
    have lR9 := bR9.lt
    go_wp2
    refine bodyPost_ret (v := .agg #[.int .i64 o, .slice xa xn xc, .int .i64 nx, .int .i64 md, .int .i64 lc]) (by simp [results, Try.results27, go_sem, cR9]) rfl ?_
    refine (fun (hT : Turn (fun k => k = w.heap.size) w4 _) => ⟨o, nx, md, lc, xs, _, _, xn, _, rfl, HX.out, by omega, ⟨by omega, by omega, by omega, by omega⟩, ⟨by omega, by omega, by omega, by omega⟩, HXS.out, by omega, (hM4.turn hT (fun g hg e => by omega)).low (by omega), hs4.turn hT (by omega) (fun x hz hx e => by have := hA x hz hx; omega), Turn.trans t04 hT (fun i hi e => by omega)⟩) ?_
    exact Turn.here (Turn.here (Turn.here (Turn.here (Turn.here (Turn.refl _ _) _) _) _) _) _

end Go.Proofs.Ytjampcfikfafkaa
