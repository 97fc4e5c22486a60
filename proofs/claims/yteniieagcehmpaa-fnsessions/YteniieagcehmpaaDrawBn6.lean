/- What is proved here: what the bending of an update, and the drawing of one to be packed, answer. -/
import Derived.Test.YteniieagcehmpaaDrawUp6
import Derived.Test.YteniieagcehmpaaDrawBt6
namespace Go.Proofs.Yteniieagcehmpaa
open Go.RowKit Go.Sort
set_option linter.unusedVariables false

theorem OwQ.own2 {w : World} {lo n : Nat} {v : Value} {L : List (Int × Int)} (h : OwQ w lo v L) (hn : L.length = n) : w.ownsRow lo 94 2 v n (cellsP L) := by
  subst hn
  rcases h with ⟨rfl, rfl⟩ | ⟨g, c, rfl, hg, ho⟩
  · exact ⟨rfl, .inl ⟨rfl, rfl⟩⟩
  · refine ⟨ho.1, ?_⟩
    rcases ho.2 with ⟨h', _⟩ | ⟨g', cap', cur, h', r⟩
    · simp at h'
    · simp only [Value.slice.injEq, Option.some.injEq, Addr.mk.injEq, and_true, true_and] at h'
      obtain ⟨rfl, rfl⟩ := h'
      exact .inr ⟨g, c, cur, rfl, hg, r.2⟩

section
variable {P : Program} {t e : TypeId} {i : TypeInfo}
/-- Appending one prefix, at a drawn step, onto a list that the call owns. -/
theorem step_apS (w : World) {ops : Array Oper} {o : Oper} {a : Act} {K : Act → World → Prop} {Q : Exit → Act → World → Prop} {E : Prop} (hgd : o.guard = none) (s x : Operand)
    (ho : o.op = .call { callee := .builtin .append, args := #[s, x], argTypes := #[t, t] }) (base : Nat) (ht : P.underlying t = some (.slice e)) (hi : P.info? e = some i) (hz : i.zero = some (.agg #[.int .i64 0, .int .i64 0])) (hs : i.size = 2) (hb : i.bytes = 16)
    (v : Value) (n : Nat) (xs : List Value) (hsv : a.eval s = v) (hown : w.ownsRow base e 2 v n xs)
    (ad : Addr) (p q : Int) (hxv : a.eval x = .slice (some ad) 1 1) (h0 : w.cell? (ad.add 0) = some (.int .i64 p)) (h1 : w.cell? (ad.add 1) = some (.int .i64 q))
    (hle : n + 1 ≤ 4194304) (hbase : base ≤ w.heap.size)
    (h : ∀ v' w', w'.ownsRow base e 2 v' (n + 1) (xs ++ [.int .i64 p, .int .i64 q]) → w.grownBy w' v.ownBlock → (v'.ownBlock = v.ownBlock ∨ v'.ownBlock = some w.heap.size) → K (a.put o.dst v') w') :
    if Region.wanted o (yielded ops a.tmps) = true then Oper.wp P o a w K Q else E := by
  have hw : Region.wanted o (yielded ops a.tmps) = true := by simp [Region.wanted, hgd]
  rw [if_pos hw]
  have hnews : ∀ j y, [Value.int .i64 p, Value.int .i64 q][j]? = some y → w.cell? (ad.add j) = some y := by
    intro j y hy
    match j, hy with
    | 0, hy => simp at hy; subst hy; exact h0
    | 1, hy => simp at hy; subst hy; exact h1
  obtain ⟨v', w', hr, h2, h3, _, h5⟩ := run_append_own_at (P := P) w base t o.type e i (.agg #[.int .i64 0, .int .i64 0]) 2 16 ht hi hz hs hb rfl (by decide) v n xs hown ad 1 1 [.int .i64 p, .int .i64 q] rfl hnews (by simp [Value.oneCell']) (by unfold maxLen; omega) (by omega) hbase
  unfold Oper.wp execOp
  simp only [ho, resolve, invoke, builtin, Sem.run_bind, Sem.run_pure, Result.andThen_ok, List.map_toArray, List.map_cons, List.map_nil, hsv, hxv, hr]
  exact h v' w' h2 h3 h5
end

set_option maxRecDepth 100000 in
set_option maxHeartbeats 3200000 in
theorem l3Bent_sc {B n c t : Nat} {a : Option Addr} {zs : List Int} {w : World} (h : Sc w B a n c zs t) (ht : t ≤ 1000) :
    Calls Try.prog 35 #[.pointer (some ⟨B, 0, none⟩)] w fun e w' => ∃ (gs rs : List (Int × Int)) (xs : List Int) (has : Bool) (o nx md lc : Int) (x y z : Value), e = .returned (.agg #[x, .bool has, .int .i64 o, y, .int .i64 nx, .int .i64 md, .int .i64 lc, z]) ∧ gs.length ≤ 9 ∧ xs.length ≤ 7 ∧ rs.length ≤ 4 ∧ (∀ p ∈ gs, In6 p.1 ∧ In6 p.2) ∧ (∀ z ∈ xs, In6 z) ∧ (∀ p ∈ rs, In6 p.1 ∧ In6 p.2) ∧ OwQ w' w.heap.size x gs ∧ OwM w' w.heap.size y xs ∧ OwQ w' w.heap.size z rs ∧ Turn (fun k => k = B) w w' := by
  obtain ⟨iP, hi, hz0, hz1, hz2⟩ := info_parts Try.infoPx
  have hlt := h.blk.lt
  have hA := h.lt_of
  have hw0 := (New.refl w).alloc (.cells #[.slice none 0 0, .bool false, .int .i64 0, .slice none 0 0, .int .i64 0, .int .i64 0, .int .i64 0, .slice none 0 0] 33)
  have bR0 := Blk.mk w w.heap.size 33 #[.slice none 0 0, .bool false, .int .i64 0, .slice none 0 0, .int .i64 0, .int .i64 0, .int .i64 0, .slice none 0 0] rfl
  have hRB : ¬ w.heap.size = B := by omega
  go_enter Try.func35, Try.ntmps35
  go_wp2_with fail
  refine (l3DrawUpdate_sc (h.new hw0) (by omega)).mono ?_
  rintro e w2 ⟨gs, rs, xs, has, o, nx, md, lc, x, y, z, t2, rfl, huf, hg2, hx2, hr2, ht2, hG, hM, hR, hs2, htn2, d1, d2, d3⟩
  obtain ⟨ga, gc, ex⟩ := hG.slice'
  obtain ⟨xa, xc, ey⟩ := hM.slice'
  obtain ⟨ra, rc, ez⟩ := hR.slice'
  subst ex
  subst ey
  subst ez
  obtain ⟨h8, h8r, hlg, hlr, hyes, hno⟩ := uf_ok huf
  have BG : Hid (∀ p ∈ gs, In6 p.1 ∧ In6 p.2) := fun p hp => pf_in ((lf_ok hlg).2 p hp)
  have BR : Hid (∀ p ∈ rs, In6 p.1 ∧ In6 p.2) := fun p hp => pf_in ((lf_ok hlr).2 p hp)
  have BX : Hid (∀ z ∈ xs, In6 z) := by
    intro z hz
    cases has with
    | false =>
      obtain ⟨_, _, hx0, _⟩ := hno rfl
      rw [List.eq_nil_of_length_eq_zero hx0] at hz
      cases hz
    | true =>
      have := (af_ok (hyes rfl).2).2.2 z hz
      unfold In6; omega
  clear hlg hlr hyes hno huf h8 h8r
  generalize hGL : gs.length = gm at *
  generalize hXL : xs.length = xm at *
  generalize hRL : rs.length = rm at *
  have HG : Hid (gs.length = gm) := hGL
  have HX : Hid (xs.length = xm) := hXL
  have HR : Hid (rs.length = rm) := hRL
  clear hGL hXL hRL
  have hG' := hG.low (lo' := w.heap.size + 1) (by simp)
  have hM' := hM.low (lo' := w.heap.size + 1) (by simp)
  have hR' := hR.low (lo' := w.heap.size + 1) (by simp)
  have kQ := hG'.blk
  have kM := hM'.blk
  have kR := hR'.blk
  have bR2 := bR0.turn htn2 hRB
  have t02 := Turn.both (hw0.turn (S := fun k => k = B)) htn2
  have s2 := bR2.lt
  have lB2 := hs2.blk.lt
  clear hG hM hR bR0 hw0 htn2
  have hal2 := (New.refl w2).alloc (.cells #[.slice ga gm gc, .bool has, .int .i64 o, .slice xa xm xc, .int .i64 nx, .int .i64 md, .int .i64 lc, .slice ra rm rc] 33)
  have bU2 := Blk.mk w2 w2.heap.size 33 #[.slice ga gm gc, .bool has, .int .i64 o, .slice xa xm xc, .int .i64 nx, .int .i64 md, .int .i64 lc, .slice ra rm rc] rfl
  go_wp2_with fail
  refine (next_sc (hs2.new hal2) 14 (by omega) (by omega)).mono ?_
  rintro e w4 ⟨r4, rfl, ⟨p4, q4, -⟩, hs4, ht4⟩
  have q4 := q4 (by omega)
  have bU4 := bU2.turn ht4 (by omega)
  have bR4 := (bR2.new hal2).turn ht4 hRB
  have hQ4 := (hG'.new hal2).turnB' ht4 (fun g hg e => by have := kQ g hg; omega)
  have hM4 := (hM'.new hal2).turnB' ht4 (fun g hg e => by have := kM g hg; omega)
  have hR4 := (hR'.new hal2).turnB' ht4 (fun g hg e => by have := kR g hg; omega)
  have t04 := Turn.both t02 (Turn.both (hal2.turn (S := fun k => k = B)) ht4)
  have s4 : w2.heap.size < w4.heap.size := bU4.lt
  clear bU2 bR2 hG' hM' hR' t02 hs2 hal2 ht4
  by_cases e0 : r4 = 0
  · subst e0
    have n0 : ((0 : Int) == 0) = true := rfl
    have cU := bU4.cells
    have fU := bU4.frees
    have lU := bU4.lt
    have hown := hQ4.own2 HG.out
    have hd0 := hs4.new ((New.refl _).drew)
    go_wp2_with fail
    go_region_law (first
      | (refine step_apS _ rfl (.tmp 11) (.tmp 14) rfl (w.heap.size + 1) Try.underlying28 hi hz0 hz1 hz2 (.slice ga gm gc) gm _ rfl (own1.alloc _) ⟨_, 0, none⟩ x l rfl (by simp [Addr.add]) (by simp [Addr.add]) (by omega) (by first | omega | (simp; omega)) ?_; intro v' w6 ho6 hgr6 hat6; obtain ⟨g6, c6, rfl⟩ := Joins.ownsRow_form ho6 (by omega); have bU6 := (bU1.alloc (.cells #[.int .i64 x, .int .i64 l] 94)).grow hgr6 (fun e => by have := kQ _ e; omega); have cU6 := bU6.cells; have fU6 := bU6.frees)
      | (go_simp; go_at_call 63; refine (l2Bent_sc hd0 (by omega)).mono ?_; rintro e v1 ⟨x, l, tc, rfl, hxb, hlb, htc, hsA, htA⟩; have bU1 := (bU4.new ((New.refl _).drew)).turn htA (by omega); have cU1 := bU1.cells; have cU1a := (bU1.alloc (.cells #[.int .i64 x, .int .i64 l] 94)).cells; have own1 := own_turnQB (own_turnQ hown ((New.refl _).drew)) htA (fun g hg e => by have := kQ g hg; omega); have s1 : w4.heap.size ≤ v1.heap.size := htA.size))
    all_goals
      have tA : Turn (fun k => k = B) w4 v1 := Turn.both (((New.refl w4).drew).turn (S := fun k => k = B)) htA
      have hal1 := (New.refl v1).alloc (.cells #[.int .i64 x, .int .i64 l] 94)
      have bR6 := ((bR4.turn tA hRB).new hal1).grow hgr6 (fun e => by have := kQ _ e; omega)
      have tg : Turn (fun k => (Value.slice ga gm gc).ownBlock = some k) (v1.alloc (.cells #[.int .i64 x, .int .i64 l] 94)) w6 := ⟨hgr6.os, hgr6.tape, hgr6.output, hgr6.size, fun k hk hs => hgr6.block k hk (fun e => hs e.symm)⟩
      have T9 := Turn.here (B := w2.heap.size) (j := 0) (Turn.refl _ w6) (.slice (some ⟨g6, 0, none⟩) (gm + 1) c6)
      have bU9 := bU6.set 0 (.slice (some ⟨g6, 0, none⟩) (gm + 1) c6)
      simp only [List.setIfInBounds_toArray, List.set_cons_zero] at bU9
      have bR9 := bR6.turn T9 (by omega)
      have hbk6 : g6 ≠ w2.heap.size := fun e => by
        have k6 := ho6.lt g6 rfl
        rcases hat6 with h' | h'
        · have := kQ g6 (by rw [← h']; rfl); omega
        · simp [Value.ownBlock] at h'; omega
      have hQ9 := (OwQ.of_own (L := gs ++ [(x, l)]) (by rw [cellsP_append]; exact ho6) (by rw [List.length_append, HG.out]; rfl)).turnB' T9 (fun g hg e => by obtain rfl := Option.some.inj hg; exact hbk6 e)
      have hR9 := ((((hR4.turnB' tA (fun g hg e => by have := kR g hg; omega)).new hal1).turnB' tg (fun g hg e => d2 _ e hg))).turnB' T9 (fun g hg e => by have := kR g hg; omega)
      have hM9 := ((((hM4.turnB' tA (fun g hg e => by have := kM g hg; omega)).new hal1).turnB' tg (fun g hg e => d1 _ e hg))).turnB' T9 (fun g hg e => by have := kM g hg; omega)
      have t09 : Turn (fun k => k = B) w (w6.setCell ⟨w2.heap.size, 0, none⟩ (.slice (some ⟨g6, 0, none⟩) (gm + 1) c6)) := Turn.trans (Turn.trans (Turn.both t04 (Turn.both tA (hal1.turn (S := fun k => k = B)))) tg (fun i hi e => by have := kQ _ e; omega)) T9 (fun i hi e => by omega)
      have hb9 : ∀ p ∈ gs ++ [(x, l)], In6 p.1 ∧ In6 p.2 := by
        intro p hp
        rcases List.mem_append.1 hp with h | h
        · exact BG.out p h
        · simp at h; subst h; unfold In6; simp only; omega
      clear ho6 hgr6 hat6 bU6 bR6 cU6 fU6 own1 bU1 cU1 cU1a hsA htA tg tA hown hd0 cU fU lU
      have cU9 := bU9.cells
      have cR9 := bR9.cells
      have fR9 := bR9.frees
      have lR9 := bR9.lt
      go_wp2
      refine bodyPost_ret (v := .agg #[.slice (some ⟨g6, 0, none⟩) (gm + 1) c6, .bool has, .int .i64 o, .slice xa xm xc, .int .i64 nx, .int .i64 md, .int .i64 lc, .slice ra rm rc]) (by simp [results, Try.results35, go_sem, cR9]) rfl ?_
      refine (fun (hT : Turn (fun k => k = w.heap.size) (w6.setCell ⟨w2.heap.size, 0, none⟩ (.slice (some ⟨g6, 0, none⟩) (gm + 1) c6)) _) => ⟨(gs ++ [(x, l)]), rs, xs, has, o, nx, md, lc, _, _, _, rfl, by rw [List.length_append, HG.out]; simp; omega, by rw [HX.out]; omega, by rw [HR.out]; omega, hb9, BX.out, BR.out, (hQ9.turn hT (fun g hg e => by omega)).low (by omega), (hM9.turn hT (fun g hg e => by omega)).low (by omega), (hR9.turn hT (fun g hg e => by omega)).low (by omega), Turn.trans t09 hT (fun i hi e => by omega)⟩) ?_
      exact Turn.here (Turn.here (Turn.here (Turn.here (Turn.here (Turn.here (Turn.here (Turn.here (Turn.refl _ _) _) _) _) _) _) _) _) _
  by_cases e1 : r4 = 1
  · subst e1
    have n0 : ((1 : Int) == 0) = false := rfl
    have n1 : ((1 : Int) == 1) = true := rfl
    have cU := bU4.cells
    have fU := bU4.frees
    have lU := bU4.lt
    have T9 := Turn.here (B := w2.heap.size) (j := 1) (Turn.refl _ w4) (.bool (!has))
    have bU9 := bU4.set 1 (.bool (!has))
    simp only [List.setIfInBounds_toArray, List.set_cons_zero, List.set_cons_succ] at bU9
    have bR9 := bR4.turn T9 (by omega)
    have hQ9 := hQ4.turnB' T9 (fun g hg e => by have := kQ g hg; omega)
    have hM9 := hM4.turnB' T9 (fun g hg e => by have := kM g hg; omega)
    have hR9 := hR4.turnB' T9 (fun g hg e => by have := kR g hg; omega)
    have t09 := Turn.trans t04 T9 (fun i hi e => by omega)
    have cU9 := bU9.cells
    have cR9 := bR9.cells
    have fR9 := bR9.frees
    have lR9 := bR9.lt
    go_wp2
    refine bodyPost_ret (v := .agg #[.slice ga gm gc, .bool (!has), .int .i64 o, .slice xa xm xc, .int .i64 nx, .int .i64 md, .int .i64 lc, .slice ra rm rc]) (by simp [results, Try.results35, go_sem, cR9]) rfl ?_
    refine (fun (hT : Turn (fun k => k = w.heap.size) (w4.setCell ⟨w2.heap.size, 1, none⟩ (.bool (!has))) _) => ⟨gs, rs, xs, (!has), o, nx, md, lc, _, _, _, rfl, by rw [HG.out]; omega, by rw [HX.out]; omega, by rw [HR.out]; omega, BG.out, BX.out, BR.out, (hQ9.turn hT (fun g hg e => by omega)).low (by omega), (hM9.turn hT (fun g hg e => by omega)).low (by omega), (hR9.turn hT (fun g hg e => by omega)).low (by omega), Turn.trans t09 hT (fun i hi e => by omega)⟩) ?_
    exact Turn.here (Turn.here (Turn.here (Turn.here (Turn.here (Turn.here (Turn.here (Turn.here (Turn.refl _ _) _) _) _) _) _) _) _) _
  by_cases e2 : r4 = 2
  · subst e2
    have n0 : ((2 : Int) == 0) = false := rfl
    have n1 : ((2 : Int) == 1) = false := rfl
    have n2 : ((2 : Int) == 2) = true := rfl
    go_wp2_with fail
    refine (l3BentAttrs_sc hs4 (by omega)).mono ?_
    rintro e w5 ⟨o5, nx5, md5, lc5, xs5, xa5, xc5, xm5, t5, rfl, hl5, hm5, ⟨o1, o2, o3, o4⟩, ⟨u1, u2, u3, u4⟩, hxs5, ht5, hM5, hs5, htn5⟩
    have HX5 : Hid (xs5.length = xm5) := hl5
    have bU5 := bU4.turn htn5 (by omega)
    have bR5 := bR4.turn htn5 hRB
    have hQ5 := hQ4.turnB' htn5 (fun g hg e => by have := kQ g hg; omega)
    have hR5 := hR4.turnB' htn5 (fun g hg e => by have := kR g hg; omega)
    have t05 := Turn.both t04 htn5
    have cU := bU5.cells
    have fU := bU5.frees
    have lU := bU5.lt
    have hM5b := hM5.blk
    have T9 := Turn.here (B := w2.heap.size) (j := 6) (Turn.here (j := 5) (Turn.here (j := 4) (Turn.here (j := 3) (Turn.here (j := 2) (Turn.refl _ w5) (.int .i64 o5)) (.slice xa5 xm5 xc5)) (.int .i64 nx5)) (.int .i64 md5)) (.int .i64 lc5)
    have bU9 := ((((bU5.set 2 (.int .i64 o5)).set 3 (.slice xa5 xm5 xc5)).set 4 (.int .i64 nx5)).set 5 (.int .i64 md5)).set 6 (.int .i64 lc5)
    simp only [List.setIfInBounds_toArray, List.set_cons_zero, List.set_cons_succ] at bU9
    have bR9 := bR5.turn T9 (by omega)
    have hQ9 := hQ5.turnB' T9 (fun g hg e => by have := kQ g hg; omega)
    have hR9 := hR5.turnB' T9 (fun g hg e => by have := kR g hg; omega)
    have hM9 := (hM5.turnB' T9 (fun g hg e => by have := hM5b g hg; omega)).low (lo' := w.heap.size + 1) (by omega)
    have t09 := Turn.trans t05 T9 (fun i hi e => by omega)
    have bx5 : ∀ z ∈ xs5, In6 z := fun z hz => by have := hxs5 z hz; unfold In6; omega
    clear hl5
    have cU9 := bU9.cells
    have cR9 := bR9.cells
    have fR9 := bR9.frees
    have lR9 := bR9.lt
    go_wp2
    refine bodyPost_ret (v := .agg #[.slice ga gm gc, .bool has, .int .i64 o5, .slice xa5 xm5 xc5, .int .i64 nx5, .int .i64 md5, .int .i64 lc5, .slice ra rm rc]) (by simp [results, Try.results35, go_sem, cR9]) rfl ?_
    refine (fun (hT : Turn (fun k => k = w.heap.size) (((((w5.setCell ⟨w2.heap.size, 2, none⟩ (.int .i64 o5)).setCell ⟨w2.heap.size, 3, none⟩ (.slice xa5 xm5 xc5)).setCell ⟨w2.heap.size, 4, none⟩ (.int .i64 nx5)).setCell ⟨w2.heap.size, 5, none⟩ (.int .i64 md5)).setCell ⟨w2.heap.size, 6, none⟩ (.int .i64 lc5)) _) => ⟨gs, rs, xs5, has, o5, nx5, md5, lc5, _, _, _, rfl, by rw [HG.out]; omega, by rw [HX5.out]; omega, by rw [HR.out]; omega, BG.out, bx5, BR.out, (hQ9.turn hT (fun g hg e => by omega)).low (by omega), (hM9.turn hT (fun g hg e => by omega)).low (by omega), (hR9.turn hT (fun g hg e => by omega)).low (by omega), Turn.trans t09 hT (fun i hi e => by omega)⟩) ?_
    exact Turn.here (Turn.here (Turn.here (Turn.here (Turn.here (Turn.here (Turn.here (Turn.here (Turn.refl _ _) _) _) _) _) _) _) _) _
  by_cases e3 : r4 = 3
  · subst e3
    have n0 : ((3 : Int) == 0) = false := rfl
    have n1 : ((3 : Int) == 1) = false := rfl
    have n2 : ((3 : Int) == 2) = false := rfl
    have n3 : ((3 : Int) == 3) = true := rfl
    have cU := bU4.cells
    have fU := bU4.frees
    have lU := bU4.lt
    have hown := hR4.own2 HR.out
    have hd0 := hs4.new ((New.refl _).drew)
    go_wp2_with fail
    go_region_law (first
      | (refine step_apS _ rfl (.tmp 31) (.tmp 34) rfl (w.heap.size + 1) Try.underlying28 hi hz0 hz1 hz2 (.slice ra rm rc) rm _ rfl (own1.alloc _) ⟨_, 0, none⟩ x l rfl (by simp [Addr.add]) (by simp [Addr.add]) (by omega) (by first | omega | (simp; omega)) ?_; intro v' w6 ho6 hgr6 hat6; obtain ⟨g6, c6, rfl⟩ := Joins.ownsRow_form ho6 (by omega); have bU6 := (bU1.alloc (.cells #[.int .i64 x, .int .i64 l] 94)).grow hgr6 (fun e => by have := kR _ e; omega); have cU6 := bU6.cells; have fU6 := bU6.frees)
      | (go_simp; go_at_call 63; refine (l2Bent_sc hd0 (by omega)).mono ?_; rintro e v1 ⟨x, l, tc, rfl, hxb, hlb, htc, hsA, htA⟩; have bU1 := (bU4.new ((New.refl _).drew)).turn htA (by omega); have cU1 := bU1.cells; have cU1a := (bU1.alloc (.cells #[.int .i64 x, .int .i64 l] 94)).cells; have own1 := own_turnQB (own_turnQ hown ((New.refl _).drew)) htA (fun g hg e => by have := kR g hg; omega); have s1 : w4.heap.size ≤ v1.heap.size := htA.size))
    all_goals
      have tA : Turn (fun k => k = B) w4 v1 := Turn.both (((New.refl w4).drew).turn (S := fun k => k = B)) htA
      have hal1 := (New.refl v1).alloc (.cells #[.int .i64 x, .int .i64 l] 94)
      have bR6 := ((bR4.turn tA hRB).new hal1).grow hgr6 (fun e => by have := kR _ e; omega)
      have tg : Turn (fun k => (Value.slice ra rm rc).ownBlock = some k) (v1.alloc (.cells #[.int .i64 x, .int .i64 l] 94)) w6 := ⟨hgr6.os, hgr6.tape, hgr6.output, hgr6.size, fun k hk hs => hgr6.block k hk (fun e => hs e.symm)⟩
      have T9 := Turn.here (B := w2.heap.size) (j := 7) (Turn.refl _ w6) (.slice (some ⟨g6, 0, none⟩) (rm + 1) c6)
      have bU9 := bU6.set 7 (.slice (some ⟨g6, 0, none⟩) (rm + 1) c6)
      simp only [List.setIfInBounds_toArray, List.set_cons_zero, List.set_cons_succ] at bU9
      have bR9 := bR6.turn T9 (by omega)
      have hbk6 : g6 ≠ w2.heap.size := fun e => by
        have k6 := ho6.lt g6 rfl
        rcases hat6 with h' | h'
        · have := kR g6 (by rw [← h']; rfl); omega
        · simp [Value.ownBlock] at h'; omega
      have hR9 := (OwQ.of_own (L := rs ++ [(x, l)]) (by rw [cellsP_append]; exact ho6) (by rw [List.length_append, HR.out]; rfl)).turnB' T9 (fun g hg e => by obtain rfl := Option.some.inj hg; exact hbk6 e)
      have hQ9 := ((((hQ4.turnB' tA (fun g hg e => by have := kQ g hg; omega)).new hal1).turnB' tg (fun g hg e => d2 _ hg e))).turnB' T9 (fun g hg e => by have := kQ g hg; omega)
      have hM9 := ((((hM4.turnB' tA (fun g hg e => by have := kM g hg; omega)).new hal1).turnB' tg (fun g hg e => d3 _ hg e))).turnB' T9 (fun g hg e => by have := kM g hg; omega)
      have t09 : Turn (fun k => k = B) w (w6.setCell ⟨w2.heap.size, 7, none⟩ (.slice (some ⟨g6, 0, none⟩) (rm + 1) c6)) := Turn.trans (Turn.trans (Turn.both t04 (Turn.both tA (hal1.turn (S := fun k => k = B)))) tg (fun i hi e => by have := kR _ e; omega)) T9 (fun i hi e => by omega)
      have hb9 : ∀ p ∈ rs ++ [(x, l)], In6 p.1 ∧ In6 p.2 := by
        intro p hp
        rcases List.mem_append.1 hp with h | h
        · exact BR.out p h
        · simp at h; subst h; unfold In6; simp only; omega
      clear ho6 hgr6 hat6 bU6 bR6 cU6 fU6 own1 bU1 cU1 cU1a hsA htA tg tA hown hd0 cU fU lU
      have cU9 := bU9.cells
      have cR9 := bR9.cells
      have fR9 := bR9.frees
      have lR9 := bR9.lt
      go_wp2
      refine bodyPost_ret (v := .agg #[.slice ga gm gc, .bool has, .int .i64 o, .slice xa xm xc, .int .i64 nx, .int .i64 md, .int .i64 lc, .slice (some ⟨g6, 0, none⟩) (rm + 1) c6]) (by simp [results, Try.results35, go_sem, cR9]) rfl ?_
      refine (fun (hT : Turn (fun k => k = w.heap.size) (w6.setCell ⟨w2.heap.size, 7, none⟩ (.slice (some ⟨g6, 0, none⟩) (rm + 1) c6)) _) => ⟨gs, (rs ++ [(x, l)]), xs, has, o, nx, md, lc, _, _, _, rfl, by rw [HG.out]; omega, by rw [HX.out]; omega, by rw [List.length_append, HR.out]; simp; omega, BG.out, BX.out, hb9, (hQ9.turn hT (fun g hg e => by omega)).low (by omega), (hM9.turn hT (fun g hg e => by omega)).low (by omega), (hR9.turn hT (fun g hg e => by omega)).low (by omega), Turn.trans t09 hT (fun i hi e => by omega)⟩) ?_
      exact Turn.here (Turn.here (Turn.here (Turn.here (Turn.here (Turn.here (Turn.here (Turn.here (Turn.refl _ _) _) _) _) _) _) _) _) _
  by_cases e4 : r4 = 4
  · subst e4
    have n0 : ((4 : Int) == 0) = false := rfl
    have n1 : ((4 : Int) == 1) = false := rfl
    have n2 : ((4 : Int) == 2) = false := rfl
    have n3 : ((4 : Int) == 3) = false := rfl
    have n4 : ((4 : Int) == 4) = true := rfl
    have cU := bU4.cells
    have fU := bU4.frees
    have lU := bU4.lt
    have hz1' := hz1
    go_wp2_with (at_make; refine wpList_make_full _ rfl _ _ 28 rfl 0 94 iP (.agg #[.int .i64 0, .int .i64 0]) 2 Try.underlying28 hi hz0 hz1 _ _ _ _ 9 rfl rfl rfl rfl ?b2 ?b3 (Nat.zero_le _) ?_)
    case b2 => rw [hz2]; omega
    case b3 => unfold maxLen; omega
    intro w5 ho5 hgr5
    have hnn := New.of_grown hgr5
    have hr5 : w5.ownsRow 0 94 2 (.slice (some ⟨w4.heap.size, 0, none⟩) 9 9) 9 (cellsP (List.replicate 9 (0, 0))) := by
      rw [cellsP_zero]
      have := ho5
      rw [show (madeCells _ _).toList = List.replicate 18 (Value.int .i64 0) from made_two (.int .i64 0) 18] at this
      exact this
    have hQ5 : OwQ w5 0 (.slice (some ⟨w4.heap.size, 0, none⟩) 9 9) (List.replicate 9 (0, 0)) := OwQ.of_own hr5 (by simp)
    have bU5 := bU4.new hnn
    have bR5 := bR4.new hnn
    have hM5 := hM4.new hnn
    have hR5 := hR4.new hnn
    have t05 := Turn.both t04 (hnn.turn (S := fun k => k = B))
    have hlt5 := (hr5.lt w4.heap.size rfl).2
    clear cU fU
    have cU := bU5.cells
    have fU := bU5.frees
    have lU5 := bU5.lt
    have T9 := Turn.here (B := w2.heap.size) (j := 0) (Turn.refl _ w5) (.slice (some ⟨w4.heap.size, 0, none⟩) 9 9)
    have bU9 := bU5.set 0 (.slice (some ⟨w4.heap.size, 0, none⟩) 9 9)
    simp only [List.setIfInBounds_toArray, List.set_cons_zero] at bU9
    have bR9 := bR5.turn T9 (by omega)
    have hQ9 : OwQ (w5.setCell ⟨w2.heap.size, 0, none⟩ (.slice (some ⟨w4.heap.size, 0, none⟩) 9 9)) (w.heap.size + 1) (.slice (some ⟨w4.heap.size, 0, none⟩) 9 9) (List.replicate 9 (0, 0)) := by
      have hh := hQ5.turnB' T9 (fun g hg e => by obtain rfl := Option.some.inj hg; simp only at e; omega)
      rcases hh with ⟨h', _⟩ | ⟨g, c', h', h2, h3⟩
      · simp at h'
      · simp only [Value.slice.injEq, Option.some.injEq, Addr.mk.injEq, and_true] at h'
        obtain ⟨rfl, h'', rfl⟩ := h'
        exact .inr ⟨_, _, rfl, by omega, h3⟩
    have hM9 := hM5.turnB' T9 (fun g hg e => by have := kM g hg; omega)
    have hR9 := hR5.turnB' T9 (fun g hg e => by have := kR g hg; omega)
    have t09 := Turn.trans t05 T9 (fun i hi e => by omega)
    clear ho5 hgr5 hr5 hQ5
    have cU9 := bU9.cells
    have cR9 := bR9.cells
    have fR9 := bR9.frees
    have lR9 := bR9.lt
    go_wp2
    refine bodyPost_ret (v := .agg #[.slice (some ⟨w4.heap.size, 0, none⟩) 9 9, .bool has, .int .i64 o, .slice xa xm xc, .int .i64 nx, .int .i64 md, .int .i64 lc, .slice ra rm rc]) (by simp [results, Try.results35, go_sem, cR9]) rfl ?_
    refine (fun (hT : Turn (fun k => k = w.heap.size) (w5.setCell ⟨w2.heap.size, 0, none⟩ (.slice (some ⟨w4.heap.size, 0, none⟩) 9 9)) _) => ⟨(List.replicate 9 (0, 0)), rs, xs, has, o, nx, md, lc, _, _, _, rfl, by simp, by rw [HX.out]; omega, by rw [HR.out]; omega, (by intro p hp; obtain rfl := List.eq_of_mem_replicate hp; unfold In6; simp), BX.out, BR.out, (hQ9.turn hT (fun g hg e => by omega)).low (by omega), (hM9.turn hT (fun g hg e => by omega)).low (by omega), (hR9.turn hT (fun g hg e => by omega)).low (by omega), Turn.trans t09 hT (fun i hi e => by omega)⟩) ?_
    exact Turn.here (Turn.here (Turn.here (Turn.here (Turn.here (Turn.here (Turn.here (Turn.here (Turn.refl _ _) _) _) _) _) _) _) _) _
  · have n0 : (r4 == 0) = false := by simpa using e0
    have n1 : (r4 == 1) = false := by simpa using e1
    have n2 : (r4 == 2) = false := by simpa using e2
    have n3 : (r4 == 3) = false := by simpa using e3
    have n4 : (r4 == 4) = false := by simpa using e4
    have cU4 := bU4.cells
    have bU9 := bU4
    have bR9 := bR4
    have hQ9 := hQ4
    have hM9 := hM4
    have hR9 := hR4
    have t09 := t04
    have cU9 := bU9.cells
    have cR9 := bR9.cells
    have fR9 := bR9.frees
    have lR9 := bR9.lt
    go_wp2
    refine bodyPost_ret (v := .agg #[.slice ga gm gc, .bool has, .int .i64 o, .slice xa xm xc, .int .i64 nx, .int .i64 md, .int .i64 lc, .slice ra rm rc]) (by simp [results, Try.results35, go_sem, cR9]) rfl ?_
    refine (fun (hT : Turn (fun k => k = w.heap.size) w4 _) => ⟨gs, rs, xs, has, o, nx, md, lc, _, _, _, rfl, by rw [HG.out]; omega, by rw [HX.out]; omega, by rw [HR.out]; omega, BG.out, BX.out, BR.out, (hQ9.turn hT (fun g hg e => by omega)).low (by omega), (hM9.turn hT (fun g hg e => by omega)).low (by omega), (hR9.turn hT (fun g hg e => by omega)).low (by omega), Turn.trans t09 hT (fun i hi e => by omega)⟩) ?_
    exact Turn.here (Turn.here (Turn.here (Turn.here (Turn.here (Turn.here (Turn.here (Turn.here (Turn.refl _ _) _) _) _) _) _) _) _) _

end Go.Proofs.Yteniieagcehmpaa
