/- What is proved here: what the program's ReadEntries answers, for every list of at most 1048576 bytes. -/
import Derived.Test.YtcpamjklljmipaaE10Re
import Derived.Test.YtcpamjklljmipaaE10Ce
import Derived.Test.YtcpamjklljmipaaE10Rt
import Derived.Maps.AppendAt
namespace Go.Proofs.Ytcpamjklljmipaa
open Go.RowKit Go.Shelf
set_option linter.unusedVariables false
set_option linter.unusedSimpArgs false
set_option maxRecDepth 100000
attribute [local go_sem] Oper.semAt_some

theorem cells_ne {W : World} {row : Option Nat} {k : Nat} {cs : Array Value} {t : TypeId} {f : Nat × Nat} (hr : ∀ r, row = some r → ∃ o : Obj, W.heap[r]? = some o ∧ o.isCells = false) (hk : W.heap[k]? = some (.cells cs t f)) : ¬ row = some k := by
  rintro rfl
  obtain ⟨o, ho, hc⟩ := hr k rfl
  rw [hk] at ho
  obtain rfl := Option.some.inj ho
  simp [Obj.isCells] at hc
theorem row_cells {w : World} {lo sz n : Nat} {e : TypeId} {u : Value} {xs : List Value} (h : w.ownsRow lo e sz u n xs) {k : Nat} (hk : u.ownBlock = some k) : ∃ cs, w.heap[k]? = some (.cells cs e (0, 0)) := by
  rcases h.2 with ⟨h1, h2⟩ | ⟨g, c, cur, h1, h2, h3, r⟩
  · subst h1; simp [Value.ownBlock] at hk
  · subst h1
    simp [Value.ownBlock] at hk
    subst hk
    exact ⟨cur, h3⟩

theorem wp_apV {P : Program} {t e : TypeId} {i : TypeInfo} (w : World) {o : Oper} {a : Act} {K : Act → World → Prop} {Q : Exit → Act → World → Prop} (s x : Operand)
    (ho : o.op = .call { callee := .builtin .append, args := #[s, x], argTypes := #[t, t] }) (base sz by' : Nat) (zero : Value) (ht : P.underlying t = some (.slice e)) (hi : P.info? e = some i) (hz : i.zero = some zero) (hs : i.size = sz) (hb : i.bytes = by') (hz1 : zero.cells.size = sz) (hsz : 0 < sz) (hby : by' ≤ 1000)
    (v : Value) (n : Nat) (xs : List Value) (hsv : a.eval s = v) (hown : w.ownsRow base e sz v n xs)
    (L : Nat) (r : List Value) (hr : r.length = sz) (h1 : ∀ u ∈ r, u.oneCell' = true) (hxv : a.eval x = .slice (some ⟨L, 0, none⟩) 1 1) (hsrc : ∀ j u, r[j]? = some u → w.cell? ⟨L, j, none⟩ = some u) (hle : n + 1 ≤ 4194304) (hbase : base ≤ w.heap.size)
    (h : ∀ v' w', w'.ownsRow base e sz v' (n + 1) (xs ++ r) → w.grownBy w' v.ownBlock → (v'.ownBlock = v.ownBlock ∨ v'.ownBlock = some w.heap.size) → K (a.put o.dst v') w') : o.wp P a w K Q := by
  have hnews : ∀ j u, r[j]? = some u → w.cell? ((⟨L, 0, none⟩ : Addr).add j) = some u := by
    intro j u hu
    rw [Addr.add_lit, Nat.zero_add]
    exact hsrc j u hu
  have hbb : (n + 1) * by' ≤ 140737488355328 := Nat.le_trans (Nat.mul_le_mul hle hby) (by decide)
  obtain ⟨v', w', hr, h2, h3, _, h5⟩ := run_append_own_at (P := P) w base t o.type e i zero sz by' ht hi hz hs hb hz1 hsz v n xs hown ⟨L, 0, none⟩ 1 1 r (by omega) hnews h1 (by unfold maxLen; omega) hbb hbase
  unfold Oper.wp execOp
  simp only [ho, resolve, invoke, builtin, Sem.run_bind, Sem.run_pure, Result.andThen_ok, List.map_toArray, List.map_cons, List.map_nil, hsv, hxv, hr]
  exact h v' w' h2 h3 h5

/-- What stands between two rounds. -/
structure RiIn (w W : World) (bv : Value) (zs : List Int) (ts : List Nat) (en : Int) : Prop where
  box : Blk W (w.heap.size + 2) 22 #[bv]
  got : ∃ v V, Blk W (w.heap.size + 1) 33 #[.int .i64 0, .int .i64 en, v] ∧ V.map EvM.t = ts ∧ W.ownsRow (w.heap.size + 2) 40 4 v V.length (V.flatMap (EvM.cs zs)) ∧ EvOwn W (w.heap.size + 2) zs V
  res : Blk W w.heap.size 33 #[.int .i64 0, .int .i64 0, .slice none 0 0]
  below : Below w.heap.size w W
theorem RiIn.turn {w W W' : World} {bv : Value} {zs : List Int} {ts : List Nat} {en : Int} {row : Option Nat} {B : Nat} (h : RiIn w W bv zs ts en) (hg : W.grownBy W' row) (hr : ∀ r, row = some r → B ≤ r ∧ ∃ o : Obj, W.heap[r]? = some o ∧ o.isCells = false) (hB : w.heap.size ≤ B) : RiIn w W' bv zs ts en := by
  have hr' : ∀ r, row = some r → ∃ o : Obj, W.heap[r]? = some o ∧ o.isCells = false := fun r e => (hr r e).2
  have t := turn_of_grown hg
  obtain ⟨hbox, ⟨v, V, h1, h2, h3, h4⟩, hres, hb⟩ := h
  refine ⟨hbox.turn t (cells_ne hr' hbox), ⟨v, V, h1.turn t (cells_ne hr' h1), h2, row9_turn h3 t (fun k hk => ?_), h4.turn t (fun x hx k hk => ?_)⟩, hres.turn t (cells_ne hr' hres), ?_⟩
  · obtain ⟨cs, hc⟩ := row_cells h3 hk
    exact cells_ne hr' hc
  · obtain ⟨cs, hc⟩ := row_cells (h4.own x hx) hk
    exact cells_ne hr' hc
  · exact ⟨t.os.trans hb.os, t.tape.trans hb.tape, t.output.trans hb.output, Nat.le_trans hb.size t.size, fun k hk => (t.block k (Nat.lt_of_lt_of_le hk (by have := hb.size; omega)) (fun e => by have := (hr k e).1; omega)).trans (hb.block k hk)⟩

set_option maxHeartbeats 3200000 in
theorem implRE (b off n c : Nat) (zs : List Int) (w : World) (h : BsAt w (some ⟨b, off, none⟩) zs) (hb : b < w.heap.size) (hn : zs.length = n) (hc : n ≤ c) (hm : n ≤ 1048576) :
    Calls Try.prog 11 #[.slice (some ⟨b, off, none⟩) n c] w fun e w' => ReAns w zs e w' := by
  by_cases hbig : 6000 < n
  · have hbi : (6000 : Int) < (n : Int) := by omega
    go_enter Try.func11, Try.ntmps11
    go_wp2
    refine bodyPost_ret (v := .agg #[.int .i64 2, .int .i64 0, .slice none 0 0]) (by simp [results, Try.results11, go_sem]) rfl ?_
    unfold ReAns
    rw [hn, if_pos hbig]
    exact ⟨rfl, (New.refl _).alloc _⟩
  · have hbi : ¬ (6000 : Int) < (n : Int) := by omega
    have HB : Hid (¬ 6000 < n) := hbig
    clear hbig
    refine (callsIn_wide (n := 4)).1 ?_
    refine callsIn_of_wp_marks Try.func11 rfl trivial ?_ rfl
    simp only [Try.ntmps11, List.size_toArray, List.length_cons, List.length_nil, Nat.reduceAdd, Nat.reduceSub, Array.replicate_succ, Array.replicate_zero, List.push_toArray, List.append_toArray, List.nil_append, List.cons_append]
    gi_wp2_with (refine ⟨trivial, ?_⟩; gi_at_call 40; refine (callsIn_wide.2 (entries_in (some ⟨b, off, none⟩) n c _)).mono ?_; rintro e w' ⟨rfl, rfl⟩)
    have hB0 : Below w.heap.size w (((w.alloc (.cells #[.int .i64 0, .int .i64 0, .slice none 0 0] 33)).alloc (.cells #[.int .i64 0, .int .i64 0, .slice none 0 0] 33)).alloc (.cells #[.slice (some ⟨b, off, none⟩) n c] 22)) := (((Below.refl _ w).alloc (Nat.le_refl _) _).alloc (by simp) _).alloc (by simp; omega) _
    have bR := ((Blk.mk w w.heap.size 33 #[.int .i64 0, .int .i64 0, .slice none 0 0] rfl).alloc (.cells #[.int .i64 0, .int .i64 0, .slice none 0 0] 33)).alloc (.cells #[.slice (some ⟨b, off, none⟩) n c] 22)
    have bG := (Blk.mk (w.alloc (.cells #[.int .i64 0, .int .i64 0, .slice none 0 0] 33)) (w.heap.size + 1) 33 #[.int .i64 0, .int .i64 0, .slice none 0 0] (by simp)).alloc (.cells #[.slice (some ⟨b, off, none⟩) n c] 22)
    have bN := Blk.mk ((w.alloc (.cells #[.int .i64 0, .int .i64 0, .slice none 0 0] 33)).alloc (.cells #[.int .i64 0, .int .i64 0, .slice none 0 0] 33)) (w.heap.size + 2) 22 #[.slice (some ⟨b, off, none⟩) n c] (by simp)
    have hL : (((w.alloc (.cells #[.int .i64 0, .int .i64 0, .slice none 0 0] 33)).alloc (.cells #[.int .i64 0, .int .i64 0, .slice none 0 0] 33)).alloc (.cells #[.slice (some ⟨b, off, none⟩) n c] 22)).heap.size = w.heap.size + 3 := by simp
    have hz := h.new (New.of_below hB0 (Nat.le_refl _))
    generalize (((w.alloc (.cells #[.int .i64 0, .int .i64 0, .slice none 0 0] 33)).alloc (.cells #[.int .i64 0, .int .i64 0, .slice none 0 0] 33)).alloc (.cells #[.slice (some ⟨b, off, none⟩) n c] 22)) = w1 at *
    refine wpIn_rangeFunc_ownH rfl (by omega) (gf := 61) (lb := #[.pointer (some ⟨w.heap.size + 1 + 1, 0, none⟩)]) rfl trivial (enters_of Try.func61 (by kernel_rfl) rfl)
      (entries_stops (w.heap.size + 2) w.heap.size (some ⟨b, off, none⟩) n c zs w1 hn hc hm (.inr ⟨b, off, rfl, hb⟩) (by omega) bN hz) Kp10.trans (kp10_b (by omega) (by omega)) (Below.refl _ _) (fun _ => rfl)
      (fun pre W => RiIn w W (.slice (some ⟨b, off, none⟩) n c) zs (pre.map EI.t) (eEnd pre))
      (fun _ _ _ => False)
      (fun s A B row hs hg hr => hs.turn hg hr (by omega))
      (fun _ _ _ _ _ hs _ _ => hs)
      ⟨bN, ⟨.slice none 0 0, [], bG, rfl, ⟨rfl, .inl ⟨rfl, rfl⟩⟩, EvOwn.nil _ _ _⟩, bR, hB0⟩
      (fun x a' W => ∃ Bx, w.heap.size + 2 < Bx ∧ Blk W Bx 40 x.cs ∧ (∃ vv, W.cell? ⟨w.heap.size + 1, 2, none⟩ = some vv ∧ ∀ k, vv.ownBlock = some k → k < Bx) ∧ a' = { tmps := #[.slice (some ⟨b, off, none⟩) n c, undef, .pointer (some ⟨w.heap.size, 0, none⟩), .pointer (some ⟨w.heap.size + 1, 0, none⟩), .int .i64 ((x.t : Int) + (eSz (zs.drop x.t) : Int)), .pointer (some ⟨Bx, 0, none⟩), .slice (some ⟨b, off, none⟩) n c, .int .i64 n, .bool false, undef, .slice (some ⟨b, off, none⟩) n c, .func (.func 61) #[] #[.pointer (some ⟨w.heap.size + 1 + 1, 0, none⟩)], .int .i64 ((x.t : Int) + (eSz (zs.drop x.t) : Int)), .agg x.cs, undef, undef, undef, undef, undef, undef, undef, undef, undef, undef], defers := [] })
      (fun x a' _ X Y row hs hg hr => by obtain ⟨Bx, h1, h2, ⟨vv, hv1, hv2⟩, h3⟩ := hs; exact ⟨Bx, h1, h2.turn (turn_of_grown hg) (cells_ne (fun r e => (hr r e).2) h2), ⟨vv, cell_kept hv1 hg (fun r e => (hr r e).2), hv2⟩, h3⟩)
      ?assign ?body ?done ?stop
    case assign =>
      rintro l pre x W K hI hK
      dsimp only [EI.enc, EI.cs]
      dsimp only [EI.cs] at hK
      have hs := hI.below.size
      have hgt := hI.box.lt
      gi_wp2
      refine hK _ _ ((KeepsOthers.alloc _ _).from _) ⟨(Below.refl _ W).alloc hs _, Below.heap_alloc _ _ _ hgt⟩ ?_ ⟨W.heap.size, hgt, Blk.mk _ _ _ _ rfl, ?_, rfl⟩
      rotate_left
      · obtain ⟨v, V, hG, -, hrow, -⟩ := hI.got
        obtain ⟨_, _, rfl, _, hby⟩ := row9_form hrow
        exact ⟨_, ((hG.alloc _).cells 2), fun k hk => (hby k hk).2⟩
      exact hI.turn (B := w1.heap.size) (World.grownBy_alloc W _ none) (fun r e => by cases e) (by omega)
    case body =>
      rintro l pre x a' W hl ⟨r, hr⟩ hI ⟨Bx, hBx, bX, ⟨vv, hvv, hvk⟩, rfl⟩ hlen
      obtain ⟨hbox, ⟨v, V, hG, hV, hrow, hown⟩, hres, hbel⟩ := hI
      obtain ⟨y, dd, rfl, hny, hby⟩ := row9_form hrow
      have cG := hG.cells
      obtain rfl : Value.slice y V.length dd = vv := Option.some.inj ((hG.cells 2).symm.trans hvv)
      have fG := hG.frees
      have hmx : Try.prog.follows .mixedOrders = true := by kernel_rfl
      gi_wp2
      have t01 : Turn (fun i => i = w.heap.size + 1) W (W.setCell ⟨w.heap.size + 1, 1, none⟩ (.int .i64 ((x.t : Int) + (eSz (zs.drop x.t) : Int)))) := Turn.set (S := fun i => i = w.heap.size + 1) (Turn.refl _ _) rfl _
      have hG1 : Blk (W.setCell ⟨w.heap.size + 1, 1, none⟩ (.int .i64 ((x.t : Int) + (eSz (zs.drop x.t) : Int)))) (w.heap.size + 1) 33 #[.int .i64 0, .int .i64 ((x.t : Int) + (eSz (zs.drop x.t) : Int)), .slice y V.length dd] := hG.set 1 _
      have bX1 := bX.turn t01 (by omega)
      generalize W.setCell ⟨w.heap.size + 1, 1, none⟩ (.int .i64 ((x.t : Int) + (eSz (zs.drop x.t) : Int))) = W1 at *
      have hbl := hbox.lt
      have hVb : V.length ≤ 1048576 := by have hVl : V.length = pre.length := by { have := congrArg List.length hV; simpa using this }; omega
      have s01 := t01.size
      have DW : BsAt W1 (some ⟨b, off, none⟩) zs := (h.belowB hbel (by intro x _ hx; cases hx; exact hb)).turn t01 (by intro x hx; cases hx; simp; omega)
      have D0 := x.rd W1 DW
      have lby : (((zs.drop x.t).drop 8).take (eSz (zs.drop x.t) - 8)).length = eSz (zs.drop x.t) - 8 := by have := eSz_le (zs.drop x.t); simp only [List.length_take, List.length_drop] at this ⊢; omega
      have hle8 : eSz (zs.drop x.t) - 8 ≤ 1048576 := by have := eSz_le (zs.drop x.t); simp only [List.length_drop] at this; omega
      have row1 := row9_turn hrow t01 (by intro k hk e; have := (hby k hk).1; omega)
      have nS1 : ¬ (Value.slice y V.length dd).ownBlock = some (w.heap.size + 1) := fun e => by have := (hby _ e).1; omega
      have nSX : ¬ (Value.slice y V.length dd).ownBlock = some Bx := fun e => by have := hvk _ e; omega
      refine wpIn_region_round (S := fun X => Blk X Bx 40 x.cs) hmx ?hd ?hQ ?_
      case hd =>
        intro i o ho c
        rcases i with _ | _ | _ | _ | _ | _ | _ | _ | i <;> simp at ho <;> subst ho <;> simp
      case hQ =>
        rintro ⟨_, _, hh⟩
        exact hh
      have hN : New W1 W1.drew := (New.refl _).drew
      have hH := bX1.new hN
      obtain ⟨i0, hi, hzi0, hzi1, hzi2⟩ := info_parts Try.infoEn
      refine' hw_take 0 (some 16) _ rfl rfl (by kernel_rfl) (by kernel_rfl) (by kernel_rfl) (fun _ _ _ h => h) (by rfl) hH ?hy2 ?rest2
      case hy2 =>
        intro X hX
        go_simp
        try rfl
      simp only [Act.put, List.setIfInBounds_toArray, List.set_cons_zero, List.set_cons_succ]
      refine' hw_take 2 (some 18) _ rfl rfl (by kernel_rfl) (by kernel_rfl) (by kernel_rfl) (fun _ _ _ h => h) (by rfl) hH ?hy3 ?rest3
      case hy3 =>
        intro X hX
        have cX1 := hX.cells
        unfold EI.cs at cX1
        go_simp
        try rfl
      simp only [Act.put, List.setIfInBounds_toArray, List.set_cons_zero, List.set_cons_succ]
      refine wpAnyH_ready (rs := [1, 3]) (by kernel_rfl) (by simp) (hw_step 1 (some 17) rfl rfl (by rfl) (fun K hK => ?b1) (hw_step 3 (some 19) rfl rfl (by rfl) (fun K hK => ?b3) (by intro j hj; cases hj)))
      case b1 =>
        have cG1 := (hG1.new hN).cells
        go_simp
        refine hK.out _ _ (bX1.new hN) (fun hH => ?_)
        clear cG1
        simp only [Act.put, List.setIfInBounds_toArray, List.set_cons_zero, List.set_cons_succ]
        refine hw_call 3 (some 19) rfl rfl (by kernel_rfl) (by rfl) (fun K hK => ?_)
        go_simp
        refine (copyE _ _ _ (some x.q) (eSz (zs.drop x.t) - 8) x.cap _ _ (D0.new hN) lby (by intro h; cases h) hle8).mono ?_
        rintro e u1 ⟨a1, c1, rfl, ho1, hu1⟩
        have hN1 := hN.trans hu1
        refine hK.out _ _ (bX1.new hN1) (fun hH => ?_)
        simp only [Act.put, List.setIfInBounds_toArray, List.set_cons_zero, List.set_cons_succ]
        refine hw_call 4 (some 20) rfl rfl (by kernel_rfl) (by rfl) (fun K hK => ?_)
        go_simp
        refine hK.out _ _ (bX1.new (hN1.alloc _)) (fun hH => ?_)
        simp only [Act.put, List.setIfInBounds_toArray, List.set_cons_zero, List.set_cons_succ]
        refine hw_call 5 (some 21) rfl rfl (by kernel_rfl) (by rfl) (fun K hK => ?_)
        have bL := Blk.mk u1 u1.heap.size 40 #[.int .i64 (numAt (zs.drop x.t) 3 2), .int .i64 (zs[x.t + 5]?.getD 0), .int .i64 (zs[x.t + 6]?.getD 0), .slice a1 (eSz (zs.drop x.t) - 8) c1] rfl
        have cL := bL.cells
        have row2 := row9_new row1 (hN1.alloc (.cells #[.int .i64 (numAt (zs.drop x.t) 3 2), .int .i64 (zs[x.t + 5]?.getD 0), .int .i64 (zs[x.t + 6]?.getD 0), .slice a1 (eSz (zs.drop x.t) - 8) c1] 40))
        refine wp_apV _ (.tmp 17) (.tmp 20) rfl (w.heap.size + 2) 4 48 (.agg #[.int .i64 0, .int .i64 0, .int .i64 0, .slice none 0 0]) Try.underlying31 hi hzi0 hzi1 hzi2 rfl (by omega) (by omega) (.slice y V.length dd) V.length _ rfl row2 u1.heap.size [.int .i64 (numAt (zs.drop x.t) 3 2), .int .i64 (zs[x.t + 5]?.getD 0), .int .i64 (zs[x.t + 6]?.getD 0), .slice a1 (eSz (zs.drop x.t) - 8) c1] rfl (by simp [Value.oneCell']) rfl (by intro j u hu; rw [cL j, List.getElem?_toArray]; exact hu) (by omega) (by have := (hN1.alloc (.cells #[.int .i64 (numAt (zs.drop x.t) 3 2), .int .i64 (zs[x.t + 5]?.getD 0), .int .i64 (zs[x.t + 6]?.getD 0), .slice a1 (eSz (zs.drop x.t) - 8) c1] 40)).size; have := t01.size; omega) ?_
        intro v3 w3 hrow3 hgr3 hat3
        obtain ⟨y3, d3, rfl, hny3, hby3⟩ := row9_form hrow3
        have tt := turn_of_grown hgr3
        have hG3 := (hG1.new (hN1.alloc _)).turn tt nS1
        refine hK.out _ _ ((bX1.new (hN1.alloc _)).turn tt nSX) (fun hH => ?_)
        simp only [Act.put, List.setIfInBounds_toArray, List.set_cons_zero, List.set_cons_succ]
        refine' hw_take 6 (some 22) _ rfl rfl (by kernel_rfl) (by kernel_rfl) (by kernel_rfl) (fun _ _ _ h => h) (by rfl) hH ?hy4 ?rest4
        case hy4 =>
          intro X hX
          go_simp
          try rfl
        simp only [Act.put, List.setIfInBounds_toArray, List.set_cons_zero, List.set_cons_succ]
        refine hw_call 7 none rfl rfl (by kernel_rfl) (by rfl) (fun K hK => ?_)
        have cG3 := hG3.cells
        have fG3 := hG3.frees
        go_simp
        have ts : Turn (fun i => i = w.heap.size + 1) w3 (w3.setCell ⟨w.heap.size + 1, 2, none⟩ (.slice y3 (V.length + 1) d3)) := Turn.set (S := fun i => i = w.heap.size + 1) (Turn.refl _ _) rfl _
        refine hK.out undef _ (((bX1.new (hN1.alloc _)).turn tt nSX).turn ts (by omega)) (fun hH => ?_)
        refine wpAnyH_done (by kernel_rfl) ?_ _
        have nA := hN1.alloc (.cells #[.int .i64 (numAt (zs.drop x.t) 3 2), .int .i64 (zs[x.t + 5]?.getD 0), .int .i64 (zs[x.t + 6]?.getD 0), .slice a1 (eSz (zs.drop x.t) - 8) c1] 40)
        have tAll : Turn (fun i => i = w.heap.size + 1 ∨ (Value.slice y V.length dd).ownBlock = some i) W (w3.setCell ⟨w.heap.size + 1, 2, none⟩ (.slice y3 (V.length + 1) d3)) := Turn.trans (Turn.trans (Turn.trans (S := fun i => i = w.heap.size + 1 ∨ (Value.slice y V.length dd).ownBlock = some i) (t01.mono (fun _ _ h => .inl h)) (New.turn (S := fun _ => False) nA) (fun _ _ h => h.elim)) tt (fun _ _ h => .inr h)) ts (fun _ _ h => .inl h)
        have nBox : ¬ (Value.slice y V.length dd).ownBlock = some (w.heap.size + 2) := by
          intro e
          obtain ⟨cs, hcs⟩ := row_cells hrow e
          have := hbox.symm.trans hcs
          simp at this
        have hBel : Below w.heap.size W (w3.setCell ⟨w.heap.size + 1, 2, none⟩ (.slice y3 (V.length + 1) d3)) := ⟨tAll.os, tAll.tape, tAll.output, tAll.size, fun k hk => tAll.block k (by omega) (by rintro (e | e); omega; (have := (hby k e).1; omega))⟩
        have aG := nA.size
        refine ⟨⟨tAll.size, fun k o hB hk ho => ?_⟩, ⟨hBel, tAll.block _ (by omega) (by rintro (e | e); omega; exact nBox e)⟩, ?_⟩
        · refine (tAll.block k (Array.getElem?_eq_some_iff.1 hk).1 ?_).trans hk
          rintro (e | e)
          · omega
          · obtain ⟨cs, hcs⟩ := row_cells hrow e
            rw [hcs] at hk
            obtain rfl := Option.some.inj hk
            simp [Obj.isCells] at ho
        · refine ⟨hbox.turn tAll (by rintro (e | e); omega; exact nBox e), ⟨.slice y3 (V.length + 1) d3, V ++ [⟨x.t, a1, c1⟩], ?_, ?_, ?_, ?_⟩, hres.turn tAll (by rintro (e | e); omega; (have := (hby _ e).1; omega)), hbel.trans hBel⟩
          · rw [eEnd_snoc]
            exact hG3.set 2 _
          · rw [List.map_append, List.map_append, hV]; rfl
          · rw [List.flatMap_append, List.flatMap_cons, List.flatMap_nil, List.append_nil, List.length_append]
            exact row9_turn hrow3 ts (by intro k hk e; have := (hby3 k hk).1; omega)
          · have hnr : u1.ownsRow (w.heap.size + 2) 5 1 (.slice a1 (eSz (zs.drop x.t) - 8) c1) (eSz (zs.drop x.t) - 8) ((((zs.drop x.t).drop 8).take (eSz (zs.drop x.t) - 8)).map (Value.int .u8)) := by
              have := ho1
              unfold OvB at this
              rw [lby] at this
              exact row9_low this (by show w.heap.size + 2 ≤ W1.heap.size; omega)
            have hlo : ∀ k, (Value.slice a1 (eSz (zs.drop x.t) - 8) c1).ownBlock = some k → W1.heap.size ≤ k := fun k hk => ho1.blk k hk
            have hn2 := row9_new hnr ((New.refl u1).alloc (.cells #[.int .i64 (numAt (zs.drop x.t) 3 2), .int .i64 (zs[x.t + 5]?.getD 0), .int .i64 (zs[x.t + 6]?.getD 0), .slice a1 (eSz (zs.drop x.t) - 8) c1] 40))
            have hn3 := row9_turn (row9_turn hn2 tt (fun k hk e => row_ne_row row2 hn2 (by decide) k e hk)) ts (by intro k hk e; have := hlo k hk; omega)
            refine (hown.turn tAll (by rintro z hz k hk (e | e); (obtain ⟨_, _, _, _, hb⟩ := row9_form (hown.own z hz); have := (hb k hk).1; omega); exact row_ne_row hrow (hown.own z hz) (by decide) k e hk)).snoc ⟨x.t, a1, c1⟩ hn3 ?_
            intro z hz k hk hk'
            obtain ⟨_, _, _, _, hb⟩ := row9_form (hown.own z hz)
            have := (hb k hk).2
            have := hlo k hk'
            omega
      case b3 =>
        go_simp
        refine (copyE _ _ _ (some x.q) (eSz (zs.drop x.t) - 8) x.cap _ _ (D0.new hN) lby (by intro h; cases h) hle8).mono ?_
        rintro e u1 ⟨a1, c1, rfl, ho1, hu1⟩
        have hN1 := hN.trans hu1
        refine hK.out _ _ (bX1.new hN1) (fun hH => ?_)
        simp only [Act.put, List.setIfInBounds_toArray, List.set_cons_zero, List.set_cons_succ]
        refine wpAnyH_ready (rs := [1, 4]) (by kernel_rfl) (by simp) (hw_step 1 (some 17) rfl rfl (by rfl) (fun K hK => ?c1) (hw_step 4 (some 20) rfl rfl (by rfl) (fun K hK => ?c4) (by intro j hj; cases hj)))
        case c1 =>
          have cG1 := (hG1.new hN1).cells
          go_simp
          refine hK.out _ _ (bX1.new hN1) (fun hH => ?_)
          clear cG1
          simp only [Act.put, List.setIfInBounds_toArray, List.set_cons_zero, List.set_cons_succ]
          refine hw_call 4 (some 20) rfl rfl (by kernel_rfl) (by rfl) (fun K hK => ?_)
          go_simp
          refine hK.out _ _ (bX1.new (hN1.alloc _)) (fun hH => ?_)
          simp only [Act.put, List.setIfInBounds_toArray, List.set_cons_zero, List.set_cons_succ]
          refine hw_call 5 (some 21) rfl rfl (by kernel_rfl) (by rfl) (fun K hK => ?_)
          have bL := Blk.mk u1 u1.heap.size 40 #[.int .i64 (numAt (zs.drop x.t) 3 2), .int .i64 (zs[x.t + 5]?.getD 0), .int .i64 (zs[x.t + 6]?.getD 0), .slice a1 (eSz (zs.drop x.t) - 8) c1] rfl
          have cL := bL.cells
          have row2 := row9_new row1 (hN1.alloc (.cells #[.int .i64 (numAt (zs.drop x.t) 3 2), .int .i64 (zs[x.t + 5]?.getD 0), .int .i64 (zs[x.t + 6]?.getD 0), .slice a1 (eSz (zs.drop x.t) - 8) c1] 40))
          refine wp_apV _ (.tmp 17) (.tmp 20) rfl (w.heap.size + 2) 4 48 (.agg #[.int .i64 0, .int .i64 0, .int .i64 0, .slice none 0 0]) Try.underlying31 hi hzi0 hzi1 hzi2 rfl (by omega) (by omega) (.slice y V.length dd) V.length _ rfl row2 u1.heap.size [.int .i64 (numAt (zs.drop x.t) 3 2), .int .i64 (zs[x.t + 5]?.getD 0), .int .i64 (zs[x.t + 6]?.getD 0), .slice a1 (eSz (zs.drop x.t) - 8) c1] rfl (by simp [Value.oneCell']) rfl (by intro j u hu; rw [cL j, List.getElem?_toArray]; exact hu) (by omega) (by have := (hN1.alloc (.cells #[.int .i64 (numAt (zs.drop x.t) 3 2), .int .i64 (zs[x.t + 5]?.getD 0), .int .i64 (zs[x.t + 6]?.getD 0), .slice a1 (eSz (zs.drop x.t) - 8) c1] 40)).size; have := t01.size; omega) ?_
          intro v3 w3 hrow3 hgr3 hat3
          obtain ⟨y3, d3, rfl, hny3, hby3⟩ := row9_form hrow3
          have tt := turn_of_grown hgr3
          have hG3 := (hG1.new (hN1.alloc _)).turn tt nS1
          refine hK.out _ _ ((bX1.new (hN1.alloc _)).turn tt nSX) (fun hH => ?_)
          simp only [Act.put, List.setIfInBounds_toArray, List.set_cons_zero, List.set_cons_succ]
          refine' hw_take 6 (some 22) _ rfl rfl (by kernel_rfl) (by kernel_rfl) (by kernel_rfl) (fun _ _ _ h => h) (by rfl) hH ?hy5 ?rest5
          case hy5 =>
            intro X hX
            go_simp
            try rfl
          simp only [Act.put, List.setIfInBounds_toArray, List.set_cons_zero, List.set_cons_succ]
          refine hw_call 7 none rfl rfl (by kernel_rfl) (by rfl) (fun K hK => ?_)
          have cG3 := hG3.cells
          have fG3 := hG3.frees
          go_simp
          have ts : Turn (fun i => i = w.heap.size + 1) w3 (w3.setCell ⟨w.heap.size + 1, 2, none⟩ (.slice y3 (V.length + 1) d3)) := Turn.set (S := fun i => i = w.heap.size + 1) (Turn.refl _ _) rfl _
          refine hK.out undef _ (((bX1.new (hN1.alloc _)).turn tt nSX).turn ts (by omega)) (fun hH => ?_)
          refine wpAnyH_done (by kernel_rfl) ?_ _
          have nA := hN1.alloc (.cells #[.int .i64 (numAt (zs.drop x.t) 3 2), .int .i64 (zs[x.t + 5]?.getD 0), .int .i64 (zs[x.t + 6]?.getD 0), .slice a1 (eSz (zs.drop x.t) - 8) c1] 40)
          have tAll : Turn (fun i => i = w.heap.size + 1 ∨ (Value.slice y V.length dd).ownBlock = some i) W (w3.setCell ⟨w.heap.size + 1, 2, none⟩ (.slice y3 (V.length + 1) d3)) := Turn.trans (Turn.trans (Turn.trans (S := fun i => i = w.heap.size + 1 ∨ (Value.slice y V.length dd).ownBlock = some i) (t01.mono (fun _ _ h => .inl h)) (New.turn (S := fun _ => False) nA) (fun _ _ h => h.elim)) tt (fun _ _ h => .inr h)) ts (fun _ _ h => .inl h)
          have nBox : ¬ (Value.slice y V.length dd).ownBlock = some (w.heap.size + 2) := by
            intro e
            obtain ⟨cs, hcs⟩ := row_cells hrow e
            have := hbox.symm.trans hcs
            simp at this
          have hBel : Below w.heap.size W (w3.setCell ⟨w.heap.size + 1, 2, none⟩ (.slice y3 (V.length + 1) d3)) := ⟨tAll.os, tAll.tape, tAll.output, tAll.size, fun k hk => tAll.block k (by omega) (by rintro (e | e); omega; (have := (hby k e).1; omega))⟩
          have aG := nA.size
          refine ⟨⟨tAll.size, fun k o hB hk ho => ?_⟩, ⟨hBel, tAll.block _ (by omega) (by rintro (e | e); omega; exact nBox e)⟩, ?_⟩
          · refine (tAll.block k (Array.getElem?_eq_some_iff.1 hk).1 ?_).trans hk
            rintro (e | e)
            · omega
            · obtain ⟨cs, hcs⟩ := row_cells hrow e
              rw [hcs] at hk
              obtain rfl := Option.some.inj hk
              simp [Obj.isCells] at ho
          · refine ⟨hbox.turn tAll (by rintro (e | e); omega; exact nBox e), ⟨.slice y3 (V.length + 1) d3, V ++ [⟨x.t, a1, c1⟩], ?_, ?_, ?_, ?_⟩, hres.turn tAll (by rintro (e | e); omega; (have := (hby _ e).1; omega)), hbel.trans hBel⟩
            · rw [eEnd_snoc]
              exact hG3.set 2 _
            · rw [List.map_append, List.map_append, hV]; rfl
            · rw [List.flatMap_append, List.flatMap_cons, List.flatMap_nil, List.append_nil, List.length_append]
              exact row9_turn hrow3 ts (by intro k hk e; have := (hby3 k hk).1; omega)
            · have hnr : u1.ownsRow (w.heap.size + 2) 5 1 (.slice a1 (eSz (zs.drop x.t) - 8) c1) (eSz (zs.drop x.t) - 8) ((((zs.drop x.t).drop 8).take (eSz (zs.drop x.t) - 8)).map (Value.int .u8)) := by
                have := ho1
                unfold OvB at this
                rw [lby] at this
                exact row9_low this (by show w.heap.size + 2 ≤ W1.heap.size; omega)
              have hlo : ∀ k, (Value.slice a1 (eSz (zs.drop x.t) - 8) c1).ownBlock = some k → W1.heap.size ≤ k := fun k hk => ho1.blk k hk
              have hn2 := row9_new hnr ((New.refl u1).alloc (.cells #[.int .i64 (numAt (zs.drop x.t) 3 2), .int .i64 (zs[x.t + 5]?.getD 0), .int .i64 (zs[x.t + 6]?.getD 0), .slice a1 (eSz (zs.drop x.t) - 8) c1] 40))
              have hn3 := row9_turn (row9_turn hn2 tt (fun k hk e => row_ne_row row2 hn2 (by decide) k e hk)) ts (by intro k hk e; have := hlo k hk; omega)
              refine (hown.turn tAll (by rintro z hz k hk (e | e); (obtain ⟨_, _, _, _, hb⟩ := row9_form (hown.own z hz); have := (hb k hk).1; omega); exact row_ne_row hrow (hown.own z hz) (by decide) k e hk)).snoc ⟨x.t, a1, c1⟩ hn3 ?_
              intro z hz k hk hk'
              obtain ⟨_, _, _, _, hb⟩ := row9_form (hown.own z hz)
              have := (hb k hk).2
              have := hlo k hk'
              omega
        case c4 =>
          go_simp
          refine hK.out _ _ (bX1.new (hN1.alloc _)) (fun hH => ?_)
          simp only [Act.put, List.setIfInBounds_toArray, List.set_cons_zero, List.set_cons_succ]
          refine hw_call 1 (some 17) rfl rfl (by kernel_rfl) (by rfl) (fun K hK => ?_)
          have cG1 := (hG1.new (hN1.alloc (.cells #[.int .i64 (numAt (zs.drop x.t) 3 2), .int .i64 (zs[x.t + 5]?.getD 0), .int .i64 (zs[x.t + 6]?.getD 0), .slice a1 (eSz (zs.drop x.t) - 8) c1] 40))).cells
          go_simp
          refine hK.out _ _ (bX1.new (hN1.alloc (.cells #[.int .i64 (numAt (zs.drop x.t) 3 2), .int .i64 (zs[x.t + 5]?.getD 0), .int .i64 (zs[x.t + 6]?.getD 0), .slice a1 (eSz (zs.drop x.t) - 8) c1] 40))) (fun hH => ?_)
          clear cG1
          simp only [Act.put, List.setIfInBounds_toArray, List.set_cons_zero, List.set_cons_succ]
          refine hw_call 5 (some 21) rfl rfl (by kernel_rfl) (by rfl) (fun K hK => ?_)
          have bL := Blk.mk u1 u1.heap.size 40 #[.int .i64 (numAt (zs.drop x.t) 3 2), .int .i64 (zs[x.t + 5]?.getD 0), .int .i64 (zs[x.t + 6]?.getD 0), .slice a1 (eSz (zs.drop x.t) - 8) c1] rfl
          have cL := bL.cells
          have row2 := row9_new row1 (hN1.alloc (.cells #[.int .i64 (numAt (zs.drop x.t) 3 2), .int .i64 (zs[x.t + 5]?.getD 0), .int .i64 (zs[x.t + 6]?.getD 0), .slice a1 (eSz (zs.drop x.t) - 8) c1] 40))
          refine wp_apV _ (.tmp 17) (.tmp 20) rfl (w.heap.size + 2) 4 48 (.agg #[.int .i64 0, .int .i64 0, .int .i64 0, .slice none 0 0]) Try.underlying31 hi hzi0 hzi1 hzi2 rfl (by omega) (by omega) (.slice y V.length dd) V.length _ rfl row2 u1.heap.size [.int .i64 (numAt (zs.drop x.t) 3 2), .int .i64 (zs[x.t + 5]?.getD 0), .int .i64 (zs[x.t + 6]?.getD 0), .slice a1 (eSz (zs.drop x.t) - 8) c1] rfl (by simp [Value.oneCell']) rfl (by intro j u hu; rw [cL j, List.getElem?_toArray]; exact hu) (by omega) (by have := (hN1.alloc (.cells #[.int .i64 (numAt (zs.drop x.t) 3 2), .int .i64 (zs[x.t + 5]?.getD 0), .int .i64 (zs[x.t + 6]?.getD 0), .slice a1 (eSz (zs.drop x.t) - 8) c1] 40)).size; have := t01.size; omega) ?_
          intro v3 w3 hrow3 hgr3 hat3
          obtain ⟨y3, d3, rfl, hny3, hby3⟩ := row9_form hrow3
          have tt := turn_of_grown hgr3
          have hG3 := (hG1.new (hN1.alloc _)).turn tt nS1
          refine hK.out _ _ ((bX1.new (hN1.alloc _)).turn tt nSX) (fun hH => ?_)
          simp only [Act.put, List.setIfInBounds_toArray, List.set_cons_zero, List.set_cons_succ]
          refine' hw_take 6 (some 22) _ rfl rfl (by kernel_rfl) (by kernel_rfl) (by kernel_rfl) (fun _ _ _ h => h) (by rfl) hH ?hy6 ?rest6
          case hy6 =>
            intro X hX
            go_simp
            try rfl
          simp only [Act.put, List.setIfInBounds_toArray, List.set_cons_zero, List.set_cons_succ]
          refine hw_call 7 none rfl rfl (by kernel_rfl) (by rfl) (fun K hK => ?_)
          have cG3 := hG3.cells
          have fG3 := hG3.frees
          go_simp
          have ts : Turn (fun i => i = w.heap.size + 1) w3 (w3.setCell ⟨w.heap.size + 1, 2, none⟩ (.slice y3 (V.length + 1) d3)) := Turn.set (S := fun i => i = w.heap.size + 1) (Turn.refl _ _) rfl _
          refine hK.out undef _ (((bX1.new (hN1.alloc _)).turn tt nSX).turn ts (by omega)) (fun hH => ?_)
          refine wpAnyH_done (by kernel_rfl) ?_ _
          have nA := hN1.alloc (.cells #[.int .i64 (numAt (zs.drop x.t) 3 2), .int .i64 (zs[x.t + 5]?.getD 0), .int .i64 (zs[x.t + 6]?.getD 0), .slice a1 (eSz (zs.drop x.t) - 8) c1] 40)
          have tAll : Turn (fun i => i = w.heap.size + 1 ∨ (Value.slice y V.length dd).ownBlock = some i) W (w3.setCell ⟨w.heap.size + 1, 2, none⟩ (.slice y3 (V.length + 1) d3)) := Turn.trans (Turn.trans (Turn.trans (S := fun i => i = w.heap.size + 1 ∨ (Value.slice y V.length dd).ownBlock = some i) (t01.mono (fun _ _ h => .inl h)) (New.turn (S := fun _ => False) nA) (fun _ _ h => h.elim)) tt (fun _ _ h => .inr h)) ts (fun _ _ h => .inl h)
          have nBox : ¬ (Value.slice y V.length dd).ownBlock = some (w.heap.size + 2) := by
            intro e
            obtain ⟨cs, hcs⟩ := row_cells hrow e
            have := hbox.symm.trans hcs
            simp at this
          have hBel : Below w.heap.size W (w3.setCell ⟨w.heap.size + 1, 2, none⟩ (.slice y3 (V.length + 1) d3)) := ⟨tAll.os, tAll.tape, tAll.output, tAll.size, fun k hk => tAll.block k (by omega) (by rintro (e | e); omega; (have := (hby k e).1; omega))⟩
          have aG := nA.size
          refine ⟨⟨tAll.size, fun k o hB hk ho => ?_⟩, ⟨hBel, tAll.block _ (by omega) (by rintro (e | e); omega; exact nBox e)⟩, ?_⟩
          · refine (tAll.block k (Array.getElem?_eq_some_iff.1 hk).1 ?_).trans hk
            rintro (e | e)
            · omega
            · obtain ⟨cs, hcs⟩ := row_cells hrow e
              rw [hcs] at hk
              obtain rfl := Option.some.inj hk
              simp [Obj.isCells] at ho
          · refine ⟨hbox.turn tAll (by rintro (e | e); omega; exact nBox e), ⟨.slice y3 (V.length + 1) d3, V ++ [⟨x.t, a1, c1⟩], ?_, ?_, ?_, ?_⟩, hres.turn tAll (by rintro (e | e); omega; (have := (hby _ e).1; omega)), hbel.trans hBel⟩
            · rw [eEnd_snoc]
              exact hG3.set 2 _
            · rw [List.map_append, List.map_append, hV]; rfl
            · rw [List.flatMap_append, List.flatMap_cons, List.flatMap_nil, List.append_nil, List.length_append]
              exact row9_turn hrow3 ts (by intro k hk e; have := (hby3 k hk).1; omega)
            · have hnr : u1.ownsRow (w.heap.size + 2) 5 1 (.slice a1 (eSz (zs.drop x.t) - 8) c1) (eSz (zs.drop x.t) - 8) ((((zs.drop x.t).drop 8).take (eSz (zs.drop x.t) - 8)).map (Value.int .u8)) := by
                have := ho1
                unfold OvB at this
                rw [lby] at this
                exact row9_low this (by show w.heap.size + 2 ≤ W1.heap.size; omega)
              have hlo : ∀ k, (Value.slice a1 (eSz (zs.drop x.t) - 8) c1).ownBlock = some k → W1.heap.size ≤ k := fun k hk => ho1.blk k hk
              have hn2 := row9_new hnr ((New.refl u1).alloc (.cells #[.int .i64 (numAt (zs.drop x.t) 3 2), .int .i64 (zs[x.t + 5]?.getD 0), .int .i64 (zs[x.t + 6]?.getD 0), .slice a1 (eSz (zs.drop x.t) - 8) c1] 40))
              have hn3 := row9_turn (row9_turn hn2 tt (fun k hk e => row_ne_row row2 hn2 (by decide) k e hk)) ts (by intro k hk e; have := hlo k hk; omega)
              refine (hown.turn tAll (by rintro z hz k hk (e | e); (obtain ⟨_, _, _, _, hb⟩ := row9_form (hown.own z hz); have := (hb k hk).1; omega); exact row_ne_row hrow (hown.own z hz) (by decide) k e hk)).snoc ⟨x.t, a1, c1⟩ hn3 ?_
              intro z hz k hk hk'
              obtain ⟨_, _, _, _, hb⟩ := row9_form (hown.own z hz)
              have := (hb k hk).2
              have := hlo k hk'
              omega
    case done =>
      rintro D ts W hD ⟨t, hcm, h0⟩ hI hK
      obtain ⟨hbox, ⟨v, V, hG, hV, hrow, hown⟩, hres, hbel⟩ := hI
      obtain ⟨y, dd, rfl, hny, hby⟩ := row9_form hrow
      rw [come_end hcm] at hG
      have hall := hcm.all h0
      have cG := hG.cells
      have cR := hres.cells
      have fR := hres.frees
      have lD : D < W.heap.size := (Array.getElem?_eq_some_iff.1 hK).1
      have lb := hbox.lt
      gi_wp2
      have t3 : Turn (fun i => i = w.heap.size) W (((W.setCell ⟨w.heap.size, 0, none⟩ (.int .i64 0)).setCell ⟨w.heap.size, 1, none⟩ (.int .i64 (t : Int))).setCell ⟨w.heap.size, 2, none⟩ (.slice y V.length dd)) := Turn.set (S := fun i => i = w.heap.size) (Turn.set (S := fun i => i = w.heap.size) (Turn.set (S := fun i => i = w.heap.size) (Turn.refl _ _) rfl _) rfl _) rfl _
      have hK3 := (t3.block D lD (by omega)).trans hK
      have b1 : Blk (W.setCell ⟨w.heap.size, 0, none⟩ (.int .i64 0)) w.heap.size 33 #[.int .i64 0, .int .i64 0, .slice none 0 0] := hres.set 0 _
      have b2 : Blk _ w.heap.size 33 #[.int .i64 0, .int .i64 (t : Int), .slice none 0 0] := b1.set 1 (.int .i64 (t : Int))
      have b3 : Blk _ w.heap.size 33 #[.int .i64 0, .int .i64 (t : Int), .slice y V.length dd] := b2.set 2 (.slice y V.length dd)
      generalize ((W.setCell ⟨w.heap.size, 0, none⟩ (.int .i64 0)).setCell ⟨w.heap.size, 1, none⟩ (.int .i64 (t : Int))).setCell ⟨w.heap.size, 2, none⟩ (.slice y V.length dd) = W3 at *
      have tp := turn_of_grown (grownBy_putObj' W3 D (.deferred none))
      have b4 := b3.turn tp (by intro e; have := Option.some.inj e; omega)
      have cF := b4.cells
      have tF : Turn (fun i => i = w.heap.size ∨ i = D) W (W3.putObj D (.deferred none)) := Turn.trans (t3.mono (fun _ _ h => .inl h)) tp (fun _ _ h => .inr (Option.some.inj h).symm)
      refine ⟨by simp, .inl ⟨_, _, rfl, run_takeDeferred hK3, ?_⟩⟩
      refine ⟨.agg #[.int .i64 0, .int .i64 (t : Int), .slice y V.length dd], by simp [results, Try.results11, go_sem, cF], ?_⟩
      show ReAns w zs _ _
      unfold ReAns
      rw [hn, if_neg HB.out, hall.2]
      have hnD : ∀ k cs e f, W.heap[k]? = some (.cells cs e f) → ¬ k = D := by
        rintro k cs e f hk rfl
        rw [hK] at hk
        cases hk
      refine ⟨y, V.length, dd, V, rfl, rfl, ⟨?_, ?_, ?_, ?_⟩, hV.trans hall.1⟩
      · rw [hV]; exact hcm
      · exact row9_low (row9_turn hrow tF (by rintro k hk (e | e); (have := (hby k hk).1; omega); (obtain ⟨cs, hc'⟩ := row_cells hrow hk; exact hnD _ _ _ _ hc' e))) (by omega)
      · exact (hown.turn tF (by rintro z hz k hk (e | e); (obtain ⟨_, _, _, _, hb'⟩ := row9_form (hown.own z hz); have := (hb' k hk).1; omega); (obtain ⟨cs, hc'⟩ := row_cells (hown.own z hz) hk; exact hnD _ _ _ _ hc' e))).low (by omega)
      · exact New.of_below (hbel.trans ⟨tF.os, tF.tape, tF.output, tF.size, fun k hk => tF.block k (by have := hbel.size; omega) (by rintro (e | e) <;> omega)⟩) (Nat.le_refl _)
    case stop =>
      rintro D c pre W _ _ h _
      exact h.elim

end Go.Proofs.Ytcpamjklljmipaa
