/- What is proved here: what the model's putting of a prefix into its place answers, for every list of at most 1048576 prefixes that the call owns. -/
import Derived.Test.YtgjdjafldogecaaOrSpec
import Derived.Deep.RegionLaw
import Derived.Deep.AppendLies
namespace Go.Proofs.Ytgjdjafldogecaa
open Go.RowKit Go.Sort Go.Shelf
set_option linter.unusedVariables false

theorem l2Ahead_is (a b c d : Int) (t : Bool) (w : World) (h : decide (Lt (a, b) (c, d)) = t) : Calls Try.prog 76 #[.agg #[.int .i64 a, .int .i64 b], .agg #[.int .i64 c, .int .i64 d]] w fun e w' => e = .returned (.bool t) ∧ New w w' := h ▸ l2Ahead_any (a, b) (c, d) w

theorem OwP.at {w : World} {g m c : Nat} {L : List (Int × Int)} (h : OwP w g m c L) {k : Nat} {q : Int × Int} (hq : L[k]? = some q) : w.cell? ⟨g, k * 2, none⟩ = some (.int .i64 q.1) ∧ w.cell? ⟨g, k * 2 + 1, none⟩ = some (.int .i64 q.2) := by
  obtain ⟨e0, e1⟩ := cellsP_get L k q hq
  have hk : k < L.length := (List.getElem?_eq_some_iff.1 hq).1
  have hl := h.len
  exact ⟨(World.ownsRow.cellAt h (k * 2) (by omega)).trans e0, (World.ownsRow.cellAt h (k * 2 + 1) (by omega)).trans e1⟩

theorem cellsP_one (L : List (Int × Int)) : ∀ u ∈ cellsP L, u.oneCell' = true := by
  intro u hu
  simp only [cellsP, List.mem_flatMap] at hu
  obtain ⟨p, _, hp⟩ := hu
  simp at hp
  rcases hp with rfl | rfl <;> rfl

section
variable {P : Program} {t e : TypeId} {i : TypeInfo}
/-- Appending prefixes onto a row that the call owns and that is not nil, in a region that draws its order. -/
theorem step_apP (w : World) {ops : Array Oper} {o : Oper} {a : Act} {K : Act → World → Prop} {Q : Exit → Act → World → Prop} {E : Prop} (hgd : o.guard = none) (s x : Operand)
    (ho : o.op = .call { callee := .builtin .append, args := #[s, x], argTypes := #[t, t] }) (base : Nat) (ht : P.underlying t = some (.slice e)) (hi : P.info? e = some i) (hz : i.zero = some (.agg #[.int .i64 0, .int .i64 0])) (hs : i.size = 2) (hb : i.bytes = 16)
    (g0 n c0 : Nat) (xs : List (Int × Int)) (hsv : a.eval s = .slice (some ⟨g0, 0, none⟩) n c0) (hown : w.ownsRow base e 2 (.slice (some ⟨g0, 0, none⟩) n c0) n (cellsP xs))
    (ao : Option Addr) (m c : Nat) (zs : List (Int × Int)) (hxv : a.eval x = .slice ao m c) (hm : zs.length = m) (hnone : ao = none → m = 0 ∧ c = 0) (hnews : ∀ ad, ao = some ad → ∀ j u, (cellsP zs)[j]? = some u → w.cell? (ad.add j) = some u)
    (hle : n + m ≤ 4194304) (hbase : base ≤ w.heap.size)
    (h : ∀ g cap w', w'.ownsRow base e 2 (.slice (some ⟨g, 0, none⟩) (n + m) cap) (n + m) (cellsP (xs ++ zs)) → w.grownBy w' (some g0) → K (a.put o.dst (.slice (some ⟨g, 0, none⟩) (n + m) cap)) w') :
    if Region.wanted o (yielded ops a.tmps) = true then Oper.wp P o a w K Q else E := by
  have hw : Region.wanted o (yielded ops a.tmps) = true := by simp [Region.wanted, hgd]
  rw [if_pos hw]
  cases ao with
  | none =>
    obtain ⟨rfl, rfl⟩ := hnone rfl
    obtain rfl : zs = [] := List.eq_nil_of_length_eq_zero hm
    have hr := run_append_owned_none (P := P) w base t o.type e i 2 ht hi (.slice (some ⟨g0, 0, none⟩) n c0) n _ hown
    unfold Oper.wp execOp
    simp only [ho, resolve, invoke, builtin, Sem.run_bind, Sem.run_pure, Result.andThen_ok, List.map_toArray, List.map_cons, List.map_nil, hsv, hxv, hr]
    exact h g0 c0 w (by simpa using hown) (World.grownBy.refl _ _)
  | some ad =>
    obtain ⟨v', w', hr, h2, h3, h4, h5⟩ := run_append_own_at (P := P) w base t o.type e i (.agg #[.int .i64 0, .int .i64 0]) 2 16 ht hi hz hs hb rfl (by decide) (.slice (some ⟨g0, 0, none⟩) n c0) n _ hown ad m c (cellsP zs) (by rw [cellsP_len, hm]) (hnews ad rfl) (cellsP_one zs) (by unfold maxLen; omega) (by omega) hbase
    rw [← cellsP_append] at h2
    rcases h2.2 with ⟨hv, _⟩ | ⟨g, cap, cur, hv, _⟩
    · have := h4.1 hv
      simp at this
    · subst hv
      unfold Oper.wp execOp
      simp only [ho, resolve, invoke, builtin, Sem.run_bind, Sem.run_pure, Result.andThen_ok, List.map_toArray, List.map_cons, List.map_nil, hsv, hxv, hr]
      exact h g cap w' h2 h3
end

theorem heapA (w : World) (o : Obj) : (w.alloc o).drew.heap[w.heap.size]? = some o := heap_alloc_new w o
theorem heapB (w : World) (o o' : Obj) : ((w.alloc o).alloc o').drew.heap[w.heap.size]? = some o := (((New.refl (w.alloc o)).alloc o').block _ (by simp) (fun f => f)).trans (heap_alloc_new w o)
theorem heapC (w : World) (o o' : Obj) : ((w.alloc o).alloc o').drew.heap[w.heap.size + 1]? = some o' := by
  have h := heap_alloc_new (w.alloc o) o'
  rw [show (w.alloc o).heap.size = w.heap.size + 1 by simp] at h
  exact h
theorem new_ap {v W w3 : World} {g0 : Nat} (hW : New v W) (hg : W.grownBy w3 (some g0)) (h0 : v.heap.size ≤ g0) : New v w3 := hW.before (Turn.of_grown hg) (fun i hi e => by omega)

/-- A row that is laid empty. -/
theorem lit_own {W : World} {base g0 : Nat} (h : W.heap[g0]? = some (.cells #[] 81 (0, 0))) (hb : base ≤ g0) : W.ownsRow base 81 2 (.slice (some ⟨g0, 0, none⟩) 0 0) 0 (cellsP []) :=
  ⟨rfl, .inr ⟨g0, 0, #[], rfl, hb, h, Nat.le_refl _, by decide, rfl, rfl⟩⟩
theorem lit_src {W : World} {b : Nat} {x y : Int} {fr : Nat × Nat} (h : W.heap[b]? = some (.cells #[.int .i64 x, .int .i64 y] 81 fr)) : ∀ ad, some (⟨b, 0, none⟩ : Addr) = some ad → ∀ j u, (cellsP [(x, y)])[j]? = some u → W.cell? (ad.add j) = some u := by
  intro ad e j u hj
  obtain rfl := Option.some.inj e
  rw [Addr.add_lit, Nat.zero_add, cell_of_row W b j _ _ _ h, ← Array.getElem?_toList]
  exact hj
/-- A part of a row as the source. -/
theorem row_src {W : World} {g m c : Nat} {L zs : List (Int × Int)} (h : OwP W g m c L) (o : Nat) (hz : ∀ j u, (cellsP zs)[j]? = some u → (cellsP L)[o * 2 + j]? = some u) (hl : zs.length = 0 ∨ o + zs.length ≤ m) : ∀ ad, some (⟨g, o * 2, none⟩ : Addr) = some ad → ∀ j u, (cellsP zs)[j]? = some u → W.cell? (ad.add j) = some u := by
  intro ad e j u hj
  obtain rfl := Option.some.inj e
  have hjl : j < (cellsP zs).length := (List.getElem?_eq_some_iff.1 hj).1
  rw [cellsP_len] at hjl
  rw [Addr.add_lit]
  exact (World.ownsRow.cellAt h (o * 2 + j) (by omega)).trans (hz j u hj)
theorem cells_take (L : List (Int × Int)) (k : Nat) : cellsP (L.take k) = (cellsP L).take (k * 2) := by
  induction L generalizing k with
  | nil => simp [cellsP]
  | cons q L ih =>
    cases k with
    | zero => simp [cellsP]
    | succ k => rw [List.take_succ_cons, cellsP_cons, cellsP_cons, ih, show (k + 1) * 2 = k * 2 + 1 + 1 by omega, List.take_succ_cons, List.take_succ_cons]
theorem cells_drop (L : List (Int × Int)) (k : Nat) : cellsP (L.drop k) = (cellsP L).drop (k * 2) := by
  induction L generalizing k with
  | nil => simp [cellsP]
  | cons q L ih =>
    cases k with
    | zero => simp [cellsP]
    | succ k => rw [List.drop_succ_cons, cellsP_cons, ih, show (k + 1) * 2 = k * 2 + 1 + 1 by omega, List.drop_succ_cons, List.drop_succ_cons]
theorem take_src (L : List (Int × Int)) (k : Nat) : ∀ j u, (cellsP (L.take k))[j]? = some u → (cellsP L)[0 * 2 + j]? = some u := by
  intro j u h
  rw [cells_take] at h
  have hj : j < k * 2 := by
    rcases Nat.lt_or_ge j (k * 2) with h' | h'
    · exact h'
    · rw [List.getElem?_take_eq_none h'] at h; cases h
  rw [List.getElem?_take_of_lt hj] at h
  rw [Nat.zero_mul, Nat.zero_add]
  exact h
theorem drop_src (L : List (Int × Int)) (k : Nat) : ∀ j u, (cellsP (L.drop k))[j]? = some u → (cellsP L)[k * 2 + j]? = some u := by
  intro j u h
  rw [cells_drop, List.getElem?_drop] at h
  exact h

set_option maxRecDepth 100000 in
set_option maxHeartbeats 3200000 in
theorem l2Put_row (lo g m c : Nat) (L : List (Int × Int)) (x y : Int) (w : World) (h : OwP w g m c L) (hg : lo ≤ g) (hlo : lo ≤ w.heap.size) (hm : m ≤ 1048576) :
    Calls Try.prog 64 #[.slice (some ⟨g, 0, none⟩) m c, .agg #[.int .i64 x, .int .i64 y]] w fun e w' => ∃ v, e = .returned v ∧ OwL w' lo v (putP L (x, y)) ∧ New w w' := by
  have hw := (New.refl w).alloc (.cells #[.int .i64 x, .int .i64 y] 81)
  have hB : Blk (w.alloc (.cells #[.int .i64 x, .int .i64 y] 81)) w.heap.size 81 #[.int .i64 x, .int .i64 y] := Blk.mk _ _ _ _ rfl
  have HL : Hid (L.length = m) := h.len
  obtain ⟨cur, hb, hmc, hcm, -, -⟩ := h.block
  clear hb cur
  obtain ⟨iP, hi, hz0, hz1, hz2⟩ := info_parts Try.infoPx
  go_enter Try.func64, Try.ntmps64
  go_wp2_with fail
  go_loopw [5] (fun i wr => ∃ k : Nat, k ≤ m ∧ i = .int .i64 k ∧ New w wr ∧ OwP wr g m c L ∧ Blk wr w.heap.size 81 #[.int .i64 x, .int .i64 y] ∧ ∀ j q, j < k → L[j]? = some q → Lt q (x, y)) (fun i _ => m - (intOf i).toNat)
  case atStart => exact ⟨0, Nat.zero_le _, rfl, hw, h.new hw, hB, fun j q hj => by omega⟩
  case round =>
    obtain ⟨k, hk, rfl, hnw, hor, hBr, hall⟩ := hrel
    have Y := blk_regrown hBr
    by_cases hlt : k < m
    · obtain ⟨⟨a, b⟩, hq⟩ : ∃ q, L[k]? = some q := ⟨_, List.getElem?_eq_getElem (by rw [HL.out]; exact hlt)⟩
      obtain ⟨x0, x1⟩ := hor.at hq
      simp only at x0 x1
      have X0 := cell_regrown x0
      have X1 := cell_regrown x1
      by_cases hl : Lt (a, b) (x, y)
      · have hd : decide (Lt (a, b) (x, y)) = true := by simp [hl]
        have HA : Hid (∀ j q, j < k + 1 → L[j]? = some q → Lt q (x, y)) := by
          intro j q hj e
          rcases Nat.lt_or_ge j k with h' | h'
          · exact hall j q h' e
          · obtain rfl : j = k := by omega
            rw [hq] at e
            obtain rfl := Option.some.inj e
            exact hl
        clear hall hq
        go_wp2_with fail
        refine wp_region_quiet_below (by kernel_rfl) (by kernel_rfl) ?_
        repeat (go_big_quiet_step ((go_at_call 76; exact calls_regrown (l2Ahead_is a b x y _ _ hd))))
        refine wpQuiet_nil ?_
        rintro w4 hn4
        replace hn4 := new_of_regrown hn4
        go_wp2
        go_roundw
        case rel => exact ⟨k + 1, by omega, by go_num, hnw.trans hn4, hor.new hn4, hBr.new hn4, HA.out⟩
        case measure => simp [intOf]; omega
      · have hd : decide (Lt (a, b) (x, y)) = false := by simp [hl]
        have HAt : Hid (atP (x, y) L = k) := atP_is (by rw [HL.out]; exact hk) hall (fun q e => by rw [hq] at e; obtain rfl := Option.some.inj e; exact hl)
        clear hall
        go_wp2_with fail
        refine wp_region_quiet_below (by kernel_rfl) (by kernel_rfl) ?_
        repeat (go_big_quiet_step ((go_at_call 76; exact calls_regrown (l2Ahead_is a b x y _ _ hd))))
        refine wpQuiet_nil ?_
        rintro w4 hn4
        replace hn4 := new_of_regrown hn4
        have hn5 := hnw.trans hn4
        have ho5 := hor.new hn4
        have hB5 := hBr.new hn4
        obtain ⟨y0, y1⟩ := ho5.at hq
        simp only at y0 y1
        have Z0 := cell_regrown y0
        have Z1 := cell_regrown y1
        have Y5 := blk_regrown hB5
        clear X0 X1 Y x0 x1
        by_cases he : (a, b) = (x, y)
        · simp only [Prod.mk.injEq] at he
          obtain ⟨rfl, rfl⟩ := he
          go_wp2_with fail
          refine wp_region_quiet_below (by kernel_rfl) (by kernel_rfl) ?_
          repeat (go_big_quiet_step (fail))
          refine wpQuiet_nil ?_
          rintro w6 hn6
          replace hn6 := new_of_regrown hn6
          have HP : Hid (putP L (a, b) = L) := by
            unfold Hid putP
            rw [HAt.out, if_pos hq]
          clear Z0 Z1 Y5
          go_wp2
          go_ret
          exact ⟨.slice (some ⟨g, 0, none⟩) m c, rfl, by rw [HP.out]; exact .inr ⟨g, c, by rw [HL.out], hg, by rw [HL.out]; exact ho5.new hn6⟩, hn5.trans hn6⟩
        · have HP : Hid (putP L (x, y) = L.take k ++ [(x, y)] ++ L.drop k) := by
            unfold Hid putP
            rw [HAt.out, if_neg]
            rw [hq]
            intro e
            exact he (Option.some.inj e)
          by_cases hax : a = x
          · subst hax
            have hby : ¬ b = y := fun e => he (by rw [e])
            go_wp2_with fail
            refine wp_region_quiet_below (by kernel_rfl) (by kernel_rfl) ?_
            repeat (go_big_quiet_step (fail))
            refine wpQuiet_nil ?_
            rintro w6 hn6
            replace hn6 := new_of_regrown hn6
            have HN7 : Hid (New w w6) := hn5.trans hn6
            have HO7 : Hid (OwP w6 g m c L) := ho5.new hn6
            have HB7 : Hid (Blk w6 w.heap.size 81 #[.int .i64 a, .int .i64 y]) := hB5.new hn6
            clear Z0 Z1 Y5 hn6 ho5 hB5 hBr hor
            have hn7 := HN7.out
            have hB7 := HB7.out
            have hBc := hB7.cells
            have hwl : w.heap.size < w6.heap.size := hB7.lt
            have ho7 := HO7.out
            have hgl : g < w6.heap.size := ho7.lt
            have hkc2 : k < c := by omega
            have hkc3 : k ≤ c := by omega
            have hck : ¬ c = k := by omega
            have hkc4 : (k : Int) ≤ (c : Int) := by omega
            have hkc5 : (k : Int) ≤ (m : Int) := by omega
            have hkc6 : (m : Int) ≤ (c : Int) := by omega
            go_wp2_with fail
            go_region_law (first
                | (refine step_apP _ rfl (.tmp 33) (.tmp 36) rfl w6.heap.size Try.underlying37 hi hz0 hz1 hz2 _ 0 0 [] rfl (lit_own (by first | exact heapA _ _ | exact heapB _ _ _ | exact heapC _ _ _) (by omega)) (some ⟨g, 0 * 2, none⟩) k c (L.take k) rfl (by rw [List.length_take, HL.out]; omega) (by intro h; cases h) (row_src (ho7.new (by repeat' (first | exact New.refl _ | apply New.drew | apply New.alloc))) 0 (take_src L _) (by rw [List.length_take, HL.out]; omega)) (by omega) (by first | omega | (simp; done) | (simp; omega)) ?_; intro g3 cap3 w3 ho3 hgr3; simp only [Nat.zero_add, List.nil_append] at ho3; have hn3 : New w6 w3 := new_ap (by repeat' (first | exact New.refl _ | apply New.drew | apply New.alloc)) hgr3 (by omega); have hB3 := hB7.new hn3; have hBc3 := hB3.cells; have hBl3 := hB3.lt; have hs3 := hn3.size; have hg3 := (ho3.lt g3 rfl).1)
                | (refine step_apP _ rfl (.tmp 37) (.tmp 39) rfl w6.heap.size Try.underlying37 hi hz0 hz1 hz2 g3 _ cap3 (L.take k) rfl (by first | exact ho3 | exact ho3.alloc _) (some ⟨_, 0, none⟩) 1 1 [(a, y)] rfl rfl (by intro h; cases h) (lit_src (by first | exact heap_alloc_new _ _ | exact (hgr3.block _ (by first | (simp; done) | (simp; omega)) (by simp)).trans (heapB _ _ _) | exact (hgr3.block _ (by first | (simp; done) | (simp; omega)) (by simp)).trans (heapC _ _ _))) (by omega) (by first | omega | (simp; omega)) ?_; intro g4 cap4 w8 ho4 hgr4; have hn8 : New w6 w8 := new_ap (by repeat' (first | exact hn3 | apply New.alloc)) hgr4 hg3; have hg4 := (ho4.lt g4 rfl).1)
                | (refine step_apP _ rfl (.tmp 40) (.tmp 43) rfl w6.heap.size Try.underlying37 hi hz0 hz1 hz2 g4 _ cap4 _ rfl ho4 (some ⟨g, k * 2, none⟩) (m - k) (c - k) (L.drop k) rfl (by rw [List.length_drop, HL.out]) (by intro h; cases h) (row_src (ho7.new hn8) k (drop_src L _) (by rw [List.length_drop, HL.out]; omega)) (by omega) (by have := hn8.size; omega) ?_; intro g5 cap5 w9 ho5 hgr5; have hn9 : New w6 w9 := new_ap hn8 hgr5 hg4))
            all_goals
              go_wp2
              go_ret
              have hlen : (putP L (a, y)).length = k + 1 + (m - k) := by
                rw [HP.out]
                simp [HL.out]
                omega
              refine ⟨.slice (some ⟨g5, 0, none⟩) (k + 1 + (m - k)) cap5, rfl, .inr ⟨g5, cap5, by rw [hlen], ?_, ?_⟩, hn7.trans hn9⟩
              · have h1 := (ho5.lt g5 rfl).1
                omega
              · rw [hlen, HP.out]
                exact own_base ho5

          · go_wp2_with fail
            refine wp_region_quiet_below (by kernel_rfl) (by kernel_rfl) ?_
            repeat (go_big_quiet_step (fail))
            refine wpQuiet_nil ?_
            rintro w6 hn6
            replace hn6 := new_of_regrown hn6
            have HN7 : Hid (New w w6) := hn5.trans hn6
            have HO7 : Hid (OwP w6 g m c L) := ho5.new hn6
            have HB7 : Hid (Blk w6 w.heap.size 81 #[.int .i64 x, .int .i64 y]) := hB5.new hn6
            clear Z0 Z1 Y5 hn6 ho5 hB5 hBr hor
            have hn7 := HN7.out
            have hB7 := HB7.out
            have hBc := hB7.cells
            have hwl : w.heap.size < w6.heap.size := hB7.lt
            have ho7 := HO7.out
            have hgl : g < w6.heap.size := ho7.lt
            have hkc2 : k < c := by omega
            have hkc3 : k ≤ c := by omega
            have hck : ¬ c = k := by omega
            have hkc4 : (k : Int) ≤ (c : Int) := by omega
            have hkc5 : (k : Int) ≤ (m : Int) := by omega
            have hkc6 : (m : Int) ≤ (c : Int) := by omega
            go_wp2_with fail
            go_region_law (first
                | (refine step_apP _ rfl (.tmp 33) (.tmp 36) rfl w6.heap.size Try.underlying37 hi hz0 hz1 hz2 _ 0 0 [] rfl (lit_own (by first | exact heapA _ _ | exact heapB _ _ _ | exact heapC _ _ _) (by omega)) (some ⟨g, 0 * 2, none⟩) k c (L.take k) rfl (by rw [List.length_take, HL.out]; omega) (by intro h; cases h) (row_src (ho7.new (by repeat' (first | exact New.refl _ | apply New.drew | apply New.alloc))) 0 (take_src L _) (by rw [List.length_take, HL.out]; omega)) (by omega) (by first | omega | (simp; done) | (simp; omega)) ?_; intro g3 cap3 w3 ho3 hgr3; simp only [Nat.zero_add, List.nil_append] at ho3; have hn3 : New w6 w3 := new_ap (by repeat' (first | exact New.refl _ | apply New.drew | apply New.alloc)) hgr3 (by omega); have hB3 := hB7.new hn3; have hBc3 := hB3.cells; have hBl3 := hB3.lt; have hs3 := hn3.size; have hg3 := (ho3.lt g3 rfl).1)
                | (refine step_apP _ rfl (.tmp 37) (.tmp 39) rfl w6.heap.size Try.underlying37 hi hz0 hz1 hz2 g3 _ cap3 (L.take k) rfl (by first | exact ho3 | exact ho3.alloc _) (some ⟨_, 0, none⟩) 1 1 [(x, y)] rfl rfl (by intro h; cases h) (lit_src (by first | exact heap_alloc_new _ _ | exact (hgr3.block _ (by first | (simp; done) | (simp; omega)) (by simp)).trans (heapB _ _ _) | exact (hgr3.block _ (by first | (simp; done) | (simp; omega)) (by simp)).trans (heapC _ _ _))) (by omega) (by first | omega | (simp; omega)) ?_; intro g4 cap4 w8 ho4 hgr4; have hn8 : New w6 w8 := new_ap (by repeat' (first | exact hn3 | apply New.alloc)) hgr4 hg3; have hg4 := (ho4.lt g4 rfl).1)
                | (refine step_apP _ rfl (.tmp 40) (.tmp 43) rfl w6.heap.size Try.underlying37 hi hz0 hz1 hz2 g4 _ cap4 _ rfl ho4 (some ⟨g, k * 2, none⟩) (m - k) (c - k) (L.drop k) rfl (by rw [List.length_drop, HL.out]) (by intro h; cases h) (row_src (ho7.new hn8) k (drop_src L _) (by rw [List.length_drop, HL.out]; omega)) (by omega) (by have := hn8.size; omega) ?_; intro g5 cap5 w9 ho5 hgr5; have hn9 : New w6 w9 := new_ap hn8 hgr5 hg4))
            all_goals
              go_wp2
              go_ret
              have hlen : (putP L (x, y)).length = k + 1 + (m - k) := by
                rw [HP.out]
                simp [HL.out]
                omega
              refine ⟨.slice (some ⟨g5, 0, none⟩) (k + 1 + (m - k)) cap5, rfl, .inr ⟨g5, cap5, by rw [hlen], ?_, ?_⟩, hn7.trans hn9⟩
              · have h1 := (ho5.lt g5 rfl).1
                omega
              · rw [hlen, HP.out]
                exact own_base ho5

    · obtain rfl : k = m := by omega
      have HAt : Hid (atP (x, y) L = k) := atP_is (by rw [HL.out]; exact hk) hall (fun q e => by rw [List.getElem?_eq_none (by rw [HL.out]; exact Nat.le_refl _)] at e; cases e)
      have HP : Hid (putP L (x, y) = L.take k ++ [(x, y)] ++ []) := by
        unfold Hid putP
        rw [HAt.out, if_neg, List.drop_eq_nil_of_le (by rw [HL.out]; exact Nat.le_refl _)]
        rw [List.getElem?_eq_none (by rw [HL.out]; exact Nat.le_refl _)]
        intro e
        cases e
      clear hall
      go_wp2_with fail
      refine wp_region_quiet_below (by kernel_rfl) (by kernel_rfl) ?_
      repeat (go_big_quiet_step (fail))
      refine wpQuiet_nil ?_
      rintro w4 hn4
      replace hn4 := new_of_regrown hn4
      have hn5 := hnw.trans hn4
      have ho5 := hor.new hn4
      have hB5 := hBr.new hn4
      clear Y
      go_wp2_with fail
      refine wp_region_quiet_below (by kernel_rfl) (by kernel_rfl) ?_
      repeat (go_big_quiet_step (fail))
      refine wpQuiet_nil ?_
      rintro w6 hn6
      replace hn6 := new_of_regrown hn6
      have HN7 : Hid (New w w6) := hn5.trans hn6
      have HO7 : Hid (OwP w6 g k c L) := ho5.new hn6
      have HB7 : Hid (Blk w6 w.heap.size 81 #[.int .i64 x, .int .i64 y]) := hB5.new hn6
      clear hn6 ho5 hB5 hBr hor
      have hmc4 : (k : Int) ≤ (c : Int) := by omega
      by_cases hkc : c = k
      · subst hkc
        have hn7 := HN7.out
        have hB7 := HB7.out
        have hBc := hB7.cells
        have hwl : w.heap.size < w6.heap.size := hB7.lt
        have ho7 := HO7.out
        have hgl : g < w6.heap.size := ho7.lt
        go_wp2_with fail
        go_region_law (first
            | (refine step_apP _ rfl (.tmp 33) (.tmp 36) rfl w6.heap.size Try.underlying37 hi hz0 hz1 hz2 _ 0 0 [] rfl (lit_own (by first | exact heapA _ _ | exact heapB _ _ _ | exact heapC _ _ _) (by omega)) (some ⟨g, 0 * 2, none⟩) c c (L.take c) rfl (by rw [List.length_take, HL.out]; omega) (by intro h; cases h) (row_src (ho7.new (by repeat' (first | exact New.refl _ | apply New.drew | apply New.alloc))) 0 (take_src L _) (by rw [List.length_take, HL.out]; omega)) (by omega) (by first | omega | (simp; done) | (simp; omega)) ?_; intro g3 cap3 w3 ho3 hgr3; simp only [Nat.zero_add, List.nil_append] at ho3; have hn3 : New w6 w3 := new_ap (by repeat' (first | exact New.refl _ | apply New.drew | apply New.alloc)) hgr3 (by omega); have hB3 := hB7.new hn3; have hBc3 := hB3.cells; have hBl3 := hB3.lt; have hs3 := hn3.size; have hg3 := (ho3.lt g3 rfl).1)
            | (refine step_apP _ rfl (.tmp 37) (.tmp 39) rfl w6.heap.size Try.underlying37 hi hz0 hz1 hz2 g3 _ cap3 (L.take c) rfl (by first | exact ho3 | exact ho3.alloc _) (some ⟨_, 0, none⟩) 1 1 [(x, y)] rfl rfl (by intro h; cases h) (lit_src (by first | exact heap_alloc_new _ _ | exact (hgr3.block _ (by first | (simp; done) | (simp; omega)) (by simp)).trans (heapB _ _ _) | exact (hgr3.block _ (by first | (simp; done) | (simp; omega)) (by simp)).trans (heapC _ _ _))) (by omega) (by first | omega | (simp; omega)) ?_; intro g4 cap4 w8 ho4 hgr4; have hn8 : New w6 w8 := new_ap (by repeat' (first | exact hn3 | apply New.alloc)) hgr4 hg3; have hg4 := (ho4.lt g4 rfl).1)
            | (refine step_apP _ rfl (.tmp 40) (.tmp 43) rfl w6.heap.size Try.underlying37 hi hz0 hz1 hz2 g4 _ cap4 _ rfl ho4 (some ⟨g, 0 * 2, none⟩) 0 0 [] rfl rfl (by intro h; cases h) (by intro ad _ j u h; simp [cellsP] at h) (by omega) (by have := hn8.size; omega) ?_; intro g5 cap5 w9 ho5 hgr5; have hn9 : New w6 w9 := new_ap hn8 hgr5 hg4))
        all_goals
          go_wp2
          go_ret
          have hlen : (putP L (x, y)).length = c + 1 + 0 := by
            rw [HP.out]
            simp [HL.out]
          refine ⟨.slice (some ⟨g5, 0, none⟩) (c + 1 + 0) cap5, rfl, .inr ⟨g5, cap5, by rw [hlen], ?_, ?_⟩, hn7.trans hn9⟩
          · have h1 := (ho5.lt g5 rfl).1
            omega
          · rw [hlen, HP.out]
            exact own_base ho5

      · have hkc2 : k < c := by omega
        have hn7 := HN7.out
        have hB7 := HB7.out
        have hBc := hB7.cells
        have hwl : w.heap.size < w6.heap.size := hB7.lt
        have ho7 := HO7.out
        have hgl : g < w6.heap.size := ho7.lt
        go_wp2_with fail
        go_region_law (first
            | (refine step_apP _ rfl (.tmp 33) (.tmp 36) rfl w6.heap.size Try.underlying37 hi hz0 hz1 hz2 _ 0 0 [] rfl (lit_own (by first | exact heapA _ _ | exact heapB _ _ _ | exact heapC _ _ _) (by omega)) (some ⟨g, 0 * 2, none⟩) k c (L.take k) rfl (by rw [List.length_take, HL.out]; omega) (by intro h; cases h) (row_src (ho7.new (by repeat' (first | exact New.refl _ | apply New.drew | apply New.alloc))) 0 (take_src L _) (by rw [List.length_take, HL.out]; omega)) (by omega) (by first | omega | (simp; done) | (simp; omega)) ?_; intro g3 cap3 w3 ho3 hgr3; simp only [Nat.zero_add, List.nil_append] at ho3; have hn3 : New w6 w3 := new_ap (by repeat' (first | exact New.refl _ | apply New.drew | apply New.alloc)) hgr3 (by omega); have hB3 := hB7.new hn3; have hBc3 := hB3.cells; have hBl3 := hB3.lt; have hs3 := hn3.size; have hg3 := (ho3.lt g3 rfl).1)
            | (refine step_apP _ rfl (.tmp 37) (.tmp 39) rfl w6.heap.size Try.underlying37 hi hz0 hz1 hz2 g3 _ cap3 (L.take k) rfl (by first | exact ho3 | exact ho3.alloc _) (some ⟨_, 0, none⟩) 1 1 [(x, y)] rfl rfl (by intro h; cases h) (lit_src (by first | exact heap_alloc_new _ _ | exact (hgr3.block _ (by first | (simp; done) | (simp; omega)) (by simp)).trans (heapB _ _ _) | exact (hgr3.block _ (by first | (simp; done) | (simp; omega)) (by simp)).trans (heapC _ _ _))) (by omega) (by first | omega | (simp; omega)) ?_; intro g4 cap4 w8 ho4 hgr4; have hn8 : New w6 w8 := new_ap (by repeat' (first | exact hn3 | apply New.alloc)) hgr4 hg3; have hg4 := (ho4.lt g4 rfl).1)
            | (refine step_apP _ rfl (.tmp 40) (.tmp 43) rfl w6.heap.size Try.underlying37 hi hz0 hz1 hz2 g4 _ cap4 _ rfl ho4 (some ⟨g, k * 2, none⟩) 0 (c - k) [] rfl rfl (by intro h; cases h) (by intro ad _ j u h; simp [cellsP] at h) (by omega) (by have := hn8.size; omega) ?_; intro g5 cap5 w9 ho5 hgr5; have hn9 : New w6 w9 := new_ap hn8 hgr5 hg4))
        all_goals
          go_wp2
          go_ret
          have hlen : (putP L (x, y)).length = k + 1 + 0 := by
            rw [HP.out]
            simp [HL.out]
          refine ⟨.slice (some ⟨g5, 0, none⟩) (k + 1 + 0) cap5, rfl, .inr ⟨g5, cap5, by rw [hlen], ?_, ?_⟩, hn7.trans hn9⟩
          · have h1 := (ho5.lt g5 rfl).1
            omega
          · rw [hlen, HP.out]
            exact own_base ho5


set_option maxRecDepth 100000 in
set_option maxHeartbeats 3200000 in
theorem l2Put_nil (lo : Nat) (x y : Int) (w : World) (hlo : lo ≤ w.heap.size) :
    Calls Try.prog 64 #[.slice none 0 0, .agg #[.int .i64 x, .int .i64 y]] w fun e w' => ∃ v, e = .returned v ∧ OwL w' lo v (putP [] (x, y)) ∧ New w w' := by
  have hw := (New.refl w).alloc (.cells #[.int .i64 x, .int .i64 y] 81)
  have hB : Blk (w.alloc (.cells #[.int .i64 x, .int .i64 y] 81)) w.heap.size 81 #[.int .i64 x, .int .i64 y] := Blk.mk _ _ _ _ rfl
  have HP : Hid (putP [] (x, y) = [] ++ [(x, y)] ++ []) := rfl
  obtain ⟨iP, hi, hz0, hz1, hz2⟩ := info_parts Try.infoPx
  go_enter Try.func64, Try.ntmps64
  go_wp2_with fail
  go_loopw [5] (fun i wr => i = .int .i64 0 ∧ New w wr ∧ Blk wr w.heap.size 81 #[.int .i64 x, .int .i64 y]) (fun _ _ => 0)
  case atStart => exact ⟨rfl, hw, hB⟩
  case round =>
    obtain ⟨rfl, hnw, hBr⟩ := hrel
    go_wp2_with fail
    refine wp_region_quiet_below (by kernel_rfl) (by kernel_rfl) ?_
    repeat (go_big_quiet_step (fail))
    refine wpQuiet_nil ?_
    rintro w4 hn4
    replace hn4 := new_of_regrown hn4
    have hn5 := hnw.trans hn4
    have hB5 := hBr.new hn4
    go_wp2_with fail
    refine wp_region_quiet_below (by kernel_rfl) (by kernel_rfl) ?_
    repeat (go_big_quiet_step (fail))
    refine wpQuiet_nil ?_
    rintro w6 hn6
    replace hn6 := new_of_regrown hn6
    have HN7 : Hid (New w w6) := hn5.trans hn6
    have HB7 : Hid (Blk w6 w.heap.size 81 #[.int .i64 x, .int .i64 y]) := hB5.new hn6
    clear hn6 hB5 hBr
    have hn7 := HN7.out
    have hB7 := HB7.out
    have hBc := hB7.cells
    have hwl : w.heap.size < w6.heap.size := hB7.lt
    go_wp2_with fail
    go_region_law (first
        | (refine step_apP _ rfl (.tmp 33) (.tmp 36) rfl w6.heap.size Try.underlying37 hi hz0 hz1 hz2 _ 0 0 [] rfl (lit_own (by first | exact heapA _ _ | exact heapB _ _ _ | exact heapC _ _ _) (by omega)) none 0 0 [] rfl rfl (fun _ => ⟨rfl, rfl⟩) (by intro ad h; cases h) (by omega) (by first | omega | (simp; done) | (simp; omega)) ?_; intro g3 cap3 w3 ho3 hgr3; simp only [Nat.zero_add, List.nil_append] at ho3; have hn3 : New w6 w3 := new_ap (by repeat' (first | exact New.refl _ | apply New.drew | apply New.alloc)) hgr3 (by omega); have hB3 := hB7.new hn3; have hBc3 := hB3.cells; have hBl3 := hB3.lt; have hs3 := hn3.size; have hg3 := (ho3.lt g3 rfl).1)
        | (refine step_apP _ rfl (.tmp 37) (.tmp 39) rfl w6.heap.size Try.underlying37 hi hz0 hz1 hz2 g3 _ cap3 [] rfl (by first | exact ho3 | exact ho3.alloc _) (some ⟨_, 0, none⟩) 1 1 [(x, y)] rfl rfl (by intro h; cases h) (lit_src (by first | exact heap_alloc_new _ _ | exact (hgr3.block _ (by first | (simp; done) | (simp; omega)) (by simp)).trans (heapB _ _ _) | exact (hgr3.block _ (by first | (simp; done) | (simp; omega)) (by simp)).trans (heapC _ _ _))) (by omega) (by first | omega | (simp; omega)) ?_; intro g4 cap4 w8 ho4 hgr4; have hn8 : New w6 w8 := new_ap (by repeat' (first | exact hn3 | apply New.alloc)) hgr4 hg3; have hg4 := (ho4.lt g4 rfl).1)
        | (refine step_apP _ rfl (.tmp 40) (.tmp 43) rfl w6.heap.size Try.underlying37 hi hz0 hz1 hz2 g4 _ cap4 _ rfl ho4 none 0 0 [] rfl rfl (fun _ => ⟨rfl, rfl⟩) (by intro ad h; cases h) (by omega) (by have := hn8.size; omega) ?_; intro g5 cap5 w9 ho5 hgr5; have hn9 : New w6 w9 := new_ap hn8 hgr5 hg4))
    all_goals
      go_wp2
      go_ret
      have hlen : (putP [] (x, y)).length = 0 + 1 + 0 := by
        rw [HP.out]
        rfl
      refine ⟨.slice (some ⟨g5, 0, none⟩) (0 + 1 + 0) cap5, rfl, .inr ⟨g5, cap5, by rw [hlen], ?_, ?_⟩, hn7.trans hn9⟩
      · have h1 := (ho5.lt g5 rfl).1
        omega
      · rw [hlen, HP.out]
        exact own_base ho5


theorem l2Put_any (lo : Nat) (v : Value) (L : List (Int × Int)) (x y : Int) (w : World) (h : OwL w lo v L) (hlo : lo ≤ w.heap.size) (hm : L.length ≤ 1048576) :
    Calls Try.prog 64 #[v, .agg #[.int .i64 x, .int .i64 y]] w fun e w' => ∃ v, e = .returned v ∧ OwL w' lo v (putP L (x, y)) ∧ New w w' := by
  rcases h with ⟨rfl, rfl⟩ | ⟨g, c, rfl, hg, ho⟩
  · exact l2Put_nil lo x y w hlo
  · exact l2Put_row lo g L.length c L x y w ho hg hlo hm

end Go.Proofs.Ytgjdjafldogecaa
