/- What is proved here: how the model's putting of a route goes, for the draws of lists of routes. -/
import Derived.Test.YtjampcfikfafkaaR7Ap
import Derived.Test.YtjampcfikfafkaaR7Rf
import Derived.Test.YtjampcfikfafkaaR7Bs
import Derived.Maps.AppendAt
import Derived.Deep.RegionLaw
import Derived.Deep.CutRange
namespace Go.Proofs.Ytjampcfikfafkaa
open Go.RowKit Go.Sort
set_option linter.unusedVariables false

theorem cellsT_appd (V U : List Rv) : cellsT (V ++ U) = cellsT V ++ cellsT U := by simp [cellsT]
theorem cellsT_take7 (V : List Rv) (i : Nat) (hi : i ≤ V.length) : (cellsT V).take (i * 8) = cellsT (V.take i) := by
  have h : cellsT V = cellsT (V.take i) ++ cellsT (V.drop i) := by rw [← cellsT_appd, List.take_append_drop]
  rw [h, List.take_left' (by rw [cellsT_len, List.length_take]; congr 1; omega)]
theorem cellsT_drop7 (V : List Rv) (i : Nat) (hi : i ≤ V.length) : (cellsT V).drop (i * 8) = cellsT (V.drop i) := by
  have h : cellsT V = cellsT (V.take i) ++ cellsT (V.drop i) := by rw [← cellsT_appd, List.take_append_drop]
  rw [h, List.drop_left' (by rw [cellsT_len, List.length_take]; congr 1; omega)]
theorem cellsT_one (V : List Rv) : ∀ u ∈ cellsT V, u.oneCell' = true := by
  intro u hu
  unfold cellsT at hu
  obtain ⟨v, -, hv⟩ := List.mem_flatMap.1 hu
  unfold Rv.cs at hv
  simp only [List.mem_cons, List.not_mem_nil, or_false] at hv
  rcases hv with rfl | rfl | rfl | rfl | rfl | rfl | rfl | rfl <;> rfl
def keepP (q : Int) (r : Rt) : Bool := decide (¬ q = r.p)
def keepE (p a l : Int) (r : Rt) : Bool := decide (¬ cmpR p a l r.p r.a r.l = 0)

set_option linter.unusedVariables false

/-- A row of n routes with room for c. -/
abbrev Row7 (A : Option Addr) (n c : Nat) : Prop := (A = none → n = 0 ∧ c = 0) ∧ (∀ x, A = some x → x.off = 0 ∧ x.spot = none ∧ n ≤ c ∧ c ≤ maxLen)

theorem RtAt.here {w : World} {A : Option Addr} {V : List Rv} (h : RtAt w A V) : ∀ v ∈ V, v.here w := by
  intro v hv
  obtain ⟨i, hi⟩ := List.getElem?_of_mem hv
  exact (h i v hi).2
theorem row_rt7 {w : World} {lo : Nat} {u : Value} {W : List Rv} (h : w.ownsRow lo 35 8 u W.length (cellsT W)) (hp : ∀ v ∈ W, v.here w) : ∃ A c, u = .slice A W.length c ∧ RtAt w A W ∧ (A = none → W.length = 0 ∧ c = 0) ∧ (∀ x, A = some x → x.off = 0 ∧ x.spot = none ∧ W.length ≤ c ∧ c ≤ maxLen) := by
  rcases h.2 with ⟨h1, h2⟩ | ⟨g, c, cur, h1, h2, h3, h4, h5, r⟩
  · obtain rfl := List.eq_nil_of_length_eq_zero h2
    exact ⟨none, 0, h1, RtAt.nil _ _, fun _ => ⟨rfl, rfl⟩, by intro x e; cases e⟩
  · have ho : OwRow w g W.length c W := ⟨h.1, .inr ⟨g, c, cur, rfl, Nat.zero_le _, h3, h4, h5, r⟩⟩
    refine ⟨_, c, h1, ho.rt hp, (by intro e; cases e), ?_⟩
    intro x e
    obtain rfl := Option.some.inj e
    exact ⟨rfl, rfl, h4, h5⟩
theorem cmpR_zero (p a l p' a' l' : Int) : cmpR p a l p' a' l' = 0 ↔ (p = p' ∧ a = a' ∧ l = l') := by
  have key : ∀ x y : Int, cmp3 x y = 0 ↔ x = y := by
    intro x y
    unfold cmp3
    split
    · constructor <;> intro h <;> omega
    · split
      · constructor <;> intro h <;> omega
      · constructor <;> intro h <;> omega
  have or2 : ∀ c d : Int, orL [c, d] = 0 ↔ (c = 0 ∧ d = 0) := by
    intro c d
    by_cases h1 : c = 0
    · by_cases h2 : d = 0 <;> simp [orL, h1, h2]
    · simp [orL, h1]
  unfold cmpR
  rw [or2, or2, key, key, key]
  constructor
  · rintro ⟨⟨h1, h2⟩, h3⟩; exact ⟨h3, h1, h2⟩
  · rintro ⟨h1, h2, h3⟩; exact ⟨⟨h2, h3⟩, h1⟩

theorem keepE_iff (q a0 l0 : Int) (r : Rt) : keepE q a0 l0 r = decide (¬ (q = r.p ∧ a0 = r.a ∧ l0 = r.l)) := by
  unfold keepE
  rw [decide_eq_decide, cmpR_zero]

set_option maxHeartbeats 6400000 in
theorem l7Wo_any (q a0 l0 : Int) (A : Option Addr) (N cc : Nat) (V : List Rv) (w : World) (h : RtAt w A V) (hn : V.length = N) (hm : N ≤ 1048576) :
    Calls Try.prog 60 #[.slice A N cc, .int .i64 q, .agg #[.int .i64 a0, .int .i64 l0]] w fun e w' => ∃ B d, e = .returned (.slice B (V.filter (fun u => keepE q a0 l0 u.r)).length d) ∧ RtAt w' B (V.filter (fun u => keepE q a0 l0 u.r)) ∧ New w w' ∧ Row7 B (V.filter (fun u => keepE q a0 l0 u.r)).length d := by
  have HN : Hid (V.length = N) := hn
  clear hn
  obtain ⟨i0, hi, hz0, hz1, hz2⟩ := info_parts Try.infoRt
  have NL : New w ((w.alloc (.cells #[.int .i64 a0, .int .i64 l0] 30)).alloc (.cells #[] 35)) := ((New.refl w).alloc _).alloc _
  have bP : Blk ((w.alloc (.cells #[.int .i64 a0, .int .i64 l0] 30)).alloc (.cells #[] 35)) w.heap.size 30 #[.int .i64 a0, .int .i64 l0] := (Blk.mk _ _ _ _ rfl).alloc _
  have hL := row_lit7 (lo := w.heap.size + 1) (Blk.mk (w.alloc (.cells #[.int .i64 a0, .int .i64 l0] 30)) (w.heap.size + 1) 35 #[] (by simp)) (Nat.le_refl _)
  go_enter Try.func60, Try.ntmps60
  go_wp2
  go_loopw [7, 8] (fun s i wr => ∃ k : Nat, k ≤ N ∧ i = .int .i64 k ∧ New w wr ∧ Blk wr w.heap.size 30 #[.int .i64 a0, .int .i64 l0] ∧ wr.ownsRow (w.heap.size + 1) 35 8 s ((V.take k).filter (fun u => keepE q a0 l0 u.r)).length (cellsT ((V.take k).filter (fun u => keepE q a0 l0 u.r)))) (fun _ i _ => N - (intOf i).toNat)
  case atStart => exact ⟨0, Nat.zero_le _, rfl, NL, bP, hL⟩
  case round =>
    clear NL hL bP
    obtain ⟨k, hk, rfl, hnw, bPr, hrow⟩ := hrel
    by_cases hlt : k < N
    · obtain ⟨b, off, p, a, l, o, nx, md, lc, x, m, d, xs, rfl, hv, hlen, hns, hnl, hmx, q0, q1, q2, q3, q4, q5, q6, q7⟩ := (h.new hnw).at k (by have := HN.out; omega)
      have HL : Hid (xs.length = m) := hlen
      have HFR : Hid _ := filter_next (K := keepE q a0 l0) hv
      have hle : ((V.take k).filter (fun u => keepE q a0 l0 u.r)).length ≤ k := by
        have h1 := List.length_filter_le (fun u : Rv => keepE q a0 l0 u.r) (V.take k)
        have h2 : (V.take k).length ≤ k := by rw [List.length_take]; omega
        omega
      generalize hW : (V.take k).filter (fun u => keepE q a0 l0 u.r) = W at *
      clear hv hlen hW
      have X0 := cell_regrown q0
      have X1 := cell_regrown q1
      have X2 := cell_regrown q2
      have BP := blk_regrown bPr
      by_cases hf : q = p ∧ a0 = a ∧ l0 = l
      · obtain ⟨rfl, rfl, rfl⟩ := hf
        have hz : (q != q) = false := by simp
        have HK : Hid (keepE q a0 l0 ⟨q, a0, l0, o, xs, nx, md, lc⟩ = false) := by unfold Hid; rw [keepE_iff]; simp
        go_wp2_with fail
        refine wp_region_quiet_below (by kernel_rfl) (by kernel_rfl) ?_
        repeat (go_big_quiet_step (fail))
        refine wpQuiet_nil ?_
        rintro w2 hn2
        replace hn2 := new_of_regrown hn2
        go_wp2
        go_roundw
        case rel =>
          have e := HFR.out
          rw [if_neg (by rw [HK.out]; simp), List.append_nil] at e
          exact ⟨k + 1, by omega, by go_num, hnw.trans hn2, bPr.new hn2, by rw [e]; exact row_turn7 hrow hn2 (fun _ _ f => f)⟩
        case measure => simp [intOf]; omega
      · have HK : Hid (keepE q a0 l0 ⟨p, a, l, o, xs, nx, md, lc⟩ = true) := by unfold Hid; rw [keepE_iff]; exact decide_eq_true hf
        have HKV : Hid (¬ (q = p ∧ a0 = a ∧ l0 = l)) := hf
        clear hf
        go_upto_region 5 with fail
        go_cut [31] from 16 to 30 (fun u wx => u = .bool true ∧ New wr wx)
        case first =>
          by_cases e1 : q = p
          · subst e1
            have hz : (q != q) = false := by simp
            by_cases e2 : a0 = a
            · subst e2
              have e3 : ¬ l0 = l := fun e => HKV.out ⟨rfl, rfl, e⟩
              have e3' : ¬ l = l0 := fun e => e3 e.symm
              go_wp2_with fail
              refine wp_region_quiet_below (by kernel_rfl) (by kernel_rfl) ?_
              repeat (go_big_quiet_step (fail))
              refine wpQuiet_nil ?_
              rintro w2 hn2
              replace hn2 := new_of_regrown hn2
              go_wp2_with fail
              go_meet
              case rel => exact ⟨rfl, hn2⟩
            · have e2' : ¬ a = a0 := fun e => e2 e.symm
              go_wp2_with fail
              refine wp_region_quiet_below (by kernel_rfl) (by kernel_rfl) ?_
              repeat (go_big_quiet_step (fail))
              refine wpQuiet_nil ?_
              rintro w2 hn2
              replace hn2 := new_of_regrown hn2
              go_wp2_with fail
              go_meet
              case rel => exact ⟨rfl, hn2⟩
          · have hz : (p != q) = true := by simp; omega
            go_wp2_with fail
            refine wp_region_quiet_below (by kernel_rfl) (by kernel_rfl) ?_
            repeat (go_big_quiet_step (fail))
            refine wpQuiet_nil ?_
            rintro w2 hn2
            replace hn2 := new_of_regrown hn2
            go_wp2_with fail
            go_meet
            case rel => exact ⟨rfl, hn2⟩
        case rest =>
        obtain ⟨rfl, hn2⟩ := hcut
        have q0 := hn2.below.cell (World.block_lt_of_cell? _ _ q0) |>.trans q0
        have q1 := hn2.below.cell (World.block_lt_of_cell? _ _ q1) |>.trans q1
        have q2 := hn2.below.cell (World.block_lt_of_cell? _ _ q2) |>.trans q2
        have q3 := hn2.below.cell (World.block_lt_of_cell? _ _ q3) |>.trans q3
        have q4 := hn2.below.cell (World.block_lt_of_cell? _ _ q4) |>.trans q4
        have q5 := hn2.below.cell (World.block_lt_of_cell? _ _ q5) |>.trans q5
        have q6 := hn2.below.cell (World.block_lt_of_cell? _ _ q6) |>.trans q6
        have q7 := hn2.below.cell (World.block_lt_of_cell? _ _ q7) |>.trans q7
        have hrow2 := row_turn7 hrow hn2 (fun _ _ f => f)
        have bP2 := bPr.new hn2
        have hnw2 := hnw.trans hn2
        clear X0 X1 X2 BP hrow bPr hnw hn2
        generalize wc = w2 at *
        have bL := Blk.mk w2 w2.heap.size 35 #[.int .i64 p, .int .i64 a, .int .i64 l, .int .i64 o, .slice x m d, .int .i64 nx, .int .i64 md, .int .i64 lc] rfl
        have hrow3 : (w2.alloc (.cells #[.int .i64 p, .int .i64 a, .int .i64 l, .int .i64 o, .slice x m d, .int .i64 nx, .int .i64 md, .int .i64 lc] 35)).ownsRow (w.heap.size + 1) 35 8 _ W.length (cellsT W) := row_turn7 hrow2 ((New.refl w2).alloc _) (fun _ _ f => f)
        have hsz : w.heap.size + 1 ≤ (w2.alloc (.cells #[.int .i64 p, .int .i64 a, .int .i64 l, .int .i64 o, .slice x m d, .int .i64 nx, .int .i64 md, .int .i64 lc] 35)).heap.size := by have e1 := bP2.lt; simp; omega
        have hsrc : ∀ j, (w2.alloc (.cells #[.int .i64 p, .int .i64 a, .int .i64 l, .int .i64 o, .slice x m d, .int .i64 nx, .int .i64 md, .int .i64 lc] 35)).cell? ⟨w2.heap.size, j, none⟩ = (Rv.mk (Rt.mk p a l o xs nx md lc) x d).cs[j]? := by
          intro j
          rw [bL.cells j]
          unfold Rv.cs
          simp only [HL.out]
          simp
        go_wp2_with (at_builtin; refine wpList_apT _ rfl (.tmp 32) (.tmp 37) rfl (w.heap.size + 1) _ Try.underlying24 hi hz0 hz1 hz2 rfl _ W rfl hrow3 w2.heap.size (Rv.mk (Rt.mk p a l o xs nx md lc) x d) rfl hsrc (by omega) hsz ?_)
        intro v5 w5 hr5 hg5 _
        have N5 : New w w5 := ((hnw2.alloc _).grow hg5 (fun j hj => by have := (row_rng7 hrow2 j hj).1; omega))
        have bP5 := (bP2.alloc (.cells #[.int .i64 p, .int .i64 a, .int .i64 l, .int .i64 o, .slice x m d, .int .i64 nx, .int .i64 md, .int .i64 lc] 35)).grow hg5 (fun e => by have := (row_rng7 hrow2 _ e).1; omega)
        clear hg5 hrow3 hsrc bL hsz
        go_wp2
        go_roundw
        case rel =>
          have e := HFR.out
          rw [if_pos HK.out] at e
          exact ⟨k + 1, by omega, by go_num, N5, bP5, by rw [e, List.length_append]; exact hr5⟩
        case measure => simp [intOf]; omega
    · go_wp2
      go_ret
      rw [List.take_of_length_le (by have := HN.out; omega)] at hrow
      obtain ⟨B, d, rfl, hB, hB1, hB2⟩ := row_rt7 hrow (fun v hv => (h.new hnw).here v ((List.mem_filter.1 hv).1))
      exact ⟨B, d, rfl, hB, hnw, hB1, hB2⟩

def insR (R : List Rt) (r : Rt) : List Rt := R.take (tw (fun s => s.lt r) R) ++ [r] ++ R.drop (tw (fun s => s.lt r) R)
theorem tw_le (K : Rt → Bool) (R : List Rt) : tw K R ≤ R.length := by unfold tw; exact (List.takeWhile_sublist K).length_le
theorem OwT.low {w : World} {lo lo' hi : Nat} {u : Value} {V : List Rv} (h : OwT w lo hi u V) (hl : lo' ≤ lo) : OwT w lo' hi u V := by
  refine ⟨⟨h.row.1, ?_⟩, h.rhi, h.path.low hl⟩
  rcases h.row.2 with h' | ⟨g', cap', cur, h', hb, r⟩
  · exact .inl h'
  · exact .inr ⟨g', cap', cur, h', by omega, r⟩

set_option linter.unusedVariables false

/-- The cells of the routes lie at the address. -/
def TsAt (w : World) (A : Option Addr) (U : List Rv) : Prop := ∀ j u, (cellsT U)[j]? = some u → ∃ b off, A = some ⟨b, off, none⟩ ∧ w.cell? ⟨b, off + j, none⟩ = some u
theorem TsAt.new {w w' : World} {A : Option Addr} {U : List Rv} (h : TsAt w A U) (t : New w w') : TsAt w' A U := by
  intro j u hu
  obtain ⟨b, off, ha, hc⟩ := h j u hu
  exact ⟨b, off, ha, (t.below.cell (World.block_lt_of_cell? _ _ hc)).trans hc⟩
theorem TsAt.turn {w w' : World} {A : Option Addr} {U : List Rv} {S : Nat → Prop} (h : TsAt w A U) (t : Turn S w w') (hS : ∀ x, A = some x → ¬ S x.block) : TsAt w' A U := by
  intro j u hu
  obtain ⟨b, off, ha, hc⟩ := h j u hu
  exact ⟨b, off, ha, (World.cell?_of_block (t.block b (World.block_lt_of_cell? _ _ hc) (hS _ ha))).trans hc⟩
theorem RtAt.ts {w : World} {A : Option Addr} {V : List Rv} (h : RtAt w A V) : TsAt w A V := by
  intro q u hu
  have hq : q < V.length * 8 := by rw [← cellsT_len]; exact (List.getElem?_eq_some_iff.1 hu).1
  have hi : q / 8 < V.length := by omega
  obtain ⟨⟨b, off, ha, hc⟩, -⟩ := h (q / 8) _ (List.getElem?_eq_getElem hi)
  have h1 := cellsT_get V (q / 8) _ (List.getElem?_eq_getElem hi) (q % 8) (by omega)
  rw [show q / 8 * 8 + q % 8 = q by omega, hu] at h1
  refine ⟨b, off, ha, ?_⟩
  have h2 := hc (q % 8) (by omega)
  rw [← h1] at h2
  rw [← h2]
  congr 2
  omega
theorem TsAt.take {w : World} {A : Option Addr} {V : List Rv} (h : TsAt w A V) (k : Nat) (hk : k ≤ V.length) : TsAt w A (V.take k) := by
  intro j u hu
  rw [← cellsT_take7 V k hk, List.getElem?_take] at hu
  split at hu
  · exact h j u hu
  · cases hu
theorem TsAt.drop {w : World} {g k : Nat} {V : List Rv} (h : TsAt w (some ⟨g, 0, none⟩) V) (hk : k ≤ V.length) : TsAt w (some ⟨g, k * 8, none⟩) (V.drop k) := by
  intro j u hu
  rw [← cellsT_drop7 V k hk, List.getElem?_drop] at hu
  obtain ⟨b, off, ha, hc⟩ := h (k * 8 + j) u hu
  simp only [Option.some.injEq, Addr.mk.injEq, and_true] at ha
  obtain ⟨rfl, rfl⟩ := ha
  exact ⟨g, k * 8, rfl, by simpa using hc⟩
theorem TsAt.empty {w : World} {A : Option Addr} {V : List Rv} (h : V = []) : TsAt w A V := by
  subst h
  intro j u hu
  simp [cellsT] at hu
theorem TsAt.blk {w : World} {L : Nat} {v : Rv} {cs : Array Value} (h : Blk w L 35 cs) (e : cs = v.cs.toArray) : TsAt w (some ⟨L, 0, none⟩) [v] := by
  subst e
  intro j u hu
  refine ⟨L, 0, rfl, ?_⟩
  rw [Nat.zero_add, h.cells j]
  simpa [cellsT] using hu

section
variable {P : Program} {t e : TypeId} {i : TypeInfo}
/-- Appending routes to a list that the call owns, as one step of a region that draws. -/
theorem step_apT (w : World) {ops : Array Oper} {o : Oper} {a : Act} {K : Act → World → Prop} {Q : Exit → Act → World → Prop} {E : Prop} (hgd : o.guard = none) (s x : Operand)
    (ho : o.op = .call { callee := .builtin .append, args := #[s, x], argTypes := #[t, t] }) (base : Nat) (zero : Value) (ht : P.underlying t = some (.slice e)) (hi : P.info? e = some i) (hz : i.zero = some zero) (hs : i.size = 8) (hb : i.bytes = 80) (hz1 : zero.cells.size = 8)
    (v : Value) (rs : List Rv) (hsv : a.eval s = v) (hown : w.ownsRow base e 8 v rs.length (cellsT rs))
    (ao : Option Addr) (m c : Nat) (zs : List Rv) (hxv : a.eval x = .slice ao m c) (hsrc : TsAt w ao zs) (hm : zs.length = m) (hnone : ao = none → m = 0 ∧ c = 0) (hle : rs.length + m ≤ 4194304) (hbase : base ≤ w.heap.size)
    (h : ∀ v' w', w'.ownsRow base e 8 v' (rs ++ zs).length (cellsT (rs ++ zs)) → w.grownBy w' v.ownBlock → K (a.put o.dst v') w') :
    if Region.wanted o (yielded ops a.tmps) = true then Oper.wp P o a w K Q else E := by
  have hw : Region.wanted o (yielded ops a.tmps) = true := by simp [Region.wanted, hgd]
  rw [if_pos hw]
  have key : ∃ v' w', (Builtin.append_ #[t, t] o.type #[v, .slice ao m c]).run P w = .ok v' w' ∧ w'.ownsRow base e 8 v' (rs ++ zs).length (cellsT (rs ++ zs)) ∧ w.grownBy w' v.ownBlock := by
    cases ao with
    | none =>
      obtain ⟨rfl, rfl⟩ := hnone rfl
      obtain rfl : zs = [] := List.eq_nil_of_length_eq_zero hm
      have hrun := run_append_owned_none (P := P) w base t o.type e i 8 ht hi v rs.length _ hown
      exact ⟨v, w, by simpa using hrun, by simpa using hown, World.grownBy.refl _ _⟩
    | some ad =>
      have hnews : ∀ j u, (cellsT zs)[j]? = some u → w.cell? (ad.add j) = some u := by
        intro j u hu
        obtain ⟨b, off, ha, hc⟩ := hsrc j u hu
        obtain rfl := Option.some.inj ha
        rw [Addr.add_lit]
        exact hc
      obtain ⟨v', w', hr, h2, h3, _, h5⟩ := run_append_own_at (P := P) w base t o.type e i zero 8 80 ht hi hz hs hb hz1 (by decide) v rs.length _ hown ad m c (cellsT zs) (by rw [cellsT_len, hm]) hnews (cellsT_one zs) (by unfold maxLen; omega) (by omega) hbase
      exact ⟨v', w', hr, by rw [List.length_append, hm, cellsT_appd]; exact h2, h3⟩
  obtain ⟨v', w', hr, h2, h3⟩ := key
  unfold Oper.wp execOp
  simp only [ho, resolve, invoke, builtin, Sem.run_bind, Sem.run_pure, Result.andThen_ok, List.map_toArray, List.map_cons, List.map_nil, hsv, hxv, hr]
  exact h v' w' h2 h3
end

theorem row_low7 {w : World} {lo lo' n : Nat} {u : Value} {cs : List Value} (h : w.ownsRow lo 35 8 u n cs) (hl : lo' ≤ lo) : w.ownsRow lo' 35 8 u n cs := by
  refine ⟨h.1, ?_⟩
  rcases h.2 with h' | ⟨g', cap', cur, h', hb, r⟩
  · exact .inl h'
  · exact .inr ⟨g', cap', cur, h', by omega, r⟩

/-- The next route is ahead. -/
def nextLt (U : List Rt) (k : Nat) (r : Rt) : Bool := match U[k]? with | some s => s.lt r | none => false

set_option maxRecDepth 100000 in
set_option maxHeartbeats 12800000 in
theorem l7Put_any (p a l o nx md lc : Int) (x : Option Addr) (n c : Nat) (xs : List Int) (A : Option Addr) (N cc : Nat) (V : List Rv) (w : World) (h : RtAt w A V) (hn : V.length = N) (hm : N ≤ 60) (hx : Rv.here w (Rv.mk (Rt.mk p a l o xs nx md lc) x c)) (hxn : xs.length = n) :
    Calls Try.prog 44 #[.slice A N cc, .agg #[.int .i64 p, .int .i64 a, .int .i64 l, .int .i64 o, .slice x n c, .int .i64 nx, .int .i64 md, .int .i64 lc]] w fun e w' => ∃ B d U, e = .returned (.slice B U.length d) ∧ U.map Rv.r = insR ((V.map Rv.r).filter (keepE p a l)) (Rt.mk p a l o xs nx md lc) ∧ RtAt w' B U ∧ New w w' ∧ w'.ownsRow w.heap.size 35 8 (.slice B U.length d) U.length (cellsT U) ∧ (∀ v ∈ U, v ∈ V ∨ v = Rv.mk (Rt.mk p a l o xs nx md lc) x c) := by
  have HN : Hid (V.length = N) := hn
  have HX : Hid (xs.length = n) := hxn
  obtain ⟨i0, hi, hz0, hz1, hz2⟩ := info_parts Try.infoRt
  have N0 := (New.refl w).alloc (.cells #[.int .i64 p, .int .i64 a, .int .i64 l, .int .i64 o, .slice x n c, .int .i64 nx, .int .i64 md, .int .i64 lc] 35)
  have bA := Blk.mk w w.heap.size 35 #[.int .i64 p, .int .i64 a, .int .i64 l, .int .i64 o, .slice x n c, .int .i64 nx, .int .i64 md, .int .i64 lc] rfl
  clear hn hxn
  go_enter Try.func44, Try.ntmps44
  go_upto_region 1 with fail
  generalize w.alloc (.cells #[.int .i64 p, .int .i64 a, .int .i64 l, .int .i64 o, .slice x n c, .int .i64 nx, .int .i64 md, .int .i64 lc] 35) = w0 at *
  have cA := bA.cells
  go_wp2_with fail
  refine (l7Wo_any p a l A N cc V _ (h.new N0) HN.out (by omega)).mono ?_
  rintro e w1 ⟨B, d, rfl, hr1, h1, hrow⟩
  have hle1 : (V.filter (fun u => keepE p a l u.r)).length ≤ N := by
    have h1 := List.length_filter_le (fun u : Rv => keepE p a l u.r) V
    have h2 := HN.out
    omega
  have HM1 : Hid _ := filter_map7 (keepE p a l) V
  have hmem : Hid (∀ v ∈ V.filter (fun u => keepE p a l u.r), v.here w1) := hr1.here
  have hsub : Hid (∀ v ∈ V.filter (fun u => keepE p a l u.r), v ∈ V) := fun v hv => (List.mem_filter.1 hv).1
  generalize V.filter (fun u => keepE p a l u.r) = U at *
  have bA := bA.new h1
  have n1 := N0.trans h1
  clear N0 h1 cA h
  go_wp2
  go_loopw [6] (fun i wr => ∃ k : Nat, k ≤ U.length ∧ i = .int .i64 k ∧ New w1 wr ∧ ∀ (j : Nat) (s : Rt), j < k → (U.map Rv.r)[j]? = some s → s.lt (Rt.mk p a l o xs nx md lc) = true) (fun i _ => U.length - (intOf i).toNat)
  case atStart => exact ⟨0, Nat.zero_le _, rfl, New.refl _, by intro j s hj; omega⟩
  case round =>
    obtain ⟨k, hk, rfl, hnw, hall⟩ := hrel
    have HALL : Hid _ := hall
    clear hall
    obtain ⟨t, ht⟩ : ∃ t, Hid (nextLt (U.map Rv.r) k (Rt.mk p a l o xs nx md lc) = t) := ⟨_, rfl⟩
    have bAr := bA.new hnw
    go_upto_region 3 with fail
    go_cut [24] from 13 to 23 (fun u wx => u = .bool t ∧ New wr wx)
    case first =>
      by_cases hlt : k < U.length
      · obtain ⟨b, off, p', a', l', o', nx', md', lc', x', m', d', ys, hA2, hv, hlen, hns, hnl, hmx, q0, q1, q2, q3, q4, q5, q6, q7⟩ := (hr1.new hnw).at k hlt
        subst hA2
        have ht' : t = Rt.lt ⟨p', a', l', o', ys, nx', md', lc'⟩ (Rt.mk p a l o xs nx md lc) := by
          have := ht.out
          unfold nextLt at this
          rw [List.getElem?_map, hv] at this
          exact this.symm
        have HT : Hid (decide (cmpR p' a' l' p a l < 0) = t) := ht'.symm
        clear hv hlen hns hnl ht'
        have X0 := cell_regrown q0
        have X1 := cell_regrown q1
        have X2 := cell_regrown q2
        have X3 := cell_regrown q3
        have X4 := cell_regrown q4
        have X5 := cell_regrown q5
        have X6 := cell_regrown q6
        have X7 := cell_regrown q7
        have BT := blk_regrown bAr
        refine wp_region_quiet_below (by kernel_rfl) (by kernel_rfl) ?_
        repeat (go_big_quiet_step ((go_at_call 35; exact calls_regrown (behind7 p' a' l' o' nx' md' lc' x' m' d' p a l o nx md lc x n c t _ HT.out))))
        refine wpQuiet_nil ?_
        rintro w2 hn2
        replace hn2 := new_of_regrown hn2
        go_wp2_with fail
        go_meet
        case rel => exact ⟨rfl, hn2⟩
      · have ht' : t = false := by
          have := ht.out
          unfold nextLt at this
          have hno : (U.map Rv.r)[k]? = none := List.getElem?_eq_none (by rw [List.length_map]; omega)
          simp only [hno] at this
          exact this.symm
        subst ht'
        refine wp_region_quiet_below (by kernel_rfl) (by kernel_rfl) ?_
        repeat (go_big_quiet_step (fail))
        refine wpQuiet_nil ?_
        rintro w2 hn2
        replace hn2 := new_of_regrown hn2
        go_wp2_with fail
        go_meet
        case rel => exact ⟨rfl, hn2⟩
    case rest =>
    obtain ⟨rfl, hn2⟩ := hcut
    generalize wc = w2 at *
    have hnw2 := hnw.trans hn2
    have bA2 := bAr.new hn2
    cases t with
    | true =>
      have hkl : k < U.length := by
        rcases Nat.lt_or_ge k U.length with e | e
        · exact e
        · have := ht.out
          unfold nextLt at this
          have hno : (U.map Rv.r)[k]? = none := List.getElem?_eq_none (by rw [List.length_map]; omega)
          simp only [hno] at this
          cases this
      go_wp2
      go_roundw
      case rel =>
        refine ⟨k + 1, by omega, by go_num, hnw2, ?_⟩
        intro j s hj hs
        rcases Nat.lt_or_eq_of_le (show j ≤ k by omega) with e | e
        · exact HALL.out j s e hs
        · subst e
          have := ht.out
          unfold nextLt at this
          rw [hs] at this
          exact this
      case measure => simp [intOf]; omega
    | false =>
      have HT : Hid (tw (fun s => s.lt (Rt.mk p a l o xs nx md lc)) (U.map Rv.r) = k) := tw_of _ _ k (by simpa using hk) (fun j s hj hs => HALL.out j s hj hs) (fun s hs => by have := ht.out; unfold nextLt at this; rw [hs] at this; exact this)
      have hts := (hr1.new hnw2).ts
      have hL1 : (U.take k).length = k := by rw [List.length_take]; omega
      have hL2 : (U.drop k).length = U.length - k := List.length_drop
      have eC : Hid (#[.int .i64 p, .int .i64 a, .int .i64 l, .int .i64 o, .slice x n c, .int .i64 nx, .int .i64 md, .int .i64 lc] = (Rv.cs (Rv.mk (Rt.mk p a l o xs nx md lc) x c)).toArray) := by show _ = _; unfold Rv.cs; simp only [HX.out]
      have cA2 := bA2.cells
      have cA3 : ∀ ob j, (w2.alloc ob).cell? ⟨w.heap.size, j, none⟩ = #[Value.int .i64 p, .int .i64 a, .int .i64 l, .int .i64 o, .slice x n c, .int .i64 nx, .int .i64 md, .int .i64 lc][j]? := fun ob => (bA2.alloc ob).cells
      cases B with
      | none =>
        obtain ⟨h0, rfl⟩ := hrow.1 rfl
        obtain rfl := List.eq_nil_of_length_eq_zero h0
        obtain rfl : k = 0 := by simpa using hk
        have hT1 : TsAt w2 none (([] : List Rv).take 0) := TsAt.empty rfl
        have hT2 : TsAt w2 none (([] : List Rv).drop 0) := TsAt.empty rfl
        go_upto_region 5 with fail
        go_region_law (first
          | (refine step_apT _ rfl (.tmp 31) (.tmp 33) rfl w2.heap.size _ Try.underlying24 hi hz0 hz1 hz2 rfl _ [] rfl (by first | exact row_lit7 (Blk.mk _ _ _ _ (by first | rfl | simp)) (by first | exact Nat.le_refl _ | (simp; done)) | exact row_turn7 (row_lit7 (Blk.mk _ _ _ _ (by first | rfl | simp)) (by first | exact Nat.le_refl _ | (simp; done))) ((New.refl _).alloc _) (fun _ _ f => f) | exact row_turn7 (row_lit7 (Blk.mk _ _ _ _ (by first | rfl | simp)) (by first | exact Nat.le_refl _ | (simp; done))) ((New.refl _).drew) (fun _ _ f => f) | exact row_turn7 (row_lit7 (Blk.mk _ _ _ _ (by first | rfl | simp)) (by first | exact Nat.le_refl _ | (simp; done))) (((New.refl _).alloc _).drew) (fun _ _ f => f)) _ 1 1 [Rv.mk (Rt.mk p a l o xs nx md lc) x c] rfl (by first | exact TsAt.blk (Blk.mk _ _ _ _ (by first | rfl | simp)) eC.out | exact TsAt.blk ((Blk.mk _ _ _ _ (by first | rfl | simp)).alloc _) eC.out | exact TsAt.blk ((Blk.mk _ _ _ _ (by first | rfl | simp)).new ((New.refl _).drew)) eC.out | exact TsAt.blk (((Blk.mk _ _ _ _ (by first | rfl | simp)).alloc _).new ((New.refl _).drew)) eC.out | exact TsAt.blk bL3 eC.out | exact TsAt.blk bL4 eC.out) rfl (by intro e; cases e) (by simp) (by first | (simp; done) | (simp; omega)) ?_; intro v4 w4 ho4 hg4; have N4 : New w2 w4 := New.grow (by first | exact (New.refl _).alloc _ | exact ((New.refl _).alloc _).alloc _ | exact ((New.refl _).drew).alloc _ | exact (((New.refl _).drew).alloc _).alloc _ | exact ((New.refl _).alloc _).drew | exact (((New.refl _).alloc _).alloc _).drew) hg4 (by intro j hj; have e' := Option.some.inj hj; rw [← e']; first | exact Nat.le_refl _ | (simp; done)))
          | (refine step_apT _ rfl (.tmp 34) (.tmp 37) rfl w2.heap.size _ Try.underlying24 hi hz0 hz1 hz2 rfl _ ([] ++ [Rv.mk (Rt.mk p a l o xs nx md lc) x c]) rfl ho4 none 0 0 [] rfl (TsAt.empty rfl) rfl (fun _ => ⟨rfl, rfl⟩) (by simp) (by have := N4.size; omega) ?_; intro v5 w5 ho5 hg5; have N5 : New w2 w5 := New.grow N4 hg5 (fun j hj => (row_rng7 ho4 j hj).1)))
        all_goals
          go_wp2
          go_ret
          obtain ⟨B5, d5, rfl, hB5, -⟩ := row_rt7 ho5 (fun v hv => by
            simp only [List.nil_append, List.append_nil, List.mem_singleton] at hv
            rw [hv]
            exact hx.new ((n1.trans hnw2).trans N5))
          exact ⟨B5, d5, _, rfl, by rw [← HM1.out]; unfold insR; rw [HT.out]; simp, hB5, (n1.trans hnw2).trans N5, row_low7 ho5 (n1.trans hnw2).size, fun v hv => by simp only [List.nil_append, List.append_nil, List.mem_singleton] at hv; exact .inr hv⟩
      | some y =>
        obtain ⟨g, off, spot⟩ := y
        obtain ⟨e1, e2, hUd, hdm⟩ := hrow.2 _ rfl
        simp only at e1 e2
        subst e1
        subst e2
        have hT1 := hts.take k hk
        have hd63 : d ≤ 9223372036854775807 := by unfold maxLen at hdm; omega
        have hkd : k ≤ d := by omega
        by_cases hdk : d = k
        · have hUk : U.length ≤ k := by omega
          go_upto_region 5 with fail
          go_region_law (first
            | (refine step_apT _ rfl (.tmp 27) (.tmp 30) rfl w2.heap.size _ Try.underlying24 hi hz0 hz1 hz2 rfl _ [] rfl (by first | exact row_lit7 (Blk.mk _ _ _ _ (by first | rfl | simp)) (by first | exact Nat.le_refl _ | (simp; done)) | exact row_turn7 (row_lit7 (Blk.mk _ _ _ _ (by first | rfl | simp)) (by first | exact Nat.le_refl _ | (simp; done))) ((New.refl _).alloc _) (fun _ _ f => f) | exact row_turn7 (row_lit7 (Blk.mk _ _ _ _ (by first | rfl | simp)) (by first | exact Nat.le_refl _ | (simp; done))) ((New.refl _).drew) (fun _ _ f => f) | exact row_turn7 (row_lit7 (Blk.mk _ _ _ _ (by first | rfl | simp)) (by first | exact Nat.le_refl _ | (simp; done))) (((New.refl _).alloc _).drew) (fun _ _ f => f)) (some ⟨g, 0, none⟩) k _ (U.take k) rfl (hT1.new (by first | exact (New.refl _).alloc _ | exact ((New.refl _).alloc _).alloc _ | exact ((New.refl _).drew).alloc _ | exact (((New.refl _).drew).alloc _).alloc _ | exact ((New.refl _).alloc _).drew | exact (((New.refl _).alloc _).alloc _).drew)) hL1 (by intro e; cases e) (by simp; omega) (by first | (simp; done) | (simp; omega)) ?_; intro v3 w3 ho3 hg3; have N3 : New w2 w3 := New.grow (by first | exact (New.refl _).alloc _ | exact ((New.refl _).alloc _).alloc _ | exact ((New.refl _).drew).alloc _ | exact (((New.refl _).drew).alloc _).alloc _ | exact ((New.refl _).alloc _).drew | exact (((New.refl _).alloc _).alloc _).drew) hg3 (by intro j hj; have e' := Option.some.inj hj; rw [← e']; first | exact Nat.le_refl _ | (simp; done)); (try have bL3 : Blk w3 (w2.heap.size + 1) 35 #[.int .i64 p, .int .i64 a, .int .i64 l, .int .i64 o, .slice x n c, .int .i64 nx, .int .i64 md, .int .i64 lc] := (by first | exact ((Blk.mk _ (w2.heap.size + 1) _ _ (by simp)).new ((New.refl _).drew)).grow hg3 (by intro e; have e' := Option.some.inj e; simp at e') | exact (Blk.mk _ (w2.heap.size + 1) _ _ (by simp)).grow hg3 (by intro e; have e' := Option.some.inj e; simp at e'))); (try have bL4 : Blk w3 w2.heap.size 35 #[.int .i64 p, .int .i64 a, .int .i64 l, .int .i64 o, .slice x n c, .int .i64 nx, .int .i64 md, .int .i64 lc] := (by first | exact (((Blk.mk _ w2.heap.size _ _ rfl).alloc _).new ((New.refl _).drew)).grow hg3 (by intro e; have e' := Option.some.inj e; simp at e') | exact ((Blk.mk _ w2.heap.size _ _ rfl).alloc _).grow hg3 (by intro e; have e' := Option.some.inj e; simp at e'))); have cA4 := (bA2.new N3).cells; have cA5 := fun ob => ((bA2.new N3).alloc ob).cells)
            | (refine step_apT _ rfl (.tmp 31) (.tmp 33) rfl w2.heap.size _ Try.underlying24 hi hz0 hz1 hz2 rfl _ ([] ++ U.take k) rfl (by first | exact ho3 | exact row_turn7 ho3 ((New.refl _).alloc _) (fun _ _ f => f)) _ 1 1 [Rv.mk (Rt.mk p a l o xs nx md lc) x c] rfl (by first | exact TsAt.blk (Blk.mk _ _ _ _ (by first | rfl | simp)) eC.out | exact TsAt.blk ((Blk.mk _ _ _ _ (by first | rfl | simp)).alloc _) eC.out | exact TsAt.blk ((Blk.mk _ _ _ _ (by first | rfl | simp)).new ((New.refl _).drew)) eC.out | exact TsAt.blk (((Blk.mk _ _ _ _ (by first | rfl | simp)).alloc _).new ((New.refl _).drew)) eC.out | exact TsAt.blk bL3 eC.out | exact TsAt.blk bL4 eC.out) rfl (by intro e; cases e) (by simp; omega) (by have := N3.size; first | omega | (simp; omega)) ?_; intro v4 w4 ho4 hg4; have N4 : New w2 w4 := New.grow (by first | exact N3 | exact N3.alloc _) hg4 (fun j hj => (row_rng7 ho3 j hj).1))
            | (refine step_apT _ rfl (.tmp 34) (.tmp 37) rfl w2.heap.size _ Try.underlying24 hi hz0 hz1 hz2 rfl _ ([] ++ U.take k ++ [Rv.mk (Rt.mk p a l o xs nx md lc) x c]) rfl ho4 _ _ _ (U.drop k) rfl (TsAt.empty (List.drop_eq_nil_of_le (by omega))) (by rw [List.length_drop]; omega) (by intro e; first | cases e | exact ⟨rfl, rfl⟩ | exact ⟨by omega, by omega⟩) (by simp; omega) (by have := N4.size; omega) ?_; intro v5 w5 ho5 hg5; have N5 : New w2 w5 := New.grow N4 hg5 (fun j hj => (row_rng7 ho4 j hj).1)))
          all_goals
            go_wp2
            go_ret
            obtain ⟨B5, d5, rfl, hB5, -⟩ := row_rt7 ho5 (fun v hv => by
              simp only [List.nil_append, List.mem_append, List.mem_singleton] at hv
              rcases hv with (hv | hv) | hv
              · exact (hmem.out v (List.mem_of_mem_take hv)).new (hnw2.trans N5)
              · rw [hv]; exact hx.new ((n1.trans hnw2).trans N5)
              · exact (hmem.out v (List.mem_of_mem_drop hv)).new (hnw2.trans N5))
            exact ⟨B5, d5, _, rfl, by rw [← HM1.out]; unfold insR; rw [HT.out]; simp [List.map_take, List.map_drop], hB5, (n1.trans hnw2).trans N5, row_low7 ho5 (n1.trans hnw2).size, fun v hv => by simp only [List.nil_append, List.mem_append, List.mem_singleton] at hv; rcases hv with (hv | hv) | hv; exact .inl (hsub.out v (List.mem_of_mem_take hv)); exact .inr hv; exact .inl (hsub.out v (List.mem_of_mem_drop hv))⟩
        · have hT2 := hts.drop hk
          go_upto_region 5 with fail
          go_region_law (first
            | (refine step_apT _ rfl (.tmp 27) (.tmp 30) rfl w2.heap.size _ Try.underlying24 hi hz0 hz1 hz2 rfl _ [] rfl (by first | exact row_lit7 (Blk.mk _ _ _ _ (by first | rfl | simp)) (by first | exact Nat.le_refl _ | (simp; done)) | exact row_turn7 (row_lit7 (Blk.mk _ _ _ _ (by first | rfl | simp)) (by first | exact Nat.le_refl _ | (simp; done))) ((New.refl _).alloc _) (fun _ _ f => f) | exact row_turn7 (row_lit7 (Blk.mk _ _ _ _ (by first | rfl | simp)) (by first | exact Nat.le_refl _ | (simp; done))) ((New.refl _).drew) (fun _ _ f => f) | exact row_turn7 (row_lit7 (Blk.mk _ _ _ _ (by first | rfl | simp)) (by first | exact Nat.le_refl _ | (simp; done))) (((New.refl _).alloc _).drew) (fun _ _ f => f)) (some ⟨g, 0, none⟩) k d (U.take k) rfl (hT1.new (by first | exact (New.refl _).alloc _ | exact ((New.refl _).alloc _).alloc _ | exact ((New.refl _).drew).alloc _ | exact (((New.refl _).drew).alloc _).alloc _ | exact ((New.refl _).alloc _).drew | exact (((New.refl _).alloc _).alloc _).drew)) hL1 (by intro e; cases e) (by simp; omega) (by first | (simp; done) | (simp; omega)) ?_; intro v3 w3 ho3 hg3; have N3 : New w2 w3 := New.grow (by first | exact (New.refl _).alloc _ | exact ((New.refl _).alloc _).alloc _ | exact ((New.refl _).drew).alloc _ | exact (((New.refl _).drew).alloc _).alloc _ | exact ((New.refl _).alloc _).drew | exact (((New.refl _).alloc _).alloc _).drew) hg3 (by intro j hj; have e' := Option.some.inj hj; rw [← e']; first | exact Nat.le_refl _ | (simp; done)); (try have bL3 : Blk w3 (w2.heap.size + 1) 35 #[.int .i64 p, .int .i64 a, .int .i64 l, .int .i64 o, .slice x n c, .int .i64 nx, .int .i64 md, .int .i64 lc] := (by first | exact ((Blk.mk _ (w2.heap.size + 1) _ _ (by simp)).new ((New.refl _).drew)).grow hg3 (by intro e; have e' := Option.some.inj e; simp at e') | exact (Blk.mk _ (w2.heap.size + 1) _ _ (by simp)).grow hg3 (by intro e; have e' := Option.some.inj e; simp at e'))); (try have bL4 : Blk w3 w2.heap.size 35 #[.int .i64 p, .int .i64 a, .int .i64 l, .int .i64 o, .slice x n c, .int .i64 nx, .int .i64 md, .int .i64 lc] := (by first | exact (((Blk.mk _ w2.heap.size _ _ rfl).alloc _).new ((New.refl _).drew)).grow hg3 (by intro e; have e' := Option.some.inj e; simp at e') | exact ((Blk.mk _ w2.heap.size _ _ rfl).alloc _).grow hg3 (by intro e; have e' := Option.some.inj e; simp at e'))); have cA4 := (bA2.new N3).cells; have cA5 := fun ob => ((bA2.new N3).alloc ob).cells)
            | (refine step_apT _ rfl (.tmp 31) (.tmp 33) rfl w2.heap.size _ Try.underlying24 hi hz0 hz1 hz2 rfl _ ([] ++ U.take k) rfl (by first | exact ho3 | exact row_turn7 ho3 ((New.refl _).alloc _) (fun _ _ f => f)) _ 1 1 [Rv.mk (Rt.mk p a l o xs nx md lc) x c] rfl (by first | exact TsAt.blk (Blk.mk _ _ _ _ (by first | rfl | simp)) eC.out | exact TsAt.blk ((Blk.mk _ _ _ _ (by first | rfl | simp)).alloc _) eC.out | exact TsAt.blk ((Blk.mk _ _ _ _ (by first | rfl | simp)).new ((New.refl _).drew)) eC.out | exact TsAt.blk (((Blk.mk _ _ _ _ (by first | rfl | simp)).alloc _).new ((New.refl _).drew)) eC.out | exact TsAt.blk bL3 eC.out | exact TsAt.blk bL4 eC.out) rfl (by intro e; cases e) (by simp; omega) (by have := N3.size; first | omega | (simp; omega)) ?_; intro v4 w4 ho4 hg4; have N4 : New w2 w4 := New.grow (by first | exact N3 | exact N3.alloc _) hg4 (fun j hj => (row_rng7 ho3 j hj).1))
            | (refine step_apT _ rfl (.tmp 34) (.tmp 37) rfl w2.heap.size _ Try.underlying24 hi hz0 hz1 hz2 rfl _ ([] ++ U.take k ++ [Rv.mk (Rt.mk p a l o xs nx md lc) x c]) rfl ho4 (some ⟨g, k * 8, none⟩) (U.length - k) (d - k) (U.drop k) rfl (hT2.new N4) hL2 (by intro e; cases e) (by simp; omega) (by have := N4.size; omega) ?_; intro v5 w5 ho5 hg5; have N5 : New w2 w5 := New.grow N4 hg5 (fun j hj => (row_rng7 ho4 j hj).1)))
          all_goals
            go_wp2
            go_ret
            obtain ⟨B5, d5, rfl, hB5, -⟩ := row_rt7 ho5 (fun v hv => by
              simp only [List.nil_append, List.mem_append, List.mem_singleton] at hv
              rcases hv with (hv | hv) | hv
              · exact (hmem.out v (List.mem_of_mem_take hv)).new (hnw2.trans N5)
              · rw [hv]; exact hx.new ((n1.trans hnw2).trans N5)
              · exact (hmem.out v (List.mem_of_mem_drop hv)).new (hnw2.trans N5))
            exact ⟨B5, d5, _, rfl, by rw [← HM1.out]; unfold insR; rw [HT.out]; simp [List.map_take, List.map_drop], hB5, (n1.trans hnw2).trans N5, row_low7 ho5 (n1.trans hnw2).size, fun v hv => by simp only [List.nil_append, List.mem_append, List.mem_singleton] at hv; rcases hv with (hv | hv) | hv; exact .inl (hsub.out v (List.mem_of_mem_take hv)); exact .inr hv; exact .inl (hsub.out v (List.mem_of_mem_drop hv))⟩

end Go.Proofs.Ytjampcfikfafkaa
