/- What is proved here: what Push of a heap of routes, and container/heap's Push, do, for a heap that can be read. -/
import Derived.Test.YtkaaefieglhdlaaH8Po
namespace Go.Proofs.Ytkaaefieglhdlaa
open Go.RowKit Go.Sort
set_option linter.unusedVariables false
set_option linter.unusedSimpArgs false

section
variable {P : Program} {t e : TypeId} {i : TypeInfo}
/-- A route is put behind a row of the call's own, in a drawn region. -/
theorem hw_apT (w : World) {oi : Oper} {a : Act} {K : Act → World → Prop} {Q : Exit → Act → World → Prop} {dt : Option Tmp} (s x : Operand) (hdt : oi.dst = dt)
    (ho : oi.op = .call { callee := .builtin .append, args := #[s, x], argTypes := #[t, t] }) (base : Nat) (zero : Value) (ht : P.underlying t = some (.slice e)) (hi : P.info? e = some i) (hz : i.zero = some zero) (hs : i.size = 8) (hb : i.bytes = 80) (hz1 : zero.cells.size = 8)
    (v : Value) (rs : List Rv) (hsv : a.eval s = v) (hown : w.ownsRow base e 8 v rs.length (cellsT rs))
    (L : Nat) (r : Rv) (hxv : a.eval x = .slice (some ⟨L, 0, none⟩) 1 1) (hsrc : ∀ j, w.cell? ⟨L, j, none⟩ = r.cs[j]?) (hle : rs.length + 1 ≤ 4194304) (hbase : base ≤ w.heap.size)
    (h : ∀ v' w', w'.ownsRow base e 8 v' (rs ++ [r]).length (cellsT (rs ++ [r])) → w.grownBy w' v.ownBlock → (v'.ownBlock = v.ownBlock ∨ v'.ownBlock = some w.heap.size) → K (a.put dt v') w') : Oper.wp P oi a w K Q := by
  have hnews : ∀ j u, r.cs[j]? = some u → w.cell? ((⟨L, 0, none⟩ : Addr).add j) = some u := by
    intro j u hu
    rw [Addr.add_lit, Nat.zero_add, hsrc j, hu]
  obtain ⟨v', w', hr, h2, h3, _, h5⟩ := run_append_own_at (P := P) w base t oi.type e i zero 8 80 ht hi hz hs hb hz1 (by decide) v rs.length (cellsT rs) hown ⟨L, 0, none⟩ 1 1 r.cs rfl hnews (by simp [Rv.cs, Value.oneCell']) (by unfold maxLen; omega) (by omega) hbase
  subst hdt
  unfold Oper.wp execOp
  simp only [ho, resolve, invoke, builtin, Sem.run_bind, Sem.run_pure, Result.andThen_ok, List.map_toArray, List.map_cons, List.map_nil, hsv, hxv, hr]
  exact h v' w' (by rw [cellsT_snoc]; simpa using h2) h3 h5
end

theorem Try.htHpE : Try.prog.underlying 76 = some (.slice 31) := by kernel_rfl

set_option maxRecDepth 100000 in
set_option maxHeartbeats 6400000 in
theorem pushm_heap (H b c lo : Nat) (V : List Rv) (r : Rv) (n : Nat) (w : World) (hd0 : Blk w H 76 #[.slice (some ⟨b, 0, none⟩) V.length c]) (hrow0 : w.ownsRow lo 31 8 (.slice (some ⟨b, 0, none⟩) V.length c) V.length (cellsT V)) (hlo : lo ≤ H) (hne : ¬ H = b) (hm : V.length + 1 ≤ 4194304) (hb : lo ≤ w.heap.size) (hn : V.length = n) : Calls Try.prog 100 #[.pointer (some ⟨H, 0, none⟩), .iface 31 r.val] w fun e w' => e = .returned (.tuple #[]) ∧ ∃ g c', Blk w' H 76 #[.slice (some ⟨g, 0, none⟩) (V ++ [r]).length c'] ∧ w'.ownsRow lo 31 8 (.slice (some ⟨g, 0, none⟩) (V ++ [r]).length c') (V ++ [r]).length (cellsT (V ++ [r])) ∧ lo ≤ g ∧ ¬ H = g ∧ Turn (fun k => lo ≤ k) w w' := by
  obtain ⟨⟨p, a, l, o, xs, nx, md, lc⟩, x, d⟩ := r
  obtain ⟨i0, hi, hz0, hz1, hz2⟩ := info_parts Try.infoRt
  have hd : Blk w H 76 #[.slice (some ⟨b, 0, none⟩) n c] := by rw [← hn]; exact hd0
  have hrow : w.ownsRow lo 31 8 (.slice (some ⟨b, 0, none⟩) n c) V.length (cellsT V) := by rw [← hn]; exact hrow0
  have cH := (hd.new ((New.refl w).drew)).cells
  have hlb : lo ≤ b := (row_rng7 hrow0 b rfl).1
  unfold Rv.val
  clear hd0 hrow0
  go_enter Try.func100, Try.ntmps100
  refine hw_start (n := 10) (S := fun X => True) rfl (by kernel_rfl) (trivial) (fun hH => ?_)
  refine' hw_take 0 (some 4) _ rfl rfl (by kernel_rfl) (by kernel_rfl) (by kernel_rfl) (fun _ _ _ h => h) (by rfl) hH ?hy1 ?rest1
  case hy1 =>
    intro X hX
    go_simp
    try rfl
  simp only [Act.put, List.setIfInBounds_toArray, List.set_cons_zero, List.set_cons_succ]
  refine' hw_take 1 (some 5) _ rfl rfl (by kernel_rfl) (by kernel_rfl) (by kernel_rfl) (fun _ _ _ h => h) (by rfl) hH ?hy2 ?rest2
  case hy2 =>
    intro X hX
    go_simp
    try rfl
  simp only [Act.put, List.setIfInBounds_toArray, List.set_cons_zero, List.set_cons_succ]
  refine' hw_take 2 (some 6) _ rfl rfl (by kernel_rfl) (by kernel_rfl) (by kernel_rfl) (fun _ _ _ h => h) (by rfl) hH ?hy3 ?rest3
  case hy3 =>
    intro X hX
    go_simp
    try rfl
  simp only [Act.put, List.setIfInBounds_toArray, List.set_cons_zero, List.set_cons_succ]
  refine' hw_take 4 (some 8) _ rfl rfl (by kernel_rfl) (by kernel_rfl) (by kernel_rfl) (fun _ _ _ h => h) (by rfl) hH ?hy4 ?rest4
  case hy4 =>
    intro X hX
    go_simp
    try rfl
  simp only [Act.put, List.setIfInBounds_toArray, List.set_cons_zero, List.set_cons_succ]
  refine' hw_take 5 (some 9) (.agg #[.int .i64 p, .int .i64 a, .int .i64 l, .int .i64 o, .slice x xs.length d, .int .i64 nx, .int .i64 md, .int .i64 lc]) rfl rfl (by kernel_rfl) (by kernel_rfl) (by kernel_rfl) (fun _ _ _ h => h) (by rfl) hH ?hyTA ?restTA
  case hyTA =>
    intro X hX
    go_simp
    try rfl
  simp only [Act.put, List.setIfInBounds_toArray, List.set_cons_zero, List.set_cons_succ]
  refine wpAnyH_ready (rs := [3, 6]) (by kernel_rfl) (by simp) ?_
  refine hw_step 3 (some 7) rfl rfl (by rfl) (fun K hK => ?_) (hw_step 6 (some 10) rfl rfl (by rfl) (fun K hK => ?_) AllReadyH.nil)
  · go_simp
    refine hK.out _ _ trivial (fun _ => ?_)
    simp only [Act.put, List.setIfInBounds_toArray, List.set_cons_zero, List.set_cons_succ]
    refine hw_call 6 (some 10) rfl rfl (by decide +kernel) (by rfl) (fun K hK => ?_)
    go_simp
    have bL := (Blk.mk w w.heap.size 31 #[.int .i64 p, .int .i64 a, .int .i64 l, .int .i64 o, .slice x xs.length d, .int .i64 nx, .int .i64 md, .int .i64 lc] rfl).new ((New.refl _).drew)
    have T1 : New w (w.alloc (.cells #[.int .i64 p, .int .i64 a, .int .i64 l, .int .i64 o, .slice x xs.length d, .int .i64 nx, .int .i64 md, .int .i64 lc] 31)).drew := ((New.refl w).alloc _).drew
    have hd1 := hd.new T1
    have row1 := row_turn7 hrow T1 (fun _ _ f => f)
    have hsz : lo ≤ (w.alloc (.cells #[.int .i64 p, .int .i64 a, .int .i64 l, .int .i64 o, .slice x xs.length d, .int .i64 nx, .int .i64 md, .int .i64 lc] 31)).drew.heap.size := by have := T1.size; omega
    generalize (w.alloc (.cells #[.int .i64 p, .int .i64 a, .int .i64 l, .int .i64 o, .slice x xs.length d, .int .i64 nx, .int .i64 md, .int .i64 lc] 31)).drew = w1 at *
    refine hK.out _ _ trivial (fun _ => ?_)
    simp only [Act.put, List.setIfInBounds_toArray, List.set_cons_zero, List.set_cons_succ]
    refine hw_call 7 (some 11) rfl rfl (by decide +kernel) (by rfl) (fun K hK => ?_)
    refine hw_apT _ (.tmp 7) (.tmp 10) rfl rfl lo _ Try.htHpE hi hz0 hz1 hz2 rfl (.slice (some ⟨b, 0, none⟩) n c) V rfl row1 w.heap.size ⟨⟨p, a, l, o, xs, nx, md, lc⟩, x, d⟩ rfl (fun j => (bL.cells j).trans (by simp [Rv.cs])) hm hsz ?_
    intro v' w5 hv' hg hob
    rcases row_form7 hv' with ⟨-, h0⟩ | ⟨g, c', rfl, hlog, hgs, -⟩
    · exact absurd h0 (by simp)
    have hgn : ¬ H = g := by
      have h1 := hd1.lt
      rcases hob with e | e <;> (simp only [Value.ownBlock, Option.some.injEq] at e; omega)
    have HV' : Hid (w5.ownsRow lo 31 8 (.slice (some ⟨g, 0, none⟩) (V ++ [(⟨⟨p, a, l, o, xs, nx, md, lc⟩, x, d⟩ : Rv)]).length c') (V ++ [(⟨⟨p, a, l, o, xs, nx, md, lc⟩, x, d⟩ : Rv)]).length (cellsT (V ++ [(⟨⟨p, a, l, o, xs, nx, md, lc⟩, x, d⟩ : Rv)]))) := hv'
    have hd5 : Blk w5 H 76 #[.slice (some ⟨b, 0, none⟩) n c] := hd1.grow hg (by intro e; simp only [Value.ownBlock, Option.some.injEq] at e; omega)
    have T5 : Turn (fun k => lo ≤ k) w w5 := Turn.trans (T1.turn (S := fun k => lo ≤ k)) ((Turn.of_grown (g := b) hg).mono (fun i _ e => by subst e; omega)) (fun _ _ e => e)
    clear hv' hg hob
    obtain ⟨n', hn'⟩ : ∃ n', (V ++ [(⟨⟨p, a, l, o, xs, nx, md, lc⟩, x, d⟩ : Rv)]).length = n' := ⟨_, rfl⟩
    rw [hn'] at HV' ⊢
    refine hK.out _ _ trivial (fun _ => ?_)
    simp only [Act.put, List.setIfInBounds_toArray, List.set_cons_zero, List.set_cons_succ]
    have cH5 := hd5.cells
    have fH5 := hd5.frees
    refine' hw_take 8 (some 12) _ rfl rfl (by kernel_rfl) (by kernel_rfl) (by kernel_rfl) (fun _ _ _ h => h) (by rfl) hH ?hy5 ?rest5
    case hy5 =>
      intro X hX
      go_simp
      try rfl
    simp only [Act.put, List.setIfInBounds_toArray, List.set_cons_zero, List.set_cons_succ]
    refine hw_call 9 none rfl rfl (by decide +kernel) (by rfl) (fun K hK => ?_)
    go_simp
    have T6 : Turn (fun k => lo ≤ k) w5 (w5.setCell ⟨H, 0, none⟩ (.slice (some ⟨g, 0, none⟩) n' c')) := (Turn.refl (fun k => lo ≤ k) w5).set (p := ⟨H, 0, none⟩) hlo _
    have hd6 : Blk (w5.setCell ⟨H, 0, none⟩ (.slice (some ⟨g, 0, none⟩) n' c')) H 76 #[.slice (some ⟨g, 0, none⟩) n' c'] := hd5.set 0 _
    have row6 : (w5.setCell ⟨H, 0, none⟩ (.slice (some ⟨g, 0, none⟩) n' c')).ownsRow lo 31 8 (.slice (some ⟨g, 0, none⟩) n' c') n' (cellsT (V ++ [(⟨⟨p, a, l, o, xs, nx, md, lc⟩, x, d⟩ : Rv)])) := by
      have h := HV'.out
      rw [← hn'] at h ⊢
      exact row_turn7 h ((Turn.refl (fun k => k = H) w5).set (p := ⟨H, 0, none⟩) rfl _) (by intro k hk e; have e' := Option.some.inj hk; simp only at e'; omega)
    generalize w5.setCell ⟨H, 0, none⟩ (.slice (some ⟨g, 0, none⟩) n' c') = w6 at *
    refine hK.out undef _ trivial (fun _ => ?_)
    try simp only [Act.put, List.setIfInBounds_toArray, List.set_cons_zero, List.set_cons_succ]
    refine wpAnyH_done (by kernel_rfl) ?_ _
    go_wp2
    go_returns
    exact ⟨rfl, g, c', by rw [hn']; exact hd6, by rw [hn']; exact row6, hlog, hgn, Turn.trans T5 T6 (fun _ _ e => e)⟩
  · go_simp
    have bL := (Blk.mk w w.heap.size 31 #[.int .i64 p, .int .i64 a, .int .i64 l, .int .i64 o, .slice x xs.length d, .int .i64 nx, .int .i64 md, .int .i64 lc] rfl).new ((New.refl _).drew)
    have T1 : New w (w.alloc (.cells #[.int .i64 p, .int .i64 a, .int .i64 l, .int .i64 o, .slice x xs.length d, .int .i64 nx, .int .i64 md, .int .i64 lc] 31)).drew := ((New.refl w).alloc _).drew
    have hd1 := hd.new T1
    have row1 := row_turn7 hrow T1 (fun _ _ f => f)
    have hsz : lo ≤ (w.alloc (.cells #[.int .i64 p, .int .i64 a, .int .i64 l, .int .i64 o, .slice x xs.length d, .int .i64 nx, .int .i64 md, .int .i64 lc] 31)).drew.heap.size := by have := T1.size; omega
    generalize (w.alloc (.cells #[.int .i64 p, .int .i64 a, .int .i64 l, .int .i64 o, .slice x xs.length d, .int .i64 nx, .int .i64 md, .int .i64 lc] 31)).drew = w1 at *
    refine hK.out _ _ trivial (fun _ => ?_)
    simp only [Act.put, List.setIfInBounds_toArray, List.set_cons_zero, List.set_cons_succ]
    have cH := hd1.cells
    refine hw_call 3 (some 7) rfl rfl (by decide +kernel) (by rfl) (fun K hK => ?_)
    go_simp
    refine hK.out _ _ trivial (fun _ => ?_)
    simp only [Act.put, List.setIfInBounds_toArray, List.set_cons_zero, List.set_cons_succ]
    refine hw_call 7 (some 11) rfl rfl (by decide +kernel) (by rfl) (fun K hK => ?_)
    refine hw_apT _ (.tmp 7) (.tmp 10) rfl rfl lo _ Try.htHpE hi hz0 hz1 hz2 rfl (.slice (some ⟨b, 0, none⟩) n c) V rfl row1 w.heap.size ⟨⟨p, a, l, o, xs, nx, md, lc⟩, x, d⟩ rfl (fun j => (bL.cells j).trans (by simp [Rv.cs])) hm hsz ?_
    intro v' w5 hv' hg hob
    rcases row_form7 hv' with ⟨-, h0⟩ | ⟨g, c', rfl, hlog, hgs, -⟩
    · exact absurd h0 (by simp)
    have hgn : ¬ H = g := by
      have h1 := hd1.lt
      rcases hob with e | e <;> (simp only [Value.ownBlock, Option.some.injEq] at e; omega)
    have HV' : Hid (w5.ownsRow lo 31 8 (.slice (some ⟨g, 0, none⟩) (V ++ [(⟨⟨p, a, l, o, xs, nx, md, lc⟩, x, d⟩ : Rv)]).length c') (V ++ [(⟨⟨p, a, l, o, xs, nx, md, lc⟩, x, d⟩ : Rv)]).length (cellsT (V ++ [(⟨⟨p, a, l, o, xs, nx, md, lc⟩, x, d⟩ : Rv)]))) := hv'
    have hd5 : Blk w5 H 76 #[.slice (some ⟨b, 0, none⟩) n c] := hd1.grow hg (by intro e; simp only [Value.ownBlock, Option.some.injEq] at e; omega)
    have T5 : Turn (fun k => lo ≤ k) w w5 := Turn.trans (T1.turn (S := fun k => lo ≤ k)) ((Turn.of_grown (g := b) hg).mono (fun i _ e => by subst e; omega)) (fun _ _ e => e)
    clear hv' hg hob
    obtain ⟨n', hn'⟩ : ∃ n', (V ++ [(⟨⟨p, a, l, o, xs, nx, md, lc⟩, x, d⟩ : Rv)]).length = n' := ⟨_, rfl⟩
    rw [hn'] at HV' ⊢
    refine hK.out _ _ trivial (fun _ => ?_)
    simp only [Act.put, List.setIfInBounds_toArray, List.set_cons_zero, List.set_cons_succ]
    have cH5 := hd5.cells
    have fH5 := hd5.frees
    refine' hw_take 8 (some 12) _ rfl rfl (by kernel_rfl) (by kernel_rfl) (by kernel_rfl) (fun _ _ _ h => h) (by rfl) hH ?hy6 ?rest6
    case hy6 =>
      intro X hX
      go_simp
      try rfl
    simp only [Act.put, List.setIfInBounds_toArray, List.set_cons_zero, List.set_cons_succ]
    refine hw_call 9 none rfl rfl (by decide +kernel) (by rfl) (fun K hK => ?_)
    go_simp
    have T6 : Turn (fun k => lo ≤ k) w5 (w5.setCell ⟨H, 0, none⟩ (.slice (some ⟨g, 0, none⟩) n' c')) := (Turn.refl (fun k => lo ≤ k) w5).set (p := ⟨H, 0, none⟩) hlo _
    have hd6 : Blk (w5.setCell ⟨H, 0, none⟩ (.slice (some ⟨g, 0, none⟩) n' c')) H 76 #[.slice (some ⟨g, 0, none⟩) n' c'] := hd5.set 0 _
    have row6 : (w5.setCell ⟨H, 0, none⟩ (.slice (some ⟨g, 0, none⟩) n' c')).ownsRow lo 31 8 (.slice (some ⟨g, 0, none⟩) n' c') n' (cellsT (V ++ [(⟨⟨p, a, l, o, xs, nx, md, lc⟩, x, d⟩ : Rv)])) := by
      have h := HV'.out
      rw [← hn'] at h ⊢
      exact row_turn7 h ((Turn.refl (fun k => k = H) w5).set (p := ⟨H, 0, none⟩) rfl _) (by intro k hk e; have e' := Option.some.inj hk; simp only at e'; omega)
    generalize w5.setCell ⟨H, 0, none⟩ (.slice (some ⟨g, 0, none⟩) n' c') = w6 at *
    refine hK.out undef _ trivial (fun _ => ?_)
    try simp only [Act.put, List.setIfInBounds_toArray, List.set_cons_zero, List.set_cons_succ]
    refine wpAnyH_done (by kernel_rfl) ?_ _
    go_wp2
    go_returns
    exact ⟨rfl, g, c', by rw [hn']; exact hd6, by rw [hn']; exact row6, hlog, hgn, Turn.trans T5 T6 (fun _ _ e => e)⟩

end Go.Proofs.Ytkaaefieglhdlaa
