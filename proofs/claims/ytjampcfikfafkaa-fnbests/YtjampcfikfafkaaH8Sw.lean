/- What is proved here: what Swap of a heap of routes does, for a heap that can be read. -/
import Derived.Test.YtjampcfikfafkaaH8Ls
import Derived.Deep.MidRow
namespace Go.Proofs.Ytjampcfikfafkaa
open Go.RowKit Go.Sort
set_option linter.unusedVariables false

/-- A struct is stored, whole, into the middle of a block. -/
theorem hw_store_mid {P : Program} {Q : Exit → Act → World → Prop} {a : Act} {w : World} {K : Act → World → Prop} (ty : TypeId) (x y : Operand) {oi : Oper} (ho : oi.op = .store ty x y) (hd : oi.dst = none) (b o : Nat) (cells : Array Value) (hx : a.eval x = .pointer (some ⟨b, o, none⟩)) (hy : a.eval y = .agg cells)
    (ht : w.there b o cells.size) (hi : (P.info? ty).map (·.size) = some cells.size) (h1 : cells.all (·.oneCell') = true) (h : K (a.put none undef) (w.setCells b o cells.toList)) : Oper.wp P oi a w K Q := by
  refine wp_store_mid ty x y ho b o cells hx hy ht hi h1 ?_
  rw [hd]
  exact h

theorem Turn.setCells (w : World) (g : Nat) : ∀ (o : Nat) (vs : List Value), Turn (fun k => k = g) w (w.setCells g o vs) := by
  intro o vs
  induction vs generalizing o w with
  | nil => exact Turn.refl _ _
  | cons v r ih =>
    rw [World.setCells]
    exact Turn.trans ((Turn.refl (fun k => k = g) w).set (p := ⟨g, o, none⟩) rfl v) (ih _ (o + 1)) (fun _ _ e => e)

theorem OwRow.there {w : World} {g n c : Nat} {V : List Rv} (h : OwRow w g n c V) (i : Nat) (hi : i < n) : w.there g (i * 8) 8 := by
  intro j hj
  obtain ⟨v, hv⟩ := h.cell (i * 8 + j) (by omega)
  exact ⟨by rw [hv]; rfl, World.ownsRow.frozenAt h (i * 8 + j)⟩

theorem OwRow.putW {w : World} {g n c : Nat} {V : List Rv} (h : OwRow w g n c V) (i : Nat) (v : Rv) : OwRow (w.setCells g (i * 8) v.cs) g n c (V.set i v) := h.put i v

set_option maxRecDepth 100000 in
set_option maxHeartbeats 6400000 in
theorem swap_heap (H b c : Nat) (V : List Rv) (n i j : Nat) (u v : Rv) (w : World) (hp : HpAt w H b c V) (hn : V.length = n) (hm : n ≤ 1048576) (hi : V[i]? = some u) (hj : V[j]? = some v) : Calls Try.prog 89 #[.pointer (some ⟨H, 0, none⟩), .int .i64 i, .int .i64 j] w fun e w' => e = .returned (.tuple #[]) ∧ HpAt w' H b c ((V.set i v).set j u) ∧ Turn (fun k => k = b) w w' := by
  have hil : i < n := by have := (List.getElem?_eq_some_iff.1 hi).1; omega
  have hjl : j < n := by have := (List.getElem?_eq_some_iff.1 hj).1; omega
  have rt := hp.row.rt hp.here
  obtain ⟨b1, off1, p, a, l, o, nx, md, lc, x, m, d, xs, hA1, hv1, hlen, -, -, -, q0, q1, q2, q3, q4, q5, q6, q7⟩ := rt.at i (by omega)
  obtain ⟨b2, off2, p', a', l', o', nx', md', lc', x', m', d', xs', hA2, hv2, hlen', -, -, -, y0, y1, y2, y3, y4, y5, y6, y7⟩ := rt.at j (by omega)
  simp only [Option.some.injEq, Addr.mk.injEq, and_true] at hA1 hA2
  obtain ⟨rfl, rfl⟩ := hA1
  obtain ⟨rfl, rfl⟩ := hA2
  have mu := List.mem_of_getElem? hi
  have mv := List.mem_of_getElem? hj
  rw [hi] at hv1
  rw [hj] at hv2
  obtain rfl := Option.some.inj hv1
  obtain rfl := Option.some.inj hv2
  simp only [Nat.zero_add] at q0 q1 q2 q3 q4 q5 q6 q7 y0 y1 y2 y3 y4 y5 y6 y7
  have HL : Hid (xs.length = m) := hlen
  have HL' : Hid (xs'.length = m') := hlen'
  have hd := hp.hd
  have how := hp.row
  rw [hn] at hd how
  have hne : ¬ H = b := hp.ne
  have fin : ∀ X, Blk X H 59 #[.slice (some ⟨b, 0, none⟩) n c] → OwRow X b n c ((V.set i ⟨⟨p', a', l', o', xs', nx', md', lc'⟩, x', d'⟩).set j ⟨⟨p, a, l, o, xs, nx, md, lc⟩, x, d⟩) → Turn (fun k => k = b) w X → Ending.returned (.tuple #[]) = .returned (.tuple #[]) ∧ HpAt X H b c ((V.set i ⟨⟨p', a', l', o', xs', nx', md', lc'⟩, x', d'⟩).set j ⟨⟨p, a, l, o, xs, nx, md, lc⟩, x, d⟩) ∧ Turn (fun k => k = b) w X := by
    intro X h1 h2 t
    have hl : ((V.set i ⟨⟨p', a', l', o', xs', nx', md', lc'⟩, x', d'⟩).set j ⟨⟨p, a, l, o, xs, nx, md, lc⟩, x, d⟩).length = n := by simp [hn]
    have hmem : ∀ s ∈ (V.set i ⟨⟨p', a', l', o', xs', nx', md', lc'⟩, x', d'⟩).set j ⟨⟨p, a, l, o, xs, nx, md, lc⟩, x, d⟩, s ∈ V := by
      intro s hs
      rcases List.mem_or_eq_of_mem_set hs with hs | rfl
      · rcases List.mem_or_eq_of_mem_set hs with hs | rfl
        · exact hs
        · exact mv
      · exact mu
    refine ⟨rfl, ⟨by rw [hl]; exact h1, by rw [hl]; exact h2, fun s hs => (hp.here s (hmem s hs)).turn t (fun y e1 e2 => (hp.far s (hmem s hs) y e1 e2).1), hne, fun s hs => hp.far s (hmem s hs)⟩, t⟩
  have HF : Hid _ := fin
  have hi0 : (0 : Int) ≤ (i : Int) := by omega
  have hj0 : (0 : Int) ≤ (j : Int) := by omega
  have hi1 : (i : Int) < (n : Int) := by omega
  have hj1 : (j : Int) < (n : Int) := by omega
  clear hv1 hv2 hi hj hlen hlen' rt hn hp fin mu mv
  go_enter Try.func89, Try.ntmps89
  refine hw_start (n := 24) (S := fun X => Blk X H 59 #[.slice (some ⟨b, 0, none⟩) n c]) rfl (by kernel_rfl) (hd) (fun hH => ?_)
  refine' hw_take 0 (some 6) _ rfl rfl (by kernel_rfl) (by kernel_rfl) (by kernel_rfl) (fun _ _ _ h => h) (by rfl) hH ?hy1 ?rest1
  case hy1 =>
    intro X hX
    go_simp
    try rfl
  simp only [Act.put, List.setIfInBounds_toArray, List.set_cons_zero, List.set_cons_succ]
  refine' hw_take 1 (some 7) _ rfl rfl (by kernel_rfl) (by kernel_rfl) (by kernel_rfl) (fun _ _ _ h => h) (by rfl) hH ?hy2 ?rest2
  case hy2 =>
    intro X hX
    go_simp
    try rfl
  simp only [Act.put, List.setIfInBounds_toArray, List.set_cons_zero, List.set_cons_succ]
  refine' hw_take 2 (some 8) _ rfl rfl (by kernel_rfl) (by kernel_rfl) (by kernel_rfl) (fun _ _ _ h => h) (by rfl) hH ?hy3 ?rest3
  case hy3 =>
    intro X hX
    have cHX := hX.cells
    go_simp
    try rfl
  simp only [Act.put, List.setIfInBounds_toArray, List.set_cons_zero, List.set_cons_succ]
  refine' hw_take 3 (some 9) _ rfl rfl (by kernel_rfl) (by kernel_rfl) (by kernel_rfl) (fun _ _ _ h => h) (by rfl) hH ?hy4 ?rest4
  case hy4 =>
    intro X hX
    go_simp
    try rfl
  simp only [Act.put, List.setIfInBounds_toArray, List.set_cons_zero, List.set_cons_succ]
  refine' hw_take 4 (some 10) _ rfl rfl (by kernel_rfl) (by kernel_rfl) (by kernel_rfl) (fun _ _ _ h => h) (by rfl) hH ?hy5 ?rest5
  case hy5 =>
    intro X hX
    go_simp
    try rfl
  simp only [Act.put, List.setIfInBounds_toArray, List.set_cons_zero, List.set_cons_succ]
  refine' hw_take 5 (some 11) _ rfl rfl (by kernel_rfl) (by kernel_rfl) (by kernel_rfl) (fun _ _ _ h => h) (by rfl) hH ?hy6 ?rest6
  case hy6 =>
    intro X hX
    go_simp
    try rfl
  simp only [Act.put, List.setIfInBounds_toArray, List.set_cons_zero, List.set_cons_succ]
  refine' hw_take 6 (some 12) _ rfl rfl (by kernel_rfl) (by kernel_rfl) (by kernel_rfl) (fun _ _ _ h => h) (by rfl) hH ?hy7 ?rest7
  case hy7 =>
    intro X hX
    have cHX := hX.cells
    go_simp
    try rfl
  simp only [Act.put, List.setIfInBounds_toArray, List.set_cons_zero, List.set_cons_succ]
  refine' hw_take 7 (some 13) _ rfl rfl (by kernel_rfl) (by kernel_rfl) (by kernel_rfl) (fun _ _ _ h => h) (by rfl) hH ?hy8 ?rest8
  case hy8 =>
    intro X hX
    go_simp
    try rfl
  simp only [Act.put, List.setIfInBounds_toArray, List.set_cons_zero, List.set_cons_succ]
  refine' hw_take 8 (some 14) _ rfl rfl (by kernel_rfl) (by kernel_rfl) (by kernel_rfl) (fun _ _ _ h => h) (by rfl) hH ?hy9 ?rest9
  case hy9 =>
    intro X hX
    go_simp
    try rfl
  simp only [Act.put, List.setIfInBounds_toArray, List.set_cons_zero, List.set_cons_succ]
  refine' hw_take 9 (some 15) _ rfl rfl (by kernel_rfl) (by kernel_rfl) (by kernel_rfl) (fun _ _ _ h => h) (by rfl) hH ?hy10 ?rest10
  case hy10 =>
    intro X hX
    go_simp
    try rfl
  simp only [Act.put, List.setIfInBounds_toArray, List.set_cons_zero, List.set_cons_succ]
  refine' hw_take 10 (some 16) _ rfl rfl (by kernel_rfl) (by kernel_rfl) (by kernel_rfl) (fun _ _ _ h => h) (by rfl) hH ?hy11 ?rest11
  case hy11 =>
    intro X hX
    have cHX := hX.cells
    go_simp
    try rfl
  simp only [Act.put, List.setIfInBounds_toArray, List.set_cons_zero, List.set_cons_succ]
  refine' hw_take 11 (some 17) _ rfl rfl (by kernel_rfl) (by kernel_rfl) (by kernel_rfl) (fun _ _ _ h => h) (by rfl) hH ?hy12 ?rest12
  case hy12 =>
    intro X hX
    go_simp
    try rfl
  simp only [Act.put, List.setIfInBounds_toArray, List.set_cons_zero, List.set_cons_succ]
  refine' hw_take 12 (some 18) _ rfl rfl (by kernel_rfl) (by kernel_rfl) (by kernel_rfl) (fun _ _ _ h => h) (by rfl) hH ?hy13 ?rest13
  case hy13 =>
    intro X hX
    go_simp
    try rfl
  simp only [Act.put, List.setIfInBounds_toArray, List.set_cons_zero, List.set_cons_succ]
  refine' hw_take 14 (some 20) _ rfl rfl (by kernel_rfl) (by kernel_rfl) (by kernel_rfl) (fun _ _ _ h => h) (by rfl) hH ?hy14 ?rest14
  case hy14 =>
    intro X hX
    go_simp
    try rfl
  simp only [Act.put, List.setIfInBounds_toArray, List.set_cons_zero, List.set_cons_succ]
  refine' hw_take 15 (some 21) _ rfl rfl (by kernel_rfl) (by kernel_rfl) (by kernel_rfl) (fun _ _ _ h => h) (by rfl) hH ?hy15 ?rest15
  case hy15 =>
    intro X hX
    go_simp
    try rfl
  simp only [Act.put, List.setIfInBounds_toArray, List.set_cons_zero, List.set_cons_succ]
  refine' hw_take 16 (some 22) _ rfl rfl (by kernel_rfl) (by kernel_rfl) (by kernel_rfl) (fun _ _ _ h => h) (by rfl) hH ?hy16 ?rest16
  case hy16 =>
    intro X hX
    have cHX := hX.cells
    go_simp
    try rfl
  simp only [Act.put, List.setIfInBounds_toArray, List.set_cons_zero, List.set_cons_succ]
  refine' hw_take 17 (some 23) _ rfl rfl (by kernel_rfl) (by kernel_rfl) (by kernel_rfl) (fun _ _ _ h => h) (by rfl) hH ?hy17 ?rest17
  case hy17 =>
    intro X hX
    go_simp
    try rfl
  simp only [Act.put, List.setIfInBounds_toArray, List.set_cons_zero, List.set_cons_succ]
  refine' hw_take 18 (some 24) _ rfl rfl (by kernel_rfl) (by kernel_rfl) (by kernel_rfl) (fun _ _ _ h => h) (by rfl) hH ?hy18 ?rest18
  case hy18 =>
    intro X hX
    go_simp
    try rfl
  simp only [Act.put, List.setIfInBounds_toArray, List.set_cons_zero, List.set_cons_succ]
  refine wpAnyH_ready (rs := [13, 19]) (by kernel_rfl) (by simp) ?_
  refine hw_step 13 (some 19) rfl rfl (by rfl) (fun K hK => ?_) (hw_step 19 (some 25) rfl rfl (by rfl) (fun K hK => ?_) AllReadyH.nil)
  · go_simp
    refine hK.out _ _ hH (fun hH => ?_)
    simp only [Act.put, List.setIfInBounds_toArray, List.set_cons_zero, List.set_cons_succ]
    refine hw_call 19 (some 25) rfl rfl (by kernel_rfl) (by rfl) (fun K hK => ?_)
    go_simp
    refine hK.out _ _ hH (fun hH => ?_)
    simp only [Act.put, List.setIfInBounds_toArray, List.set_cons_zero, List.set_cons_succ]
    refine' hw_take 20 (some 26) _ rfl rfl (by kernel_rfl) (by kernel_rfl) (by kernel_rfl) (fun _ _ _ h => h) (by rfl) hH ?hy19 ?rest19
    case hy19 =>
      intro X hX
      go_simp
      try rfl
    simp only [Act.put, List.setIfInBounds_toArray, List.set_cons_zero, List.set_cons_succ]
    refine hw_call 21 none rfl rfl (by kernel_rfl) (by rfl) (fun K hK => ?_)
    refine hw_store_mid 35 (.tmp 26) (.tmp 19) rfl rfl b (i * 8) #[.int .i64 p', .int .i64 a', .int .i64 l', .int .i64 o', .slice x' m' d', .int .i64 nx', .int .i64 md', .int .i64 lc'] rfl rfl (how.there i hil) (by kernel_rfl) (by kernel_rfl) ?_
    have how1 : OwRow (w.drew.setCells b (i * 8) #[.int .i64 p', .int .i64 a', .int .i64 l', .int .i64 o', .slice x' m' d', .int .i64 nx', .int .i64 md', .int .i64 lc'].toList) b n c (V.set i ⟨⟨p', a', l', o', xs', nx', md', lc'⟩, x', d'⟩) := by
      have e := (show OwRow w.drew b n c V from how).putW i ⟨⟨p', a', l', o', xs', nx', md', lc'⟩, x', d'⟩
      unfold Rv.cs at e
      simp only [HL'.out] at e
      exact e
    have T1 : Turn (fun k => k = b) w.drew (w.drew.setCells b (i * 8) #[.int .i64 p', .int .i64 a', .int .i64 l', .int .i64 o', .slice x' m' d', .int .i64 nx', .int .i64 md', .int .i64 lc'].toList) := Turn.setCells w.drew b (i * 8) _
    have hd1 : Blk (w.drew.setCells b (i * 8) #[.int .i64 p', .int .i64 a', .int .i64 l', .int .i64 o', .slice x' m' d', .int .i64 nx', .int .i64 md', .int .i64 lc'].toList) H 59 #[.slice (some ⟨b, 0, none⟩) n c] := (show Blk w.drew H 59 #[.slice (some ⟨b, 0, none⟩) n c] from hd).turn T1 hne
    generalize w.drew.setCells b (i * 8) #[.int .i64 p', .int .i64 a', .int .i64 l', .int .i64 o', .slice x' m' d', .int .i64 nx', .int .i64 md', .int .i64 lc'].toList = w5 at how1 T1 hd1 ⊢
    have T10 := Turn.trans (((New.refl w).drew).turn (S := fun k => k = b)) T1 (fun _ _ e => e)
    clear T1
    refine hK.out _ _ hd1 (fun hH => ?_)
    simp only [Act.put]
    refine' hw_take 22 (some 27) _ rfl rfl (by kernel_rfl) (by kernel_rfl) (by kernel_rfl) (fun _ _ _ h => h) (by rfl) hH ?hy20 ?rest20
    case hy20 =>
      intro X hX
      go_simp
      try rfl
    simp only [Act.put, List.setIfInBounds_toArray, List.set_cons_zero, List.set_cons_succ]
    refine hw_call 23 none rfl rfl (by kernel_rfl) (by rfl) (fun K hK => ?_)
    refine hw_store_mid 35 (.tmp 27) (.tmp 25) rfl rfl b (j * 8) #[.int .i64 p, .int .i64 a, .int .i64 l, .int .i64 o, .slice x m d, .int .i64 nx, .int .i64 md, .int .i64 lc] rfl rfl (how1.there j hjl) (by kernel_rfl) (by kernel_rfl) ?_
    have how2 : OwRow (w5.setCells b (j * 8) #[.int .i64 p, .int .i64 a, .int .i64 l, .int .i64 o, .slice x m d, .int .i64 nx, .int .i64 md, .int .i64 lc].toList) b n c ((V.set i ⟨⟨p', a', l', o', xs', nx', md', lc'⟩, x', d'⟩).set j ⟨⟨p, a, l, o, xs, nx, md, lc⟩, x, d⟩) := by
      have e := how1.putW j ⟨⟨p, a, l, o, xs, nx, md, lc⟩, x, d⟩
      unfold Rv.cs at e
      simp only [HL.out] at e
      exact e
    have T2 : Turn (fun k => k = b) w5 (w5.setCells b (j * 8) #[.int .i64 p, .int .i64 a, .int .i64 l, .int .i64 o, .slice x m d, .int .i64 nx, .int .i64 md, .int .i64 lc].toList) := Turn.setCells _ b (j * 8) _
    have hd2 : Blk (w5.setCells b (j * 8) #[.int .i64 p, .int .i64 a, .int .i64 l, .int .i64 o, .slice x m d, .int .i64 nx, .int .i64 md, .int .i64 lc].toList) H 59 #[.slice (some ⟨b, 0, none⟩) n c] := hd1.turn T2 hne
    generalize w5.setCells b (j * 8) #[.int .i64 p, .int .i64 a, .int .i64 l, .int .i64 o, .slice x m d, .int .i64 nx, .int .i64 md, .int .i64 lc].toList = w6 at how2 T2 hd2 ⊢
    refine hK.out _ _ hd2 (fun hH => ?_)
    simp only [Act.put]
    refine wpAnyH_done (by kernel_rfl) ?_ _
    go_wp2
    first | (refine bodyPost_end (results_none rfl _ _ _) rfl ?_) | (refine bodyPost_ret (results_none rfl _ _ _) rfl ?_)
    exact ⟨rfl, (HF.out _ hd2 how2 (Turn.trans T10 T2 (fun _ _ e => e))).2⟩
  · go_simp
    refine hK.out _ _ hH (fun hH => ?_)
    simp only [Act.put, List.setIfInBounds_toArray, List.set_cons_zero, List.set_cons_succ]
    refine hw_call 13 (some 19) rfl rfl (by kernel_rfl) (by rfl) (fun K hK => ?_)
    go_simp
    refine hK.out _ _ hH (fun hH => ?_)
    simp only [Act.put, List.setIfInBounds_toArray, List.set_cons_zero, List.set_cons_succ]
    refine' hw_take 20 (some 26) _ rfl rfl (by kernel_rfl) (by kernel_rfl) (by kernel_rfl) (fun _ _ _ h => h) (by rfl) hH ?hy21 ?rest21
    case hy21 =>
      intro X hX
      go_simp
      try rfl
    simp only [Act.put, List.setIfInBounds_toArray, List.set_cons_zero, List.set_cons_succ]
    refine hw_call 21 none rfl rfl (by kernel_rfl) (by rfl) (fun K hK => ?_)
    refine hw_store_mid 35 (.tmp 26) (.tmp 19) rfl rfl b (i * 8) #[.int .i64 p', .int .i64 a', .int .i64 l', .int .i64 o', .slice x' m' d', .int .i64 nx', .int .i64 md', .int .i64 lc'] rfl rfl (how.there i hil) (by kernel_rfl) (by kernel_rfl) ?_
    have how1 : OwRow (w.drew.setCells b (i * 8) #[.int .i64 p', .int .i64 a', .int .i64 l', .int .i64 o', .slice x' m' d', .int .i64 nx', .int .i64 md', .int .i64 lc'].toList) b n c (V.set i ⟨⟨p', a', l', o', xs', nx', md', lc'⟩, x', d'⟩) := by
      have e := (show OwRow w.drew b n c V from how).putW i ⟨⟨p', a', l', o', xs', nx', md', lc'⟩, x', d'⟩
      unfold Rv.cs at e
      simp only [HL'.out] at e
      exact e
    have T1 : Turn (fun k => k = b) w.drew (w.drew.setCells b (i * 8) #[.int .i64 p', .int .i64 a', .int .i64 l', .int .i64 o', .slice x' m' d', .int .i64 nx', .int .i64 md', .int .i64 lc'].toList) := Turn.setCells w.drew b (i * 8) _
    have hd1 : Blk (w.drew.setCells b (i * 8) #[.int .i64 p', .int .i64 a', .int .i64 l', .int .i64 o', .slice x' m' d', .int .i64 nx', .int .i64 md', .int .i64 lc'].toList) H 59 #[.slice (some ⟨b, 0, none⟩) n c] := (show Blk w.drew H 59 #[.slice (some ⟨b, 0, none⟩) n c] from hd).turn T1 hne
    generalize w.drew.setCells b (i * 8) #[.int .i64 p', .int .i64 a', .int .i64 l', .int .i64 o', .slice x' m' d', .int .i64 nx', .int .i64 md', .int .i64 lc'].toList = w5 at how1 T1 hd1 ⊢
    have T10 := Turn.trans (((New.refl w).drew).turn (S := fun k => k = b)) T1 (fun _ _ e => e)
    clear T1
    refine hK.out _ _ hd1 (fun hH => ?_)
    simp only [Act.put]
    refine' hw_take 22 (some 27) _ rfl rfl (by kernel_rfl) (by kernel_rfl) (by kernel_rfl) (fun _ _ _ h => h) (by rfl) hH ?hy22 ?rest22
    case hy22 =>
      intro X hX
      go_simp
      try rfl
    simp only [Act.put, List.setIfInBounds_toArray, List.set_cons_zero, List.set_cons_succ]
    refine hw_call 23 none rfl rfl (by kernel_rfl) (by rfl) (fun K hK => ?_)
    refine hw_store_mid 35 (.tmp 27) (.tmp 25) rfl rfl b (j * 8) #[.int .i64 p, .int .i64 a, .int .i64 l, .int .i64 o, .slice x m d, .int .i64 nx, .int .i64 md, .int .i64 lc] rfl rfl (how1.there j hjl) (by kernel_rfl) (by kernel_rfl) ?_
    have how2 : OwRow (w5.setCells b (j * 8) #[.int .i64 p, .int .i64 a, .int .i64 l, .int .i64 o, .slice x m d, .int .i64 nx, .int .i64 md, .int .i64 lc].toList) b n c ((V.set i ⟨⟨p', a', l', o', xs', nx', md', lc'⟩, x', d'⟩).set j ⟨⟨p, a, l, o, xs, nx, md, lc⟩, x, d⟩) := by
      have e := how1.putW j ⟨⟨p, a, l, o, xs, nx, md, lc⟩, x, d⟩
      unfold Rv.cs at e
      simp only [HL.out] at e
      exact e
    have T2 : Turn (fun k => k = b) w5 (w5.setCells b (j * 8) #[.int .i64 p, .int .i64 a, .int .i64 l, .int .i64 o, .slice x m d, .int .i64 nx, .int .i64 md, .int .i64 lc].toList) := Turn.setCells _ b (j * 8) _
    have hd2 : Blk (w5.setCells b (j * 8) #[.int .i64 p, .int .i64 a, .int .i64 l, .int .i64 o, .slice x m d, .int .i64 nx, .int .i64 md, .int .i64 lc].toList) H 59 #[.slice (some ⟨b, 0, none⟩) n c] := hd1.turn T2 hne
    generalize w5.setCells b (j * 8) #[.int .i64 p, .int .i64 a, .int .i64 l, .int .i64 o, .slice x m d, .int .i64 nx, .int .i64 md, .int .i64 lc].toList = w6 at how2 T2 hd2 ⊢
    refine hK.out _ _ hd2 (fun hH => ?_)
    simp only [Act.put]
    refine wpAnyH_done (by kernel_rfl) ?_ _
    go_wp2
    first | (refine bodyPost_end (results_none rfl _ _ _) rfl ?_) | (refine bodyPost_ret (results_none rfl _ _ _) rfl ?_)
    exact ⟨rfl, (HF.out _ hd2 how2 (Turn.trans T10 T2 (fun _ _ e => e))).2⟩

end Go.Proofs.Ytjampcfikfafkaa
