/- What is proved here: what the drawing of a clock leaves: some numbers in lists of their own, and the source drawn on. -/
import Derived.Test.YtpbmbnckdmjdhaaD13Ls
import Derived.Test.YtpbmbnckdmjdhaaN13Ap
namespace Go.Proofs.Ytpbmbnckdmjdhaa
open Go.RowKit Go.Sort
set_option linter.unusedVariables false
set_option linter.unusedSimpArgs false
set_option maxRecDepth 100000

theorem Blk.setI {w : World} {B : Nat} {t : TypeId} {cs : Array Value} {p : Addr} {u : Value} (hp : ¬ p.block = B) : Blk (w.setCell p u) B t cs ↔ Blk w B t cs := by
  unfold Blk
  rw [Below.heap_setCell w p u B (fun e => hp e.symm)]

theorem ns_two {w : World} {L : Nat} {x y : Int} (h : Blk w L 2 #[.int .i64 x, .int .i64 y]) (hx : Sm x) (hy : Sm y) : NsAt w (some ⟨L, 0, none⟩) [x, y] := by
  obtain ⟨x0, x1⟩ := hx
  obtain ⟨y0, y1⟩ := hy
  intro i z hz
  match i, hz with
  | 0, hz => simp at hz; subst hz; exact ⟨L, 0, rfl, by simpa using h.cells 0, by unfold In6; omega⟩
  | 1, hz => simp at hz; subst hz; exact ⟨L, 0, rfl, by simpa using h.cells 1, by unfold In6; omega⟩
  | i + 2, hz => simp at hz

theorem ns_one {w : World} {L : Nat} {x y : Int} (h : Blk w L 2 #[.int .i64 x, .int .i64 y]) (hy : Sm y) : NsAt w (some ⟨L, 1, none⟩) [y] := by
  obtain ⟨y0, y1⟩ := hy
  intro i z hz
  match i, hz with
  | 0, hz => simp at hz; subst hz; exact ⟨L, 1, rfl, by simpa using h.cells 1, by unfold In6; omega⟩
  | i + 1, hz => simp at hz

section
variable {P : Program} {t e : TypeId} {i : TypeInfo}
theorem wpList_apV (w : World) {ops : Array Oper} {rest : List Oper} {o : Oper} {a : Act} {Q : Exit → Act → World → Prop} (hgd : o.guard = none) (s x : Operand)
    (ho : o.op = .call { callee := .builtin .append, args := #[s, x], argTypes := #[t, t] }) (base sz by' : Nat) (zero : Value) (ht : P.underlying t = some (.slice e)) (hi : P.info? e = some i) (hz : i.zero = some zero) (hs : i.size = sz) (hb : i.bytes = by') (hz1 : zero.cells.size = sz) (hsz : 0 < sz) (hby : by' ≤ 1000)
    (v : Value) (n : Nat) (xs : List Value) (hsv : a.eval s = v) (hown : w.ownsRow base e sz v n xs)
    (L : Nat) (r : List Value) (hr : r.length = sz) (h1 : ∀ u ∈ r, u.oneCell' = true) (hxv : a.eval x = .slice (some ⟨L, 0, none⟩) 1 1) (hsrc : ∀ j u, r[j]? = some u → w.cell? ⟨L, j, none⟩ = some u) (hle : n + 1 ≤ 4194304) (hbase : base ≤ w.heap.size)
    (h : ∀ v' w', w'.ownsRow base e sz v' (n + 1) (xs ++ r) → w.grownBy w' v.ownBlock → (v'.ownBlock = v.ownBlock ∨ v'.ownBlock = some w.heap.size) → wpList P ops Q rest (a.put o.dst v') w') : wpList P ops Q (o :: rest) a w := by
  refine wpList_plain hgd fun _ hK => ?_
  have hnews : ∀ j u, r[j]? = some u → w.cell? ((⟨L, 0, none⟩ : Addr).add j) = some u := by
    intro j u hu
    rw [Addr.add_lit, Nat.zero_add]
    exact hsrc j u hu
  have hbb : (n + 1) * by' ≤ 140737488355328 := Nat.le_trans (Nat.mul_le_mul hle hby) (by decide)
  obtain ⟨v', w', hr, h2, h3, _, h5⟩ := run_append_own_at (P := P) w base t o.type e i zero sz by' ht hi hz hs hb hz1 hsz v n xs hown ⟨L, 0, none⟩ 1 1 r (by omega) hnews h1 (by unfold maxLen; omega) hbb hbase
  unfold Oper.wp execOp
  simp only [ho, resolve, invoke, builtin, Sem.run_bind, Sem.run_pure, Result.andThen_ok, List.map_toArray, List.map_cons, List.map_nil, hsv, hxv, hr]
  exact hK _ _ (h v' w' h2 h3 h5)
end

theorem apl13 (w : World) {ops : Array Oper} {rest : List Oper} {o : Oper} {a : Act} {Q : Exit → Act → World → Prop} (hgd : o.guard = none) (s x : Operand)
    (ho : o.op = .call { callee := .builtin .append, args := #[s, x], argTypes := #[24, 24] }) (v : Value) (n : Nat) (xs : List Int) (hsv : a.eval s = v) (hown : w.ownsRow 0 2 1 v n (xs.map (Value.int .i64)))
    (L : Nat) (z : Int) (hxv : a.eval x = .slice (some ⟨L, 0, none⟩) 1 1) (hsrc : Blk w L 2 #[.int .i64 z]) (hle : n ≤ 1000)
    (h : ∀ g c w', OwN w' g (n + 1) c (xs ++ [z]) → Turn (fun k => v.ownBlock = some k) w w' → (v.ownBlock = some g ∨ g = w.heap.size) → wpList Try.prog ops Q rest (a.put o.dst (.slice (some ⟨g, 0, none⟩) (n + 1) c)) w') : wpList Try.prog ops Q (o :: rest) a w := by
  obtain ⟨i0, hi, hz0, hz1, hz2⟩ := info_parts Try.infoI64
  refine wpList_apV w hgd s x ho 0 1 8 (.int .i64 0) Try.underlying24 hi hz0 hz1 hz2 rfl (by decide) (by decide) v n _ hsv hown L [.int .i64 z] rfl (by simp [Value.oneCell']) hxv ?_ (by omega) (Nat.zero_le _) ?_
  · intro j u hu
    rw [hsrc.cells j]
    simpa using hu
  · intro v' w' ho' hg hb
    have ht := gr13 hg
    rcases ho'.2 with ⟨h1, h2⟩ | ⟨g, c, cur, h1, r⟩
    · exact absurd h2 (by omega)
    · subst h1
      refine h g c w' ?_ ht ?_
      · unfold OwN
        rw [List.map_append]
        exact ho'
      · rcases hb with hb | hb
        · exact .inl hb.symm
        · exact .inr (by simpa [Value.ownBlock] using hb)

set_option maxHeartbeats 3200000 in
theorem l13Clock_sc {B n c t : Nat} {a : Option Addr} {zs : List Int} {w : World} (h : Sc w B a n c zs t) (ht : t ≤ 100000) :
    Calls Try.prog 53 #[.pointer (some ⟨B, 0, none⟩)] w fun e w' => ∃ (nw : Int) (bL oL m k t' : Nat) (xs : List Int), e = .returned (.agg #[.int .i64 nw, .slice (some ⟨bL, oL, none⟩) m k]) ∧ Sm nw ∧ NsAt w' (some ⟨bL, oL, none⟩) xs ∧ xs.length = m ∧ m ≤ 2 ∧ w.heap.size ≤ bL ∧ t' ≤ t + 10 ∧ Sc w' B a n c zs t' ∧ Turn (fun k => k = B) w w' := by
  have hlt := h.blk.lt
  have hA := h.lt_of
  have s0 := h.new ((New.refl w).alloc (.cells #[.int .i64 0, .slice none 0 0] 26))
  have t0 : Turn (fun k => k = B) w (w.alloc (.cells #[.int .i64 0, .slice none 0 0] 26)) := ((New.refl w).alloc _).turn
  have R0 : Blk (w.alloc (.cells #[.int .i64 0, .slice none 0 0] 26)) w.heap.size 26 #[.int .i64 0, .slice none 0 0] := Blk.mk _ _ _ _ rfl
  have RB : ¬ w.heap.size = B := by omega
  have ge0 := Nat.le_refl w.heap.size
  clear h
  go_enter Try.func53, Try.ntmps53
  go_upto_region 1 with fail
  generalize w.alloc (.cells #[.int .i64 0, .slice none 0 0] 26) = w0 at *
  have cR := R0.cells
  have fR := R0.frees
  have lR := R0.lt
  go_wp2_with fail
  refine (next_sc s0 60 (by omega) (by omega)).mono ?_
  rintro e w1 ⟨r1, rfl, ⟨hd1, hf1, -⟩, s1, ht1⟩
  have hf1 := hf1 (by omega)
  have t1 := t0.both ht1
  have R1 := R0.turn ht1 RB
  have z1 := t1.size
  clear s0 t0 ht1 R0
  have cR := R1.cells
  have fR := R1.frees
  have lR := R1.lt
  go_wp2_with fail
  refine (next_sc s1 9 (by omega) (by omega)).mono ?_
  rintro e w2 ⟨r2, rfl, ⟨hd2, hf2, -⟩, s2, ht2⟩
  have hf2 := hf2 (by omega)
  have t2 := t1.both ht2
  have R2 := R1.turn ht2 RB
  have z2 := t2.size
  clear s1 t1 ht2 R1
  have cR := R2.cells
  have fR := R2.frees
  have lR := R2.lt
  go_wp2_with fail
  have hbl := Blk.mk w2 w2.heap.size 2 #[.int .i64 r1, .int .i64 r2, .int .i64 999999990] rfl
  have hal := (New.refl w2).alloc (.cells #[.int .i64 r1, .int .i64 r2, .int .i64 999999990] 2)
  refine (pick_sc (s2.new hal) [r1, r2, 999999990] hbl 3 rfl (by omega) (by omega) (by omega)).mono ?_
  rintro e w3 ⟨r3, rfl, hx3, s3, ht3⟩
  have hx3 : 0 ≤ r3 ∧ r3 ≤ 999999990 := by simp only [List.mem_cons, List.not_mem_nil, or_false] at hx3; omega
  have t3 := (t2.andNew hal).both ht3
  have R3 := (R2.new hal).turn ht3 RB
  have z3 := t3.size
  clear hbl hal s2 t2 ht3 R2
  have cR := R3.cells
  have fR := R3.frees
  have lR := R3.lt
  obtain ⟨n0, n1⟩ := hx3
  go_wp2_with fail
  refine (next_sc s3 5 (by omega) (by omega)).mono ?_
  rintro e w4 ⟨r4, rfl, ⟨hd4, hf4, -⟩, s4, ht4⟩
  have hf4 := hf4 (by omega)
  have t4 := t3.both ht4
  have R4 := R3.turn ht4 RB
  have z4 := t4.size
  clear s3 t3 ht4 R3
  have cR := R4.cells
  have fR := R4.frees
  have lR := R4.lt
  have q4 : IntKind.i64.wrap (r3 + r4) = r3 + r4 := w13 (by omega) (by omega)
  have p4 : IntKind.i64.wrap (r3 + r4 - 2) = r3 + r4 - 2 := w13 (by omega) (by omega)
  go_wp2_with fail
  refine (max13 0 (r3 + r4 - 2) _).mono ?_
  rintro e wz ⟨rfl, hwz⟩
  obtain rfl := hwz.symm
  obtain ⟨m4, HM4⟩ : ∃ m, Hid (m = max 0 (r3 + r4 - 2)) := ⟨_, rfl⟩
  have sm4 : Sm m4 := by have := HM4.out; unfold Sm; omega
  rw [← HM4.out]
  clear q4 p4
  go_wp2_with fail
  refine (next_sc s4 5 (by omega) (by omega)).mono ?_
  rintro e w5 ⟨r5, rfl, ⟨hd5, hf5, -⟩, s5, ht5⟩
  have hf5 := hf5 (by omega)
  have t5 := t4.both ht5
  have R5 := R4.turn ht5 RB
  have z5 := t5.size
  clear s4 t4 ht5 R4
  have cR := R5.cells
  have fR := R5.frees
  have lR := R5.lt
  have q5 : IntKind.i64.wrap (r3 + r5) = r3 + r5 := w13 (by omega) (by omega)
  have p5 : IntKind.i64.wrap (r3 + r5 - 2) = r3 + r5 - 2 := w13 (by omega) (by omega)
  go_wp2_with fail
  refine (max13 0 (r3 + r5 - 2) _).mono ?_
  rintro e wz ⟨rfl, hwz⟩
  obtain rfl := hwz.symm
  obtain ⟨m5, HM5⟩ : ∃ m, Hid (m = max 0 (r3 + r5 - 2)) := ⟨_, rfl⟩
  have sm5 : Sm m5 := by have := HM5.out; unfold Sm; omega
  rw [← HM5.out]
  clear q5 p5
  go_upto_region 3 with fail
  have hal : New w5 ((w5.alloc (.cells #[.int .i64 m4, .int .i64 m5] 2)).alloc (.cells #[.int .i64 r3, .slice (some ⟨w5.heap.size, 0, none⟩) 2 2] 26)) := ((New.refl w5).alloc _).alloc _
  have L6 : Blk ((w5.alloc (.cells #[.int .i64 m4, .int .i64 m5] 2)).alloc (.cells #[.int .i64 r3, .slice (some ⟨w5.heap.size, 0, none⟩) 2 2] 26)) w5.heap.size 2 #[.int .i64 m4, .int .i64 m5] := (Blk.mk _ _ _ _ rfl).alloc _
  have C6 : Blk ((w5.alloc (.cells #[.int .i64 m4, .int .i64 m5] 2)).alloc (.cells #[.int .i64 r3, .slice (some ⟨w5.heap.size, 0, none⟩) 2 2] 26)) (w5.heap.size + 1) 26 #[.int .i64 r3, .slice (some ⟨w5.heap.size, 0, none⟩) 2 2] := Blk.mk _ _ _ _ (by simp)
  have s6 := s5.new hal
  have t6 := t5.andNew hal
  have R6 := R5.new hal
  have LB : ¬ w5.heap.size = B := by omega
  have CB : ¬ w5.heap.size + 1 = B := by omega
  have gL : w.heap.size ≤ w5.heap.size := by omega
  have gC : w.heap.size ≤ w5.heap.size + 1 := by omega
  have RL : ¬ w.heap.size = w5.heap.size := by omega
  have RC : ¬ w.heap.size = w5.heap.size + 1 := by omega
  clear hal s5 t5 R5 cR fR
  generalize (w5.alloc (.cells #[.int .i64 m4, .int .i64 m5] 2)).alloc (.cells #[.int .i64 r3, .slice (some ⟨w5.heap.size, 0, none⟩) 2 2] 26) = w6 at *
  have z6 := t6.size
  have cR := R6.cells
  have fR := R6.frees
  have lR := R6.lt
  have cL := L6.cells
  have fL := L6.frees
  have lL := L6.lt
  have cC := C6.cells
  have fC := C6.frees
  have lC := C6.lt
  go_wp2_with fail
  refine (next_sc s6 12 (by omega) (by omega)).mono ?_
  rintro e w7 ⟨r7, rfl, ⟨hd7, hf7, -⟩, s7, ht7⟩
  have hf7 := hf7 (by omega)
  have t7 := t6.both ht7
  have R7 := R6.turn ht7 RB
  have L7 := L6.turn ht7 LB
  have C7 := C6.turn ht7 CB
  have z7 := t7.size
  clear s6 t6 ht7 R6 L6 C6
  have cR := R7.cells
  have fR := R7.frees
  have lR := R7.lt
  have cL := L7.cells
  have fL := L7.frees
  have lL := L7.lt
  have cC := C7.cells
  have fC := C7.frees
  have lC := C7.lt
  have sm_ := sm4
  have LC : ¬ w5.heap.size + 1 = w5.heap.size := by omega
  by_cases u0 : r7 = 0
  case pos =>
    subst u0
    go_wp2_with fail
    have hbl := Blk.mk w7 w7.heap.size 2 #[.int .i64 (-1), .int .i64 1000000001] rfl
    have hal := (New.refl w7).alloc (.cells #[.int .i64 (-1), .int .i64 1000000001] 2)
    refine (pick_sc (s7.new hal) [-1, 1000000001] hbl 2 rfl (by omega) (by omega) (by omega)).mono ?_
    rintro e w8 ⟨r8, rfl, hx8, s8, ht8⟩
    have hx8 : Sm r8 := by simp only [List.mem_cons, List.not_mem_nil, or_false] at hx8; unfold Sm; omega
    have t8 := (t7.andNew hal).both ht8
    have R8 := (R7.new hal).turn ht8 RB
    have L8 := (L7.new hal).turn ht8 LB
    have C8 := (C7.new hal).turn ht8 CB
    have z8 := t8.size
    clear hbl hal s7 t7 ht8 R7 L7 C7
    have cR := R8.cells
    have fR := R8.frees
    have lR := R8.lt
    have cL := L8.cells
    have fL := L8.frees
    have lL := L8.lt
    have cC := C8.cells
    have fC := C8.frees
    have lC := C8.lt
    obtain ⟨n2, n3⟩ := hx8
    go_wp2
    refine bodyPost_ret (v := .agg #[.int .i64 r8, .slice (some ⟨w5.heap.size, 0, none⟩) 2 2]) (by simp [results, Try.results53, go_sem, cR, cC]) rfl ⟨_, w5.heap.size, 0, 2, 2, _, [m4, m5], rfl, (by unfold Sm; omega), ns_two ?_ sm_ sm5, rfl, (by omega), gL, (by omega : t + 1 + 1 + 1 + 1 + 1 + 1 + 1 ≤ t + 10), ?_, ?_⟩
    · simp (disch := first | exact LC | exact RL | exact RC | exact RB) only [Blk.setI]
      exact L8
    · simp (disch := first | exact ge0 | exact gC | exact gL) only [Sc.setI hA hlt]
      exact s8
    · simp (disch := first | exact ge0 | exact gC | exact gL) only [Turn.setI]
      exact t8
  have v0 : (r7 == 0) = false := by simpa using u0
  by_cases u1 : r7 = 1
  case pos =>
    subst u1
    go_wp2
    refine bodyPost_ret (v := .agg #[.int .i64 r3, .slice (some ⟨w5.heap.size, 1, none⟩) 1 1]) (by simp [results, Try.results53, go_sem, cR, cC]) rfl ⟨_, w5.heap.size, 1, 1, 1, _, [m5], rfl, (by unfold Sm; omega), ns_one (x := m4) ?_ sm5, rfl, (by omega), gL, (by omega : t + 1 + 1 + 1 + 1 + 1 + 1 ≤ t + 10), ?_, ?_⟩
    · simp (disch := first | exact LC | exact RL | exact RC | exact RB) only [Blk.setI]
      exact L7
    · simp (disch := first | exact ge0 | exact gC | exact gL) only [Sc.setI hA hlt]
      exact s7
    · simp (disch := first | exact ge0 | exact gC | exact gL) only [Turn.setI]
      exact t7
  have v1 : (r7 == 1) = false := by simpa using u1
  by_cases u2 : r7 = 2
  case pos =>
    subst u2
    go_upto_region 9 with fail
    clear cR fR cL fL cC fC
    refine hw_start (n := 9) (S := fun X => Turn (fun i => i = B ∨ i = w5.heap.size) w7 X) rfl (by kernel_rfl) (((New.refl _).drew).turn) (fun hH => ?_)
    have s7d := s7.new ((New.refl w7).drew)
    have t7d := t7.andNew ((New.refl w7).drew)
    have R7d := R7.new ((New.refl w7).drew)
    have L7d := L7.new ((New.refl w7).drew)
    have C7d := C7.new ((New.refl w7).drew)
    generalize w7.drew = w7d at *
    refine' hw_take 0 (some 43) _ rfl rfl (by kernel_rfl) (by kernel_rfl) (by kernel_rfl) (fun _ _ _ h => h) (by rfl) hH ?hy27 ?rest27
    case hy27 =>
      intro X hX
      go_simp
      try rfl
    simp only [Act.put, List.setIfInBounds_toArray, List.set_cons_zero, List.set_cons_succ]
    refine' hw_take 1 (some 44) _ rfl rfl (by kernel_rfl) (by kernel_rfl) (by kernel_rfl) (fun _ _ _ h => h) (by rfl) hH ?hy28 ?rest28
    case hy28 =>
      intro X hX
      have cX := (C7.turn hX (by omega)).cells
      go_simp
      try rfl
    simp only [Act.put, List.setIfInBounds_toArray, List.set_cons_zero, List.set_cons_succ]
    refine' hw_take 2 (some 45) _ rfl rfl (by kernel_rfl) (by kernel_rfl) (by kernel_rfl) (fun _ _ _ h => h) (by rfl) hH ?hy29 ?rest29
    case hy29 =>
      intro X hX
      go_simp
      try rfl
    simp only [Act.put, List.setIfInBounds_toArray, List.set_cons_zero, List.set_cons_succ]
    refine' hw_take 3 (some 46) _ rfl rfl (by kernel_rfl) (by kernel_rfl) (by kernel_rfl) (fun _ _ _ h => h) (by rfl) hH ?hy30 ?rest30
    case hy30 =>
      intro X hX
      go_simp
      try rfl
    simp only [Act.put, List.setIfInBounds_toArray, List.set_cons_zero, List.set_cons_succ]
    refine hw_call 4 (some 47) rfl rfl (by kernel_rfl) (by rfl) (fun K hK => ?_)
    go_simp
    have hbl := Blk.mk w7d w7d.heap.size 2 #[.int .i64 3, .int .i64 (-3)] rfl
    have hal := (New.refl w7d).alloc (.cells #[.int .i64 3, .int .i64 (-3)] 2)
    have hT8 := Turn.trans hH hal.turn (fun i _ e => e)
    refine hK.out _ _ hT8 (fun _ => ?_)
    simp only [Act.put, List.setIfInBounds_toArray, List.set_cons_zero, List.set_cons_succ]
    refine hw_call 5 (some 48) rfl rfl (by kernel_rfl) (by rfl) (fun K hK => ?_)
    go_simp
    refine (pick_sc (s7d.new hal) [3, -3] hbl 2 rfl (by omega) (by omega) (by omega)).mono ?_
    rintro e w8 ⟨r8, rfl, hx8, s8, ht8⟩
    have hx8 : Sm r8 ∧ -3 ≤ r8 ∧ r8 ≤ 3 := by simp only [List.mem_cons, List.not_mem_nil, or_false] at hx8; unfold Sm; omega
    obtain ⟨-, y0, y1⟩ := hx8
    go_simp
    have hT9 := Turn.trans hT8 (ht8.mono (T := fun i => i = B ∨ i = w5.heap.size) (fun i _ e => .inl e)) (fun i _ e => e)
    have R8 := (R7d.new hal).turn ht8 RB
    have L8 := (L7d.new hal).turn ht8 LB
    have C8 := (C7d.new hal).turn ht8 CB
    have t8 := (t7d.andNew hal).both ht8
    refine hK.out _ _ hT9 (fun _ => ?_)
    simp only [Act.put, List.setIfInBounds_toArray, List.set_cons_zero, List.set_cons_succ]
    have q8 : IntKind.i64.wrap (r3 + r8) = r3 + r8 := w13 (by omega) (by omega)
    refine' hw_take 6 (some 49) _ rfl rfl (by kernel_rfl) (by kernel_rfl) (by kernel_rfl) (fun _ _ _ h => h) (by rfl) hT9 ?hy31 ?rest31
    case hy31 =>
      intro X hX
      go_simp
      try rfl
    simp only [Act.put, List.setIfInBounds_toArray, List.set_cons_zero, List.set_cons_succ]
    refine' hw_take 7 (some 50) _ rfl rfl (by kernel_rfl) (by kernel_rfl) (by kernel_rfl) (fun _ _ _ h => h) (by rfl) hT9 ?hy32 ?rest32
    case hy32 =>
      intro X hX
      go_simp
      try rfl
    simp only [Act.put, List.setIfInBounds_toArray, List.set_cons_zero, List.set_cons_succ]
    refine hw_call 8 none rfl rfl (by kernel_rfl) (by rfl) (fun K hK => ?_)
    have cL := L8.cells
    have fL := L8.frees
    go_simp
    have L9 := L8.set 0 (.int .i64 (r3 + r8))
    replace L9 : Blk _ w5.heap.size 2 #[.int .i64 (r3 + r8), .int .i64 m5] := L9
    have tq := (Turn.refl (fun i => i = w5.heap.size) w8).set (p := ⟨w5.heap.size, 0, none⟩) rfl (.int .i64 (r3 + r8))
    have z8 := t8.size
    have R9 := R8.turn tq (by omega)
    have C9 := C8.turn tq (by omega)
    have s9 := s8.turn tq (by omega) (fun x hz hx e => by have := hA x hz hx; omega)
    have t9 : Turn (fun k => k = B) w _ := t8.andSet ⟨w5.heap.size, 0, none⟩ (.int .i64 (r3 + r8)) gL
    refine hK.out undef _ (hT9.set (.inr rfl) _) (fun _ => ?_)
    refine wpAnyH_done (by kernel_rfl) ?_ _
    have sn : Sm (r3 + r8) := by unfold Sm; omega
    clear hH hT8 hT9 tq cL fL q8 s7 t7 R7 L7 C7 s7d t7d R7d L7d C7d R8 L8 C8 s8 t8 hbl hal ht8
    generalize w8.setCell ⟨w5.heap.size, 0, none⟩ (.int .i64 (r3 + r8)) = w9 at *
    have cR := R9.cells
    have fR := R9.frees
    have lR := R9.lt
    have cL := L9.cells
    have fL := L9.frees
    have lL := L9.lt
    have cC := C9.cells
    have fC := C9.frees
    have lC := C9.lt
    go_wp2
    refine bodyPost_ret (v := .agg #[.int .i64 r3, .slice (some ⟨w5.heap.size, 0, none⟩) 2 2]) (by simp [results, Try.results53, go_sem, cR, cC]) rfl ⟨_, w5.heap.size, 0, 2, 2, _, [r3 + r8, m5], rfl, (by unfold Sm; omega), ns_two ?_ sn sm5, rfl, (by omega), gL, (by omega : t + 1 + 1 + 1 + 1 + 1 + 1 + 1 ≤ t + 10), ?_, ?_⟩
    · simp (disch := first | exact LC | exact RL | exact RC | exact RB) only [Blk.setI]
      exact L9
    · simp (disch := first | exact ge0 | exact gC | exact gL) only [Sc.setI hA hlt]
      exact s9
    · simp (disch := first | exact ge0 | exact gC | exact gL) only [Turn.setI]
      exact t9
  have v2 : (r7 == 2) = false := by simpa using u2
  go_wp2
  refine bodyPost_ret (v := .agg #[.int .i64 r3, .slice (some ⟨w5.heap.size, 0, none⟩) 2 2]) (by simp [results, Try.results53, go_sem, cR, cC]) rfl ⟨_, w5.heap.size, 0, 2, 2, _, [m4, m5], rfl, (by unfold Sm; omega), ns_two ?_ sm_ sm5, rfl, (by omega), gL, (by omega : t + 1 + 1 + 1 + 1 + 1 + 1 ≤ t + 10), ?_, ?_⟩
  · simp (disch := first | exact LC | exact RL | exact RC | exact RB) only [Blk.setI]
    exact L7
  · simp (disch := first | exact ge0 | exact gC | exact gL) only [Sc.setI hA hlt]
    exact s7
  · simp (disch := first | exact ge0 | exact gC | exact gL) only [Turn.setI]
    exact t7

end Go.Proofs.Ytpbmbnckdmjdhaa
