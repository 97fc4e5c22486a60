/- What is proved here: what the drawing of a clock with its tick, and of a lease with two numbers, leaves. -/
import Derived.Test.YtpbmbnckdmjdhaaD13Ck
import Derived.Test.YtpbmbnckdmjdhaaF13Mx
namespace Go.Proofs.Ytpbmbnckdmjdhaa
open Go.RowKit Go.Sort
set_option linter.unusedVariables false
set_option linter.unusedSimpArgs false
set_option maxRecDepth 100000

set_option maxHeartbeats 3200000 in
theorem drawGr (a : Option Addr) (n c : Nat) (zs : List Int) (w : World) (h : BsAt w a zs) (hn : zs.length = n) (hm : n ≤ 2097152) (ha : ∀ x, zs ≠ [] → a = some x → x.block < w.heap.size) :
    Calls Try.prog 26 #[.slice a n c] w fun e w' => ∃ (ho ep ak he u v : Int), e = .returned (.tuple #[.agg #[.int .i64 ho, .int .i64 ep, .int .i64 ak, .int .i64 he], .int .i64 u, .int .i64 v]) ∧ New w w' := by
  have N0 : New w (w.alloc (.cells #[.int .i64 0, .int .i64 0, .int .i64 0, .int .i64 0] 28)) := (New.refl w).alloc _
  have R0 : Blk (w.alloc (.cells #[.int .i64 0, .int .i64 0, .int .i64 0, .int .i64 0] 28)) w.heap.size 28 #[.int .i64 0, .int .i64 0, .int .i64 0, .int .i64 0] := Blk.mk _ _ _ _ rfl
  go_enter Try.func26, Try.ntmps26
  go_upto_region 1 with fail
  generalize w.alloc (.cells #[.int .i64 0, .int .i64 0, .int .i64 0, .int .i64 0] 28) = w0 at *
  have l0 := R0.lt
  go_wp2_with fail
  refine (source_any a n c zs _ (h.new N0) hn hm (fun x hz hx => by have := ha x hz hx; omega)).mono ?_
  rintro e w1 ⟨B, rfl, hB, s1, hn1⟩
  have R1 := R0.new hn1
  have N1 := N0.trans hn1
  clear R0 N0 hn1
  go_wp2_with fail
  refine (l13Lease_sc s1 (by omega)).mono ?_
  rintro e w2 ⟨ho, ep, ak, he, t2, rfl, mo, me, ma, mh, ht2, s2, tt2⟩
  have RB : ¬ w.heap.size = B := by omega
  have R2 := R1.turn tt2 RB
  have N2 := N1.before tt2 (by intro i hi e; omega)
  have B2 := s2.blk.lt
  have al := (New.refl w2).alloc (.cells #[.int .i64 ho, .int .i64 ep, .int .i64 ak, .int .i64 he] 28)
  have C3 := Blk.mk w2 w2.heap.size 28 #[.int .i64 ho, .int .i64 ep, .int .i64 ak, .int .i64 he] rfl
  have R3 := R2.new al
  have N3 := N2.trans al
  have s3 := s2.new al
  have CB : ¬ w2.heap.size = B := by omega
  have l2 := R2.lt
  go_upto_region 3 with fail
  generalize w2.alloc (.cells #[.int .i64 ho, .int .i64 ep, .int .i64 ak, .int .i64 he] 28) = w3 at *
  clear R1 N1 s1 R2 N2 s2 al tt2
  obtain ⟨ma0, ma1⟩ := ma
  obtain ⟨mh0, mh1⟩ := mh
  refine hw_start (n := 7) (S := fun X => Turn (fun i => i = B) w3 X) rfl (by kernel_rfl) (((New.refl _).drew).turn) (fun hH => ?_)
  have sd := s3.new ((New.refl w3).drew)
  have Rd := R3.new ((New.refl w3).drew)
  have Nd := N3.drew
  have Cd := C3.new ((New.refl w3).drew)
  generalize w3.drew = wd at *
  refine' hw_take 0 (some 12) _ rfl rfl (by kernel_rfl) (by kernel_rfl) (by kernel_rfl) (fun _ _ _ h => h) (by rfl) hH ?hy33 ?rest33
  case hy33 =>
    intro X hX
    go_simp
    try rfl
  simp only [Act.put, List.setIfInBounds_toArray, List.set_cons_zero, List.set_cons_succ]
  refine' hw_take 1 (some 13) _ rfl rfl (by kernel_rfl) (by kernel_rfl) (by kernel_rfl) (fun _ _ _ h => h) (by rfl) hH ?hy34 ?rest34
  case hy34 =>
    intro X hX
    have cC := (C3.turn hX CB).cells
    go_simp
    try rfl
  simp only [Act.put, List.setIfInBounds_toArray, List.set_cons_zero, List.set_cons_succ]
  refine' hw_take 2 (some 14) _ rfl rfl (by kernel_rfl) (by kernel_rfl) (by kernel_rfl) (fun _ _ _ h => h) (by rfl) hH ?hy35 ?rest35
  case hy35 =>
    intro X hX
    go_simp
    try rfl
  simp only [Act.put, List.setIfInBounds_toArray, List.set_cons_zero, List.set_cons_succ]
  refine hw_call 3 (some 15) rfl rfl (by kernel_rfl) (by rfl) (fun K hK => ?_)
  go_simp
  refine (next_sc sd 9 (by omega) (by omega)).mono ?_
  rintro e w4 ⟨r4, rfl, ⟨hd4, hf4, -⟩, s4, ht4⟩
  have hf4 := hf4 (by omega)
  go_simp
  have hT4 := Turn.both hH ht4
  refine hK.out _ _ hT4 (fun _ => ?_)
  simp only [Act.put, List.setIfInBounds_toArray, List.set_cons_zero, List.set_cons_succ]
  have q4 : IntKind.i64.wrap (ak + r4) = ak + r4 := w13 (by omega) (by omega)
  have q5 : IntKind.i64.wrap (ak + r4 - 1) = ak + r4 - 1 := w13 (by omega) (by omega)
  refine' hw_take 4 (some 16) _ rfl rfl (by kernel_rfl) (by kernel_rfl) (by kernel_rfl) (fun _ _ _ h => h) (by rfl) hT4 ?hy36 ?rest36
  case hy36 =>
    intro X hX
    go_simp
    try rfl
  simp only [Act.put, List.setIfInBounds_toArray, List.set_cons_zero, List.set_cons_succ]
  refine' hw_take 5 (some 17) _ rfl rfl (by kernel_rfl) (by kernel_rfl) (by kernel_rfl) (fun _ _ _ h => h) (by rfl) hT4 ?hy37 ?rest37
  case hy37 =>
    intro X hX
    go_simp
    try rfl
  simp only [Act.put, List.setIfInBounds_toArray, List.set_cons_zero, List.set_cons_succ]
  refine' hw_take 6 (some 7) _ rfl rfl (by kernel_rfl) (by kernel_rfl) (by kernel_rfl) (fun _ _ _ h => h) (by rfl) hT4 ?hy38 ?rest38
  case hy38 =>
    intro X hX
    go_simp
    try rfl
  simp only [Act.put, List.setIfInBounds_toArray, List.set_cons_zero, List.set_cons_succ]
  refine wpAnyH_done (by kernel_rfl) ?_ _
  have R4 := Rd.turn ht4 RB
  have C4 := Cd.turn ht4 CB
  have N4 := Nd.before ht4 (by intro i hi e; omega)
  clear hH hT4 ht4 sd Rd Nd Cd s3 R3 N3 C3 q4 q5
  go_upto_region 4 with fail
  refine hw_start (n := 11) (S := fun X => Turn (fun i => i = B ∨ i = w.heap.size) w4 X) rfl (by kernel_rfl) (((New.refl _).drew).turn) (fun hH => ?_)
  have sd := s4.new ((New.refl w4).drew)
  have Rd := R4.new ((New.refl w4).drew)
  have Nd := N4.drew
  generalize w4.drew = we at *
  refine' hw_take 0 (some 18) (.agg #[.int .i64 ho, .int .i64 ep, .int .i64 ak, .int .i64 he]) rfl rfl (by kernel_rfl) (by kernel_rfl) (by kernel_rfl) (fun _ _ _ h => h) (by rfl) hH ?hzA ?rzA
  case hzA =>
    intro X hX
    exact run_load_blk 28 (.tmp 6) rfl w2.heap.size rfl #[.int .i64 ho, .int .i64 ep, .int .i64 ak, .int .i64 he] _ (C4.turn hX (by omega)) Try.underlying28 rfl (by kernel_rfl)
  simp only [Act.put, List.setIfInBounds_toArray, List.set_cons_zero, List.set_cons_succ]
  refine' hw_take 1 (some 19) _ rfl rfl (by kernel_rfl) (by kernel_rfl) (by kernel_rfl) (fun _ _ _ h => h) (by rfl) hH ?hy39 ?rest39
  case hy39 =>
    intro X hX
    go_simp
    try rfl
  simp only [Act.put, List.setIfInBounds_toArray, List.set_cons_zero, List.set_cons_succ]
  refine' hw_take 2 (some 20) _ rfl rfl (by kernel_rfl) (by kernel_rfl) (by kernel_rfl) (fun _ _ _ h => h) (by rfl) hH ?hy40 ?rest40
  case hy40 =>
    intro X hX
    go_simp
    try rfl
  simp only [Act.put, List.setIfInBounds_toArray, List.set_cons_zero, List.set_cons_succ]
  refine' hw_take 3 (some 21) _ rfl rfl (by kernel_rfl) (by kernel_rfl) (by kernel_rfl) (fun _ _ _ h => h) (by rfl) hH ?hy41 ?rest41
  case hy41 =>
    intro X hX
    have cC := (C4.turn hX (by omega)).cells
    go_simp
    try rfl
  simp only [Act.put, List.setIfInBounds_toArray, List.set_cons_zero, List.set_cons_succ]
  refine' hw_take 4 (some 22) _ rfl rfl (by kernel_rfl) (by kernel_rfl) (by kernel_rfl) (fun _ _ _ h => h) (by rfl) hH ?hy42 ?rest42
  case hy42 =>
    intro X hX
    go_simp
    try rfl
  simp only [Act.put, List.setIfInBounds_toArray, List.set_cons_zero, List.set_cons_succ]
  refine hw_call 5 (some 23) rfl rfl (by kernel_rfl) (by rfl) (fun K hK => ?_)
  go_simp
  refine (next_sc sd 9 (by omega) (by omega)).mono ?_
  rintro e w5 ⟨r5, rfl, ⟨hd5, hf5, -⟩, s5, ht5⟩
  have hf5 := hf5 (by omega)
  go_simp
  have hT5 := Turn.trans hH (ht5.mono (T := fun i => i = B ∨ i = w.heap.size) (fun i _ e => .inl e)) (fun i _ e => e)
  refine hK.out _ _ hT5 (fun _ => ?_)
  simp only [Act.put, List.setIfInBounds_toArray, List.set_cons_zero, List.set_cons_succ]
  have q6 : IntKind.i64.wrap (he + r5) = he + r5 := w13 (by omega) (by omega)
  have q7 : IntKind.i64.wrap (he + r5 - 1) = he + r5 - 1 := w13 (by omega) (by omega)
  refine' hw_take 6 (some 24) _ rfl rfl (by kernel_rfl) (by kernel_rfl) (by kernel_rfl) (fun _ _ _ h => h) (by rfl) hT5 ?hy43 ?rest43
  case hy43 =>
    intro X hX
    go_simp
    try rfl
  simp only [Act.put, List.setIfInBounds_toArray, List.set_cons_zero, List.set_cons_succ]
  refine' hw_take 7 (some 25) _ rfl rfl (by kernel_rfl) (by kernel_rfl) (by kernel_rfl) (fun _ _ _ h => h) (by rfl) hT5 ?hy44 ?rest44
  case hy44 =>
    intro X hX
    go_simp
    try rfl
  simp only [Act.put, List.setIfInBounds_toArray, List.set_cons_zero, List.set_cons_succ]
  have R5 := Rd.turn ht5 RB
  have N5 := Nd.before ht5 (by intro i hi e; omega)
  refine hw_call 8 none rfl rfl (by kernel_rfl) (by rfl) (fun K hK => ?_)
  refine hw_store 28 (.tmp 2) (.tmp 18) rfl rfl w.heap.size #[.int .i64 ho, .int .i64 ep, .int .i64 ak, .int .i64 he] #[.int .i64 0, .int .i64 0, .int .i64 0, .int .i64 0] rfl rfl R5 (by kernel_rfl) rfl (by kernel_rfl) ?_
  have tR := Turn.rowW (Turn.refl (fun i => i = w.heap.size) w5) rfl #[.int .i64 ho, .int .i64 ep, .int .i64 ak, .int .i64 he]
  have bR := R5.rowW #[.int .i64 ho, .int .i64 ep, .int .i64 ak, .int .i64 he]
  have NR := N5.before tR (by intro i hi e; omega)
  have hT6 := Turn.trans hT5 (tR.mono (T := fun i => i = B ∨ i = w.heap.size) (fun i _ e => .inr e)) (fun i _ e => e)
  refine hK.out undef _ hT6 (fun _ => ?_)
  generalize w5.setRow w.heap.size #[.int .i64 ho, .int .i64 ep, .int .i64 ak, .int .i64 he] = w6 at *
  try simp only [Act.put, List.setIfInBounds_toArray, List.set_cons_zero, List.set_cons_succ]
  refine' hw_take 9 (some 3) _ rfl rfl (by kernel_rfl) (by kernel_rfl) (by kernel_rfl) (fun _ _ _ h => h) (by rfl) hT6 ?hy45 ?rest45
  case hy45 =>
    intro X hX
    go_simp
    try rfl
  simp only [Act.put, List.setIfInBounds_toArray, List.set_cons_zero, List.set_cons_succ]
  refine' hw_take 10 (some 4) _ rfl rfl (by kernel_rfl) (by kernel_rfl) (by kernel_rfl) (fun _ _ _ h => h) (by rfl) hT6 ?hy46 ?rest46
  case hy46 =>
    intro X hX
    go_simp
    try rfl
  simp only [Act.put, List.setIfInBounds_toArray, List.set_cons_zero, List.set_cons_succ]
  refine wpAnyH_done (by kernel_rfl) ?_ _
  have cR := bR.cells
  go_wp2
  exact bodyPost_ret (v := .tuple #[.agg #[.int .i64 ho, .int .i64 ep, .int .i64 ak, .int .i64 he], .int .i64 (ak + r4 - 1), .int .i64 (he + r5 - 1)]) (by simp [results, Try.results26, go_sem, cR]) rfl ⟨ho, ep, ak, he, _, _, rfl, NR⟩

set_option maxHeartbeats 6400000 in
theorem drawTi (a : Option Addr) (n c : Nat) (zs : List Int) (w : World) (h : BsAt w a zs) (hn : zs.length = n) (hm : n ≤ 2097152) (ha : ∀ x, zs ≠ [] → a = some x → x.block < w.heap.size) :
    Calls Try.prog 24 #[.slice a n c] w fun e w' => ∃ (nw t : Int) (bL oL m k go l d : Nat) (xs os : List Int), e = .returned (.tuple #[.agg #[.int .i64 nw, .slice (some ⟨bL, oL, none⟩) m k], .int .i64 t, .slice (some ⟨go, 0, none⟩) l d]) ∧ Sm nw ∧ Sm t ∧ NsAt w' (some ⟨bL, oL, none⟩) xs ∧ xs.length = m ∧ m ≤ 2 ∧ NsAt w' (some ⟨go, 0, none⟩) os ∧ os.length = l ∧ l ≤ 3 ∧ New w w' := by
  have N0 : New w (w.alloc (.cells #[.int .i64 0, .slice none 0 0] 26)) := (New.refl w).alloc _
  have R0 : Blk (w.alloc (.cells #[.int .i64 0, .slice none 0 0] 26)) w.heap.size 26 #[.int .i64 0, .slice none 0 0] := Blk.mk _ _ _ _ rfl
  go_enter Try.func24, Try.ntmps24
  go_upto_region 1 with fail
  generalize w.alloc (.cells #[.int .i64 0, .slice none 0 0] 26) = w0 at *
  have l0 := R0.lt
  go_wp2_with fail
  refine (source_any a n c zs _ (h.new N0) hn hm (fun x hz hx => by have := ha x hz hx; omega)).mono ?_
  rintro e w1 ⟨B, rfl, hB, s1, hn1⟩
  have R1 := R0.new hn1
  have N1 := N0.trans hn1
  have B1 := s1.blk.lt
  clear R0 N0 hn1
  go_wp2_with fail
  refine (l13Clock_sc s1 (by omega)).mono ?_
  rintro e w2 ⟨nw, bL, oL, m, k, t2, xs, rfl, mo, hxs, hxm, hm2, hbL, ht2, s2, tt2⟩
  have RB : ¬ w.heap.size = B := by omega
  have bB : ¬ bL = B := by omega
  have R2 := R1.turn tt2 RB
  have N2 := N1.before tt2 (by intro i hi e; omega)
  have B2 := s2.blk.lt
  have bR : ¬ bL = w.heap.size := by have := R1.lt; omega
  have al := (New.refl w2).alloc (.cells #[.int .i64 nw, .slice (some ⟨bL, oL, none⟩) m k] 26)
  have C3 := Blk.mk w2 w2.heap.size 26 #[.int .i64 nw, .slice (some ⟨bL, oL, none⟩) m k] rfl
  have R3 := R2.new al
  have N3 := N2.trans al
  have s3 := s2.new al
  have x3 := hxs.new al
  have CB : ¬ w2.heap.size = B := by omega
  have l2 := R2.lt
  have HX : Hid (xs.length = m) := hxm
  go_upto_region 3 with fail
  generalize w2.alloc (.cells #[.int .i64 nw, .slice (some ⟨bL, oL, none⟩) m k] 26) = w3 at *
  have z3 := C3.lt
  clear R1 N1 s1 R2 N2 s2 al tt2 hxs hxm
  obtain ⟨mo0, mo1⟩ := mo
  go_wp2_with fail
  refine (next_sc s3 5 (by omega) (by omega)).mono ?_
  rintro e w4 ⟨r4, rfl, ⟨hd4, hf4, -⟩, s4, ht4⟩
  have hf4 := hf4 (by omega)
  have R4 := R3.turn ht4 RB
  have C4 := C3.turn ht4 CB
  have N4 := N3.before ht4 (by intro i hi e; omega)
  have x4 := x3.turn ht4 (fun q _ e => by cases e; exact bB)
  have z4 := ht4.size
  clear ht4 s3 R3 C3 N3 x3
  have q4 : IntKind.i64.wrap (r4 - 2) = r4 - 2 := w13 (by omega) (by omega)
  go_wp2_with fail
  refine (next_sc s4 5 (by omega) (by omega)).mono ?_
  rintro e w5 ⟨r5, rfl, ⟨hd5, hf5, -⟩, s5, ht5⟩
  have hf5 := hf5 (by omega)
  have R5 := R4.turn ht5 RB
  have C5 := C4.turn ht5 CB
  have N5 := N4.before ht5 (by intro i hi e; omega)
  have x5 := x4.turn ht5 (fun q _ e => by cases e; exact bB)
  have z5 := ht5.size
  clear ht5 s4 R4 C4 N4 x4
  have q5 : IntKind.i64.wrap (r5 - 2) = r5 - 2 := w13 (by omega) (by omega)
  go_upto_region 4 with fail
  have al := (New.refl w5).alloc (.cells #[.int .i64 (r4 - 2), .int .i64 (r5 - 2)] 2)
  have O6 := Blk.mk w5 w5.heap.size 2 #[.int .i64 (r4 - 2), .int .i64 (r5 - 2)] rfl
  have R6 := R5.new al
  have C6 := C5.new al
  have N6 := N5.trans al
  have x6 := x5.new al
  have s6 := s5.new al
  have OB : ¬ w5.heap.size = B := by omega
  have OR : ¬ w5.heap.size = w.heap.size := by omega
  have bO : ¬ bL = w5.heap.size ∨ xs = [] := by
    by_cases hx : xs = []
    · exact .inr hx
    · obtain ⟨b', o', z', e, -, hc, -⟩ := x5.at 0 (by cases xs <;> simp_all)
      cases e
      have := World.block_lt_of_cell? w5 _ hc
      exact .inl (by show ¬ bL = w5.heap.size; simp at this; omega)
  have z6 := al.size
  clear al R5 C5 N5 x5 s5 q4 q5
  generalize w5.alloc (.cells #[.int .i64 (r4 - 2), .int .i64 (r5 - 2)] 2) = w6 at *
  go_wp2_with fail
  refine (next_sc s6 12 (by omega) (by omega)).mono ?_
  rintro e w7 ⟨r7, rfl, ⟨hd7, hf7, -⟩, s7, ht7⟩
  have hf7 := hf7 (by omega)
  have R7 := R6.turn ht7 RB
  have C7 := C6.turn ht7 CB
  have N7 := N6.before ht7 (by intro i hi e; omega)
  have x7 := x6.turn ht7 (fun q _ e => by cases e; exact bB)
  have O7 := O6.turn ht7 OB
  have z7 := ht7.size
  clear ht7 s6 R6 C6 N6 x6 O6
  by_cases u0 : r7 = 0
  case pos =>
    subst u0
    go_wp2_with fail
    have hbl := Blk.mk w7 w7.heap.size 2 #[.int .i64 (-3), .int .i64 3] rfl
    have hal := (New.refl w7).alloc (.cells #[.int .i64 (-3), .int .i64 3] 2)
    refine (pick_sc (s7.new hal) [-3, 3] hbl 2 rfl (by omega) (by omega) (by omega)).mono ?_
    rintro e w8 ⟨r8, rfl, hx8, s8, ht8⟩
    have hx8 : Sm r8 := by simp only [List.mem_cons, List.not_mem_nil, or_false] at hx8; unfold Sm; omega
    have R8 := (R7.new hal).turn ht8 RB
    have C8 := (C7.new hal).turn ht8 CB
    have N8 := (N7.trans hal).before ht8 (by intro i hi e; omega)
    have x8 := (x7.new hal).turn ht8 (fun q _ e => by cases e; exact bB)
    have O8 := (O7.new hal).turn ht8 OB
    have z8 := Nat.le_trans hal.size ht8.size
    clear hbl hal ht8 s7 R7 C7 N7 x7 O7
    have cO := O8.cells
    have fO := O8.frees
    go_upto_region 9 with fail
    have O9 := O8.set 1 (.int .i64 r8)
    replace O9 : Blk _ w5.heap.size 2 #[.int .i64 (r4 - 2), .int .i64 r8] := O9
    have tq := (Turn.refl (fun i => i = w5.heap.size) w8).set (p := ⟨w5.heap.size, 1, none⟩) rfl (.int .i64 r8)
    have R9 := R8.turn tq (by omega)
    have C9 := C8.turn tq (by omega)
    have N9 := N8.before tq (by intro i hi e; omega)
    have s9 := s8.turn tq (by omega) (fun x hz hx e => by have := ha x hz hx; omega)
    have x9 := x8.turn tq (fun q hq e => by rcases bO with bO | bO; (cases e; exact bO); exact absurd bO hq)
    have on9 := ns_two O9 (by unfold Sm; omega) hx8
    generalize w8.setCell ⟨w5.heap.size, 1, none⟩ (.int .i64 r8) = w9 at *
    clear cO fO tq R8 C8 N8 s8 x8 O8
    refine hw_start (n := 12) (S := fun X => Turn (fun i => i = B ∨ i = w.heap.size) w9 X) rfl (by kernel_rfl) (((New.refl _).drew).turn) (fun hH => ?_)
    have sd := s9.new ((New.refl w9).drew)
    have Rd := R9.new ((New.refl w9).drew)
    have Nd := N9.drew
    have xd := x9.new ((New.refl w9).drew)
    have od := on9.new ((New.refl w9).drew)
    generalize w9.drew = wd at *
    refine' hw_take 0 (some 33) (.agg #[.int .i64 nw, .slice (some ⟨bL, oL, none⟩) m k]) rfl rfl (by kernel_rfl) (by kernel_rfl) (by kernel_rfl) (fun _ _ _ h => h) (by rfl) hH ?hzC47 ?rzC47
    case hzC47 =>
      intro X hX
      exact run_load_blk 26 (.tmp 6) rfl w2.heap.size rfl #[.int .i64 nw, .slice (some ⟨bL, oL, none⟩) m k] _ (C9.turn hX (by omega)) Try.underlying26 rfl (by kernel_rfl)
    simp only [Act.put, List.setIfInBounds_toArray, List.set_cons_zero, List.set_cons_succ]
    refine' hw_take 1 (some 34) _ rfl rfl (by kernel_rfl) (by kernel_rfl) (by kernel_rfl) (fun _ _ _ h => h) (by rfl) hH ?hy48 ?rest48
    case hy48 =>
      intro X hX
      go_simp
      try rfl
    simp only [Act.put, List.setIfInBounds_toArray, List.set_cons_zero, List.set_cons_succ]
    refine' hw_take 2 (some 35) _ rfl rfl (by kernel_rfl) (by kernel_rfl) (by kernel_rfl) (fun _ _ _ h => h) (by rfl) hH ?hy49 ?rest49
    case hy49 =>
      intro X hX
      go_simp
      try rfl
    simp only [Act.put, List.setIfInBounds_toArray, List.set_cons_zero, List.set_cons_succ]
    refine' hw_take 4 (some 37) _ rfl rfl (by kernel_rfl) (by kernel_rfl) (by kernel_rfl) (fun _ _ _ h => h) (by rfl) hH ?hy50 ?rest50
    case hy50 =>
      intro X hX
      go_simp
      try rfl
    simp only [Act.put, List.setIfInBounds_toArray, List.set_cons_zero, List.set_cons_succ]
    refine' hw_take 8 (some 41) _ rfl rfl (by kernel_rfl) (by kernel_rfl) (by kernel_rfl) (fun _ _ _ h => h) (by rfl) hH ?hy51 ?rest51
    case hy51 =>
      intro X hX
      go_simp
      try rfl
    simp only [Act.put, List.setIfInBounds_toArray, List.set_cons_zero, List.set_cons_succ]
    refine hw_call 3 (some 36) rfl rfl (by kernel_rfl) (by rfl) (fun K hK => ?_)
    go_simp
    refine (next_sc sd 9 (by omega) (by omega)).mono ?_
    rintro e wp ⟨rp, rfl, ⟨hdp, hfp, -⟩, sp, htp⟩
    have hfp := hfp (by omega)
    go_simp
    have hTp := Turn.trans hH (htp.mono (T := fun i => i = B ∨ i = w.heap.size) (fun i _ e => .inl e)) (fun i _ e => e)
    refine hK.out _ _ hTp (fun _ => ?_)
    simp only [Act.put, List.setIfInBounds_toArray, List.set_cons_zero, List.set_cons_succ]
    refine hw_call 5 (some 38) rfl rfl (by kernel_rfl) (by rfl) (fun K hK => ?_)
    go_simp
    refine (next_sc sp 9 (by omega) (by omega)).mono ?_
    rintro e wq ⟨rq, rfl, ⟨hdq, hfq, -⟩, sq, htq⟩
    have hfq := hfq (by omega)
    go_simp
    have hTq := Turn.trans hTp (htq.mono (T := fun i => i = B ∨ i = w.heap.size) (fun i _ e => .inl e)) (fun i _ e => e)
    refine hK.out _ _ hTq (fun _ => ?_)
    simp only [Act.put, List.setIfInBounds_toArray, List.set_cons_zero, List.set_cons_succ]
    refine hw_call 6 (some 39) rfl rfl (by kernel_rfl) (by rfl) (fun K hK => ?_)
    go_simp
    have hbl := Blk.mk wq wq.heap.size 2 #[.int .i64 rp, .int .i64 rq, .int .i64 1000, .int .i64 1001, .int .i64 (-1)] rfl
    have hal := (New.refl wq).alloc (.cells #[.int .i64 rp, .int .i64 rq, .int .i64 1000, .int .i64 1001, .int .i64 (-1)] 2)
    have hTa := Turn.trans hTq hal.turn (fun i _ e => e)
    refine hK.out _ _ hTa (fun _ => ?_)
    simp only [Act.put, List.setIfInBounds_toArray, List.set_cons_zero, List.set_cons_succ]
    refine hw_call 7 (some 40) rfl rfl (by kernel_rfl) (by rfl) (fun K hK => ?_)
    go_simp
    refine (pick_sc (sq.new hal) [rp, rq, 1000, 1001, -1] hbl 5 rfl (by omega) (by omega) (by omega)).mono ?_
    rintro e wv ⟨rv, rfl, hxv, sv, htv⟩
    have hxv : Sm rv := by simp only [List.mem_cons, List.not_mem_nil, or_false] at hxv; unfold Sm; omega
    go_simp
    have hTv := Turn.trans hTa (htv.mono (T := fun i => i = B ∨ i = w.heap.size) (fun i _ e => .inl e)) (fun i _ e => e)
    refine hK.out _ _ hTv (fun _ => ?_)
    simp only [Act.put, List.setIfInBounds_toArray, List.set_cons_zero, List.set_cons_succ]
    have Rv : Blk wv w.heap.size 26 #[.int .i64 0, .slice none 0 0] := ((((Rd.turn htp RB).turn htq RB).new hal).turn htv RB)
    have Nv : New w wv := ((((Nd.before htp (by intro i hi e; omega)).before htq (by intro i hi e; omega)).trans hal).before htv (by intro i hi e; omega))
    have xv := ((((xd.turn htp (fun q _ e => by cases e; exact bB)).turn htq (fun q _ e => by cases e; exact bB)).new hal).turn htv (fun q _ e => by cases e; exact bB))
    have ov := ((((od.turn htp (fun q _ e => by cases e; exact OB)).turn htq (fun q _ e => by cases e; exact OB)).new hal).turn htv (fun q _ e => by cases e; exact OB))
    refine hw_call 9 none rfl rfl (by kernel_rfl) (by rfl) (fun K hK => ?_)
    refine hw_store 26 (.tmp 2) (.tmp 33) rfl rfl w.heap.size #[.int .i64 nw, .slice (some ⟨bL, oL, none⟩) m k] #[.int .i64 0, .slice none 0 0] rfl rfl Rv (by kernel_rfl) rfl (by kernel_rfl) ?_
    have tR := Turn.rowW (Turn.refl (fun i => i = w.heap.size) wv) rfl #[.int .i64 nw, .slice (some ⟨bL, oL, none⟩) m k]
    have bR' := Rv.rowW #[.int .i64 nw, .slice (some ⟨bL, oL, none⟩) m k]
    have NR := Nv.before tR (by intro i hi e; omega)
    have xR := xv.turn tR (fun q _ e => by cases e; exact bR)
    have oR := ov.turn tR (fun q _ e => by cases e; exact OR)
    have hTw := Turn.trans hTv (tR.mono (T := fun i => i = B ∨ i = w.heap.size) (fun i _ e => .inr e)) (fun i _ e => e)
    refine hK.out undef _ hTw (fun _ => ?_)
    generalize wv.setRow w.heap.size #[.int .i64 nw, .slice (some ⟨bL, oL, none⟩) m k] = ww at *
    try simp only [Act.put, List.setIfInBounds_toArray, List.set_cons_zero, List.set_cons_succ]
    refine' hw_take 10 (some 3) _ rfl rfl (by kernel_rfl) (by kernel_rfl) (by kernel_rfl) (fun _ _ _ h => h) (by rfl) hTw ?hy52 ?rest52
    case hy52 =>
      intro X hX
      go_simp
      try rfl
    simp only [Act.put, List.setIfInBounds_toArray, List.set_cons_zero, List.set_cons_succ]
    refine' hw_take 11 (some 4) _ rfl rfl (by kernel_rfl) (by kernel_rfl) (by kernel_rfl) (fun _ _ _ h => h) (by rfl) hTw ?hy53 ?rest53
    case hy53 =>
      intro X hX
      go_simp
      try rfl
    simp only [Act.put, List.setIfInBounds_toArray, List.set_cons_zero, List.set_cons_succ]
    refine wpAnyH_done (by kernel_rfl) ?_ _
    have cR := bR'.cells
    go_wp2
    exact bodyPost_ret (v := .tuple #[.agg #[.int .i64 nw, .slice (some ⟨bL, oL, none⟩) m k], .int .i64 rv, .slice (some ⟨w5.heap.size, 0, none⟩) 2 2]) (by simp [results, Try.results24, go_sem, cR]) rfl ⟨nw, rv, bL, oL, m, k, w5.heap.size, 2, 2, xs, [r4 - 2, r8], rfl, ⟨mo0, mo1⟩, hxv, xR, HX.out, hm2, oR, rfl, by omega, NR⟩
  have v0 : (r7 == 0) = false := by simpa using u0
  by_cases u1 : r7 = 1
  case pos =>
    subst u1
    have al := (New.refl w7).alloc (.cells #[.int .i64 0] 2)
    have bA : Blk (w7.alloc (.cells #[.int .i64 0] 2)) w7.heap.size 2 #[.int .i64 0] := Blk.mk _ _ _ _ rfl
    go_wp2_with (at_builtin; refine apl13 _ rfl (.tmp 30) (.tmp 31) rfl (.slice (some ⟨w5.heap.size, 0, none⟩) 2 2) 2 [r4 - 2, r5 - 2] rfl ((own_of_blk O7).new al) w7.heap.size 0 rfl bA (by omega) ?_; intro go d w8 ho8 ht8 hb8)
    have gB : ¬ go = B := by rcases hb8 with q | q; (have : w5.heap.size = go := (by simpa [Value.ownBlock] using q)); omega; (have : go = w7.heap.size + 1 := (by simpa using q)); omega
    have gR : ¬ go = w.heap.size := by rcases hb8 with q | q; (have : w5.heap.size = go := (by simpa [Value.ownBlock] using q)); omega; (have : go = w7.heap.size + 1 := (by simpa using q)); omega
    have N8 := (N7.trans al).before ht8 (by intro i hi e; have : w5.heap.size = i := (by simpa [Value.ownBlock] using e); omega)
    have R8 := (R7.new al).turn ht8 (by intro e; have : w5.heap.size = _ := (by simpa [Value.ownBlock] using e); omega)
    have C8 := (C7.new al).turn ht8 (by intro e; have : w5.heap.size = _ := (by simpa [Value.ownBlock] using e); omega)
    have s8 := (s7.new al).turn ht8 (by intro e; have : w5.heap.size = _ := (by simpa [Value.ownBlock] using e); omega) (fun x hz hx e => by have := ha x hz hx; have : w5.heap.size = x.block := (by simpa [Value.ownBlock] using e); omega)
    have x8 := (x7.new al).turn ht8 (fun q hq e e2 => by have : w5.heap.size = q.block := (by simpa [Value.ownBlock] using e2); cases e; rcases bO with bO | bO; exact bO this.symm; exact absurd bO hq)
    have on8 : NsAt w8 (some ⟨go, 0, none⟩) [r4 - 2, r5 - 2, 0] := ho8.ns (by intro z hz; simp only [List.mem_append, List.mem_cons, List.not_mem_nil, or_false] at hz; unfold In6; omega)
    have z8 := ht8.size
    have gg : True := trivial
    clear al bA ht8 hb8 ho8 s7 R7 C7 N7 x7 O7
    go_upto_region 9 with fail
    refine hw_start (n := 12) (S := fun X => Turn (fun i => i = B ∨ i = w.heap.size) w8 X) rfl (by kernel_rfl) (((New.refl _).drew).turn) (fun hH => ?_)
    have sd := s8.new ((New.refl w8).drew)
    have Rd := R8.new ((New.refl w8).drew)
    have Nd := N8.drew
    have xd := x8.new ((New.refl w8).drew)
    have od := on8.new ((New.refl w8).drew)
    generalize w8.drew = wd at *
    refine' hw_take 0 (some 33) (.agg #[.int .i64 nw, .slice (some ⟨bL, oL, none⟩) m k]) rfl rfl (by kernel_rfl) (by kernel_rfl) (by kernel_rfl) (fun _ _ _ h => h) (by rfl) hH ?hzC54 ?rzC54
    case hzC54 =>
      intro X hX
      exact run_load_blk 26 (.tmp 6) rfl w2.heap.size rfl #[.int .i64 nw, .slice (some ⟨bL, oL, none⟩) m k] _ (C8.turn hX (by omega)) Try.underlying26 rfl (by kernel_rfl)
    simp only [Act.put, List.setIfInBounds_toArray, List.set_cons_zero, List.set_cons_succ]
    refine' hw_take 1 (some 34) _ rfl rfl (by kernel_rfl) (by kernel_rfl) (by kernel_rfl) (fun _ _ _ h => h) (by rfl) hH ?hy55 ?rest55
    case hy55 =>
      intro X hX
      go_simp
      try rfl
    simp only [Act.put, List.setIfInBounds_toArray, List.set_cons_zero, List.set_cons_succ]
    refine' hw_take 2 (some 35) _ rfl rfl (by kernel_rfl) (by kernel_rfl) (by kernel_rfl) (fun _ _ _ h => h) (by rfl) hH ?hy56 ?rest56
    case hy56 =>
      intro X hX
      go_simp
      try rfl
    simp only [Act.put, List.setIfInBounds_toArray, List.set_cons_zero, List.set_cons_succ]
    refine' hw_take 4 (some 37) _ rfl rfl (by kernel_rfl) (by kernel_rfl) (by kernel_rfl) (fun _ _ _ h => h) (by rfl) hH ?hy57 ?rest57
    case hy57 =>
      intro X hX
      go_simp
      try rfl
    simp only [Act.put, List.setIfInBounds_toArray, List.set_cons_zero, List.set_cons_succ]
    refine' hw_take 8 (some 41) _ rfl rfl (by kernel_rfl) (by kernel_rfl) (by kernel_rfl) (fun _ _ _ h => h) (by rfl) hH ?hy58 ?rest58
    case hy58 =>
      intro X hX
      go_simp
      try rfl
    simp only [Act.put, List.setIfInBounds_toArray, List.set_cons_zero, List.set_cons_succ]
    refine hw_call 3 (some 36) rfl rfl (by kernel_rfl) (by rfl) (fun K hK => ?_)
    go_simp
    refine (next_sc sd 9 (by omega) (by omega)).mono ?_
    rintro e wp ⟨rp, rfl, ⟨hdp, hfp, -⟩, sp, htp⟩
    have hfp := hfp (by omega)
    go_simp
    have hTp := Turn.trans hH (htp.mono (T := fun i => i = B ∨ i = w.heap.size) (fun i _ e => .inl e)) (fun i _ e => e)
    refine hK.out _ _ hTp (fun _ => ?_)
    simp only [Act.put, List.setIfInBounds_toArray, List.set_cons_zero, List.set_cons_succ]
    refine hw_call 5 (some 38) rfl rfl (by kernel_rfl) (by rfl) (fun K hK => ?_)
    go_simp
    refine (next_sc sp 9 (by omega) (by omega)).mono ?_
    rintro e wq ⟨rq, rfl, ⟨hdq, hfq, -⟩, sq, htq⟩
    have hfq := hfq (by omega)
    go_simp
    have hTq := Turn.trans hTp (htq.mono (T := fun i => i = B ∨ i = w.heap.size) (fun i _ e => .inl e)) (fun i _ e => e)
    refine hK.out _ _ hTq (fun _ => ?_)
    simp only [Act.put, List.setIfInBounds_toArray, List.set_cons_zero, List.set_cons_succ]
    refine hw_call 6 (some 39) rfl rfl (by kernel_rfl) (by rfl) (fun K hK => ?_)
    go_simp
    have hbl := Blk.mk wq wq.heap.size 2 #[.int .i64 rp, .int .i64 rq, .int .i64 1000, .int .i64 1001, .int .i64 (-1)] rfl
    have hal := (New.refl wq).alloc (.cells #[.int .i64 rp, .int .i64 rq, .int .i64 1000, .int .i64 1001, .int .i64 (-1)] 2)
    have hTa := Turn.trans hTq hal.turn (fun i _ e => e)
    refine hK.out _ _ hTa (fun _ => ?_)
    simp only [Act.put, List.setIfInBounds_toArray, List.set_cons_zero, List.set_cons_succ]
    refine hw_call 7 (some 40) rfl rfl (by kernel_rfl) (by rfl) (fun K hK => ?_)
    go_simp
    refine (pick_sc (sq.new hal) [rp, rq, 1000, 1001, -1] hbl 5 rfl (by omega) (by omega) (by omega)).mono ?_
    rintro e wv ⟨rv, rfl, hxv, sv, htv⟩
    have hxv : Sm rv := by simp only [List.mem_cons, List.not_mem_nil, or_false] at hxv; unfold Sm; omega
    go_simp
    have hTv := Turn.trans hTa (htv.mono (T := fun i => i = B ∨ i = w.heap.size) (fun i _ e => .inl e)) (fun i _ e => e)
    refine hK.out _ _ hTv (fun _ => ?_)
    simp only [Act.put, List.setIfInBounds_toArray, List.set_cons_zero, List.set_cons_succ]
    have Rv : Blk wv w.heap.size 26 #[.int .i64 0, .slice none 0 0] := ((((Rd.turn htp RB).turn htq RB).new hal).turn htv RB)
    have Nv : New w wv := ((((Nd.before htp (by intro i hi e; omega)).before htq (by intro i hi e; omega)).trans hal).before htv (by intro i hi e; omega))
    have xv := ((((xd.turn htp (fun q _ e => by cases e; exact bB)).turn htq (fun q _ e => by cases e; exact bB)).new hal).turn htv (fun q _ e => by cases e; exact bB))
    have ov := ((((od.turn htp (fun q _ e => by cases e; exact gB)).turn htq (fun q _ e => by cases e; exact gB)).new hal).turn htv (fun q _ e => by cases e; exact gB))
    refine hw_call 9 none rfl rfl (by kernel_rfl) (by rfl) (fun K hK => ?_)
    refine hw_store 26 (.tmp 2) (.tmp 33) rfl rfl w.heap.size #[.int .i64 nw, .slice (some ⟨bL, oL, none⟩) m k] #[.int .i64 0, .slice none 0 0] rfl rfl Rv (by kernel_rfl) rfl (by kernel_rfl) ?_
    have tR := Turn.rowW (Turn.refl (fun i => i = w.heap.size) wv) rfl #[.int .i64 nw, .slice (some ⟨bL, oL, none⟩) m k]
    have bR' := Rv.rowW #[.int .i64 nw, .slice (some ⟨bL, oL, none⟩) m k]
    have NR := Nv.before tR (by intro i hi e; omega)
    have xR := xv.turn tR (fun q _ e => by cases e; exact bR)
    have oR := ov.turn tR (fun q _ e => by cases e; exact gR)
    have hTw := Turn.trans hTv (tR.mono (T := fun i => i = B ∨ i = w.heap.size) (fun i _ e => .inr e)) (fun i _ e => e)
    refine hK.out undef _ hTw (fun _ => ?_)
    generalize wv.setRow w.heap.size #[.int .i64 nw, .slice (some ⟨bL, oL, none⟩) m k] = ww at *
    try simp only [Act.put, List.setIfInBounds_toArray, List.set_cons_zero, List.set_cons_succ]
    refine' hw_take 10 (some 3) _ rfl rfl (by kernel_rfl) (by kernel_rfl) (by kernel_rfl) (fun _ _ _ h => h) (by rfl) hTw ?hy59 ?rest59
    case hy59 =>
      intro X hX
      go_simp
      try rfl
    simp only [Act.put, List.setIfInBounds_toArray, List.set_cons_zero, List.set_cons_succ]
    refine' hw_take 11 (some 4) _ rfl rfl (by kernel_rfl) (by kernel_rfl) (by kernel_rfl) (fun _ _ _ h => h) (by rfl) hTw ?hy60 ?rest60
    case hy60 =>
      intro X hX
      go_simp
      try rfl
    simp only [Act.put, List.setIfInBounds_toArray, List.set_cons_zero, List.set_cons_succ]
    refine wpAnyH_done (by kernel_rfl) ?_ _
    have cR := bR'.cells
    go_wp2
    exact bodyPost_ret (v := .tuple #[.agg #[.int .i64 nw, .slice (some ⟨bL, oL, none⟩) m k], .int .i64 rv, .slice (some ⟨go, 0, none⟩) 3 d]) (by simp [results, Try.results24, go_sem, cR]) rfl ⟨nw, rv, bL, oL, m, k, go, 3, d, xs, [r4 - 2, r5 - 2, 0], rfl, ⟨mo0, mo1⟩, hxv, xR, HX.out, hm2, oR, rfl, by omega, NR⟩
  have v1 : (r7 == 1) = false := by simpa using u1
  have on7 := ns_two O7 (by unfold Sm; omega) (by unfold Sm; omega)
  go_upto_region 9 with fail
  refine hw_start (n := 12) (S := fun X => Turn (fun i => i = B ∨ i = w.heap.size) w7 X) rfl (by kernel_rfl) (((New.refl _).drew).turn) (fun hH => ?_)
  have sd := s7.new ((New.refl w7).drew)
  have Rd := R7.new ((New.refl w7).drew)
  have Nd := N7.drew
  have xd := x7.new ((New.refl w7).drew)
  have od := on7.new ((New.refl w7).drew)
  generalize w7.drew = wd at *
  refine' hw_take 0 (some 33) (.agg #[.int .i64 nw, .slice (some ⟨bL, oL, none⟩) m k]) rfl rfl (by kernel_rfl) (by kernel_rfl) (by kernel_rfl) (fun _ _ _ h => h) (by rfl) hH ?hzC61 ?rzC61
  case hzC61 =>
    intro X hX
    exact run_load_blk 26 (.tmp 6) rfl w2.heap.size rfl #[.int .i64 nw, .slice (some ⟨bL, oL, none⟩) m k] _ (C7.turn hX (by omega)) Try.underlying26 rfl (by kernel_rfl)
  simp only [Act.put, List.setIfInBounds_toArray, List.set_cons_zero, List.set_cons_succ]
  refine' hw_take 1 (some 34) _ rfl rfl (by kernel_rfl) (by kernel_rfl) (by kernel_rfl) (fun _ _ _ h => h) (by rfl) hH ?hy62 ?rest62
  case hy62 =>
    intro X hX
    go_simp
    try rfl
  simp only [Act.put, List.setIfInBounds_toArray, List.set_cons_zero, List.set_cons_succ]
  refine' hw_take 2 (some 35) _ rfl rfl (by kernel_rfl) (by kernel_rfl) (by kernel_rfl) (fun _ _ _ h => h) (by rfl) hH ?hy63 ?rest63
  case hy63 =>
    intro X hX
    go_simp
    try rfl
  simp only [Act.put, List.setIfInBounds_toArray, List.set_cons_zero, List.set_cons_succ]
  refine' hw_take 4 (some 37) _ rfl rfl (by kernel_rfl) (by kernel_rfl) (by kernel_rfl) (fun _ _ _ h => h) (by rfl) hH ?hy64 ?rest64
  case hy64 =>
    intro X hX
    go_simp
    try rfl
  simp only [Act.put, List.setIfInBounds_toArray, List.set_cons_zero, List.set_cons_succ]
  refine' hw_take 8 (some 41) _ rfl rfl (by kernel_rfl) (by kernel_rfl) (by kernel_rfl) (fun _ _ _ h => h) (by rfl) hH ?hy65 ?rest65
  case hy65 =>
    intro X hX
    go_simp
    try rfl
  simp only [Act.put, List.setIfInBounds_toArray, List.set_cons_zero, List.set_cons_succ]
  refine hw_call 3 (some 36) rfl rfl (by kernel_rfl) (by rfl) (fun K hK => ?_)
  go_simp
  refine (next_sc sd 9 (by omega) (by omega)).mono ?_
  rintro e wp ⟨rp, rfl, ⟨hdp, hfp, -⟩, sp, htp⟩
  have hfp := hfp (by omega)
  go_simp
  have hTp := Turn.trans hH (htp.mono (T := fun i => i = B ∨ i = w.heap.size) (fun i _ e => .inl e)) (fun i _ e => e)
  refine hK.out _ _ hTp (fun _ => ?_)
  simp only [Act.put, List.setIfInBounds_toArray, List.set_cons_zero, List.set_cons_succ]
  refine hw_call 5 (some 38) rfl rfl (by kernel_rfl) (by rfl) (fun K hK => ?_)
  go_simp
  refine (next_sc sp 9 (by omega) (by omega)).mono ?_
  rintro e wq ⟨rq, rfl, ⟨hdq, hfq, -⟩, sq, htq⟩
  have hfq := hfq (by omega)
  go_simp
  have hTq := Turn.trans hTp (htq.mono (T := fun i => i = B ∨ i = w.heap.size) (fun i _ e => .inl e)) (fun i _ e => e)
  refine hK.out _ _ hTq (fun _ => ?_)
  simp only [Act.put, List.setIfInBounds_toArray, List.set_cons_zero, List.set_cons_succ]
  refine hw_call 6 (some 39) rfl rfl (by kernel_rfl) (by rfl) (fun K hK => ?_)
  go_simp
  have hbl := Blk.mk wq wq.heap.size 2 #[.int .i64 rp, .int .i64 rq, .int .i64 1000, .int .i64 1001, .int .i64 (-1)] rfl
  have hal := (New.refl wq).alloc (.cells #[.int .i64 rp, .int .i64 rq, .int .i64 1000, .int .i64 1001, .int .i64 (-1)] 2)
  have hTa := Turn.trans hTq hal.turn (fun i _ e => e)
  refine hK.out _ _ hTa (fun _ => ?_)
  simp only [Act.put, List.setIfInBounds_toArray, List.set_cons_zero, List.set_cons_succ]
  refine hw_call 7 (some 40) rfl rfl (by kernel_rfl) (by rfl) (fun K hK => ?_)
  go_simp
  refine (pick_sc (sq.new hal) [rp, rq, 1000, 1001, -1] hbl 5 rfl (by omega) (by omega) (by omega)).mono ?_
  rintro e wv ⟨rv, rfl, hxv, sv, htv⟩
  have hxv : Sm rv := by simp only [List.mem_cons, List.not_mem_nil, or_false] at hxv; unfold Sm; omega
  go_simp
  have hTv := Turn.trans hTa (htv.mono (T := fun i => i = B ∨ i = w.heap.size) (fun i _ e => .inl e)) (fun i _ e => e)
  refine hK.out _ _ hTv (fun _ => ?_)
  simp only [Act.put, List.setIfInBounds_toArray, List.set_cons_zero, List.set_cons_succ]
  have Rv : Blk wv w.heap.size 26 #[.int .i64 0, .slice none 0 0] := ((((Rd.turn htp RB).turn htq RB).new hal).turn htv RB)
  have Nv : New w wv := ((((Nd.before htp (by intro i hi e; omega)).before htq (by intro i hi e; omega)).trans hal).before htv (by intro i hi e; omega))
  have xv := ((((xd.turn htp (fun q _ e => by cases e; exact bB)).turn htq (fun q _ e => by cases e; exact bB)).new hal).turn htv (fun q _ e => by cases e; exact bB))
  have ov := ((((od.turn htp (fun q _ e => by cases e; exact OB)).turn htq (fun q _ e => by cases e; exact OB)).new hal).turn htv (fun q _ e => by cases e; exact OB))
  refine hw_call 9 none rfl rfl (by kernel_rfl) (by rfl) (fun K hK => ?_)
  refine hw_store 26 (.tmp 2) (.tmp 33) rfl rfl w.heap.size #[.int .i64 nw, .slice (some ⟨bL, oL, none⟩) m k] #[.int .i64 0, .slice none 0 0] rfl rfl Rv (by kernel_rfl) rfl (by kernel_rfl) ?_
  have tR := Turn.rowW (Turn.refl (fun i => i = w.heap.size) wv) rfl #[.int .i64 nw, .slice (some ⟨bL, oL, none⟩) m k]
  have bR' := Rv.rowW #[.int .i64 nw, .slice (some ⟨bL, oL, none⟩) m k]
  have NR := Nv.before tR (by intro i hi e; omega)
  have xR := xv.turn tR (fun q _ e => by cases e; exact bR)
  have oR := ov.turn tR (fun q _ e => by cases e; exact OR)
  have hTw := Turn.trans hTv (tR.mono (T := fun i => i = B ∨ i = w.heap.size) (fun i _ e => .inr e)) (fun i _ e => e)
  refine hK.out undef _ hTw (fun _ => ?_)
  generalize wv.setRow w.heap.size #[.int .i64 nw, .slice (some ⟨bL, oL, none⟩) m k] = ww at *
  try simp only [Act.put, List.setIfInBounds_toArray, List.set_cons_zero, List.set_cons_succ]
  refine' hw_take 10 (some 3) _ rfl rfl (by kernel_rfl) (by kernel_rfl) (by kernel_rfl) (fun _ _ _ h => h) (by rfl) hTw ?hy66 ?rest66
  case hy66 =>
    intro X hX
    go_simp
    try rfl
  simp only [Act.put, List.setIfInBounds_toArray, List.set_cons_zero, List.set_cons_succ]
  refine' hw_take 11 (some 4) _ rfl rfl (by kernel_rfl) (by kernel_rfl) (by kernel_rfl) (fun _ _ _ h => h) (by rfl) hTw ?hy67 ?rest67
  case hy67 =>
    intro X hX
    go_simp
    try rfl
  simp only [Act.put, List.setIfInBounds_toArray, List.set_cons_zero, List.set_cons_succ]
  refine wpAnyH_done (by kernel_rfl) ?_ _
  have cR := bR'.cells
  go_wp2
  exact bodyPost_ret (v := .tuple #[.agg #[.int .i64 nw, .slice (some ⟨bL, oL, none⟩) m k], .int .i64 rv, .slice (some ⟨w5.heap.size, 0, none⟩) 2 2]) (by simp [results, Try.results24, go_sem, cR]) rfl ⟨nw, rv, bL, oL, m, k, w5.heap.size, 2, 2, xs, [r4 - 2, r5 - 2], rfl, ⟨mo0, mo1⟩, hxv, xR, HX.out, hm2, oR, rfl, by omega, NR⟩

end Go.Proofs.Ytpbmbnckdmjdhaa
