/- What is proved here: what the drawing of a journal and a number leaves. What is proved here: what the comparing and the marking of lists of entries, and of answers with them, leave, for lists of at most 10000 entries of at most 6000 bytes each. What is proved here: what the model's ReadEntries answers, for every list of at most 1048576 bytes. What is proved here: what the program's copy of an entry answers, for every entry of at most 1048576 bytes. What is proved here: a drawn region within a round of a range over a function is walked as everywhere, where it defers nothing. No condition. What is proved here: what the program's ReadEntries answers, for every list of at most 1048576 bytes. What is proved here: what the two readings of entries answer, as lists of entries that can be compared and marked. What is proved here: lists of bytes that are whole entries: what is cut, joined and read of these. What is proved here: what the laws' asking for too many bytes answers. What is proved here: what is asked of a cut, as lists and as texts. No condition. What is proved here: what the program's reading of no bytes at all (nil) answers. No condition. What is proved here: what is asked of a crash, as lists. No condition. What is proved here: what is asked of an appending, as lists. No condition. What is proved here: what the drawing of a bent event and of a bent entry answers. What is proved here: what the drawing of a bent entry answers. What is proved here: what the drawing of a journal and an entry leaves. What is proved here: what is kept of a list that was read while the answer's block is made. No condition. -/
import Derived.Test.YtdkjgjjkjfeodaaJE3
import Derived.Test.YtdkjgjjkjfeodaaE10En
import Derived.Test.YtdkjgjjkjfeodaaE10Av
import Derived.Test.YtdkjgjjkjfeodaaPackLib
import Derived.Lib.QuietBelow
import Derived.Deep.CutRange
import Derived.Test.YtdkjgjjkjfeodaaQB
import Derived.Test.YtdkjgjjkjfeodaaE10Rd
import Derived.Test.YtdkjgjjkjfeodaaE10Cc
import Derived.Test.YtdkjgjjkjfeodaaE10It
import Derived.Test.YtdkjgjjkjfeodaaRwLib
import Derived.Maps.AppendAt
import Derived.Test.YtdkjgjjkjfeodaaE10Ct
import Derived.Test.YtdkjgjjkjfeodaaBytes
import Derived.Test.YtdkjgjjkjfeodaaRows
import Derived.Test.YtdkjgjjkjfeodaaS9St
namespace Go.Proofs.Ytdkjgjjkjfeodaa
open Go.RowKit Go.Sort
set_option linter.unusedVariables false
set_option linter.unusedSimpArgs false
set_option maxRecDepth 100000

set_option maxHeartbeats 6400000 in
theorem drawCu (a : Option Addr) (n c : Nat) (zs : List Int) (w : World) (h : BsAt w a zs) (hn : zs.length = n) (hm : n ≤ 2097152) (ha : ∀ x, zs ≠ [] → a = some x → x.block < w.heap.size) :
    Calls Try.prog 20 #[.slice a n c] w fun e w' => ∃ (A1 A2 : Option Addr) (n1 c1 n2 c2 : Nat) (us vs : List Int) (kp : Int), e = .returned (.tuple #[.agg #[.slice A1 n1 c1, .slice A2 n2 c2], .int .i64 kp]) ∧ BsAt w' A1 us ∧ BsAt w' A2 vs ∧ us.length = n1 ∧ vs.length = n2 ∧ n1 ≤ c1 ∧ n2 ≤ c2 ∧ Sl10 w' A1 n1 c1 ∧ Sl10 w' A2 n2 c2 ∧ n1 ≤ 7000 ∧ n2 ≤ 7000 ∧ (-1 ≤ kp ∧ kp ≤ 7001) ∧ New w w' := by
  have N0 : New w (w.alloc (.cells #[.slice none 0 0, .slice none 0 0] 25)) := (New.refl w).alloc _
  have R0 : Blk (w.alloc (.cells #[.slice none 0 0, .slice none 0 0] 25)) w.heap.size 25 #[.slice none 0 0, .slice none 0 0] := Blk.mk _ _ _ _ rfl
  go_enter Try.func20, Try.ntmps20
  go_upto_region 1 with fail
  generalize w.alloc (.cells #[.slice none 0 0, .slice none 0 0] 25) = w0 at *
  have l0 := R0.lt
  go_wp2_with fail
  refine (source_any a n c zs _ (h.new N0) hn hm (fun x hz hx => by have := ha x hz hx; omega)).mono ?_
  rintro e w1 ⟨B, rfl, hB, s1, hn1⟩
  have R1 := R0.new hn1
  have N1 := N0.trans hn1
  have B1 := s1.blk.lt
  clear R0 N0 hn1
  go_wp2_with fail
  refine (l10Journal_sc s1 (by omega)).mono ?_
  rintro e w2 ⟨A1, A2, n1, c1, n2, c2, t2, us, vs, rfl, x1, x2, k1, k2, q1, q2, sl1, sl2, m1, m2, B3, B4, ht2, s2, tt2⟩
  have SL1 : Hid (Sl10 w2 A1 n1 c1) := sl1
  have SL2 : Hid (Sl10 w2 A2 n2 c2) := sl2
  have K1 : Hid (us.length = n1) := k1
  have K2 : Hid (vs.length = n2) := k2
  clear sl1 sl2 k1 k2
  have RB : ¬ w.heap.size = B := by omega
  have R2 := R1.turn tt2 RB
  have N2 := N1.before tt2 (by intro i hi e; omega)
  have B2 := s2.blk.lt
  have l2 := R2.lt
  have z12 := tt2.size
  have lR1 := R1.lt
  have al := (New.refl w2).alloc (.cells #[.slice A1 n1 c1, .slice A2 n2 c2] 25)
  have C3 := Blk.mk w2 w2.heap.size 25 #[.slice A1 n1 c1, .slice A2 n2 c2] rfl
  have R3 := R2.new al
  have N3 := N2.trans al
  have s3 := s2.new al
  have x13 := x1.new al
  have x23 := x2.new al
  have CB : ¬ w2.heap.size = B := by omega
  have z3 := al.size
  go_upto_region 3 with fail
  generalize w2.alloc (.cells #[.slice A1 n1 c1, .slice A2 n2 c2] 25) = w3 at *
  clear R1 N1 s1 R2 N2 s2 al tt2 x1 x2
  refine hw_start (n := 10) (S := fun X => Turn (fun i => i = B ∨ i = w.heap.size) w3 X) rfl (by kernel_rfl) (((New.refl _).drew).turn) (fun hH => ?_)
  have s3d := s3.new ((New.refl w3).drew)
  have R3d := R3.new ((New.refl w3).drew)
  have N3d := N3.drew
  have x1d := x13.new ((New.refl w3).drew)
  have x2d := x23.new ((New.refl w3).drew)
  generalize w3.drew = w3d at *
  refine' hw_take 0 (some 10) (.agg #[.slice A1 n1 c1, .slice A2 n2 c2]) rfl rfl (by kernel_rfl) (by kernel_rfl) (by kernel_rfl) (fun _ _ _ h => h) (by rfl) hH ?hzA ?rzA
  case hzA =>
    intro X hX
    exact run_load_blk 25 (.tmp 5) rfl w2.heap.size rfl #[.slice A1 n1 c1, .slice A2 n2 c2] _ (C3.turn hX (by omega)) Try.underlying25 rfl (by kernel_rfl)
  simp only [Act.put, List.setIfInBounds_toArray, List.set_cons_zero, List.set_cons_succ]
  refine' hw_take 1 (some 11) _ rfl rfl (by kernel_rfl) (by kernel_rfl) (by kernel_rfl) (fun _ _ _ h => h) (by rfl) hH ?hy1 ?rest1
  case hy1 =>
    intro X hX
    go_simp
    try rfl
  simp only [Act.put, List.setIfInBounds_toArray, List.set_cons_zero, List.set_cons_succ]
  refine' hw_take 2 (some 12) _ rfl rfl (by kernel_rfl) (by kernel_rfl) (by kernel_rfl) (fun _ _ _ h => h) (by rfl) hH ?hy2 ?rest2
  case hy2 =>
    intro X hX
    go_simp
    try rfl
  simp only [Act.put, List.setIfInBounds_toArray, List.set_cons_zero, List.set_cons_succ]
  refine' hw_take 4 (some 14) _ rfl rfl (by kernel_rfl) (by kernel_rfl) (by kernel_rfl) (fun _ _ _ h => h) (by rfl) hH ?hy3 ?rest3
  case hy3 =>
    intro X hX
    go_simp
    try rfl
  simp only [Act.put, List.setIfInBounds_toArray, List.set_cons_zero, List.set_cons_succ]
  refine hw_call 3 (some 13) rfl rfl (by kernel_rfl) (by rfl) (fun K hK => ?_)
  go_simp
  refine (next_sc s3d 4 (by omega) (by omega)).mono ?_
  rintro e v3 ⟨r3, rfl, ⟨hd3, hf3, -⟩, s3, ht3⟩
  have hf3 := hf3 (by omega)
  go_simp
  have hT3 := Turn.trans hH (ht3.mono (T := fun i => i = B ∨ i = w.heap.size) (fun i _ e => .inl e)) (fun i _ e => e)
  refine hK.out _ _ hT3 (fun _ => ?_)
  simp only [Act.put, List.setIfInBounds_toArray, List.set_cons_zero, List.set_cons_succ]
  refine hw_call 5 (some 15) rfl rfl (by kernel_rfl) (by rfl) (fun K hK => ?_)
  go_simp
  refine (next_sc s3 8 (by omega) (by omega)).mono ?_
  rintro e v5 ⟨r5, rfl, ⟨hd5, hf5, -⟩, s5, ht5⟩
  have hf5 := hf5 (by omega)
  go_simp
  have hT5 := Turn.trans hT3 (ht5.mono (T := fun i => i = B ∨ i = w.heap.size) (fun i _ e => .inl e)) (fun i _ e => e)
  refine hK.out _ _ hT5 (fun _ => ?_)
  simp only [Act.put, List.setIfInBounds_toArray, List.set_cons_zero, List.set_cons_succ]
  refine hw_call 6 (some 16) rfl rfl (by kernel_rfl) (by rfl) (fun K hK => ?_)
  go_simp
  have hbl := Blk.mk v5 v5.heap.size 2 #[.int .i64 r3, .int .i64 r5, .int .i64 0, .int .i64 (-1)] rfl
  have hal := (New.refl v5).alloc (.cells #[.int .i64 r3, .int .i64 r5, .int .i64 0, .int .i64 (-1)] 2)
  have hTa := Turn.trans hT5 hal.turn (fun i _ e => e)
  refine hK.out _ _ hTa (fun _ => ?_)
  simp only [Act.put, List.setIfInBounds_toArray, List.set_cons_zero, List.set_cons_succ]
  refine hw_call 7 (some 17) rfl rfl (by kernel_rfl) (by rfl) (fun K hK => ?_)
  go_simp
  refine (pick_sc (s5.new hal) [r3, r5, 0, -1] hbl 4 rfl (by omega) (by omega) (by omega)).mono ?_
  rintro e vv ⟨rv, rfl, hxv, sv, htv⟩
  have hxv : -1 ≤ rv ∧ rv ≤ 7001 := by simp only [List.mem_cons, List.not_mem_nil, or_false] at hxv; omega
  go_simp
  have hTv := Turn.trans hTa (htv.mono (T := fun i => i = B ∨ i = w.heap.size) (fun i _ e => .inl e)) (fun i _ e => e)
  refine hK.out _ _ hTv (fun _ => ?_)
  simp only [Act.put, List.setIfInBounds_toArray, List.set_cons_zero, List.set_cons_succ]
  have Rv : Blk vv w.heap.size 25 #[.slice none 0 0, .slice none 0 0] := ((((R3d.turn ht3 RB).turn ht5 RB).new hal).turn htv RB)
  have Nv : New w vv := ((((N3d.before ht3 (by intro i hi e; omega)).before ht5 (by intro i hi e; omega)).trans hal).before htv (by intro i hi e; omega))
  have e1 : ∀ x, A1 = some x → ¬ x.block = B := fun x e => by have := B3 x e; omega
  have e2 : ∀ x, A2 = some x → ¬ x.block = B := fun x e => by have := B4 x e; omega
  have xv1 := ((((x1d.turn ht3 (fun x e => e1 x e)).turn ht5 (fun x e => e1 x e)).new hal).turn htv (fun x e => e1 x e))
  have xv2 := ((((x2d.turn ht3 (fun x e => e2 x e)).turn ht5 (fun x e => e2 x e)).new hal).turn htv (fun x e => e2 x e))
  have zz : w2.heap.size ≤ vv.heap.size := by have q1 := hTv.size; omega
  refine hw_call 8 none rfl rfl (by kernel_rfl) (by rfl) (fun K hK => ?_)
  refine hw_store 25 (.tmp 2) (.tmp 10) rfl rfl w.heap.size #[.slice A1 n1 c1, .slice A2 n2 c2] #[.slice none 0 0, .slice none 0 0] rfl rfl Rv (by kernel_rfl) rfl (by kernel_rfl) ?_
  have tR := Turn.rowW (Turn.refl (fun i => i = w.heap.size) vv) rfl #[.slice A1 n1 c1, .slice A2 n2 c2]
  have bR := Rv.rowW #[.slice A1 n1 c1, .slice A2 n2 c2]
  have NR := Nv.before tR (by intro i hi e; omega)
  have y1 := xv1.turn tR (fun x e q => by have := B3 x e; omega)
  have y2 := xv2.turn tR (fun x e q => by have := B4 x e; omega)
  have zR := tR.size
  have hTw := Turn.trans hTv (tR.mono (T := fun i => i = B ∨ i = w.heap.size) (fun i _ e => .inr e)) (fun i _ e => e)
  refine hK.out undef _ hTw (fun _ => ?_)
  generalize vv.setRow w.heap.size #[.slice A1 n1 c1, .slice A2 n2 c2] = ww at *
  try simp only [Act.put, List.setIfInBounds_toArray, List.set_cons_zero, List.set_cons_succ]
  refine' hw_take 9 (some 3) _ rfl rfl (by kernel_rfl) (by kernel_rfl) (by kernel_rfl) (fun _ _ _ h => h) (by rfl) hTw ?hy4 ?rest4
  case hy4 =>
    intro X hX
    go_simp
    try rfl
  simp only [Act.put, List.setIfInBounds_toArray, List.set_cons_zero, List.set_cons_succ]
  refine wpAnyH_done (by kernel_rfl) ?_ _
  have cR := bR.cells
  go_wp2
  exact bodyPost_ret (v := .tuple #[.agg #[.slice A1 n1 c1, .slice A2 n2 c2], .int .i64 rv]) (by simp [results, Try.results20, go_sem, cR]) rfl ⟨A1, A2, n1, c1, n2, c2, us, vs, rv, rfl, y1, y2, K1.out, K2.out, q1, q2, SL1.out.up (by omega), SL2.out.up (by omega), m1, m2, hxv, NR⟩

set_option maxHeartbeats 6400000 in
theorem drawCr (a : Option Addr) (n c : Nat) (zs : List Int) (w : World) (h : BsAt w a zs) (hn : zs.length = n) (hm : n ≤ 2097152) (ha : ∀ x, zs ≠ [] → a = some x → x.block < w.heap.size) :
    Calls Try.prog 8 #[.slice a n c] w fun e w' => ∃ (A1 A2 : Option Addr) (n1 c1 n2 c2 : Nat) (us vs : List Int) (kp : Int), e = .returned (.tuple #[.agg #[.slice A1 n1 c1, .slice A2 n2 c2], .int .i64 kp]) ∧ BsAt w' A1 us ∧ BsAt w' A2 vs ∧ us.length = n1 ∧ vs.length = n2 ∧ n1 ≤ c1 ∧ n2 ≤ c2 ∧ Sl10 w' A1 n1 c1 ∧ Sl10 w' A2 n2 c2 ∧ n1 ≤ 7000 ∧ n2 ≤ 7000 ∧ (-1 ≤ kp ∧ kp ≤ 7001) ∧ New w w' := by
  have N0 : New w (w.alloc (.cells #[.slice none 0 0, .slice none 0 0] 25)) := (New.refl w).alloc _
  have R0 : Blk (w.alloc (.cells #[.slice none 0 0, .slice none 0 0] 25)) w.heap.size 25 #[.slice none 0 0, .slice none 0 0] := Blk.mk _ _ _ _ rfl
  go_enter Try.func8, Try.ntmps8
  go_upto_region 1 with fail
  generalize w.alloc (.cells #[.slice none 0 0, .slice none 0 0] 25) = w0 at *
  have l0 := R0.lt
  go_wp2_with fail
  refine (source_any a n c zs _ (h.new N0) hn hm (fun x hz hx => by have := ha x hz hx; omega)).mono ?_
  rintro e w1 ⟨B, rfl, hB, s1, hn1⟩
  have R1 := R0.new hn1
  have N1 := N0.trans hn1
  have B1 := s1.blk.lt
  clear R0 N0 hn1
  go_wp2_with fail
  refine (l10Journal_sc s1 (by omega)).mono ?_
  rintro e w2 ⟨A1, A2, n1, c1, n2, c2, t2, us, vs, rfl, x1, x2, k1, k2, q1, q2, sl1, sl2, m1, m2, B3, B4, ht2, s2, tt2⟩
  have SL1 : Hid (Sl10 w2 A1 n1 c1) := sl1
  have SL2 : Hid (Sl10 w2 A2 n2 c2) := sl2
  have K1 : Hid (us.length = n1) := k1
  have K2 : Hid (vs.length = n2) := k2
  clear sl1 sl2 k1 k2
  have RB : ¬ w.heap.size = B := by omega
  have R2 := R1.turn tt2 RB
  have N2 := N1.before tt2 (by intro i hi e; omega)
  have B2 := s2.blk.lt
  have l2 := R2.lt
  have z12 := tt2.size
  have lR1 := R1.lt
  have al := (New.refl w2).alloc (.cells #[.slice A1 n1 c1, .slice A2 n2 c2] 25)
  have C3 := Blk.mk w2 w2.heap.size 25 #[.slice A1 n1 c1, .slice A2 n2 c2] rfl
  have R3 := R2.new al
  have N3 := N2.trans al
  have s3 := s2.new al
  have x13 := x1.new al
  have x23 := x2.new al
  have CB : ¬ w2.heap.size = B := by omega
  have z3 := al.size
  go_upto_region 3 with fail
  generalize w2.alloc (.cells #[.slice A1 n1 c1, .slice A2 n2 c2] 25) = w3 at *
  clear R1 N1 s1 R2 N2 s2 al tt2 x1 x2
  have cC := C3.cells
  go_upto_region 4 with fail
  clear cC
  have qn : IntKind.i64.wrap ((n2 : Int) + 1) = (n2 : Int) + 1 := by rw [IntKind.wrap_i64]; omega
  refine hw_start (n := 17) (S := fun X => Turn (fun i => i = B ∨ i = w.heap.size) w3 X) rfl (by kernel_rfl) (((New.refl _).drew).turn) (fun hH => ?_)
  have s3d := s3.new ((New.refl w3).drew)
  have R3d := R3.new ((New.refl w3).drew)
  have N3d := N3.drew
  have x1d := x13.new ((New.refl w3).drew)
  have x2d := x23.new ((New.refl w3).drew)
  generalize w3.drew = w3d at *
  refine' hw_take 0 (some 14) (.agg #[.slice A1 n1 c1, .slice A2 n2 c2]) rfl rfl (by kernel_rfl) (by kernel_rfl) (by kernel_rfl) (fun _ _ _ h => h) (by rfl) hH ?hzA ?rzA
  case hzA =>
    intro X hX
    exact run_load_blk 25 (.tmp 5) rfl w2.heap.size rfl #[.slice A1 n1 c1, .slice A2 n2 c2] _ (C3.turn hX (by omega)) Try.underlying25 rfl (by kernel_rfl)
  simp only [Act.put, List.setIfInBounds_toArray, List.set_cons_zero, List.set_cons_succ]
  refine' hw_take 1 (some 15) _ rfl rfl (by kernel_rfl) (by kernel_rfl) (by kernel_rfl) (fun _ _ _ h => h) (by rfl) hH ?hy5 ?rest5
  case hy5 =>
    intro X hX
    go_simp
    try rfl
  simp only [Act.put, List.setIfInBounds_toArray, List.set_cons_zero, List.set_cons_succ]
  refine' hw_take 2 (some 16) _ rfl rfl (by kernel_rfl) (by kernel_rfl) (by kernel_rfl) (fun _ _ _ h => h) (by rfl) hH ?hy6 ?rest6
  case hy6 =>
    intro X hX
    go_simp
    try rfl
  simp only [Act.put, List.setIfInBounds_toArray, List.set_cons_zero, List.set_cons_succ]
  refine' hw_take 3 (some 17) _ rfl rfl (by kernel_rfl) (by kernel_rfl) (by kernel_rfl) (fun _ _ _ h => h) (by rfl) hH ?hy7 ?rest7
  case hy7 =>
    intro X hX
    go_simp
    try rfl
  simp only [Act.put, List.setIfInBounds_toArray, List.set_cons_zero, List.set_cons_succ]
  refine' hw_take 4 (some 18) _ rfl rfl (by kernel_rfl) (by kernel_rfl) (by kernel_rfl) (fun _ _ _ h => h) (by rfl) hH ?hy8 ?rest8
  case hy8 =>
    intro X hX
    go_simp
    try rfl
  simp only [Act.put, List.setIfInBounds_toArray, List.set_cons_zero, List.set_cons_succ]
  refine' hw_take 6 (some 20) _ rfl rfl (by kernel_rfl) (by kernel_rfl) (by kernel_rfl) (fun _ _ _ h => h) (by rfl) hH ?hy9 ?rest9
  case hy9 =>
    intro X hX
    go_simp
    try rfl
  simp only [Act.put, List.setIfInBounds_toArray, List.set_cons_zero, List.set_cons_succ]
  refine' hw_take 7 (some 21) _ rfl rfl (by kernel_rfl) (by kernel_rfl) (by kernel_rfl) (fun _ _ _ h => h) (by rfl) hH ?hy10 ?rest10
  case hy10 =>
    intro X hX
    go_simp
    try rfl
  simp only [Act.put, List.setIfInBounds_toArray, List.set_cons_zero, List.set_cons_succ]
  refine' hw_take 8 (some 22) _ rfl rfl (by kernel_rfl) (by kernel_rfl) (by kernel_rfl) (fun _ _ _ h => h) (by rfl) hH ?hy11 ?rest11
  case hy11 =>
    intro X hX
    go_simp
    try rfl
  simp only [Act.put, List.setIfInBounds_toArray, List.set_cons_zero, List.set_cons_succ]
  refine' hw_take 10 (some 24) _ rfl rfl (by kernel_rfl) (by kernel_rfl) (by kernel_rfl) (fun _ _ _ h => h) (by rfl) hH ?hy12 ?rest12
  case hy12 =>
    intro X hX
    go_simp
    try rfl
  simp only [Act.put, List.setIfInBounds_toArray, List.set_cons_zero, List.set_cons_succ]
  refine' hw_take 11 (some 25) _ rfl rfl (by kernel_rfl) (by kernel_rfl) (by kernel_rfl) (fun _ _ _ h => h) (by rfl) hH ?hy13 ?rest13
  case hy13 =>
    intro X hX
    go_simp
    try rfl
  simp only [Act.put, List.setIfInBounds_toArray, List.set_cons_zero, List.set_cons_succ]
  refine' hw_take 12 (some 26) _ rfl rfl (by kernel_rfl) (by kernel_rfl) (by kernel_rfl) (fun _ _ _ h => h) (by rfl) hH ?hy14 ?rest14
  case hy14 =>
    intro X hX
    go_simp
    try rfl
  simp only [Act.put, List.setIfInBounds_toArray, List.set_cons_zero, List.set_cons_succ]
  refine hw_call 5 (some 19) rfl rfl (by kernel_rfl) (by rfl) (fun K hK => ?_)
  go_simp
  refine (next_sc s3d (n2 + 1) (by omega) (by omega)).mono ?_
  rintro e v5 ⟨r5, rfl, ⟨hd5, hf5, -⟩, s5, ht5⟩
  have hf5 := hf5 (by omega)
  go_simp
  have hT5 := Turn.trans hH (ht5.mono (T := fun i => i = B ∨ i = w.heap.size) (fun i _ e => .inl e)) (fun i _ e => e)
  refine hK.out _ _ hT5 (fun _ => ?_)
  simp only [Act.put, List.setIfInBounds_toArray, List.set_cons_zero, List.set_cons_succ]
  refine hw_call 9 (some 23) rfl rfl (by kernel_rfl) (by rfl) (fun K hK => ?_)
  go_simp
  refine (next_sc s5 (n2 + 1) (by omega) (by omega)).mono ?_
  rintro e v9 ⟨r9, rfl, ⟨hd9, hf9, -⟩, s9, ht9⟩
  have hf9 := hf9 (by omega)
  go_simp
  have hT9 := Turn.trans hT5 (ht9.mono (T := fun i => i = B ∨ i = w.heap.size) (fun i _ e => .inl e)) (fun i _ e => e)
  refine hK.out _ _ hT9 (fun _ => ?_)
  simp only [Act.put, List.setIfInBounds_toArray, List.set_cons_zero, List.set_cons_succ]
  refine hw_call 13 (some 27) rfl rfl (by kernel_rfl) (by rfl) (fun K hK => ?_)
  go_simp
  have hbl := Blk.mk v9 v9.heap.size 2 #[.int .i64 r5, .int .i64 r9, .int .i64 0, .int .i64 n2, .int .i64 (n2 + 1), .int .i64 (-1)] rfl
  have hal := (New.refl v9).alloc (.cells #[.int .i64 r5, .int .i64 r9, .int .i64 0, .int .i64 n2, .int .i64 (n2 + 1), .int .i64 (-1)] 2)
  have hTa := Turn.trans hT9 hal.turn (fun i _ e => e)
  refine hK.out _ _ hTa (fun _ => ?_)
  simp only [Act.put, List.setIfInBounds_toArray, List.set_cons_zero, List.set_cons_succ]
  refine hw_call 14 (some 28) rfl rfl (by kernel_rfl) (by rfl) (fun K hK => ?_)
  go_simp
  refine (pick_sc (s9.new hal) [r5, r9, 0, (n2 : Int), (n2 : Int) + 1, -1] hbl 6 rfl (by omega) (by omega) (by omega)).mono ?_
  rintro e vv ⟨rv, rfl, hxv, sv, htv⟩
  have hxv : -1 ≤ rv ∧ rv ≤ 7001 := by simp only [List.mem_cons, List.not_mem_nil, or_false] at hxv; omega
  go_simp
  have hTv := Turn.trans hTa (htv.mono (T := fun i => i = B ∨ i = w.heap.size) (fun i _ e => .inl e)) (fun i _ e => e)
  refine hK.out _ _ hTv (fun _ => ?_)
  simp only [Act.put, List.setIfInBounds_toArray, List.set_cons_zero, List.set_cons_succ]
  have Rv : Blk vv w.heap.size 25 #[.slice none 0 0, .slice none 0 0] := ((((R3d.turn ht5 RB).turn ht9 RB).new hal).turn htv RB)
  have Nv : New w vv := ((((N3d.before ht5 (by intro i hi e; omega)).before ht9 (by intro i hi e; omega)).trans hal).before htv (by intro i hi e; omega))
  have e1 : ∀ x, A1 = some x → ¬ x.block = B := fun x e => by have := B3 x e; omega
  have e2 : ∀ x, A2 = some x → ¬ x.block = B := fun x e => by have := B4 x e; omega
  have xv1 := ((((x1d.turn ht5 (fun x e => e1 x e)).turn ht9 (fun x e => e1 x e)).new hal).turn htv (fun x e => e1 x e))
  have xv2 := ((((x2d.turn ht5 (fun x e => e2 x e)).turn ht9 (fun x e => e2 x e)).new hal).turn htv (fun x e => e2 x e))
  have zz : w2.heap.size ≤ vv.heap.size := by have q1 := hTv.size; omega
  refine hw_call 15 none rfl rfl (by kernel_rfl) (by rfl) (fun K hK => ?_)
  refine hw_store 25 (.tmp 2) (.tmp 14) rfl rfl w.heap.size #[.slice A1 n1 c1, .slice A2 n2 c2] #[.slice none 0 0, .slice none 0 0] rfl rfl Rv (by kernel_rfl) rfl (by kernel_rfl) ?_
  have tR := Turn.rowW (Turn.refl (fun i => i = w.heap.size) vv) rfl #[.slice A1 n1 c1, .slice A2 n2 c2]
  have bR := Rv.rowW #[.slice A1 n1 c1, .slice A2 n2 c2]
  have NR := Nv.before tR (by intro i hi e; omega)
  have y1 := xv1.turn tR (fun x e q => by have := B3 x e; omega)
  have y2 := xv2.turn tR (fun x e q => by have := B4 x e; omega)
  have zR := tR.size
  have hTw := Turn.trans hTv (tR.mono (T := fun i => i = B ∨ i = w.heap.size) (fun i _ e => .inr e)) (fun i _ e => e)
  refine hK.out undef _ hTw (fun _ => ?_)
  generalize vv.setRow w.heap.size #[.slice A1 n1 c1, .slice A2 n2 c2] = ww at *
  try simp only [Act.put, List.setIfInBounds_toArray, List.set_cons_zero, List.set_cons_succ]
  refine' hw_take 16 (some 3) _ rfl rfl (by kernel_rfl) (by kernel_rfl) (by kernel_rfl) (fun _ _ _ h => h) (by rfl) hTw ?hy15 ?rest15
  case hy15 =>
    intro X hX
    go_simp
    try rfl
  simp only [Act.put, List.setIfInBounds_toArray, List.set_cons_zero, List.set_cons_succ]
  refine wpAnyH_done (by kernel_rfl) ?_ _
  have cR := bR.cells
  go_wp2
  exact bodyPost_ret (v := .tuple #[.agg #[.slice A1 n1 c1, .slice A2 n2 c2], .int .i64 rv]) (by simp [results, Try.results8, go_sem, cR]) rfl ⟨A1, A2, n1, c1, n2, c2, us, vs, rv, rfl, y1, y2, K1.out, K2.out, q1, q2, SL1.out.up (by omega), SL2.out.up (by omega), m1, m2, hxv, NR⟩

end Go.Proofs.Ytdkjgjjkjfeodaa

namespace Go.Proofs.Ytdkjgjjkjfeodaa
open Go.RowKit Go.Sort
set_option linter.unusedVariables false
set_option linter.unusedSimpArgs false

/-- An entry. -/
structure En where
  ep : Int
  ki : Int
  pe : Int
  xs : List Int
/-- An entry in memory. -/
structure EnV where
  r : En
  a : Option Addr
  c : Nat
def EnV.cs (v : EnV) : List Value := [.int .i64 v.r.ep, .int .i64 v.r.ki, .int .i64 v.r.pe, .slice v.a v.r.xs.length v.c]
def cellsE (U : List EnV) : List Value := U.flatMap EnV.cs
theorem cellsE_len : ∀ U : List EnV, (cellsE U).length = U.length * 4
  | [] => rfl
  | x :: U => by
    have := cellsE_len U
    unfold cellsE at this ⊢
    rw [List.flatMap_cons, List.length_append, this]
    simp only [EnV.cs, List.length_cons, List.length_nil]
    omega
theorem cellsE_get : ∀ (U : List EnV) (i : Nat) (u : EnV), U[i]? = some u → ∀ j, j < 4 → (cellsE U)[i * 4 + j]? = u.cs[j]?
  | [], i, u, h, _, _ => by simp at h
  | x :: U, 0, u, h, j, hj => by
    simp at h
    subst h
    unfold cellsE
    rw [List.flatMap_cons, Nat.zero_mul, Nat.zero_add, List.getElem?_append_left (by simpa [EnV.cs] using hj)]
  | x :: U, i + 1, u, h, j, hj => by
    have ih := cellsE_get U i u (by simpa using h) j hj
    unfold cellsE at ih ⊢
    rw [List.flatMap_cons, List.getElem?_append_right (by simp [EnV.cs]; omega)]
    have e : (i + 1) * 4 + j - (EnV.cs x).length = i * 4 + j := by simp [EnV.cs]; omega
    rw [e]
    exact ih
theorem cellsE_set3 : ∀ (U : List EnV) (i : Nat) (u v : EnV), U[i]? = some u → (Value.slice v.a v.r.xs.length v.c) = .slice u.a u.r.xs.length u.c → (((cellsE U).set (i * 4) (.int .i64 v.r.ep)).set (i * 4 + 1) (.int .i64 v.r.ki)).set (i * 4 + 2) (.int .i64 v.r.pe) = cellsE (U.set i v)
  | [], i, u, v, h, _ => by simp at h
  | q :: U, 0, u, v, h, e => by
    simp at h
    subst h
    unfold cellsE
    simp only [List.set_cons_zero, List.flatMap_cons, Nat.zero_mul, Nat.zero_add, EnV.cs, List.cons_append, List.nil_append, List.set_cons_succ, e]
  | q :: U, i + 1, u, v, h, e => by
    have ih := cellsE_set3 U i u v (by simpa using h) e
    unfold cellsE at ih ⊢
    simp only [List.set_cons_succ, List.flatMap_cons]
    rw [← ih]
    have el : (EnV.cs q).length = 4 := rfl
    rw [List.set_append_right _ _ (by rw [el]; omega), List.set_append_right _ _ (by rw [el]; omega), List.set_append_right _ _ (by rw [el]; omega), el]
    rw [show (i + 1) * 4 - 4 = i * 4 by omega, show (i + 1) * 4 + 1 - 4 = i * 4 + 1 by omega, show (i + 1) * 4 + 2 - 4 = i * 4 + 2 by omega]

/-- The entries can be read there. -/
def EnAt (w : World) (A : Option Addr) (U : List EnV) : Prop := ∀ i u, U[i]? = some u → (∃ g, A = some ⟨g, 0, none⟩ ∧ ∀ j, j < 4 → w.cell? ⟨g, i * 4 + j, none⟩ = u.cs[j]?) ∧ BsAt w u.a u.r.xs ∧ u.r.xs.length ≤ 6000
theorem EnAt.turn {w w' : World} {A : Option Addr} {U : List EnV} {S : Nat → Prop} (h : EnAt w A U) (t : Turn S w w') (hA : ∀ x, U ≠ [] → A = some x → ¬ S x.block) (hU : ∀ u ∈ U, ∀ x, u.r.xs ≠ [] → u.a = some x → ¬ S x.block) : EnAt w' A U := by
  intro i u hu
  obtain ⟨⟨g, hg, hc⟩, hb, hl⟩ := h i u hu
  have hne : U ≠ [] := by rintro rfl; simp at hu
  have h0 : w.cell? ⟨g, i * 4, none⟩ = some (.int .i64 u.r.ep) := hc 0 (by omega)
  exact ⟨⟨g, hg, fun j hj => (World.cell?_of_block (t.block g (World.block_lt_of_cell? w _ h0) (hA _ hne hg))).trans (hc j hj)⟩, hb.turnZ t (fun x hx => hU u (List.mem_of_getElem? hu) x hx), hl⟩
theorem EnAt.new {w w' : World} {A : Option Addr} {U : List EnV} (h : EnAt w A U) (t : New w w') : EnAt w' A U := h.turn t (fun _ _ _ f => f) (fun _ _ _ _ _ f => f)
theorem EnAt.at {w : World} {A : Option Addr} {U : List EnV} (h : EnAt w A U) (i : Nat) (hi : i < U.length) :
    ∃ (g : Nat) (ep ki pe : Int) (a : Option Addr) (n c : Nat) (xs : List Int), A = some ⟨g, 0, none⟩ ∧ U[i]? = some ⟨⟨ep, ki, pe, xs⟩, a, c⟩ ∧ xs.length = n ∧ BsAt w a xs ∧ n ≤ 6000 ∧ w.cell? ⟨g, i * 4, none⟩ = some (.int .i64 ep) ∧ w.cell? ⟨g, i * 4 + 1, none⟩ = some (.int .i64 ki) ∧ w.cell? ⟨g, i * 4 + 2, none⟩ = some (.int .i64 pe) ∧ w.cell? ⟨g, i * 4 + 3, none⟩ = some (.slice a n c) := by
  obtain ⟨⟨g, hg, hc⟩, hb, hl⟩ := h i _ (List.getElem?_eq_getElem hi)
  exact ⟨g, _, _, _, _, _, _, _, hg, List.getElem?_eq_getElem hi, rfl, hb, hl, hc 0 (by omega), hc 1 (by omega), hc 2 (by omega), hc 3 (by omega)⟩

set_option maxHeartbeats 1600000 in
theorem eqEnS_any (A B : Option Addr) (n c d : Nat) (V U : List EnV) (w : World) (hF : EnAt w A V) (hG : EnAt w B U) (hVU : V.map EnV.r = U.map EnV.r) (hn : V.length = n) (hm : n ≤ 10000) :
    Calls Try.prog 52 #[.slice A n c, .slice B n d] w fun e w' => e = .returned (.bool true) ∧ New w w' := by
  have hnn : ((n : Int) != (n : Int)) = false := by simp
  have HN : Hid (V.length = n) := hn
  have HU : Hid (V.map EnV.r = U.map EnV.r) := hVU
  have HUN : Hid (U.length = n) := by
    have := congrArg List.length hVU
    simp at this
    show U.length = n
    omega
  clear hn hVU
  go_enter Try.func52, Try.ntmps52
  go_wp2
  go_loopw [5] (fun i wr => ∃ k : Nat, k ≤ n ∧ i = .int .i64 k ∧ New w wr) (fun i _ => n - (intOf i).toNat)
  case atStart => exact ⟨0, Nat.zero_le _, rfl, New.refl _⟩
  case round =>
    obtain ⟨k, hk, rfl, hnw⟩ := hrel
    by_cases hlt : k < n
    · obtain ⟨g1, ep, ki, pe, a, m, c1, xs, rfl, hp1, hl1, hx1, hmx, x0, x1, x2, x3⟩ := (hF.new hnw).at k (by have := HN.out; omega)
      obtain ⟨g2, ep', ki', pe', a', m', c1', xs', rfl, hp2, hl2, hx2, hmx', y0, y1, y2, y3⟩ := (hG.new hnw).at k (by have := HUN.out; omega)
      have hh : (⟨ep, ki, pe, xs⟩ : En) = ⟨ep', ki', pe', xs'⟩ := by
        have h1 : (V.map EnV.r)[k]? = some ⟨ep, ki, pe, xs⟩ := by rw [List.getElem?_map, hp1]; rfl
        have h2 : (U.map EnV.r)[k]? = some ⟨ep', ki', pe', xs'⟩ := by rw [List.getElem?_map, hp2]; rfl
        rw [HU.out, h2] at h1
        exact (Option.some.inj h1).symm
      simp only [En.mk.injEq] at hh
      obtain ⟨rfl, rfl, rfl, rfl⟩ := hh
      obtain rfl : m = m' := hl1.symm.trans hl2
      have HL : Hid (xs.length = m) := hl1
      clear hp1 hp2 hF hG hl1 hl2
      have X0 := cell_regrown x0
      have X1 := cell_regrown x1
      have X2 := cell_regrown x2
      have X3 := cell_regrown x3
      have Y0 := cell_regrown y0
      have Y1 := cell_regrown y1
      have Y2 := cell_regrown y2
      have Y3 := cell_regrown y3
      go_wp2_with fail
      refine wp_region_quiet_below (by kernel_rfl) (by kernel_rfl) ?_
      repeat (go_big_quiet_step ((go_at_call 69; exact calls_regrown (eqEntry_any ep ki pe a a' m c1 c1' xs _ (hx1.new (new_regrown _ _ _)) (hx2.new (new_regrown _ _ _)) HL.out (by omega)))))
      refine wpQuiet_nil ?_
      rintro w1 hn1
      replace hn1 := new_of_regrown hn1
      go_wp2
      go_roundw
      case rel => exact ⟨k + 1, by omega, by go_num, hnw.trans hn1⟩
      case measure => simp [intOf]; omega
    · go_wp2
      go_ret
      exact ⟨rfl, hnw⟩

theorem eqER_any (z us : Int) (A B : Option Addr) (n c d : Nat) (V U : List EnV) (w : World) (hF : EnAt w A V) (hG : EnAt w B U) (hVU : V.map EnV.r = U.map EnV.r) (hn : V.length = n) (hm : n ≤ 10000) :
    Calls Try.prog 24 #[.agg #[.int .i64 z, .int .i64 us, .slice A n c], .agg #[.int .i64 z, .int .i64 us, .slice B n d]] w fun e w' => e = .returned (.bool true) ∧ New w w' := by
  have hw := ((New.refl w).alloc (.cells #[.int .i64 z, .int .i64 us, .slice A n c] 33)).alloc (.cells #[.int .i64 z, .int .i64 us, .slice B n d] 33)
  have hz : (z != z) = false := by simp
  have hu : (us != us) = false := by simp
  go_enter Try.func24, Try.ntmps24
  go_wp2_with fail
  refine (eqEnS_any A B n c d V U _ (hF.new hw) (hG.new hw) hVU hn hm).mono ?_
  rintro e w1 ⟨rfl, hn1⟩
  go_wp2
  go_ret
  exact ⟨rfl, hw.trans hn1⟩

/-- An entry, marked from k on; the next mark. -/
def EnV.mkE (k : Int) (v : EnV) : EnV := ⟨⟨k, k + 1, k + 1 + 1, marks (k + 1 + 1 + 1) v.r.xs.length⟩, v.a, v.c⟩
def EnV.nxE (k : Int) (v : EnV) : Int := k + 1 + 1 + 1 + v.r.xs.length
def markE : Int → List EnV → List EnV
  | _, [] => []
  | k, v :: V => v.mkE k :: markE (v.nxE k) V
def endE : Int → List EnV → Int
  | k, [] => k
  | k, v :: V => endE (v.nxE k) V
theorem markE_length (V : List EnV) : ∀ k, (markE k V).length = V.length := by
  induction V with
  | nil => intro k; rfl
  | cons f F ih => intro k; simp [markE, ih]
theorem endE_snoc (V : List EnV) (v : EnV) : ∀ k, endE k (V ++ [v]) = v.nxE (endE k V) := by
  induction V with
  | nil => intro k; rfl
  | cons g F ih => intro k; simp only [List.cons_append, endE]; exact ih _
theorem markE_snoc (V : List EnV) (v : EnV) : ∀ k, markE k (V ++ [v]) = markE k V ++ [v.mkE (endE k V)] := by
  induction V with
  | nil => intro k; rfl
  | cons g F ih => intro k; simp only [List.cons_append, markE, endE, ih]
theorem endE_bd (V : List EnV) : ∀ k, (∀ v ∈ V, v.r.xs.length ≤ 6000) → k ≤ endE k V ∧ endE k V ≤ k + V.length * 6003 := by
  induction V with
  | nil => intro k _; simp [endE]
  | cons f F ih =>
    intro k h
    have h1 := h f (by simp)
    have h2 := ih (f.nxE k) (fun g hg => h g (by simp [hg]))
    simp only [endE, List.length_cons]
    unfold EnV.nxE at h2 ⊢
    omega
theorem take_snocE {V : List EnV} {k : Nat} {f : EnV} (h : V[k]? = some f) : V.take (k + 1) = V.take k ++ [f] := by
  obtain ⟨hk, rfl⟩ := List.getElem?_eq_some_iff.1 h
  exact List.take_succ_eq_append_getElem hk
theorem markE_get (V : List EnV) {j : Nat} {f : EnV} (h : V[j]? = some f) (k : Int) : (markE k V)[j]? = some (f.mkE (endE k (V.take j))) := by
  induction V generalizing j k with
  | nil => simp at h
  | cons g F ih =>
    cases j with
    | zero => simp at h; subst h; simp [markE, endE]
    | succ j => simp at h; simp only [markE, List.getElem?_cons_succ, List.take_succ_cons, endE]; exact ih h _
theorem endE_take {V : List EnV} {j : Nat} {f : EnV} (h : V[j]? = some f) (k : Int) : endE k (V.take (j + 1)) = f.nxE (endE k (V.take j)) := by rw [take_snocE h, endE_snoc]
theorem stepE_get {V : List EnV} {j : Nat} {f : EnV} (h : V[j]? = some f) (k : Int) : (markE k (V.take j) ++ V.drop j)[j]? = some f := by
  obtain ⟨hj, rfl⟩ := List.getElem?_eq_some_iff.1 h
  have hl : (markE k (V.take j)).length = j := by rw [markE_length, List.length_take]; omega
  rw [List.getElem?_append_right (by omega), hl, Nat.sub_self, List.getElem?_drop]
  exact h
theorem stepE_set {V : List EnV} {j : Nat} {f : EnV} (h : V[j]? = some f) (k : Int) : (markE k (V.take j) ++ V.drop j).set j (f.mkE (endE k (V.take j))) = markE k (V.take (j + 1)) ++ V.drop (j + 1) := by
  have hf := take_snocE h
  obtain ⟨hj, rfl⟩ := List.getElem?_eq_some_iff.1 h
  have hl : (markE k (V.take j)).length = j := by rw [markE_length, List.length_take]; omega
  rw [hf, markE_snoc, List.set_append_right _ _ (by omega), hl, Nat.sub_self, List.drop_eq_getElem_cons hj, List.set_cons_zero]
  simp

/-- What the marking needs of a list: the row and each entry's bytes, of the call's own, from lo up to hi, each in a block of its own. -/
structure OwE (w : World) (lo hi g n c : Nat) (U : List EnV) : Prop where
  row : w.ownsRow 0 40 4 (.slice (some ⟨g, 0, none⟩) n c) n (cellsE U)
  own : ∀ (i : Nat) (u : EnV), U[i]? = some u → OwAt w u.a u.r.xs.length u.c u.r.xs
  len : ∀ u ∈ U, u.r.xs.length ≤ 6000
  inn : ∀ u ∈ U, ∀ x, u.a = some x → lo ≤ x.block ∧ x.block < hi ∧ ¬ x.block = g
  glo : lo ≤ g ∧ g < hi
  apart : ∀ (i j : Nat) (u v : EnV) (x y : Addr), U[i]? = some u → U[j]? = some v → i ≠ j → u.a = some x → v.a = some y → ¬ x.block = y.block

theorem row_turn4 {w w' : World} {g n c : Nat} {xs : List Value} {S : Nat → Prop} (h : w.ownsRow 0 40 4 (.slice (some ⟨g, 0, none⟩) n c) n xs) (t : Turn S w w') (hS : ¬ S g) : w'.ownsRow 0 40 4 (.slice (some ⟨g, 0, none⟩) n c) n xs := row9_turn h t (by intro k hk; simp [Value.ownBlock] at hk; subst hk; exact hS)
theorem set3e (w : World) (B j : Nat) (v0 v1 v2 : Value) : Turn (fun k => k = B) w (((w.setCell ⟨B, j, none⟩ v0).setCell ⟨B, j + 1, none⟩ v1).setCell ⟨B, j + 2, none⟩ v2) :=
  (((Turn.refl (fun k => k = B) w).set (p := ⟨B, j, none⟩) rfl v0).set (p := ⟨B, j + 1, none⟩) rfl v1).set (p := ⟨B, j + 2, none⟩) rfl v2

set_option maxHeartbeats 6400000 in
theorem markEnS_row (g n c lo hi : Nat) (k : Int) (U : List EnV) (w : World) (h : OwE w lo hi g n c U) (hn : U.length = n) (hm : n ≤ 10000) (hk0 : 0 ≤ k) (hk : k ≤ 1000) :
    Calls Try.prog 53 #[.slice (some ⟨g, 0, none⟩) n c, .int .i64 k] w fun e w' => e = .returned (.int .i64 (endE k U)) ∧ EnAt w' (some ⟨g, 0, none⟩) (markE k U) ∧ Turn (fun x => lo ≤ x ∧ x < hi) w w' := by
  have HLn : Hid (U.length = n) := hn
  have HBd : Hid (∀ j, j ≤ n → k ≤ endE k (U.take j) ∧ endE k (U.take j) ≤ k + 60030000) := by
    intro j hj
    have h1 := endE_bd (U.take j) k (fun f hf => h.len f (List.mem_of_mem_take hf))
    have h2 : ((U.take j).length : Int) * 6003 ≤ 10000 * 6003 := by
      have : (U.take j).length ≤ 10000 := by rw [List.length_take]; omega
      omega
    omega
  have HLen : Hid (∀ u ∈ U, u.r.xs.length ≤ 6000) := h.len
  have HInn : Hid (∀ u ∈ U, ∀ x, u.a = some x → lo ≤ x.block ∧ x.block < hi ∧ ¬ x.block = g) := h.inn
  have HAp : Hid (∀ (i j : Nat) (u v : EnV) (x y : Addr), U[i]? = some u → U[j]? = some v → i ≠ j → u.a = some x → v.a = some y → ¬ x.block = y.block) := h.apart
  have HGl : Hid (lo ≤ g ∧ g < hi) := h.glo
  have hrow := h.row
  have hown := h.own
  clear hn h
  go_enter Try.func53, Try.ntmps53
  go_wp2
  go_loopw [1, 5] (fun s i wr => ∃ j : Nat, j ≤ n ∧ i = .int .i64 j ∧ s = .int .i64 (endE k (U.take j)) ∧ wr.ownsRow 0 40 4 (.slice (some ⟨g, 0, none⟩) n c) n (cellsE (markE k (U.take j) ++ U.drop j)) ∧
      (∀ (i : Nat) (u : EnV), j ≤ i → U[i]? = some u → OwAt wr u.a u.r.xs.length u.c u.r.xs) ∧ (∀ (i : Nat) (u : EnV), i < j → U[i]? = some u → BsAt wr u.a (marks (endE k (U.take i) + 1 + 1 + 1) u.r.xs.length)) ∧ Turn (fun x => lo ≤ x ∧ x < hi) w wr) (fun _ i _ => n - (intOf i).toNat)
  case atStart => exact ⟨0, Nat.zero_le _, rfl, rfl, by simpa [markE] using hrow, fun i u _ hu => hown i u hu, fun i u hi => absurd hi (Nat.not_lt_zero i), Turn.refl _ _⟩
  case round =>
    obtain ⟨j, hj, rfl, rfl, hC, hrest, hdone, htn⟩ := hrel
    by_cases hlt : j < n
    · obtain ⟨f, hfj⟩ : ∃ f, U[j]? = some f := ⟨_, List.getElem?_eq_getElem (by have := HLn.out; omega)⟩
      have hCj := stepE_get hfj k
      have he := HBd.out j hj
      have HE : Hid (endE k (U.take (j + 1)) = f.nxE (endE k (U.take j))) := endE_take hfj k
      have HS2 : Hid _ := stepE_set hfj k
      have HKC : Hid (∀ u, U[j]? = some u → u = f) := by intro u hu; rw [hfj] at hu; exact (Option.some.inj hu).symm
      have HFJ : Hid (U[j]? = some f) := hfj
      have HDone : Hid (∀ (i : Nat) (u : EnV), i < j → U[i]? = some u → BsAt wr u.a (marks (endE k (U.take i) + 1 + 1 + 1) u.r.xs.length)) := hdone
      have HKE : Hid (∃ kk, kk = endE k (U.take j)) := ⟨_, rfl⟩
      obtain ⟨kc, hkc⟩ : ∃ kc, kc = endE k (U.take j) := ⟨_, rfl⟩
      have HK : Hid (kc = endE k (U.take j)) := hkc
      rw [← hkc] at he ⊢
      have HE2 : Hid (endE k (U.take (j + 1)) = f.nxE kc) := by unfold Hid; rw [hkc]; exact HE.out
      have HS3 : Hid ((markE k (U.take j) ++ U.drop j).set j (f.mkE kc) = markE k (U.take (j + 1)) ++ U.drop (j + 1)) := by unfold Hid; rw [hkc]; exact HS2.out
      clear hkc HE HS2 hdone
      generalize hCC0 : markE k (U.take j) ++ U.drop j = CC at *
      have HCj : Hid (CC[j]? = some f) := hCj
      have hCl : (cellsE CC).length = n * 4 := by have := hC.1; omega
      have hov := hrest j f (Nat.le_refl _) hfj
      have hlf := HLen.out f (List.mem_of_getElem? hfj)
      have hif := HInn.out f (List.mem_of_getElem? hfj)
      have x3 : wr.cell? ⟨g, j * 4 + 3, none⟩ = some (.slice f.a f.r.xs.length f.c) := by
        rw [World.ownsRow.cellAt hC (j * 4 + 3) (by omega)]
        exact cellsE_get CC j f hCj 3 (by omega)
      have f0 := fun q => World.ownsRow.frozenAt hC q
      obtain ⟨v0, c0⟩ : ∃ v, wr.cell? ⟨g, j * 4, none⟩ = some v := ⟨_, (World.ownsRow.cellAt hC _ (by omega)).trans (List.getElem?_eq_getElem (by omega))⟩
      obtain ⟨v1, c1⟩ : ∃ v, wr.cell? ⟨g, j * 4 + 1, none⟩ = some v := ⟨_, (World.ownsRow.cellAt hC _ (by omega)).trans (List.getElem?_eq_getElem (by omega))⟩
      obtain ⟨v2, c2⟩ : ∃ v, wr.cell? ⟨g, j * 4 + 2, none⟩ = some v := ⟨_, (World.ownsRow.cellAt hC _ (by omega)).trans (List.getElem?_eq_getElem (by omega))⟩
      have hg1 := (World.ownsRow.stored hC (j * 4) (.int .i64 kc)).1
      have hg2 := (World.ownsRow.stored hg1 (j * 4 + 1) (.int .i64 (kc + 1))).1
      have hg3 := (World.ownsRow.stored hg2 (j * 4 + 2) (.int .i64 (kc + 1 + 1))).1
      have hset := cellsE_set3 CC j f (f.mkE kc) HCj.out (by simp [EnV.mkE, marks_length])
      simp only [EnV.mkE] at hset
      rw [hset] at hg3
      have t3 := set3e wr g (j * 4) (.int .i64 kc) (.int .i64 (kc + 1)) (.int .i64 (kc + 1 + 1))
      have hov3 : OwAt _ f.a f.r.xs.length f.c f.r.xs := hov.turn t3 (fun x hx e => (hif x hx).2.2 e)
      have x33 : (((wr.setCell ⟨g, j * 4, none⟩ (.int .i64 kc)).setCell ⟨g, j * 4 + 1, none⟩ (.int .i64 (kc + 1))).setCell ⟨g, j * 4 + 2, none⟩ (.int .i64 (kc + 1 + 1))).cell? ⟨g, j * 4 + 3, none⟩ = some (.slice f.a f.r.xs.length f.c) := by
        rw [World.ownsRow.cellAt hg3 (j * 4 + 3) (by omega)]
        rw [cellsE_get _ j _ (by rw [List.getElem?_set_self (by have := (List.getElem?_eq_some_iff.1 HCj.out).1; omega)]) 3 (by omega)]
        simp [EnV.cs, marks_length]
      clear hg1 hg2 hset hfj hCj
      go_upto_region 10 with fail
      generalize (((wr.setCell ⟨g, j * 4, none⟩ (.int .i64 kc)).setCell ⟨g, j * 4 + 1, none⟩ (.int .i64 (kc + 1))).setCell ⟨g, j * 4 + 2, none⟩ (.int .i64 (kc + 1 + 1))) = w4 at *
      clear x3 c0 c1 c2 f0 hC hov
      go_wp2_with fail
      refine (mark_any f.a f.r.xs.length f.c (kc + 1 + 1 + 1) f.r.xs _ hov3 (by omega) (by omega) (by omega)).mono ?_
      rintro e w5 ⟨rfl, ho5, t5⟩
      clear x33
      have hif2 : ∀ i, inA f.a i → lo ≤ i ∧ i < hi ∧ ¬ i = g := by rintro i ⟨x, hx, e⟩; rw [e]; exact hif x hx
      have t45 : Turn (fun i => i = g ∨ inA f.a i) wr w5 := Turn.trans (S := fun i => i = g ∨ inA f.a i) (Turn.mono t3 (fun i _ e => .inl e)) t5 (fun i _ e => .inr e)
      go_wp2
      go_roundw
      case rel =>
        refine ⟨j + 1, by omega, by go_num, by rw [HE2.out]; rfl, ?_, ?_, ?_, ?_⟩
        · rw [← HS3.out]
          exact row_turn4 hg3 t5 (fun e => (hif2 g e).2.2 rfl)
        · intro i u hi hu
          refine (hrest i u (by omega) hu).turn t45 ?_
          rintro x hx (e | ⟨y, hy, e⟩)
          · exact (HInn.out u (List.mem_of_getElem? hu) x hx).2.2 e
          · exact HAp.out i j u f x y hu HFJ.out (by omega) hx hy e
        · intro i u hi hu
          by_cases hij : i = j
          · subst hij
            obtain rfl := HKC.out u hu
            rw [← HK.out]
            exact ho5.bs (marks_bd _ _)
          · refine (HDone.out i u (by omega) hu).turn t45 ?_
            rintro x hx (e | ⟨y, hy, e⟩)
            · exact (HInn.out u (List.mem_of_getElem? hu) x hx).2.2 e
            · exact HAp.out i j u f x y hu HFJ.out (by omega) hx hy e
        · exact Turn.trans htn t45 (by rintro i _ (e | e); (rw [e]; exact HGl.out); exact ⟨(hif2 i e).1, (hif2 i e).2.1⟩)
      case measure => simp [intOf]; omega
    · go_wp2
      go_ret
      obtain rfl : j = n := by omega
      have e1 : U.take j = U := List.take_of_length_le (by rw [HLn.out]; omega)
      have e2 : U.drop j = [] := List.drop_eq_nil_of_le (by rw [HLn.out]; omega)
      rw [e1, e2, List.append_nil] at hC
      rw [e1]
      refine ⟨rfl, ?_, htn⟩
      intro i u hu
      have hi : i < (markE k U).length := (List.getElem?_eq_some_iff.1 hu).1
      rw [markE_length] at hi
      obtain ⟨f, hf⟩ : ∃ f, U[i]? = some f := ⟨_, List.getElem?_eq_getElem hi⟩
      have hm' := markE_get U hf k
      rw [hu] at hm'
      obtain rfl := Option.some.inj hm'
      refine ⟨⟨g, rfl, fun q hq => ?_⟩, ?_, ?_⟩
      · rw [World.ownsRow.cellAt hC (i * 4 + q) (by have := HLn.out; omega)]
        exact cellsE_get _ i _ hu q hq
      · exact hdone i f (by have := HLn.out; omega) hf
      · simp only [EnV.mkE, marks_length]
        exact HLen.out f (List.mem_of_getElem? hf)

set_option maxHeartbeats 1600000 in
theorem heldEnS_any (A : Option Addr) (n c : Nat) (k : Int) (U : List EnV) (w : World) (h : EnAt w A (markE k U)) (hn : U.length = n) (hl : ∀ u ∈ U, u.r.xs.length ≤ 6000) (hm : n ≤ 10000) (hk0 : 0 ≤ k) (hk : k ≤ 1000) :
    Calls Try.prog 54 #[.slice A n c, .int .i64 k] w fun e w' => e = .returned (.int .i64 (endE k U)) ∧ w' = w := by
  have HLn : Hid (U.length = n) := hn
  have HL : Hid (∀ u ∈ U, u.r.xs.length ≤ 6000) := hl
  have HBd : Hid (∀ j, j ≤ n → k ≤ endE k (U.take j) ∧ endE k (U.take j) ≤ k + 60030000) := by
    intro j hj
    have h1 := endE_bd (U.take j) k (fun f hf => hl f (List.mem_of_mem_take hf))
    have h2 : ((U.take j).length : Int) * 6003 ≤ 10000 * 6003 := by
      have : (U.take j).length ≤ 10000 := by rw [List.length_take]; omega
      omega
    omega
  clear hn hl
  go_enter Try.func54, Try.ntmps54
  go_wp2
  go_loopw [1, 5] (fun s i wr => ∃ j : Nat, j ≤ n ∧ i = .int .i64 j ∧ s = .int .i64 (endE k (U.take j)) ∧ wr = w) (fun _ i _ => n - (intOf i).toNat)
  case atStart => exact ⟨0, Nat.zero_le _, rfl, rfl, rfl⟩
  case round =>
    obtain ⟨j, hj, rfl, rfl, rfl⟩ := hrel
    by_cases hlt : j < n
    · obtain ⟨f, hfj⟩ : ∃ f, U[j]? = some f := ⟨_, List.getElem?_eq_getElem (by have := HLn.out; omega)⟩
      obtain ⟨⟨b, rfl, hcell⟩, hns, -⟩ := h j _ (markE_get U hfj k)
      have he := HBd.out j hj
      have HE : Hid (endE k (U.take (j + 1)) = f.nxE (endE k (U.take j))) := endE_take hfj k
      have hlf := HL.out f (List.mem_of_getElem? hfj)
      generalize endE k (U.take j) = kc at *
      obtain ⟨⟨ep, ki, pe, xs⟩, fa, fc⟩ := f
      have x0 : wr.cell? ⟨b, j * 4, none⟩ = some (.int .i64 kc) := hcell 0 (by omega)
      have x1 : wr.cell? ⟨b, j * 4 + 1, none⟩ = some (.int .i64 (kc + 1)) := hcell 1 (by omega)
      have x2 : wr.cell? ⟨b, j * 4 + 2, none⟩ = some (.int .i64 (kc + 1 + 1)) := hcell 2 (by omega)
      have x3 : wr.cell? ⟨b, j * 4 + 3, none⟩ = some (.slice fa xs.length fc) := by
        have := hcell 3 (by omega)
        simp only [EnV.mkE, EnV.cs, marks_length] at this
        exact this
      have hns' : BsAt wr fa (marks (kc + 1 + 1 + 1) xs.length) := hns
      clear hcell hfj hns h
      go_wp2_with fail
      refine (held_any fa xs.length fc (kc + 1 + 1 + 1) _ hns' (by omega) (by omega) (by omega)).mono ?_
      rintro e w5 ⟨rfl, rfl⟩
      go_wp2
      go_roundw
      case rel => exact ⟨j + 1, by omega, by go_num, by rw [HE.out]; rfl, by trivial⟩
      case measure => simp [intOf]; omega
    · go_wp2
      go_ret
      obtain rfl : j = n := by omega
      have e1 : U.take j = U := List.take_of_length_le (by rw [HLn.out]; omega)
      rw [e1]
      exact ⟨rfl, rfl⟩

end Go.Proofs.Ytdkjgjjkjfeodaa

namespace Go.Proofs.Ytdkjgjjkjfeodaa
open Go.RowKit
set_option linter.unusedVariables false
set_option linter.unusedSimpArgs false
set_option maxRecDepth 100000

/-- What ReadEntries answers: a code, or how many bytes are used and a list of entries of the call's own. -/
def ReAns (w : World) (zs : List Int) (e : Ending) (w' : World) : Prop :=
  if 6000 < zs.length then e = .returned (.agg #[.int .i64 2, .int .i64 0, .slice none 0 0]) ∧ New w w'
  else ∃ (y : Option Addr) (k d : Nat) (V : List EvM), e = .returned (.agg #[.int .i64 0, .int .i64 (eUse zs 0 : Int), .slice y k d]) ∧ k = V.length ∧ RdOwn w w' zs (.slice y k d) V (eUse zs 0) ∧ V.map EvM.t = eAts zs 0

theorem row9_low {w : World} {lo lo' sz n : Nat} {e : TypeId} {u : Value} {xs : List Value} (h : w.ownsRow lo e sz u n xs) (hl : lo' ≤ lo) : w.ownsRow lo' e sz u n xs := by
  refine ⟨h.1, ?_⟩
  rcases h.2 with h' | ⟨g', cap', cur, h', hb, r⟩
  · exact .inl h'
  · exact .inr ⟨g', cap', cur, h', by omega, r⟩

set_option maxHeartbeats 1600000 in
theorem specRE (b off n c : Nat) (zs : List Int) (w : World) (h : BsAt w (some ⟨b, off, none⟩) zs) (hn : zs.length = n) (hc : n ≤ c) (hm : n ≤ 1048576) :
    Calls Try.prog 22 #[.slice (some ⟨b, off, none⟩) n c] w fun e w' => ReAns w zs e w' := by
  have hw := (New.refl w).alloc (.cells #[.int .i64 0, .int .i64 0, .slice none 0 0] 33)
  have bR := Blk.mk w w.heap.size 33 #[.int .i64 0, .int .i64 0, .slice none 0 0] rfl
  by_cases hbig : 6000 < n
  · have hbi : (6000 : Int) < (n : Int) := by omega
    go_enter Try.func22, Try.ntmps22
    go_wp2
    refine bodyPost_ret (v := .agg #[.int .i64 2, .int .i64 0, .slice none 0 0]) (by simp [results, Try.results22, go_sem]) rfl ?_
    unfold ReAns
    rw [hn, if_pos hbig]
    exact ⟨rfl, (New.refl _).alloc _⟩
  · have hbi : ¬ (6000 : Int) < (n : Int) := by omega
    have HB : Hid (¬ 6000 < n) := hbig
    clear hbig
    go_enter Try.func22, Try.ntmps22
    go_wp2_with fail
    refine (specRead b off n c zs _ (h.new hw) hn hc hm).mono ?_
    rintro e w1 ⟨v, V, rfl, hR, hV⟩
    obtain ⟨y, d, rfl, hny, hby⟩ := row9_form hR.row
    have bR1 := bR.new hR.new
    have cR := bR1.cells
    have fR := bR1.frees
    go_wp2
    refine bodyPost_ret (v := .agg #[.int .i64 0, .int .i64 (eUse zs 0 : Int), .slice y V.length d]) (by simp [results, Try.results22, go_sem, cR]) rfl ?_
    unfold ReAns
    rw [hn, if_neg HB.out]
    have t1 : Turn (fun i => i = w.heap.size) w1 (((w1.setCell ⟨w.heap.size, 0, none⟩ (.int .i64 0)).setCell ⟨w.heap.size, 1, none⟩ (.int .i64 (eUse zs 0 : Int))).setCell ⟨w.heap.size, 2, none⟩ (.slice y V.length d)) := Turn.set (S := fun i => i = w.heap.size) (Turn.set (S := fun i => i = w.heap.size) (Turn.set (S := fun i => i = w.heap.size) (Turn.refl _ _) rfl _) rfl _) rfl _
    refine ⟨y, V.length, d, V, rfl, rfl, ⟨hR.come, ?_, ?_, ?_⟩, hV⟩
    · have hr := row9_turn hR.row t1 (by intro k hk e; have := (hby k hk).1; simp at this; omega)
      exact row9_low hr (by simp)
    · have ho := hR.own.turn t1 (by intro x hx k hk e; obtain ⟨_, _, _, _, hb⟩ := row9_form (hR.own.own x hx); have := (hb k hk).1; simp at this; omega)
      exact ho.low (by simp)
    · exact (hw.trans hR.new).before t1 (by intro i hi e; omega)

end Go.Proofs.Ytdkjgjjkjfeodaa

namespace Go.Proofs.Ytdkjgjjkjfeodaa
open Go.RowKit
set_option linter.unusedVariables false
set_option linter.unusedSimpArgs false
set_option maxRecDepth 100000

set_option maxHeartbeats 1600000 in
theorem copyE (ep ki pe : Int) (x : Option Addr) (n c : Nat) (zs : List Int) (w : World) (hx : BsAt w x zs) (hn : zs.length = n) (hnx : x = none → n = 0 ∧ c = 0) (hn1 : n ≤ 1048576) :
    Calls Try.prog 41 #[.agg #[.int .i64 ep, .int .i64 ki, .int .i64 pe, .slice x n c]] w fun e w' => ∃ (a' : Option Addr) (c' : Nat), e = .returned (.agg #[.int .i64 ep, .int .i64 ki, .int .i64 pe, .slice a' n c']) ∧ OvB w' w.heap.size (.slice a' n c') zs ∧ New w w' := by
  have hw := (((New.refl w).alloc (.cells #[.int .i64 ep, .int .i64 ki, .int .i64 pe, .slice x n c] 40)).alloc (.cells #[.int .i64 0, .int .i64 0, .int .i64 0, .slice none 0 0] 40)).alloc (.cells #[.slice x n c] 22)
  have b0 := ((Blk.mk w w.heap.size 40 #[.int .i64 ep, .int .i64 ki, .int .i64 pe, .slice x n c] rfl).alloc (.cells #[.int .i64 0, .int .i64 0, .int .i64 0, .slice none 0 0] 40)).alloc (.cells #[.slice x n c] 22)
  have b1 := (Blk.mk (w.alloc (.cells #[.int .i64 ep, .int .i64 ki, .int .i64 pe, .slice x n c] 40)) (w.heap.size + 1) 40 #[.int .i64 0, .int .i64 0, .int .i64 0, .slice none 0 0] (by simp)).alloc (.cells #[.slice x n c] 22)
  have b2 := Blk.mk ((w.alloc (.cells #[.int .i64 ep, .int .i64 ki, .int .i64 pe, .slice x n c] 40)).alloc (.cells #[.int .i64 0, .int .i64 0, .int .i64 0, .slice none 0 0] 40)) (w.heap.size + 1 + 1) 22 #[.slice x n c] (by simp)
  have hz := hx.lt
  go_enter Try.func41, Try.ntmps41
  go_wp2_with fail
  refine (concat1 (w.heap.size + 1 + 1) x n c zs _ (b2.cells 0) (hx.new hw) hn hnx hn1).mono ?_
  rintro e w1 ⟨v, rfl, ho, hn1'⟩
  obtain ⟨a', c', rfl, -, -, -, -⟩ := ho.bs hz
  rw [hn] at ho ⊢
  have b01 := b0.new hn1'
  have b11 := b1.new hn1'
  have c0 := b01.cells
  have f0 := b01.frees
  have c1 := b11.cells
  have f1 := b11.frees
  have hw1 := hw.trans hn1'
  go_wp2
  refine bodyPost_ret (v := .agg #[.int .i64 ep, .int .i64 ki, .int .i64 pe, .slice a' n c']) (by simp [results, Try.results41, go_sem, c1]) rfl ⟨a', c', rfl, ?_, ?_⟩
  · refine (OvB.turn (S := fun i => i = w.heap.size + 1 ∨ i = w.heap.size) ho ?_ (by intro k hk _ e; simp at hk; omega)).low (by simp; omega)
    exact Turn.set (S := fun i => i = w.heap.size + 1 ∨ i = w.heap.size) (Turn.set (S := fun i => i = w.heap.size + 1 ∨ i = w.heap.size) (Turn.set (S := fun i => i = w.heap.size + 1 ∨ i = w.heap.size) (Turn.set (S := fun i => i = w.heap.size + 1 ∨ i = w.heap.size) (Turn.set (S := fun i => i = w.heap.size + 1 ∨ i = w.heap.size) (Turn.refl _ _) (Or.inr rfl) _) (Or.inl rfl) _) (Or.inl rfl) _) (Or.inl rfl) _) (Or.inl rfl) _
  · exact ((((hw1.setCell (by simp) _).setCell (by simp) _).setCell (by simp) _).setCell (by simp) _).setCell (by simp) _

end Go.Proofs.Ytdkjgjjkjfeodaa

namespace Go.Proofs.Ytdkjgjjkjfeodaa
open Go.RowKit
set_option linter.unusedVariables false

theorem uponIn_of_upon {P : Program} {l n : Nat} {Q : Exit → Act → World → Prop} (o : Oper) (a : Act) {next next' : Act → World → Prop} (hk : ∀ a w, next a w → next' a w) :
    ∀ r : Result Next, o.upon P a next Q r → o.uponIn (Fence.wide.inRound l) n P a next' Q r := by
  intro r h
  cases r with
  | ok x w =>
    cases x with
    | value v => exact hk _ _ h
    | skip => exact hk _ _ h
    | defer d => exact hk _ _ h
    | enter f args =>
      refine ⟨(fun h => by cases h), CallsIn.inRound l (callsIn_wide.2 (Calls.mono h ?_))⟩
      intro e w' he
      cases e with
      | returned v => exact hk _ _ he
      | panicked ch => exact he
      | outgrown => exact he
    | row rw args => exact ⟨(fun h => by cases h), fun c cs _ => let ⟨v, w', r, s⟩ := h c cs; ⟨v, w', hk _ _ r, stepsIn_wide.2 s⟩⟩
    | _ => exact h.elim
  | halt x w => cases x <;> exact h

theorem opsIn_of_ops {P : Program} {l n : Nat} {ops : Array Oper} {Q : Exit → Act → World → Prop} (hd : ∀ (i : Nat) (o : Oper), ops[i]? = some o → ∀ c, o.op ≠ .defer c) (hQ : ¬ LetsOut Q) :
    ∀ (sched : List Nat) (a : Act) (w : World), wpOps P ops Q sched a w → wpOpsIn (Fence.wide.inRound l) n P ops Q sched a w
  | [], a, w, h => h
  | i :: rest, a, w, h => by
    simp only [wpOps] at h
    simp only [wpOpsIn]
    cases ho : ops[i]? with
    | none =>
      simp only [ho] at h
      exact opsIn_of_ops hd hQ rest a w h
    | some o =>
      simp only [ho] at h
      by_cases hw : Region.wanted o (yielded ops a.tmps) = true
      · simp only [hw, if_true] at h ⊢
        rcases h with h | ⟨_, h⟩
        · refine ⟨fun _ _ => trivial, ?_⟩
          rw [Oper.semAt_plain _ _ _ (hd i o ho)]
          exact uponIn_of_upon o a (fun a w h => opsIn_of_ops hd hQ rest a w h) _ h
        · exact (hQ h).elim
      · simp only [hw, if_false, Bool.false_eq_true] at h ⊢
        exact ⟨fun _ _ => trivial, opsIn_of_ops hd hQ rest _ w h⟩

/-- A drawn region within a round, held as everywhere. -/
theorem wpIn_region_round {P : Program} {l n id : Nat} {ops : Array Oper} {Q : Exit → Act → World → Prop} {S : World → Prop} {a : Act} {w : World} (hm : P.follows .mixedOrders = true) (hd : ∀ (i : Nat) (o : Oper), ops[i]? = some o → ∀ c, o.op ≠ .defer c) (hQ : ¬ LetsOut Q)
    (h : wpAnyH P .any ops Q S ops.size (Array.replicate ops.size false) a w.drew) : (Code.region id ops true).wpIn (Fence.wide.inRound l) n P Q a w :=
  wpIn_region_draw fun t => by
    simp only [Region.schedule, hm, Bool.true_or, if_true]
    exact opsIn_of_ops hd hQ _ _ _ (wpAny_sound ops.size t _ a _ (wpAny_of_held _ _ _ _ h))

end Go.Proofs.Ytdkjgjjkjfeodaa

namespace Go.Proofs.Ytdkjgjjkjfeodaa
open Go.RowKit Go.Shelf
set_option linter.unusedVariables false
set_option linter.unusedSimpArgs false
set_option maxRecDepth 100000
attribute [local go_sem] Oper.semAt_some

theorem cells_ne {W : World} {row : Option Nat} {k : Nat} {cs : Array Value} {t : TypeId} {f : Nat × Nat} (hr : ∀ r, row = some r → ∃ o : Obj, W.heap[r]? = some o ∧ o.isCells = false) (hk : W.heap[k]? = some (.cells cs t f)) : ¬ row = some k := by
  rintro rfl
  obtain ⟨o, ho, hc⟩ := hr k rfl
  rw [hk] at ho
  obtain rfl := Option.some.inj ho
  simp [Obj.isCells] at hc
theorem row_cells {w : World} {lo sz n : Nat} {e : TypeId} {u : Value} {xs : List Value} (h : w.ownsRow lo e sz u n xs) {k : Nat} (hk : u.ownBlock = some k) : ∃ cs, w.heap[k]? = some (.cells cs e (0, 0)) := by
  rcases h.2 with ⟨h1, h2⟩ | ⟨g, c, cur, h1, h2, h3, r⟩
  · subst h1; simp [Value.ownBlock] at hk
  · subst h1
    simp [Value.ownBlock] at hk
    subst hk
    exact ⟨cur, h3⟩

theorem wp_apV {P : Program} {t e : TypeId} {i : TypeInfo} (w : World) {o : Oper} {a : Act} {K : Act → World → Prop} {Q : Exit → Act → World → Prop} (s x : Operand)
    (ho : o.op = .call { callee := .builtin .append, args := #[s, x], argTypes := #[t, t] }) (base sz by' : Nat) (zero : Value) (ht : P.underlying t = some (.slice e)) (hi : P.info? e = some i) (hz : i.zero = some zero) (hs : i.size = sz) (hb : i.bytes = by') (hz1 : zero.cells.size = sz) (hsz : 0 < sz) (hby : by' ≤ 1000)
    (v : Value) (n : Nat) (xs : List Value) (hsv : a.eval s = v) (hown : w.ownsRow base e sz v n xs)
    (L : Nat) (r : List Value) (hr : r.length = sz) (h1 : ∀ u ∈ r, u.oneCell' = true) (hxv : a.eval x = .slice (some ⟨L, 0, none⟩) 1 1) (hsrc : ∀ j u, r[j]? = some u → w.cell? ⟨L, j, none⟩ = some u) (hle : n + 1 ≤ 4194304) (hbase : base ≤ w.heap.size)
    (h : ∀ v' w', w'.ownsRow base e sz v' (n + 1) (xs ++ r) → w.grownBy w' v.ownBlock → (v'.ownBlock = v.ownBlock ∨ v'.ownBlock = some w.heap.size) → K (a.put o.dst v') w') : o.wp P a w K Q := by
  have hnews : ∀ j u, r[j]? = some u → w.cell? ((⟨L, 0, none⟩ : Addr).add j) = some u := by
    intro j u hu
    rw [Addr.add_lit, Nat.zero_add]
    exact hsrc j u hu
  have hbb : (n + 1) * by' ≤ 140737488355328 := Nat.le_trans (Nat.mul_le_mul hle hby) (by decide)
  obtain ⟨v', w', hr, h2, h3, _, h5⟩ := run_append_own_at (P := P) w base t o.type e i zero sz by' ht hi hz hs hb hz1 hsz v n xs hown ⟨L, 0, none⟩ 1 1 r (by omega) hnews h1 (by unfold maxLen; omega) hbb hbase
  unfold Oper.wp execOp
  simp only [ho, resolve, invoke, builtin, Sem.run_bind, Sem.run_pure, Result.andThen_ok, List.map_toArray, List.map_cons, List.map_nil, hsv, hxv, hr]
  exact h v' w' h2 h3 h5

/-- What stands between two rounds. -/
structure RiIn (w W : World) (bv : Value) (zs : List Int) (ts : List Nat) (en : Int) : Prop where
  box : Blk W (w.heap.size + 2) 22 #[bv]
  got : ∃ v V, Blk W (w.heap.size + 1) 33 #[.int .i64 0, .int .i64 en, v] ∧ V.map EvM.t = ts ∧ W.ownsRow (w.heap.size + 2) 40 4 v V.length (V.flatMap (EvM.cs zs)) ∧ EvOwn W (w.heap.size + 2) zs V
  res : Blk W w.heap.size 33 #[.int .i64 0, .int .i64 0, .slice none 0 0]
  below : Below w.heap.size w W
theorem RiIn.turn {w W W' : World} {bv : Value} {zs : List Int} {ts : List Nat} {en : Int} {row : Option Nat} {B : Nat} (h : RiIn w W bv zs ts en) (hg : W.grownBy W' row) (hr : ∀ r, row = some r → B ≤ r ∧ ∃ o : Obj, W.heap[r]? = some o ∧ o.isCells = false) (hB : w.heap.size ≤ B) : RiIn w W' bv zs ts en := by
  have hr' : ∀ r, row = some r → ∃ o : Obj, W.heap[r]? = some o ∧ o.isCells = false := fun r e => (hr r e).2
  have t := turn_of_grown hg
  obtain ⟨hbox, ⟨v, V, h1, h2, h3, h4⟩, hres, hb⟩ := h
  refine ⟨hbox.turn t (cells_ne hr' hbox), ⟨v, V, h1.turn t (cells_ne hr' h1), h2, row9_turn h3 t (fun k hk => ?_), h4.turn t (fun x hx k hk => ?_)⟩, hres.turn t (cells_ne hr' hres), ?_⟩
  · obtain ⟨cs, hc⟩ := row_cells h3 hk
    exact cells_ne hr' hc
  · obtain ⟨cs, hc⟩ := row_cells (h4.own x hx) hk
    exact cells_ne hr' hc
  · exact ⟨t.os.trans hb.os, t.tape.trans hb.tape, t.output.trans hb.output, Nat.le_trans hb.size t.size, fun k hk => (t.block k (Nat.lt_of_lt_of_le hk (by have := hb.size; omega)) (fun e => by have := (hr k e).1; omega)).trans (hb.block k hk)⟩

set_option maxHeartbeats 3200000 in
theorem implRE (b off n c : Nat) (zs : List Int) (w : World) (h : BsAt w (some ⟨b, off, none⟩) zs) (hb : b < w.heap.size) (hn : zs.length = n) (hc : n ≤ c) (hm : n ≤ 1048576) :
    Calls Try.prog 11 #[.slice (some ⟨b, off, none⟩) n c] w fun e w' => ReAns w zs e w' := by
  by_cases hbig : 6000 < n
  · have hbi : (6000 : Int) < (n : Int) := by omega
    go_enter Try.func11, Try.ntmps11
    go_wp2
    refine bodyPost_ret (v := .agg #[.int .i64 2, .int .i64 0, .slice none 0 0]) (by simp [results, Try.results11, go_sem]) rfl ?_
    unfold ReAns
    rw [hn, if_pos hbig]
    exact ⟨rfl, (New.refl _).alloc _⟩
  · have hbi : ¬ (6000 : Int) < (n : Int) := by omega
    have HB : Hid (¬ 6000 < n) := hbig
    clear hbig
    refine (callsIn_wide (n := 4)).1 ?_
    refine callsIn_of_wp_marks Try.func11 rfl trivial ?_ rfl
    simp only [Try.ntmps11, List.size_toArray, List.length_cons, List.length_nil, Nat.reduceAdd, Nat.reduceSub, Array.replicate_succ, Array.replicate_zero, List.push_toArray, List.append_toArray, List.nil_append, List.cons_append]
    gi_wp2_with (refine ⟨trivial, ?_⟩; gi_at_call 40; refine (callsIn_wide.2 (entries_in (some ⟨b, off, none⟩) n c _)).mono ?_; rintro e w' ⟨rfl, rfl⟩)
    have hB0 : Below w.heap.size w (((w.alloc (.cells #[.int .i64 0, .int .i64 0, .slice none 0 0] 33)).alloc (.cells #[.int .i64 0, .int .i64 0, .slice none 0 0] 33)).alloc (.cells #[.slice (some ⟨b, off, none⟩) n c] 22)) := (((Below.refl _ w).alloc (Nat.le_refl _) _).alloc (by simp) _).alloc (by simp; omega) _
    have bR := ((Blk.mk w w.heap.size 33 #[.int .i64 0, .int .i64 0, .slice none 0 0] rfl).alloc (.cells #[.int .i64 0, .int .i64 0, .slice none 0 0] 33)).alloc (.cells #[.slice (some ⟨b, off, none⟩) n c] 22)
    have bG := (Blk.mk (w.alloc (.cells #[.int .i64 0, .int .i64 0, .slice none 0 0] 33)) (w.heap.size + 1) 33 #[.int .i64 0, .int .i64 0, .slice none 0 0] (by simp)).alloc (.cells #[.slice (some ⟨b, off, none⟩) n c] 22)
    have bN := Blk.mk ((w.alloc (.cells #[.int .i64 0, .int .i64 0, .slice none 0 0] 33)).alloc (.cells #[.int .i64 0, .int .i64 0, .slice none 0 0] 33)) (w.heap.size + 2) 22 #[.slice (some ⟨b, off, none⟩) n c] (by simp)
    have hL : (((w.alloc (.cells #[.int .i64 0, .int .i64 0, .slice none 0 0] 33)).alloc (.cells #[.int .i64 0, .int .i64 0, .slice none 0 0] 33)).alloc (.cells #[.slice (some ⟨b, off, none⟩) n c] 22)).heap.size = w.heap.size + 3 := by simp
    have hz := h.new (New.of_below hB0 (Nat.le_refl _))
    generalize (((w.alloc (.cells #[.int .i64 0, .int .i64 0, .slice none 0 0] 33)).alloc (.cells #[.int .i64 0, .int .i64 0, .slice none 0 0] 33)).alloc (.cells #[.slice (some ⟨b, off, none⟩) n c] 22)) = w1 at *
    refine wpIn_rangeFunc_ownH rfl (by omega) (gf := 61) (lb := #[.pointer (some ⟨w.heap.size + 1 + 1, 0, none⟩)]) rfl trivial (enters_of Try.func61 (by kernel_rfl) rfl)
      (entries_stops (w.heap.size + 2) w.heap.size (some ⟨b, off, none⟩) n c zs w1 hn hc hm (.inr ⟨b, off, rfl, hb⟩) (by omega) bN hz) Kp10.trans (kp10_b (by omega) (by omega)) (Below.refl _ _) (fun _ => rfl)
      (fun pre W => RiIn w W (.slice (some ⟨b, off, none⟩) n c) zs (pre.map EI.t) (eEnd pre))
      (fun _ _ _ => False)
      (fun s A B row hs hg hr => hs.turn hg hr (by omega))
      (fun _ _ _ _ _ hs _ _ => hs)
      ⟨bN, ⟨.slice none 0 0, [], bG, rfl, ⟨rfl, .inl ⟨rfl, rfl⟩⟩, EvOwn.nil _ _ _⟩, bR, hB0⟩
      (fun x a' W => ∃ Bx, w.heap.size + 2 < Bx ∧ Blk W Bx 40 x.cs ∧ (∃ vv, W.cell? ⟨w.heap.size + 1, 2, none⟩ = some vv ∧ ∀ k, vv.ownBlock = some k → k < Bx) ∧ a' = { tmps := #[.slice (some ⟨b, off, none⟩) n c, undef, .pointer (some ⟨w.heap.size, 0, none⟩), .pointer (some ⟨w.heap.size + 1, 0, none⟩), .int .i64 ((x.t : Int) + (eSz (zs.drop x.t) : Int)), .pointer (some ⟨Bx, 0, none⟩), .slice (some ⟨b, off, none⟩) n c, .int .i64 n, .bool false, undef, .slice (some ⟨b, off, none⟩) n c, .func (.func 61) #[] #[.pointer (some ⟨w.heap.size + 1 + 1, 0, none⟩)], .int .i64 ((x.t : Int) + (eSz (zs.drop x.t) : Int)), .agg x.cs, undef, undef, undef, undef, undef, undef, undef, undef, undef, undef], defers := [] })
      (fun x a' _ X Y row hs hg hr => by obtain ⟨Bx, h1, h2, ⟨vv, hv1, hv2⟩, h3⟩ := hs; exact ⟨Bx, h1, h2.turn (turn_of_grown hg) (cells_ne (fun r e => (hr r e).2) h2), ⟨vv, cell_kept hv1 hg (fun r e => (hr r e).2), hv2⟩, h3⟩)
      ?assign ?body ?done ?stop
    case assign =>
      rintro l pre x W K hI hK
      dsimp only [EI.enc, EI.cs]
      dsimp only [EI.cs] at hK
      have hs := hI.below.size
      have hgt := hI.box.lt
      gi_wp2
      refine hK _ _ ((KeepsOthers.alloc _ _).from _) ⟨(Below.refl _ W).alloc hs _, Below.heap_alloc _ _ _ hgt⟩ ?_ ⟨W.heap.size, hgt, Blk.mk _ _ _ _ rfl, ?_, rfl⟩
      rotate_left
      · obtain ⟨v, V, hG, -, hrow, -⟩ := hI.got
        obtain ⟨_, _, rfl, _, hby⟩ := row9_form hrow
        exact ⟨_, ((hG.alloc _).cells 2), fun k hk => (hby k hk).2⟩
      exact hI.turn (B := w1.heap.size) (World.grownBy_alloc W _ none) (fun r e => by cases e) (by omega)
    case body =>
      rintro l pre x a' W hl ⟨r, hr⟩ hI ⟨Bx, hBx, bX, ⟨vv, hvv, hvk⟩, rfl⟩ hlen
      obtain ⟨hbox, ⟨v, V, hG, hV, hrow, hown⟩, hres, hbel⟩ := hI
      obtain ⟨y, dd, rfl, hny, hby⟩ := row9_form hrow
      have cG := hG.cells
      obtain rfl : Value.slice y V.length dd = vv := Option.some.inj ((hG.cells 2).symm.trans hvv)
      have fG := hG.frees
      have hmx : Try.prog.follows .mixedOrders = true := by kernel_rfl
      gi_wp2
      have t01 : Turn (fun i => i = w.heap.size + 1) W (W.setCell ⟨w.heap.size + 1, 1, none⟩ (.int .i64 ((x.t : Int) + (eSz (zs.drop x.t) : Int)))) := Turn.set (S := fun i => i = w.heap.size + 1) (Turn.refl _ _) rfl _
      have hG1 : Blk (W.setCell ⟨w.heap.size + 1, 1, none⟩ (.int .i64 ((x.t : Int) + (eSz (zs.drop x.t) : Int)))) (w.heap.size + 1) 33 #[.int .i64 0, .int .i64 ((x.t : Int) + (eSz (zs.drop x.t) : Int)), .slice y V.length dd] := hG.set 1 _
      have bX1 := bX.turn t01 (by omega)
      generalize W.setCell ⟨w.heap.size + 1, 1, none⟩ (.int .i64 ((x.t : Int) + (eSz (zs.drop x.t) : Int))) = W1 at *
      have hbl := hbox.lt
      have hVb : V.length ≤ 1048576 := by have hVl : V.length = pre.length := by { have := congrArg List.length hV; simpa using this }; omega
      have s01 := t01.size
      have DW : BsAt W1 (some ⟨b, off, none⟩) zs := (h.belowB hbel (by intro x _ hx; cases hx; exact hb)).turn t01 (by intro x hx; cases hx; simp; omega)
      have D0 := x.rd W1 DW
      have lby : (((zs.drop x.t).drop 8).take (eSz (zs.drop x.t) - 8)).length = eSz (zs.drop x.t) - 8 := by have := eSz_le (zs.drop x.t); simp only [List.length_take, List.length_drop] at this ⊢; omega
      have hle8 : eSz (zs.drop x.t) - 8 ≤ 1048576 := by have := eSz_le (zs.drop x.t); simp only [List.length_drop] at this; omega
      have row1 := row9_turn hrow t01 (by intro k hk e; have := (hby k hk).1; omega)
      have nS1 : ¬ (Value.slice y V.length dd).ownBlock = some (w.heap.size + 1) := fun e => by have := (hby _ e).1; omega
      have nSX : ¬ (Value.slice y V.length dd).ownBlock = some Bx := fun e => by have := hvk _ e; omega
      refine wpIn_region_round (S := fun X => Blk X Bx 40 x.cs) hmx ?hd ?hQ ?_
      case hd =>
        intro i o ho c
        rcases i with _ | _ | _ | _ | _ | _ | _ | _ | i <;> simp at ho <;> subst ho <;> simp
      case hQ =>
        rintro ⟨_, _, hh⟩
        exact hh
      have hN : New W1 W1.drew := (New.refl _).drew
      have hH := bX1.new hN
      obtain ⟨i0, hi, hzi0, hzi1, hzi2⟩ := info_parts Try.infoEn
      refine' hw_take 0 (some 16) _ rfl rfl (by kernel_rfl) (by kernel_rfl) (by kernel_rfl) (fun _ _ _ h => h) (by rfl) hH ?hy2 ?rest2
      case hy2 =>
        intro X hX
        go_simp
        try rfl
      simp only [Act.put, List.setIfInBounds_toArray, List.set_cons_zero, List.set_cons_succ]
      refine' hw_take 2 (some 18) _ rfl rfl (by kernel_rfl) (by kernel_rfl) (by kernel_rfl) (fun _ _ _ h => h) (by rfl) hH ?hy3 ?rest3
      case hy3 =>
        intro X hX
        have cX1 := hX.cells
        unfold EI.cs at cX1
        go_simp
        try rfl
      simp only [Act.put, List.setIfInBounds_toArray, List.set_cons_zero, List.set_cons_succ]
      refine wpAnyH_ready (rs := [1, 3]) (by kernel_rfl) (by simp) (hw_step 1 (some 17) rfl rfl (by rfl) (fun K hK => ?b1) (hw_step 3 (some 19) rfl rfl (by rfl) (fun K hK => ?b3) (by intro j hj; cases hj)))
      case b1 =>
        have cG1 := (hG1.new hN).cells
        go_simp
        refine hK.out _ _ (bX1.new hN) (fun hH => ?_)
        clear cG1
        simp only [Act.put, List.setIfInBounds_toArray, List.set_cons_zero, List.set_cons_succ]
        refine hw_call 3 (some 19) rfl rfl (by kernel_rfl) (by rfl) (fun K hK => ?_)
        go_simp
        refine (copyE _ _ _ (some x.q) (eSz (zs.drop x.t) - 8) x.cap _ _ (D0.new hN) lby (by intro h; cases h) hle8).mono ?_
        rintro e u1 ⟨a1, c1, rfl, ho1, hu1⟩
        have hN1 := hN.trans hu1
        refine hK.out _ _ (bX1.new hN1) (fun hH => ?_)
        simp only [Act.put, List.setIfInBounds_toArray, List.set_cons_zero, List.set_cons_succ]
        refine hw_call 4 (some 20) rfl rfl (by kernel_rfl) (by rfl) (fun K hK => ?_)
        go_simp
        refine hK.out _ _ (bX1.new (hN1.alloc _)) (fun hH => ?_)
        simp only [Act.put, List.setIfInBounds_toArray, List.set_cons_zero, List.set_cons_succ]
        refine hw_call 5 (some 21) rfl rfl (by kernel_rfl) (by rfl) (fun K hK => ?_)
        have bL := Blk.mk u1 u1.heap.size 40 #[.int .i64 (numAt (zs.drop x.t) 3 2), .int .i64 (zs[x.t + 5]?.getD 0), .int .i64 (zs[x.t + 6]?.getD 0), .slice a1 (eSz (zs.drop x.t) - 8) c1] rfl
        have cL := bL.cells
        have row2 := row9_new row1 (hN1.alloc (.cells #[.int .i64 (numAt (zs.drop x.t) 3 2), .int .i64 (zs[x.t + 5]?.getD 0), .int .i64 (zs[x.t + 6]?.getD 0), .slice a1 (eSz (zs.drop x.t) - 8) c1] 40))
        refine wp_apV _ (.tmp 17) (.tmp 20) rfl (w.heap.size + 2) 4 48 (.agg #[.int .i64 0, .int .i64 0, .int .i64 0, .slice none 0 0]) Try.underlying31 hi hzi0 hzi1 hzi2 rfl (by omega) (by omega) (.slice y V.length dd) V.length _ rfl row2 u1.heap.size [.int .i64 (numAt (zs.drop x.t) 3 2), .int .i64 (zs[x.t + 5]?.getD 0), .int .i64 (zs[x.t + 6]?.getD 0), .slice a1 (eSz (zs.drop x.t) - 8) c1] rfl (by simp [Value.oneCell']) rfl (by intro j u hu; rw [cL j, List.getElem?_toArray]; exact hu) (by omega) (by have := (hN1.alloc (.cells #[.int .i64 (numAt (zs.drop x.t) 3 2), .int .i64 (zs[x.t + 5]?.getD 0), .int .i64 (zs[x.t + 6]?.getD 0), .slice a1 (eSz (zs.drop x.t) - 8) c1] 40)).size; have := t01.size; omega) ?_
        intro v3 w3 hrow3 hgr3 hat3
        obtain ⟨y3, d3, rfl, hny3, hby3⟩ := row9_form hrow3
        have tt := turn_of_grown hgr3
        have hG3 := (hG1.new (hN1.alloc _)).turn tt nS1
        refine hK.out _ _ ((bX1.new (hN1.alloc _)).turn tt nSX) (fun hH => ?_)
        simp only [Act.put, List.setIfInBounds_toArray, List.set_cons_zero, List.set_cons_succ]
        refine' hw_take 6 (some 22) _ rfl rfl (by kernel_rfl) (by kernel_rfl) (by kernel_rfl) (fun _ _ _ h => h) (by rfl) hH ?hy4 ?rest4
        case hy4 =>
          intro X hX
          go_simp
          try rfl
        simp only [Act.put, List.setIfInBounds_toArray, List.set_cons_zero, List.set_cons_succ]
        refine hw_call 7 none rfl rfl (by kernel_rfl) (by rfl) (fun K hK => ?_)
        have cG3 := hG3.cells
        have fG3 := hG3.frees
        go_simp
        have ts : Turn (fun i => i = w.heap.size + 1) w3 (w3.setCell ⟨w.heap.size + 1, 2, none⟩ (.slice y3 (V.length + 1) d3)) := Turn.set (S := fun i => i = w.heap.size + 1) (Turn.refl _ _) rfl _
        refine hK.out undef _ (((bX1.new (hN1.alloc _)).turn tt nSX).turn ts (by omega)) (fun hH => ?_)
        refine wpAnyH_done (by kernel_rfl) ?_ _
        have nA := hN1.alloc (.cells #[.int .i64 (numAt (zs.drop x.t) 3 2), .int .i64 (zs[x.t + 5]?.getD 0), .int .i64 (zs[x.t + 6]?.getD 0), .slice a1 (eSz (zs.drop x.t) - 8) c1] 40)
        have tAll : Turn (fun i => i = w.heap.size + 1 ∨ (Value.slice y V.length dd).ownBlock = some i) W (w3.setCell ⟨w.heap.size + 1, 2, none⟩ (.slice y3 (V.length + 1) d3)) := Turn.trans (Turn.trans (Turn.trans (S := fun i => i = w.heap.size + 1 ∨ (Value.slice y V.length dd).ownBlock = some i) (t01.mono (fun _ _ h => .inl h)) (New.turn (S := fun _ => False) nA) (fun _ _ h => h.elim)) tt (fun _ _ h => .inr h)) ts (fun _ _ h => .inl h)
        have nBox : ¬ (Value.slice y V.length dd).ownBlock = some (w.heap.size + 2) := by
          intro e
          obtain ⟨cs, hcs⟩ := row_cells hrow e
          have := hbox.symm.trans hcs
          simp at this
        have hBel : Below w.heap.size W (w3.setCell ⟨w.heap.size + 1, 2, none⟩ (.slice y3 (V.length + 1) d3)) := ⟨tAll.os, tAll.tape, tAll.output, tAll.size, fun k hk => tAll.block k (by omega) (by rintro (e | e); omega; (have := (hby k e).1; omega))⟩
        have aG := nA.size
        refine ⟨⟨tAll.size, fun k o hB hk ho => ?_⟩, ⟨hBel, tAll.block _ (by omega) (by rintro (e | e); omega; exact nBox e)⟩, ?_⟩
        · refine (tAll.block k (Array.getElem?_eq_some_iff.1 hk).1 ?_).trans hk
          rintro (e | e)
          · omega
          · obtain ⟨cs, hcs⟩ := row_cells hrow e
            rw [hcs] at hk
            obtain rfl := Option.some.inj hk
            simp [Obj.isCells] at ho
        · refine ⟨hbox.turn tAll (by rintro (e | e); omega; exact nBox e), ⟨.slice y3 (V.length + 1) d3, V ++ [⟨x.t, a1, c1⟩], ?_, ?_, ?_, ?_⟩, hres.turn tAll (by rintro (e | e); omega; (have := (hby _ e).1; omega)), hbel.trans hBel⟩
          · rw [eEnd_snoc]
            exact hG3.set 2 _
          · rw [List.map_append, List.map_append, hV]; rfl
          · rw [List.flatMap_append, List.flatMap_cons, List.flatMap_nil, List.append_nil, List.length_append]
            exact row9_turn hrow3 ts (by intro k hk e; have := (hby3 k hk).1; omega)
          · have hnr : u1.ownsRow (w.heap.size + 2) 5 1 (.slice a1 (eSz (zs.drop x.t) - 8) c1) (eSz (zs.drop x.t) - 8) ((((zs.drop x.t).drop 8).take (eSz (zs.drop x.t) - 8)).map (Value.int .u8)) := by
              have := ho1
              unfold OvB at this
              rw [lby] at this
              exact row9_low this (by show w.heap.size + 2 ≤ W1.heap.size; omega)
            have hlo : ∀ k, (Value.slice a1 (eSz (zs.drop x.t) - 8) c1).ownBlock = some k → W1.heap.size ≤ k := fun k hk => ho1.blk k hk
            have hn2 := row9_new hnr ((New.refl u1).alloc (.cells #[.int .i64 (numAt (zs.drop x.t) 3 2), .int .i64 (zs[x.t + 5]?.getD 0), .int .i64 (zs[x.t + 6]?.getD 0), .slice a1 (eSz (zs.drop x.t) - 8) c1] 40))
            have hn3 := row9_turn (row9_turn hn2 tt (fun k hk e => row_ne_row row2 hn2 (by decide) k e hk)) ts (by intro k hk e; have := hlo k hk; omega)
            refine (hown.turn tAll (by rintro z hz k hk (e | e); (obtain ⟨_, _, _, _, hb⟩ := row9_form (hown.own z hz); have := (hb k hk).1; omega); exact row_ne_row hrow (hown.own z hz) (by decide) k e hk)).snoc ⟨x.t, a1, c1⟩ hn3 ?_
            intro z hz k hk hk'
            obtain ⟨_, _, _, _, hb⟩ := row9_form (hown.own z hz)
            have := (hb k hk).2
            have := hlo k hk'
            omega
      case b3 =>
        go_simp
        refine (copyE _ _ _ (some x.q) (eSz (zs.drop x.t) - 8) x.cap _ _ (D0.new hN) lby (by intro h; cases h) hle8).mono ?_
        rintro e u1 ⟨a1, c1, rfl, ho1, hu1⟩
        have hN1 := hN.trans hu1
        refine hK.out _ _ (bX1.new hN1) (fun hH => ?_)
        simp only [Act.put, List.setIfInBounds_toArray, List.set_cons_zero, List.set_cons_succ]
        refine wpAnyH_ready (rs := [1, 4]) (by kernel_rfl) (by simp) (hw_step 1 (some 17) rfl rfl (by rfl) (fun K hK => ?c1) (hw_step 4 (some 20) rfl rfl (by rfl) (fun K hK => ?c4) (by intro j hj; cases hj)))
        case c1 =>
          have cG1 := (hG1.new hN1).cells
          go_simp
          refine hK.out _ _ (bX1.new hN1) (fun hH => ?_)
          clear cG1
          simp only [Act.put, List.setIfInBounds_toArray, List.set_cons_zero, List.set_cons_succ]
          refine hw_call 4 (some 20) rfl rfl (by kernel_rfl) (by rfl) (fun K hK => ?_)
          go_simp
          refine hK.out _ _ (bX1.new (hN1.alloc _)) (fun hH => ?_)
          simp only [Act.put, List.setIfInBounds_toArray, List.set_cons_zero, List.set_cons_succ]
          refine hw_call 5 (some 21) rfl rfl (by kernel_rfl) (by rfl) (fun K hK => ?_)
          have bL := Blk.mk u1 u1.heap.size 40 #[.int .i64 (numAt (zs.drop x.t) 3 2), .int .i64 (zs[x.t + 5]?.getD 0), .int .i64 (zs[x.t + 6]?.getD 0), .slice a1 (eSz (zs.drop x.t) - 8) c1] rfl
          have cL := bL.cells
          have row2 := row9_new row1 (hN1.alloc (.cells #[.int .i64 (numAt (zs.drop x.t) 3 2), .int .i64 (zs[x.t + 5]?.getD 0), .int .i64 (zs[x.t + 6]?.getD 0), .slice a1 (eSz (zs.drop x.t) - 8) c1] 40))
          refine wp_apV _ (.tmp 17) (.tmp 20) rfl (w.heap.size + 2) 4 48 (.agg #[.int .i64 0, .int .i64 0, .int .i64 0, .slice none 0 0]) Try.underlying31 hi hzi0 hzi1 hzi2 rfl (by omega) (by omega) (.slice y V.length dd) V.length _ rfl row2 u1.heap.size [.int .i64 (numAt (zs.drop x.t) 3 2), .int .i64 (zs[x.t + 5]?.getD 0), .int .i64 (zs[x.t + 6]?.getD 0), .slice a1 (eSz (zs.drop x.t) - 8) c1] rfl (by simp [Value.oneCell']) rfl (by intro j u hu; rw [cL j, List.getElem?_toArray]; exact hu) (by omega) (by have := (hN1.alloc (.cells #[.int .i64 (numAt (zs.drop x.t) 3 2), .int .i64 (zs[x.t + 5]?.getD 0), .int .i64 (zs[x.t + 6]?.getD 0), .slice a1 (eSz (zs.drop x.t) - 8) c1] 40)).size; have := t01.size; omega) ?_
          intro v3 w3 hrow3 hgr3 hat3
          obtain ⟨y3, d3, rfl, hny3, hby3⟩ := row9_form hrow3
          have tt := turn_of_grown hgr3
          have hG3 := (hG1.new (hN1.alloc _)).turn tt nS1
          refine hK.out _ _ ((bX1.new (hN1.alloc _)).turn tt nSX) (fun hH => ?_)
          simp only [Act.put, List.setIfInBounds_toArray, List.set_cons_zero, List.set_cons_succ]
          refine' hw_take 6 (some 22) _ rfl rfl (by kernel_rfl) (by kernel_rfl) (by kernel_rfl) (fun _ _ _ h => h) (by rfl) hH ?hy5 ?rest5
          case hy5 =>
            intro X hX
            go_simp
            try rfl
          simp only [Act.put, List.setIfInBounds_toArray, List.set_cons_zero, List.set_cons_succ]
          refine hw_call 7 none rfl rfl (by kernel_rfl) (by rfl) (fun K hK => ?_)
          have cG3 := hG3.cells
          have fG3 := hG3.frees
          go_simp
          have ts : Turn (fun i => i = w.heap.size + 1) w3 (w3.setCell ⟨w.heap.size + 1, 2, none⟩ (.slice y3 (V.length + 1) d3)) := Turn.set (S := fun i => i = w.heap.size + 1) (Turn.refl _ _) rfl _
          refine hK.out undef _ (((bX1.new (hN1.alloc _)).turn tt nSX).turn ts (by omega)) (fun hH => ?_)
          refine wpAnyH_done (by kernel_rfl) ?_ _
          have nA := hN1.alloc (.cells #[.int .i64 (numAt (zs.drop x.t) 3 2), .int .i64 (zs[x.t + 5]?.getD 0), .int .i64 (zs[x.t + 6]?.getD 0), .slice a1 (eSz (zs.drop x.t) - 8) c1] 40)
          have tAll : Turn (fun i => i = w.heap.size + 1 ∨ (Value.slice y V.length dd).ownBlock = some i) W (w3.setCell ⟨w.heap.size + 1, 2, none⟩ (.slice y3 (V.length + 1) d3)) := Turn.trans (Turn.trans (Turn.trans (S := fun i => i = w.heap.size + 1 ∨ (Value.slice y V.length dd).ownBlock = some i) (t01.mono (fun _ _ h => .inl h)) (New.turn (S := fun _ => False) nA) (fun _ _ h => h.elim)) tt (fun _ _ h => .inr h)) ts (fun _ _ h => .inl h)
          have nBox : ¬ (Value.slice y V.length dd).ownBlock = some (w.heap.size + 2) := by
            intro e
            obtain ⟨cs, hcs⟩ := row_cells hrow e
            have := hbox.symm.trans hcs
            simp at this
          have hBel : Below w.heap.size W (w3.setCell ⟨w.heap.size + 1, 2, none⟩ (.slice y3 (V.length + 1) d3)) := ⟨tAll.os, tAll.tape, tAll.output, tAll.size, fun k hk => tAll.block k (by omega) (by rintro (e | e); omega; (have := (hby k e).1; omega))⟩
          have aG := nA.size
          refine ⟨⟨tAll.size, fun k o hB hk ho => ?_⟩, ⟨hBel, tAll.block _ (by omega) (by rintro (e | e); omega; exact nBox e)⟩, ?_⟩
          · refine (tAll.block k (Array.getElem?_eq_some_iff.1 hk).1 ?_).trans hk
            rintro (e | e)
            · omega
            · obtain ⟨cs, hcs⟩ := row_cells hrow e
              rw [hcs] at hk
              obtain rfl := Option.some.inj hk
              simp [Obj.isCells] at ho
          · refine ⟨hbox.turn tAll (by rintro (e | e); omega; exact nBox e), ⟨.slice y3 (V.length + 1) d3, V ++ [⟨x.t, a1, c1⟩], ?_, ?_, ?_, ?_⟩, hres.turn tAll (by rintro (e | e); omega; (have := (hby _ e).1; omega)), hbel.trans hBel⟩
            · rw [eEnd_snoc]
              exact hG3.set 2 _
            · rw [List.map_append, List.map_append, hV]; rfl
            · rw [List.flatMap_append, List.flatMap_cons, List.flatMap_nil, List.append_nil, List.length_append]
              exact row9_turn hrow3 ts (by intro k hk e; have := (hby3 k hk).1; omega)
            · have hnr : u1.ownsRow (w.heap.size + 2) 5 1 (.slice a1 (eSz (zs.drop x.t) - 8) c1) (eSz (zs.drop x.t) - 8) ((((zs.drop x.t).drop 8).take (eSz (zs.drop x.t) - 8)).map (Value.int .u8)) := by
                have := ho1
                unfold OvB at this
                rw [lby] at this
                exact row9_low this (by show w.heap.size + 2 ≤ W1.heap.size; omega)
              have hlo : ∀ k, (Value.slice a1 (eSz (zs.drop x.t) - 8) c1).ownBlock = some k → W1.heap.size ≤ k := fun k hk => ho1.blk k hk
              have hn2 := row9_new hnr ((New.refl u1).alloc (.cells #[.int .i64 (numAt (zs.drop x.t) 3 2), .int .i64 (zs[x.t + 5]?.getD 0), .int .i64 (zs[x.t + 6]?.getD 0), .slice a1 (eSz (zs.drop x.t) - 8) c1] 40))
              have hn3 := row9_turn (row9_turn hn2 tt (fun k hk e => row_ne_row row2 hn2 (by decide) k e hk)) ts (by intro k hk e; have := hlo k hk; omega)
              refine (hown.turn tAll (by rintro z hz k hk (e | e); (obtain ⟨_, _, _, _, hb⟩ := row9_form (hown.own z hz); have := (hb k hk).1; omega); exact row_ne_row hrow (hown.own z hz) (by decide) k e hk)).snoc ⟨x.t, a1, c1⟩ hn3 ?_
              intro z hz k hk hk'
              obtain ⟨_, _, _, _, hb⟩ := row9_form (hown.own z hz)
              have := (hb k hk).2
              have := hlo k hk'
              omega
        case c4 =>
          go_simp
          refine hK.out _ _ (bX1.new (hN1.alloc _)) (fun hH => ?_)
          simp only [Act.put, List.setIfInBounds_toArray, List.set_cons_zero, List.set_cons_succ]
          refine hw_call 1 (some 17) rfl rfl (by kernel_rfl) (by rfl) (fun K hK => ?_)
          have cG1 := (hG1.new (hN1.alloc (.cells #[.int .i64 (numAt (zs.drop x.t) 3 2), .int .i64 (zs[x.t + 5]?.getD 0), .int .i64 (zs[x.t + 6]?.getD 0), .slice a1 (eSz (zs.drop x.t) - 8) c1] 40))).cells
          go_simp
          refine hK.out _ _ (bX1.new (hN1.alloc (.cells #[.int .i64 (numAt (zs.drop x.t) 3 2), .int .i64 (zs[x.t + 5]?.getD 0), .int .i64 (zs[x.t + 6]?.getD 0), .slice a1 (eSz (zs.drop x.t) - 8) c1] 40))) (fun hH => ?_)
          clear cG1
          simp only [Act.put, List.setIfInBounds_toArray, List.set_cons_zero, List.set_cons_succ]
          refine hw_call 5 (some 21) rfl rfl (by kernel_rfl) (by rfl) (fun K hK => ?_)
          have bL := Blk.mk u1 u1.heap.size 40 #[.int .i64 (numAt (zs.drop x.t) 3 2), .int .i64 (zs[x.t + 5]?.getD 0), .int .i64 (zs[x.t + 6]?.getD 0), .slice a1 (eSz (zs.drop x.t) - 8) c1] rfl
          have cL := bL.cells
          have row2 := row9_new row1 (hN1.alloc (.cells #[.int .i64 (numAt (zs.drop x.t) 3 2), .int .i64 (zs[x.t + 5]?.getD 0), .int .i64 (zs[x.t + 6]?.getD 0), .slice a1 (eSz (zs.drop x.t) - 8) c1] 40))
          refine wp_apV _ (.tmp 17) (.tmp 20) rfl (w.heap.size + 2) 4 48 (.agg #[.int .i64 0, .int .i64 0, .int .i64 0, .slice none 0 0]) Try.underlying31 hi hzi0 hzi1 hzi2 rfl (by omega) (by omega) (.slice y V.length dd) V.length _ rfl row2 u1.heap.size [.int .i64 (numAt (zs.drop x.t) 3 2), .int .i64 (zs[x.t + 5]?.getD 0), .int .i64 (zs[x.t + 6]?.getD 0), .slice a1 (eSz (zs.drop x.t) - 8) c1] rfl (by simp [Value.oneCell']) rfl (by intro j u hu; rw [cL j, List.getElem?_toArray]; exact hu) (by omega) (by have := (hN1.alloc (.cells #[.int .i64 (numAt (zs.drop x.t) 3 2), .int .i64 (zs[x.t + 5]?.getD 0), .int .i64 (zs[x.t + 6]?.getD 0), .slice a1 (eSz (zs.drop x.t) - 8) c1] 40)).size; have := t01.size; omega) ?_
          intro v3 w3 hrow3 hgr3 hat3
          obtain ⟨y3, d3, rfl, hny3, hby3⟩ := row9_form hrow3
          have tt := turn_of_grown hgr3
          have hG3 := (hG1.new (hN1.alloc _)).turn tt nS1
          refine hK.out _ _ ((bX1.new (hN1.alloc _)).turn tt nSX) (fun hH => ?_)
          simp only [Act.put, List.setIfInBounds_toArray, List.set_cons_zero, List.set_cons_succ]
          refine' hw_take 6 (some 22) _ rfl rfl (by kernel_rfl) (by kernel_rfl) (by kernel_rfl) (fun _ _ _ h => h) (by rfl) hH ?hy6 ?rest6
          case hy6 =>
            intro X hX
            go_simp
            try rfl
          simp only [Act.put, List.setIfInBounds_toArray, List.set_cons_zero, List.set_cons_succ]
          refine hw_call 7 none rfl rfl (by kernel_rfl) (by rfl) (fun K hK => ?_)
          have cG3 := hG3.cells
          have fG3 := hG3.frees
          go_simp
          have ts : Turn (fun i => i = w.heap.size + 1) w3 (w3.setCell ⟨w.heap.size + 1, 2, none⟩ (.slice y3 (V.length + 1) d3)) := Turn.set (S := fun i => i = w.heap.size + 1) (Turn.refl _ _) rfl _
          refine hK.out undef _ (((bX1.new (hN1.alloc _)).turn tt nSX).turn ts (by omega)) (fun hH => ?_)
          refine wpAnyH_done (by kernel_rfl) ?_ _
          have nA := hN1.alloc (.cells #[.int .i64 (numAt (zs.drop x.t) 3 2), .int .i64 (zs[x.t + 5]?.getD 0), .int .i64 (zs[x.t + 6]?.getD 0), .slice a1 (eSz (zs.drop x.t) - 8) c1] 40)
          have tAll : Turn (fun i => i = w.heap.size + 1 ∨ (Value.slice y V.length dd).ownBlock = some i) W (w3.setCell ⟨w.heap.size + 1, 2, none⟩ (.slice y3 (V.length + 1) d3)) := Turn.trans (Turn.trans (Turn.trans (S := fun i => i = w.heap.size + 1 ∨ (Value.slice y V.length dd).ownBlock = some i) (t01.mono (fun _ _ h => .inl h)) (New.turn (S := fun _ => False) nA) (fun _ _ h => h.elim)) tt (fun _ _ h => .inr h)) ts (fun _ _ h => .inl h)
          have nBox : ¬ (Value.slice y V.length dd).ownBlock = some (w.heap.size + 2) := by
            intro e
            obtain ⟨cs, hcs⟩ := row_cells hrow e
            have := hbox.symm.trans hcs
            simp at this
          have hBel : Below w.heap.size W (w3.setCell ⟨w.heap.size + 1, 2, none⟩ (.slice y3 (V.length + 1) d3)) := ⟨tAll.os, tAll.tape, tAll.output, tAll.size, fun k hk => tAll.block k (by omega) (by rintro (e | e); omega; (have := (hby k e).1; omega))⟩
          have aG := nA.size
          refine ⟨⟨tAll.size, fun k o hB hk ho => ?_⟩, ⟨hBel, tAll.block _ (by omega) (by rintro (e | e); omega; exact nBox e)⟩, ?_⟩
          · refine (tAll.block k (Array.getElem?_eq_some_iff.1 hk).1 ?_).trans hk
            rintro (e | e)
            · omega
            · obtain ⟨cs, hcs⟩ := row_cells hrow e
              rw [hcs] at hk
              obtain rfl := Option.some.inj hk
              simp [Obj.isCells] at ho
          · refine ⟨hbox.turn tAll (by rintro (e | e); omega; exact nBox e), ⟨.slice y3 (V.length + 1) d3, V ++ [⟨x.t, a1, c1⟩], ?_, ?_, ?_, ?_⟩, hres.turn tAll (by rintro (e | e); omega; (have := (hby _ e).1; omega)), hbel.trans hBel⟩
            · rw [eEnd_snoc]
              exact hG3.set 2 _
            · rw [List.map_append, List.map_append, hV]; rfl
            · rw [List.flatMap_append, List.flatMap_cons, List.flatMap_nil, List.append_nil, List.length_append]
              exact row9_turn hrow3 ts (by intro k hk e; have := (hby3 k hk).1; omega)
            · have hnr : u1.ownsRow (w.heap.size + 2) 5 1 (.slice a1 (eSz (zs.drop x.t) - 8) c1) (eSz (zs.drop x.t) - 8) ((((zs.drop x.t).drop 8).take (eSz (zs.drop x.t) - 8)).map (Value.int .u8)) := by
                have := ho1
                unfold OvB at this
                rw [lby] at this
                exact row9_low this (by show w.heap.size + 2 ≤ W1.heap.size; omega)
              have hlo : ∀ k, (Value.slice a1 (eSz (zs.drop x.t) - 8) c1).ownBlock = some k → W1.heap.size ≤ k := fun k hk => ho1.blk k hk
              have hn2 := row9_new hnr ((New.refl u1).alloc (.cells #[.int .i64 (numAt (zs.drop x.t) 3 2), .int .i64 (zs[x.t + 5]?.getD 0), .int .i64 (zs[x.t + 6]?.getD 0), .slice a1 (eSz (zs.drop x.t) - 8) c1] 40))
              have hn3 := row9_turn (row9_turn hn2 tt (fun k hk e => row_ne_row row2 hn2 (by decide) k e hk)) ts (by intro k hk e; have := hlo k hk; omega)
              refine (hown.turn tAll (by rintro z hz k hk (e | e); (obtain ⟨_, _, _, _, hb⟩ := row9_form (hown.own z hz); have := (hb k hk).1; omega); exact row_ne_row hrow (hown.own z hz) (by decide) k e hk)).snoc ⟨x.t, a1, c1⟩ hn3 ?_
              intro z hz k hk hk'
              obtain ⟨_, _, _, _, hb⟩ := row9_form (hown.own z hz)
              have := (hb k hk).2
              have := hlo k hk'
              omega
    case done =>
      rintro D ts W hD ⟨t, hcm, h0⟩ hI hK
      obtain ⟨hbox, ⟨v, V, hG, hV, hrow, hown⟩, hres, hbel⟩ := hI
      obtain ⟨y, dd, rfl, hny, hby⟩ := row9_form hrow
      rw [come_end hcm] at hG
      have hall := hcm.all h0
      have cG := hG.cells
      have cR := hres.cells
      have fR := hres.frees
      have lD : D < W.heap.size := (Array.getElem?_eq_some_iff.1 hK).1
      have lb := hbox.lt
      gi_wp2
      have t3 : Turn (fun i => i = w.heap.size) W (((W.setCell ⟨w.heap.size, 0, none⟩ (.int .i64 0)).setCell ⟨w.heap.size, 1, none⟩ (.int .i64 (t : Int))).setCell ⟨w.heap.size, 2, none⟩ (.slice y V.length dd)) := Turn.set (S := fun i => i = w.heap.size) (Turn.set (S := fun i => i = w.heap.size) (Turn.set (S := fun i => i = w.heap.size) (Turn.refl _ _) rfl _) rfl _) rfl _
      have hK3 := (t3.block D lD (by omega)).trans hK
      have b1 : Blk (W.setCell ⟨w.heap.size, 0, none⟩ (.int .i64 0)) w.heap.size 33 #[.int .i64 0, .int .i64 0, .slice none 0 0] := hres.set 0 _
      have b2 : Blk _ w.heap.size 33 #[.int .i64 0, .int .i64 (t : Int), .slice none 0 0] := b1.set 1 (.int .i64 (t : Int))
      have b3 : Blk _ w.heap.size 33 #[.int .i64 0, .int .i64 (t : Int), .slice y V.length dd] := b2.set 2 (.slice y V.length dd)
      generalize ((W.setCell ⟨w.heap.size, 0, none⟩ (.int .i64 0)).setCell ⟨w.heap.size, 1, none⟩ (.int .i64 (t : Int))).setCell ⟨w.heap.size, 2, none⟩ (.slice y V.length dd) = W3 at *
      have tp := turn_of_grown (grownBy_putObj' W3 D (.deferred none))
      have b4 := b3.turn tp (by intro e; have := Option.some.inj e; omega)
      have cF := b4.cells
      have tF : Turn (fun i => i = w.heap.size ∨ i = D) W (W3.putObj D (.deferred none)) := Turn.trans (t3.mono (fun _ _ h => .inl h)) tp (fun _ _ h => .inr (Option.some.inj h).symm)
      refine ⟨by simp, .inl ⟨_, _, rfl, run_takeDeferred hK3, ?_⟩⟩
      refine ⟨.agg #[.int .i64 0, .int .i64 (t : Int), .slice y V.length dd], by simp [results, Try.results11, go_sem, cF], ?_⟩
      show ReAns w zs _ _
      unfold ReAns
      rw [hn, if_neg HB.out, hall.2]
      have hnD : ∀ k cs e f, W.heap[k]? = some (.cells cs e f) → ¬ k = D := by
        rintro k cs e f hk rfl
        rw [hK] at hk
        cases hk
      refine ⟨y, V.length, dd, V, rfl, rfl, ⟨?_, ?_, ?_, ?_⟩, hV.trans hall.1⟩
      · rw [hV]; exact hcm
      · exact row9_low (row9_turn hrow tF (by rintro k hk (e | e); (have := (hby k hk).1; omega); (obtain ⟨cs, hc'⟩ := row_cells hrow hk; exact hnD _ _ _ _ hc' e))) (by omega)
      · exact (hown.turn tF (by rintro z hz k hk (e | e); (obtain ⟨_, _, _, _, hb'⟩ := row9_form (hown.own z hz); have := (hb' k hk).1; omega); (obtain ⟨cs, hc'⟩ := row_cells (hown.own z hz) hk; exact hnD _ _ _ _ hc' e))).low (by omega)
      · exact New.of_below (hbel.trans ⟨tF.os, tF.tape, tF.output, tF.size, fun k hk => tF.block k (by have := hbel.size; omega) (by rintro (e | e) <;> omega)⟩) (Nat.le_refl _)
    case stop =>
      rintro D c pre W _ _ h _
      exact h.elim

end Go.Proofs.Ytdkjgjjkjfeodaa

namespace Go.Proofs.Ytdkjgjjkjfeodaa
open Go.RowKit
set_option linter.unusedVariables false
set_option linter.unusedSimpArgs false

/-- An answer with entries: two numbers and a list of the call's own. -/
def ErAns (w : World) (Z US : Int) (D : List En) (e : Ending) (w' : World) : Prop :=
  ∃ (y : Option Addr) (d : Nat) (U : List EnV), e = .returned (.agg #[.int .i64 Z, .int .i64 US, .slice y U.length d]) ∧ U.map EnV.r = D ∧ EnAt w' y U ∧ ((y = none ∧ U = []) ∨ ∃ g, y = some ⟨g, 0, none⟩ ∧ OwE w' w.heap.size w'.heap.size g U.length d U) ∧ New w w'

/-- The entry at a place. -/
def enD (zs : List Int) (t : Nat) : En := ⟨numAt (zs.drop t) 3 2, zs[t + 5]?.getD 0, zs[t + 6]?.getD 0, ((zs.drop t).drop 8).take (eSz (zs.drop t) - 8)⟩
def evU (zs : List Int) (x : EvM) : EnV := ⟨enD zs x.t, x.a, x.cap⟩
def reZ (zs : List Int) : Int := if 6000 < zs.length then 2 else 0
def reU (zs : List Int) : Int := if 6000 < zs.length then 0 else (eUse zs 0 : Int)
def reD (zs : List Int) : List En := if 6000 < zs.length then [] else (eAts zs 0).map (enD zs)

theorem owat_row {w : World} {lo n c : Nat} {a : Option Addr} {xs : List Int} (h : w.ownsRow lo 5 1 (.slice a n c) n (xs.map (Value.int .u8))) : OwAt w a n c xs ∧ (∀ x, a = some x → lo ≤ x.block ∧ x.block < w.heap.size ∧ (Value.slice a n c).ownBlock = some x.block) := by
  rcases h.2 with ⟨h1, h2⟩ | ⟨g, cap, cur, h1, h2, h3, r⟩
  · obtain ⟨rfl, rfl, rfl⟩ : a = none ∧ n = 0 ∧ c = 0 := by simpa using h1
    exact ⟨⟨by simpa using h.1, fun h => by omega⟩, fun x hx => by cases hx⟩
  · obtain ⟨rfl, rfl⟩ : a = some ⟨g, 0, none⟩ ∧ c = cap := by simp at h1; exact ⟨h1.1, h1.2⟩
    refine ⟨OwAt.of_own h, fun x hx => ?_⟩
    cases hx
    exact ⟨h2, (Array.getElem?_eq_some_iff.1 h3).1, rfl⟩

theorem cellsE_ev (zs : List Int) : ∀ V : List EvM, (∀ x ∈ V, (x.by zs).length = eSz (zs.drop x.t) - 8) → cellsE (V.map (evU zs)) = V.flatMap (EvM.cs zs)
  | [], _ => rfl
  | x :: V, h => by
    have ih := cellsE_ev zs V (fun y hy => h y (by simp [hy]))
    have h1 := h x (by simp)
    unfold cellsE at ih ⊢
    rw [List.map_cons, List.flatMap_cons, List.flatMap_cons, ih]
    congr 1
    unfold EvM.by at h1
    simp only [EnV.cs, evU, enD, EvM.cs, EvM.pv, h1]

theorem ReAns.er {w w' : World} {zs : List Int} {e : Ending} (hz : ∀ z ∈ zs, 0 ≤ z ∧ z ≤ 255) (h : ReAns w zs e w') : ErAns w (reZ zs) (reU zs) (reD zs) e w' := by
  unfold ReAns at h
  unfold ErAns reZ reU reD
  by_cases hb : 6000 < zs.length
  · rw [if_pos hb] at h
    rw [if_pos hb, if_pos hb, if_pos hb]
    obtain ⟨rfl, hn⟩ := h
    exact ⟨none, 0, [], rfl, rfl, by intro i u hu; simp at hu, .inl ⟨rfl, rfl⟩, hn⟩
  · rw [if_neg hb] at h
    rw [if_neg hb, if_neg hb, if_neg hb]
    obtain ⟨y, k, d, V, rfl, rfl, hR, hV⟩ := h
    have hby : ∀ x ∈ V, (x.by zs).length = eSz (zs.drop x.t) - 8 := fun x hx => by simpa using (hR.own.own x hx).1
    have hzb : ∀ x ∈ V, ∀ z ∈ x.by zs, 0 ≤ z ∧ z ≤ 255 := fun x hx z hz' => hz z (List.mem_of_mem_drop (List.mem_of_mem_drop (List.mem_of_mem_take hz')))
    have hlb : ∀ x ∈ V, (x.by zs).length ≤ 6000 := fun x hx => by
      have h1 := hby x hx
      have h2 := eSz_le (zs.drop x.t)
      rw [List.length_drop] at h2
      omega
    have hce := cellsE_ev zs V hby
    have hrow : w'.ownsRow w.heap.size 40 4 (.slice y V.length d) V.length (cellsE (V.map (evU zs))) := by rw [hce]; exact hR.row
    have hget : ∀ (i : Nat) (u : EnV), (V.map (evU zs))[i]? = some u → ∃ x, V[i]? = some x ∧ x ∈ V ∧ u = evU zs x := by
      intro i u hu
      rw [List.getElem?_map] at hu
      obtain ⟨x, hx, rfl⟩ := Option.map_eq_some_iff.1 hu
      exact ⟨x, hx, List.mem_of_getElem? hx, rfl⟩
    have hown : ∀ x ∈ V, w'.ownsRow w.heap.size 5 1 (.slice x.a (x.by zs).length x.cap) (x.by zs).length ((x.by zs).map (Value.int .u8)) := fun x hx => by
      have := hR.own.own x hx
      unfold EvM.pv at this
      rw [← hby x hx] at this
      exact this
    have hbs : ∀ x ∈ V, BsAt w' x.a (x.by zs) := fun x hx => (owat_row (hown x hx)).1.bs (hzb x hx)
    refine ⟨y, d, V.map (evU zs), by rw [List.length_map], ?_, ?_, ?_, hR.new⟩
    · rw [List.map_map, ← hV, List.map_map]
      rfl
    · intro i u hu
      obtain ⟨x, hx, hxm, rfl⟩ := hget i u hu
      refine ⟨?_, hbs x hxm, hlb x hxm⟩
      rcases hrow.2 with ⟨h1, h2⟩ | ⟨g, cap, cur, h1, h2, h3, r⟩
      · have : V.length = 0 := h2
        have := (List.getElem?_eq_some_iff.1 hx).1
        omega
      · obtain ⟨rfl, rfl⟩ : y = some ⟨g, 0, none⟩ ∧ d = cap := by simp at h1; exact ⟨h1.1, h1.2⟩
        refine ⟨g, rfl, fun j hj => ?_⟩
        rw [World.ownsRow.cellAt hrow (i * 4 + j) (by have := (List.getElem?_eq_some_iff.1 hx).1; omega)]
        exact cellsE_get _ i _ hu j hj
    · rcases hrow.2 with ⟨h1, h2⟩ | ⟨g, cap, cur, h1, h2, h3, r⟩
      · have h0 : V.length = 0 := h2
        obtain rfl : V = [] := List.eq_nil_of_length_eq_zero h0
        obtain ⟨rfl, -⟩ : y = none ∧ d = 0 := by simp at h1; exact ⟨h1.1, h1.2⟩
        exact .inl ⟨rfl, rfl⟩
      · obtain ⟨rfl, rfl⟩ : y = some ⟨g, 0, none⟩ ∧ d = cap := by simp at h1; exact ⟨h1.1, h1.2⟩
        refine .inr ⟨g, rfl, ⟨?_, ?_, ?_, ?_, ⟨h2, (Array.getElem?_eq_some_iff.1 h3).1⟩, ?_⟩⟩
        · rw [List.length_map]
          exact own_base hrow
        · intro i u hu
          obtain ⟨x, hx, hxm, rfl⟩ := hget i u hu
          exact (owat_row (hown x hxm)).1
        · intro u hu
          obtain ⟨x, hx, rfl⟩ := List.mem_map.1 hu
          exact hlb x hx
        · intro u hu ad had
          obtain ⟨x, hx, rfl⟩ := List.mem_map.1 hu
          obtain ⟨k1, k2, k3⟩ := (owat_row (hown x hx)).2 ad had
          refine ⟨k1, k2, fun e => ?_⟩
          exact row_ne_row hrow (hown x hx) (by decide) g rfl (by rw [k3, e])
        · intro i j u v ad ad' hu hv hij had had' e
          obtain ⟨x, hx, hxm, rfl⟩ := hget i u hu
          obtain ⟨x', hx', hxm', rfl⟩ := hget j v hv
          have k3 := ((owat_row (hown x hxm)).2 ad had).2.2
          have k3' := ((owat_row (hown x' hxm')).2 ad' had').2.2
          refine hR.own.apart i j x x' ad.block hx hx' hij ?_ ?_
          · unfold EvM.pv; rw [← hby x hxm]; exact k3
          · unfold EvM.pv; rw [← hby x' hxm', e]; exact k3'

theorem reD_len (zs : List Int) {w w' : World} {Z US : Int} {e : Ending} (h : ReAns w zs e w') : (reD zs).length ≤ 10000 := by
  unfold reD
  unfold ReAns at h
  by_cases hb : 6000 < zs.length
  · rw [if_pos hb]; simp
  · rw [if_neg hb] at h ⊢
    obtain ⟨y, k, d, V, -, -, hR, hV⟩ := h
    have h1 := hR.come.len
    have h2 := hR.come.le
    rw [List.length_map, ← hV]
    omega

theorem implER (g n : Nat) (zs : List Int) (w : World) (h : BsAt w (some ⟨g, 0, none⟩) zs) (hb : g < w.heap.size) (hn : zs.length = n) (hm : n ≤ 1048576) :
    Calls Try.prog 11 #[.slice (some ⟨g, 0, none⟩) n n] w fun e w' => ErAns w (reZ zs) (reU zs) (reD zs) e w' ∧ (reD zs).length ≤ 10000 :=
  (implRE g 0 n n zs w h hb hn (Nat.le_refl _) hm).mono fun e w' hh => ⟨hh.er h.lt, reD_len (Z := 0) (US := 0) zs hh⟩
theorem specER (g n : Nat) (zs : List Int) (w : World) (h : BsAt w (some ⟨g, 0, none⟩) zs) (hn : zs.length = n) (hm : n ≤ 1048576) :
    Calls Try.prog 22 #[.slice (some ⟨g, 0, none⟩) n n] w fun e w' => ErAns w (reZ zs) (reU zs) (reD zs) e w' ∧ (reD zs).length ≤ 10000 :=
  (specRE g 0 n n zs w h hn (Nat.le_refl _) hm).mono fun e w' hh => ⟨hh.er h.lt, reD_len (Z := 0) (US := 0) zs hh⟩

theorem owE_turn {w w' : World} {y : Option Addr} {lo hi n d : Nat} {U : List EnV} {S : Nat → Prop} (h : (y = none ∧ U = []) ∨ ∃ g, y = some ⟨g, 0, none⟩ ∧ OwE w lo hi g n d U) (t : Turn S w w') (hS : ∀ i, lo ≤ i → i < hi → ¬ S i) : (y = none ∧ U = []) ∨ ∃ g, y = some ⟨g, 0, none⟩ ∧ OwE w' lo hi g n d U := by
  rcases h with h | ⟨g, hg, h⟩
  · exact .inl h
  · refine .inr ⟨g, hg, ⟨row_turn4 h.row t (hS g h.glo.1 h.glo.2), fun i u hu => (h.own i u hu).turn t (fun x hx => ?_), h.len, h.inn, h.glo, h.apart⟩⟩
    have := h.inn u (List.mem_of_getElem? hu) x hx
    exact hS _ this.1 this.2.1
theorem owE_out {w : World} {y : Option Addr} {lo hi n d : Nat} {U : List EnV} (h : (y = none ∧ U = []) ∨ ∃ g, y = some ⟨g, 0, none⟩ ∧ OwE w lo hi g n d U) : (∀ x, y = some x → lo ≤ x.block ∧ x.block < hi) ∧ (∀ u ∈ U, ∀ x, u.a = some x → lo ≤ x.block ∧ x.block < hi) := by
  rcases h with ⟨rfl, rfl⟩ | ⟨g, rfl, h⟩
  · exact ⟨fun x hx => (by cases hx), fun u hu => (by cases hu)⟩
  · refine ⟨fun x hx => ?_, fun u hu x hx => ?_⟩
    · cases hx; exact h.glo
    · have := h.inn u hu x hx
      exact ⟨this.1, this.2.1⟩

theorem markER_any (Z US : Int) (y : Option Addr) (d lo hi : Nat) (U : List EnV) (w : World) (h : (y = none ∧ U = []) ∨ ∃ g, y = some ⟨g, 0, none⟩ ∧ OwE w lo hi g U.length d U) (hl : U.length ≤ 10000) (hhi : hi ≤ w.heap.size) :
    Calls Try.prog 27 #[.agg #[.int .i64 Z, .int .i64 US, .slice y U.length d], .int .i64 1] w fun e w' => e = .returned (.int .i64 (endE 1 U)) ∧ EnAt w' y (markE 1 U) ∧ Turn (fun x => lo ≤ x ∧ x < hi) w w' := by
  have hw := (New.refl w).alloc (.cells #[.int .i64 Z, .int .i64 US, .slice y U.length d] 33)
  rcases h with ⟨rfl, rfl⟩ | ⟨g, rfl, h⟩
  · go_enter Try.func27, Try.ntmps27
    go_wp2_with fail
    have hnil : Calls Try.prog 53 #[.slice none 0 d, .int .i64 1] (w.alloc (.cells #[.int .i64 Z, .int .i64 US, .slice none 0 d] 33)) fun e w' => e = .returned (.int .i64 1) ∧ w' = w.alloc (.cells #[.int .i64 Z, .int .i64 US, .slice none 0 d] 33) := by
      go_enter Try.func53, Try.ntmps53
      go_wp2
      refine wp_loop_rounds 1 ?_
      rw [rounds_succ]
      go_wp2
      go_ret
      exact ⟨rfl, rfl⟩
    refine hnil.mono ?_
    rintro e w1 ⟨rfl, rfl⟩
    go_wp2
    go_ret
    exact ⟨rfl, by intro i u hu; simp [markE] at hu, hw.turn⟩
  · have h1 : OwE (w.alloc (.cells #[.int .i64 Z, .int .i64 US, .slice (some ⟨g, 0, none⟩) U.length d] 33)) lo hi g U.length d U := ⟨row_turn4 h.row hw (fun f => f), fun i u hu => (h.own i u hu).new hw, h.len, h.inn, h.glo, h.apart⟩
    go_enter Try.func27, Try.ntmps27
    go_wp2_with fail
    refine (markEnS_row g U.length d lo hi 1 U _ h1 rfl hl (by omega) (by omega)).mono ?_
    rintro e w1 ⟨rfl, h2, ht⟩
    go_wp2
    go_ret
    exact ⟨rfl, h2, Turn.trans hw.turn ht (fun i _ e => e)⟩

theorem heldER_any (Z US : Int) (y : Option Addr) (d : Nat) (U : List EnV) (w : World) (h : EnAt w y (markE 1 U)) (hx : ∀ u ∈ U, u.r.xs.length ≤ 6000) (hl : U.length ≤ 10000) :
    Calls Try.prog 28 #[.agg #[.int .i64 Z, .int .i64 US, .slice y U.length d], .int .i64 1] w fun e w' => e = .returned (.int .i64 (endE 1 U)) ∧ New w w' := by
  have hw := (New.refl w).alloc (.cells #[.int .i64 Z, .int .i64 US, .slice y U.length d] 33)
  have he := (endE_bd U 1 hx).1
  go_enter Try.func28, Try.ntmps28
  go_wp2_with fail
  refine (heldEnS_any y U.length d 1 U _ (h.new hw) rfl hx hl (by omega) (by omega)).mono ?_
  rintro e w1 ⟨rfl, rfl⟩
  go_wp2
  go_ret
  exact ⟨rfl, hw⟩

end Go.Proofs.Ytdkjgjjkjfeodaa

namespace Go.Proofs.Ytdkjgjjkjfeodaa
set_option linter.unusedVariables false

theorem numAt_take {zs : List Int} {t m k : Nat} (h : t + m ≤ k) : numAt (zs.take k) t m = numAt zs t m := by
  unfold numAt
  rw [List.drop_take, List.take_take, Nat.min_eq_left (by omega)]

/-- An entry of m bytes is at the beginning. -/
def EnOk (zs : List Int) (m : Nat) : Prop := 8 ≤ m ∧ m ≤ zs.length ∧ 3 + (zs[0]?.getD 0).toNat = m ∧ enF (numAt zs 3 2) (zs[5]?.getD 0) (zs[6]?.getD 0) (m - 8) = 0 ∧
  enP (numAt zs 3 2) (zs[5]?.getD 0) (zs[6]?.getD 0) ((zs.drop 8).take (m - 8)) = zs.take m
theorem eSz_ok {zs : List Int} {m : Nat} (h0 : 0 < m) : eSz zs = m ↔ EnOk zs m := by
  constructor
  · intro h
    unfold eSz at h
    split at h
    · rename_i hc
      obtain ⟨h1, h2, h3, h4⟩ := hc
      rw [h] at h1 h2 h3 h4
      exact ⟨h1, h2, h, h3, h4⟩
    · omega
  · rintro ⟨h1, h2, h3, h4, h5⟩
    unfold eSz
    rw [h3, if_pos ⟨h1, h2, h4, h5⟩]
theorem EnOk.take {zs : List Int} {m : Nat} (hm : m ≤ zs.length) : EnOk zs m ↔ EnOk (zs.take m) m := by
  unfold EnOk
  by_cases h8 : 8 ≤ m
  · have g : ∀ i, i < 8 → (zs.take m)[i]? = zs[i]? := fun i hi => by rw [List.getElem?_take, if_pos (by omega)]
    rw [g 0 (by omega), g 5 (by omega), g 6 (by omega), numAt_take (by omega), List.drop_take, List.take_take, List.take_take, Nat.min_self, Nat.min_self, List.length_take, Nat.min_eq_left hm]
    constructor
    · rintro ⟨a, b, c⟩; exact ⟨a, Nat.le_refl _, c⟩
    · rintro ⟨a, b, c⟩; exact ⟨a, hm, c⟩
  · constructor
    · rintro ⟨a, -⟩; omega
    · rintro ⟨a, -⟩; omega
theorem eSz_take {zs : List Int} {m : Nat} (h0 : 0 < m) (hm : m ≤ zs.length) : eSz zs = m ↔ eSz (zs.take m) = m := by
  rw [eSz_ok h0, eSz_ok h0]
  exact EnOk.take hm

/-- So many whole entries, and nothing else. -/
inductive Wh : List Int → Nat → Prop
  | nil : Wh [] 0
  | cons {e r : List Int} {n : Nat} (hp : 0 < eSz e) (he : eSz e = e.length) (h : Wh r n) : Wh (e ++ r) (n + 1)

theorem eSz_app {e : List Int} (r : List Int) (hp : 0 < eSz e) (he : eSz e = e.length) : eSz (e ++ r) = e.length := by
  have h : eSz ((e ++ r).take e.length) = e.length := by rw [List.take_left']; exact he; rfl
  exact (eSz_take (by omega) (by simp)).2 h
theorem Wh.app {a b : List Int} {n m : Nat} (h : Wh a n) (k : Wh b m) : Wh (a ++ b) (n + m) := by
  induction h with
  | nil => simpa using k
  | @cons e r n hp he h ih =>
    rw [List.append_assoc, Nat.add_right_comm]
    exact Wh.cons hp he ih
theorem Wh.len {a : List Int} {n : Nat} (h : Wh a n) : n * 8 ≤ a.length := by
  induction h with
  | nil => simp
  | @cons e r n hp he h ih =>
    have := eSz_ge hp
    rw [List.length_append]
    omega

theorem eTo_add (zs : List Int) (i : Nat) : ∀ j, eTo zs (i + j) = eTo zs i + eTo (zs.drop (eTo zs i)) j
  | 0 => rfl
  | j + 1 => by
    have ih := eTo_add zs i j
    show eTo zs (i + j) + eSz (zs.drop (eTo zs (i + j))) = eTo zs i + (eTo (zs.drop (eTo zs i)) j + eSz ((zs.drop (eTo zs i)).drop (eTo (zs.drop (eTo zs i)) j)))
    rw [List.drop_drop, ih]
    omega
theorem eTo_one (zs : List Int) : eTo zs 1 = eSz zs := by show 0 + eSz (zs.drop 0) = _; rw [List.drop_zero, Nat.zero_add]
theorem eTo_suc (zs : List Int) (k : Nat) : eTo zs (k + 1) = eSz zs + eTo (zs.drop (eSz zs)) k := by rw [Nat.add_comm k 1, eTo_add, eTo_one]
theorem eTo_nil : ∀ k, eTo [] k = 0
  | 0 => rfl
  | k + 1 => by rw [eTo_suc, eSz_nil, List.drop_nil, eTo_nil k]
theorem Wh.to {a : List Int} {n : Nat} (r : List Int) (h : Wh a n) : eTo (a ++ r) n = a.length := by
  induction h with
  | nil => rfl
  | @cons e s n hp he h ih =>
    rw [List.append_assoc, eTo_suc, eSz_app _ hp he, List.drop_left' rfl, ih, List.length_append]
theorem Wh.pos {a : List Int} {n : Nat} (r : List Int) (h : Wh a n) : ∀ i, i < n → 0 < eSz ((a ++ r).drop (eTo (a ++ r) i)) := by
  induction h with
  | nil => intro i hi; omega
  | @cons e s n hp he h ih =>
    intro i hi
    rw [List.append_assoc]
    cases i with
    | zero =>
      show 0 < eSz ((e ++ (s ++ r)).drop 0)
      rw [List.drop_zero, eSz_app _ hp he]
      omega
    | succ i =>
      have := ih i (by omega)
      rw [eTo_suc, eSz_app _ hp he, ← List.drop_drop, List.drop_left' rfl]
      exact this
theorem Wh.to' {a : List Int} {n : Nat} (h : Wh a n) : eTo a n = a.length := by have := h.to []; rwa [List.append_nil] at this
theorem Wh.pos' {a : List Int} {n : Nat} (h : Wh a n) : ∀ i, i < n → 0 < eSz (a.drop (eTo a i)) := by have := h.pos []; rwa [List.append_nil] at this

theorem come_of (zs : List Int) : ∀ n, (∀ i, i < n → 0 < eSz (zs.drop (eTo zs i))) → ∃ ts, ts.length = n ∧ Come zs ts (eTo zs n)
  | 0, _ => ⟨[], rfl, .nil⟩
  | n + 1, h => by
    obtain ⟨ts, h1, h2⟩ := come_of zs n (fun i hi => h i (by omega))
    exact ⟨ts ++ [eTo zs n], by simp [h1], .snoc h2 (h n (by omega))⟩
theorem cnt_of {zs : List Int} {n : Nat} (h : ∀ i, i < n → 0 < eSz (zs.drop (eTo zs i))) (h0 : ¬ 0 < eSz (zs.drop (eTo zs n))) : (eAts zs 0).length = n ∧ eUse zs 0 = eTo zs n := by
  obtain ⟨ts, h1, h2⟩ := come_of zs n h
  obtain ⟨h3, h4⟩ := h2.all h0
  exact ⟨by rw [← h3, h1], h4⟩
theorem Wh.cnt {a : List Int} {n : Nat} (h : Wh a n) : (eAts a 0).length = n ∧ eUse a 0 = a.length := by
  have h1 := cnt_of h.pos' (by rw [h.to', List.drop_length, eSz_nil]; omega)
  rw [h.to'] at h1
  exact h1
theorem Come.pos {zs : List Int} {pre : List Nat} {t : Nat} (h : Come zs pre t) : ∀ i, i < pre.length → 0 < eSz (zs.drop (eTo zs i)) ∧ pre[i]? = some (eTo zs i) := by
  induction h with
  | nil => intro i hi; simp at hi
  | @snoc pre t h hp ih =>
    intro i hi
    simp only [List.length_append, List.length_cons, List.length_nil] at hi
    by_cases hi' : i < pre.length
    · obtain ⟨h1, h2⟩ := ih i hi'
      exact ⟨h1, by rw [List.getElem?_append_left hi', h2]⟩
    · obtain rfl : i = pre.length := by omega
      rw [h.to]
      exact ⟨hp, by simp⟩
theorem wh_take : ∀ (k : Nat) (zs : List Int), (∀ i, i < k → 0 < eSz (zs.drop (eTo zs i))) → Wh (zs.take (eTo zs k)) k
  | 0, zs, _ => by show Wh (zs.take 0) 0; rw [List.take_zero]; exact .nil
  | k + 1, zs, h => by
    have h0 : 0 < eSz zs := by have := h 0 (by omega); rwa [show eTo zs 0 = 0 from rfl, List.drop_zero] at this
    have hl := eSz_le zs
    have ih := wh_take k (zs.drop (eSz zs)) (fun i hi => by have := h (i + 1) (by omega); rw [eTo_suc, ← List.drop_drop] at this; exact this)
    rw [eTo_suc, List.take_add]
    have hs : eSz (zs.take (eSz zs)) = eSz zs := (eSz_take h0 hl).1 rfl
    exact Wh.cons (by omega) (by rw [hs, List.length_take]; omega) ih
theorem come_zs (zs : List Int) : Come zs (eAts zs 0) (eUse zs 0) ∧ ¬ 0 < eSz (zs.drop (eUse zs 0)) := come_full zs
theorem eUse_to (zs : List Int) : eTo zs (eAts zs 0).length = eUse zs 0 := (come_zs zs).1.to
theorem ats_pos (zs : List Int) : ∀ i, i < (eAts zs 0).length → 0 < eSz (zs.drop (eTo zs i)) := fun i hi => ((come_zs zs).1.pos i hi).1
theorem wh_use (zs : List Int) : Wh (zs.take (eUse zs 0)) (eAts zs 0).length := by rw [← eUse_to]; exact wh_take _ _ (ats_pos zs)
theorem wh_whole {zs : List Int} (h : eUse zs 0 = zs.length) : Wh zs (eAts zs 0).length := by have := wh_use zs; rwa [h, List.take_length] at this
theorem Wh.over {a : List Int} {n j : Nat} (h : Wh a n) : eTo a (n + j) = a.length := by rw [eTo_add, h.to', List.drop_length, eTo_nil, Nat.add_zero]

/-- What a cut leaves. -/
theorem cut_facts {zs ys : List Int} {a b k : Nat} (hz : Wh zs a) (hy : Wh ys b) (hk : k ≤ a + b) :
    ∃ p q, Wh (zs.take (eTo zs k)) p ∧ Wh (ys.take (eTo ys (k - a))) q ∧ p + q = k ∧ zs.take (eTo zs k) ++ ys.take (eTo ys (k - a)) = (zs ++ ys).take (eTo zs k + eTo ys (k - a)) ∧ eTo zs k ≤ zs.length ∧ eTo ys (k - a) ≤ ys.length ∧
      (eTo ys (k - a) = 0 ∨ eTo zs k = zs.length) ∧ (k = 0 ∨ 0 < eTo zs k + eTo ys (k - a)) := by
  have l1 := eTo_le zs k
  have l2 := eTo_le ys (k - a)
  by_cases hka : k ≤ a
  · have e0 : k - a = 0 := by omega
    have w1 := wh_take k zs (fun i hi => hz.pos' i (by omega))
    have n1 := w1.len
    rw [List.length_take] at n1
    rw [e0]
    refine ⟨k, 0, w1, .nil, rfl, ?_, l1, Nat.zero_le _, .inl rfl, ?_⟩
    · show zs.take (eTo zs k) ++ ys.take 0 = (zs ++ ys).take (eTo zs k + 0)
      rw [List.take_zero, List.append_nil, Nat.add_zero, List.take_append_of_le_length l1]
    · omega
  · have e1 : eTo zs k = zs.length := by rw [show k = a + (k - a) by omega]; exact hz.over
    have w2 := wh_take (k - a) ys (fun i hi => hy.pos' i (by omega))
    have n2 := w2.len
    rw [List.length_take] at n2
    rw [e1, List.take_length]
    refine ⟨a, k - a, hz, w2, by omega, ?_, Nat.le_refl _, l2, .inr rfl, .inr (by omega)⟩
    rw [List.take_append, List.take_of_length_le (l := zs) (by omega), show zs.length + eTo ys (k - a) - zs.length = eTo ys (k - a) by omega]

/-- What a crash leaves, and that a cut leaves the same. -/
theorem crash_facts {zs ys : List Int} {a b t : Nat} (hz : Wh zs a) (hy : Wh ys b) (ht : t ≤ ys.length) :
    ∃ n d, (eAts (zs ++ ys.take t) 0).length = n ∧ (zs ++ ys.take t).take (eUse (zs ++ ys.take t) 0) = zs ++ ys.take d ∧ Wh (zs ++ ys.take d) n ∧ d ≤ ys.length ∧ n ≤ a + b ∧ eTo zs n = zs.length ∧ eTo ys (n - a) = d := by
  obtain ⟨us, hu⟩ : ∃ us, zs ++ ys.take t = us := ⟨_, rfl⟩
  have han : a ≤ (eAts us 0).length := by
    apply Nat.le_of_not_lt
    intro hlt
    have h1 := hz.pos (ys.take t) _ hlt
    rw [hu, eUse_to] at h1
    exact (come_zs us).2 h1
  have hta : eTo us a = zs.length := by rw [← hu]; exact hz.to _
  have hda : us.drop zs.length = ys.take t := by rw [← hu, List.drop_left' rfl]
  obtain ⟨q, hq⟩ : ∃ q, (eAts us 0).length = a + q := ⟨_, by rw [Nat.add_sub_cancel' han]⟩
  have hue : eUse us 0 = zs.length + eTo (ys.take t) q := by rw [← eUse_to, hq, eTo_add, hta, hda]
  have hpos : ∀ i, i < q → 0 < eSz ((ys.take t).drop (eTo (ys.take t) i)) := by
    intro i hi
    have h1 := ats_pos us (a + i) (by omega)
    rw [eTo_add, hta, hda, ← List.drop_drop, hda] at h1
    exact h1
  have w2 := wh_take q (ys.take t) hpos
  have ld := eTo_le (ys.take t) q
  rw [List.length_take] at ld
  rw [List.take_take, Nat.min_eq_left (by omega)] at w2
  obtain ⟨d, hd⟩ : ∃ d, eTo (ys.take t) q = d := ⟨_, rfl⟩
  rw [hd] at w2 ld hue
  have hdy : d ≤ ys.length := by omega
  have hsp : ys.take d ++ ys.drop d = ys := List.take_append_drop d ys
  have hlq : (ys.take d).length = d := by rw [List.length_take]; omega
  have hyq : eTo ys q = d := by have := w2.to (ys.drop d); rwa [hsp, hlq] at this
  have hqb : q ≤ b := by
    apply Nat.le_of_not_lt
    intro hlt
    have h1 := w2.pos (ys.drop d) b hlt
    rw [hsp, hy.to', List.drop_length, eSz_nil] at h1
    omega
  rw [hu]
  refine ⟨a + q, d, hq, ?_, hz.app w2, hdy, by omega, hz.over, by rw [Nat.add_sub_cancel_left]; exact hyq⟩
  rw [hue, ← hu, List.take_append, List.take_of_length_le (l := zs) (by omega), show zs.length + d - zs.length = d by omega, List.take_take, Nat.min_eq_left (by omega)]

theorem enP_at (ep k p : Int) (zs : List Int) : (enP ep k p zs)[0]?.getD 0 = 5 + (zs.length : Int) ∧ (enP ep k p zs)[5]?.getD 0 = k ∧ (enP ep k p zs)[6]?.getD 0 = p ∧ numAt (enP ep k p zs) 3 2 = ep ∧ (enP ep k p zs).drop 8 = zs := by
  refine ⟨rfl, rfl, rfl, ?_, rfl⟩
  show (0 * 256 + ep / 256) * 256 + ep % 256 = ep
  omega
theorem eSz_enP {ep k p : Int} {zs : List Int} (h : enF ep k p zs.length = 0) : eSz (enP ep k p zs) = 8 + zs.length := by
  obtain ⟨h0, h5, h6, hn, hd⟩ := enP_at ep k p zs
  have hl := enP_len ep k p zs
  have := eSz_yes (zs := enP ep k p zs) (m := 5 + zs.length) (by rw [h0]; omega) h5 h6 (by omega) (by omega) (by
    rw [hn, hd, show 3 + (5 + zs.length) - 8 = zs.length by omega, if_pos h, List.take_length, List.take_of_length_le (by omega)])
  omega
theorem wh_enP {ep k p : Int} {zs : List Int} (h : enF ep k p zs.length = 0) : Wh (enP ep k p zs) 1 := by
  have h1 := eSz_enP h
  have h2 := Wh.cons (e := enP ep k p zs) (by omega) (by rw [h1, enP_len]) Wh.nil
  rwa [List.append_nil] at h2

/-- What is read of a journal to which an entry was appended. -/
theorem append_facts {zs : List Int} {n : Nat} {ep k p : Int} {es : List Int} (hz : Wh zs n) (h : enF ep k p es.length = 0) :
    Wh (zs ++ enP ep k p es) (n + 1) ∧ ((eAts (zs ++ enP ep k p es) 0).map (enD (zs ++ enP ep k p es)))[n]? = some ⟨ep, k, p, es⟩ := by
  have hw := hz.app (wh_enP h)
  refine ⟨hw, ?_⟩
  have hc := hw.cnt.1
  have h1 := ((come_zs (zs ++ enP ep k p es)).1.pos n (by omega)).2
  rw [List.getElem?_map, h1, hz.to]
  obtain ⟨h0, h5, h6, hn, hd⟩ := enP_at ep k p es
  have hdr : (zs ++ enP ep k p es).drop zs.length = enP ep k p es := List.drop_left' rfl
  have g : ∀ i, (zs ++ enP ep k p es)[zs.length + i]? = (enP ep k p es)[i]? := fun i => by rw [← List.getElem?_drop, hdr]
  show some (enD (zs ++ enP ep k p es) zs.length) = _
  unfold enD
  rw [hdr, g, g, h5, h6, hn, hd, eSz_enP h, show 8 + es.length - 8 = es.length by omega, List.take_length]

end Go.Proofs.Ytdkjgjjkjfeodaa

namespace Go.Proofs.Ytdkjgjjkjfeodaa
open Go.RowKit

theorem lbig_no (a : Option Addr) (n c : Nat) (w : World) (h : ¬ 1048576 < n) : Calls Try.prog 7 #[.slice a n c] w fun e w' => e = .returned (.bool false) ∧ w' = w := by
  have hd : decide ((1048576 : Int) < (n : Int)) = false := by simp; omega
  go_enter Try.func7, Try.ntmps7
  go_wp2
  go_ret
  exact ⟨rfl, rfl⟩

theorem lbig_yes (a : Option Addr) (n c : Nat) (w : World) (h : 1048576 < n) : Calls Try.prog 7 #[.slice a n c] w fun e w' => e = .returned (.bool true) ∧ w' = w := by
  have hd : decide ((1048576 : Int) < (n : Int)) = true := by simp; omega
  go_enter Try.func7, Try.ntmps7
  go_wp2
  go_ret
  exact ⟨rfl, rfl⟩

end Go.Proofs.Ytdkjgjjkjfeodaa

namespace Go.Proofs.Ytdkjgjjkjfeodaa
open Go.RowKit Go.Sort
set_option linter.unusedVariables false

theorem cu_bd {us vs us' vs' : List Int} {kp z ct : Int} (h : (z, ct, us', vs') = cuA us vs kp) (h1 : ∀ z ∈ us, 0 ≤ z ∧ z ≤ 255) (h2 : ∀ z ∈ vs, 0 ≤ z ∧ z ≤ 255) : (∀ z ∈ us', 0 ≤ z ∧ z ≤ 255) ∧ (∀ z ∈ vs', 0 ≤ z ∧ z ≤ 255) := by
  unfold cuA at h
  split at h
  · split at h
    · simp only [Prod.mk.injEq] at h
      obtain ⟨-, -, rfl, rfl⟩ := h
      exact ⟨(by intro z hz; cases hz), (by intro z hz; cases hz)⟩
    · simp only [Prod.mk.injEq] at h
      obtain ⟨-, -, rfl, rfl⟩ := h
      exact ⟨fun z hz => h1 z (List.mem_of_mem_take hz), fun z hz => h2 z (List.mem_of_mem_take hz)⟩
  · simp only [Prod.mk.injEq] at h
    obtain ⟨-, -, rfl, rfl⟩ := h
    exact ⟨(by intro z hz; cases hz), (by intro z hz; cases hz)⟩

theorem jF_wh {us vs : List Int} {p q : Nat} (h1 : Wh us p) (h2 : Wh vs q) (hl : us.length + vs.length ≤ 6000) : jF us vs = 0 := by
  have c1 := h1.cnt.2
  have c2 := h2.cnt.2
  unfold jF
  rw [if_neg (by omega), if_neg (by omega), if_neg (by omega)]

/-- A cut without a code. -/
theorem cu_zero {us vs us' vs' : List Int} {kp ct : Int} (h : ((0 : Int), ct, us', vs') = cuA us vs kp) :
    ct = kp ∧ jF us' vs' = 0 ∧ us'.length + vs'.length ≤ 6000 ∧ us' ++ vs' = (us ++ vs).take (us'.length + vs'.length) ∧ us'.length + vs'.length ≤ us.length + vs.length ∧ ((eAts (us' ++ vs') 0).length : Int) = kp ∧ us'.length ≤ us.length ∧ (vs'.length = 0 ∨ us'.length = us.length) ∧ (kp = 0 ∨ 0 < us'.length + vs'.length) := by
  unfold cuA at h
  split at h
  · rename_i hf
    obtain ⟨hl, e1, e2⟩ := jF_zero hf
    split at h
    · simp at h
    · rename_i hk
      simp only [Prod.mk.injEq, true_and] at h
      obtain ⟨rfl, rfl, rfl⟩ := h
      have w1 := wh_whole e1
      have w2 := wh_whole e2
      unfold eCnt at hk
      have ek : (kp - eCnt us).toNat = kp.toNat - (eAts us 0).length := by unfold eCnt; omega
      obtain ⟨p, q, wp, wq, hpq, happ, l1, l2, hor, hpos⟩ := cut_facts w1 w2 (k := kp.toNat) (by omega)
      have f1 : eFi us kp = us.take (eTo us kp.toNat) := rfl
      have f2 : eFi vs (kp - eCnt us) = vs.take (eTo vs (kp.toNat - (eAts us 0).length)) := by unfold eFi; rw [ek]
      have g1 : (eFi us kp).length = eTo us kp.toNat := eFi_len us kp
      have g2 : (eFi vs (kp - eCnt us)).length = eTo vs (kp.toNat - (eAts us 0).length) := by rw [eFi_len, ek]
      rw [← f1] at wp happ
      rw [← f2] at wq happ
      have cp := wp.cnt.1
      have cq := wq.cnt.1
      have ca := (wp.app wq).cnt.1
      refine ⟨?_, jF_wh wp wq (by omega), by omega, by rw [happ, g1, g2], by omega, by omega, by omega, by omega, by omega⟩
      show eCnt (eFi us kp) + eCnt (eFi vs (kp - eCnt us)) = kp
      unfold eCnt at *
      omega
  · rename_i hf
    simp only [Prod.mk.injEq] at h
    exact absurd h.1.symm hf

theorem str9_app (us vs : List Int) : str9 us ++ str9 vs = str9 (us ++ vs) := by
  apply ByteArray.ext
  apply Array.toList_inj.1
  rw [ByteArray.data_append, Array.toList_append, str9_data, str9_data, str9_data, List.map_append]

theorem str9_size (us : List Int) : (str9 us).size = us.length := by
  have h := congrArg List.length (str9_data us)
  simp only [List.length_map, Array.length_toList] at h
  exact h

theorem str9_cut (us : List Int) (n : Nat) (hn : n ≤ us.length) : (str9 us).extract 0 n = str9 (us.take n) := by
  apply ByteArray.ext
  apply Array.toList_inj.1
  rw [str9_data, ByteArray.data_extract, Array.toList_extract, str9_data]
  simp [List.map_take]

theorem str_same (a : ByteArray) : (a.toList == a.toList) = true := by simp

/-- A text's bytes, laid anew. -/
theorem str_bytes (us : List Int) (hb : ∀ z ∈ us, 0 ≤ z ∧ z ≤ 255) (w : World) : ∃ (cap : Nat) (wB : World), (convert 9 22 (.string (str9 us))).run Try.prog w = .ok (.slice (some ⟨w.heap.size, 0, none⟩) (str9 us).size cap) wB ∧ BsAt wB (some ⟨w.heap.size, 0, none⟩) us ∧ w.heap.size < wB.heap.size ∧ New w wB ∧ us.length ≤ cap := by
  refine ⟨_, _, run_bytes_of_string (P := Try.prog) w 9 22 5 (str9 us) Try.underlying9 Try.underlying22 Try.underlying5, ?_, ?_, ?_, ?_⟩
  · intro i z hz
    have hi : i < us.length := (List.getElem?_eq_some_iff.1 hz).1
    have hbz := hb z (List.mem_of_getElem? hz)
    refine ⟨w.heap.size, 0, rfl, ?_, hbz⟩
    rw [Nat.zero_add]
    have hh : (w.drew.alloc (.cells (bytesRow (str9 us) (grownCap w (str9 us).size 0 5)) 5 ((bytesRow (str9 us) (grownCap w (str9 us).size 0 5)).size, (bytesRow (str9 us) (grownCap w (str9 us).size 0 5)).size + 1))).heap[w.heap.size]? = some (.cells (bytesRow (str9 us) (grownCap w (str9 us).size 0 5)) 5 ((bytesRow (str9 us) (grownCap w (str9 us).size 0 5)).size, (bytesRow (str9 us) (grownCap w (str9 us).size 0 5)).size + 1)) := heap_alloc_new w.drew _
    rw [cell_of_row _ w.heap.size i _ _ _ hh]
    unfold bytesRow
    have hd := str9_data us
    have hsz : (str9 us).data.size = us.length := str9_size us
    rw [Array.getElem?_append_left (by simpa [hsz] using hi), Array.getElem?_map]
    have : (str9 us).data[i]? = some (UInt8.ofNat z.toNat) := by
      rw [← Array.getElem?_toList, hd, List.getElem?_map, hz]
      rfl
    rw [this]
    simp only [Option.map_some, Option.some.injEq, Value.int.injEq, true_and]
    have : (UInt8.ofNat z.toNat).toNat = z.toNat := by simp; omega
    rw [this]
    omega
  · simp
  · exact ((New.refl w).drew).alloc _
  · rw [← str9_size us]
    exact grownCap_ge _ _ _ _

end Go.Proofs.Ytdkjgjjkjfeodaa

namespace Go.Proofs.Ytdkjgjjkjfeodaa
open Go.RowKit Go.Shelf
set_option linter.unusedVariables false
set_option linter.unusedSimpArgs false
set_option maxRecDepth 100000
attribute [local go_sem] Oper.semAt_some

set_option maxHeartbeats 3200000 in
theorem implRE_nil (w : World) : Calls Try.prog 11 #[.slice none 0 0] w fun e w' => ReAns w [] e w' := by
    refine (callsIn_wide (n := 4)).1 ?_
    refine callsIn_of_wp_marks Try.func11 rfl trivial ?_ rfl
    simp only [Try.ntmps11, List.size_toArray, List.length_cons, List.length_nil, Nat.reduceAdd, Nat.reduceSub, Array.replicate_succ, Array.replicate_zero, List.push_toArray, List.append_toArray, List.nil_append, List.cons_append]
    gi_wp2_with (refine ⟨trivial, ?_⟩; gi_at_call 40; refine (callsIn_wide.2 (entries_in none 0 0 _)).mono ?_; rintro e w' ⟨rfl, rfl⟩)
    have hB0 : Below w.heap.size w (((w.alloc (.cells #[.int .i64 0, .int .i64 0, .slice none 0 0] 33)).alloc (.cells #[.int .i64 0, .int .i64 0, .slice none 0 0] 33)).alloc (.cells #[.slice none 0 0] 22)) := (((Below.refl _ w).alloc (Nat.le_refl _) _).alloc (by simp) _).alloc (by simp; omega) _
    have bR := ((Blk.mk w w.heap.size 33 #[.int .i64 0, .int .i64 0, .slice none 0 0] rfl).alloc (.cells #[.int .i64 0, .int .i64 0, .slice none 0 0] 33)).alloc (.cells #[.slice none 0 0] 22)
    have bG := (Blk.mk (w.alloc (.cells #[.int .i64 0, .int .i64 0, .slice none 0 0] 33)) (w.heap.size + 1) 33 #[.int .i64 0, .int .i64 0, .slice none 0 0] (by simp)).alloc (.cells #[.slice none 0 0] 22)
    have bN := Blk.mk ((w.alloc (.cells #[.int .i64 0, .int .i64 0, .slice none 0 0] 33)).alloc (.cells #[.int .i64 0, .int .i64 0, .slice none 0 0] 33)) (w.heap.size + 2) 22 #[.slice none 0 0] (by simp)
    have hL : (((w.alloc (.cells #[.int .i64 0, .int .i64 0, .slice none 0 0] 33)).alloc (.cells #[.int .i64 0, .int .i64 0, .slice none 0 0] 33)).alloc (.cells #[.slice none 0 0] 22)).heap.size = w.heap.size + 3 := by simp
    generalize (((w.alloc (.cells #[.int .i64 0, .int .i64 0, .slice none 0 0] 33)).alloc (.cells #[.int .i64 0, .int .i64 0, .slice none 0 0] 33)).alloc (.cells #[.slice none 0 0] 22)) = w1 at *
    refine wpIn_rangeFunc_ownH rfl (by omega) (gf := 61) (lb := #[.pointer (some ⟨w.heap.size + 1 + 1, 0, none⟩)]) rfl trivial (enters_of Try.func61 (by kernel_rfl) rfl)
      (entries_stops (w.heap.size + 2) w.heap.size none 0 0 [] w1 rfl (Nat.le_refl _) (by omega) (.inl ⟨rfl, rfl, rfl⟩) (by omega) bN (BsAt.nil _ _)) Kp10.trans (kp10_b (by omega) (by omega)) (Below.refl _ _) (fun _ => rfl)
      (fun pre W => RiIn w W (.slice none 0 0) [] (pre.map EI.t) (eEnd pre))
      (fun _ _ _ => False)
      (fun s A B row hs hg hr => hs.turn hg hr (by omega))
      (fun _ _ _ _ _ hs _ _ => hs)
      ⟨bN, ⟨.slice none 0 0, [], bG, rfl, ⟨rfl, .inl ⟨rfl, rfl⟩⟩, EvOwn.nil _ _ _⟩, bR, hB0⟩
      (fun x a' W => ∃ Bx, w.heap.size + 2 < Bx ∧ Blk W Bx 40 x.cs ∧ (∃ vv, W.cell? ⟨w.heap.size + 1, 2, none⟩ = some vv ∧ ∀ k, vv.ownBlock = some k → k < Bx) ∧ a' = { tmps := #[.slice none 0 0, undef, .pointer (some ⟨w.heap.size, 0, none⟩), .pointer (some ⟨w.heap.size + 1, 0, none⟩), .int .i64 ((x.t : Int) + (eSz ([].drop x.t) : Int)), .pointer (some ⟨Bx, 0, none⟩), .slice none 0 0, .int .i64 0, .bool false, undef, .slice none 0 0, .func (.func 61) #[] #[.pointer (some ⟨w.heap.size + 1 + 1, 0, none⟩)], .int .i64 ((x.t : Int) + (eSz ([].drop x.t) : Int)), .agg x.cs, undef, undef, undef, undef, undef, undef, undef, undef, undef, undef], defers := [] })
      (fun x a' _ X Y row hs hg hr => by obtain ⟨Bx, h1, h2, ⟨vv, hv1, hv2⟩, h3⟩ := hs; exact ⟨Bx, h1, h2.turn (turn_of_grown hg) (cells_ne (fun r e => (hr r e).2) h2), ⟨vv, cell_kept hv1 hg (fun r e => (hr r e).2), hv2⟩, h3⟩)
      ?assign ?body ?done ?stop
    case assign =>
      rintro l pre x W K hI hK
      exact absurd x.pos (by rw [List.drop_nil, eSz_nil]; omega)
    case body =>
      rintro l pre x a' W hl hr hI hx hlen
      exact absurd x.pos (by rw [List.drop_nil, eSz_nil]; omega)
    case done =>
      rintro D ts W hD ⟨t, hcm, h0⟩ hI hK
      obtain ⟨hbox, ⟨v, V, hG, hV, hrow, hown⟩, hres, hbel⟩ := hI
      obtain ⟨y, dd, rfl, hny, hby⟩ := row9_form hrow
      rw [come_end hcm] at hG
      have hall := hcm.all h0
      have cG := hG.cells
      have cR := hres.cells
      have fR := hres.frees
      have lD : D < W.heap.size := (Array.getElem?_eq_some_iff.1 hK).1
      have lb := hbox.lt
      gi_wp2
      have t3 : Turn (fun i => i = w.heap.size) W (((W.setCell ⟨w.heap.size, 0, none⟩ (.int .i64 0)).setCell ⟨w.heap.size, 1, none⟩ (.int .i64 (t : Int))).setCell ⟨w.heap.size, 2, none⟩ (.slice y V.length dd)) := Turn.set (S := fun i => i = w.heap.size) (Turn.set (S := fun i => i = w.heap.size) (Turn.set (S := fun i => i = w.heap.size) (Turn.refl _ _) rfl _) rfl _) rfl _
      have hK3 := (t3.block D lD (by omega)).trans hK
      have b1 : Blk (W.setCell ⟨w.heap.size, 0, none⟩ (.int .i64 0)) w.heap.size 33 #[.int .i64 0, .int .i64 0, .slice none 0 0] := hres.set 0 _
      have b2 : Blk _ w.heap.size 33 #[.int .i64 0, .int .i64 (t : Int), .slice none 0 0] := b1.set 1 (.int .i64 (t : Int))
      have b3 : Blk _ w.heap.size 33 #[.int .i64 0, .int .i64 (t : Int), .slice y V.length dd] := b2.set 2 (.slice y V.length dd)
      generalize ((W.setCell ⟨w.heap.size, 0, none⟩ (.int .i64 0)).setCell ⟨w.heap.size, 1, none⟩ (.int .i64 (t : Int))).setCell ⟨w.heap.size, 2, none⟩ (.slice y V.length dd) = W3 at *
      have tp := turn_of_grown (grownBy_putObj' W3 D (.deferred none))
      have b4 := b3.turn tp (by intro e; have := Option.some.inj e; omega)
      have cF := b4.cells
      have tF : Turn (fun i => i = w.heap.size ∨ i = D) W (W3.putObj D (.deferred none)) := Turn.trans (t3.mono (fun _ _ h => .inl h)) tp (fun _ _ h => .inr (Option.some.inj h).symm)
      refine ⟨by simp, .inl ⟨_, _, rfl, run_takeDeferred hK3, ?_⟩⟩
      refine ⟨.agg #[.int .i64 0, .int .i64 (t : Int), .slice y V.length dd], by simp [results, Try.results11, go_sem, cF], ?_⟩
      show ReAns w [] _ _
      unfold ReAns
      rw [if_neg (by simp), hall.2]
      have hnD : ∀ k cs e f, W.heap[k]? = some (.cells cs e f) → ¬ k = D := by
        rintro k cs e f hk rfl
        rw [hK] at hk
        cases hk
      refine ⟨y, V.length, dd, V, rfl, rfl, ⟨?_, ?_, ?_, ?_⟩, hV.trans hall.1⟩
      · rw [hV]; exact hcm
      · exact row9_low (row9_turn hrow tF (by rintro k hk (e | e); (have := (hby k hk).1; omega); (obtain ⟨cs, hc'⟩ := row_cells hrow hk; exact hnD _ _ _ _ hc' e))) (by omega)
      · exact (hown.turn tF (by rintro z hz k hk (e | e); (obtain ⟨_, _, _, _, hb'⟩ := row9_form (hown.own z hz); have := (hb' k hk).1; omega); (obtain ⟨cs, hc'⟩ := row_cells (hown.own z hz) hk; exact hnD _ _ _ _ hc' e))).low (by omega)
      · exact New.of_below (hbel.trans ⟨tF.os, tF.tape, tF.output, tF.size, fun k hk => tF.block k (by have := hbel.size; omega) (by rintro (e | e) <;> omega)⟩) (Nat.le_refl _)
    case stop =>
      rintro D c pre W _ _ h _
      exact h.elim

end Go.Proofs.Ytdkjgjjkjfeodaa

namespace Go.Proofs.Ytdkjgjjkjfeodaa
open Go.RowKit Go.Sort
set_option linter.unusedVariables false

theorem cr_bd {us vs us' vs' : List Int} {kp z ct : Int} (h : (z, ct, us', vs') = crA us vs kp) (h1 : ∀ z ∈ us, 0 ≤ z ∧ z ≤ 255) (h2 : ∀ z ∈ vs, 0 ≤ z ∧ z ≤ 255) : (∀ z ∈ us', 0 ≤ z ∧ z ≤ 255) ∧ (∀ z ∈ vs', 0 ≤ z ∧ z ≤ 255) := by
  unfold crA at h
  split at h
  · split at h
    · simp only [Prod.mk.injEq] at h
      obtain ⟨-, -, rfl, rfl⟩ := h
      exact ⟨(by intro z hz; cases hz), (by intro z hz; cases hz)⟩
    · simp only [Prod.mk.injEq] at h
      obtain ⟨-, -, rfl, rfl⟩ := h
      refine ⟨fun z hz => ?_, (by intro z hz; cases hz)⟩
      rcases List.mem_append.1 (List.mem_of_mem_take hz) with hz | hz
      · exact h1 z hz
      · exact h2 z (List.mem_of_mem_take hz)
  · simp only [Prod.mk.injEq] at h
    obtain ⟨-, -, rfl, rfl⟩ := h
    exact ⟨(by intro z hz; cases hz), (by intro z hz; cases hz)⟩

/-- A crash without a code. -/
theorem cr_zero {us vs us' vs' : List Int} {kp ct : Int} (h : ((0 : Int), ct, us', vs') = crA us vs kp) :
    vs' = [] ∧ jF us' [] = 0 ∧ us.length ≤ us'.length ∧ us'.length ≤ us.length + vs.length ∧ us.length + vs.length ≤ 6000 ∧ us' = (us ++ vs).take us'.length ∧ ((eAts us' 0).length : Int) = ct ∧ (∃ c2, ((0 : Int), c2, us ++ vs, ([] : List Int)) = syA us vs) ∧ ∃ Q, ((0 : Int), ct, us, Q) = cuA us vs ct ∧ us ++ Q = us' := by
  unfold crA at h
  split at h
  · rename_i hf
    obtain ⟨hl, e1, e2⟩ := jF_zero hf
    split at h
    · simp at h
    · rename_i hk
      simp only [Prod.mk.injEq, true_and] at h
      obtain ⟨hct, hus, rfl⟩ := h
      have w1 := wh_whole e1
      have w2 := wh_whole e2
      obtain ⟨n, d, hn, hd, hw, hdl, hna, et1, et2⟩ := crash_facts w1 w2 (t := kp.toNat) (by omega)
      have hh : eHd (us ++ vs.take kp.toNat) = us ++ vs.take d := hd
      rw [hh] at hus hct
      subst hus
      have hc := hw.cnt.1
      have hct' : ct = (n : Int) := by
        rw [hct]
        show ((eAts (us ++ vs.take d) 0).length : Int) + ((eAts [] 0).length : Int) = n
        rw [hc, (Wh.nil).cnt.1]
        simp
      have hlen : (us ++ vs.take d).length = us.length + d := by simp; omega
      have hcu : ((0 : Int), (n : Int), us, vs.take d) = cuA us vs n := by
        have hx : cuA us vs (n : Int) = (0, eCnt (eFi us n) + eCnt (eFi vs ((n : Int) - eCnt us)), eFi us n, eFi vs ((n : Int) - eCnt us)) := by
          unfold cuA
          rw [if_pos hf, if_neg (by unfold eCnt; omega)]
        have f1 : eFi us (n : Int) = us := by unfold eFi; rw [show ((n : Int)).toNat = n by omega, et1, List.take_length]
        have f2 : eFi vs ((n : Int) - eCnt us) = vs.take d := by unfold eFi eCnt; rw [show ((n : Int) - ((eAts us 0).length : Int)).toNat = n - (eAts us 0).length by omega, et2]
        rw [f1, f2] at hx
        have hz := cu_zero (us := us) (vs := vs) (kp := (n : Int)) hx.symm
        rw [hx, hz.1]
      refine ⟨rfl, jF_wh hw .nil (by rw [hlen]; simp; omega), by rw [hlen]; omega, by rw [hlen]; omega, hl, ?_, by rw [hc, hct'], ?_, ⟨vs.take d, by rw [hct']; exact hcu, rfl⟩⟩
      · rw [hlen, List.take_append, List.take_of_length_le (l := us) (by omega), show us.length + d - us.length = d by omega]
      · exact ⟨_, by unfold syA; rw [if_pos hf]⟩
  · rename_i hf
    simp only [Prod.mk.injEq] at h
    exact absurd h.1.symm hf

/-- What is read of a list that may be nil. -/
theorem implREs (A : Option Addr) (n c : Nat) (zs : List Int) (w : World) (h : BsAt w A zs) (hs : Sl10 w A n c) (hn : zs.length = n) (hc : n ≤ c) (hm : n ≤ 1048576) :
    Calls Try.prog 11 #[.slice A n c] w fun e w' => ReAns w zs e w' := by
  rcases hs with ⟨rfl, rfl, rfl⟩ | ⟨b, off, rfl, hb⟩
  · obtain rfl := List.eq_nil_of_length_eq_zero hn
    exact implRE_nil w
  · exact implRE b off n c zs w h hb hn hc hm

end Go.Proofs.Ytdkjgjjkjfeodaa

namespace Go.Proofs.Ytdkjgjjkjfeodaa
open Go.RowKit
set_option linter.unusedVariables false
set_option linter.unusedSimpArgs false
set_option maxRecDepth 100000

theorem ax_bdz {us vs us' vs' es : List Int} {ep ki pe z ct : Int} (h : (z, ct, us', vs') = axA us vs ep ki pe es) (h1 : ∀ z ∈ us, 0 ≤ z ∧ z ≤ 255) (h2 : ∀ z ∈ vs, 0 ≤ z ∧ z ≤ 255) (h3 : ∀ z ∈ es, 0 ≤ z ∧ z ≤ 255) : (∀ z ∈ us', 0 ≤ z ∧ z ≤ 255) ∧ (∀ z ∈ vs', 0 ≤ z ∧ z ≤ 255) := by
  unfold axA at h
  split at h
  · split at h
    · rename_i he
      split at h
      · simp only [Prod.mk.injEq] at h
        obtain ⟨-, -, rfl, rfl⟩ := h
        exact ⟨(by intro z hz; cases hz), (by intro z hz; cases hz)⟩
      · simp only [Prod.mk.injEq] at h
        obtain ⟨-, -, rfl, rfl⟩ := h
        obtain ⟨a1, a2, a3, a4, a5, a6, a7⟩ := enF_zero he
        refine ⟨h1, fun z hz => ?_⟩
        rcases List.mem_append.1 hz with hz | hz
        · exact h2 z hz
        · exact enP_bd h3 ⟨a1, a2⟩ ⟨a3, a4⟩ ⟨a5, a6⟩ a7 z hz
    · simp only [Prod.mk.injEq] at h
      obtain ⟨-, -, rfl, rfl⟩ := h
      exact ⟨(by intro z hz; cases hz), (by intro z hz; cases hz)⟩
  · simp only [Prod.mk.injEq] at h
    obtain ⟨-, -, rfl, rfl⟩ := h
    exact ⟨(by intro z hz; cases hz), (by intro z hz; cases hz)⟩

theorem ax_zero {us vs us' vs' es : List Int} {ep ki pe ct : Int} (h : ((0 : Int), ct, us', vs') = axA us vs ep ki pe es) :
    enF ep ki pe es.length = 0 ∧ jF us' vs' = 0 ∧ us'.length + vs'.length ≤ 6000 ∧ ((eAts (us' ++ vs') 0).length : Int) = ct ∧ 0 < (eAts (us' ++ vs') 0).length ∧ ((eAts (us' ++ vs') 0).map (enD (us' ++ vs')))[(eAts (us' ++ vs') 0).length - 1]? = some ⟨ep, ki, pe, es⟩ := by
  unfold axA at h
  split at h
  · rename_i hf
    obtain ⟨hl, e1, e2⟩ := jF_zero hf
    split at h
    · rename_i he
      split at h
      · simp at h
      · rename_i hb
        simp only [Prod.mk.injEq, true_and] at h
        obtain ⟨rfl, rfl, rfl⟩ := h
        have w1 := wh_whole e1
        have w2 := wh_whole e2
        have w3 := w2.app (wh_enP he)
        have hL := enP_len ep ki pe es
        obtain ⟨w4, h4⟩ := append_facts (w1.app w2) he
        rw [List.append_assoc] at w4 h4
        have c1 := w1.cnt.1
        have c3 := w3.cnt.1
        have c4 := w4.cnt.1
        refine ⟨he, jF_wh w1 w3 (by rw [List.length_append, hL]; omega), by rw [List.length_append, hL]; omega, ?_, by omega, ?_⟩
        · unfold eCnt; omega
        · rw [c4, Nat.add_sub_cancel]; exact h4
    · rename_i he
      simp only [Prod.mk.injEq] at h
      exact absurd h.1.symm he
  · rename_i hf
    simp only [Prod.mk.injEq] at h
    exact absurd h.1.symm hf

end Go.Proofs.Ytdkjgjjkjfeodaa

namespace Go.Proofs.Ytdkjgjjkjfeodaa
open Go.RowKit Go.Sort
set_option linter.unusedVariables false
set_option linter.unusedSimpArgs false
set_option maxRecDepth 100000

/-- An event, bent or not, that was drawn. -/
def EvBn (w : World) (B : Nat) (a : Option Addr) (n c : Nat) (zs : List Int) (t : Nat) (e : Ending) (w' : World) : Prop :=
  ∃ (ki pe : Int) (q : Option Addr) (l cl t' : Nat) (es : List Int), e = .returned (.agg #[.int .i64 ki, .int .i64 pe, .slice q l cl]) ∧ EqB w' q l cl es ∧ l ≤ 61 ∧ (0 ≤ ki ∧ ki ≤ 5) ∧ (-1 ≤ pe ∧ pe ≤ 3) ∧ t' ≤ t + 812 ∧ (∀ x, q = some x → w.heap.size < x.block) ∧ Sc w' B a n c zs t' ∧ Turn (fun k => k = B) w w'

set_option maxHeartbeats 6400000 in
theorem l9Bent_sc {B n c t : Nat} {a : Option Addr} {zs : List Int} {w : World} (h : Sc w B a n c zs t) (ht : t ≤ 7700) :
    Calls Try.prog 63 #[.pointer (some ⟨B, 0, none⟩)] w fun e w' => EvBn w B a n c zs t e w' := by
  obtain ⟨i0, hi, hz0, hz1, hz2⟩ := info_parts Try.infoU8
  have hlt := h.blk.lt
  have hA := h.lt_of
  have N0 : New w (w.alloc (.cells #[.int .i64 0, .int .i64 0, .slice none 0 0] 38)) := (New.refl w).alloc _
  have bR0 := Blk.mk w w.heap.size 38 #[.int .i64 0, .int .i64 0, .slice none 0 0] rfl
  have y0 : (w.alloc (.cells #[.int .i64 0, .int .i64 0, .slice none 0 0] 38)).heap.size = w.heap.size + 1 := by simp
  have hs0 := h.new N0
  have tT0 : Turn (fun k => k = B) w (w.alloc (.cells #[.int .i64 0, .int .i64 0, .slice none 0 0] 38)) := N0.turn
  have hRB : ¬ w.heap.size = B := by omega
  have hSR : ∀ x, zs ≠ [] → a = some x → ¬ x.block = w.heap.size := fun x h1 h2 e => by have := hA x h1 h2; omega
  have z0 : w.heap.size < (w.alloc (.cells #[.int .i64 0, .int .i64 0, .slice none 0 0] 38)).heap.size := by omega
  clear y0
  go_enter Try.func63, Try.ntmps63
  go_wp2_with fail
  refine (l9Event_sc hs0 (by omega)).mono ?_
  rintro e w1 ⟨ki, pe, q, l, cl, t1, es, rfl, hE1, hl, hk, hp, ht1, hq, hs1, tn1⟩
  have bR1 := bR0.turn tn1 hRB
  have tT1 := Turn.both tT0 tn1
  have z1 : w.heap.size < w1.heap.size := by have := tn1.size; omega
  have hq1 : ∀ x, q = some x → w.heap.size < x.block ∧ x.block < w1.heap.size := by
    intro x hx
    refine ⟨by have := hq x hx; omega, ?_⟩
    rcases hE1.2.2.2 with ⟨e, _⟩ | ⟨g, e, hg⟩
    · rw [e] at hx; cases hx
    · rw [e] at hx; cases hx; exact hg
  clear bR0 tT0 tn1 hq
  go_upto_region 2 with fail
  have hal : New w1 (w1.alloc (.cells #[.int .i64 ki, .int .i64 pe, .slice q l cl] 38)) := (New.refl _).alloc _
  have bV2 : Blk (w1.alloc (.cells #[.int .i64 ki, .int .i64 pe, .slice q l cl] 38)) w1.heap.size 38 #[.int .i64 ki, .int .i64 pe, .slice q l cl] := Blk.mk _ _ _ _ rfl
  have bR2 := bR1.new hal
  have hs2 := hs1.new hal
  have hE2 := hE1.turn (S := fun _ => False) hal.turn (fun _ _ e => e)
  have tT2 := Turn.andNew tT1 hal
  have hVB : ¬ w1.heap.size = B := by have := hs1.blk.lt; omega
  have v2 : w1.heap.size < (w1.alloc (.cells #[.int .i64 ki, .int .i64 pe, .slice q l cl] 38)).heap.size := by simp
  clear bR1 hs1 tT1 hal hE1
  generalize (w1.alloc (.cells #[.int .i64 ki, .int .i64 pe, .slice q l cl] 38)) = w2 at *
  go_wp2_with fail
  refine (next_sc hs2 14 (by omega) (by omega)).mono ?_
  rintro e w3 ⟨y, rfl, -, hs3, tn3⟩
  have bV3 := bV2.turn tn3 hVB
  have bR3 := bR2.turn tn3 hRB
  have hE3 := hE2.turn tn3 (fun x hx e => by have := hq1 x hx; omega)
  have tT3 := Turn.both tT2 tn3
  have s3 : w2.heap.size ≤ w3.heap.size := tn3.size
  clear bV2 bR2 hs2 tT2 tn3 hE2
  by_cases g0 : y = 0
  · subst g0
    go_wp2_with fail
    refine (pick_sc (hs3.new ((New.refl _).alloc (.cells #[.int .i64 0, .int .i64 5, .int .i64 2] 2))) [0, 5, 2] (Blk.mk w3 w3.heap.size 2 #[.int .i64 0, .int .i64 5, .int .i64 2] rfl) 3 rfl (by omega) (by omega) (by omega)).mono ?_
    rintro e w4 ⟨v, rfl, hv, hs4, tn4⟩
    have hv : 0 ≤ v ∧ v ≤ 5 := by simp only [List.mem_cons, List.not_mem_nil, or_false] at hv; omega
    have bV4 := (bV3.alloc (.cells #[.int .i64 0, .int .i64 5, .int .i64 2] 2)).turn tn4 hVB
    have bR4 := (bR3.alloc (.cells #[.int .i64 0, .int .i64 5, .int .i64 2] 2)).turn tn4 hRB
    have hE4 := (hE3.turn (S := fun _ => False) ((New.refl _).alloc (.cells #[.int .i64 0, .int .i64 5, .int .i64 2] 2)).turn (fun _ _ e => e)).turn tn4 (fun x hx e => by have := hq1 x hx; omega)
    have tT4 := Turn.both (Turn.andNew tT3 ((New.refl _).alloc (.cells #[.int .i64 0, .int .i64 5, .int .i64 2] 2))) tn4
    have s4 : w3.heap.size ≤ w4.heap.size := by have := tn4.size; simp at this; omega
    clear bV3 bR3 tT3 hs3 tn4 hE3
    have hTs : Turn (fun k => k = w1.heap.size) w4 (w4.setCell ⟨w1.heap.size, 0, none⟩ (.int .i64 v)) := Turn.hereD (Turn.refl _ _) _
    have bV5 : Blk (w4.setCell ⟨w1.heap.size, 0, none⟩ (.int .i64 v)) w1.heap.size 38 #[.int .i64 v, .int .i64 pe, .slice q l cl] := (bV4.set 0 _)
    have bR5 := bR4.turn hTs (by omega)
    have hs5 := hs4.turn hTs (by omega) (fun x h1 h2 e => by have := hA x h1 h2; omega)
    have hE5 := hE4.turn hTs (fun x hx e => by have := hq1 x hx; omega)
    have tT5 := Turn.trans tT4 hTs (fun i hi e => by omega)
    have cV4 := bV4.cells
    have fV4 := bV4.frees
    go_upto_region 9 with fail
    clear bV4 bR4 hs4 tT4 hTs cV4 fV4 hE4
    generalize (w4.setCell ⟨w1.heap.size, 0, none⟩ (.int .i64 v)) = w5 at *
    have cR := bR5.cells
    have fR := bR5.frees
    have cV := bV5.cells
    go_wp2
    refine bodyPost_ret (v := .agg #[.int .i64 v, .int .i64 pe, .slice q l cl]) (by simp [results, Try.results63, go_sem, cR]) rfl ?_
    refine (fun (hT : Turn (fun k => k = w.heap.size) w5 _) => ⟨v, pe, q, l, cl, _, es, rfl, hE5.turn hT (fun x hx e => by have := (fun x hx => (hq1 x hx).1) x hx; omega), by omega, by omega, by omega, by omega, fun x hx => (hq1 x hx).1, hs5.turn hT (fun e => hRB e.symm) hSR, Turn.trans tT5 hT (fun i hi e => by omega)⟩) ?_
    exact Turn.hereD (Turn.hereD (Turn.hereD (Turn.refl _ _) _) _) _
  have e0 : (y == 0) = false := by simpa using g0
  by_cases g1 : y = 1
  · subst g1
    go_wp2_with fail
    refine (pick_sc (hs3.new ((New.refl _).alloc (.cells #[.int .i64 (-1), .int .i64 3, .int .i64 1] 2))) [-1, 3, 1] (Blk.mk w3 w3.heap.size 2 #[.int .i64 (-1), .int .i64 3, .int .i64 1] rfl) 3 rfl (by omega) (by omega) (by omega)).mono ?_
    rintro e w4 ⟨v, rfl, hv, hs4, tn4⟩
    have hv : -1 ≤ v ∧ v ≤ 3 := by simp only [List.mem_cons, List.not_mem_nil, or_false] at hv; omega
    have bV4 := (bV3.alloc (.cells #[.int .i64 (-1), .int .i64 3, .int .i64 1] 2)).turn tn4 hVB
    have bR4 := (bR3.alloc (.cells #[.int .i64 (-1), .int .i64 3, .int .i64 1] 2)).turn tn4 hRB
    have hE4 := (hE3.turn (S := fun _ => False) ((New.refl _).alloc (.cells #[.int .i64 (-1), .int .i64 3, .int .i64 1] 2)).turn (fun _ _ e => e)).turn tn4 (fun x hx e => by have := hq1 x hx; omega)
    have tT4 := Turn.both (Turn.andNew tT3 ((New.refl _).alloc (.cells #[.int .i64 (-1), .int .i64 3, .int .i64 1] 2))) tn4
    have s4 : w3.heap.size ≤ w4.heap.size := by have := tn4.size; simp at this; omega
    clear bV3 bR3 tT3 hs3 tn4 hE3
    have hTs : Turn (fun k => k = w1.heap.size) w4 (w4.setCell ⟨w1.heap.size, 1, none⟩ (.int .i64 v)) := Turn.hereD (Turn.refl _ _) _
    have bV5 : Blk (w4.setCell ⟨w1.heap.size, 1, none⟩ (.int .i64 v)) w1.heap.size 38 #[.int .i64 ki, .int .i64 v, .slice q l cl] := (bV4.set 1 _)
    have bR5 := bR4.turn hTs (by omega)
    have hs5 := hs4.turn hTs (by omega) (fun x h1 h2 e => by have := hA x h1 h2; omega)
    have hE5 := hE4.turn hTs (fun x hx e => by have := hq1 x hx; omega)
    have tT5 := Turn.trans tT4 hTs (fun i hi e => by omega)
    have cV4 := bV4.cells
    have fV4 := bV4.frees
    go_upto_region 9 with fail
    clear bV4 bR4 hs4 tT4 hTs cV4 fV4 hE4
    generalize (w4.setCell ⟨w1.heap.size, 1, none⟩ (.int .i64 v)) = w5 at *
    have cR := bR5.cells
    have fR := bR5.frees
    have cV := bV5.cells
    go_wp2
    refine bodyPost_ret (v := .agg #[.int .i64 ki, .int .i64 v, .slice q l cl]) (by simp [results, Try.results63, go_sem, cR]) rfl ?_
    refine (fun (hT : Turn (fun k => k = w.heap.size) w5 _) => ⟨ki, v, q, l, cl, _, es, rfl, hE5.turn hT (fun x hx e => by have := (fun x hx => (hq1 x hx).1) x hx; omega), by omega, by omega, by omega, by omega, fun x hx => (hq1 x hx).1, hs5.turn hT (fun e => hRB e.symm) hSR, Turn.trans tT5 hT (fun i hi e => by omega)⟩) ?_
    exact Turn.hereD (Turn.hereD (Turn.hereD (Turn.refl _ _) _) _) _
  have e1 : (y == 1) = false := by simpa using g1
  by_cases g2 : y = 2
  · subst g2
    have cC := bV3.cells
    have fC := bV3.frees
    go_wp2_with (at_make; refine wpList_make_full _ rfl _ _ 22 rfl w3.heap.size 5 i0 (.int .u8 0) 1 Try.underlying22 hi hz0 hz1 _ _ _ _ 61 rfl rfl rfl rfl ?b2 ?b3 (Nat.le_refl _) ?_)
    case b2 => rw [hz2]; omega
    case b3 => unfold maxLen; omega
    intro w4 hown0 hgrow0
    have hown : w4.ownsRow 0 5 1 (.slice (some ⟨w3.heap.size, 0, none⟩) 61 61) 61 ((List.replicate 61 (0 : Int)).map (Value.int .u8)) := by
      have := own_base hown0
      simpa [Value.cells, toList_madeCells_one] using this
    have n4 := New.of_grown hgrow0
    clear hown0 hgrow0
    have bV4 := bV3.new n4
    have bR4 := bR3.new n4
    have hs4 := hs3.new n4
    have x4 : BsAt w4 (some ⟨w3.heap.size, 0, none⟩) (List.replicate 61 (0 : Int)) := BsAt.of_own hown (by intro z hz; have := List.eq_of_mem_replicate hz; omega)
    have tT4 := Turn.andNew tT3 n4
    have s4 := n4.size
    have l4 := (hown.lt w3.heap.size rfl).2
    have hE4 : EqB w4 (some ⟨w3.heap.size, 0, none⟩) 61 61 (List.replicate 61 (0 : Int)) := ⟨x4, List.length_replicate, Nat.le_refl _, .inr ⟨_, rfl, l4⟩⟩
    have hq4 : ∀ x, (some ⟨w3.heap.size, 0, none⟩ : Option Addr) = some x → w.heap.size < x.block ∧ x.block ≠ w1.heap.size := fun x e => by cases e; exact ⟨(show w.heap.size < w3.heap.size by omega), (show w3.heap.size ≠ w1.heap.size by omega)⟩
    clear cC fC hown n4 x4
    generalize List.replicate 61 (0 : Int) = rs at *
    have hTs : Turn (fun k => k = w1.heap.size) w4 (w4.setCell ⟨w1.heap.size, 2, none⟩ (.slice (some ⟨w3.heap.size, 0, none⟩) 61 61)) := Turn.hereD (Turn.refl _ _) _
    have bV5 : Blk (w4.setCell ⟨w1.heap.size, 2, none⟩ (.slice (some ⟨w3.heap.size, 0, none⟩) 61 61)) w1.heap.size 38 #[.int .i64 ki, .int .i64 pe, .slice (some ⟨w3.heap.size, 0, none⟩) 61 61] := (bV4.set 2 _)
    have bR5 := bR4.turn hTs (by omega)
    have hs5 := hs4.turn hTs (by omega) (fun x h1 h2 e => by have := hA x h1 h2; omega)
    have hE5 := hE4.turn hTs (fun x hx e => (hq4 x hx).2 e)
    have tT5 := Turn.trans tT4 hTs (fun i hi e => by omega)
    have cV4 := bV4.cells
    have fV4 := bV4.frees
    go_upto_region 9 with fail
    clear bV4 bR4 hs4 tT4 hTs cV4 fV4 hE4 bV3 bR3 tT3 hs3 hE3
    generalize (w4.setCell ⟨w1.heap.size, 2, none⟩ (.slice (some ⟨w3.heap.size, 0, none⟩) 61 61)) = w5 at *
    have cR := bR5.cells
    have fR := bR5.frees
    have cV := bV5.cells
    go_wp2
    refine bodyPost_ret (v := .agg #[.int .i64 ki, .int .i64 pe, .slice (some ⟨w3.heap.size, 0, none⟩) 61 61]) (by simp [results, Try.results63, go_sem, cR]) rfl ?_
    refine (fun (hT : Turn (fun k => k = w.heap.size) w5 _) => ⟨ki, pe, _, _, _, _, rs, rfl, hE5.turn hT (fun x hx e => by have := (fun x hx => (hq4 x hx).1) x hx; omega), by omega, by omega, by omega, by omega, fun x hx => (hq4 x hx).1, hs5.turn hT (fun e => hRB e.symm) hSR, Turn.trans tT5 hT (fun i hi e => by omega)⟩) ?_
    exact Turn.hereD (Turn.hereD (Turn.hereD (Turn.refl _ _) _) _) _
  have e2 : (y == 2) = false := by simpa using g2
  have cR := bR3.cells
  have fR := bR3.frees
  have cV := bV3.cells
  go_wp2
  refine bodyPost_ret (v := .agg #[.int .i64 ki, .int .i64 pe, .slice q l cl]) (by simp [results, Try.results63, go_sem, cR]) rfl ?_
  refine (fun (hT : Turn (fun k => k = w.heap.size) w3 _) => ⟨ki, pe, q, l, cl, _, es, rfl, hE3.turn hT (fun x hx e => by have := (fun x hx => (hq1 x hx).1) x hx; omega), by omega, by omega, by omega, by omega, fun x hx => (hq1 x hx).1, hs3.turn hT (fun e => hRB e.symm) hSR, Turn.trans tT3 hT (fun i hi e => by omega)⟩) ?_
  exact Turn.hereD (Turn.hereD (Turn.hereD (Turn.refl _ _) _) _) _

end Go.Proofs.Ytdkjgjjkjfeodaa

namespace Go.Proofs.Ytdkjgjjkjfeodaa
open Go.RowKit Go.Sort
set_option linter.unusedVariables false
set_option linter.unusedSimpArgs false
set_option maxRecDepth 100000

/-- An entry, bent or not, that was drawn. -/
def EnBn (w : World) (B : Nat) (a : Option Addr) (n c : Nat) (zs : List Int) (t : Nat) (e : Ending) (w' : World) : Prop :=
  ∃ (ep ki pe : Int) (q : Option Addr) (l cl t' : Nat) (es : List Int), e = .returned (.agg #[.int .i64 ep, .int .i64 ki, .int .i64 pe, .slice q l cl]) ∧ EqB w' q l cl es ∧ l ≤ 61 ∧ (0 ≤ ep ∧ ep ≤ 1001) ∧ (0 ≤ ki ∧ ki ≤ 5) ∧ (-1 ≤ pe ∧ pe ≤ 3) ∧ t' ≤ t + 820 ∧ (∀ x, q = some x → w.heap.size < x.block) ∧ Sc w' B a n c zs t' ∧ Turn (fun k => k = B) w w'

set_option maxHeartbeats 6400000 in
theorem l10Bent_sc {B n c t : Nat} {a : Option Addr} {zs : List Int} {w : World} (h : Sc w B a n c zs t) (ht : t ≤ 7600) :
    Calls Try.prog 44 #[.pointer (some ⟨B, 0, none⟩)] w fun e w' => EnBn w B a n c zs t e w' := by
  have hlt := h.blk.lt
  have hA := h.lt_of
  have N0 : New w (w.alloc (.cells #[.int .i64 0, .int .i64 0, .int .i64 0, .slice none 0 0] 40)) := (New.refl w).alloc _
  have bR0 := Blk.mk w w.heap.size 40 #[.int .i64 0, .int .i64 0, .int .i64 0, .slice none 0 0] rfl
  have y0 : (w.alloc (.cells #[.int .i64 0, .int .i64 0, .int .i64 0, .slice none 0 0] 40)).heap.size = w.heap.size + 1 := by simp
  have hs0 := h.new N0
  have tT0 : Turn (fun k => k = B) w (w.alloc (.cells #[.int .i64 0, .int .i64 0, .int .i64 0, .slice none 0 0] 40)) := N0.turn
  have hRB : ¬ w.heap.size = B := by omega
  have hSR : ∀ x, zs ≠ [] → a = some x → ¬ x.block = w.heap.size := fun x h1 h2 e => by have := hA x h1 h2; omega
  have z0 : w.heap.size < (w.alloc (.cells #[.int .i64 0, .int .i64 0, .int .i64 0, .slice none 0 0] 40)).heap.size := by omega
  clear y0
  go_enter Try.func44, Try.ntmps44
  go_wp2_with fail
  refine (next_sc hs0 4 (by omega) (by omega)).mono ?_
  rintro e wa ⟨y, rfl, ⟨p0, p1, -⟩, hsa, tna⟩
  have p1 := p1 (by omega)
  have bRa := bR0.turn tna hRB
  have tTa := Turn.both tT0 tna
  have hwy : IntKind.i64.wrap (1 + y) = 1 + y := wrap_in (by omega)
  have za : w.heap.size < wa.heap.size := bRa.lt
  clear bR0 tT0 z0
  go_wp2_with fail
  refine (l9Bent_sc hsa (by omega)).mono ?_
  rintro e w1 ⟨ki, pe, q, l, cl, t1, es, rfl, hE1, hl, hk, hp, ht1, hq, hs1, tn1⟩
  have bR1 := bRa.turn tn1 hRB
  have tT1 := Turn.both tTa tn1
  have z1 : w.heap.size < w1.heap.size := by have := tn1.size; omega
  have hq1 : ∀ x, q = some x → w.heap.size < x.block ∧ x.block < w1.heap.size := by
    intro x hx
    refine ⟨by have := hq x hx; omega, ?_⟩
    rcases hE1.2.2.2 with ⟨e, _⟩ | ⟨g, e, hg⟩
    · rw [e] at hx; cases hx
    · rw [e] at hx; cases hx; exact hg
  clear bRa tTa tn1 hq tna
  go_upto_region 2 with fail
  have hal : New w1 (w1.alloc (.cells #[.int .i64 (1 + y), .int .i64 ki, .int .i64 pe, .slice q l cl] 40)) := (New.refl _).alloc _
  have bV2 : Blk (w1.alloc (.cells #[.int .i64 (1 + y), .int .i64 ki, .int .i64 pe, .slice q l cl] 40)) w1.heap.size 40 #[.int .i64 (1 + y), .int .i64 ki, .int .i64 pe, .slice q l cl] := Blk.mk _ _ _ _ rfl
  have bR2 := bR1.new hal
  have hs2 := hs1.new hal
  have hE2 := hE1.turn (S := fun _ => False) hal.turn (fun _ _ e => e)
  have tT2 := Turn.andNew tT1 hal
  have hVB : ¬ w1.heap.size = B := by have := hs1.blk.lt; omega
  have v2 : w1.heap.size < (w1.alloc (.cells #[.int .i64 (1 + y), .int .i64 ki, .int .i64 pe, .slice q l cl] 40)).heap.size := by simp
  clear bR1 hs1 tT1 hal hE1
  generalize (w1.alloc (.cells #[.int .i64 (1 + y), .int .i64 ki, .int .i64 pe, .slice q l cl] 40)) = w2 at *
  go_wp2_with fail
  refine (chance_sc hs2 10 (by omega) (by omega)).mono ?_
  rintro e w3 ⟨r, rfl, hs3, tn3⟩
  have bV3 := bV2.turn tn3 hVB
  have bR3 := bR2.turn tn3 hRB
  have hE3 := hE2.turn tn3 (fun x hx e => by have := hq1 x hx; omega)
  have tT3 := Turn.both tT2 tn3
  have s3 : w2.heap.size ≤ w3.heap.size := tn3.size
  clear bV2 bR2 hs2 tT2 tn3 hE2
  cases r
  case false =>
    have cR := bR3.cells
    have fR := bR3.frees
    have cV := bV3.cells
    go_wp2
    refine bodyPost_ret (v := .agg #[.int .i64 (1 + y), .int .i64 ki, .int .i64 pe, .slice q l cl]) (by simp [results, Try.results44, go_sem, cR]) rfl ?_
    refine (fun (hT : Turn (fun k => k = w.heap.size) w3 _) => ⟨(1 + y), ki, pe, q, l, cl, _, es, rfl, hE3.turn hT (fun x hx e => by have := hq1 x hx; omega), hl, by omega, hk, hp, by omega, fun x hx => (hq1 x hx).1, hs3.turn hT (fun e => hRB e.symm) hSR, Turn.trans tT3 hT (fun i hi e => by omega)⟩) ?_
    exact Turn.hereD (Turn.hereD (Turn.hereD (Turn.hereD (Turn.refl _ _) _) _) _) _
  case true =>
    go_wp2_with fail
    refine (pick_sc (hs3.new ((New.refl _).alloc (.cells #[.int .i64 0, .int .i64 1000, .int .i64 1001] 2))) [0, 1000, 1001] (Blk.mk w3 w3.heap.size 2 #[.int .i64 0, .int .i64 1000, .int .i64 1001] rfl) 3 rfl (by omega) (by omega) (by omega)).mono ?_
    rintro e w4 ⟨v, rfl, hv, hs4, tn4⟩
    have hv : 0 ≤ v ∧ v ≤ 1001 := by simp only [List.mem_cons, List.not_mem_nil, or_false] at hv; omega
    have bV4 := (bV3.alloc (.cells #[.int .i64 0, .int .i64 1000, .int .i64 1001] 2)).turn tn4 hVB
    have bR4 := (bR3.alloc (.cells #[.int .i64 0, .int .i64 1000, .int .i64 1001] 2)).turn tn4 hRB
    have hE4 := (hE3.turn (S := fun _ => False) ((New.refl _).alloc (.cells #[.int .i64 0, .int .i64 1000, .int .i64 1001] 2)).turn (fun _ _ e => e)).turn tn4 (fun x hx e => by have := hq1 x hx; omega)
    have tT4 := Turn.both (Turn.andNew tT3 ((New.refl _).alloc (.cells #[.int .i64 0, .int .i64 1000, .int .i64 1001] 2))) tn4
    have s4 : w3.heap.size ≤ w4.heap.size := by have := tn4.size; simp at this; omega
    clear bV3 bR3 tT3 hs3 tn4 hE3
    have hTs : Turn (fun k => k = w1.heap.size) w4 (w4.setCell ⟨w1.heap.size, 0, none⟩ (.int .i64 v)) := Turn.hereD (Turn.refl _ _) _
    have bV5 : Blk (w4.setCell ⟨w1.heap.size, 0, none⟩ (.int .i64 v)) w1.heap.size 40 #[.int .i64 v, .int .i64 ki, .int .i64 pe, .slice q l cl] := (bV4.set 0 _)
    have bR5 := bR4.turn hTs (by omega)
    have hs5 := hs4.turn hTs (by omega) (fun x h1 h2 e => by have := hA x h1 h2; omega)
    have hE5 := hE4.turn hTs (fun x hx e => by have := hq1 x hx; omega)
    have tT5 := Turn.trans tT4 hTs (fun i hi e => by omega)
    have cV4 := bV4.cells
    have fV4 := bV4.frees
    go_upto_region 4 with fail
    clear bV4 bR4 hs4 tT4 hTs cV4 fV4 hE4
    generalize (w4.setCell ⟨w1.heap.size, 0, none⟩ (.int .i64 v)) = w5 at *
    have cR := bR5.cells
    have fR := bR5.frees
    have cV := bV5.cells
    go_wp2
    refine bodyPost_ret (v := .agg #[.int .i64 v, .int .i64 ki, .int .i64 pe, .slice q l cl]) (by simp [results, Try.results44, go_sem, cR]) rfl ?_
    refine (fun (hT : Turn (fun k => k = w.heap.size) w5 _) => ⟨v, ki, pe, q, l, cl, _, es, rfl, hE5.turn hT (fun x hx e => by have := hq1 x hx; omega), hl, by omega, hk, hp, by omega, fun x hx => (hq1 x hx).1, hs5.turn hT (fun e => hRB e.symm) hSR, Turn.trans tT5 hT (fun i hi e => by omega)⟩) ?_
    exact Turn.hereD (Turn.hereD (Turn.hereD (Turn.hereD (Turn.refl _ _) _) _) _) _

end Go.Proofs.Ytdkjgjjkjfeodaa

namespace Go.Proofs.Ytdkjgjjkjfeodaa
open Go.RowKit Go.Sort
set_option linter.unusedVariables false
set_option linter.unusedSimpArgs false
set_option maxRecDepth 100000

set_option maxHeartbeats 6400000 in
theorem drawAj (a : Option Addr) (n c : Nat) (zs : List Int) (w : World) (h : BsAt w a zs) (hn : zs.length = n) (hm : n ≤ 2097152) (ha : ∀ x, zs ≠ [] → a = some x → x.block < w.heap.size) :
    Calls Try.prog 15 #[.slice a n c] w fun e w' => ∃ (A1 A2 : Option Addr) (n1 c1 n2 c2 : Nat) (us vs : List Int) (ep ki pe : Int) (q : Option Addr) (l cl : Nat) (es : List Int), e = .returned (.tuple #[.agg #[.slice A1 n1 c1, .slice A2 n2 c2], .agg #[.int .i64 ep, .int .i64 ki, .int .i64 pe, .slice q l cl]]) ∧ BsAt w' A1 us ∧ BsAt w' A2 vs ∧ us.length = n1 ∧ vs.length = n2 ∧ n1 ≤ c1 ∧ n2 ≤ c2 ∧ Sl10 w' A1 n1 c1 ∧ Sl10 w' A2 n2 c2 ∧ n1 ≤ 7000 ∧ n2 ≤ 7000 ∧ EqB w' q l cl es ∧ l ≤ 61 ∧ (0 ≤ ep ∧ ep ≤ 1001) ∧ (0 ≤ ki ∧ ki ≤ 5) ∧ (-1 ≤ pe ∧ pe ≤ 3) ∧ New w w' := by
  have Na := (New.refl w).alloc (.cells #[.slice none 0 0, .slice none 0 0] 25)
  have Ra := Blk.mk w w.heap.size 25 #[.slice none 0 0, .slice none 0 0] rfl
  have ya : (w.alloc (.cells #[.slice none 0 0, .slice none 0 0] 25)).heap.size = w.heap.size + 1 := by simp
  have Nb := (New.refl (w.alloc (.cells #[.slice none 0 0, .slice none 0 0] 25))).alloc (.cells #[.int .i64 0, .int .i64 0, .int .i64 0, .slice none 0 0] 40)
  have Q0 : Blk ((w.alloc (.cells #[.slice none 0 0, .slice none 0 0] 25)).alloc (.cells #[.int .i64 0, .int .i64 0, .int .i64 0, .slice none 0 0] 40)) (w.heap.size + 1) 40 #[.int .i64 0, .int .i64 0, .int .i64 0, .slice none 0 0] := by have := Blk.mk (w.alloc (.cells #[.slice none 0 0, .slice none 0 0] 25)) (w.alloc (.cells #[.slice none 0 0, .slice none 0 0] 25)).heap.size 40 #[.int .i64 0, .int .i64 0, .int .i64 0, .slice none 0 0] rfl; rw [ya] at this; exact this
  have R0 := Ra.new Nb
  have N0 := Na.trans Nb
  go_enter Try.func15, Try.ntmps15
  go_upto_region 1 with fail
  clear Ra Na Nb
  generalize hW0 : ((w.alloc (.cells #[.slice none 0 0, .slice none 0 0] 25)).alloc (.cells #[.int .i64 0, .int .i64 0, .int .i64 0, .slice none 0 0] 40)) = w0 at *
  clear hW0
  have l0 := Q0.lt
  go_wp2_with fail
  refine (source_any a n c zs _ (h.new N0) hn hm (fun x hz hx => by have := ha x hz hx; omega)).mono ?_
  rintro e w1 ⟨B, rfl, hB, s1, hn1⟩
  have R1 := R0.new hn1
  have Q1 := Q0.new hn1
  have N1 := N0.trans hn1
  have B1 := s1.blk.lt
  clear R0 N0 hn1 Q0
  go_wp2_with fail
  refine (l10Journal_sc s1 (by omega)).mono ?_
  rintro e w2 ⟨A1, A2, n1, c1, n2, c2, t2, us, vs, rfl, x1, x2, k1, k2, q1, q2, sl1, sl2, m1, m2, B3, B4, ht2, s2, tt2⟩
  have SL1 : Hid (Sl10 w2 A1 n1 c1) := sl1
  have SL2 : Hid (Sl10 w2 A2 n2 c2) := sl2
  have K1 : Hid (us.length = n1) := k1
  have K2 : Hid (vs.length = n2) := k2
  clear sl1 sl2 k1 k2
  have RB : ¬ w.heap.size = B := by omega
  have QB : ¬ w.heap.size + 1 = B := by omega
  have R2 := R1.turn tt2 RB
  have Q2 := Q1.turn tt2 QB
  have N2 := N1.before tt2 (by intro i hi e; omega)
  have B2 := s2.blk.lt
  have l2 := Q2.lt
  have z12 := tt2.size
  have lR1 := Q1.lt
  have al := (New.refl w2).alloc (.cells #[.slice A1 n1 c1, .slice A2 n2 c2] 25)
  have C3 := Blk.mk w2 w2.heap.size 25 #[.slice A1 n1 c1, .slice A2 n2 c2] rfl
  have R3 := R2.new al
  have Q3 := Q2.new al
  have N3 := N2.trans al
  have s3 := s2.new al
  have x13 := x1.new al
  have x23 := x2.new al
  have CB : ¬ w2.heap.size = B := by omega
  have z3 := al.size
  go_upto_region 3 with fail
  generalize w2.alloc (.cells #[.slice A1 n1 c1, .slice A2 n2 c2] 25) = w3 at *
  clear R1 N1 s1 R2 N2 s2 al tt2 x1 x2 Q1 Q2
  refine hw_start (n := 5) (S := fun X => Turn (fun i => i = B ∨ i = w.heap.size ∨ i = w.heap.size + 1) w3 X) rfl (by kernel_rfl) (((New.refl _).drew).turn) (fun hH => ?_)
  have s3d := s3.new ((New.refl w3).drew)
  have R3d := R3.new ((New.refl w3).drew)
  have Q3d := Q3.new ((New.refl w3).drew)
  have N3d := N3.drew
  have x1d := x13.new ((New.refl w3).drew)
  have x2d := x23.new ((New.refl w3).drew)
  have z3d := hH.size
  generalize w3.drew = w3d at *
  refine' hw_take 0 (some 10) (.agg #[.slice A1 n1 c1, .slice A2 n2 c2]) rfl rfl (by kernel_rfl) (by kernel_rfl) (by kernel_rfl) (fun _ _ _ h => h) (by rfl) hH ?hzA ?rzA
  case hzA =>
    intro X hX
    exact run_load_blk 25 (.tmp 5) rfl w2.heap.size rfl #[.slice A1 n1 c1, .slice A2 n2 c2] _ (C3.turn hX (by omega)) Try.underlying25 rfl (by kernel_rfl)
  simp only [Act.put, List.setIfInBounds_toArray, List.set_cons_zero, List.set_cons_succ]
  refine' hw_take 1 (some 11) _ rfl rfl (by kernel_rfl) (by kernel_rfl) (by kernel_rfl) (fun _ _ _ h => h) (by rfl) hH ?hy1 ?rest1
  case hy1 =>
    intro X hX
    go_simp
    try rfl
  simp only [Act.put, List.setIfInBounds_toArray, List.set_cons_zero, List.set_cons_succ]
  refine hw_call 2 (some 12) rfl rfl (by kernel_rfl) (by rfl) (fun K hK => ?_)
  go_simp
  refine (l10Bent_sc s3d (by omega)).mono ?_
  rintro e vv ⟨ep, ki, pe, q, l, cl, tq, es, rfl, hE, hl, hep, hk, hp, htq, hq, sv, htv⟩
  go_simp
  have hTv := Turn.trans hH (htv.mono (T := (fun i => i = B ∨ i = w.heap.size ∨ i = w.heap.size + 1)) (fun i _ e => .inl e)) (fun i _ e => e)
  refine hK.out _ _ hTv (fun _ => ?_)
  simp only [Act.put, List.setIfInBounds_toArray, List.set_cons_zero, List.set_cons_succ]
  have Rv := R3d.turn htv RB
  have Qv := Q3d.turn htv QB
  have Nv := N3d.before htv (by intro i hi e; omega)
  have e1 : ∀ x, A1 = some x → ¬ x.block = B := fun x e => by have := B3 x e; omega
  have e2 : ∀ x, A2 = some x → ¬ x.block = B := fun x e => by have := B4 x e; omega
  have xv1 := x1d.turn htv (fun x e => e1 x e)
  have xv2 := x2d.turn htv (fun x e => e2 x e)
  have zz : w2.heap.size ≤ vv.heap.size := by have q1 := hTv.size; omega
  refine hw_call 3 none rfl rfl (by kernel_rfl) (by rfl) (fun K hK => ?_)
  refine hw_store 25 (.tmp 2) (.tmp 10) rfl rfl w.heap.size #[.slice A1 n1 c1, .slice A2 n2 c2] #[.slice none 0 0, .slice none 0 0] rfl rfl Rv (by kernel_rfl) rfl (by kernel_rfl) ?_
  have tR := Turn.rowW (Turn.refl (fun i => i = w.heap.size) vv) rfl #[.slice A1 n1 c1, .slice A2 n2 c2]
  have bR := Rv.rowW #[.slice A1 n1 c1, .slice A2 n2 c2]
  have Qr := Qv.turn tR (by omega)
  have NR := Nv.before tR (by intro i hi e; omega)
  have y1 := xv1.turn tR (fun x e q => by have := B3 x e; omega)
  have y2 := xv2.turn tR (fun x e q => by have := B4 x e; omega)
  have hEr := hE.turn tR (fun x hx e => by have := hq x hx; omega)
  have zR := tR.size
  have hTw := Turn.trans hTv (tR.mono (T := (fun i => i = B ∨ i = w.heap.size ∨ i = w.heap.size + 1)) (fun i _ e => .inr (.inl e))) (fun i _ e => e)
  refine hK.out undef _ hTw (fun _ => ?_)
  generalize vv.setRow w.heap.size #[.slice A1 n1 c1, .slice A2 n2 c2] = ww at *
  try simp only [Act.put, List.setIfInBounds_toArray, List.set_cons_zero, List.set_cons_succ]
  refine hw_call 4 none rfl rfl (by kernel_rfl) (by rfl) (fun K hK => ?_)
  refine hw_store 40 (.tmp 3) (.tmp 12) rfl rfl (w.heap.size + 1) #[.int .i64 ep, .int .i64 ki, .int .i64 pe, .slice q l cl] #[.int .i64 0, .int .i64 0, .int .i64 0, .slice none 0 0] rfl rfl Qr (by kernel_rfl) rfl (by kernel_rfl) ?_
  have tQ := Turn.rowW (Turn.refl (fun i => i = w.heap.size + 1) ww) rfl #[.int .i64 ep, .int .i64 ki, .int .i64 pe, .slice q l cl]
  have bQ := Qr.rowW #[.int .i64 ep, .int .i64 ki, .int .i64 pe, .slice q l cl]
  have bR' := bR.turn tQ (by omega)
  have NQ := NR.before tQ (by intro i hi e; omega)
  have y1' := y1.turn tQ (fun x e q => by have := B3 x e; omega)
  have y2' := y2.turn tQ (fun x e q => by have := B4 x e; omega)
  have hEq := hEr.turn tQ (fun x hx e => by have := hq x hx; omega)
  have zQ := tQ.size
  have hTq := Turn.trans hTw (tQ.mono (T := (fun i => i = B ∨ i = w.heap.size ∨ i = w.heap.size + 1)) (fun i _ e => .inr (.inr e))) (fun i _ e => e)
  refine hK.out undef _ hTq (fun _ => ?_)
  generalize ww.setRow (w.heap.size + 1) #[.int .i64 ep, .int .i64 ki, .int .i64 pe, .slice q l cl] = wq at *
  try simp only [Act.put, List.setIfInBounds_toArray, List.set_cons_zero, List.set_cons_succ]
  refine wpAnyH_done (by kernel_rfl) ?_ _
  have cR := bR'.cells
  have cQ := bQ.cells
  go_wp2
  exact bodyPost_ret (v := .tuple #[.agg #[.slice A1 n1 c1, .slice A2 n2 c2], .agg #[.int .i64 ep, .int .i64 ki, .int .i64 pe, .slice q l cl]]) (by simp [results, Try.results15, go_sem, cR, cQ]) rfl ⟨A1, A2, n1, c1, n2, c2, us, vs, ep, ki, pe, q, l, cl, es, rfl, y1', y2', K1.out, K2.out, q1, q2, SL1.out.up (by omega), SL2.out.up (by omega), m1, m2, hEq, hl, hep, hk, hp, NQ⟩

end Go.Proofs.Ytdkjgjjkjfeodaa

namespace Go.Proofs.Ytdkjgjjkjfeodaa
open Go.RowKit Go.Sort
set_option linter.unusedVariables false
set_option linter.unusedSimpArgs false

theorem blk_ne8 {w : World} {B lo : Nat} {t : TypeId} {cs : Array Value} {v : Value} {xs : List Int} (h : Blk w B t cs) (ho : OvB w lo v xs) (hne : t ≠ 5) : ¬ v.ownBlock = some B := by
  intro e
  rcases ho.form with ⟨rfl, -⟩ | ⟨g, c, rfl, -, -, hr⟩
  · simp [Value.ownBlock] at e
  · have e' : g = B := by simpa [Value.ownBlock] using e
    exact Blk.ne_own h hr hne e'.symm

theorem BsAt.some7 {w : World} {a : Option Addr} {xs : List Int} (h : BsAt w a xs) (hl : 0 < xs.length) : ¬ a = none := by
  intro e
  subst e
  obtain ⟨b, off, z, h1, -⟩ := h.at 0 hl
  cases h1
/-- A list that was read, at blocks from lo up to hi. -/
structure Rd7 (w : World) (lo hi : Nat) (y : Option Addr) (U : List EnV) : Prop where
  at' : EnAt w y U
  row : ∀ x, y = some x → lo ≤ x.block ∧ x.block < hi
  bys : ∀ u ∈ U, ∀ x, u.a = some x → lo ≤ x.block ∧ x.block < hi
theorem Rd7.mk0 {w : World} {lo hi d : Nat} {y : Option Addr} {U : List EnV} (h : EnAt w y U) (k : (y = none ∧ U = []) ∨ ∃ g, y = some ⟨g, 0, none⟩ ∧ OwE w lo hi g U.length d U) : Rd7 w lo hi y U := by
  rcases k with ⟨rfl, rfl⟩ | ⟨g, rfl, ho⟩
  · exact ⟨h, (fun x e => by cases e), (fun u hu => by cases hu)⟩
  · exact ⟨h, (fun x e => by cases e; exact ho.glo), fun u hu x e => ⟨(ho.inn u hu x e).1, (ho.inn u hu x e).2.1⟩⟩
theorem Rd7.new {w w' : World} {lo hi : Nat} {y : Option Addr} {U : List EnV} (h : Rd7 w lo hi y U) (t : New w w') : Rd7 w' lo hi y U := ⟨h.at'.new t, h.row, h.bys⟩
theorem Rd7.put {w w' : World} {lo hi B : Nat} {y : Option Addr} {U : List EnV} (h : Rd7 w lo hi y U) (t : Turn (fun i => i = B) w w') (hB : B < lo ∨ hi ≤ B) : Rd7 w' lo hi y U :=
  ⟨h.at'.turn t (fun x _ e k => by have := h.row x e; omega) (fun u hu x _ e k => by have := h.bys u hu x e; omega), h.row, h.bys⟩

theorem own_nil7 {w : World} {lo n c : Nat} {a : Option Addr} {xs : List Value} (h : w.ownsRow lo 5 1 (.slice a n c) n xs) (ha : a = none) : c = 0 := by
  subst ha
  rcases h.2 with ⟨h1, -⟩ | ⟨g, cap, cur, h1, -⟩
  · simp at h1; exact h1.2
  · simp at h1
theorem ReAns.er7 {w w' : World} {zs : List Int} {e : Ending} (hz : ∀ z ∈ zs, 0 ≤ z ∧ z ≤ 255) (h : ReAns w zs e w') : (∃ (y : Option Addr) (d : Nat) (U : List EnV), e = .returned (.agg #[.int .i64 (reZ zs), .int .i64 (reU zs), .slice y U.length d]) ∧ U.map EnV.r = reD zs ∧ EnAt w' y U ∧ ((y = none ∧ U = []) ∨ ∃ g, y = some ⟨g, 0, none⟩ ∧ OwE w' w.heap.size w'.heap.size g U.length d U) ∧ New w w' ∧ ∀ u ∈ U, u.a = none → u.c = 0) := by
  unfold ReAns at h
  unfold reZ reU reD
  by_cases hb : 6000 < zs.length
  · rw [if_pos hb] at h
    rw [if_pos hb, if_pos hb, if_pos hb]
    obtain ⟨rfl, hn⟩ := h
    exact ⟨none, 0, [], rfl, rfl, by intro i u hu; simp at hu, .inl ⟨rfl, rfl⟩, hn, by simp⟩
  · rw [if_neg hb] at h
    rw [if_neg hb, if_neg hb, if_neg hb]
    obtain ⟨y, k, d, V, rfl, rfl, hR, hV⟩ := h
    have hby : ∀ x ∈ V, (x.by zs).length = eSz (zs.drop x.t) - 8 := fun x hx => by simpa using (hR.own.own x hx).1
    have hzb : ∀ x ∈ V, ∀ z ∈ x.by zs, 0 ≤ z ∧ z ≤ 255 := fun x hx z hz' => hz z (List.mem_of_mem_drop (List.mem_of_mem_drop (List.mem_of_mem_take hz')))
    have hlb : ∀ x ∈ V, (x.by zs).length ≤ 6000 := fun x hx => by
      have h1 := hby x hx
      have h2 := eSz_le (zs.drop x.t)
      rw [List.length_drop] at h2
      omega
    have hce := cellsE_ev zs V hby
    have hrow : w'.ownsRow w.heap.size 40 4 (.slice y V.length d) V.length (cellsE (V.map (evU zs))) := by rw [hce]; exact hR.row
    have hget : ∀ (i : Nat) (u : EnV), (V.map (evU zs))[i]? = some u → ∃ x, V[i]? = some x ∧ x ∈ V ∧ u = evU zs x := by
      intro i u hu
      rw [List.getElem?_map] at hu
      obtain ⟨x, hx, rfl⟩ := Option.map_eq_some_iff.1 hu
      exact ⟨x, hx, List.mem_of_getElem? hx, rfl⟩
    have hown : ∀ x ∈ V, w'.ownsRow w.heap.size 5 1 (.slice x.a (x.by zs).length x.cap) (x.by zs).length ((x.by zs).map (Value.int .u8)) := fun x hx => by
      have := hR.own.own x hx
      unfold EvM.pv at this
      rw [← hby x hx] at this
      exact this
    have hbs : ∀ x ∈ V, BsAt w' x.a (x.by zs) := fun x hx => (owat_row (hown x hx)).1.bs (hzb x hx)
    refine ⟨y, d, V.map (evU zs), by rw [List.length_map], ?_, ?_, ?_, hR.new, by intro u hu ha; obtain ⟨x, hx, rfl⟩ := List.mem_map.1 hu; exact own_nil7 (hown x hx) ha⟩
    · rw [List.map_map, ← hV, List.map_map]
      rfl
    · intro i u hu
      obtain ⟨x, hx, hxm, rfl⟩ := hget i u hu
      refine ⟨?_, hbs x hxm, hlb x hxm⟩
      rcases hrow.2 with ⟨h1, h2⟩ | ⟨g, cap, cur, h1, h2, h3, r⟩
      · have : V.length = 0 := h2
        have := (List.getElem?_eq_some_iff.1 hx).1
        omega
      · obtain ⟨rfl, rfl⟩ : y = some ⟨g, 0, none⟩ ∧ d = cap := by simp at h1; exact ⟨h1.1, h1.2⟩
        refine ⟨g, rfl, fun j hj => ?_⟩
        rw [World.ownsRow.cellAt hrow (i * 4 + j) (by have := (List.getElem?_eq_some_iff.1 hx).1; omega)]
        exact cellsE_get _ i _ hu j hj
    · rcases hrow.2 with ⟨h1, h2⟩ | ⟨g, cap, cur, h1, h2, h3, r⟩
      · have h0 : V.length = 0 := h2
        obtain rfl : V = [] := List.eq_nil_of_length_eq_zero h0
        obtain ⟨rfl, -⟩ : y = none ∧ d = 0 := by simp at h1; exact ⟨h1.1, h1.2⟩
        exact .inl ⟨rfl, rfl⟩
      · obtain ⟨rfl, rfl⟩ : y = some ⟨g, 0, none⟩ ∧ d = cap := by simp at h1; exact ⟨h1.1, h1.2⟩
        refine .inr ⟨g, rfl, ⟨?_, ?_, ?_, ?_, ⟨h2, (Array.getElem?_eq_some_iff.1 h3).1⟩, ?_⟩⟩
        · rw [List.length_map]
          exact own_base hrow
        · intro i u hu
          obtain ⟨x, hx, hxm, rfl⟩ := hget i u hu
          exact (owat_row (hown x hxm)).1
        · intro u hu
          obtain ⟨x, hx, rfl⟩ := List.mem_map.1 hu
          exact hlb x hx
        · intro u hu ad had
          obtain ⟨x, hx, rfl⟩ := List.mem_map.1 hu
          obtain ⟨k1, k2, k3⟩ := (owat_row (hown x hx)).2 ad had
          refine ⟨k1, k2, fun e => ?_⟩
          exact row_ne_row hrow (hown x hx) (by decide) g rfl (by rw [k3, e])
        · intro i j u v ad ad' hu hv hij had had' e
          obtain ⟨x, hx, hxm, rfl⟩ := hget i u hu
          obtain ⟨x', hx', hxm', rfl⟩ := hget j v hv
          have k3 := ((owat_row (hown x hxm)).2 ad had).2.2
          have k3' := ((owat_row (hown x' hxm')).2 ad' had').2.2
          refine hR.own.apart i j x x' ad.block hx hx' hij ?_ ?_
          · unfold EvM.pv; rw [← hby x hxm]; exact k3
          · unfold EvM.pv; rw [← hby x' hxm', e]; exact k3'

end Go.Proofs.Ytdkjgjjkjfeodaa
