/- What is proved here: lemmas and contracts that the text of the law reaches; each names its own conditions. -/
import Derived.Test.YtebkdaddndlmoaaGreatLY4
import Derived.Test.YtebkdaddndlmoaaGreatLY23
import Derived.Deep.RegionHeld3
import Derived.Test.YtebkdaddndlmoaaGreatLY8
namespace Go.Proofs.YtebkdaddndlmoaaGreat
open Go.RowKit Go.Sort
set_option linter.unusedVariables false
set_option linter.unusedSimpArgs false
set_option maxRecDepth 100000
set_option maxHeartbeats 25600000

theorem results_row1 {fn : Func} {t : Tmp} {ty : TypeId} {P : Program} {w : World} {tmps : Array Value} {B : Nat} {cs : Array Value} (h : fn.results = #[.cell t ty])
    (ht : tmps[t]? = some (.pointer (some ⟨B, 0, none⟩))) (hb : Blk w B ty cs) (hu : ∃ fs, P.underlying ty = some (.struct fs)) (hi : (P.info? ty).map (·.size) = some cs.size) : (results fn tmps).run P w = .ok (.agg cs) w := by
  obtain ⟨f, hu⟩ := hu
  have hl := run_loadVar_row (P := P) w B ty ty cs (0, 0) (.struct f) hb hu rfl hi
  simp [results, h, ht, asAddr, hl]

theorem max_any (a b : Int) (w : World) : Calls Tryz.prog 159 #[.int .i64 a, .int .i64 b] w fun e w' => e = .returned (.int .i64 (max a b)) ∧ w' = w := by
  by_cases h : b < a
  · have e : max a b = a := by omega
    rw [e]
    clear e
    go_enter Tryz.func159, Tryz.ntmps159
    go_wp2
    go_ret
    exact ⟨rfl, rfl⟩
  · have e : max a b = b := by omega
    rw [e]
    clear e
    go_enter Tryz.func159, Tryz.ntmps159
    go_wp2
    go_ret
    exact ⟨rfl, rfl⟩
theorem min_any (a b : Int) (w : World) : Calls Tryz.prog 160 #[.int .i64 a, .int .i64 b] w fun e w' => e = .returned (.int .i64 (min a b)) ∧ w' = w := by
  by_cases h : a < b
  · have e : min a b = a := by omega
    rw [e]
    clear e
    go_enter Tryz.func160, Tryz.ntmps160
    go_wp2
    go_ret
    exact ⟨rfl, rfl⟩
  · have e : min a b = b := by omega
    rw [e]
    clear e
    go_enter Tryz.func160, Tryz.ntmps160
    go_wp2
    go_ret
    exact ⟨rfl, rfl⟩

theorem mailAt_any (k at1 : Int) (B : Nat) (id : Int) (up : Bool) (ro ep su ma ot co : Int) (A : Option Addr) (n c : Nat) (w : World) (hb : Blk w B 108 #[.int .i64 id, .bool up, .int .i64 ro, .int .i64 ep, .slice A n c, .int .i64 su, .int .i64 ma, .int .i64 ot, .int .i64 co]) (hid : id = 0 ∨ id = 1) :
    Calls Tryz.prog 166 #[.pointer (some ⟨B, 0, none⟩), .int .i64 k, .int .i64 at1] w fun e w' => e = .returned (.agg #[.int .i64 k, .int .i64 (1 - id), .int .i64 ep, .int .i64 at1, .int .i64 0, .bool false, .int .i64 0, .int .i64 0, .int .i64 0, .slice none 0 0]) ∧ New w w' := by
  have al := (New.refl w).alloc (.cells #[.int .i64 0, .int .i64 0, .int .i64 0, .int .i64 0, .int .i64 0, .bool false, .int .i64 0, .int .i64 0, .int .i64 0, .slice none 0 0] 137)
  have b0 := hb.new al
  have b1 := Blk.mk w w.heap.size 137 #[.int .i64 0, .int .i64 0, .int .i64 0, .int .i64 0, .int .i64 0, .bool false, .int .i64 0, .int .i64 0, .int .i64 0, .slice none 0 0] rfl
  have hwr : IntKind.i64.wrap (1 - id) = 1 - id := by simp [IntKind.wrap, IntKind.signed, IntKind.bits]; omega
  have hBn : ¬ B = w.heap.size := by have := hb.lt; omega
  clear hid
  go_enter Tryz.func166, Tryz.ntmps166
  go_upto_region 1 with fail
  generalize w.alloc (.cells #[.int .i64 0, .int .i64 0, .int .i64 0, .int .i64 0, .int .i64 0, .bool false, .int .i64 0, .int .i64 0, .int .i64 0, .slice none 0 0] 137) = w0 at *
  refine hw_start (n := 13) (S := fun X => Turn (fun i => i = w.heap.size) w0 X) rfl (by kernel_rfl) (((New.refl _).drew).turn) (fun hH => ?_)
  refine' hw_t 0 (some 7) _ rfl rfl hH ?hy1 ?rest1
  case hy1 =>
    intro X hX
    go_simp
    try rfl
  simp only [Act.put, pA9, pB9, pC9]
  refine' hw_t 1 (some 8) _ rfl rfl hH ?hy2 ?rest2
  case hy2 =>
    intro X hX
    go_simp
    try rfl
  simp only [Act.put, pA9, pB9, pC9]
  refine' hw_t 2 (some 9) _ rfl rfl hH ?hy3 ?rest3
  case hy3 =>
    intro X hX
    go_simp
    try rfl
  simp only [Act.put, pA9, pB9, pC9]
  refine' hw_t 3 (some 10) _ rfl rfl hH ?hy4 ?rest4
  case hy4 =>
    intro X hX
    go_simp
    try rfl
  simp only [Act.put, pA9, pB9, pC9]
  refine' hw_t 4 (some 11) _ rfl rfl hH ?hy5 ?rest5
  case hy5 =>
    intro X hX
    have cX := (b0.turn hX hBn).cells
    go_simp
    try rfl
  simp only [Act.put, pA9, pB9, pC9]
  refine' hw_t 5 (some 12) _ rfl rfl hH ?hy6 ?rest6
  case hy6 =>
    intro X hX
    go_simp
    try rfl
  simp only [Act.put, pA9, pB9, pC9]
  refine' hw_t 6 (some 13) _ rfl rfl hH ?hy7 ?rest7
  case hy7 =>
    intro X hX
    go_simp
    try rfl
  simp only [Act.put, pA9, pB9, pC9]
  refine' hw_t 7 (some 14) _ rfl rfl hH ?hy8 ?rest8
  case hy8 =>
    intro X hX
    go_simp
    try rfl
  simp only [Act.put, pA9, pB9, pC9]
  refine' hw_t 8 (some 15) _ rfl rfl hH ?hy9 ?rest9
  case hy9 =>
    intro X hX
    go_simp
    try rfl
  simp only [Act.put, pA9, pB9, pC9]
  refine' hw_t 9 (some 16) _ rfl rfl hH ?hy10 ?rest10
  case hy10 =>
    intro X hX
    have cX := (b0.turn hX hBn).cells
    go_simp
    try rfl
  simp only [Act.put, pA9, pB9, pC9]
  refine' hw_t 10 (some 17) _ rfl rfl hH ?hy11 ?rest11
  case hy11 =>
    intro X hX
    go_simp
    try rfl
  simp only [Act.put, pA9, pB9, pC9]
  refine' hw_t 11 (some 18) _ rfl rfl hH ?hy12 ?rest12
  case hy12 =>
    intro X hX
    go_simp
    try rfl
  simp only [Act.put, pA9, pB9, pC9]
  try simp only [hwr]
  obtain ⟨wd, hwd⟩ : ∃ wd, wd = w0.drew := ⟨_, rfl⟩
  have hB1 : Blk w0.drew w.heap.size 137 #[.int .i64 0, .int .i64 0, .int .i64 0, .int .i64 0, .int .i64 0, .bool false, .int .i64 0, .int .i64 0, .int .i64 0, .slice none 0 0] := b1.new ((New.refl _).drew)
  refine hw_call 12 none rfl rfl (by kernel_rfl) (by rfl) (fun K hK => ?_)
  refine hw_store 137 (.tmp 6) (.tmp 18) rfl rfl w.heap.size #[.int .i64 k, .int .i64 (1 - id), .int .i64 ep, .int .i64 at1, .int .i64 0, .bool false, .int .i64 0, .int .i64 0, .int .i64 0, .slice none 0 0] #[.int .i64 0, .int .i64 0, .int .i64 0, .int .i64 0, .int .i64 0, .bool false, .int .i64 0, .int .i64 0, .int .i64 0, .slice none 0 0] rfl rfl (hB1) (by kernel_rfl) rfl (by kernel_rfl) ?_
  refine hK.out undef _ (Turn.rowW hH rfl _) (fun hS2 => ?_)
  refine wpAnyH_done (by kernel_rfl) ?_ _
  have bR := hB1.rowW #[.int .i64 k, .int .i64 (1 - id), .int .i64 ep, .int .i64 at1, .int .i64 0, .bool false, .int .i64 0, .int .i64 0, .int .i64 0, .slice none 0 0]
  have nR := al.before hS2 (fun i hi e => by omega)
  generalize World.setRow _ _ _ = wR at *
  go_wp2
  exact bodyPost_ret (results_row1 rfl rfl bR ⟨_, Tryz.underlying137⟩ (by kernel_rfl)) rfl ⟨rfl, nR⟩

theorem taken_any (at1 : Int) (B : Nat) (z id : Int) (up : Bool) (ro ep su ma ot co : Int) (A S : Option Addr) (n c q cs : Nat) (w : World) (hb : Blk w B 110 #[.int .i64 z, .int .i64 id, .bool up, .int .i64 ro, .int .i64 ep, .slice A n c, .int .i64 su, .int .i64 ma, .int .i64 ot, .int .i64 co, .slice S q cs]) (hid : id = 0 ∨ id = 1) :
    Calls Tryz.prog 127 #[.pointer (some ⟨B, 1, none⟩), .int .i64 at1] w fun e w' => e = .returned (.agg #[.int .i64 2, .int .i64 (1 - id), .int .i64 ep, .int .i64 at1, .int .i64 0, .bool false, .int .i64 0, .int .i64 0, .int .i64 0, .slice none 0 0]) ∧ New w w' := by
  have al := (New.refl w).alloc (.cells #[.int .i64 0, .int .i64 0, .int .i64 0, .int .i64 0, .int .i64 0, .bool false, .int .i64 0, .int .i64 0, .int .i64 0, .slice none 0 0] 137)
  have b0 := hb.new al
  have b1 := Blk.mk w w.heap.size 137 #[.int .i64 0, .int .i64 0, .int .i64 0, .int .i64 0, .int .i64 0, .bool false, .int .i64 0, .int .i64 0, .int .i64 0, .slice none 0 0] rfl
  have hwr : IntKind.i64.wrap (1 - id) = 1 - id := by simp [IntKind.wrap, IntKind.signed, IntKind.bits]; omega
  have hBn : ¬ B = w.heap.size := by have := hb.lt; omega
  clear hid
  go_enter Tryz.func127, Tryz.ntmps127
  go_upto_region 1 with fail
  generalize w.alloc (.cells #[.int .i64 0, .int .i64 0, .int .i64 0, .int .i64 0, .int .i64 0, .bool false, .int .i64 0, .int .i64 0, .int .i64 0, .slice none 0 0] 137) = w0 at *
  refine hw_start (n := 12) (S := fun X => Turn (fun i => i = w.heap.size) w0 X) rfl (by kernel_rfl) (((New.refl _).drew).turn) (fun hH => ?_)
  refine' hw_t 0 (some 5) _ rfl rfl hH ?hy13 ?rest13
  case hy13 =>
    intro X hX
    go_simp
    try rfl
  simp only [Act.put, pA9, pB9, pC9]
  refine' hw_t 1 (some 6) _ rfl rfl hH ?hy14 ?rest14
  case hy14 =>
    intro X hX
    go_simp
    try rfl
  simp only [Act.put, pA9, pB9, pC9]
  refine' hw_t 2 (some 7) _ rfl rfl hH ?hy15 ?rest15
  case hy15 =>
    intro X hX
    go_simp
    try rfl
  simp only [Act.put, pA9, pB9, pC9]
  refine' hw_t 3 (some 8) _ rfl rfl hH ?hy16 ?rest16
  case hy16 =>
    intro X hX
    have cX := (b0.turn hX hBn).cells
    go_simp
    try rfl
  simp only [Act.put, pA9, pB9, pC9]
  refine' hw_t 4 (some 9) _ rfl rfl hH ?hy17 ?rest17
  case hy17 =>
    intro X hX
    go_simp
    try rfl
  simp only [Act.put, pA9, pB9, pC9]
  refine' hw_t 5 (some 10) _ rfl rfl hH ?hy18 ?rest18
  case hy18 =>
    intro X hX
    go_simp
    try rfl
  simp only [Act.put, pA9, pB9, pC9]
  refine' hw_t 6 (some 11) _ rfl rfl hH ?hy19 ?rest19
  case hy19 =>
    intro X hX
    go_simp
    try rfl
  simp only [Act.put, pA9, pB9, pC9]
  refine' hw_t 7 (some 12) _ rfl rfl hH ?hy20 ?rest20
  case hy20 =>
    intro X hX
    go_simp
    try rfl
  simp only [Act.put, pA9, pB9, pC9]
  refine' hw_t 8 (some 13) _ rfl rfl hH ?hy21 ?rest21
  case hy21 =>
    intro X hX
    have cX := (b0.turn hX hBn).cells
    go_simp
    try rfl
  simp only [Act.put, pA9, pB9, pC9]
  refine' hw_t 9 (some 14) _ rfl rfl hH ?hy22 ?rest22
  case hy22 =>
    intro X hX
    go_simp
    try rfl
  simp only [Act.put, pA9, pB9, pC9]
  refine' hw_t 10 (some 15) _ rfl rfl hH ?hy23 ?rest23
  case hy23 =>
    intro X hX
    go_simp
    try rfl
  simp only [Act.put, pA9, pB9, pC9]
  try simp only [hwr]
  obtain ⟨wd, hwd⟩ : ∃ wd, wd = w0.drew := ⟨_, rfl⟩
  have hB1 : Blk w0.drew w.heap.size 137 #[.int .i64 0, .int .i64 0, .int .i64 0, .int .i64 0, .int .i64 0, .bool false, .int .i64 0, .int .i64 0, .int .i64 0, .slice none 0 0] := b1.new ((New.refl _).drew)
  refine hw_call 11 none rfl rfl (by kernel_rfl) (by rfl) (fun K hK => ?_)
  refine hw_store 137 (.tmp 4) (.tmp 15) rfl rfl w.heap.size #[.int .i64 2, .int .i64 (1 - id), .int .i64 ep, .int .i64 at1, .int .i64 0, .bool false, .int .i64 0, .int .i64 0, .int .i64 0, .slice none 0 0] #[.int .i64 0, .int .i64 0, .int .i64 0, .int .i64 0, .int .i64 0, .bool false, .int .i64 0, .int .i64 0, .int .i64 0, .slice none 0 0] rfl rfl (hB1) (by kernel_rfl) rfl (by kernel_rfl) ?_
  refine hK.out undef _ (Turn.rowW hH rfl _) (fun hS2 => ?_)
  refine wpAnyH_done (by kernel_rfl) ?_ _
  have bR := hB1.rowW #[.int .i64 2, .int .i64 (1 - id), .int .i64 ep, .int .i64 at1, .int .i64 0, .bool false, .int .i64 0, .int .i64 0, .int .i64 0, .slice none 0 0]
  have nR := al.before hS2 (fun i hi e => by omega)
  generalize World.setRow _ _ _ = wR at *
  go_wp2
  exact bodyPost_ret (results_row1 rfl rfl bR ⟨_, Tryz.underlying137⟩ (by kernel_rfl)) rfl ⟨rfl, nR⟩

theorem agree_any (B : Nat) (id : Int) (up : Bool) (ro ep su ma ot co : Int) (A : Option Addr) (n c : Nat) (w : World) (hb : Blk w B 108 #[.int .i64 id, .bool up, .int .i64 ro, .int .i64 ep, .slice A n c, .int .i64 su, .int .i64 ma, .int .i64 ot, .int .i64 co]) :
    Calls Tryz.prog 165 #[.pointer (some ⟨B, 0, none⟩)] w fun e w' => e = .returned (.tuple #[]) ∧ Blk w' B 108 #[.int .i64 id, .bool up, .int .i64 ro, .int .i64 ep, .slice A n c, .int .i64 su, .int .i64 ma, .int .i64 ot, .int .i64 (max co (min su ot))] ∧ Turn (fun i => i = B) w w' := by
  have bd := hb.new ((New.refl w).drew)
  have cd := bd.cells
  have fd := bd.frees
  have c8 : w.drew.cell? ⟨B, 8, none⟩ = some (.int .i64 co) := cd 8
  have f8 : w.drew.frozen? ⟨B, 8, none⟩ = false := fd 8
  go_enter Tryz.func165, Tryz.ntmps165
  refine hw_start (n := 18) (S := fun X => ∀ j, j ≠ 8 → X.cell? ⟨B, j, none⟩ = (#[.int .i64 id, .bool up, .int .i64 ro, .int .i64 ep, .slice A n c, .int .i64 su, .int .i64 ma, .int .i64 ot, .int .i64 co] : Array Value)[j]?) rfl (by kernel_rfl) (fun j _ => cd j) (fun hH => ?_)
  refine' hw_t 0 (some 2) _ rfl rfl hH ?hy24 ?rest24
  case hy24 =>
    intro X hX
    go_simp
    try rfl
  simp only [Act.put, pA9, pB9, pC9]
  refine' hw_t 1 (some 3) _ rfl rfl hH ?hy25 ?rest25
  case hy25 =>
    intro X hX
    go_simp
    try rfl
  simp only [Act.put, pA9, pB9, pC9]
  refine' hw_t 2 (some 4) _ rfl rfl hH ?hy26 ?rest26
  case hy26 =>
    intro X hX
    go_simp
    try rfl
  simp only [Act.put, pA9, pB9, pC9]
  refine' hw_t 3 (some 5) _ rfl rfl hH ?hy27 ?rest27
  case hy27 =>
    intro X hX
    go_simp
    try rfl
  simp only [Act.put, pA9, pB9, pC9]
  refine' hw_t 5 (some 7) _ rfl rfl hH ?hy28 ?rest28
  case hy28 =>
    intro X hX
    go_simp
    try rfl
  simp only [Act.put, pA9, pB9, pC9]
  refine' hw_t 6 (some 8) _ rfl rfl hH ?hy29 ?rest29
  case hy29 =>
    intro X hX
    go_simp
    try rfl
  simp only [Act.put, pA9, pB9, pC9]
  refine' hw_t 7 (some 9) _ rfl rfl hH ?hy30 ?rest30
  case hy30 =>
    intro X hX
    go_simp
    try rfl
  simp only [Act.put, pA9, pB9, pC9]
  refine' hw_t 8 (some 10) _ rfl rfl hH ?hy31 ?rest31
  case hy31 =>
    intro X hX
    have cX5 : X.cell? ⟨B, 5, none⟩ = some (.int .i64 su) := hX 5 (by omega)
    have cX7 : X.cell? ⟨B, 7, none⟩ = some (.int .i64 ot) := hX 7 (by omega)
    go_simp
    try rfl
  simp only [Act.put, pA9, pB9, pC9]
  refine' hw_t 9 (some 11) _ rfl rfl hH ?hy32 ?rest32
  case hy32 =>
    intro X hX
    go_simp
    try rfl
  simp only [Act.put, pA9, pB9, pC9]
  refine' hw_t 10 (some 12) _ rfl rfl hH ?hy33 ?rest33
  case hy33 =>
    intro X hX
    go_simp
    try rfl
  simp only [Act.put, pA9, pB9, pC9]
  refine' hw_t 11 (some 13) _ rfl rfl hH ?hy34 ?rest34
  case hy34 =>
    intro X hX
    go_simp
    try rfl
  simp only [Act.put, pA9, pB9, pC9]
  refine' hw_t 12 (some 14) _ rfl rfl hH ?hy35 ?rest35
  case hy35 =>
    intro X hX
    have cX5 : X.cell? ⟨B, 5, none⟩ = some (.int .i64 su) := hX 5 (by omega)
    have cX7 : X.cell? ⟨B, 7, none⟩ = some (.int .i64 ot) := hX 7 (by omega)
    go_simp
    try rfl
  simp only [Act.put, pA9, pB9, pC9]
  refine' hw_t 13 (some 15) _ rfl rfl hH ?hy36 ?rest36
  case hy36 =>
    intro X hX
    go_simp
    try rfl
  simp only [Act.put, pA9, pB9, pC9]
  generalize hmn : (if ot < su then ot else su) = mn
  refine hw_call 4 (some 6) rfl rfl (by kernel_rfl) (by rfl) (fun K hK => ?_)
  go_simp
  refine hK.out _ _ hH (fun hH2 => ?_)
  simp only [Act.put, pA9, pB9, pC9]
  refine' hw_t 14 (some 16) _ rfl rfl hH2 ?hy37 ?rest37
  case hy37 =>
    intro X hX
    go_simp
    try rfl
  simp only [Act.put, pA9, pB9, pC9]
  generalize hmx : (if co < mn then mn else co) = mx
  have hM : Hid (mx = max co (min su ot)) := by unfold Hid; rw [← hmx, ← hmn]; split <;> split <;> omega
  have b2 := (hb.set 8 (.int .i64 mx)).new ((New.refl _).drew)
  have t2 := (((Turn.refl (fun i => i = B) w).set (p := ⟨B, 8, none⟩) rfl (.int .i64 mx))).drewW
  clear hmx hmn
  refine' hw_t 15 (some 17) _ rfl rfl hH2 ?hy38 ?rest38
  case hy38 =>
    intro X hX
    go_simp
    try rfl
  simp only [Act.put, pA9, pB9, pC9]
  refine' hw_t 16 (some 18) _ rfl rfl hH2 ?hy39 ?rest39
  case hy39 =>
    intro X hX
    go_simp
    try rfl
  simp only [Act.put, pA9, pB9, pC9]
  refine hw_call 17 none rfl rfl (by kernel_rfl) (by rfl) (fun K hK => ?_)
  go_simp
  refine hK.out undef _ ?s9 (fun hS2 => ?_)
  case s9 => intro j hj; rw [b2.cells j]; exact Array.getElem?_setIfInBounds_ne (Ne.symm hj)
  refine wpAnyH_done (by kernel_rfl) ?_ _
  generalize (World.setCell _ _ _).drew = wR at *
  go_wp2
  refine bodyPost_end (results_none rfl _ _ _) rfl ?_
  first | exact ⟨rfl, b2, t2⟩ | (rw [hM.out] at b2; exact ⟨rfl, b2, t2⟩)

theorem sagree_any (B : Nat) (z id : Int) (up : Bool) (ro ep su ma ot co : Int) (A S : Option Addr) (n c q cs : Nat) (w : World) (hb : Blk w B 110 #[.int .i64 z, .int .i64 id, .bool up, .int .i64 ro, .int .i64 ep, .slice A n c, .int .i64 su, .int .i64 ma, .int .i64 ot, .int .i64 co, .slice S q cs]) :
    Calls Tryz.prog 126 #[.pointer (some ⟨B, 1, none⟩)] w fun e w' => e = .returned (.tuple #[]) ∧ Blk w' B 110 #[.int .i64 z, .int .i64 id, .bool up, .int .i64 ro, .int .i64 ep, .slice A n c, .int .i64 su, .int .i64 ma, .int .i64 ot, .int .i64 (max co (min su ot)), .slice S q cs] ∧ Turn (fun i => i = B) w w' := by
  have bd := hb.new ((New.refl w).drew)
  have cd := bd.cells
  have fd := bd.frees
  have c8 : w.drew.cell? ⟨B, 9, none⟩ = some (.int .i64 co) := cd 9
  have f8 : w.drew.frozen? ⟨B, 9, none⟩ = false := fd 9
  go_enter Tryz.func126, Tryz.ntmps126
  refine hw_start (n := 18) (S := fun X => ∀ j, j ≠ 9 → X.cell? ⟨B, j, none⟩ = (#[.int .i64 z, .int .i64 id, .bool up, .int .i64 ro, .int .i64 ep, .slice A n c, .int .i64 su, .int .i64 ma, .int .i64 ot, .int .i64 co, .slice S q cs] : Array Value)[j]?) rfl (by kernel_rfl) (fun j _ => cd j) (fun hH => ?_)
  refine' hw_t 0 (some 2) _ rfl rfl hH ?hy40 ?rest40
  case hy40 =>
    intro X hX
    go_simp
    try rfl
  simp only [Act.put, pA9, pB9, pC9]
  refine' hw_t 1 (some 3) _ rfl rfl hH ?hy41 ?rest41
  case hy41 =>
    intro X hX
    go_simp
    try rfl
  simp only [Act.put, pA9, pB9, pC9]
  refine' hw_t 2 (some 4) _ rfl rfl hH ?hy42 ?rest42
  case hy42 =>
    intro X hX
    go_simp
    try rfl
  simp only [Act.put, pA9, pB9, pC9]
  refine' hw_t 3 (some 5) _ rfl rfl hH ?hy43 ?rest43
  case hy43 =>
    intro X hX
    go_simp
    try rfl
  simp only [Act.put, pA9, pB9, pC9]
  refine' hw_t 5 (some 7) _ rfl rfl hH ?hy44 ?rest44
  case hy44 =>
    intro X hX
    go_simp
    try rfl
  simp only [Act.put, pA9, pB9, pC9]
  refine' hw_t 6 (some 8) _ rfl rfl hH ?hy45 ?rest45
  case hy45 =>
    intro X hX
    go_simp
    try rfl
  simp only [Act.put, pA9, pB9, pC9]
  refine' hw_t 7 (some 9) _ rfl rfl hH ?hy46 ?rest46
  case hy46 =>
    intro X hX
    go_simp
    try rfl
  simp only [Act.put, pA9, pB9, pC9]
  refine' hw_t 8 (some 10) _ rfl rfl hH ?hy47 ?rest47
  case hy47 =>
    intro X hX
    have cX5 : X.cell? ⟨B, 6, none⟩ = some (.int .i64 su) := hX 6 (by omega)
    have cX7 : X.cell? ⟨B, 8, none⟩ = some (.int .i64 ot) := hX 8 (by omega)
    go_simp
    try rfl
  simp only [Act.put, pA9, pB9, pC9]
  refine' hw_t 9 (some 11) _ rfl rfl hH ?hy48 ?rest48
  case hy48 =>
    intro X hX
    go_simp
    try rfl
  simp only [Act.put, pA9, pB9, pC9]
  refine' hw_t 10 (some 12) _ rfl rfl hH ?hy49 ?rest49
  case hy49 =>
    intro X hX
    go_simp
    try rfl
  simp only [Act.put, pA9, pB9, pC9]
  refine' hw_t 11 (some 13) _ rfl rfl hH ?hy50 ?rest50
  case hy50 =>
    intro X hX
    go_simp
    try rfl
  simp only [Act.put, pA9, pB9, pC9]
  refine' hw_t 12 (some 14) _ rfl rfl hH ?hy51 ?rest51
  case hy51 =>
    intro X hX
    have cX5 : X.cell? ⟨B, 6, none⟩ = some (.int .i64 su) := hX 6 (by omega)
    have cX7 : X.cell? ⟨B, 8, none⟩ = some (.int .i64 ot) := hX 8 (by omega)
    go_simp
    try rfl
  simp only [Act.put, pA9, pB9, pC9]
  refine wpAnyH_ready (rs := [4, 13]) (by kernel_rfl) (by simp) ?_
  refine hw_step 4 (some 6) rfl rfl (by rfl) (fun K hK => ?_) ?_
  · go_simp
    refine hK.out _ _ hH (fun hH2 => ?_)
    simp only [Act.put, pA9, pB9, pC9]
    refine hw_call 13 (some 15) rfl rfl (by kernel_rfl) (by rfl) (fun K hK => ?_)
    go_simp
    refine (min_any su ot _).mono ?_
    rintro e wq ⟨rfl, hwq⟩
    obtain rfl := hwq.symm
    go_simp
    refine hK.out _ _ hH2 (fun hH3 => ?_)
    simp only [Act.put, pA9, pB9, pC9]
    refine hw_call 14 (some 16) rfl rfl (by kernel_rfl) (by rfl) (fun K hK => ?_)
    go_simp
    refine (max_any co (min su ot) _).mono ?_
    rintro e wq ⟨rfl, hwq⟩
    obtain rfl := hwq.symm
    go_simp
    refine hK.out _ _ hH3 (fun hH4 => ?_)
    simp only [Act.put, pA9, pB9, pC9]
    generalize hmx : max co (min su ot) = mx
    have hM : Hid (mx = max co (min su ot)) := hmx.symm
    have b2 := (hb.set 9 (.int .i64 mx)).new ((New.refl _).drew)
    have t2 := (((Turn.refl (fun i => i = B) w).set (p := ⟨B, 9, none⟩) rfl (.int .i64 mx))).drewW
    clear hmx
    refine' hw_t 15 (some 17) _ rfl rfl hH4 ?hy52 ?rest52
    case hy52 =>
      intro X hX
      go_simp
      try rfl
    simp only [Act.put, pA9, pB9, pC9]
    refine' hw_t 16 (some 18) _ rfl rfl hH4 ?hy53 ?rest53
    case hy53 =>
      intro X hX
      go_simp
      try rfl
    simp only [Act.put, pA9, pB9, pC9]
    refine hw_call 17 none rfl rfl (by kernel_rfl) (by rfl) (fun K hK => ?_)
    go_simp
    refine hK.out undef _ ?s9 (fun hS2 => ?_)
    case s9 => intro j hj; rw [b2.cells j]; exact Array.getElem?_setIfInBounds_ne (Ne.symm hj)
    refine wpAnyH_done (by kernel_rfl) ?_ _
    generalize (World.setCell _ _ _).drew = wR at *
    go_wp2
    refine bodyPost_end (results_none rfl _ _ _) rfl ?_
    first | exact ⟨rfl, b2, t2⟩ | (rw [hM.out] at b2; exact ⟨rfl, b2, t2⟩)
  refine hw_step 13 (some 15) rfl rfl (by rfl) (fun K hK => ?_) ?_
  · go_simp
    refine (min_any su ot _).mono ?_
    rintro e wq ⟨rfl, hwq⟩
    obtain rfl := hwq.symm
    go_simp
    refine hK.out _ _ hH (fun hH2 => ?_)
    simp only [Act.put, pA9, pB9, pC9]
    refine hw_call 4 (some 6) rfl rfl (by kernel_rfl) (by rfl) (fun K hK => ?_)
    go_simp
    refine hK.out _ _ hH2 (fun hH3 => ?_)
    simp only [Act.put, pA9, pB9, pC9]
    refine hw_call 14 (some 16) rfl rfl (by kernel_rfl) (by rfl) (fun K hK => ?_)
    go_simp
    refine (max_any co (min su ot) _).mono ?_
    rintro e wq ⟨rfl, hwq⟩
    obtain rfl := hwq.symm
    go_simp
    refine hK.out _ _ hH3 (fun hH4 => ?_)
    simp only [Act.put, pA9, pB9, pC9]
    generalize hmx : max co (min su ot) = mx
    have hM : Hid (mx = max co (min su ot)) := hmx.symm
    have b2 := (hb.set 9 (.int .i64 mx)).new ((New.refl _).drew)
    have t2 := (((Turn.refl (fun i => i = B) w).set (p := ⟨B, 9, none⟩) rfl (.int .i64 mx))).drewW
    clear hmx
    refine' hw_t 15 (some 17) _ rfl rfl hH4 ?hy554 ?rest554
    case hy554 =>
      intro X hX
      go_simp
      try rfl
    simp only [Act.put, pA9, pB9, pC9]
    refine' hw_t 16 (some 18) _ rfl rfl hH4 ?hy555 ?rest555
    case hy555 =>
      intro X hX
      go_simp
      try rfl
    simp only [Act.put, pA9, pB9, pC9]
    refine hw_call 17 none rfl rfl (by kernel_rfl) (by rfl) (fun K hK => ?_)
    go_simp
    refine hK.out undef _ ?s10 (fun hS2 => ?_)
    case s10 => intro j hj; rw [b2.cells j]; exact Array.getElem?_setIfInBounds_ne (Ne.symm hj)
    refine wpAnyH_done (by kernel_rfl) ?_ _
    generalize (World.setCell _ _ _).drew = wR at *
    go_wp2
    refine bodyPost_end (results_none rfl _ _ _) rfl ?_
    first | exact ⟨rfl, b2, t2⟩ | (rw [hM.out] at b2; exact ⟨rfl, b2, t2⟩)
  exact fun j hj => by cases hj


/-- A mail without an entry. -/
def mlv0 (k t e a : Int) : MlV := ⟨⟨k, t, e, a, 0, false, ⟨0, 0, 0, []⟩⟩, none, 0⟩
theorem SdOw.row0 {w : World} {g cs : Nat} {k t e a : Int} (h : w.ownsRow 0 137 10 (.slice (some ⟨g, 0, none⟩) 1 cs) 1 (mlv0 k t e a).cs) : SdOw w (fun i => i = g) (some ⟨g, 0, none⟩) 1 cs [mlv0 k t e a] :=
  .inr ⟨mlv0 k t e a, g, rfl, rfl, rfl, rfl, h, ⟨rfl, fun h => absurd h (Nat.lt_irrefl 0)⟩, fun z hz => (by cases hz), Nat.zero_le _, fun x hx => (by cases hx)⟩
theorem row_of_blk {w : World} {g : Nat} {cs : Array Value} (h : Blk w g 137 cs) (hs : cs.size = 10) : w.ownsRow 0 137 10 (.slice (some ⟨g, 0, none⟩) 1 1) 1 cs.toList :=
  ⟨by simp [hs], .inr ⟨g, 1, cs, rfl, Nat.zero_le _, h, Nat.le_refl _, by unfold maxLen; omega, by omega, by rw [List.take_of_length_le (by simp [hs])]⟩⟩
/-- A log and a mail without an entry, of the call's own. -/
theorem NrOw.one {w : World} {b0 b1 lo hi n c g cs : Nat} {A : Option Addr} {U : List EkV} {k t e a : Int} (h : OwL w lo hi (.slice A n c) U) (h0 : b0 ≤ lo) (h1 : hi ≤ b1) (hr : w.ownsRow 0 137 10 (.slice (some ⟨g, 0, none⟩) 1 cs) 1 (mlv0 k t e a).cs) (hg : ¬ (lo ≤ g ∧ g < hi)) (hg0 : b0 ≤ g) (hg1 : g < b1) : NrOw w b0 b1 A n c U (some ⟨g, 0, none⟩) 1 cs [mlv0 k t e a] :=
  ⟨lo, hi, fun i => i = g, h, SdOw.row0 hr, fun i e => by rw [e]; exact hg, fun i e => by rw [e]; exact ⟨hg0, hg1⟩, h0, h1⟩

section
variable {P : Program} {t e : TypeId} {i : TypeInfo}
theorem wp_apV (w : World) {o : Oper} {a : Act} {K : Act → World → Prop} {Q : Exit → Act → World → Prop} (s x : Operand)
    (ho : o.op = .call { callee := .builtin .append, args := #[s, x], argTypes := #[t, t] }) (base sz by' : Nat) (zero : Value) (ht : P.underlying t = some (.slice e)) (hi : P.info? e = some i) (hz : i.zero = some zero) (hs : i.size = sz) (hb : i.bytes = by') (hz1 : zero.cells.size = sz) (hsz : 0 < sz) (hby : by' ≤ 1000)
    (v : Value) (n : Nat) (xs : List Value) (hsv : a.eval s = v) (hown : w.ownsRow base e sz v n xs)
    (L : Nat) (r : List Value) (hr : r.length = sz) (h1 : ∀ u ∈ r, u.oneCell' = true) (hxv : a.eval x = .slice (some ⟨L, 0, none⟩) 1 1) (hsrc : ∀ j u, r[j]? = some u → w.cell? ⟨L, j, none⟩ = some u) (hle : n + 1 ≤ 4194304) (hbase : base ≤ w.heap.size)
    (h : ∀ v' w', w'.ownsRow base e sz v' (n + 1) (xs ++ r) → w.grownBy w' v.ownBlock → (v'.ownBlock = v.ownBlock ∨ v'.ownBlock = some w.heap.size) → K (a.put o.dst v') w') : o.wp P a w K Q := by
  have hnews : ∀ j u, r[j]? = some u → w.cell? ((⟨L, 0, none⟩ : Addr).add j) = some u := by
    intro j u hu
    rw [Addr.add_lit, Nat.zero_add]
    exact hsrc j u hu
  have hbb : (n + 1) * by' ≤ 140737488355328 := Nat.le_trans (Nat.mul_le_mul hle hby) (by decide)
  obtain ⟨v', w', hr, h2, h3, _, h5⟩ := run_append_own_at (P := P) w base t o.type e i zero sz by' ht hi hz hs hb hz1 hsz v n xs hown ⟨L, 0, none⟩ 1 1 r (by omega) hnews h1 (by unfold maxLen; omega) hbb hbase
  unfold Oper.wp execOp
  simp only [ho, resolve, invoke, builtin, Sem.run_bind, Sem.run_pure, Result.andThen_ok, List.map_toArray, List.map_cons, List.map_nil, hsv, hxv, hr]
  exact h v' w' h2 h3 h5
end
theorem Tryz.infoMl : (Tryz.prog.info? 137).map (fun i => (i.zero, i.size, i.bytes)) = some (some (.agg #[.int .i64 0, .int .i64 0, .int .i64 0, .int .i64 0, .int .i64 0, .bool false, .int .i64 0, .int .i64 0, .int .i64 0, .slice none 0 0]), 10, 96) := by kernel_rfl

end Go.Proofs.YtebkdaddndlmoaaGreat
