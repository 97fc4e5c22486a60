/- What is proved here: a part of a list of entries put behind another one; what the model's l12Prev and l12Append answer where no entry is put in. -/
import Derived.Test.YthnigcalboobgaaK12Tp
import Derived.Test.YthnigcalboobgaaK12Mw
import Derived.Deep.RegionHeld3
namespace Go.Proofs.Ythnigcalboobgaa
open Go.ChangeShapes Go.WideShapes Go.ChangeAt Go.RowKit
set_option linter.unusedVariables false
set_option linter.unusedSimpArgs false
set_option maxRecDepth 100000

section
variable {P : Program} {t e : TypeId} {i : TypeInfo}
/-- A part of another row is put behind a row of the call's own. -/
theorem wp_apM (w : World) {o : Oper} {a : Act} {K : Act → World → Prop} {Q : Exit → Act → World → Prop} (s x : Operand)
    (ho : o.op = .call { callee := .builtin .append, args := #[s, x], argTypes := #[t, t] }) (base sz by' : Nat) (zero : Value) (ht : P.underlying t = some (.slice e)) (hi : P.info? e = some i) (hz : i.zero = some zero) (hs : i.size = sz) (hb : i.bytes = by') (hz1 : zero.cells.size = sz) (hsz : 0 < sz) (hby : by' ≤ 1000)
    (v : Value) (n : Nat) (xs : List Value) (hsv : a.eval s = v) (hown : w.ownsRow base e sz v n xs)
    (A : Option Addr) (m c : Nat) (r : List Value) (hA : (A = none ∧ m = 0 ∧ c = 0) ∨ ∃ g, A = some ⟨g, 0, none⟩) (hr : r.length = m * sz) (h1 : ∀ u ∈ r, u.oneCell' = true) (hxv : a.eval x = .slice A m c) (hsrc : ∀ g, A = some ⟨g, 0, none⟩ → ∀ j u, r[j]? = some u → w.cell? ⟨g, j, none⟩ = some u) (hle : n + m ≤ 4194304) (hbase : base ≤ w.heap.size)
    (h : ∀ v' w', w'.ownsRow base e sz v' (n + m) (xs ++ r) → w.grownBy w' v.ownBlock → (v'.ownBlock = v.ownBlock ∨ v'.ownBlock = some w.heap.size) → K (a.put o.dst v') w') : o.wp P a w K Q := by
  rcases hA with ⟨rfl, rfl, rfl⟩ | ⟨g, rfl⟩
  · obtain rfl : r = [] := List.eq_nil_of_length_eq_zero (by simpa using hr)
    have hrun := run_append_owned_none (P := P) w base t o.type e i sz ht hi v n xs hown
    unfold Oper.wp execOp
    simp only [ho, resolve, invoke, builtin, Sem.run_bind, Sem.run_pure, Result.andThen_ok, List.map_toArray, List.map_cons, List.map_nil, hsv, hxv, hrun]
    exact h v w (by simpa using hown) ⟨rfl, rfl, rfl, Nat.le_refl _, fun k _ _ => rfl⟩ (.inl rfl)
  · have hnews : ∀ j u, r[j]? = some u → w.cell? ((⟨g, 0, none⟩ : Addr).add j) = some u := by
      intro j u hu
      rw [Addr.add_lit, Nat.zero_add]
      exact hsrc g rfl j u hu
    have hbb : (n + m) * by' ≤ 140737488355328 := Nat.le_trans (Nat.mul_le_mul hle hby) (by decide)
    obtain ⟨v', w', hrun, h2, h3, _, h5⟩ := run_append_own_at (P := P) w base t o.type e i zero sz by' ht hi hz hs hb hz1 hsz v n xs hown ⟨g, 0, none⟩ m c r hr hnews h1 (by unfold maxLen; omega) hbb hbase
    unfold Oper.wp execOp
    simp only [ho, resolve, invoke, builtin, Sem.run_bind, Sem.run_pure, Result.andThen_ok, List.map_toArray, List.map_cons, List.map_nil, hsv, hxv, hrun]
    exact h v' w' h2 h3 h5
end
theorem cellsK_one (V : List EkV) : ∀ u ∈ cellsK V, u.oneCell' = true := by
  intro u hu
  simp only [cellsK, List.mem_flatMap] at hu
  obtain ⟨v, -, hv⟩ := hu
  simp only [EkV.cs, List.mem_cons, List.not_mem_nil, or_false] at hv
  rcases hv with rfl | rfl | rfl | rfl <;> rfl
/-- The first ones of a list of the call's own, in a row that is new. -/
theorem OwL.cutrow {w w1 w' : World} {lo g : Nat} {u v' : Value} {V : List EkV} (h : OwL w lo w.heap.size u V) (m : Nat) (n1 : New w w1) (hr : w'.ownsRow lo 44 4 v' (V.take m).length (cellsK (V.take m))) (hg : w1.grownBy w' (some g)) (hgg : w.heap.size ≤ g) : OwL w' lo w'.heap.size v' (V.take m) := by
  obtain ⟨y, d, -, -, hrn⟩ := row9_form hr
  refine ⟨hr, fun k hk => (hrn k hk).2, (((h.path.take m).new n1).turnP (turn_of_grown hg) ?_).up (Nat.le_trans n1.size hg.size)⟩
  intro q hq k hk e
  have := (h.path.take m).lies q hq k hk
  simp only [Option.some.injEq] at e
  omega
/-- A list's form: none, or a row from its first place on. -/
theorem OwL.frm {w : World} {lo hi n c : Nat} {A : Option Addr} {V : List EkV} (h : OwL w lo hi (.slice A n c) V) : n ≤ c ∧ ((A = none ∧ n = 0 ∧ c = 0) ∨ ∃ g, A = some ⟨g, 0, none⟩) := by
  obtain ⟨A', c', e, -, h2⟩ := h.form
  simp only [Value.slice.injEq] at e
  obtain ⟨rfl, rfl, rfl⟩ := e
  rcases h2 with ⟨h3, h4, h5⟩ | ⟨g, h3, h4, -⟩
  · subst h4 h5; exact ⟨by simp, .inl ⟨h3, rfl, rfl⟩⟩
  · exact ⟨h4, .inr ⟨g, h3⟩⟩
theorem set10 {S : Nat → Prop} (w : World) (B : Nat) (hS : S B) (v0 v1 v2 v3 v4 v5 v6 v7 v8 v9 : Value) : Turn S w (((((((((((w).setCell ⟨B, 0, none⟩ v0).setCell ⟨B, 1, none⟩ v1).setCell ⟨B, 2, none⟩ v2).setCell ⟨B, 3, none⟩ v3).setCell ⟨B, 4, none⟩ v4).setCell ⟨B, 5, none⟩ v5).setCell ⟨B, 6, none⟩ v6).setCell ⟨B, 7, none⟩ v7).setCell ⟨B, 8, none⟩ v8).setCell ⟨B, 9, none⟩ v9) :=
  ((((((((((Turn.refl S w).set (p := ⟨B, 0, none⟩) hS v0).set (p := ⟨B, 1, none⟩) hS v1).set (p := ⟨B, 2, none⟩) hS v2).set (p := ⟨B, 3, none⟩) hS v3).set (p := ⟨B, 4, none⟩) hS v4).set (p := ⟨B, 5, none⟩) hS v5).set (p := ⟨B, 6, none⟩) hS v6).set (p := ⟨B, 7, none⟩) hS v7).set (p := ⟨B, 8, none⟩) hS v8).set (p := ⟨B, 9, none⟩) hS v9
theorem results_rowT {fn : Func} {t t5 : Tmp} {ty : TypeId} {P : Program} {w : World} {tmps : Array Value} {B : Nat} {cs : Array Value} {v : Value} (h : fn.results = #[.cell t ty, .tmp t5])
    (ht : tmps[t]? = some (.pointer (some ⟨B, 0, none⟩))) (h5 : tmps[t5]? = some v) (hb : Blk w B ty cs) (hu : ∃ fs, P.underlying ty = some (.struct fs)) (hi : (P.info? ty).map (·.size) = some cs.size) : (results fn tmps).run P w = .ok (.tuple #[.agg cs, v]) w := by
  obtain ⟨f, hu⟩ := hu
  have hl := run_loadVar_row (P := P) w B ty ty cs (0, 0) (.struct f) hb hu rfl hi
  simp [results, h, ht, h5, asAddr, hl]

set_option maxHeartbeats 800000 in
theorem prevR_any (o : Nat) (B : Nat) (id : Int) (up : Bool) (ro ep su ma ot co : Int) (A : Option Addr) (n c : Nat) (V : List EkV) (w : World) (hb : Blk w B 39 #[.int .i64 0, .int .i64 id, .bool up, .int .i64 ro, .int .i64 ep, .slice A n c, .int .i64 su, .int .i64 ma, .int .i64 ot, .int .i64 co, .slice none 0 0]) (h : LgAt w A V) (hn : V.length = n) (hm : n ≤ 2097152) (ho : o ≤ n) :
    Calls Try.prog 73 #[.pointer (some ⟨B, 1, none⟩), .int .i64 (o : Int)] w fun e w' => e = .returned (.int .i64 (prevE (V.map EkV.r) o)) ∧ w' = w := by
  have cB := hb.cells
  cases o with
  | zero =>
    have HR : Hid ((0 : Int) = prevE (V.map EkV.r) 0) := rfl
    go_enter Try.func73, Try.ntmps73
    go_wp2
    go_ret
    exact ⟨ret_i64 HR.out, rfl⟩
  | succ j =>
    obtain ⟨g, ep1, ki, pe, x, m, d, xs, rfl, hv, -, -, -, q0, -, -, -⟩ := h.at j (by omega)
    have HR : Hid (ep1 = prevE (V.map EkV.r) (j + 1)) := by unfold Hid prevE; simp [hv]
    have hj : ¬ ((j : Int) + 1 = 0) := by omega
    have gj : (((j : Int) + 1) == 0) = false := by simp [hj]
    have hjn : j < n := by omega
    clear hv h
    go_enter Try.func73, Try.ntmps73
    go_wp2
    go_ret
    exact ⟨ret_i64 HR.out, rfl⟩

set_option maxHeartbeats 3200000 in
theorem sa_act (B lo o : Nat) (id : Int) (up : Bool) (ep su ma ot co : Int) (A : Option Addr) (n c : Nat) (V1 : List EkV) (kd tgt me pr : Int) (has : Bool) (e1 k1 p1 : Int) (x : Option Addr) (m d : Nat) (xs : List Int) (w : World) (hb : Blk w B 39 #[.int .i64 0, .int .i64 id, .bool up, .int .i64 1, .int .i64 ep, .slice A n c, .int .i64 su, .int .i64 ma, .int .i64 ot, .int .i64 co, .slice none 0 0]) (hoL0 : OwL w lo w.heap.size (.slice A n c) V1) (hlo0 : lo ≤ w.heap.size) (hid : id = 0 ∨ id = 1) (hn : n ≤ 100) :
    Calls Try.prog 47 #[.pointer (some ⟨B, 1, none⟩), .agg #[.int .i64 kd, .int .i64 tgt, .int .i64 me, .int .i64 (o : Int), .int .i64 pr, .bool has, .int .i64 e1, .int .i64 k1, .int .i64 p1, .slice x m d]] w fun e w' => e = .returned (.tuple #[.agg #[.int .i64 0, .int .i64 0, .int .i64 0, .int .i64 0, .int .i64 0, .bool false, .int .i64 0, .int .i64 0, .int .i64 0, .slice none 0 0], .int .i64 10]) ∧ New w w' := by
  have HL : Hid (V1.length = n) := hoL0.lg.2
  have hw := ((New.refl w).alloc (.cells #[.int .i64 kd, .int .i64 tgt, .int .i64 me, .int .i64 (o : Int), .int .i64 pr, .bool has, .int .i64 e1, .int .i64 k1, .int .i64 p1, .slice x m d] 46)).alloc (.cells #[.int .i64 0, .int .i64 0, .int .i64 0, .int .i64 0, .int .i64 0, .bool false, .int .i64 0, .int .i64 0, .int .i64 0, .slice none 0 0] 46)
  have bM := (Blk.mk w w.heap.size 46 #[.int .i64 kd, .int .i64 tgt, .int .i64 me, .int .i64 (o : Int), .int .i64 pr, .bool has, .int .i64 e1, .int .i64 k1, .int .i64 p1, .slice x m d] rfl).alloc (.cells #[.int .i64 0, .int .i64 0, .int .i64 0, .int .i64 0, .int .i64 0, .bool false, .int .i64 0, .int .i64 0, .int .i64 0, .slice none 0 0] 46)
  have bR := Blk.mk (w.alloc (.cells #[.int .i64 kd, .int .i64 tgt, .int .i64 me, .int .i64 (o : Int), .int .i64 pr, .bool has, .int .i64 e1, .int .i64 k1, .int .i64 p1, .slice x m d] 46)) (w.heap.size + 1) 46 #[.int .i64 0, .int .i64 0, .int .i64 0, .int .i64 0, .int .i64 0, .bool false, .int .i64 0, .int .i64 0, .int .i64 0, .slice none 0 0] (by simp)
  have hb0 := hb.new hw
  have hoL := (hoL0.new hw).up hw.size
  have hlt := hb.lt
  have s0 : Hid (((w.alloc (.cells #[.int .i64 kd, .int .i64 tgt, .int .i64 me, .int .i64 (o : Int), .int .i64 pr, .bool has, .int .i64 e1, .int .i64 k1, .int .i64 p1, .slice x m d] 46)).alloc (.cells #[.int .i64 0, .int .i64 0, .int .i64 0, .int .i64 0, .int .i64 0, .bool false, .int .i64 0, .int .i64 0, .int .i64 0, .slice none 0 0] 46)).heap.size = w.heap.size + 1 + 1) := by unfold Hid; simp
  have cB := hb0.cells
  go_enter Try.func47, Try.ntmps47
  go_upto_region 3 with fail
  generalize (w.alloc (.cells #[.int .i64 kd, .int .i64 tgt, .int .i64 me, .int .i64 (o : Int), .int .i64 pr, .bool has, .int .i64 e1, .int .i64 k1, .int .i64 p1, .slice x m d] 46)).alloc (.cells #[.int .i64 0, .int .i64 0, .int .i64 0, .int .i64 0, .int .i64 0, .bool false, .int .i64 0, .int .i64 0, .int .i64 0, .slice none 0 0] 46) = w0 at *
  have S0 := s0.out
  have c1 := (bR).cells
  have f1 := (bR).frees
  go_wp2
  refine bodyPost_ret (v := .tuple #[.agg #[.int .i64 0, .int .i64 0, .int .i64 0, .int .i64 0, .int .i64 0, .bool false, .int .i64 0, .int .i64 0, .int .i64 0, .slice none 0 0], .int .i64 10]) (by simp [results, Try.results47, go_sem, c1]) rfl ⟨rfl, ?_⟩
  exact Turn.trans (S := fun _ => False) (T := fun i => i = (w.heap.size + 1)) hw (set10 (S := fun i => i = (w.heap.size + 1)) w0 (w.heap.size + 1) rfl _ _ _ _ _ _ _ _ _ _) (fun i hi e => by omega)

set_option maxHeartbeats 3200000 in
theorem sa_far (B lo o : Nat) (id : Int) (up : Bool) (ro ep su ma ot co : Int) (A : Option Addr) (n c : Nat) (V1 : List EkV) (kd tgt me pr : Int) (has : Bool) (e1 k1 p1 : Int) (x : Option Addr) (m d : Nat) (xs : List Int) (w : World) (hb : Blk w B 39 #[.int .i64 0, .int .i64 id, .bool up, .int .i64 ro, .int .i64 ep, .slice A n c, .int .i64 su, .int .i64 ma, .int .i64 ot, .int .i64 co, .slice none 0 0]) (hoL0 : OwL w lo w.heap.size (.slice A n c) V1) (hlo0 : lo ≤ w.heap.size) (hid : id = 0 ∨ id = 1) (hn : n ≤ 100) (hr : ¬ ro = 1) (ho : n < o) :
    Calls Try.prog 47 #[.pointer (some ⟨B, 1, none⟩), .agg #[.int .i64 kd, .int .i64 tgt, .int .i64 me, .int .i64 (o : Int), .int .i64 pr, .bool has, .int .i64 e1, .int .i64 k1, .int .i64 p1, .slice x m d]] w fun e w' => ∃ A2 c2 U, e = .returned (.tuple #[.agg #[.int .i64 2, .int .i64 (1 - id), .int .i64 ep, .int .i64 ma, .int .i64 0, .bool false, .int .i64 0, .int .i64 0, .int .i64 0, .slice none 0 0], .int .i64 0]) ∧ Blk w' B 39 #[.int .i64 0, .int .i64 id, .bool up, .int .i64 ro, .int .i64 ep, .slice A2 n c2, .int .i64 su, .int .i64 ma, .int .i64 ot, .int .i64 co, .slice none 0 0] ∧ U.map EkV.r = V1.map EkV.r ∧ OwL w' lo w'.heap.size (.slice A2 n c2) U ∧ Turn (fun i => i = B) w w' := by
  have gr : (ro == 1) = false := by simp [hr]
  have hd1 : decide ((n : Int) < (o : Int)) = true := by simp; omega
  have HL : Hid (V1.length = n) := hoL0.lg.2
  have hw := ((New.refl w).alloc (.cells #[.int .i64 kd, .int .i64 tgt, .int .i64 me, .int .i64 (o : Int), .int .i64 pr, .bool has, .int .i64 e1, .int .i64 k1, .int .i64 p1, .slice x m d] 46)).alloc (.cells #[.int .i64 0, .int .i64 0, .int .i64 0, .int .i64 0, .int .i64 0, .bool false, .int .i64 0, .int .i64 0, .int .i64 0, .slice none 0 0] 46)
  have bM := (Blk.mk w w.heap.size 46 #[.int .i64 kd, .int .i64 tgt, .int .i64 me, .int .i64 (o : Int), .int .i64 pr, .bool has, .int .i64 e1, .int .i64 k1, .int .i64 p1, .slice x m d] rfl).alloc (.cells #[.int .i64 0, .int .i64 0, .int .i64 0, .int .i64 0, .int .i64 0, .bool false, .int .i64 0, .int .i64 0, .int .i64 0, .slice none 0 0] 46)
  have bR := Blk.mk (w.alloc (.cells #[.int .i64 kd, .int .i64 tgt, .int .i64 me, .int .i64 (o : Int), .int .i64 pr, .bool has, .int .i64 e1, .int .i64 k1, .int .i64 p1, .slice x m d] 46)) (w.heap.size + 1) 46 #[.int .i64 0, .int .i64 0, .int .i64 0, .int .i64 0, .int .i64 0, .bool false, .int .i64 0, .int .i64 0, .int .i64 0, .slice none 0 0] (by simp)
  have hb0 := hb.new hw
  have hoL := (hoL0.new hw).up hw.size
  have hlt := hb.lt
  have s0 : Hid (((w.alloc (.cells #[.int .i64 kd, .int .i64 tgt, .int .i64 me, .int .i64 (o : Int), .int .i64 pr, .bool has, .int .i64 e1, .int .i64 k1, .int .i64 p1, .slice x m d] 46)).alloc (.cells #[.int .i64 0, .int .i64 0, .int .i64 0, .int .i64 0, .int .i64 0, .bool false, .int .i64 0, .int .i64 0, .int .i64 0, .slice none 0 0] 46)).heap.size = w.heap.size + 1 + 1) := by unfold Hid; simp
  have cB := hb0.cells
  go_enter Try.func47, Try.ntmps47
  go_upto_region 4 with fail
  generalize (w.alloc (.cells #[.int .i64 kd, .int .i64 tgt, .int .i64 me, .int .i64 (o : Int), .int .i64 pr, .bool has, .int .i64 e1, .int .i64 k1, .int .i64 p1, .slice x m d] 46)).alloc (.cells #[.int .i64 0, .int .i64 0, .int .i64 0, .int .i64 0, .int .i64 0, .bool false, .int .i64 0, .int .i64 0, .int .i64 0, .slice none 0 0] 46) = w0 at *
  have S0 := s0.out
  refine hw_start (n := 13) (S := fun X => New w0 X) rfl (by kernel_rfl) ((New.refl _).drew) (fun hH => ?_)
  refine' hw_take 0 (some 19) _ rfl rfl (by kernel_rfl) (by kernel_rfl) (by kernel_rfl) (fun _ _ _ h => h) (by rfl) hH ?hy1 ?rest1
  case hy1 =>
    intro X hX
    go_simp
    try rfl
  simp only [Act.put, List.setIfInBounds_toArray, List.set_cons_zero, List.set_cons_succ]
  refine' hw_take 1 (some 20) _ rfl rfl (by kernel_rfl) (by kernel_rfl) (by kernel_rfl) (fun _ _ _ h => h) (by rfl) hH ?hy2 ?rest2
  case hy2 =>
    intro X hX
    go_simp
    try rfl
  simp only [Act.put, List.setIfInBounds_toArray, List.set_cons_zero, List.set_cons_succ]
  refine' hw_take 2 (some 21) _ rfl rfl (by kernel_rfl) (by kernel_rfl) (by kernel_rfl) (fun _ _ _ h => h) (by rfl) hH ?hy3 ?rest3
  case hy3 =>
    intro X hX
    have cX := (bM.new hX).cells
    go_simp
    try rfl
  simp only [Act.put, List.setIfInBounds_toArray, List.set_cons_zero, List.set_cons_succ]
  refine' hw_take 3 (some 22) (.bool true) rfl rfl (by kernel_rfl) (by kernel_rfl) (by kernel_rfl) (fun _ _ _ h => h) (by rfl) hH ?hyL4 ?restL4
  case hyL4 =>
    intro X hX
    go_simp
    try rfl
  simp only [Act.put, List.setIfInBounds_toArray, List.set_cons_zero, List.set_cons_succ]
  refine' hw_take 4 (some 23) _ rfl rfl (by kernel_rfl) (by kernel_rfl) (by kernel_rfl) (fun _ _ _ h => h) (by rfl) hH ?hy5 ?rest5
  case hy5 =>
    intro X hX
    go_simp
    try rfl
  simp only [Act.put, List.setIfInBounds_toArray, List.set_cons_zero, List.set_cons_succ]
  refine hw_skip 5 (some 24) rfl rfl (by kernel_rfl) (by kernel_rfl) (by kernel_rfl) (fun _ _ _ h => h) (by rfl) hH ?_
  simp only [Act.put, List.setIfInBounds_toArray, List.set_cons_zero, List.set_cons_succ]
  refine hw_skip 6 (some 25) rfl rfl (by kernel_rfl) (by kernel_rfl) (by kernel_rfl) (fun _ _ _ h => h) (by rfl) hH ?_
  simp only [Act.put, List.setIfInBounds_toArray, List.set_cons_zero, List.set_cons_succ]
  refine hw_skip 7 (some 26) rfl rfl (by kernel_rfl) (by kernel_rfl) (by kernel_rfl) (fun _ _ _ h => h) (by rfl) hH ?_
  simp only [Act.put, List.setIfInBounds_toArray, List.set_cons_zero, List.set_cons_succ]
  refine hw_skip 8 (some 27) rfl rfl (by kernel_rfl) (by kernel_rfl) (by kernel_rfl) (fun _ _ _ h => h) (by rfl) hH ?_
  simp only [Act.put, List.setIfInBounds_toArray, List.set_cons_zero, List.set_cons_succ]
  refine hw_skip 9 (some 28) rfl rfl (by kernel_rfl) (by kernel_rfl) (by kernel_rfl) (fun _ _ _ h => h) (by rfl) hH ?_
  simp only [Act.put, List.setIfInBounds_toArray, List.set_cons_zero, List.set_cons_succ]
  refine hw_skip 10 (some 29) rfl rfl (by kernel_rfl) (by kernel_rfl) (by kernel_rfl) (fun _ _ _ h => h) (by rfl) hH ?_
  simp only [Act.put, List.setIfInBounds_toArray, List.set_cons_zero, List.set_cons_succ]
  refine hw_skip 11 (some 30) rfl rfl (by kernel_rfl) (by kernel_rfl) (by kernel_rfl) (fun _ _ _ h => h) (by rfl) hH ?_
  simp only [Act.put, List.setIfInBounds_toArray, List.set_cons_zero, List.set_cons_succ]
  refine' hw_take 12 (some 31) _ rfl rfl (by kernel_rfl) (by kernel_rfl) (by kernel_rfl) (fun _ _ _ h => h) (by rfl) hH ?hy6 ?rest6
  case hy6 =>
    intro X hX
    go_simp
    try rfl
  simp only [Act.put, List.setIfInBounds_toArray, List.set_cons_zero, List.set_cons_succ]
  refine wpAnyH_done (by kernel_rfl) ?_ _
  have hb1 := hb0.new hH
  have hoL1 := hoL.new hH
  have bM1 := bM.new hH
  have bR1 := bR.new hH
  have hw1 := hw.trans hH
  have zw1 : w0.heap.size ≤ w0.drew.heap.size := Nat.le_refl _
  have HZ : Hid (w0.drew.heap.size = w0.heap.size) := rfl
  clear cB hb0 hoL bM bR hw
  generalize w0.drew = w1 at *
  have cB := hb1.cells
  go_wp2_with fail
  refine (taken_any ma B 0 id up ro ep su ma ot co A none n c 0 0 _ hb1 hid).mono ?_
  rintro e w2 ⟨rfl, hn2⟩
  have bR2 := bR1.new hn2
  have c1 := bR2.cells
  have f1 := bR2.frees
  have hw2 := hw1.trans hn2
  have hb2 := hb1.new hn2
  have hoL2 := hoL1.new hn2
  have z2 := hn2.size
  have z1 := hw1.size
  clear cB
  go_wp2
  refine bodyPost_ret (v := .tuple #[.agg #[.int .i64 2, .int .i64 (1 - id), .int .i64 ep, .int .i64 ma, .int .i64 0, .bool false, .int .i64 0, .int .i64 0, .int .i64 0, .slice none 0 0], .int .i64 0]) (by simp [results, Try.results47, go_sem, c1]) rfl ⟨A, c, V1, rfl, Blk.turn (S := fun i => i = (w.heap.size + 1)) hb2 ?t1 (by omega), rfl, OwL.up (OwL.turnB (w := w2) hoL2 bR2 (by decide) (by decide) ?t2) ?u1, ?n1⟩
  case t1 => exact set10 (S := fun i => i = (w.heap.size + 1)) w2 (w.heap.size + 1) rfl _ _ _ _ _ _ _ _ _ _
  case t2 => exact set10 (S := fun i => i = (w.heap.size + 1)) w2 (w.heap.size + 1) rfl _ _ _ _ _ _ _ _ _ _
  case u1 => exact Nat.le_trans (by omega) (Turn.size (S := fun i => i = (w.heap.size + 1)) (set10 (S := fun i => i = (w.heap.size + 1)) w2 (w.heap.size + 1) rfl _ _ _ _ _ _ _ _ _ _))
  case n1 => exact New.turn (Turn.trans (S := fun _ => False) (T := fun i => i = (w.heap.size + 1)) hw2 (set10 (S := fun i => i = (w.heap.size + 1)) w2 (w.heap.size + 1) rfl _ _ _ _ _ _ _ _ _ _) (fun i hi e => by omega))

set_option maxHeartbeats 3200000 in
theorem sa_prev (B lo o : Nat) (id : Int) (up : Bool) (ro ep su ma ot co : Int) (A : Option Addr) (n c : Nat) (V1 : List EkV) (kd tgt me pr : Int) (has : Bool) (e1 k1 p1 : Int) (x : Option Addr) (m d : Nat) (xs : List Int) (w : World) (hb : Blk w B 39 #[.int .i64 0, .int .i64 id, .bool up, .int .i64 ro, .int .i64 ep, .slice A n c, .int .i64 su, .int .i64 ma, .int .i64 ot, .int .i64 co, .slice none 0 0]) (hoL0 : OwL w lo w.heap.size (.slice A n c) V1) (hlo0 : lo ≤ w.heap.size) (hid : id = 0 ∨ id = 1) (hn : n ≤ 100) (hr : ¬ ro = 1) (ho : o ≤ n) (q : Int) (hq : prevE (V1.map EkV.r) o = q) (hp : ¬ q = pr) :
    Calls Try.prog 47 #[.pointer (some ⟨B, 1, none⟩), .agg #[.int .i64 kd, .int .i64 tgt, .int .i64 me, .int .i64 (o : Int), .int .i64 pr, .bool has, .int .i64 e1, .int .i64 k1, .int .i64 p1, .slice x m d]] w fun e w' => ∃ A2 c2 U, e = .returned (.tuple #[.agg #[.int .i64 2, .int .i64 (1 - id), .int .i64 ep, .int .i64 ma, .int .i64 0, .bool false, .int .i64 0, .int .i64 0, .int .i64 0, .slice none 0 0], .int .i64 0]) ∧ Blk w' B 39 #[.int .i64 0, .int .i64 id, .bool up, .int .i64 ro, .int .i64 ep, .slice A2 n c2, .int .i64 su, .int .i64 ma, .int .i64 ot, .int .i64 co, .slice none 0 0] ∧ U.map EkV.r = V1.map EkV.r ∧ OwL w' lo w'.heap.size (.slice A2 n c2) U ∧ Turn (fun i => i = B) w w' := by
  have gr : (ro == 1) = false := by simp [hr]
  have hd1 : decide ((n : Int) < (o : Int)) = false := by simp; omega
  have hd2 : (q != pr) = true := by simp [hp]
  have HQ : Hid (prevE (V1.map EkV.r) o = q) := hq
  clear hq
  have HL : Hid (V1.length = n) := hoL0.lg.2
  have hw := ((New.refl w).alloc (.cells #[.int .i64 kd, .int .i64 tgt, .int .i64 me, .int .i64 (o : Int), .int .i64 pr, .bool has, .int .i64 e1, .int .i64 k1, .int .i64 p1, .slice x m d] 46)).alloc (.cells #[.int .i64 0, .int .i64 0, .int .i64 0, .int .i64 0, .int .i64 0, .bool false, .int .i64 0, .int .i64 0, .int .i64 0, .slice none 0 0] 46)
  have bM := (Blk.mk w w.heap.size 46 #[.int .i64 kd, .int .i64 tgt, .int .i64 me, .int .i64 (o : Int), .int .i64 pr, .bool has, .int .i64 e1, .int .i64 k1, .int .i64 p1, .slice x m d] rfl).alloc (.cells #[.int .i64 0, .int .i64 0, .int .i64 0, .int .i64 0, .int .i64 0, .bool false, .int .i64 0, .int .i64 0, .int .i64 0, .slice none 0 0] 46)
  have bR := Blk.mk (w.alloc (.cells #[.int .i64 kd, .int .i64 tgt, .int .i64 me, .int .i64 (o : Int), .int .i64 pr, .bool has, .int .i64 e1, .int .i64 k1, .int .i64 p1, .slice x m d] 46)) (w.heap.size + 1) 46 #[.int .i64 0, .int .i64 0, .int .i64 0, .int .i64 0, .int .i64 0, .bool false, .int .i64 0, .int .i64 0, .int .i64 0, .slice none 0 0] (by simp)
  have hb0 := hb.new hw
  have hoL := (hoL0.new hw).up hw.size
  have hlt := hb.lt
  have s0 : Hid (((w.alloc (.cells #[.int .i64 kd, .int .i64 tgt, .int .i64 me, .int .i64 (o : Int), .int .i64 pr, .bool has, .int .i64 e1, .int .i64 k1, .int .i64 p1, .slice x m d] 46)).alloc (.cells #[.int .i64 0, .int .i64 0, .int .i64 0, .int .i64 0, .int .i64 0, .bool false, .int .i64 0, .int .i64 0, .int .i64 0, .slice none 0 0] 46)).heap.size = w.heap.size + 1 + 1) := by unfold Hid; simp
  have cB := hb0.cells
  go_enter Try.func47, Try.ntmps47
  go_upto_region 4 with fail
  generalize (w.alloc (.cells #[.int .i64 kd, .int .i64 tgt, .int .i64 me, .int .i64 (o : Int), .int .i64 pr, .bool has, .int .i64 e1, .int .i64 k1, .int .i64 p1, .slice x m d] 46)).alloc (.cells #[.int .i64 0, .int .i64 0, .int .i64 0, .int .i64 0, .int .i64 0, .bool false, .int .i64 0, .int .i64 0, .int .i64 0, .slice none 0 0] 46) = w0 at *
  have S0 := s0.out
  refine hw_start (n := 13) (S := fun X => New w0 X) rfl (by kernel_rfl) ((New.refl _).drew) (fun hH => ?_)
  refine' hw_take 0 (some 19) _ rfl rfl (by kernel_rfl) (by kernel_rfl) (by kernel_rfl) (fun _ _ _ h => h) (by rfl) hH ?hy7 ?rest7
  case hy7 =>
    intro X hX
    go_simp
    try rfl
  simp only [Act.put, List.setIfInBounds_toArray, List.set_cons_zero, List.set_cons_succ]
  refine' hw_take 1 (some 20) _ rfl rfl (by kernel_rfl) (by kernel_rfl) (by kernel_rfl) (fun _ _ _ h => h) (by rfl) hH ?hy8 ?rest8
  case hy8 =>
    intro X hX
    go_simp
    try rfl
  simp only [Act.put, List.setIfInBounds_toArray, List.set_cons_zero, List.set_cons_succ]
  refine' hw_take 2 (some 21) _ rfl rfl (by kernel_rfl) (by kernel_rfl) (by kernel_rfl) (fun _ _ _ h => h) (by rfl) hH ?hy9 ?rest9
  case hy9 =>
    intro X hX
    have cX := (bM.new hX).cells
    go_simp
    try rfl
  simp only [Act.put, List.setIfInBounds_toArray, List.set_cons_zero, List.set_cons_succ]
  refine' hw_take 3 (some 22) (.bool false) rfl rfl (by kernel_rfl) (by kernel_rfl) (by kernel_rfl) (fun _ _ _ h => h) (by rfl) hH ?hyL10 ?restL10
  case hyL10 =>
    intro X hX
    go_simp
    try rfl
  simp only [Act.put, List.setIfInBounds_toArray, List.set_cons_zero, List.set_cons_succ]
  refine' hw_take 4 (some 23) _ rfl rfl (by kernel_rfl) (by kernel_rfl) (by kernel_rfl) (fun _ _ _ h => h) (by rfl) hH ?hy11 ?rest11
  case hy11 =>
    intro X hX
    go_simp
    try rfl
  simp only [Act.put, List.setIfInBounds_toArray, List.set_cons_zero, List.set_cons_succ]
  refine' hw_take 5 (some 24) _ rfl rfl (by kernel_rfl) (by kernel_rfl) (by kernel_rfl) (fun _ _ _ h => h) (by rfl) hH ?hy12 ?rest12
  case hy12 =>
    intro X hX
    go_simp
    try rfl
  simp only [Act.put, List.setIfInBounds_toArray, List.set_cons_zero, List.set_cons_succ]
  refine' hw_take 6 (some 25) _ rfl rfl (by kernel_rfl) (by kernel_rfl) (by kernel_rfl) (fun _ _ _ h => h) (by rfl) hH ?hy13 ?rest13
  case hy13 =>
    intro X hX
    go_simp
    try rfl
  simp only [Act.put, List.setIfInBounds_toArray, List.set_cons_zero, List.set_cons_succ]
  refine' hw_take 7 (some 26) _ rfl rfl (by kernel_rfl) (by kernel_rfl) (by kernel_rfl) (fun _ _ _ h => h) (by rfl) hH ?hy14 ?rest14
  case hy14 =>
    intro X hX
    have cX := (bM.new hX).cells
    go_simp
    try rfl
  simp only [Act.put, List.setIfInBounds_toArray, List.set_cons_zero, List.set_cons_succ]
  refine' hw_take 9 (some 28) _ rfl rfl (by kernel_rfl) (by kernel_rfl) (by kernel_rfl) (fun _ _ _ h => h) (by rfl) hH ?hy15 ?rest15
  case hy15 =>
    intro X hX
    go_simp
    try rfl
  simp only [Act.put, List.setIfInBounds_toArray, List.set_cons_zero, List.set_cons_succ]
  refine' hw_take 10 (some 29) _ rfl rfl (by kernel_rfl) (by kernel_rfl) (by kernel_rfl) (fun _ _ _ h => h) (by rfl) hH ?hy16 ?rest16
  case hy16 =>
    intro X hX
    have cX := (bM.new hX).cells
    go_simp
    try rfl
  simp only [Act.put, List.setIfInBounds_toArray, List.set_cons_zero, List.set_cons_succ]
  refine hw_call 8 (some 27) rfl rfl (by kernel_rfl) (by rfl) (fun K hK => ?_)
  go_simp
  refine (prevR_any o B id up ro ep su ma ot co A n c V1 _ (hb0.new hH) (hoL.lg.1.new hH) HL.out (by omega) ho).mono ?_
  rintro e wz ⟨rfl, hwz⟩
  subst hwz
  rw [HQ.out]
  go_simp
  refine hK.out _ _ ((New.refl _).drew) (fun hH2 => ?_)
  simp only [Act.put, List.setIfInBounds_toArray, List.set_cons_zero, List.set_cons_succ]
  refine' hw_take 11 (some 30) (.bool true) rfl rfl (by kernel_rfl) (by kernel_rfl) (by kernel_rfl) (fun _ _ _ h => h) (by rfl) hH2 ?hyL17 ?restL17
  case hyL17 =>
    intro X hX
    go_simp
    try rfl
  simp only [Act.put, List.setIfInBounds_toArray, List.set_cons_zero, List.set_cons_succ]
  refine' hw_take 12 (some 31) _ rfl rfl (by kernel_rfl) (by kernel_rfl) (by kernel_rfl) (fun _ _ _ h => h) (by rfl) hH2 ?hy18 ?rest18
  case hy18 =>
    intro X hX
    go_simp
    try rfl
  simp only [Act.put, List.setIfInBounds_toArray, List.set_cons_zero, List.set_cons_succ]
  refine wpAnyH_done (by kernel_rfl) ?_ _
  have hb1 := hb0.new hH2
  have hoL1 := hoL.new hH2
  have bM1 := bM.new hH2
  have bR1 := bR.new hH2
  have hw1 := hw.trans hH2
  have zw1 : w0.heap.size ≤ w0.drew.heap.size := Nat.le_refl _
  have HZ : Hid (w0.drew.heap.size = w0.heap.size) := rfl
  clear cB hb0 hoL bM bR hw
  generalize w0.drew = w1 at *
  have cB := hb1.cells
  go_wp2_with fail
  refine (taken_any ma B 0 id up ro ep su ma ot co A none n c 0 0 _ hb1 hid).mono ?_
  rintro e w2 ⟨rfl, hn2⟩
  have bR2 := bR1.new hn2
  have c1 := bR2.cells
  have f1 := bR2.frees
  have hw2 := hw1.trans hn2
  have hb2 := hb1.new hn2
  have hoL2 := hoL1.new hn2
  have z2 := hn2.size
  have z1 := hw1.size
  clear cB
  go_wp2
  refine bodyPost_ret (v := .tuple #[.agg #[.int .i64 2, .int .i64 (1 - id), .int .i64 ep, .int .i64 ma, .int .i64 0, .bool false, .int .i64 0, .int .i64 0, .int .i64 0, .slice none 0 0], .int .i64 0]) (by simp [results, Try.results47, go_sem, c1]) rfl ⟨A, c, V1, rfl, Blk.turn (S := fun i => i = (w.heap.size + 1)) hb2 ?t1 (by omega), rfl, OwL.up (OwL.turnB (w := w2) hoL2 bR2 (by decide) (by decide) ?t2) ?u1, ?n1⟩
  case t1 => exact set10 (S := fun i => i = (w.heap.size + 1)) w2 (w.heap.size + 1) rfl _ _ _ _ _ _ _ _ _ _
  case t2 => exact set10 (S := fun i => i = (w.heap.size + 1)) w2 (w.heap.size + 1) rfl _ _ _ _ _ _ _ _ _ _
  case u1 => exact Nat.le_trans (by omega) (Turn.size (S := fun i => i = (w.heap.size + 1)) (set10 (S := fun i => i = (w.heap.size + 1)) w2 (w.heap.size + 1) rfl _ _ _ _ _ _ _ _ _ _))
  case n1 => exact New.turn (Turn.trans (S := fun _ => False) (T := fun i => i = (w.heap.size + 1)) hw2 (set10 (S := fun i => i = (w.heap.size + 1)) w2 (w.heap.size + 1) rfl _ _ _ _ _ _ _ _ _ _) (fun i hi e => by omega))

set_option maxHeartbeats 3200000 in
theorem sa_no (B lo o : Nat) (id : Int) (up : Bool) (ro ep su ma ot co : Int) (A : Option Addr) (n c : Nat) (V1 : List EkV) (kd tgt me pr : Int) (e1 k1 p1 : Int) (x : Option Addr) (m d : Nat) (xs : List Int) (w : World) (hb : Blk w B 39 #[.int .i64 0, .int .i64 id, .bool up, .int .i64 ro, .int .i64 ep, .slice A n c, .int .i64 su, .int .i64 ma, .int .i64 ot, .int .i64 co, .slice none 0 0]) (hoL0 : OwL w lo w.heap.size (.slice A n c) V1) (hlo0 : lo ≤ w.heap.size) (hid : id = 0 ∨ id = 1) (hn : n ≤ 100) (hr : ¬ ro = 1) (ho : o ≤ n) (hq : prevE (V1.map EkV.r) o = pr) (mx at2 : Int) (HMX : Hid (max ma (o : Int) = mx)) (HAT : Hid (min mx su = at2)) :
    Calls Try.prog 47 #[.pointer (some ⟨B, 1, none⟩), .agg #[.int .i64 kd, .int .i64 tgt, .int .i64 me, .int .i64 (o : Int), .int .i64 pr, .bool false, .int .i64 e1, .int .i64 k1, .int .i64 p1, .slice x m d]] w fun e w' => ∃ A2 c2 U, e = .returned (.tuple #[.agg #[.int .i64 2, .int .i64 (1 - id), .int .i64 ep, .int .i64 at2, .int .i64 0, .bool false, .int .i64 0, .int .i64 0, .int .i64 0, .slice none 0 0], .int .i64 0]) ∧ Blk w' B 39 #[.int .i64 0, .int .i64 id, .bool up, .int .i64 ro, .int .i64 ep, .slice A2 n c2, .int .i64 su, .int .i64 mx, .int .i64 ot, .int .i64 co, .slice none 0 0] ∧ U.map EkV.r = V1.map EkV.r ∧ OwL w' lo w'.heap.size (.slice A2 n c2) U ∧ Turn (fun i => i = B) w w' := by
  have gr : (ro == 1) = false := by simp [hr]
  have hd1 : decide ((n : Int) < (o : Int)) = false := by simp; omega
  have hd2 : (pr != pr) = false := by simp
  have HQ : Hid (prevE (V1.map EkV.r) o = pr) := hq
  clear hq
  have HL : Hid (V1.length = n) := hoL0.lg.2
  have hw := ((New.refl w).alloc (.cells #[.int .i64 kd, .int .i64 tgt, .int .i64 me, .int .i64 (o : Int), .int .i64 pr, .bool false, .int .i64 e1, .int .i64 k1, .int .i64 p1, .slice x m d] 46)).alloc (.cells #[.int .i64 0, .int .i64 0, .int .i64 0, .int .i64 0, .int .i64 0, .bool false, .int .i64 0, .int .i64 0, .int .i64 0, .slice none 0 0] 46)
  have bM := (Blk.mk w w.heap.size 46 #[.int .i64 kd, .int .i64 tgt, .int .i64 me, .int .i64 (o : Int), .int .i64 pr, .bool false, .int .i64 e1, .int .i64 k1, .int .i64 p1, .slice x m d] rfl).alloc (.cells #[.int .i64 0, .int .i64 0, .int .i64 0, .int .i64 0, .int .i64 0, .bool false, .int .i64 0, .int .i64 0, .int .i64 0, .slice none 0 0] 46)
  have bR := Blk.mk (w.alloc (.cells #[.int .i64 kd, .int .i64 tgt, .int .i64 me, .int .i64 (o : Int), .int .i64 pr, .bool false, .int .i64 e1, .int .i64 k1, .int .i64 p1, .slice x m d] 46)) (w.heap.size + 1) 46 #[.int .i64 0, .int .i64 0, .int .i64 0, .int .i64 0, .int .i64 0, .bool false, .int .i64 0, .int .i64 0, .int .i64 0, .slice none 0 0] (by simp)
  have hb0 := hb.new hw
  have hoL := (hoL0.new hw).up hw.size
  have hlt := hb.lt
  have s0 : Hid (((w.alloc (.cells #[.int .i64 kd, .int .i64 tgt, .int .i64 me, .int .i64 (o : Int), .int .i64 pr, .bool false, .int .i64 e1, .int .i64 k1, .int .i64 p1, .slice x m d] 46)).alloc (.cells #[.int .i64 0, .int .i64 0, .int .i64 0, .int .i64 0, .int .i64 0, .bool false, .int .i64 0, .int .i64 0, .int .i64 0, .slice none 0 0] 46)).heap.size = w.heap.size + 1 + 1) := by unfold Hid; simp
  have cB := hb0.cells
  go_enter Try.func47, Try.ntmps47
  go_upto_region 4 with fail
  generalize (w.alloc (.cells #[.int .i64 kd, .int .i64 tgt, .int .i64 me, .int .i64 (o : Int), .int .i64 pr, .bool false, .int .i64 e1, .int .i64 k1, .int .i64 p1, .slice x m d] 46)).alloc (.cells #[.int .i64 0, .int .i64 0, .int .i64 0, .int .i64 0, .int .i64 0, .bool false, .int .i64 0, .int .i64 0, .int .i64 0, .slice none 0 0] 46) = w0 at *
  have S0 := s0.out
  refine hw_start (n := 13) (S := fun X => New w0 X) rfl (by kernel_rfl) ((New.refl _).drew) (fun hH => ?_)
  refine' hw_take 0 (some 19) _ rfl rfl (by kernel_rfl) (by kernel_rfl) (by kernel_rfl) (fun _ _ _ h => h) (by rfl) hH ?hy19 ?rest19
  case hy19 =>
    intro X hX
    go_simp
    try rfl
  simp only [Act.put, List.setIfInBounds_toArray, List.set_cons_zero, List.set_cons_succ]
  refine' hw_take 1 (some 20) _ rfl rfl (by kernel_rfl) (by kernel_rfl) (by kernel_rfl) (fun _ _ _ h => h) (by rfl) hH ?hy20 ?rest20
  case hy20 =>
    intro X hX
    go_simp
    try rfl
  simp only [Act.put, List.setIfInBounds_toArray, List.set_cons_zero, List.set_cons_succ]
  refine' hw_take 2 (some 21) _ rfl rfl (by kernel_rfl) (by kernel_rfl) (by kernel_rfl) (fun _ _ _ h => h) (by rfl) hH ?hy21 ?rest21
  case hy21 =>
    intro X hX
    have cX := (bM.new hX).cells
    go_simp
    try rfl
  simp only [Act.put, List.setIfInBounds_toArray, List.set_cons_zero, List.set_cons_succ]
  refine' hw_take 3 (some 22) (.bool false) rfl rfl (by kernel_rfl) (by kernel_rfl) (by kernel_rfl) (fun _ _ _ h => h) (by rfl) hH ?hyL22 ?restL22
  case hyL22 =>
    intro X hX
    go_simp
    try rfl
  simp only [Act.put, List.setIfInBounds_toArray, List.set_cons_zero, List.set_cons_succ]
  refine' hw_take 4 (some 23) _ rfl rfl (by kernel_rfl) (by kernel_rfl) (by kernel_rfl) (fun _ _ _ h => h) (by rfl) hH ?hy23 ?rest23
  case hy23 =>
    intro X hX
    go_simp
    try rfl
  simp only [Act.put, List.setIfInBounds_toArray, List.set_cons_zero, List.set_cons_succ]
  refine' hw_take 5 (some 24) _ rfl rfl (by kernel_rfl) (by kernel_rfl) (by kernel_rfl) (fun _ _ _ h => h) (by rfl) hH ?hy24 ?rest24
  case hy24 =>
    intro X hX
    go_simp
    try rfl
  simp only [Act.put, List.setIfInBounds_toArray, List.set_cons_zero, List.set_cons_succ]
  refine' hw_take 6 (some 25) _ rfl rfl (by kernel_rfl) (by kernel_rfl) (by kernel_rfl) (fun _ _ _ h => h) (by rfl) hH ?hy25 ?rest25
  case hy25 =>
    intro X hX
    go_simp
    try rfl
  simp only [Act.put, List.setIfInBounds_toArray, List.set_cons_zero, List.set_cons_succ]
  refine' hw_take 7 (some 26) _ rfl rfl (by kernel_rfl) (by kernel_rfl) (by kernel_rfl) (fun _ _ _ h => h) (by rfl) hH ?hy26 ?rest26
  case hy26 =>
    intro X hX
    have cX := (bM.new hX).cells
    go_simp
    try rfl
  simp only [Act.put, List.setIfInBounds_toArray, List.set_cons_zero, List.set_cons_succ]
  refine' hw_take 9 (some 28) _ rfl rfl (by kernel_rfl) (by kernel_rfl) (by kernel_rfl) (fun _ _ _ h => h) (by rfl) hH ?hy27 ?rest27
  case hy27 =>
    intro X hX
    go_simp
    try rfl
  simp only [Act.put, List.setIfInBounds_toArray, List.set_cons_zero, List.set_cons_succ]
  refine' hw_take 10 (some 29) _ rfl rfl (by kernel_rfl) (by kernel_rfl) (by kernel_rfl) (fun _ _ _ h => h) (by rfl) hH ?hy28 ?rest28
  case hy28 =>
    intro X hX
    have cX := (bM.new hX).cells
    go_simp
    try rfl
  simp only [Act.put, List.setIfInBounds_toArray, List.set_cons_zero, List.set_cons_succ]
  refine hw_call 8 (some 27) rfl rfl (by kernel_rfl) (by rfl) (fun K hK => ?_)
  go_simp
  refine (prevR_any o B id up ro ep su ma ot co A n c V1 _ (hb0.new hH) (hoL.lg.1.new hH) HL.out (by omega) ho).mono ?_
  rintro e wz ⟨rfl, hwz⟩
  subst hwz
  rw [HQ.out]
  go_simp
  refine hK.out _ _ ((New.refl _).drew) (fun hH2 => ?_)
  simp only [Act.put, List.setIfInBounds_toArray, List.set_cons_zero, List.set_cons_succ]
  refine' hw_take 11 (some 30) (.bool false) rfl rfl (by kernel_rfl) (by kernel_rfl) (by kernel_rfl) (fun _ _ _ h => h) (by rfl) hH2 ?hyL29 ?restL29
  case hyL29 =>
    intro X hX
    go_simp
    try rfl
  simp only [Act.put, List.setIfInBounds_toArray, List.set_cons_zero, List.set_cons_succ]
  refine' hw_take 12 (some 31) _ rfl rfl (by kernel_rfl) (by kernel_rfl) (by kernel_rfl) (fun _ _ _ h => h) (by rfl) hH2 ?hy30 ?rest30
  case hy30 =>
    intro X hX
    go_simp
    try rfl
  simp only [Act.put, List.setIfInBounds_toArray, List.set_cons_zero, List.set_cons_succ]
  refine wpAnyH_done (by kernel_rfl) ?_ _
  have hb1 := hb0.new hH2
  have hoL1 := hoL.new hH2
  have bM1 := bM.new hH2
  have bR1 := bR.new hH2
  have hw1 := hw.trans hH2
  have zw1 : w0.heap.size ≤ w0.drew.heap.size := Nat.le_refl _
  have HZ : Hid (w0.drew.heap.size = w0.heap.size) := rfl
  clear cB hb0 hoL bM bR hw
  generalize w0.drew = w1 at *
  have cB := hb1.cells
  have tw1 : Turn (fun i => i = B) w w1 := hw1.turn
  have cM := bM1.cells
  go_upto_region 17 with fail
  go_wp2_with fail
  refine (max_any ma (o : Int) _).mono ?_
  rintro e wz ⟨rfl, hwz⟩
  obtain rfl := hwz.symm
  rw [HMX.out]
  have bE := hb1.set 7 (.int .i64 mx)
  have tE := (Turn.refl (fun i => i = B) w1).set (p := ⟨B, 7, none⟩) rfl (.int .i64 mx)
  have hoE := (hoL1.turnB hb1 (by decide) (by decide) tE)
  have bME := bM1.turn tE (by omega)
  have bRE := bR1.turn tE (by omega)
  have twE := Turn.trans tw1 tE (fun i _ e => e)
  have zE := tE.size
  have fB := hb1.frees
  go_upto_region 18 with fail
  clear cB fB
  generalize World.setCell _ _ _ = wE at *
  refine hw_start (n := 13) (S := fun X => Turn (fun i => i = (w.heap.size + 1)) wE X) rfl (by kernel_rfl) (((New.refl _).drew).turn) (fun hH => ?_)
  refine' hw_take 0 (some 121) _ rfl rfl (by kernel_rfl) (by kernel_rfl) (by kernel_rfl) (fun _ _ _ h => h) (by rfl) hH ?hy31 ?rest31
  case hy31 =>
    intro X hX
    go_simp
    try rfl
  simp only [Act.put, List.setIfInBounds_toArray, List.set_cons_zero, List.set_cons_succ]
  refine' hw_take 1 (some 122) _ rfl rfl (by kernel_rfl) (by kernel_rfl) (by kernel_rfl) (fun _ _ _ h => h) (by rfl) hH ?hy32 ?rest32
  case hy32 =>
    intro X hX
    go_simp
    try rfl
  simp only [Act.put, List.setIfInBounds_toArray, List.set_cons_zero, List.set_cons_succ]
  refine' hw_take 2 (some 123) _ rfl rfl (by kernel_rfl) (by kernel_rfl) (by kernel_rfl) (fun _ _ _ h => h) (by rfl) hH ?hy33 ?rest33
  case hy33 =>
    intro X hX
    go_simp
    try rfl
  simp only [Act.put, List.setIfInBounds_toArray, List.set_cons_zero, List.set_cons_succ]
  refine' hw_take 3 (some 124) _ rfl rfl (by kernel_rfl) (by kernel_rfl) (by kernel_rfl) (fun _ _ _ h => h) (by rfl) hH ?hy34 ?rest34
  case hy34 =>
    intro X hX
    go_simp
    try rfl
  simp only [Act.put, List.setIfInBounds_toArray, List.set_cons_zero, List.set_cons_succ]
  refine' hw_take 4 (some 125) _ rfl rfl (by kernel_rfl) (by kernel_rfl) (by kernel_rfl) (fun _ _ _ h => h) (by rfl) hH ?hy35 ?rest35
  case hy35 =>
    intro X hX
    have cX := (bE.turn hX (by omega)).cells
    go_simp
    try rfl
  simp only [Act.put, List.setIfInBounds_toArray, List.set_cons_zero, List.set_cons_succ]
  refine' hw_take 5 (some 126) _ rfl rfl (by kernel_rfl) (by kernel_rfl) (by kernel_rfl) (fun _ _ _ h => h) (by rfl) hH ?hy36 ?rest36
  case hy36 =>
    intro X hX
    go_simp
    try rfl
  simp only [Act.put, List.setIfInBounds_toArray, List.set_cons_zero, List.set_cons_succ]
  refine' hw_take 6 (some 127) _ rfl rfl (by kernel_rfl) (by kernel_rfl) (by kernel_rfl) (fun _ _ _ h => h) (by rfl) hH ?hy37 ?rest37
  case hy37 =>
    intro X hX
    go_simp
    try rfl
  simp only [Act.put, List.setIfInBounds_toArray, List.set_cons_zero, List.set_cons_succ]
  refine' hw_take 7 (some 128) _ rfl rfl (by kernel_rfl) (by kernel_rfl) (by kernel_rfl) (fun _ _ _ h => h) (by rfl) hH ?hy38 ?rest38
  case hy38 =>
    intro X hX
    go_simp
    try rfl
  simp only [Act.put, List.setIfInBounds_toArray, List.set_cons_zero, List.set_cons_succ]
  refine' hw_take 8 (some 129) _ rfl rfl (by kernel_rfl) (by kernel_rfl) (by kernel_rfl) (fun _ _ _ h => h) (by rfl) hH ?hy39 ?rest39
  case hy39 =>
    intro X hX
    have cX := (bE.turn hX (by omega)).cells
    go_simp
    try rfl
  simp only [Act.put, List.setIfInBounds_toArray, List.set_cons_zero, List.set_cons_succ]
  refine hw_call 9 (some 130) rfl rfl (by kernel_rfl) (by rfl) (fun K hK => ?_)
  go_simp
  refine (min_any mx su _).mono ?_
  rintro e wz ⟨rfl, hwz⟩
  subst hwz
  rw [HAT.out]
  go_simp
  refine hK.out _ _ hH (fun hH1 => ?_)
  simp only [Act.put, List.setIfInBounds_toArray, List.set_cons_zero, List.set_cons_succ]
  refine hw_call 10 (some 131) rfl rfl (by kernel_rfl) (by rfl) (fun K hK => ?_)
  go_simp
  refine (taken_any at2 B 0 id up ro ep su mx ot co A none n c 0 0 _ (bE.turn hH1 (by omega)) hid).mono ?_
  rintro e w5 ⟨rfl, hn5⟩
  have t5 := Turn.trans hH1 hn5 (fun i _ f => f.elim)
  go_simp
  refine hK.out _ _ t5 (fun hH5 => ?_)
  simp only [Act.put, List.setIfInBounds_toArray, List.set_cons_zero, List.set_cons_succ]
  refine hw_call 11 none rfl rfl (by kernel_rfl) (by rfl) (fun K hK => ?_)
  have n5 : New wE w5 := ((New.refl _).drew).trans hn5
  have bR5 := bRE.new n5
  have bE5 := bE.new n5
  have ho5 := hoE.new n5
  have z5 := n5.size
  refine hw_store 46 (.tmp 4) (.tmp 131) rfl rfl (w.heap.size + 1) #[.int .i64 2, .int .i64 (1 - id), .int .i64 ep, .int .i64 at2, .int .i64 0, .bool false, .int .i64 0, .int .i64 0, .int .i64 0, .slice none 0 0] #[.int .i64 0, .int .i64 0, .int .i64 0, .int .i64 0, .int .i64 0, .bool false, .int .i64 0, .int .i64 0, .int .i64 0, .slice none 0 0] rfl rfl bR5 (by kernel_rfl) rfl (by kernel_rfl) ?_
  have tR := Turn.rowW (Turn.refl (fun i => i = (w.heap.size + 1)) w5) rfl #[.int .i64 2, .int .i64 (1 - id), .int .i64 ep, .int .i64 at2, .int .i64 0, .bool false, .int .i64 0, .int .i64 0, .int .i64 0, .slice none 0 0]
  have bRR := bR5.rowW #[.int .i64 2, .int .i64 (1 - id), .int .i64 ep, .int .i64 at2, .int .i64 0, .bool false, .int .i64 0, .int .i64 0, .int .i64 0, .slice none 0 0]
  have hoR := ho5.turnB bR5 (by decide) (by decide) tR
  have bER := bE5.turn tR (by omega)
  have tF := Turn.trans (Turn.trans twE n5 (fun i _ f => f.elim)) tR (fun i hi e => by omega)
  have zR := tR.size
  refine hK.out undef _ (Turn.trans t5 tR (fun i _ e => e)) (fun hS2 => ?_)
  simp only [Act.put, List.setIfInBounds_toArray, List.set_cons_zero, List.set_cons_succ]
  refine' hw_take 12 (some 5) _ rfl rfl (by kernel_rfl) (by kernel_rfl) (by kernel_rfl) (fun _ _ _ h => h) (by rfl) hS2 ?hy40 ?rest40
  case hy40 =>
    intro X hX
    go_simp
    try rfl
  simp only [Act.put, List.setIfInBounds_toArray, List.set_cons_zero, List.set_cons_succ]
  refine wpAnyH_done (by kernel_rfl) ?_ _
  generalize World.setRow _ _ _ = wR at *
  go_wp2
  all_goals exact bodyPost_ret (results_rowT rfl rfl rfl bRR ⟨_, Try.underlying46⟩ (by kernel_rfl)) rfl ⟨A, c, V1, rfl, bER, rfl, hoR.up (by omega), tF⟩

end Go.Proofs.Ythnigcalboobgaa
