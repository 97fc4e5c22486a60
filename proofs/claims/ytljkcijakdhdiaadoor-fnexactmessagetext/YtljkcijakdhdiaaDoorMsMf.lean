/- What is proved here: what the judging of a message answers, in the program and in its model, for every lists of at most 1048576 elements. -/
import Derived.Test.YtljkcijakdhdiaaDoorMsFn2
namespace Go.Proofs.YtljkcijakdhdiaaDoor
open Go.RowKit Go.Sort
set_option linter.unusedVariables false

/-- The fault of a message. -/
def mf (kd sa ho si wh su : Int) (gs : List (Int × Int)) (has : Bool) (o : Int) (xs : List Int) (nx md lc : Int) (rs : List (Int × Int)) : Int :=
  if kd < 1 ∨ 4 < kd then 1 else if kd = 1 ∧ ¬ Opn sa ho si then 3 else if kd = 3 ∧ ¬ Nty wh su then 3
  else if ¬ ((kd ≠ 1 → sa = 0 ∧ ho = 0 ∧ si = 0) ∧ (kd ≠ 3 → wh = 0 ∧ su = 0) ∧ (kd ≠ 2 → ZuP gs has o xs nx md lc rs)) then 1
  else if kd = 2 then uf gs has o xs nx md lc rs else 0

theorem SuZ (gs : List (Int × Int)) (has : Bool) (o : Int) (xs : List Int) (nx md lc : Int) (rs : List (Int × Int)) : SuP gs has o xs nx md lc rs [] false 0 [] 0 0 0 [] ↔ ZuP gs has o xs nx md lc rs := by
  unfold SuP ZuP SaP ZaP
  simp only [List.length_eq_zero_iff]
  constructor
  · rintro ⟨h1, h2, ⟨h3, h4, h5, h6, h7⟩, h8⟩; exact ⟨h1, h8, h2, h3, h7, h4, h5, h6⟩
  · rintro ⟨h1, h8, h2, h3, h7, h4, h5, h6⟩; exact ⟨h1, h2, ⟨h3, h4, h5, h6, h7⟩, h8⟩
theorem uf_zero {gs rs : List (Int × Int)} {has : Bool} {o nx md lc : Int} {xs : List Int} (h : ZuP gs has o xs nx md lc rs) : uf gs has o xs nx md lc rs = 0 := by
  obtain ⟨h1, h8, rfl, rfl, h7, rfl, rfl, rfl⟩ := h
  obtain rfl := List.length_eq_zero_iff.1 h1
  obtain rfl := List.length_eq_zero_iff.1 h8
  obtain rfl := List.length_eq_zero_iff.1 h7
  rfl

theorem mf_none {gs rs : List (Int × Int)} {has : Bool} {o nx md lc : Int} {xs : List Int} {kd sa ho si wh su : Int} (h : kd < 1 ∨ 4 < kd) : mf kd sa ho si wh su gs has o xs nx md lc rs = 1 := if_pos h
theorem mf1_bad {gs rs : List (Int × Int)} {has : Bool} {o nx md lc : Int} {xs : List Int} {sa ho si wh su : Int} (h : ¬ Opn sa ho si) : mf 1 sa ho si wh su gs has o xs nx md lc rs = 3 := by
  unfold mf; rw [if_neg (by omega), if_pos ⟨rfl, h⟩]
theorem mf1_form {gs rs : List (Int × Int)} {has : Bool} {o nx md lc : Int} {xs : List Int} {sa ho si wh su : Int} (h : Opn sa ho si) (h2 : ¬ (wh = 0 ∧ su = 0 ∧ ZuP gs has o xs nx md lc rs)) : mf 1 sa ho si wh su gs has o xs nx md lc rs = 1 := by
  unfold mf
  rw [if_neg (by omega), if_neg (fun q => q.2 h), if_neg (by omega), if_pos (fun q => h2 ⟨(q.2.1 (by omega)).1, (q.2.1 (by omega)).2, q.2.2 (by omega)⟩)]
theorem mf1_ok {gs rs : List (Int × Int)} {has : Bool} {o nx md lc : Int} {xs : List Int} {sa ho si wh su : Int} (h : Opn sa ho si) (h2 : wh = 0 ∧ su = 0 ∧ ZuP gs has o xs nx md lc rs) : mf 1 sa ho si wh su gs has o xs nx md lc rs = 0 := by
  unfold mf
  rw [if_neg (by omega), if_neg (fun q => q.2 h), if_neg (by omega), if_neg (fun q => q ⟨fun e => absurd rfl e, fun _ => ⟨h2.1, h2.2.1⟩, fun _ => h2.2.2⟩), if_neg (by omega)]
theorem mf2_form {gs rs : List (Int × Int)} {has : Bool} {o nx md lc : Int} {xs : List Int} {sa ho si wh su : Int} (h2 : ¬ (sa = 0 ∧ ho = 0 ∧ si = 0 ∧ wh = 0 ∧ su = 0)) : mf 2 sa ho si wh su gs has o xs nx md lc rs = 1 := by
  unfold mf
  rw [if_neg (by omega), if_neg (by omega), if_neg (by omega), if_pos (fun q => h2 ⟨(q.1 (by omega)).1, (q.1 (by omega)).2.1, (q.1 (by omega)).2.2, (q.2.1 (by omega)).1, (q.2.1 (by omega)).2⟩)]
theorem mf2_ok {gs rs : List (Int × Int)} {has : Bool} {o nx md lc : Int} {xs : List Int} {sa ho si wh su : Int} (h2 : sa = 0 ∧ ho = 0 ∧ si = 0 ∧ wh = 0 ∧ su = 0) : mf 2 sa ho si wh su gs has o xs nx md lc rs = uf gs has o xs nx md lc rs := by
  unfold mf
  rw [if_neg (by omega), if_neg (by omega), if_neg (by omega), if_neg (fun q => q ⟨fun _ => ⟨h2.1, h2.2.1, h2.2.2.1⟩, fun _ => ⟨h2.2.2.2.1, h2.2.2.2.2⟩, fun e => absurd rfl e⟩), if_pos rfl]
theorem mf3_bad {gs rs : List (Int × Int)} {has : Bool} {o nx md lc : Int} {xs : List Int} {sa ho si wh su : Int} (h : ¬ Nty wh su) : mf 3 sa ho si wh su gs has o xs nx md lc rs = 3 := by
  unfold mf; rw [if_neg (by omega), if_neg (by omega), if_pos ⟨rfl, h⟩]
theorem mf3_form {gs rs : List (Int × Int)} {has : Bool} {o nx md lc : Int} {xs : List Int} {sa ho si wh su : Int} (h : Nty wh su) (h2 : ¬ (sa = 0 ∧ ho = 0 ∧ si = 0 ∧ ZuP gs has o xs nx md lc rs)) : mf 3 sa ho si wh su gs has o xs nx md lc rs = 1 := by
  unfold mf
  rw [if_neg (by omega), if_neg (by omega), if_neg (fun q => q.2 h), if_pos (fun q => h2 ⟨(q.1 (by omega)).1, (q.1 (by omega)).2.1, (q.1 (by omega)).2.2, q.2.2 (by omega)⟩)]
theorem mf3_ok {gs rs : List (Int × Int)} {has : Bool} {o nx md lc : Int} {xs : List Int} {sa ho si wh su : Int} (h : Nty wh su) (h2 : sa = 0 ∧ ho = 0 ∧ si = 0 ∧ ZuP gs has o xs nx md lc rs) : mf 3 sa ho si wh su gs has o xs nx md lc rs = 0 := by
  unfold mf
  rw [if_neg (by omega), if_neg (by omega), if_neg (fun q => q.2 h), if_neg (fun q => q ⟨fun _ => ⟨h2.1, h2.2.1, h2.2.2.1⟩, fun e => absurd rfl e, fun _ => h2.2.2.2⟩), if_neg (by omega)]
theorem mf4_form {gs rs : List (Int × Int)} {has : Bool} {o nx md lc : Int} {xs : List Int} {sa ho si wh su : Int} (h2 : ¬ (sa = 0 ∧ ho = 0 ∧ si = 0 ∧ wh = 0 ∧ su = 0 ∧ ZuP gs has o xs nx md lc rs)) : mf 4 sa ho si wh su gs has o xs nx md lc rs = 1 := by
  unfold mf
  rw [if_neg (by omega), if_neg (by omega), if_neg (by omega), if_pos (fun q => h2 ⟨(q.1 (by omega)).1, (q.1 (by omega)).2.1, (q.1 (by omega)).2.2, (q.2.1 (by omega)).1, (q.2.1 (by omega)).2, q.2.2 (by omega)⟩)]
theorem mf4_ok {gs rs : List (Int × Int)} {has : Bool} {o nx md lc : Int} {xs : List Int} {sa ho si wh su : Int} (h2 : sa = 0 ∧ ho = 0 ∧ si = 0 ∧ wh = 0 ∧ su = 0 ∧ ZuP gs has o xs nx md lc rs) : mf 4 sa ho si wh su gs has o xs nx md lc rs = 0 := by
  unfold mf
  rw [if_neg (by omega), if_neg (by omega), if_neg (by omega), if_neg (fun q => q ⟨fun _ => ⟨h2.1, h2.2.1, h2.2.2.1⟩, fun _ => ⟨h2.2.2.2.1, h2.2.2.2.2.1⟩, fun _ => h2.2.2.2.2.2⟩), if_neg (by omega)]

set_option maxHeartbeats 3200000 in
theorem implMF1 (ga a ra : Option Addr) (gn gc n c rn rc : Nat) (has : Bool) (o nx md lc : Int) (gs rs : List (Int × Int)) (xs : List Int) (sa ho si wh su : Int) (w : World) (hg : PsAt w ga gs) (hx : NsAt w a xs) (hr : PsAt w ra rs) (hgn : gs.length = gn) (hn : xs.length = n) (hrn : rs.length = rn) (hm1 : gn ≤ 1048576) (hm2 : n ≤ 1048576) (hm3 : rn ≤ 1048576) :
    Calls Tryd.prog 14 #[.agg #[.int .i64 1, .int .i64 sa, .int .i64 ho, .int .i64 si, .int .i64 wh, .int .i64 su, .slice ga gn gc, .bool has, .int .i64 o, .slice a n c, .int .i64 nx, .int .i64 md, .int .i64 lc, .slice ra rn rc]] w fun e w' => e = .returned (.int .i64 (mf 1 sa ho si wh su gs has o xs nx md lc rs)) ∧ New w w' := by
  have hw := (New.refl w).alloc (.cells #[.int .i64 1, .int .i64 sa, .int .i64 ho, .int .i64 si, .int .i64 wh, .int .i64 su, .slice ga gn gc, .bool has, .int .i64 o, .slice a n c, .int .i64 nx, .int .i64 md, .int .i64 lc, .slice ra rn rc] 39)
  have bM := Blk.mk w w.heap.size 39 #[.int .i64 1, .int .i64 sa, .int .i64 ho, .int .i64 si, .int .i64 wh, .int .i64 su, .slice ga gn gc, .bool has, .int .i64 o, .slice a n c, .int .i64 nx, .int .i64 md, .int .i64 lc, .slice ra rn rc] rfl
  have HG : Hid (gs.length = gn) := hgn
  have HX : Hid (xs.length = n) := hn
  have HR : Hid (rs.length = rn) := hrn
  clear hgn hn hrn
  have he : ∀ W : World, (binOp .eql 52 (.iface 81 (.agg #[.int .i64 sa, .int .i64 ho, .int .i64 si])) .nilIface).run Tryd.prog W = .ok (.bool false) W := fun _ => by kernel_rfl
  have hm : ∀ W : World, (method 246 81 (.agg #[.int .i64 sa, .int .i64 ho, .int .i64 si]) "loop.example/g00263/impl.message").run Tryd.prog W = .ok (104, .agg #[.int .i64 sa, .int .i64 ho, .int .i64 si]) W := fun _ => by kernel_rfl
  have hna : ∀ W : World, (nilAhead 246 81 (.agg #[.int .i64 sa, .int .i64 ho, .int .i64 si]) "loop.example/g00263/impl.message").run Tryd.prog W = .ok (some false) W := fun _ => by kernel_rfl
  by_cases hb : Opn sa ho si
  case neg =>
    have hf : Hid (mf 1 sa ho si wh su gs has o xs nx md lc rs = 3) := mf1_bad hb
    go_enter Tryd.func14, Tryd.ntmps14
    go_wp2_with fail
    refine (say_open ga a ra gn gc n c rn rc has o nx md lc gs rs xs sa ho si wh su _).mono ?_
    rintro e w1 ⟨rfl, hn1⟩
    have b1 := bM.new hn1
    have hw1 := hw.trans hn1
    have c1 := b1.cells
    go_wp2_with fail
    refine (iwb_open sa ho si false _ (by simp only [decide_eq_false_iff_not]; exact hb)).mono ?_
    rintro e w2 ⟨rfl, hn2⟩
    have b2 := b1.new hn2
    have hw2 := hw1.trans hn2
    have c2 := b2.cells
    clear c1
    go_wp2
    go_ret
    exact ⟨ret_i64 hf.out.symm, hw2⟩
  generalize hv : decide (wh = 0 ∧ su = 0 ∧ ZuP gs has o xs nx md lc rs) = v
  have HV : Hid (decide (wh = 0 ∧ su = 0 ∧ ZuP gs has o xs nx md lc rs) = v) := hv
  clear hv
  go_enter Tryd.func14, Tryd.ntmps14
  go_wp2_with fail
  refine (say_open ga a ra gn gc n c rn rc has o nx md lc gs rs xs sa ho si wh su _).mono ?_
  rintro e w1 ⟨rfl, hn1⟩
  have b1 := bM.new hn1
  have hw1 := hw.trans hn1
  have c1 := b1.cells
  go_wp2_with fail
  refine (iwb_open sa ho si true _ (by simp only [decide_eq_true_eq]; exact hb)).mono ?_
  rintro e w2 ⟨rfl, hn2⟩
  have b2 := b1.new hn2
  have hw2 := hw1.trans hn2
  have c2 := b2.cells
  clear c1
  have hc2 := hn2
  go_wp2_with fail
  go_region_held3 (fun W => (∀ j, W.cell? ⟨w.heap.size, j, none⟩ = #[Value.int .i64 1, .int .i64 sa, .int .i64 ho, .int .i64 si, .int .i64 wh, .int .i64 su, .slice ga gn gc, .bool has, .int .i64 o, .slice a n c, .int .i64 nx, .int .i64 md, .int .i64 lc, .slice ra rn rc][j]?)) (first | exact c2 | exact c3 | exact c4)
    (first
      | (go_at_call 104; refine (msg_open sa ho si _).mono ?_; rintro e w3 ⟨rfl, hn3⟩; have N3 : New w2 w3 := (by first | exact hn3 | exact ((New.refl _).drew).trans hn3); have c3 := (b2.new N3).cells)
      | (go_at_call 31; refine (same_ms ga a ra gn gc n c rn rc has o nx md lc gs rs xs none none none 0 0 0 0 0 0 false 0 0 0 0 [] [] [] 1 sa ho si wh su 1 sa ho si 0 0 v _ ((hg.new hw2).new N3) ((hx.new hw2).new N3) ((hr.new hw2).new N3) HG.out HX.out HR.out hm1 hm2 hm3 (PsAt.nil _ _) (NsAt.nil _ _) (PsAt.nil _ _) rfl rfl rfl (by omega) (by omega) (by omega) (by rw [← HV.out]; apply decide_eq_decide.2; simp only [SuZ, true_and])).mono ?_; rintro e w4 ⟨rfl, hn4⟩; have N4 := N3.trans hn4; have c4 := (b2.new N4).cells))
  cases v with
  | false =>
    have hz : ¬ (wh = 0 ∧ su = 0 ∧ ZuP gs has o xs nx md lc rs) := of_decide_eq_false HV.out
    have hf : Hid (mf 1 sa ho si wh su gs has o xs nx md lc rs = 1) := mf1_form hb hz
    clear hz
    go_wp2
    go_ret
    exact ⟨ret_i64 hf.out.symm, hw2.trans N4⟩
  | true =>
    have hz : wh = 0 ∧ su = 0 ∧ ZuP gs has o xs nx md lc rs := of_decide_eq_true HV.out
    have hf : Hid (mf 1 sa ho si wh su gs has o xs nx md lc rs = uf gs has o xs nx md lc rs) := by unfold Hid; rw [mf1_ok hb hz, uf_zero hz.2.2]
    clear hz
    go_wp2_with fail
    refine (implUF ga a ra gn gc n c rn rc has o nx md lc gs rs xs _ ((hg.new hw2).new N4) ((hx.new hw2).new N4) ((hr.new hw2).new N4) HG.out HX.out HR.out hm1 hm2 hm3).mono ?_
    rintro e w5 ⟨rfl, hn5⟩
    go_wp2
    go_ret
    exact ⟨ret_i64 hf.out.symm, (hw2.trans N4).trans hn5⟩

set_option maxHeartbeats 3200000 in
theorem implMF2 (ga a ra : Option Addr) (gn gc n c rn rc : Nat) (has : Bool) (o nx md lc : Int) (gs rs : List (Int × Int)) (xs : List Int) (sa ho si wh su : Int) (w : World) (hg : PsAt w ga gs) (hx : NsAt w a xs) (hr : PsAt w ra rs) (hgn : gs.length = gn) (hn : xs.length = n) (hrn : rs.length = rn) (hm1 : gn ≤ 1048576) (hm2 : n ≤ 1048576) (hm3 : rn ≤ 1048576) :
    Calls Tryd.prog 14 #[.agg #[.int .i64 2, .int .i64 sa, .int .i64 ho, .int .i64 si, .int .i64 wh, .int .i64 su, .slice ga gn gc, .bool has, .int .i64 o, .slice a n c, .int .i64 nx, .int .i64 md, .int .i64 lc, .slice ra rn rc]] w fun e w' => e = .returned (.int .i64 (mf 2 sa ho si wh su gs has o xs nx md lc rs)) ∧ New w w' := by
  have hw := (New.refl w).alloc (.cells #[.int .i64 2, .int .i64 sa, .int .i64 ho, .int .i64 si, .int .i64 wh, .int .i64 su, .slice ga gn gc, .bool has, .int .i64 o, .slice a n c, .int .i64 nx, .int .i64 md, .int .i64 lc, .slice ra rn rc] 39)
  have bM := Blk.mk w w.heap.size 39 #[.int .i64 2, .int .i64 sa, .int .i64 ho, .int .i64 si, .int .i64 wh, .int .i64 su, .slice ga gn gc, .bool has, .int .i64 o, .slice a n c, .int .i64 nx, .int .i64 md, .int .i64 lc, .slice ra rn rc] rfl
  have HG : Hid (gs.length = gn) := hgn
  have HX : Hid (xs.length = n) := hn
  have HR : Hid (rs.length = rn) := hrn
  clear hgn hn hrn
  have he : ∀ W : World, (binOp .eql 52 (.iface 84 (.agg #[.slice ga gn gc, .bool has, .int .i64 o, .slice a n c, .int .i64 nx, .int .i64 md, .int .i64 lc, .slice ra rn rc])) .nilIface).run Tryd.prog W = .ok (.bool false) W := fun _ => by kernel_rfl
  have hm : ∀ W : World, (method 246 84 (.agg #[.slice ga gn gc, .bool has, .int .i64 o, .slice a n c, .int .i64 nx, .int .i64 md, .int .i64 lc, .slice ra rn rc]) "loop.example/g00263/impl.message").run Tryd.prog W = .ok (105, .agg #[.slice ga gn gc, .bool has, .int .i64 o, .slice a n c, .int .i64 nx, .int .i64 md, .int .i64 lc, .slice ra rn rc]) W := fun _ => by kernel_rfl
  have hna : ∀ W : World, (nilAhead 246 84 (.agg #[.slice ga gn gc, .bool has, .int .i64 o, .slice a n c, .int .i64 nx, .int .i64 md, .int .i64 lc, .slice ra rn rc]) "loop.example/g00263/impl.message").run Tryd.prog W = .ok (some false) W := fun _ => by kernel_rfl
  generalize hv : decide (sa = 0 ∧ ho = 0 ∧ si = 0 ∧ wh = 0 ∧ su = 0) = v
  have HV : Hid (decide (sa = 0 ∧ ho = 0 ∧ si = 0 ∧ wh = 0 ∧ su = 0) = v) := hv
  clear hv
  go_enter Tryd.func14, Tryd.ntmps14
  go_wp2_with fail
  refine (say_upd ga a ra gn gc n c rn rc has o nx md lc gs rs xs sa ho si wh su _).mono ?_
  rintro e w1 ⟨rfl, hn1⟩
  have b1 := bM.new hn1
  have hw1 := hw.trans hn1
  have c1 := b1.cells
  go_wp2_with fail
  refine (iwb_upd ga a ra gn gc n c rn rc has o nx md lc gs rs xs _).mono ?_
  rintro e w2 ⟨rfl, hn2⟩
  have b2 := b1.new hn2
  have hw2 := hw1.trans hn2
  have c2 := b2.cells
  clear c1
  have hc2 := hn2
  go_wp2_with fail
  go_region_held3 (fun W => (∀ j, W.cell? ⟨w.heap.size, j, none⟩ = #[Value.int .i64 2, .int .i64 sa, .int .i64 ho, .int .i64 si, .int .i64 wh, .int .i64 su, .slice ga gn gc, .bool has, .int .i64 o, .slice a n c, .int .i64 nx, .int .i64 md, .int .i64 lc, .slice ra rn rc][j]?)) (first | exact c2 | exact c3 | exact c4)
    (first
      | (go_at_call 105; refine (msg_upd ga a ra gn gc n c rn rc has o nx md lc gs rs xs _).mono ?_; rintro e w3 ⟨rfl, hn3⟩; have N3 : New w2 w3 := (by first | exact hn3 | exact ((New.refl _).drew).trans hn3); have c3 := (b2.new N3).cells)
      | (go_at_call 31; refine (same_ms ga a ra gn gc n c rn rc has o nx md lc gs rs xs ga a ra gn gc n c rn rc has o nx md lc gs rs xs 2 sa ho si wh su 2 0 0 0 0 0 v _ ((hg.new hw2).new N3) ((hx.new hw2).new N3) ((hr.new hw2).new N3) HG.out HX.out HR.out hm1 hm2 hm3 ((hg.new hw2).new N3) ((hx.new hw2).new N3) ((hr.new hw2).new N3) HG.out HX.out HR.out hm1 hm2 hm3 (by rw [← HV.out]; apply decide_eq_decide.2; simp [SuP, SaP])).mono ?_; rintro e w4 ⟨rfl, hn4⟩; have N4 := N3.trans hn4; have c4 := (b2.new N4).cells))
  cases v with
  | false =>
    have hz : ¬ (sa = 0 ∧ ho = 0 ∧ si = 0 ∧ wh = 0 ∧ su = 0) := of_decide_eq_false HV.out
    have hf : Hid (mf 2 sa ho si wh su gs has o xs nx md lc rs = 1) := mf2_form hz
    clear hz
    go_wp2
    go_ret
    exact ⟨ret_i64 hf.out.symm, hw2.trans N4⟩
  | true =>
    have hz : sa = 0 ∧ ho = 0 ∧ si = 0 ∧ wh = 0 ∧ su = 0 := of_decide_eq_true HV.out
    have hf : Hid (mf 2 sa ho si wh su gs has o xs nx md lc rs = uf gs has o xs nx md lc rs) := by unfold Hid; rw [mf2_ok hz]
    clear hz
    go_wp2_with fail
    refine (implUF ga a ra gn gc n c rn rc has o nx md lc gs rs xs _ ((hg.new hw2).new N4) ((hx.new hw2).new N4) ((hr.new hw2).new N4) HG.out HX.out HR.out hm1 hm2 hm3).mono ?_
    rintro e w5 ⟨rfl, hn5⟩
    go_wp2
    go_ret
    exact ⟨ret_i64 hf.out.symm, (hw2.trans N4).trans hn5⟩

set_option maxHeartbeats 3200000 in
theorem implMF3 (ga a ra : Option Addr) (gn gc n c rn rc : Nat) (has : Bool) (o nx md lc : Int) (gs rs : List (Int × Int)) (xs : List Int) (sa ho si wh su : Int) (w : World) (hg : PsAt w ga gs) (hx : NsAt w a xs) (hr : PsAt w ra rs) (hgn : gs.length = gn) (hn : xs.length = n) (hrn : rs.length = rn) (hm1 : gn ≤ 1048576) (hm2 : n ≤ 1048576) (hm3 : rn ≤ 1048576) :
    Calls Tryd.prog 14 #[.agg #[.int .i64 3, .int .i64 sa, .int .i64 ho, .int .i64 si, .int .i64 wh, .int .i64 su, .slice ga gn gc, .bool has, .int .i64 o, .slice a n c, .int .i64 nx, .int .i64 md, .int .i64 lc, .slice ra rn rc]] w fun e w' => e = .returned (.int .i64 (mf 3 sa ho si wh su gs has o xs nx md lc rs)) ∧ New w w' := by
  have hw := (New.refl w).alloc (.cells #[.int .i64 3, .int .i64 sa, .int .i64 ho, .int .i64 si, .int .i64 wh, .int .i64 su, .slice ga gn gc, .bool has, .int .i64 o, .slice a n c, .int .i64 nx, .int .i64 md, .int .i64 lc, .slice ra rn rc] 39)
  have bM := Blk.mk w w.heap.size 39 #[.int .i64 3, .int .i64 sa, .int .i64 ho, .int .i64 si, .int .i64 wh, .int .i64 su, .slice ga gn gc, .bool has, .int .i64 o, .slice a n c, .int .i64 nx, .int .i64 md, .int .i64 lc, .slice ra rn rc] rfl
  have HG : Hid (gs.length = gn) := hgn
  have HX : Hid (xs.length = n) := hn
  have HR : Hid (rs.length = rn) := hrn
  clear hgn hn hrn
  have he : ∀ W : World, (binOp .eql 52 (.iface 87 (.agg #[.int .i64 wh, .int .i64 su])) .nilIface).run Tryd.prog W = .ok (.bool false) W := fun _ => by kernel_rfl
  have hm : ∀ W : World, (method 246 87 (.agg #[.int .i64 wh, .int .i64 su]) "loop.example/g00263/impl.message").run Tryd.prog W = .ok (106, .agg #[.int .i64 wh, .int .i64 su]) W := fun _ => by kernel_rfl
  have hna : ∀ W : World, (nilAhead 246 87 (.agg #[.int .i64 wh, .int .i64 su]) "loop.example/g00263/impl.message").run Tryd.prog W = .ok (some false) W := fun _ => by kernel_rfl
  by_cases hb : Nty wh su
  case neg =>
    have hf : Hid (mf 3 sa ho si wh su gs has o xs nx md lc rs = 3) := mf3_bad hb
    go_enter Tryd.func14, Tryd.ntmps14
    go_wp2_with fail
    refine (say_not ga a ra gn gc n c rn rc has o nx md lc gs rs xs sa ho si wh su _).mono ?_
    rintro e w1 ⟨rfl, hn1⟩
    have b1 := bM.new hn1
    have hw1 := hw.trans hn1
    have c1 := b1.cells
    go_wp2_with fail
    refine (iwb_not wh su false _ (by simp only [decide_eq_false_iff_not]; exact hb)).mono ?_
    rintro e w2 ⟨rfl, hn2⟩
    have b2 := b1.new hn2
    have hw2 := hw1.trans hn2
    have c2 := b2.cells
    clear c1
    go_wp2
    go_ret
    exact ⟨ret_i64 hf.out.symm, hw2⟩
  generalize hv : decide (sa = 0 ∧ ho = 0 ∧ si = 0 ∧ ZuP gs has o xs nx md lc rs) = v
  have HV : Hid (decide (sa = 0 ∧ ho = 0 ∧ si = 0 ∧ ZuP gs has o xs nx md lc rs) = v) := hv
  clear hv
  go_enter Tryd.func14, Tryd.ntmps14
  go_wp2_with fail
  refine (say_not ga a ra gn gc n c rn rc has o nx md lc gs rs xs sa ho si wh su _).mono ?_
  rintro e w1 ⟨rfl, hn1⟩
  have b1 := bM.new hn1
  have hw1 := hw.trans hn1
  have c1 := b1.cells
  go_wp2_with fail
  refine (iwb_not wh su true _ (by simp only [decide_eq_true_eq]; exact hb)).mono ?_
  rintro e w2 ⟨rfl, hn2⟩
  have b2 := b1.new hn2
  have hw2 := hw1.trans hn2
  have c2 := b2.cells
  clear c1
  have hc2 := hn2
  go_wp2_with fail
  go_region_held3 (fun W => (∀ j, W.cell? ⟨w.heap.size, j, none⟩ = #[Value.int .i64 3, .int .i64 sa, .int .i64 ho, .int .i64 si, .int .i64 wh, .int .i64 su, .slice ga gn gc, .bool has, .int .i64 o, .slice a n c, .int .i64 nx, .int .i64 md, .int .i64 lc, .slice ra rn rc][j]?)) (first | exact c2 | exact c3 | exact c4)
    (first
      | (go_at_call 106; refine (msg_not wh su _).mono ?_; rintro e w3 ⟨rfl, hn3⟩; have N3 : New w2 w3 := (by first | exact hn3 | exact ((New.refl _).drew).trans hn3); have c3 := (b2.new N3).cells)
      | (go_at_call 31; refine (same_ms ga a ra gn gc n c rn rc has o nx md lc gs rs xs none none none 0 0 0 0 0 0 false 0 0 0 0 [] [] [] 3 sa ho si wh su 3 0 0 0 wh su v _ ((hg.new hw2).new N3) ((hx.new hw2).new N3) ((hr.new hw2).new N3) HG.out HX.out HR.out hm1 hm2 hm3 (PsAt.nil _ _) (NsAt.nil _ _) (PsAt.nil _ _) rfl rfl rfl (by omega) (by omega) (by omega) (by rw [← HV.out]; apply decide_eq_decide.2; simp only [SuZ, true_and])).mono ?_; rintro e w4 ⟨rfl, hn4⟩; have N4 := N3.trans hn4; have c4 := (b2.new N4).cells))
  cases v with
  | false =>
    have hz : ¬ (sa = 0 ∧ ho = 0 ∧ si = 0 ∧ ZuP gs has o xs nx md lc rs) := of_decide_eq_false HV.out
    have hf : Hid (mf 3 sa ho si wh su gs has o xs nx md lc rs = 1) := mf3_form hb hz
    clear hz
    go_wp2
    go_ret
    exact ⟨ret_i64 hf.out.symm, hw2.trans N4⟩
  | true =>
    have hz : sa = 0 ∧ ho = 0 ∧ si = 0 ∧ ZuP gs has o xs nx md lc rs := of_decide_eq_true HV.out
    have hf : Hid (mf 3 sa ho si wh su gs has o xs nx md lc rs = uf gs has o xs nx md lc rs) := by unfold Hid; rw [mf3_ok hb hz, uf_zero hz.2.2.2]
    clear hz
    go_wp2_with fail
    refine (implUF ga a ra gn gc n c rn rc has o nx md lc gs rs xs _ ((hg.new hw2).new N4) ((hx.new hw2).new N4) ((hr.new hw2).new N4) HG.out HX.out HR.out hm1 hm2 hm3).mono ?_
    rintro e w5 ⟨rfl, hn5⟩
    go_wp2
    go_ret
    exact ⟨ret_i64 hf.out.symm, (hw2.trans N4).trans hn5⟩

set_option maxHeartbeats 3200000 in
theorem implMF4 (ga a ra : Option Addr) (gn gc n c rn rc : Nat) (has : Bool) (o nx md lc : Int) (gs rs : List (Int × Int)) (xs : List Int) (sa ho si wh su : Int) (w : World) (hg : PsAt w ga gs) (hx : NsAt w a xs) (hr : PsAt w ra rs) (hgn : gs.length = gn) (hn : xs.length = n) (hrn : rs.length = rn) (hm1 : gn ≤ 1048576) (hm2 : n ≤ 1048576) (hm3 : rn ≤ 1048576) :
    Calls Tryd.prog 14 #[.agg #[.int .i64 4, .int .i64 sa, .int .i64 ho, .int .i64 si, .int .i64 wh, .int .i64 su, .slice ga gn gc, .bool has, .int .i64 o, .slice a n c, .int .i64 nx, .int .i64 md, .int .i64 lc, .slice ra rn rc]] w fun e w' => e = .returned (.int .i64 (mf 4 sa ho si wh su gs has o xs nx md lc rs)) ∧ New w w' := by
  have hw := (New.refl w).alloc (.cells #[.int .i64 4, .int .i64 sa, .int .i64 ho, .int .i64 si, .int .i64 wh, .int .i64 su, .slice ga gn gc, .bool has, .int .i64 o, .slice a n c, .int .i64 nx, .int .i64 md, .int .i64 lc, .slice ra rn rc] 39)
  have bM := Blk.mk w w.heap.size 39 #[.int .i64 4, .int .i64 sa, .int .i64 ho, .int .i64 si, .int .i64 wh, .int .i64 su, .slice ga gn gc, .bool has, .int .i64 o, .slice a n c, .int .i64 nx, .int .i64 md, .int .i64 lc, .slice ra rn rc] rfl
  have HG : Hid (gs.length = gn) := hgn
  have HX : Hid (xs.length = n) := hn
  have HR : Hid (rs.length = rn) := hrn
  clear hgn hn hrn
  have he : ∀ W : World, (binOp .eql 52 (.iface 89 (.agg #[])) .nilIface).run Tryd.prog W = .ok (.bool false) W := fun _ => by kernel_rfl
  have hm : ∀ W : World, (method 246 89 (.agg #[]) "loop.example/g00263/impl.message").run Tryd.prog W = .ok (107, .agg #[]) W := fun _ => by kernel_rfl
  have hna : ∀ W : World, (nilAhead 246 89 (.agg #[]) "loop.example/g00263/impl.message").run Tryd.prog W = .ok (some false) W := fun _ => by kernel_rfl
  generalize hv : decide (sa = 0 ∧ ho = 0 ∧ si = 0 ∧ wh = 0 ∧ su = 0 ∧ ZuP gs has o xs nx md lc rs) = v
  have HV : Hid (decide (sa = 0 ∧ ho = 0 ∧ si = 0 ∧ wh = 0 ∧ su = 0 ∧ ZuP gs has o xs nx md lc rs) = v) := hv
  clear hv
  go_enter Tryd.func14, Tryd.ntmps14
  go_wp2_with fail
  refine (say_keep ga a ra gn gc n c rn rc has o nx md lc gs rs xs sa ho si wh su _).mono ?_
  rintro e w1 ⟨rfl, hn1⟩
  have b1 := bM.new hn1
  have hw1 := hw.trans hn1
  have c1 := b1.cells
  go_wp2_with fail
  refine (iwb_keep _).mono ?_
  rintro e w2 ⟨rfl, hn2⟩
  have b2 := b1.new hn2
  have hw2 := hw1.trans hn2
  have c2 := b2.cells
  clear c1
  have hc2 := hn2
  go_wp2_with fail
  go_region_held3 (fun W => (∀ j, W.cell? ⟨w.heap.size, j, none⟩ = #[Value.int .i64 4, .int .i64 sa, .int .i64 ho, .int .i64 si, .int .i64 wh, .int .i64 su, .slice ga gn gc, .bool has, .int .i64 o, .slice a n c, .int .i64 nx, .int .i64 md, .int .i64 lc, .slice ra rn rc][j]?)) (first | exact c2 | exact c3 | exact c4)
    (first
      | (go_at_call 107; refine (msg_keep  _).mono ?_; rintro e w3 ⟨rfl, hn3⟩; have N3 : New w2 w3 := (by first | exact hn3 | exact ((New.refl _).drew).trans hn3); have c3 := (b2.new N3).cells)
      | (go_at_call 31; refine (same_ms ga a ra gn gc n c rn rc has o nx md lc gs rs xs none none none 0 0 0 0 0 0 false 0 0 0 0 [] [] [] 4 sa ho si wh su 4 0 0 0 0 0 v _ ((hg.new hw2).new N3) ((hx.new hw2).new N3) ((hr.new hw2).new N3) HG.out HX.out HR.out hm1 hm2 hm3 (PsAt.nil _ _) (NsAt.nil _ _) (PsAt.nil _ _) rfl rfl rfl (by omega) (by omega) (by omega) (by rw [← HV.out]; apply decide_eq_decide.2; simp only [SuZ, true_and])).mono ?_; rintro e w4 ⟨rfl, hn4⟩; have N4 := N3.trans hn4; have c4 := (b2.new N4).cells))
  cases v with
  | false =>
    have hz : ¬ (sa = 0 ∧ ho = 0 ∧ si = 0 ∧ wh = 0 ∧ su = 0 ∧ ZuP gs has o xs nx md lc rs) := of_decide_eq_false HV.out
    have hf : Hid (mf 4 sa ho si wh su gs has o xs nx md lc rs = 1) := mf4_form hz
    clear hz
    go_wp2
    go_ret
    exact ⟨ret_i64 hf.out.symm, hw2.trans N4⟩
  | true =>
    have hz : sa = 0 ∧ ho = 0 ∧ si = 0 ∧ wh = 0 ∧ su = 0 ∧ ZuP gs has o xs nx md lc rs := of_decide_eq_true HV.out
    have hf : Hid (mf 4 sa ho si wh su gs has o xs nx md lc rs = uf gs has o xs nx md lc rs) := by unfold Hid; rw [mf4_ok hz, uf_zero hz.2.2.2.2.2]
    clear hz
    go_wp2_with fail
    refine (implUF ga a ra gn gc n c rn rc has o nx md lc gs rs xs _ ((hg.new hw2).new N4) ((hx.new hw2).new N4) ((hr.new hw2).new N4) HG.out HX.out HR.out hm1 hm2 hm3).mono ?_
    rintro e w5 ⟨rfl, hn5⟩
    go_wp2
    go_ret
    exact ⟨ret_i64 hf.out.symm, (hw2.trans N4).trans hn5⟩

set_option maxHeartbeats 1600000 in
theorem implMF0 (ga a ra : Option Addr) (gn gc n c rn rc : Nat) (has : Bool) (o nx md lc : Int) (gs rs : List (Int × Int)) (xs : List Int) (kd sa ho si wh su : Int) (w : World) (h : kd < 1 ∨ 4 < kd) :
    Calls Tryd.prog 14 #[.agg #[.int .i64 kd, .int .i64 sa, .int .i64 ho, .int .i64 si, .int .i64 wh, .int .i64 su, .slice ga gn gc, .bool has, .int .i64 o, .slice a n c, .int .i64 nx, .int .i64 md, .int .i64 lc, .slice ra rn rc]] w fun e w' => e = .returned (.int .i64 (mf kd sa ho si wh su gs has o xs nx md lc rs)) ∧ New w w' := by
  have hw := (New.refl w).alloc (.cells #[.int .i64 kd, .int .i64 sa, .int .i64 ho, .int .i64 si, .int .i64 wh, .int .i64 su, .slice ga gn gc, .bool has, .int .i64 o, .slice a n c, .int .i64 nx, .int .i64 md, .int .i64 lc, .slice ra rn rc] 39)
  have hf : Hid (mf kd sa ho si wh su gs has o xs nx md lc rs = 1) := mf_none h
  have he : ∀ W : World, (binOp .eql 52 .nilIface .nilIface).run Tryd.prog W = .ok (.bool true) W := fun _ => by kernel_rfl
  go_enter Tryd.func14, Tryd.ntmps14
  go_wp2_with fail
  refine (say_none ga a ra gn gc n c rn rc has o nx md lc gs rs xs kd sa ho si wh su _ h).mono ?_
  rintro e w1 ⟨rfl, hn1⟩
  go_wp2
  go_ret
  exact ⟨ret_i64 hf.out.symm, hw.trans hn1⟩

theorem implMF (ga a ra : Option Addr) (gn gc n c rn rc : Nat) (has : Bool) (o nx md lc : Int) (gs rs : List (Int × Int)) (xs : List Int) (kd sa ho si wh su : Int) (w : World) (hg : PsAt w ga gs) (hx : NsAt w a xs) (hr : PsAt w ra rs) (hgn : gs.length = gn) (hn : xs.length = n) (hrn : rs.length = rn) (hm1 : gn ≤ 1048576) (hm2 : n ≤ 1048576) (hm3 : rn ≤ 1048576) :
    Calls Tryd.prog 14 #[.agg #[.int .i64 kd, .int .i64 sa, .int .i64 ho, .int .i64 si, .int .i64 wh, .int .i64 su, .slice ga gn gc, .bool has, .int .i64 o, .slice a n c, .int .i64 nx, .int .i64 md, .int .i64 lc, .slice ra rn rc]] w fun e w' => e = .returned (.int .i64 (mf kd sa ho si wh su gs has o xs nx md lc rs)) ∧ New w w' := by
  by_cases h : kd < 1 ∨ 4 < kd
  · exact implMF0 ga a ra gn gc n c rn rc has o nx md lc gs rs xs kd sa ho si wh su w h
  · rcases (show kd = 1 ∨ kd = 2 ∨ kd = 3 ∨ kd = 4 by omega) with rfl | rfl | rfl | rfl
    · exact implMF1 ga a ra gn gc n c rn rc has o nx md lc gs rs xs sa ho si wh su w hg hx hr hgn hn hrn hm1 hm2 hm3
    · exact implMF2 ga a ra gn gc n c rn rc has o nx md lc gs rs xs sa ho si wh su w hg hx hr hgn hn hrn hm1 hm2 hm3
    · exact implMF3 ga a ra gn gc n c rn rc has o nx md lc gs rs xs sa ho si wh su w hg hx hr hgn hn hrn hm1 hm2 hm3
    · exact implMF4 ga a ra gn gc n c rn rc has o nx md lc gs rs xs sa ho si wh su w hg hx hr hgn hn hrn hm1 hm2 hm3

end Go.Proofs.YtljkcijakdhdiaaDoor
