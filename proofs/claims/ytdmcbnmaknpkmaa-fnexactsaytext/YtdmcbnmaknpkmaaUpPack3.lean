/- What is proved here: what the program's packing of an update answers, for every update with lists of at most 1048576 elements. -/
import Derived.Test.YtdmcbnmaknpkmaaUpPack2
import Derived.Test.YtdmcbnmaknpkmaaUpLaw
namespace Go.Proofs.Ytdmcbnmaknpkmaa
open Go.RowKit Go.Sort
set_option linter.unusedVariables false

/-- The bytes of an update. -/
def upB (gs : List (Int × Int)) (has : Bool) (o : Int) (xs : List Int) (nx md lc : Int) (rs : List (Int × Int)) : List Int :=
  [(gs.length : Int)] ++ pxB gs ++ (if has = true then atB o xs nx md lc ++ pxB rs else [])

theorem uf_ok {gs rs : List (Int × Int)} {has : Bool} {o nx md lc : Int} {xs : List Int} (h : uf gs has o xs nx md lc rs = 0) :
    gs.length ≤ 8 ∧ rs.length ≤ 8 ∧ lf gs = 0 ∧ lf rs = 0 ∧ (has = true → 0 < rs.length ∧ af o xs nx md lc = 0) ∧ (has = false → rs.length = 0 ∧ ZaP o xs nx md lc) := by
  unfold uf at h
  split at h
  · cases h
  · rename_i h8
    split at h
    · contradiction
    · rename_i hg
      split at h
      · contradiction
      · rename_i hr
        split at h
        · cases h
        · rename_i hh
          simp only [ne_eq, Decidable.not_not] at hg hr hh
          refine ⟨by omega, by omega, hg, hr, ?_, ?_⟩
          · intro ht
            subst ht
            simp at h hh
            exact ⟨hh, h⟩
          · intro ht
            subst ht
            have h' := h
            simp at hh
            refine ⟨by simpa using hh, ?_⟩
            by_cases hz : ZaP o xs nx md lc
            · exact hz
            · rw [if_neg (by simp), if_neg hz] at h'
              cases h'

theorem pxB_bd : ∀ {ps : List (Int × Int)}, (∀ p ∈ ps, pf p.1 p.2 = 0) → ∀ z ∈ pxB ps, 0 ≤ z ∧ z ≤ 255
  | [], _ => by simp [pxB]
  | p :: r, h => by
    obtain ⟨h0, h1, h2, h3, _⟩ := pf_ok (h p (by simp))
    have ih := pxB_bd (ps := r) (fun q hq => h q (by simp [hq]))
    intro z hz
    simp only [pxB, List.flatMap_cons, List.mem_append, List.mem_cons, List.not_mem_nil, or_false] at hz
    rcases hz with (rfl | rfl | rfl) | hz
    · omega
    · omega
    · omega
    · exact ih z (by simpa [pxB] using hz)
theorem nsB_bd : ∀ {xs : List Int}, (∀ x ∈ xs, 0 ≤ x ∧ x ≤ 65535) → ∀ z ∈ nsB xs, 0 ≤ z ∧ z ≤ 255
  | [], _ => by simp [nsB]
  | p :: r, h => by
    have hp := h p (by simp)
    have ih := nsB_bd (xs := r) (fun q hq => h q (by simp [hq]))
    intro z hz
    simp only [nsB, List.flatMap_cons, List.mem_append, List.mem_cons, List.not_mem_nil, or_false] at hz
    rcases hz with (rfl | rfl) | hz
    · omega
    · omega
    · exact ih z (by simpa [nsB] using hz)
theorem atB_bd {o nx md lc : Int} {xs : List Int} (h : af o xs nx md lc = 0) : ∀ z ∈ atB o xs nx md lc, 0 ≤ z ∧ z ≤ 255 := by
  obtain ⟨⟨⟨ho0, ho2⟩, ⟨hx0, hx1⟩, ⟨hm0, hm1⟩, ⟨hl0, hl1⟩⟩, hk6, hall⟩ := af_ok h
  intro z hz
  simp only [atB, List.mem_append, List.mem_cons, List.not_mem_nil, or_false] at hz
  rcases hz with ((rfl | hz) | rfl) | rfl | rfl | rfl | rfl | rfl | rfl
  · omega
  · exact nsB_bd (fun x hx => by have := hall x hx; omega) z hz
  all_goals omega
theorem upB_bd {gs rs : List (Int × Int)} {has : Bool} {o nx md lc : Int} {xs : List Int} (h : uf gs has o xs nx md lc rs = 0) : ∀ z ∈ upB gs has o xs nx md lc rs, 0 ≤ z ∧ z ≤ 255 := by
  obtain ⟨h1, h2, h3, h4, h5, _⟩ := uf_ok h
  intro z hz
  unfold upB at hz
  simp only [List.mem_append, List.mem_cons, List.not_mem_nil, or_false] at hz
  rcases hz with (rfl | hz) | hz
  · omega
  · exact pxB_bd (lf_ok h3).2 z hz
  · split at hz
    · rename_i ht
      rcases List.mem_append.1 hz with hz | hz
      · exact atB_bd (h5 ht).2 z hz
      · exact pxB_bd (lf_ok h4).2 z hz
    · simp at hz
theorem upB_len {gs rs : List (Int × Int)} {has : Bool} {o nx md lc : Int} {xs : List Int} : (upB gs has o xs nx md lc rs).length = 1 + gs.length * 3 + (if has = true then xs.length * 2 + 8 + rs.length * 3 else 0) := by
  unfold upB
  split <;> simp [pxB_len, atB_len] <;> omega

/-- What PackUpdate answers: the fault, or the update's bytes in new memory. -/
def UpAns (w : World) (gs : List (Int × Int)) (has : Bool) (o : Int) (xs : List Int) (nx md lc : Int) (rs : List (Int × Int)) (e : Ending) (w' : World) : Prop :=
  ∃ (a : Option Addr) (m cap : Nat) (ys : List Int), e = .returned (.agg #[.int .i64 (uf gs has o xs nx md lc rs), .slice a m cap]) ∧ OwAt w' a m cap ys ∧ (∀ z ∈ ys, 0 ≤ z ∧ z ≤ 255) ∧ (∀ x, a = some x → w.heap.size ≤ x.block ∧ x.block < w'.heap.size) ∧ New w w' ∧
    ys = (if uf gs has o xs nx md lc rs = 0 then upB gs has o xs nx md lc rs else []) ∧ (a = none → m = 0 ∧ cap = 0) ∧ m ≤ 100

theorem PsAt.blk_lt {w : World} {a : Option Addr} {ps : List (Int × Int)} (h : PsAt w a ps) : ∀ x, ps ≠ [] → a = some x → x.block < w.heap.size := by
  intro x hz hx
  obtain ⟨b, off, p, q, e, _, hc, _⟩ := h.at 0 (by cases ps <;> simp_all)
  rw [e] at hx
  obtain rfl := Option.some.inj hx
  exact World.block_lt_of_cell? w _ hc
theorem NsAt.blk_lt {w : World} {a : Option Addr} {xs : List Int} (h : NsAt w a xs) : ∀ x, xs ≠ [] → a = some x → x.block < w.heap.size := by
  intro x hz hx
  obtain ⟨b, off, p, e, _, hc, _⟩ := h.at 0 (by cases xs <;> simp_all)
  rw [e] at hx
  obtain rfl := Option.some.inj hx
  exact World.block_lt_of_cell? w _ hc

theorem ret_agg2 {x y : Int} {a : Option Addr} {m m' c : Nat} (h : x = y) (hm : m = m') : Ending.returned (.agg #[.int .i64 x, .slice a m c]) = .returned (.agg #[.int .i64 y, .slice a m' c]) := by rw [h, hm]

set_option maxHeartbeats 3200000 in
theorem implPU (ga a ra : Option Addr) (gn gc n c rn rc : Nat) (has : Bool) (o nx md lc : Int) (gs rs : List (Int × Int)) (xs : List Int) (w : World) (hg : PsAt w ga gs) (hx : NsAt w a xs) (hr : PsAt w ra rs) (hgn : gs.length = gn) (hn : xs.length = n) (hrn : rs.length = rn) (hm1 : gn ≤ 1048576) (hm2 : n ≤ 1048576) (hm3 : rn ≤ 1048576) :
    Calls Try.prog 51 #[.agg #[.slice ga gn gc, .bool has, .int .i64 o, .slice a n c, .int .i64 nx, .int .i64 md, .int .i64 lc, .slice ra rn rc]] w fun e w' => UpAns w gs has o xs nx md lc rs e w' := by
  have hw := ((New.refl w).alloc (.cells #[.slice ga gn gc, .bool has, .int .i64 o, .slice a n c, .int .i64 nx, .int .i64 md, .int .i64 lc, .slice ra rn rc] 38)).alloc (.cells #[.int .i64 0, .slice none 0 0] 33)
  have bU : Blk ((w.alloc (.cells #[.slice ga gn gc, .bool has, .int .i64 o, .slice a n c, .int .i64 nx, .int .i64 md, .int .i64 lc, .slice ra rn rc] 38)).alloc (.cells #[.int .i64 0, .slice none 0 0] 33)) w.heap.size 38 #[.slice ga gn gc, .bool has, .int .i64 o, .slice a n c, .int .i64 nx, .int .i64 md, .int .i64 lc, .slice ra rn rc] := (Blk.mk _ _ _ _ rfl).alloc _
  have bR : Blk ((w.alloc (.cells #[.slice ga gn gc, .bool has, .int .i64 o, .slice a n c, .int .i64 nx, .int .i64 md, .int .i64 lc, .slice ra rn rc] 38)).alloc (.cells #[.int .i64 0, .slice none 0 0] 33)) (w.heap.size + 1) 33 #[.int .i64 0, .slice none 0 0] := Blk.mk _ _ _ _ (by simp)
  have HG : Hid (gs.length = gn) := hgn
  have HX : Hid (xs.length = n) := hn
  have HR : Hid (rs.length = rn) := hrn
  have lg := hg.blk_lt
  have lx := hx.blk_lt
  have lr := hr.blk_lt
  have ge1 : w.heap.size ≤ w.heap.size + 1 := by omega
  by_cases hf : uf gs has o xs nx md lc rs = 0
  case neg =>
    have hb : (uf gs has o xs nx md lc rs != 0) = true := by simpa using hf
    have HF : Hid (¬ uf gs has o xs nx md lc rs = 0) := hf
    clear hf hgn hn hrn
    go_enter Try.func51, Try.ntmps51
    go_wp2_with fail
    refine (implUF ga a ra gn gc n c rn rc has o nx md lc gs rs xs _ (hg.new hw) (hx.new hw) (hr.new hw) HG.out HX.out HR.out hm1 hm2 hm3).mono ?_
    rintro e w1 ⟨rfl, hn1⟩
    have hw1 := hw.trans hn1
    have c1 := (bR.new hn1).cells
    have f1 := (bR.new hn1).frees
    generalize hq : uf gs has o xs nx md lc rs = q at *
    go_wp2
    refine bodyPost_ret (v := .agg #[.int .i64 q, .slice none 0 0]) (by simp [results, Try.results51, go_sem, c1]) rfl ?_
    refine ⟨none, 0, 0, [], by rw [hq], ⟨rfl, fun h => by omega⟩, by simp, (by intro x hx; cases hx), ?_, by rw [hq, if_neg HF.out], fun _ => ⟨rfl, rfl⟩, by omega⟩
    simp (disch := exact ge1) only [New.set_iff, hw1]
  obtain ⟨h8, h8r, hlg, hlr, hyes, hno⟩ := uf_ok hf
  have hgok := (lf_ok hlg).2
  have hrok := (lf_ok hlr).2
  have hz : ((0 : Int) != 0) = false := rfl
  rw [hgn] at h8
  rw [hrn] at h8r
  have HF : Hid (uf gs has o xs nx md lc rs = 0) := hf
  have hwk : IntKind.u8.wrap (gn : Int) = (gn : Int) := by simp [IntKind.wrap, IntKind.signed, IntKind.bits]; omega
  clear hgn hn hrn
  go_enter Try.func51, Try.ntmps51
  go_wp2_with fail
  refine (implUF ga a ra gn gc n c rn rc has o nx md lc gs rs xs _ (hg.new hw) (hx.new hw) (hr.new hw) HG.out HX.out HR.out hm1 hm2 hm3).mono ?_
  rintro e w1 ⟨rfl, hn1⟩
  rw [HF.out]
  have hw1 := hw.trans hn1
  have bU1 := bU.new hn1
  have bR1 := bR.new hn1
  have cU := bU1.cells
  have hal := (New.refl w1).alloc (.cells #[.int .u8 (gn : Int)] 5)
  have hrow : Row8 (w1.alloc (.cells #[.int .u8 (gn : Int)] 5)) w1.heap.size 1 1 [(gn : Int)] := New.lit (w := w1) 1 [(gn : Int)] w1.heap.size rfl rfl (by omega) #[.int .u8 (gn : Int)] rfl
  have hw2 := hw1.trans hal
  have bU2 := bU1.new hal
  have bR2 := bR1.new hal
  have cU2 := bU2.cells
  have hs1 := hw1.size
  have hb1 := bR1.lt
  clear bU bR bU1 bR1 hn1 hw hf
  go_wp2_with fail
  refine (apPs_any w1.heap.size 1 1 gn ga gc [(gn : Int)] gs _ hrow (hg.new hw2) HG.out h8 (by omega) hgok (fun x hne hx e => by have := lg x hne hx; omega)).mono ?_
  rintro e w3 ⟨g3, cap3, rfl, hg3, hr3, ht3⟩
  have hw3 : New w w3 := hw2.before ht3 (fun i hi e => by omega)
  have bU3 := bU2.turn ht3 (by omega)
  have bR3 := bR2.turn ht3 (by omega)
  have hg3' : w.heap.size + 1 < g3 := by
    rcases hg3 with h' | h'
    · omega
    · simp at h'; omega
  have cU3 := bU3.cells
  have hlt3 := hr3.lt
  clear bU2 bR2 ht3 hg3 hrow hal cU cU2
  cases has with
  | false =>
    obtain ⟨hrz, hza⟩ := hno rfl
    have c1 := bR3.cells
    have f1 := bR3.frees
    go_wp2
    refine bodyPost_ret (v := .agg #[.int .i64 0, .slice (some ⟨g3, 0, none⟩) (1 + gn * 3) cap3]) (by simp [results, Try.results51, go_sem, c1]) rfl ?_
    have ht : Turn (fun i => i = w.heap.size + 1) w3 ((w3.setCell ⟨w.heap.size + 1, 0, none⟩ (.int .i64 0)).setCell ⟨w.heap.size + 1, 1, none⟩ (.slice (some ⟨g3, 0, none⟩) (1 + gn * 3) cap3)) := Turn.here (Turn.here (Turn.refl _ _) _) _
    refine ⟨some ⟨g3, 0, none⟩, 1 + gn * 3, cap3, upB gs false o xs nx md lc rs, ret_agg2 HF.out.symm rfl, OwAt.of_own (base := 0) ?_, upB_bd HF.out, ?_, ?_, by rw [if_pos HF.out], (by intro h; cases h), by omega⟩
    · have e2 : upB gs false o xs nx md lc rs = [(gn : Int)] ++ pxB gs := by simp [upB, HG.out]
      rw [e2]
      exact hr3.turn ht (by omega)
    · intro x hx
      obtain rfl := Option.some.inj hx
      exact ⟨by simp; omega, by have := ht.size; simp at this ⊢; omega⟩
    · simp (disch := exact ge1) only [New.set_iff, hw3]
  | true =>
    obtain ⟨hrp, haf⟩ := hyes rfl
    obtain ⟨-, hk6, -⟩ := af_ok haf
    rw [HX.out] at hk6
    go_wp2_with fail
    refine (apAt_any g3 (1 + gn * 3) cap3 n a c o nx md lc _ xs _ hr3 (hx.new hw3) HX.out (by omega) haf (fun x hne hx e => by have := lx x hne hx; omega)).mono ?_
    rintro e w4 ⟨g4, cap4, rfl, hg4, hr4, ht4⟩
    have hw4 : New w w4 := hw3.before ht4 (fun i hi e => by omega)
    have bU4 := bU3.turn ht4 (by omega)
    have bR4 := bR3.turn ht4 (by omega)
    have hs3 := ht4.size
    have hg4' : w.heap.size + 1 < g4 := by
      rcases hg4 with h' | h'
      · omega
      · have := bR3.lt; omega
    clear cU3 bU3 bR3 ht4 hg4 hr3
    have cU4 := bU4.cells
    have hlt4 := hr4.lt
    go_wp2_with fail
    refine (apPs_any g4 (1 + gn * 3 + (n * 2 + 8)) cap4 rn ra rc _ rs _ hr4 (hr.new hw4) HR.out h8r (by omega) hrok (fun x hne hx e => by have := lr x hne hx; omega)).mono ?_
    rintro e w5 ⟨g5, cap5, rfl, hg5, hr5, ht5⟩
    have hw5 : New w w5 := hw4.before ht5 (fun i hi e => by omega)
    have bR5 := bR4.turn ht5 (by omega)
    have hs4 := ht5.size
    have hg5' : w.heap.size + 1 < g5 := by
      rcases hg5 with h' | h'
      · omega
      · have := bR4.lt; omega
    clear cU4 bU4 bR4 ht5 hg5 hr4
    have hlt5 := hr5.lt
    have c1 := bR5.cells
    have f1 := bR5.frees
    go_wp2
    refine bodyPost_ret (v := .agg #[.int .i64 0, .slice (some ⟨g5, 0, none⟩) (1 + gn * 3 + (n * 2 + 8) + rn * 3) cap5]) (by simp [results, Try.results51, go_sem, c1]) rfl ?_
    have ht : Turn (fun i => i = w.heap.size + 1) w5 ((w5.setCell ⟨w.heap.size + 1, 0, none⟩ (.int .i64 0)).setCell ⟨w.heap.size + 1, 1, none⟩ (.slice (some ⟨g5, 0, none⟩) (1 + gn * 3 + (n * 2 + 8) + rn * 3) cap5)) := Turn.here (Turn.here (Turn.refl _ _) _) _
    refine ⟨some ⟨g5, 0, none⟩, 1 + gn * 3 + (n * 2 + 8) + rn * 3, cap5, upB gs true o xs nx md lc rs, ret_agg2 HF.out.symm rfl, OwAt.of_own (base := 0) ?_, upB_bd HF.out, ?_, ?_, by rw [if_pos HF.out], (by intro h; cases h), by omega⟩
    · have e2 : upB gs true o xs nx md lc rs = ([(gn : Int)] ++ pxB gs) ++ atB o xs nx md lc ++ pxB rs := by simp [upB, HG.out]
      rw [e2]
      exact hr5.turn ht (by omega)
    · intro x hx
      obtain rfl := Option.some.inj hx
      exact ⟨by simp; omega, by have := ht.size; simp at this ⊢; omega⟩
    · simp (disch := exact ge1) only [New.set_iff, hw5]

end Go.Proofs.Ytdmcbnmaknpkmaa
