/- What is proved here: plain facts on lists of routes into which one is put; no run of the program. What is proved here: what the laws' asking for too many bytes answers. What is proved here: for every bytes the law on routes that are put returns true, and the bytes read as they did. No condition. -/
import Derived.Test.YtnjleachioapdaaR7Pt
import Derived.Test.YtnjleachioapdaaBytes
import Derived.Test.YtnjleachioapdaaRows
import Derived.Test.YtnjleachioapdaaDrRpA
import Derived.Test.YtnjleachioapdaaOpen
import Derived.Deep.CutRange
import Derived.Deep.RegionHeld3
namespace Go.Proofs.Ytnjleachioapdaa
open Go.RowKit

theorem ribC_of : ∀ (R : List Rt) (q : Option Rt), Ord7 R → (∀ r ∈ R, r.f = 0) → (∀ s, q = some s → ∀ r ∈ R, s.lt r = true) → ribC q R = 0
  | [], q, _, _, _ => by cases q <;> rfl
  | r :: R, q, h1, h2, h3 => by
    obtain ⟨h4, h5⟩ := List.pairwise_cons.1 h1
    have ih := ribC_of R (some r) h5 (fun u hu => h2 u (List.mem_cons_of_mem _ hu)) (fun s hs u hu => by obtain rfl := Option.some.inj hs; exact h4 u hu)
    have hf := h2 r List.mem_cons_self
    cases q with
    | none => unfold ribC; rw [if_pos hf]; exact ih
    | some s => unfold ribC; rw [if_pos hf, if_pos (h3 s rfl r List.mem_cons_self)]; exact ih
theorem ribF_of {R : List Rt} (h0 : R.length ≤ 60) (h1 : Ord7 R) (h2 : ∀ r ∈ R, r.f = 0) : ribF R = 0 := by
  unfold ribF
  rw [if_neg (by omega)]
  exact ribC_of R none h1 h2 (by intro s hs; cases hs)

theorem keepE_self (r : Rt) : keepE r.p r.a r.l r = false := by
  rw [keepE_iff]
  simp
/-- Who does not stand ahead, and stands elsewhere, stands behind. -/
theorem lt_or (s r : Rt) (h : s.lt r = false) (hk : keepE r.p r.a r.l s = true) : r.lt s = true := by
  have h1 : ¬ s.lt r = true := by rw [h]; simp
  rw [Rt.lt_iff] at h1 ⊢
  rw [keepE_iff] at hk
  have h2 := of_decide_eq_true hk
  omega
theorem take_tw (K : Rt → Bool) : ∀ R : List Rt, R.take (tw K R) = R.takeWhile K
  | [] => by simp [tw]
  | r :: R => by
    have ih := take_tw K R
    unfold tw at ih ⊢
    by_cases h : K r = true
    · simp [h, ih]
    · simp [h]
theorem drop_tw (K : Rt → Bool) : ∀ R : List Rt, R.drop (tw K R) = R.dropWhile K
  | [] => by simp [tw]
  | r :: R => by
    have ih := drop_tw K R
    unfold tw at ih ⊢
    by_cases h : K r = true
    · simp [h, ih]
    · simp [h]
theorem drop_not (r : Rt) : ∀ R : List Rt, Ord7 R → ∀ s ∈ R.dropWhile (fun s => s.lt r), s.lt r = false
  | [], _, s, hs => by simp at hs
  | u :: R, h, s, hs => by
    obtain ⟨h1, h2⟩ := List.pairwise_cons.1 h
    by_cases hu : u.lt r = true
    · rw [List.dropWhile_cons_of_pos (by simpa using hu)] at hs
      exact drop_not r R h2 s hs
    · rw [List.dropWhile_cons_of_neg (by simpa using hu)] at hs
      rcases List.mem_cons.1 hs with rfl | hs
      · simpa using hu
      · cases hc : s.lt r with
        | false => rfl
        | true => exact absurd (Rt.lt_tra (h1 s hs) hc) hu
theorem take_yes (r : Rt) : ∀ R : List Rt, ∀ s ∈ R.takeWhile (fun s => s.lt r), s.lt r = true
  | [], s, hs => by simp at hs
  | u :: R, s, hs => by
    by_cases hu : u.lt r = true
    · rw [List.takeWhile_cons_of_pos (by simpa using hu)] at hs
      rcases List.mem_cons.1 hs with rfl | hs
      · exact hu
      · exact take_yes r R s hs
    · rw [List.takeWhile_cons_of_neg (by simpa using hu)] at hs
      simp at hs
theorem insR_eq (R : List Rt) (r : Rt) : insR R r = R.takeWhile (fun s => s.lt r) ++ [r] ++ R.dropWhile (fun s => s.lt r) := by
  unfold insR
  rw [take_tw, drop_tw]
theorem insR_len (R : List Rt) (r : Rt) : (insR R r).length = R.length + 1 := by
  have h := tw_le (fun s => s.lt r) R
  unfold insR
  simp
  omega
theorem insR_mem {R : List Rt} {r s : Rt} (h : s ∈ insR R r) : s ∈ R ∨ s = r := by
  unfold insR at h
  simp only [List.mem_append, List.mem_singleton] at h
  rcases h with (h | h) | h
  · exact .inl (List.mem_of_mem_take h)
  · exact .inr h
  · exact .inl (List.mem_of_mem_drop h)
theorem insR_ord {R : List Rt} {r : Rt} (h : Ord7 R) (hk : ∀ s ∈ R, keepE r.p r.a r.l s = true) : Ord7 (insR R r) := by
  rw [insR_eq]
  have hsub1 : (R.takeWhile (fun s => s.lt r)).Sublist R := List.takeWhile_sublist _
  have hsub2 : (R.dropWhile (fun s => s.lt r)).Sublist R := List.dropWhile_sublist _
  have hb : ∀ s ∈ R.dropWhile (fun s => s.lt r), r.lt s = true := fun s hs => lt_or s r (drop_not r R h s hs) (hk s (hsub2.subset hs))
  rw [List.append_assoc]
  refine List.pairwise_append.2 ⟨h.sublist hsub1, ?_, ?_⟩
  · exact List.pairwise_cons.2 ⟨fun s hs => hb s (by simpa using hs), h.sublist hsub2⟩
  · intro s hs u hu
    rcases List.mem_append.1 hu with hu | hu
    · obtain rfl := List.mem_singleton.1 hu
      exact take_yes u R s hs
    · exact Rt.lt_tra (take_yes r R s hs) (hb u hu)
theorem insR_rest {R : List Rt} {r : Rt} (hk : ∀ s ∈ R, keepE r.p r.a r.l s = true) : (insR R r).filter (keepE r.p r.a r.l) = R := by
  unfold insR
  rw [List.filter_append, List.filter_append, List.filter_eq_self.2 (fun s hs => hk s (List.mem_of_mem_take hs)), List.filter_eq_self.2 (fun s hs => hk s (List.mem_of_mem_drop hs))]
  rw [show [r].filter (keepE r.p r.a r.l) = [] by simp [keepE_self]]
  simp

/-- What the law asks of a list into which a route is put without a code. -/
theorem put_facts {R : List Rt} {r : Rt} (h : ptC R r = 0) :
    ribF (ptR R r) = 0 ∧ drC (ptR R r) r.p r.a r.l = 0 ∧ (drR (ptR R r) r.p r.a r.l).length + 1 = (ptR R r).length ∧ drC R r.p r.a r.l = 0 ∧ (drR R r.p r.a r.l).length = (drR (ptR R r) r.p r.a r.l).length ∧ dpC (ptR R r) r.p = 0 ∧ ribF (dpR (ptR R r) r.p) = 0 ∧ (∀ s ∈ dpR (ptR R r) r.p, ¬ s.p = r.p) ∧ ptC (ptR R r) r = 0 ∧ (ptR (ptR R r) r).length = (ptR R r).length := by
  have hR : ribF R = 0 := by
    unfold ptC at h
    by_cases h1 : ribF R = 0
    · exact h1
    · rw [if_neg h1] at h; exact absurd h h1
  have hf : r.f = 0 := by
    unfold ptC at h
    rw [if_pos hR] at h
    by_cases h2 : r.f = 0
    · exact h2
    · rw [if_neg h2] at h; exact absurd h h2
  have hlt : (R.filter (keepE r.p r.a r.l)).length < 60 := by
    unfold ptC at h
    rw [if_pos hR, if_pos hf] at h
    by_cases h3 : 60 ≤ (R.filter (keepE r.p r.a r.l)).length
    · rw [if_pos h3] at h; omega
    · omega
  obtain ⟨hl, ho, hall⟩ := ribF_ok hR
  have hpe : Pe r.p ∧ pf r.a r.l = 0 := by
    have h4 : rtf r.p r.a r.l r.o r.xs r.nx r.md r.lc = 0 := hf
    unfold rtf at h4
    by_cases h5 : Pe r.p
    · rw [if_pos h5] at h4
      by_cases h6 : pf r.a r.l = 0
      · exact ⟨h5, h6⟩
      · rw [if_neg h6] at h4; exact absurd h4 h6
    · rw [if_neg h5] at h4; omega
  have hkeep : ∀ s ∈ R.filter (keepE r.p r.a r.l), keepE r.p r.a r.l s = true := fun s hs => (List.mem_filter.1 hs).2
  have e : ptR R r = insR (R.filter (keepE r.p r.a r.l)) r := by unfold ptR; rw [if_pos h]
  have hallI : ∀ s ∈ insR (R.filter (keepE r.p r.a r.l)) r, s.f = 0 := by
    intro s hs
    rcases insR_mem hs with hs | rfl
    · exact hall s (List.mem_filter.1 hs).1
    · exact hf
  have hordI := insR_ord (ho.filter (keepE r.p r.a r.l)) hkeep
  have hlenI := insR_len (R.filter (keepE r.p r.a r.l)) r
  have hI : ribF (insR (R.filter (keepE r.p r.a r.l)) r) = 0 := ribF_of (by omega) hordI hallI
  have hrest := insR_rest (R := R.filter (keepE r.p r.a r.l)) (r := r) hkeep
  have hdr : drC (insR (R.filter (keepE r.p r.a r.l)) r) r.p r.a r.l = 0 := by unfold drC; rw [if_pos hI, if_pos hpe.1]; exact hpe.2
  have hdr0 : drC R r.p r.a r.l = 0 := by unfold drC; rw [if_pos hR, if_pos hpe.1]; exact hpe.2
  have hdp : dpC (insR (R.filter (keepE r.p r.a r.l)) r) r.p = 0 := by unfold dpC; rw [if_pos hI, if_pos hpe.1]
  have hdrR : drR (insR (R.filter (keepE r.p r.a r.l)) r) r.p r.a r.l = R.filter (keepE r.p r.a r.l) := by unfold drR; rw [if_pos hdr]; exact hrest
  have hdrR0 : drR R r.p r.a r.l = R.filter (keepE r.p r.a r.l) := by unfold drR; rw [if_pos hdr0]
  have hdpR : dpR (insR (R.filter (keepE r.p r.a r.l)) r) r.p = (insR (R.filter (keepE r.p r.a r.l)) r).filter (keepP r.p) := by unfold dpR; rw [if_pos hdp]
  have hpc : ptC (insR (R.filter (keepE r.p r.a r.l)) r) r = 0 := by unfold ptC; rw [if_pos hI, if_pos hf, hrest, if_neg (by omega)]
  have hpr : ptR (insR (R.filter (keepE r.p r.a r.l)) r) r = insR (R.filter (keepE r.p r.a r.l)) r := by unfold ptR; rw [if_pos hpc, hrest]
  rw [e]
  refine ⟨hI, hdr, by rw [hdrR, hlenI], hdr0, by rw [hdrR, hdrR0], hdp, ?_, ?_, hpc, by rw [hpr]⟩
  · rw [hdpR]
    refine ribF_of ?_ (hordI.filter _) (fun s hs => hallI s (List.mem_filter.1 hs).1)
    have := List.length_filter_le (keepP r.p) (insR (R.filter (keepE r.p r.a r.l)) r)
    omega
  · intro s hs
    rw [hdpR] at hs
    have h6 := (List.mem_filter.1 hs).2
    unfold keepP at h6
    have h7 := of_decide_eq_true h6
    exact fun e => h7 e.symm

end Go.Proofs.Ytnjleachioapdaa

namespace Go.Proofs.Ytnjleachioapdaa
open Go.RowKit

theorem lbig_no (a : Option Addr) (n c : Nat) (w : World) (h : ¬ 1048576 < n) : Calls Try.prog 4 #[.slice a n c] w fun e w' => e = .returned (.bool false) ∧ w' = w := by
  have hd : decide ((1048576 : Int) < (n : Int)) = false := by simp; omega
  go_enter Try.func4, Try.ntmps4
  go_wp2
  go_ret
  exact ⟨rfl, rfl⟩

theorem lbig_yes (a : Option Addr) (n c : Nat) (w : World) (h : 1048576 < n) : Calls Try.prog 4 #[.slice a n c] w fun e w' => e = .returned (.bool true) ∧ w' = w := by
  have hd : decide ((1048576 : Int) < (n : Int)) = true := by simp; omega
  go_enter Try.func4, Try.ntmps4
  go_wp2
  go_ret
  exact ⟨rfl, rfl⟩

end Go.Proofs.Ytnjleachioapdaa

namespace Go.Proofs.Ytnjleachioapdaa
open Go.ChangeShapes Go.WideShapes Go.ChangeAt Go.RowKit Go.Sort
set_option linter.unusedVariables false

set_option maxRecDepth 100000 in
set_option maxHeartbeats 12800000 in
theorem fnrt_walk (a : Option Addr) (n c : Nat) (zs : List Int) (w : World) (h : BsAt w a zs) (hn : zs.length = n) (hm : n ≤ maxLen) (ha : ∀ x, zs ≠ [] → a = some x → x.block < w.heap.size) :
    Calls Try.prog 3 #[.slice a n c] w fun e w' => e = .returned (.bool true) ∧ New w w' := by
  by_cases hbig : 1048576 < n
  · go_enter Try.func3, Try.ntmps3
    go_wp2_with fail
    refine (lbig_yes a n c _ hbig).mono ?_
    rintro e w0 ⟨rfl, hw0⟩
    rw [hw0]
    go_wp2
    go_ret
    exact ⟨rfl, New.refl _⟩
  go_enter Try.func3, Try.ntmps3
  go_wp2_with fail
  refine (lbig_no a n c _ hbig).mono ?_
  rintro e w0 ⟨rfl, hw0⟩
  rw [hw0]
  go_wp2_with fail
  refine (drawPut a n c zs _ h hn (by omega) ha).mono ?_
  rintro e w1 ⟨A, d, U, p1, a1, l1, o1, nx1, md1, lc1, xs, x1, c1, rfl, hUl, hxs, hU, hx, N1⟩
  clear h hn hm ha hbig hw0
  go_upto_region 4 with fail
  have hal : New w1 (w1.alloc (.cells #[.int .i64 p1, .int .i64 a1, .int .i64 l1, .int .i64 o1, .slice x1 xs.length c1, .int .i64 nx1, .int .i64 md1, .int .i64 lc1] 31)) := (New.refl w1).alloc _
  have bX := Blk.mk w1 w1.heap.size 31 #[.int .i64 p1, .int .i64 a1, .int .i64 l1, .int .i64 o1, .slice x1 xs.length c1, .int .i64 nx1, .int .i64 md1, .int .i64 lc1] rfl
  have hU := hU.new hal
  have hx := hx.new hal
  have N := N1.trans hal
  clear N1 hal
  generalize (w1.alloc (.cells #[.int .i64 p1, .int .i64 a1, .int .i64 l1, .int .i64 o1, .slice x1 xs.length c1, .int .i64 nx1, .int .i64 md1, .int .i64 lc1] 31)) = w2 at *
  have hUm : U.length ≤ 1048576 := by omega
  obtain ⟨z, hz⟩ : ∃ z, Hid (ptC (U.map Rv.r) (Rt.mk p1 a1 l1 o1 xs nx1 md1 lc1) = z) := ⟨_, rfl⟩
  obtain ⟨S, hS⟩ : ∃ S, Hid (ptR (U.map Rv.r) (Rt.mk p1 a1 l1 o1 xs nx1 md1 lc1) = S) := ⟨_, rfl⟩
  have HXL : Hid (x1 = none → xs.length = 0 ∧ c1 = 0) := hx.2.1
  have hxm : xs.length ≤ 1048576 := by omega
  have cX := bX.cells
  go_wp2_with fail
  refine (implPT p1 a1 l1 o1 nx1 md1 lc1 x1 xs.length c1 xs A U.length d U z S _ hU rfl hUm hx.1 rfl hxm HXL.out hz.out hS.out).mono ?_
  rintro e w3a ⟨A3, n3, c3, V3, rfl, hV3, hlV3, hoV3, hw3⟩
  have hal : New w3a (w3a.alloc (.cells #[.int .i64 z, .slice A3 n3 c3] 35)) := (New.refl w3a).alloc _
  have bR := Blk.mk w3a w3a.heap.size 35 #[.int .i64 z, .slice A3 n3 c3] rfl
  have rtV3 := (hoV3.new hal).rt.1
  have hw3n := hw3.trans hal
  have N := N.trans hw3n
  have hU := hU.new hw3n
  have hx := hx.new hw3n
  have bX := bX.new hw3n
  go_upto_region 5 with fail
  clear hal hw3 hw3n hoV3
  generalize (w3a.alloc (.cells #[.int .i64 z, .slice A3 n3 c3] 35)) = w3 at *
  have cX := bX.cells
  have cR := bR.cells

  have HV3 : Hid (V3.map Rv.r = S) := hV3
  have HL3 : Hid (V3.length = n3) := hlV3
  clear hV3 hlV3
  by_cases h0 : z = 0
  case neg =>
    have hne : (z != 0) = true := by simpa using h0
    have hns := hx.1
    clear h0
    have hfd : ∀ (c0 c1 : Value) (X : World), (Instr.field 35 (.agg #[c0, c1]) 0).run Try.prog X = .ok c0 X := fun _ _ _ => by kernel_rfl
    go_upto_region 6 with fail
    go_region_held3 (fun W => (∀ j, W.cell? ⟨w1.heap.size, j, none⟩ = #[Value.int .i64 p1, .int .i64 a1, .int .i64 l1, .int .i64 o1, .slice x1 xs.length c1, .int .i64 nx1, .int .i64 md1, .int .i64 lc1][j]?) ∧ (∀ j, W.cell? ⟨w3a.heap.size, j, none⟩ = #[Value.int .i64 z, .slice A3 n3 c3][j]?)) (first | exact ⟨cX, cR⟩ | exact ⟨cX5, cR5⟩)
      (first | (go_at_call 7; refine (specPT p1 a1 l1 o1 nx1 md1 lc1 x1 xs.length c1 xs A U.length d U z S _ ?_ rfl hUm ?_ rfl hxm HXL.out hz.out hS.out).mono ?_; exact hU.new ((New.refl _).drew); exact hns.new ((New.refl _).drew); rintro e w5 ⟨A5, n5, c5, V5, rfl, hV5, hl5, ho5, hn5⟩; have cX5 := (bX.new (((New.refl _).drew).trans hn5)).cells; have cR5 := (bR.new (((New.refl _).drew).trans hn5)).cells))
    go_wp2
    go_ret
    exact ⟨rfl, N.trans (((New.refl _).drew).trans hn5)⟩
  subst h0
  obtain ⟨f1, f2, f3, f4, f5, f6, f7, f8, f9, f10⟩ := put_facts hz.out
  rw [hS.out, ← HV3.out] at f1 f2 f3 f5 f6 f7 f8 f9 f10
  have F1 : Hid _ := f1
  have F2 : Hid _ := f2
  have F3 : Hid _ := f3
  have F4 : Hid _ := f4
  have F5 : Hid _ := f5
  have F6 : Hid _ := f6
  have F7 : Hid _ := f7
  have F8 : Hid _ := f8
  have F9 : Hid _ := f9
  have F10 : Hid _ := f10
  have hn3 : n3 ≤ 60 := by
    have e1 := (ribF_ok f1).1
    rw [List.length_map, HL3.out] at e1
    exact e1
  clear f1 f2 f3 f4 f5 f6 f7 f8 f9 f10
  have hn3m : n3 ≤ 1048576 := by omega
  go_wp2_with fail
  refine (implDR p1 a1 l1 A3 n3 c3 V3 0 _ _ rtV3 HL3.out hn3m F2.out rfl).mono ?_
  rintro e w6a ⟨A6, n6, c6, V6, rfl, hV6, hlV6, hoV6, hw6⟩
  have hal : New w6a (w6a.alloc (.cells #[.int .i64 0, .slice A6 n6 c6] 35)) := (New.refl w6a).alloc _
  have bD := Blk.mk w6a w6a.heap.size 35 #[.int .i64 0, .slice A6 n6 c6] rfl
  have rtV6 := (hoV6.new hal).rt.1
  have hw6n := hw6.trans hal
  have N := N.trans hw6n
  have hU := hU.new hw6n
  have hx := hx.new hw6n
  have bX := bX.new hw6n
  have bR := bR.new hw6n
  have rtV3 := rtV3.new hw6n
  go_upto_region 8 with fail
  clear hal hw6 hw6n hoV6
  generalize (w6a.alloc (.cells #[.int .i64 0, .slice A6 n6 c6] 35)) = w6 at *
  have cX := bX.cells
  have cR := bR.cells
  have cD := bD.cells

  have HN6 : Hid (n6 + 1 = n3) := by
    show _ = _
    have e1 := F3.out
    rw [← hV6, List.length_map, List.length_map, hlV6, HL3.out] at e1
    exact e1
  go_wp2_with fail
  refine (implDR p1 a1 l1 A U.length d U 0 _ _ hU rfl hUm F4.out rfl).mono ?_
  rintro e w7a ⟨A7, n7, c7, V7, rfl, hV7, hlV7, hoV7, hw7⟩
  have hal : New w7a (w7a.alloc (.cells #[.int .i64 0, .slice A7 n7 c7] 35)) := (New.refl w7a).alloc _
  have bE := Blk.mk w7a w7a.heap.size 35 #[.int .i64 0, .slice A7 n7 c7] rfl
  have rtV7 := (hoV7.new hal).rt.1
  have hw7n := hw7.trans hal
  have N := N.trans hw7n
  have hx := hx.new hw7n
  have bX := bX.new hw7n
  have bR := bR.new hw7n
  have bD := bD.new hw7n
  have rtV3 := rtV3.new hw7n
  go_upto_region 9 with fail
  clear hal hw7 hw7n hoV7
  generalize (w7a.alloc (.cells #[.int .i64 0, .slice A7 n7 c7] 35)) = w7 at *
  have cX := bX.cells
  have cR := bR.cells
  have cD := bD.cells
  have cE := bE.cells

  have HN7 : Hid (n7 = n6) := by
    show _ = _
    have e1 := F5.out
    rw [← hV6, ← hV7, List.length_map, List.length_map, hlV6, hlV7] at e1
    exact e1
  clear hV6 hV7 hlV6 hlV7 rtV6 rtV7 hU
  go_wp2_with fail
  refine (implDP p1 A3 n3 c3 V3 0 _ _ rtV3 HL3.out hn3m F6.out rfl).mono ?_
  rintro e w8a ⟨A8, n8, c8, V8, rfl, hV8, hlV8, hoV8, hw8⟩
  have hal : New w8a (w8a.alloc (.cells #[.int .i64 0, .slice A8 n8 c8] 35)) := (New.refl w8a).alloc _
  have bG := Blk.mk w8a w8a.heap.size 35 #[.int .i64 0, .slice A8 n8 c8] rfl
  have rtV8 := (hoV8.new hal).rt.1
  have hw8n := hw8.trans hal
  have N := N.trans hw8n
  have hx := hx.new hw8n
  have bX := bX.new hw8n
  have bR := bR.new hw8n
  have bD := bD.new hw8n
  have bE := bE.new hw8n
  have rtV3 := rtV3.new hw8n
  go_upto_region 10 with fail
  clear hal hw8 hw8n hoV8
  generalize (w8a.alloc (.cells #[.int .i64 0, .slice A8 n8 c8] 35)) = w8 at *
  have cX := bX.cells
  have cR := bR.cells
  have cD := bD.cells
  have cE := bE.cells
  have cG := bG.cells

  have HV8 : Hid _ := hV8
  have HL8 : Hid (V8.length = n8) := hlV8
  have hn8 : n8 ≤ 60 := by
    have e1 := F7.out
    rw [← hV8] at e1
    have e2 := (ribF_ok e1).1
    rw [List.length_map, hlV8] at e2
    exact e2
  have F7' : Hid (ribF (V8.map Rv.r) = 0) := by show _ = _; rw [hV8]; exact F7.out
  have F8' : Hid (∀ s ∈ V8.map Rv.r, ¬ s.p = p1) := by rw [hV8]; exact F8.out
  clear hV8 hlV8 HV8
  go_wp2
  go_loopw [9] (fun i wr => ∃ k : Nat, k ≤ n8 ∧ i = .int .i64 k ∧ New w8 wr) (fun i _ => n8 - (intOf i).toNat)
  case atStart => exact ⟨0, Nat.zero_le _, rfl, New.refl _⟩
  case round =>
    obtain ⟨k, hk, rfl, hnw⟩ := hrel
    clear cX cR cD cE cG
    have bX := bX.new hnw
    have bR := bR.new hnw
    have bD := bD.new hnw
    have bE := bE.new hnw
    have bG := bG.new hnw
    have cG := bG.cells
    by_cases hlt : k < n8
    · obtain ⟨b, off, p', a', l', o', nx', md', lc', x', m', d', ys, rfl, hv, hlen, hns', hnl', hmx, q0, q1, q2, q3, q4, q5, q6, q7⟩ := (rtV8.new hnw).at k (by have := HL8.out; omega)
      have hpp : (p' == p1) = false := by
        have e1 := F8'.out ⟨p', a', l', o', ys, nx', md', lc'⟩ (List.mem_map.2 ⟨_, List.mem_of_getElem? hv, rfl⟩)
        simpa using e1
      clear hv hlen hns' hnl' hmx q1 q2 q3 q4 q5 q6 q7
      have Q0 := cell_regrown q0
      have BX := blk_regrown bX
      have BG := blk_regrown bG
      go_upto_region 13 with fail
      go_wp2_with fail
      refine wp_region_quiet_below (by kernel_rfl) (by kernel_rfl) ?_
      repeat (go_big_quiet_step (fail))
      refine wpQuiet_nil ?_
      rintro w9 hn9
      replace hn9 := new_of_regrown hn9
      go_wp2
      go_roundw
      case rel => exact ⟨k + 1, by omega, by go_num, hnw.trans hn9⟩
      case measure => simp [intOf]; omega
    · have N := N.trans hnw
      have hx := hx.new hnw
      have rtV3 := rtV3.new hnw
      have rtV8 := rtV8.new hnw
      have cX := bX.cells
      have cR := bR.cells
      clear hnw
      go_wp2_with fail
      refine (implPT p1 a1 l1 o1 nx1 md1 lc1 x1 xs.length c1 xs A3 n3 c3 V3 0 _ _ rtV3 HL3.out hn3m hx.1 rfl hxm HXL.out F9.out rfl).mono ?_
      rintro e w10a ⟨A10, n10, c10, V10, rfl, hV10, hlV10, hoV10, hw10⟩
      have hal : New w10a (w10a.alloc (.cells #[.int .i64 0, .slice A10 n10 c10] 35)) := (New.refl w10a).alloc _
      have bH := Blk.mk w10a w10a.heap.size 35 #[.int .i64 0, .slice A10 n10 c10] rfl
      have rtV10 := (hoV10.new hal).rt.1
      have hw10n := hw10.trans hal
      have N := N.trans hw10n
      have bX := bX.new hw10n
      have bR := bR.new hw10n
      have bD := bD.new hw10n
      have bE := bE.new hw10n
      have bG := bG.new hw10n
      have rtV3 := rtV3.new hw10n
      have rtV8 := rtV8.new hw10n
      go_upto_region 16 with fail
      clear hal hw10 hw10n hoV10
      generalize (w10a.alloc (.cells #[.int .i64 0, .slice A10 n10 c10] 35)) = w10 at *
      have cX := bX.cells
      have cR := bR.cells
      have cD := bD.cells
      have cE := bE.cells
      have cG := bG.cells
      have cH := bH.cells

      have HN10 : Hid (n10 = n3) := by
        show _ = _
        have e1 := F10.out
        rw [← hV10, List.length_map, List.length_map, hlV10, HL3.out] at e1
        exact e1
      clear hV10 hlV10 rtV10 hx
      have e10 := HN10.out
      have e7 := HN7.out
      have e6 := HN6.out
      subst e10
      subst e7
      have g1 : ((n7 : Int) == (n10 : Int) - 1) = true := by simp; omega
      have g2 : ((n7 : Int) == (n7 : Int)) = true := by simp
      have g3 : ((n10 : Int) == (n10 : Int)) = true := by simp
      have g4 : 1 ≤ n10 := by omega
      clear e6
      go_wp2_with fail
      refine (implRib _ n10 c3 V3 0 _ rtV3 HL3.out hn3m F1.out).mono ?_
      rintro e w11 ⟨rfl, hn11⟩
      have cD := (bD.new hn11).cells
      have cE := (bE.new hn11).cells
      have cG := (bG.new hn11).cells
      have cR := (bR.new hn11).cells
      have cH := (bH.new hn11).cells
      go_wp2_with fail
      refine (implRib _ n8 c8 V8 0 _ (rtV8.new hn11) HL8.out (by omega) F7'.out).mono ?_
      rintro e w12 ⟨rfl, hn12⟩
      have cR := ((bR.new hn11).new hn12).cells
      have cH := ((bH.new hn11).new hn12).cells
      go_wp2
      go_ret
      exact ⟨by first | rfl | exact ret_bool (by simp; omega), N.trans (hn11.trans hn12)⟩


set_option maxRecDepth 100000 in
theorem fnrt_lifted (os : Os) (started : os.Started) (H : Type) (enc : TypeId × Value → H) :
    ReturnsInHanded {} Try.checked os 3 .any (Rows.fnRoutesSpec.pre6 enc Try.prog Try.f3 Rows.fnRoutesRow.domain false) (Rows.fnRoutesSpec.post enc Try.prog Try.f3 false true false false) := by
  refine returnsInHanded_of_change (C := Try.checked) own started (by kernel_rfl) Try.func3
    (ChangeSpec.witness6 (enc := enc) (C := Try.checked) false ⟨#[], #[.slice none 0 0], []⟩ 8 (by kernel_rfl) (by kernel_rfl) (by kernel_rfl) (by kernel_rfl)) ?_
  intro W base args ds gs before hval0 hW hcnd _
  have hval : ∀ (j : Nat) t v, Try.f3.params[j]? = some t → args[j]? = some v → Value.okWide Try.prog W .any base t v := hval0
  have hW' := hW
  obtain ⟨p, q, hA0, hV, rfl, hfz, hnd⟩ := hW
  have hA : DataW.TrodAll enc Try.prog W 0 (fun _ => true) true Try.f3.params.toList args.toList ds p := hA0
  rw [Try.params3] at hA hval
  obtain ⟨v0, vs0, d0, ds0, p0, q0, hargs, rfl, rfl, h0, r0⟩ := trodAll_cons hA
  obtain ⟨rfl, rfl, rfl⟩ := trodAll_nil r0
  obtain rfl : args = #[v0] := by cases args; simp_all
  obtain ⟨rfl, rfl⟩ := trodVars_none hV
  have k0 := h0
  have lt0 : ∀ x ∈ p0, x.block < W.heap.size := by obtain ⟨m, hm⟩ := k0; exact DataW.trod_lt m _ _ _ hm
  obtain ⟨a0, len0, cap0, rfl⟩ := okWide_slice Try.underlying22 (hval 0 22 v0 rfl rfl)
  have nil0 := open_nil h0
  obtain ⟨z0, b0, e0, m0⟩ := open_bytes h0
  clear hA0 hval0
  refine (fnrt_walk a0 len0 cap0 z0 W b0 e0 m0.2 (fun x h1 h2 => by obtain ⟨bb, oo, hh, hl⟩ := b0.block_lt h1; rw [h2] at hh; obtain rfl := Option.some.inj hh; exact hl)).mono fun e W' ⟨he, new⟩ => ?_
  have bel := new.below
  subst he
  exact ⟨_, rfl, _, _, _, [], _, [], hW', trodAll_mk1 (shut_bool Try.underlying4 _), (trodAll_cons_mk (Below.trod laidOut (by kernel_rfl) (of_decide_eq_true (by kernel_rfl)) k0 bel lt0) trodAll_mk0), rfl, bel.frame _, fun h => by cases h⟩

theorem fnrt_holds : Rows.FnRoutesSaid :=
  OpenClaim.holds_of_wide 3 Try.f3 rfl rfl rfl rfl rfl rfl rfl ⟨rfl, rfl, rfl, rfl, rfl⟩ rfl rfl rfl rfl rfl (by kernel_rfl) Try.func3 (by kernel_rfl)
    (of_decide_eq_true (by kernel_rfl)) (by unfold Func.isWrapper; first | (rw [if_pos (by decide +kernel)]; kernel_rfl) | (rw [if_neg (by decide +kernel)]; exact ⟨rfl, rfl⟩))
    (fun os started H enc _ => fnrt_lifted os started H enc)

end Go.Proofs.Ytnjleachioapdaa
