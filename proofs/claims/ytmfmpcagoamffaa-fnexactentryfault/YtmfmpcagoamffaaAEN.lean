/- What is proved here: for every entry the law on EntryFault returns true, and the entry reads as it did. No condition. -/
import Derived.Test.YtmfmpcagoamffaaE10Op
import Derived.Test.YtmfmpcagoamffaaE10En
import Derived.Deep.RegionWith
namespace Go.Proofs.Ytmfmpcagoamffaa
open Go.ChangeShapes Go.WideShapes Go.ChangeAt Go.RowKit
set_option linter.unusedVariables false

set_option maxHeartbeats 1600000 in
theorem aen_walk (ep k p : Int) (a : Option Addr) (n c : Nat) (zs : List Int) (w : World) (h : BsAt w a zs) (hn : zs.length = n) (hm : n ≤ maxLen) :
    Calls Try.prog 6 #[.agg #[.int .i64 ep, .int .i64 k, .int .i64 p, .slice a n c]] w fun e w' => e = .returned (.bool true) ∧ New w w' := by
  have hw := (New.refl w).alloc (.cells #[.int .i64 ep, .int .i64 k, .int .i64 p, .slice a n c] 50)
  by_cases hbig : 1048576 < n
  · go_enter Try.func6, Try.ntmps6
    go_wp2_with fail
    refine (szEntry_big ep k p a n c 1048576 _ (Nat.le_refl _) hm hbig).mono ?_
    rintro e w1 ⟨rfl, hn1⟩
    go_wp2
    go_ret
    exact ⟨rfl, hw.trans hn1⟩
  · have hz := h.lt
    have hm' : n ≤ 1048576 := by omega
    clear hm
    go_enter Try.func6, Try.ntmps6
    go_wp2_with fail
    refine (szEntry_ok ep k p a n c 1048576 _ (Nat.le_refl _) hm').mono ?_
    rintro e w1 ⟨rfl, hn1⟩
    have hs1 := hn1.size
    simp at hs1
    have p0 : w1.cell? ⟨w.heap.size, 0, none⟩ = some (.int .i64 ep) := by rw [hn1.cells _ _ (by simp)]; go_simp
    have p1 : w1.cell? ⟨w.heap.size, 1, none⟩ = some (.int .i64 k) := by rw [hn1.cells _ _ (by simp)]; go_simp
    have p2 : w1.cell? ⟨w.heap.size, 2, none⟩ = some (.int .i64 p) := by rw [hn1.cells _ _ (by simp)]; go_simp
    have p3 : w1.cell? ⟨w.heap.size, 3, none⟩ = some (.slice a n c) := by rw [hn1.cells _ _ (by simp)]; go_simp
    have hw1 := hw.trans hn1
    go_wp2_with fail
    refine (toEntry_any ep k p a n c zs _ (h.new hw1) hn hm').mono ?_
    rintro e w2 ⟨g2, rfl, hg2, ho2, hn2⟩
    have hs2 := hn2.size
    have q0 : w2.cell? ⟨w.heap.size, 0, none⟩ = some (.int .i64 ep) := by rw [hn2.cells _ _ (by omega)]; exact p0
    have q1 : w2.cell? ⟨w.heap.size, 1, none⟩ = some (.int .i64 k) := by rw [hn2.cells _ _ (by omega)]; exact p1
    have q2 : w2.cell? ⟨w.heap.size, 2, none⟩ = some (.int .i64 p) := by rw [hn2.cells _ _ (by omega)]; exact p2
    have q3 : w2.cell? ⟨w.heap.size, 3, none⟩ = some (.slice a n c) := by rw [hn2.cells _ _ (by omega)]; exact p3
    have hw2 := hw1.trans hn2
    clear p0 p1 p2 p3
    go_wp2_with fail
    refine (specEN ep k p _ n n _ hm').mono ?_
    rintro e w3 ⟨rfl, hn3⟩
    have hs3 := hn3.size
    have p0 : w3.cell? ⟨w.heap.size, 0, none⟩ = some (.int .i64 ep) := by rw [hn3.cells _ _ (by omega)]; exact q0
    have p1 : w3.cell? ⟨w.heap.size, 1, none⟩ = some (.int .i64 k) := by rw [hn3.cells _ _ (by omega)]; exact q1
    have p2 : w3.cell? ⟨w.heap.size, 2, none⟩ = some (.int .i64 p) := by rw [hn3.cells _ _ (by omega)]; exact q2
    have p3 : w3.cell? ⟨w.heap.size, 3, none⟩ = some (.slice a n c) := by rw [hn3.cells _ _ (by omega)]; exact q3
    have hw3 := hw2.trans hn3
    clear q0 q1 q2 q3
    go_wp2_with fail
    refine (toEntry_any ep k p a n c zs _ (h.new hw3) hn hm').mono ?_
    rintro e w4 ⟨g4, rfl, hg4, ho4, hn4⟩
    have hs4 := hn4.size
    have q0 : w4.cell? ⟨w.heap.size, 0, none⟩ = some (.int .i64 ep) := by rw [hn4.cells _ _ (by omega)]; exact p0
    have q1 : w4.cell? ⟨w.heap.size, 1, none⟩ = some (.int .i64 k) := by rw [hn4.cells _ _ (by omega)]; exact p1
    have q2 : w4.cell? ⟨w.heap.size, 2, none⟩ = some (.int .i64 p) := by rw [hn4.cells _ _ (by omega)]; exact p2
    have q3 : w4.cell? ⟨w.heap.size, 3, none⟩ = some (.slice a n c) := by rw [hn4.cells _ _ (by omega)]; exact p3
    have hw4 := hw3.trans hn4
    clear p0 p1 p2 p3
    go_wp2_with fail
    refine (implEN ep k p _ n n _ hm').mono ?_
    rintro e w5 ⟨rfl, hn5⟩
    have hs5 := hn5.size
    simp at hs5
    have hlt4 : w.heap.size < w4.heap.size := by omega
    have p0 : w5.cell? ⟨w.heap.size, 0, none⟩ = some (.int .i64 ep) := by rw [hn5.cells _ _ (by simp; omega)]; go_simp
    have p1 : w5.cell? ⟨w.heap.size, 1, none⟩ = some (.int .i64 k) := by rw [hn5.cells _ _ (by simp; omega)]; go_simp
    have p2 : w5.cell? ⟨w.heap.size, 2, none⟩ = some (.int .i64 p) := by rw [hn5.cells _ _ (by simp; omega)]; go_simp
    have p3 : w5.cell? ⟨w.heap.size, 3, none⟩ = some (.slice a n c) := by rw [hn5.cells _ _ (by simp; omega)]; go_simp
    have r0 : w5.cell? ⟨w4.heap.size, 0, none⟩ = some (.int .i64 ep) := by rw [hn5.cells _ _ (by simp)]; go_simp
    have r1 : w5.cell? ⟨w4.heap.size, 1, none⟩ = some (.int .i64 k) := by rw [hn5.cells _ _ (by simp)]; go_simp
    have r2 : w5.cell? ⟨w4.heap.size, 2, none⟩ = some (.int .i64 p) := by rw [hn5.cells _ _ (by simp)]; go_simp
    have r3 : w5.cell? ⟨w4.heap.size, 3, none⟩ = some (.slice (some ⟨g4, 0, none⟩) n n) := by rw [hn5.cells _ _ (by simp)]; go_simp
    have hw5 := (hw4.alloc _).trans hn5
    have hx5 : BsAt w5 (some ⟨g4, 0, none⟩) zs := (BsAt.of_own ho4 hz).new (((New.refl _).alloc _).trans hn5)
    clear q0 q1 q2 q3
    have hff : (enF ep k p n != enF ep k p n) = false := by simp
    go_wp2_with fail
    go_region_with (first
      | (go_at_call 26; refine (toEntry_any ep k p a n c zs _ ?_ hn hm').mono ?_; exact (h.new hw5).new ((New.refl _).drew); rintro e w6 ⟨g6, rfl, hg6, ho6, hn6⟩; have t0 : w6.cell? ⟨w4.heap.size, 0, none⟩ = some (.int .i64 ep) := (hn6.cells _ _ hs5).trans r0; have t1 : w6.cell? ⟨w4.heap.size, 1, none⟩ = some (.int .i64 k) := (hn6.cells _ _ hs5).trans r1; have t2 : w6.cell? ⟨w4.heap.size, 2, none⟩ = some (.int .i64 p) := (hn6.cells _ _ hs5).trans r2; have t3 : w6.cell? ⟨w4.heap.size, 3, none⟩ = some (.slice (some ⟨g4, 0, none⟩) n n) := (hn6.cells _ _ hs5).trans r3)
      | (go_at_call 27; refine (eqEntry_any ep k p _ _ n n n zs _ ?_ ?_ hn hm').mono ?_; exact hx5.new (((New.refl _).drew).trans hn6); exact BsAt.of_own ho6 hz; rintro e w7 ⟨rfl, hn7⟩))
    all_goals
      go_wp2
      go_ret
      exact ⟨rfl, (hw5.drew.trans hn6).trans hn7⟩

set_option maxRecDepth 100000 in
theorem aen_lifted (os : Os) (started : os.Started) (H : Type) (enc : TypeId × Value → H) :
    ReturnsInHanded {} Try.checked os 6 .any (Rows.fnExactEntryFaultSpec.pre6 enc Try.prog Try.f6 Rows.fnExactEntryFaultRow.domain false) (Rows.fnExactEntryFaultSpec.post enc Try.prog Try.f6 false true false false) := by
  refine returnsInHanded_of_change (C := Try.checked) own started (by kernel_rfl) Try.func6
    (ChangeSpec.witness6 (enc := enc) (C := Try.checked) false ⟨#[], #[.agg #[.int .i64 0, .int .i64 0, .int .i64 0, .slice none 0 0]], []⟩ 8 (by kernel_rfl) (by kernel_rfl) (by kernel_rfl) (by kernel_rfl)) ?_
  intro W base args ds gs before hval0 hW hcnd _
  have hval : ∀ (j : Nat) t v, Try.f6.params[j]? = some t → args[j]? = some v → Value.okWide Try.prog W .any base t v := hval0
  have hW' := hW
  obtain ⟨p, q, hA0, hV, rfl, hfz, hnd⟩ := hW
  have hA : DataW.TrodAll enc Try.prog W 0 (fun _ => true) true Try.f6.params.toList args.toList ds p := hA0
  rw [Try.params6] at hA hval
  obtain ⟨v0, vs0, d0, ds0, p0, q0, hargs, rfl, rfl, h0, r0⟩ := trodAll_cons hA
  obtain ⟨rfl, rfl, rfl⟩ := trodAll_nil r0
  obtain rfl : args = #[v0] := by cases args; simp_all
  obtain ⟨rfl, rfl⟩ := trodVars_none hV
  have k0 := h0
  have lt0 : ∀ x ∈ p0, x.block < W.heap.size := by obtain ⟨m, hm⟩ := k0; exact DataW.trod_lt m _ _ _ hm
  obtain ⟨ep0, kn0, pn0, a0, len0, cap0, z0, rfl, b0, e0, m0⟩ := open_entry (hval 0 50 v0 rfl rfl) h0
  clear hA0 hval0
  refine (aen_walk ep0 kn0 pn0 a0 len0 cap0 z0 W b0 e0 m0).mono fun e W' ⟨he, new⟩ => ?_
  have bel := new.below
  subst he
  exact ⟨_, rfl, _, _, _, [], _, [], hW', trodAll_mk1 (shut_bool Try.underlying4 _), (trodAll_cons_mk (Below.trod laidOut (by kernel_rfl) (of_decide_eq_true (by kernel_rfl)) k0 bel lt0) trodAll_mk0), rfl, bel.frame _, fun h => by cases h⟩

theorem aen_holds : Rows.FnExactEntryFaultSaid :=
  OpenClaim.holds_of_wide 6 Try.f6 rfl rfl rfl rfl rfl rfl rfl ⟨rfl, rfl, rfl, rfl, rfl⟩ rfl rfl rfl rfl rfl (by kernel_rfl) Try.func6 (by kernel_rfl)
    (of_decide_eq_true (by kernel_rfl)) (by unfold Func.isWrapper; first | (rw [if_pos (by decide +kernel)]; kernel_rfl) | (rw [if_neg (by decide +kernel)]; exact ⟨rfl, rfl⟩))
    (fun os started H enc _ => aen_lifted os started H enc)

end Go.Proofs.Ytmfmpcagoamffaa
