/- What is proved here: for every journal and entry the law on AppendJournal returns true, and both read as they did. No condition. -/
import Derived.Test.YtmfmpcagoamffabAAxW
namespace Go.Proofs.Ytmfmpcagoamffab
open Go.ChangeShapes Go.WideShapes Go.ChangeAt Go.RowKit
set_option linter.unusedVariables false

theorem aax_bd (ep ki pe : Int) {zs ys es : List Int} (hz : ∀ u ∈ zs, 0 ≤ u ∧ u ≤ 255) (hy : ∀ u ∈ ys, 0 ≤ u ∧ u ≤ 255) (he : ∀ u ∈ es, 0 ≤ u ∧ u ≤ 255) : (∀ u ∈ (axA zs ys ep ki pe es).2.2.1, 0 ≤ u ∧ u ≤ 255) ∧ (∀ u ∈ (axA zs ys ep ki pe es).2.2.2, 0 ≤ u ∧ u ≤ 255) ∧ (axA zs ys ep ki pe es).2.2.1.length ≤ 1048576 ∧ (axA zs ys ep ki pe es).2.2.2.length ≤ 1048576 := by
  unfold axA
  split
  · rename_i h
    have := (jF_zero h).1
    split
    · rename_i hg
      obtain ⟨h1, h2, h3, h4, h5, h6, h7⟩ := enF_zero hg
      split
      · simp
      · refine ⟨hz, fun u hu => (List.mem_append.1 hu).elim (hy u) (enP_bd he ⟨h1, h2⟩ ⟨h3, h4⟩ ⟨h5, h6⟩ h7 u), by simp only; omega, ?_⟩
        simp only [List.length_append, enP_len]
        omega
    · simp
  · simp

theorem aax_all (a b ax : Option Addr) (n c m d l cl : Nat) (ep ki pe : Int) (zs ys es : List Int) (w : World) (h : BsAt w a zs) (k : BsAt w b ys) (q : BsAt w ax es) (hn : zs.length = n) (hm : ys.length = m) (hl : es.length = l) (hnm : n ≤ maxLen) (hmm : m ≤ maxLen) (hlm : l ≤ maxLen) :
    Calls Try.prog 4 #[.agg #[.slice a n c, .slice b m d], .agg #[.int .i64 ep, .int .i64 ki, .int .i64 pe, .slice ax l cl]] w fun e w' => e = .returned (.bool true) ∧ New w w' := by
  by_cases hbig : 1048576 < n + m + l
  · exact aax_big a b ax n c m d l cl ep ki pe w hnm hmm hlm hbig
  · obtain ⟨h1, h2, h3, h4⟩ := aax_bd ep ki pe h.lt k.lt q.lt
    exact aax_walk a b ax n c m d l cl ep ki pe zs ys es w h k q hn hm hl (by omega) (axA zs ys ep ki pe es).1 (axA zs ys ep ki pe es).2.1 (axA zs ys ep ki pe es).2.2.1 (axA zs ys ep ki pe es).2.2.2
      (fun g g2 g3 W i1 i2 i3 i4 i5 => implAx g 0 n n g2 0 m m zs ys W i1 i2 i4 i5 hn hm (Nat.le_refl _) (Nat.le_refl _) (by omega) (by omega) ep ki pe g3 0 l l es i3 hl (by omega))
      (fun g g2 g3 W i1 i2 i3 i4 i5 => specAx g 0 n n g2 0 m m zs ys W i1 i2 i4 i5 hn hm (Nat.le_refl _) (Nat.le_refl _) (by omega) (by omega) ep ki pe g3 0 l l es i3 hl (by omega)) h1 h2 h3 h4

set_option maxRecDepth 100000 in
theorem aax_lifted (os : Os) (started : os.Started) (H : Type) (enc : TypeId × Value → H) :
    ReturnsInHanded {} Try.checked os 4 .any (Rows.fnExactAppendJournalSpec.pre6 enc Try.prog Try.f4 Rows.fnExactAppendJournalRow.domain false) (Rows.fnExactAppendJournalSpec.post enc Try.prog Try.f4 false true false false) := by
  refine returnsInHanded_of_change (C := Try.checked) own started (by kernel_rfl) Try.func4
    (ChangeSpec.witness6 (enc := enc) (C := Try.checked) false ⟨#[], #[.agg #[.slice none 0 0, .slice none 0 0], .agg #[.int .i64 0, .int .i64 0, .int .i64 0, .slice none 0 0]], []⟩ 8 (by kernel_rfl) (by kernel_rfl) (by kernel_rfl) (by kernel_rfl)) ?_
  intro W base args ds gs before hval0 hW hcnd _
  have hval : ∀ (j : Nat) t v, Try.f4.params[j]? = some t → args[j]? = some v → Value.okWide Try.prog W .any base t v := hval0
  have hW' := hW
  obtain ⟨p, q, hA0, hV, rfl, hfz, hnd⟩ := hW
  have hA : DataW.TrodAll enc Try.prog W 0 (fun _ => true) true Try.f4.params.toList args.toList ds p := hA0
  rw [Try.params4] at hA hval
  obtain ⟨v0, vs0, d0, ds0, p0, q0, hargs, rfl, rfl, h0, r0⟩ := trodAll_cons hA
  obtain ⟨v1, vs1, d1, ds1, p1, q1, rfl, rfl, rfl, i1, r1⟩ := trodAll_cons r0
  obtain ⟨rfl, rfl, rfl⟩ := trodAll_nil r1
  obtain rfl : args = #[v0, v1] := by cases args; simp_all
  obtain ⟨rfl, rfl⟩ := trodVars_none hV
  have k0 := h0
  have k1 := i1
  have lt0 : ∀ x ∈ p0, x.block < W.heap.size := by obtain ⟨m, hm⟩ := k0; exact DataW.trod_lt m _ _ _ hm
  have lt1 : ∀ x ∈ p1, x.block < W.heap.size := by obtain ⟨m, hm⟩ := k1; exact DataW.trod_lt m _ _ _ hm
  obtain ⟨a0, b0, n0, c0, m0, d0', z0, y0, rfl, h1, h2, h3, h4, h5, h6⟩ := open_journal (hval 0 24 v0 rfl rfl) h0
  obtain ⟨ep0, kn0, pn0, x0, l0, cl0, e0, rfl, j1, j2, j3⟩ := open_entry (hval 1 34 v1 rfl rfl) i1
  clear hA0 hval0
  refine (aax_all a0 b0 x0 n0 c0 m0 d0' l0 cl0 ep0 kn0 pn0 z0 y0 e0 W h1 h2 j1 h3 h4 j2 h5 h6 j3).mono fun e W' ⟨he, new⟩ => ?_
  have bel := new.below
  subst he
  exact ⟨_, rfl, _, _, _, [], _, [], hW', trodAll_mk1 (shut_bool Try.underlying4 _), (trodAll_cons_mk (Below.trod laidOut (by kernel_rfl) (of_decide_eq_true (by kernel_rfl)) k0 bel lt0) (trodAll_cons_mk (Below.trod laidOut (by kernel_rfl) (of_decide_eq_true (by kernel_rfl)) k1 bel lt1) trodAll_mk0)), rfl, bel.frame _, fun h => by cases h⟩

theorem aax_holds : Rows.FnExactAppendJournalSaid :=
  OpenClaim.holds_of_wide 4 Try.f4 rfl rfl rfl rfl rfl rfl rfl ⟨rfl, rfl, rfl, rfl, rfl⟩ rfl rfl rfl rfl rfl (by kernel_rfl) Try.func4 (by kernel_rfl)
    (of_decide_eq_true (by kernel_rfl)) (by unfold Func.isWrapper; first | (rw [if_pos (by decide +kernel)]; kernel_rfl) | (rw [if_neg (by decide +kernel)]; exact ⟨rfl, rfl⟩))
    (fun os started H enc _ => aax_lifted os started H enc)

end Go.Proofs.Ytmfmpcagoamffab
