/- What is proved here: what the program's going through a list of routes for one prefix answers, for lists of at most 1048576 routes with paths of at most 1048576 numbers. -/
import Derived.Test.YtkaaefieglhdlaaR7Ap
import Derived.Test.YtkaaefieglhdlaaR7Rf
import Derived.Deep.CutRange
namespace Go.Proofs.Ytkaaefieglhdlaa
open Go.RowKit Go.Sort
set_option linter.unusedVariables false

/-- The route is of the prefix. -/
def keepS (qa ql : Int) (r : Rt) : Bool := decide (qa = r.a ∧ ql = r.l)

set_option maxHeartbeats 1600000 in
theorem same_any (p a l o nx md lc : Int) (x : Option Addr) (n c : Nat) (p' a' l' o' nx' md' lc' : Int) (x' : Option Addr) (n' c' : Nat) (v : Bool) (w : World) (hv : decide (a = a' ∧ l = l') = v) : Calls Try.prog 30 #[.agg #[.int .i64 p, .int .i64 a, .int .i64 l, .int .i64 o, .slice x n c, .int .i64 nx, .int .i64 md, .int .i64 lc], .agg #[.int .i64 p', .int .i64 a', .int .i64 l', .int .i64 o', .slice x' n' c', .int .i64 nx', .int .i64 md', .int .i64 lc']] w fun e w' => e = .returned (.bool v) ∧ New w w' := by
  have N0 : New w ((w.alloc (.cells #[.int .i64 p, .int .i64 a, .int .i64 l, .int .i64 o, .slice x n c, .int .i64 nx, .int .i64 md, .int .i64 lc] 31)).alloc (.cells #[.int .i64 p', .int .i64 a', .int .i64 l', .int .i64 o', .slice x' n' c', .int .i64 nx', .int .i64 md', .int .i64 lc'] 31)) := ((New.refl w).alloc _).alloc _
  have hz : (a == a' && l == l') = v := by rw [← hv]; by_cases e : a = a' <;> by_cases f : l = l' <;> simp [e, f]
  clear hv
  go_enter Try.func30, Try.ntmps30
  go_wp2
  all_goals go_ret
  all_goals exact ⟨ret_bool (by subst hz; first | rfl | simp [*]), ((New.refl w).alloc _).alloc _⟩

set_option maxHeartbeats 6400000 in
theorem thatS_any (p' a' l' o' nx' md' lc' : Int) (x' : Option Addr) (n' c' : Nat) (A : Option Addr) (N cc : Nat) (V : List Rv) (w : World) (h : RtAt w A V) (hn : V.length = N) (hm : N ≤ 1048576) :
    Calls Try.prog 29 #[.slice A N cc, .func (.func 30) #[.agg #[.int .i64 p', .int .i64 a', .int .i64 l', .int .i64 o', .slice x' n' c', .int .i64 nx', .int .i64 md', .int .i64 lc']] #[]] w fun e w' => ∃ u V', e = .returned u ∧ V'.map Rv.r = (V.map Rv.r).filter (keepS a' l') ∧ OwT w' w.heap.size w'.heap.size u V' ∧ New w w' := by
  have HN : Hid (V.length = N) := hn
  clear hn
  obtain ⟨i0, hi, hz0, hz1, hz2⟩ := info_parts Try.infoRt
  go_enter Try.func29, Try.ntmps29
  go_wp2
  go_loopw [5, 10] (fun s i wr => ∃ (k : Nat) (V' : List Rv), k ≤ N ∧ i = .int .i64 k ∧ V'.length ≤ k ∧ V'.map Rv.r = ((V.take k).map Rv.r).filter (keepS a' l') ∧ New w wr ∧ OwT wr w.heap.size wr.heap.size s V') (fun _ i _ => N - (intOf i).toNat)
  case atStart => exact ⟨0, [], Nat.zero_le _, rfl, Nat.le_refl _, rfl, New.refl _, OwT.nil _ _ _⟩
  case round =>
    obtain ⟨k, V', hk, rfl, hlk, hmap, hnw, how⟩ := hrel
    by_cases hlt : k < N
    · obtain ⟨b, off, p, a, l, o, nx, md, lc, x, m, d, xs, rfl, hv, hlen, hns, hnl, hmx, q0, q1, q2, q3, q4, q5, q6, q7⟩ := (h.new hnw).at k (by have := HN.out; omega)
      have HL : Hid (xs.length = m) := hlen
      have hbd : Hid (∀ z ∈ xs, In6 z) := hns.bd
      have HX : Hid (x = none → m = 0 ∧ d = 0) := hnl
      have HF := filterR_next (K := keepS a' l') hv
      rw [← hmap] at HF
      have HFR : Hid _ := HF
      have N0 := (New.refl wr).alloc (.cells #[.int .i64 p, .int .i64 a, .int .i64 l, .int .i64 o, .slice x m d, .int .i64 nx, .int .i64 md, .int .i64 lc] 31)
      have bA := Blk.mk wr wr.heap.size 31 #[.int .i64 p, .int .i64 a, .int .i64 l, .int .i64 o, .slice x m d, .int .i64 nx, .int .i64 md, .int .i64 lc] rfl
      clear hv hlen hmap HF hnl
      obtain ⟨f, hf⟩ : ∃ f, Hid (keepS a' l' ⟨p, a, l, o, xs, nx, md, lc⟩ = f) := ⟨_, rfl⟩
      go_upto_region 5 with fail
      generalize wr.alloc (.cells #[.int .i64 p, .int .i64 a, .int .i64 l, .int .i64 o, .slice x m d, .int .i64 nx, .int .i64 md, .int .i64 lc] 31) = wa at *
      have cA := bA.cells
      go_wp2_with fail
      refine (same_any p' a' l' o' nx' md' lc' x' n' c' p a l o nx md lc x m d f _ hf.out).mono ?_
      rintro e w1 ⟨rfl, h1⟩
      have bA1 := bA.new h1
      have N1 := N0.trans h1
      have hns1 := hns.new N1
      have how1 := how.new N1
      have hle := hnw.size
      clear bA cA N0 h1 q0 q1 q2 q3 q4 q5 q6 q7 hns how
      cases f with
      | false =>
        go_wp2
        go_roundw
        case rel =>
          have e := HFR.out
          rw [if_neg (by rw [hf.out]; simp), List.append_nil] at e
          exact ⟨k + 1, V', by omega, by go_num, by omega, e.symm, hnw.trans N1, how1.up N1.size⟩
        case measure => simp [intOf]; omega
      | true =>
        have cA := bA1.cells
        go_wp2_with fail
        refine (copyRt_any p a l o nx md lc x m d xs _ hns1 HL.out hmx HX.out).mono ?_
        rintro e w2 ⟨x2, c2, rfl, ho2, h2⟩
        have how2 := how1.up N1.size
        have hB2 := bA1.new h2
        clear cA
        have hrow3 : (w2.alloc (.cells #[.int .i64 p, .int .i64 a, .int .i64 l, .int .i64 o, .slice x2 m c2, .int .i64 nx, .int .i64 md, .int .i64 lc] 31)).ownsRow w.heap.size 31 8 _ V'.length (cellsT V') := row_turn7 (row_turn7 how1.row h2 (fun _ _ f => f)) ((New.refl w2).alloc _) (fun _ _ f => f)
        have bL := Blk.mk w2 w2.heap.size 31 #[.int .i64 p, .int .i64 a, .int .i64 l, .int .i64 o, .slice x2 m c2, .int .i64 nx, .int .i64 md, .int .i64 lc] rfl
        have hov : OvN w2 w1.heap.size (Rv.pv ⟨⟨p, a, l, o, xs, nx, md, lc⟩, x2, c2⟩) xs := by
          unfold Rv.pv
          simp only [HL.out]
          exact ho2
        have hsz : w.heap.size ≤ (w2.alloc (.cells #[.int .i64 p, .int .i64 a, .int .i64 l, .int .i64 o, .slice x2 m c2, .int .i64 nx, .int .i64 md, .int .i64 lc] 31)).heap.size := by have e1 := N1.size; have e2 := h2.size; simp; omega
        have hsrc : ∀ j, (w2.alloc (.cells #[.int .i64 p, .int .i64 a, .int .i64 l, .int .i64 o, .slice x2 m c2, .int .i64 nx, .int .i64 md, .int .i64 lc] 31)).cell? ⟨w2.heap.size, j, none⟩ = (Rv.mk (Rt.mk p a l o xs nx md lc) x2 c2).cs[j]? := by
          intro j
          rw [bL.cells j]
          unfold Rv.cs
          simp only [HL.out]
          simp
        go_wp2_with (at_builtin; refine wpList_apT _ rfl (.tmp 17) (.tmp 20) rfl w.heap.size _ Try.underlying35 hi hz0 hz1 hz2 rfl _ V' rfl hrow3 w2.heap.size (Rv.mk (Rt.mk p a l o xs nx md lc) x2 c2) rfl hsrc (by omega) hsz ?_)
        intro v5 w5 hr5 hg5 _
        replace hr5 : w5.ownsRow w.heap.size 31 8 v5 (V' ++ [Rv.mk (Rt.mk p a l o xs nx md lc) x2 c2]).length (cellsT (V' ++ [Rv.mk (Rt.mk p a l o xs nx md lc) x2 c2])) := by rw [List.length_append]; exact hr5
        have hO5 := OwT.appended how2 (by have e1 := N1.size; omega) h2 hov hbd.out (by simp only [HL.out]; exact hmx) ((New.refl w2).alloc _) hr5 hg5
        have N5 : New w w5 := ((((hnw.trans N1).trans h2).alloc _).grow hg5 (fun j hj => (row_rng7 how1.row j hj).1))
        clear hr5 hg5 hrow3 hsrc hov how2 how1 ho2
        go_wp2
        go_roundw
        case rel =>
          have e := HFR.out
          rw [if_pos hf.out] at e
          exact ⟨k + 1, V' ++ [Rv.mk (Rt.mk p a l o xs nx md lc) x2 c2], by omega, by go_num, by simp; omega, by rw [e]; simp, N5, hO5⟩
        case measure => simp [intOf]; omega
    · go_wp2
      go_ret
      rw [List.take_of_length_le (by have := HN.out; omega)] at hmap
      exact ⟨_, V', rfl, hmap, how, hnw⟩

end Go.Proofs.Ytkaaefieglhdlaa
