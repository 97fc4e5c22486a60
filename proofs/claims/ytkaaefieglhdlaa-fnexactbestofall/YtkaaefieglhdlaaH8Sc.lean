/- What is proved here: what the model's copying of lists of routes answers, for lists of at most 1048576 routes with paths of at most 1048576 numbers. -/
import Derived.Test.YtkaaefieglhdlaaH8Lb
import Derived.Test.YtkaaefieglhdlaaR7Cr
import Derived.Test.YtkaaefieglhdlaaR7Ap
import Derived.Deep.CutRange
namespace Go.Proofs.Ytkaaefieglhdlaa
open Go.RowKit Go.Sort
set_option linter.unusedVariables false

theorem set5t (w : World) (B j : Nat) (v0 v1 v2 v3 v4 : Value) : Turn (fun k => k = B) w (((((w.setCell ⟨B, j, none⟩ v0).setCell ⟨B, j + 1, none⟩ v1).setCell ⟨B, j + 2, none⟩ v2).setCell ⟨B, j + 3, none⟩ v3).setCell ⟨B, j + 4, none⟩ v4) :=
  (((((Turn.refl (fun k => k = B) w).set (p := ⟨B, j, none⟩) rfl v0).set (p := ⟨B, j + 1, none⟩) rfl v1).set (p := ⟨B, j + 2, none⟩) rfl v2).set (p := ⟨B, j + 3, none⟩) rfl v3).set (p := ⟨B, j + 4, none⟩) rfl v4

set_option maxHeartbeats 6400000 in
theorem l7Copy_any (A : Option Addr) (N cc : Nat) (V : List Rv) (w : World) (h : RtAt w A V) (hn : V.length = N) (hm : N ≤ 1048576) :
    Calls Try.prog 24 #[.slice A N cc] w fun e w' => ∃ u V', e = .returned u ∧ V'.map Rv.r = V.map Rv.r ∧ OwT w' w.heap.size w'.heap.size u V' ∧ New w w' := by
  have HN : Hid (V.length = N) := hn
  clear hn
  obtain ⟨i0, hi, hz0, hz1, hz2⟩ := info_parts Try.infoRt
  have NL : New w (w.alloc (.cells #[] 31)) := (New.refl w).alloc _
  have hL : OwT (w.alloc (.cells #[] 31)) w.heap.size (w.alloc (.cells #[] 31)).heap.size (.slice (some ⟨w.heap.size, 0, none⟩) 0 0) [] :=
    ⟨row_lit7 (lo := w.heap.size) (Blk.mk w w.heap.size 31 #[] rfl) (Nat.le_refl _), by intro k hk; simp [Value.ownBlock] at hk; simp; omega, PathsT.nil _ _ _⟩
  go_enter Try.func24, Try.ntmps24
  go_wp2
  go_loopw [3, 4] (fun s i wr => ∃ (k : Nat) (V' : List Rv), k ≤ N ∧ i = .int .i64 k ∧ V'.length = k ∧ V'.map Rv.r = (V.take k).map Rv.r ∧ New w wr ∧ OwT wr w.heap.size wr.heap.size s V') (fun _ i _ => N - (intOf i).toNat)
  case atStart => exact ⟨0, [], Nat.zero_le _, rfl, rfl, rfl, NL, hL⟩
  case round =>
    clear NL hL
    obtain ⟨k, V', hk, rfl, hlk, hmap, hnw, how⟩ := hrel
    have HLK : Hid (V'.length = k) := hlk
    clear hlk
    by_cases hlt : k < N
    · obtain ⟨b, off, p, a, l, o, nx, md, lc, x, m, d, xs, rfl, hv, hlen, hns, hnl, hmx, q0, q1, q2, q3, q4, q5, q6, q7⟩ := (h.new hnw).at k (by have := HN.out; omega)
      have HL : Hid (xs.length = m) := hlen
      have hbd : Hid (∀ z ∈ xs, In6 z) := hns.bd
      have HX : Hid (x = none → m = 0 ∧ d = 0) := hnl
      have HM : Hid (∀ u : Rv, u.r = ⟨p, a, l, o, xs, nx, md, lc⟩ → (V' ++ [u]).map Rv.r = (V.take (k + 1)).map Rv.r) := by
        intro u hu
        obtain ⟨hk', e⟩ := List.getElem?_eq_some_iff.1 hv
        rw [List.take_succ_eq_append_getElem hk', e, List.map_append, List.map_append, hmap]
        simp [hu]
      have N0 := (New.refl wr).alloc (.cells #[.int .i64 p, .int .i64 a, .int .i64 l, .int .i64 o, .slice x m d, .int .i64 nx, .int .i64 md, .int .i64 lc] 31)
      have bA := Blk.mk wr wr.heap.size 31 #[.int .i64 p, .int .i64 a, .int .i64 l, .int .i64 o, .slice x m d, .int .i64 nx, .int .i64 md, .int .i64 lc] rfl
      clear hv hlen hmap hnl
      go_upto_region 6 with fail
      generalize wr.alloc (.cells #[.int .i64 p, .int .i64 a, .int .i64 l, .int .i64 o, .slice x m d, .int .i64 nx, .int .i64 md, .int .i64 lc] 31) = wa at *
      have cA := bA.cells
      go_wp2_with fail
      refine (l6C7_any o nx md lc x m d xs _ (hns.new N0) HL.out hmx HX.out).mono ?_
      rintro e w1 ⟨av, kv, rfl, ho1, -, h1⟩
      have bA1 := bA.new h1
      have N1 := N0.trans h1
      have ltA := bA.lt
      have cA := bA1.cells
      have fA := bA1.frees
      clear q0 q1 q2 q3 q4 q5 q6 q7 hns
      go_upto_region 7 with fail
      have tS : Turn (fun j => j = wr.heap.size) w1 (((((w1.setCell ⟨wr.heap.size, 3, none⟩ (.int .i64 o)).setCell ⟨wr.heap.size, 3 + 1, none⟩ (.slice av m kv)).setCell ⟨wr.heap.size, 3 + 2, none⟩ (.int .i64 nx)).setCell ⟨wr.heap.size, 3 + 3, none⟩ (.int .i64 md)).setCell ⟨wr.heap.size, 3 + 4, none⟩ (.int .i64 lc)) := set5t w1 wr.heap.size 3 _ _ _ _ _
      have bS : Blk (((((w1.setCell ⟨wr.heap.size, 3, none⟩ (.int .i64 o)).setCell ⟨wr.heap.size, 3 + 1, none⟩ (.slice av m kv)).setCell ⟨wr.heap.size, 3 + 2, none⟩ (.int .i64 nx)).setCell ⟨wr.heap.size, 3 + 3, none⟩ (.int .i64 md)).setCell ⟨wr.heap.size, 3 + 4, none⟩ (.int .i64 lc)) wr.heap.size 31 #[.int .i64 p, .int .i64 a, .int .i64 l, .int .i64 o, .slice av m kv, .int .i64 nx, .int .i64 md, .int .i64 lc] := ((((bA1.set 3 (.int .i64 o)).set 4 (.slice av m kv)).set 5 (.int .i64 nx)).set 6 (.int .i64 md)).set 7 (.int .i64 lc)
      have hO2 : OvN (((((w1.setCell ⟨wr.heap.size, 3, none⟩ (.int .i64 o)).setCell ⟨wr.heap.size, 3 + 1, none⟩ (.slice av m kv)).setCell ⟨wr.heap.size, 3 + 2, none⟩ (.int .i64 nx)).setCell ⟨wr.heap.size, 3 + 3, none⟩ (.int .i64 md)).setCell ⟨wr.heap.size, 3 + 4, none⟩ (.int .i64 lc)) wr.heap.size (.slice av m kv) xs := (ho1.turn7 tS (fun j hj e => by have := (ho1.rng7 j hj).1; have := N0.size; omega)).low N0.size
      have N2 : New wr (((((w1.setCell ⟨wr.heap.size, 3, none⟩ (.int .i64 o)).setCell ⟨wr.heap.size, 3 + 1, none⟩ (.slice av m kv)).setCell ⟨wr.heap.size, 3 + 2, none⟩ (.int .i64 nx)).setCell ⟨wr.heap.size, 3 + 3, none⟩ (.int .i64 md)).setCell ⟨wr.heap.size, 3 + 4, none⟩ (.int .i64 lc)) := N1.before tS (fun i hi e => by omega)
      clear cA fA bA bA1 N0 N1 h1 ho1 tS
      generalize (((((w1.setCell ⟨wr.heap.size, 3, none⟩ (.int .i64 o)).setCell ⟨wr.heap.size, 3 + 1, none⟩ (.slice av m kv)).setCell ⟨wr.heap.size, 3 + 2, none⟩ (.int .i64 nx)).setCell ⟨wr.heap.size, 3 + 3, none⟩ (.int .i64 md)).setCell ⟨wr.heap.size, 3 + 4, none⟩ (.int .i64 lc)) = w2 at *
      have cS := bS.cells
      have bL := Blk.mk w2 w2.heap.size 31 #[.int .i64 p, .int .i64 a, .int .i64 l, .int .i64 o, .slice av m kv, .int .i64 nx, .int .i64 md, .int .i64 lc] rfl
      have hrow3 : (w2.alloc (.cells #[.int .i64 p, .int .i64 a, .int .i64 l, .int .i64 o, .slice av m kv, .int .i64 nx, .int .i64 md, .int .i64 lc] 31)).ownsRow w.heap.size 31 8 _ V'.length (cellsT V') := row_turn7 (row_turn7 how.row N2 (fun _ _ f => f)) ((New.refl w2).alloc _) (fun _ _ f => f)
      have hov : OvN w2 wr.heap.size (Rv.pv (Rv.mk (Rt.mk p a l o xs nx md lc) av kv)) xs := by
        unfold Rv.pv
        simp only [HL.out]
        exact hO2
      have hsz : w.heap.size ≤ (w2.alloc (.cells #[.int .i64 p, .int .i64 a, .int .i64 l, .int .i64 o, .slice av m kv, .int .i64 nx, .int .i64 md, .int .i64 lc] 31)).heap.size := by have e1 := hnw.size; have e2 := N2.size; simp; omega
      have hsrc : ∀ j, (w2.alloc (.cells #[.int .i64 p, .int .i64 a, .int .i64 l, .int .i64 o, .slice av m kv, .int .i64 nx, .int .i64 md, .int .i64 lc] 31)).cell? ⟨w2.heap.size, j, none⟩ = (Rv.mk (Rt.mk p a l o xs nx md lc) av kv).cs[j]? := by
        intro j
        rw [bL.cells j]
        unfold Rv.cs
        simp only [HL.out]
        simp
      go_wp2_with (at_builtin; refine wpList_apT _ rfl (.tmp 21) (.tmp 23) rfl w.heap.size _ Try.underlying35 hi hz0 hz1 hz2 rfl _ V' rfl hrow3 w2.heap.size (Rv.mk (Rt.mk p a l o xs nx md lc) av kv) rfl hsrc (by have := HLK.out; omega) hsz ?_)
      intro v5 w5 hr5 hg5 _
      replace hr5 : w5.ownsRow w.heap.size 31 8 v5 (V' ++ [Rv.mk (Rt.mk p a l o xs nx md lc) av kv]).length (cellsT (V' ++ [Rv.mk (Rt.mk p a l o xs nx md lc) av kv])) := by rw [List.length_append]; exact hr5
      have hO5 := OwT.appended how hnw.size N2 hov hbd.out (by simp only [HL.out]; exact hmx) ((New.refl w2).alloc _) hr5 hg5
      have N5 : New w w5 := (((hnw.trans N2).alloc _).grow hg5 (fun j hj => (row_rng7 how.row j hj).1))
      clear hr5 hg5 hrow3 hsrc hov how bS cS
      go_wp2
      go_roundw
      case rel => exact ⟨k + 1, V' ++ [Rv.mk (Rt.mk p a l o xs nx md lc) av kv], by omega, by go_num, by simp [HLK.out], HM.out _ rfl, N5, hO5⟩
      case measure => simp [intOf]; omega
    · go_wp2
      go_ret
      rw [List.take_of_length_le (by have := HN.out; omega)] at hmap
      exact ⟨_, V', rfl, hmap, how, hnw⟩

end Go.Proofs.Ytkaaefieglhdlaa
