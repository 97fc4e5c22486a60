/- What is proved here: what ApplyRules answers in the model, for every list of at most 1048576 rules and every path of at most 1048576 numbers. -/
import Derived.Test.YtjampcfikfafkaaGreatR6ApJ
namespace Go.Proofs.YtjampcfikfafkaaGreat
open Go.RowKit Go.Sort
set_option linter.unusedVariables false

theorem OvN.lit0 {w : World} {B lo : Nat} (h : Blk w B 2 #[]) (hl : lo ≤ B) : OvN w lo (.slice (some ⟨B, 0, none⟩) 0 0) [] :=
  ⟨rfl, .inr ⟨B, 0, #[], rfl, hl, h, Nat.le_refl _, by unfold maxLen; omega, rfl, rfl⟩⟩
theorem OvN.sl {w : World} {lo : Nat} {v : Value} {xs : List Int} {m : Nat} (h : OvN w lo v xs) (hm : xs.length = m) : ∃ a k, v = .slice a m k ∧ (a = none → m = 0 ∧ k = 0) := by
  subst hm
  rcases h.form with ⟨rfl, rfl⟩ | ⟨g, c', rfl, _, _⟩
  · exact ⟨none, 0, rfl, fun _ => ⟨rfl, rfl⟩⟩
  · exact ⟨some ⟨g, 0, none⟩, c', rfl, fun e => by cases e⟩

set_option maxHeartbeats 1600000 in
theorem l6C_any (o nx md lo : Int) (x : Option Addr) (n c : Nat) (xs : List Int) (w : World) (h : NsAt w x xs) (hn : xs.length = n) (hm : n ≤ 1048576) (hnx : x = none → n = 0 ∧ c = 0) :
    Calls Tryz.prog 107 #[.agg #[.int .i64 o, .slice x n c, .int .i64 nx, .int .i64 md, .int .i64 lo]] w fun e w' => ∃ av kv, e = .returned (.agg #[.int .i64 o, .slice av n kv, .int .i64 nx, .int .i64 md, .int .i64 lo]) ∧ OvN w' w.heap.size (.slice av n kv) xs ∧ (av = none → n = 0 ∧ kv = 0) ∧ New w w' := by
  obtain ⟨i0, hi, hz0, hz1, hz2⟩ := info_parts Tryz.infoI64
  have N0 : New w (((w.alloc (.cells #[.int .i64 o, .slice x n c, .int .i64 nx, .int .i64 md, .int .i64 lo] 36)).alloc (.cells #[.int .i64 0, .slice none 0 0, .int .i64 0, .int .i64 0, .int .i64 0] 36)).alloc (.cells #[] 2)) := (((New.refl w).alloc _).alloc _).alloc _
  have b0 : Blk (((w.alloc (.cells #[.int .i64 o, .slice x n c, .int .i64 nx, .int .i64 md, .int .i64 lo] 36)).alloc (.cells #[.int .i64 0, .slice none 0 0, .int .i64 0, .int .i64 0, .int .i64 0] 36)).alloc (.cells #[] 2)) w.heap.size 36 #[.int .i64 o, .slice x n c, .int .i64 nx, .int .i64 md, .int .i64 lo] := ((Blk.mk _ _ _ _ rfl).alloc _).alloc _
  have b1 : Blk (((w.alloc (.cells #[.int .i64 o, .slice x n c, .int .i64 nx, .int .i64 md, .int .i64 lo] 36)).alloc (.cells #[.int .i64 0, .slice none 0 0, .int .i64 0, .int .i64 0, .int .i64 0] 36)).alloc (.cells #[] 2)) (w.heap.size + 1) 36 #[.int .i64 0, .slice none 0 0, .int .i64 0, .int .i64 0, .int .i64 0] := (Blk.mk _ _ _ _ (by simp)).alloc _
  have bL : Blk (((w.alloc (.cells #[.int .i64 o, .slice x n c, .int .i64 nx, .int .i64 md, .int .i64 lo] 36)).alloc (.cells #[.int .i64 0, .slice none 0 0, .int .i64 0, .int .i64 0, .int .i64 0] 36)).alloc (.cells #[] 2)) (w.heap.size + 1 + 1) 2 #[] := Blk.mk _ _ _ _ (by simp)
  have HN : Hid (xs.length = n) := hn
  have HX : Hid (x = none → n = 0 ∧ c = 0) := hnx
  clear hn hnx
  go_enter Tryz.func107, Tryz.ntmps107
  go_wp2_with (at_builtin; refine wpList_apN _ rfl (.tmp 3) (.tmp 5) rfl (w.heap.size + 1 + 1) Tryz.underlying34 hi hz0 hz1 hz2 (.slice (some ⟨w.heap.size + 1 + 1, 0, none⟩) 0 0) [] rfl (OvN.lit0 bL (Nat.le_refl _)) x n c xs rfl (h.new N0) HN.out HX.out (by simp; omega) (by simp) ?_)
  intro v2 w2 ho2 hg2
  replace ho2 : OvN w2 (w.heap.size + 1 + 1) v2 xs := by simpa [OvN] using ho2
  obtain ⟨av, kv, rfl, hnil⟩ := ho2.sl HN.out
  have HV : Hid (av = none → n = 0 ∧ kv = 0) := hnil
  clear hnil
  have N2 : New w w2 := N0.grow hg2 (fun k hk => by have e' : w.heap.size + 1 + 1 = k := Option.some.inj hk; omega)
  have d0 := b0.grow hg2 (fun e => by have e' : w.heap.size + 1 + 1 = w.heap.size := Option.some.inj e; omega)
  have d1 := b1.grow hg2 (fun e => by have e' : w.heap.size + 1 + 1 = w.heap.size + 1 := Option.some.inj e; omega)
  clear b0 b1 bL hg2 N0
  have c0 := d0.cells
  have f0 := d0.frees
  have c1 := d1.cells
  have f1 := d1.frees
  have ne2 : ¬ w.heap.size = w.heap.size + 1 := by omega
  have ne2' : ¬ w.heap.size + 1 = w.heap.size := by omega
  go_wp2
  refine bodyPost_ret (v := .agg #[.int .i64 o, .slice av n kv, .int .i64 nx, .int .i64 md, .int .i64 lo]) (by simp [results, Tryz.results107, go_sem, c1]) rfl ?_
  refine (fun (hT : Turn (fun k => k = w.heap.size ∨ k = w.heap.size + 1) w2 _) => ⟨av, kv, rfl, (ho2.turn hT (fun k hk _ e => by omega)).low (by omega), HV.out, N2.before hT (fun i hi e => by omega)⟩) ?_
  exact Turn.hereR6 (Turn.hereR6 (Turn.hereR6 (Turn.hereR6 (Turn.hereR6 (Turn.hereL6 (Turn.refl _ _) _) _) _) _) _) _

set_option maxRecDepth 100000 in
set_option maxHeartbeats 6400000 in
theorem l6A_any (y : Option Addr) (rn rk : Nat) (rs : List Ru) (z p q : Int) (o nx md lo : Int) (x : Option Addr) (n c : Nat) (xs : List Int) (w : World) (hr : RsAt w y rs) (hrn : rs.length = rn) (hrm : rn ≤ 1048576) (h : NsAt w x xs) (hn : xs.length = n) (hm : n ≤ 1048576) (hnx : x = none → n = 0 ∧ c = 0) (hz6 : In6 z) (hall : ∀ r ∈ rs, r.f = 0) :
    Calls Tryz.prog 72 #[.slice y rn rk, .int .i64 z, .agg #[.int .i64 p, .int .i64 q], .agg #[.int .i64 o, .slice x n c, .int .i64 nx, .int .i64 md, .int .i64 lo]] w (AAns w (apF z p q o xs nx md lo ((0 : Nat) : Int) (rs.drop 0))) := by
  obtain ⟨i0, hi, hz0, hz1, hz2⟩ := info_parts Tryz.infoI64
  have N0 : New w (((w.alloc (.cells #[.int .i64 p, .int .i64 q] 33)).alloc (.cells #[.int .i64 o, .slice x n c, .int .i64 nx, .int .i64 md, .int .i64 lo] 36)).alloc (.cells #[.int .i64 0, .int .i64 0, .int .i64 0, .slice none 0 0, .int .i64 0, .int .i64 0, .int .i64 0] 70)) := (((New.refl w).alloc _).alloc _).alloc _
  have bP0 : Blk (((w.alloc (.cells #[.int .i64 p, .int .i64 q] 33)).alloc (.cells #[.int .i64 o, .slice x n c, .int .i64 nx, .int .i64 md, .int .i64 lo] 36)).alloc (.cells #[.int .i64 0, .int .i64 0, .int .i64 0, .slice none 0 0, .int .i64 0, .int .i64 0, .int .i64 0] 70)) w.heap.size 33 #[.int .i64 p, .int .i64 q] := ((Blk.mk _ _ _ _ rfl).alloc _).alloc _
  have bA0 : Blk (((w.alloc (.cells #[.int .i64 p, .int .i64 q] 33)).alloc (.cells #[.int .i64 o, .slice x n c, .int .i64 nx, .int .i64 md, .int .i64 lo] 36)).alloc (.cells #[.int .i64 0, .int .i64 0, .int .i64 0, .slice none 0 0, .int .i64 0, .int .i64 0, .int .i64 0] 70)) (w.heap.size + 1) 36 #[.int .i64 o, .slice x n c, .int .i64 nx, .int .i64 md, .int .i64 lo] := (Blk.mk _ _ _ _ (by simp)).alloc _
  have bR0 : Blk (((w.alloc (.cells #[.int .i64 p, .int .i64 q] 33)).alloc (.cells #[.int .i64 o, .slice x n c, .int .i64 nx, .int .i64 md, .int .i64 lo] 36)).alloc (.cells #[.int .i64 0, .int .i64 0, .int .i64 0, .slice none 0 0, .int .i64 0, .int .i64 0, .int .i64 0] 70)) (w.heap.size + 1 + 1) 70 #[.int .i64 0, .int .i64 0, .int .i64 0, .slice none 0 0, .int .i64 0, .int .i64 0, .int .i64 0] := Blk.mk _ _ _ _ (by simp)
  have HN : Hid (xs.length = n) := hn
  have HX : Hid (x = none → n = 0 ∧ c = 0) := hnx
  have HR : Hid (rs.length = rn) := hrn
  have HA : Hid (∀ r ∈ rs, r.f = 0) := hall
  have HZ : Hid (In6 z) := hz6
  have ge1 : w.heap.size ≤ w.heap.size + 1 + 1 := by omega
  clear hn hnx hrn hall hz6
  obtain ⟨r0, hr0⟩ : ∃ r0, Hid (apF z p q o xs nx md lo ((0 : Nat) : Int) (rs.drop 0) = r0) := ⟨_, rfl⟩
  rw [hr0.out]
  go_enter Tryz.func72, Tryz.ntmps72
  go_wp2
  go_loopw [9] (fun i wr => ∃ k : Nat, k ≤ rn ∧ i = .int .i64 k ∧ New w wr ∧ Blk wr w.heap.size 33 #[.int .i64 p, .int .i64 q] ∧ Blk wr (w.heap.size + 1) 36 #[.int .i64 o, .slice x n c, .int .i64 nx, .int .i64 md, .int .i64 lo] ∧ Blk wr (w.heap.size + 1 + 1) 70 #[.int .i64 0, .int .i64 0, .int .i64 0, .slice none 0 0, .int .i64 0, .int .i64 0, .int .i64 0] ∧ Hid (r0 = apF z p q o xs nx md lo (k : Int) (rs.drop k))) (fun i _ => rn - (intOf i).toNat)
  case atStart => exact ⟨0, Nat.zero_le _, rfl, N0, bP0, bA0, bR0, hr0.out.symm⟩
  case round =>
    clear bP0 bA0 bR0 N0 hr0
    obtain ⟨k, hk, rfl, hnw, bPr, bAr, bRr, hl⟩ := hrel
    by_cases hlt : k < rn
    · obtain ⟨b, off, a, l, ls, ms, s, d, lc, pp, rfl, hz, q0, q1, q2, q3, q4, q5, q6, q7⟩ := (hr.new hnw).at k (by rw [HR.out]; exact hlt)
      have hx := apF_next (z := z) (p := p) (q := q) (o := o) (xs := xs) (nx := nx) (md := md) (lo := lo) hz
      have hrf : rf a l ls ms s d lc pp = 0 := HA.out _ (List.mem_of_getElem? hz)
      have hal : New wr (wr.alloc (.cells #[.int .i64 a, .int .i64 l, .int .i64 ls, .int .i64 ms, .int .i64 s, .bool d, .int .i64 lc, .int .i64 pp] 93)) := (New.refl _).alloc _
      have bV0 : Blk (wr.alloc (.cells #[.int .i64 a, .int .i64 l, .int .i64 ls, .int .i64 ms, .int .i64 s, .bool d, .int .i64 lc, .int .i64 pp] 93)) wr.heap.size 93 #[.int .i64 a, .int .i64 l, .int .i64 ls, .int .i64 ms, .int .i64 s, .bool d, .int .i64 lc, .int .i64 pp] := Blk.mk _ _ _ _ rfl
      go_upto_region 5 with fail
      have bP2 := bPr.new hal
      have bA2 := bAr.new hal
      have bR2 := bRr.new hal
      have N2 := hnw.trans hal
      have y2 : wr.heap.size < (wr.alloc (.cells #[.int .i64 a, .int .i64 l, .int .i64 ls, .int .i64 ms, .int .i64 s, .bool d, .int .i64 lc, .int .i64 pp] 93)).heap.size := by simp
      have lRr := bRr.lt
      clear bPr bAr bRr hal q0 q1 q2 q3 q4 q5 q6 q7
      have lR : w.heap.size + 1 + 1 < wr.heap.size := lRr
      generalize wr.alloc (.cells #[.int .i64 a, .int .i64 l, .int .i64 ls, .int .i64 ms, .int .i64 s, .bool d, .int .i64 lc, .int .i64 pp] 93) = w2 at *
      have sW := hnw.size
      clear hnw
      generalize wr.heap.size = HV at *
      have cP2 := bP2.cells
      have cA2 := bA2.cells
      have cV2 := bV0.cells
      obtain ⟨v, hv⟩ : ∃ v, mt a l ls ms s p q xs = v := ⟨_, rfl⟩
      go_wp2_with fail
      refine (l6M_any a l ls ms s d lc pp p q o nx md lo x n c xs v _ (h.new N2) HN.out hm hv).mono ?_
      rintro e w3 ⟨rfl, hn3⟩
      have bV3 := bV0.new hn3
      have bP3 := bP2.new hn3
      have bA3 := bA2.new hn3
      have bR3 := bR2.new hn3
      have N3 := N2.trans hn3
      have s3 := hn3.size
      clear bV0 bP2 bA2 bR2 N2 hn3 cP2 cA2 cV2
      cases v
      · have hl' : Hid (r0 = apF z p q o xs nx md lo ((k + 1 : Nat) : Int) (rs.drop (k + 1))) := by unfold Hid; rw [hl.out, hx, if_neg (by rw [hv]; decide)]
        clear hl hx hz
        go_wp2
        go_roundw
        case rel => exact ⟨k + 1, by omega, by go_num, N3, bP3, bA3, bR3, hl'⟩
        case measure => simp [intOf]; omega
      have hmt := hv
      have cV := bV3.cells
      have cA := bA3.cells
      have cR := bR3.cells
      have fR := bR3.frees
      clear hv hz
      obtain ⟨⟨hp0, hp3⟩, ⟨hl0, hl1⟩⟩ := rf_pp hrf
      cases d
      case true =>
        have hans : Hid (r0 = ⟨4, k, 0, [], 0, 0, 0⟩) := by unfold Hid; rw [hl.out, hx, if_pos hmt]; unfold ap1; rw [if_pos rfl]; rfl
        clear hl hx
        go_wp2
        refine bodyPost_ret (v := .agg #[.int .i64 4, .int .i64 (k : Int), .int .i64 0, .slice none 0 0, .int .i64 0, .int .i64 0, .int .i64 0]) (by simp [results, Tryz.results72, go_sem, cR]) rfl ?_
        rw [hans.out]
        refine ⟨_, rfl, OvN.nil _ _, ?_⟩
        simp (disch := exact ge1) only [New.set_iff]
        exact N3
      by_cases g6 : 6 < (n : Int) + pp
      · have hans : Hid (r0 = ⟨2, k, 0, [], 0, 0, 0⟩) := by unfold Hid; rw [hl.out, hx, if_pos hmt]; unfold ap1; rw [if_neg (by decide), if_pos (by rw [HN.out]; exact g6)]; rfl
        clear hl hx
        go_wp2
        refine bodyPost_ret (v := .agg #[.int .i64 2, .int .i64 (k : Int), .int .i64 0, .slice none 0 0, .int .i64 0, .int .i64 0, .int .i64 0]) (by simp [results, Tryz.results72, go_sem, cR]) rfl ?_
        rw [hans.out]
        refine ⟨_, rfl, OvN.nil _ _, ?_⟩
        simp (disch := exact ge1) only [New.set_iff]
        exact N3
      have hans : Hid (r0 = ⟨0, k, o, List.replicate pp.toNat z ++ xs, nx, md, if lc = -1 then lo else lc⟩) := by unfold Hid; rw [hl.out, hx, if_pos hmt]; unfold ap1; rw [if_neg (by decide), if_neg (by rw [HN.out]; exact g6)]
      have hfit : (n : Int) + pp ≤ 6 := by omega
      clear hl hx g6
      go_wp2_with fail
      refine (l6C_any o nx md lo x n c xs _ (h.new N3) HN.out hm HX.out).mono ?_
      rintro e w4 ⟨av, kv, rfl, ho4, hv4, hn4⟩
      have bV4 := bV3.new hn4
      have bR4 := bR3.new hn4
      have N4 := N3.trans hn4
      have s4 := hn4.size
      have rg4 := ho4.rng
      clear bV3 bR3 bP3 bA3 hn4 cV cA cR fR
      go_upto_region 11 with fail
      have hal : New w4 (w4.alloc (.cells #[.int .i64 o, .slice av n kv, .int .i64 nx, .int .i64 md, .int .i64 lo] 36)) := (New.refl _).alloc _
      have bO5 : Blk (w4.alloc (.cells #[.int .i64 o, .slice av n kv, .int .i64 nx, .int .i64 md, .int .i64 lo] 36)) w4.heap.size 36 #[.int .i64 o, .slice av n kv, .int .i64 nx, .int .i64 md, .int .i64 lo] := Blk.mk _ _ _ _ rfl
      have bV5 := bV4.new hal
      have bR5 := bR4.new hal
      have ho5 := ho4.new hal
      have N5 := N4.trans hal
      have y5 : w4.heap.size < (w4.alloc (.cells #[.int .i64 o, .slice av n kv, .int .i64 nx, .int .i64 md, .int .i64 lo] 36)).heap.size := by simp
      clear bV4 bR4 ho4 N4 hal
      generalize w4.alloc (.cells #[.int .i64 o, .slice av n kv, .int .i64 nx, .int .i64 md, .int .i64 lo] 36) = w5 at *
      have cV := bV5.cells
      have cO := bO5.cells
      have fO := bO5.frees
      have neVO : ¬ w4.heap.size = HV := by omega
      by_cases glc : 0 ≤ lc
      · have hans' : Hid (r0 = ⟨0, k, o, List.replicate pp.toNat z ++ xs, nx, md, lc⟩) := by unfold Hid; rw [hans.out, if_neg (by omega)]
        have hT6 : Turn (fun j => j = w4.heap.size) w5 (w5.setCell ⟨w4.heap.size, 4, none⟩ (.int .i64 lc)) := Turn.here6 (Turn.refl _ _) _
        have bO6 : Blk (w5.setCell ⟨w4.heap.size, 4, none⟩ (.int .i64 lc)) w4.heap.size 36 #[.int .i64 o, .slice av n kv, .int .i64 nx, .int .i64 md, .int .i64 lc] := bO5.set 4 _
        have bV6 := bV5.turn hT6 (by omega)
        have bR6 := bR5.turn hT6 (by omega)
        have ho6 := ho5.turn2 hT6 (fun j e => by have := (rg4 j e).2; omega)
        have N6 := N5.before hT6 (fun i hi e => by omega)
        have s6 := hT6.size
        go_upto_region 13 with fail
        clear bV5 bR5 ho5 N5 hT6 bO5 cV cO fO hans
        generalize w5.setCell ⟨w4.heap.size, 4, none⟩ (.int .i64 lc) = w6 at *
        go_wp2
        go_loopw [12] (fun i wi => ∃ (j : Nat) (bv : Option Addr) (jk : Nat), j ≤ pp.toNat ∧ i = .int .i64 j ∧ New w wi ∧ Blk wi (w.heap.size + 1 + 1) 70 #[.int .i64 0, .int .i64 0, .int .i64 0, .slice none 0 0, .int .i64 0, .int .i64 0, .int .i64 0] ∧ Blk wi HV 93 #[.int .i64 a, .int .i64 l, .int .i64 ls, .int .i64 ms, .int .i64 s, .bool false, .int .i64 lc, .int .i64 pp] ∧ Blk wi w4.heap.size 36 #[.int .i64 o, .slice bv (j + n) jk, .int .i64 nx, .int .i64 md, .int .i64 lc] ∧ OvN wi w3.heap.size (.slice bv (j + n) jk) (List.replicate j z ++ xs) ∧ (∀ u, (Value.slice bv (j + n) jk).ownBlock = some u → u ≠ w4.heap.size)) (fun i _ => pp.toNat - (intOf i).toNat)
        case atStart => exact ⟨0, av, kv, Nat.zero_le _, rfl, N6, bR6, bV6, by simpa using bO6, by simpa using ho6, fun u e => by have := (rg4 u (by simpa using e)).2; omega⟩
        case round =>
          clear N6 bR6 bV6 bO6 ho6
          obtain ⟨j, bv, jk, hj, rfl, Ni, bRi, bVi, bOi, hoi, hne⟩ := hrel
          have HB : Hid ((List.replicate j z ++ xs).length = j + n) := by unfold Hid; simp [HN.out]
          have hin6 : Hid (∀ u ∈ List.replicate j z ++ xs, In6 u) := by
            intro u hu
            rcases List.mem_append.1 hu with hu | hu
            · exact rep_in HZ.out u hu
            · exact h.bd u hu
          have hnone : Hid (bv = none → j + n = 0 ∧ jk = 0) := by
            obtain ⟨a', k', e', hh⟩ := hoi.sl HB.out
            cases e'
            exact hh
          have cVi := bVi.cells
          have cOi := bOi.cells
          have lOi := bOi.lt
          by_cases hjl : j < pp.toNat
          · have hjp : (j : Int) < pp := by omega
            have halL : New wr (wr.alloc (.cells #[.int .i64 z] 2)) := (New.refl _).alloc _
            have bL : Blk (wr.alloc (.cells #[.int .i64 z] 2)) wr.heap.size 2 #[.int .i64 z] := Blk.mk _ _ _ _ rfl
            have cOL := (bOi.new halL).cells
            go_wp2_with (at_builtin; refine wpList_apN _ rfl (.tmp 56) (.tmp 58) rfl wr.heap.size Tryz.underlying34 hi hz0 hz1 hz2 (.slice (some ⟨wr.heap.size, 0, none⟩) 1 1) [z] rfl (OvN.lit bL (Nat.le_refl _)) bv (j + n) jk (List.replicate j z ++ xs) rfl ((hoi.nsAt hin6.out).new halL) HB.out hnone.out (by simp; omega) (by simp) ?_)
            intro v7 w7 ho7 hg7
            replace ho7 : OvN w7 wr.heap.size v7 (List.replicate (j + 1) z ++ xs) := by simpa [OvN, List.replicate_succ] using ho7
            obtain ⟨bw, jw, rfl, -⟩ := ho7.sl (m := j + 1 + n) (by simp [HN.out])
            have N7 : New w w7 := (Ni.trans halL).grow hg7 (fun k hk => by have e' : wr.heap.size = k := Option.some.inj hk; have := Ni.size; omega)
            have bR7 := (bRi.new halL).grow hg7 (fun e => by have e' : wr.heap.size = w.heap.size + 1 + 1 := Option.some.inj e; have := bRi.lt; omega)
            have bV7 := (bVi.new halL).grow hg7 (fun e => by have e' : wr.heap.size = HV := Option.some.inj e; have := bVi.lt; omega)
            have bO7 := (bOi.new halL).grow hg7 (fun e => by have e' : wr.heap.size = w4.heap.size := Option.some.inj e; omega)
            have rg7 := ho7.rng
            have hT8 : Turn (fun j => j = w4.heap.size) w7 (w7.setCell ⟨w4.heap.size, 1, none⟩ (.slice bw (j + 1 + n) jw)) := Turn.here6 (Turn.refl _ _) _
            have bO8 : Blk (w7.setCell ⟨w4.heap.size, 1, none⟩ (.slice bw (j + 1 + n) jw)) w4.heap.size 36 #[.int .i64 o, .slice bw (j + 1 + n) jw, .int .i64 nx, .int .i64 md, .int .i64 lc] := bO7.set 1 _
            have bR8 := bR7.turn hT8 (by omega)
            have bV8 := bV7.turn hT8 (by omega)
            have ho8 := (ho7.turn2 hT8 (fun j e => by have := (rg7 j e).1; omega)).low (lo' := w3.heap.size) (by omega)
            have N8 := N7.before hT8 (fun i hi e => by omega)
            have ne8 : ∀ u, (Value.slice bw (j + 1 + n) jw).ownBlock = some u → u ≠ w4.heap.size := fun u e => by have := (rg7 u e).1; omega
            have cO7 := bO7.cells
            have fO7 := bO7.frees
            have cV7 := bV7.cells
            clear bRi bVi bOi hoi hne halL bL cOL hg7 bR7 bV7 ho7 N7 hT8 cVi cOi bO7
            go_wp2
            go_roundw
            case rel => exact ⟨j + 1, bw, jw, by omega, by go_num, N8, bR8, bV8, bO8, ho8, ne8⟩
            case measure => simp [intOf]; omega
          · have hjp : pp ≤ (j : Int) := by omega
            obtain rfl : j = pp.toNat := by omega
            have cRi := bRi.cells
            have fRi := bRi.frees
            have s3' : w.heap.size ≤ w3.heap.size := N3.size
            clear bVi bOi
            go_wp2
            refine bodyPost_ret (v := .agg #[.int .i64 0, .int .i64 (k : Int), .int .i64 o, .slice bv (pp.toNat + n) jk, .int .i64 nx, .int .i64 md, .int .i64 lc]) (by simp [results, Tryz.results72, go_sem, cRi]) rfl ?_
            rw [hans'.out]
            refine (fun (hT : Turn (fun k => k = w.heap.size + 1 + 1) wr _) => ⟨_, rfl, (hoi.turn hT (fun k hk _ e => by omega)).low s3', Ni.before hT (fun i hi e => by omega)⟩) ?_
            exact Turn.here6 (Turn.here6 (Turn.here6 (Turn.here6 (Turn.here6 (Turn.here6 (Turn.here6 (Turn.refl _ _) _) _) _) _) _) _) _
      · have hans' : Hid (r0 = ⟨0, k, o, List.replicate pp.toNat z ++ xs, nx, md, lo⟩) := by unfold Hid; rw [hans.out, if_pos (by omega)]
        have bO6 := bO5
        have bV6 := bV5
        have bR6 := bR5
        have ho6 := ho5
        have N6 := N5
        have s6 : w5.heap.size ≤ w5.heap.size := Nat.le_refl _
        go_upto_region 13 with fail
        clear bV5 bR5 ho5 N5 bO5 cV cO fO hans
        generalize w5 = w6 at *
        go_wp2
        go_loopw [12] (fun i wi => ∃ (j : Nat) (bv : Option Addr) (jk : Nat), j ≤ pp.toNat ∧ i = .int .i64 j ∧ New w wi ∧ Blk wi (w.heap.size + 1 + 1) 70 #[.int .i64 0, .int .i64 0, .int .i64 0, .slice none 0 0, .int .i64 0, .int .i64 0, .int .i64 0] ∧ Blk wi HV 93 #[.int .i64 a, .int .i64 l, .int .i64 ls, .int .i64 ms, .int .i64 s, .bool false, .int .i64 lc, .int .i64 pp] ∧ Blk wi w4.heap.size 36 #[.int .i64 o, .slice bv (j + n) jk, .int .i64 nx, .int .i64 md, .int .i64 lo] ∧ OvN wi w3.heap.size (.slice bv (j + n) jk) (List.replicate j z ++ xs) ∧ (∀ u, (Value.slice bv (j + n) jk).ownBlock = some u → u ≠ w4.heap.size)) (fun i _ => pp.toNat - (intOf i).toNat)
        case atStart => exact ⟨0, av, kv, Nat.zero_le _, rfl, N6, bR6, bV6, by simpa using bO6, by simpa using ho6, fun u e => by have := (rg4 u (by simpa using e)).2; omega⟩
        case round =>
          clear N6 bR6 bV6 bO6 ho6
          obtain ⟨j, bv, jk, hj, rfl, Ni, bRi, bVi, bOi, hoi, hne⟩ := hrel
          have HB : Hid ((List.replicate j z ++ xs).length = j + n) := by unfold Hid; simp [HN.out]
          have hin6 : Hid (∀ u ∈ List.replicate j z ++ xs, In6 u) := by
            intro u hu
            rcases List.mem_append.1 hu with hu | hu
            · exact rep_in HZ.out u hu
            · exact h.bd u hu
          have hnone : Hid (bv = none → j + n = 0 ∧ jk = 0) := by
            obtain ⟨a', k', e', hh⟩ := hoi.sl HB.out
            cases e'
            exact hh
          have cVi := bVi.cells
          have cOi := bOi.cells
          have lOi := bOi.lt
          by_cases hjl : j < pp.toNat
          · have hjp : (j : Int) < pp := by omega
            have halL : New wr (wr.alloc (.cells #[.int .i64 z] 2)) := (New.refl _).alloc _
            have bL : Blk (wr.alloc (.cells #[.int .i64 z] 2)) wr.heap.size 2 #[.int .i64 z] := Blk.mk _ _ _ _ rfl
            have cOL := (bOi.new halL).cells
            go_wp2_with (at_builtin; refine wpList_apN _ rfl (.tmp 56) (.tmp 58) rfl wr.heap.size Tryz.underlying34 hi hz0 hz1 hz2 (.slice (some ⟨wr.heap.size, 0, none⟩) 1 1) [z] rfl (OvN.lit bL (Nat.le_refl _)) bv (j + n) jk (List.replicate j z ++ xs) rfl ((hoi.nsAt hin6.out).new halL) HB.out hnone.out (by simp; omega) (by simp) ?_)
            intro v7 w7 ho7 hg7
            replace ho7 : OvN w7 wr.heap.size v7 (List.replicate (j + 1) z ++ xs) := by simpa [OvN, List.replicate_succ] using ho7
            obtain ⟨bw, jw, rfl, -⟩ := ho7.sl (m := j + 1 + n) (by simp [HN.out])
            have N7 : New w w7 := (Ni.trans halL).grow hg7 (fun k hk => by have e' : wr.heap.size = k := Option.some.inj hk; have := Ni.size; omega)
            have bR7 := (bRi.new halL).grow hg7 (fun e => by have e' : wr.heap.size = w.heap.size + 1 + 1 := Option.some.inj e; have := bRi.lt; omega)
            have bV7 := (bVi.new halL).grow hg7 (fun e => by have e' : wr.heap.size = HV := Option.some.inj e; have := bVi.lt; omega)
            have bO7 := (bOi.new halL).grow hg7 (fun e => by have e' : wr.heap.size = w4.heap.size := Option.some.inj e; omega)
            have rg7 := ho7.rng
            have hT8 : Turn (fun j => j = w4.heap.size) w7 (w7.setCell ⟨w4.heap.size, 1, none⟩ (.slice bw (j + 1 + n) jw)) := Turn.here6 (Turn.refl _ _) _
            have bO8 : Blk (w7.setCell ⟨w4.heap.size, 1, none⟩ (.slice bw (j + 1 + n) jw)) w4.heap.size 36 #[.int .i64 o, .slice bw (j + 1 + n) jw, .int .i64 nx, .int .i64 md, .int .i64 lo] := bO7.set 1 _
            have bR8 := bR7.turn hT8 (by omega)
            have bV8 := bV7.turn hT8 (by omega)
            have ho8 := (ho7.turn2 hT8 (fun j e => by have := (rg7 j e).1; omega)).low (lo' := w3.heap.size) (by omega)
            have N8 := N7.before hT8 (fun i hi e => by omega)
            have ne8 : ∀ u, (Value.slice bw (j + 1 + n) jw).ownBlock = some u → u ≠ w4.heap.size := fun u e => by have := (rg7 u e).1; omega
            have cO7 := bO7.cells
            have fO7 := bO7.frees
            have cV7 := bV7.cells
            clear bRi bVi bOi hoi hne halL bL cOL hg7 bR7 bV7 ho7 N7 hT8 cVi cOi bO7
            go_wp2
            go_roundw
            case rel => exact ⟨j + 1, bw, jw, by omega, by go_num, N8, bR8, bV8, bO8, ho8, ne8⟩
            case measure => simp [intOf]; omega
          · have hjp : pp ≤ (j : Int) := by omega
            obtain rfl : j = pp.toNat := by omega
            have cRi := bRi.cells
            have fRi := bRi.frees
            have s3' : w.heap.size ≤ w3.heap.size := N3.size
            clear bVi bOi
            go_wp2
            refine bodyPost_ret (v := .agg #[.int .i64 0, .int .i64 (k : Int), .int .i64 o, .slice bv (pp.toNat + n) jk, .int .i64 nx, .int .i64 md, .int .i64 lo]) (by simp [results, Tryz.results72, go_sem, cRi]) rfl ?_
            rw [hans'.out]
            refine (fun (hT : Turn (fun k => k = w.heap.size + 1 + 1) wr _) => ⟨_, rfl, (hoi.turn hT (fun k hk _ e => by omega)).low s3', Ni.before hT (fun i hi e => by omega)⟩) ?_
            exact Turn.here6 (Turn.here6 (Turn.here6 (Turn.here6 (Turn.here6 (Turn.here6 (Turn.here6 (Turn.refl _ _) _) _) _) _) _) _) _
    · have hl' : Hid (r0 = ⟨0, -1, o, xs, nx, md, lo⟩) := by
        unfold Hid
        rw [hl.out, List.drop_of_length_le (by rw [HR.out]; omega)]
        rfl
      have cA := bAr.cells
      have s1 := hnw.size
      have lRr := bRr.lt
      go_wp2_with fail
      refine (l6C_any o nx md lo x n c xs _ (h.new hnw) HN.out hm HX.out).mono ?_
      rintro e w4 ⟨av, kv, rfl, ho4, -, hn4⟩
      have dR := bRr.new hn4
      have N1 := hnw.trans hn4
      clear bPr bAr bRr hn4 cA
      have cR := dR.cells
      have fR := dR.frees
      go_wp2
      refine bodyPost_ret (v := .agg #[.int .i64 0, .int .i64 (-1), .int .i64 o, .slice av n kv, .int .i64 nx, .int .i64 md, .int .i64 lo]) (by simp [results, Tryz.results72, go_sem, cR]) rfl ?_
      rw [hl'.out]
      refine (fun (hT : Turn (fun k => k = w.heap.size + 1 + 1) w4 _) => ⟨_, rfl, (ho4.turn hT (fun k hk _ e => by omega)).low s1, N1.before hT (fun i hi e => by omega)⟩) ?_
      exact Turn.here6 (Turn.here6 (Turn.here6 (Turn.here6 (Turn.here6 (Turn.here6 (Turn.here6 (Turn.refl _ _) _) _) _) _) _) _) _

end Go.Proofs.YtjampcfikfafkaaGreat
