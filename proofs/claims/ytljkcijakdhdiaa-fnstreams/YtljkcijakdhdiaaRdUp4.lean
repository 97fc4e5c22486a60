/- What is proved here: what the program's reading of attributes and prefixes behind those that are gone answers, where they can be cut and have a fault. -/
import Derived.Test.YtljkcijakdhdiaaRdUp3
namespace Go.Proofs.Ytljkcijakdhdiaa
open Go.RowKit Go.Sort
set_option linter.unusedVariables false

set_option maxRecDepth 100000 in
set_option maxHeartbeats 6400000 in
theorem readUp_bad (ga : Option Addr) (gn gc b o2 ln lc k q : Nat) (gs : List (Int × Int)) (ls : List Int) (w : World) (hg : PsAt w ga gs) (hgn : gs.length = gn) (hga : ga = none → gn = 0 ∧ gc = 0) (hm : gn ≤ 1048576) (h : BsAt w (some ⟨b, o2, none⟩) ls) (hln : ls.length = ln) (hlc : ln ≤ lc) (h0 : ls[0]? = some (k : Int)) (hk : k ≤ 255) (hlm : ln ≤ 1048576)
    (hr : ln = 8 + 2 * k + q * 3) (hq1 : 1 ≤ q) (hu : ¬ ufU (puA gs k ls) = 0) :
    Calls Try.prog 74 #[.slice ga gn gc, .slice (some ⟨b, o2, none⟩) ln lc] w fun e w' => (∃ a m c, e = .panicked [{ v := sfV a m c, recovered := false }] ∧ OwQ w' w.heap.size (.slice a m c) ((gs ++ okL (rdP (ls.drop (8 + 2 * k)))).take 8)) ∧ New w w' := by
  have bZ := (Blk.mk w w.heap.size 49 #[.slice none 0 0, .bool false, .int .i64 0, .slice none 0 0, .int .i64 0, .int .i64 0, .int .i64 0, .slice none 0 0] rfl).alloc (.cells #[.slice ga gn gc, .bool false, .int .i64 0, .slice none 0 0, .int .i64 0, .int .i64 0, .int .i64 0, .slice none 0 0] 49)
  have bU := Blk.mk (w.alloc (.cells #[.slice none 0 0, .bool false, .int .i64 0, .slice none 0 0, .int .i64 0, .int .i64 0, .int .i64 0, .slice none 0 0] 49)) (w.heap.size + 1) 49 #[.slice ga gn gc, .bool false, .int .i64 0, .slice none 0 0, .int .i64 0, .int .i64 0, .int .i64 0, .slice none 0 0] (by simp)
  have hw := ((New.refl w).alloc (.cells #[.slice none 0 0, .bool false, .int .i64 0, .slice none 0 0, .int .i64 0, .int .i64 0, .int .i64 0, .slice none 0 0] 49)).alloc (.cells #[.slice ga gn gc, .bool false, .int .i64 0, .slice none 0 0, .int .i64 0, .int .i64 0, .int .i64 0, .slice none 0 0] 49)
  have HG : Hid (gs.length = gn) := hgn
  have hl0 : 0 < ln := by omega
  have hl0' : (0 : Int) < (ln : Int) := by omega
  have hsub : (ln : Int) - (8 + 2 * (k : Int)) = ((q * 3 : Nat) : Int) := by omega
  have hsubn : ln - (8 + 2 * k) = q * 3 := by omega
  have hr3' : ¬ ((q * 3 : Nat) : Int) < 3 := by omega
  have hmod : ((q * 3 : Nat) : Int).tmod 3 = 0 := by rw [Int.tmod_eq_emod_of_nonneg (by omega)]; omega
  have hdn : decide (((q * 3 : Nat) : Int) < 3) = false := by simpa using hr3'
  have hlcn : ¬ lc = 8 + 2 * k := by omega
  have hsl : 8 + 2 * (k : Int) ≤ (lc : Int) := by omega
  have hsl0 : 0 ≤ 8 + 2 * (k : Int) := by omega
  have hsl2 : 8 + 2 * (k : Int) ≤ (ln : Int) := by omega
  have hbt := h.new hw
  have hc' : ((w.alloc (.cells #[.slice none 0 0, .bool false, .int .i64 0, .slice none 0 0, .int .i64 0, .int .i64 0, .int .i64 0, .slice none 0 0] 49)).alloc (.cells #[.slice ga gn gc, .bool false, .int .i64 0, .slice none 0 0, .int .i64 0, .int .i64 0, .int .i64 0, .slice none 0 0] 49)).cell? ⟨b, o2, none⟩ = some (.int .u8 (k : Int)) := by
    obtain ⟨b', off', e', h1', _⟩ := hbt 0 _ h0
    simp only [Option.some.injEq, Addr.mk.injEq, and_true] at e'
    obtain ⟨rfl, rfl⟩ := e'
    simpa using h1'
  obtain ⟨o, ho⟩ : ∃ o, ls[1 + 2 * k]? = some o := ⟨_, List.getElem?_eq_getElem (by omega)⟩
  have HO : Hid ((puA gs k ls).o = o) := by unfold Hid puA; simp [ho]
  have T0 : Hid ((ls.take (8 + 2 * k))[0]? = some (k : Int)) := by unfold Hid; rw [List.getElem?_take, if_pos (by omega)]; exact h0
  have TO : Hid ((ls.take (8 + 2 * k))[1 + 2 * k]? = some o) := by unfold Hid; rw [List.getElem?_take, if_pos (by omega)]; exact ho
  have TL : Hid ((ls.take (8 + 2 * k)).length = 8 + 2 * k) := by unfold Hid; rw [List.length_take]; omega
  have RL : Hid ((ls.drop (8 + 2 * k)).length = q * 3) := by unfold Hid; rw [List.length_drop]; omega
  have PL : Hid ((rdP (ls.drop (8 + 2 * k))).length = q) := rdP_len q _ RL.out
  have hbd := h.lt
  have PB : Hid (∀ p ∈ rdP (ls.drop (8 + 2 * k)), In6 p.1 ∧ In6 p.2) := fun p hp => by
    have := rdP_bd _ (fun z hz => hbd z (List.mem_of_mem_drop hz)) p hp
    unfold In6; omega
  have NB : Hid (∀ z ∈ nsR ls k, In6 z) := fun z hz => by
    unfold nsR at hz
    obtain ⟨i, _, rfl⟩ := List.mem_map.1 hz
    have := numAt_bd2 ls hbd (1 + 2 * i)
    unfold In6; omega
  have ot := hbd o (List.mem_of_getElem? ho)
  have EX : Hid (numAt (ls.take (8 + 2 * k)) (2 + 2 * k) 2 = (puA gs k ls).nx) := numAt_take _ _ _ (by omega)
  have EY : Hid (numAt (ls.take (8 + 2 * k)) (4 + 2 * k) 2 = (puA gs k ls).md) := numAt_take _ _ _ (by omega)
  have EZ : Hid (numAt (ls.take (8 + 2 * k)) (6 + 2 * k) 2 = (puA gs k ls).lc) := numAt_take _ _ _ (by omega)
  have EN : Hid (nsR (ls.take (8 + 2 * k)) k = nsR ls k) := nsR_take _ _ _ (by omega)
  have hu' : ¬ uf gs true (puA gs k ls).o (nsR ls k) (puA gs k ls).nx (puA gs k ls).md (puA gs k ls).lc (rdP (ls.drop (8 + 2 * k))) = 0 := hu
  rw [HO.out] at hu'
  generalize (puA gs k ls).nx = X at *
  generalize (puA gs k ls).md = Y at *
  generalize (puA gs k ls).lc = Z at *
  generalize huq : uf gs true o (nsR ls k) X Y Z (rdP (ls.drop (8 + 2 * k))) = uq at *
  have HU : Hid (uf gs true o (nsR ls k) X Y Z (rdP (ls.drop (8 + 2 * k))) = uq) := huq
  clear huq
  clear hgn hr hu hbd ho h0 hln
  go_enter Try.func74, Try.ntmps74
  go_wp2_with fail
  refine (attrsEnd_any b o2 ln lc k _ hc' (by omega) (by omega) hl0).mono ?_
  rintro e w1 ⟨rfl, rfl⟩
  have cU := bU.cells
  have fU := bU.frees
  have lU := bU.lt
  go_wp2_with fail
  have b1 := Blk.mk (w.alloc (.cells #[.slice none 0 0, .bool false, .int .i64 0, .slice none 0 0, .int .i64 0, .int .i64 0, .int .i64 0, .slice none 0 0] 49)) (w.heap.size + 1) 49 #[.slice ga gn gc, .bool true, .int .i64 0, .slice none 0 0, .int .i64 0, .int .i64 0, .int .i64 0, .slice none 0 0] (by simp)
  have Z1 := (Blk.mk w w.heap.size 49 #[.slice none 0 0, .bool false, .int .i64 0, .slice none 0 0, .int .i64 0, .int .i64 0, .int .i64 0, .slice none 0 0] rfl).alloc (.cells #[.slice ga gn gc, .bool true, .int .i64 0, .slice none 0 0, .int .i64 0, .int .i64 0, .int .i64 0, .slice none 0 0] 49)
  have N1 := ((New.refl w).alloc (.cells #[.slice none 0 0, .bool false, .int .i64 0, .slice none 0 0, .int .i64 0, .int .i64 0, .int .i64 0, .slice none 0 0] 49)).alloc (.cells #[.slice ga gn gc, .bool true, .int .i64 0, .slice none 0 0, .int .i64 0, .int .i64 0, .int .i64 0, .slice none 0 0] 49)
  clear bU bZ hw cU fU lU hc' hbt
  refine (attrsOf_any b o2 (8 + 2 * k) lc k (ls.take (8 + 2 * k)) o _ ((h.take _).new N1) TL.out (by omega) T0.out rfl hk TO.out).mono ?_
  rintro e w2 ⟨v, rfl, hM, hn2⟩
  rw [EX.out, EY.out, EZ.out]
  rw [EN.out] at hM
  have hs1 : w.heap.size + 2 ≤ ((w.alloc (.cells #[.slice none 0 0, .bool false, .int .i64 0, .slice none 0 0, .int .i64 0, .int .i64 0, .int .i64 0, .slice none 0 0] 49)).alloc (.cells #[.slice ga gn gc, .bool true, .int .i64 0, .slice none 0 0, .int .i64 0, .int .i64 0, .int .i64 0, .slice none 0 0] 49)).heap.size := by simp
  have hM2 := hM.low hs1
  have b2 := b1.new hn2
  have Z2 := Z1.new hn2
  have N2 := N1.trans hn2
  have hlow2 : w.heap.size + 2 ≤ w2.heap.size := Nat.le_trans hs1 hn2.size
  clear b1 Z1 N1 hn2 hs1 hM
  obtain ⟨a, c, rfl, hns, hab⟩ := hM2.ns NB.out
  rw [nsR_len] at hM2 ⊢
  have cU := b2.cells
  have fU := b2.frees
  have lU := b2.lt
  go_wp2_with fail
  have b3 := ((((b2.set 2 (.int .i64 o)).set 3 (.slice a k c)).set 4 (.int .i64 X)).set 5 (.int .i64 Y)).set 6 (.int .i64 Z)
  have T3 := Turn.here (B := w.heap.size + 1) (j := 6) (Turn.here (j := 5) (Turn.here (j := 4) (Turn.here (j := 3) (Turn.here (j := 2) (Turn.refl _ w2) (.int .i64 o)) (.slice a k c)) (.int .i64 X)) (.int .i64 Y)) (.int .i64 Z)
  simp only [List.setIfInBounds_toArray, List.set_cons_zero, List.set_cons_succ] at b3
  have Z3 := Z2.turn T3 (by omega)
  have N3 := N2.before T3 (fun i hi e => by omega)
  have M3 := hM2.turn T3 (fun g hg e => by omega)
  have hns3 : NsAt _ a (nsR ls k) := hns.turn T3 (fun x _ hx e => by have := hab x hx; omega)
  have hs3 := T3.size
  have hab3 : ∀ x, a = some x → x.block < w2.heap.size := fun x hx => (hab x hx).2
  have hab5 : ∀ x, a = some x → w.heap.size + 2 ≤ x.block := fun x hx => (hab x hx).1
  clear hM2 hns hab b2 Z2 N2 cU fU lU
  rw [hsubn]
  refine (prefixesOf_any _ q (lc - (8 + 2 * k)) (ls.drop (8 + 2 * k)) _ ((h.drop _).new N3) RL.out (by omega) (by omega)).mono ?_
  rintro e w3 ⟨v3, rfl, hQ, hn3⟩
  have hQ' := hQ.low hs3
  obtain ⟨ra, rc, rfl, hps, hrb⟩ := hQ.ps PB.out
  have hra : ra = none → q = 0 ∧ rc = 0 := by
    rcases hQ with ⟨h', _⟩ | ⟨g, c', h', _⟩
    · simp only [Value.slice.injEq] at h'; rw [PL.out] at h'; exact fun _ => ⟨h'.2.1, h'.2.2⟩
    · simp only [Value.slice.injEq] at h'; intro e; rw [e] at h'; cases h'.1
  rw [PL.out] at hQ' ⊢
  have b4 := b3.new hn3
  have Z4 := Z3.new hn3
  have N4 := N3.trans hn3
  have M4 := M3.new hn3
  have hns4 := hns3.new hn3
  have s3 := hn3.size
  clear hQ b3 Z3 N3 M3 hns3 hn3 T3
  have cU := b4.cells
  have fU := b4.frees
  have lU := b4.lt
  go_wp2_with fail
  have b5 := b4.set 7 (.slice ra q rc)
  have T5 := Turn.here (B := w.heap.size + 1) (j := 7) (Turn.refl _ w3) (.slice ra q rc)
  simp only [List.setIfInBounds_toArray, List.set_cons_zero, List.set_cons_succ] at b5
  have Z5 := Z4.turn T5 (by omega)
  have N5 := N4.before T5 (fun i hi e => by omega)
  have M5 := M4.turn T5 (fun g hg e => by omega)
  have Q5 := hQ'.turn T5 (fun g hg e => by omega)
  have hns5 : NsAt _ a (nsR ls k) := hns4.turn T5 (fun x _ hx e => by have := hab5 x hx; omega)
  have hps5 : PsAt _ ra (rdP (ls.drop (8 + 2 * k))) := hps.turn T5 (fun x _ hx e => by have := hrb x hx; omega)
  clear hQ' b4 Z4 N4 M4 hns4 hps T5 cU fU lU
  refine (implUF ga a ra gn gc k c q rc true o X Y Z gs (rdP (ls.drop (8 + 2 * k))) (nsR ls k) _ (hg.new N5) hns5 hps5 HG.out (nsR_len _ _) PL.out hm (by omega) (by omega)).mono ?_
  rintro e w4 ⟨rfl, hn4⟩
  rw [HU.out]
  have b6 := b5.new hn4
  have cU := b6.cells
  have N6 := N5.trans hn4
  have hps6 := hps5.new hn4
  clear N5 Z5 M5 Q5 b5 hn4 hns5 hps5
  go_wp2_with fail
  refine (takenBack_any ga ra gn gc q rc gs (rdP (ls.drop (8 + 2 * k))) _ (hg.new N6) hps6 HG.out PL.out hga hra hm (by omega)).mono ?_
  rintro e w5 ⟨ta, tm, tc, rfl, hq, hn5⟩
  have hs6 := N6.size
  go_wp2
  exact ⟨rfl, ⟨ta, tm, tc, rfl, hq.low hs6⟩, N6.trans hn5⟩

end Go.Proofs.Ytljkcijakdhdiaa
