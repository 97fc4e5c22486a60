/- What is proved here: what the model's reading of an update answers, for every list of at most 1048576 bytes. -/
import Derived.Test.YtnhkmgibppiimaaSdParse
namespace Go.Proofs.Ytnhkmgibppiimaa
open Go.RowKit Go.Sort
set_option linter.unusedVariables false

theorem OwQ.ps' {w : World} {lo n c : Nat} {a : Option Addr} {L : List (Int × Int)} (h : OwQ w lo (.slice a n c) L) (hb : ∀ p ∈ L, In6 p.1 ∧ In6 p.2) : PsAt w a L := by
  obtain ⟨a', c', e, hp, -⟩ := h.ps hb
  simp only [Value.slice.injEq] at e
  obtain ⟨rfl, -, rfl⟩ := e
  exact hp
theorem OwM.ns' {w : World} {lo n c : Nat} {a : Option Addr} {L : List Int} (h : OwM w lo (.slice a n c) L) (hb : ∀ z ∈ L, In6 z) : NsAt w a L := by
  obtain ⟨a', c', e, hp, -⟩ := h.ns hb
  simp only [Value.slice.injEq] at e
  obtain ⟨rfl, -, rfl⟩ := e
  exact hp
theorem OwQ.turnB {w w' : World} {lo : Nat} {v : Value} {L : List (Int × Int)} {S : Nat → Prop} (h : OwQ w lo v L) (t : Turn S w w') (hS : ∀ g, v.ownBlock = some g → ¬ S g) : OwQ w' lo v L := by
  rcases h with h | ⟨g, c, h1, h2, h3⟩
  · exact .inl h
  · exact .inr ⟨g, c, h1, h2, h3.turn t (hS g (by rw [h1]; rfl))⟩
theorem OwM.turnB {w w' : World} {lo : Nat} {v : Value} {L : List Int} {S : Nat → Prop} (h : OwM w lo v L) (t : Turn S w w') (hS : ∀ g, v.ownBlock = some g → ¬ S g) : OwM w' lo v L := by
  rcases h with h | ⟨g, c, h1, h2, h3⟩
  · exact .inl h
  · exact .inr ⟨g, c, h1, h2, h3.turn t (hS g (by rw [h1]; rfl))⟩

theorem lfc_zero : ∀ {ps : List (Int × Int)}, (∀ p ∈ ps, pf p.1 p.2 = 0) → lfc ps = 0
  | [], _ => rfl
  | p :: r, h => by
    unfold lfc
    rw [if_pos (h p (by simp))]
    exact lfc_zero (fun q hq => h q (by simp [hq]))
theorem ufU_gone {gs : List (Int × Int)} (h : ∀ p ∈ gs, pf p.1 p.2 = 0) : ufU (puU gs) = if 8 < gs.length then 2 else 0 := by
  unfold ufU puU uf
  simp only
  by_cases h8 : 8 < gs.length
  · rw [if_pos (.inl h8), if_pos h8]
  · have h0 : lf gs = 0 := by unfold lf; rw [if_neg (by omega), lfc_zero h]
    rw [if_neg (by simp; omega), h0]
    simp [lf, lfc, ZaP, h8]

set_option maxRecDepth 100000 in
set_option maxHeartbeats 6400000 in
theorem specParse_main (b off n c k : Nat) (zs : List Int) (w : World) (h : BsAt w (some ⟨b, off, none⟩) zs) (hn : zs.length = n) (hcc : n ≤ c) (h0 : zs[0]? = some (k : Int)) (hk : k ≤ 255) (hm : n ≤ 1048576) (hs : 1 + 3 * k ≤ n) (hc1 : ¬ c = 1) :
    Calls Try.prog 46 #[.slice (some ⟨b, off, none⟩) n c] w fun e w' => ∃ x y z, e = .returned (puV (pu zs) x y z) ∧ Got w' w.heap.size (pu zs) x y z ∧ New w w' := by
  have hw := (New.refl w).alloc (.cells #[.int .i64 0, .bool false, .slice none 0 0, .bool false, .int .i64 0, .slice none 0 0, .int .i64 0, .int .i64 0, .int .i64 0, .slice none 0 0] 71)
  have bR := Blk.mk w w.heap.size 71 #[.int .i64 0, .bool false, .slice none 0 0, .bool false, .int .i64 0, .slice none 0 0, .int .i64 0, .int .i64 0, .int .i64 0, .slice none 0 0] rfl
  have hne : ((n : Int) == 0) = false := by simp; omega
  have hwk : IntKind.i64.wrap (k : Int) = (k : Int) := by simp [IntKind.wrap, IntKind.signed, IntKind.bits]; omega
  have hn' : (0 : Int) < (n : Int) := by omega
  have hns : ¬ (n : Int) < 1 + 3 * (k : Int) := by omega
  have hc : w.cell? ⟨b, off, none⟩ = some (.int .u8 (k : Int)) := by
    obtain ⟨b', off', e', h1', _⟩ := h 0 _ h0
    simp only [Option.some.injEq, Addr.mk.injEq, and_true] at e'
    obtain ⟨rfl, rfl⟩ := e'
    simpa using h1'
  have hc' := (World.cell?_of_block (hw.block b (World.block_lt_of_cell? w _ hc) (fun f => f))).trans hc
  have hzl : ((zs.drop 1).take (k * 3)).length = k * 3 := by rw [List.length_take, List.length_drop, hn]; omega
  have HB : Hid (∀ p ∈ gnL zs k, In6 p.1 ∧ In6 p.2) := fun p hp => by
    have := rdP_bd _ (fun z hz => h.lt z (List.mem_of_mem_drop (List.mem_of_mem_take hz))) p hp
    unfold In6; omega
  have HL : Hid ((gnL zs k).length = k) := rdP_len k _ hzl
  have HZ : Hid (((zs.drop 1).take (k * 3)).length = k * 3) := hzl
  have hbs : BsAt w (some ⟨b, off + 1, none⟩) ((zs.drop 1).take (k * 3)) := (h.drop 1).take (k * 3)
  have h3 : 3 * k = k * 3 := Nat.mul_comm _ _
  have HN : Hid (zs.length = n) := hn
  have HPU : Hid (pu zs = if 0 ≤ ixF (gnL zs k) then puZ 3 else rdU (gnL zs k) (zs.drop (1 + 3 * k))) := by
    unfold Hid
    rw [pu_some h0, if_neg (by omega)]
  clear hn hzl hc
  go_enter Try.func46, Try.ntmps46
  go_wp2_with fail
  refine (l3Read_any _ k (c - 1) _ _ (hbs.new hw) HZ.out (by omega)).mono ?_
  rintro e w1 ⟨v, rfl, hq0, hn1⟩
  have hq1 : OwQ w1 (w.heap.size + 1) v (gnL zs k) := hq0.low (by simp)
  have bR1 := bR.new hn1
  have N1 := hw.trans hn1
  obtain ⟨a1, c1, rfl, f1, -, -⟩ := hq1.form
  obtain ⟨a2, c2, e2, hps, -⟩ := hq1.ps HB.out
  simp only [Value.slice.injEq] at e2
  obtain ⟨rfl, -, rfl⟩ := e2
  rw [HL.out] at hq1 f1 ⊢
  clear hq0 hn1 bR hw hc' hbs
  go_wp2_with fail
  go_loopw [5] (fun i wr => ∃ j : Nat, j ≤ k ∧ i = .int .i64 j ∧ New w1 wr ∧ Hid (∀ p ∈ (gnL zs k).take j, pf p.1 p.2 = 0)) (fun i _ => k - (intOf i).toNat)
  case atStart => exact ⟨0, Nat.zero_le _, rfl, New.refl _, by unfold Hid; simp⟩
  case round =>
    obtain ⟨j, hj, rfl, hn2, hall⟩ := hrel
    have bR2 := bR1.new hn2
    have cR := bR2.cells
    have fR := bR2.frees
    have lR := bR2.lt
    have N2 := N1.trans hn2
    by_cases hlt : j < k
    · obtain ⟨b2, o2, x, y, rfl, hpx, x0, x1⟩ := (hps.new hn2).at j (by rw [HL.out]; exact hlt)
      have HP : Hid ((gnL zs k)[j]? = some (x, y)) := hpx
      have hlti : (j : Int) < (k : Int) := by omega
      clear hpx
      by_cases hz : pf x y = 0
      · have hall' : Hid (∀ p ∈ (gnL zs k).take (j + 1), pf p.1 p.2 = 0) := by
          obtain ⟨hj', e⟩ := List.getElem?_eq_some_iff.1 HP.out
          unfold Hid
          rw [List.take_succ_eq_append_getElem hj', e]
          intro p hp
          rcases List.mem_append.1 hp with hp | hp
          · exact hall.out p hp
          · simp at hp; subst hp; exact hz
        have HZ0 : Hid (pf x y = 0) := hz
        clear hz hall
        go_wp2_with fail
        refine (specPF_is x y 0 _ HZ0.out).mono ?_
        rintro e w3 ⟨rfl, hn3⟩
        have N3 := hn2.trans hn3
        clear cR fR lR bR2 N2 x0 x1
        go_wp2
        go_roundw
        case rel => exact ⟨j + 1, by omega, by go_num, N3, hall'⟩
        case measure => simp [intOf]; omega
      · have hpu : pu zs = puZ 3 := by
          rw [HPU.out, if_pos]
          apply Classical.byContradiction
          intro hno
          exact hz ((ixF_neg _).1 (by omega) _ (List.mem_of_getElem? HP.out))
        obtain ⟨q, hq⟩ : ∃ q, pf x y = q := ⟨_, rfl⟩
        rw [hq] at hz
        have HPU3 : Hid (pu zs = puZ 3) := hpu
        clear hpu
        go_wp2_with fail
        refine (specPF_is x y q _ hq).mono ?_
        rintro e w3 ⟨rfl, hn3⟩
        have bR3 := bR2.new hn3
        have N3 := N2.trans hn3
        clear cR fR lR bR2 x0 x1
        have cR := bR3.cells
        have fR := bR3.frees
        have lR := bR3.lt
        go_wp2
        refine bodyPost_ret (v := puV (puZ 3) (.slice none 0 0) (.slice none 0 0) (.slice none 0 0)) (by simp [results, Try.results46, go_sem, puV, puZ, cR]) rfl ?_
        refine (fun (hT : Turn (fun k => k = w.heap.size) w3 _) => ⟨_, _, _, by rw [HPU3.out], by rw [HPU3.out]; exact Got.one (OwQ.nil _ _) rfl rfl, N3.before hT (fun i hi e => by omega)⟩) ?_
        exact Turn.here (Turn.here (Turn.here (Turn.here (Turn.here (Turn.here (Turn.here (Turn.here (Turn.here (Turn.here (Turn.refl _ _) _) _) _) _) _) _) _) _) _) _
    · obtain rfl : j = k := by omega
      have hgood : ∀ p ∈ gnL zs j, pf p.1 p.2 = 0 := by
        have := hall.out
        rw [List.take_of_length_le (by rw [HL.out]; exact Nat.le_refl _)] at this
        exact this
      have HG : Hid (∀ p ∈ gnL zs j, pf p.1 p.2 = 0) := hgood
      have HPU2 : Hid (pu zs = rdU (gnL zs j) (zs.drop (1 + 3 * j))) := by
        unfold Hid
        rw [HPU.out, if_neg]
        have := (ixF_neg _).2 hgood
        omega
      have hq2 := hq1.new hn2
      have hps2 := hps.new hn2
      clear hall hgood hn2 bR1 N1 hq1 hps HPU
      by_cases hz : n = 1 + 3 * j
      · have hnil : zs.drop (1 + 3 * j) = [] := List.eq_nil_of_length_eq_zero (by rw [List.length_drop, HN.out]; omega)
        have HR : Hid (pu zs = if ufU (puU (gnL zs j)) = 0 then puU (gnL zs j) else puS ((gnL zs j).take 8)) := by
          unfold Hid
          rw [HPU2.out, hnil]
          rfl
        have hlt' : ¬ (j : Int) < (j : Int) := by omega
        have hz0 : n - (1 + 3 * j) = 0 := by omega
        clear hnil HPU2 h3
        by_cases h8 : 8 < j
        · have HPS : Hid (pu zs = puS ((gnL zs j).take 8)) := by
            unfold Hid
            rw [HR.out, ufU_gone HG.out, HL.out, if_pos h8]
            rfl
          have h8' : (8 : Int) < (j : Int) := by omega
          clear HR
          by_cases hce : c = 1 + 3 * j
          · subst hce
            go_wp2_with fail
            refine (l3Soft_any a1 none j c1 0 0 (gnL zs j) [] _ (hps2) (PsAt.nil _ _) HL.out rfl f1 (fun _ => ⟨rfl, rfl⟩) (by omega) (by omega)).mono ?_
            rintro e w9 ⟨ta, tm, tc, rfl, hq9, hn9⟩
            have bR9 := bR2.new hn9
            have N9 := N2.trans hn9
            have hsz9 := N2.size
            have hlR := bR2.lt
            have hq9' : OwQ w9 (w.heap.size + 1) (.slice ta tm tc) ((gnL zs j).take 8) := by rw [show okL (gnL zs j ++ []) = gnL zs j by rw [List.append_nil]; exact okL_all HG.out] at hq9; exact hq9.low (by omega)
            have cR9 := bR9.cells
            have fR9 := bR9.frees
            have lR9 := bR9.lt
            go_wp2
            refine bodyPost_ret (v := puV (puS ((gnL zs j).take 8)) (.slice ta tm tc) (.slice none 0 0) (.slice none 0 0)) (by simp [results, Try.results46, go_sem, puV, puS, cR9]) rfl ?_
            refine (fun (hT : Turn (fun k => k = w.heap.size) w9 _) => ⟨_, _, _, by rw [HPS.out], by rw [HPS.out]; exact Got.one (p := puS ((gnL zs j).take 8)) ((hq9'.turn hT (fun g hg e => by omega)).low (Nat.le_succ _)) rfl rfl, N9.before hT (fun i hi e => by omega)⟩) ?_
            exact Turn.here (Turn.here (Turn.here (Turn.here (Turn.here (Turn.here (Turn.here (Turn.here (Turn.here (Turn.here (Turn.refl _ _) _) _) _) _) _) _) _) _) _) _
          · have hci : ¬ (1 + 3 * j = c) := fun e => hce e.symm
            go_wp2_with fail
            refine (l3Soft_any a1 none j c1 0 0 (gnL zs j) [] _ (hps2) (PsAt.nil _ _) HL.out rfl f1 (fun _ => ⟨rfl, rfl⟩) (by omega) (by omega)).mono ?_
            rintro e w9 ⟨ta, tm, tc, rfl, hq9, hn9⟩
            have bR9 := bR2.new hn9
            have N9 := N2.trans hn9
            have hsz9 := N2.size
            have hlR := bR2.lt
            have hq9' : OwQ w9 (w.heap.size + 1) (.slice ta tm tc) ((gnL zs j).take 8) := by rw [show okL (gnL zs j ++ []) = gnL zs j by rw [List.append_nil]; exact okL_all HG.out] at hq9; exact hq9.low (by omega)
            have cR9 := bR9.cells
            have fR9 := bR9.frees
            have lR9 := bR9.lt
            go_wp2
            refine bodyPost_ret (v := puV (puS ((gnL zs j).take 8)) (.slice ta tm tc) (.slice none 0 0) (.slice none 0 0)) (by simp [results, Try.results46, go_sem, puV, puS, cR9]) rfl ?_
            refine (fun (hT : Turn (fun k => k = w.heap.size) w9 _) => ⟨_, _, _, by rw [HPS.out], by rw [HPS.out]; exact Got.one (p := puS ((gnL zs j).take 8)) ((hq9'.turn hT (fun g hg e => by omega)).low (Nat.le_succ _)) rfl rfl, N9.before hT (fun i hi e => by omega)⟩) ?_
            exact Turn.here (Turn.here (Turn.here (Turn.here (Turn.here (Turn.here (Turn.here (Turn.here (Turn.here (Turn.here (Turn.refl _ _) _) _) _) _) _) _) _) _) _) _
        · have HPS : Hid (pu zs = puU (gnL zs j)) := by
            unfold Hid
            rw [HR.out, ufU_gone HG.out, HL.out, if_neg h8]
            rfl
          have h8' : ¬ (8 : Int) < (j : Int) := by omega
          clear HR
          by_cases hce : c = 1 + 3 * j
          · subst hce
            go_wp2
            refine bodyPost_ret (v := puV (puU (gnL zs j)) (.slice a1 j c1) (.slice none 0 0) (.slice none 0 0)) (by simp [results, Try.results46, go_sem, puV, puU, cR]) rfl ?_
            refine (fun (hT : Turn (fun k => k = w.heap.size) wr _) => ⟨_, _, _, by rw [HPS.out], by rw [HPS.out]; exact Got.one (p := puU (gnL zs j)) ((hq2.turn hT (fun g hg e => by omega)).low (Nat.le_succ _)) rfl rfl, N2.before hT (fun i hi e => by omega)⟩) ?_
            exact Turn.here (Turn.here (Turn.here (Turn.here (Turn.here (Turn.here (Turn.here (Turn.here (Turn.here (Turn.here (Turn.refl _ _) _) _) _) _) _) _) _) _) _) _
          · have hci : ¬ (1 + 3 * j = c) := fun e => hce e.symm
            go_wp2
            refine bodyPost_ret (v := puV (puU (gnL zs j)) (.slice a1 j c1) (.slice none 0 0) (.slice none 0 0)) (by simp [results, Try.results46, go_sem, puV, puU, cR]) rfl ?_
            refine (fun (hT : Turn (fun k => k = w.heap.size) wr _) => ⟨_, _, _, by rw [HPS.out], by rw [HPS.out]; exact Got.one (p := puU (gnL zs j)) ((hq2.turn hT (fun g hg e => by omega)).low (Nat.le_succ _)) rfl rfl, N2.before hT (fun i hi e => by omega)⟩) ?_
            exact Turn.here (Turn.here (Turn.here (Turn.here (Turn.here (Turn.here (Turn.here (Turn.here (Turn.here (Turn.here (Turn.refl _ _) _) _) _) _) _) _) _) _) _) _
      · obtain ⟨ls, hls⟩ : ∃ ls, ls = zs.drop (1 + 3 * j) := ⟨_, rfl⟩
        have hbs := (h.drop (1 + 3 * j)).new N2
        have hll : ls.length = n - (1 + 3 * j) := by rw [hls, List.length_drop, HN.out]
        rw [← hls] at hbs
        obtain ⟨b1, off1, z1, e1, h1, hcz, l1, u1⟩ := hbs.at 0 (by omega)
        simp only [Option.some.injEq, Addr.mk.injEq, and_true] at e1
        obtain ⟨rfl, rfl⟩ := e1
        obtain ⟨k1, rfl⟩ : ∃ k1 : Nat, z1 = (k1 : Int) := ⟨z1.toNat, by omega⟩
        have hk1 : k1 ≤ 255 := by omega
        have HR : Hid (pu zs = if ls.length < 8 + 2 * k1 + 3 ∨ (ls.length - (8 + 2 * k1)) % 3 ≠ 0 then puS ((gnL zs j).take 8) else if ufU (puA (gnL zs j) k1 ls) = 0 then puA (gnL zs j) k1 ls else puS ((gnL zs j ++ okL (rdP (ls.drop (8 + 2 * k1)))).take 8)) := by
          unfold Hid
          rw [HPU2.out, ← hls, rdU_some h1]
        have hce : ¬ c = 1 + 3 * j := by omega
        have hlt' : ¬ (j : Int) < (j : Int) := by omega
        have hln0 : (((n - (1 + 3 * j) : Nat) : Int) == 0) = false := by simp; omega
        simp only [Nat.add_zero] at hcz
        have HLS : Hid (ls.length = n - (1 + 3 * j)) := hll
        have H1 : Hid (ls[0]? = some (k1 : Int)) := h1
        clear h3 HPU2 hls h1 hll
        by_cases hs1 : n - (1 + 3 * j) < 8 + 2 * k1
        · have HPS : Hid (pu zs = puS ((gnL zs j).take 8)) := by
            unfold Hid
            rw [HR.out, if_pos (.inl (by rw [HLS.out]; omega))]
          clear HR
          go_wp2_with fail
          refine (l3Attrs_short b (off + (1 + 3 * j)) (n - (1 + 3 * j)) (c - (1 + 3 * j)) k1 _ hcz hk1 (by omega) (by omega) hs1).mono ?_
          rintro e w3 ⟨rfl, hn3⟩
          have hal3 := (New.refl w3).alloc (.cells #[.int .i64 0, .slice none 0 0, .int .i64 0, .int .i64 0, .int .i64 0] 29)
          have bR3 := (bR2.new hn3).new hal3
          have N3 := (N2.trans hn3).trans hal3
          have hps3 := (hps2.new hn3).new hal3
          clear cR fR lR bR2 N2 hn3 hal3
          go_wp2_with fail
          refine (l3Soft_any a1 none j c1 0 0 (gnL zs j) [] _ (hps3) (PsAt.nil _ _) HL.out rfl f1 (fun _ => ⟨rfl, rfl⟩) (by omega) (by omega)).mono ?_
          rintro e w9 ⟨ta, tm, tc, rfl, hq9, hn9⟩
          have bR9 := bR3.new hn9
          have N9 := N3.trans hn9
          have hsz9 := N3.size
          have hlR := bR3.lt
          have hq9' : OwQ w9 (w.heap.size + 1) (.slice ta tm tc) ((gnL zs j).take 8) := by rw [show okL (gnL zs j ++ []) = gnL zs j by rw [List.append_nil]; exact okL_all HG.out] at hq9; exact hq9.low (by omega)
          have cR9 := bR9.cells
          have fR9 := bR9.frees
          have lR9 := bR9.lt
          go_wp2
          refine bodyPost_ret (v := puV (puS ((gnL zs j).take 8)) (.slice ta tm tc) (.slice none 0 0) (.slice none 0 0)) (by simp [results, Try.results46, go_sem, puV, puS, cR9]) rfl ?_
          refine (fun (hT : Turn (fun k => k = w.heap.size) w9 _) => ⟨_, _, _, by rw [HPS.out], by rw [HPS.out]; exact Got.one (p := puS ((gnL zs j).take 8)) ((hq9'.turn hT (fun g hg e => by omega)).low (Nat.le_succ _)) rfl rfl, N9.before hT (fun i hi e => by omega)⟩) ?_
          exact Turn.here (Turn.here (Turn.here (Turn.here (Turn.here (Turn.here (Turn.here (Turn.here (Turn.here (Turn.here (Turn.refl _ _) _) _) _) _) _) _) _) _) _) _
        · obtain ⟨o, ho⟩ : ∃ o, ls[1 + 2 * k1]? = some o := ⟨_, List.getElem?_eq_getElem (by rw [HLS.out]; omega)⟩
          have HO : Hid ((puA (gnL zs j) k1 ls).o = o) := by unfold Hid puA; simp [ho]
          have NB : Hid (∀ z ∈ nsR ls k1, In6 z) := fun z hz => by
            unfold nsR at hz
            obtain ⟨i, _, rfl⟩ := List.mem_map.1 hz
            have := numAt_bd2 ls hbs.lt (1 + 2 * i)
            unfold In6; omega
          have PB : Hid (∀ p ∈ rdP (ls.drop (8 + 2 * k1)), In6 p.1 ∧ In6 p.2) := fun p hp => by
            have := rdP_bd _ (fun z hz => hbs.lt z (List.mem_of_mem_drop hz)) p hp
            unfold In6; omega
          go_wp2_with fail
          refine (l3Attrs_ok b (off + (1 + 3 * j)) (n - (1 + 3 * j)) (c - (1 + 3 * j)) k1 ls o _ hbs HLS.out H1.out (by omega) (by omega) hk1 ho).mono ?_
          rintro e w3 ⟨xa, xc, rfl, hM3, hn3⟩
          have EX : Hid (numAt ls (2 + 2 * k1) 2 = (puA (gnL zs j) k1 ls).nx) := rfl
          have EY : Hid (numAt ls (4 + 2 * k1) 2 = (puA (gnL zs j) k1 ls).md) := rfl
          have EZ : Hid (numAt ls (6 + 2 * k1) 2 = (puA (gnL zs j) k1 ls).lc) := rfl
          rw [EX.out, EY.out, EZ.out]
          obtain ⟨X, hX⟩ : ∃ X, (puA (gnL zs j) k1 ls).nx = X := ⟨_, rfl⟩
          obtain ⟨Y, hY⟩ : ∃ Y, (puA (gnL zs j) k1 ls).md = Y := ⟨_, rfl⟩
          obtain ⟨Z, hZ⟩ : ∃ Z, (puA (gnL zs j) k1 ls).lc = Z := ⟨_, rfl⟩
          rw [hX, hY, hZ]
          have HX : Hid ((puA (gnL zs j) k1 ls).nx = X) := hX
          have HY : Hid ((puA (gnL zs j) k1 ls).md = Y) := hY
          have HZ2 : Hid ((puA (gnL zs j) k1 ls).lc = Z) := hZ
          clear hX hY hZ EX EY EZ
          have hal3 := (New.refl w3).alloc (.cells #[.int .i64 o, .slice xa k1 xc, .int .i64 X, .int .i64 Y, .int .i64 Z] 29)
          have bT := Blk.mk w3 w3.heap.size 29 #[.int .i64 o, .slice xa k1 xc, .int .i64 X, .int .i64 Y, .int .i64 Z] rfl
          have bR3 := (bR2.new hn3).new hal3
          have N3 := (N2.trans hn3).trans hal3
          have hps3 := (hps2.new hn3).new hal3
          have hq3 := (hq2.new hn3).new hal3
          have hb3 := (hbs.new hn3).new hal3
          have hM4 := hM3.new hal3
          have hMb := hM3.blk
          have hqb := hq2.blk
          have s23 := hn3.size
          have s2 := bR2.lt
          clear cR fR lR bR2 N2 hn3 hal3 hq2 hps2 hbs hM3 ho hcz
          have hsz0 : ¬ (8 + 2 * (k1 : Int) < 0) := by omega
          by_cases hce2 : c - (1 + 3 * j) = 8 + 2 * k1
          · have hn2 : n - (1 + 3 * j) = 8 + 2 * k1 := by omega
            have hd0 : ls.drop (8 + 2 * k1) = [] := List.eq_nil_of_length_eq_zero (by rw [List.length_drop, HLS.out]; omega)
            have hb0 : BsAt (w3.alloc (.cells #[.int .i64 o, .slice xa k1 xc, .int .i64 X, .int .i64 Y, .int .i64 Z] 29)) (some ⟨b, off + (1 + 3 * j), none⟩) (ls.drop (8 + 2 * k1)) := by rw [hd0]; exact BsAt.nil _ _
            clear hd0
            have RL : Hid ((ls.drop (8 + 2 * k1)).length = 0 * 3) := by unfold Hid; rw [List.length_drop, HLS.out]; omega
            have PL : Hid ((rdP (ls.drop (8 + 2 * k1))).length = 0) := rdP_len 0 _ RL.out
            obtain ⟨uq, huq⟩ : ∃ uq, ufU (puA (gnL zs j) k1 ls) = uq := ⟨_, rfl⟩
            have HUF : Hid (uf (gnL zs j) true o (nsR ls k1) X Y Z (rdP (ls.drop (8 + 2 * k1))) = uq) := by
              unfold Hid
              rw [← huq, ← HO.out, ← HX.out, ← HY.out, ← HZ2.out]
              rfl
            have HP0 : Hid (uq = 0 → pu zs = puA (gnL zs j) k1 ls) := by
              intro hu
              have hqp : 0 < 0 := by
                rcases Nat.eq_zero_or_pos 0 with hq0 | hq0
                · exact absurd (huq.trans hu) (ufU_nil _ _ _ (List.eq_nil_of_length_eq_zero (by first | (rw [PL.out, hq0]; done) | rw [PL.out])))
                · exact hq0
              rw [HR.out, if_neg (by rw [HLS.out]; omega), if_pos (huq.trans hu)]
            have HP1 : Hid (uq ≠ 0 → pu zs = puS ((gnL zs j ++ okL (rdP (ls.drop (8 + 2 * k1)))).take 8)) := by
              intro hu
              rcases Nat.eq_zero_or_pos 0 with hq0 | hq0
              · have hnl : rdP (ls.drop (8 + 2 * k1)) = [] := List.eq_nil_of_length_eq_zero (by first | (rw [PL.out, hq0]; done) | rw [PL.out])
                rw [HR.out, if_pos (.inl (by rw [HLS.out]; omega)), hnl]
                simp [okL]
              · rw [HR.out, if_neg (by rw [HLS.out]; omega), if_neg (by rw [huq]; exact hu)]
            clear huq HR
            have cT := bT.cells
            have lT := bT.lt
            have cTa := (bT.alloc (.cells #[.slice none 0 0, .bool false, .int .i64 0, .slice none 0 0, .int .i64 0, .int .i64 0, .int .i64 0, .slice none 0 0] 31)).cells
            go_wp2_with fail
            go_region_law (go_simp; go_at_call 66; refine (l3Read_any (some ⟨b, off + (1 + 3 * j), none⟩) 0 (0) (ls.drop (8 + 2 * k1)) _ (hb0.new (by first | exact (New.refl _).drew | exact ((New.refl _).alloc _).drew)) RL.out (by omega)).mono ?_; rintro e w5 ⟨v5, rfl, hQ5, hn5⟩; have bT5 := bT.new (New.trans (by first | exact (New.refl _).drew | exact ((New.refl _).alloc _).drew) hn5); have cT5 := bT5.cells; have cT5a := (bT5.alloc (.cells #[.slice none 0 0, .bool false, .int .i64 0, .slice none 0 0, .int .i64 0, .int .i64 0, .int .i64 0, .slice none 0 0] 31)).cells; obtain ⟨ra, rc, hv5, hps5, hrb5⟩ := hQ5.ps PB.out; obtain ⟨ra', rc', hv5', hra5, hlc5, hf5⟩ := hQ5.form; subst hv5; simp only [Value.slice.injEq] at hv5'; obtain ⟨rfl, -, rfl⟩ := hv5'; (rw [PL.out] at hQ5 hra5 ⊢); first | (have bU5 := ((Blk.mk (w3.alloc (.cells #[.int .i64 o, .slice xa k1 xc, .int .i64 X, .int .i64 Y, .int .i64 Z] 29)) (w3.heap.size + 1) 31 #[.slice none 0 0, .bool false, .int .i64 0, .slice none 0 0, .int .i64 0, .int .i64 0, .int .i64 0, .slice none 0 0] (by simp)).new ((New.refl _).drew)).new hn5; have cU5 := bU5.cells; have fU5 := bU5.frees; have lU5 := bU5.lt) | skip)
            all_goals
              first
              | (have hQ6a := hQ5.low (lo' := w3.heap.size + 2) (by simp); have M6 : New (w3.alloc (.cells #[.int .i64 o, .slice xa k1 xc, .int .i64 X, .int .i64 Y, .int .i64 Z] 29)) w5 := (((New.refl _).alloc _).drew).trans hn5; have b6 := (((((((bU5.set 0 (.slice a1 j c1)).set 1 (.bool true)).set 2 (.int .i64 o)).set 3 (.slice xa k1 xc)).set 4 (.int .i64 X)).set 5 (.int .i64 Y)).set 6 (.int .i64 Z)).set 7 (.slice ra 0 rc); have T6 := Turn.here (B := w3.heap.size + 1) (j := 7) (Turn.here (B := w3.heap.size + 1) (j := 6) (Turn.here (B := w3.heap.size + 1) (j := 5) (Turn.here (B := w3.heap.size + 1) (j := 4) (Turn.here (B := w3.heap.size + 1) (j := 3) (Turn.here (B := w3.heap.size + 1) (j := 2) (Turn.here (B := w3.heap.size + 1) (j := 1) (Turn.here (B := w3.heap.size + 1) (j := 0) (Turn.refl _ w5) (.slice a1 j c1)) (.bool true)) (.int .i64 o)) (.slice xa k1 xc)) (.int .i64 X)) (.int .i64 Y)) (.int .i64 Z)) (.slice ra 0 rc); simp only [List.setIfInBounds_toArray, List.set_cons_zero, List.set_cons_succ] at b6; have bR6 := (bR3.new M6).turn T6 (by omega); have N6 := (N3.trans M6).before T6 (fun i hi e => by omega); have hq6 : OwQ _ (w.heap.size + 1) (.slice a1 j c1) (gnL zs j) := (hq3.new M6).turnB T6 (fun g hg e => by have := hqb g hg; omega); have hM6 : OwM _ wr.heap.size (.slice xa k1 xc) (nsR ls k1) := (hM4.new M6).turnB T6 (fun g hg e => by have := hMb g hg; omega); have hQ6 := (hQ6a.turn T6 (fun g hg e => by omega)).low (lo' := w3.heap.size) (by omega); clear T6 M6 hQ6a bU5 cU5 fU5 lU5)
              | (have M6 : New (w3.alloc (.cells #[.int .i64 o, .slice xa k1 xc, .int .i64 X, .int .i64 Y, .int .i64 Z] 29)) w5 := ((New.refl _).drew).trans hn5; have b6 := Blk.mk w5 w5.heap.size 31 #[.slice a1 j c1, .bool true, .int .i64 o, .slice xa k1 xc, .int .i64 X, .int .i64 Y, .int .i64 Z, .slice ra 0 rc] rfl; have T6 := (New.refl w5).alloc (.cells #[.slice a1 j c1, .bool true, .int .i64 o, .slice xa k1 xc, .int .i64 X, .int .i64 Y, .int .i64 Z, .slice ra 0 rc] 31); have bR6 := (bR3.new M6).new T6; have N6 := (N3.trans M6).trans T6; have hq6 : OwQ _ (w.heap.size + 1) (.slice a1 j c1) (gnL zs j) := (hq3.new M6).new T6; have hM6 : OwM _ wr.heap.size (.slice xa k1 xc) (nsR ls k1) := (hM4.new M6).new T6; have hQ6 := (hQ5.new T6).low (lo' := w3.heap.size) (by simp); clear T6 M6)
              have hrb := hQ6.blk
              clear hQ5 hn5 bT5 cT5 cT5a hps5 hrb5 hlc5 hf5 cT lT cTa bT bR3 N3 hps3 hq3 hb3 hM4
              have cU := b6.cells
              have hpg := hq6.ps' HB.out
              have hnx := hM6.ns' NB.out
              have hpr := hQ6.ps' PB.out
              go_wp2_with fail
              refine (specUF a1 xa ra j c1 k1 xc 0 rc true o X Y Z (gnL zs j) (rdP (ls.drop (8 + 2 * k1))) (nsR ls k1) _ hpg hnx hpr HL.out (nsR_len _ _) PL.out (by omega) (by omega) (by omega)).mono ?_
              rintro e w7 ⟨rfl, hn7⟩
              rw [HUF.out]
              have b7 := b6.new hn7
              have bR7 := bR6.new hn7
              have N7 := N6.trans hn7
              have hq7 := hq6.new hn7
              have hM7 := hM6.new hn7
              have hQ7 := hQ6.new hn7
              have hpg7 := hpg.new hn7
              have hpr7 := hpr.new hn7
              clear b6 bR6 N6 hq6 hM6 hQ6 hpg hnx hpr hn7 cU
              have cU := b7.cells
              have cR := bR7.cells
              have fR := bR7.frees
              have lR := bR7.lt
              by_cases hu : uq = 0
              · have HPS : Hid (pu zs = puA (gnL zs j) k1 ls) := HP0.out hu
                subst hu
                go_wp2
                refine bodyPost_ret (v := .agg #[.int .i64 0, .bool false, .slice a1 j c1, .bool true, .int .i64 o, .slice xa k1 xc, .int .i64 X, .int .i64 Y, .int .i64 Z, .slice ra 0 rc]) (by simp [results, Try.results46, go_sem, cR]) rfl ?_
                refine (fun (hT : Turn (fun k => k = w.heap.size) w7 _) => ⟨.slice a1 j c1, .slice xa k1 xc, .slice ra 0 rc, by rw [HPS.out]; unfold puV; rw [HO.out, HX.out, HY.out, HZ2.out]; rfl, by rw [HPS.out]; exact ⟨(hq7.turn hT (fun g hg e => by omega)).low (Nat.le_succ _), (hM7.turn hT (fun g hg e => by omega)).low (by omega), (hQ7.turn hT (fun g hg e => by omega)).low (by omega), (fun bb e1 e2 => by have := hqb bb e1; have := hMb bb e2; omega), (fun bb e1 e2 => by have := hqb bb e1; have := hrb bb e2; omega), (fun bb e1 e2 => by have := hMb bb e1; have := hrb bb e2; omega)⟩, N7.before hT (fun i hi e => by omega)⟩) ?_
                exact Turn.here (Turn.here (Turn.here (Turn.here (Turn.here (Turn.here (Turn.here (Turn.here (Turn.here (Turn.here (Turn.refl _ _) _) _) _) _) _) _) _) _) _) _
              · have HPS : Hid (pu zs = puS ((gnL zs j ++ okL (rdP (ls.drop (8 + 2 * k1)))).take 8)) := HP1.out hu
                have hu' : ¬ uq = 0 := hu
                go_wp2_with fail
                refine (l3Soft_any a1 ra j c1 0 rc (gnL zs j) (rdP (ls.drop (8 + 2 * k1))) _ hpg7 hpr7 HL.out PL.out f1 (fun e => ⟨rfl, by simpa using hra5 e⟩) (by omega) (by omega)).mono ?_
                rintro e w9 ⟨ta, tm, tc, rfl, hq9, hn9⟩
                have bR9 := bR7.new hn9
                have N9 := N7.trans hn9
                have hsz9 := N7.size
                have hlR := bR7.lt
                have hq9' : OwQ w9 (w.heap.size + 1) (.slice ta tm tc) ((gnL zs j ++ okL (rdP (ls.drop (8 + 2 * k1)))).take 8) := by rw [show okL (gnL zs j ++ rdP (ls.drop (8 + 2 * k1))) = gnL zs j ++ okL (rdP (ls.drop (8 + 2 * k1))) by rw [show okL (gnL zs j ++ rdP (ls.drop (8 + 2 * k1))) = okL (gnL zs j) ++ okL (rdP (ls.drop (8 + 2 * k1))) from List.filter_append .., okL_all HG.out]] at hq9; exact hq9.low (by omega)
                have cR9 := bR9.cells
                have fR9 := bR9.frees
                have lR9 := bR9.lt
                go_wp2
                refine bodyPost_ret (v := puV (puS ((gnL zs j ++ okL (rdP (ls.drop (8 + 2 * k1)))).take 8)) (.slice ta tm tc) (.slice none 0 0) (.slice none 0 0)) (by simp [results, Try.results46, go_sem, puV, puS, cR9]) rfl ?_
                refine (fun (hT : Turn (fun k => k = w.heap.size) w9 _) => ⟨_, _, _, by rw [HPS.out], by rw [HPS.out]; exact Got.one (p := puS ((gnL zs j ++ okL (rdP (ls.drop (8 + 2 * k1)))).take 8)) ((hq9'.turn hT (fun g hg e => by omega)).low (Nat.le_succ _)) rfl rfl, N9.before hT (fun i hi e => by omega)⟩) ?_
                exact Turn.here (Turn.here (Turn.here (Turn.here (Turn.here (Turn.here (Turn.here (Turn.here (Turn.here (Turn.here (Turn.refl _ _) _) _) _) _) _) _) _) _) _) _
          · obtain ⟨r, hrn⟩ : ∃ r, n - (1 + 3 * j) - (8 + 2 * k1) = r := ⟨_, rfl⟩
            have hlel : 8 + 2 * k1 ≤ n - (1 + 3 * j) := by omega
            have hlel' : 8 + 2 * (k1 : Int) ≤ ((n - (1 + 3 * j) : Nat) : Int) := by omega
            have hmod : (r : Int).tmod 3 = ((r % 3 : Nat) : Int) := by rw [Int.tmod_eq_emod_of_nonneg (by omega)]; omega
            by_cases hr3 : r % 3 ≠ 0
            · have HPS : Hid (pu zs = puS ((gnL zs j).take 8)) := by
                unfold Hid
                rw [HR.out, if_pos (.inr (by rw [HLS.out, hrn]; exact hr3))]
              clear HR
              have hne3 : (((r % 3 : Nat) : Int) != 0) = true := by simp; omega
              generalize r % 3 = r3 at *
              go_wp2_with fail
              refine (l3Soft_any a1 none j c1 0 0 (gnL zs j) [] _ (hps3) (PsAt.nil _ _) HL.out rfl f1 (fun _ => ⟨rfl, rfl⟩) (by omega) (by omega)).mono ?_
              rintro e w9 ⟨ta, tm, tc, rfl, hq9, hn9⟩
              have bR9 := bR3.new hn9
              have N9 := N3.trans hn9
              have hsz9 := N3.size
              have hlR := bR3.lt
              have hq9' : OwQ w9 (w.heap.size + 1) (.slice ta tm tc) ((gnL zs j).take 8) := by rw [show okL (gnL zs j ++ []) = gnL zs j by rw [List.append_nil]; exact okL_all HG.out] at hq9; exact hq9.low (by omega)
              have cR9 := bR9.cells
              have fR9 := bR9.frees
              have lR9 := bR9.lt
              go_wp2
              refine bodyPost_ret (v := puV (puS ((gnL zs j).take 8)) (.slice ta tm tc) (.slice none 0 0) (.slice none 0 0)) (by simp [results, Try.results46, go_sem, puV, puS, cR9]) rfl ?_
              refine (fun (hT : Turn (fun k => k = w.heap.size) w9 _) => ⟨_, _, _, by rw [HPS.out], by rw [HPS.out]; exact Got.one (p := puS ((gnL zs j).take 8)) ((hq9'.turn hT (fun g hg e => by omega)).low (Nat.le_succ _)) rfl rfl, N9.before hT (fun i hi e => by omega)⟩) ?_
              exact Turn.here (Turn.here (Turn.here (Turn.here (Turn.here (Turn.here (Turn.here (Turn.here (Turn.here (Turn.here (Turn.refl _ _) _) _) _) _) _) _) _) _) _) _
            · obtain ⟨q, rfl⟩ : ∃ q, r = q * 3 := ⟨r / 3, by omega⟩
              have hm0 : ((q * 3 : Nat) : Int).tmod 3 = 0 := by rw [Int.tmod_eq_emod_of_nonneg (by omega)]; omega
              clear hmod hr3
              have RL : Hid ((ls.drop (8 + 2 * k1)).length = q * 3) := by unfold Hid; rw [List.length_drop, HLS.out]; omega
              have PL : Hid ((rdP (ls.drop (8 + 2 * k1))).length = q) := rdP_len q _ RL.out
              obtain ⟨uq, huq⟩ : ∃ uq, ufU (puA (gnL zs j) k1 ls) = uq := ⟨_, rfl⟩
              have HUF : Hid (uf (gnL zs j) true o (nsR ls k1) X Y Z (rdP (ls.drop (8 + 2 * k1))) = uq) := by
                unfold Hid
                rw [← huq, ← HO.out, ← HX.out, ← HY.out, ← HZ2.out]
                rfl
              have HP0 : Hid (uq = 0 → pu zs = puA (gnL zs j) k1 ls) := by
                intro hu
                have hqp : 0 < q := by
                  rcases Nat.eq_zero_or_pos q with hq0 | hq0
                  · exact absurd (huq.trans hu) (ufU_nil _ _ _ (List.eq_nil_of_length_eq_zero (by first | (rw [PL.out, hq0]; done) | rw [PL.out])))
                  · exact hq0
                rw [HR.out, if_neg (by rw [HLS.out]; omega), if_pos (huq.trans hu)]
              have HP1 : Hid (uq ≠ 0 → pu zs = puS ((gnL zs j ++ okL (rdP (ls.drop (8 + 2 * k1)))).take 8)) := by
                intro hu
                rcases Nat.eq_zero_or_pos q with hq0 | hq0
                · have hnl : rdP (ls.drop (8 + 2 * k1)) = [] := List.eq_nil_of_length_eq_zero (by first | (rw [PL.out, hq0]; done) | rw [PL.out])
                  rw [HR.out, if_pos (.inl (by rw [HLS.out]; omega)), hnl]
                  simp [okL]
                · rw [HR.out, if_neg (by rw [HLS.out]; omega), if_neg (by rw [huq]; exact hu)]
              clear huq HR
              have cT := bT.cells
              have lT := bT.lt
              have cTa := (bT.alloc (.cells #[.slice none 0 0, .bool false, .int .i64 0, .slice none 0 0, .int .i64 0, .int .i64 0, .int .i64 0, .slice none 0 0] 31)).cells
              go_wp2_with fail
              go_region_law (go_simp; go_at_call 66; refine (l3Read_any (some ⟨b, off + (1 + 3 * j) + (8 + 2 * k1), none⟩) q (c - (1 + 3 * j) - (8 + 2 * k1)) (ls.drop (8 + 2 * k1)) _ ((hb3.drop (8 + 2 * k1)).new (by first | exact (New.refl _).drew | exact ((New.refl _).alloc _).drew)) RL.out (by omega)).mono ?_; rintro e w5 ⟨v5, rfl, hQ5, hn5⟩; have bT5 := bT.new (New.trans (by first | exact (New.refl _).drew | exact ((New.refl _).alloc _).drew) hn5); have cT5 := bT5.cells; have cT5a := (bT5.alloc (.cells #[.slice none 0 0, .bool false, .int .i64 0, .slice none 0 0, .int .i64 0, .int .i64 0, .int .i64 0, .slice none 0 0] 31)).cells; obtain ⟨ra, rc, hv5, hps5, hrb5⟩ := hQ5.ps PB.out; obtain ⟨ra', rc', hv5', hra5, hlc5, hf5⟩ := hQ5.form; subst hv5; simp only [Value.slice.injEq] at hv5'; obtain ⟨rfl, -, rfl⟩ := hv5'; (rw [PL.out] at hQ5 hra5 ⊢); first | (have bU5 := ((Blk.mk (w3.alloc (.cells #[.int .i64 o, .slice xa k1 xc, .int .i64 X, .int .i64 Y, .int .i64 Z] 29)) (w3.heap.size + 1) 31 #[.slice none 0 0, .bool false, .int .i64 0, .slice none 0 0, .int .i64 0, .int .i64 0, .int .i64 0, .slice none 0 0] (by simp)).new ((New.refl _).drew)).new hn5; have cU5 := bU5.cells; have fU5 := bU5.frees; have lU5 := bU5.lt) | skip)
              all_goals
                first
                | (have hQ6a := hQ5.low (lo' := w3.heap.size + 2) (by simp); have M6 : New (w3.alloc (.cells #[.int .i64 o, .slice xa k1 xc, .int .i64 X, .int .i64 Y, .int .i64 Z] 29)) w5 := (((New.refl _).alloc _).drew).trans hn5; have b6 := (((((((bU5.set 0 (.slice a1 j c1)).set 1 (.bool true)).set 2 (.int .i64 o)).set 3 (.slice xa k1 xc)).set 4 (.int .i64 X)).set 5 (.int .i64 Y)).set 6 (.int .i64 Z)).set 7 (.slice ra q rc); have T6 := Turn.here (B := w3.heap.size + 1) (j := 7) (Turn.here (B := w3.heap.size + 1) (j := 6) (Turn.here (B := w3.heap.size + 1) (j := 5) (Turn.here (B := w3.heap.size + 1) (j := 4) (Turn.here (B := w3.heap.size + 1) (j := 3) (Turn.here (B := w3.heap.size + 1) (j := 2) (Turn.here (B := w3.heap.size + 1) (j := 1) (Turn.here (B := w3.heap.size + 1) (j := 0) (Turn.refl _ w5) (.slice a1 j c1)) (.bool true)) (.int .i64 o)) (.slice xa k1 xc)) (.int .i64 X)) (.int .i64 Y)) (.int .i64 Z)) (.slice ra q rc); simp only [List.setIfInBounds_toArray, List.set_cons_zero, List.set_cons_succ] at b6; have bR6 := (bR3.new M6).turn T6 (by omega); have N6 := (N3.trans M6).before T6 (fun i hi e => by omega); have hq6 : OwQ _ (w.heap.size + 1) (.slice a1 j c1) (gnL zs j) := (hq3.new M6).turnB T6 (fun g hg e => by have := hqb g hg; omega); have hM6 : OwM _ wr.heap.size (.slice xa k1 xc) (nsR ls k1) := (hM4.new M6).turnB T6 (fun g hg e => by have := hMb g hg; omega); have hQ6 := (hQ6a.turn T6 (fun g hg e => by omega)).low (lo' := w3.heap.size) (by omega); clear T6 M6 hQ6a bU5 cU5 fU5 lU5)
                | (have M6 : New (w3.alloc (.cells #[.int .i64 o, .slice xa k1 xc, .int .i64 X, .int .i64 Y, .int .i64 Z] 29)) w5 := ((New.refl _).drew).trans hn5; have b6 := Blk.mk w5 w5.heap.size 31 #[.slice a1 j c1, .bool true, .int .i64 o, .slice xa k1 xc, .int .i64 X, .int .i64 Y, .int .i64 Z, .slice ra q rc] rfl; have T6 := (New.refl w5).alloc (.cells #[.slice a1 j c1, .bool true, .int .i64 o, .slice xa k1 xc, .int .i64 X, .int .i64 Y, .int .i64 Z, .slice ra q rc] 31); have bR6 := (bR3.new M6).new T6; have N6 := (N3.trans M6).trans T6; have hq6 : OwQ _ (w.heap.size + 1) (.slice a1 j c1) (gnL zs j) := (hq3.new M6).new T6; have hM6 : OwM _ wr.heap.size (.slice xa k1 xc) (nsR ls k1) := (hM4.new M6).new T6; have hQ6 := (hQ5.new T6).low (lo' := w3.heap.size) (by simp); clear T6 M6)
                have hrb := hQ6.blk
                clear hQ5 hn5 bT5 cT5 cT5a hps5 hrb5 hlc5 hf5 cT lT cTa bT bR3 N3 hps3 hq3 hb3 hM4
                have cU := b6.cells
                have hpg := hq6.ps' HB.out
                have hnx := hM6.ns' NB.out
                have hpr := hQ6.ps' PB.out
                go_wp2_with fail
                refine (specUF a1 xa ra j c1 k1 xc q rc true o X Y Z (gnL zs j) (rdP (ls.drop (8 + 2 * k1))) (nsR ls k1) _ hpg hnx hpr HL.out (nsR_len _ _) PL.out (by omega) (by omega) (by omega)).mono ?_
                rintro e w7 ⟨rfl, hn7⟩
                rw [HUF.out]
                have b7 := b6.new hn7
                have bR7 := bR6.new hn7
                have N7 := N6.trans hn7
                have hq7 := hq6.new hn7
                have hM7 := hM6.new hn7
                have hQ7 := hQ6.new hn7
                have hpg7 := hpg.new hn7
                have hpr7 := hpr.new hn7
                clear b6 bR6 N6 hq6 hM6 hQ6 hpg hnx hpr hn7 cU
                have cU := b7.cells
                have cR := bR7.cells
                have fR := bR7.frees
                have lR := bR7.lt
                by_cases hu : uq = 0
                · have HPS : Hid (pu zs = puA (gnL zs j) k1 ls) := HP0.out hu
                  subst hu
                  go_wp2
                  refine bodyPost_ret (v := .agg #[.int .i64 0, .bool false, .slice a1 j c1, .bool true, .int .i64 o, .slice xa k1 xc, .int .i64 X, .int .i64 Y, .int .i64 Z, .slice ra q rc]) (by simp [results, Try.results46, go_sem, cR]) rfl ?_
                  refine (fun (hT : Turn (fun k => k = w.heap.size) w7 _) => ⟨.slice a1 j c1, .slice xa k1 xc, .slice ra q rc, by rw [HPS.out]; unfold puV; rw [HO.out, HX.out, HY.out, HZ2.out]; rfl, by rw [HPS.out]; exact ⟨(hq7.turn hT (fun g hg e => by omega)).low (Nat.le_succ _), (hM7.turn hT (fun g hg e => by omega)).low (by omega), (hQ7.turn hT (fun g hg e => by omega)).low (by omega), (fun bb e1 e2 => by have := hqb bb e1; have := hMb bb e2; omega), (fun bb e1 e2 => by have := hqb bb e1; have := hrb bb e2; omega), (fun bb e1 e2 => by have := hMb bb e1; have := hrb bb e2; omega)⟩, N7.before hT (fun i hi e => by omega)⟩) ?_
                  exact Turn.here (Turn.here (Turn.here (Turn.here (Turn.here (Turn.here (Turn.here (Turn.here (Turn.here (Turn.here (Turn.refl _ _) _) _) _) _) _) _) _) _) _) _
                · have HPS : Hid (pu zs = puS ((gnL zs j ++ okL (rdP (ls.drop (8 + 2 * k1)))).take 8)) := HP1.out hu
                  have hu' : ¬ uq = 0 := hu
                  go_wp2_with fail
                  refine (l3Soft_any a1 ra j c1 q rc (gnL zs j) (rdP (ls.drop (8 + 2 * k1))) _ hpg7 hpr7 HL.out PL.out f1 hra5 (by omega) (by omega)).mono ?_
                  rintro e w9 ⟨ta, tm, tc, rfl, hq9, hn9⟩
                  have bR9 := bR7.new hn9
                  have N9 := N7.trans hn9
                  have hsz9 := N7.size
                  have hlR := bR7.lt
                  have hq9' : OwQ w9 (w.heap.size + 1) (.slice ta tm tc) ((gnL zs j ++ okL (rdP (ls.drop (8 + 2 * k1)))).take 8) := by rw [show okL (gnL zs j ++ rdP (ls.drop (8 + 2 * k1))) = gnL zs j ++ okL (rdP (ls.drop (8 + 2 * k1))) by rw [show okL (gnL zs j ++ rdP (ls.drop (8 + 2 * k1))) = okL (gnL zs j) ++ okL (rdP (ls.drop (8 + 2 * k1))) from List.filter_append .., okL_all HG.out]] at hq9; exact hq9.low (by omega)
                  have cR9 := bR9.cells
                  have fR9 := bR9.frees
                  have lR9 := bR9.lt
                  go_wp2
                  refine bodyPost_ret (v := puV (puS ((gnL zs j ++ okL (rdP (ls.drop (8 + 2 * k1)))).take 8)) (.slice ta tm tc) (.slice none 0 0) (.slice none 0 0)) (by simp [results, Try.results46, go_sem, puV, puS, cR9]) rfl ?_
                  refine (fun (hT : Turn (fun k => k = w.heap.size) w9 _) => ⟨_, _, _, by rw [HPS.out], by rw [HPS.out]; exact Got.one (p := puS ((gnL zs j ++ okL (rdP (ls.drop (8 + 2 * k1)))).take 8)) ((hq9'.turn hT (fun g hg e => by omega)).low (Nat.le_succ _)) rfl rfl, N9.before hT (fun i hi e => by omega)⟩) ?_
                  exact Turn.here (Turn.here (Turn.here (Turn.here (Turn.here (Turn.here (Turn.here (Turn.here (Turn.here (Turn.here (Turn.refl _ _) _) _) _) _) _) _) _) _) _) _

end Go.Proofs.Ytnhkmgibppiimaa
