/- What is proved here: what the laws' asking for too many bytes answers. What is proved here: for every list of bytes the law that an update that cannot be read whole only takes back returns true, and the list reads as it did, where the library's table of powers of ten lies as it is laid. What is proved here: for every list of bytes the law that an update that cannot be read whole only takes back returns true, and the bytes read as they did. The three tables of the library that the row lists lie as the program's text lays them (the card ties them to it). -/
import Derived.Test.YtohngojiomgoeaaDoorBytes
import Derived.Test.YtohngojiomgoeaaDoorRows
import Derived.Test.YtohngojiomgoeaaDoorOpen
import Derived.Test.YtohngojiomgoeaaDoorDrAll
import Derived.Test.YtohngojiomgoeaaDoorSdAll
import Derived.Test.YtohngojiomgoeaaDoorPuAll
import Derived.Test.YtohngojiomgoeaaDoorTxAll
import Derived.Deep.RegionHeld3
import Derived.Test.YtohngojiomgoeaaDoorTie
import Derived.Test.YtohngojiomgoeaaDoorCards
import Derived.LaidMore
import Derived.Lay
import Derived.LaidSub
import Derived.Lib.LaidTab
import Derived.SevenTiedAt
import Derived.Stop.Joined
namespace Go.Proofs.YtohngojiomgoeaaDoor
open Go.RowKit

theorem lbig_no (a : Option Addr) (n c : Nat) (w : World) (h : ¬ 1048576 < n) : Calls Tryd.prog 4 #[.slice a n c] w fun e w' => e = .returned (.bool false) ∧ w' = w := by
  have hd : decide ((1048576 : Int) < (n : Int)) = false := by simp; omega
  go_enter Tryd.func4, Tryd.ntmps4
  go_wp2
  go_ret
  exact ⟨rfl, rfl⟩

theorem lbig_yes (a : Option Addr) (n c : Nat) (w : World) (h : 1048576 < n) : Calls Tryd.prog 4 #[.slice a n c] w fun e w' => e = .returned (.bool true) ∧ w' = w := by
  have hd : decide ((1048576 : Int) < (n : Int)) = true := by simp; omega
  go_enter Tryd.func4, Tryd.ntmps4
  go_wp2
  go_ret
  exact ⟨rfl, rfl⟩

end Go.Proofs.YtohngojiomgoeaaDoor

namespace Go.Proofs.YtohngojiomgoeaaDoor
open Go.ChangeShapes Go.WideShapes Go.ChangeAt Go.RowKit Go.Sort
set_option linter.unusedVariables false

theorem rdU_soft (gs : List (Int × Int)) (ls : List Int) : ((rdU gs ls).soft = true → (rdU gs ls).code = 1 ∧ (rdU gs ls).has = false ∧ (rdU gs ls).rs = []) ∧ ((rdU gs ls).soft = false → (rdU gs ls).code = 0) := by
  unfold rdU
  split
  · split
    · simp [puU]
    · simp [puS]
  · split
    · simp [puS]
    · split
      · simp [puA]
      · simp [puS]
theorem pu_soft (zs : List Int) : ((pu zs).soft = true → (pu zs).code = 1 ∧ (pu zs).has = false ∧ (pu zs).rs = []) ∧ ((pu zs).soft = false → (pu zs).code = 0 ∨ (pu zs).gs = []) := by
  unfold pu
  split
  · simp [puZ]
  · split
    · simp [puZ]
    · split
      · simp [puZ]
      · exact ⟨(rdU_soft _ _).1, fun h => .inl ((rdU_soft _ _).2 h)⟩
theorem dg_pos (x : Int) : 1 ≤ (dg x).length := by
  unfold dg
  rw [Lib.decDigits_length]
  exact Lib.nDigits_pos _
theorem pt_pos (xs : List Int) : 1 ≤ (pt xs).length := by
  rcases xs.eq_nil_or_concat with rfl | ⟨ys, x, rfl⟩
  · simp [pt]
  · by_cases he : ys = []
    · subst he
      simp only [List.concat_eq_append, List.nil_append]
      rw [pt_one]
      exact dg_pos x
    · rw [List.concat_eq_append, pt_snoc x he]
      simp
      omega
theorem att_len (o : Int) (xs : List Int) (nx md lc : Int) : 9 ≤ (att o xs nx md lc).length := by
  have h1 := dg_pos o
  have h2 := dg_pos nx
  have h3 := dg_pos md
  have h4 := dg_pos lc
  have h5 := pt_pos xs
  simp [att]
  omega

theorem drawAT_any (a : Option Addr) (n c : Nat) (zs : List Int) (w : World) (h : BsAt w a zs) (hn : zs.length = n) (hm : n ≤ 2097152) (ha : ∀ x, zs ≠ [] → a = some x → x.block < w.heap.size) :
    Calls Tryd.prog 8 #[.slice a n c] w fun e w' => ∃ (xs : List Int) (o nx md lc : Int) (xa : Option Addr) (xm xc : Nat), e = .returned (.agg #[.int .i64 o, .slice xa xm xc, .int .i64 nx, .int .i64 md, .int .i64 lc]) ∧ xs.length = xm ∧ xm ≤ 7 ∧ NsAt w' xa xs ∧ New w w' := by
  have HN : Hid (zs.length = n) := hn
  have hw0 := (New.refl w).alloc (.cells #[.int .i64 0, .slice none 0 0, .int .i64 0, .int .i64 0, .int .i64 0] 28)
  have bR0 := Blk.mk w w.heap.size 28 #[.int .i64 0, .slice none 0 0, .int .i64 0, .int .i64 0, .int .i64 0] rfl
  clear hn
  go_enter Tryd.func8, Tryd.ntmps8
  go_wp2_with fail
  refine (source_any a n c zs _ (h.new hw0) HN.out hm (fun x hz hx => by have := ha x hz hx; simp; omega)).mono ?_
  rintro e w1 ⟨B, rfl, hB, hs1, hn1⟩
  have hB' : w.heap.size + 1 ≤ B := by simpa using hB
  have lB := hs1.blk.lt
  go_wp2_with fail
  refine (l3BentAttrs_sc hs1 (by omega)).mono ?_
  rintro e w2 ⟨o, nx, md, lc, xs, xa, xc, m, t2, rfl, hl, hm7, hlo, hhi, hxs, ht2, hM, hs2, htn⟩
  have HX : Hid (xs.length = m) := hl
  have bR2 := (bR0.new hn1).turn htn (by omega)
  have N2 : New w w2 := (hw0.trans hn1).before htn (fun i hi e => by omega)
  have s1 := hn1.size
  have hs1' : w.heap.size + 1 ≤ w1.heap.size := by simpa using s1
  have pn := hM.nsB' (fun z hz => by have := hxs z hz; unfold In6; omega)
  have kM := hM.blk
  clear hl hM htn bR0 hw0 hs2
  have cR := bR2.cells
  have fR := bR2.frees
  have lR := bR2.lt
  go_wp2
  refine bodyPost_ret (v := .agg #[.int .i64 o, .slice xa m xc, .int .i64 nx, .int .i64 md, .int .i64 lc]) (by simp [results, Tryd.results8, go_sem, cR]) rfl ?_
  refine (fun (hT : Turn (fun k => k = w.heap.size) w2 _) => ⟨xs, o, nx, md, lc, xa, m, xc, rfl, HX.out, hm7, pn.turn hT (fun x _ hx e => by have := kM x.block (by rw [hx]; rfl); omega), N2.before hT (fun i hi e => by omega)⟩) ?_
  exact Turn.here (Turn.here (Turn.here (Turn.here (Turn.here (Turn.refl _ _) _) _) _) _) _

theorem implAF_is (o nx md lc : Int) (a : Option Addr) (n c : Nat) (xs : List Int) (q : Int) (w : World) (h : NsAt w a xs) (hn : xs.length = n) (hm : n ≤ 1048576) (hq : af o xs nx md lc = q) :
    Calls Tryd.prog 10 #[.agg #[.int .i64 o, .slice a n c, .int .i64 nx, .int .i64 md, .int .i64 lc]] w fun e w' => e = .returned (.int .i64 q) ∧ New w w' := hq ▸ implAF o nx md lc a n c xs w h hn hm

set_option maxRecDepth 100000 in
set_option maxHeartbeats 6400000 in
theorem fnso_walk (a : Option Addr) (n c : Nat) (zs : List Int) (w : World) (h : BsAt w a zs) (hn : zs.length = n) (hm : n ≤ maxLen) (ht : Tab w) :
    Calls Tryd.prog 3 #[.slice a n c] w fun e w' => e = .returned (.bool true) ∧ New w w' := by
  by_cases hbig : 1048576 < n
  · go_enter Tryd.func3, Tryd.ntmps3
    go_wp2_with fail
    refine (lbig_yes a n c _ hbig).mono ?_
    rintro e w1 ⟨rfl, rfl⟩
    go_wp2
    go_ret
    exact ⟨rfl, New.refl _⟩
  · have HN : Hid (zs.length = n) := hn
    have ha : ∀ W, New w W → ∀ x, zs ≠ [] → a = some x → x.block < W.heap.size := by
      intro W hN x hz hx
      obtain ⟨b, off, e, hb⟩ := h.block_lt hz
      rw [e] at hx
      obtain rfl := Option.some.inj hx
      have := hN.size
      simp only
      omega
    clear hn hm
    go_enter Tryd.func3, Tryd.ntmps3
    go_wp2_with fail
    refine (lbig_no a n c _ hbig).mono ?_
    rintro e w1 ⟨rfl, rfl⟩
    go_wp2_with fail
    refine (drawParse_any a n c zs _ h HN.out (by omega) (ha _ (New.refl _))).mono ?_
    rintro e w2 ⟨g2, m2, cap2, ys, rfl, hm2, hc2, hl2, hg2, hlt2, hb2, hn2⟩
    have HL : Hid (ys.length = m2) := hl2
    clear hl2
    go_wp2_with fail
    refine (implParse _ m2 cap2 ys _ hb2 HL.out hc2 (by omega)).mono ?_
    rintro e w3 ⟨x3, y3, z3, rfl, hG3, hn3⟩
    have HBd : Bd (pu ys) := pu_bd ys hb2.lt (by rw [HL.out]; omega)
    have HUF : Hid (ufU (pu ys) = 0) := pu_uf ys
    have hsoft := pu_soft ys
    generalize hP : pu ys = P at *
    have HP : Hid (pu ys = P) := hP
    clear hP
    obtain ⟨code, soft, gs, has, o, xs, nx, md, lc, rs⟩ := P
    simp only at hsoft
    obtain ⟨ga3, gc3, ex⟩ := hG3.g.slice
    obtain ⟨xa3, xc3, ey⟩ := hG3.n.slice
    obtain ⟨ra3, rc3, ez⟩ := hG3.r.slice
    subst ex
    subst ey
    subst ez
    simp only at hG3
    have pg := hG3.g.psA HBd.g
    have pn := hG3.n.nsA HBd.n
    have pr := hG3.r.psA HBd.r
    unfold puV
    simp only
    have HU : Hid (uf gs has o xs nx md lc rs = 0) := HUF.out
    have hl1 := HBd.lg
    have hl2 := HBd.ln
    have hl3 := HBd.lr
    simp only at hl1 hl2 hl3
    have hal3 := (New.refl w3).alloc (.cells #[.int .i64 code, .bool soft, .slice ga3 gs.length gc3, .bool has, .int .i64 o, .slice xa3 xs.length xc3, .int .i64 nx, .int .i64 md, .int .i64 lc, .slice ra3 rs.length rc3] 32)
    have b3 := Blk.mk w3 w3.heap.size 32 #[.int .i64 code, .bool soft, .slice ga3 gs.length gc3, .bool has, .int .i64 o, .slice xa3 xs.length xc3, .int .i64 nx, .int .i64 md, .int .i64 lc, .slice ra3 rs.length rc3] rfl
    have hnn3 := hn3.trans hal3
    have N3 := hn2.trans hnn3
    have hb3 := hb2.new hnn3
    have pg3 := pg.new hal3
    have pn3 := pn.new hal3
    have pr3 := pr.new hal3
    clear hG3 hb2 hn3 pg pn pr hal3 hnn3 HUF HBd
    have c3 := b3.cells
    cases soft with
    | false =>
      have hs := hsoft.2 rfl
      clear hsoft
      go_wp2_with fail
      refine (specParse _ m2 cap2 ys _ hb3 HL.out hc2 (by omega)).mono ?_
      rintro e w4 ⟨x4, y4, z4, rfl, hG4, hn4⟩
      rw [HP.out] at hG4 ⊢
      obtain ⟨ga4, gc4, ex⟩ := hG4.g.slice
      obtain ⟨xa4, xc4, ey⟩ := hG4.n.slice
      obtain ⟨ra4, rc4, ez⟩ := hG4.r.slice
      subst ex
      subst ey
      subst ez
      simp only at hG4
      unfold puV
      simp only
      have hal4 := (New.refl w4).alloc (.cells #[.int .i64 code, .bool false, .slice ga4 gs.length gc4, .bool has, .int .i64 o, .slice xa4 xs.length xc4, .int .i64 nx, .int .i64 md, .int .i64 lc, .slice ra4 rs.length rc4] 32)
      have b4 := Blk.mk w4 w4.heap.size 32 #[.int .i64 code, .bool false, .slice ga4 gs.length gc4, .bool has, .int .i64 o, .slice xa4 xs.length xc4, .int .i64 nx, .int .i64 md, .int .i64 lc, .slice ra4 rs.length rc4] rfl
      have hnn4 := hn4.trans hal4
      have b34 := b3.new hnn4
      have N4 := N3.trans hnn4
      clear c3
      have c3 := b34.cells
      have c3w := (b3.new hn4).cells
      have l3w := (b3.new hn4).lt
      have c4 := b4.cells
      have hcc : (code == code) = true := by simp
      have hhh : (has == has) = true := by simp
      have hgg : (((gs.length : Nat) : Int) == ((gs.length : Nat) : Int)) = true := by simp
      by_cases hc0 : code = 0
      · subst hc0
        go_wp2
        go_ret
        exact ⟨rfl, N4⟩
      · have hc0' : (code == 0) = false := by simpa using hc0
        have hgs : gs = [] := by rcases hs with h | h; exact absurd h hc0; exact h
        subst hgs
        go_wp2
        go_ret
        exact ⟨rfl, N4⟩
    | true =>
      obtain ⟨rfl, rfl, rfl⟩ := hsoft.1 rfl
      clear hsoft
      go_wp2_with fail
      refine (drawAT_any a n c zs _ (h.new N3) HN.out (by omega) (ha _ N3)).mono ?_
      rintro e w5 ⟨xsA, oA, nxA, mdA, lcA, xaA, xm, xcA, rfl, lxA, hxm, pnA, hn5⟩
      have HX : Hid (xsA.length = xm) := lxA
      have hal5 := (New.refl w5).alloc (.cells #[.int .i64 oA, .slice xaA xm xcA, .int .i64 nxA, .int .i64 mdA, .int .i64 lcA] 28)
      have b5 := Blk.mk w5 w5.heap.size 28 #[.int .i64 oA, .slice xaA xm xcA, .int .i64 nxA, .int .i64 mdA, .int .i64 lcA] rfl
      have hnn5 := hn5.trans hal5
      have b35 := b3.new hnn5
      have N5 := N3.trans hnn5
      have hb5 := hb3.new hnn5
      have pn5 := pnA.new hal5
      have qg5 := pg3.new hnn5
      have qn5 := pn3.new hnn5
      have qr5 := pr3.new hnn5
      clear lxA c3 b3 pnA hn5 hal5 hnn5 N3 hb3 pg3 pn3 pr3
      have c5 := b5.cells
      go_wp2_with fail
      refine (implAT oA nxA mdA lcA xaA xm xcA xsA _ pn5 HX.out (by omega) (ht.new N5)).mono ?_
      rintro e w6 ⟨rfl, hn6⟩
      have HT1 : Hid ((tat oA xsA nxA mdA lcA).1 = af oA xsA nxA mdA lcA) := by unfold Hid tat; split <;> simp_all
      have HT2 : Hid (af oA xsA nxA mdA lcA = 0 → 9 ≤ (tat oA xsA nxA mdA lcA).2.length) := by intro h; unfold tat; rw [if_pos h]; exact att_len _ _ _ _ _
      rw [HT1.out]
      generalize (tat oA xsA nxA mdA lcA).2 = tx at *
      generalize hq : af oA xsA nxA mdA lcA = q at *
      have HQ : Hid (af oA xsA nxA mdA lcA = q) := hq
      clear hq HT1
      have hal6 := (New.refl w6).alloc (.cells #[.int .i64 q, .string ⟨tx.toArray⟩] 36)
      have b6 := Blk.mk w6 w6.heap.size 36 #[.int .i64 q, .string ⟨tx.toArray⟩] rfl
      have hnn6 := hn6.trans hal6
      have b36 := b35.new hnn6
      have b56 := b5.new hnn6
      have N6 := N5.trans hnn6
      have hb6 := hb5.new hnn6
      have pn6 := pn5.new hnn6
      have qg6 := qg5.new hnn6
      have qn6 := qn5.new hnn6
      have qr6 := qr5.new hnn6
      clear c5 b35 b5 N5 hb5 pn5 qg5 qn5 qr5 hn6 hal6 hnn6
      have c6 := blk_regrown b6
      have c56 := blk_regrown b56
      have htl : q = 0 → ¬ ((tx.length : Nat) : Int) < 9 := fun h => by have := HT2.out h; omega
      by_cases hq0 : q = 0
      · subst hq0
        have h9 := htl rfl
        have h9' : decide (((tx.length : Nat) : Int) < 9) = false := by simpa using h9
        have haf0 := HQ.out
        go_wp2_with fail
        refine wp_region_quiet_below (by kernel_rfl) (by kernel_rfl) ?_
        repeat (go_big_quiet_step ((go_at_call 10; exact calls_regrown (implAF_is oA nxA mdA lcA xaA xm xcA xsA 0 _ (pn6.new (new_regrown _ _ _)) HX.out (by omega) HQ.out))))
        refine wpQuiet_nil ?_
        rintro w7 hn7
        replace hn7 := new_of_regrown hn7
        have b37 := b36.new hn7
        have N7 := N6.trans hn7
        have hb7 := hb6.new hn7
        have qg7 := qg6.new hn7
        have qn7 := qn6.new hn7
        have qr7 := qr6.new hn7
        clear c6 c56 b36 b56 b6 N6 hb6 pn6 qg6 qn6 qr6 hn7
        have c3 := b37.cells
        have hf1 : ∀ (c2 : Int) (s : Bool) (x2 : Value) (h2 : Bool) (o2 : Int) (y2 : Value) (n2 d2 l2 : Int) (z2 : Value) (X : World), (Instr.field 32 (.agg #[.int .i64 c2, .bool s, x2, .bool h2, .int .i64 o2, y2, .int .i64 n2, .int .i64 d2, .int .i64 l2, z2]) 2).run Tryd.prog X = .ok (.agg #[x2, .bool h2, .int .i64 o2, y2, .int .i64 n2, .int .i64 d2, .int .i64 l2, z2]) X := fun _ _ _ _ _ _ _ _ _ _ _ => by kernel_rfl
        have hf2 : ∀ (x2 : Value) (h2 : Bool) (o2 : Int) (y2 : Value) (n2 d2 l2 : Int) (z2 : Value) (X : World), (Instr.field 30 (.agg #[x2, .bool h2, .int .i64 o2, y2, .int .i64 n2, .int .i64 d2, .int .i64 l2, z2]) 0).run Tryd.prog X = .ok x2 X := fun _ _ _ _ _ _ _ _ _ => by kernel_rfl
        go_wp2_with fail
        go_region_held3 (fun X => ∀ i, X.cell? ⟨w3.heap.size, i, none⟩ = #[Value.int .i64 1, .bool true, .slice ga3 gs.length gc3, .bool false, .int .i64 o, .slice xa3 xs.length xc3, .int .i64 nx, .int .i64 md, .int .i64 lc, .slice ra3 0 rc3][i]?) (first | exact c3 | exact k8 | exact k9)
          (first
          | (go_at_call 11; refine (implUF ga3 xa3 ra3 gs.length gc3 xs.length xc3 0 rc3 false o nx md lc gs [] xs _ (qg7.new ((New.refl _).drew)) (qn7.new ((New.refl _).drew)) (qr7.new ((New.refl _).drew)) rfl rfl rfl hl1 hl2 (by omega)).mono ?_; rintro e w8 ⟨rfl, hn8⟩; (rw [HU.out]); have N8 : New w7 w8 := ((New.refl _).drew).trans hn8; have k8 := (b37.new N8).cells)
          | (go_at_call 7; refine (specParse _ m2 cap2 ys _ (hb7.new N8) HL.out hc2 (by omega)).mono ?_; rintro e w9 ⟨x9, y9, z9, rfl, hG9, hn9⟩; (rw [HP.out] at hG9 ⊢); obtain ⟨ga9, gc9, ex⟩ := hG9.g.slice; subst ex; obtain ⟨xa9, xc9, ey⟩ := hG9.n.slice; subst ey; obtain ⟨ra9, rc9, ez⟩ := hG9.r.slice; subst ez; unfold puV; simp only; have N9 := N8.trans hn9; have k9 := (b37.new N9).cells))
        all_goals
          go_wp2
          go_ret
          exact ⟨rfl, N7.trans N9⟩
      · have hq0' : (q == 0) = false := by simpa using hq0
        go_wp2_with fail
        refine wp_region_quiet_below (by kernel_rfl) (by kernel_rfl) ?_
        repeat (go_big_quiet_step ((go_at_call 10; exact calls_regrown (implAF_is oA nxA mdA lcA xaA xm xcA xsA q _ (pn6.new (new_regrown _ _ _)) HX.out (by omega) HQ.out))))
        refine wpQuiet_nil ?_
        rintro w7 hn7
        replace hn7 := new_of_regrown hn7
        have b37 := b36.new hn7
        have N7 := N6.trans hn7
        have hb7 := hb6.new hn7
        have qg7 := qg6.new hn7
        have qn7 := qn6.new hn7
        have qr7 := qr6.new hn7
        clear c6 c56 b36 b56 b6 N6 hb6 pn6 qg6 qn6 qr6 hn7
        have c3 := b37.cells
        have hf1 : ∀ (c2 : Int) (s : Bool) (x2 : Value) (h2 : Bool) (o2 : Int) (y2 : Value) (n2 d2 l2 : Int) (z2 : Value) (X : World), (Instr.field 32 (.agg #[.int .i64 c2, .bool s, x2, .bool h2, .int .i64 o2, y2, .int .i64 n2, .int .i64 d2, .int .i64 l2, z2]) 2).run Tryd.prog X = .ok (.agg #[x2, .bool h2, .int .i64 o2, y2, .int .i64 n2, .int .i64 d2, .int .i64 l2, z2]) X := fun _ _ _ _ _ _ _ _ _ _ _ => by kernel_rfl
        have hf2 : ∀ (x2 : Value) (h2 : Bool) (o2 : Int) (y2 : Value) (n2 d2 l2 : Int) (z2 : Value) (X : World), (Instr.field 30 (.agg #[x2, .bool h2, .int .i64 o2, y2, .int .i64 n2, .int .i64 d2, .int .i64 l2, z2]) 0).run Tryd.prog X = .ok x2 X := fun _ _ _ _ _ _ _ _ _ => by kernel_rfl
        go_wp2_with fail
        go_region_held3 (fun X => ∀ i, X.cell? ⟨w3.heap.size, i, none⟩ = #[Value.int .i64 1, .bool true, .slice ga3 gs.length gc3, .bool false, .int .i64 o, .slice xa3 xs.length xc3, .int .i64 nx, .int .i64 md, .int .i64 lc, .slice ra3 0 rc3][i]?) (first | exact c3 | exact k8 | exact k9)
          (first
          | (go_at_call 11; refine (implUF ga3 xa3 ra3 gs.length gc3 xs.length xc3 0 rc3 false o nx md lc gs [] xs _ (qg7.new ((New.refl _).drew)) (qn7.new ((New.refl _).drew)) (qr7.new ((New.refl _).drew)) rfl rfl rfl hl1 hl2 (by omega)).mono ?_; rintro e w8 ⟨rfl, hn8⟩; (rw [HU.out]); have N8 : New w7 w8 := ((New.refl _).drew).trans hn8; have k8 := (b37.new N8).cells)
          | (go_at_call 7; refine (specParse _ m2 cap2 ys _ (hb7.new N8) HL.out hc2 (by omega)).mono ?_; rintro e w9 ⟨x9, y9, z9, rfl, hG9, hn9⟩; (rw [HP.out] at hG9 ⊢); obtain ⟨ga9, gc9, ex⟩ := hG9.g.slice; subst ex; obtain ⟨xa9, xc9, ey⟩ := hG9.n.slice; subst ey; obtain ⟨ra9, rc9, ez⟩ := hG9.r.slice; subst ez; unfold puV; simp only; have N9 := N8.trans hn9; have k9 := (b37.new N9).cells))
        all_goals
          go_wp2
          go_ret
          exact ⟨rfl, N7.trans N9⟩

end Go.Proofs.YtohngojiomgoeaaDoor

namespace Go.Proofs.YtohngojiomgoeaaDoor
open Go.ChangeShapes Go.WideShapes Go.ChangeAt Go.RowKit Go.Sort
set_option linter.unusedVariables false

theorem laid_tab : (Rows.laid_internal_strconv_uint64pow10 : DataW Unit) = Lib.tabData .u64 Lib.pow10Tab := by kernel_rfl

theorem tab_of_laid {W : World} (h : laidMetH Tryd.prog Rows.fnSoftsRow.laid W) : Tab W := by
  rw [MakeChecks.laidMetH_plain _ _ _ (by kernel_rfl)] at h
  have h2 : laidMet Tryd.prog [("internal/strconv.uint64pow10", Rows.laid_internal_strconv_uint64pow10)] W := h.filter (fun x => x.1 == "internal/strconv.uint64pow10")
  rw [laid_tab] at h2
  exact Lib.tabIs_of_head Tryd.gPow (by kernel_rfl) Tryd.underlying113 Tryd.underlying102 (by kernel_rfl) (by kernel_rfl) h2

set_option maxRecDepth 100000 in
theorem fnso_lifted (os : Os) (started : os.Started) (H : Type) (enc : TypeId × Value → H) :
    ReturnsInHanded {} Tryd.checked os 3 .any (fun w args => (Rows.fnSoftsSpec.pre enc Tryd.prog Tryd.f3 Rows.fnSoftsRow.domain false w args ∧ laidMetH Tryd.prog Rows.fnSoftsRow.laid w) ∧ sizedMet enc Tryd.prog Tryd.f3 (OpenSpec.ofChange Rows.fnSoftsSpec) false w args)
      (Rows.fnSoftsSpec.post enc Tryd.prog Tryd.f3 false true false false) := by
  refine returnsInHanded_of_change_and (C := Tryd.checked) (X := fun w _ => laidMetH Tryd.prog Rows.fnSoftsRow.laid w) (fun _ _ _ hh h => h.of_heap hh) own started (by kernel_rfl) Tryd.func3
    (ChangeSpec.witness_shaped (enc := enc) (C := Tryd.checked) (os := os) (X := fun w _ => laidMetH Tryd.prog Rows.fnSoftsRow.laid w) false (World.laidAll Tryd.prog os Rows.fnSoftsRow.laid) #[.slice none 0 0] 8 (World.laidAll_os _ _ _)
      (World.shaped_of_ZipB (by kernel_rfl) (by kernel_rfl)) (by kernel_rfl) (by kernel_rfl) (by kernel_rfl)
      (by rw [MakeChecks.laidMetH_plain _ _ _ (by kernel_rfl)]; exact laidMet_laidAll _ (by kernel_rfl) (by kernel_rfl))) ?_
  intro W base args ds gs before hval0 hW hcnd _ hL _
  have hval : ∀ (j : Nat) t v, Tryd.f3.params[j]? = some t → args[j]? = some v → Value.okWide Tryd.prog W .any base t v := hval0
  have hW' := hW
  obtain ⟨p, q, hA0, hV, rfl, hfz, hnd⟩ := hW
  have hA : DataW.TrodAll enc Tryd.prog W 0 (fun _ => true) true Tryd.f3.params.toList args.toList ds p := hA0
  rw [Tryd.params3] at hA hval
  obtain ⟨v0, vs0, d0, ds0, p0, q0, hargs, rfl, rfl, h0, r0⟩ := trodAll_cons hA
  obtain ⟨rfl, rfl, rfl⟩ := trodAll_nil r0
  obtain rfl : args = #[v0] := by cases args; simp_all
  obtain ⟨rfl, rfl⟩ := trodVars_none hV
  have k0 := h0
  have lt0 : ∀ x ∈ p0, x.block < W.heap.size := by obtain ⟨m, hm⟩ := k0; exact DataW.trod_lt m _ _ _ hm
  obtain ⟨a0, len0, cap0, rfl⟩ := okWide_slice Tryd.underlying22 (hval 0 22 v0 rfl rfl)
  obtain ⟨z0, b0, e0, m0⟩ := open_bytes h0
  clear hA0 hval0
  refine (fnso_walk a0 len0 cap0 z0 W b0 e0 m0.2 (tab_of_laid hL)).mono fun e W' ⟨he, new⟩ => ?_
  have bel := new.below
  subst he
  exact ⟨_, rfl, _, _, _, [], _, [], hW', trodAll_mk1 (shut_bool Tryd.underlying4 _), (trodAll_cons_mk (Below.trod laidOut (by kernel_rfl) (of_decide_eq_true (by kernel_rfl)) k0 bel lt0) trodAll_mk0), rfl, bel.frame _, fun h => by cases h⟩

theorem fnso_row : Rows.FnSoftsSaid :=
  OpenClaim.holds_of_wide 3 Tryd.f3 rfl rfl rfl rfl rfl rfl rfl ⟨rfl, rfl, rfl, rfl, rfl⟩ rfl rfl rfl rfl rfl (by kernel_rfl) Tryd.func3 (by kernel_rfl)
    (of_decide_eq_true (by kernel_rfl)) (by unfold Func.isWrapper; first | (rw [if_pos (by decide +kernel)]; kernel_rfl) | (rw [if_neg (by decide +kernel)]; exact ⟨rfl, rfl⟩))
    (fun os started H enc _ => fnso_lifted os started H enc)

theorem fnso_holds : Rows.FnSoftsCardSaid :=
  Claim7.holds_tied_plain_at .later [] [.data, .data, .data] true (true, Rows.fnSoftsCard.stood.harness.2) true
    fnso_row (fun _ h => by cases h) (by kernel_rfl) (fun _ h => by cases h) fnSofts_row_tie rfl ⟨rfl, rfl⟩ (by kernel_rfl) rfl
    (fun f fn hf hfn => by
      obtain rfl : f = 3 := Option.some.inj ((show Tryd.prog.funcNamed Rows.fnSoftsRow.func = some 3 by kernel_rfl).symm.trans hf) |>.symm
      obtain rfl : fn = Tryd.f3 := (Option.some.inj (Tryd.func3.symm.trans hfn)).symm
      exact ⟨by kernel_rfl, fun j t ht => by
        rw [Tryd.params3] at ht
        have h3 : t = 22 := by
          rcases j with _ | j
          · simpa using ht.symm
          · simp at ht
        subst h3
        exact (show Tryd.prog.wantsStandIn 22 = false by kernel_rfl)⟩)
    (by kernel_rfl)

end Go.Proofs.YtohngojiomgoeaaDoor
