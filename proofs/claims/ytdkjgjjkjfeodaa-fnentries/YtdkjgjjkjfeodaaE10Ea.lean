/- What is proved here: what the program's look at the entry ahead answers, for every list of at most 1048576 bytes. -/
import Derived.Test.YtdkjgjjkjfeodaaE10Mx
import Derived.Test.YtdkjgjjkjfeodaaS9St
import Derived.Deep.RegionHeld3
import Derived.Deep.CutRange
namespace Go.Proofs.Ytdkjgjjkjfeodaa
open Go.RowKit
set_option linter.unusedVariables false
set_option linter.unusedSimpArgs false
set_option maxRecDepth 100000

theorem cell_set10 {w : World} {p : Addr} {u : Value} {B j : Nat} (h : ¬ p.block = B) : (w.setCell p u).cell? ⟨B, j, none⟩ = w.cell? ⟨B, j, none⟩ := World.cell?_of_block (Below.heap_setCell w p u B (fun e => h e.symm))

theorem eqB_yes (a b : Option Addr) (n c d : Nat) (xs : List Int) (w : World) (ha : BsAt w a xs) (hb : BsAt w b xs) (hn : xs.length = n) (na : a = none → n = 0 ∧ c = 0) (nb : b = none → n = 0 ∧ d = 0) :
    Calls Try.prog 74 #[.slice a n c, .slice b n d] w fun e w' => e = .returned (.bool true) ∧ w' = w := by
  have r1 := run_str9 a n c xs w ha hn na
  have r2 := run_str9 b n d xs w hb hn nb
  have r3 := str_eq_self (str9 xs)
  go_enter Try.func74, Try.ntmps74
  go_wp2
  go_ret
  exact ⟨rfl, rfl⟩

theorem eqB_no (a b : Option Addr) (n c m d : Nat) (xs ys : List Int) (w : World) (ha : BsAt w a xs) (hb : BsAt w b ys) (hn : xs.length = n) (hm : ys.length = m) (na : a = none → n = 0 ∧ c = 0) (nb : b = none → m = 0 ∧ d = 0) (hne : ¬ xs = ys) :
    Calls Try.prog 74 #[.slice a n c, .slice b m d] w fun e w' => e = .returned (.bool false) ∧ w' = w := by
  have r1 := run_str9 a n c xs w ha hn na
  have r2 := run_str9 b m d ys w hb hm nb
  have r3 := str_eq_of (a := str9 xs) (b := str9 ys) (fun e => hne (str9_inj ha.lt hb.lt e))
  have r4 := str_list_of (a := str9 xs) (b := str9 ys) (fun e => hne (str9_inj ha.lt hb.lt e))
  clear hne
  go_enter Try.func74, Try.ntmps74
  go_wp2
  go_ret
  exact ⟨rfl, rfl⟩

/-- What the look answers: the size, and the entry where there is one. -/
def EaAns (a : Option Addr) (c : Nat) (zs : List Int) (w : World) (e : Ending) (w' : World) : Prop :=
  ∃ (v : Array Value), e = .returned (.tuple #[.agg v, .int .i64 (eSz zs : Int)]) ∧ New w w' ∧ (eSz zs = 0 → v = #[.int .i64 0, .int .i64 0, .int .i64 0, .slice none 0 0]) ∧
    (0 < eSz zs → ∃ q, v = #[.int .i64 (numAt zs 3 2), .int .i64 (zs[5]?.getD 0), .int .i64 (zs[6]?.getD 0), .slice (some q) (eSz zs - 8) (c - 8)] ∧ ∀ W, BsAt W a zs → BsAt W (some q) ((zs.drop 8).take (eSz zs - 8)))

theorem ea_none {a : Option Addr} {c : Nat} {zs : List Int} {w w' : World} (h : eSz zs = 0) (hn : New w w') :
    EaAns a c zs w (.returned (.tuple #[.agg #[.int .i64 0, .int .i64 0, .int .i64 0, .slice none 0 0], .int .i64 0])) w' :=
  ⟨#[.int .i64 0, .int .i64 0, .int .i64 0, .slice none 0 0], by rw [h]; rfl, hn, fun _ => rfl, fun h0 => by omega⟩

theorem cut8 {W : World} {b off c m n : Nat} {zs : List Int} (h : BsAt W (some ⟨b, off, none⟩) zs) (hn : zs.length = n) (hc : n ≤ c) (hm : 3 + m ≤ n) : BsAt W (if c = 8 then some ⟨b, off, none⟩ else some ⟨b, off + 8, none⟩) ((zs.drop 8).take (3 + m - 8)) := by
  intro i z hz
  have hi : i < ((zs.drop 8).take (3 + m - 8)).length := by
    rcases Nat.lt_or_ge i ((zs.drop 8).take (3 + m - 8)).length with h | h
    · exact h
    · rw [List.getElem?_eq_none h] at hz; cases hz
  simp only [List.length_take, List.length_drop] at hi
  rw [if_neg (by omega)]
  rw [List.getElem?_take, if_pos (by omega), List.getElem?_drop] at hz
  obtain ⟨b', o', e, hcell, hb⟩ := h (8 + i) z hz
  simp only [Option.some.injEq, Addr.mk.injEq, and_true] at e
  obtain ⟨rfl, rfl⟩ := e
  exact ⟨b, off + 8, rfl, by rw [Nat.add_assoc]; exact hcell, hb⟩

set_option maxHeartbeats 3200000 in
theorem implEA (a : Option Addr) (n c : Nat) (zs : List Int) (w : World) (h : BsAt w a zs) (hn : zs.length = n) (hc : n ≤ c) (hm : n ≤ 1048576) :
    Calls Try.prog 62 #[.slice a n c] w fun e w' => EaAns a c zs w e w' := by
  have bR := Blk.mk w w.heap.size 40 #[.int .i64 0, .int .i64 0, .int .i64 0, .slice none 0 0] rfl
  have hw := (New.refl w).alloc (.cells #[.int .i64 0, .int .i64 0, .int .i64 0, .slice none 0 0] 40)
  by_cases h0 : n = 0
  · subst h0
    obtain rfl := List.eq_nil_of_length_eq_zero hn
    go_enter Try.func62, Try.ntmps62
    go_wp2
    refine bodyPost_ret (v := .tuple #[.agg #[.int .i64 0, .int .i64 0, .int .i64 0, .slice none 0 0], .int .i64 0]) (by simp [results, Try.results62, go_sem]) rfl ?_
    exact ea_none eSz_nil hw
  · have h' := h.new hw
    obtain ⟨b, off, z, rfl, hz, hcz, hz0, hz1⟩ := h'.at 0 (by omega)
    simp only [Nat.add_zero] at hcz
    have hz' : Hid (zs[0]?.getD 0 = z) := by unfold Hid; rw [hz]; rfl
    clear hz
    by_cases h5 : z < 5
    · go_enter Try.func62, Try.ntmps62
      go_wp2
      refine bodyPost_ret (v := .tuple #[.agg #[.int .i64 0, .int .i64 0, .int .i64 0, .slice none 0 0], .int .i64 0]) (by simp [results, Try.results62, go_sem]) rfl ?_
      exact ea_none (by unfold eSz; rw [hz'.out, if_neg (by omega)]) hw
    · by_cases hs : (n : Int) < 3 + z
      · go_enter Try.func62, Try.ntmps62
        go_wp2
        refine bodyPost_ret (v := .tuple #[.agg #[.int .i64 0, .int .i64 0, .int .i64 0, .slice none 0 0], .int .i64 0]) (by simp [results, Try.results62, go_sem]) rfl ?_
        exact ea_none (by unfold eSz; rw [hz'.out, if_neg (by omega)]) hw
      · obtain ⟨b5, o5, z5, e5, hq5, hc5, hl5, hu5⟩ := h'.at 5 (by omega)
        obtain ⟨rfl, rfl⟩ : b = b5 ∧ off = o5 := by simpa using e5
        obtain ⟨b6, o6, z6, e6, hq6, hc6, hl6, hu6⟩ := h'.at 6 (by omega)
        obtain ⟨rfl, rfl⟩ : b = b6 ∧ off = o6 := by simpa using e6
        obtain ⟨m, rfl⟩ : ∃ m : Nat, z = (m : Int) := ⟨z.toNat, by omega⟩
        have hfi : ∀ (c0 c1 : Value) (X : World), (Instr.field 92 (.agg #[c0, c1]) 1).run Try.prog X = .ok c1 X := fun _ _ _ => by kernel_rfl
        have hfb : ∀ (c0 c1 : Value) (X : World), (Instr.field 46 (.agg #[c0, c1]) 1).run Try.prog X = .ok c1 X := fun _ _ _ => by kernel_rfl
        go_enter Try.func62, Try.ntmps62
        go_upto_region 6 with fail
        have hbl : b < (w.alloc (.cells #[.int .i64 0, .int .i64 0, .int .i64 0, .slice none 0 0] 40)).heap.size := by obtain ⟨b', o', e', hb'⟩ := h'.block_lt (by intro e; subst e; simp at hn; omega); simp only [Option.some.injEq, Addr.mk.injEq, and_true] at e'; omega
        have hlw : w.heap.size < (w.alloc (.cells #[.int .i64 0, .int .i64 0, .int .i64 0, .slice none 0 0] 40)).heap.size := by simp
        have hn5 : 5 < n := by omega
        have hn6 : 6 < n := by omega
        have hn8 : 8 ≤ n := by omega
        generalize (w.alloc (.cells #[.int .i64 0, .int .i64 0, .int .i64 0, .slice none 0 0] 40)) = w0 at *
        go_region
        go_upto_region 7 with fail
        have hq := fun (W : World) (hW : BsAt W (some ⟨b, off, none⟩) zs) => cut8 (m := m) hW hn hc (by omega)
        obtain ⟨q, hQ⟩ : ∃ q, (if c = 8 then some (⟨b, off, none⟩ : Addr) else some ⟨b, off + 8, none⟩) = some q := by split <;> exact ⟨_, rfl⟩
        rw [hQ] at hq ⊢
        have bV := (Blk.mk w0 w0.heap.size 38 #[.int .i64 z5, .int .i64 z6, .slice (some q) (3 + m - 8) (c - 8)] rfl).new ((New.refl _).drew)
        have n1 : New w0 (w0.alloc (.cells #[.int .i64 z5, .int .i64 z6, .slice (some q) (3 + m - 8) (c - 8)] 38)).drew := ((New.refl _).alloc _).drew
        generalize (w0.alloc (.cells #[.int .i64 z5, .int .i64 z6, .slice (some q) (3 + m - 8) (c - 8)] 38)).drew = w1 at *
        have cV := bV.cells
        have cVa := (bV.alloc (.cells #[.int .i64 0, .int .i64 0, .int .i64 0, .slice none 0 0] 40)).cells
        have lV := bV.lt
        have hvw : ¬ w1.heap.size = w0.heap.size := by omega
        have hnw := hw.trans n1
        have cVd := (bV.new ((New.refl _).drew)).cells
        have cVe := (bV.new (((New.refl _).alloc (.cells #[.int .i64 0, .int .i64 0, .int .i64 0, .slice none 0 0] 40)).drew)).cells
        go_region_held3 (fun W => ∀ j, W.cell? ⟨w0.heap.size, j, none⟩ = (#[.int .i64 z5, .int .i64 z6, .slice (some q) (3 + m - 8) (c - 8)] : Array Value)[j]?) (first | (with_reducible exact cV) | (with_reducible exact cVd) | (with_reducible exact cVa) | (with_reducible exact cVe) | (with_reducible exact cc1) | (with_reducible exact cc1a) | (with_reducible exact cc1b) | (intro j; rw [cell_set10 hvw, cell_set10 hvw, cell_set10 hvw, cell_set10 hvw]; with_reducible exact cc1 j))
          (first
          | (go_at_call 73; refine (implNum_good (some ⟨b, off, none⟩) n c 3 2 zs _ ?_ hn hc hm (by omega) (by omega) (by omega)).mono ?_; (first | exact (h'.new n1).new ((New.refl _).drew) | exact (h'.new n1).new (((New.refl _).alloc _).drew)); rintro e u1 ⟨rfl, un1⟩; (first | (have N0 : New (w1.alloc (.cells #[.int .i64 0, .int .i64 0, .int .i64 0, .slice none 0 0] 40)).drew u1 := un1; have b60 := (Blk.mk w1 w1.heap.size 40 #[.int .i64 0, .int .i64 0, .int .i64 0, .slice none 0 0] rfl).new (((New.refl _).drew).trans N0); have c60 := b60.cells; have f60 := b60.frees) | skip); have M1 : New w1 u1 := (by first | exact ((New.refl _).drew).trans un1 | exact (((New.refl _).alloc _).drew).trans un1); have cc1 := (bV.new M1).cells; have cc1a := ((bV.new M1).alloc (.cells #[.int .i64 0, .int .i64 0, .int .i64 0, .slice none 0 0] 40)).cells; have cc1b := ((bV.new M1).alloc (.cells #[.int .i64 (numAt zs 3 2), .int .i64 z5, .int .i64 z6, .slice (some q) (3 + m - 8) (c - 8)] 40)).cells; have d1 := M1.size))
        · have nW : New w (u1.alloc (.cells #[.int .i64 (numAt zs 3 2), .int .i64 z5, .int .i64 z6, .slice (some q) (3 + m - 8) (c - 8)] 40)) := (hnw.trans M1).alloc _
          have bR2 := ((bR.new n1).new M1).alloc (.cells #[.int .i64 (numAt zs 3 2), .int .i64 z5, .int .i64 z6, .slice (some q) (3 + m - 8) (c - 8)] 40)
          have b6 := Blk.mk u1 u1.heap.size 40 #[.int .i64 (numAt zs 3 2), .int .i64 z5, .int .i64 z6, .slice (some q) (3 + m - 8) (c - 8)] rfl
          have hB : w.heap.size < u1.heap.size := by omega
          clear un1 M1 cc1 cc1a cc1b d1 cVd cVe
          generalize u1.alloc (.cells #[.int .i64 (numAt zs 3 2), .int .i64 z5, .int .i64 z6, .slice (some q) (3 + m - 8) (c - 8)] 40) = W at *
          generalize u1.heap.size = B at *
          have hd : ((zs.drop 8).take (3 + m - 8)).length = 3 + m - 8 := by simp only [List.length_take, List.length_drop]; omega
          have hqW := hq W (h.new nW)
          have hv5 : Hid (zs[5]?.getD 0 = z5) := by unfold Hid; rw [hq5]; rfl
          have hv6 : Hid (zs[6]?.getD 0 = z6) := by unfold Hid; rw [hq6]; rfl
          have HL : Hid (8 ≤ 3 + m ∧ 3 + m ≤ zs.length) := ⟨by omega, by omega⟩
          have HD : Hid ((zs.take (3 + m)).length = 3 + m) := by unfold Hid; simp only [List.length_take]; omega
          have hC : (3 + (m : Int)) ≤ (c : Int) := by omega
          have hC0 : (0 : Int) ≤ 3 + (m : Int) := by omega
          have c6 := b6.cells
          have BT := (h.new nW).take (3 + m)
          have HQ : Hid (∀ X, BsAt X (some ⟨b, off, none⟩) zs → BsAt X (some q) ((zs.drop 8).take (3 + m - 8))) := hq
          clear bV n1 cV cVa lV hvw hnw hq hq5 hq6 hcz hc5 hc6 bR hw h' hfi
          go_upto_region 8 with fail
          generalize hdd : (zs.drop 8).take (3 + m - 8) = dd at *
          by_cases he : (if enF (numAt zs 3 2) z5 z6 (3 + m - 8) = 0 then enP (numAt zs 3 2) z5 z6 dd else []) = zs.take (3 + m)
          · have HE : Hid ((if enF (numAt zs 3 2) z5 z6 (3 + m - 8) = 0 then enP (numAt zs 3 2) z5 z6 dd else []) = zs.take (3 + m)) := he
            clear he
            go_region_held3 (fun X => ∀ j, X.cell? ⟨B, j, none⟩ = (#[.int .i64 (numAt zs 3 2), .int .i64 z5, .int .i64 z6, .slice (some q) (3 + m - 8) (c - 8)] : Array Value)[j]?) (first | exact c6 | exact c8 | exact c9)
              (first
              | (go_at_call 19; refine (implPE (numAt zs 3 2) z5 z6 (some q) (3 + m - 8) (c - 8) dd _ (hqW.new ((New.refl _).drew)) hd (by omega) (by intro h; cases h)).mono ?_; rintro e w8 ⟨a3, m3, cap3, ys, rfl, ho3, hys, hp3, hn3, HY, hnil3⟩; rw [hd] at HY; have hy := HY.trans HE.out; obtain rfl : m3 = 3 + m := (by rw [← ho3.1, hy]; exact HD.out); subst hy; have n8 : New W w8 := ((New.refl _).drew).trans hn3; have c8 := (b6.new n8).cells; clear HY)
              | (go_at_call 74; refine (eqB_yes a3 (some ⟨b, off, none⟩) (3 + m) cap3 c (zs.take (3 + m)) _ (ho3.bs hys) (BT.new n8) HD.out hnil3 (by intro h; cases h)).mono ?_; rintro e w9 ⟨rfl, hw9⟩; obtain rfl := hw9.symm; have c9 := c8))
            all_goals
              have bR3 := bR2.new n8
              have b63 := b6.new n8
              have cR := bR3.cells
              have fR := bR3.frees
              have c63 := b63.cells
              clear c6 c8 c9
              go_wp2
              refine bodyPost_ret (v := .tuple #[.agg #[.int .i64 (numAt zs 3 2), .int .i64 z5, .int .i64 z6, .slice (some q) (3 + m - 8) (c - 8)], .int .i64 (3 + (m : Int))]) (by simp [results, Try.results62, go_sem, cR]) rfl ?_
              have hes : eSz zs = 3 + m := eSz_yes hz'.out hv5.out hv6.out HL.out.1 HL.out.2 (by rw [hdd]; exact HE.out)
              refine ⟨#[.int .i64 (numAt zs 3 2), .int .i64 z5, .int .i64 z6, .slice (some q) (3 + m - 8) (c - 8)], by rw [hes]; push_cast; rfl, ?_, fun h0 => by omega, fun _ => ⟨q, by rw [hes, hv5.out, hv6.out], fun X hX => by rw [hes, hdd]; exact HQ.out X hX⟩⟩
              exact ((((nW.trans n8).setCell (by simp) _).setCell (by simp) _).setCell (by simp) _).setCell (by simp) _
          · have HE : Hid (¬ (if enF (numAt zs 3 2) z5 z6 (3 + m - 8) = 0 then enP (numAt zs 3 2) z5 z6 dd else []) = zs.take (3 + m)) := he
            clear he
            go_region_held3 (fun X => ∀ j, X.cell? ⟨B, j, none⟩ = (#[.int .i64 (numAt zs 3 2), .int .i64 z5, .int .i64 z6, .slice (some q) (3 + m - 8) (c - 8)] : Array Value)[j]?) (first | exact c6 | exact c8 | exact c9)
              (first
              | (go_at_call 19; refine (implPE (numAt zs 3 2) z5 z6 (some q) (3 + m - 8) (c - 8) dd _ (hqW.new ((New.refl _).drew)) hd (by omega) (by intro h; cases h)).mono ?_; rintro e w8 ⟨a3, m3, cap3, ys, rfl, ho3, hys, hp3, hn3, HY, hnil3⟩; rw [hd] at HY; have HN : Hid (¬ ys = zs.take (3 + m)) := (fun e => HE.out (HY.symm.trans e)); have n8 : New W w8 := ((New.refl _).drew).trans hn3; have c8 := (b6.new n8).cells; clear HY)
              | (go_at_call 74; refine (eqB_no a3 (some ⟨b, off, none⟩) m3 cap3 (3 + m) c ys (zs.take (3 + m)) _ (ho3.bs hys) (BT.new n8) ho3.1 HD.out hnil3 (by intro h; cases h) HN.out).mono ?_; rintro e w9 ⟨rfl, hw9⟩; obtain rfl := hw9.symm; have c9 := c8))
            all_goals
              have bR3 := bR2.new n8
              have cR := bR3.cells
              have fR := bR3.frees
              clear c6 c8 c9
              go_wp2
              refine bodyPost_ret (v := .tuple #[.agg #[.int .i64 0, .int .i64 0, .int .i64 0, .slice none 0 0], .int .i64 0]) (by simp [results, Try.results62, go_sem, cR]) rfl ?_
              exact ea_none (eSz_no hz'.out hv5.out hv6.out (by rw [hdd]; exact HE.out)) (((((nW.trans n8).setCell (by simp) _).setCell (by simp) _).setCell (by simp) _).setCell (by simp) _)
        · have t1 : Turn (fun i => i = w1.heap.size) u1 ((((u1.setCell ⟨w1.heap.size, 0, none⟩ (.int .i64 (numAt zs 3 2))).setCell ⟨w1.heap.size, 1, none⟩ (.int .i64 z5)).setCell ⟨w1.heap.size, 2, none⟩ (.int .i64 z6)).setCell ⟨w1.heap.size, 3, none⟩ (.slice (some q) (3 + m - 8) (c - 8))) := Turn.set (S := fun i => i = w1.heap.size) (Turn.set (S := fun i => i = w1.heap.size) (Turn.set (S := fun i => i = w1.heap.size) (Turn.set (S := fun i => i = w1.heap.size) (Turn.refl _ _) rfl _) rfl _) rfl _) rfl _
          have nW := (hnw.trans M1).before t1 (by intro i hi h; omega)
          have bR2 := ((bR.new n1).new M1).turn t1 (by omega)
          have b61 : Blk (u1.setCell ⟨w1.heap.size, 0, none⟩ (.int .i64 (numAt zs 3 2))) w1.heap.size 40 #[.int .i64 (numAt zs 3 2), .int .i64 0, .int .i64 0, .slice none 0 0] := b60.set 0 _
          have b62 : Blk _ w1.heap.size 40 #[.int .i64 (numAt zs 3 2), .int .i64 z5, .int .i64 0, .slice none 0 0] := b61.set 1 (.int .i64 z5)
          have b63 : Blk _ w1.heap.size 40 #[.int .i64 (numAt zs 3 2), .int .i64 z5, .int .i64 z6, .slice none 0 0] := b62.set 2 (.int .i64 z6)
          have b6 : Blk _ w1.heap.size 40 #[.int .i64 (numAt zs 3 2), .int .i64 z5, .int .i64 z6, .slice (some q) (3 + m - 8) (c - 8)] := b63.set 3 (.slice (some q) (3 + m - 8) (c - 8))
          have hB : w.heap.size < w1.heap.size := by have := hw.size; omega
          clear un1 M1 cc1 cc1a cc1b d1 cVd cVe t1 b60 b61 b62 b63 c60 f60 N0
          generalize (((u1.setCell ⟨w1.heap.size, 0, none⟩ (.int .i64 (numAt zs 3 2))).setCell ⟨w1.heap.size, 1, none⟩ (.int .i64 z5)).setCell ⟨w1.heap.size, 2, none⟩ (.int .i64 z6)).setCell ⟨w1.heap.size, 3, none⟩ (.slice (some q) (3 + m - 8) (c - 8)) = W at *
          obtain ⟨B, hBB⟩ : ∃ B, w1.heap.size = B := ⟨_, rfl⟩
          rw [hBB] at b6 hB ⊢
          have hd : ((zs.drop 8).take (3 + m - 8)).length = 3 + m - 8 := by simp only [List.length_take, List.length_drop]; omega
          have hqW := hq W (h.new nW)
          have hv5 : Hid (zs[5]?.getD 0 = z5) := by unfold Hid; rw [hq5]; rfl
          have hv6 : Hid (zs[6]?.getD 0 = z6) := by unfold Hid; rw [hq6]; rfl
          have HL : Hid (8 ≤ 3 + m ∧ 3 + m ≤ zs.length) := ⟨by omega, by omega⟩
          have HD : Hid ((zs.take (3 + m)).length = 3 + m) := by unfold Hid; simp only [List.length_take]; omega
          have hC : (3 + (m : Int)) ≤ (c : Int) := by omega
          have hC0 : (0 : Int) ≤ 3 + (m : Int) := by omega
          have c6 := b6.cells
          have BT := (h.new nW).take (3 + m)
          have HQ : Hid (∀ X, BsAt X (some ⟨b, off, none⟩) zs → BsAt X (some q) ((zs.drop 8).take (3 + m - 8))) := hq
          clear hBB bV n1 cV cVa lV hvw hnw hq hq5 hq6 hcz hc5 hc6 bR hw h' hfi
          go_upto_region 8 with fail
          generalize hdd : (zs.drop 8).take (3 + m - 8) = dd at *
          by_cases he : (if enF (numAt zs 3 2) z5 z6 (3 + m - 8) = 0 then enP (numAt zs 3 2) z5 z6 dd else []) = zs.take (3 + m)
          · have HE : Hid ((if enF (numAt zs 3 2) z5 z6 (3 + m - 8) = 0 then enP (numAt zs 3 2) z5 z6 dd else []) = zs.take (3 + m)) := he
            clear he
            go_region_held3 (fun X => ∀ j, X.cell? ⟨B, j, none⟩ = (#[.int .i64 (numAt zs 3 2), .int .i64 z5, .int .i64 z6, .slice (some q) (3 + m - 8) (c - 8)] : Array Value)[j]?) (first | exact c6 | exact c8 | exact c9)
              (first
              | (go_at_call 19; refine (implPE (numAt zs 3 2) z5 z6 (some q) (3 + m - 8) (c - 8) dd _ (hqW.new ((New.refl _).drew)) hd (by omega) (by intro h; cases h)).mono ?_; rintro e w8 ⟨a3, m3, cap3, ys, rfl, ho3, hys, hp3, hn3, HY, hnil3⟩; rw [hd] at HY; have hy := HY.trans HE.out; obtain rfl : m3 = 3 + m := (by rw [← ho3.1, hy]; exact HD.out); subst hy; have n8 : New W w8 := ((New.refl _).drew).trans hn3; have c8 := (b6.new n8).cells; clear HY)
              | (go_at_call 74; refine (eqB_yes a3 (some ⟨b, off, none⟩) (3 + m) cap3 c (zs.take (3 + m)) _ (ho3.bs hys) (BT.new n8) HD.out hnil3 (by intro h; cases h)).mono ?_; rintro e w9 ⟨rfl, hw9⟩; obtain rfl := hw9.symm; have c9 := c8))
            all_goals
              have bR3 := bR2.new n8
              have b63 := b6.new n8
              have cR := bR3.cells
              have fR := bR3.frees
              have c63 := b63.cells
              clear c6 c8 c9
              go_wp2
              refine bodyPost_ret (v := .tuple #[.agg #[.int .i64 (numAt zs 3 2), .int .i64 z5, .int .i64 z6, .slice (some q) (3 + m - 8) (c - 8)], .int .i64 (3 + (m : Int))]) (by simp [results, Try.results62, go_sem, cR]) rfl ?_
              have hes : eSz zs = 3 + m := eSz_yes hz'.out hv5.out hv6.out HL.out.1 HL.out.2 (by rw [hdd]; exact HE.out)
              refine ⟨#[.int .i64 (numAt zs 3 2), .int .i64 z5, .int .i64 z6, .slice (some q) (3 + m - 8) (c - 8)], by rw [hes]; push_cast; rfl, ?_, fun h0 => by omega, fun _ => ⟨q, by rw [hes, hv5.out, hv6.out], fun X hX => by rw [hes, hdd]; exact HQ.out X hX⟩⟩
              exact ((((nW.trans n8).setCell (by simp) _).setCell (by simp) _).setCell (by simp) _).setCell (by simp) _
          · have HE : Hid (¬ (if enF (numAt zs 3 2) z5 z6 (3 + m - 8) = 0 then enP (numAt zs 3 2) z5 z6 dd else []) = zs.take (3 + m)) := he
            clear he
            go_region_held3 (fun X => ∀ j, X.cell? ⟨B, j, none⟩ = (#[.int .i64 (numAt zs 3 2), .int .i64 z5, .int .i64 z6, .slice (some q) (3 + m - 8) (c - 8)] : Array Value)[j]?) (first | exact c6 | exact c8 | exact c9)
              (first
              | (go_at_call 19; refine (implPE (numAt zs 3 2) z5 z6 (some q) (3 + m - 8) (c - 8) dd _ (hqW.new ((New.refl _).drew)) hd (by omega) (by intro h; cases h)).mono ?_; rintro e w8 ⟨a3, m3, cap3, ys, rfl, ho3, hys, hp3, hn3, HY, hnil3⟩; rw [hd] at HY; have HN : Hid (¬ ys = zs.take (3 + m)) := (fun e => HE.out (HY.symm.trans e)); have n8 : New W w8 := ((New.refl _).drew).trans hn3; have c8 := (b6.new n8).cells; clear HY)
              | (go_at_call 74; refine (eqB_no a3 (some ⟨b, off, none⟩) m3 cap3 (3 + m) c ys (zs.take (3 + m)) _ (ho3.bs hys) (BT.new n8) ho3.1 HD.out hnil3 (by intro h; cases h) HN.out).mono ?_; rintro e w9 ⟨rfl, hw9⟩; obtain rfl := hw9.symm; have c9 := c8))
            all_goals
              have bR3 := bR2.new n8
              have cR := bR3.cells
              have fR := bR3.frees
              clear c6 c8 c9
              go_wp2
              refine bodyPost_ret (v := .tuple #[.agg #[.int .i64 0, .int .i64 0, .int .i64 0, .slice none 0 0], .int .i64 0]) (by simp [results, Try.results62, go_sem, cR]) rfl ?_
              exact ea_none (eSz_no hz'.out hv5.out hv6.out (by rw [hdd]; exact HE.out)) (((((nW.trans n8).setCell (by simp) _).setCell (by simp) _).setCell (by simp) _).setCell (by simp) _)

end Go.Proofs.Ytdkjgjjkjfeodaa
