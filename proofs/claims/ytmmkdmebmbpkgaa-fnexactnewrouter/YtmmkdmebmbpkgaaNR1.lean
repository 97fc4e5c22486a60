/- What is proved here: how an argument that is a list of links comes in. No condition. What is proved here: what the counting, the copying and the comparing of links answer, for lists of at most 1048576 links whose lists are so too. What is proved here: what the model's NewRouter answers, for rules of at most 1048576, and how an answer is read. What is proved here: what the program's comparing of two routes answers, at all numbers. No condition. What is proved here: facts on routes and lists of routes in memory. No condition. -/
import Derived.Test.YtmmkdmebmbpkgaaL9Lib
import Derived.Test.YtmmkdmebmbpkgaaOpen
import Derived.Test.YtmmkdmebmbpkgaaS5Open
import Derived.Test.YtmmkdmebmbpkgaaTn9
import Derived.Deep.CutRange
import Derived.Test.YtmmkdmebmbpkgaaN9Sl
import Derived.Test.YtmmkdmebmbpkgaaAtLaw
import Derived.Deep.RegionHeld3
namespace Go.Proofs.Ytmmkdmebmbpkgaa
open Go.ChangeShapes Go.WideShapes Go.ChangeAt Go.RowKit Go.Deep
set_option linter.unusedVariables false

set_option maxRecDepth 100000 in
theorem open_bytes_cell {H : Type} {enc : TypeId × Value → H} {W : World} {base fuel : Nat} {t1 : Nat → Bool} {t2 : Bool} {v : Value} {y : DataW H × List MemPlace}
    (h : DataW.trod enc Try.prog W base t1 t2 fuel 54 [v] = some y) : ∃ (a : Option Addr) (n c : Nat) (zs : List Int), v = .slice a n c ∧ BsAt W a zs ∧ zs.length = n ∧ n ≤ maxLen := by
  have hb : ∃ (a : Option Addr) (n c : Nat), v = .slice a n c := by
    rcases open_ints Try.underlying54 Try.underlying5 (by kernel_rfl) h with ⟨hcs, _⟩ | ⟨x, l, c, zs, hcs, _⟩
    · simp only [List.cons.injEq, and_true] at hcs
      exact ⟨none, 0, 0, hcs⟩
    · simp only [List.cons.injEq, and_true] at hcs
      exact ⟨some x, l, c, hcs⟩
  obtain ⟨a, n, c, rfl⟩ := hb
  obtain ⟨zs, h1, h2, h3, h4⟩ := open_bytes (enc := enc) (W := W) (base := base) (t1 := t1) (t2 := t2) (a := a) (n := n) (c := c) (d := y.1) (p := y.2) ⟨fuel, by simpa [Value.cells] using h⟩
  exact ⟨a, n, c, zs, rfl, h1, h2, h4⟩

end Go.Proofs.Ytmmkdmebmbpkgaa

namespace Go.Proofs.Ytmmkdmebmbpkgaa
open Go.RowKit Go.Sort
set_option linter.unusedVariables false

/-- The row of the links and their lists are the call's own, from lo to hi. -/
structure Ow9 (w : World) (lo hi g n c : Nat) (V : List Lv) : Prop where
  row : OwRow9 w g n c V
  glo : lo ≤ g
  ghi : g < hi
  part : ∀ v ∈ V, LkOwn w (lo + 1) hi v

theorem Ow9.turn {w w' : World} {lo hi g n c : Nat} {V : List Lv} {S : Nat → Prop} (h : Ow9 w lo hi g n c V) (t : Turn S w w') (hS : ∀ k, lo ≤ k → k < hi → ¬ S k) : Ow9 w' lo hi g n c V :=
  ⟨h.row.turn t (hS g h.glo h.ghi), h.glo, h.ghi, fun v hv => (h.part v hv).turn t (fun k h1 h2 => hS k (by omega) h2)⟩
theorem Ow9.new {w w' : World} {lo hi g n c : Nat} {V : List Lv} (h : Ow9 w lo hi g n c V) (t : New w w') : Ow9 w' lo hi g n c V := h.turn t (fun _ _ _ f => f)
theorem Ow9.at {w : World} {lo hi g n c : Nat} {V : List Lv} (h : Ow9 w lo hi g n c V) : LkAt w (some ⟨g, 0, none⟩) V := h.row.rt (fun v hv => (h.part v hv).here)

set_option maxHeartbeats 800000 in
theorem eqSs9 (st pe ho si sp : Int) (w : World) : Calls Try.prog 81 #[.agg #[.int .i64 st, .int .i64 pe, .int .i64 ho, .int .i64 si, .int .i64 sp], .agg #[.int .i64 st, .int .i64 pe, .int .i64 ho, .int .i64 si, .int .i64 sp]] w fun e w' => e = .returned (.bool true) ∧ New w w' := by
  have hw := ((New.refl w).alloc (.cells #[.int .i64 st, .int .i64 pe, .int .i64 ho, .int .i64 si, .int .i64 sp] 53)).alloc (.cells #[.int .i64 st, .int .i64 pe, .int .i64 ho, .int .i64 si, .int .i64 sp] 53)
  have z1 : (st != st) = false := by simp
  have z2 : (pe != pe) = false := by simp
  have z3 : (ho != ho) = false := by simp
  have z4 : (si != si) = false := by simp
  have z5 : (sp != sp) = false := by simp
  go_enter Try.func81, Try.ntmps81
  go_wp2
  go_ret
  exact ⟨rfl, hw⟩

set_option maxHeartbeats 1600000 in
theorem eqLk_any (st pe ho si sp : Int) (b t b1 t1 : Option Addr) (n c m d c1 d1 : Nat) (bs : List Int) (V U : List Tv) (w : World) (hb : BsAt w b bs) (ht : TdAt w t V) (kb : BsAt w b1 bs) (kt : TdAt w t1 U) (hVU : V.map Tv.r = U.map Tv.r) (hn : bs.length = n) (hm : V.length = m) (hn1 : n ≤ 1048576) (hm1 : m ≤ 1048576) :
    Calls Try.prog 65 #[.agg #[.int .i64 st, .int .i64 pe, .int .i64 ho, .int .i64 si, .int .i64 sp, .slice b n c, .slice t m d], .agg #[.int .i64 st, .int .i64 pe, .int .i64 ho, .int .i64 si, .int .i64 sp, .slice b1 n c1, .slice t1 m d1]] w fun e w' => e = .returned (.bool true) ∧ New w w' := by
  have hw := ((New.refl w).alloc (.cells #[.int .i64 st, .int .i64 pe, .int .i64 ho, .int .i64 si, .int .i64 sp, .slice b n c, .slice t m d] 76)).alloc (.cells #[.int .i64 st, .int .i64 pe, .int .i64 ho, .int .i64 si, .int .i64 sp, .slice b1 n c1, .slice t1 m d1] 76)
  have bA : Blk ((w.alloc (.cells #[.int .i64 st, .int .i64 pe, .int .i64 ho, .int .i64 si, .int .i64 sp, .slice b n c, .slice t m d] 76)).alloc (.cells #[.int .i64 st, .int .i64 pe, .int .i64 ho, .int .i64 si, .int .i64 sp, .slice b1 n c1, .slice t1 m d1] 76)) w.heap.size 76 #[.int .i64 st, .int .i64 pe, .int .i64 ho, .int .i64 si, .int .i64 sp, .slice b n c, .slice t m d] := (Blk.mk _ _ _ _ rfl).alloc _
  have bB : Blk ((w.alloc (.cells #[.int .i64 st, .int .i64 pe, .int .i64 ho, .int .i64 si, .int .i64 sp, .slice b n c, .slice t m d] 76)).alloc (.cells #[.int .i64 st, .int .i64 pe, .int .i64 ho, .int .i64 si, .int .i64 sp, .slice b1 n c1, .slice t1 m d1] 76)) (w.heap.size + 1) 76 #[.int .i64 st, .int .i64 pe, .int .i64 ho, .int .i64 si, .int .i64 sp, .slice b1 n c1, .slice t1 m d1] := Blk.mk _ _ _ _ (by simp)
  have HN : Hid (bs.length = n) := hn
  have HM : Hid (V.length = m) := hm
  have HU : Hid (V.map Tv.r = U.map Tv.r) := hVU
  clear hn hm hVU
  go_enter Try.func65, Try.ntmps65
  go_wp2_with fail
  refine (eqSs9 st pe ho si sp _).mono ?_
  rintro e w0 ⟨rfl, hn0⟩
  have hw0 := hw.trans hn0
  have bA0 := bA.new hn0
  have bB0 := bB.new hn0
  have cA := bA0.cells
  have cB := bB0.cells
  go_wp2_with fail
  refine (eqBytes_any b b1 n c c1 bs _ (hb.new hw0) (kb.new hw0) HN.out hn1).mono ?_
  rintro e w1 ⟨rfl, hn1'⟩
  have hw1 := hw0.trans hn1'
  clear cA cB
  have cA := (bA0.new hn1').cells
  have cB := (bB0.new hn1').cells
  go_wp2_with fail
  refine (eqTds_any t t1 m d d1 V U _ (ht.new hw1) (kt.new hw1) HU.out HM.out hm1).mono ?_
  rintro e w2 ⟨rfl, hn2⟩
  go_wp2
  go_ret
  exact ⟨rfl, hw1.trans hn2⟩

set_option maxHeartbeats 3200000 in
theorem eqLks_any (A B : Option Addr) (n c e0 : Nat) (V U : List Lv) (w : World) (hF : LkAt w A V) (hG : LkAt w B U) (hVU : V.map Lv.r = U.map Lv.r) (hn : V.length = n) (hm : n ≤ 1048576) :
    Calls Try.prog 42 #[.slice A n c, .slice B n e0] w fun e w' => e = .returned (.bool true) ∧ New w w' := by
  have hnn : ((n : Int) != (n : Int)) = false := by simp
  have HN : Hid (V.length = n) := hn
  have HU : Hid (V.map Lv.r = U.map Lv.r) := hVU
  have HUN : Hid (U.length = n) := by
    have := congrArg List.length hVU
    simp at this
    show U.length = n
    omega
  clear hn hVU
  go_enter Try.func42, Try.ntmps42
  go_wp2
  go_loopw [5] (fun i wr => ∃ k : Nat, k ≤ n ∧ i = .int .i64 k ∧ New w wr) (fun i _ => n - (intOf i).toNat)
  case atStart => exact ⟨0, Nat.zero_le _, rfl, New.refl _⟩
  case round =>
    obtain ⟨k, hk, rfl, hnw⟩ := hrel
    by_cases hlt : k < n
    · obtain ⟨g1, o1, st, pe, ho, si, sp, bs, x, bc, V1, t, tc, p, q, rfl, hp1, hl1, hm1, hx1, ht1, hp, hq, x0, x1, x2, x3, x4, x5, x6⟩ := (hF.new hnw).at k (by have := HN.out; omega)
      obtain ⟨g2, o2, st', pe', ho', si', sp', bs', x', bc', U1, t', tc', p', q', rfl, hp2, hl2, hm2, hx2, ht2, hp', hq', y0, y1, y2, y3, y4, y5, y6⟩ := (hG.new hnw).at k (by have := HUN.out; omega)
      have hh : (⟨st, pe, ho, si, sp, bs, V1.map Tv.r⟩ : Lk) = ⟨st', pe', ho', si', sp', bs', U1.map Tv.r⟩ := by
        have h1 : (V.map Lv.r)[k]? = some ⟨st, pe, ho, si, sp, bs, V1.map Tv.r⟩ := by rw [List.getElem?_map, hp1]; rfl
        have h2 : (U.map Lv.r)[k]? = some ⟨st', pe', ho', si', sp', bs', U1.map Tv.r⟩ := by rw [List.getElem?_map, hp2]; rfl
        rw [HU.out, h2] at h1
        exact (Option.some.inj h1).symm
      simp only [Lk.mk.injEq] at hh
      obtain ⟨rfl, rfl, rfl, rfl, rfl, rfl, hmm⟩ := hh
      obtain rfl : p = p' := hl1.symm.trans hl2
      obtain rfl : q = q' := by
        have := congrArg List.length hmm
        simp at this
        omega
      have HL : Hid (bs.length = p) := hl1
      have HQ : Hid (V1.length = q) := hm1
      have HV : Hid (V1.map Tv.r = U1.map Tv.r) := hmm
      clear hp1 hp2 hF hG hl1 hl2 hm1 hm2 hmm
      have X0 := cell_regrown x0
      have X1 := cell_regrown x1
      have X2 := cell_regrown x2
      have X3 := cell_regrown x3
      have X4 := cell_regrown x4
      have X5 := cell_regrown x5
      have X6 := cell_regrown x6
      have Y0 := cell_regrown y0
      have Y1 := cell_regrown y1
      have Y2 := cell_regrown y2
      have Y3 := cell_regrown y3
      have Y4 := cell_regrown y4
      have Y5 := cell_regrown y5
      have Y6 := cell_regrown y6
      go_wp2_with fail
      refine wp_region_quiet_below (by kernel_rfl) (by kernel_rfl) ?_
      repeat (go_big_quiet_step ((go_at_call 65; exact calls_regrown (eqLk_any st pe ho si sp x t x' t' p bc q tc bc' tc' bs V1 U1 _ (hx1.new (new_regrown _ _ _)) (ht1.new (new_regrown _ _ _)) (hx2.new (new_regrown _ _ _)) (ht2.new (new_regrown _ _ _)) HV.out HL.out HQ.out hp hq))))
      refine wpQuiet_nil ?_
      rintro w1 hn1
      replace hn1 := new_of_regrown hn1
      go_wp2
      go_roundw
      case rel => exact ⟨k + 1, by omega, by go_num, hnw.trans hn1⟩
      case measure => simp [intOf]; omega
    · go_wp2
      go_ret
      exact ⟨rfl, hnw⟩

end Go.Proofs.Ytmmkdmebmbpkgaa

namespace Go.Proofs.Ytmmkdmebmbpkgaa
open Go.RowKit Go.Sort
set_option linter.unusedVariables false

/-- So many lists that are nil lie at an address. -/
def OuAt (W : World) (y : Option Addr) (n : Nat) : Prop := ∀ j, j < n → ∃ b off, y = some ⟨b, off, none⟩ ∧ W.cell? ⟨b, off + j, none⟩ = some (.slice none 0 0)
theorem OuAt.new {W W' : World} {y : Option Addr} {n : Nat} (h : OuAt W y n) (t : New W W') : OuAt W' y n := by
  intro j hj
  obtain ⟨b, off, e, hc⟩ := h j hj
  exact ⟨b, off, e, (World.cell?_of_block (t.block b (World.block_lt_of_cell? W _ hc) (fun f => f))).trans hc⟩
theorem OuAt.of {W : World} {lo : Nat} {y : Option Addr} {d : Nat} (h : W.ownsRow lo 54 1 (.slice y 3 d) 3 (List.replicate 3 (.slice none 0 0))) : OuAt W y 3 := by
  intro j hj
  rcases h.2 with ⟨h1, h2⟩ | ⟨g, c, cur, h1, h2, h3, r⟩
  · simp at h2
  · simp only [Value.slice.injEq] at h1
    obtain ⟨rfl, -, rfl⟩ := h1
    refine ⟨g, 0, rfl, ?_⟩
    rw [Nat.zero_add, World.ownsRow.cellAt h j (by omega), List.getElem?_replicate, if_pos hj]
theorem lk_of {W : World} {lo : Nat} {y : Option Addr} {d : Nat} (h : W.ownsRow lo 76 7 (.slice y 3 d) 3 (lz9 3)) : LkAt W y [lv0, lv0, lv0] := by
  have hn : ∀ v ∈ [lv0, lv0, lv0], v.here W := by
    intro v hv
    have : v = lv0 := by simpa using hv
    subst this
    exact ⟨BsAt.nil _ _, by simp [lv0], TdAt.nil _ _, by simp [lv0]⟩
  rcases h.2 with ⟨h1, h2⟩ | ⟨g, c, cur, h1, h2, h3, r⟩
  · simp at h2
  · simp only [Value.slice.injEq] at h1
    obtain ⟨rfl, -, rfl⟩ := h1
    have ho : OwRow9 W g 3 d [lv0, lv0, lv0] := ⟨h.1, .inr ⟨g, d, cur, rfl, Nat.zero_le _, h3, r⟩⟩
    exact ho.rt hn

/-- The lists of a new router's answer can be read. -/
structure NrRd (W : World) (x1 x2 : Option Addr) (r1 r2 : List Ru) (yl yo : Option Addr) : Prop where
  o1 : RsAt W x1 r1
  o2 : RsAt W x2 r2
  ol : LkAt W yl [lv0, lv0, lv0]
  oo : OuAt W yo 3
theorem NrRd.new {W W' : World} {x1 x2 : Option Addr} {r1 r2 : List Ru} {yl yo : Option Addr} (h : NrRd W x1 x2 r1 r2 yl yo) (t : New W W') : NrRd W' x1 x2 r1 r2 yl yo := ⟨h.o1.new t, h.o2.new t, h.ol.new t, h.oo.new t⟩
theorem OvR.rd {w : World} {lo n d : Nat} {x : Option Addr} {rs : List Ru} (h : OvR w lo (.slice x n d) rs) : RsAt w x rs := by
  obtain ⟨a, c, e, h1, -⟩ := h.rs
  simp only [Value.slice.injEq] at e
  obtain ⟨rfl, -, -⟩ := e
  exact h1
theorem NrOwn.rd {W : World} {lo n1 n2 : Nat} {x1 : Option Addr} {d1 : Nat} {x2 : Option Addr} {d2 : Nat} {r1 r2 : List Ru} {yl : Option Addr} {dl : Nat} {yo : Option Addr} {dO : Nat} (h : NrOwn W lo n1 n2 x1 d1 x2 d2 r1 r2 yl dl yo dO) : NrRd W x1 x2 r1 r2 yl yo := ⟨h.o1.rd, h.o2.rd, lk_of h.ol, OuAt.of h.oo⟩

set_option maxHeartbeats 1600000 in
theorem specNR_bad (sa si ho nx : Int) (a1 a2 : Option Addr) (n1 c1 n2 c2 : Nat) (r1 r2 : List Ru) (z : Int) (w : World) (h1 : RsAt w a1 r1) (h2 : RsAt w a2 r2) (e1 : r1.length = n1) (e2 : r2.length = n2) (m1 : n1 ≤ 1048576) (m2 : n2 ≤ 1048576) (hz : stF sa si ho nx r1 r2 = z) (hz0 : ¬ z = 0) : Calls Try.prog 5 #[.agg #[.int .i64 sa, .int .i64 si, .int .i64 ho, .int .i64 nx, .slice a1 n1 c1, .slice a2 n2 c2]] w fun e w' => e = .returned (.agg #[.int .i64 z, .int .i64 0, .int .i64 0, .int .i64 0, .int .i64 0, .slice none 0 0, .slice none 0 0, .slice none 0 0, .slice none 0 0, .slice none 0 0]) ∧ New w w' := by
  have E1 : Hid (r1.length = n1) := e1
  have E2 : Hid (r2.length = n2) := e2
  have hw : New w ((w.alloc (.cells #[.int .i64 sa, .int .i64 si, .int .i64 ho, .int .i64 nx, .slice a1 n1 c1, .slice a2 n2 c2] 31)).alloc (.cells #[.int .i64 0, .int .i64 0, .int .i64 0, .int .i64 0, .int .i64 0, .slice none 0 0, .slice none 0 0, .slice none 0 0, .slice none 0 0, .slice none 0 0] 38)) := ((New.refl w).alloc _).alloc _
  have bA : Blk ((w.alloc (.cells #[.int .i64 sa, .int .i64 si, .int .i64 ho, .int .i64 nx, .slice a1 n1 c1, .slice a2 n2 c2] 31)).alloc (.cells #[.int .i64 0, .int .i64 0, .int .i64 0, .int .i64 0, .int .i64 0, .slice none 0 0, .slice none 0 0, .slice none 0 0, .slice none 0 0, .slice none 0 0] 38)) w.heap.size 31 #[.int .i64 sa, .int .i64 si, .int .i64 ho, .int .i64 nx, .slice a1 n1 c1, .slice a2 n2 c2] := (Blk.mk _ _ _ _ rfl).alloc _
  have bB : Blk ((w.alloc (.cells #[.int .i64 sa, .int .i64 si, .int .i64 ho, .int .i64 nx, .slice a1 n1 c1, .slice a2 n2 c2] 31)).alloc (.cells #[.int .i64 0, .int .i64 0, .int .i64 0, .int .i64 0, .int .i64 0, .slice none 0 0, .slice none 0 0, .slice none 0 0, .slice none 0 0, .slice none 0 0] 38)) (w.heap.size + 1) 38 #[.int .i64 0, .int .i64 0, .int .i64 0, .int .i64 0, .int .i64 0, .slice none 0 0, .slice none 0 0, .slice none 0 0, .slice none 0 0, .slice none 0 0] := Blk.mk _ _ _ _ (by simp)
  have HZ : Hid (stF sa si ho nx r1 r2 = z) := hz
  clear e1 e2 hz
  go_enter Try.func5, Try.ntmps5
  go_upto_region 1 with fail
  generalize ((w.alloc (.cells #[.int .i64 sa, .int .i64 si, .int .i64 ho, .int .i64 nx, .slice a1 n1 c1, .slice a2 n2 c2] 31)).alloc (.cells #[.int .i64 0, .int .i64 0, .int .i64 0, .int .i64 0, .int .i64 0, .slice none 0 0, .slice none 0 0, .slice none 0 0, .slice none 0 0, .slice none 0 0] 38)) = w0 at *
  have cA := bA.cells
  go_wp2_with fail
  refine (specSE sa si ho nx a1 a2 n1 c1 n2 c2 r1 r2 z _ (h1.new hw) (h2.new hw) E1.out E2.out m1 m2 HZ.out).mono ?_
  rintro e w1 ⟨rfl, k1⟩
  have cB := (bB.new k1).cells
  have fB := (bB.new k1).frees
  have hw1 := hw.trans k1
  clear cA bA bB
  go_wp2
  refine bodyPost_ret (v := .agg #[.int .i64 z, .int .i64 0, .int .i64 0, .int .i64 0, .int .i64 0, .slice none 0 0, .slice none 0 0, .slice none 0 0, .slice none 0 0, .slice none 0 0]) (by simp [results, Try.results5, go_sem, cB]) rfl ⟨rfl, ?_⟩
  exact hw1.before (set10 w1 (w.heap.size + 1) _ _ _ _ _ _ _ _ _ _) (by intro i hi e; omega)

set_option maxRecDepth 100000 in
set_option maxHeartbeats 3200000 in
theorem specNR_ok (sa si ho nx : Int) (a1 a2 : Option Addr) (n1 c1 n2 c2 : Nat) (r1 r2 : List Ru) (w : World) (h1 : RsAt w a1 r1) (h2 : RsAt w a2 r2) (e1 : r1.length = n1) (e2 : r2.length = n2) (m1 : n1 ≤ 1048576) (m2 : n2 ≤ 1048576) (z1 : a1 = none → n1 = 0 ∧ c1 = 0) (z2 : a2 = none → n2 = 0 ∧ c2 = 0) (hz : stF sa si ho nx r1 r2 = 0) : Calls Try.prog 5 #[.agg #[.int .i64 sa, .int .i64 si, .int .i64 ho, .int .i64 nx, .slice a1 n1 c1, .slice a2 n2 c2]] w fun e w' => (∃ x1 d1 x2 d2 yl dl yo dO, e = .returned (.agg #[.int .i64 0, .int .i64 sa, .int .i64 si, .int .i64 ho, .int .i64 nx, .slice x1 n1 d1, .slice x2 n2 d2, .slice yl 3 dl, .slice none 0 0, .slice yo 3 dO]) ∧ NrRd w' x1 x2 r1 r2 yl yo) ∧ New w w' := by
  have E1 : Hid (r1.length = n1) := e1
  have E2 : Hid (r2.length = n2) := e2
  have hw : New w ((w.alloc (.cells #[.int .i64 sa, .int .i64 si, .int .i64 ho, .int .i64 nx, .slice a1 n1 c1, .slice a2 n2 c2] 31)).alloc (.cells #[.int .i64 0, .int .i64 0, .int .i64 0, .int .i64 0, .int .i64 0, .slice none 0 0, .slice none 0 0, .slice none 0 0, .slice none 0 0, .slice none 0 0] 38)) := ((New.refl w).alloc _).alloc _
  have bA : Blk ((w.alloc (.cells #[.int .i64 sa, .int .i64 si, .int .i64 ho, .int .i64 nx, .slice a1 n1 c1, .slice a2 n2 c2] 31)).alloc (.cells #[.int .i64 0, .int .i64 0, .int .i64 0, .int .i64 0, .int .i64 0, .slice none 0 0, .slice none 0 0, .slice none 0 0, .slice none 0 0, .slice none 0 0] 38)) w.heap.size 31 #[.int .i64 sa, .int .i64 si, .int .i64 ho, .int .i64 nx, .slice a1 n1 c1, .slice a2 n2 c2] := (Blk.mk _ _ _ _ rfl).alloc _
  have bB : Blk ((w.alloc (.cells #[.int .i64 sa, .int .i64 si, .int .i64 ho, .int .i64 nx, .slice a1 n1 c1, .slice a2 n2 c2] 31)).alloc (.cells #[.int .i64 0, .int .i64 0, .int .i64 0, .int .i64 0, .int .i64 0, .slice none 0 0, .slice none 0 0, .slice none 0 0, .slice none 0 0, .slice none 0 0] 38)) (w.heap.size + 1) 38 #[.int .i64 0, .int .i64 0, .int .i64 0, .int .i64 0, .int .i64 0, .slice none 0 0, .slice none 0 0, .slice none 0 0, .slice none 0 0, .slice none 0 0] := Blk.mk _ _ _ _ (by simp)
  have HZ : Hid (stF sa si ho nx r1 r2 = 0) := hz
  have Z1 : Hid (a1 = none → n1 = 0 ∧ c1 = 0) := z1
  have Z2 : Hid (a2 = none → n2 = 0 ∧ c2 = 0) := z2
  clear e1 e2 hz z1 z2
  go_enter Try.func5, Try.ntmps5
  go_upto_region 1 with fail
  generalize ((w.alloc (.cells #[.int .i64 sa, .int .i64 si, .int .i64 ho, .int .i64 nx, .slice a1 n1 c1, .slice a2 n2 c2] 31)).alloc (.cells #[.int .i64 0, .int .i64 0, .int .i64 0, .int .i64 0, .int .i64 0, .slice none 0 0, .slice none 0 0, .slice none 0 0, .slice none 0 0, .slice none 0 0] 38)) = w0 at *
  have cA := bA.cells
  go_wp2_with fail
  refine (specSE sa si ho nx a1 a2 n1 c1 n2 c2 r1 r2 0 _ (h1.new hw) (h2.new hw) E1.out E2.out m1 m2 HZ.out).mono ?_
  rintro e w1 ⟨rfl, k1⟩
  have bA1 := bA.new k1
  have bB1 := bB.new k1
  have hw1 := hw.trans k1
  clear cA bA bB
  have cA := bA1.cells
  go_wp2_with fail
  refine (specNew sa si ho nx a1 a2 n1 c1 n2 c2 r1 r2 _ (h1.new hw1) (h2.new hw1) E1.out E2.out m1 m2 Z1.out Z2.out).mono ?_
  rintro e w2 ⟨⟨x1, d1, x2, d2, yl, dl, rfl, o1, o2, ol⟩, k2⟩
  have bB2 := bB1.new k2
  have hw2 := hw1.trans k2
  have hbs : w.heap.size + 1 < w1.heap.size := (Array.getElem?_eq_some_iff.1 bB1).1
  clear cA bA1 bB1
  go_wp2_with fail
  refine (specOuts _).mono ?_
  rintro e w3 ⟨yo, dO, rfl, oo, k3⟩
  have bB3 := bB2.new k3
  have cB := bB3.cells
  have fB := bB3.frees
  have hw3 := hw2.trans k3
  have sz2 := k2.size
  have Q1 : Hid (OvR w3 (w1.heap.size + 2) (.slice x1 n1 d1) r1) := o1.new k3
  have Q2 : Hid (OvR w3 (w1.heap.size + 2) (.slice x2 n2 d2) r2) := o2.new k3
  have Q3 : Hid (w3.ownsRow (w1.heap.size + 2) 76 7 (.slice yl 3 dl) 3 (lz9 3)) := row9_new ol k3
  have Q4 : Hid (w3.ownsRow w2.heap.size 54 1 (.slice yo 3 dO) 3 (List.replicate 3 (.slice none 0 0))) := oo
  clear bB2 o1 o2 ol oo
  go_wp2
  have t10 := set10 w3 (w.heap.size + 1) (.int .i64 0) (.int .i64 sa) (.int .i64 si) (.int .i64 ho) (.int .i64 nx) (.slice x1 n1 d1) (.slice x2 n2 d2) (.slice yl 3 dl) (.slice none 0 0) (.slice yo 3 dO)
  refine bodyPost_ret (v := .agg #[.int .i64 0, .int .i64 sa, .int .i64 si, .int .i64 ho, .int .i64 nx, .slice x1 n1 d1, .slice x2 n2 d2, .slice yl 3 dl, .slice none 0 0, .slice yo 3 dO]) (by simp [results, Try.results5, go_sem, cB]) rfl ⟨⟨x1, d1, x2, d2, yl, dl, yo, dO, rfl, ?_, ?_, ?_, ?_⟩, ?_⟩
  · exact (Q1.out.turn t10 (fun j hj e => by have := (Q1.out.blk j hj).1; omega)).rd
  · exact (Q2.out.turn t10 (fun j hj e => by have := (Q2.out.blk j hj).1; omega)).rd
  · obtain ⟨_, _, _, _, f⟩ := row9_form Q3.out
    exact lk_of (row9_turn Q3.out t10 (fun j hj e => by have := (f j hj).1; omega))
  · obtain ⟨_, _, _, _, f⟩ := row9_form Q4.out
    exact OuAt.of (row9_turn Q4.out t10 (fun j hj e => by have := (f j hj).1; omega))
  · exact hw3.before t10 (by intro i hi e; omega)

end Go.Proofs.Ytmmkdmebmbpkgaa

namespace Go.Proofs.Ytmmkdmebmbpkgaa
open Go.RowKit Go.Sort
set_option linter.unusedVariables false

theorem New.drew_mark7 {a b : World} : New a.drew b ↔ New a b := ⟨fun h => ⟨h.os, h.tape, h.output, h.size, h.block⟩, fun h => ⟨h.os, h.tape, h.output, h.size, h.block⟩⟩
/-- What was laid down lies there still. -/
def NewA7 (X : World) (o : Obj) (Y : World) : Prop := New (X.alloc o) Y
theorem New.alloc_mark7 {X Y : World} {o : Obj} : New (X.alloc o) Y ↔ (New X Y ∧ NewA7 X o Y) := ⟨fun h => ⟨((New.refl X).alloc o).trans h, h⟩, fun h => h.2⟩
theorem Blk.laid7 {X Y : World} {t : TypeId} {cs : Array Value} (h : NewA7 X (.cells cs t) Y) : Blk Y X.heap.size t cs := (Blk.mk X _ t cs rfl).new h

def cmp3 (x y : Int) : Int := if x < y then -1 else if y < x then 1 else 0
/-- The first number that is not 0. -/
def orL : List Int → Int
  | [] => 0
  | c :: q => if c = 0 then orL q else c
theorem orL_next {cs : List Int} {k : Nat} {c : Int} (h : cs[k]? = some c) : orL (cs.drop k) = if c = 0 then orL (cs.drop (k + 1)) else c := by
  obtain ⟨hk, e⟩ := List.getElem?_eq_some_iff.1 h
  rw [List.drop_eq_getElem_cons hk, e]
  rfl

/-- Which of two routes is better. -/
def cmpW (p o md lc : Int) (n : Nat) (p' o' md' lc' : Int) (n' : Nat) : Int := orL [cmp3 lc' lc, cmp3 n n', cmp3 o o', cmp3 md md', cmp3 p p']
/-- Which of two routes stands ahead. -/
def cmpR (p a l p' a' l' : Int) : Int := orL [orL [cmp3 a a', cmp3 l l'], cmp3 p p']

end Go.Proofs.Ytmmkdmebmbpkgaa

namespace Go.Proofs.Ytmmkdmebmbpkgaa
open Go.RowKit Go.Sort
set_option linter.unusedVariables false

/-- A route. -/
structure Rt where
  p : Int
  a : Int
  l : Int
  o : Int
  xs : List Int
  nx : Int
  md : Int
  lc : Int

/-- A route in memory: its path lies at an address, with room. -/
structure Rv where
  r : Rt
  x : Option Addr
  c : Nat

/-- The cells of a route. -/
def Rv.cs (v : Rv) : List Value := [.int .i64 v.r.p, .int .i64 v.r.a, .int .i64 v.r.l, .int .i64 v.r.o, .slice v.x v.r.xs.length v.c, .int .i64 v.r.nx, .int .i64 v.r.md, .int .i64 v.r.lc]

/-- The path of a route is there. -/
def Rv.here (w : World) (v : Rv) : Prop := NsAt w v.x v.r.xs ∧ (v.x = none → v.r.xs.length = 0 ∧ v.c = 0) ∧ v.r.xs.length ≤ 1048576

/-- The address leads to the routes. -/
def RtAt (w : World) (A : Option Addr) (V : List Rv) : Prop :=
  ∀ i v, V[i]? = some v → (∃ b off, A = some ⟨b, off, none⟩ ∧ ∀ j, j < 8 → w.cell? ⟨b, off + i * 8 + j, none⟩ = v.cs[j]?) ∧ v.here w

theorem RtAt.nil (w : World) (a : Option Addr) : RtAt w a [] := by intro i z h; simp at h

theorem Rv.here.turn {w w' : World} {v : Rv} {S : Nat → Prop} (h : v.here w) (t : Turn S w w') (hS : ∀ x, v.r.xs ≠ [] → v.x = some x → ¬ S x.block) : v.here w' := ⟨h.1.turn t hS, h.2⟩
theorem Rv.here.new {w w' : World} {v : Rv} (h : v.here w) (t : New w w') : v.here w' := ⟨h.1.new t, h.2⟩

theorem RtAt.turn {w w' : World} {a : Option Addr} {V : List Rv} {S : Nat → Prop} (h : RtAt w a V) (t : Turn S w w') (hS : ∀ x, V ≠ [] → a = some x → ¬ S x.block) (hP : ∀ v ∈ V, ∀ x, v.r.xs ≠ [] → v.x = some x → ¬ S x.block) : RtAt w' a V := by
  intro i v hv
  obtain ⟨⟨b, off, ha, hc⟩, hh⟩ := h i v hv
  have h0 : w.cell? ⟨b, off + i * 8, none⟩ = some (.int .i64 v.r.p) := hc 0 (by omega)
  have hb' := t.block b (World.block_lt_of_cell? w _ h0) (hS _ (by rintro rfl; simp at hv) ha)
  exact ⟨⟨b, off, ha, fun j hj => (World.cell?_of_block hb').trans (hc j hj)⟩, hh.turn t (hP v (List.mem_of_getElem? hv))⟩
theorem RtAt.new {w w' : World} {a : Option Addr} {V : List Rv} (h : RtAt w a V) (t : New w w') : RtAt w' a V := h.turn t (fun _ _ _ f => f) (fun _ _ _ _ _ f => f)

theorem RtAt.at {w : World} {A : Option Addr} {V : List Rv} (h : RtAt w A V) (i : Nat) (hi : i < V.length) :
    ∃ (b off : Nat) (p a l o nx md lc : Int) (x : Option Addr) (n c : Nat) (xs : List Int), A = some ⟨b, off, none⟩ ∧ V[i]? = some ⟨⟨p, a, l, o, xs, nx, md, lc⟩, x, c⟩ ∧ xs.length = n ∧ NsAt w x xs ∧ (x = none → n = 0 ∧ c = 0) ∧ n ≤ 1048576 ∧ w.cell? ⟨b, off + i * 8, none⟩ = some (.int .i64 p) ∧ w.cell? ⟨b, off + i * 8 + 1, none⟩ = some (.int .i64 a) ∧ w.cell? ⟨b, off + i * 8 + 2, none⟩ = some (.int .i64 l) ∧ w.cell? ⟨b, off + i * 8 + 3, none⟩ = some (.int .i64 o) ∧ w.cell? ⟨b, off + i * 8 + 4, none⟩ = some (.slice x n c) ∧ w.cell? ⟨b, off + i * 8 + 5, none⟩ = some (.int .i64 nx) ∧ w.cell? ⟨b, off + i * 8 + 6, none⟩ = some (.int .i64 md) ∧ w.cell? ⟨b, off + i * 8 + 7, none⟩ = some (.int .i64 lc) := by
  obtain ⟨⟨b, off, h1, h2⟩, hh⟩ := h i _ (List.getElem?_eq_getElem hi)
  exact ⟨b, off, _, _, _, _, _, _, _, _, _, _, _, h1, List.getElem?_eq_getElem hi, rfl, hh.1, hh.2.1, hh.2.2, h2 0 (by omega), h2 1 (by omega), h2 2 (by omega), h2 3 (by omega), h2 4 (by omega), h2 5 (by omega), h2 6 (by omega), h2 7 (by omega)⟩

def cellsT (V : List Rv) : List Value := V.flatMap Rv.cs
theorem cellsT_cons (v : Rv) (V : List Rv) : cellsT (v :: V) = .int .i64 v.r.p :: .int .i64 v.r.a :: .int .i64 v.r.l :: .int .i64 v.r.o :: .slice v.x v.r.xs.length v.c :: .int .i64 v.r.nx :: .int .i64 v.r.md :: .int .i64 v.r.lc :: cellsT V := rfl
theorem cellsT_app (v : Rv) (V : List Rv) : cellsT (v :: V) = v.cs ++ cellsT V := rfl
theorem cellsT_snoc (V : List Rv) (v : Rv) : cellsT (V ++ [v]) = cellsT V ++ v.cs := by simp [cellsT]
theorem cellsT_len : ∀ V : List Rv, (cellsT V).length = V.length * 8
  | [] => rfl
  | r :: V => by rw [cellsT_app, List.length_append, cellsT_len V, List.length_cons]; simp [Rv.cs]; omega
theorem cellsT_get : ∀ (V : List Rv) (i : Nat) (r : Rv), V[i]? = some r → ∀ j, j < 8 → (cellsT V)[i * 8 + j]? = r.cs[j]?
  | [], i, p, h => by simp at h
  | q :: V, 0, p, h => by
    intro j hj
    simp at h
    subst h
    rw [cellsT_app, Nat.zero_mul, Nat.zero_add, List.getElem?_append_left (by simpa [Rv.cs] using hj)]
  | q :: V, i + 1, p, h => by
    intro j hj
    have h' : V[i]? = some p := by simpa using h
    rw [cellsT_app, List.getElem?_append_right (by simp [Rv.cs]; omega), show (i + 1) * 8 + j - q.cs.length = i * 8 + j by simp [Rv.cs]; omega]
    exact cellsT_get V i p h' j hj
theorem cellsT_set : ∀ (V : List Rv) (i : Nat) (v : Rv), ((((((((cellsT V).set (i * 8) (.int .i64 v.r.p)).set (i * 8 + 1) (.int .i64 v.r.a)).set (i * 8 + 2) (.int .i64 v.r.l)).set (i * 8 + 3) (.int .i64 v.r.o)).set (i * 8 + 4) (.slice v.x v.r.xs.length v.c)).set (i * 8 + 5) (.int .i64 v.r.nx)).set (i * 8 + 6) (.int .i64 v.r.md)).set (i * 8 + 7) (.int .i64 v.r.lc) = cellsT (V.set i v)
  | [], i, p => by simp [cellsT]
  | q :: V, 0, p => by simp [cellsT_cons]
  | q :: V, i + 1, p => by
    have ih := cellsT_set V i p
    rw [show (i + 1) * 8 = i * 8 + 8 by omega, cellsT_cons, show (q :: V).set (i + 1) p = q :: V.set i p from rfl, cellsT_cons, ← ih]
    simp only [Nat.add_assoc, Nat.reduceAdd, List.set_cons_succ]

/-- The block g is a row of routes that a call has made. -/
def OwRow (w : World) (g n c : Nat) (V : List Rv) : Prop := w.ownsRow 0 103 8 (.slice (some ⟨g, 0, none⟩) n c) n (cellsT V)

theorem OwRow.len {w : World} {g n c : Nat} {V : List Rv} (h : OwRow w g n c V) : V.length = n := by
  have := h.1
  rw [cellsT_len] at this
  omega
theorem OwRow.lt {w : World} {g n c : Nat} {V : List Rv} (h : OwRow w g n c V) : g < w.heap.size := (World.ownsRow.lt h g rfl).2
theorem OwRow.turn {w w' : World} {g n c : Nat} {V : List Rv} {S : Nat → Prop} (h : OwRow w g n c V) (t : Turn S w w') (hS : ¬ S g) : OwRow w' g n c V := by
  have hg := h.lt
  refine ⟨h.1, ?_⟩
  rcases h.2 with ⟨h', _⟩ | ⟨g', cap', cur, h', r⟩
  · simp at h'
  · simp only [Value.slice.injEq, Option.some.injEq, Addr.mk.injEq, and_true, true_and] at h'
    obtain ⟨rfl, rfl⟩ := h'
    exact .inr ⟨g, c, cur, rfl, r.1, (t.block g hg hS).trans r.2.1, r.2.2⟩
theorem OwRow.new {w w' : World} {g n c : Nat} {V : List Rv} (h : OwRow w g n c V) (t : New w w') : OwRow w' g n c V := h.turn t (fun f => f)
theorem OwRow.rt {w : World} {g n c : Nat} {V : List Rv} (h : OwRow w g n c V) (hp : ∀ v ∈ V, v.here w) : RtAt w (some ⟨g, 0, none⟩) V := by
  intro i v hv
  have hl := h.len
  have hi : i < V.length := (List.getElem?_eq_some_iff.1 hv).1
  refine ⟨⟨g, 0, rfl, fun j hj => ?_⟩, hp v (List.mem_of_getElem? hv)⟩
  rw [Nat.zero_add, World.ownsRow.cellAt h (i * 8 + j) (by omega)]
  exact cellsT_get V i v hv j hj
theorem OwRow.put {w : World} {g n c : Nat} {V : List Rv} (h : OwRow w g n c V) (i : Nat) (v : Rv) : OwRow ((((((((w.setCell ⟨g, i * 8, none⟩ (.int .i64 v.r.p)).setCell ⟨g, i * 8 + 1, none⟩ (.int .i64 v.r.a)).setCell ⟨g, i * 8 + 2, none⟩ (.int .i64 v.r.l)).setCell ⟨g, i * 8 + 3, none⟩ (.int .i64 v.r.o)).setCell ⟨g, i * 8 + 4, none⟩ (.slice v.x v.r.xs.length v.c)).setCell ⟨g, i * 8 + 5, none⟩ (.int .i64 v.r.nx)).setCell ⟨g, i * 8 + 6, none⟩ (.int .i64 v.r.md)).setCell ⟨g, i * 8 + 7, none⟩ (.int .i64 v.r.lc)) g n c (V.set i v) := by
  have h1 := (World.ownsRow.stored h (i * 8) (.int .i64 v.r.p)).1
  have h2 := (World.ownsRow.stored h1 (i * 8 + 1) (.int .i64 v.r.a)).1
  have h3 := (World.ownsRow.stored h2 (i * 8 + 2) (.int .i64 v.r.l)).1
  have h4 := (World.ownsRow.stored h3 (i * 8 + 3) (.int .i64 v.r.o)).1
  have h5 := (World.ownsRow.stored h4 (i * 8 + 4) (.slice v.x v.r.xs.length v.c)).1
  have h6 := (World.ownsRow.stored h5 (i * 8 + 5) (.int .i64 v.r.nx)).1
  have h7 := (World.ownsRow.stored h6 (i * 8 + 6) (.int .i64 v.r.md)).1
  have h8 := (World.ownsRow.stored h7 (i * 8 + 7) (.int .i64 v.r.lc)).1
  unfold OwRow
  rw [← cellsT_set V i v]
  exact h8
theorem OwRow.cell {w : World} {g n c : Nat} {V : List Rv} (h : OwRow w g n c V) (j : Nat) (hj : j < n * 8) : ∃ v, w.cell? ⟨g, j, none⟩ = some v := by
  have hl := cellsT_len V
  have := h.len
  exact ⟨_, (World.ownsRow.cellAt h j hj).trans (List.getElem?_eq_getElem (by omega))⟩

/-- The route of zeros. -/
def rv0 : Rv := ⟨⟨0, 0, 0, 0, [], 0, 0, 0⟩, none, 0⟩
theorem made_rv (n : Nat) : (madeCells #[.int .i64 0, .int .i64 0, .int .i64 0, .int .i64 0, .slice none 0 0, .int .i64 0, .int .i64 0, .int .i64 0] (n * 8)).toList = cellsT (List.replicate n rv0) := by
  apply List.ext_getElem?
  intro k
  by_cases hk : k < n * 8
  · have h1 : (cellsT (List.replicate n rv0))[k / 8 * 8 + k % 8]? = rv0.cs[k % 8]? := cellsT_get _ (k / 8) rv0 (by rw [List.getElem?_replicate]; simp; omega) (k % 8) (by omega)
    rw [show k / 8 * 8 + k % 8 = k by omega] at h1
    rw [h1]
    simp only [madeCells, Array.toList_map, Array.toList_range, List.getElem?_map, List.getElem?_range hk, Option.map_some]
    have h8 : k % 8 = 0 ∨ k % 8 = 1 ∨ k % 8 = 2 ∨ k % 8 = 3 ∨ k % 8 = 4 ∨ k % 8 = 5 ∨ k % 8 = 6 ∨ k % 8 = 7 := by omega
    rcases h8 with e | e | e | e | e | e | e | e <;> simp [e, Rv.cs, rv0]
  · rw [List.getElem?_eq_none (by simp [madeCells]; omega), List.getElem?_eq_none (by rw [cellsT_len]; simp; omega)]

theorem set_fillT (V : List Rv) (k n : Nat) (hn : V.length = k) (hk : k < n) (p : Rv) :
    (V ++ List.replicate (n - k) rv0).set k p = (V ++ [p]) ++ List.replicate (n - (k + 1)) rv0 := by
  rw [List.set_append_right _ _ (by omega), hn, Nat.sub_self, show n - k = (n - (k + 1)) + 1 by omega, List.replicate_succ, List.set_cons_zero, List.append_assoc]
  rfl

theorem Try.infoRt : (Try.prog.info? 103).map (fun i => (i.zero, i.size, i.bytes)) = some (some (.agg #[.int .i64 0, .int .i64 0, .int .i64 0, .int .i64 0, .slice none 0 0, .int .i64 0, .int .i64 0, .int .i64 0]), 8, 80) := by kernel_rfl

/-- The counting of paths: what is left of k behind the routes, from left to right; none where it does not go. -/
def szF : List Rv → Nat → Option Nat
  | [], k => some k
  | v :: V, k => if v.r.xs.length ≤ k then szF V (k - v.r.xs.length) else none
theorem szF_next {V : List Rv} {i : Nat} {v : Rv} (h : V[i]? = some v) (k : Nat) : szF (V.drop i) k = if v.r.xs.length ≤ k then szF (V.drop (i + 1)) (k - v.r.xs.length) else none := by
  obtain ⟨hk, e⟩ := List.getElem?_eq_some_iff.1 h
  rw [List.drop_eq_getElem_cons hk, e]
  rfl
theorem szF_le : ∀ (V : List Rv) (k m : Nat), szF V k = some m → (∀ v ∈ V, v.r.xs.length ≤ k) ∧ m ≤ k
  | [], k, m, h => by simp [szF] at h; simp; omega
  | v :: V, k, m, h => by
    unfold szF at h
    split at h
    · have := szF_le V _ m h
      refine ⟨fun u hu => ?_, by omega⟩
      rcases List.mem_cons.1 hu with rfl | hu
      · assumption
      · have := this.1 u hu; omega
    · cases h

end Go.Proofs.Ytmmkdmebmbpkgaa
