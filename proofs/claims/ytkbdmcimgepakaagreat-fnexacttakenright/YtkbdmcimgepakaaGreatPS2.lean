/- What is proved here: what the judging of a session and of a configuration answers, in the program and in the model. No condition. What is proved here: how an argument that is a session or a configuration comes in, and what the copying of one answers. No condition. What is proved here: two facts on storing into a block. No condition. What is proved here: what the copying, measuring, comparing and judging of a router's settings answer, for rules of at most 1048576. What is proved here: how an argument that is a router's settings comes in. No condition. What is proved here: what the counting, copying and comparing of a pair answers, for every pair of at most 1048576 rules, nodes, wires, mails, entries and bytes; how a pair comes in. What is proved here: the fault of a pair as lists. No condition. What is proved here: what the program's judging of a pair answers, for every pair of at most 1048576 rules, nodes, wires, mails, entries and bytes. -/
import Derived.Test.YtkbdmcimgepakaaGreatPO1
import Derived.Test.YtkbdmcimgepakaaGreatOpen
import Derived.Test.YtkbdmcimgepakaaGreatP14Nd
import Derived.Test.YtkbdmcimgepakaaGreatP14Wi
import Derived.Test.YtkbdmcimgepakaaGreatP14Ml
namespace Go.Proofs.YtkbdmcimgepakaaGreat
open Go.RowKit
set_option linter.unusedVariables false

set_option maxHeartbeats 1600000 in
theorem implCF (sa si ho : Int) (w : World) : Calls Tryz.prog 96 #[.agg #[.int .i64 sa, .int .i64 si, .int .i64 ho]] w fun e w' => e = .returned (.int .i64 (cf sa si ho)) ∧ New w w' := by
  by_cases g0 : 1 ≤ sa ∧ sa ≤ 65535
  case neg =>
    have hx : cf sa si ho = 3 := if_neg (fun k => g0 k.1)
    go_enter Tryz.func96, Tryz.ntmps96
    go_wp2_with fail
    refine (sys5_no _ _ g0).mono ?_
    rintro e w1 ⟨rfl, rfl⟩
    go_wp2
    go_ret
    exact ⟨ret_i64 (by first | exact hx.symm | rfl), (New.refl w).alloc _⟩
  by_cases g1 : 1 ≤ si ∧ si ≤ 65535
  case neg =>
    have hx : cf sa si ho = 3 := if_neg (fun k => g1 k.2.1)
    go_enter Tryz.func96, Tryz.ntmps96
    go_wp2_with fail
    refine (sys5_yes _ _ g0).mono ?_
    rintro e w1 ⟨rfl, rfl⟩
    go_wp2_with fail
    refine (id5_no _ _ g1).mono ?_
    rintro e w1 ⟨rfl, rfl⟩
    go_wp2
    go_ret
    exact ⟨ret_i64 (by first | exact hx.symm | rfl), (New.refl w).alloc _⟩
  by_cases g2 : HoP ho
  case neg =>
    have hx : cf sa si ho = 3 := if_neg (fun k => g2 k.2.2)
    go_enter Tryz.func96, Tryz.ntmps96
    go_wp2_with fail
    refine (sys5_yes _ _ g0).mono ?_
    rintro e w1 ⟨rfl, rfl⟩
    go_wp2_with fail
    refine (id5_yes _ _ g1).mono ?_
    rintro e w1 ⟨rfl, rfl⟩
    go_wp2_with fail
    refine (hold5_no _ _ g2).mono ?_
    rintro e w1 ⟨rfl, rfl⟩
    go_wp2
    go_ret
    exact ⟨ret_i64 (by first | exact hx.symm | rfl), (New.refl w).alloc _⟩
  have hx : cf sa si ho = 0 := if_pos ⟨g0, g1, g2⟩
  go_enter Tryz.func96, Tryz.ntmps96
  go_wp2_with fail
  refine (sys5_yes _ _ g0).mono ?_
  rintro e w1 ⟨rfl, rfl⟩
  go_wp2_with fail
  refine (id5_yes _ _ g1).mono ?_
  rintro e w1 ⟨rfl, rfl⟩
  go_wp2_with fail
  refine (hold5_yes _ _ g2).mono ?_
  rintro e w1 ⟨rfl, rfl⟩
  go_wp2
  go_ret
  exact ⟨ret_i64 (by first | exact hx.symm | rfl), (New.refl w).alloc _⟩

set_option maxHeartbeats 1600000 in
theorem specCF (sa si ho : Int) (w : World) : Calls Tryz.prog 84 #[.agg #[.int .i64 sa, .int .i64 si, .int .i64 ho]] w fun e w' => e = .returned (.int .i64 (cf sa si ho)) ∧ New w w' := by
  by_cases g0 : 1 ≤ sa ∧ sa ≤ 65535
  case neg =>
    have hx : cf sa si ho = 3 := if_neg (fun k => g0 k.1)
    go_enter Tryz.func84, Tryz.ntmps84
    go_wp2_with fail
    refine (in5_no _ _ _ _ g0).mono ?_
    rintro e w1 ⟨rfl, rfl⟩
    go_wp2
    go_ret
    exact ⟨ret_i64 (by first | exact hx.symm | rfl), (New.refl w).alloc _⟩
  by_cases g1 : 1 ≤ si ∧ si ≤ 65535
  case neg =>
    have hx : cf sa si ho = 3 := if_neg (fun k => g1 k.2.1)
    go_enter Tryz.func84, Tryz.ntmps84
    go_wp2_with fail
    refine (in_yes _ _ _ _ g0).mono ?_
    rintro e w1 ⟨rfl, rfl⟩
    go_wp2_with fail
    refine (in5_no _ _ _ _ g1).mono ?_
    rintro e w1 ⟨rfl, rfl⟩
    go_wp2
    go_ret
    exact ⟨ret_i64 (by first | exact hx.symm | rfl), (New.refl w).alloc _⟩
  by_cases g2 : HoP ho
  case neg =>
    have hx : cf sa si ho = 3 := if_neg (fun k => g2 k.2.2)
    go_enter Tryz.func84, Tryz.ntmps84
    go_wp2_with fail
    refine (in_yes _ _ _ _ g0).mono ?_
    rintro e w1 ⟨rfl, rfl⟩
    go_wp2_with fail
    refine (in_yes _ _ _ _ g1).mono ?_
    rintro e w1 ⟨rfl, rfl⟩
    go_wp2_with fail
    refine (holdS5_no _ _ g2).mono ?_
    rintro e w1 ⟨rfl, rfl⟩
    go_wp2
    go_ret
    exact ⟨ret_i64 (by first | exact hx.symm | rfl), (New.refl w).alloc _⟩
  have hx : cf sa si ho = 0 := if_pos ⟨g0, g1, g2⟩
  go_enter Tryz.func84, Tryz.ntmps84
  go_wp2_with fail
  refine (in_yes _ _ _ _ g0).mono ?_
  rintro e w1 ⟨rfl, rfl⟩
  go_wp2_with fail
  refine (in_yes _ _ _ _ g1).mono ?_
  rintro e w1 ⟨rfl, rfl⟩
  go_wp2_with fail
  refine (holdS5_yes _ _ g2).mono ?_
  rintro e w1 ⟨rfl, rfl⟩
  go_wp2
  go_ret
  exact ⟨ret_i64 (by first | exact hx.symm | rfl), (New.refl w).alloc _⟩

end Go.Proofs.YtkbdmcimgepakaaGreat

namespace Go.Proofs.YtkbdmcimgepakaaGreat
open Go.ChangeShapes Go.WideShapes Go.ChangeAt Go.RowKit Go.Deep
set_option linter.unusedVariables false

/-- A whole number that an int64 holds. -/
def In5 (x : Int) : Prop := -9223372036854775808 ≤ x ∧ x ≤ 9223372036854775807
theorem in5_of_wf {x : Int} (h : (Lit.int .i64 x).wf = true) : In5 x := by simpa [In5, Lit.wf, IntKind.min, IntKind.max, IntKind.signed, IntKind.bits] using h

set_option maxHeartbeats 400000 in
theorem toCfg_any (sa si ho : Int) (w : World) : Calls Tryz.prog 56 #[.agg #[.int .i64 sa, .int .i64 si, .int .i64 ho]] w fun e w' => e = .returned (.agg #[.int .i64 sa, .int .i64 si, .int .i64 ho]) ∧ New w w' := by
  go_enter Tryz.func56, Tryz.ntmps56
  go_wp2
  refine bodyPost_ret (v := .agg #[.int .i64 sa, .int .i64 si, .int .i64 ho]) (by simp [results, Tryz.results56, go_sem]) rfl ⟨rfl, ?_⟩
  exact ((((New.refl w).alloc _).alloc _).alloc _)

end Go.Proofs.YtkbdmcimgepakaaGreat

namespace Go.Proofs.YtkbdmcimgepakaaGreat
open Go.RowKit Go.Sort

theorem Turn.here9 {B j : Nat} {a w : World} (h : Turn (fun k => k = B) a w) (u : Value) : Turn (fun k => k = B) a (w.setCell ⟨B, j, none⟩ u) := h.set (p := ⟨B, j, none⟩) rfl u

theorem turn_set_iff {S : Nat → Prop} {a w : World} {p : Addr} {u : Value} (hp : S p.block) : Turn S a (w.setCell p u) ↔ Turn S a w :=
  ⟨fun h => ⟨h.os, h.tape, h.output, by simpa [World.setCell] using h.size, fun k hk hs => (Below.heap_setCell w p u k (fun e => hs (e ▸ hp))).symm.trans (h.block k hk hs)⟩, fun h => h.set hp u⟩

end Go.Proofs.YtkbdmcimgepakaaGreat

namespace Go.Proofs.YtkbdmcimgepakaaGreat
open Go.RowKit Go.Sort
set_option linter.unusedVariables false

theorem OwR.set_iff {w : World} {g n c : Nat} {ps : List Ru} {p : Addr} {u : Value} (hp : ¬ p.block = g) : OwR (w.setCell p u) g n c ps ↔ OwR w g n c ps := by
  have hb : (w.setCell p u).heap[g]? = w.heap[g]? := Below.heap_setCell w p u g (fun e => hp e.symm)
  unfold OwR World.ownsRow
  constructor
  · rintro ⟨h1, h2⟩
    refine ⟨h1, ?_⟩
    rcases h2 with h' | ⟨g', cap', cur, h', r⟩
    · exact .inl h'
    · simp only [Value.slice.injEq, Option.some.injEq, Addr.mk.injEq, and_true, true_and] at h'
      obtain ⟨rfl, rfl⟩ := h'
      exact .inr ⟨g, c, cur, rfl, r.1, hb.symm.trans r.2.1, r.2.2⟩
  · rintro ⟨h1, h2⟩
    refine ⟨h1, ?_⟩
    rcases h2 with h' | ⟨g', cap', cur, h', r⟩
    · exact .inl h'
    · simp only [Value.slice.injEq, Option.some.injEq, Addr.mk.injEq, and_true, true_and] at h'
      obtain ⟨rfl, rfl⟩ := h'
      exact .inr ⟨g, c, cur, rfl, r.1, hb.trans r.2.1, r.2.2⟩

/-- The fault of settings. -/
def stF (sa si ho nx : Int) (r1 r2 : List Ru) : Int :=
  if cf sa si ho = 0 then (if 0 ≤ nx ∧ nx ≤ 65535 then (if rsf r1 = 0 then rsf r2 else rsf r1) else 3) else cf sa si ho

theorem implCF_is (sa si ho z : Int) (w : World) (hz : cf sa si ho = z) : Calls Tryz.prog 96 #[.agg #[.int .i64 sa, .int .i64 si, .int .i64 ho]] w fun e w' => e = .returned (.int .i64 z) ∧ New w w' := hz ▸ implCF sa si ho w

theorem specCF_is (sa si ho z : Int) (w : World) (hz : cf sa si ho = z) : Calls Tryz.prog 84 #[.agg #[.int .i64 sa, .int .i64 si, .int .i64 ho]] w fun e w' => e = .returned (.int .i64 z) ∧ New w w' := hz ▸ specCF sa si ho w

theorem implRs_is (x : Option Addr) (n c : Nat) (rs : List Ru) (k : Int) (w : World) (h : RsAt w x rs) (hn : rs.length = n) (hm : n ≤ 1048576) (e : rsf rs = k) : Calls Tryz.prog 98 #[.slice x n c] w fun e w' => e = .returned (.int .i64 k) ∧ New w w' := e ▸ implRSF x n c rs w h hn hm

theorem specRs_is (x : Option Addr) (n c : Nat) (rs : List Ru) (k : Int) (w : World) (h : RsAt w x rs) (hn : rs.length = n) (hm : n ≤ 1048576) (e : rsf rs = k) : Calls Tryz.prog 86 #[.slice x n c] w fun e w' => e = .returned (.int .i64 k) ∧ New w w' := e ▸ specRSF x n c rs w h hn hm

set_option maxHeartbeats 1600000 in
theorem specSE (sa si ho nx : Int) (a1 a2 : Option Addr) (n1 c1 n2 c2 : Nat) (r1 r2 : List Ru) (z : Int) (w : World) (h1 : RsAt w a1 r1) (h2 : RsAt w a2 r2) (e1 : r1.length = n1) (e2 : r2.length = n2) (m1 : n1 ≤ 1048576) (m2 : n2 ≤ 1048576) (hz : stF sa si ho nx r1 r2 = z) : Calls Tryz.prog 50 #[.agg #[.int .i64 sa, .int .i64 si, .int .i64 ho, .int .i64 nx, .slice a1 n1 c1, .slice a2 n2 c2]] w fun e w' => e = .returned (.int .i64 z) ∧ New w w' := by
  have N0 := (New.refl w).alloc (.cells #[.int .i64 sa, .int .i64 si, .int .i64 ho, .int .i64 nx, .slice a1 n1 c1, .slice a2 n2 c2] 38)
  have bA := (Blk.mk w _ 38 #[.int .i64 sa, .int .i64 si, .int .i64 ho, .int .i64 nx, .slice a1 n1 c1, .slice a2 n2 c2] rfl)
  have cA := bA.cells
  have E1 : Hid (r1.length = n1) := e1
  have E2 : Hid (r2.length = n2) := e2
  clear e1 e2
  by_cases hc : cf sa si ho = 0
  · have HC : Hid (cf sa si ho = 0) := hc
    by_cases ha : 0 ≤ nx ∧ nx ≤ 65535
    · have HA : Hid (0 ≤ nx ∧ nx ≤ 65535) := ha
      by_cases hr : rsf r1 = 0
      · have HR : Hid (rsf r1 = 0) := hr
        have HZ : Hid (rsf r2 = z) := by
          have := hz
          unfold stF at this
          rw [if_pos hc, if_pos ha, if_pos hr] at this
          exact this
        clear hz hc ha hr
        go_enter Tryz.func50, Tryz.ntmps50
        go_wp2_with fail
        refine (specCF_is sa si ho 0 _ HC.out).mono ?_
        rintro e w1 ⟨rfl, k1⟩
        have b1 := bA.new k1
        have c1' := b1.cells
        have N1 := N0.trans k1
        clear cA
        go_wp2_with fail
        refine (l2Addr_yes _ _ HA.out).mono ?_
        rintro e w2 ⟨rfl, rfl⟩
        go_wp2_with fail
        refine (specRs_is a1 n1 c1 r1 0 _ (h1.new N1) E1.out m1 HR.out).mono ?_
        rintro e w3 ⟨rfl, k3⟩
        have b3 := b1.new k3
        have c3' := b3.cells
        have N3 := N1.trans k3
        clear c1'
        go_wp2_with fail
        refine (specRs_is a2 n2 c2 r2 z _ (h2.new N3) E2.out m2 HZ.out).mono ?_
        rintro e w4 ⟨rfl, k4⟩
        go_wp2
        go_ret
        exact ⟨rfl, N3.trans k4⟩
      · have HZ : Hid (rsf r1 = z) := by
          have := hz
          unfold stF at this
          rw [if_pos hc, if_pos ha, if_neg hr] at this
          exact this
        have hz0 : ¬ z = 0 := fun f => hr (HZ.out.trans f)
        clear hz hc ha hr
        go_enter Tryz.func50, Tryz.ntmps50
        go_wp2_with fail
        refine (specCF_is sa si ho 0 _ HC.out).mono ?_
        rintro e w1 ⟨rfl, k1⟩
        have b1 := bA.new k1
        have c1' := b1.cells
        have N1 := N0.trans k1
        clear cA
        go_wp2_with fail
        refine (l2Addr_yes _ _ HA.out).mono ?_
        rintro e w2 ⟨rfl, rfl⟩
        go_wp2_with fail
        refine (specRs_is a1 n1 c1 r1 z _ (h1.new N1) E1.out m1 HZ.out).mono ?_
        rintro e w3 ⟨rfl, k3⟩
        go_wp2
        go_ret
        exact ⟨rfl, N1.trans k3⟩
    · have HA : Hid (nx < 0 ∨ 65535 < nx) := (show nx < 0 ∨ 65535 < nx by omega)
      obtain rfl : 3 = z := by
        have := hz
        unfold stF at this
        rw [if_pos hc, if_neg ha] at this
        exact this
      clear hz hc ha
      go_enter Tryz.func50, Tryz.ntmps50
      go_wp2_with fail
      refine (specCF_is sa si ho 0 _ HC.out).mono ?_
      rintro e w1 ⟨rfl, k1⟩
      have b1 := bA.new k1
      have c1' := b1.cells
      have N1 := N0.trans k1
      clear cA
      go_wp2_with fail
      refine (l2Addr_no _ _ HA.out).mono ?_
      rintro e w2 ⟨rfl, rfl⟩
      go_wp2
      go_ret
      exact ⟨rfl, N1⟩
  · have HC : Hid (cf sa si ho = z) := by
      have := hz
      unfold stF at this
      rw [if_neg hc] at this
      exact this
    have hz0 : ¬ z = 0 := fun f => hc (HC.out.trans f)
    clear hz hc
    go_enter Tryz.func50, Tryz.ntmps50
    go_wp2_with fail
    refine (specCF_is sa si ho z _ HC.out).mono ?_
    rintro e w1 ⟨rfl, k1⟩
    have b1 := bA.new k1
    have c1' := b1.cells
    have N1 := N0.trans k1
    clear cA
    go_wp2
    go_ret
    exact ⟨rfl, N1⟩

set_option maxHeartbeats 1600000 in
theorem implSE (sa si ho nx : Int) (a1 a2 : Option Addr) (n1 c1 n2 c2 : Nat) (r1 r2 : List Ru) (z : Int) (w : World) (h1 : RsAt w a1 r1) (h2 : RsAt w a2 r2) (e1 : r1.length = n1) (e2 : r2.length = n2) (m1 : n1 ≤ 1048576) (m2 : n2 ≤ 1048576) (hz : stF sa si ho nx r1 r2 = z) : Calls Tryz.prog 62 #[.agg #[.int .i64 sa, .int .i64 si, .int .i64 ho, .int .i64 nx, .slice a1 n1 c1, .slice a2 n2 c2]] w fun e w' => e = .returned (.int .i64 z) ∧ New w w' := by
  have N0 := (New.refl w).alloc (.cells #[.int .i64 sa, .int .i64 si, .int .i64 ho, .int .i64 nx, .slice a1 n1 c1, .slice a2 n2 c2] 38)
  have bA := (Blk.mk w _ 38 #[.int .i64 sa, .int .i64 si, .int .i64 ho, .int .i64 nx, .slice a1 n1 c1, .slice a2 n2 c2] rfl)
  have cA := bA.cells
  have E1 : Hid (r1.length = n1) := e1
  have E2 : Hid (r2.length = n2) := e2
  clear e1 e2
  by_cases hc : cf sa si ho = 0
  · have HC : Hid (cf sa si ho = 0) := hc
    by_cases ha : 0 ≤ nx ∧ nx ≤ 65535
    · have HA : Hid (0 ≤ nx ∧ nx ≤ 65535) := ha
      by_cases hr : rsf r1 = 0
      · have HR : Hid (rsf r1 = 0) := hr
        have HZ : Hid (rsf r2 = z) := by
          have := hz
          unfold stF at this
          rw [if_pos hc, if_pos ha, if_pos hr] at this
          exact this
        clear hz hc ha hr
        go_enter Tryz.func62, Tryz.ntmps62
        go_wp2_with fail
        refine (implCF_is sa si ho 0 _ HC.out).mono ?_
        rintro e w1 ⟨rfl, k1⟩
        have b1 := bA.new k1
        have c1' := b1.cells
        have N1 := N0.trans k1
        clear cA
        go_wp2_with fail
        refine (isAddr_yes _ _ HA.out).mono ?_
        rintro e w2 ⟨rfl, rfl⟩
        go_wp2_with fail
        refine (implRs_is a1 n1 c1 r1 0 _ (h1.new N1) E1.out m1 HR.out).mono ?_
        rintro e w3 ⟨rfl, k3⟩
        have b3 := b1.new k3
        have c3' := b3.cells
        have N3 := N1.trans k3
        clear c1'
        go_wp2_with fail
        refine (implRs_is a2 n2 c2 r2 z _ (h2.new N3) E2.out m2 HZ.out).mono ?_
        rintro e w4 ⟨rfl, k4⟩
        go_wp2
        go_ret
        exact ⟨rfl, N3.trans k4⟩
      · have HZ : Hid (rsf r1 = z) := by
          have := hz
          unfold stF at this
          rw [if_pos hc, if_pos ha, if_neg hr] at this
          exact this
        have hz0 : ¬ z = 0 := fun f => hr (HZ.out.trans f)
        clear hz hc ha hr
        go_enter Tryz.func62, Tryz.ntmps62
        go_wp2_with fail
        refine (implCF_is sa si ho 0 _ HC.out).mono ?_
        rintro e w1 ⟨rfl, k1⟩
        have b1 := bA.new k1
        have c1' := b1.cells
        have N1 := N0.trans k1
        clear cA
        go_wp2_with fail
        refine (isAddr_yes _ _ HA.out).mono ?_
        rintro e w2 ⟨rfl, rfl⟩
        go_wp2_with fail
        refine (implRs_is a1 n1 c1 r1 z _ (h1.new N1) E1.out m1 HZ.out).mono ?_
        rintro e w3 ⟨rfl, k3⟩
        go_wp2
        go_ret
        exact ⟨rfl, N1.trans k3⟩
    · have HA : Hid (nx < 0 ∨ 65535 < nx) := (show nx < 0 ∨ 65535 < nx by omega)
      obtain rfl : 3 = z := by
        have := hz
        unfold stF at this
        rw [if_pos hc, if_neg ha] at this
        exact this
      clear hz hc ha
      go_enter Tryz.func62, Tryz.ntmps62
      go_wp2_with fail
      refine (implCF_is sa si ho 0 _ HC.out).mono ?_
      rintro e w1 ⟨rfl, k1⟩
      have b1 := bA.new k1
      have c1' := b1.cells
      have N1 := N0.trans k1
      clear cA
      go_wp2_with fail
      refine (isAddr_no _ _ HA.out).mono ?_
      rintro e w2 ⟨rfl, rfl⟩
      go_wp2
      go_ret
      exact ⟨rfl, N1⟩
  · have HC : Hid (cf sa si ho = z) := by
      have := hz
      unfold stF at this
      rw [if_neg hc] at this
      exact this
    have hz0 : ¬ z = 0 := fun f => hc (HC.out.trans f)
    clear hz hc
    go_enter Tryz.func62, Tryz.ntmps62
    go_wp2_with fail
    refine (implCF_is sa si ho z _ HC.out).mono ?_
    rintro e w1 ⟨rfl, k1⟩
    have b1 := bA.new k1
    have c1' := b1.cells
    have N1 := N0.trans k1
    clear cA
    go_wp2
    go_ret
    exact ⟨rfl, N1⟩

theorem szSe_ok (sa si ho nx : Int) (a1 a2 : Option Addr) (n1 c1 n2 c2 l : Nat) (w : World) (hl : l ≤ 1048576) (h : n1 + n2 ≤ l) : Calls Tryz.prog 18 #[.agg #[.int .i64 sa, .int .i64 si, .int .i64 ho, .int .i64 nx, .slice a1 n1 c1, .slice a2 n2 c2], .int .i64 l] w fun e w' => e = .returned (.int .i64 ((l - n1 - n2 : Nat) : Int)) ∧ New w w' := by
  have bA := (Blk.mk w _ 26 #[.int .i64 sa, .int .i64 si, .int .i64 ho, .int .i64 nx, .slice a1 n1 c1, .slice a2 n2 c2] rfl)
  have cA := bA.cells
  have s1 : (l : Int) - (n1 : Int) = ((l - n1 : Nat) : Int) := by omega
  have s2 : ((l - n1 : Nat) : Int) - (n2 : Int) = ((l - n1 - n2 : Nat) : Int) := by omega
  have l1 : n1 ≤ l := by omega
  have l2 : n2 ≤ l - n1 := by omega
  have m2 : l - n1 ≤ 1048576 := by omega
  clear h
  generalize l - n1 - n2 = q2 at *
  generalize l - n1 = q1 at *
  go_enter Tryz.func18, Tryz.ntmps18
  go_wp2_with fail
  refine (szRs_ok a1 n1 c1 l _ hl l1).mono ?_
  rintro e w1 ⟨rfl, rfl⟩
  rw [s1]
  go_wp2_with fail
  refine (szRs_ok a2 n2 c2 q1 _ m2 l2).mono ?_
  rintro e w1 ⟨rfl, rfl⟩
  rw [s2]
  go_wp2
  go_ret
  exact ⟨rfl, (New.refl _).alloc _⟩

theorem szSe_big (sa si ho nx : Int) (a1 a2 : Option Addr) (n1 c1 n2 c2 l : Nat) (w : World) (hl : l ≤ 1048576) (h : l < n1 + n2) (g1 : n1 ≤ maxLen) (g2 : n2 ≤ maxLen) : Calls Tryz.prog 18 #[.agg #[.int .i64 sa, .int .i64 si, .int .i64 ho, .int .i64 nx, .slice a1 n1 c1, .slice a2 n2 c2], .int .i64 l] w fun e w' => e = .returned (.int .i64 (-1)) ∧ New w w' := by
  by_cases l1 : l < n1
  · go_enter Tryz.func18, Tryz.ntmps18
    go_wp2_with fail
    refine (szRs_big a1 n1 c1 l _ hl g1 l1).mono ?_
    rintro e w1 ⟨rfl, rfl⟩
    go_wp2
    go_ret
    exact ⟨rfl, (New.refl _).alloc _⟩
  · have s1 : (l : Int) - (n1 : Int) = ((l - n1 : Nat) : Int) := by omega
    have l1' : n1 ≤ l := by omega
    have l2 : l - n1 < n2 := by omega
    have m2 : l - n1 ≤ 1048576 := by omega
    clear h l1
    generalize l - n1 = q1 at *
    go_enter Tryz.func18, Tryz.ntmps18
    go_wp2_with fail
    refine (szRs_ok a1 n1 c1 l _ hl l1').mono ?_
    rintro e w1 ⟨rfl, rfl⟩
    rw [s1]
    go_wp2_with fail
    refine (szRs_big a2 n2 c2 q1 _ m2 g2 l2).mono ?_
    rintro e w1 ⟨rfl, rfl⟩
    go_wp2
    go_ret
    exact ⟨rfl, (New.refl _).alloc _⟩

set_option maxHeartbeats 3200000 in
theorem toSe_any (sa si ho nx : Int) (a1 a2 : Option Addr) (n1 c1 n2 c2 : Nat) (r1 r2 : List Ru) (w : World) (h1 : RsAt w a1 r1) (h2 : RsAt w a2 r2) (e1 : r1.length = n1) (e2 : r2.length = n2) (m1 : n1 ≤ 1048576) (m2 : n2 ≤ 1048576) :
    Calls Tryz.prog 25 #[.agg #[.int .i64 sa, .int .i64 si, .int .i64 ho, .int .i64 nx, .slice a1 n1 c1, .slice a2 n2 c2]] w fun e w' => ∃ g1 g2, e = .returned (.agg #[.int .i64 sa, .int .i64 si, .int .i64 ho, .int .i64 nx, .slice (some ⟨g1, 0, none⟩) n1 n1, .slice (some ⟨g2, 0, none⟩) n2 n2]) ∧ w.heap.size ≤ g1 ∧ g1 < g2 ∧ OwR w' g1 n1 n1 r1 ∧ OwR w' g2 n2 n2 r2 ∧ New w w' := by
  have hw0 := (((New.refl w).alloc (.cells #[.int .i64 sa, .int .i64 si, .int .i64 ho, .int .i64 nx, .slice a1 n1 c1, .slice a2 n2 c2] 26)).alloc (.cells #[.int .i64 0, .int .i64 0, .int .i64 0, .int .i64 0, .slice none 0 0, .slice none 0 0] 38)).alloc (.cells #[.int .i64 0, .int .i64 0, .int .i64 0, .int .i64 0, .slice none 0 0, .slice none 0 0] 38)
  have b0 : Blk (((w.alloc (.cells #[.int .i64 sa, .int .i64 si, .int .i64 ho, .int .i64 nx, .slice a1 n1 c1, .slice a2 n2 c2] 26)).alloc (.cells #[.int .i64 0, .int .i64 0, .int .i64 0, .int .i64 0, .slice none 0 0, .slice none 0 0] 38)).alloc (.cells #[.int .i64 0, .int .i64 0, .int .i64 0, .int .i64 0, .slice none 0 0, .slice none 0 0] 38)) w.heap.size 26 #[.int .i64 sa, .int .i64 si, .int .i64 ho, .int .i64 nx, .slice a1 n1 c1, .slice a2 n2 c2] := ((Blk.mk _ _ _ _ rfl).alloc _).alloc _
  have b1 : Blk (((w.alloc (.cells #[.int .i64 sa, .int .i64 si, .int .i64 ho, .int .i64 nx, .slice a1 n1 c1, .slice a2 n2 c2] 26)).alloc (.cells #[.int .i64 0, .int .i64 0, .int .i64 0, .int .i64 0, .slice none 0 0, .slice none 0 0] 38)).alloc (.cells #[.int .i64 0, .int .i64 0, .int .i64 0, .int .i64 0, .slice none 0 0, .slice none 0 0] 38)) (w.heap.size + 1) 38 #[.int .i64 0, .int .i64 0, .int .i64 0, .int .i64 0, .slice none 0 0, .slice none 0 0] := (Blk.mk _ _ _ _ (by simp)).alloc _
  have b2 : Blk (((w.alloc (.cells #[.int .i64 sa, .int .i64 si, .int .i64 ho, .int .i64 nx, .slice a1 n1 c1, .slice a2 n2 c2] 26)).alloc (.cells #[.int .i64 0, .int .i64 0, .int .i64 0, .int .i64 0, .slice none 0 0, .slice none 0 0] 38)).alloc (.cells #[.int .i64 0, .int .i64 0, .int .i64 0, .int .i64 0, .slice none 0 0, .slice none 0 0] 38)) (w.heap.size + 1 + 1) 38 #[.int .i64 0, .int .i64 0, .int .i64 0, .int .i64 0, .slice none 0 0, .slice none 0 0] := Blk.mk _ _ _ _ (by simp)
  have ge1 : w.heap.size ≤ w.heap.size + 1 := by omega
  have ge2 : w.heap.size ≤ w.heap.size + 1 + 1 := by omega
  have d01 : ¬ w.heap.size + 1 + 1 = w.heap.size := by omega
  have d12 : ¬ w.heap.size + 1 + 1 = w.heap.size + 1 := by omega
  go_enter Tryz.func25, Tryz.ntmps25
  go_wp2_with fail
  refine (toCfg_any sa si ho _).mono ?_
  rintro e w1 ⟨rfl, hn1⟩
  have n1' := hw0.trans hn1
  have p0 := b0.new hn1
  have p1 := b1.new hn1
  have p2 := b2.new hn1
  have c0 := p0.cells
  have c2' := p2.cells
  have f2 := p2.frees
  have t1 : Turn (fun k => k = w.heap.size + 1 + 1) w1 ((((w1.setCell ⟨w.heap.size + 1 + 1, 0, none⟩ (.int .i64 sa)).setCell ⟨w.heap.size + 1 + 1, 1, none⟩ (.int .i64 si)).setCell ⟨w.heap.size + 1 + 1, 2, none⟩ (.int .i64 ho)).setCell ⟨w.heap.size + 1 + 1, 3, none⟩ (.int .i64 nx)) := Turn.here9 (Turn.here9 (Turn.here9 (Turn.here9 (Turn.refl _ _) _) _) _) _
  have n1'' : New w ((((w1.setCell ⟨w.heap.size + 1 + 1, 0, none⟩ (.int .i64 sa)).setCell ⟨w.heap.size + 1 + 1, 1, none⟩ (.int .i64 si)).setCell ⟨w.heap.size + 1 + 1, 2, none⟩ (.int .i64 ho)).setCell ⟨w.heap.size + 1 + 1, 3, none⟩ (.int .i64 nx)) := (((n1'.setCell ge2 _).setCell ge2 _).setCell ge2 _).setCell ge2 _
  have q2 := ((((p2.set 0 (.int .i64 sa)).set 1 (.int .i64 si)).set 2 (.int .i64 ho)).set 3 (.int .i64 nx))
  have q0 := p0.turn t1 (by omega)
  have q1 := p1.turn t1 (by omega)
  have sz0 := n1'.size
  have sz1 := t1.size
  have hs0 := hn1.size
  simp at hs0
  clear b0 b1 b2 hn1 p0 p1 p2 hw0
  go_wp2_with fail
  refine (toRs_any a1 n1 c1 r1 _ (h1.new n1'') e1 m1).mono ?_
  rintro e w2 ⟨g1, rfl, hg1, ho1, hn2⟩
  have n2' := n1''.trans hn2
  have s0 := q0.new hn2
  have s1 := q1.new hn2
  have s2 : Blk w2 (w.heap.size + 1 + 1) 38 #[.int .i64 sa, .int .i64 si, .int .i64 ho, .int .i64 nx, .slice none 0 0, .slice none 0 0] := q2.new hn2
  have lt1 := ho1.lt
  have hg1' : w.heap.size + 3 ≤ g1 := by omega
  clear c0 c2' f2 q0 q1 q2 t1
  have c0 := s0.cells
  have c2' := s2.cells
  have f2 := s2.frees
  have t2 : Turn (fun k => k = w.heap.size + 1 + 1) w2 (w2.setCell ⟨w.heap.size + 1 + 1, 4, none⟩ (.slice (some ⟨g1, 0, none⟩) n1 n1)) := Turn.here9 (Turn.refl _ _) _
  have n2'' : New w (w2.setCell ⟨w.heap.size + 1 + 1, 4, none⟩ (.slice (some ⟨g1, 0, none⟩) n1 n1)) := n2'.setCell ge2 _
  have q2 := s2.set 4 (.slice (some ⟨g1, 0, none⟩) n1 n1)
  have q1 := s1.turn t2 (by omega)
  have oo1 := ho1.turn t2 (by omega)
  have sz2 := t2.size
  clear hn2 s0 s1 s2 ho1
  go_wp2_with fail
  refine (toRs_any a2 n2 c2 r2 _ (h2.new n2'') e2 m2).mono ?_
  rintro e w3 ⟨g2, rfl, hg2, ho2, hn3⟩
  have n3' := n2''.trans hn3
  have s1 := q1.new hn3
  have s2 : Blk w3 (w.heap.size + 1 + 1) 38 #[.int .i64 sa, .int .i64 si, .int .i64 ho, .int .i64 nx, .slice (some ⟨g1, 0, none⟩) n1 n1, .slice none 0 0] := q2.new hn3
  have o31 := oo1.new hn3
  clear c0 c2' f2 q1 q2 t2 oo1
  have c1' := s1.cells
  have f1 := s1.frees
  have c2' := s2.cells
  have f2 := s2.frees
  have h12 : g1 < g2 := by omega
  have e11 : ¬ w.heap.size + 1 = g1 := by omega
  have e12 : ¬ w.heap.size + 1 = g2 := by omega
  have e21 : ¬ w.heap.size + 1 + 1 = g1 := by omega
  have e22 : ¬ w.heap.size + 1 + 1 = g2 := by omega
  go_wp2
  refine bodyPost_ret (v := .agg #[.int .i64 sa, .int .i64 si, .int .i64 ho, .int .i64 nx, .slice (some ⟨g1, 0, none⟩) n1 n1, .slice (some ⟨g2, 0, none⟩) n2 n2]) (by simp [results, Tryz.results25, go_sem, c1']) rfl ⟨g1, g2, rfl, by omega, h12, ?_, ?_, ?_⟩
  · simp (disch := (first | exact e11 | exact e21)) only [OwR.set_iff, o31]
  · simp (disch := (first | exact e12 | exact e22)) only [OwR.set_iff, ho2]
  · simp (disch := (first | exact ge1 | exact ge2)) only [New.set_iff, n3']

set_option maxHeartbeats 400000 in
theorem eqCf9 (sa si ho : Int) (w : World) : Calls Tryz.prog 68 #[.agg #[.int .i64 sa, .int .i64 si, .int .i64 ho], .agg #[.int .i64 sa, .int .i64 si, .int .i64 ho]] w fun e w' => e = .returned (.bool true) ∧ New w w' := by
  have z1 : (sa != sa) = false := by simp
  have z2 : (si != si) = false := by simp
  have z3 : (ho != ho) = false := by simp
  go_enter Tryz.func68, Tryz.ntmps68
  go_wp2
  go_ret
  exact ⟨rfl, ((New.refl w).alloc _).alloc _⟩

set_option maxHeartbeats 1600000 in
theorem eqSe_any (sa si ho nx : Int) (a1 a2 b1 b2 : Option Addr) (n1 c1 n2 c2 d1 d2 : Nat) (r1 r2 : List Ru) (w : World) (h1 : RsAt w a1 r1) (h2 : RsAt w a2 r2) (e1 : r1.length = n1) (e2 : r2.length = n2) (m1 : n1 ≤ 1048576) (m2 : n2 ≤ 1048576) (k1 : RsAt w b1 r1) (k2 : RsAt w b2 r2) :
    Calls Tryz.prog 32 #[.agg #[.int .i64 sa, .int .i64 si, .int .i64 ho, .int .i64 nx, .slice a1 n1 c1, .slice a2 n2 c2], .agg #[.int .i64 sa, .int .i64 si, .int .i64 ho, .int .i64 nx, .slice b1 n1 d1, .slice b2 n2 d2]] w fun e w' => e = .returned (.bool true) ∧ New w w' := by
  have hw := ((New.refl w).alloc (.cells #[.int .i64 sa, .int .i64 si, .int .i64 ho, .int .i64 nx, .slice a1 n1 c1, .slice a2 n2 c2] 38)).alloc (.cells #[.int .i64 sa, .int .i64 si, .int .i64 ho, .int .i64 nx, .slice b1 n1 d1, .slice b2 n2 d2] 38)
  have bA : Blk ((w.alloc (.cells #[.int .i64 sa, .int .i64 si, .int .i64 ho, .int .i64 nx, .slice a1 n1 c1, .slice a2 n2 c2] 38)).alloc (.cells #[.int .i64 sa, .int .i64 si, .int .i64 ho, .int .i64 nx, .slice b1 n1 d1, .slice b2 n2 d2] 38)) w.heap.size 38 #[.int .i64 sa, .int .i64 si, .int .i64 ho, .int .i64 nx, .slice a1 n1 c1, .slice a2 n2 c2] := (Blk.mk _ _ _ _ rfl).alloc _
  have bB : Blk ((w.alloc (.cells #[.int .i64 sa, .int .i64 si, .int .i64 ho, .int .i64 nx, .slice a1 n1 c1, .slice a2 n2 c2] 38)).alloc (.cells #[.int .i64 sa, .int .i64 si, .int .i64 ho, .int .i64 nx, .slice b1 n1 d1, .slice b2 n2 d2] 38)) (w.heap.size + 1) 38 #[.int .i64 sa, .int .i64 si, .int .i64 ho, .int .i64 nx, .slice b1 n1 d1, .slice b2 n2 d2] := Blk.mk _ _ _ _ (by simp)
  have hb : (nx != nx) = false := by simp
  go_enter Tryz.func32, Tryz.ntmps32
  go_wp2_with fail
  refine (eqCf9 sa si ho _).mono ?_
  rintro e w0 ⟨rfl, hn0⟩
  have hw0 := hw.trans hn0
  have bA0 := bA.new hn0
  have bB0 := bB.new hn0
  have cA := bA0.cells
  have cB := bB0.cells
  go_wp2_with fail
  refine (eqRs_any a1 b1 n1 c1 d1 r1 _ (h1.new hw0) (k1.new hw0) e1 m1).mono ?_
  rintro e w1 ⟨rfl, hn1⟩
  have hw1 := hw0.trans hn1
  clear cA cB
  have cA := (bA0.new hn1).cells
  have cB := (bB0.new hn1).cells
  go_wp2_with fail
  refine (eqRs_any a2 b2 n2 c2 d2 r2 _ (h2.new hw1) (k2.new hw1) e2 m2).mono ?_
  rintro e w2 ⟨rfl, hn2⟩
  go_wp2
  go_ret
  exact ⟨rfl, hw1.trans hn2⟩

end Go.Proofs.YtkbdmcimgepakaaGreat

namespace Go.Proofs.YtkbdmcimgepakaaGreat
open Go.ChangeShapes Go.WideShapes Go.ChangeAt Go.RowKit Go.Deep
set_option linter.unusedVariables false

theorem arr6g {α : Type} {cs : Array α} (h : cs.size = 6) : ∃ c0 c1 c2 c3 c4 c5, cs = #[c0, c1, c2, c3, c4, c5] := by
  obtain ⟨l⟩ := cs
  match l, h with
  | [c0, c1, c2, c3, c4, c5], _ => exact ⟨c0, c1, c2, c3, c4, c5, rfl⟩
theorem Tryz.cSe9 : Tryz.prog.cellsOf 26 = 6 := by kernel_rfl
theorem Tryz.cRs9 : Tryz.prog.cellsOf 24 = 1 := by kernel_rfl
theorem Tryz.cI9g : Tryz.prog.cellsOf 2 = 1 := by kernel_rfl
theorem Tryz.cCf9 : Tryz.prog.cellsOf 23 = 3 := by kernel_rfl

set_option maxRecDepth 100000 in
theorem open_rules_cell {H : Type} {enc : TypeId × Value → H} {W : World} {base fuel : Nat} {t1 : Nat → Bool} {t2 : Bool} {v : Value} {y : DataW H × List MemPlace}
    (h : DataW.trod enc Tryz.prog W base t1 t2 fuel 24 [v] = some y) : ∃ (a : Option Addr) (n c : Nat) (rs : List Ru), v = .slice a n c ∧ RsAt W a rs ∧ rs.length = n ∧ n ≤ maxLen := by
  have hb : ∃ (a : Option Addr) (n c : Nat), v = .slice a n c := by
    rcases open_slice Tryz.underlying24 h with ⟨hcs, _⟩ | ⟨x, l, cc, m, k, D, Pl, hcs, _⟩
    · simp only [List.cons.injEq, and_true] at hcs
      exact ⟨none, 0, 0, hcs⟩
    · simp only [List.cons.injEq, and_true] at hcs
      exact ⟨some x, l, cc, hcs⟩
  obtain ⟨a, n, c, rfl⟩ := hb
  obtain ⟨rs, k1, k2, k3⟩ := open_rules (enc := enc) (W := W) (base := base) (t1 := t1) (t2 := t2) (a := a) (n := n) (c := c) (d := y.1) (p := y.2) ⟨fuel, by simpa [Value.cells] using h⟩
  exact ⟨a, n, c, rs, rfl, k1, k2, k3⟩

set_option maxRecDepth 100000 in
theorem open_settings_cells {H : Type} {enc : TypeId × Value → H} {W : World} {base fuel : Nat} {t1 : Nat → Bool} {t2 : Bool} {c0 c1 c2 c3 c4 c5 : Value} {y : DataW H × List MemPlace}
    (h : DataW.trod enc Tryz.prog W base t1 t2 fuel 26 [c0, c1, c2, c3, c4, c5] = some y) :
    ∃ (sa si ho nx : Int) (a1 a2 : Option Addr) (n1 k1 n2 k2 : Nat) (r1 r2 : List Ru), [c0, c1, c2, c3, c4, c5] = [.int .i64 sa, .int .i64 si, .int .i64 ho, .int .i64 nx, .slice a1 n1 k1, .slice a2 n2 k2] ∧ (RsAt W a1 r1 ∧ r1.length = n1 ∧ n1 ≤ maxLen) ∧ (RsAt W a2 r2 ∧ r2.length = n2 ∧ n2 ≤ maxLen) := by
  obtain ⟨xs, m, _, rfl, hl, hlen, hf⟩ := DataW.trod_struct Tryz.underlying26 h
  match xs, hlen with
  | [y0, y1, y2, y3], _ =>
    have k0 := hf 0 _ rfl
    have k1 := hf 1 _ rfl
    have k2 := hf 2 _ rfl
    have k3 := hf 3 _ rfl
    simp [Tryz.cI9g, Tryz.cCf9, Tryz.cRs9] at k0 k1 k2 k3
    obtain ⟨ys, m', _, rfl, hl', hlen', hf'⟩ := DataW.trod_struct Tryz.underlying23 k0
    match ys, hlen' with
    | [z0, z1, z2], _ =>
      have j0 := hf' 0 _ rfl
      have j1 := hf' 1 _ rfl
      have j2 := hf' 2 _ rfl
      simp [Tryz.cI9g] at j0 j1 j2
      obtain ⟨sa, e0, -, w0⟩ := DataW.trod_int Tryz.underlying2 j0
      obtain ⟨si, e1, -, w1⟩ := DataW.trod_int Tryz.underlying2 j1
      obtain ⟨ho, e2, -, w2⟩ := DataW.trod_int Tryz.underlying2 j2
      obtain ⟨nx, e3, -, w3⟩ := DataW.trod_int Tryz.underlying2 k1
      obtain ⟨a1, n1, d1, r1, rfl, u1, u2, u3⟩ := open_rules_cell k2
      obtain ⟨a2, n2, d2, r2, rfl, v1, v2, v3⟩ := open_rules_cell k3
      simp only [List.cons.injEq, and_true] at e0 e1 e2 e3
      subst e0 e1 e2 e3
      exact ⟨sa, si, ho, nx, a1, a2, n1, d1, n2, d2, r1, r2, rfl, ⟨u1, u2, u3⟩, ⟨v1, v2, v3⟩⟩

set_option maxRecDepth 100000 in
theorem open_settings {H : Type} {enc : TypeId × Value → H} {W : World} {base b0 : Nat} {r : Reach} {t1 : Nat → Bool} {t2 : Bool} {v : Value} {d : DataW H} {p : List MemPlace}
    (hv : Value.okWide Tryz.prog W r b0 26 v) (h0 : DataW.Trod enc Tryz.prog W base t1 t2 26 v d p) :
    ∃ (sa si ho nx : Int) (a1 a2 : Option Addr) (n1 k1 n2 k2 : Nat) (r1 r2 : List Ru), v = .agg #[.int .i64 sa, .int .i64 si, .int .i64 ho, .int .i64 nx, .slice a1 n1 k1, .slice a2 n2 k2] ∧ (RsAt W a1 r1 ∧ r1.length = n1 ∧ n1 ≤ maxLen) ∧ (RsAt W a2 r2 ∧ r2.length = n2 ∧ n2 ≤ maxLen) := by
  obtain ⟨cs, rfl, hsz⟩ := okWide_struct Tryz.underlying26 hv
  obtain ⟨c0, c1, c2, c3, c4, c5, rfl⟩ := arr6g (hsz.trans Tryz.cSe9)
  obtain ⟨fuel, hf⟩ := h0
  have hf' : DataW.trod enc Tryz.prog W base t1 t2 fuel 26 [c0, c1, c2, c3, c4, c5] = some (d, p) := by simpa [Value.cells] using hf
  obtain ⟨sa, si, ho, nx, a1, a2, n1, k1, n2, k2, r1, r2, hr, x1, x2⟩ := open_settings_cells hf'
  simp only [List.cons.injEq, and_true] at hr
  obtain ⟨rfl, rfl, rfl, rfl, rfl, rfl⟩ := hr
  exact ⟨sa, si, ho, nx, a1, a2, n1, k1, n2, k2, r1, r2, rfl, x1, x2⟩

end Go.Proofs.YtkbdmcimgepakaaGreat

namespace Go.Proofs.YtkbdmcimgepakaaGreat
open Go.ChangeShapes Go.WideShapes Go.ChangeAt Go.RowKit Go.Deep Go.Sort
set_option linter.unusedVariables false
set_option linter.unusedSimpArgs false

/-- A pair that came in. -/
structure PCame (w : World) (a1 a2 aN aW aM aS : Option Addr) (n1 n2 nN nW nM nS : Nat) (r1 r2 : List Ru) (LN : List NdV) (LW : List WiV) (LM : List MlV) (LS : List EkV) : Prop where
  s1 : RsAt w a1 r1
  s2 : RsAt w a2 r2
  l1 : r1.length = n1
  l2 : r2.length = n2
  b1 : n1 ≤ maxLen
  b2 : n2 ≤ maxLen
  nd : NdCame w aN LN
  lN : LN.length = nN
  bN : nN ≤ maxLen
  wi : WiCame w aW LW
  lW : LW.length = nW
  bW : nW ≤ maxLen
  mq : MqCame w aM LM
  lM : LM.length = nM
  bM : nM ≤ maxLen
  se : EkCame w aS LS
  lS : LS.length = nS
  bS : nS ≤ maxLen
theorem PCame.new {w w' : World} {a1 a2 aN aW aM aS : Option Addr} {n1 n2 nN nW nM nS : Nat} {r1 r2 : List Ru} {LN : List NdV} {LW : List WiV} {LM : List MlV} {LS : List EkV} (h : PCame w a1 a2 aN aW aM aS n1 n2 nN nW nM nS r1 r2 LN LW LM LS) (t : New w w') : PCame w' a1 a2 aN aW aM aS n1 n2 nN nW nM nS r1 r2 LN LW LM LS :=
  ⟨h.s1.new t, h.s2.new t, h.l1, h.l2, h.b1, h.b2, h.nd.new t, h.lN, h.bN, h.wi.new t, h.lW, h.bW, h.mq.new t, h.lM, h.bM, h.se.new t, h.lS, h.bS⟩
/-- A list has its room: none, or a row from its first place on. -/
def FitK (A : Option Addr) (n c : Nat) : Prop := n ≤ c ∧ ((A = none ∧ n = 0 ∧ c = 0) ∨ ∃ g, A = some ⟨g, 0, none⟩)
theorem row_fit {w : World} {lo sz n m c : Nat} {e : TypeId} {A : Option Addr} {xs : List Value} (h : w.ownsRow lo e sz (.slice A n c) m xs) : FitK A n c := by
  rcases h.2 with ⟨h1, h2⟩ | ⟨g, c', cur, h1, h2, h3, h4, h5⟩
  · simp only [Value.slice.injEq] at h1
    obtain ⟨rfl, rfl, rfl⟩ := h1
    exact ⟨Nat.le_refl _, .inl ⟨rfl, rfl, rfl⟩⟩
  · simp only [Value.slice.injEq] at h1
    obtain ⟨rfl, rfl, rfl⟩ := h1
    exact ⟨h4, .inr ⟨g, rfl⟩⟩
/-- A pair that can be read. -/
structure PAt (w : World) (a1 a2 aN aW aM aS : Option Addr) (r1 r2 : List Ru) (VN : List NdV) (VW : List WiV) (VM : List MlV) (VS : List EkV) : Prop where
  s1 : RsAt w a1 r1
  s2 : RsAt w a2 r2
  nd : NdAt w aN VN
  wi : WiAt w aW VW
  mq : MqAt w aM VM
  se : LgAt w aS VS
  rowN : ∃ g, aN = some ⟨g, 0, none⟩ ∧ RwNd w g VN.length VN.length VN
  fitN : ∀ v ∈ VN, FitK v.A v.V.length v.c
  fitW : ∀ v ∈ VW, FitK v.a v.xs.length v.c ∧ FitK v.b v.ys.length v.d
  nlN : ∀ v ∈ VN, NlK v.V
  nlS : NlK VS
theorem PAt.new {w w' : World} {a1 a2 aN aW aM aS : Option Addr} {r1 r2 : List Ru} {VN : List NdV} {VW : List WiV} {VM : List MlV} {VS : List EkV} (h : PAt w a1 a2 aN aW aM aS r1 r2 VN VW VM VS) (t : New w w') : PAt w' a1 a2 aN aW aM aS r1 r2 VN VW VM VS :=
  ⟨h.s1.new t, h.s2.new t, h.nd.new t, h.wi.new t, h.mq.new t, h.se.new t, by obtain ⟨g, e, k⟩ := h.rowN; exact ⟨g, e, k.new t⟩, h.fitN, h.fitW, h.nlN, h.nlS⟩
/-- How great a pair is at most. -/
structure PSm (n1 n2 : Nat) (LN : List NdV) (LW : List WiV) (LM : List MlV) (LS : List EkV) : Prop where
  m1 : n1 ≤ 1048576
  m2 : n2 ≤ 1048576
  mN : totNd LN ≤ 1048576
  mW : totWi LW ≤ 1048576
  mM : totMq LM ≤ 1048576
  mS : totK LS ≤ 1048576
/-- Two pairs read alike. -/
structure PEq (LN VN : List NdV) (LW VW : List WiV) (LM VM : List MlV) (LS VS : List EkV) : Prop where
  nd : VN.map NdV.r = LN.map NdV.r
  wi : VW.map WiV.r = LW.map WiV.r
  mq : VM.map MlV.r = LM.map MlV.r
  se : VS.map EkV.r = LS.map EkV.r

set_option maxHeartbeats 3200000 in
theorem szPair_any (sa si ho nx : Int) (a1 a2 aN aW aM aS : Option Addr) (n1 c1 n2 c2 nN cN nW cW nM cM nS cS : Nat) (r1 r2 : List Ru) (LN : List NdV) (LW : List WiV) (LM : List MlV) (LS : List EkV) (w : World) (h : PCame w a1 a2 aN aW aM aS n1 n2 nN nW nM nS r1 r2 LN LW LM LS) :
    Calls Tryz.prog 7 #[.agg #[.int .i64 sa, .int .i64 si, .int .i64 ho, .int .i64 nx, .slice a1 n1 c1, .slice a2 n2 c2, .slice aN nN cN, .slice aW nW cW, .slice aM nM cM, .slice aS nS cS], .int .i64 1048576] w fun e w' => (∃ z : Int, e = .returned (.int .i64 z) ∧ (z = -1 ∨ (0 ≤ z ∧ PSm n1 n2 LN LW LM LS))) ∧ New w w' := by
  have hw := (New.refl w).alloc (.cells #[.int .i64 sa, .int .i64 si, .int .i64 ho, .int .i64 nx, .slice a1 n1 c1, .slice a2 n2 c2, .slice aN nN cN, .slice aW nW cW, .slice aM nM cM, .slice aS nS cS] 32)
  have b0 := Blk.mk w w.heap.size 32 #[.int .i64 sa, .int .i64 si, .int .i64 ho, .int .i64 nx, .slice a1 n1 c1, .slice a2 n2 c2, .slice aN nN cN, .slice aW nW cW, .slice aM nM cM, .slice aS nS cS] rfl
  have c0 := b0.cells
  by_cases hbig : 1048576 < n1 + n2
  case pos =>
    go_enter Tryz.func7, Tryz.ntmps7
    go_wp2_with fail
    refine (szSe_big sa si ho nx a1 a2 n1 c1 n2 c2 1048576 _ (Nat.le_refl _) hbig h.b1 h.b2).mono ?_
    rintro e w1 ⟨rfl, hn1⟩
    go_wp2
    go_ret
    exact ⟨⟨_, rfl, .inl rfl⟩, hw.trans hn1⟩
  go_enter Tryz.func7, Tryz.ntmps7
  go_wp2_with fail
  refine (szSe_ok sa si ho nx a1 a2 n1 c1 n2 c2 1048576 _ (Nat.le_refl _) (by omega)).mono ?_
  rintro e w1 ⟨rfl, hn1⟩
  have hw1 := hw.trans hn1
  have b1 := b0.new hn1
  have hz0 : ((1048576 - n1 - n2 : Nat) : Int) + n1 + n2 = 1048576 := by omega
  have hp0 : (0 : Int) ≤ ((1048576 - n1 - n2 : Nat) : Int) := by omega
  generalize ((1048576 - n1 - n2 : Nat) : Int) = z0 at *
  clear c0 b0 hw hn1
  have c1 := b1.cells
  go_wp2_with fail
  refine (szNdS_gen aN nN cN LN z0 _ (by omega) (by omega) (h.nd.new hw1) h.lN h.bN).mono ?_
  rintro e w2 ⟨⟨z1, rfl, hy⟩, hm1⟩
  have hw2 := hw1.trans hm1
  have b2 := b1.new hm1
  clear c1 hm1 b1
  by_cases hy0 : z1 < 0
  · go_wp2
    go_ret
    exact ⟨⟨_, rfl, .inl rfl⟩, hw2⟩
  have hp1 : (0 : Int) ≤ z1 := by omega
  have hz1 : (totNd LN : Int) + z1 = z0 := by rcases hy with hy | hy; (exfalso; omega); exact hy.2
  clear hy hy0
  have c2 := b2.cells
  go_wp2_with fail
  refine (szWiS_gen aW nW cW LW z1 _ (by omega) (by omega) (h.wi.new hw2) h.lW h.bW).mono ?_
  rintro e w3 ⟨⟨z2, rfl, hy⟩, hm2⟩
  have hw3 := hw2.trans hm2
  have b3 := b2.new hm2
  clear c2 hm2 b2
  by_cases hy0 : z2 < 0
  · go_wp2
    go_ret
    exact ⟨⟨_, rfl, .inl rfl⟩, hw3⟩
  have hp2 : (0 : Int) ≤ z2 := by omega
  have hz2 : (totWi LW : Int) + z2 = z1 := by rcases hy with hy | hy; (exfalso; omega); exact hy.2
  clear hy hy0
  have c3 := b3.cells
  go_wp2_with fail
  refine (szMqS_gen aM nM cM LM z2 _ (by omega) (by omega) (h.mq.new hw3) h.lM h.bM).mono ?_
  rintro e w4 ⟨⟨z3, rfl, hy⟩, hm3⟩
  have hw4 := hw3.trans hm3
  have b4 := b3.new hm3
  clear c3 hm3 b3
  by_cases hy0 : z3 < 0
  · go_wp2
    go_ret
    exact ⟨⟨_, rfl, .inl rfl⟩, hw4⟩
  have hp3 : (0 : Int) ≤ z3 := by omega
  have hz3 : (totMq LM : Int) + z3 = z2 := by rcases hy with hy | hy; (exfalso; omega); exact hy.2
  clear hy hy0
  have c4 := b4.cells
  go_wp2_with fail
  refine (szEkS_gen aS nS cS LS z3 _ (by omega) (by omega) (h.se.new hw4) h.lS h.bS).mono ?_
  rintro e w5 ⟨⟨z4, rfl, hy⟩, hm4⟩
  have hw5 := hw4.trans hm4
  have b5 := b4.new hm4
  clear c4 hm4 b4
  by_cases hy0 : z4 < 0
  · go_wp2
    go_ret
    exact ⟨⟨_, rfl, .inl rfl⟩, hw5⟩
  have hp4 : (0 : Int) ≤ z4 := by omega
  have hz4 : (totK LS : Int) + z4 = z3 := by rcases hy with hy | hy; (exfalso; omega); exact hy.2
  clear hy hy0
  go_wp2
  go_ret
  exact ⟨⟨_, rfl, .inr ⟨by omega, ⟨by omega, by omega, by omega, by omega, by omega, by omega⟩⟩⟩, hw5⟩

set_option maxHeartbeats 6400000 in
theorem toPair_any (sa si ho nx : Int) (a1 a2 aN aW aM aS : Option Addr) (n1 c1 n2 c2 nN cN nW cW nM cM nS cS : Nat) (r1 r2 : List Ru) (LN : List NdV) (LW : List WiV) (LM : List MlV) (LS : List EkV) (w : World) (h : PCame w a1 a2 aN aW aM aS n1 n2 nN nW nM nS r1 r2 LN LW LM LS) (hs : PSm n1 n2 LN LW LM LS) :
    Calls Tryz.prog 9 #[.agg #[.int .i64 sa, .int .i64 si, .int .i64 ho, .int .i64 nx, .slice a1 n1 c1, .slice a2 n2 c2, .slice aN nN cN, .slice aW nW cW, .slice aM nM cM, .slice aS nS cS]] w fun e w' => ∃ (g1 g2 gN gW gM gS : Nat) (VN : List NdV) (VW : List WiV) (VM : List MlV) (VS : List EkV), e = .returned (.agg #[.int .i64 sa, .int .i64 si, .int .i64 ho, .int .i64 nx, .slice (some ⟨g1, 0, none⟩) n1 n1, .slice (some ⟨g2, 0, none⟩) n2 n2, .slice (some ⟨gN, 0, none⟩) nN nN, .slice (some ⟨gW, 0, none⟩) nW nW, .slice (some ⟨gM, 0, none⟩) nM nM, .slice (some ⟨gS, 0, none⟩) nS nS]) ∧ PEq LN VN LW VW LM VM LS VS ∧ PAt w' (some ⟨g1, 0, none⟩) (some ⟨g2, 0, none⟩) (some ⟨gN, 0, none⟩) (some ⟨gW, 0, none⟩) (some ⟨gM, 0, none⟩) (some ⟨gS, 0, none⟩) r1 r2 VN VW VM VS ∧ New w w' := by
  have hw0 : New w (((w.alloc (.cells #[.int .i64 sa, .int .i64 si, .int .i64 ho, .int .i64 nx, .slice a1 n1 c1, .slice a2 n2 c2, .slice aN nN cN, .slice aW nW cW, .slice aM nM cM, .slice aS nS cS] 32)).alloc (.cells #[.int .i64 0, .int .i64 0, .int .i64 0, .int .i64 0, .slice none 0 0, .slice none 0 0, .slice none 0 0, .slice none 0 0, .slice none 0 0, .slice none 0 0] 44)).alloc (.cells #[.int .i64 0, .int .i64 0, .int .i64 0, .int .i64 0, .slice none 0 0, .slice none 0 0, .slice none 0 0, .slice none 0 0, .slice none 0 0, .slice none 0 0] 44)) := (((New.refl w).alloc _).alloc _).alloc _
  have b0 : Blk (((w.alloc (.cells #[.int .i64 sa, .int .i64 si, .int .i64 ho, .int .i64 nx, .slice a1 n1 c1, .slice a2 n2 c2, .slice aN nN cN, .slice aW nW cW, .slice aM nM cM, .slice aS nS cS] 32)).alloc (.cells #[.int .i64 0, .int .i64 0, .int .i64 0, .int .i64 0, .slice none 0 0, .slice none 0 0, .slice none 0 0, .slice none 0 0, .slice none 0 0, .slice none 0 0] 44)).alloc (.cells #[.int .i64 0, .int .i64 0, .int .i64 0, .int .i64 0, .slice none 0 0, .slice none 0 0, .slice none 0 0, .slice none 0 0, .slice none 0 0, .slice none 0 0] 44)) w.heap.size 32 #[.int .i64 sa, .int .i64 si, .int .i64 ho, .int .i64 nx, .slice a1 n1 c1, .slice a2 n2 c2, .slice aN nN cN, .slice aW nW cW, .slice aM nM cM, .slice aS nS cS] := ((Blk.mk _ _ _ _ rfl).alloc _).alloc _
  have b1 : Blk (((w.alloc (.cells #[.int .i64 sa, .int .i64 si, .int .i64 ho, .int .i64 nx, .slice a1 n1 c1, .slice a2 n2 c2, .slice aN nN cN, .slice aW nW cW, .slice aM nM cM, .slice aS nS cS] 32)).alloc (.cells #[.int .i64 0, .int .i64 0, .int .i64 0, .int .i64 0, .slice none 0 0, .slice none 0 0, .slice none 0 0, .slice none 0 0, .slice none 0 0, .slice none 0 0] 44)).alloc (.cells #[.int .i64 0, .int .i64 0, .int .i64 0, .int .i64 0, .slice none 0 0, .slice none 0 0, .slice none 0 0, .slice none 0 0, .slice none 0 0, .slice none 0 0] 44)) (w.heap.size + 1) 44 #[.int .i64 0, .int .i64 0, .int .i64 0, .int .i64 0, .slice none 0 0, .slice none 0 0, .slice none 0 0, .slice none 0 0, .slice none 0 0, .slice none 0 0] := (Blk.mk _ _ _ _ (by simp)).alloc _
  have b2 : Blk (((w.alloc (.cells #[.int .i64 sa, .int .i64 si, .int .i64 ho, .int .i64 nx, .slice a1 n1 c1, .slice a2 n2 c2, .slice aN nN cN, .slice aW nW cW, .slice aM nM cM, .slice aS nS cS] 32)).alloc (.cells #[.int .i64 0, .int .i64 0, .int .i64 0, .int .i64 0, .slice none 0 0, .slice none 0 0, .slice none 0 0, .slice none 0 0, .slice none 0 0, .slice none 0 0] 44)).alloc (.cells #[.int .i64 0, .int .i64 0, .int .i64 0, .int .i64 0, .slice none 0 0, .slice none 0 0, .slice none 0 0, .slice none 0 0, .slice none 0 0, .slice none 0 0] 44)) (w.heap.size + 1 + 1) 44 #[.int .i64 0, .int .i64 0, .int .i64 0, .int .i64 0, .slice none 0 0, .slice none 0 0, .slice none 0 0, .slice none 0 0, .slice none 0 0, .slice none 0 0] := Blk.mk _ _ _ _ (by simp)
  have s0 : Hid ((((w.alloc (.cells #[.int .i64 sa, .int .i64 si, .int .i64 ho, .int .i64 nx, .slice a1 n1 c1, .slice a2 n2 c2, .slice aN nN cN, .slice aW nW cW, .slice aM nM cM, .slice aS nS cS] 32)).alloc (.cells #[.int .i64 0, .int .i64 0, .int .i64 0, .int .i64 0, .slice none 0 0, .slice none 0 0, .slice none 0 0, .slice none 0 0, .slice none 0 0, .slice none 0 0] 44)).alloc (.cells #[.int .i64 0, .int .i64 0, .int .i64 0, .int .i64 0, .slice none 0 0, .slice none 0 0, .slice none 0 0, .slice none 0 0, .slice none 0 0, .slice none 0 0] 44)).heap.size = w.heap.size + 1 + 1 + 1) := by unfold Hid; simp
  have ge1 : w.heap.size ≤ w.heap.size + 1 := by omega
  have ge2 : w.heap.size ≤ w.heap.size + 1 + 1 := by omega
  have d01 : ¬ w.heap.size + 1 + 1 = w.heap.size := by omega
  have d12 : ¬ w.heap.size + 1 + 1 = w.heap.size + 1 := by omega
  go_enter Tryz.func9, Tryz.ntmps9
  go_wp2_with fail
  refine (toSe_any sa si ho nx a1 a2 n1 c1 n2 c2 r1 r2 _ (h.s1.new hw0) (h.s2.new hw0) h.l1 h.l2 hs.m1 hs.m2).mono ?_
  rintro e w1 ⟨g1, g2, rfl, hg1, hg12, hoA, hoB, hn1⟩
  have S0 := s0.out
  have nn := hw0.trans hn1
  have p0 := b0.new hn1
  have p1 := b1.new hn1
  have p2 := b2.new hn1
  have c0 := p0.cells
  have c2' := p2.cells
  have f2 := p2.frees
  have t1 : Turn (fun k => k = w.heap.size + 1 + 1) w1 ((((((w1.setCell ⟨w.heap.size + 1 + 1, 0, none⟩ (.int .i64 sa)).setCell ⟨w.heap.size + 1 + 1, 1, none⟩ (.int .i64 si)).setCell ⟨w.heap.size + 1 + 1, 2, none⟩ (.int .i64 ho)).setCell ⟨w.heap.size + 1 + 1, 3, none⟩ (.int .i64 nx)).setCell ⟨w.heap.size + 1 + 1, 4, none⟩ (.slice (some ⟨g1, 0, none⟩) n1 n1)).setCell ⟨w.heap.size + 1 + 1, 5, none⟩ (.slice (some ⟨g2, 0, none⟩) n2 n2)) := (Turn.here9 (Turn.here9 (Turn.here9 (Turn.here9 (Turn.here9 (Turn.here9 (Turn.refl _ _) _) _) _) _) _) _)
  have m1 : New w ((((((w1.setCell ⟨w.heap.size + 1 + 1, 0, none⟩ (.int .i64 sa)).setCell ⟨w.heap.size + 1 + 1, 1, none⟩ (.int .i64 si)).setCell ⟨w.heap.size + 1 + 1, 2, none⟩ (.int .i64 ho)).setCell ⟨w.heap.size + 1 + 1, 3, none⟩ (.int .i64 nx)).setCell ⟨w.heap.size + 1 + 1, 4, none⟩ (.slice (some ⟨g1, 0, none⟩) n1 n1)).setCell ⟨w.heap.size + 1 + 1, 5, none⟩ (.slice (some ⟨g2, 0, none⟩) n2 n2)) := ((((((nn.setCell ge2 _).setCell ge2 _).setCell ge2 _).setCell ge2 _).setCell ge2 _).setCell ge2 _)
  have q2 : Blk ((((((w1.setCell ⟨w.heap.size + 1 + 1, 0, none⟩ (.int .i64 sa)).setCell ⟨w.heap.size + 1 + 1, 1, none⟩ (.int .i64 si)).setCell ⟨w.heap.size + 1 + 1, 2, none⟩ (.int .i64 ho)).setCell ⟨w.heap.size + 1 + 1, 3, none⟩ (.int .i64 nx)).setCell ⟨w.heap.size + 1 + 1, 4, none⟩ (.slice (some ⟨g1, 0, none⟩) n1 n1)).setCell ⟨w.heap.size + 1 + 1, 5, none⟩ (.slice (some ⟨g2, 0, none⟩) n2 n2)) (w.heap.size + 1 + 1) 44 #[.int .i64 sa, .int .i64 si, .int .i64 ho, .int .i64 nx, .slice (some ⟨g1, 0, none⟩) n1 n1, .slice (some ⟨g2, 0, none⟩) n2 n2, .slice none 0 0, .slice none 0 0, .slice none 0 0, .slice none 0 0] := ((((((p2.set 0 (.int .i64 sa)).set 1 (.int .i64 si)).set 2 (.int .i64 ho)).set 3 (.int .i64 nx)).set 4 (.slice (some ⟨g1, 0, none⟩) n1 n1)).set 5 (.slice (some ⟨g2, 0, none⟩) n2 n2))
  have q0 := p0.turn t1 (by omega)
  have q1 := p1.turn t1 (by omega)
  have z01 := hn1.size
  have oA := hoA.turn t1 (by omega)
  have oB := hoB.turn t1 (by omega)
  have sz1 := t1.size
  clear b0 b1 b2 hn1 p0 p1 p2 hw0 t1 hoA hoB nn
  go_wp2_with fail
  refine (toNdS_any aN nN cN LN _ (h.nd.new m1) h.lN hs.mN).mono ?_
  rintro e w2 ⟨gN, VN, rfl, eN, hoN, hn2⟩
  have nn := m1.trans hn2
  have p0 := q0.new hn2
  have p1 := q1.new hn2
  have p2 : Blk w2 (w.heap.size + 1 + 1) 44 #[.int .i64 sa, .int .i64 si, .int .i64 ho, .int .i64 nx, .slice (some ⟨g1, 0, none⟩) n1 n1, .slice (some ⟨g2, 0, none⟩) n2 n2, .slice none 0 0, .slice none 0 0, .slice none 0 0, .slice none 0 0] := q2.new hn2
  have yl2 := hn2.size
  have oAn := oA.new hn2
  have oBn := oB.new hn2
  clear c0 c2' f2 q0 q1 q2
  clear oA
  clear oB
  have c0 := p0.cells
  have c2' := p2.cells
  have f2 := p2.frees
  have t2 : Turn (fun k => k = w.heap.size + 1 + 1) w2 (w2.setCell ⟨w.heap.size + 1 + 1, 6, none⟩ (.slice (some ⟨gN, 0, none⟩) nN nN)) := Turn.here9 (Turn.refl _ _) _
  have m2 : New w (w2.setCell ⟨w.heap.size + 1 + 1, 6, none⟩ (.slice (some ⟨gN, 0, none⟩) nN nN)) := nn.setCell ge2 _
  have q2 := p2.set 6 (.slice (some ⟨gN, 0, none⟩) nN nN)
  have q0 := p0.turn t2 (by omega)
  have q1 := p1.turn t2 (by omega)
  have sz2 := t2.size
  have oN := hoN.turn t2 (by intro j h1 h2 e; omega)
  have oA := oAn.turn t2 (by omega)
  clear oAn
  have oB := oBn.turn t2 (by omega)
  clear oBn
  clear hoN hn2 p0 p1 p2 t2 nn
  go_wp2_with fail
  refine (toWiS_any aW nW cW LW _ (h.wi.new m2) h.lW hs.mW).mono ?_
  rintro e w3 ⟨gW, VW, rfl, eW, hoW, hn3⟩
  have nn := m2.trans hn3
  have p0 := q0.new hn3
  have p1 := q1.new hn3
  have p2 : Blk w3 (w.heap.size + 1 + 1) 44 #[.int .i64 sa, .int .i64 si, .int .i64 ho, .int .i64 nx, .slice (some ⟨g1, 0, none⟩) n1 n1, .slice (some ⟨g2, 0, none⟩) n2 n2, .slice (some ⟨gN, 0, none⟩) nN nN, .slice none 0 0, .slice none 0 0, .slice none 0 0] := q2.new hn3
  have yl3 := hn3.size
  have oAn := oA.new hn3
  have oBn := oB.new hn3
  have oNn := oN.new hn3
  clear c0 c2' f2 q0 q1 q2
  clear oA
  clear oB
  clear oN
  have c0 := p0.cells
  have c2' := p2.cells
  have f2 := p2.frees
  have t3 : Turn (fun k => k = w.heap.size + 1 + 1) w3 (w3.setCell ⟨w.heap.size + 1 + 1, 7, none⟩ (.slice (some ⟨gW, 0, none⟩) nW nW)) := Turn.here9 (Turn.refl _ _) _
  have m3 : New w (w3.setCell ⟨w.heap.size + 1 + 1, 7, none⟩ (.slice (some ⟨gW, 0, none⟩) nW nW)) := nn.setCell ge2 _
  have q2 := p2.set 7 (.slice (some ⟨gW, 0, none⟩) nW nW)
  have q0 := p0.turn t3 (by omega)
  have q1 := p1.turn t3 (by omega)
  have sz3 := t3.size
  have oW := hoW.turn t3 (by intro j h1 h2 e; omega)
  have oA := oAn.turn t3 (by omega)
  clear oAn
  have oB := oBn.turn t3 (by omega)
  clear oBn
  have oN := oNn.turn t3 (by intro j h1 h2 e; omega)
  clear oNn
  clear hoW hn3 p0 p1 p2 t3 nn
  go_wp2_with fail
  refine (toMqS_any aM nM cM LM _ (h.mq.new m3) h.lM hs.mM).mono ?_
  rintro e w4 ⟨gM, VM, rfl, eM, hoM, hn4⟩
  have nn := m3.trans hn4
  have p0 := q0.new hn4
  have p1 := q1.new hn4
  have p2 : Blk w4 (w.heap.size + 1 + 1) 44 #[.int .i64 sa, .int .i64 si, .int .i64 ho, .int .i64 nx, .slice (some ⟨g1, 0, none⟩) n1 n1, .slice (some ⟨g2, 0, none⟩) n2 n2, .slice (some ⟨gN, 0, none⟩) nN nN, .slice (some ⟨gW, 0, none⟩) nW nW, .slice none 0 0, .slice none 0 0] := q2.new hn4
  have yl4 := hn4.size
  have oAn := oA.new hn4
  have oBn := oB.new hn4
  have oNn := oN.new hn4
  have oWn := oW.new hn4
  clear c0 c2' f2 q0 q1 q2
  clear oA
  clear oB
  clear oN
  clear oW
  have c0 := p0.cells
  have c2' := p2.cells
  have f2 := p2.frees
  have t4 : Turn (fun k => k = w.heap.size + 1 + 1) w4 (w4.setCell ⟨w.heap.size + 1 + 1, 8, none⟩ (.slice (some ⟨gM, 0, none⟩) nM nM)) := Turn.here9 (Turn.refl _ _) _
  have m4 : New w (w4.setCell ⟨w.heap.size + 1 + 1, 8, none⟩ (.slice (some ⟨gM, 0, none⟩) nM nM)) := nn.setCell ge2 _
  have q2 := p2.set 8 (.slice (some ⟨gM, 0, none⟩) nM nM)
  have q0 := p0.turn t4 (by omega)
  have q1 := p1.turn t4 (by omega)
  have sz4 := t4.size
  have oM := hoM.turn t4 (by intro j h1 h2 e; omega)
  have oA := oAn.turn t4 (by omega)
  clear oAn
  have oB := oBn.turn t4 (by omega)
  clear oBn
  have oN := oNn.turn t4 (by intro j h1 h2 e; omega)
  clear oNn
  have oW := oWn.turn t4 (by intro j h1 h2 e; omega)
  clear oWn
  clear hoM hn4 p0 p1 p2 t4 nn
  go_wp2_with fail
  refine (toEkS_any aS nS cS LS _ (h.se.new m4) h.lS hs.mS).mono ?_
  rintro e w5 ⟨gS, VS, rfl, eS, hoS, hn5⟩
  have nn := m4.trans hn5
  have p0 := q0.new hn5
  have p1 := q1.new hn5
  have p2 : Blk w5 (w.heap.size + 1 + 1) 44 #[.int .i64 sa, .int .i64 si, .int .i64 ho, .int .i64 nx, .slice (some ⟨g1, 0, none⟩) n1 n1, .slice (some ⟨g2, 0, none⟩) n2 n2, .slice (some ⟨gN, 0, none⟩) nN nN, .slice (some ⟨gW, 0, none⟩) nW nW, .slice (some ⟨gM, 0, none⟩) nM nM, .slice none 0 0] := q2.new hn5
  have yl5 := hn5.size
  have oAn := oA.new hn5
  have oBn := oB.new hn5
  have oNn := oN.new hn5
  have oWn := oW.new hn5
  have oMn := oM.new hn5
  clear c0 c2' f2 q0 q1 q2
  clear oA
  clear oB
  clear oN
  clear oW
  clear oM
  have c1' := p1.cells
  have f1 := p1.frees
  have c2' := p2.cells
  have f2 := p2.frees
  go_wp2
  refine bodyPost_ret (v := .agg #[.int .i64 sa, .int .i64 si, .int .i64 ho, .int .i64 nx, .slice (some ⟨g1, 0, none⟩) n1 n1, .slice (some ⟨g2, 0, none⟩) n2 n2, .slice (some ⟨gN, 0, none⟩) nN nN, .slice (some ⟨gW, 0, none⟩) nW nW, .slice (some ⟨gM, 0, none⟩) nM nM, .slice (some ⟨gS, 0, none⟩) nS nS]) (by simp [results, Tryz.results9, go_sem, c1']) rfl ⟨g1, g2, gN, gW, gM, gS, VN, VW, VM, VS, rfl, ⟨eN, eW, eM, eS⟩, ?_, ?_⟩
  · have tt : Turn (fun i => i = w.heap.size + 1 ∨ i = w.heap.size + 1 + 1) w5 (((((((((((w5.setCell ⟨w.heap.size + 1 + 1, 9, none⟩ (.slice (some ⟨gS, 0, none⟩) nS nS)).setCell ⟨w.heap.size + 1, 0, none⟩ (.int .i64 sa)).setCell ⟨w.heap.size + 1, 1, none⟩ (.int .i64 si)).setCell ⟨w.heap.size + 1, 2, none⟩ (.int .i64 ho)).setCell ⟨w.heap.size + 1, 3, none⟩ (.int .i64 nx)).setCell ⟨w.heap.size + 1, 4, none⟩ (.slice (some ⟨g1, 0, none⟩) n1 n1)).setCell ⟨w.heap.size + 1, 5, none⟩ (.slice (some ⟨g2, 0, none⟩) n2 n2)).setCell ⟨w.heap.size + 1, 6, none⟩ (.slice (some ⟨gN, 0, none⟩) nN nN)).setCell ⟨w.heap.size + 1, 7, none⟩ (.slice (some ⟨gW, 0, none⟩) nW nW)).setCell ⟨w.heap.size + 1, 8, none⟩ (.slice (some ⟨gM, 0, none⟩) nM nM)).setCell ⟨w.heap.size + 1, 9, none⟩ (.slice (some ⟨gS, 0, none⟩) nS nS)) := (Turn.set (S := fun i => i = w.heap.size + 1 ∨ i = w.heap.size + 1 + 1) (Turn.set (S := fun i => i = w.heap.size + 1 ∨ i = w.heap.size + 1 + 1) (Turn.set (S := fun i => i = w.heap.size + 1 ∨ i = w.heap.size + 1 + 1) (Turn.set (S := fun i => i = w.heap.size + 1 ∨ i = w.heap.size + 1 + 1) (Turn.set (S := fun i => i = w.heap.size + 1 ∨ i = w.heap.size + 1 + 1) (Turn.set (S := fun i => i = w.heap.size + 1 ∨ i = w.heap.size + 1 + 1) (Turn.set (S := fun i => i = w.heap.size + 1 ∨ i = w.heap.size + 1 + 1) (Turn.set (S := fun i => i = w.heap.size + 1 ∨ i = w.heap.size + 1 + 1) (Turn.set (S := fun i => i = w.heap.size + 1 ∨ i = w.heap.size + 1 + 1) (Turn.set (S := fun i => i = w.heap.size + 1 ∨ i = w.heap.size + 1 + 1) (Turn.set (S := fun i => i = w.heap.size + 1 ∨ i = w.heap.size + 1 + 1) (Turn.refl _ _) (Or.inr rfl) _) (Or.inl rfl) _) (Or.inl rfl) _) (Or.inl rfl) _) (Or.inl rfl) _) (Or.inl rfl) _) (Or.inl rfl) _) (Or.inl rfl) _) (Or.inl rfl) _) (Or.inl rfl) _) (Or.inl rfl) _)
    exact ⟨(oAn.turn tt (by omega)).rs, (oBn.turn tt (by omega)).rs, (oNn.turn tt (by intro j h1 h2 e; omega)).at', (oWn.turn tt (by intro j h1 h2 e; omega)).at', (oMn.turn tt (by intro j h1 h2 e; omega)).at', (hoS.turn tt (by intro j h1 h2 e; omega)).lg.1, ⟨gN, rfl, by have h1 := (oNn.turn tt (by intro j h1 h2 e; omega)).row; rw [h1.len]; exact h1⟩, fun v hv => (by obtain ⟨hi', -, h2, -⟩ := oNn.own v hv; exact row_fit h2.row), fun v hv => ⟨row_fit (oWn.own v hv).1, row_fit (oWn.own v hv).2.1⟩, fun v hv => (by obtain ⟨hi', -, h2, -⟩ := oNn.own v hv; exact h2.nl), hoS.nl⟩
  · exact (((((((((((nn.setCell ge2 _).setCell ge1 _).setCell ge1 _).setCell ge1 _).setCell ge1 _).setCell ge1 _).setCell ge1 _).setCell ge1 _).setCell ge1 _).setCell ge1 _).setCell ge1 _)

set_option maxHeartbeats 3200000 in
theorem eqPair_any (sa si ho nx : Int) (a1 a2 aN aW aM aS b1 b2 bN bW bM bS : Option Addr) (n1 c1 n2 c2 nN cN nW cW nM cM nS cS d1 d2 dN dW dM dS : Nat) (r1 r2 : List Ru) (VN UN : List NdV) (VW UW : List WiV) (VM UM : List MlV) (VS US : List EkV) (w : World)
    (h : PAt w a1 a2 aN aW aM aS r1 r2 VN VW VM VS) (k : PAt w b1 b2 bN bW bM bS r1 r2 UN UW UM US) (he : PEq VN UN VW UW VM UM VS US) (l1 : r1.length = n1) (l2 : r2.length = n2) (m1 : n1 ≤ 1048576) (m2 : n2 ≤ 1048576)
    (lN : VN.length = nN) (lW : VW.length = nW) (lM : VM.length = nM) (lS : VS.length = nS) (hN : nN ≤ 1048576) (hW : nW ≤ 1048576) (hM : nM ≤ 1048576) (hS : nS ≤ 1048576) :
    Calls Tryz.prog 11 #[.agg #[.int .i64 sa, .int .i64 si, .int .i64 ho, .int .i64 nx, .slice a1 n1 c1, .slice a2 n2 c2, .slice aN nN cN, .slice aW nW cW, .slice aM nM cM, .slice aS nS cS], .agg #[.int .i64 sa, .int .i64 si, .int .i64 ho, .int .i64 nx, .slice b1 n1 d1, .slice b2 n2 d2, .slice bN nN dN, .slice bW nW dW, .slice bM nM dM, .slice bS nS dS]] w fun e w' => e = .returned (.bool true) ∧ New w w' := by
  have hw : New w ((w.alloc (.cells #[.int .i64 sa, .int .i64 si, .int .i64 ho, .int .i64 nx, .slice a1 n1 c1, .slice a2 n2 c2, .slice aN nN cN, .slice aW nW cW, .slice aM nM cM, .slice aS nS cS] 44)).alloc (.cells #[.int .i64 sa, .int .i64 si, .int .i64 ho, .int .i64 nx, .slice b1 n1 d1, .slice b2 n2 d2, .slice bN nN dN, .slice bW nW dW, .slice bM nM dM, .slice bS nS dS] 44)) := ((New.refl w).alloc _).alloc _
  have bA : Blk ((w.alloc (.cells #[.int .i64 sa, .int .i64 si, .int .i64 ho, .int .i64 nx, .slice a1 n1 c1, .slice a2 n2 c2, .slice aN nN cN, .slice aW nW cW, .slice aM nM cM, .slice aS nS cS] 44)).alloc (.cells #[.int .i64 sa, .int .i64 si, .int .i64 ho, .int .i64 nx, .slice b1 n1 d1, .slice b2 n2 d2, .slice bN nN dN, .slice bW nW dW, .slice bM nM dM, .slice bS nS dS] 44)) w.heap.size 44 #[.int .i64 sa, .int .i64 si, .int .i64 ho, .int .i64 nx, .slice a1 n1 c1, .slice a2 n2 c2, .slice aN nN cN, .slice aW nW cW, .slice aM nM cM, .slice aS nS cS] := (Blk.mk _ _ _ _ rfl).alloc _
  have bB : Blk ((w.alloc (.cells #[.int .i64 sa, .int .i64 si, .int .i64 ho, .int .i64 nx, .slice a1 n1 c1, .slice a2 n2 c2, .slice aN nN cN, .slice aW nW cW, .slice aM nM cM, .slice aS nS cS] 44)).alloc (.cells #[.int .i64 sa, .int .i64 si, .int .i64 ho, .int .i64 nx, .slice b1 n1 d1, .slice b2 n2 d2, .slice bN nN dN, .slice bW nW dW, .slice bM nM dM, .slice bS nS dS] 44)) (w.heap.size + 1) 44 #[.int .i64 sa, .int .i64 si, .int .i64 ho, .int .i64 nx, .slice b1 n1 d1, .slice b2 n2 d2, .slice bN nN dN, .slice bW nW dW, .slice bM nM dM, .slice bS nS dS] := Blk.mk _ _ _ _ (by simp)
  go_enter Tryz.func11, Tryz.ntmps11
  have cA := bA.cells
  have cB := bB.cells
  go_wp2_with fail
  refine (eqSe_any sa si ho nx a1 a2 b1 b2 n1 c1 n2 c2 d1 d2 r1 r2 _ (h.s1.new hw) (h.s2.new hw) l1 l2 m1 m2 (k.s1.new hw) (k.s2.new hw)).mono ?_
  rintro e w1 ⟨rfl, hn1⟩
  have hw1 := hw.trans hn1
  replace bA := bA.new hn1
  replace bB := bB.new hn1
  clear cA cB hn1
  have cA := bA.cells
  have cB := bB.cells
  go_wp2_with fail
  refine (eqNdS_any aN bN nN cN dN VN UN _ (h.nd.new hw1) (k.nd.new hw1) he.nd.symm lN (by omega)).mono ?_
  rintro e w2 ⟨rfl, hn2⟩
  have hw2 := hw1.trans hn2
  replace bA := bA.new hn2
  replace bB := bB.new hn2
  clear cA cB hn2
  have cA := bA.cells
  have cB := bB.cells
  go_wp2_with fail
  refine (eqWiS_any aW bW nW cW dW VW UW _ (h.wi.new hw2) (k.wi.new hw2) he.wi.symm lW (by omega)).mono ?_
  rintro e w3 ⟨rfl, hn3⟩
  have hw3 := hw2.trans hn3
  replace bA := bA.new hn3
  replace bB := bB.new hn3
  clear cA cB hn3
  have cA := bA.cells
  have cB := bB.cells
  go_wp2_with fail
  refine (eqMqS_any aM bM nM cM dM VM UM _ (h.mq.new hw3) (k.mq.new hw3) he.mq.symm lM (by omega)).mono ?_
  rintro e w4 ⟨rfl, hn4⟩
  have hw4 := hw3.trans hn4
  replace bA := bA.new hn4
  replace bB := bB.new hn4
  clear cA cB hn4
  have cA := bA.cells
  have cB := bB.cells
  go_wp2_with fail
  refine (eqEkS_any aS bS nS cS dS VS US _ (h.se.new hw4) (k.se.new hw4) he.se.symm lS (by omega)).mono ?_
  rintro e w5 ⟨rfl, hn5⟩
  have hw5 := hw4.trans hn5
  replace bA := bA.new hn5
  replace bB := bB.new hn5
  clear cA cB hn5
  go_wp2
  go_ret
  exact ⟨rfl, hw5⟩

theorem arr10p {α : Type} {cs : Array α} (h : cs.size = 10) : ∃ c0 c1 c2 c3 c4 c5 c6 c7 c8 c9, cs = #[c0, c1, c2, c3, c4, c5, c6, c7, c8, c9] := by
  obtain ⟨l⟩ := cs
  match l, h with
  | [c0, c1, c2, c3, c4, c5, c6, c7, c8, c9], _ => exact ⟨c0, c1, c2, c3, c4, c5, c6, c7, c8, c9, rfl⟩
theorem Tryz.cPrP : Tryz.prog.cellsOf 32 = 10 := by kernel_rfl
theorem Tryz.cSeP : Tryz.prog.cellsOf 26 = 6 := by kernel_rfl
theorem Tryz.cNsP : Tryz.prog.cellsOf 27 = 1 := by kernel_rfl
theorem Tryz.cWsP : Tryz.prog.cellsOf 28 = 1 := by kernel_rfl
theorem Tryz.cMsP : Tryz.prog.cellsOf 29 = 1 := by kernel_rfl

set_option maxRecDepth 100000 in
set_option maxHeartbeats 1600000 in
theorem open_pair {H : Type} {enc : TypeId × Value → H} {W : World} {base b0 : Nat} {r : Reach} {t1 : Nat → Bool} {t2 : Bool} {v : Value} {d : DataW H} {p : List MemPlace}
    (hv : Value.okWide Tryz.prog W r b0 32 v) (h0 : DataW.Trod enc Tryz.prog W base t1 t2 32 v d p) :
    ∃ (sa si ho nx : Int) (a1 a2 aN aW aM aS : Option Addr) (n1 c1 n2 c2 nN cN nW cW nM cM nS cS : Nat) (r1 r2 : List Ru) (LN : List NdV) (LW : List WiV) (LM : List MlV) (LS : List EkV), v = .agg #[.int .i64 sa, .int .i64 si, .int .i64 ho, .int .i64 nx, .slice a1 n1 c1, .slice a2 n2 c2, .slice aN nN cN, .slice aW nW cW, .slice aM nM cM, .slice aS nS cS] ∧ PCame W a1 a2 aN aW aM aS n1 n2 nN nW nM nS r1 r2 LN LW LM LS := by
  obtain ⟨cs, rfl, hsz⟩ := okWide_struct Tryz.underlying32 hv
  obtain ⟨c0, c1, c2, c3, c4, c5, c6, c7, c8, c9, rfl⟩ := arr10p (hsz.trans Tryz.cPrP)
  obtain ⟨fuel, hf⟩ := h0
  obtain ⟨y, hf'⟩ : ∃ y, DataW.trod enc Tryz.prog W base t1 t2 fuel 32 [c0, c1, c2, c3, c4, c5, c6, c7, c8, c9] = some y := ⟨(d, p), by simpa [Value.cells] using hf⟩
  obtain ⟨ys, m, _, rfl, hl, hlen, hq⟩ := DataW.trod_struct Tryz.underlying32 hf'
  match ys, hlen with
  | [y0, y1, y2, y3, y4], _ =>
    have k0 := hq 0 _ rfl
    have k1 := hq 1 _ rfl
    have k2 := hq 2 _ rfl
    have k3 := hq 3 _ rfl
    have k4 := hq 4 _ rfl
    simp [Tryz.cSeP, Tryz.cNsP, Tryz.cWsP, Tryz.cMsP, Tryz.cEs] at k0 k1 k2 k3 k4
    obtain ⟨sa, si, ho, nx, a1, a2, n1, d1, n2, d2, r1, r2, e0, ⟨u1, u2, u3⟩, ⟨v1, v2, v3⟩⟩ := open_settings_cells k0
    obtain ⟨aN, nN, dN, LN, e1, hN, lN, mN⟩ := open_NdS k1
    obtain ⟨aW, nW, dW, LW, e2, hW, lW, mW⟩ := open_WiS k2
    obtain ⟨aM, nM, dM, LM, e3, hM, lM, mM⟩ := open_MqS k3
    obtain ⟨aS, nS, dS, LS, e4, hS, lS, mS⟩ := open_entries k4
    simp only [List.cons.injEq, and_true] at e0 e1 e2 e3 e4
    obtain ⟨rfl, rfl, rfl, rfl, rfl, rfl⟩ := e0
    subst e1 e2 e3 e4
    exact ⟨sa, si, ho, nx, a1, a2, aN, aW, aM, aS, n1, d1, n2, d2, nN, dN, nW, dW, nM, dM, nS, dS, r1, r2, LN, LW, LM, LS, rfl, ⟨u1, v1, u2, v2, u3, v3, hN, lN, mN, hW, lW, mW, hM, lM, mM, hS, lS, mS⟩⟩

end Go.Proofs.YtkbdmcimgepakaaGreat

namespace Go.Proofs.YtkbdmcimgepakaaGreat
open Go.RowKit Go.Sort Go.Deep
set_option linter.unusedVariables false
set_option linter.unusedSimpArgs false

/-- The first that is not 0. -/
def ffF {α : Type} (g : α → Int) : List α → Int
  | [] => 0
  | x :: L => if g x ≠ 0 then g x else ffF g L
theorem ffF_at {α : Type} {g : α → Int} {L : List α} {k : Nat} {x : α} (h : L[k]? = some x) : ffF g (L.drop k) = if g x ≠ 0 then g x else ffF g (L.drop (k + 1)) := by
  obtain ⟨hk, e⟩ := List.getElem?_eq_some_iff.1 h
  rw [List.drop_eq_getElem_cons hk, ffF, e]
theorem ffF_end {α : Type} {g : α → Int} {L : List α} {k : Nat} (h : L.length ≤ k) : ffF g (L.drop k) = 0 := by
  rw [List.drop_eq_nil_of_le h]; rfl
/-- The fault of a node at a place. -/
def n1F (k : Int) (x : Int × Bool × Int × Int × Int × Int × Int × Int × List Ek) : Int :=
  match x with
  | (id, up, ro, ep, su, ma, ot, co, L) => if nF id up ro ep su ma ot co L.length L ≠ 0 then nF id up ro ep su ma ot co L.length L else if id ≠ k then 1 else 0
def ndF (L : List (Int × Bool × Int × Int × Int × Int × Int × Int × List Ek)) : Int :=
  match L with
  | [x, y] => if n1F 0 x ≠ 0 then n1F 0 x else n1F 1 y
  | _ => 0
def w1F (x : Int × Int × List Int × List Int) : Int := match x with | (E, T, xs, ys) => wF E T xs.length ys.length
def m1F (x : Ml) : Int := if ¬ (x.tgt = 0 ∨ x.tgt = 1) then 1 else mlF x.tgt x.kd x.tgt x.ep x.at1 x.pr x.has x.e.ep x.e.ki x.e.pe x.e.xs.length
def e1F (x : Ek) : Int := enF x.ep x.ki x.pe x.xs.length
def msF (L : List Ml) : Int := if 40 < L.length then 2 else ffF m1F L
def seF (L : List Ek) : Int := if 100 < L.length then 2 else ffF e1F L
theorem pick1 {f r v : Int} (h : (if f ≠ 0 then f else r) = v) : (f ≠ 0 → f = v) ∧ (f = 0 → r = v) := by
  refine ⟨fun a => ?_, fun a => ?_⟩ <;> simp_all
theorem pick2 {f id k v : Int} (h : (if f ≠ 0 then f else if id ≠ k then 1 else 0) = v) : (f ≠ 0 → f = v) ∧ (f = 0 → id ≠ k → 1 = v) ∧ (f = 0 → id = k → 0 = v) := by
  refine ⟨fun a => ?_, fun a b => ?_, fun a b => ?_⟩ <;> simp_all
theorem pick3 {f id k r v : Int} (h : (if (if f ≠ 0 then f else if id ≠ k then 1 else 0) ≠ 0 then (if f ≠ 0 then f else if id ≠ k then 1 else 0) else r) = v) : (f ≠ 0 → f = v) ∧ (f = 0 → id ≠ k → 1 = v) ∧ (f = 0 → id = k → r = v) := by
  refine ⟨fun a => ?_, fun a b => ?_, fun a b => ?_⟩ <;> simp_all
/-- What is asked of mails and of what is sealed. -/
def q1F (a b : Int) : Int := if a ≠ 0 then a else b
theorem pickq {a b v : Int} (h : q1F a b = v) : (a ≠ 0 → a = v) ∧ (a = 0 → b = v) := pick1 h
/-- The fault of a pair. -/
def pF (sa si ho nx : Int) (r1 r2 : List Ru) (N : List (Int × Bool × Int × Int × Int × Int × Int × Int × List Ek)) (W : List (Int × Int × List Int × List Int)) (M : List Ml) (S : List Ek) : Int :=
  q1F (stF sa si ho nx r1 r2) (if ¬ (N.length = 2 ∧ W.length = 3) then 1 else q1F (ndF N) (q1F (ffF w1F W) (q1F (msF M) (seF S))))

end Go.Proofs.YtkbdmcimgepakaaGreat

namespace Go.Proofs.YtkbdmcimgepakaaGreat
open Go.RowKit Go.Sort Go.Deep
set_option linter.unusedVariables false
set_option linter.unusedSimpArgs false

/-- The fault of the nodes from a place on. -/
def nkF : Int → List (Int × Bool × Int × Int × Int × Int × Int × Int × List Ek) → Int
  | _, [] => 0
  | k, x :: L => if n1F k x ≠ 0 then n1F k x else nkF (k + 1) L
theorem nkF_two {L : List (Int × Bool × Int × Int × Int × Int × Int × Int × List Ek)} (h : L.length = 2) : nkF 0 L = ndF L := by
  match L, h with
  | [x, y], _ =>
    simp only [nkF, ndF]
    by_cases h1 : n1F 0 x = 0
    · simp only [h1]
      by_cases h2 : n1F 1 y = 0
      · simp [h2]
      · simp [h2]
    · simp [h1]
theorem nkF_at {L : List (Int × Bool × Int × Int × Int × Int × Int × Int × List Ek)} {k : Nat} {x : Int × Bool × Int × Int × Int × Int × Int × Int × List Ek} (h : L[k]? = some x) : nkF k (L.drop k) = if n1F k x ≠ 0 then n1F k x else nkF ((k + 1 : Nat) : Int) (L.drop (k + 1)) := by
  obtain ⟨hk, e⟩ := List.getElem?_eq_some_iff.1 h
  rw [List.drop_eq_getElem_cons hk, nkF, e]
  rfl

set_option maxHeartbeats 3200000 in
theorem nodesI (sa si ho nx : Int) (a1 a2 aN aW aM aS : Option Addr) (n1 c1 n2 c2 nN cN nW cW nM cM nS cS : Nat) (r1 r2 : List Ru) (B : Nat) (V : List NdV) (w : World) (hb : Blk w B 44 #[.int .i64 sa, .int .i64 si, .int .i64 ho, .int .i64 nx, .slice a1 n1 c1, .slice a2 n2 c2, .slice aN nN cN, .slice aW nW cW, .slice aM nM cM, .slice aS nS cS]) (h : NdAt w aN V) (hn : V.length = nN) (hm : nN ≤ 1048576) (v : Int) (hv : nkF 0 (V.map NdV.r) = v) :
    Calls Tryz.prog 63 #[.pointer (some ⟨B, 0, none⟩)] w fun e w' => e = .returned (.int .i64 v) ∧ New w w' := by
  have HN : Hid (V.length = nN) := hn
  have HF : Hid (nkF ((0 : Nat) : Int) ((V.map NdV.r).drop 0) = v) := hv
  have cB := hb.cells
  clear hn hv
  go_enter Tryz.func63, Tryz.ntmps63
  go_wp2
  go_loopw [11] (fun i wr => ∃ (k : Nat), k ≤ nN ∧ i = .int .i64 k ∧ New w wr ∧ Hid (nkF (k : Int) ((V.map NdV.r).drop k) = v)) (fun i _ => nN - (intOf i).toNat)
  case atStart => exact ⟨0, Nat.zero_le _, rfl, New.refl _, HF⟩
  case round =>
    obtain ⟨k, hk, rfl, hnw, hL⟩ := hrel
    by_cases hlt : k < nN
    · obtain ⟨g, id, up, ro, ep, su, ma, ot, co, x, m, d, xs, hg, hv, hl, hx, hmx, q0, q1, q2, q3, q4, q5, q6, q7, q8⟩ := (h.new hnw).at k (by have := HN.out; omega)
      subst hg
      have HD : Hid ((if (if nF id up ro ep su ma ot co m (xs.map EkV.r) ≠ 0 then nF id up ro ep su ma ot co m (xs.map EkV.r) else if id ≠ (k : Int) then 1 else 0) ≠ 0 then (if nF id up ro ep su ma ot co m (xs.map EkV.r) ≠ 0 then nF id up ro ep su ma ot co m (xs.map EkV.r) else if id ≠ (k : Int) then 1 else 0) else nkF ((k + 1 : Nat) : Int) ((V.map NdV.r).drop (k + 1))) = v) := by
        unfold Hid
        have h1 := nkF_at (x := (id, up, ro, ep, su, ma, ot, co, xs.map EkV.r)) (L := (V.map NdV.r)) (k := k) (by rw [List.getElem?_map, hv]; rfl)
        have h2 := hL.out
        rw [h1] at h2
        simp only [n1F, List.length_map, hl] at h2
        exact h2
      have HL : Hid (xs.length = m) := hl
      have hm1 : m ≤ 1048576 := by have := totK_len xs; omega
      have hw1 := hnw.alloc (.cells #[.int .i64 id, .bool up, .int .i64 ro, .int .i64 ep, .slice x m d, .int .i64 su, .int .i64 ma, .int .i64 ot, .int .i64 co] 98)
      have bx := Blk.mk wr wr.heap.size 98 #[.int .i64 id, .bool up, .int .i64 ro, .int .i64 ep, .slice x m d, .int .i64 su, .int .i64 ma, .int .i64 ot, .int .i64 co] rfl
      clear hv hl h hL cB hmx
      go_wp2_with fail
      refine (implNF id up ro ep su ma ot co x m d xs _ (hx.new ((New.refl _).alloc _)) HL.out (by omega)).mono ?_
      rintro e w2 ⟨rfl, hn2⟩
      have hw2 := hw1.trans hn2
      have cx := (bx.new hn2).cells
      clear q0 q1 q2 q3 q4 q5 q6 q7 q8 bx hx
      generalize nF id up ro ep su ma ot co m (xs.map EkV.r) = f at *
      by_cases hf : f = 0
      · by_cases hi : id = (k : Int)
        · have HR : Hid (nkF ((k + 1 : Nat) : Int) ((V.map NdV.r).drop (k + 1)) = v) := (pick3 HD.out).2.2 hf hi
          clear HD
          subst hf
          subst hi
          have hne : ((k : Int) != (k : Int)) = false := by simp
          go_wp2
          go_roundw
          case rel => exact ⟨k + 1, by omega, by go_num, hw2, HR⟩
          case measure => simp [intOf]; omega
        · obtain rfl : (1 : Int) = v := (pick3 HD.out).2.1 hf hi
          clear HD
          subst hf
          have hne : (id != (k : Int)) = true := by simpa using hi
          go_wp2
          go_ret
          exact ⟨rfl, hw2⟩
      · obtain rfl : f = v := (pick3 HD.out).1 hf
        go_wp2
        go_ret
        exact ⟨rfl, hw2⟩
    · have HR : Hid ((0 : Int) = v) := by unfold Hid; rw [← hL.out, List.drop_eq_nil_of_le (by have := HN.out; simp; omega)]; rfl
      obtain rfl := HR.out
      go_wp2
      go_ret
      exact ⟨rfl, hnw⟩

set_option maxHeartbeats 3200000 in
theorem mailsI (sa si ho nx : Int) (a1 a2 aN aW aM aS : Option Addr) (n1 c1 n2 c2 nN cN nW cW nM cM nS cS : Nat) (r1 r2 : List Ru) (B : Nat) (V : List MlV) (w : World) (hb : Blk w B 44 #[.int .i64 sa, .int .i64 si, .int .i64 ho, .int .i64 nx, .slice a1 n1 c1, .slice a2 n2 c2, .slice aN nN cN, .slice aW nW cW, .slice aM nM cM, .slice aS nS cS]) (h : MqAt w aM V) (hn : V.length = nM) (hm : nM ≤ 1048576) (v : Int) (hv : msF (V.map MlV.r) = v) :
    Calls Tryz.prog 65 #[.pointer (some ⟨B, 0, none⟩)] w fun e w' => e = .returned (.int .i64 v) ∧ New w w' := by
  have HN : Hid (V.length = nM) := hn
  have HV : Hid ((if 40 < nM then 2 else ffF m1F (V.map MlV.r)) = v) := by unfold Hid; rw [← hv, ← hn]; simp [msF]
  have cB := hb.cells
  clear hn hv
  by_cases hbig : 40 < nM
  · obtain rfl : (2 : Int) = v := by have := HV.out; rw [if_pos hbig] at this; exact this
    go_enter Tryz.func65, Tryz.ntmps65
    go_wp2
    go_ret
    exact ⟨rfl, New.refl _⟩
  have HF : Hid (ffF m1F ((V.map MlV.r).drop 0) = v) := by unfold Hid; have := HV.out; rw [if_neg hbig] at this; simpa using this
  clear HV
  go_enter Tryz.func65, Tryz.ntmps65
  go_wp2
  go_loopw [17] (fun i wr => ∃ (k : Nat), k ≤ nM ∧ i = .int .i64 k ∧ New w wr ∧ Hid (ffF m1F ((V.map MlV.r).drop k) = v)) (fun i _ => nM - (intOf i).toNat)
  case atStart => exact ⟨0, Nat.zero_le _, rfl, New.refl _, HF⟩
  case round =>
    obtain ⟨k, hk, rfl, hnw, hL⟩ := hrel
    by_cases hlt : k < nM
    · obtain ⟨g, kd, tgt, me, at1, pr, has, ee, ki, pe, x, m, d, xs, hg, hv, hl, hx, hmx, q0, q1, q2, q3, q4, q5, q6, q7, q8, q9⟩ := (h.new hnw).at k (by have := HN.out; omega)
      subst hg
      have HD : Hid ((if (if ¬ (tgt = 0 ∨ tgt = 1) then 1 else mlF tgt kd tgt me at1 pr has ee ki pe m) ≠ 0 then (if ¬ (tgt = 0 ∨ tgt = 1) then 1 else mlF tgt kd tgt me at1 pr has ee ki pe m) else ffF m1F ((V.map MlV.r).drop (k + 1))) = v) := by
        unfold Hid
        have h1 := ffF_at (g := m1F) (x := ⟨kd, tgt, me, at1, pr, has, ⟨ee, ki, pe, xs⟩⟩) (L := (V.map MlV.r)) (k := k) (by rw [List.getElem?_map, hv]; rfl)
        have h2 := hL.out
        rw [h1] at h2
        simp only [m1F, hl] at h2
        exact h2
      have hw1 := hnw.alloc (.cells #[.int .i64 kd, .int .i64 tgt, .int .i64 me, .int .i64 at1, .int .i64 pr, .bool has, .int .i64 ee, .int .i64 ki, .int .i64 pe, .slice x m d] 105)
      have bx := Blk.mk wr wr.heap.size 105 #[.int .i64 kd, .int .i64 tgt, .int .i64 me, .int .i64 at1, .int .i64 pr, .bool has, .int .i64 ee, .int .i64 ki, .int .i64 pe, .slice x m d] rfl
      have cx := bx.cells
      clear hv hl h hL cB
      by_cases ht : tgt = 0 ∨ tgt = 1
      · rw [if_neg (not_not_intro ht)] at HD
        go_wp2_with fail
        refine (isNode_yes tgt _ ht).mono ?_
        rintro e w2 ⟨rfl, hw2⟩
        obtain rfl := hw2.symm
        go_wp2_with fail
        refine (fFor_any tgt wr.heap.size kd tgt me at1 pr has ee ki pe x m d _ bx hmx).mono ?_
        rintro e w3 ⟨rfl, hn3⟩
        have hw3 := hw1.trans hn3
        clear q0 q1 q2 q3 q4 q5 q6 q7 q8 q9 cx bx
        generalize mlF tgt kd tgt me at1 pr has ee ki pe m = f at *
        by_cases hf : f = 0
        · have HR : Hid (ffF m1F ((V.map MlV.r).drop (k + 1)) = v) := (pick1 HD.out).2 hf
          subst hf
          clear HD
          go_wp2
          go_roundw
          case rel => exact ⟨k + 1, by omega, by go_num, hw3, HR⟩
          case measure => simp [intOf]; omega
        · obtain rfl : f = v := (pick1 HD.out).1 hf
          go_wp2
          go_ret
          exact ⟨rfl, hw3⟩
      · rw [if_pos ht] at HD
        obtain rfl : (1 : Int) = v := by have := HD.out; rw [if_pos (by decide)] at this; exact this
        go_wp2_with fail
        refine (isNode_no tgt _ ht).mono ?_
        rintro e w2 ⟨rfl, hw2⟩
        obtain rfl := hw2.symm
        go_wp2
        go_ret
        exact ⟨rfl, hw1⟩
    · have HR : Hid ((0 : Int) = v) := by unfold Hid; rw [← hL.out, ffF_end (by have := HN.out; simp; omega)]
      obtain rfl := HR.out
      go_wp2
      go_ret
      exact ⟨rfl, hnw⟩

set_option maxHeartbeats 3200000 in
theorem sealedI (sa si ho nx : Int) (a1 a2 aN aW aM aS : Option Addr) (n1 c1 n2 c2 nN cN nW cW nM cM nS cS : Nat) (r1 r2 : List Ru) (B : Nat) (V : List EkV) (w : World) (hb : Blk w B 44 #[.int .i64 sa, .int .i64 si, .int .i64 ho, .int .i64 nx, .slice a1 n1 c1, .slice a2 n2 c2, .slice aN nN cN, .slice aW nW cW, .slice aM nM cM, .slice aS nS cS]) (h : LgAt w aS V) (hn : V.length = nS) (hm : nS ≤ 1048576) (v : Int) (hv : seF (V.map EkV.r) = v) :
    Calls Tryz.prog 66 #[.pointer (some ⟨B, 0, none⟩)] w fun e w' => e = .returned (.int .i64 v) ∧ New w w' := by
  have HN : Hid (V.length = nS) := hn
  have HV : Hid ((if 100 < nS then 2 else ffF e1F (V.map EkV.r)) = v) := by unfold Hid; rw [← hv, ← hn]; simp [seF]
  have cB := hb.cells
  clear hn hv
  by_cases hbig : 100 < nS
  · obtain rfl : (2 : Int) = v := by have := HV.out; rw [if_pos hbig] at this; exact this
    go_enter Tryz.func66, Tryz.ntmps66
    go_wp2
    go_ret
    exact ⟨rfl, New.refl _⟩
  have HF : Hid (ffF e1F ((V.map EkV.r).drop 0) = v) := by unfold Hid; have := HV.out; rw [if_neg hbig] at this; simpa using this
  clear HV
  go_enter Tryz.func66, Tryz.ntmps66
  go_wp2
  go_loopw [17] (fun i wr => ∃ (k : Nat), k ≤ nS ∧ i = .int .i64 k ∧ New w wr ∧ Hid (ffF e1F ((V.map EkV.r).drop k) = v)) (fun i _ => nS - (intOf i).toNat)
  case atStart => exact ⟨0, Nat.zero_le _, rfl, New.refl _, HF⟩
  case round =>
    obtain ⟨k, hk, rfl, hnw, hL⟩ := hrel
    by_cases hlt : k < nS
    · obtain ⟨g, ep, ki, pe, x, m, d, xs, hg, hv, hl, hx, hmx, x0, x1, x2, x3⟩ := (h.new hnw).at k (by have := HN.out; omega)
      subst hg
      have HD : Hid ((if enF ep ki pe m ≠ 0 then enF ep ki pe m else ffF e1F ((V.map EkV.r).drop (k + 1))) = v) := by
        unfold Hid
        have h1 := ffF_at (g := e1F) (x := ⟨ep, ki, pe, xs⟩) (L := (V.map EkV.r)) (k := k) (by rw [List.getElem?_map, hv]; rfl)
        have h2 := hL.out
        rw [h1] at h2
        simp only [e1F, hl] at h2
        exact h2
      have hw1 := hnw.alloc (.cells #[.int .i64 ep, .int .i64 ki, .int .i64 pe, .slice x m d] 95)
      have bx := Blk.mk wr wr.heap.size 95 #[.int .i64 ep, .int .i64 ki, .int .i64 pe, .slice x m d] rfl
      clear hv hl h hL cB
      go_wp2_with fail
      refine (implEN ep ki pe x m d _ (by omega)).mono ?_
      rintro e w2 ⟨rfl, hn2⟩
      have hw2 := hw1.trans hn2
      clear x0 x1 x2 x3
      generalize enF ep ki pe m = f at *
      by_cases hf : f = 0
      · have HR : Hid (ffF e1F ((V.map EkV.r).drop (k + 1)) = v) := (pick1 HD.out).2 hf
        subst hf
        clear HD
        go_wp2
        go_roundw
        case rel => exact ⟨k + 1, by omega, by go_num, hw2, HR⟩
        case measure => simp [intOf]; omega
      · obtain rfl : f = v := (pick1 HD.out).1 hf
        go_wp2
        go_ret
        exact ⟨rfl, hw2⟩
    · have HR : Hid ((0 : Int) = v) := by unfold Hid; rw [← hL.out, ffF_end (by have := HN.out; simp; omega)]
      obtain rfl := HR.out
      go_wp2
      go_ret
      exact ⟨rfl, hnw⟩

set_option maxHeartbeats 6400000 in
theorem implPaF (sa si ho nx : Int) (a1 a2 aN aW aM aS : Option Addr) (n1 c1 n2 c2 nN cN nW cW nM cM nS cS : Nat) (r1 r2 : List Ru) (LN : List NdV) (LW : List WiV) (LM : List MlV) (LS : List EkV) (w : World) (h : PAt w a1 a2 aN aW aM aS r1 r2 LN LW LM LS) (l1 : r1.length = n1) (l2 : r2.length = n2) (lN : LN.length = nN) (lW : LW.length = nW) (lM : LM.length = nM) (lS : LS.length = nS) (m1 : n1 ≤ 1048576) (m2 : n2 ≤ 1048576) (mN : nN ≤ 1048576) (mW : nW ≤ 1048576) (mM : nM ≤ 1048576) (mS : nS ≤ 1048576) (v : Int) (hv : pF sa si ho nx r1 r2 (LN.map NdV.r) (LW.map WiV.r) (LM.map MlV.r) (LS.map EkV.r) = v) :
    Calls Tryz.prog 30 #[.agg #[.int .i64 sa, .int .i64 si, .int .i64 ho, .int .i64 nx, .slice a1 n1 c1, .slice a2 n2 c2, .slice aN nN cN, .slice aW nW cW, .slice aM nM cM, .slice aS nS cS]] w fun e w' => e = .returned (.int .i64 v) ∧ New w w' := by
  have hw := (New.refl w).alloc (.cells #[.int .i64 sa, .int .i64 si, .int .i64 ho, .int .i64 nx, .slice a1 n1 c1, .slice a2 n2 c2, .slice aN nN cN, .slice aW nW cW, .slice aM nM cM, .slice aS nS cS] 44)
  have b0 := Blk.mk w w.heap.size 44 #[.int .i64 sa, .int .i64 si, .int .i64 ho, .int .i64 nx, .slice a1 n1 c1, .slice a2 n2 c2, .slice aN nN cN, .slice aW nW cW, .slice aM nM cM, .slice aS nS cS] rfl
  have HV : Hid (q1F (stF sa si ho nx r1 r2) (if ¬ (nN = 2 ∧ nW = 3) then 1 else q1F (ndF (LN.map NdV.r)) (q1F (ffF w1F (LW.map WiV.r)) (q1F (msF (LM.map MlV.r)) (seF (LS.map EkV.r))))) = v) := by
    unfold Hid; rw [← hv]; simp only [pF, List.length_map, lN, lW]
  have LNh : Hid (LN.length = nN) := lN
  have LWh : Hid (LW.length = nW) := lW
  clear hv lN lW
  go_enter Tryz.func30, Tryz.ntmps30
  go_wp2_with fail
  refine (implSE sa si ho nx a1 a2 n1 c1 n2 c2 r1 r2 (stF sa si ho nx r1 r2) _ (h.s1.new hw) (h.s2.new hw) l1 l2 m1 m2 rfl).mono ?_
  rintro e w1 ⟨rfl, hn1⟩
  have hw1 := hw.trans hn1
  have b1 := b0.new hn1
  clear hw b0 hn1 l1 l2
  generalize stF sa si ho nx r1 r2 = f at *
  by_cases hf : f = 0
  case neg =>
    obtain rfl : f = v := (pickq HV.out).1 hf
    go_wp2
    go_ret
    exact ⟨rfl, hw1⟩
  subst hf
  have HV1 : Hid ((if ¬ (nN = 2 ∧ nW = 3) then 1 else q1F (ndF (LN.map NdV.r)) (q1F (ffF w1F (LW.map WiV.r)) (q1F (msF (LM.map MlV.r)) (seF (LS.map EkV.r))))) = v) := (pickq HV.out).2 rfl
  clear HV
  have c1' := b1.cells
  by_cases hl : nN = 2 ∧ nW = 3
  case neg =>
    obtain rfl : (1 : Int) = v := by have := HV1.out; rw [if_pos hl] at this; exact this
    by_cases hN : nN = 2
    · have hW : ¬ nW = 3 := fun e => hl ⟨hN, e⟩
      have e1 : ((nN : Int) != 2) = false := by simp; omega
      have e2 : ((nW : Int) != 3) = true := by simp; omega
      go_wp2
      go_ret
      exact ⟨rfl, hw1⟩
    · have e1 : ((nN : Int) != 2) = true := by simp; omega
      go_wp2
      go_ret
      exact ⟨rfl, hw1⟩
  obtain ⟨rfl, rfl⟩ := hl
  have HV2 : Hid (q1F (ndF (LN.map NdV.r)) (q1F (ffF w1F (LW.map WiV.r)) (q1F (msF (LM.map MlV.r)) (seF (LS.map EkV.r)))) = v) := by have := HV1.out; rw [if_neg (by simp)] at this; exact this
  clear HV1
  go_wp2_with fail
  refine (nodesI sa si ho nx a1 a2 aN aW aM aS n1 c1 n2 c2 2 cN 3 cW nM cM nS cS r1 r2 w.heap.size LN _ b1 (h.nd.new hw1) LNh.out mN _ (nkF_two (by simp [LNh.out]))).mono ?_
  rintro e w2 ⟨rfl, hn2⟩
  have hw2 := hw1.trans hn2
  have b2 := b1.new hn2
  clear c1' hw1 b1 hn2
  generalize ndF (LN.map NdV.r) = f at *
  by_cases hf : f = 0
  case neg =>
    obtain rfl : f = v := (pickq HV2.out).1 hf
    go_wp2
    go_ret
    exact ⟨rfl, hw2⟩
  subst hf
  have HV3 : Hid (q1F (ffF w1F ((LW.map WiV.r).drop 0)) (q1F (msF (LM.map MlV.r)) (seF (LS.map EkV.r))) = v) := (pickq HV2.out).2 rfl
  clear HV2
  have c2' := b2.cells
  go_wp2
  go_loopw [32] (fun i wr => ∃ (k : Nat), k ≤ 3 ∧ i = .int .i64 k ∧ New w2 wr ∧ Hid (q1F (ffF w1F ((LW.map WiV.r).drop k)) (q1F (msF (LM.map MlV.r)) (seF (LS.map EkV.r))) = v)) (fun i _ => 3 - (intOf i).toNat)
  case atStart => exact ⟨0, Nat.zero_le _, rfl, New.refl _, HV3⟩
  case round =>
    obtain ⟨k, hk, rfl, hnw, hL⟩ := hrel
    have hw3 := hw2.trans hnw
    by_cases hlt : k < 3
    · obtain ⟨g, E, T, x, x2, m, d, m2, d2, xs, ys, hg, hv, hl1, hl2, hx, hx2, hmx, hmx2, q0, q1, q2, q3⟩ := (h.wi.new hw3).at k (by have := LWh.out; omega)
      subst hg
      have HD : Hid (q1F (if wF E T m m2 ≠ 0 then wF E T m m2 else ffF w1F ((LW.map WiV.r).drop (k + 1))) (q1F (msF (LM.map MlV.r)) (seF (LS.map EkV.r))) = v) := by
        unfold Hid
        have h1 := ffF_at (g := w1F) (x := (E, T, xs, ys)) (L := (LW.map WiV.r)) (k := k) (by rw [List.getElem?_map, hv]; rfl)
        have h2 := hL.out
        rw [h1] at h2
        simp only [w1F, hl1, hl2] at h2
        exact h2
      have al := (New.refl wr).alloc (.cells #[.int .i64 E, .slice x m d, .int .i64 T, .slice x2 m2 d2] 91)
      have bx := Blk.mk wr wr.heap.size 91 #[.int .i64 E, .slice x m d, .int .i64 T, .slice x2 m2 d2] rfl
      clear hv hl1 hl2 hL c2'
      go_wp2_with fail
      refine (implWF E T x x2 m d m2 d2 _ (by omega) (by omega)).mono ?_
      rintro e w4 ⟨rfl, hn4⟩
      have hw4 := hnw.trans (al.trans hn4)
      clear q0 q1 q2 q3 bx
      generalize wF E T m m2 = f at *
      by_cases hf : f = 0
      · have HR : Hid (q1F (ffF w1F ((LW.map WiV.r).drop (k + 1))) (q1F (msF (LM.map MlV.r)) (seF (LS.map EkV.r))) = v) := by have h1 := HD.out; rw [if_neg (not_not_intro hf)] at h1; exact h1
        subst hf
        clear HD
        go_wp2
        go_roundw
        case rel => exact ⟨k + 1, by omega, by go_num, hw4, HR⟩
        case measure => simp [intOf]; omega
      · obtain rfl : f = v := by have h1 := HD.out; rw [if_pos hf] at h1; exact (pickq h1).1 hf
        go_wp2
        go_ret
        exact ⟨rfl, hw2.trans hw4⟩
    · have HR : Hid (q1F (msF (LM.map MlV.r)) (seF (LS.map EkV.r)) = v) := by
        unfold Hid
        have := hL.out
        rw [ffF_end (by have := LWh.out; simp; omega)] at this
        exact (pickq this).2 rfl
      have b3 := b2.new hnw
      clear hL
      go_wp2_with fail
      refine (mailsI sa si ho nx a1 a2 aN aW aM aS n1 c1 n2 c2 2 cN 3 cW nM cM nS cS r1 r2 w.heap.size LM _ b3 (h.mq.new hw3) lM mM _ rfl).mono ?_
      rintro e w4 ⟨rfl, hn4⟩
      have hw4 := hw3.trans hn4
      have b4 := b3.new hn4
      generalize msF (LM.map MlV.r) = f at *
      by_cases hf : f = 0
      · subst hf
        go_wp2_with fail
        refine (sealedI sa si ho nx a1 a2 aN aW aM aS n1 c1 n2 c2 2 cN 3 cW nM cM nS cS r1 r2 w.heap.size LS _ b4 (h.se.new hw4) lS mS v ((pickq HR.out).2 rfl)).mono ?_
        rintro e w5 ⟨rfl, hn5⟩
        go_wp2
        go_ret
        exact ⟨rfl, hw4.trans hn5⟩
      · obtain rfl : f = v := (pickq HR.out).1 hf
        go_wp2
        go_ret
        exact ⟨rfl, hw4⟩

end Go.Proofs.YtkbdmcimgepakaaGreat
