/- What is proved here: what the copying, measuring, comparing and judging of a router's settings answer, for rules of at most 1048576. What is proved here: how an argument that is a router's settings comes in. No condition. What is proved here: what the counting, copying and comparing of a pair answers, for every pair of at most 1048576 rules, nodes, wires, mails, entries and bytes; how a pair comes in. -/
import Derived.Test.YtebkdaddndlmoaaGreatLS19
import Derived.Test.YtebkdaddndlmoaaGreatLS12
import Derived.Test.YtebkdaddndlmoaaGreatLS14
import Derived.Test.YtebkdaddndlmoaaGreatLS15
namespace Go.Proofs.YtebkdaddndlmoaaGreat
open Go.RowKit Go.Sort
set_option linter.unusedVariables false

theorem OwR.set_iff {w : World} {g n c : Nat} {ps : List Ru} {p : Addr} {u : Value} (hp : ¬ p.block = g) : OwR (w.setCell p u) g n c ps ↔ OwR w g n c ps := by
  have hb : (w.setCell p u).heap[g]? = w.heap[g]? := Below.heap_setCell w p u g (fun e => hp e.symm)
  unfold OwR World.ownsRow
  constructor
  · rintro ⟨h1, h2⟩
    refine ⟨h1, ?_⟩
    rcases h2 with h' | ⟨g', cap', cur, h', r⟩
    · exact .inl h'
    · simp only [Value.slice.injEq, Option.some.injEq, Addr.mk.injEq, and_true, true_and] at h'
      obtain ⟨rfl, rfl⟩ := h'
      exact .inr ⟨g, c, cur, rfl, r.1, hb.symm.trans r.2.1, r.2.2⟩
  · rintro ⟨h1, h2⟩
    refine ⟨h1, ?_⟩
    rcases h2 with h' | ⟨g', cap', cur, h', r⟩
    · exact .inl h'
    · simp only [Value.slice.injEq, Option.some.injEq, Addr.mk.injEq, and_true, true_and] at h'
      obtain ⟨rfl, rfl⟩ := h'
      exact .inr ⟨g, c, cur, rfl, r.1, hb.trans r.2.1, r.2.2⟩

/-- The fault of settings. -/
def stF (sa si ho nx : Int) (r1 r2 : List Ru) : Int :=
  if cf sa si ho = 0 then (if 0 ≤ nx ∧ nx ≤ 65535 then (if rsf r1 = 0 then rsf r2 else rsf r1) else 3) else cf sa si ho

theorem implCF_is (sa si ho z : Int) (w : World) (hz : cf sa si ho = z) : Calls Tryz.prog 180 #[.agg #[.int .i64 sa, .int .i64 si, .int .i64 ho]] w fun e w' => e = .returned (.int .i64 z) ∧ New w w' := hz ▸ implCF sa si ho w

theorem specCF_is (sa si ho z : Int) (w : World) (hz : cf sa si ho = z) : Calls Tryz.prog 174 #[.agg #[.int .i64 sa, .int .i64 si, .int .i64 ho]] w fun e w' => e = .returned (.int .i64 z) ∧ New w w' := hz ▸ specCF sa si ho w

theorem implRs_is (x : Option Addr) (n c : Nat) (rs : List Ru) (k : Int) (w : World) (h : RsAt w x rs) (hn : rs.length = n) (hm : n ≤ 1048576) (e : rsf rs = k) : Calls Tryz.prog 182 #[.slice x n c] w fun e w' => e = .returned (.int .i64 k) ∧ New w w' := e ▸ implRSF x n c rs w h hn hm

theorem specRs_is (x : Option Addr) (n c : Nat) (rs : List Ru) (k : Int) (w : World) (h : RsAt w x rs) (hn : rs.length = n) (hm : n ≤ 1048576) (e : rsf rs = k) : Calls Tryz.prog 176 #[.slice x n c] w fun e w' => e = .returned (.int .i64 k) ∧ New w w' := e ▸ specRSF x n c rs w h hn hm

set_option maxHeartbeats 1600000 in
theorem specSE (sa si ho nx : Int) (a1 a2 : Option Addr) (n1 c1 n2 c2 : Nat) (r1 r2 : List Ru) (z : Int) (w : World) (h1 : RsAt w a1 r1) (h2 : RsAt w a2 r2) (e1 : r1.length = n1) (e2 : r2.length = n2) (m1 : n1 ≤ 1048576) (m2 : n2 ≤ 1048576) (hz : stF sa si ho nx r1 r2 = z) : Calls Tryz.prog 140 #[.agg #[.int .i64 sa, .int .i64 si, .int .i64 ho, .int .i64 nx, .slice a1 n1 c1, .slice a2 n2 c2]] w fun e w' => e = .returned (.int .i64 z) ∧ New w w' := by
  have N0 := (New.refl w).alloc (.cells #[.int .i64 sa, .int .i64 si, .int .i64 ho, .int .i64 nx, .slice a1 n1 c1, .slice a2 n2 c2] 38)
  have bA := (Blk.mk w _ 38 #[.int .i64 sa, .int .i64 si, .int .i64 ho, .int .i64 nx, .slice a1 n1 c1, .slice a2 n2 c2] rfl)
  have cA := bA.cells
  have E1 : Hid (r1.length = n1) := e1
  have E2 : Hid (r2.length = n2) := e2
  clear e1 e2
  by_cases hc : cf sa si ho = 0
  · have HC : Hid (cf sa si ho = 0) := hc
    by_cases ha : 0 ≤ nx ∧ nx ≤ 65535
    · have HA : Hid (0 ≤ nx ∧ nx ≤ 65535) := ha
      by_cases hr : rsf r1 = 0
      · have HR : Hid (rsf r1 = 0) := hr
        have HZ : Hid (rsf r2 = z) := by
          have := hz
          unfold stF at this
          rw [if_pos hc, if_pos ha, if_pos hr] at this
          exact this
        clear hz hc ha hr
        go_enter Tryz.func140, Tryz.ntmps140
        go_wp2_with fail
        refine (specCF_is sa si ho 0 _ HC.out).mono ?_
        rintro e w1 ⟨rfl, k1⟩
        have b1 := bA.new k1
        have c1' := b1.cells
        have N1 := N0.trans k1
        clear cA
        go_wp2_with fail
        refine (l2Addr_yes _ _ HA.out).mono ?_
        rintro e w2 ⟨rfl, rfl⟩
        go_wp2_with fail
        refine (specRs_is a1 n1 c1 r1 0 _ (h1.new N1) E1.out m1 HR.out).mono ?_
        rintro e w3 ⟨rfl, k3⟩
        have b3 := b1.new k3
        have c3' := b3.cells
        have N3 := N1.trans k3
        clear c1'
        go_wp2_with fail
        refine (specRs_is a2 n2 c2 r2 z _ (h2.new N3) E2.out m2 HZ.out).mono ?_
        rintro e w4 ⟨rfl, k4⟩
        go_wp2
        go_ret
        exact ⟨rfl, N3.trans k4⟩
      · have HZ : Hid (rsf r1 = z) := by
          have := hz
          unfold stF at this
          rw [if_pos hc, if_pos ha, if_neg hr] at this
          exact this
        have hz0 : ¬ z = 0 := fun f => hr (HZ.out.trans f)
        clear hz hc ha hr
        go_enter Tryz.func140, Tryz.ntmps140
        go_wp2_with fail
        refine (specCF_is sa si ho 0 _ HC.out).mono ?_
        rintro e w1 ⟨rfl, k1⟩
        have b1 := bA.new k1
        have c1' := b1.cells
        have N1 := N0.trans k1
        clear cA
        go_wp2_with fail
        refine (l2Addr_yes _ _ HA.out).mono ?_
        rintro e w2 ⟨rfl, rfl⟩
        go_wp2_with fail
        refine (specRs_is a1 n1 c1 r1 z _ (h1.new N1) E1.out m1 HZ.out).mono ?_
        rintro e w3 ⟨rfl, k3⟩
        go_wp2
        go_ret
        exact ⟨rfl, N1.trans k3⟩
    · have HA : Hid (nx < 0 ∨ 65535 < nx) := (show nx < 0 ∨ 65535 < nx by omega)
      obtain rfl : 3 = z := by
        have := hz
        unfold stF at this
        rw [if_pos hc, if_neg ha] at this
        exact this
      clear hz hc ha
      go_enter Tryz.func140, Tryz.ntmps140
      go_wp2_with fail
      refine (specCF_is sa si ho 0 _ HC.out).mono ?_
      rintro e w1 ⟨rfl, k1⟩
      have b1 := bA.new k1
      have c1' := b1.cells
      have N1 := N0.trans k1
      clear cA
      go_wp2_with fail
      refine (l2Addr_no _ _ HA.out).mono ?_
      rintro e w2 ⟨rfl, rfl⟩
      go_wp2
      go_ret
      exact ⟨rfl, N1⟩
  · have HC : Hid (cf sa si ho = z) := by
      have := hz
      unfold stF at this
      rw [if_neg hc] at this
      exact this
    have hz0 : ¬ z = 0 := fun f => hc (HC.out.trans f)
    clear hz hc
    go_enter Tryz.func140, Tryz.ntmps140
    go_wp2_with fail
    refine (specCF_is sa si ho z _ HC.out).mono ?_
    rintro e w1 ⟨rfl, k1⟩
    have b1 := bA.new k1
    have c1' := b1.cells
    have N1 := N0.trans k1
    clear cA
    go_wp2
    go_ret
    exact ⟨rfl, N1⟩

set_option maxHeartbeats 1600000 in
theorem implSE (sa si ho nx : Int) (a1 a2 : Option Addr) (n1 c1 n2 c2 : Nat) (r1 r2 : List Ru) (z : Int) (w : World) (h1 : RsAt w a1 r1) (h2 : RsAt w a2 r2) (e1 : r1.length = n1) (e2 : r2.length = n2) (m1 : n1 ≤ 1048576) (m2 : n2 ≤ 1048576) (hz : stF sa si ho nx r1 r2 = z) : Calls Tryz.prog 145 #[.agg #[.int .i64 sa, .int .i64 si, .int .i64 ho, .int .i64 nx, .slice a1 n1 c1, .slice a2 n2 c2]] w fun e w' => e = .returned (.int .i64 z) ∧ New w w' := by
  have N0 := (New.refl w).alloc (.cells #[.int .i64 sa, .int .i64 si, .int .i64 ho, .int .i64 nx, .slice a1 n1 c1, .slice a2 n2 c2] 38)
  have bA := (Blk.mk w _ 38 #[.int .i64 sa, .int .i64 si, .int .i64 ho, .int .i64 nx, .slice a1 n1 c1, .slice a2 n2 c2] rfl)
  have cA := bA.cells
  have E1 : Hid (r1.length = n1) := e1
  have E2 : Hid (r2.length = n2) := e2
  clear e1 e2
  by_cases hc : cf sa si ho = 0
  · have HC : Hid (cf sa si ho = 0) := hc
    by_cases ha : 0 ≤ nx ∧ nx ≤ 65535
    · have HA : Hid (0 ≤ nx ∧ nx ≤ 65535) := ha
      by_cases hr : rsf r1 = 0
      · have HR : Hid (rsf r1 = 0) := hr
        have HZ : Hid (rsf r2 = z) := by
          have := hz
          unfold stF at this
          rw [if_pos hc, if_pos ha, if_pos hr] at this
          exact this
        clear hz hc ha hr
        go_enter Tryz.func145, Tryz.ntmps145
        go_wp2_with fail
        refine (implCF_is sa si ho 0 _ HC.out).mono ?_
        rintro e w1 ⟨rfl, k1⟩
        have b1 := bA.new k1
        have c1' := b1.cells
        have N1 := N0.trans k1
        clear cA
        go_wp2_with fail
        refine (isAddr_yes _ _ HA.out).mono ?_
        rintro e w2 ⟨rfl, rfl⟩
        go_wp2_with fail
        refine (implRs_is a1 n1 c1 r1 0 _ (h1.new N1) E1.out m1 HR.out).mono ?_
        rintro e w3 ⟨rfl, k3⟩
        have b3 := b1.new k3
        have c3' := b3.cells
        have N3 := N1.trans k3
        clear c1'
        go_wp2_with fail
        refine (implRs_is a2 n2 c2 r2 z _ (h2.new N3) E2.out m2 HZ.out).mono ?_
        rintro e w4 ⟨rfl, k4⟩
        go_wp2
        go_ret
        exact ⟨rfl, N3.trans k4⟩
      · have HZ : Hid (rsf r1 = z) := by
          have := hz
          unfold stF at this
          rw [if_pos hc, if_pos ha, if_neg hr] at this
          exact this
        have hz0 : ¬ z = 0 := fun f => hr (HZ.out.trans f)
        clear hz hc ha hr
        go_enter Tryz.func145, Tryz.ntmps145
        go_wp2_with fail
        refine (implCF_is sa si ho 0 _ HC.out).mono ?_
        rintro e w1 ⟨rfl, k1⟩
        have b1 := bA.new k1
        have c1' := b1.cells
        have N1 := N0.trans k1
        clear cA
        go_wp2_with fail
        refine (isAddr_yes _ _ HA.out).mono ?_
        rintro e w2 ⟨rfl, rfl⟩
        go_wp2_with fail
        refine (implRs_is a1 n1 c1 r1 z _ (h1.new N1) E1.out m1 HZ.out).mono ?_
        rintro e w3 ⟨rfl, k3⟩
        go_wp2
        go_ret
        exact ⟨rfl, N1.trans k3⟩
    · have HA : Hid (nx < 0 ∨ 65535 < nx) := (show nx < 0 ∨ 65535 < nx by omega)
      obtain rfl : 3 = z := by
        have := hz
        unfold stF at this
        rw [if_pos hc, if_neg ha] at this
        exact this
      clear hz hc ha
      go_enter Tryz.func145, Tryz.ntmps145
      go_wp2_with fail
      refine (implCF_is sa si ho 0 _ HC.out).mono ?_
      rintro e w1 ⟨rfl, k1⟩
      have b1 := bA.new k1
      have c1' := b1.cells
      have N1 := N0.trans k1
      clear cA
      go_wp2_with fail
      refine (isAddr_no _ _ HA.out).mono ?_
      rintro e w2 ⟨rfl, rfl⟩
      go_wp2
      go_ret
      exact ⟨rfl, N1⟩
  · have HC : Hid (cf sa si ho = z) := by
      have := hz
      unfold stF at this
      rw [if_neg hc] at this
      exact this
    have hz0 : ¬ z = 0 := fun f => hc (HC.out.trans f)
    clear hz hc
    go_enter Tryz.func145, Tryz.ntmps145
    go_wp2_with fail
    refine (implCF_is sa si ho z _ HC.out).mono ?_
    rintro e w1 ⟨rfl, k1⟩
    have b1 := bA.new k1
    have c1' := b1.cells
    have N1 := N0.trans k1
    clear cA
    go_wp2
    go_ret
    exact ⟨rfl, N1⟩

theorem szSe_ok (sa si ho nx : Int) (a1 a2 : Option Addr) (n1 c1 n2 c2 l : Nat) (w : World) (hl : l ≤ 1048576) (h : n1 + n2 ≤ l) : Calls Tryz.prog 38 #[.agg #[.int .i64 sa, .int .i64 si, .int .i64 ho, .int .i64 nx, .slice a1 n1 c1, .slice a2 n2 c2], .int .i64 l] w fun e w' => e = .returned (.int .i64 ((l - n1 - n2 : Nat) : Int)) ∧ New w w' := by
  have bA := (Blk.mk w _ 26 #[.int .i64 sa, .int .i64 si, .int .i64 ho, .int .i64 nx, .slice a1 n1 c1, .slice a2 n2 c2] rfl)
  have cA := bA.cells
  have s1 : (l : Int) - (n1 : Int) = ((l - n1 : Nat) : Int) := by omega
  have s2 : ((l - n1 : Nat) : Int) - (n2 : Int) = ((l - n1 - n2 : Nat) : Int) := by omega
  have l1 : n1 ≤ l := by omega
  have l2 : n2 ≤ l - n1 := by omega
  have m2 : l - n1 ≤ 1048576 := by omega
  clear h
  generalize l - n1 - n2 = q2 at *
  generalize l - n1 = q1 at *
  go_enter Tryz.func38, Tryz.ntmps38
  go_wp2_with fail
  refine (szRs_ok a1 n1 c1 l _ hl l1).mono ?_
  rintro e w1 ⟨rfl, rfl⟩
  rw [s1]
  go_wp2_with fail
  refine (szRs_ok a2 n2 c2 q1 _ m2 l2).mono ?_
  rintro e w1 ⟨rfl, rfl⟩
  rw [s2]
  go_wp2
  go_ret
  exact ⟨rfl, (New.refl _).alloc _⟩

theorem szSe_big (sa si ho nx : Int) (a1 a2 : Option Addr) (n1 c1 n2 c2 l : Nat) (w : World) (hl : l ≤ 1048576) (h : l < n1 + n2) (g1 : n1 ≤ maxLen) (g2 : n2 ≤ maxLen) : Calls Tryz.prog 38 #[.agg #[.int .i64 sa, .int .i64 si, .int .i64 ho, .int .i64 nx, .slice a1 n1 c1, .slice a2 n2 c2], .int .i64 l] w fun e w' => e = .returned (.int .i64 (-1)) ∧ New w w' := by
  by_cases l1 : l < n1
  · go_enter Tryz.func38, Tryz.ntmps38
    go_wp2_with fail
    refine (szRs_big a1 n1 c1 l _ hl g1 l1).mono ?_
    rintro e w1 ⟨rfl, rfl⟩
    go_wp2
    go_ret
    exact ⟨rfl, (New.refl _).alloc _⟩
  · have s1 : (l : Int) - (n1 : Int) = ((l - n1 : Nat) : Int) := by omega
    have l1' : n1 ≤ l := by omega
    have l2 : l - n1 < n2 := by omega
    have m2 : l - n1 ≤ 1048576 := by omega
    clear h l1
    generalize l - n1 = q1 at *
    go_enter Tryz.func38, Tryz.ntmps38
    go_wp2_with fail
    refine (szRs_ok a1 n1 c1 l _ hl l1').mono ?_
    rintro e w1 ⟨rfl, rfl⟩
    rw [s1]
    go_wp2_with fail
    refine (szRs_big a2 n2 c2 q1 _ m2 g2 l2).mono ?_
    rintro e w1 ⟨rfl, rfl⟩
    go_wp2
    go_ret
    exact ⟨rfl, (New.refl _).alloc _⟩

set_option maxHeartbeats 3200000 in
theorem toSe_any (sa si ho nx : Int) (a1 a2 : Option Addr) (n1 c1 n2 c2 : Nat) (r1 r2 : List Ru) (w : World) (h1 : RsAt w a1 r1) (h2 : RsAt w a2 r2) (e1 : r1.length = n1) (e2 : r2.length = n2) (m1 : n1 ≤ 1048576) (m2 : n2 ≤ 1048576) :
    Calls Tryz.prog 47 #[.agg #[.int .i64 sa, .int .i64 si, .int .i64 ho, .int .i64 nx, .slice a1 n1 c1, .slice a2 n2 c2]] w fun e w' => ∃ g1 g2, e = .returned (.agg #[.int .i64 sa, .int .i64 si, .int .i64 ho, .int .i64 nx, .slice (some ⟨g1, 0, none⟩) n1 n1, .slice (some ⟨g2, 0, none⟩) n2 n2]) ∧ w.heap.size ≤ g1 ∧ g1 < g2 ∧ OwR w' g1 n1 n1 r1 ∧ OwR w' g2 n2 n2 r2 ∧ New w w' := by
  have hw0 := (((New.refl w).alloc (.cells #[.int .i64 sa, .int .i64 si, .int .i64 ho, .int .i64 nx, .slice a1 n1 c1, .slice a2 n2 c2] 26)).alloc (.cells #[.int .i64 0, .int .i64 0, .int .i64 0, .int .i64 0, .slice none 0 0, .slice none 0 0] 38)).alloc (.cells #[.int .i64 0, .int .i64 0, .int .i64 0, .int .i64 0, .slice none 0 0, .slice none 0 0] 38)
  have b0 : Blk (((w.alloc (.cells #[.int .i64 sa, .int .i64 si, .int .i64 ho, .int .i64 nx, .slice a1 n1 c1, .slice a2 n2 c2] 26)).alloc (.cells #[.int .i64 0, .int .i64 0, .int .i64 0, .int .i64 0, .slice none 0 0, .slice none 0 0] 38)).alloc (.cells #[.int .i64 0, .int .i64 0, .int .i64 0, .int .i64 0, .slice none 0 0, .slice none 0 0] 38)) w.heap.size 26 #[.int .i64 sa, .int .i64 si, .int .i64 ho, .int .i64 nx, .slice a1 n1 c1, .slice a2 n2 c2] := ((Blk.mk _ _ _ _ rfl).alloc _).alloc _
  have b1 : Blk (((w.alloc (.cells #[.int .i64 sa, .int .i64 si, .int .i64 ho, .int .i64 nx, .slice a1 n1 c1, .slice a2 n2 c2] 26)).alloc (.cells #[.int .i64 0, .int .i64 0, .int .i64 0, .int .i64 0, .slice none 0 0, .slice none 0 0] 38)).alloc (.cells #[.int .i64 0, .int .i64 0, .int .i64 0, .int .i64 0, .slice none 0 0, .slice none 0 0] 38)) (w.heap.size + 1) 38 #[.int .i64 0, .int .i64 0, .int .i64 0, .int .i64 0, .slice none 0 0, .slice none 0 0] := (Blk.mk _ _ _ _ (by simp)).alloc _
  have b2 : Blk (((w.alloc (.cells #[.int .i64 sa, .int .i64 si, .int .i64 ho, .int .i64 nx, .slice a1 n1 c1, .slice a2 n2 c2] 26)).alloc (.cells #[.int .i64 0, .int .i64 0, .int .i64 0, .int .i64 0, .slice none 0 0, .slice none 0 0] 38)).alloc (.cells #[.int .i64 0, .int .i64 0, .int .i64 0, .int .i64 0, .slice none 0 0, .slice none 0 0] 38)) (w.heap.size + 1 + 1) 38 #[.int .i64 0, .int .i64 0, .int .i64 0, .int .i64 0, .slice none 0 0, .slice none 0 0] := Blk.mk _ _ _ _ (by simp)
  have ge1 : w.heap.size ≤ w.heap.size + 1 := by omega
  have ge2 : w.heap.size ≤ w.heap.size + 1 + 1 := by omega
  have d01 : ¬ w.heap.size + 1 + 1 = w.heap.size := by omega
  have d12 : ¬ w.heap.size + 1 + 1 = w.heap.size + 1 := by omega
  go_enter Tryz.func47, Tryz.ntmps47
  go_wp2_with fail
  refine (toCfg_any sa si ho _).mono ?_
  rintro e w1 ⟨rfl, hn1⟩
  have n1' := hw0.trans hn1
  have p0 := b0.new hn1
  have p1 := b1.new hn1
  have p2 := b2.new hn1
  have c0 := p0.cells
  have c2' := p2.cells
  have f2 := p2.frees
  have t1 : Turn (fun k => k = w.heap.size + 1 + 1) w1 ((((w1.setCell ⟨w.heap.size + 1 + 1, 0, none⟩ (.int .i64 sa)).setCell ⟨w.heap.size + 1 + 1, 1, none⟩ (.int .i64 si)).setCell ⟨w.heap.size + 1 + 1, 2, none⟩ (.int .i64 ho)).setCell ⟨w.heap.size + 1 + 1, 3, none⟩ (.int .i64 nx)) := Turn.here9 (Turn.here9 (Turn.here9 (Turn.here9 (Turn.refl _ _) _) _) _) _
  have n1'' : New w ((((w1.setCell ⟨w.heap.size + 1 + 1, 0, none⟩ (.int .i64 sa)).setCell ⟨w.heap.size + 1 + 1, 1, none⟩ (.int .i64 si)).setCell ⟨w.heap.size + 1 + 1, 2, none⟩ (.int .i64 ho)).setCell ⟨w.heap.size + 1 + 1, 3, none⟩ (.int .i64 nx)) := (((n1'.setCell ge2 _).setCell ge2 _).setCell ge2 _).setCell ge2 _
  have q2 := ((((p2.set 0 (.int .i64 sa)).set 1 (.int .i64 si)).set 2 (.int .i64 ho)).set 3 (.int .i64 nx))
  have q0 := p0.turn t1 (by omega)
  have q1 := p1.turn t1 (by omega)
  have sz0 := n1'.size
  have sz1 := t1.size
  have hs0 := hn1.size
  simp at hs0
  clear b0 b1 b2 hn1 p0 p1 p2 hw0
  go_wp2_with fail
  refine (toRs_any a1 n1 c1 r1 _ (h1.new n1'') e1 m1).mono ?_
  rintro e w2 ⟨g1, rfl, hg1, ho1, hn2⟩
  have n2' := n1''.trans hn2
  have s0 := q0.new hn2
  have s1 := q1.new hn2
  have s2 : Blk w2 (w.heap.size + 1 + 1) 38 #[.int .i64 sa, .int .i64 si, .int .i64 ho, .int .i64 nx, .slice none 0 0, .slice none 0 0] := q2.new hn2
  have lt1 := ho1.lt
  have hg1' : w.heap.size + 3 ≤ g1 := by omega
  clear c0 c2' f2 q0 q1 q2 t1
  have c0 := s0.cells
  have c2' := s2.cells
  have f2 := s2.frees
  have t2 : Turn (fun k => k = w.heap.size + 1 + 1) w2 (w2.setCell ⟨w.heap.size + 1 + 1, 4, none⟩ (.slice (some ⟨g1, 0, none⟩) n1 n1)) := Turn.here9 (Turn.refl _ _) _
  have n2'' : New w (w2.setCell ⟨w.heap.size + 1 + 1, 4, none⟩ (.slice (some ⟨g1, 0, none⟩) n1 n1)) := n2'.setCell ge2 _
  have q2 := s2.set 4 (.slice (some ⟨g1, 0, none⟩) n1 n1)
  have q1 := s1.turn t2 (by omega)
  have oo1 := ho1.turn t2 (by omega)
  have sz2 := t2.size
  clear hn2 s0 s1 s2 ho1
  go_wp2_with fail
  refine (toRs_any a2 n2 c2 r2 _ (h2.new n2'') e2 m2).mono ?_
  rintro e w3 ⟨g2, rfl, hg2, ho2, hn3⟩
  have n3' := n2''.trans hn3
  have s1 := q1.new hn3
  have s2 : Blk w3 (w.heap.size + 1 + 1) 38 #[.int .i64 sa, .int .i64 si, .int .i64 ho, .int .i64 nx, .slice (some ⟨g1, 0, none⟩) n1 n1, .slice none 0 0] := q2.new hn3
  have o31 := oo1.new hn3
  clear c0 c2' f2 q1 q2 t2 oo1
  have c1' := s1.cells
  have f1 := s1.frees
  have c2' := s2.cells
  have f2 := s2.frees
  have h12 : g1 < g2 := by omega
  have e11 : ¬ w.heap.size + 1 = g1 := by omega
  have e12 : ¬ w.heap.size + 1 = g2 := by omega
  have e21 : ¬ w.heap.size + 1 + 1 = g1 := by omega
  have e22 : ¬ w.heap.size + 1 + 1 = g2 := by omega
  go_wp2
  refine bodyPost_ret (v := .agg #[.int .i64 sa, .int .i64 si, .int .i64 ho, .int .i64 nx, .slice (some ⟨g1, 0, none⟩) n1 n1, .slice (some ⟨g2, 0, none⟩) n2 n2]) (by simp [results, Tryz.results47, go_sem, c1']) rfl ⟨g1, g2, rfl, by omega, h12, ?_, ?_, ?_⟩
  · simp (disch := (first | exact e11 | exact e21)) only [OwR.set_iff, o31]
  · simp (disch := (first | exact e12 | exact e22)) only [OwR.set_iff, ho2]
  · simp (disch := (first | exact ge1 | exact ge2)) only [New.set_iff, n3']

set_option maxHeartbeats 400000 in
theorem eqCf9 (sa si ho : Int) (w : World) : Calls Tryz.prog 109 #[.agg #[.int .i64 sa, .int .i64 si, .int .i64 ho], .agg #[.int .i64 sa, .int .i64 si, .int .i64 ho]] w fun e w' => e = .returned (.bool true) ∧ New w w' := by
  have z1 : (sa != sa) = false := by simp
  have z2 : (si != si) = false := by simp
  have z3 : (ho != ho) = false := by simp
  go_enter Tryz.func109, Tryz.ntmps109
  go_wp2
  go_ret
  exact ⟨rfl, ((New.refl w).alloc _).alloc _⟩

set_option maxHeartbeats 1600000 in
theorem eqSe_any (sa si ho nx : Int) (a1 a2 b1 b2 : Option Addr) (n1 c1 n2 c2 d1 d2 : Nat) (r1 r2 : List Ru) (w : World) (h1 : RsAt w a1 r1) (h2 : RsAt w a2 r2) (e1 : r1.length = n1) (e2 : r2.length = n2) (m1 : n1 ≤ 1048576) (m2 : n2 ≤ 1048576) (k1 : RsAt w b1 r1) (k2 : RsAt w b2 r2) :
    Calls Tryz.prog 54 #[.agg #[.int .i64 sa, .int .i64 si, .int .i64 ho, .int .i64 nx, .slice a1 n1 c1, .slice a2 n2 c2], .agg #[.int .i64 sa, .int .i64 si, .int .i64 ho, .int .i64 nx, .slice b1 n1 d1, .slice b2 n2 d2]] w fun e w' => e = .returned (.bool true) ∧ New w w' := by
  have hw := ((New.refl w).alloc (.cells #[.int .i64 sa, .int .i64 si, .int .i64 ho, .int .i64 nx, .slice a1 n1 c1, .slice a2 n2 c2] 38)).alloc (.cells #[.int .i64 sa, .int .i64 si, .int .i64 ho, .int .i64 nx, .slice b1 n1 d1, .slice b2 n2 d2] 38)
  have bA : Blk ((w.alloc (.cells #[.int .i64 sa, .int .i64 si, .int .i64 ho, .int .i64 nx, .slice a1 n1 c1, .slice a2 n2 c2] 38)).alloc (.cells #[.int .i64 sa, .int .i64 si, .int .i64 ho, .int .i64 nx, .slice b1 n1 d1, .slice b2 n2 d2] 38)) w.heap.size 38 #[.int .i64 sa, .int .i64 si, .int .i64 ho, .int .i64 nx, .slice a1 n1 c1, .slice a2 n2 c2] := (Blk.mk _ _ _ _ rfl).alloc _
  have bB : Blk ((w.alloc (.cells #[.int .i64 sa, .int .i64 si, .int .i64 ho, .int .i64 nx, .slice a1 n1 c1, .slice a2 n2 c2] 38)).alloc (.cells #[.int .i64 sa, .int .i64 si, .int .i64 ho, .int .i64 nx, .slice b1 n1 d1, .slice b2 n2 d2] 38)) (w.heap.size + 1) 38 #[.int .i64 sa, .int .i64 si, .int .i64 ho, .int .i64 nx, .slice b1 n1 d1, .slice b2 n2 d2] := Blk.mk _ _ _ _ (by simp)
  have hb : (nx != nx) = false := by simp
  go_enter Tryz.func54, Tryz.ntmps54
  go_wp2_with fail
  refine (eqCf9 sa si ho _).mono ?_
  rintro e w0 ⟨rfl, hn0⟩
  have hw0 := hw.trans hn0
  have bA0 := bA.new hn0
  have bB0 := bB.new hn0
  have cA := bA0.cells
  have cB := bB0.cells
  go_wp2_with fail
  refine (eqRs_any a1 b1 n1 c1 d1 r1 _ (h1.new hw0) (k1.new hw0) e1 m1).mono ?_
  rintro e w1 ⟨rfl, hn1⟩
  have hw1 := hw0.trans hn1
  clear cA cB
  have cA := (bA0.new hn1).cells
  have cB := (bB0.new hn1).cells
  go_wp2_with fail
  refine (eqRs_any a2 b2 n2 c2 d2 r2 _ (h2.new hw1) (k2.new hw1) e2 m2).mono ?_
  rintro e w2 ⟨rfl, hn2⟩
  go_wp2
  go_ret
  exact ⟨rfl, hw1.trans hn2⟩

end Go.Proofs.YtebkdaddndlmoaaGreat

namespace Go.Proofs.YtebkdaddndlmoaaGreat
open Go.ChangeShapes Go.WideShapes Go.ChangeAt Go.RowKit Go.Deep
set_option linter.unusedVariables false

theorem Tryz.cRs9 : Tryz.prog.cellsOf 24 = 1 := by kernel_rfl
theorem Tryz.cI9g : Tryz.prog.cellsOf 2 = 1 := by kernel_rfl
theorem Tryz.cCf9 : Tryz.prog.cellsOf 23 = 3 := by kernel_rfl

set_option maxRecDepth 100000 in
theorem open_rules_cell {H : Type} {enc : TypeId × Value → H} {W : World} {base fuel : Nat} {t1 : Nat → Bool} {t2 : Bool} {v : Value} {y : DataW H × List MemPlace}
    (h : DataW.trod enc Tryz.prog W base t1 t2 fuel 24 [v] = some y) : ∃ (a : Option Addr) (n c : Nat) (rs : List Ru), v = .slice a n c ∧ RsAt W a rs ∧ rs.length = n ∧ n ≤ maxLen := by
  have hb : ∃ (a : Option Addr) (n c : Nat), v = .slice a n c := by
    rcases open_slice Tryz.underlying24 h with ⟨hcs, _⟩ | ⟨x, l, cc, m, k, D, Pl, hcs, _⟩
    · simp only [List.cons.injEq, and_true] at hcs
      exact ⟨none, 0, 0, hcs⟩
    · simp only [List.cons.injEq, and_true] at hcs
      exact ⟨some x, l, cc, hcs⟩
  obtain ⟨a, n, c, rfl⟩ := hb
  obtain ⟨rs, k1, k2, k3⟩ := open_rules (enc := enc) (W := W) (base := base) (t1 := t1) (t2 := t2) (a := a) (n := n) (c := c) (d := y.1) (p := y.2) ⟨fuel, by simpa [Value.cells] using h⟩
  exact ⟨a, n, c, rs, rfl, k1, k2, k3⟩

set_option maxRecDepth 100000 in
theorem open_settings_cells {H : Type} {enc : TypeId × Value → H} {W : World} {base fuel : Nat} {t1 : Nat → Bool} {t2 : Bool} {c0 c1 c2 c3 c4 c5 : Value} {y : DataW H × List MemPlace}
    (h : DataW.trod enc Tryz.prog W base t1 t2 fuel 26 [c0, c1, c2, c3, c4, c5] = some y) :
    ∃ (sa si ho nx : Int) (a1 a2 : Option Addr) (n1 k1 n2 k2 : Nat) (r1 r2 : List Ru), [c0, c1, c2, c3, c4, c5] = [.int .i64 sa, .int .i64 si, .int .i64 ho, .int .i64 nx, .slice a1 n1 k1, .slice a2 n2 k2] ∧ (RsAt W a1 r1 ∧ r1.length = n1 ∧ n1 ≤ maxLen) ∧ (RsAt W a2 r2 ∧ r2.length = n2 ∧ n2 ≤ maxLen) := by
  obtain ⟨xs, m, _, rfl, hl, hlen, hf⟩ := DataW.trod_struct Tryz.underlying26 h
  match xs, hlen with
  | [y0, y1, y2, y3], _ =>
    have k0 := hf 0 _ rfl
    have k1 := hf 1 _ rfl
    have k2 := hf 2 _ rfl
    have k3 := hf 3 _ rfl
    simp [Tryz.cI9g, Tryz.cCf9, Tryz.cRs9] at k0 k1 k2 k3
    obtain ⟨ys, m', _, rfl, hl', hlen', hf'⟩ := DataW.trod_struct Tryz.underlying23 k0
    match ys, hlen' with
    | [z0, z1, z2], _ =>
      have j0 := hf' 0 _ rfl
      have j1 := hf' 1 _ rfl
      have j2 := hf' 2 _ rfl
      simp [Tryz.cI9g] at j0 j1 j2
      obtain ⟨sa, e0, -, w0⟩ := DataW.trod_int Tryz.underlying2 j0
      obtain ⟨si, e1, -, w1⟩ := DataW.trod_int Tryz.underlying2 j1
      obtain ⟨ho, e2, -, w2⟩ := DataW.trod_int Tryz.underlying2 j2
      obtain ⟨nx, e3, -, w3⟩ := DataW.trod_int Tryz.underlying2 k1
      obtain ⟨a1, n1, d1, r1, rfl, u1, u2, u3⟩ := open_rules_cell k2
      obtain ⟨a2, n2, d2, r2, rfl, v1, v2, v3⟩ := open_rules_cell k3
      simp only [List.cons.injEq, and_true] at e0 e1 e2 e3
      subst e0 e1 e2 e3
      exact ⟨sa, si, ho, nx, a1, a2, n1, d1, n2, d2, r1, r2, rfl, ⟨u1, u2, u3⟩, ⟨v1, v2, v3⟩⟩

end Go.Proofs.YtebkdaddndlmoaaGreat

namespace Go.Proofs.YtebkdaddndlmoaaGreat
open Go.ChangeShapes Go.WideShapes Go.ChangeAt Go.RowKit Go.Deep Go.Sort
set_option linter.unusedVariables false
set_option linter.unusedSimpArgs false

/-- A pair that came in. -/
structure PCame (w : World) (a1 a2 aN aW aM aS : Option Addr) (n1 n2 nN nW nM nS : Nat) (r1 r2 : List Ru) (LN : List NdV) (LW : List WiV) (LM : List MlV) (LS : List EkV) : Prop where
  s1 : RsAt w a1 r1
  s2 : RsAt w a2 r2
  l1 : r1.length = n1
  l2 : r2.length = n2
  b1 : n1 ≤ maxLen
  b2 : n2 ≤ maxLen
  nd : NdCame w aN LN
  lN : LN.length = nN
  bN : nN ≤ maxLen
  wi : WiCame w aW LW
  lW : LW.length = nW
  bW : nW ≤ maxLen
  mq : MqCame w aM LM
  lM : LM.length = nM
  bM : nM ≤ maxLen
  se : EkCame w aS LS
  lS : LS.length = nS
  bS : nS ≤ maxLen
theorem PCame.new {w w' : World} {a1 a2 aN aW aM aS : Option Addr} {n1 n2 nN nW nM nS : Nat} {r1 r2 : List Ru} {LN : List NdV} {LW : List WiV} {LM : List MlV} {LS : List EkV} (h : PCame w a1 a2 aN aW aM aS n1 n2 nN nW nM nS r1 r2 LN LW LM LS) (t : New w w') : PCame w' a1 a2 aN aW aM aS n1 n2 nN nW nM nS r1 r2 LN LW LM LS :=
  ⟨h.s1.new t, h.s2.new t, h.l1, h.l2, h.b1, h.b2, h.nd.new t, h.lN, h.bN, h.wi.new t, h.lW, h.bW, h.mq.new t, h.lM, h.bM, h.se.new t, h.lS, h.bS⟩
/-- A list has its room: none, or a row from its first place on. -/
def FitK (A : Option Addr) (n c : Nat) : Prop := n ≤ c ∧ ((A = none ∧ n = 0 ∧ c = 0) ∨ ∃ g, A = some ⟨g, 0, none⟩)
/-- A pair that can be read. -/
structure PAt (w : World) (a1 a2 aN aW aM aS : Option Addr) (r1 r2 : List Ru) (VN : List NdV) (VW : List WiV) (VM : List MlV) (VS : List EkV) : Prop where
  s1 : RsAt w a1 r1
  s2 : RsAt w a2 r2
  nd : NdAt w aN VN
  wi : WiAt w aW VW
  mq : MqAt w aM VM
  se : LgAt w aS VS
  rowN : ∃ g, aN = some ⟨g, 0, none⟩ ∧ RwNd w g VN.length VN.length VN
  fitN : ∀ v ∈ VN, FitK v.A v.V.length v.c
  fitW : ∀ v ∈ VW, FitK v.a v.xs.length v.c ∧ FitK v.b v.ys.length v.d
  nlN : ∀ v ∈ VN, NlK v.V
  nlS : NlK VS
theorem PAt.new {w w' : World} {a1 a2 aN aW aM aS : Option Addr} {r1 r2 : List Ru} {VN : List NdV} {VW : List WiV} {VM : List MlV} {VS : List EkV} (h : PAt w a1 a2 aN aW aM aS r1 r2 VN VW VM VS) (t : New w w') : PAt w' a1 a2 aN aW aM aS r1 r2 VN VW VM VS :=
  ⟨h.s1.new t, h.s2.new t, h.nd.new t, h.wi.new t, h.mq.new t, h.se.new t, by obtain ⟨g, e, k⟩ := h.rowN; exact ⟨g, e, k.new t⟩, h.fitN, h.fitW, h.nlN, h.nlS⟩
/-- How great a pair is at most. -/
structure PSm (n1 n2 : Nat) (LN : List NdV) (LW : List WiV) (LM : List MlV) (LS : List EkV) : Prop where
  m1 : n1 ≤ 1048576
  m2 : n2 ≤ 1048576
  mN : totNd LN ≤ 1048576
  mW : totWi LW ≤ 1048576
  mM : totMq LM ≤ 1048576
  mS : totK LS ≤ 1048576
/-- Two pairs read alike. -/
structure PEq (LN VN : List NdV) (LW VW : List WiV) (LM VM : List MlV) (LS VS : List EkV) : Prop where
  nd : VN.map NdV.r = LN.map NdV.r
  wi : VW.map WiV.r = LW.map WiV.r
  mq : VM.map MlV.r = LM.map MlV.r
  se : VS.map EkV.r = LS.map EkV.r

set_option maxHeartbeats 3200000 in
theorem szPair_any (sa si ho nx : Int) (a1 a2 aN aW aM aS : Option Addr) (n1 c1 n2 c2 nN cN nW cW nM cM nS cS : Nat) (r1 r2 : List Ru) (LN : List NdV) (LW : List WiV) (LM : List MlV) (LS : List EkV) (w : World) (h : PCame w a1 a2 aN aW aM aS n1 n2 nN nW nM nS r1 r2 LN LW LM LS) :
    Calls Tryz.prog 10 #[.agg #[.int .i64 sa, .int .i64 si, .int .i64 ho, .int .i64 nx, .slice a1 n1 c1, .slice a2 n2 c2, .slice aN nN cN, .slice aW nW cW, .slice aM nM cM, .slice aS nS cS], .int .i64 1048576] w fun e w' => (∃ z : Int, e = .returned (.int .i64 z) ∧ (z = -1 ∨ (0 ≤ z ∧ PSm n1 n2 LN LW LM LS))) ∧ New w w' := by
  have hw := (New.refl w).alloc (.cells #[.int .i64 sa, .int .i64 si, .int .i64 ho, .int .i64 nx, .slice a1 n1 c1, .slice a2 n2 c2, .slice aN nN cN, .slice aW nW cW, .slice aM nM cM, .slice aS nS cS] 32)
  have b0 := Blk.mk w w.heap.size 32 #[.int .i64 sa, .int .i64 si, .int .i64 ho, .int .i64 nx, .slice a1 n1 c1, .slice a2 n2 c2, .slice aN nN cN, .slice aW nW cW, .slice aM nM cM, .slice aS nS cS] rfl
  have c0 := b0.cells
  by_cases hbig : 1048576 < n1 + n2
  case pos =>
    go_enter Tryz.func10, Tryz.ntmps10
    go_wp2_with fail
    refine (szSe_big sa si ho nx a1 a2 n1 c1 n2 c2 1048576 _ (Nat.le_refl _) hbig h.b1 h.b2).mono ?_
    rintro e w1 ⟨rfl, hn1⟩
    go_wp2
    go_ret
    exact ⟨⟨_, rfl, .inl rfl⟩, hw.trans hn1⟩
  go_enter Tryz.func10, Tryz.ntmps10
  go_wp2_with fail
  refine (szSe_ok sa si ho nx a1 a2 n1 c1 n2 c2 1048576 _ (Nat.le_refl _) (by omega)).mono ?_
  rintro e w1 ⟨rfl, hn1⟩
  have hw1 := hw.trans hn1
  have b1 := b0.new hn1
  have hz0 : ((1048576 - n1 - n2 : Nat) : Int) + n1 + n2 = 1048576 := by omega
  have hp0 : (0 : Int) ≤ ((1048576 - n1 - n2 : Nat) : Int) := by omega
  generalize ((1048576 - n1 - n2 : Nat) : Int) = z0 at *
  clear c0 b0 hw hn1
  have c1 := b1.cells
  go_wp2_with fail
  refine (szNdS_gen aN nN cN LN z0 _ (by omega) (by omega) (h.nd.new hw1) h.lN h.bN).mono ?_
  rintro e w2 ⟨⟨z1, rfl, hy⟩, hm1⟩
  have hw2 := hw1.trans hm1
  have b2 := b1.new hm1
  clear c1 hm1 b1
  by_cases hy0 : z1 < 0
  · go_wp2
    go_ret
    exact ⟨⟨_, rfl, .inl rfl⟩, hw2⟩
  have hp1 : (0 : Int) ≤ z1 := by omega
  have hz1 : (totNd LN : Int) + z1 = z0 := by rcases hy with hy | hy; (exfalso; omega); exact hy.2
  clear hy hy0
  have c2 := b2.cells
  go_wp2_with fail
  refine (szWiS_gen aW nW cW LW z1 _ (by omega) (by omega) (h.wi.new hw2) h.lW h.bW).mono ?_
  rintro e w3 ⟨⟨z2, rfl, hy⟩, hm2⟩
  have hw3 := hw2.trans hm2
  have b3 := b2.new hm2
  clear c2 hm2 b2
  by_cases hy0 : z2 < 0
  · go_wp2
    go_ret
    exact ⟨⟨_, rfl, .inl rfl⟩, hw3⟩
  have hp2 : (0 : Int) ≤ z2 := by omega
  have hz2 : (totWi LW : Int) + z2 = z1 := by rcases hy with hy | hy; (exfalso; omega); exact hy.2
  clear hy hy0
  have c3 := b3.cells
  go_wp2_with fail
  refine (szMqS_gen aM nM cM LM z2 _ (by omega) (by omega) (h.mq.new hw3) h.lM h.bM).mono ?_
  rintro e w4 ⟨⟨z3, rfl, hy⟩, hm3⟩
  have hw4 := hw3.trans hm3
  have b4 := b3.new hm3
  clear c3 hm3 b3
  by_cases hy0 : z3 < 0
  · go_wp2
    go_ret
    exact ⟨⟨_, rfl, .inl rfl⟩, hw4⟩
  have hp3 : (0 : Int) ≤ z3 := by omega
  have hz3 : (totMq LM : Int) + z3 = z2 := by rcases hy with hy | hy; (exfalso; omega); exact hy.2
  clear hy hy0
  have c4 := b4.cells
  go_wp2_with fail
  refine (szEkS_gen aS nS cS LS z3 _ (by omega) (by omega) (h.se.new hw4) h.lS h.bS).mono ?_
  rintro e w5 ⟨⟨z4, rfl, hy⟩, hm4⟩
  have hw5 := hw4.trans hm4
  have b5 := b4.new hm4
  clear c4 hm4 b4
  by_cases hy0 : z4 < 0
  · go_wp2
    go_ret
    exact ⟨⟨_, rfl, .inl rfl⟩, hw5⟩
  have hp4 : (0 : Int) ≤ z4 := by omega
  have hz4 : (totK LS : Int) + z4 = z3 := by rcases hy with hy | hy; (exfalso; omega); exact hy.2
  clear hy hy0
  go_wp2
  go_ret
  exact ⟨⟨_, rfl, .inr ⟨by omega, ⟨by omega, by omega, by omega, by omega, by omega, by omega⟩⟩⟩, hw5⟩

theorem arr10p {α : Type} {cs : Array α} (h : cs.size = 10) : ∃ c0 c1 c2 c3 c4 c5 c6 c7 c8 c9, cs = #[c0, c1, c2, c3, c4, c5, c6, c7, c8, c9] := by
  obtain ⟨l⟩ := cs
  match l, h with
  | [c0, c1, c2, c3, c4, c5, c6, c7, c8, c9], _ => exact ⟨c0, c1, c2, c3, c4, c5, c6, c7, c8, c9, rfl⟩
theorem Tryz.cPrP : Tryz.prog.cellsOf 32 = 10 := by kernel_rfl
theorem Tryz.cSeP : Tryz.prog.cellsOf 26 = 6 := by kernel_rfl
theorem Tryz.cNsP : Tryz.prog.cellsOf 27 = 1 := by kernel_rfl
theorem Tryz.cWsP : Tryz.prog.cellsOf 28 = 1 := by kernel_rfl
theorem Tryz.cMsP : Tryz.prog.cellsOf 29 = 1 := by kernel_rfl

set_option maxRecDepth 100000 in
set_option maxHeartbeats 1600000 in
theorem open_pair {H : Type} {enc : TypeId × Value → H} {W : World} {base b0 : Nat} {r : Reach} {t1 : Nat → Bool} {t2 : Bool} {v : Value} {d : DataW H} {p : List MemPlace}
    (hv : Value.okWide Tryz.prog W r b0 32 v) (h0 : DataW.Trod enc Tryz.prog W base t1 t2 32 v d p) :
    ∃ (sa si ho nx : Int) (a1 a2 aN aW aM aS : Option Addr) (n1 c1 n2 c2 nN cN nW cW nM cM nS cS : Nat) (r1 r2 : List Ru) (LN : List NdV) (LW : List WiV) (LM : List MlV) (LS : List EkV), v = .agg #[.int .i64 sa, .int .i64 si, .int .i64 ho, .int .i64 nx, .slice a1 n1 c1, .slice a2 n2 c2, .slice aN nN cN, .slice aW nW cW, .slice aM nM cM, .slice aS nS cS] ∧ PCame W a1 a2 aN aW aM aS n1 n2 nN nW nM nS r1 r2 LN LW LM LS := by
  obtain ⟨cs, rfl, hsz⟩ := okWide_struct Tryz.underlying32 hv
  obtain ⟨c0, c1, c2, c3, c4, c5, c6, c7, c8, c9, rfl⟩ := arr10p (hsz.trans Tryz.cPrP)
  obtain ⟨fuel, hf⟩ := h0
  obtain ⟨y, hf'⟩ : ∃ y, DataW.trod enc Tryz.prog W base t1 t2 fuel 32 [c0, c1, c2, c3, c4, c5, c6, c7, c8, c9] = some y := ⟨(d, p), by simpa [Value.cells] using hf⟩
  obtain ⟨ys, m, _, rfl, hl, hlen, hq⟩ := DataW.trod_struct Tryz.underlying32 hf'
  match ys, hlen with
  | [y0, y1, y2, y3, y4], _ =>
    have k0 := hq 0 _ rfl
    have k1 := hq 1 _ rfl
    have k2 := hq 2 _ rfl
    have k3 := hq 3 _ rfl
    have k4 := hq 4 _ rfl
    simp [Tryz.cSeP, Tryz.cNsP, Tryz.cWsP, Tryz.cMsP, Tryz.cEs] at k0 k1 k2 k3 k4
    obtain ⟨sa, si, ho, nx, a1, a2, n1, d1, n2, d2, r1, r2, e0, ⟨u1, u2, u3⟩, ⟨v1, v2, v3⟩⟩ := open_settings_cells k0
    obtain ⟨aN, nN, dN, LN, e1, hN, lN, mN⟩ := open_NdS k1
    obtain ⟨aW, nW, dW, LW, e2, hW, lW, mW⟩ := open_WiS k2
    obtain ⟨aM, nM, dM, LM, e3, hM, lM, mM⟩ := open_MqS k3
    obtain ⟨aS, nS, dS, LS, e4, hS, lS, mS⟩ := open_entries k4
    simp only [List.cons.injEq, and_true] at e0 e1 e2 e3 e4
    obtain ⟨rfl, rfl, rfl, rfl, rfl, rfl⟩ := e0
    subst e1 e2 e3 e4
    exact ⟨sa, si, ho, nx, a1, a2, aN, aW, aM, aS, n1, d1, n2, d2, nN, dN, nW, dW, nM, dM, nS, dS, r1, r2, LN, LW, LM, LS, rfl, ⟨u1, v1, u2, v2, u3, v3, hN, lN, mN, hW, lW, mW, hM, lM, mM, hS, lS, mS⟩⟩

end Go.Proofs.YtebkdaddndlmoaaGreat
