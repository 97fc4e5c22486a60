/- Lemmas and contracts of one law. -/
import Derived.Test.YtdbnmkffinhdjaaGreatLV1
import Derived.Test.YtdbnmkffinhdjaaGreatLV3
import Derived.Test.YtdbnmkffinhdjaaGreatLV17
import Derived.Test.YtdbnmkffinhdjaaGreatLV18
namespace Go.Proofs.YtdbnmkffinhdjaaGreat
open Go.RowKit
set_option linter.unusedVariables false
set_option maxHeartbeats 25600000

/-- A hold time. -/
abbrev HoP (x : Int) : Prop := x = 0 ∨ (3 ≤ x ∧ x ≤ 200)
/-- The numbers of a configuration. -/
abbrev CfP (sa si ho : Int) : Prop := (1 ≤ sa ∧ sa ≤ 65535) ∧ (1 ≤ si ∧ si ≤ 65535) ∧ HoP ho
/-- The fault of a configuration. -/
def cf (sa si ho : Int) : Int := if CfP sa si ho then 0 else 3
theorem sys5_yes (x : Int) (w : World) (h : 1 ≤ x ∧ x ≤ 65535) : Calls Tryz.prog 168 #[.int .i64 x] w fun e w' => e = .returned (.bool true) ∧ w' = w := by
  obtain ⟨h1, h2⟩ := h
  go_enter Tryz.func168, Tryz.ntmps168
  go_wp2
  go_ret
  exact ⟨by simp, rfl⟩

theorem sys5_no (x : Int) (w : World) (h : ¬ (1 ≤ x ∧ x ≤ 65535)) : Calls Tryz.prog 168 #[.int .i64 x] w fun e w' => e = .returned (.bool false) ∧ w' = w := by
  by_cases h1 : 1 ≤ x
  · have h2 : 65535 < x := by omega
    clear h
    go_enter Tryz.func168, Tryz.ntmps168
    go_wp2
    go_ret
    exact ⟨by simp; omega, rfl⟩
  · clear h
    go_enter Tryz.func168, Tryz.ntmps168
    go_wp2
    go_ret
    exact ⟨rfl, rfl⟩

theorem id5_yes (x : Int) (w : World) (h : 1 ≤ x ∧ x ≤ 65535) : Calls Tryz.prog 169 #[.int .i64 x] w fun e w' => e = .returned (.bool true) ∧ w' = w := by
  obtain ⟨h1, h2⟩ := h
  go_enter Tryz.func169, Tryz.ntmps169
  go_wp2
  go_ret
  exact ⟨by simp, rfl⟩

theorem id5_no (x : Int) (w : World) (h : ¬ (1 ≤ x ∧ x ≤ 65535)) : Calls Tryz.prog 169 #[.int .i64 x] w fun e w' => e = .returned (.bool false) ∧ w' = w := by
  by_cases h1 : 1 ≤ x
  · have h2 : 65535 < x := by omega
    clear h
    go_enter Tryz.func169, Tryz.ntmps169
    go_wp2
    go_ret
    exact ⟨by simp; omega, rfl⟩
  · clear h
    go_enter Tryz.func169, Tryz.ntmps169
    go_wp2
    go_ret
    exact ⟨rfl, rfl⟩

theorem hold5_yes (x : Int) (w : World) (h : HoP x) : Calls Tryz.prog 170 #[.int .i64 x] w fun e w' => e = .returned (.bool true) ∧ w' = w := by
  by_cases h0 : x = 0
  · subst h0
    go_enter Tryz.func170, Tryz.ntmps170
    go_wp2
    go_ret
    exact ⟨rfl, rfl⟩
  · have e0 : (x == 0) = false := by simpa using h0
    obtain ⟨h1, h2⟩ : 3 ≤ x ∧ x ≤ 200 := by rcases h with h | h <;> omega
    clear h
    go_enter Tryz.func170, Tryz.ntmps170
    go_wp2
    go_ret
    exact ⟨by simp, rfl⟩

theorem hold5_no (x : Int) (w : World) (h : ¬ HoP x) : Calls Tryz.prog 170 #[.int .i64 x] w fun e w' => e = .returned (.bool false) ∧ w' = w := by
  have h0 : ¬ x = 0 := fun e => h (.inl e)
  have e0 : (x == 0) = false := by simpa using h0
  by_cases h1 : 3 ≤ x
  · have h2 : 200 < x := by
      rcases Int.lt_or_le 200 x with q | q
      · exact q
      · exact absurd (Or.inr ⟨h1, q⟩) h
    clear h
    go_enter Tryz.func170, Tryz.ntmps170
    go_wp2
    go_ret
    exact ⟨by simp; omega, rfl⟩
  · clear h
    go_enter Tryz.func170, Tryz.ntmps170
    go_wp2
    go_ret
    exact ⟨rfl, rfl⟩

theorem holdS5_yes (x : Int) (w : World) (h : HoP x) : Calls Tryz.prog 165 #[.int .i64 x] w fun e w' => e = .returned (.bool true) ∧ w' = w := by
  by_cases h0 : x = 0
  · subst h0
    go_enter Tryz.func165, Tryz.ntmps165
    go_wp2
    go_ret
    exact ⟨rfl, rfl⟩
  · have e0 : (x == 0) = false := by simpa using h0
    have h1 : 3 ≤ x ∧ x ≤ 200 := by rcases h with h | h <;> omega
    clear h
    go_enter Tryz.func165, Tryz.ntmps165
    go_wp2_with fail
    refine (in_yes _ _ _ _ h1).mono ?_
    rintro e w1 ⟨rfl, rfl⟩
    go_wp2
    go_ret
    exact ⟨rfl, rfl⟩

theorem holdS5_no (x : Int) (w : World) (h : ¬ HoP x) : Calls Tryz.prog 165 #[.int .i64 x] w fun e w' => e = .returned (.bool false) ∧ w' = w := by
  have h0 : ¬ x = 0 := fun e => h (.inl e)
  have e0 : (x == 0) = false := by simpa using h0
  have h1 : x < 3 ∨ 200 < x := by
    by_cases q : 3 ≤ x ∧ x ≤ 200
    · exact absurd (.inr q) h
    · omega
  clear h
  go_enter Tryz.func165, Tryz.ntmps165
  go_wp2_with fail
  refine (in_no _ _ _ _ h1).mono ?_
  rintro e w1 ⟨rfl, rfl⟩
  go_wp2
  go_ret
  exact ⟨rfl, rfl⟩

theorem in5_no (v lo hi : Int) (w : World) (h : ¬ (lo ≤ v ∧ v ≤ hi)) : Calls Tryz.prog 61 #[.int .i64 v, .int .i64 lo, .int .i64 hi] w fun e w' => e = .returned (.bool false) ∧ w' = w :=
  in_no v lo hi w (by omega)


theorem implCF (sa si ho : Int) (w : World) : Calls Tryz.prog 141 #[.agg #[.int .i64 sa, .int .i64 si, .int .i64 ho]] w fun e w' => e = .returned (.int .i64 (cf sa si ho)) ∧ New w w' := by
  by_cases g0 : 1 ≤ sa ∧ sa ≤ 65535
  case neg =>
    have hx : cf sa si ho = 3 := if_neg (fun k => g0 k.1)
    go_enter Tryz.func141, Tryz.ntmps141
    go_wp2_with fail
    refine (sys5_no _ _ g0).mono ?_
    rintro e w1 ⟨rfl, rfl⟩
    go_wp2
    go_ret
    exact ⟨ret_i64 (by first | exact hx.symm | rfl), (New.refl w).alloc _⟩
  by_cases g1 : 1 ≤ si ∧ si ≤ 65535
  case neg =>
    have hx : cf sa si ho = 3 := if_neg (fun k => g1 k.2.1)
    go_enter Tryz.func141, Tryz.ntmps141
    go_wp2_with fail
    refine (sys5_yes _ _ g0).mono ?_
    rintro e w1 ⟨rfl, rfl⟩
    go_wp2_with fail
    refine (id5_no _ _ g1).mono ?_
    rintro e w1 ⟨rfl, rfl⟩
    go_wp2
    go_ret
    exact ⟨ret_i64 (by first | exact hx.symm | rfl), (New.refl w).alloc _⟩
  by_cases g2 : HoP ho
  case neg =>
    have hx : cf sa si ho = 3 := if_neg (fun k => g2 k.2.2)
    go_enter Tryz.func141, Tryz.ntmps141
    go_wp2_with fail
    refine (sys5_yes _ _ g0).mono ?_
    rintro e w1 ⟨rfl, rfl⟩
    go_wp2_with fail
    refine (id5_yes _ _ g1).mono ?_
    rintro e w1 ⟨rfl, rfl⟩
    go_wp2_with fail
    refine (hold5_no _ _ g2).mono ?_
    rintro e w1 ⟨rfl, rfl⟩
    go_wp2
    go_ret
    exact ⟨ret_i64 (by first | exact hx.symm | rfl), (New.refl w).alloc _⟩
  have hx : cf sa si ho = 0 := if_pos ⟨g0, g1, g2⟩
  go_enter Tryz.func141, Tryz.ntmps141
  go_wp2_with fail
  refine (sys5_yes _ _ g0).mono ?_
  rintro e w1 ⟨rfl, rfl⟩
  go_wp2_with fail
  refine (id5_yes _ _ g1).mono ?_
  rintro e w1 ⟨rfl, rfl⟩
  go_wp2_with fail
  refine (hold5_yes _ _ g2).mono ?_
  rintro e w1 ⟨rfl, rfl⟩
  go_wp2
  go_ret
  exact ⟨ret_i64 (by first | exact hx.symm | rfl), (New.refl w).alloc _⟩

theorem specCF (sa si ho : Int) (w : World) : Calls Tryz.prog 135 #[.agg #[.int .i64 sa, .int .i64 si, .int .i64 ho]] w fun e w' => e = .returned (.int .i64 (cf sa si ho)) ∧ New w w' := by
  by_cases g0 : 1 ≤ sa ∧ sa ≤ 65535
  case neg =>
    have hx : cf sa si ho = 3 := if_neg (fun k => g0 k.1)
    go_enter Tryz.func135, Tryz.ntmps135
    go_wp2_with fail
    refine (in5_no _ _ _ _ g0).mono ?_
    rintro e w1 ⟨rfl, rfl⟩
    go_wp2
    go_ret
    exact ⟨ret_i64 (by first | exact hx.symm | rfl), (New.refl w).alloc _⟩
  by_cases g1 : 1 ≤ si ∧ si ≤ 65535
  case neg =>
    have hx : cf sa si ho = 3 := if_neg (fun k => g1 k.2.1)
    go_enter Tryz.func135, Tryz.ntmps135
    go_wp2_with fail
    refine (in_yes _ _ _ _ g0).mono ?_
    rintro e w1 ⟨rfl, rfl⟩
    go_wp2_with fail
    refine (in5_no _ _ _ _ g1).mono ?_
    rintro e w1 ⟨rfl, rfl⟩
    go_wp2
    go_ret
    exact ⟨ret_i64 (by first | exact hx.symm | rfl), (New.refl w).alloc _⟩
  by_cases g2 : HoP ho
  case neg =>
    have hx : cf sa si ho = 3 := if_neg (fun k => g2 k.2.2)
    go_enter Tryz.func135, Tryz.ntmps135
    go_wp2_with fail
    refine (in_yes _ _ _ _ g0).mono ?_
    rintro e w1 ⟨rfl, rfl⟩
    go_wp2_with fail
    refine (in_yes _ _ _ _ g1).mono ?_
    rintro e w1 ⟨rfl, rfl⟩
    go_wp2_with fail
    refine (holdS5_no _ _ g2).mono ?_
    rintro e w1 ⟨rfl, rfl⟩
    go_wp2
    go_ret
    exact ⟨ret_i64 (by first | exact hx.symm | rfl), (New.refl w).alloc _⟩
  have hx : cf sa si ho = 0 := if_pos ⟨g0, g1, g2⟩
  go_enter Tryz.func135, Tryz.ntmps135
  go_wp2_with fail
  refine (in_yes _ _ _ _ g0).mono ?_
  rintro e w1 ⟨rfl, rfl⟩
  go_wp2_with fail
  refine (in_yes _ _ _ _ g1).mono ?_
  rintro e w1 ⟨rfl, rfl⟩
  go_wp2_with fail
  refine (holdS5_yes _ _ g2).mono ?_
  rintro e w1 ⟨rfl, rfl⟩
  go_wp2
  go_ret
  exact ⟨ret_i64 (by first | exact hx.symm | rfl), (New.refl w).alloc _⟩

end Go.Proofs.YtdbnmkffinhdjaaGreat

namespace Go.Proofs.YtdbnmkffinhdjaaGreat
open Go.ChangeShapes Go.WideShapes Go.ChangeAt Go.RowKit Go.Deep
set_option linter.unusedVariables false
set_option maxHeartbeats 25600000

theorem toCfg_any (sa si ho : Int) (w : World) : Calls Tryz.prog 70 #[.agg #[.int .i64 sa, .int .i64 si, .int .i64 ho]] w fun e w' => e = .returned (.agg #[.int .i64 sa, .int .i64 si, .int .i64 ho]) ∧ New w w' := by
  go_enter Tryz.func70, Tryz.ntmps70
  go_wp2
  refine bodyPost_ret (v := .agg #[.int .i64 sa, .int .i64 si, .int .i64 ho]) (by simp [results, Tryz.results70, go_sem]) rfl ⟨rfl, ?_⟩
  exact ((((New.refl w).alloc _).alloc _).alloc _)

end Go.Proofs.YtdbnmkffinhdjaaGreat

namespace Go.Proofs.YtdbnmkffinhdjaaGreat
open Go.RowKit Go.Sort
set_option maxHeartbeats 25600000

theorem Turn.here9 {B j : Nat} {a w : World} (h : Turn (fun k => k = B) a w) (u : Value) : Turn (fun k => k = B) a (w.setCell ⟨B, j, none⟩ u) := h.set (p := ⟨B, j, none⟩) rfl u

theorem turn_set_iff {S : Nat → Prop} {a w : World} {p : Addr} {u : Value} (hp : S p.block) : Turn S a (w.setCell p u) ↔ Turn S a w :=
  ⟨fun h => ⟨h.os, h.tape, h.output, by simpa [World.setCell] using h.size, fun k hk hs => (Below.heap_setCell w p u k (fun e => hs (e ▸ hp))).symm.trans (h.block k hk hs)⟩, fun h => h.set hp u⟩

end Go.Proofs.YtdbnmkffinhdjaaGreat

namespace Go.Proofs.YtdbnmkffinhdjaaGreat
open Go.RowKit Go.Sort
set_option linter.unusedVariables false
set_option maxHeartbeats 25600000

theorem OwR.set_iff {w : World} {g n c : Nat} {ps : List Ru} {p : Addr} {u : Value} (hp : ¬ p.block = g) : OwR (w.setCell p u) g n c ps ↔ OwR w g n c ps := by
  have hb : (w.setCell p u).heap[g]? = w.heap[g]? := Below.heap_setCell w p u g (fun e => hp e.symm)
  unfold OwR World.ownsRow
  constructor
  · rintro ⟨h1, h2⟩
    refine ⟨h1, ?_⟩
    rcases h2 with h' | ⟨g', cap', cur, h', r⟩
    · exact .inl h'
    · simp only [Value.slice.injEq, Option.some.injEq, Addr.mk.injEq, and_true, true_and] at h'
      obtain ⟨rfl, rfl⟩ := h'
      exact .inr ⟨g, c, cur, rfl, r.1, hb.symm.trans r.2.1, r.2.2⟩
  · rintro ⟨h1, h2⟩
    refine ⟨h1, ?_⟩
    rcases h2 with h' | ⟨g', cap', cur, h', r⟩
    · exact .inl h'
    · simp only [Value.slice.injEq, Option.some.injEq, Addr.mk.injEq, and_true, true_and] at h'
      obtain ⟨rfl, rfl⟩ := h'
      exact .inr ⟨g, c, cur, rfl, r.1, hb.trans r.2.1, r.2.2⟩

/-- The fault of settings. -/
def stF (sa si ho nx : Int) (r1 r2 : List Ru) : Int :=
  if cf sa si ho = 0 then (if 0 ≤ nx ∧ nx ≤ 65535 then (if rsf r1 = 0 then rsf r2 else rsf r1) else 3) else cf sa si ho

theorem implCF_is (sa si ho z : Int) (w : World) (hz : cf sa si ho = z) : Calls Tryz.prog 141 #[.agg #[.int .i64 sa, .int .i64 si, .int .i64 ho]] w fun e w' => e = .returned (.int .i64 z) ∧ New w w' := hz ▸ implCF sa si ho w

theorem specCF_is (sa si ho z : Int) (w : World) (hz : cf sa si ho = z) : Calls Tryz.prog 135 #[.agg #[.int .i64 sa, .int .i64 si, .int .i64 ho]] w fun e w' => e = .returned (.int .i64 z) ∧ New w w' := hz ▸ specCF sa si ho w

theorem implRs_is (x : Option Addr) (n c : Nat) (rs : List Ru) (k : Int) (w : World) (h : RsAt w x rs) (hn : rs.length = n) (hm : n ≤ 1048576) (e : rsf rs = k) : Calls Tryz.prog 143 #[.slice x n c] w fun e w' => e = .returned (.int .i64 k) ∧ New w w' := e ▸ implRSF x n c rs w h hn hm

theorem specRs_is (x : Option Addr) (n c : Nat) (rs : List Ru) (k : Int) (w : World) (h : RsAt w x rs) (hn : rs.length = n) (hm : n ≤ 1048576) (e : rsf rs = k) : Calls Tryz.prog 137 #[.slice x n c] w fun e w' => e = .returned (.int .i64 k) ∧ New w w' := e ▸ specRSF x n c rs w h hn hm

theorem specSE (sa si ho nx : Int) (a1 a2 : Option Addr) (n1 c1 n2 c2 : Nat) (r1 r2 : List Ru) (z : Int) (w : World) (h1 : RsAt w a1 r1) (h2 : RsAt w a2 r2) (e1 : r1.length = n1) (e2 : r2.length = n2) (m1 : n1 ≤ 1048576) (m2 : n2 ≤ 1048576) (hz : stF sa si ho nx r1 r2 = z) : Calls Tryz.prog 101 #[.agg #[.int .i64 sa, .int .i64 si, .int .i64 ho, .int .i64 nx, .slice a1 n1 c1, .slice a2 n2 c2]] w fun e w' => e = .returned (.int .i64 z) ∧ New w w' := by
  have N0 := (New.refl w).alloc (.cells #[.int .i64 sa, .int .i64 si, .int .i64 ho, .int .i64 nx, .slice a1 n1 c1, .slice a2 n2 c2] 41)
  have bA := (Blk.mk w _ 41 #[.int .i64 sa, .int .i64 si, .int .i64 ho, .int .i64 nx, .slice a1 n1 c1, .slice a2 n2 c2] rfl)
  have cA := bA.cells
  have E1 : Hid (r1.length = n1) := e1
  have E2 : Hid (r2.length = n2) := e2
  clear e1 e2
  by_cases hc : cf sa si ho = 0
  · have HC : Hid (cf sa si ho = 0) := hc
    by_cases ha : 0 ≤ nx ∧ nx ≤ 65535
    · have HA : Hid (0 ≤ nx ∧ nx ≤ 65535) := ha
      by_cases hr : rsf r1 = 0
      · have HR : Hid (rsf r1 = 0) := hr
        have HZ : Hid (rsf r2 = z) := by
          have := hz
          unfold stF at this
          rw [if_pos hc, if_pos ha, if_pos hr] at this
          exact this
        clear hz hc ha hr
        go_enter Tryz.func101, Tryz.ntmps101
        go_wp2_with fail
        refine (specCF_is sa si ho 0 _ HC.out).mono ?_
        rintro e w1 ⟨rfl, k1⟩
        have b1 := bA.new k1
        have c1' := b1.cells
        have N1 := N0.trans k1
        clear cA
        go_wp2_with fail
        refine (l2Addr_yes _ _ HA.out).mono ?_
        rintro e w2 ⟨rfl, rfl⟩
        go_wp2_with fail
        refine (specRs_is a1 n1 c1 r1 0 _ (h1.new N1) E1.out m1 HR.out).mono ?_
        rintro e w3 ⟨rfl, k3⟩
        have b3 := b1.new k3
        have c3' := b3.cells
        have N3 := N1.trans k3
        clear c1'
        go_wp2_with fail
        refine (specRs_is a2 n2 c2 r2 z _ (h2.new N3) E2.out m2 HZ.out).mono ?_
        rintro e w4 ⟨rfl, k4⟩
        go_wp2
        go_ret
        exact ⟨rfl, N3.trans k4⟩
      · have HZ : Hid (rsf r1 = z) := by
          have := hz
          unfold stF at this
          rw [if_pos hc, if_pos ha, if_neg hr] at this
          exact this
        have hz0 : ¬ z = 0 := fun f => hr (HZ.out.trans f)
        clear hz hc ha hr
        go_enter Tryz.func101, Tryz.ntmps101
        go_wp2_with fail
        refine (specCF_is sa si ho 0 _ HC.out).mono ?_
        rintro e w1 ⟨rfl, k1⟩
        have b1 := bA.new k1
        have c1' := b1.cells
        have N1 := N0.trans k1
        clear cA
        go_wp2_with fail
        refine (l2Addr_yes _ _ HA.out).mono ?_
        rintro e w2 ⟨rfl, rfl⟩
        go_wp2_with fail
        refine (specRs_is a1 n1 c1 r1 z _ (h1.new N1) E1.out m1 HZ.out).mono ?_
        rintro e w3 ⟨rfl, k3⟩
        go_wp2
        go_ret
        exact ⟨rfl, N1.trans k3⟩
    · have HA : Hid (nx < 0 ∨ 65535 < nx) := (show nx < 0 ∨ 65535 < nx by omega)
      obtain rfl : 3 = z := by
        have := hz
        unfold stF at this
        rw [if_pos hc, if_neg ha] at this
        exact this
      clear hz hc ha
      go_enter Tryz.func101, Tryz.ntmps101
      go_wp2_with fail
      refine (specCF_is sa si ho 0 _ HC.out).mono ?_
      rintro e w1 ⟨rfl, k1⟩
      have b1 := bA.new k1
      have c1' := b1.cells
      have N1 := N0.trans k1
      clear cA
      go_wp2_with fail
      refine (l2Addr_no _ _ HA.out).mono ?_
      rintro e w2 ⟨rfl, rfl⟩
      go_wp2
      go_ret
      exact ⟨rfl, N1⟩
  · have HC : Hid (cf sa si ho = z) := by
      have := hz
      unfold stF at this
      rw [if_neg hc] at this
      exact this
    have hz0 : ¬ z = 0 := fun f => hc (HC.out.trans f)
    clear hz hc
    go_enter Tryz.func101, Tryz.ntmps101
    go_wp2_with fail
    refine (specCF_is sa si ho z _ HC.out).mono ?_
    rintro e w1 ⟨rfl, k1⟩
    have b1 := bA.new k1
    have c1' := b1.cells
    have N1 := N0.trans k1
    clear cA
    go_wp2
    go_ret
    exact ⟨rfl, N1⟩

theorem implSE (sa si ho nx : Int) (a1 a2 : Option Addr) (n1 c1 n2 c2 : Nat) (r1 r2 : List Ru) (z : Int) (w : World) (h1 : RsAt w a1 r1) (h2 : RsAt w a2 r2) (e1 : r1.length = n1) (e2 : r2.length = n2) (m1 : n1 ≤ 1048576) (m2 : n2 ≤ 1048576) (hz : stF sa si ho nx r1 r2 = z) : Calls Tryz.prog 111 #[.agg #[.int .i64 sa, .int .i64 si, .int .i64 ho, .int .i64 nx, .slice a1 n1 c1, .slice a2 n2 c2]] w fun e w' => e = .returned (.int .i64 z) ∧ New w w' := by
  have N0 := (New.refl w).alloc (.cells #[.int .i64 sa, .int .i64 si, .int .i64 ho, .int .i64 nx, .slice a1 n1 c1, .slice a2 n2 c2] 41)
  have bA := (Blk.mk w _ 41 #[.int .i64 sa, .int .i64 si, .int .i64 ho, .int .i64 nx, .slice a1 n1 c1, .slice a2 n2 c2] rfl)
  have cA := bA.cells
  have E1 : Hid (r1.length = n1) := e1
  have E2 : Hid (r2.length = n2) := e2
  clear e1 e2
  by_cases hc : cf sa si ho = 0
  · have HC : Hid (cf sa si ho = 0) := hc
    by_cases ha : 0 ≤ nx ∧ nx ≤ 65535
    · have HA : Hid (0 ≤ nx ∧ nx ≤ 65535) := ha
      by_cases hr : rsf r1 = 0
      · have HR : Hid (rsf r1 = 0) := hr
        have HZ : Hid (rsf r2 = z) := by
          have := hz
          unfold stF at this
          rw [if_pos hc, if_pos ha, if_pos hr] at this
          exact this
        clear hz hc ha hr
        go_enter Tryz.func111, Tryz.ntmps111
        go_wp2_with fail
        refine (implCF_is sa si ho 0 _ HC.out).mono ?_
        rintro e w1 ⟨rfl, k1⟩
        have b1 := bA.new k1
        have c1' := b1.cells
        have N1 := N0.trans k1
        clear cA
        go_wp2_with fail
        refine (isAddr_yes _ _ HA.out).mono ?_
        rintro e w2 ⟨rfl, rfl⟩
        go_wp2_with fail
        refine (implRs_is a1 n1 c1 r1 0 _ (h1.new N1) E1.out m1 HR.out).mono ?_
        rintro e w3 ⟨rfl, k3⟩
        have b3 := b1.new k3
        have c3' := b3.cells
        have N3 := N1.trans k3
        clear c1'
        go_wp2_with fail
        refine (implRs_is a2 n2 c2 r2 z _ (h2.new N3) E2.out m2 HZ.out).mono ?_
        rintro e w4 ⟨rfl, k4⟩
        go_wp2
        go_ret
        exact ⟨rfl, N3.trans k4⟩
      · have HZ : Hid (rsf r1 = z) := by
          have := hz
          unfold stF at this
          rw [if_pos hc, if_pos ha, if_neg hr] at this
          exact this
        have hz0 : ¬ z = 0 := fun f => hr (HZ.out.trans f)
        clear hz hc ha hr
        go_enter Tryz.func111, Tryz.ntmps111
        go_wp2_with fail
        refine (implCF_is sa si ho 0 _ HC.out).mono ?_
        rintro e w1 ⟨rfl, k1⟩
        have b1 := bA.new k1
        have c1' := b1.cells
        have N1 := N0.trans k1
        clear cA
        go_wp2_with fail
        refine (isAddr_yes _ _ HA.out).mono ?_
        rintro e w2 ⟨rfl, rfl⟩
        go_wp2_with fail
        refine (implRs_is a1 n1 c1 r1 z _ (h1.new N1) E1.out m1 HZ.out).mono ?_
        rintro e w3 ⟨rfl, k3⟩
        go_wp2
        go_ret
        exact ⟨rfl, N1.trans k3⟩
    · have HA : Hid (nx < 0 ∨ 65535 < nx) := (show nx < 0 ∨ 65535 < nx by omega)
      obtain rfl : 3 = z := by
        have := hz
        unfold stF at this
        rw [if_pos hc, if_neg ha] at this
        exact this
      clear hz hc ha
      go_enter Tryz.func111, Tryz.ntmps111
      go_wp2_with fail
      refine (implCF_is sa si ho 0 _ HC.out).mono ?_
      rintro e w1 ⟨rfl, k1⟩
      have b1 := bA.new k1
      have c1' := b1.cells
      have N1 := N0.trans k1
      clear cA
      go_wp2_with fail
      refine (isAddr_no _ _ HA.out).mono ?_
      rintro e w2 ⟨rfl, rfl⟩
      go_wp2
      go_ret
      exact ⟨rfl, N1⟩
  · have HC : Hid (cf sa si ho = z) := by
      have := hz
      unfold stF at this
      rw [if_neg hc] at this
      exact this
    have hz0 : ¬ z = 0 := fun f => hc (HC.out.trans f)
    clear hz hc
    go_enter Tryz.func111, Tryz.ntmps111
    go_wp2_with fail
    refine (implCF_is sa si ho z _ HC.out).mono ?_
    rintro e w1 ⟨rfl, k1⟩
    have b1 := bA.new k1
    have c1' := b1.cells
    have N1 := N0.trans k1
    clear cA
    go_wp2
    go_ret
    exact ⟨rfl, N1⟩

theorem szSe_ok (sa si ho nx : Int) (a1 a2 : Option Addr) (n1 c1 n2 c2 l : Nat) (w : World) (hl : l ≤ 1048576) (h : n1 + n2 ≤ l) : Calls Tryz.prog 20 #[.agg #[.int .i64 sa, .int .i64 si, .int .i64 ho, .int .i64 nx, .slice a1 n1 c1, .slice a2 n2 c2], .int .i64 l] w fun e w' => e = .returned (.int .i64 ((l - n1 - n2 : Nat) : Int)) ∧ New w w' := by
  have bA := (Blk.mk w _ 26 #[.int .i64 sa, .int .i64 si, .int .i64 ho, .int .i64 nx, .slice a1 n1 c1, .slice a2 n2 c2] rfl)
  have cA := bA.cells
  have s1 : (l : Int) - (n1 : Int) = ((l - n1 : Nat) : Int) := by omega
  have s2 : ((l - n1 : Nat) : Int) - (n2 : Int) = ((l - n1 - n2 : Nat) : Int) := by omega
  have l1 : n1 ≤ l := by omega
  have l2 : n2 ≤ l - n1 := by omega
  have m2 : l - n1 ≤ 1048576 := by omega
  clear h
  generalize l - n1 - n2 = q2 at *
  generalize l - n1 = q1 at *
  go_enter Tryz.func20, Tryz.ntmps20
  go_wp2_with fail
  refine (szRs_ok a1 n1 c1 l _ hl l1).mono ?_
  rintro e w1 ⟨rfl, rfl⟩
  rw [s1]
  go_wp2_with fail
  refine (szRs_ok a2 n2 c2 q1 _ m2 l2).mono ?_
  rintro e w1 ⟨rfl, rfl⟩
  rw [s2]
  go_wp2
  go_ret
  exact ⟨rfl, (New.refl _).alloc _⟩

theorem szSe_big (sa si ho nx : Int) (a1 a2 : Option Addr) (n1 c1 n2 c2 l : Nat) (w : World) (hl : l ≤ 1048576) (h : l < n1 + n2) (g1 : n1 ≤ maxLen) (g2 : n2 ≤ maxLen) : Calls Tryz.prog 20 #[.agg #[.int .i64 sa, .int .i64 si, .int .i64 ho, .int .i64 nx, .slice a1 n1 c1, .slice a2 n2 c2], .int .i64 l] w fun e w' => e = .returned (.int .i64 (-1)) ∧ New w w' := by
  by_cases l1 : l < n1
  · go_enter Tryz.func20, Tryz.ntmps20
    go_wp2_with fail
    refine (szRs_big a1 n1 c1 l _ hl g1 l1).mono ?_
    rintro e w1 ⟨rfl, rfl⟩
    go_wp2
    go_ret
    exact ⟨rfl, (New.refl _).alloc _⟩
  · have s1 : (l : Int) - (n1 : Int) = ((l - n1 : Nat) : Int) := by omega
    have l1' : n1 ≤ l := by omega
    have l2 : l - n1 < n2 := by omega
    have m2 : l - n1 ≤ 1048576 := by omega
    clear h l1
    generalize l - n1 = q1 at *
    go_enter Tryz.func20, Tryz.ntmps20
    go_wp2_with fail
    refine (szRs_ok a1 n1 c1 l _ hl l1').mono ?_
    rintro e w1 ⟨rfl, rfl⟩
    rw [s1]
    go_wp2_with fail
    refine (szRs_big a2 n2 c2 q1 _ m2 g2 l2).mono ?_
    rintro e w1 ⟨rfl, rfl⟩
    go_wp2
    go_ret
    exact ⟨rfl, (New.refl _).alloc _⟩

theorem toSe_any (sa si ho nx : Int) (a1 a2 : Option Addr) (n1 c1 n2 c2 : Nat) (r1 r2 : List Ru) (w : World) (h1 : RsAt w a1 r1) (h2 : RsAt w a2 r2) (e1 : r1.length = n1) (e2 : r2.length = n2) (m1 : n1 ≤ 1048576) (m2 : n2 ≤ 1048576) :
    Calls Tryz.prog 30 #[.agg #[.int .i64 sa, .int .i64 si, .int .i64 ho, .int .i64 nx, .slice a1 n1 c1, .slice a2 n2 c2]] w fun e w' => ∃ g1 g2, e = .returned (.agg #[.int .i64 sa, .int .i64 si, .int .i64 ho, .int .i64 nx, .slice (some ⟨g1, 0, none⟩) n1 n1, .slice (some ⟨g2, 0, none⟩) n2 n2]) ∧ w.heap.size ≤ g1 ∧ g1 < g2 ∧ OwR w' g1 n1 n1 r1 ∧ OwR w' g2 n2 n2 r2 ∧ New w w' := by
  have hw0 := (((New.refl w).alloc (.cells #[.int .i64 sa, .int .i64 si, .int .i64 ho, .int .i64 nx, .slice a1 n1 c1, .slice a2 n2 c2] 26)).alloc (.cells #[.int .i64 0, .int .i64 0, .int .i64 0, .int .i64 0, .slice none 0 0, .slice none 0 0] 41)).alloc (.cells #[.int .i64 0, .int .i64 0, .int .i64 0, .int .i64 0, .slice none 0 0, .slice none 0 0] 41)
  have b0 : Blk (((w.alloc (.cells #[.int .i64 sa, .int .i64 si, .int .i64 ho, .int .i64 nx, .slice a1 n1 c1, .slice a2 n2 c2] 26)).alloc (.cells #[.int .i64 0, .int .i64 0, .int .i64 0, .int .i64 0, .slice none 0 0, .slice none 0 0] 41)).alloc (.cells #[.int .i64 0, .int .i64 0, .int .i64 0, .int .i64 0, .slice none 0 0, .slice none 0 0] 41)) w.heap.size 26 #[.int .i64 sa, .int .i64 si, .int .i64 ho, .int .i64 nx, .slice a1 n1 c1, .slice a2 n2 c2] := ((Blk.mk _ _ _ _ rfl).alloc _).alloc _
  have b1 : Blk (((w.alloc (.cells #[.int .i64 sa, .int .i64 si, .int .i64 ho, .int .i64 nx, .slice a1 n1 c1, .slice a2 n2 c2] 26)).alloc (.cells #[.int .i64 0, .int .i64 0, .int .i64 0, .int .i64 0, .slice none 0 0, .slice none 0 0] 41)).alloc (.cells #[.int .i64 0, .int .i64 0, .int .i64 0, .int .i64 0, .slice none 0 0, .slice none 0 0] 41)) (w.heap.size + 1) 41 #[.int .i64 0, .int .i64 0, .int .i64 0, .int .i64 0, .slice none 0 0, .slice none 0 0] := (Blk.mk _ _ _ _ (by simp)).alloc _
  have b2 : Blk (((w.alloc (.cells #[.int .i64 sa, .int .i64 si, .int .i64 ho, .int .i64 nx, .slice a1 n1 c1, .slice a2 n2 c2] 26)).alloc (.cells #[.int .i64 0, .int .i64 0, .int .i64 0, .int .i64 0, .slice none 0 0, .slice none 0 0] 41)).alloc (.cells #[.int .i64 0, .int .i64 0, .int .i64 0, .int .i64 0, .slice none 0 0, .slice none 0 0] 41)) (w.heap.size + 1 + 1) 41 #[.int .i64 0, .int .i64 0, .int .i64 0, .int .i64 0, .slice none 0 0, .slice none 0 0] := Blk.mk _ _ _ _ (by simp)
  have ge1 : w.heap.size ≤ w.heap.size + 1 := by omega
  have ge2 : w.heap.size ≤ w.heap.size + 1 + 1 := by omega
  have d01 : ¬ w.heap.size + 1 + 1 = w.heap.size := by omega
  have d12 : ¬ w.heap.size + 1 + 1 = w.heap.size + 1 := by omega
  go_enter Tryz.func30, Tryz.ntmps30
  go_wp2_with fail
  refine (toCfg_any sa si ho _).mono ?_
  rintro e w1 ⟨rfl, hn1⟩
  have n1' := hw0.trans hn1
  have p0 := b0.new hn1
  have p1 := b1.new hn1
  have p2 := b2.new hn1
  have c0 := p0.cells
  have c2' := p2.cells
  have f2 := p2.frees
  have t1 : Turn (fun k => k = w.heap.size + 1 + 1) w1 ((((w1.setCell ⟨w.heap.size + 1 + 1, 0, none⟩ (.int .i64 sa)).setCell ⟨w.heap.size + 1 + 1, 1, none⟩ (.int .i64 si)).setCell ⟨w.heap.size + 1 + 1, 2, none⟩ (.int .i64 ho)).setCell ⟨w.heap.size + 1 + 1, 3, none⟩ (.int .i64 nx)) := Turn.here9 (Turn.here9 (Turn.here9 (Turn.here9 (Turn.refl _ _) _) _) _) _
  have n1'' : New w ((((w1.setCell ⟨w.heap.size + 1 + 1, 0, none⟩ (.int .i64 sa)).setCell ⟨w.heap.size + 1 + 1, 1, none⟩ (.int .i64 si)).setCell ⟨w.heap.size + 1 + 1, 2, none⟩ (.int .i64 ho)).setCell ⟨w.heap.size + 1 + 1, 3, none⟩ (.int .i64 nx)) := (((n1'.setCell ge2 _).setCell ge2 _).setCell ge2 _).setCell ge2 _
  have q2 := ((((p2.set 0 (.int .i64 sa)).set 1 (.int .i64 si)).set 2 (.int .i64 ho)).set 3 (.int .i64 nx))
  have q0 := p0.turn t1 (by omega)
  have q1 := p1.turn t1 (by omega)
  have sz0 := n1'.size
  have sz1 := t1.size
  have hs0 := hn1.size
  simp at hs0
  clear b0 b1 b2 hn1 p0 p1 p2 hw0
  go_wp2_with fail
  refine (toRs_any a1 n1 c1 r1 _ (h1.new n1'') e1 m1).mono ?_
  rintro e w2 ⟨g1, rfl, hg1, ho1, hn2⟩
  have n2' := n1''.trans hn2
  have s0 := q0.new hn2
  have s1 := q1.new hn2
  have s2 : Blk w2 (w.heap.size + 1 + 1) 41 #[.int .i64 sa, .int .i64 si, .int .i64 ho, .int .i64 nx, .slice none 0 0, .slice none 0 0] := q2.new hn2
  have lt1 := ho1.lt
  have hg1' : w.heap.size + 3 ≤ g1 := by omega
  clear c0 c2' f2 q0 q1 q2 t1
  have c0 := s0.cells
  have c2' := s2.cells
  have f2 := s2.frees
  have t2 : Turn (fun k => k = w.heap.size + 1 + 1) w2 (w2.setCell ⟨w.heap.size + 1 + 1, 4, none⟩ (.slice (some ⟨g1, 0, none⟩) n1 n1)) := Turn.here9 (Turn.refl _ _) _
  have n2'' : New w (w2.setCell ⟨w.heap.size + 1 + 1, 4, none⟩ (.slice (some ⟨g1, 0, none⟩) n1 n1)) := n2'.setCell ge2 _
  have q2 := s2.set 4 (.slice (some ⟨g1, 0, none⟩) n1 n1)
  have q1 := s1.turn t2 (by omega)
  have oo1 := ho1.turn t2 (by omega)
  have sz2 := t2.size
  clear hn2 s0 s1 s2 ho1
  go_wp2_with fail
  refine (toRs_any a2 n2 c2 r2 _ (h2.new n2'') e2 m2).mono ?_
  rintro e w3 ⟨g2, rfl, hg2, ho2, hn3⟩
  have n3' := n2''.trans hn3
  have s1 := q1.new hn3
  have s2 : Blk w3 (w.heap.size + 1 + 1) 41 #[.int .i64 sa, .int .i64 si, .int .i64 ho, .int .i64 nx, .slice (some ⟨g1, 0, none⟩) n1 n1, .slice none 0 0] := q2.new hn3
  have o31 := oo1.new hn3
  clear c0 c2' f2 q1 q2 t2 oo1
  have c1' := s1.cells
  have f1 := s1.frees
  have c2' := s2.cells
  have f2 := s2.frees
  have h12 : g1 < g2 := by omega
  have e11 : ¬ w.heap.size + 1 = g1 := by omega
  have e12 : ¬ w.heap.size + 1 = g2 := by omega
  have e21 : ¬ w.heap.size + 1 + 1 = g1 := by omega
  have e22 : ¬ w.heap.size + 1 + 1 = g2 := by omega
  go_wp2
  refine bodyPost_ret (v := .agg #[.int .i64 sa, .int .i64 si, .int .i64 ho, .int .i64 nx, .slice (some ⟨g1, 0, none⟩) n1 n1, .slice (some ⟨g2, 0, none⟩) n2 n2]) (by simp [results, Tryz.results30, go_sem, c1']) rfl ⟨g1, g2, rfl, by omega, h12, ?_, ?_, ?_⟩
  · simp (disch := (first | exact e11 | exact e21)) only [OwR.set_iff, o31]
  · simp (disch := (first | exact e12 | exact e22)) only [OwR.set_iff, ho2]
  · simp (disch := (first | exact ge1 | exact ge2)) only [New.set_iff, n3']

theorem eqCf9 (sa si ho : Int) (w : World) : Calls Tryz.prog 83 #[.agg #[.int .i64 sa, .int .i64 si, .int .i64 ho], .agg #[.int .i64 sa, .int .i64 si, .int .i64 ho]] w fun e w' => e = .returned (.bool true) ∧ New w w' := by
  have z1 : (sa != sa) = false := by simp
  have z2 : (si != si) = false := by simp
  have z3 : (ho != ho) = false := by simp
  go_enter Tryz.func83, Tryz.ntmps83
  go_wp2
  go_ret
  exact ⟨rfl, ((New.refl w).alloc _).alloc _⟩

theorem eqSe_any (sa si ho nx : Int) (a1 a2 b1 b2 : Option Addr) (n1 c1 n2 c2 d1 d2 : Nat) (r1 r2 : List Ru) (w : World) (h1 : RsAt w a1 r1) (h2 : RsAt w a2 r2) (e1 : r1.length = n1) (e2 : r2.length = n2) (m1 : n1 ≤ 1048576) (m2 : n2 ≤ 1048576) (k1 : RsAt w b1 r1) (k2 : RsAt w b2 r2) :
    Calls Tryz.prog 39 #[.agg #[.int .i64 sa, .int .i64 si, .int .i64 ho, .int .i64 nx, .slice a1 n1 c1, .slice a2 n2 c2], .agg #[.int .i64 sa, .int .i64 si, .int .i64 ho, .int .i64 nx, .slice b1 n1 d1, .slice b2 n2 d2]] w fun e w' => e = .returned (.bool true) ∧ New w w' := by
  have hw := ((New.refl w).alloc (.cells #[.int .i64 sa, .int .i64 si, .int .i64 ho, .int .i64 nx, .slice a1 n1 c1, .slice a2 n2 c2] 41)).alloc (.cells #[.int .i64 sa, .int .i64 si, .int .i64 ho, .int .i64 nx, .slice b1 n1 d1, .slice b2 n2 d2] 41)
  have bA : Blk ((w.alloc (.cells #[.int .i64 sa, .int .i64 si, .int .i64 ho, .int .i64 nx, .slice a1 n1 c1, .slice a2 n2 c2] 41)).alloc (.cells #[.int .i64 sa, .int .i64 si, .int .i64 ho, .int .i64 nx, .slice b1 n1 d1, .slice b2 n2 d2] 41)) w.heap.size 41 #[.int .i64 sa, .int .i64 si, .int .i64 ho, .int .i64 nx, .slice a1 n1 c1, .slice a2 n2 c2] := (Blk.mk _ _ _ _ rfl).alloc _
  have bB : Blk ((w.alloc (.cells #[.int .i64 sa, .int .i64 si, .int .i64 ho, .int .i64 nx, .slice a1 n1 c1, .slice a2 n2 c2] 41)).alloc (.cells #[.int .i64 sa, .int .i64 si, .int .i64 ho, .int .i64 nx, .slice b1 n1 d1, .slice b2 n2 d2] 41)) (w.heap.size + 1) 41 #[.int .i64 sa, .int .i64 si, .int .i64 ho, .int .i64 nx, .slice b1 n1 d1, .slice b2 n2 d2] := Blk.mk _ _ _ _ (by simp)
  have hb : (nx != nx) = false := by simp
  go_enter Tryz.func39, Tryz.ntmps39
  go_wp2_with fail
  refine (eqCf9 sa si ho _).mono ?_
  rintro e w0 ⟨rfl, hn0⟩
  have hw0 := hw.trans hn0
  have bA0 := bA.new hn0
  have bB0 := bB.new hn0
  have cA := bA0.cells
  have cB := bB0.cells
  go_wp2_with fail
  refine (eqRs_any a1 b1 n1 c1 d1 r1 _ (h1.new hw0) (k1.new hw0) e1 m1).mono ?_
  rintro e w1 ⟨rfl, hn1⟩
  have hw1 := hw0.trans hn1
  clear cA cB
  have cA := (bA0.new hn1).cells
  have cB := (bB0.new hn1).cells
  go_wp2_with fail
  refine (eqRs_any a2 b2 n2 c2 d2 r2 _ (h2.new hw1) (k2.new hw1) e2 m2).mono ?_
  rintro e w2 ⟨rfl, hn2⟩
  go_wp2
  go_ret
  exact ⟨rfl, hw1.trans hn2⟩

end Go.Proofs.YtdbnmkffinhdjaaGreat
