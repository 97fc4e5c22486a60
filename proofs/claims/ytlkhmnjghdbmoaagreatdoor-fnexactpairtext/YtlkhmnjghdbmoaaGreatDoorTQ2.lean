/- What is proved here: what the judging of a single number of a session or of a configuration answers, in the program and in the model. No condition. What is proved here: what the judging of a session and of a configuration answers, in the program and in the model. No condition. What is proved here: how an argument that is a session or a configuration comes in, and what the copying of one answers. No condition. What is proved here: two facts on storing into a block. No condition. What is proved here: what the copying, measuring, comparing and judging of a router's settings answer, for rules of at most 1048576. What is proved here: how an argument that is a router's settings comes in. No condition. -/
import Derived.Test.YtlkhmnjghdbmoaaGreatDoorNumLib
import Derived.Test.YtlkhmnjghdbmoaaGreatDoorOpen
import Derived.Test.YtlkhmnjghdbmoaaGreatDoorAtLaw
import Derived.Test.YtlkhmnjghdbmoaaGreatDoorTQ1
namespace Go.Proofs.YtlkhmnjghdbmoaaGreatDoor
open Go.RowKit
set_option linter.unusedVariables false

/-- A hold time. -/
abbrev HoP (x : Int) : Prop := x = 0 ∨ (3 ≤ x ∧ x ≤ 200)
/-- The numbers of a configuration. -/
abbrev CfP (sa si ho : Int) : Prop := (1 ≤ sa ∧ sa ≤ 65535) ∧ (1 ≤ si ∧ si ≤ 65535) ∧ HoP ho
/-- The numbers of a session. -/
abbrev SsP (st pe ho si sp : Int) : Prop := (0 ≤ st ∧ st ≤ 3) ∧ (0 ≤ pe ∧ pe ≤ 65535) ∧ HoP ho ∧ (0 ≤ si ∧ si ≤ 1000) ∧ (0 ≤ sp ∧ sp ≤ 1000)
/-- The fault of a configuration. -/
def cf (sa si ho : Int) : Int := if CfP sa si ho then 0 else 3
/-- The fault of a session. -/
def sf (st pe ho si sp : Int) : Int :=
  if SsP st pe ho si sp then (if st = 0 then (if pe = 0 ∧ ho = 0 ∧ si = 0 ∧ sp = 0 then 0 else 1) else if st = 1 then (if pe = 0 ∧ ho = 0 then 0 else 1) else if pe = 0 then 1 else 0) else 3
theorem ret5_bool {a b : Bool} (h : a = b) : Ending.returned (.bool a) = .returned (.bool b) := by rw [h]

theorem sys5_yes (x : Int) (w : World) (h : 1 ≤ x ∧ x ≤ 65535) : Calls Tryz.prog 101 #[.int .i64 x] w fun e w' => e = .returned (.bool true) ∧ w' = w := by
  obtain ⟨h1, h2⟩ := h
  go_enter Tryz.func101, Tryz.ntmps101
  go_wp2
  go_ret
  exact ⟨by simp, rfl⟩

theorem sys5_no (x : Int) (w : World) (h : ¬ (1 ≤ x ∧ x ≤ 65535)) : Calls Tryz.prog 101 #[.int .i64 x] w fun e w' => e = .returned (.bool false) ∧ w' = w := by
  by_cases h1 : 1 ≤ x
  · have h2 : 65535 < x := by omega
    clear h
    go_enter Tryz.func101, Tryz.ntmps101
    go_wp2
    go_ret
    exact ⟨by simp; omega, rfl⟩
  · clear h
    go_enter Tryz.func101, Tryz.ntmps101
    go_wp2
    go_ret
    exact ⟨rfl, rfl⟩

theorem id5_yes (x : Int) (w : World) (h : 1 ≤ x ∧ x ≤ 65535) : Calls Tryz.prog 102 #[.int .i64 x] w fun e w' => e = .returned (.bool true) ∧ w' = w := by
  obtain ⟨h1, h2⟩ := h
  go_enter Tryz.func102, Tryz.ntmps102
  go_wp2
  go_ret
  exact ⟨by simp, rfl⟩

theorem id5_no (x : Int) (w : World) (h : ¬ (1 ≤ x ∧ x ≤ 65535)) : Calls Tryz.prog 102 #[.int .i64 x] w fun e w' => e = .returned (.bool false) ∧ w' = w := by
  by_cases h1 : 1 ≤ x
  · have h2 : 65535 < x := by omega
    clear h
    go_enter Tryz.func102, Tryz.ntmps102
    go_wp2
    go_ret
    exact ⟨by simp; omega, rfl⟩
  · clear h
    go_enter Tryz.func102, Tryz.ntmps102
    go_wp2
    go_ret
    exact ⟨rfl, rfl⟩

theorem hold5_yes (x : Int) (w : World) (h : HoP x) : Calls Tryz.prog 103 #[.int .i64 x] w fun e w' => e = .returned (.bool true) ∧ w' = w := by
  by_cases h0 : x = 0
  · subst h0
    go_enter Tryz.func103, Tryz.ntmps103
    go_wp2
    go_ret
    exact ⟨rfl, rfl⟩
  · have e0 : (x == 0) = false := by simpa using h0
    obtain ⟨h1, h2⟩ : 3 ≤ x ∧ x ≤ 200 := by rcases h with h | h <;> omega
    clear h
    go_enter Tryz.func103, Tryz.ntmps103
    go_wp2
    go_ret
    exact ⟨by simp, rfl⟩

theorem hold5_no (x : Int) (w : World) (h : ¬ HoP x) : Calls Tryz.prog 103 #[.int .i64 x] w fun e w' => e = .returned (.bool false) ∧ w' = w := by
  have h0 : ¬ x = 0 := fun e => h (.inl e)
  have e0 : (x == 0) = false := by simpa using h0
  by_cases h1 : 3 ≤ x
  · have h2 : 200 < x := by
      rcases Int.lt_or_le 200 x with q | q
      · exact q
      · exact absurd (Or.inr ⟨h1, q⟩) h
    clear h
    go_enter Tryz.func103, Tryz.ntmps103
    go_wp2
    go_ret
    exact ⟨by simp; omega, rfl⟩
  · clear h
    go_enter Tryz.func103, Tryz.ntmps103
    go_wp2
    go_ret
    exact ⟨rfl, rfl⟩

theorem holdS5_yes (x : Int) (w : World) (h : HoP x) : Calls Tryz.prog 95 #[.int .i64 x] w fun e w' => e = .returned (.bool true) ∧ w' = w := by
  by_cases h0 : x = 0
  · subst h0
    go_enter Tryz.func95, Tryz.ntmps95
    go_wp2
    go_ret
    exact ⟨rfl, rfl⟩
  · have e0 : (x == 0) = false := by simpa using h0
    have h1 : 3 ≤ x ∧ x ≤ 200 := by rcases h with h | h <;> omega
    clear h
    go_enter Tryz.func95, Tryz.ntmps95
    go_wp2_with fail
    refine (in_yes _ _ _ _ h1).mono ?_
    rintro e w1 ⟨rfl, rfl⟩
    go_wp2
    go_ret
    exact ⟨rfl, rfl⟩

theorem holdS5_no (x : Int) (w : World) (h : ¬ HoP x) : Calls Tryz.prog 95 #[.int .i64 x] w fun e w' => e = .returned (.bool false) ∧ w' = w := by
  have h0 : ¬ x = 0 := fun e => h (.inl e)
  have e0 : (x == 0) = false := by simpa using h0
  have h1 : x < 3 ∨ 200 < x := by
    by_cases q : 3 ≤ x ∧ x ≤ 200
    · exact absurd (.inr q) h
    · omega
  clear h
  go_enter Tryz.func95, Tryz.ntmps95
  go_wp2_with fail
  refine (in_no _ _ _ _ h1).mono ?_
  rintro e w1 ⟨rfl, rfl⟩
  go_wp2
  go_ret
  exact ⟨rfl, rfl⟩

theorem word5_yes (x : Int) (w : World) (h : 0 ≤ x ∧ x ≤ 65535) : Calls Tryz.prog 120 #[.int .i64 x] w fun e w' => e = .returned (.bool true) ∧ w' = w := by
  go_enter Tryz.func120, Tryz.ntmps120
  go_wp2_with fail
  refine (in_yes _ _ _ _ h).mono ?_
  rintro e w1 ⟨rfl, rfl⟩
  go_wp2
  go_ret
  exact ⟨rfl, rfl⟩

theorem word5_no (x : Int) (w : World) (h : ¬ (0 ≤ x ∧ x ≤ 65535)) : Calls Tryz.prog 120 #[.int .i64 x] w fun e w' => e = .returned (.bool false) ∧ w' = w := by
  go_enter Tryz.func120, Tryz.ntmps120
  go_wp2_with fail
  refine (in_no _ _ _ _ (by omega)).mono ?_
  rintro e w1 ⟨rfl, rfl⟩
  go_wp2
  go_ret
  exact ⟨rfl, rfl⟩

theorem in5_no (v lo hi : Int) (w : World) (h : ¬ (lo ≤ v ∧ v ≤ hi)) : Calls Tryz.prog 70 #[.int .i64 v, .int .i64 lo, .int .i64 hi] w fun e w' => e = .returned (.bool false) ∧ w' = w :=
  in_no v lo hi w (by omega)

end Go.Proofs.YtlkhmnjghdbmoaaGreatDoor

namespace Go.Proofs.YtlkhmnjghdbmoaaGreatDoor
open Go.RowKit
set_option linter.unusedVariables false

set_option maxHeartbeats 1600000 in
theorem implCF (sa si ho : Int) (w : World) : Calls Tryz.prog 78 #[.agg #[.int .i64 sa, .int .i64 si, .int .i64 ho]] w fun e w' => e = .returned (.int .i64 (cf sa si ho)) ∧ New w w' := by
  by_cases g0 : 1 ≤ sa ∧ sa ≤ 65535
  case neg =>
    have hx : cf sa si ho = 3 := if_neg (fun k => g0 k.1)
    go_enter Tryz.func78, Tryz.ntmps78
    go_wp2_with fail
    refine (sys5_no _ _ g0).mono ?_
    rintro e w1 ⟨rfl, rfl⟩
    go_wp2
    go_ret
    exact ⟨ret_i64 (by first | exact hx.symm | rfl), (New.refl w).alloc _⟩
  by_cases g1 : 1 ≤ si ∧ si ≤ 65535
  case neg =>
    have hx : cf sa si ho = 3 := if_neg (fun k => g1 k.2.1)
    go_enter Tryz.func78, Tryz.ntmps78
    go_wp2_with fail
    refine (sys5_yes _ _ g0).mono ?_
    rintro e w1 ⟨rfl, rfl⟩
    go_wp2_with fail
    refine (id5_no _ _ g1).mono ?_
    rintro e w1 ⟨rfl, rfl⟩
    go_wp2
    go_ret
    exact ⟨ret_i64 (by first | exact hx.symm | rfl), (New.refl w).alloc _⟩
  by_cases g2 : HoP ho
  case neg =>
    have hx : cf sa si ho = 3 := if_neg (fun k => g2 k.2.2)
    go_enter Tryz.func78, Tryz.ntmps78
    go_wp2_with fail
    refine (sys5_yes _ _ g0).mono ?_
    rintro e w1 ⟨rfl, rfl⟩
    go_wp2_with fail
    refine (id5_yes _ _ g1).mono ?_
    rintro e w1 ⟨rfl, rfl⟩
    go_wp2_with fail
    refine (hold5_no _ _ g2).mono ?_
    rintro e w1 ⟨rfl, rfl⟩
    go_wp2
    go_ret
    exact ⟨ret_i64 (by first | exact hx.symm | rfl), (New.refl w).alloc _⟩
  have hx : cf sa si ho = 0 := if_pos ⟨g0, g1, g2⟩
  go_enter Tryz.func78, Tryz.ntmps78
  go_wp2_with fail
  refine (sys5_yes _ _ g0).mono ?_
  rintro e w1 ⟨rfl, rfl⟩
  go_wp2_with fail
  refine (id5_yes _ _ g1).mono ?_
  rintro e w1 ⟨rfl, rfl⟩
  go_wp2_with fail
  refine (hold5_yes _ _ g2).mono ?_
  rintro e w1 ⟨rfl, rfl⟩
  go_wp2
  go_ret
  exact ⟨ret_i64 (by first | exact hx.symm | rfl), (New.refl w).alloc _⟩

set_option maxHeartbeats 1600000 in
theorem specCF (sa si ho : Int) (w : World) : Calls Tryz.prog 66 #[.agg #[.int .i64 sa, .int .i64 si, .int .i64 ho]] w fun e w' => e = .returned (.int .i64 (cf sa si ho)) ∧ New w w' := by
  by_cases g0 : 1 ≤ sa ∧ sa ≤ 65535
  case neg =>
    have hx : cf sa si ho = 3 := if_neg (fun k => g0 k.1)
    go_enter Tryz.func66, Tryz.ntmps66
    go_wp2_with fail
    refine (in5_no _ _ _ _ g0).mono ?_
    rintro e w1 ⟨rfl, rfl⟩
    go_wp2
    go_ret
    exact ⟨ret_i64 (by first | exact hx.symm | rfl), (New.refl w).alloc _⟩
  by_cases g1 : 1 ≤ si ∧ si ≤ 65535
  case neg =>
    have hx : cf sa si ho = 3 := if_neg (fun k => g1 k.2.1)
    go_enter Tryz.func66, Tryz.ntmps66
    go_wp2_with fail
    refine (in_yes _ _ _ _ g0).mono ?_
    rintro e w1 ⟨rfl, rfl⟩
    go_wp2_with fail
    refine (in5_no _ _ _ _ g1).mono ?_
    rintro e w1 ⟨rfl, rfl⟩
    go_wp2
    go_ret
    exact ⟨ret_i64 (by first | exact hx.symm | rfl), (New.refl w).alloc _⟩
  by_cases g2 : HoP ho
  case neg =>
    have hx : cf sa si ho = 3 := if_neg (fun k => g2 k.2.2)
    go_enter Tryz.func66, Tryz.ntmps66
    go_wp2_with fail
    refine (in_yes _ _ _ _ g0).mono ?_
    rintro e w1 ⟨rfl, rfl⟩
    go_wp2_with fail
    refine (in_yes _ _ _ _ g1).mono ?_
    rintro e w1 ⟨rfl, rfl⟩
    go_wp2_with fail
    refine (holdS5_no _ _ g2).mono ?_
    rintro e w1 ⟨rfl, rfl⟩
    go_wp2
    go_ret
    exact ⟨ret_i64 (by first | exact hx.symm | rfl), (New.refl w).alloc _⟩
  have hx : cf sa si ho = 0 := if_pos ⟨g0, g1, g2⟩
  go_enter Tryz.func66, Tryz.ntmps66
  go_wp2_with fail
  refine (in_yes _ _ _ _ g0).mono ?_
  rintro e w1 ⟨rfl, rfl⟩
  go_wp2_with fail
  refine (in_yes _ _ _ _ g1).mono ?_
  rintro e w1 ⟨rfl, rfl⟩
  go_wp2_with fail
  refine (holdS5_yes _ _ g2).mono ?_
  rintro e w1 ⟨rfl, rfl⟩
  go_wp2
  go_ret
  exact ⟨ret_i64 (by first | exact hx.symm | rfl), (New.refl w).alloc _⟩

end Go.Proofs.YtlkhmnjghdbmoaaGreatDoor

namespace Go.Proofs.YtlkhmnjghdbmoaaGreatDoor
open Go.ChangeShapes Go.WideShapes Go.ChangeAt Go.RowKit Go.Deep
set_option linter.unusedVariables false

/-- A whole number that an int64 holds. -/
def In5 (x : Int) : Prop := -9223372036854775808 ≤ x ∧ x ≤ 9223372036854775807
theorem in5_of_wf {x : Int} (h : (Lit.int .i64 x).wf = true) : In5 x := by simpa [In5, Lit.wf, IntKind.min, IntKind.max, IntKind.signed, IntKind.bits] using h

set_option maxHeartbeats 400000 in
theorem toCfg_any (sa si ho : Int) (w : World) : Calls Tryz.prog 43 #[.agg #[.int .i64 sa, .int .i64 si, .int .i64 ho]] w fun e w' => e = .returned (.agg #[.int .i64 sa, .int .i64 si, .int .i64 ho]) ∧ New w w' := by
  go_enter Tryz.func43, Tryz.ntmps43
  go_wp2
  refine bodyPost_ret (v := .agg #[.int .i64 sa, .int .i64 si, .int .i64 ho]) (by simp [results, Tryz.results43, go_sem]) rfl ⟨rfl, ?_⟩
  exact ((((New.refl w).alloc _).alloc _).alloc _)

end Go.Proofs.YtlkhmnjghdbmoaaGreatDoor

namespace Go.Proofs.YtlkhmnjghdbmoaaGreatDoor
open Go.RowKit Go.Sort

theorem Turn.here9 {B j : Nat} {a w : World} (h : Turn (fun k => k = B) a w) (u : Value) : Turn (fun k => k = B) a (w.setCell ⟨B, j, none⟩ u) := h.set (p := ⟨B, j, none⟩) rfl u

theorem turn_set_iff {S : Nat → Prop} {a w : World} {p : Addr} {u : Value} (hp : S p.block) : Turn S a (w.setCell p u) ↔ Turn S a w :=
  ⟨fun h => ⟨h.os, h.tape, h.output, by simpa [World.setCell] using h.size, fun k hk hs => (Below.heap_setCell w p u k (fun e => hs (e ▸ hp))).symm.trans (h.block k hk hs)⟩, fun h => h.set hp u⟩

end Go.Proofs.YtlkhmnjghdbmoaaGreatDoor

namespace Go.Proofs.YtlkhmnjghdbmoaaGreatDoor
open Go.RowKit Go.Sort
set_option linter.unusedVariables false

theorem OwR.set_iff {w : World} {g n c : Nat} {ps : List Ru} {p : Addr} {u : Value} (hp : ¬ p.block = g) : OwR (w.setCell p u) g n c ps ↔ OwR w g n c ps := by
  have hb : (w.setCell p u).heap[g]? = w.heap[g]? := Below.heap_setCell w p u g (fun e => hp e.symm)
  unfold OwR World.ownsRow
  constructor
  · rintro ⟨h1, h2⟩
    refine ⟨h1, ?_⟩
    rcases h2 with h' | ⟨g', cap', cur, h', r⟩
    · exact .inl h'
    · simp only [Value.slice.injEq, Option.some.injEq, Addr.mk.injEq, and_true, true_and] at h'
      obtain ⟨rfl, rfl⟩ := h'
      exact .inr ⟨g, c, cur, rfl, r.1, hb.symm.trans r.2.1, r.2.2⟩
  · rintro ⟨h1, h2⟩
    refine ⟨h1, ?_⟩
    rcases h2 with h' | ⟨g', cap', cur, h', r⟩
    · exact .inl h'
    · simp only [Value.slice.injEq, Option.some.injEq, Addr.mk.injEq, and_true, true_and] at h'
      obtain ⟨rfl, rfl⟩ := h'
      exact .inr ⟨g, c, cur, rfl, r.1, hb.trans r.2.1, r.2.2⟩

/-- The fault of settings. -/
def stF (sa si ho nx : Int) (r1 r2 : List Ru) : Int :=
  if cf sa si ho = 0 then (if 0 ≤ nx ∧ nx ≤ 65535 then (if rsf r1 = 0 then rsf r2 else rsf r1) else 3) else cf sa si ho

theorem implCF_is (sa si ho z : Int) (w : World) (hz : cf sa si ho = z) : Calls Tryz.prog 78 #[.agg #[.int .i64 sa, .int .i64 si, .int .i64 ho]] w fun e w' => e = .returned (.int .i64 z) ∧ New w w' := hz ▸ implCF sa si ho w

theorem specCF_is (sa si ho z : Int) (w : World) (hz : cf sa si ho = z) : Calls Tryz.prog 66 #[.agg #[.int .i64 sa, .int .i64 si, .int .i64 ho]] w fun e w' => e = .returned (.int .i64 z) ∧ New w w' := hz ▸ specCF sa si ho w

theorem implRs_is (x : Option Addr) (n c : Nat) (rs : List Ru) (k : Int) (w : World) (h : RsAt w x rs) (hn : rs.length = n) (hm : n ≤ 1048576) (e : rsf rs = k) : Calls Tryz.prog 80 #[.slice x n c] w fun e w' => e = .returned (.int .i64 k) ∧ New w w' := e ▸ implRSF x n c rs w h hn hm

theorem specRs_is (x : Option Addr) (n c : Nat) (rs : List Ru) (k : Int) (w : World) (h : RsAt w x rs) (hn : rs.length = n) (hm : n ≤ 1048576) (e : rsf rs = k) : Calls Tryz.prog 68 #[.slice x n c] w fun e w' => e = .returned (.int .i64 k) ∧ New w w' := e ▸ specRSF x n c rs w h hn hm

set_option maxHeartbeats 1600000 in
theorem specSE (sa si ho nx : Int) (a1 a2 : Option Addr) (n1 c1 n2 c2 : Nat) (r1 r2 : List Ru) (z : Int) (w : World) (h1 : RsAt w a1 r1) (h2 : RsAt w a2 r2) (e1 : r1.length = n1) (e2 : r2.length = n2) (m1 : n1 ≤ 1048576) (m2 : n2 ≤ 1048576) (hz : stF sa si ho nx r1 r2 = z) : Calls Tryz.prog 37 #[.agg #[.int .i64 sa, .int .i64 si, .int .i64 ho, .int .i64 nx, .slice a1 n1 c1, .slice a2 n2 c2]] w fun e w' => e = .returned (.int .i64 z) ∧ New w w' := by
  have N0 := (New.refl w).alloc (.cells #[.int .i64 sa, .int .i64 si, .int .i64 ho, .int .i64 nx, .slice a1 n1 c1, .slice a2 n2 c2] 40)
  have bA := (Blk.mk w _ 40 #[.int .i64 sa, .int .i64 si, .int .i64 ho, .int .i64 nx, .slice a1 n1 c1, .slice a2 n2 c2] rfl)
  have cA := bA.cells
  have E1 : Hid (r1.length = n1) := e1
  have E2 : Hid (r2.length = n2) := e2
  clear e1 e2
  by_cases hc : cf sa si ho = 0
  · have HC : Hid (cf sa si ho = 0) := hc
    by_cases ha : 0 ≤ nx ∧ nx ≤ 65535
    · have HA : Hid (0 ≤ nx ∧ nx ≤ 65535) := ha
      by_cases hr : rsf r1 = 0
      · have HR : Hid (rsf r1 = 0) := hr
        have HZ : Hid (rsf r2 = z) := by
          have := hz
          unfold stF at this
          rw [if_pos hc, if_pos ha, if_pos hr] at this
          exact this
        clear hz hc ha hr
        go_enter Tryz.func37, Tryz.ntmps37
        go_wp2_with fail
        refine (specCF_is sa si ho 0 _ HC.out).mono ?_
        rintro e w1 ⟨rfl, k1⟩
        have b1 := bA.new k1
        have c1' := b1.cells
        have N1 := N0.trans k1
        clear cA
        go_wp2_with fail
        refine (l2Addr_yes _ _ HA.out).mono ?_
        rintro e w2 ⟨rfl, rfl⟩
        go_wp2_with fail
        refine (specRs_is a1 n1 c1 r1 0 _ (h1.new N1) E1.out m1 HR.out).mono ?_
        rintro e w3 ⟨rfl, k3⟩
        have b3 := b1.new k3
        have c3' := b3.cells
        have N3 := N1.trans k3
        clear c1'
        go_wp2_with fail
        refine (specRs_is a2 n2 c2 r2 z _ (h2.new N3) E2.out m2 HZ.out).mono ?_
        rintro e w4 ⟨rfl, k4⟩
        go_wp2
        go_ret
        exact ⟨rfl, N3.trans k4⟩
      · have HZ : Hid (rsf r1 = z) := by
          have := hz
          unfold stF at this
          rw [if_pos hc, if_pos ha, if_neg hr] at this
          exact this
        have hz0 : ¬ z = 0 := fun f => hr (HZ.out.trans f)
        clear hz hc ha hr
        go_enter Tryz.func37, Tryz.ntmps37
        go_wp2_with fail
        refine (specCF_is sa si ho 0 _ HC.out).mono ?_
        rintro e w1 ⟨rfl, k1⟩
        have b1 := bA.new k1
        have c1' := b1.cells
        have N1 := N0.trans k1
        clear cA
        go_wp2_with fail
        refine (l2Addr_yes _ _ HA.out).mono ?_
        rintro e w2 ⟨rfl, rfl⟩
        go_wp2_with fail
        refine (specRs_is a1 n1 c1 r1 z _ (h1.new N1) E1.out m1 HZ.out).mono ?_
        rintro e w3 ⟨rfl, k3⟩
        go_wp2
        go_ret
        exact ⟨rfl, N1.trans k3⟩
    · have HA : Hid (nx < 0 ∨ 65535 < nx) := (show nx < 0 ∨ 65535 < nx by omega)
      obtain rfl : 3 = z := by
        have := hz
        unfold stF at this
        rw [if_pos hc, if_neg ha] at this
        exact this
      clear hz hc ha
      go_enter Tryz.func37, Tryz.ntmps37
      go_wp2_with fail
      refine (specCF_is sa si ho 0 _ HC.out).mono ?_
      rintro e w1 ⟨rfl, k1⟩
      have b1 := bA.new k1
      have c1' := b1.cells
      have N1 := N0.trans k1
      clear cA
      go_wp2_with fail
      refine (l2Addr_no _ _ HA.out).mono ?_
      rintro e w2 ⟨rfl, rfl⟩
      go_wp2
      go_ret
      exact ⟨rfl, N1⟩
  · have HC : Hid (cf sa si ho = z) := by
      have := hz
      unfold stF at this
      rw [if_neg hc] at this
      exact this
    have hz0 : ¬ z = 0 := fun f => hc (HC.out.trans f)
    clear hz hc
    go_enter Tryz.func37, Tryz.ntmps37
    go_wp2_with fail
    refine (specCF_is sa si ho z _ HC.out).mono ?_
    rintro e w1 ⟨rfl, k1⟩
    have b1 := bA.new k1
    have c1' := b1.cells
    have N1 := N0.trans k1
    clear cA
    go_wp2
    go_ret
    exact ⟨rfl, N1⟩

set_option maxHeartbeats 1600000 in
theorem implSE (sa si ho nx : Int) (a1 a2 : Option Addr) (n1 c1 n2 c2 : Nat) (r1 r2 : List Ru) (z : Int) (w : World) (h1 : RsAt w a1 r1) (h2 : RsAt w a2 r2) (e1 : r1.length = n1) (e2 : r2.length = n2) (m1 : n1 ≤ 1048576) (m2 : n2 ≤ 1048576) (hz : stF sa si ho nx r1 r2 = z) : Calls Tryz.prog 49 #[.agg #[.int .i64 sa, .int .i64 si, .int .i64 ho, .int .i64 nx, .slice a1 n1 c1, .slice a2 n2 c2]] w fun e w' => e = .returned (.int .i64 z) ∧ New w w' := by
  have N0 := (New.refl w).alloc (.cells #[.int .i64 sa, .int .i64 si, .int .i64 ho, .int .i64 nx, .slice a1 n1 c1, .slice a2 n2 c2] 40)
  have bA := (Blk.mk w _ 40 #[.int .i64 sa, .int .i64 si, .int .i64 ho, .int .i64 nx, .slice a1 n1 c1, .slice a2 n2 c2] rfl)
  have cA := bA.cells
  have E1 : Hid (r1.length = n1) := e1
  have E2 : Hid (r2.length = n2) := e2
  clear e1 e2
  by_cases hc : cf sa si ho = 0
  · have HC : Hid (cf sa si ho = 0) := hc
    by_cases ha : 0 ≤ nx ∧ nx ≤ 65535
    · have HA : Hid (0 ≤ nx ∧ nx ≤ 65535) := ha
      by_cases hr : rsf r1 = 0
      · have HR : Hid (rsf r1 = 0) := hr
        have HZ : Hid (rsf r2 = z) := by
          have := hz
          unfold stF at this
          rw [if_pos hc, if_pos ha, if_pos hr] at this
          exact this
        clear hz hc ha hr
        go_enter Tryz.func49, Tryz.ntmps49
        go_wp2_with fail
        refine (implCF_is sa si ho 0 _ HC.out).mono ?_
        rintro e w1 ⟨rfl, k1⟩
        have b1 := bA.new k1
        have c1' := b1.cells
        have N1 := N0.trans k1
        clear cA
        go_wp2_with fail
        refine (isAddr_yes _ _ HA.out).mono ?_
        rintro e w2 ⟨rfl, rfl⟩
        go_wp2_with fail
        refine (implRs_is a1 n1 c1 r1 0 _ (h1.new N1) E1.out m1 HR.out).mono ?_
        rintro e w3 ⟨rfl, k3⟩
        have b3 := b1.new k3
        have c3' := b3.cells
        have N3 := N1.trans k3
        clear c1'
        go_wp2_with fail
        refine (implRs_is a2 n2 c2 r2 z _ (h2.new N3) E2.out m2 HZ.out).mono ?_
        rintro e w4 ⟨rfl, k4⟩
        go_wp2
        go_ret
        exact ⟨rfl, N3.trans k4⟩
      · have HZ : Hid (rsf r1 = z) := by
          have := hz
          unfold stF at this
          rw [if_pos hc, if_pos ha, if_neg hr] at this
          exact this
        have hz0 : ¬ z = 0 := fun f => hr (HZ.out.trans f)
        clear hz hc ha hr
        go_enter Tryz.func49, Tryz.ntmps49
        go_wp2_with fail
        refine (implCF_is sa si ho 0 _ HC.out).mono ?_
        rintro e w1 ⟨rfl, k1⟩
        have b1 := bA.new k1
        have c1' := b1.cells
        have N1 := N0.trans k1
        clear cA
        go_wp2_with fail
        refine (isAddr_yes _ _ HA.out).mono ?_
        rintro e w2 ⟨rfl, rfl⟩
        go_wp2_with fail
        refine (implRs_is a1 n1 c1 r1 z _ (h1.new N1) E1.out m1 HZ.out).mono ?_
        rintro e w3 ⟨rfl, k3⟩
        go_wp2
        go_ret
        exact ⟨rfl, N1.trans k3⟩
    · have HA : Hid (nx < 0 ∨ 65535 < nx) := (show nx < 0 ∨ 65535 < nx by omega)
      obtain rfl : 3 = z := by
        have := hz
        unfold stF at this
        rw [if_pos hc, if_neg ha] at this
        exact this
      clear hz hc ha
      go_enter Tryz.func49, Tryz.ntmps49
      go_wp2_with fail
      refine (implCF_is sa si ho 0 _ HC.out).mono ?_
      rintro e w1 ⟨rfl, k1⟩
      have b1 := bA.new k1
      have c1' := b1.cells
      have N1 := N0.trans k1
      clear cA
      go_wp2_with fail
      refine (isAddr_no _ _ HA.out).mono ?_
      rintro e w2 ⟨rfl, rfl⟩
      go_wp2
      go_ret
      exact ⟨rfl, N1⟩
  · have HC : Hid (cf sa si ho = z) := by
      have := hz
      unfold stF at this
      rw [if_neg hc] at this
      exact this
    have hz0 : ¬ z = 0 := fun f => hc (HC.out.trans f)
    clear hz hc
    go_enter Tryz.func49, Tryz.ntmps49
    go_wp2_with fail
    refine (implCF_is sa si ho z _ HC.out).mono ?_
    rintro e w1 ⟨rfl, k1⟩
    have b1 := bA.new k1
    have c1' := b1.cells
    have N1 := N0.trans k1
    clear cA
    go_wp2
    go_ret
    exact ⟨rfl, N1⟩

theorem szSe_ok (sa si ho nx : Int) (a1 a2 : Option Addr) (n1 c1 n2 c2 l : Nat) (w : World) (hl : l ≤ 1048576) (h : n1 + n2 ≤ l) : Calls Tryz.prog 10 #[.agg #[.int .i64 sa, .int .i64 si, .int .i64 ho, .int .i64 nx, .slice a1 n1 c1, .slice a2 n2 c2], .int .i64 l] w fun e w' => e = .returned (.int .i64 ((l - n1 - n2 : Nat) : Int)) ∧ New w w' := by
  have bA := (Blk.mk w _ 26 #[.int .i64 sa, .int .i64 si, .int .i64 ho, .int .i64 nx, .slice a1 n1 c1, .slice a2 n2 c2] rfl)
  have cA := bA.cells
  have s1 : (l : Int) - (n1 : Int) = ((l - n1 : Nat) : Int) := by omega
  have s2 : ((l - n1 : Nat) : Int) - (n2 : Int) = ((l - n1 - n2 : Nat) : Int) := by omega
  have l1 : n1 ≤ l := by omega
  have l2 : n2 ≤ l - n1 := by omega
  have m2 : l - n1 ≤ 1048576 := by omega
  clear h
  generalize l - n1 - n2 = q2 at *
  generalize l - n1 = q1 at *
  go_enter Tryz.func10, Tryz.ntmps10
  go_wp2_with fail
  refine (szRs_ok a1 n1 c1 l _ hl l1).mono ?_
  rintro e w1 ⟨rfl, rfl⟩
  rw [s1]
  go_wp2_with fail
  refine (szRs_ok a2 n2 c2 q1 _ m2 l2).mono ?_
  rintro e w1 ⟨rfl, rfl⟩
  rw [s2]
  go_wp2
  go_ret
  exact ⟨rfl, (New.refl _).alloc _⟩

theorem szSe_big (sa si ho nx : Int) (a1 a2 : Option Addr) (n1 c1 n2 c2 l : Nat) (w : World) (hl : l ≤ 1048576) (h : l < n1 + n2) (g1 : n1 ≤ maxLen) (g2 : n2 ≤ maxLen) : Calls Tryz.prog 10 #[.agg #[.int .i64 sa, .int .i64 si, .int .i64 ho, .int .i64 nx, .slice a1 n1 c1, .slice a2 n2 c2], .int .i64 l] w fun e w' => e = .returned (.int .i64 (-1)) ∧ New w w' := by
  by_cases l1 : l < n1
  · go_enter Tryz.func10, Tryz.ntmps10
    go_wp2_with fail
    refine (szRs_big a1 n1 c1 l _ hl g1 l1).mono ?_
    rintro e w1 ⟨rfl, rfl⟩
    go_wp2
    go_ret
    exact ⟨rfl, (New.refl _).alloc _⟩
  · have s1 : (l : Int) - (n1 : Int) = ((l - n1 : Nat) : Int) := by omega
    have l1' : n1 ≤ l := by omega
    have l2 : l - n1 < n2 := by omega
    have m2 : l - n1 ≤ 1048576 := by omega
    clear h l1
    generalize l - n1 = q1 at *
    go_enter Tryz.func10, Tryz.ntmps10
    go_wp2_with fail
    refine (szRs_ok a1 n1 c1 l _ hl l1').mono ?_
    rintro e w1 ⟨rfl, rfl⟩
    rw [s1]
    go_wp2_with fail
    refine (szRs_big a2 n2 c2 q1 _ m2 g2 l2).mono ?_
    rintro e w1 ⟨rfl, rfl⟩
    go_wp2
    go_ret
    exact ⟨rfl, (New.refl _).alloc _⟩

set_option maxHeartbeats 3200000 in
theorem toSe_any (sa si ho nx : Int) (a1 a2 : Option Addr) (n1 c1 n2 c2 : Nat) (r1 r2 : List Ru) (w : World) (h1 : RsAt w a1 r1) (h2 : RsAt w a2 r2) (e1 : r1.length = n1) (e2 : r2.length = n2) (m1 : n1 ≤ 1048576) (m2 : n2 ≤ 1048576) :
    Calls Tryz.prog 17 #[.agg #[.int .i64 sa, .int .i64 si, .int .i64 ho, .int .i64 nx, .slice a1 n1 c1, .slice a2 n2 c2]] w fun e w' => ∃ g1 g2, e = .returned (.agg #[.int .i64 sa, .int .i64 si, .int .i64 ho, .int .i64 nx, .slice (some ⟨g1, 0, none⟩) n1 n1, .slice (some ⟨g2, 0, none⟩) n2 n2]) ∧ w.heap.size ≤ g1 ∧ g1 < g2 ∧ OwR w' g1 n1 n1 r1 ∧ OwR w' g2 n2 n2 r2 ∧ New w w' := by
  have hw0 := (((New.refl w).alloc (.cells #[.int .i64 sa, .int .i64 si, .int .i64 ho, .int .i64 nx, .slice a1 n1 c1, .slice a2 n2 c2] 26)).alloc (.cells #[.int .i64 0, .int .i64 0, .int .i64 0, .int .i64 0, .slice none 0 0, .slice none 0 0] 40)).alloc (.cells #[.int .i64 0, .int .i64 0, .int .i64 0, .int .i64 0, .slice none 0 0, .slice none 0 0] 40)
  have b0 : Blk (((w.alloc (.cells #[.int .i64 sa, .int .i64 si, .int .i64 ho, .int .i64 nx, .slice a1 n1 c1, .slice a2 n2 c2] 26)).alloc (.cells #[.int .i64 0, .int .i64 0, .int .i64 0, .int .i64 0, .slice none 0 0, .slice none 0 0] 40)).alloc (.cells #[.int .i64 0, .int .i64 0, .int .i64 0, .int .i64 0, .slice none 0 0, .slice none 0 0] 40)) w.heap.size 26 #[.int .i64 sa, .int .i64 si, .int .i64 ho, .int .i64 nx, .slice a1 n1 c1, .slice a2 n2 c2] := ((Blk.mk _ _ _ _ rfl).alloc _).alloc _
  have b1 : Blk (((w.alloc (.cells #[.int .i64 sa, .int .i64 si, .int .i64 ho, .int .i64 nx, .slice a1 n1 c1, .slice a2 n2 c2] 26)).alloc (.cells #[.int .i64 0, .int .i64 0, .int .i64 0, .int .i64 0, .slice none 0 0, .slice none 0 0] 40)).alloc (.cells #[.int .i64 0, .int .i64 0, .int .i64 0, .int .i64 0, .slice none 0 0, .slice none 0 0] 40)) (w.heap.size + 1) 40 #[.int .i64 0, .int .i64 0, .int .i64 0, .int .i64 0, .slice none 0 0, .slice none 0 0] := (Blk.mk _ _ _ _ (by simp)).alloc _
  have b2 : Blk (((w.alloc (.cells #[.int .i64 sa, .int .i64 si, .int .i64 ho, .int .i64 nx, .slice a1 n1 c1, .slice a2 n2 c2] 26)).alloc (.cells #[.int .i64 0, .int .i64 0, .int .i64 0, .int .i64 0, .slice none 0 0, .slice none 0 0] 40)).alloc (.cells #[.int .i64 0, .int .i64 0, .int .i64 0, .int .i64 0, .slice none 0 0, .slice none 0 0] 40)) (w.heap.size + 1 + 1) 40 #[.int .i64 0, .int .i64 0, .int .i64 0, .int .i64 0, .slice none 0 0, .slice none 0 0] := Blk.mk _ _ _ _ (by simp)
  have ge1 : w.heap.size ≤ w.heap.size + 1 := by omega
  have ge2 : w.heap.size ≤ w.heap.size + 1 + 1 := by omega
  have d01 : ¬ w.heap.size + 1 + 1 = w.heap.size := by omega
  have d12 : ¬ w.heap.size + 1 + 1 = w.heap.size + 1 := by omega
  go_enter Tryz.func17, Tryz.ntmps17
  go_wp2_with fail
  refine (toCfg_any sa si ho _).mono ?_
  rintro e w1 ⟨rfl, hn1⟩
  have n1' := hw0.trans hn1
  have p0 := b0.new hn1
  have p1 := b1.new hn1
  have p2 := b2.new hn1
  have c0 := p0.cells
  have c2' := p2.cells
  have f2 := p2.frees
  have t1 : Turn (fun k => k = w.heap.size + 1 + 1) w1 ((((w1.setCell ⟨w.heap.size + 1 + 1, 0, none⟩ (.int .i64 sa)).setCell ⟨w.heap.size + 1 + 1, 1, none⟩ (.int .i64 si)).setCell ⟨w.heap.size + 1 + 1, 2, none⟩ (.int .i64 ho)).setCell ⟨w.heap.size + 1 + 1, 3, none⟩ (.int .i64 nx)) := Turn.here9 (Turn.here9 (Turn.here9 (Turn.here9 (Turn.refl _ _) _) _) _) _
  have n1'' : New w ((((w1.setCell ⟨w.heap.size + 1 + 1, 0, none⟩ (.int .i64 sa)).setCell ⟨w.heap.size + 1 + 1, 1, none⟩ (.int .i64 si)).setCell ⟨w.heap.size + 1 + 1, 2, none⟩ (.int .i64 ho)).setCell ⟨w.heap.size + 1 + 1, 3, none⟩ (.int .i64 nx)) := (((n1'.setCell ge2 _).setCell ge2 _).setCell ge2 _).setCell ge2 _
  have q2 := ((((p2.set 0 (.int .i64 sa)).set 1 (.int .i64 si)).set 2 (.int .i64 ho)).set 3 (.int .i64 nx))
  have q0 := p0.turn t1 (by omega)
  have q1 := p1.turn t1 (by omega)
  have sz0 := n1'.size
  have sz1 := t1.size
  have hs0 := hn1.size
  simp at hs0
  clear b0 b1 b2 hn1 p0 p1 p2 hw0
  go_wp2_with fail
  refine (toRs_any a1 n1 c1 r1 _ (h1.new n1'') e1 m1).mono ?_
  rintro e w2 ⟨g1, rfl, hg1, ho1, hn2⟩
  have n2' := n1''.trans hn2
  have s0 := q0.new hn2
  have s1 := q1.new hn2
  have s2 : Blk w2 (w.heap.size + 1 + 1) 40 #[.int .i64 sa, .int .i64 si, .int .i64 ho, .int .i64 nx, .slice none 0 0, .slice none 0 0] := q2.new hn2
  have lt1 := ho1.lt
  have hg1' : w.heap.size + 3 ≤ g1 := by omega
  clear c0 c2' f2 q0 q1 q2 t1
  have c0 := s0.cells
  have c2' := s2.cells
  have f2 := s2.frees
  have t2 : Turn (fun k => k = w.heap.size + 1 + 1) w2 (w2.setCell ⟨w.heap.size + 1 + 1, 4, none⟩ (.slice (some ⟨g1, 0, none⟩) n1 n1)) := Turn.here9 (Turn.refl _ _) _
  have n2'' : New w (w2.setCell ⟨w.heap.size + 1 + 1, 4, none⟩ (.slice (some ⟨g1, 0, none⟩) n1 n1)) := n2'.setCell ge2 _
  have q2 := s2.set 4 (.slice (some ⟨g1, 0, none⟩) n1 n1)
  have q1 := s1.turn t2 (by omega)
  have oo1 := ho1.turn t2 (by omega)
  have sz2 := t2.size
  clear hn2 s0 s1 s2 ho1
  go_wp2_with fail
  refine (toRs_any a2 n2 c2 r2 _ (h2.new n2'') e2 m2).mono ?_
  rintro e w3 ⟨g2, rfl, hg2, ho2, hn3⟩
  have n3' := n2''.trans hn3
  have s1 := q1.new hn3
  have s2 : Blk w3 (w.heap.size + 1 + 1) 40 #[.int .i64 sa, .int .i64 si, .int .i64 ho, .int .i64 nx, .slice (some ⟨g1, 0, none⟩) n1 n1, .slice none 0 0] := q2.new hn3
  have o31 := oo1.new hn3
  clear c0 c2' f2 q1 q2 t2 oo1
  have c1' := s1.cells
  have f1 := s1.frees
  have c2' := s2.cells
  have f2 := s2.frees
  have h12 : g1 < g2 := by omega
  have e11 : ¬ w.heap.size + 1 = g1 := by omega
  have e12 : ¬ w.heap.size + 1 = g2 := by omega
  have e21 : ¬ w.heap.size + 1 + 1 = g1 := by omega
  have e22 : ¬ w.heap.size + 1 + 1 = g2 := by omega
  go_wp2
  refine bodyPost_ret (v := .agg #[.int .i64 sa, .int .i64 si, .int .i64 ho, .int .i64 nx, .slice (some ⟨g1, 0, none⟩) n1 n1, .slice (some ⟨g2, 0, none⟩) n2 n2]) (by simp [results, Tryz.results17, go_sem, c1']) rfl ⟨g1, g2, rfl, by omega, h12, ?_, ?_, ?_⟩
  · simp (disch := (first | exact e11 | exact e21)) only [OwR.set_iff, o31]
  · simp (disch := (first | exact e12 | exact e22)) only [OwR.set_iff, ho2]
  · simp (disch := (first | exact ge1 | exact ge2)) only [New.set_iff, n3']

set_option maxHeartbeats 400000 in
theorem eqCf9 (sa si ho : Int) (w : World) : Calls Tryz.prog 58 #[.agg #[.int .i64 sa, .int .i64 si, .int .i64 ho], .agg #[.int .i64 sa, .int .i64 si, .int .i64 ho]] w fun e w' => e = .returned (.bool true) ∧ New w w' := by
  have z1 : (sa != sa) = false := by simp
  have z2 : (si != si) = false := by simp
  have z3 : (ho != ho) = false := by simp
  go_enter Tryz.func58, Tryz.ntmps58
  go_wp2
  go_ret
  exact ⟨rfl, ((New.refl w).alloc _).alloc _⟩

set_option maxHeartbeats 1600000 in
theorem eqSe_any (sa si ho nx : Int) (a1 a2 b1 b2 : Option Addr) (n1 c1 n2 c2 d1 d2 : Nat) (r1 r2 : List Ru) (w : World) (h1 : RsAt w a1 r1) (h2 : RsAt w a2 r2) (e1 : r1.length = n1) (e2 : r2.length = n2) (m1 : n1 ≤ 1048576) (m2 : n2 ≤ 1048576) (k1 : RsAt w b1 r1) (k2 : RsAt w b2 r2) :
    Calls Tryz.prog 27 #[.agg #[.int .i64 sa, .int .i64 si, .int .i64 ho, .int .i64 nx, .slice a1 n1 c1, .slice a2 n2 c2], .agg #[.int .i64 sa, .int .i64 si, .int .i64 ho, .int .i64 nx, .slice b1 n1 d1, .slice b2 n2 d2]] w fun e w' => e = .returned (.bool true) ∧ New w w' := by
  have hw := ((New.refl w).alloc (.cells #[.int .i64 sa, .int .i64 si, .int .i64 ho, .int .i64 nx, .slice a1 n1 c1, .slice a2 n2 c2] 40)).alloc (.cells #[.int .i64 sa, .int .i64 si, .int .i64 ho, .int .i64 nx, .slice b1 n1 d1, .slice b2 n2 d2] 40)
  have bA : Blk ((w.alloc (.cells #[.int .i64 sa, .int .i64 si, .int .i64 ho, .int .i64 nx, .slice a1 n1 c1, .slice a2 n2 c2] 40)).alloc (.cells #[.int .i64 sa, .int .i64 si, .int .i64 ho, .int .i64 nx, .slice b1 n1 d1, .slice b2 n2 d2] 40)) w.heap.size 40 #[.int .i64 sa, .int .i64 si, .int .i64 ho, .int .i64 nx, .slice a1 n1 c1, .slice a2 n2 c2] := (Blk.mk _ _ _ _ rfl).alloc _
  have bB : Blk ((w.alloc (.cells #[.int .i64 sa, .int .i64 si, .int .i64 ho, .int .i64 nx, .slice a1 n1 c1, .slice a2 n2 c2] 40)).alloc (.cells #[.int .i64 sa, .int .i64 si, .int .i64 ho, .int .i64 nx, .slice b1 n1 d1, .slice b2 n2 d2] 40)) (w.heap.size + 1) 40 #[.int .i64 sa, .int .i64 si, .int .i64 ho, .int .i64 nx, .slice b1 n1 d1, .slice b2 n2 d2] := Blk.mk _ _ _ _ (by simp)
  have hb : (nx != nx) = false := by simp
  go_enter Tryz.func27, Tryz.ntmps27
  go_wp2_with fail
  refine (eqCf9 sa si ho _).mono ?_
  rintro e w0 ⟨rfl, hn0⟩
  have hw0 := hw.trans hn0
  have bA0 := bA.new hn0
  have bB0 := bB.new hn0
  have cA := bA0.cells
  have cB := bB0.cells
  go_wp2_with fail
  refine (eqRs_any a1 b1 n1 c1 d1 r1 _ (h1.new hw0) (k1.new hw0) e1 m1).mono ?_
  rintro e w1 ⟨rfl, hn1⟩
  have hw1 := hw0.trans hn1
  clear cA cB
  have cA := (bA0.new hn1).cells
  have cB := (bB0.new hn1).cells
  go_wp2_with fail
  refine (eqRs_any a2 b2 n2 c2 d2 r2 _ (h2.new hw1) (k2.new hw1) e2 m2).mono ?_
  rintro e w2 ⟨rfl, hn2⟩
  go_wp2
  go_ret
  exact ⟨rfl, hw1.trans hn2⟩

end Go.Proofs.YtlkhmnjghdbmoaaGreatDoor

namespace Go.Proofs.YtlkhmnjghdbmoaaGreatDoor
open Go.ChangeShapes Go.WideShapes Go.ChangeAt Go.RowKit Go.Deep
set_option linter.unusedVariables false

theorem arr6g {α : Type} {cs : Array α} (h : cs.size = 6) : ∃ c0 c1 c2 c3 c4 c5, cs = #[c0, c1, c2, c3, c4, c5] := by
  obtain ⟨l⟩ := cs
  match l, h with
  | [c0, c1, c2, c3, c4, c5], _ => exact ⟨c0, c1, c2, c3, c4, c5, rfl⟩
theorem Tryz.cSe9 : Tryz.prog.cellsOf 26 = 6 := by kernel_rfl
theorem Tryz.cRs9 : Tryz.prog.cellsOf 24 = 1 := by kernel_rfl
theorem Tryz.cI9g : Tryz.prog.cellsOf 2 = 1 := by kernel_rfl
theorem Tryz.cCf9 : Tryz.prog.cellsOf 23 = 3 := by kernel_rfl

set_option maxRecDepth 100000 in
theorem open_rules_cell {H : Type} {enc : TypeId × Value → H} {W : World} {base fuel : Nat} {t1 : Nat → Bool} {t2 : Bool} {v : Value} {y : DataW H × List MemPlace}
    (h : DataW.trod enc Tryz.prog W base t1 t2 fuel 24 [v] = some y) : ∃ (a : Option Addr) (n c : Nat) (rs : List Ru), v = .slice a n c ∧ RsAt W a rs ∧ rs.length = n ∧ n ≤ maxLen := by
  have hb : ∃ (a : Option Addr) (n c : Nat), v = .slice a n c := by
    rcases open_slice Tryz.underlying24 h with ⟨hcs, _⟩ | ⟨x, l, cc, m, k, D, Pl, hcs, _⟩
    · simp only [List.cons.injEq, and_true] at hcs
      exact ⟨none, 0, 0, hcs⟩
    · simp only [List.cons.injEq, and_true] at hcs
      exact ⟨some x, l, cc, hcs⟩
  obtain ⟨a, n, c, rfl⟩ := hb
  obtain ⟨rs, k1, k2, k3⟩ := open_rules (enc := enc) (W := W) (base := base) (t1 := t1) (t2 := t2) (a := a) (n := n) (c := c) (d := y.1) (p := y.2) ⟨fuel, by simpa [Value.cells] using h⟩
  exact ⟨a, n, c, rs, rfl, k1, k2, k3⟩

set_option maxRecDepth 100000 in
theorem open_settings_cells {H : Type} {enc : TypeId × Value → H} {W : World} {base fuel : Nat} {t1 : Nat → Bool} {t2 : Bool} {c0 c1 c2 c3 c4 c5 : Value} {y : DataW H × List MemPlace}
    (h : DataW.trod enc Tryz.prog W base t1 t2 fuel 26 [c0, c1, c2, c3, c4, c5] = some y) :
    ∃ (sa si ho nx : Int) (a1 a2 : Option Addr) (n1 k1 n2 k2 : Nat) (r1 r2 : List Ru), [c0, c1, c2, c3, c4, c5] = [.int .i64 sa, .int .i64 si, .int .i64 ho, .int .i64 nx, .slice a1 n1 k1, .slice a2 n2 k2] ∧ (RsAt W a1 r1 ∧ r1.length = n1 ∧ n1 ≤ maxLen) ∧ (RsAt W a2 r2 ∧ r2.length = n2 ∧ n2 ≤ maxLen) := by
  obtain ⟨xs, m, _, rfl, hl, hlen, hf⟩ := DataW.trod_struct Tryz.underlying26 h
  match xs, hlen with
  | [y0, y1, y2, y3], _ =>
    have k0 := hf 0 _ rfl
    have k1 := hf 1 _ rfl
    have k2 := hf 2 _ rfl
    have k3 := hf 3 _ rfl
    simp [Tryz.cI9g, Tryz.cCf9, Tryz.cRs9] at k0 k1 k2 k3
    obtain ⟨ys, m', _, rfl, hl', hlen', hf'⟩ := DataW.trod_struct Tryz.underlying23 k0
    match ys, hlen' with
    | [z0, z1, z2], _ =>
      have j0 := hf' 0 _ rfl
      have j1 := hf' 1 _ rfl
      have j2 := hf' 2 _ rfl
      simp [Tryz.cI9g] at j0 j1 j2
      obtain ⟨sa, e0, -, w0⟩ := DataW.trod_int Tryz.underlying2 j0
      obtain ⟨si, e1, -, w1⟩ := DataW.trod_int Tryz.underlying2 j1
      obtain ⟨ho, e2, -, w2⟩ := DataW.trod_int Tryz.underlying2 j2
      obtain ⟨nx, e3, -, w3⟩ := DataW.trod_int Tryz.underlying2 k1
      obtain ⟨a1, n1, d1, r1, rfl, u1, u2, u3⟩ := open_rules_cell k2
      obtain ⟨a2, n2, d2, r2, rfl, v1, v2, v3⟩ := open_rules_cell k3
      simp only [List.cons.injEq, and_true] at e0 e1 e2 e3
      subst e0 e1 e2 e3
      exact ⟨sa, si, ho, nx, a1, a2, n1, d1, n2, d2, r1, r2, rfl, ⟨u1, u2, u3⟩, ⟨v1, v2, v3⟩⟩

set_option maxRecDepth 100000 in
theorem open_settings {H : Type} {enc : TypeId × Value → H} {W : World} {base b0 : Nat} {r : Reach} {t1 : Nat → Bool} {t2 : Bool} {v : Value} {d : DataW H} {p : List MemPlace}
    (hv : Value.okWide Tryz.prog W r b0 26 v) (h0 : DataW.Trod enc Tryz.prog W base t1 t2 26 v d p) :
    ∃ (sa si ho nx : Int) (a1 a2 : Option Addr) (n1 k1 n2 k2 : Nat) (r1 r2 : List Ru), v = .agg #[.int .i64 sa, .int .i64 si, .int .i64 ho, .int .i64 nx, .slice a1 n1 k1, .slice a2 n2 k2] ∧ (RsAt W a1 r1 ∧ r1.length = n1 ∧ n1 ≤ maxLen) ∧ (RsAt W a2 r2 ∧ r2.length = n2 ∧ n2 ≤ maxLen) := by
  obtain ⟨cs, rfl, hsz⟩ := okWide_struct Tryz.underlying26 hv
  obtain ⟨c0, c1, c2, c3, c4, c5, rfl⟩ := arr6g (hsz.trans Tryz.cSe9)
  obtain ⟨fuel, hf⟩ := h0
  have hf' : DataW.trod enc Tryz.prog W base t1 t2 fuel 26 [c0, c1, c2, c3, c4, c5] = some (d, p) := by simpa [Value.cells] using hf
  obtain ⟨sa, si, ho, nx, a1, a2, n1, k1, n2, k2, r1, r2, hr, x1, x2⟩ := open_settings_cells hf'
  simp only [List.cons.injEq, and_true] at hr
  obtain ⟨rfl, rfl, rfl, rfl, rfl, rfl⟩ := hr
  exact ⟨sa, si, ho, nx, a1, a2, n1, k1, n2, k2, r1, r2, rfl, x1, x2⟩

end Go.Proofs.YtlkhmnjghdbmoaaGreatDoor
