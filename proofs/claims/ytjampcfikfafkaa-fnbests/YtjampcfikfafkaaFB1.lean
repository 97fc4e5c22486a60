/- What is proved here: what container/heap's up does at a heap of routes, for a heap that can be read. What is proved here: what container/heap's down does at a heap of routes, for a heap that can be read. What is proved here: what Pop of a heap of routes, and container/heap's Pop, answer, for a heap that can be read. What is proved here: what Push of a heap of routes, and container/heap's Push, do, for a heap that can be read. What is proved here: what container/heap's Push does, and what the program's heap of a list of routes is, for a list that can be read. What is proved here: what the program's heap of a list of routes is, for a list that can be read. What is proved here: a range over a method value whose iterator turns memory that lay ahead of the loop; and what the heap's iterator hands over first. What is proved here: what the program's going through a list of routes for one prefix answers, for lists of at most 1048576 routes with paths of at most 1048576 numbers. What is proved here: what the program's BestFor answers of a list without a fault. -/
import Derived.Test.YtjampcfikfafkaaH8Sw
import Derived.Test.YtjampcfikfafkaaH8Fn
import Derived.Handy
import Derived.RangeFuncNested
import Derived.RangeFuncBound
import Derived.RangeFuncCalls
import Derived.RangeFuncLeaves
import Derived.Shelf.Abstract
import Derived.Shelf.RegionOpen
import Derived.WalkKit
import Derived.OwnWalkIn
import Derived.TacticsInMore
import Derived.LoopNIn
import Derived.LoopIn
import Derived.Test.YtjampcfikfafkaaR7Ap
import Derived.Test.YtjampcfikfafkaaR7Rf
import Derived.Deep.CutRange
import Derived.Test.YtjampcfikfafkaaR7Rib
namespace Go.Proofs.Ytjampcfikfafkaa
open Go.RowKit Go.Sort
set_option linter.unusedVariables false
set_option linter.unusedSimpArgs false

/-- The heap as heap's functions are handed it. -/
abbrev hpI (H : Nat) : Value := .iface 45 (.pointer (some ⟨H, 0, none⟩))

set_option maxRecDepth 100000 in
set_option maxHeartbeats 6400000 in
theorem up_heap (H b c : Nat) (V : List Rv) (n j : Nat) (w : World) (hp : HpAt w H b c V) (hn : V.length = n) (hm : n ≤ 1048576) (hj : j < n) (hu : upOK hlt (hf V) n j) : Calls Try.prog 50 #[.iface 45 (.pointer (some ⟨H, 0, none⟩)), .int .i64 j] w fun e w' => e = .returned (.tuple #[]) ∧ ∃ V', HpAt w' H b c V' ∧ V'.Perm V ∧ hpOK hlt (hf V') n ∧ Turn (fun k => k = b) w w' := by
  have HN : Hid (V.length = n) := hn
  go_enter Try.func50, Try.ntmps50
  go_wp2_with fail
  go_loopw [1] (fun jv wr => ∃ (j' : Nat) (V' : List Rv), jv = .int .i64 j' ∧ j' < n ∧ HpAt wr H b c V' ∧ V'.Perm V ∧ upOK hlt (hf V') n j' ∧ Turn (fun k => k = b) w wr) (fun jv _ => (intOf jv).toNat)
  case atStart => exact ⟨j, V, rfl, hj, hp, List.Perm.refl _, hu, Turn.refl _ _⟩
  case round =>
    obtain ⟨j', V', rfl, hj', hp', hpm, hup, ht⟩ := hrel
    have HN' : Hid (V'.length = n) := hpm.length_eq.trans HN.out
    have HP : Hid (HpAt wr H b c V') := hp'
    have HM : Hid (V'.Perm V) := hpm
    have HU : Hid (upOK hlt (hf V') n j') := hup
    clear hp' hpm hup hp hu hn
    by_cases h0 : j' = 0
    · subst h0
      go_wp2
      go_returns
      exact ⟨rfl, V', HP.out, HM.out, up_done HU.out (.inl rfl), ht⟩
    · have hi1 : (j' : Int) - 1 = ((j' - 1 : Nat) : Int) := by omega
      have hw1 : IntKind.i64.wrap ((j' : Int) - 1) = ((j' - 1 : Nat) : Int) := by rw [IntKind.wrap_i64]; omega
      have hu' : V'[j']? = some (hf V' j') := hf_at (by rw [HN'.out]; omega)
      have hv' : V'[(j' - 1) / 2]? = some (hf V' ((j' - 1) / 2)) := hf_at (by rw [HN'.out]; omega)
      have HU' : Hid (V'[j']? = some (hf V' j')) := hu'
      have HV' : Hid (V'[(j' - 1) / 2]? = some (hf V' ((j' - 1) / 2))) := hv'
      clear hu' hv'
      by_cases hl : hlt (hf V' j') (hf V' ((j' - 1) / 2))
      case neg =>
        have HD : Hid (hpOK hlt (hf V') n) := up_done HU.out (.inr hl)
        have HZ : Hid (decide (hcmp (hf V' j').r (hf V' ((j' - 1) / 2)).r < 0) = false) := decide_eq_false hl
        clear hl
        go_wp2_with fail
        rw [show ((j' - 1 : Nat) : Int) / 2 = (((j' - 1) / 2 : Nat) : Int) by omega]
        have hne : ((((j' - 1) / 2 : Nat) : Int) == (j' : Int)) = false := by simp; omega
        refine (less_heap H b c V' n j' ((j' - 1) / 2) _ _ false wr HP.out HN'.out hm HU'.out HV'.out HZ.out).mono ?_
        rintro e w1 ⟨rfl, hn1⟩
        rw [hne]
        go_wp2
        go_returns
        exact ⟨rfl, V', HP.out.new hn1, HM.out, HD.out, Turn.trans ht hn1.turn (fun _ _ e => e)⟩
      case pos =>
        have HZ : Hid (decide (hcmp (hf V' j').r (hf V' ((j' - 1) / 2)).r < 0) = true) := decide_eq_true hl
        have HS : Hid (upOK hlt (hf ((V'.set ((j' - 1) / 2) (hf V' j')).set j' (hf V' ((j' - 1) / 2)))) n ((j' - 1) / 2)) := by
          have h := up_step (fun a b c => hlt_tr a b c) hlt_asy HU.out (by omega) hj' hl
          rw [← hf_sw HV'.out HU'.out] at h
          exact h
        clear hl
        go_wp2_with fail
        rw [show ((j' - 1 : Nat) : Int) / 2 = (((j' - 1) / 2 : Nat) : Int) by omega]
        have hne : ((((j' - 1) / 2 : Nat) : Int) == (j' : Int)) = false := by simp; omega
        refine (less_heap H b c V' n j' ((j' - 1) / 2) _ _ true wr HP.out HN'.out hm HU'.out HV'.out HZ.out).mono ?_
        rintro e w1 ⟨rfl, hn1⟩
        rw [hne]
        go_wp2_with fail
        refine (swap_heap H b c V' n ((j' - 1) / 2) j' _ _ w1 (HP.out.new hn1) HN'.out hm HV'.out HU'.out).mono ?_
        rintro e w2 ⟨rfl, hp2, t2⟩
        have HP2 : Hid (HpAt w2 H b c ((V'.set ((j' - 1) / 2) (hf V' j')).set j' (hf V' ((j' - 1) / 2)))) := hp2
        clear hp2
        go_wp2
        go_roundw
        case rel => exact ⟨(j' - 1) / 2, _, rfl, by omega, HP2.out, (perm_sw HV'.out HU'.out).trans HM.out, HS.out, Turn.trans (Turn.trans ht hn1.turn (fun _ _ e => e)) t2 (fun _ _ e => e)⟩
        case measure => simp [intOf]; omega

end Go.Proofs.Ytjampcfikfafkaa

namespace Go.Proofs.Ytjampcfikfafkaa
open Go.RowKit Go.Sort
set_option linter.unusedVariables false
set_option linter.unusedSimpArgs false

/-- A heap down to a place: what lies behind the place is left as it is. -/
theorem dn_both {f : Nat → Rv} {n i j : Nat} (tr : ∀ a b c : Rv, ¬ hlt b a → ¬ hlt c b → ¬ hlt c a) (h1 : 2 * i + 1 < n) (hj : (j = 2 * i + 1 ∧ (2 * i + 2 < n → ¬ hlt (f (2 * i + 2)) (f (2 * i + 1)))) ∨ (j = 2 * i + 2 ∧ 2 * i + 2 < n ∧ hlt (f (2 * i + 2)) (f (2 * i + 1)))) : ∀ k, 0 < k → k < n → (k - 1) / 2 = i → ¬ hlt (f k) (f j) := by
  intro k k0 kn ki
  have hk : k = 2 * i + 1 ∨ k = 2 * i + 2 := by omega
  rcases hj with ⟨rfl, h⟩ | ⟨rfl, h2, h⟩
  · rcases hk with rfl | rfl
    · exact hlt_irr _
    · exact h kn
  · rcases hk with rfl | rfl
    · exact hlt_asy _ _ h
    · exact hlt_irr _

set_option maxRecDepth 100000 in
set_option maxHeartbeats 6400000 in
theorem down_heap (H b c : Nat) (V : List Rv) (n N : Nat) (w : World) (hp : HpAt w H b c V) (hn : V.length = N) (hm : N ≤ 1048576) (hnN : n ≤ N) (hu : dnOK hlt (hf V) n 0) : Calls Try.prog 52 #[.iface 45 (.pointer (some ⟨H, 0, none⟩)), .int .i64 0, .int .i64 n] w fun e w' => (∃ z, e = .returned (.bool z)) ∧ ∃ V', HpAt w' H b c V' ∧ V'.Perm V ∧ hpOK hlt (hf V') n ∧ (∀ k, n ≤ k → hf V' k = hf V k) ∧ Turn (fun k => k = b) w w' := by
  have HN : Hid (V.length = N) := hn
  go_enter Try.func52, Try.ntmps52
  go_wp2_with fail
  go_loopw [7] (fun iv wr => ∃ (i : Nat) (V' : List Rv), iv = .int .i64 i ∧ (i < n ∨ i = 0) ∧ HpAt wr H b c V' ∧ V'.Perm V ∧ dnOK hlt (hf V') n i ∧ (∀ k, n ≤ k → hf V' k = hf V k) ∧ Turn (fun k => k = b) w wr) (fun iv _ => n - (intOf iv).toNat)
  case atStart => exact ⟨0, V, rfl, .inr rfl, hp, List.Perm.refl _, hu, fun _ _ => rfl, Turn.refl _ _⟩
  case round =>
    obtain ⟨i, V', rfl, hi, hp', hpm, hup, hfar, ht⟩ := hrel
    have HN' : Hid (V'.length = N) := hpm.length_eq.trans HN.out
    have HP : Hid (HpAt wr H b c V') := hp'
    have HM : Hid (V'.Perm V) := hpm
    have HU : Hid (dnOK hlt (hf V') n i) := hup
    have HFA : Hid (∀ k, n ≤ k → hf V' k = hf V k) := hfar
    have HT : Hid (Turn (fun k => k = b) w wr) := ht
    clear hp' hpm hup hp hu hn hfar ht
    have hw1 : IntKind.i64.wrap (2 * (i : Int)) = 2 * (i : Int) := by rw [IntKind.wrap_i64]; omega
    have hw2 : IntKind.i64.wrap (2 * (i : Int) + 1) = 2 * (i : Int) + 1 := by rw [IntKind.wrap_i64]; omega
    have hg0 : ¬ 2 * (i : Int) + 1 < 0 := by omega
    by_cases h1 : 2 * i + 1 < n
    case neg =>
      have hge : (n : Int) ≤ 2 * (i : Int) + 1 := by omega
      have HD : Hid (hpOK hlt (hf V') n) := dn_done HU.out (fun k k0 kn ki => by omega)
      go_wp2
      go_returns
      exact ⟨by first | exact trivial | exact ⟨_, rfl⟩ | (simp; omega), V', HP.out, HM.out, HD.out, HFA.out, HT.out⟩
    case pos =>
      have hge : ¬ (n : Int) ≤ 2 * (i : Int) + 1 := by omega
      have hw3 : IntKind.i64.wrap (2 * (i : Int) + 1 + 1) = 2 * (i : Int) + 1 + 1 := by rw [IntKind.wrap_i64]; omega
      by_cases h2 : 2 * i + 2 < n
      case neg =>
        have hl2 : ¬ 2 * (i : Int) + 1 + 1 < (n : Int) := by omega
        have HJ : Hid (V'[2 * i + 1]? = some (hf V' (2 * i + 1))) := hf_at (by rw [HN'.out]; omega)
        have HI : Hid (V'[i]? = some (hf V' i)) := hf_at (by rw [HN'.out]; omega)
        have HB : Hid (∀ k, 0 < k → k < n → (k - 1) / 2 = i → ¬ hlt (hf V' k) (hf V' (2 * i + 1))) := dn_both hlt_tr h1 (.inl ⟨rfl, fun h => absurd h h2⟩)
        by_cases hl : hlt (hf V' (2 * i + 1)) (hf V' i)
        case neg =>
          have HD : Hid (hpOK hlt (hf V') n) := dn_done HU.out (fun k k0 kn ki => hlt_tr _ _ _ hl (HB.out k k0 kn ki))
          have HZ : Hid (decide (hcmp (hf V' (2 * i + 1)).r (hf V' i).r < 0) = false) := decide_eq_false hl
          clear hl
          go_wp2_with fail
          rw [show 2 * (i : Int) + 1 = ((2 * i + 1 : Nat) : Int) by omega]
          refine (less_heap H b c V' N (2 * i + 1) i _ _ false wr HP.out HN'.out hm HJ.out HI.out HZ.out).mono ?_
          rintro e w2 ⟨rfl, hn2⟩
          go_wp2
          go_returns
          exact ⟨by first | exact trivial | exact ⟨_, rfl⟩ | (simp; omega), V', (HP.out).new hn2, HM.out, HD.out, HFA.out, Turn.trans (HT.out) hn2.turn (fun _ _ e => e)⟩
        case pos =>
          have HZ : Hid (decide (hcmp (hf V' (2 * i + 1)).r (hf V' i).r < 0) = true) := decide_eq_true hl
          have HS : Hid (dnOK hlt (hf ((V'.set i (hf V' (2 * i + 1))).set (2 * i + 1) (hf V' i))) n (2 * i + 1)) := by
            have h := dn_step hlt_asy HU.out (by omega) (by omega) (by omega) hl HB.out
            rw [← hf_sw HI.out HJ.out] at h
            exact h
          have HG : Hid (∀ k, n ≤ k → hf ((V'.set i (hf V' (2 * i + 1))).set (2 * i + 1) (hf V' i)) k = hf V k) := fun k hk => by
            rw [hf_sw HI.out HJ.out, sw_o _ (by omega) (by omega)]
            exact HFA.out k hk
          clear hl
          go_wp2_with fail
          rw [show 2 * (i : Int) + 1 = ((2 * i + 1 : Nat) : Int) by omega]
          refine (less_heap H b c V' N (2 * i + 1) i _ _ true wr HP.out HN'.out hm HJ.out HI.out HZ.out).mono ?_
          rintro e w2 ⟨rfl, hn2⟩
          go_wp2_with fail
          refine (swap_heap H b c V' N i (2 * i + 1) _ _ w2 ((HP.out).new hn2) HN'.out hm HI.out HJ.out).mono ?_
          rintro e w3 ⟨rfl, hp3, t3⟩
          have HP3 : Hid (HpAt w3 H b c ((V'.set i (hf V' (2 * i + 1))).set (2 * i + 1) (hf V' i))) := hp3
          clear hp3
          go_wp2
          go_roundw
          case rel => exact ⟨2 * i + 1, _, rfl, .inl (by omega), HP3.out, (perm_sw HI.out HJ.out).trans HM.out, HS.out, HG.out, Turn.trans (Turn.trans (HT.out) hn2.turn (fun _ _ e => e)) t3 (fun _ _ e => e)⟩
          case measure => simp [intOf]; omega
      case pos =>
        have hl2 : 2 * (i : Int) + 1 + 1 < (n : Int) := by omega
        have HR : Hid (V'[2 * i + 2]? = some (hf V' (2 * i + 2))) := hf_at (by rw [HN'.out]; omega)
        have HL : Hid (V'[2 * i + 1]? = some (hf V' (2 * i + 1))) := hf_at (by rw [HN'.out]; omega)
        by_cases hc : hlt (hf V' (2 * i + 2)) (hf V' (2 * i + 1))
        case pos =>
          have HC : Hid (hlt (hf V' (2 * i + 2)) (hf V' (2 * i + 1))) := hc
          have HZC : Hid (decide (hcmp (hf V' (2 * i + 2)).r (hf V' (2 * i + 1)).r < 0) = true) := decide_eq_true hc
          clear hc
          go_wp2_with fail
          rw [show 2 * (i : Int) + 1 + 1 = ((2 * i + 2 : Nat) : Int) by omega, show 2 * (i : Int) + 1 = ((2 * i + 1 : Nat) : Int) by omega]
          refine (less_heap H b c V' N (2 * i + 2) (2 * i + 1) _ _ true wr HP.out HN'.out hm HR.out HL.out HZC.out).mono ?_
          rintro e w1 ⟨rfl, hn1⟩
          have HJ : Hid (V'[2 * i + 2]? = some (hf V' (2 * i + 2))) := hf_at (by rw [HN'.out]; omega)
          have HI : Hid (V'[i]? = some (hf V' i)) := hf_at (by rw [HN'.out]; omega)
          have HB : Hid (∀ k, 0 < k → k < n → (k - 1) / 2 = i → ¬ hlt (hf V' k) (hf V' (2 * i + 2))) := dn_both hlt_tr h1 (.inr ⟨rfl, h2, HC.out⟩)
          by_cases hl : hlt (hf V' (2 * i + 2)) (hf V' i)
          case neg =>
            have HD : Hid (hpOK hlt (hf V') n) := dn_done HU.out (fun k k0 kn ki => hlt_tr _ _ _ hl (HB.out k k0 kn ki))
            have HZ : Hid (decide (hcmp (hf V' (2 * i + 2)).r (hf V' i).r < 0) = false) := decide_eq_false hl
            clear hl
            go_wp2_with fail
            refine (less_heap H b c V' N (2 * i + 2) i _ _ false w1 (HP.out.new hn1) HN'.out hm HJ.out HI.out HZ.out).mono ?_
            rintro e w2 ⟨rfl, hn2⟩
            go_wp2
            go_returns
            exact ⟨by first | exact trivial | exact ⟨_, rfl⟩ | (simp; omega), V', ((HP.out.new hn1)).new hn2, HM.out, HD.out, HFA.out, Turn.trans (Turn.trans HT.out hn1.turn (fun _ _ e => e)) hn2.turn (fun _ _ e => e)⟩
          case pos =>
            have HZ : Hid (decide (hcmp (hf V' (2 * i + 2)).r (hf V' i).r < 0) = true) := decide_eq_true hl
            have HS : Hid (dnOK hlt (hf ((V'.set i (hf V' (2 * i + 2))).set (2 * i + 2) (hf V' i))) n (2 * i + 2)) := by
              have h := dn_step hlt_asy HU.out (by omega) (by omega) (by omega) hl HB.out
              rw [← hf_sw HI.out HJ.out] at h
              exact h
            have HG : Hid (∀ k, n ≤ k → hf ((V'.set i (hf V' (2 * i + 2))).set (2 * i + 2) (hf V' i)) k = hf V k) := fun k hk => by
              rw [hf_sw HI.out HJ.out, sw_o _ (by omega) (by omega)]
              exact HFA.out k hk
            clear hl
            go_wp2_with fail
            refine (less_heap H b c V' N (2 * i + 2) i _ _ true w1 (HP.out.new hn1) HN'.out hm HJ.out HI.out HZ.out).mono ?_
            rintro e w2 ⟨rfl, hn2⟩
            go_wp2_with fail
            refine (swap_heap H b c V' N i (2 * i + 2) _ _ w2 (((HP.out.new hn1)).new hn2) HN'.out hm HI.out HJ.out).mono ?_
            rintro e w3 ⟨rfl, hp3, t3⟩
            have HP3 : Hid (HpAt w3 H b c ((V'.set i (hf V' (2 * i + 2))).set (2 * i + 2) (hf V' i))) := hp3
            clear hp3
            go_wp2
            go_roundw
            case rel => exact ⟨2 * i + 2, _, rfl, .inl (by omega), HP3.out, (perm_sw HI.out HJ.out).trans HM.out, HS.out, HG.out, Turn.trans (Turn.trans (Turn.trans HT.out hn1.turn (fun _ _ e => e)) hn2.turn (fun _ _ e => e)) t3 (fun _ _ e => e)⟩
            case measure => simp [intOf]; omega
        case neg =>
          have HC : Hid (¬ hlt (hf V' (2 * i + 2)) (hf V' (2 * i + 1))) := hc
          have HZC : Hid (decide (hcmp (hf V' (2 * i + 2)).r (hf V' (2 * i + 1)).r < 0) = false) := decide_eq_false hc
          clear hc
          go_wp2_with fail
          rw [show 2 * (i : Int) + 1 + 1 = ((2 * i + 2 : Nat) : Int) by omega, show 2 * (i : Int) + 1 = ((2 * i + 1 : Nat) : Int) by omega]
          refine (less_heap H b c V' N (2 * i + 2) (2 * i + 1) _ _ false wr HP.out HN'.out hm HR.out HL.out HZC.out).mono ?_
          rintro e w1 ⟨rfl, hn1⟩
          have HJ : Hid (V'[2 * i + 1]? = some (hf V' (2 * i + 1))) := hf_at (by rw [HN'.out]; omega)
          have HI : Hid (V'[i]? = some (hf V' i)) := hf_at (by rw [HN'.out]; omega)
          have HB : Hid (∀ k, 0 < k → k < n → (k - 1) / 2 = i → ¬ hlt (hf V' k) (hf V' (2 * i + 1))) := dn_both hlt_tr h1 (.inl ⟨rfl, fun _ => HC.out⟩)
          by_cases hl : hlt (hf V' (2 * i + 1)) (hf V' i)
          case neg =>
            have HD : Hid (hpOK hlt (hf V') n) := dn_done HU.out (fun k k0 kn ki => hlt_tr _ _ _ hl (HB.out k k0 kn ki))
            have HZ : Hid (decide (hcmp (hf V' (2 * i + 1)).r (hf V' i).r < 0) = false) := decide_eq_false hl
            clear hl
            go_wp2_with fail
            refine (less_heap H b c V' N (2 * i + 1) i _ _ false w1 (HP.out.new hn1) HN'.out hm HJ.out HI.out HZ.out).mono ?_
            rintro e w2 ⟨rfl, hn2⟩
            go_wp2
            go_returns
            exact ⟨by first | exact trivial | exact ⟨_, rfl⟩ | (simp; omega), V', ((HP.out.new hn1)).new hn2, HM.out, HD.out, HFA.out, Turn.trans (Turn.trans HT.out hn1.turn (fun _ _ e => e)) hn2.turn (fun _ _ e => e)⟩
          case pos =>
            have HZ : Hid (decide (hcmp (hf V' (2 * i + 1)).r (hf V' i).r < 0) = true) := decide_eq_true hl
            have HS : Hid (dnOK hlt (hf ((V'.set i (hf V' (2 * i + 1))).set (2 * i + 1) (hf V' i))) n (2 * i + 1)) := by
              have h := dn_step hlt_asy HU.out (by omega) (by omega) (by omega) hl HB.out
              rw [← hf_sw HI.out HJ.out] at h
              exact h
            have HG : Hid (∀ k, n ≤ k → hf ((V'.set i (hf V' (2 * i + 1))).set (2 * i + 1) (hf V' i)) k = hf V k) := fun k hk => by
              rw [hf_sw HI.out HJ.out, sw_o _ (by omega) (by omega)]
              exact HFA.out k hk
            clear hl
            go_wp2_with fail
            refine (less_heap H b c V' N (2 * i + 1) i _ _ true w1 (HP.out.new hn1) HN'.out hm HJ.out HI.out HZ.out).mono ?_
            rintro e w2 ⟨rfl, hn2⟩
            go_wp2_with fail
            refine (swap_heap H b c V' N i (2 * i + 1) _ _ w2 (((HP.out.new hn1)).new hn2) HN'.out hm HI.out HJ.out).mono ?_
            rintro e w3 ⟨rfl, hp3, t3⟩
            have HP3 : Hid (HpAt w3 H b c ((V'.set i (hf V' (2 * i + 1))).set (2 * i + 1) (hf V' i))) := hp3
            clear hp3
            go_wp2
            go_roundw
            case rel => exact ⟨2 * i + 1, _, rfl, .inl (by omega), HP3.out, (perm_sw HI.out HJ.out).trans HM.out, HS.out, HG.out, Turn.trans (Turn.trans (Turn.trans HT.out hn1.turn (fun _ _ e => e)) hn2.turn (fun _ _ e => e)) t3 (fun _ _ e => e)⟩
            case measure => simp [intOf]; omega

end Go.Proofs.Ytjampcfikfafkaa

namespace Go.Proofs.Ytjampcfikfafkaa
open Go.RowKit Go.Sort
set_option linter.unusedVariables false
set_option linter.unusedSimpArgs false

theorem cellsT_take : ∀ (V : List Rv) (k : Nat), cellsT (V.take k) = (cellsT V).take (k * 8)
  | [], k => by simp [cellsT]
  | v :: V, 0 => by simp [cellsT]
  | v :: V, k + 1 => by
    have h8 : v.cs.length = 8 := rfl
    have e : v.cs.take ((k + 1) * 8) = v.cs := List.take_of_length_le (by rw [h8]; omega)
    rw [List.take_succ_cons, cellsT_app, cellsT_app, cellsT_take V k, List.take_append, e, h8, show (k + 1) * 8 - 8 = k * 8 by omega]
theorem OwRow.cut {w : World} {g n c : Nat} {V : List Rv} (h : OwRow w g n c V) (k : Nat) (hk : k ≤ n) : OwRow w g k c (V.take k) := by
  have hl := h.len
  refine ⟨by rw [cellsT_len, List.length_take]; omega, ?_⟩
  rcases h.2 with ⟨h', _⟩ | ⟨g', cap', cur, h', r1, r2, r3, r4, r5, r6⟩
  · simp at h'
  · simp only [Value.slice.injEq, Option.some.injEq, Addr.mk.injEq, and_true, true_and] at h'
    obtain ⟨rfl, rfl⟩ := h'
    refine .inr ⟨g, c, cur, rfl, r1, r2, by omega, r4, r5, ?_⟩
    rw [cellsT_take, ← r6, List.take_take, Nat.min_eq_left (by omega)]

theorem Try.htHp : Try.prog.underlying 59 = some (.slice (Try.prog.elem 59)) := by kernel_rfl
theorem Try.szHp (w : World) : (sizeOf (Try.prog.elem 59)).run Try.prog w = .ok 8 w := by kernel_rfl
theorem headH (b n c t : Nat) (ht : t ≤ c) : ∀ X, (Instr.slice 59 (.slice (some ⟨b, 0, none⟩) n c) none (some (.int .i64 (t : Int))) none).run Try.prog X = .ok (.slice (some ⟨b, 0, none⟩) t c) X := by
  intro X
  rw [run_slice_h X 59 (some ⟨b, 0, none⟩) n c Try.htHp .i64 t (by omega) (by omega), Try.szHp]
  by_cases hc : c = 0
  · simp [Result.andThen, sliced, hc]
  · simp [Result.andThen, sliced, hc, Addr.add]

/-- A route as a value. -/
def Rv.val (v : Rv) : Value := .agg #[.int .i64 v.r.p, .int .i64 v.r.a, .int .i64 v.r.l, .int .i64 v.r.o, .slice v.x v.r.xs.length v.c, .int .i64 v.r.nx, .int .i64 v.r.md, .int .i64 v.r.lc]

set_option maxRecDepth 100000 in
set_option maxHeartbeats 6400000 in
theorem popm_heap (H b c : Nat) (V : List Rv) (n : Nat) (w : World) (hp : HpAt w H b c V) (hn : V.length = n + 1) (hm : n + 1 ≤ 1048576) : Calls Try.prog 87 #[.pointer (some ⟨H, 0, none⟩)] w fun e w' => e = .returned (.iface 35 (hf V n).val) ∧ HpAt w' H b c (V.take n) ∧ Turn (fun k => k = H) w w' := by
  have hcap : n + 1 ≤ c := by
    rcases hp.row.2 with ⟨h', _⟩ | ⟨g', cap', cur, h', r1, r2, r3, r4, r5, r6⟩
    · simp at h'
    · simp only [Value.slice.injEq, Option.some.injEq, Addr.mk.injEq, and_true, true_and] at h'
      obtain ⟨rfl, rfl⟩ := h'
      omega
  have rt := hp.row.rt hp.here
  have hv0 := hf_at (V := V) (i := n) (by omega)
  obtain ⟨b1, off1, p, a, l, o, nx, md, lc, x, m, d, xs, hA1, hv1, hlen, -, -, -, q0, q1, q2, q3, q4, q5, q6, q7⟩ := rt.at n (by omega)
  simp only [Option.some.injEq, Addr.mk.injEq, and_true] at hA1
  obtain ⟨rfl, rfl⟩ := hA1
  rw [hv0] at hv1
  have HV : Hid (hf V n = ⟨⟨p, a, l, o, xs, nx, md, lc⟩, x, d⟩) := Option.some.inj hv1
  have HL : Hid (xs.length = m) := hlen
  simp only [Nat.zero_add] at q0 q1 q2 q3 q4 q5 q6 q7
  have hd := hp.hd
  rw [hn] at hd
  have HP : Hid (HpAt w H b c V) := hp
  have HN : Hid (V.length = n + 1) := hn
  have hS := headH b (n + 1) c n (by omega)
  have hw1 : IntKind.i64.wrap (((n + 1 : Nat) : Int) - 1) = (n : Int) := by rw [IntKind.wrap_i64]; omega
  have cH := hd.cells
  have hsz : H < w.heap.size := hd.lt
  have h0 : (0 : Int) ≤ (n : Int) := by omega
  have h1 : (n : Int) < ((n + 1 : Nat) : Int) := by omega
  have bR := Blk.mk w w.heap.size 35 #[.int .i64 p, .int .i64 a, .int .i64 l, .int .i64 o, .slice x m d, .int .i64 nx, .int .i64 md, .int .i64 lc] rfl
  have N1 : New w (w.alloc (.cells #[.int .i64 p, .int .i64 a, .int .i64 l, .int .i64 o, .slice x m d, .int .i64 nx, .int .i64 md, .int .i64 lc] 35)) := (New.refl w).alloc _
  have hd1 := hd.new N1
  have HB : Hid (¬ H = b) := hp.ne
  clear hv0 hv1 hlen rt hp hn hcap
  go_enter Try.func87, Try.ntmps87
  go_upto_region 3 with fail
  generalize w.alloc (.cells #[.int .i64 p, .int .i64 a, .int .i64 l, .int .i64 o, .slice x m d, .int .i64 nx, .int .i64 md, .int .i64 lc] 35) = w1 at *
  have cH1 := hd1.cells
  have fH1 := hd1.frees
  go_upto_region 4 with fail
  have T1 : Turn (fun k => k = H) w1 (w1.setCell ⟨H, 0, none⟩ (.slice (some ⟨b, 0, none⟩) n c)) := (Turn.refl (fun k => k = H) w1).set (p := ⟨H, 0, none⟩) rfl _
  have hd2 : Blk (w1.setCell ⟨H, 0, none⟩ (.slice (some ⟨b, 0, none⟩) n c)) H 59 #[.slice (some ⟨b, 0, none⟩) n c] := hd1.set 0 _
  generalize w1.setCell ⟨H, 0, none⟩ (.slice (some ⟨b, 0, none⟩) n c) = w2 at *
  have hb2 : Blk w2 w.heap.size 35 #[.int .i64 p, .int .i64 a, .int .i64 l, .int .i64 o, .slice x m d, .int .i64 nx, .int .i64 md, .int .i64 lc] := bR.turn T1 (by omega)
  have cR := hb2.cells
  clear cH1 fH1 cH q0 q1 q2 q3 q4 q5 q6 q7 hS
  go_wp2
  go_ret
  have TT : Turn (fun k => k = H) w w2 := Turn.trans N1.turn T1 (fun _ _ e => e)
  have hl : (V.take n).length = n := by rw [List.length_take, HN.out]; omega
  have hrow : OwRow w2 b n c (V.take n) := by
    have h := (HP.out.row.turn TT (fun e => HB.out e.symm)).cut n (by rw [HN.out]; omega)
    exact h
  refine ⟨?_, ⟨by rw [hl]; exact hd2, by rw [hl]; exact hrow, fun v hv => (HP.out.here v (List.mem_of_mem_take hv)).turn TT (fun y e1 e2 => (HP.out.far v (List.mem_of_mem_take hv) y e1 e2).2), HB.out, fun v hv => HP.out.far v (List.mem_of_mem_take hv)⟩, TT⟩
  rw [HV.out]
  unfold Rv.val
  simp only [HL.out]
  rfl

theorem hf_take {V : List Rv} {n k : Nat} (h : k < n) : hf (V.take n) k = hf V k := by unfold hf; rw [List.getElem?_take, if_pos h]
theorem take_snocH {V : List Rv} {n : Nat} (h : V.length = n + 1) : V = V.take n ++ [hf V n] := by
  have e := hf_at (V := V) (i := n) (by omega)
  obtain ⟨hk, e'⟩ := List.getElem?_eq_some_iff.1 e
  have h2 := List.take_succ_eq_append_getElem hk
  rw [e', List.take_of_length_le (by omega)] at h2
  exact h2

set_option maxRecDepth 100000 in
set_option maxHeartbeats 6400000 in
theorem pop_heap (H b c : Nat) (V : List Rv) (n : Nat) (w : World) (hp : HpAt w H b c V) (hn : V.length = n + 1) (hm : n + 1 ≤ 1048576) (hu : hpOK hlt (hf V) (n + 1)) : Calls Try.prog 33 #[.iface 45 (.pointer (some ⟨H, 0, none⟩))] w fun e w' => e = .returned (.iface 35 (hf V 0).val) ∧ ∃ V', HpAt w' H b c V' ∧ V'.length = n ∧ (hf V 0 :: V').Perm V ∧ hpOK hlt (hf V') n ∧ Turn (fun k => k = b ∨ k = H) w w' := by
  have HP : Hid (HpAt w H b c V) := hp
  have HN : Hid (V.length = n + 1) := hn
  have H0 : Hid (V[0]? = some (hf V 0)) := hf_at (by omega)
  have H1 : Hid (V[n]? = some (hf V n)) := hf_at (by omega)
  have HD : Hid (dnOK hlt (hf ((V.set 0 (hf V n)).set n (hf V 0))) n 0) := by
    have h := dn_pop hu
    rw [← hf_sw H0.out H1.out] at h
    exact h
  have HE : Hid (hf ((V.set 0 (hf V n)).set n (hf V 0)) n = hf V 0) := by
    unfold Hid
    rw [hf_sw H0.out H1.out, sw_j]
  have HM : Hid (((V.set 0 (hf V n)).set n (hf V 0)).Perm V) := perm_sw H0.out H1.out
  have HL1 : Hid (((V.set 0 (hf V n)).set n (hf V 0)).length = n + 1) := by unfold Hid; rw [List.length_set, List.length_set]; exact hn
  have hw1 : IntKind.i64.wrap (((n + 1 : Nat) : Int) - 1) = (n : Int) := by rw [IntKind.wrap_i64]; omega
  clear hp hn hu
  go_enter Try.func33, Try.ntmps33
  go_wp2_with fail
  refine (len_heap H b c V (n + 1) w HP.out HN.out).mono ?_
  rintro e w0 ⟨rfl, rfl⟩
  go_wp2_with fail
  refine (swap_heap H b c V (n + 1) 0 n _ _ _ HP.out HN.out hm H0.out H1.out).mono ?_
  rintro e w1 ⟨rfl, hp1, t1⟩
  generalize hV1 : (V.set 0 (hf V n)).set n (hf V 0) = V1 at hp1 HD HE HM HL1
  have HP1 : Hid (HpAt w1 H b c V1) := hp1
  clear hp1 hV1
  go_wp2_with fail
  refine (down_heap H b c V1 n (n + 1) w1 HP1.out HL1.out hm (by omega) HD.out).mono ?_
  rintro e w2 ⟨⟨z, rfl⟩, V2, hp2, m2, k2, f2, t2⟩
  have HP2 : Hid (HpAt w2 H b c V2) := hp2
  have HM2 : Hid (V2.Perm V1) := m2
  have HK2 : Hid (hpOK hlt (hf V2) n) := k2
  have HF2 : Hid (hf V2 n = hf V 0) := (f2 n (Nat.le_refl _)).trans HE.out
  have HL2 : Hid (V2.length = n + 1) := m2.length_eq.trans HL1.out
  clear hp2 m2 k2 f2
  go_wp2_with fail
  refine (popm_heap H b c V2 n w2 HP2.out HL2.out hm).mono ?_
  rintro e w3 ⟨rfl, hp3, t3⟩
  have HP3 : Hid (HpAt w3 H b c (V2.take n)) := hp3
  clear hp3
  rw [HF2.out]
  go_wp2
  go_ret
  refine ⟨rfl, V2.take n, HP3.out, by rw [List.length_take, HL2.out]; omega, ?_, fun k k0 kn => ?_, Turn.trans (Turn.trans (t1.mono (fun _ _ e => .inl e)) t2 (fun _ _ e => .inl e)) t3 (fun _ _ e => .inr e)⟩
  · refine List.Perm.trans ?_ (HM2.out.trans HM.out)
    have e := take_snocH HL2.out
    rw [HF2.out] at e
    refine List.Perm.trans ?_ (List.Perm.of_eq e.symm)
    exact (List.perm_append_singleton _ _).symm
  · rw [hf_take kn, hf_take (by omega)]
    exact HK2.out k k0 kn

end Go.Proofs.Ytjampcfikfafkaa

namespace Go.Proofs.Ytjampcfikfafkaa
open Go.RowKit Go.Sort
set_option linter.unusedVariables false
set_option linter.unusedSimpArgs false

section
variable {P : Program} {t e : TypeId} {i : TypeInfo}
/-- A route is put behind a row of the call's own, in a drawn region. -/
theorem hw_apT (w : World) {oi : Oper} {a : Act} {K : Act → World → Prop} {Q : Exit → Act → World → Prop} {dt : Option Tmp} (s x : Operand) (hdt : oi.dst = dt)
    (ho : oi.op = .call { callee := .builtin .append, args := #[s, x], argTypes := #[t, t] }) (base : Nat) (zero : Value) (ht : P.underlying t = some (.slice e)) (hi : P.info? e = some i) (hz : i.zero = some zero) (hs : i.size = 8) (hb : i.bytes = 80) (hz1 : zero.cells.size = 8)
    (v : Value) (rs : List Rv) (hsv : a.eval s = v) (hown : w.ownsRow base e 8 v rs.length (cellsT rs))
    (L : Nat) (r : Rv) (hxv : a.eval x = .slice (some ⟨L, 0, none⟩) 1 1) (hsrc : ∀ j, w.cell? ⟨L, j, none⟩ = r.cs[j]?) (hle : rs.length + 1 ≤ 4194304) (hbase : base ≤ w.heap.size)
    (h : ∀ v' w', w'.ownsRow base e 8 v' (rs ++ [r]).length (cellsT (rs ++ [r])) → w.grownBy w' v.ownBlock → (v'.ownBlock = v.ownBlock ∨ v'.ownBlock = some w.heap.size) → K (a.put dt v') w') : Oper.wp P oi a w K Q := by
  have hnews : ∀ j u, r.cs[j]? = some u → w.cell? ((⟨L, 0, none⟩ : Addr).add j) = some u := by
    intro j u hu
    rw [Addr.add_lit, Nat.zero_add, hsrc j, hu]
  obtain ⟨v', w', hr, h2, h3, _, h5⟩ := run_append_own_at (P := P) w base t oi.type e i zero 8 80 ht hi hz hs hb hz1 (by decide) v rs.length (cellsT rs) hown ⟨L, 0, none⟩ 1 1 r.cs rfl hnews (by simp [Rv.cs, Value.oneCell']) (by unfold maxLen; omega) (by omega) hbase
  subst hdt
  unfold Oper.wp execOp
  simp only [ho, resolve, invoke, builtin, Sem.run_bind, Sem.run_pure, Result.andThen_ok, List.map_toArray, List.map_cons, List.map_nil, hsv, hxv, hr]
  exact h v' w' (by rw [cellsT_snoc]; simpa using h2) h3 h5
end

theorem Try.htHpE : Try.prog.underlying 59 = some (.slice 35) := by kernel_rfl

set_option maxRecDepth 100000 in
set_option maxHeartbeats 6400000 in
theorem pushm_heap (H b c lo : Nat) (V : List Rv) (r : Rv) (n : Nat) (w : World) (hd0 : Blk w H 59 #[.slice (some ⟨b, 0, none⟩) V.length c]) (hrow0 : w.ownsRow lo 35 8 (.slice (some ⟨b, 0, none⟩) V.length c) V.length (cellsT V)) (hlo : lo ≤ H) (hne : ¬ H = b) (hm : V.length + 1 ≤ 4194304) (hb : lo ≤ w.heap.size) (hn : V.length = n) : Calls Try.prog 88 #[.pointer (some ⟨H, 0, none⟩), .iface 35 r.val] w fun e w' => e = .returned (.tuple #[]) ∧ ∃ g c', Blk w' H 59 #[.slice (some ⟨g, 0, none⟩) (V ++ [r]).length c'] ∧ w'.ownsRow lo 35 8 (.slice (some ⟨g, 0, none⟩) (V ++ [r]).length c') (V ++ [r]).length (cellsT (V ++ [r])) ∧ lo ≤ g ∧ ¬ H = g ∧ Turn (fun k => lo ≤ k) w w' := by
  obtain ⟨⟨p, a, l, o, xs, nx, md, lc⟩, x, d⟩ := r
  obtain ⟨i0, hi, hz0, hz1, hz2⟩ := info_parts Try.infoRt
  have hd : Blk w H 59 #[.slice (some ⟨b, 0, none⟩) n c] := by rw [← hn]; exact hd0
  have hrow : w.ownsRow lo 35 8 (.slice (some ⟨b, 0, none⟩) n c) V.length (cellsT V) := by rw [← hn]; exact hrow0
  have cH := (hd.new ((New.refl w).drew)).cells
  have hlb : lo ≤ b := (row_rng7 hrow0 b rfl).1
  unfold Rv.val
  clear hd0 hrow0
  go_enter Try.func88, Try.ntmps88
  refine hw_start (n := 10) (S := fun X => True) rfl (by kernel_rfl) (trivial) (fun hH => ?_)
  refine' hw_take 0 (some 4) _ rfl rfl (by kernel_rfl) (by kernel_rfl) (by kernel_rfl) (fun _ _ _ h => h) (by rfl) hH ?hy1 ?rest1
  case hy1 =>
    intro X hX
    go_simp
    try rfl
  simp only [Act.put, List.setIfInBounds_toArray, List.set_cons_zero, List.set_cons_succ]
  refine' hw_take 1 (some 5) _ rfl rfl (by kernel_rfl) (by kernel_rfl) (by kernel_rfl) (fun _ _ _ h => h) (by rfl) hH ?hy2 ?rest2
  case hy2 =>
    intro X hX
    go_simp
    try rfl
  simp only [Act.put, List.setIfInBounds_toArray, List.set_cons_zero, List.set_cons_succ]
  refine' hw_take 2 (some 6) _ rfl rfl (by kernel_rfl) (by kernel_rfl) (by kernel_rfl) (fun _ _ _ h => h) (by rfl) hH ?hy3 ?rest3
  case hy3 =>
    intro X hX
    go_simp
    try rfl
  simp only [Act.put, List.setIfInBounds_toArray, List.set_cons_zero, List.set_cons_succ]
  refine' hw_take 4 (some 8) _ rfl rfl (by kernel_rfl) (by kernel_rfl) (by kernel_rfl) (fun _ _ _ h => h) (by rfl) hH ?hy4 ?rest4
  case hy4 =>
    intro X hX
    go_simp
    try rfl
  simp only [Act.put, List.setIfInBounds_toArray, List.set_cons_zero, List.set_cons_succ]
  refine' hw_take 5 (some 9) (.agg #[.int .i64 p, .int .i64 a, .int .i64 l, .int .i64 o, .slice x xs.length d, .int .i64 nx, .int .i64 md, .int .i64 lc]) rfl rfl (by kernel_rfl) (by kernel_rfl) (by kernel_rfl) (fun _ _ _ h => h) (by rfl) hH ?hyTA ?restTA
  case hyTA =>
    intro X hX
    go_simp
    try rfl
  simp only [Act.put, List.setIfInBounds_toArray, List.set_cons_zero, List.set_cons_succ]
  refine wpAnyH_ready (rs := [3, 6]) (by kernel_rfl) (by simp) ?_
  refine hw_step 3 (some 7) rfl rfl (by rfl) (fun K hK => ?_) (hw_step 6 (some 10) rfl rfl (by rfl) (fun K hK => ?_) AllReadyH.nil)
  · go_simp
    refine hK.out _ _ trivial (fun _ => ?_)
    simp only [Act.put, List.setIfInBounds_toArray, List.set_cons_zero, List.set_cons_succ]
    refine hw_call 6 (some 10) rfl rfl (by decide +kernel) (by rfl) (fun K hK => ?_)
    go_simp
    have bL := (Blk.mk w w.heap.size 35 #[.int .i64 p, .int .i64 a, .int .i64 l, .int .i64 o, .slice x xs.length d, .int .i64 nx, .int .i64 md, .int .i64 lc] rfl).new ((New.refl _).drew)
    have T1 : New w (w.alloc (.cells #[.int .i64 p, .int .i64 a, .int .i64 l, .int .i64 o, .slice x xs.length d, .int .i64 nx, .int .i64 md, .int .i64 lc] 35)).drew := ((New.refl w).alloc _).drew
    have hd1 := hd.new T1
    have row1 := row_turn7 hrow T1 (fun _ _ f => f)
    have hsz : lo ≤ (w.alloc (.cells #[.int .i64 p, .int .i64 a, .int .i64 l, .int .i64 o, .slice x xs.length d, .int .i64 nx, .int .i64 md, .int .i64 lc] 35)).drew.heap.size := by have := T1.size; omega
    generalize (w.alloc (.cells #[.int .i64 p, .int .i64 a, .int .i64 l, .int .i64 o, .slice x xs.length d, .int .i64 nx, .int .i64 md, .int .i64 lc] 35)).drew = w1 at *
    refine hK.out _ _ trivial (fun _ => ?_)
    simp only [Act.put, List.setIfInBounds_toArray, List.set_cons_zero, List.set_cons_succ]
    refine hw_call 7 (some 11) rfl rfl (by decide +kernel) (by rfl) (fun K hK => ?_)
    refine hw_apT _ (.tmp 7) (.tmp 10) rfl rfl lo _ Try.htHpE hi hz0 hz1 hz2 rfl (.slice (some ⟨b, 0, none⟩) n c) V rfl row1 w.heap.size ⟨⟨p, a, l, o, xs, nx, md, lc⟩, x, d⟩ rfl (fun j => (bL.cells j).trans (by simp [Rv.cs])) hm hsz ?_
    intro v' w5 hv' hg hob
    rcases row_form7 hv' with ⟨-, h0⟩ | ⟨g, c', rfl, hlog, hgs, -⟩
    · exact absurd h0 (by simp)
    have hgn : ¬ H = g := by
      have h1 := hd1.lt
      rcases hob with e | e <;> (simp only [Value.ownBlock, Option.some.injEq] at e; omega)
    have HV' : Hid (w5.ownsRow lo 35 8 (.slice (some ⟨g, 0, none⟩) (V ++ [(⟨⟨p, a, l, o, xs, nx, md, lc⟩, x, d⟩ : Rv)]).length c') (V ++ [(⟨⟨p, a, l, o, xs, nx, md, lc⟩, x, d⟩ : Rv)]).length (cellsT (V ++ [(⟨⟨p, a, l, o, xs, nx, md, lc⟩, x, d⟩ : Rv)]))) := hv'
    have hd5 : Blk w5 H 59 #[.slice (some ⟨b, 0, none⟩) n c] := hd1.grow hg (by intro e; simp only [Value.ownBlock, Option.some.injEq] at e; omega)
    have T5 : Turn (fun k => lo ≤ k) w w5 := Turn.trans (T1.turn (S := fun k => lo ≤ k)) ((Turn.of_grown (g := b) hg).mono (fun i _ e => by subst e; omega)) (fun _ _ e => e)
    clear hv' hg hob
    obtain ⟨n', hn'⟩ : ∃ n', (V ++ [(⟨⟨p, a, l, o, xs, nx, md, lc⟩, x, d⟩ : Rv)]).length = n' := ⟨_, rfl⟩
    rw [hn'] at HV' ⊢
    refine hK.out _ _ trivial (fun _ => ?_)
    simp only [Act.put, List.setIfInBounds_toArray, List.set_cons_zero, List.set_cons_succ]
    have cH5 := hd5.cells
    have fH5 := hd5.frees
    refine' hw_take 8 (some 12) _ rfl rfl (by kernel_rfl) (by kernel_rfl) (by kernel_rfl) (fun _ _ _ h => h) (by rfl) hH ?hy5 ?rest5
    case hy5 =>
      intro X hX
      go_simp
      try rfl
    simp only [Act.put, List.setIfInBounds_toArray, List.set_cons_zero, List.set_cons_succ]
    refine hw_call 9 none rfl rfl (by decide +kernel) (by rfl) (fun K hK => ?_)
    go_simp
    have T6 : Turn (fun k => lo ≤ k) w5 (w5.setCell ⟨H, 0, none⟩ (.slice (some ⟨g, 0, none⟩) n' c')) := (Turn.refl (fun k => lo ≤ k) w5).set (p := ⟨H, 0, none⟩) hlo _
    have hd6 : Blk (w5.setCell ⟨H, 0, none⟩ (.slice (some ⟨g, 0, none⟩) n' c')) H 59 #[.slice (some ⟨g, 0, none⟩) n' c'] := hd5.set 0 _
    have row6 : (w5.setCell ⟨H, 0, none⟩ (.slice (some ⟨g, 0, none⟩) n' c')).ownsRow lo 35 8 (.slice (some ⟨g, 0, none⟩) n' c') n' (cellsT (V ++ [(⟨⟨p, a, l, o, xs, nx, md, lc⟩, x, d⟩ : Rv)])) := by
      have h := HV'.out
      rw [← hn'] at h ⊢
      exact row_turn7 h ((Turn.refl (fun k => k = H) w5).set (p := ⟨H, 0, none⟩) rfl _) (by intro k hk e; have e' := Option.some.inj hk; simp only at e'; omega)
    generalize w5.setCell ⟨H, 0, none⟩ (.slice (some ⟨g, 0, none⟩) n' c') = w6 at *
    refine hK.out undef _ trivial (fun _ => ?_)
    try simp only [Act.put, List.setIfInBounds_toArray, List.set_cons_zero, List.set_cons_succ]
    refine wpAnyH_done (by kernel_rfl) ?_ _
    go_wp2
    go_returns
    exact ⟨rfl, g, c', by rw [hn']; exact hd6, by rw [hn']; exact row6, hlog, hgn, Turn.trans T5 T6 (fun _ _ e => e)⟩
  · go_simp
    have bL := (Blk.mk w w.heap.size 35 #[.int .i64 p, .int .i64 a, .int .i64 l, .int .i64 o, .slice x xs.length d, .int .i64 nx, .int .i64 md, .int .i64 lc] rfl).new ((New.refl _).drew)
    have T1 : New w (w.alloc (.cells #[.int .i64 p, .int .i64 a, .int .i64 l, .int .i64 o, .slice x xs.length d, .int .i64 nx, .int .i64 md, .int .i64 lc] 35)).drew := ((New.refl w).alloc _).drew
    have hd1 := hd.new T1
    have row1 := row_turn7 hrow T1 (fun _ _ f => f)
    have hsz : lo ≤ (w.alloc (.cells #[.int .i64 p, .int .i64 a, .int .i64 l, .int .i64 o, .slice x xs.length d, .int .i64 nx, .int .i64 md, .int .i64 lc] 35)).drew.heap.size := by have := T1.size; omega
    generalize (w.alloc (.cells #[.int .i64 p, .int .i64 a, .int .i64 l, .int .i64 o, .slice x xs.length d, .int .i64 nx, .int .i64 md, .int .i64 lc] 35)).drew = w1 at *
    refine hK.out _ _ trivial (fun _ => ?_)
    simp only [Act.put, List.setIfInBounds_toArray, List.set_cons_zero, List.set_cons_succ]
    have cH := hd1.cells
    refine hw_call 3 (some 7) rfl rfl (by decide +kernel) (by rfl) (fun K hK => ?_)
    go_simp
    refine hK.out _ _ trivial (fun _ => ?_)
    simp only [Act.put, List.setIfInBounds_toArray, List.set_cons_zero, List.set_cons_succ]
    refine hw_call 7 (some 11) rfl rfl (by decide +kernel) (by rfl) (fun K hK => ?_)
    refine hw_apT _ (.tmp 7) (.tmp 10) rfl rfl lo _ Try.htHpE hi hz0 hz1 hz2 rfl (.slice (some ⟨b, 0, none⟩) n c) V rfl row1 w.heap.size ⟨⟨p, a, l, o, xs, nx, md, lc⟩, x, d⟩ rfl (fun j => (bL.cells j).trans (by simp [Rv.cs])) hm hsz ?_
    intro v' w5 hv' hg hob
    rcases row_form7 hv' with ⟨-, h0⟩ | ⟨g, c', rfl, hlog, hgs, -⟩
    · exact absurd h0 (by simp)
    have hgn : ¬ H = g := by
      have h1 := hd1.lt
      rcases hob with e | e <;> (simp only [Value.ownBlock, Option.some.injEq] at e; omega)
    have HV' : Hid (w5.ownsRow lo 35 8 (.slice (some ⟨g, 0, none⟩) (V ++ [(⟨⟨p, a, l, o, xs, nx, md, lc⟩, x, d⟩ : Rv)]).length c') (V ++ [(⟨⟨p, a, l, o, xs, nx, md, lc⟩, x, d⟩ : Rv)]).length (cellsT (V ++ [(⟨⟨p, a, l, o, xs, nx, md, lc⟩, x, d⟩ : Rv)]))) := hv'
    have hd5 : Blk w5 H 59 #[.slice (some ⟨b, 0, none⟩) n c] := hd1.grow hg (by intro e; simp only [Value.ownBlock, Option.some.injEq] at e; omega)
    have T5 : Turn (fun k => lo ≤ k) w w5 := Turn.trans (T1.turn (S := fun k => lo ≤ k)) ((Turn.of_grown (g := b) hg).mono (fun i _ e => by subst e; omega)) (fun _ _ e => e)
    clear hv' hg hob
    obtain ⟨n', hn'⟩ : ∃ n', (V ++ [(⟨⟨p, a, l, o, xs, nx, md, lc⟩, x, d⟩ : Rv)]).length = n' := ⟨_, rfl⟩
    rw [hn'] at HV' ⊢
    refine hK.out _ _ trivial (fun _ => ?_)
    simp only [Act.put, List.setIfInBounds_toArray, List.set_cons_zero, List.set_cons_succ]
    have cH5 := hd5.cells
    have fH5 := hd5.frees
    refine' hw_take 8 (some 12) _ rfl rfl (by kernel_rfl) (by kernel_rfl) (by kernel_rfl) (fun _ _ _ h => h) (by rfl) hH ?hy6 ?rest6
    case hy6 =>
      intro X hX
      go_simp
      try rfl
    simp only [Act.put, List.setIfInBounds_toArray, List.set_cons_zero, List.set_cons_succ]
    refine hw_call 9 none rfl rfl (by decide +kernel) (by rfl) (fun K hK => ?_)
    go_simp
    have T6 : Turn (fun k => lo ≤ k) w5 (w5.setCell ⟨H, 0, none⟩ (.slice (some ⟨g, 0, none⟩) n' c')) := (Turn.refl (fun k => lo ≤ k) w5).set (p := ⟨H, 0, none⟩) hlo _
    have hd6 : Blk (w5.setCell ⟨H, 0, none⟩ (.slice (some ⟨g, 0, none⟩) n' c')) H 59 #[.slice (some ⟨g, 0, none⟩) n' c'] := hd5.set 0 _
    have row6 : (w5.setCell ⟨H, 0, none⟩ (.slice (some ⟨g, 0, none⟩) n' c')).ownsRow lo 35 8 (.slice (some ⟨g, 0, none⟩) n' c') n' (cellsT (V ++ [(⟨⟨p, a, l, o, xs, nx, md, lc⟩, x, d⟩ : Rv)])) := by
      have h := HV'.out
      rw [← hn'] at h ⊢
      exact row_turn7 h ((Turn.refl (fun k => k = H) w5).set (p := ⟨H, 0, none⟩) rfl _) (by intro k hk e; have e' := Option.some.inj hk; simp only at e'; omega)
    generalize w5.setCell ⟨H, 0, none⟩ (.slice (some ⟨g, 0, none⟩) n' c') = w6 at *
    refine hK.out undef _ trivial (fun _ => ?_)
    try simp only [Act.put, List.setIfInBounds_toArray, List.set_cons_zero, List.set_cons_succ]
    refine wpAnyH_done (by kernel_rfl) ?_ _
    go_wp2
    go_returns
    exact ⟨rfl, g, c', by rw [hn']; exact hd6, by rw [hn']; exact row6, hlog, hgn, Turn.trans T5 T6 (fun _ _ e => e)⟩

end Go.Proofs.Ytjampcfikfafkaa

namespace Go.Proofs.Ytjampcfikfafkaa
open Go.RowKit Go.Sort
set_option linter.unusedVariables false
set_option linter.unusedSimpArgs false

/-- The block H holds the routes as a row of the call's own, from lo on; their paths lie before lo. -/
def HpS (w : World) (H lo : Nat) (V : List Rv) : Prop := ∃ b c, HpAt w H b c V ∧ lo ≤ b ∧ lo ≤ H ∧ ∀ v ∈ V, ∀ x, v.r.xs ≠ [] → v.x = some x → x.block < lo

theorem HpS.new {w w' : World} {H lo : Nat} {V : List Rv} (h : HpS w H lo V) (t : New w w') : HpS w' H lo V := by
  obtain ⟨b, c, h1, h2⟩ := h
  exact ⟨b, c, h1.new t, h2⟩

set_option maxRecDepth 100000 in
set_option maxHeartbeats 6400000 in
theorem push_heap (H lo : Nat) (V : List Rv) (r : Rv) (n : Nat) (w : World) (hs : HpS w H lo V) (hr : r.here w) (hrf : ∀ x, r.r.xs ≠ [] → r.x = some x → x.block < lo) (hn : V.length = n) (hm : n + 1 ≤ 1048576) (hu : hpOK hlt (hf V) n) : Calls Try.prog 30 #[.iface 45 (.pointer (some ⟨H, 0, none⟩)), .iface 35 r.val] w fun e w' => e = .returned (.tuple #[]) ∧ ∃ V', HpS w' H lo V' ∧ V'.Perm (V ++ [r]) ∧ hpOK hlt (hf V') (n + 1) ∧ Turn (fun k => lo ≤ k) w w' := by
  obtain ⟨b, c, hp, hlb, hlH, hfar⟩ := hs
  have HP : Hid (HpAt w H b c V) := hp
  have HN : Hid (V.length = n) := hn
  have HF : Hid (∀ v ∈ V, ∀ x, v.r.xs ≠ [] → v.x = some x → x.block < lo) := hfar
  have HR : Hid (r.here w) := hr
  have HRF : Hid (∀ x, r.r.xs ≠ [] → r.x = some x → x.block < lo) := hrf
  have hl1 : (V ++ [r]).length = n + 1 := by rw [List.length_append, hn]; rfl
  have HL1 : Hid ((V ++ [r]).length = n + 1) := hl1
  have HU : Hid (upOK hlt (hf (V ++ [r])) (n + 1) n) := by
    refine up_push (fun k k0 kn => ?_)
    have e : ∀ j, j < n → hf (V ++ [r]) j = hf V j := fun j hj => by unfold hf; rw [List.getElem?_append_left (by omega)]
    rw [e k kn, e _ (by omega)]
    exact hu k k0 kn
  have hw1 : IntKind.i64.wrap (((n + 1 : Nat) : Int) - 1) = (n : Int) := by rw [IntKind.wrap_i64]; omega
  have HPM : Hid (Calls Try.prog 88 #[.pointer (some ⟨H, 0, none⟩), .iface 35 r.val] w fun e w' => e = .returned (.tuple #[]) ∧ ∃ g c', Blk w' H 59 #[.slice (some ⟨g, 0, none⟩) (V ++ [r]).length c'] ∧ w'.ownsRow lo 35 8 (.slice (some ⟨g, 0, none⟩) (V ++ [r]).length c') (V ++ [r]).length (cellsT (V ++ [r])) ∧ lo ≤ g ∧ ¬ H = g ∧ Turn (fun k => lo ≤ k) w w') :=
    pushm_heap H b c lo V r n w hp.hd (row_of7 hp.row hlb) hlH hp.ne (by omega) (by have := hp.hd.lt; omega) hn
  have HB : Hid (¬ H = b) := hp.ne
  clear hp hr hrf hfar hu hl1 hn
  generalize hrv : r.val = rv at *
  go_enter Try.func30, Try.ntmps30
  go_wp2_with fail
  refine HPM.out.mono ?_
  rintro e w1 ⟨rfl, g, c', hd1, row1, hlg, hng, t1⟩
  have hp1 : HpAt w1 H g c' (V ++ [r]) := by
    refine ⟨hd1, ?_, fun v hv => ?_, hng, fun v hv x h1 h2 => ?_⟩
    · rcases row_form7 row1 with ⟨h0, -⟩ | ⟨g', c2, h0, -, -, ho⟩
      · cases h0
      · simp only [Value.slice.injEq, Option.some.injEq, Addr.mk.injEq, and_true, true_and] at h0
        obtain ⟨rfl, rfl⟩ := h0
        exact ho
    · rcases List.mem_append.1 hv with hv | hv
      · exact (HP.out.here v hv).turn t1 (fun x h1 h2 => by have := HF.out v hv x h1 h2; omega)
      · obtain rfl := List.mem_singleton.1 hv
        exact HR.out.turn t1 (fun x h1 h2 => by have := HRF.out x h1 h2; omega)
    · have : x.block < lo := by
        rcases List.mem_append.1 hv with hv | hv
        · exact HF.out v hv x h1 h2
        · obtain rfl := List.mem_singleton.1 hv
          exact HRF.out x h1 h2
      omega
  have HP1 : Hid (HpAt w1 H g c' (V ++ [r])) := hp1
  clear hp1 hd1 row1
  go_wp2_with fail
  refine (len_heap H g c' (V ++ [r]) (n + 1) w1 HP1.out HL1.out).mono ?_
  rintro e w0 ⟨rfl, rfl⟩
  go_wp2_with fail
  refine (up_heap H g c' (V ++ [r]) (n + 1) n _ HP1.out HL1.out hm (by omega) HU.out).mono ?_
  rintro e w2 ⟨rfl, V', hp2, m2, k2, t2⟩
  have HP2 : Hid (HpAt w2 H g c' V') := hp2
  have HK2 : Hid (hpOK hlt (hf V') (n + 1)) := k2
  have HM2 : Hid (V'.Perm (V ++ [r])) := m2
  clear hp2 k2 m2
  go_wp2
  go_returns
  refine ⟨rfl, V', ⟨g, c', HP2.out, hlg, hlH, fun v hv x h1 h2 => ?_⟩, HM2.out, HK2.out, Turn.trans t1 t2 (fun k _ e => by subst e; exact hlg)⟩
  rcases List.mem_append.1 (HM2.out.mem_iff.1 hv) with hv | hv
  · exact HF.out v hv x h1 h2
  · obtain rfl := List.mem_singleton.1 hv
    exact HRF.out x h1 h2

end Go.Proofs.Ytjampcfikfafkaa

namespace Go.Proofs.Ytjampcfikfafkaa
open Go.RowKit Go.Sort
set_option linter.unusedVariables false
set_option linter.unusedSimpArgs false

theorem here_lt {w : World} {v : Rv} (h : v.here w) : ∀ x, v.r.xs ≠ [] → v.x = some x → x.block < w.heap.size := by
  intro x hx he
  have h1 := h.1
  obtain ⟨z, zs, hz⟩ : ∃ z zs, v.r.xs = z :: zs := by cases hv : v.r.xs with
    | nil => exact absurd hv hx
    | cons z zs => exact ⟨z, zs, rfl⟩
  obtain ⟨b, o, e, hc, -⟩ := h1 0 z (by rw [hz]; rfl)
  rw [he] at e
  obtain rfl := Option.some.inj e
  exact World.block_lt_of_cell? _ _ hc

set_option maxRecDepth 100000 in
set_option maxHeartbeats 6400000 in
theorem heapOf_any (A : Option Addr) (N c : Nat) (V : List Rv) (w : World) (h : RtAt w A V) (hn : V.length = N) (hm : N ≤ 1048576) : Calls Try.prog 13 #[.slice A N c] w fun e w' => ∃ H V', e = .returned (.pointer (some ⟨H, 0, none⟩)) ∧ HpS w' H w.heap.size V' ∧ V'.Perm V ∧ hpOK hlt (hf V') N ∧ New w w' := by
  have HN : Hid (V.length = N) := hn
  have HA : Hid (∀ W, New w W → RtAt W A V) := fun W hW => h.new hW
  clear h hn
  go_enter Try.func13, Try.ntmps13
  go_upto_region 2 with fail
  have N0 : New w ((w.alloc (.cells #[] 35)).alloc (.cells #[.slice (some ⟨w.heap.size, 0, none⟩) 0 0] 59)) := ((New.refl w).alloc _).alloc _
  have b0 : Blk ((w.alloc (.cells #[] 35)).alloc (.cells #[.slice (some ⟨w.heap.size, 0, none⟩) 0 0] 59)) w.heap.size 35 #[] := (Blk.mk w w.heap.size 35 #[] rfl).alloc _
  have bH : Blk ((w.alloc (.cells #[] 35)).alloc (.cells #[.slice (some ⟨w.heap.size, 0, none⟩) 0 0] 59)) (w.heap.size + 1) 59 #[.slice (some ⟨w.heap.size, 0, none⟩) 0 0] := Blk.mk _ _ _ _ (by simp)
  have hS0 : HpS ((w.alloc (.cells #[] 35)).alloc (.cells #[.slice (some ⟨w.heap.size, 0, none⟩) 0 0] 59)) (w.heap.size + 1) w.heap.size [] := by
    refine ⟨w.heap.size, 0, ⟨bH, ⟨rfl, .inr ⟨w.heap.size, 0, #[], rfl, Nat.zero_le _, b0, Nat.le_refl _, Nat.zero_le _, rfl, rfl⟩⟩, fun v hv => ?_, by omega, fun v hv => ?_⟩, Nat.le_refl _, Nat.le_succ _, fun v hv => ?_⟩ <;> cases hv
  have HS0 : Hid (HpS _ (w.heap.size + 1) w.heap.size []) := hS0
  clear b0 bH hS0
  generalize (w.alloc (.cells #[] 35)).alloc (.cells #[.slice (some ⟨w.heap.size, 0, none⟩) 0 0] 59) = w1 at *
  go_wp2_with fail
  go_loopw [10] (fun i wr => ∃ (k : Nat) (V' : List Rv), k ≤ N ∧ i = .int .i64 k ∧ V'.length = k ∧ HpS wr (w.heap.size + 1) w.heap.size V' ∧ V'.Perm (V.take k) ∧ hpOK hlt (hf V') k ∧ New w wr) (fun i _ => N - (intOf i).toNat)
  case atStart => exact ⟨0, [], Nat.zero_le _, rfl, rfl, HS0.out, List.Perm.refl _, fun k k0 kn => by omega, N0⟩
  case round =>
    obtain ⟨k, V', hk, rfl, hl, hs, hpm, hu, hnw⟩ := hrel
    have HL : Hid (V'.length = k) := hl
    have HSS : Hid (HpS wr (w.heap.size + 1) w.heap.size V') := hs
    have HM : Hid (V'.Perm (V.take k)) := hpm
    have HU : Hid (hpOK hlt (hf V') k) := hu
    have HN1 : Hid (New w wr) := hnw
    clear hl hs hpm hu hnw
    by_cases hlt : k < N
    · obtain ⟨b, off, p, a, l, o, nx, md, lc, x, m, d, xs, rfl, hv, hlen, hns, hnl, hmx, q0, q1, q2, q3, q4, q5, q6, q7⟩ := (HA.out _ HN1.out).at k (by have := HN.out; omega)
      subst hlen
      have HV : Hid (V[k]? = some ⟨⟨p, a, l, o, xs, nx, md, lc⟩, x, d⟩) := hv
      have HH : Hid (∀ W, New w W → Rv.here W ⟨⟨p, a, l, o, xs, nx, md, lc⟩, x, d⟩) := fun W hW => (HA.out W hW k _ hv).2
      have HTK : Hid (V.take (k + 1) = V.take k ++ [⟨⟨p, a, l, o, xs, nx, md, lc⟩, x, d⟩]) := by
        obtain ⟨hk', e⟩ := List.getElem?_eq_some_iff.1 hv
        unfold Hid
        rw [List.take_succ_eq_append_getElem hk', e]
      have al := (New.refl wr).alloc (.cells #[.int .i64 p, .int .i64 a, .int .i64 l, .int .i64 o, .slice x xs.length d, .int .i64 nx, .int .i64 md, .int .i64 lc] 35)
      have bR := Blk.mk wr wr.heap.size 35 #[.int .i64 p, .int .i64 a, .int .i64 l, .int .i64 o, .slice x xs.length d, .int .i64 nx, .int .i64 md, .int .i64 lc] rfl
      have cR := bR.cells
      have n1 := HN1.out.trans al
      clear hv hns hnl hmx
      go_wp2_with fail
      refine (push_heap (w.heap.size + 1) w.heap.size V' ⟨⟨p, a, l, o, xs, nx, md, lc⟩, x, d⟩ k _ (HSS.out.new al) (HH.out _ n1) (here_lt (HH.out w (New.refl w))) HL.out (by omega) HU.out).mono ?_
      rintro e w2 ⟨rfl, V2, hs2, m2, u2, t2⟩
      have HS2 : Hid (HpS w2 (w.heap.size + 1) w.heap.size V2) := hs2
      have HU2 : Hid (hpOK Go.Proofs.Ytjampcfikfafkaa.hlt (hf V2) (k + 1)) := u2
      have HM2 : Hid (V2.Perm (V.take (k + 1))) := by
        unfold Hid
        rw [HTK.out]
        exact m2.trans (HM.out.append_right _)
      have HL2 : Hid (V2.length = k + 1) := by
        unfold Hid
        rw [m2.length_eq, List.length_append, HL.out]
        rfl
      have N2 : Hid (New w w2) := Turn.mono (Turn.trans n1.turn t2 (fun i _ e => e)) (fun i h1 h2 => by omega)
      clear hs2 u2 m2 t2 n1 al cR bR
      go_wp2
      go_roundw
      case rel => exact ⟨k + 1, V2, by omega, by go_num, HL2.out, HS2.out, HM2.out, HU2.out, N2.out⟩
      case measure => simp [intOf]; omega
    · obtain rfl : k = N := by omega
      go_wp2
      go_ret
      refine ⟨w.heap.size + 1, V', rfl, HSS.out, ?_, HU.out, HN1.out⟩
      have h := HM.out
      rw [List.take_of_length_le (by rw [HN.out]; omega)] at h
      exact h

end Go.Proofs.Ytjampcfikfafkaa

namespace Go.Proofs.Ytjampcfikfafkaa
open Go.RowKit Go.Sort Go.Shelf
set_option linter.unusedVariables false
set_option linter.unusedSimpArgs false
set_option maxRecDepth 100000
attribute [local go_sem] Oper.semAt_some

section
variable {F : Fence} {n : Nat} {P : Program}
/-- The statement, told by the loop's record and the block of the rounds' deferred calls. -/
theorem wpIn_range8 {g : Operand} {ps : Array Tmp} {assign body : Code} {Q : Exit → Act → World → Prop} {a : Act} {w : World} (hro : F.round = none) (h1 : 1 ≤ n) {gf : Nat} {v0 : Value} (hg : a.eval g = .func (.func gf) #[v0] #[]) (hFg : F.fn gf) (eg : ∀ args w, (callFunc gf args).run P w = .ok (.enter gf args) w)
    (h : ∀ (fn : FuncId) (W1 : World) (rec : Loop), F.fn fn → New w W1 → W1.heap.size = w.heap.size + 2 → rec = { state := .ready, pending := none, fn, tmps := a.tmps, params := ps, assign, body, defers := w.heap.size } → W1.heap[w.heap.size + 1]? = some (.loop rec) → W1.heap[w.heap.size]? = some (.deferred (some [])) →
      CallsIn F (n - 1) P gf #[v0, .func (.yield (w.heap.size + 1)) #[] #[]] W1 fun e W2 => (∃ v, e = .returned v) ∧ ∃ st pe, st ≠ .busy ∧ W2.heap[w.heap.size + 1]? = some (.loop { rec with state := st, pending := pe }) ∧ W2.heap[w.heap.size]? = some (.deferred (some [])) ∧
        ∀ W3, W3 = W2.putObj (w.heap.size + 1) (.loop { rec with state := .exhausted, pending := pe }) →
          (match pe with
          | none => Q .normal { a with defers := { target := .collected w.heap.size, args := #[] } :: a.defers } W3
          | some c => c.wpIn F n P Q { a with defers := { target := .collected w.heap.size, args := #[] } :: a.defers } W3)) :
    (Code.rangeFunc g ps assign body).wpIn F n P Q a w := by
  refine wpIn_rangeFunc fun fn hfn => ?_
  rw [hro]
  have N1 : New w ((w.alloc (.deferred (some []))).alloc (.loop { state := .ready, pending := none, fn, tmps := a.tmps, params := ps, assign, body, defers := w.heap.size })) := ((New.refl w).alloc _).alloc _
  have hL : ((w.alloc (.deferred (some []))).alloc (.loop { state := .ready, pending := none, fn, tmps := a.tmps, params := ps, assign, body, defers := w.heap.size })).heap[w.heap.size + 1]? = some (.loop { state := .ready, pending := none, fn, tmps := a.tmps, params := ps, assign, body, defers := w.heap.size }) := by
    have e := World.alloc_heap_new (w.alloc (.deferred (some []))) (.loop { state := .ready, pending := none, fn, tmps := a.tmps, params := ps, assign, body, defers := w.heap.size })
    rw [World.size_alloc] at e
    exact e
  have hD : ((w.alloc (.deferred (some []))).alloc (.loop { state := .ready, pending := none, fn, tmps := a.tmps, params := ps, assign, body, defers := w.heap.size })).heap[w.heap.size]? = some (.deferred (some [])) :=
    (((New.refl (w.alloc (.deferred (some [])))).alloc _).block w.heap.size (by simp) (fun f => f)).trans (World.alloc_heap_new w _)
  have hsz : ((w.alloc (.deferred (some []))).alloc (.loop { state := .ready, pending := none, fn, tmps := a.tmps, params := ps, assign, body, defers := w.heap.size })).heap.size = w.heap.size + 2 := by simp
  have hE := run_enterLoop_outer (P := P) (w := w) fn a.tmps ps assign body
  generalize hrec : ({ state := .ready, pending := none, fn, tmps := a.tmps, params := ps, assign, body, defers := w.heap.size } : Loop) = rec at N1 hL hD hsz hE
  generalize (w.alloc (.deferred (some []))).alloc (.loop rec) = W1 at N1 hL hD hsz hE
  have hc := h fn W1 rec hfn N1 hsz hrec.symm hL hD
  refine ⟨w.heap.size + 1, [{ target := .collected w.heap.size, args := #[] }], W1, { target := .fn (.func gf) #[], args := #[v0, .func (.yield (w.heap.size + 1)) #[] #[]] }, W1, gf, #[v0, .func (.yield (w.heap.size + 1)) #[] #[]], W1, hE, ?_, ?_, ?_, fun _ => h1, ?_⟩
  · simp only [resolve, hg]
    simp [go_sem]
  · intro f' hf'
    simp [Target.leads] at hf'
    subst hf'
    exact hFg
  · simp [invoke, go_sem, eg]
  · refine hc.mono ?_
    rintro e W2 ⟨⟨v, rfl⟩, st, pe, hst, hl, hd, hQ⟩
    exact ⟨pe, _, run_endLoop (P := P) hl hst, hQ _ rfl⟩

/-- A round, told by its record. -/
theorem yield8 {m l : Nat} {rec : Loop} {W : World} {args : Array Value} {R : Ending → World → Prop} (hf : F.fn rec.fn) (hl : W.heap[l]? = some (.loop rec)) (hs : args.size = rec.params.size)
    (h : rec.assign.wpIn (F.inRound l) m P (Exit.then (fun a₁ w₁ => ∃ w₂, (Instr.beginRound l).run P w₁ = .ok () w₂ ∧ rec.body.wpIn (F.inRound l) m P (roundPost P l R) a₁ w₂) (fun _ _ _ => False)) { tmps := (rec.params.zip args).foldl (fun tmps (t, a) => tmps.setIfInBounds t a) rec.tmps, defers := [] } W) :
    YieldAt F m P l args W R := ⟨rec.fn, _, rec.assign, rec.body, run_yield hl hs, roundIn_of_wpIn hf h⟩
end

theorem Try.as_route (v : Value) (w : World) : (Instr.typeAssert (.iface 35 v) 20 35 false).run Try.prog w = .ok v w := by kernel_rfl

set_option maxHeartbeats 3200000 in
/-- What the heap's iterator hands over first; the round leaves. -/
theorem top8_first (l H b c : Nat) (V : List Rv) (n : Nat) (W : World) (R : World → Prop) (hp : HpAt W H b c V) (hn : V.length = n + 1) (hm : n + 1 ≤ 1048576) (hu : hpOK hlt (hf V) (n + 1))
    (hY : ∀ W2, Turn (fun k => k = b ∨ k = H) W W2 → YieldAt Fence.wide (3 - 1) Try.prog l #[(hf V 0).val] W2 fun e W3 => e = .returned (.bool false) ∧ R W3) :
    CallsIn Fence.wide 3 Try.prog 15 #[.pointer (some ⟨H, 0, none⟩), .func (.yield l) #[] #[]] W fun e W' => (∃ v, e = .returned v) ∧ R W' := by
  have hro : Fence.wide.round = none := rfl
  refine callsIn_of_wp Try.func15 rfl trivial ?_ hro
  simp only [Try.ntmps15, List.size_toArray, List.length_cons, List.length_nil, Nat.reduceAdd, Nat.reduceSub, Array.replicate_succ, Array.replicate_zero, List.push_toArray, List.append_toArray, List.nil_append, List.cons_append]
  gi_wp2
  gi_loopw [4] (fun p wr => wr = W) (fun _ _ => 0)
  case atStart => rfl
  case round =>
    subst hrel
    gi_wp2_with fail
    refine ⟨trivial, ?_⟩
    refine (callsIn_wide.2 (len_heap H b c V (n + 1) _ hp hn)).mono ?_
    rintro e w2 ⟨rfl, rfl⟩
    gi_wp2_with fail
    refine ⟨trivial, ?_⟩
    refine (callsIn_wide.2 (pop_heap H b c V n _ hp hn hm hu)).mono ?_
    rintro e w3 ⟨rfl, V', hp3, hl3, hpm, hk, ht⟩
    obtain ⟨fn, tmps, assign, body, hy, hR⟩ := hY w3 ht
    unfold Rv.val at hy
    unfold Rv.val
    have hta := Try.as_route
    gi_wp2
    refine hR.mono ?_
    rintro e w4 ⟨rfl, hR4⟩
    gi_wp2
    refine bodyPost_end (results_none rfl _ _ _) rfl ?_
    exact ⟨⟨_, rfl⟩, hR4⟩

/-- What the heap's iterator does of an empty heap: nothing. -/
theorem top8_none (l H b c : Nat) (W : World) (hp : HpAt W H b c []) :
    CallsIn Fence.wide 3 Try.prog 15 #[.pointer (some ⟨H, 0, none⟩), .func (.yield l) #[] #[]] W fun e W' => (∃ v, e = .returned v) ∧ W' = W := by
  have hro : Fence.wide.round = none := rfl
  refine callsIn_of_wp Try.func15 rfl trivial ?_ hro
  simp only [Try.ntmps15, List.size_toArray, List.length_cons, List.length_nil, Nat.reduceAdd, Nat.reduceSub, Array.replicate_succ, Array.replicate_zero, List.push_toArray, List.append_toArray, List.nil_append, List.cons_append]
  gi_wp2
  gi_loopw [4] (fun p wr => wr = W) (fun _ _ => 0)
  case atStart => rfl
  case round =>
    subst hrel
    gi_wp2_with fail
    refine ⟨trivial, ?_⟩
    refine (callsIn_wide.2 (len_heap H b c [] 0 _ hp rfl)).mono ?_
    rintro e w2 ⟨rfl, rfl⟩
    gi_wp2
    refine ⟨trivial, ?_⟩
    gi_wp2
    refine ⟨fun _ h => (by cases h), ?_⟩
    gi_wp2
    refine bodyPost_end (results_none rfl _ _ _) rfl ?_
    exact ⟨⟨_, rfl⟩, rfl⟩

end Go.Proofs.Ytjampcfikfafkaa

namespace Go.Proofs.Ytjampcfikfafkaa
open Go.RowKit Go.Sort
set_option linter.unusedVariables false

/-- The route is of the prefix. -/
def keepS (qa ql : Int) (r : Rt) : Bool := decide (qa = r.a ∧ ql = r.l)

set_option maxHeartbeats 1600000 in
theorem same_any (p a l o nx md lc : Int) (x : Option Addr) (n c : Nat) (p' a' l' o' nx' md' lc' : Int) (x' : Option Addr) (n' c' : Nat) (v : Bool) (w : World) (hv : decide (a = a' ∧ l = l') = v) : Calls Try.prog 21 #[.agg #[.int .i64 p, .int .i64 a, .int .i64 l, .int .i64 o, .slice x n c, .int .i64 nx, .int .i64 md, .int .i64 lc], .agg #[.int .i64 p', .int .i64 a', .int .i64 l', .int .i64 o', .slice x' n' c', .int .i64 nx', .int .i64 md', .int .i64 lc']] w fun e w' => e = .returned (.bool v) ∧ New w w' := by
  have N0 : New w ((w.alloc (.cells #[.int .i64 p, .int .i64 a, .int .i64 l, .int .i64 o, .slice x n c, .int .i64 nx, .int .i64 md, .int .i64 lc] 35)).alloc (.cells #[.int .i64 p', .int .i64 a', .int .i64 l', .int .i64 o', .slice x' n' c', .int .i64 nx', .int .i64 md', .int .i64 lc'] 35)) := ((New.refl w).alloc _).alloc _
  have hz : (a == a' && l == l') = v := by rw [← hv]; by_cases e : a = a' <;> by_cases f : l = l' <;> simp [e, f]
  clear hv
  go_enter Try.func21, Try.ntmps21
  go_wp2
  all_goals go_ret
  all_goals exact ⟨ret_bool (by subst hz; first | rfl | simp [*]), ((New.refl w).alloc _).alloc _⟩

set_option maxHeartbeats 6400000 in
theorem thatS_any (p' a' l' o' nx' md' lc' : Int) (x' : Option Addr) (n' c' : Nat) (A : Option Addr) (N cc : Nat) (V : List Rv) (w : World) (h : RtAt w A V) (hn : V.length = N) (hm : N ≤ 1048576) :
    Calls Try.prog 20 #[.slice A N cc, .func (.func 21) #[.agg #[.int .i64 p', .int .i64 a', .int .i64 l', .int .i64 o', .slice x' n' c', .int .i64 nx', .int .i64 md', .int .i64 lc']] #[]] w fun e w' => ∃ u V', e = .returned u ∧ V'.map Rv.r = (V.map Rv.r).filter (keepS a' l') ∧ OwT w' w.heap.size w'.heap.size u V' ∧ New w w' := by
  have HN : Hid (V.length = N) := hn
  clear hn
  obtain ⟨i0, hi, hz0, hz1, hz2⟩ := info_parts Try.infoRt
  go_enter Try.func20, Try.ntmps20
  go_wp2
  go_loopw [5, 10] (fun s i wr => ∃ (k : Nat) (V' : List Rv), k ≤ N ∧ i = .int .i64 k ∧ V'.length ≤ k ∧ V'.map Rv.r = ((V.take k).map Rv.r).filter (keepS a' l') ∧ New w wr ∧ OwT wr w.heap.size wr.heap.size s V') (fun _ i _ => N - (intOf i).toNat)
  case atStart => exact ⟨0, [], Nat.zero_le _, rfl, Nat.le_refl _, rfl, New.refl _, OwT.nil _ _ _⟩
  case round =>
    obtain ⟨k, V', hk, rfl, hlk, hmap, hnw, how⟩ := hrel
    by_cases hlt : k < N
    · obtain ⟨b, off, p, a, l, o, nx, md, lc, x, m, d, xs, rfl, hv, hlen, hns, hnl, hmx, q0, q1, q2, q3, q4, q5, q6, q7⟩ := (h.new hnw).at k (by have := HN.out; omega)
      have HL : Hid (xs.length = m) := hlen
      have hbd : Hid (∀ z ∈ xs, In6 z) := hns.bd
      have HX : Hid (x = none → m = 0 ∧ d = 0) := hnl
      have HF := filterR_next (K := keepS a' l') hv
      rw [← hmap] at HF
      have HFR : Hid _ := HF
      have N0 := (New.refl wr).alloc (.cells #[.int .i64 p, .int .i64 a, .int .i64 l, .int .i64 o, .slice x m d, .int .i64 nx, .int .i64 md, .int .i64 lc] 35)
      have bA := Blk.mk wr wr.heap.size 35 #[.int .i64 p, .int .i64 a, .int .i64 l, .int .i64 o, .slice x m d, .int .i64 nx, .int .i64 md, .int .i64 lc] rfl
      clear hv hlen hmap HF hnl
      obtain ⟨f, hf⟩ : ∃ f, Hid (keepS a' l' ⟨p, a, l, o, xs, nx, md, lc⟩ = f) := ⟨_, rfl⟩
      go_upto_region 5 with fail
      generalize wr.alloc (.cells #[.int .i64 p, .int .i64 a, .int .i64 l, .int .i64 o, .slice x m d, .int .i64 nx, .int .i64 md, .int .i64 lc] 35) = wa at *
      have cA := bA.cells
      go_wp2_with fail
      refine (same_any p' a' l' o' nx' md' lc' x' n' c' p a l o nx md lc x m d f _ hf.out).mono ?_
      rintro e w1 ⟨rfl, h1⟩
      have bA1 := bA.new h1
      have N1 := N0.trans h1
      have hns1 := hns.new N1
      have how1 := how.new N1
      have hle := hnw.size
      clear bA cA N0 h1 q0 q1 q2 q3 q4 q5 q6 q7 hns how
      cases f with
      | false =>
        go_wp2
        go_roundw
        case rel =>
          have e := HFR.out
          rw [if_neg (by rw [hf.out]; simp), List.append_nil] at e
          exact ⟨k + 1, V', by omega, by go_num, by omega, e.symm, hnw.trans N1, how1.up N1.size⟩
        case measure => simp [intOf]; omega
      | true =>
        have cA := bA1.cells
        go_wp2_with fail
        refine (copyRt_any p a l o nx md lc x m d xs _ hns1 HL.out hmx HX.out).mono ?_
        rintro e w2 ⟨x2, c2, rfl, ho2, h2⟩
        have how2 := how1.up N1.size
        have hB2 := bA1.new h2
        clear cA
        have hrow3 : (w2.alloc (.cells #[.int .i64 p, .int .i64 a, .int .i64 l, .int .i64 o, .slice x2 m c2, .int .i64 nx, .int .i64 md, .int .i64 lc] 35)).ownsRow w.heap.size 35 8 _ V'.length (cellsT V') := row_turn7 (row_turn7 how1.row h2 (fun _ _ f => f)) ((New.refl w2).alloc _) (fun _ _ f => f)
        have bL := Blk.mk w2 w2.heap.size 35 #[.int .i64 p, .int .i64 a, .int .i64 l, .int .i64 o, .slice x2 m c2, .int .i64 nx, .int .i64 md, .int .i64 lc] rfl
        have hov : OvN w2 w1.heap.size (Rv.pv ⟨⟨p, a, l, o, xs, nx, md, lc⟩, x2, c2⟩) xs := by
          unfold Rv.pv
          simp only [HL.out]
          exact ho2
        have hsz : w.heap.size ≤ (w2.alloc (.cells #[.int .i64 p, .int .i64 a, .int .i64 l, .int .i64 o, .slice x2 m c2, .int .i64 nx, .int .i64 md, .int .i64 lc] 35)).heap.size := by have e1 := N1.size; have e2 := h2.size; simp; omega
        have hsrc : ∀ j, (w2.alloc (.cells #[.int .i64 p, .int .i64 a, .int .i64 l, .int .i64 o, .slice x2 m c2, .int .i64 nx, .int .i64 md, .int .i64 lc] 35)).cell? ⟨w2.heap.size, j, none⟩ = (Rv.mk (Rt.mk p a l o xs nx md lc) x2 c2).cs[j]? := by
          intro j
          rw [bL.cells j]
          unfold Rv.cs
          simp only [HL.out]
          simp
        go_wp2_with (at_builtin; refine wpList_apT _ rfl (.tmp 17) (.tmp 20) rfl w.heap.size _ Try.underlying24 hi hz0 hz1 hz2 rfl _ V' rfl hrow3 w2.heap.size (Rv.mk (Rt.mk p a l o xs nx md lc) x2 c2) rfl hsrc (by omega) hsz ?_)
        intro v5 w5 hr5 hg5 _
        replace hr5 : w5.ownsRow w.heap.size 35 8 v5 (V' ++ [Rv.mk (Rt.mk p a l o xs nx md lc) x2 c2]).length (cellsT (V' ++ [Rv.mk (Rt.mk p a l o xs nx md lc) x2 c2])) := by rw [List.length_append]; exact hr5
        have hO5 := OwT.appended how2 (by have e1 := N1.size; omega) h2 hov hbd.out (by simp only [HL.out]; exact hmx) ((New.refl w2).alloc _) hr5 hg5
        have N5 : New w w5 := ((((hnw.trans N1).trans h2).alloc _).grow hg5 (fun j hj => (row_rng7 how1.row j hj).1))
        clear hr5 hg5 hrow3 hsrc hov how2 how1 ho2
        go_wp2
        go_roundw
        case rel =>
          have e := HFR.out
          rw [if_pos hf.out] at e
          exact ⟨k + 1, V' ++ [Rv.mk (Rt.mk p a l o xs nx md lc) x2 c2], by omega, by go_num, by simp; omega, by rw [e]; simp, N5, hO5⟩
        case measure => simp [intOf]; omega
    · go_wp2
      go_ret
      rw [List.take_of_length_le (by have := HN.out; omega)] at hmap
      exact ⟨_, V', rfl, hmap, how, hnw⟩

end Go.Proofs.Ytjampcfikfafkaa

namespace Go.Proofs.Ytjampcfikfafkaa
open Go.RowKit Go.Sort Go.Shelf
set_option linter.unusedVariables false
set_option linter.unusedSimpArgs false
set_option maxRecDepth 100000
attribute [local go_sem] Oper.semAt_some

/-- The best of a prefix, or that there is none. -/
def BfOk (R : List Rt) (a0 l0 z : Int) (r : Rt) : Prop := (z = 4 ∧ r = ⟨0, 0, 0, 0, [], 0, 0, 0⟩ ∧ ∀ s ∈ R, keepS a0 l0 s = false) ∨ (z = 0 ∧ r ∈ R ∧ keepS a0 l0 r = true ∧ ∀ s ∈ R, keepS a0 l0 s = true → ¬ hcmp s r < 0)

theorem turn_of_grown8 {A B : World} {row : Option Nat} (h : A.grownBy B row) : Turn (fun k => row = some k) A B := ⟨h.os, h.tape, h.output, h.size, fun k hk hs => h.block k hk (fun e => hs e.symm)⟩

/-- Nine stores into one block. -/
theorem nine8 (W : World) (B : Nat) (t : TypeId) (o0 o1 o2 o3 o4 o5 o6 o7 o8 v0 v1 v2 v3 v4 v5 v6 v7 v8 : Value) (h : Blk W B t #[o0, o1, o2, o3, o4, o5, o6, o7, o8]) : Blk (((((((((W.setCell ⟨B, 0, none⟩ v0).setCell ⟨B, 1, none⟩ v1).setCell ⟨B, 2, none⟩ v2).setCell ⟨B, 3, none⟩ v3).setCell ⟨B, 4, none⟩ v4).setCell ⟨B, 5, none⟩ v5).setCell ⟨B, 6, none⟩ v6).setCell ⟨B, 7, none⟩ v7).setCell ⟨B, 8, none⟩ v8) B t #[v0, v1, v2, v3, v4, v5, v6, v7, v8] ∧ Turn (fun k => k = B) W (((((((((W.setCell ⟨B, 0, none⟩ v0).setCell ⟨B, 1, none⟩ v1).setCell ⟨B, 2, none⟩ v2).setCell ⟨B, 3, none⟩ v3).setCell ⟨B, 4, none⟩ v4).setCell ⟨B, 5, none⟩ v5).setCell ⟨B, 6, none⟩ v6).setCell ⟨B, 7, none⟩ v7).setCell ⟨B, 8, none⟩ v8) := by
  have b0 : Blk (W.setCell ⟨B, 0, none⟩ v0) B t #[v0, o1, o2, o3, o4, o5, o6, o7, o8] := h.set 0 v0
  have b1 : Blk ((W.setCell ⟨B, 0, none⟩ v0).setCell ⟨B, 1, none⟩ v1) B t #[v0, v1, o2, o3, o4, o5, o6, o7, o8] := b0.set 1 v1
  have b2 : Blk (((W.setCell ⟨B, 0, none⟩ v0).setCell ⟨B, 1, none⟩ v1).setCell ⟨B, 2, none⟩ v2) B t #[v0, v1, v2, o3, o4, o5, o6, o7, o8] := b1.set 2 v2
  have b3 : Blk ((((W.setCell ⟨B, 0, none⟩ v0).setCell ⟨B, 1, none⟩ v1).setCell ⟨B, 2, none⟩ v2).setCell ⟨B, 3, none⟩ v3) B t #[v0, v1, v2, v3, o4, o5, o6, o7, o8] := b2.set 3 v3
  have b4 : Blk (((((W.setCell ⟨B, 0, none⟩ v0).setCell ⟨B, 1, none⟩ v1).setCell ⟨B, 2, none⟩ v2).setCell ⟨B, 3, none⟩ v3).setCell ⟨B, 4, none⟩ v4) B t #[v0, v1, v2, v3, v4, o5, o6, o7, o8] := b3.set 4 v4
  have b5 : Blk ((((((W.setCell ⟨B, 0, none⟩ v0).setCell ⟨B, 1, none⟩ v1).setCell ⟨B, 2, none⟩ v2).setCell ⟨B, 3, none⟩ v3).setCell ⟨B, 4, none⟩ v4).setCell ⟨B, 5, none⟩ v5) B t #[v0, v1, v2, v3, v4, v5, o6, o7, o8] := b4.set 5 v5
  have b6 : Blk (((((((W.setCell ⟨B, 0, none⟩ v0).setCell ⟨B, 1, none⟩ v1).setCell ⟨B, 2, none⟩ v2).setCell ⟨B, 3, none⟩ v3).setCell ⟨B, 4, none⟩ v4).setCell ⟨B, 5, none⟩ v5).setCell ⟨B, 6, none⟩ v6) B t #[v0, v1, v2, v3, v4, v5, v6, o7, o8] := b5.set 6 v6
  have b7 : Blk ((((((((W.setCell ⟨B, 0, none⟩ v0).setCell ⟨B, 1, none⟩ v1).setCell ⟨B, 2, none⟩ v2).setCell ⟨B, 3, none⟩ v3).setCell ⟨B, 4, none⟩ v4).setCell ⟨B, 5, none⟩ v5).setCell ⟨B, 6, none⟩ v6).setCell ⟨B, 7, none⟩ v7) B t #[v0, v1, v2, v3, v4, v5, v6, v7, o8] := b6.set 7 v7
  have b8 : Blk (((((((((W.setCell ⟨B, 0, none⟩ v0).setCell ⟨B, 1, none⟩ v1).setCell ⟨B, 2, none⟩ v2).setCell ⟨B, 3, none⟩ v3).setCell ⟨B, 4, none⟩ v4).setCell ⟨B, 5, none⟩ v5).setCell ⟨B, 6, none⟩ v6).setCell ⟨B, 7, none⟩ v7).setCell ⟨B, 8, none⟩ v8) B t #[v0, v1, v2, v3, v4, v5, v6, v7, v8] := b7.set 8 v8
  exact ⟨b8, Turn.set (S := fun k => k = B) (Turn.set (S := fun k => k = B) (Turn.set (S := fun k => k = B) (Turn.set (S := fun k => k = B) (Turn.set (S := fun k => k = B) (Turn.set (S := fun k => k = B) (Turn.set (S := fun k => k = B) (Turn.set (S := fun k => k = B) (Turn.set (S := fun k => k = B) (Turn.refl (fun k => k = B) W) rfl v0) rfl v1) rfl v2) rfl v3) rfl v4) rfl v5) rfl v6) rfl v7) rfl v8⟩

set_option maxHeartbeats 6400000 in
theorem implBF_ok (a0 l0 : Int) (A : Option Addr) (N cc : Nat) (V : List Rv) (w : World) (h : RtAt w A V) (hn : V.length = N) (hm : N ≤ 1048576) (hf : ribF (V.map Rv.r) = 0) (hg : pf a0 l0 = 0) :
    Calls Try.prog 8 #[.slice A N cc, .agg #[.int .i64 a0, .int .i64 l0]] w fun e w' => ∃ z r x d, BfOk (V.map Rv.r) a0 l0 z r ∧ e = .returned (.agg #[.int .i64 z, .int .i64 r.p, .int .i64 r.a, .int .i64 r.l, .int .i64 r.o, .slice x r.xs.length d, .int .i64 r.nx, .int .i64 r.md, .int .i64 r.lc]) ∧ OvN w' w.heap.size (.slice x r.xs.length d) r.xs ∧ ((∀ q ∈ r.xs, In6 q) ∧ r.xs.length ≤ 1048576) ∧ New w w' := by
  have HN : Hid (V.length = N) := hn
  have HFA : Hid (ribF (V.map Rv.r) = 0) := hf
  have HG : Hid (pf a0 l0 = 0) := hg
  have HA : Hid (∀ X, New w X → RtAt X A V) := fun X hX => h.new hX
  have N0 : New w ((w.alloc (.cells #[.int .i64 a0, .int .i64 l0] 30)).alloc (.cells #[.int .i64 0, .int .i64 0, .int .i64 0, .int .i64 0, .int .i64 0, .slice none 0 0, .int .i64 0, .int .i64 0, .int .i64 0] 37)) := ((New.refl w).alloc _).alloc _
  have bB : Blk ((w.alloc (.cells #[.int .i64 a0, .int .i64 l0] 30)).alloc (.cells #[.int .i64 0, .int .i64 0, .int .i64 0, .int .i64 0, .int .i64 0, .slice none 0 0, .int .i64 0, .int .i64 0, .int .i64 0] 37)) (w.heap.size + 1) 37 #[.int .i64 0, .int .i64 0, .int .i64 0, .int .i64 0, .int .i64 0, .slice none 0 0, .int .i64 0, .int .i64 0, .int .i64 0] := Blk.mk _ _ _ _ (by simp)
  have bP : Blk ((w.alloc (.cells #[.int .i64 a0, .int .i64 l0] 30)).alloc (.cells #[.int .i64 0, .int .i64 0, .int .i64 0, .int .i64 0, .int .i64 0, .slice none 0 0, .int .i64 0, .int .i64 0, .int .i64 0] 37)) w.heap.size 30 #[.int .i64 a0, .int .i64 l0] := (Blk.mk _ _ _ _ rfl).alloc _
  have hmf : ∀ (fn : Fn) (first cap : Array Value) (w : World), (Instr.makeFunc fn first cap).run Try.prog w = .ok (.func fn first cap) w := fun _ _ _ _ => rfl
  have ltB := bB.lt
  clear h hn hf hg
  refine (callsIn_wide (n := 4)).1 ?_
  refine callsIn_of_wp_marks Try.func8 rfl trivial ?_ rfl
  simp only [Try.ntmps8, List.size_toArray, List.length_cons, List.length_nil, Nat.reduceAdd, Nat.reduceSub, Array.replicate_succ, Array.replicate_zero, List.push_toArray, List.append_toArray, List.nil_append, List.cons_append]
  gi_wp2_with fail
  refine ⟨trivial, ?_⟩
  refine (callsIn_wide.2 (implRib A N cc V 0 _ (HA.out _ N0) HN.out hm HFA.out)).mono ?_
  generalize ((w.alloc (.cells #[.int .i64 a0, .int .i64 l0] 30)).alloc (.cells #[.int .i64 0, .int .i64 0, .int .i64 0, .int .i64 0, .int .i64 0, .slice none 0 0, .int .i64 0, .int .i64 0, .int .i64 0] 37)) = w0 at *
  rintro e w1 ⟨rfl, h1⟩
  have b1 := bB.new h1
  have p1 := bP.new h1
  have n1 := N0.trans h1
  have lt1 := b1.lt
  have pc := p1.cells
  clear bB bP h1 N0
  gi_wp2_with fail
  refine ⟨trivial, ?_⟩
  refine (callsIn_wide.2 (implPF_is a0 l0 0 _ HG.out)).mono ?_
  rintro e w2 ⟨rfl, h2⟩
  have b2 := b1.new h2
  have p2 := p1.new h2
  have n2 := n1.trans h2
  have lt2 := b2.lt
  clear pc b1 p1 h2 n1
  have pc := p2.cells
  have bD := Blk.mk w2 w2.heap.size 35 #[.int .i64 0, .int .i64 a0, .int .i64 l0, .int .i64 0, .slice none 0 0, .int .i64 0, .int .i64 0, .int .i64 0] rfl
  have cD := bD.cells
  have a2 := (New.refl w2).alloc (.cells #[.int .i64 0, .int .i64 a0, .int .i64 l0, .int .i64 0, .slice none 0 0, .int .i64 0, .int .i64 0, .int .i64 0] 35)
  gi_wp2_with fail
  refine ⟨trivial, ?_⟩
  refine (callsIn_wide.2 (thatS_any 0 a0 l0 0 0 0 0 none 0 0 A N cc V _ (HA.out _ (n2.trans a2)) HN.out hm)).mono ?_
  rintro e w3 ⟨u, V', rfl, hv3, ho3, h3⟩
  obtain ⟨A3, c3, rfl, hr3, -⟩ := ho3.form
  have b3 := (b2.new a2).new h3
  have n3 := (n2.trans a2).trans h3
  have z3 := h3.size
  have z2 := a2.size
  clear b2 n2 bD cD pc p2 h3 a2
  have hl3 : V'.length ≤ N := by
    have e := congrArg List.length hv3
    rw [List.length_map] at e
    have e2 := List.length_filter_le (keepS a0 l0) (V.map Rv.r)
    rw [List.length_map, HN.out] at e2
    omega
  have HV3 : Hid (V'.map Rv.r = (V.map Rv.r).filter (keepS a0 l0)) := hv3
  clear hv3
  gi_wp2_with fail
  refine ⟨trivial, ?_⟩
  refine (callsIn_wide.2 (heapOf_any A3 V'.length c3 V' _ hr3 rfl (by omega))).mono ?_
  rintro e w4 ⟨H, V4, rfl, hs4, hp4, hk4, h4⟩
  gi_wp2_with fail
  have b4 := b3.new h4
  have n4 := n3.trans h4
  have z4 := h4.size
  have lt4 := b4.lt
  have lt3 := b3.lt
  have H4 : Hid (New w3 w4) := h4
  clear b3 h4
  obtain ⟨b, c, hp, hlb, hlH, hfar⟩ := hs4
  have ltb := hp.row.lt
  have ltH := hp.hd.lt
  have HB4 : Hid (Blk w4 (w.heap.size + 1) 37 #[.int .i64 0, .int .i64 0, .int .i64 0, .int .i64 0, .int .i64 0, .slice none 0 0, .int .i64 0, .int .i64 0, .int .i64 0]) := b4
  clear b4
  rcases Nat.eq_zero_or_pos V'.length with h0 | h0
  · have hV4 : V4 = [] := List.eq_nil_of_length_eq_zero (hp4.length_eq.trans h0)
    subst hV4
    refine wpIn_range8 (v0 := .pointer (some ⟨H, 0, none⟩)) rfl (by omega) (gf := 15) rfl trivial (enters_of Try.func15 (by kernel_rfl) rfl) ?_
    intro fn W1 rec hfn hN1 hsz hrec hl hd
    refine (top8_none (w4.heap.size + 1) H b c W1 (hp.new hN1)).mono ?_
    rintro e W2 ⟨he, rfl⟩
    refine ⟨he, .ready, none, by simp, by subst hrec; exact hl, hd, ?_⟩
    rintro W3 rfl
    have b5 : Blk (W2.putObj (w4.heap.size + 1) (.loop { rec with state := .exhausted, pending := none })) (w.heap.size + 1) 37 #[.int .i64 0, .int .i64 0, .int .i64 0, .int .i64 0, .int .i64 0, .slice none 0 0, .int .i64 0, .int .i64 0, .int .i64 0] := (World.putObj_heap_other (by omega)).trans (HB4.out.new hN1)
    have d5 : (W2.putObj (w4.heap.size + 1) (.loop { rec with state := .exhausted, pending := none })).heap[w4.heap.size]? = some (.deferred (some [])) := (World.putObj_heap_other (by omega)).trans hd
    have tl := turn_of_grown8 (grownBy_putObj' W2 (w4.heap.size + 1) (.loop { rec with state := .exhausted, pending := none }))
    generalize W2.putObj (w4.heap.size + 1) (.loop { rec with state := .exhausted, pending := none }) = W5 at *
    have c5 := b5.cells
    have f5 := b5.frees
    gi_wp2
    obtain ⟨b6, t6⟩ := nine8 W5 (w.heap.size + 1) 37 (.int .i64 0) (.int .i64 0) (.int .i64 0) (.int .i64 0) (.int .i64 0) (.slice none 0 0) (.int .i64 0) (.int .i64 0) (.int .i64 0) (.int .i64 4) (.int .i64 0) (.int .i64 0) (.int .i64 0) (.int .i64 0) (.slice none 0 0) (.int .i64 0) (.int .i64 0) (.int .i64 0) b5
    have lt5 : w4.heap.size < W5.heap.size := (Array.getElem?_eq_some_iff.1 d5).1
    have hK6 := (t6.block w4.heap.size lt5 (by omega)).trans d5
    generalize (((((((((W5.setCell ⟨w.heap.size + 1, 0, none⟩ (.int .i64 4)).setCell ⟨w.heap.size + 1, 1, none⟩ (.int .i64 0)).setCell ⟨w.heap.size + 1, 2, none⟩ (.int .i64 0)).setCell ⟨w.heap.size + 1, 3, none⟩ (.int .i64 0)).setCell ⟨w.heap.size + 1, 4, none⟩ (.int .i64 0)).setCell ⟨w.heap.size + 1, 5, none⟩ (.slice none 0 0)).setCell ⟨w.heap.size + 1, 6, none⟩ (.int .i64 0)).setCell ⟨w.heap.size + 1, 7, none⟩ (.int .i64 0)).setCell ⟨w.heap.size + 1, 8, none⟩ (.int .i64 0)) = W6 at *
    have tp := turn_of_grown8 (grownBy_putObj' W6 w4.heap.size (.deferred none))
    have b7 := b6.turn tp (by intro e; have := Option.some.inj e; omega)
    have cF := b7.cells
    refine ⟨by simp, .inl ⟨_, _, rfl, run_takeDeferred hK6, ?_⟩⟩
    refine ⟨.agg #[.int .i64 4, .int .i64 0, .int .i64 0, .int .i64 0, .int .i64 0, .slice none 0 0, .int .i64 0, .int .i64 0, .int .i64 0], by simp [results, Try.results8, go_sem, cF], ?_⟩
    refine ⟨4, ⟨0, 0, 0, 0, [], 0, 0, 0⟩, none, 0, .inl ⟨rfl, rfl, ?_⟩, rfl, ⟨rfl, .inl ⟨rfl, rfl⟩⟩, ⟨by simp, by simp⟩, ?_⟩
    · have e := HV3.out
      rw [List.eq_nil_of_length_eq_zero h0, List.map_nil] at e
      intro s hs
      have := List.filter_eq_nil_iff.1 e.symm s hs
      simpa using this
    · refine Turn.mono (Turn.trans (Turn.trans (Turn.trans (Turn.trans n4.turn hN1.turn (fun _ _ e => e)) tl (fun k _ e => ?_)) t6 (fun k _ e => ?_)) tp (fun k _ e => ?_)) (S := fun k => w.heap.size ≤ k) (fun k h1 h2 => by omega)
      · have := Option.some.inj e; omega
      · omega
      · have := Option.some.inj e; omega
  · obtain ⟨m, hm4⟩ : ∃ m, V4.length = m + 1 := ⟨V4.length - 1, by have := hp4.length_eq; omega⟩
    have hk5 : hpOK hlt (hf V4) (m + 1) := by rw [← hm4, hp4.length_eq]; exact hk4
    have hle : m + 1 ≤ 1048576 := by have := hp4.length_eq; omega
    have hv0 : V4[0]? = some (hf V4 0) := hf_at (by omega)
    have hvm : hf V4 0 ∈ V' := hp4.mem_iff.1 (List.mem_of_getElem? hv0)
    have hown := ho3.path.own _ hvm
    have hbd := ho3.path.bd _ hvm
    have hbest : BfOk (V.map Rv.r) a0 l0 0 (hf V4 0).r := by
      refine .inr ⟨rfl, ?_⟩
      have hin : (hf V4 0).r ∈ (V.map Rv.r).filter (keepS a0 l0) := by rw [← HV3.out]; exact List.mem_map_of_mem hvm
      obtain ⟨h1, h2⟩ := List.mem_filter.1 hin
      refine ⟨h1, h2, fun s hs hk => ?_⟩
      have h3 : s ∈ V'.map Rv.r := by rw [HV3.out]; exact List.mem_filter.2 ⟨hs, hk⟩
      obtain ⟨u, hu, rfl⟩ := List.mem_map.1 h3
      obtain ⟨i, hi⟩ := List.getElem?_of_mem (hp4.mem_iff.2 hu)
      have hil := (List.getElem?_eq_some_iff.1 hi).1
      have := hp_top hlt_tr hlt_irr hk5 i (by omega)
      rw [hf_get hi] at this
      exact this
    have HBEST : Hid (BfOk (V.map Rv.r) a0 l0 0 (hf V4 0).r) := hbest
    have HOWN : Hid (OvN w3 _ (hf V4 0).pv (hf V4 0).r.xs) := hown
    have HBD : Hid ((∀ z ∈ (hf V4 0).r.xs, In6 z) ∧ (hf V4 0).r.xs.length ≤ 1048576) := hbd
    have HRNG : Hid (∀ k, (hf V4 0).pv.ownBlock = some k → w.heap.size + 1 < k ∧ k < w3.heap.size) := fun k hk => by have := hown.rng7 k hk; omega
    clear hown hbd hbest hvm hv0 hr3 ho3
    obtain ⟨v, hv⟩ : ∃ v, hf V4 0 = v := ⟨_, rfl⟩
    rw [hv] at HBEST HOWN HBD HRNG
    refine wpIn_range8 (v0 := .pointer (some ⟨H, 0, none⟩)) rfl (by omega) (gf := 15) rfl trivial (enters_of Try.func15 (by kernel_rfl) rfl) ?_
    intro fn W1 rec hfn hN1 hsz hrec hl hd
    obtain ⟨rb, hrb⟩ : ∃ rb : Loop, rb = { rec with state := .busy } := ⟨_, rfl⟩
    obtain ⟨rd, hrd⟩ : ∃ rd : Loop, rd = { rec with state := .done, pending := some .ret } := ⟨_, rfl⟩
    refine (top8_first (w4.heap.size + 1) H b c V4 m W1 (fun W => W.heap[w4.heap.size + 1]? = some (.loop rd) ∧ W.heap[w4.heap.size]? = some (.deferred (some [])) ∧ Blk W (w.heap.size + 1) 37 #[.int .i64 0, .int .i64 v.r.p, .int .i64 v.r.a, .int .i64 v.r.l, .int .i64 v.r.o, .slice v.x v.r.xs.length v.c, .int .i64 v.r.nx, .int .i64 v.r.md, .int .i64 v.r.lc] ∧ Turn (fun k => k = b ∨ k = H ∨ k = w.heap.size + 1 ∨ k = w4.heap.size + 1) W1 W) (hp.new hN1) hm4 hle hk5 ?_).mono ?_
    · intro W2 t2
      rw [hv]
      obtain ⟨⟨p, a, l, o, xs, nx, md, lc⟩, x, d⟩ := v
      have hl2 := (t2.block (w4.heap.size + 1) (by omega) (by omega)).trans hl
      have hd2 := (t2.block w4.heap.size (by omega) (by omega)).trans hd
      have b2 := (HB4.out.new hN1).turn t2 (by omega)
      have sz2 := t2.size
      refine yield8 (rec := rec) (by subst hrec; exact hfn) hl2 (by subst hrec; rfl) ?_
      subst hrec
      dsimp only
      unfold Rv.val
      dsimp only
      gi_wp2
      have bR := Blk.mk W2 W2.heap.size 35 #[.int .i64 p, .int .i64 a, .int .i64 l, .int .i64 o, .slice x xs.length d, .int .i64 nx, .int .i64 md, .int .i64 lc] rfl
      have aR := (New.refl W2).alloc (.cells #[.int .i64 p, .int .i64 a, .int .i64 l, .int .i64 o, .slice x xs.length d, .int .i64 nx, .int .i64 md, .int .i64 lc] 35)
      have hl3 := (aR.block _ (by omega) (fun f => f)).trans hl2
      have hd3 := (aR.block _ (by omega) (fun f => f)).trans hd2
      have b3 := b2.new aR
      have hb : (Instr.beginRound (w4.heap.size + 1)).run Try.prog (W2.alloc (.cells #[.int .i64 p, .int .i64 a, .int .i64 l, .int .i64 o, .slice x xs.length d, .int .i64 nx, .int .i64 md, .int .i64 lc] 35)) = .ok () ((W2.alloc (.cells #[.int .i64 p, .int .i64 a, .int .i64 l, .int .i64 o, .slice x xs.length d, .int .i64 nx, .int .i64 md, .int .i64 lc] 35)).putObj (w4.heap.size + 1) (.loop rb)) := by rw [hrb]; exact run_beginRound hl3 rfl
      refine ⟨_, hb, ?_⟩
      clear hb
      have szR := aR.size
      have lt2 : w4.heap.size + 1 < W2.heap.size := (Array.getElem?_eq_some_iff.1 hl2).1
      have hl4 : ((W2.alloc (.cells #[.int .i64 p, .int .i64 a, .int .i64 l, .int .i64 o, .slice x xs.length d, .int .i64 nx, .int .i64 md, .int .i64 lc] 35)).putObj (w4.heap.size + 1) (.loop rb)).heap[w4.heap.size + 1]? = some (.loop rb) := World.putObj_heap_same (by omega)
      have hd4 : ((W2.alloc (.cells #[.int .i64 p, .int .i64 a, .int .i64 l, .int .i64 o, .slice x xs.length d, .int .i64 nx, .int .i64 md, .int .i64 lc] 35)).putObj (w4.heap.size + 1) (.loop rb)).heap[w4.heap.size]? = some (.deferred (some [])) := (World.putObj_heap_other (by omega)).trans hd3
      have b4 : Blk ((W2.alloc (.cells #[.int .i64 p, .int .i64 a, .int .i64 l, .int .i64 o, .slice x xs.length d, .int .i64 nx, .int .i64 md, .int .i64 lc] 35)).putObj (w4.heap.size + 1) (.loop rb)) (w.heap.size + 1) 37 #[.int .i64 0, .int .i64 0, .int .i64 0, .int .i64 0, .int .i64 0, .slice none 0 0, .int .i64 0, .int .i64 0, .int .i64 0] := (World.putObj_heap_other (by omega)).trans b3
      have bR4 : Blk ((W2.alloc (.cells #[.int .i64 p, .int .i64 a, .int .i64 l, .int .i64 o, .slice x xs.length d, .int .i64 nx, .int .i64 md, .int .i64 lc] 35)).putObj (w4.heap.size + 1) (.loop rb)) W2.heap.size 35 #[.int .i64 p, .int .i64 a, .int .i64 l, .int .i64 o, .slice x xs.length d, .int .i64 nx, .int .i64 md, .int .i64 lc] := (World.putObj_heap_other (by omega)).trans bR
      have tl := Turn.trans (aR.turn (S := fun k => k = b ∨ k = H ∨ k = w.heap.size + 1 ∨ k = w4.heap.size + 1)) ((turn_of_grown8 (grownBy_putObj' (W2.alloc (.cells #[.int .i64 p, .int .i64 a, .int .i64 l, .int .i64 o, .slice x xs.length d, .int .i64 nx, .int .i64 md, .int .i64 lc] 35)) (w4.heap.size + 1) (.loop rb))).mono (fun k _ e => by have := Option.some.inj e; omega)) (fun _ _ e => e)
      generalize (W2.alloc (.cells #[.int .i64 p, .int .i64 a, .int .i64 l, .int .i64 o, .slice x xs.length d, .int .i64 nx, .int .i64 md, .int .i64 lc] 35)).putObj (w4.heap.size + 1) (.loop rb) = W4 at *
      clear bR aR hl3 hd3 b3
      have cR := bR4.cells
      have c4 := b4.cells
      have f4 := b4.frees
      gi_wp2
      obtain ⟨b6, t6⟩ := nine8 W4 (w.heap.size + 1) 37 (.int .i64 0) (.int .i64 0) (.int .i64 0) (.int .i64 0) (.int .i64 0) (.slice none 0 0) (.int .i64 0) (.int .i64 0) (.int .i64 0) (.int .i64 0) (.int .i64 p) (.int .i64 a) (.int .i64 l) (.int .i64 o) (.slice x xs.length d) (.int .i64 nx) (.int .i64 md) (.int .i64 lc) b4
      have hl6 := (t6.block (w4.heap.size + 1) (Array.getElem?_eq_some_iff.1 hl4).1 (by omega)).trans hl4
      have hd6 := (t6.block w4.heap.size (Array.getElem?_eq_some_iff.1 hd4).1 (by omega)).trans hd4
      generalize (((((((((W4.setCell ⟨w.heap.size + 1, 0, none⟩ (.int .i64 0)).setCell ⟨w.heap.size + 1, 1, none⟩ (.int .i64 p)).setCell ⟨w.heap.size + 1, 2, none⟩ (.int .i64 a)).setCell ⟨w.heap.size + 1, 3, none⟩ (.int .i64 l)).setCell ⟨w.heap.size + 1, 4, none⟩ (.int .i64 o)).setCell ⟨w.heap.size + 1, 5, none⟩ (.slice x xs.length d)).setCell ⟨w.heap.size + 1, 6, none⟩ (.int .i64 nx)).setCell ⟨w.heap.size + 1, 7, none⟩ (.int .i64 md)).setCell ⟨w.heap.size + 1, 8, none⟩ (.int .i64 lc)) = W6 at *
      have he := run_endRound (P := Try.prog) (some .ret) hl6
      have hrd2 : ({ rb with state := .done, pending := some .ret } : Loop) = rd := by rw [hrb, hrd]
      have lt6 : w4.heap.size + 1 < W6.heap.size := (Array.getElem?_eq_some_iff.1 hl6).1
      refine ⟨_, _, he, rfl, ?_⟩
      have hrd3 : ({ rb with state := (if (some Code.ret).isNone then .ready else .done), pending := some .ret } : Loop) = rd := hrd2
      rw [hrd3]
      refine ⟨(World.putObj_heap_same lt6).trans (by rw [hrd]), (World.putObj_heap_other (by omega)).trans hd6, (World.putObj_heap_other (by omega)).trans b6, ?_⟩
      exact Turn.trans (Turn.trans (Turn.trans (t2.mono (fun k _ e => by omega)) tl (fun _ _ e => e)) t6 (fun k _ e => by omega)) (turn_of_grown8 (grownBy_putObj' W6 (w4.heap.size + 1) (.loop rd))) (fun k _ e => by have := Option.some.inj e; omega)
    · rintro e W2 ⟨he, hl2, hd2, b2, t2⟩
      refine ⟨he, .done, some .ret, by simp, by rw [← hrd]; exact hl2, hd2, ?_⟩
      rintro W3 rfl
      have b5 : Blk (W2.putObj (w4.heap.size + 1) (.loop { rec with state := .exhausted, pending := some .ret })) (w.heap.size + 1) 37 #[.int .i64 0, .int .i64 v.r.p, .int .i64 v.r.a, .int .i64 v.r.l, .int .i64 v.r.o, .slice v.x v.r.xs.length v.c, .int .i64 v.r.nx, .int .i64 v.r.md, .int .i64 v.r.lc] := (World.putObj_heap_other (by omega)).trans b2
      have d5 : (W2.putObj (w4.heap.size + 1) (.loop { rec with state := .exhausted, pending := some .ret })).heap[w4.heap.size]? = some (.deferred (some [])) := (World.putObj_heap_other (by omega)).trans hd2
      have t5 := turn_of_grown8 (grownBy_putObj' W2 (w4.heap.size + 1) (.loop { rec with state := .exhausted, pending := some .ret }))
      generalize W2.putObj (w4.heap.size + 1) (.loop { rec with state := .exhausted, pending := some .ret }) = W5 at *
      dsimp only
      gi_wp2
      have tp := turn_of_grown8 (grownBy_putObj' W5 w4.heap.size (.deferred none))
      have b7 := b5.turn tp (by intro e; have := Option.some.inj e; omega)
      have cF := b7.cells
      refine ⟨by simp, .inl ⟨_, _, rfl, run_takeDeferred d5, ?_⟩⟩
      refine ⟨.agg #[.int .i64 0, .int .i64 v.r.p, .int .i64 v.r.a, .int .i64 v.r.l, .int .i64 v.r.o, .slice v.x v.r.xs.length v.c, .int .i64 v.r.nx, .int .i64 v.r.md, .int .i64 v.r.lc], by simp [results, Try.results8, go_sem, cF], ?_⟩
      have TT : Turn (fun k => k = w.heap.size + 1 ∨ w3.heap.size ≤ k) w3 (W5.putObj w4.heap.size (.deferred none)) := by
        refine Turn.trans (Turn.trans (Turn.trans (Turn.trans H4.out.turn hN1.turn (fun _ _ e => e)) t2 (fun k _ e => ?_)) t5 (fun k _ e => ?_)) tp (fun k _ e => ?_)
        · omega
        · have := Option.some.inj e; omega
        · have := Option.some.inj e; omega
      refine ⟨0, v.r, HBEST.out, v.x, v.c, rfl, (HOWN.out.turn7 TT (fun k hk => by have := HRNG.out k hk; omega)).low (by omega), HBD.out, ?_⟩
      exact Turn.mono (Turn.trans n3.turn TT (fun _ _ e => e)) (fun k h1 h2 => by omega)

end Go.Proofs.Ytjampcfikfafkaa
