/- What is proved here: what container/heap's up does at a heap of routes, for a heap that can be read. -/
import Derived.Test.YtkaaefieglhdlaaH8Sw
import Derived.Test.YtkaaefieglhdlaaH8Fn
import Derived.Handy
namespace Go.Proofs.Ytkaaefieglhdlaa
open Go.RowKit Go.Sort
set_option linter.unusedVariables false
set_option linter.unusedSimpArgs false

/-- The heap as heap's functions are handed it. -/
abbrev hpI (H : Nat) : Value := .iface 59 (.pointer (some ⟨H, 0, none⟩))

set_option maxRecDepth 100000 in
set_option maxHeartbeats 6400000 in
theorem up_heap (H b c : Nat) (V : List Rv) (n j : Nat) (w : World) (hp : HpAt w H b c V) (hn : V.length = n) (hm : n ≤ 1048576) (hj : j < n) (hu : upOK hlt (hf V) n j) : Calls Try.prog 71 #[.iface 59 (.pointer (some ⟨H, 0, none⟩)), .int .i64 j] w fun e w' => e = .returned (.tuple #[]) ∧ ∃ V', HpAt w' H b c V' ∧ V'.Perm V ∧ hpOK hlt (hf V') n ∧ Turn (fun k => k = b) w w' := by
  have HN : Hid (V.length = n) := hn
  go_enter Try.func71, Try.ntmps71
  go_wp2_with fail
  go_loopw [1] (fun jv wr => ∃ (j' : Nat) (V' : List Rv), jv = .int .i64 j' ∧ j' < n ∧ HpAt wr H b c V' ∧ V'.Perm V ∧ upOK hlt (hf V') n j' ∧ Turn (fun k => k = b) w wr) (fun jv _ => (intOf jv).toNat)
  case atStart => exact ⟨j, V, rfl, hj, hp, List.Perm.refl _, hu, Turn.refl _ _⟩
  case round =>
    obtain ⟨j', V', rfl, hj', hp', hpm, hup, ht⟩ := hrel
    have HN' : Hid (V'.length = n) := hpm.length_eq.trans HN.out
    have HP : Hid (HpAt wr H b c V') := hp'
    have HM : Hid (V'.Perm V) := hpm
    have HU : Hid (upOK hlt (hf V') n j') := hup
    clear hp' hpm hup hp hu hn
    by_cases h0 : j' = 0
    · subst h0
      go_wp2
      go_returns
      exact ⟨rfl, V', HP.out, HM.out, up_done HU.out (.inl rfl), ht⟩
    · have hi1 : (j' : Int) - 1 = ((j' - 1 : Nat) : Int) := by omega
      have hw1 : IntKind.i64.wrap ((j' : Int) - 1) = ((j' - 1 : Nat) : Int) := by rw [IntKind.wrap_i64]; omega
      have hu' : V'[j']? = some (hf V' j') := hf_at (by rw [HN'.out]; omega)
      have hv' : V'[(j' - 1) / 2]? = some (hf V' ((j' - 1) / 2)) := hf_at (by rw [HN'.out]; omega)
      have HU' : Hid (V'[j']? = some (hf V' j')) := hu'
      have HV' : Hid (V'[(j' - 1) / 2]? = some (hf V' ((j' - 1) / 2))) := hv'
      clear hu' hv'
      by_cases hl : hlt (hf V' j') (hf V' ((j' - 1) / 2))
      case neg =>
        have HD : Hid (hpOK hlt (hf V') n) := up_done HU.out (.inr hl)
        have HZ : Hid (decide (hcmp (hf V' j').r (hf V' ((j' - 1) / 2)).r < 0) = false) := decide_eq_false hl
        clear hl
        go_wp2_with fail
        rw [show ((j' - 1 : Nat) : Int) / 2 = (((j' - 1) / 2 : Nat) : Int) by omega]
        have hne : ((((j' - 1) / 2 : Nat) : Int) == (j' : Int)) = false := by simp; omega
        refine (less_heap H b c V' n j' ((j' - 1) / 2) _ _ false wr HP.out HN'.out hm HU'.out HV'.out HZ.out).mono ?_
        rintro e w1 ⟨rfl, hn1⟩
        rw [hne]
        go_wp2
        go_returns
        exact ⟨rfl, V', HP.out.new hn1, HM.out, HD.out, Turn.trans ht hn1.turn (fun _ _ e => e)⟩
      case pos =>
        have HZ : Hid (decide (hcmp (hf V' j').r (hf V' ((j' - 1) / 2)).r < 0) = true) := decide_eq_true hl
        have HS : Hid (upOK hlt (hf ((V'.set ((j' - 1) / 2) (hf V' j')).set j' (hf V' ((j' - 1) / 2)))) n ((j' - 1) / 2)) := by
          have h := up_step (fun a b c => hlt_tr a b c) hlt_asy HU.out (by omega) hj' hl
          rw [← hf_sw HV'.out HU'.out] at h
          exact h
        clear hl
        go_wp2_with fail
        rw [show ((j' - 1 : Nat) : Int) / 2 = (((j' - 1) / 2 : Nat) : Int) by omega]
        have hne : ((((j' - 1) / 2 : Nat) : Int) == (j' : Int)) = false := by simp; omega
        refine (less_heap H b c V' n j' ((j' - 1) / 2) _ _ true wr HP.out HN'.out hm HU'.out HV'.out HZ.out).mono ?_
        rintro e w1 ⟨rfl, hn1⟩
        rw [hne]
        go_wp2_with fail
        refine (swap_heap H b c V' n ((j' - 1) / 2) j' _ _ w1 (HP.out.new hn1) HN'.out hm HV'.out HU'.out).mono ?_
        rintro e w2 ⟨rfl, hp2, t2⟩
        have HP2 : Hid (HpAt w2 H b c ((V'.set ((j' - 1) / 2) (hf V' j')).set j' (hf V' ((j' - 1) / 2)))) := hp2
        clear hp2
        go_wp2
        go_roundw
        case rel => exact ⟨(j' - 1) / 2, _, rfl, by omega, HP2.out, (perm_sw HV'.out HU'.out).trans HM.out, HS.out, Turn.trans (Turn.trans ht hn1.turn (fun _ _ e => e)) t2 (fun _ _ e => e)⟩
        case measure => simp [intOf]; omega

end Go.Proofs.Ytkaaefieglhdlaa
