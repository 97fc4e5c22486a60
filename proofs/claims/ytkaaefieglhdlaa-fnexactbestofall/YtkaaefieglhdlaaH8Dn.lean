/- What is proved here: what container/heap's down does at a heap of routes, for a heap that can be read. -/
import Derived.Test.YtkaaefieglhdlaaH8Up
namespace Go.Proofs.Ytkaaefieglhdlaa
open Go.RowKit Go.Sort
set_option linter.unusedVariables false
set_option linter.unusedSimpArgs false

/-- A heap down to a place: what lies behind the place is left as it is. -/
theorem dn_both {f : Nat → Rv} {n i j : Nat} (tr : ∀ a b c : Rv, ¬ hlt b a → ¬ hlt c b → ¬ hlt c a) (h1 : 2 * i + 1 < n) (hj : (j = 2 * i + 1 ∧ (2 * i + 2 < n → ¬ hlt (f (2 * i + 2)) (f (2 * i + 1)))) ∨ (j = 2 * i + 2 ∧ 2 * i + 2 < n ∧ hlt (f (2 * i + 2)) (f (2 * i + 1)))) : ∀ k, 0 < k → k < n → (k - 1) / 2 = i → ¬ hlt (f k) (f j) := by
  intro k k0 kn ki
  have hk : k = 2 * i + 1 ∨ k = 2 * i + 2 := by omega
  rcases hj with ⟨rfl, h⟩ | ⟨rfl, h2, h⟩
  · rcases hk with rfl | rfl
    · exact hlt_irr _
    · exact h kn
  · rcases hk with rfl | rfl
    · exact hlt_asy _ _ h
    · exact hlt_irr _

set_option maxRecDepth 100000 in
set_option maxHeartbeats 6400000 in
theorem down_heap (H b c : Nat) (V : List Rv) (n N : Nat) (w : World) (hp : HpAt w H b c V) (hn : V.length = N) (hm : N ≤ 1048576) (hnN : n ≤ N) (hu : dnOK hlt (hf V) n 0) : Calls Try.prog 73 #[.iface 59 (.pointer (some ⟨H, 0, none⟩)), .int .i64 0, .int .i64 n] w fun e w' => (∃ z, e = .returned (.bool z)) ∧ ∃ V', HpAt w' H b c V' ∧ V'.Perm V ∧ hpOK hlt (hf V') n ∧ (∀ k, n ≤ k → hf V' k = hf V k) ∧ Turn (fun k => k = b) w w' := by
  have HN : Hid (V.length = N) := hn
  go_enter Try.func73, Try.ntmps73
  go_wp2_with fail
  go_loopw [7] (fun iv wr => ∃ (i : Nat) (V' : List Rv), iv = .int .i64 i ∧ (i < n ∨ i = 0) ∧ HpAt wr H b c V' ∧ V'.Perm V ∧ dnOK hlt (hf V') n i ∧ (∀ k, n ≤ k → hf V' k = hf V k) ∧ Turn (fun k => k = b) w wr) (fun iv _ => n - (intOf iv).toNat)
  case atStart => exact ⟨0, V, rfl, .inr rfl, hp, List.Perm.refl _, hu, fun _ _ => rfl, Turn.refl _ _⟩
  case round =>
    obtain ⟨i, V', rfl, hi, hp', hpm, hup, hfar, ht⟩ := hrel
    have HN' : Hid (V'.length = N) := hpm.length_eq.trans HN.out
    have HP : Hid (HpAt wr H b c V') := hp'
    have HM : Hid (V'.Perm V) := hpm
    have HU : Hid (dnOK hlt (hf V') n i) := hup
    have HFA : Hid (∀ k, n ≤ k → hf V' k = hf V k) := hfar
    have HT : Hid (Turn (fun k => k = b) w wr) := ht
    clear hp' hpm hup hp hu hn hfar ht
    have hw1 : IntKind.i64.wrap (2 * (i : Int)) = 2 * (i : Int) := by rw [IntKind.wrap_i64]; omega
    have hw2 : IntKind.i64.wrap (2 * (i : Int) + 1) = 2 * (i : Int) + 1 := by rw [IntKind.wrap_i64]; omega
    have hg0 : ¬ 2 * (i : Int) + 1 < 0 := by omega
    by_cases h1 : 2 * i + 1 < n
    case neg =>
      have hge : (n : Int) ≤ 2 * (i : Int) + 1 := by omega
      have HD : Hid (hpOK hlt (hf V') n) := dn_done HU.out (fun k k0 kn ki => by omega)
      go_wp2
      go_returns
      exact ⟨by first | exact trivial | exact ⟨_, rfl⟩ | (simp; omega), V', HP.out, HM.out, HD.out, HFA.out, HT.out⟩
    case pos =>
      have hge : ¬ (n : Int) ≤ 2 * (i : Int) + 1 := by omega
      have hw3 : IntKind.i64.wrap (2 * (i : Int) + 1 + 1) = 2 * (i : Int) + 1 + 1 := by rw [IntKind.wrap_i64]; omega
      by_cases h2 : 2 * i + 2 < n
      case neg =>
        have hl2 : ¬ 2 * (i : Int) + 1 + 1 < (n : Int) := by omega
        have HJ : Hid (V'[2 * i + 1]? = some (hf V' (2 * i + 1))) := hf_at (by rw [HN'.out]; omega)
        have HI : Hid (V'[i]? = some (hf V' i)) := hf_at (by rw [HN'.out]; omega)
        have HB : Hid (∀ k, 0 < k → k < n → (k - 1) / 2 = i → ¬ hlt (hf V' k) (hf V' (2 * i + 1))) := dn_both hlt_tr h1 (.inl ⟨rfl, fun h => absurd h h2⟩)
        by_cases hl : hlt (hf V' (2 * i + 1)) (hf V' i)
        case neg =>
          have HD : Hid (hpOK hlt (hf V') n) := dn_done HU.out (fun k k0 kn ki => hlt_tr _ _ _ hl (HB.out k k0 kn ki))
          have HZ : Hid (decide (hcmp (hf V' (2 * i + 1)).r (hf V' i).r < 0) = false) := decide_eq_false hl
          clear hl
          go_wp2_with fail
          rw [show 2 * (i : Int) + 1 = ((2 * i + 1 : Nat) : Int) by omega]
          refine (less_heap H b c V' N (2 * i + 1) i _ _ false wr HP.out HN'.out hm HJ.out HI.out HZ.out).mono ?_
          rintro e w2 ⟨rfl, hn2⟩
          go_wp2
          go_returns
          exact ⟨by first | exact trivial | exact ⟨_, rfl⟩ | (simp; omega), V', (HP.out).new hn2, HM.out, HD.out, HFA.out, Turn.trans (HT.out) hn2.turn (fun _ _ e => e)⟩
        case pos =>
          have HZ : Hid (decide (hcmp (hf V' (2 * i + 1)).r (hf V' i).r < 0) = true) := decide_eq_true hl
          have HS : Hid (dnOK hlt (hf ((V'.set i (hf V' (2 * i + 1))).set (2 * i + 1) (hf V' i))) n (2 * i + 1)) := by
            have h := dn_step hlt_asy HU.out (by omega) (by omega) (by omega) hl HB.out
            rw [← hf_sw HI.out HJ.out] at h
            exact h
          have HG : Hid (∀ k, n ≤ k → hf ((V'.set i (hf V' (2 * i + 1))).set (2 * i + 1) (hf V' i)) k = hf V k) := fun k hk => by
            rw [hf_sw HI.out HJ.out, sw_o _ (by omega) (by omega)]
            exact HFA.out k hk
          clear hl
          go_wp2_with fail
          rw [show 2 * (i : Int) + 1 = ((2 * i + 1 : Nat) : Int) by omega]
          refine (less_heap H b c V' N (2 * i + 1) i _ _ true wr HP.out HN'.out hm HJ.out HI.out HZ.out).mono ?_
          rintro e w2 ⟨rfl, hn2⟩
          go_wp2_with fail
          refine (swap_heap H b c V' N i (2 * i + 1) _ _ w2 ((HP.out).new hn2) HN'.out hm HI.out HJ.out).mono ?_
          rintro e w3 ⟨rfl, hp3, t3⟩
          have HP3 : Hid (HpAt w3 H b c ((V'.set i (hf V' (2 * i + 1))).set (2 * i + 1) (hf V' i))) := hp3
          clear hp3
          go_wp2
          go_roundw
          case rel => exact ⟨2 * i + 1, _, rfl, .inl (by omega), HP3.out, (perm_sw HI.out HJ.out).trans HM.out, HS.out, HG.out, Turn.trans (Turn.trans (HT.out) hn2.turn (fun _ _ e => e)) t3 (fun _ _ e => e)⟩
          case measure => simp [intOf]; omega
      case pos =>
        have hl2 : 2 * (i : Int) + 1 + 1 < (n : Int) := by omega
        have HR : Hid (V'[2 * i + 2]? = some (hf V' (2 * i + 2))) := hf_at (by rw [HN'.out]; omega)
        have HL : Hid (V'[2 * i + 1]? = some (hf V' (2 * i + 1))) := hf_at (by rw [HN'.out]; omega)
        by_cases hc : hlt (hf V' (2 * i + 2)) (hf V' (2 * i + 1))
        case pos =>
          have HC : Hid (hlt (hf V' (2 * i + 2)) (hf V' (2 * i + 1))) := hc
          have HZC : Hid (decide (hcmp (hf V' (2 * i + 2)).r (hf V' (2 * i + 1)).r < 0) = true) := decide_eq_true hc
          clear hc
          go_wp2_with fail
          rw [show 2 * (i : Int) + 1 + 1 = ((2 * i + 2 : Nat) : Int) by omega, show 2 * (i : Int) + 1 = ((2 * i + 1 : Nat) : Int) by omega]
          refine (less_heap H b c V' N (2 * i + 2) (2 * i + 1) _ _ true wr HP.out HN'.out hm HR.out HL.out HZC.out).mono ?_
          rintro e w1 ⟨rfl, hn1⟩
          have HJ : Hid (V'[2 * i + 2]? = some (hf V' (2 * i + 2))) := hf_at (by rw [HN'.out]; omega)
          have HI : Hid (V'[i]? = some (hf V' i)) := hf_at (by rw [HN'.out]; omega)
          have HB : Hid (∀ k, 0 < k → k < n → (k - 1) / 2 = i → ¬ hlt (hf V' k) (hf V' (2 * i + 2))) := dn_both hlt_tr h1 (.inr ⟨rfl, h2, HC.out⟩)
          by_cases hl : hlt (hf V' (2 * i + 2)) (hf V' i)
          case neg =>
            have HD : Hid (hpOK hlt (hf V') n) := dn_done HU.out (fun k k0 kn ki => hlt_tr _ _ _ hl (HB.out k k0 kn ki))
            have HZ : Hid (decide (hcmp (hf V' (2 * i + 2)).r (hf V' i).r < 0) = false) := decide_eq_false hl
            clear hl
            go_wp2_with fail
            refine (less_heap H b c V' N (2 * i + 2) i _ _ false w1 (HP.out.new hn1) HN'.out hm HJ.out HI.out HZ.out).mono ?_
            rintro e w2 ⟨rfl, hn2⟩
            go_wp2
            go_returns
            exact ⟨by first | exact trivial | exact ⟨_, rfl⟩ | (simp; omega), V', ((HP.out.new hn1)).new hn2, HM.out, HD.out, HFA.out, Turn.trans (Turn.trans HT.out hn1.turn (fun _ _ e => e)) hn2.turn (fun _ _ e => e)⟩
          case pos =>
            have HZ : Hid (decide (hcmp (hf V' (2 * i + 2)).r (hf V' i).r < 0) = true) := decide_eq_true hl
            have HS : Hid (dnOK hlt (hf ((V'.set i (hf V' (2 * i + 2))).set (2 * i + 2) (hf V' i))) n (2 * i + 2)) := by
              have h := dn_step hlt_asy HU.out (by omega) (by omega) (by omega) hl HB.out
              rw [← hf_sw HI.out HJ.out] at h
              exact h
            have HG : Hid (∀ k, n ≤ k → hf ((V'.set i (hf V' (2 * i + 2))).set (2 * i + 2) (hf V' i)) k = hf V k) := fun k hk => by
              rw [hf_sw HI.out HJ.out, sw_o _ (by omega) (by omega)]
              exact HFA.out k hk
            clear hl
            go_wp2_with fail
            refine (less_heap H b c V' N (2 * i + 2) i _ _ true w1 (HP.out.new hn1) HN'.out hm HJ.out HI.out HZ.out).mono ?_
            rintro e w2 ⟨rfl, hn2⟩
            go_wp2_with fail
            refine (swap_heap H b c V' N i (2 * i + 2) _ _ w2 (((HP.out.new hn1)).new hn2) HN'.out hm HI.out HJ.out).mono ?_
            rintro e w3 ⟨rfl, hp3, t3⟩
            have HP3 : Hid (HpAt w3 H b c ((V'.set i (hf V' (2 * i + 2))).set (2 * i + 2) (hf V' i))) := hp3
            clear hp3
            go_wp2
            go_roundw
            case rel => exact ⟨2 * i + 2, _, rfl, .inl (by omega), HP3.out, (perm_sw HI.out HJ.out).trans HM.out, HS.out, HG.out, Turn.trans (Turn.trans (Turn.trans HT.out hn1.turn (fun _ _ e => e)) hn2.turn (fun _ _ e => e)) t3 (fun _ _ e => e)⟩
            case measure => simp [intOf]; omega
        case neg =>
          have HC : Hid (¬ hlt (hf V' (2 * i + 2)) (hf V' (2 * i + 1))) := hc
          have HZC : Hid (decide (hcmp (hf V' (2 * i + 2)).r (hf V' (2 * i + 1)).r < 0) = false) := decide_eq_false hc
          clear hc
          go_wp2_with fail
          rw [show 2 * (i : Int) + 1 + 1 = ((2 * i + 2 : Nat) : Int) by omega, show 2 * (i : Int) + 1 = ((2 * i + 1 : Nat) : Int) by omega]
          refine (less_heap H b c V' N (2 * i + 2) (2 * i + 1) _ _ false wr HP.out HN'.out hm HR.out HL.out HZC.out).mono ?_
          rintro e w1 ⟨rfl, hn1⟩
          have HJ : Hid (V'[2 * i + 1]? = some (hf V' (2 * i + 1))) := hf_at (by rw [HN'.out]; omega)
          have HI : Hid (V'[i]? = some (hf V' i)) := hf_at (by rw [HN'.out]; omega)
          have HB : Hid (∀ k, 0 < k → k < n → (k - 1) / 2 = i → ¬ hlt (hf V' k) (hf V' (2 * i + 1))) := dn_both hlt_tr h1 (.inl ⟨rfl, fun _ => HC.out⟩)
          by_cases hl : hlt (hf V' (2 * i + 1)) (hf V' i)
          case neg =>
            have HD : Hid (hpOK hlt (hf V') n) := dn_done HU.out (fun k k0 kn ki => hlt_tr _ _ _ hl (HB.out k k0 kn ki))
            have HZ : Hid (decide (hcmp (hf V' (2 * i + 1)).r (hf V' i).r < 0) = false) := decide_eq_false hl
            clear hl
            go_wp2_with fail
            refine (less_heap H b c V' N (2 * i + 1) i _ _ false w1 (HP.out.new hn1) HN'.out hm HJ.out HI.out HZ.out).mono ?_
            rintro e w2 ⟨rfl, hn2⟩
            go_wp2
            go_returns
            exact ⟨by first | exact trivial | exact ⟨_, rfl⟩ | (simp; omega), V', ((HP.out.new hn1)).new hn2, HM.out, HD.out, HFA.out, Turn.trans (Turn.trans HT.out hn1.turn (fun _ _ e => e)) hn2.turn (fun _ _ e => e)⟩
          case pos =>
            have HZ : Hid (decide (hcmp (hf V' (2 * i + 1)).r (hf V' i).r < 0) = true) := decide_eq_true hl
            have HS : Hid (dnOK hlt (hf ((V'.set i (hf V' (2 * i + 1))).set (2 * i + 1) (hf V' i))) n (2 * i + 1)) := by
              have h := dn_step hlt_asy HU.out (by omega) (by omega) (by omega) hl HB.out
              rw [← hf_sw HI.out HJ.out] at h
              exact h
            have HG : Hid (∀ k, n ≤ k → hf ((V'.set i (hf V' (2 * i + 1))).set (2 * i + 1) (hf V' i)) k = hf V k) := fun k hk => by
              rw [hf_sw HI.out HJ.out, sw_o _ (by omega) (by omega)]
              exact HFA.out k hk
            clear hl
            go_wp2_with fail
            refine (less_heap H b c V' N (2 * i + 1) i _ _ true w1 (HP.out.new hn1) HN'.out hm HJ.out HI.out HZ.out).mono ?_
            rintro e w2 ⟨rfl, hn2⟩
            go_wp2_with fail
            refine (swap_heap H b c V' N i (2 * i + 1) _ _ w2 (((HP.out.new hn1)).new hn2) HN'.out hm HI.out HJ.out).mono ?_
            rintro e w3 ⟨rfl, hp3, t3⟩
            have HP3 : Hid (HpAt w3 H b c ((V'.set i (hf V' (2 * i + 1))).set (2 * i + 1) (hf V' i))) := hp3
            clear hp3
            go_wp2
            go_roundw
            case rel => exact ⟨2 * i + 1, _, rfl, .inl (by omega), HP3.out, (perm_sw HI.out HJ.out).trans HM.out, HS.out, HG.out, Turn.trans (Turn.trans (Turn.trans HT.out hn1.turn (fun _ _ e => e)) hn2.turn (fun _ _ e => e)) t3 (fun _ _ e => e)⟩
            case measure => simp [intOf]; omega

end Go.Proofs.Ytkaaefieglhdlaa
