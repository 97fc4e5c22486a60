/- What is proved here: what the counting of lists of entries and of nodes answers, from any bound of at most 1048576 on. No other condition. -/
import Derived.Test.YtkbdmcimgepakaaGreatK12Mw
import Derived.Test.YtkbdmcimgepakaaGreatW11Wf
import Derived.Test.YtkbdmcimgepakaaGreatW11Lib
namespace Go.Proofs.YtkbdmcimgepakaaGreat
open Go.ChangeShapes Go.WideShapes Go.ChangeAt Go.RowKit Go.Deep Go.Sort
set_option linter.unusedVariables false
set_option linter.unusedSimpArgs false

set_option maxHeartbeats 3200000 in
theorem szEkS_gen (A : Option Addr) (n c : Nat) (V : List EkV) (K : Int) (w : World) (hK0 : 0 ≤ K) (hK1 : K ≤ 1048576) (h : EkCame w A V) (hn : V.length = n) (hm : n ≤ maxLen) :
    Calls Tryz.prog 22 #[.slice A n c, .int .i64 K] w fun e w' => (∃ z : Int, e = .returned (.int .i64 z) ∧ (z = -1 ∨ (0 ≤ z ∧ (totK V : Int) + z = K))) ∧ New w w' := by
  have HN : Hid (V.length = n) := hn
  unfold maxLen at hm
  clear hn
  by_cases hbig : K < (n : Int)
  case pos =>
    go_enter Tryz.func22, Tryz.ntmps22
    go_wp2
    go_ret
    exact ⟨⟨_, rfl, .inl rfl⟩, New.refl _⟩
  have hm' : (n : Int) ≤ K := by omega
  clear hm hbig
  go_enter Tryz.func22, Tryz.ntmps22
  go_wp2
  go_loopw [1, 5] (fun t i wr => ∃ (k : Nat) (z : Int), k ≤ n ∧ 0 ≤ z ∧ z ≤ 1048576 ∧ t = .int .i64 z ∧ i = .int .i64 k ∧ New w wr ∧ (totK (V.take k) : Int) + (n - k) + z = K) (fun _ i _ => n - (intOf i).toNat)
  case atStart => exact ⟨0, _, Nat.zero_le _, by omega, by omega, rfl, rfl, New.refl _, by simp [totK]; omega⟩
  case round =>
    obtain ⟨k, z, hk, hz0, hz1, rfl, rfl, hnw, hall⟩ := hrel
    by_cases hlt : k < n
    · obtain ⟨b, off, ep, ki, pe, x, m, d, xs, rfl, hv, hlen, hns, hmx, q0, q1, q2, q3⟩ := (h.new hnw).at k (by have := HN.out; omega)
      have HA : Hid ((totK (V.take (k + 1)) : Int) + (n - (k + 1)) + (z - m) = K) := by
        unfold Hid
        rw [take_snocK hv, totK_snoc]
        simp only [hlen]
        omega
      clear hv hlen hns h hall
      by_cases hfit : (m : Int) ≤ z
      · go_wp2_with fail
        refine (szEk_okZ ep ki pe x m d z _ hz0 hz1 hfit).mono ?_
        rintro e w1 ⟨rfl, hn1⟩
        clear q0 q1 q2 q3
        go_wp2
        go_roundw
        case rel => exact ⟨k + 1, z - m, by omega, by omega, by omega, rfl, by go_num, hnw.trans hn1, by have := HA.out; push_cast; exact this⟩
        case measure => simp [intOf]; omega
      · go_wp2_with fail
        refine (szEk_bigZ ep ki pe x m d z _ hz0 hz1 hmx (by omega)).mono ?_
        rintro e w1 ⟨rfl, hn1⟩
        clear q0 q1 q2 q3
        go_wp2
        go_ret
        exact ⟨⟨_, rfl, .inl rfl⟩, hnw.trans hn1⟩
    · go_wp2
      go_ret
      refine ⟨⟨_, rfl, .inr ⟨hz0, ?_⟩⟩, hnw⟩
      rw [List.take_of_length_le (by have := HN.out; omega)] at hall
      omega

theorem szNd_gen (id : Int) (up : Bool) (ro ep su ma ot co : Int) (A : Option Addr) (n c : Nat) (V : List EkV) (K : Int) (w : World) (hK0 : 0 ≤ K) (hK1 : K ≤ 1048576) (h : EkCame w A V) (hn : V.length = n) (hm : n ≤ maxLen) :
    Calls Tryz.prog 46 #[.agg #[.int .i64 id, .bool up, .int .i64 ro, .int .i64 ep, .slice A n c, .int .i64 su, .int .i64 ma, .int .i64 ot, .int .i64 co], .int .i64 K] w fun e w' => (∃ z : Int, e = .returned (.int .i64 z) ∧ (z = -1 ∨ (0 ≤ z ∧ (totK V : Int) + z = K))) ∧ New w w' := by
  have hw := (New.refl w).alloc (.cells #[.int .i64 id, .bool up, .int .i64 ro, .int .i64 ep, .slice A n c, .int .i64 su, .int .i64 ma, .int .i64 ot, .int .i64 co] 76)
  go_enter Tryz.func46, Tryz.ntmps46
  go_wp2_with fail
  refine (szEkS_gen A n c V K _ hK0 hK1 (h.new hw) hn hm).mono ?_
  rintro e w1 ⟨⟨z, rfl, hz⟩, hn1⟩
  have hw1 := hw.trans hn1
  by_cases h0 : z < 0
  · go_wp2
    go_ret
    exact ⟨⟨_, rfl, .inl rfl⟩, hw1⟩
  · go_wp2
    go_ret
    exact ⟨⟨_, rfl, by rcases hz with hz | hz; (exfalso; omega); exact .inr hz⟩, hw1⟩

theorem szWi_gen (E T : Int) (a b : Option Addr) (n c m d : Nat) (K : Int) (w : World) (hK0 : 0 ≤ K) (hK1 : K ≤ 1048576) (hn : n ≤ maxLen) (hm : m ≤ maxLen) : Calls Tryz.prog 47 #[.agg #[.int .i64 E, .slice a n c, .int .i64 T, .slice b m d], .int .i64 K] w fun e w' => (∃ z : Int, e = .returned (.int .i64 z) ∧ (z = -1 ∨ (0 ≤ z ∧ ((n + m : Nat) : Int) + z = K))) ∧ New w w' := by
  obtain ⟨l, rfl⟩ : ∃ l : Nat, K = l := ⟨K.toNat, by omega⟩
  by_cases h : n + m ≤ l
  · exact (szW_ok E T a b n c m d l w (by omega) h).mono fun e w' ⟨he, hn⟩ => ⟨⟨_, he, .inr ⟨by omega, by omega⟩⟩, hn⟩
  · exact (szW_big E T a b n c m d l w (by omega) hn hm (by omega)).mono fun e w' ⟨he, hn⟩ => ⟨⟨_, he, .inl rfl⟩, hn⟩
theorem szMl_gen (kd tgt me at1 pr : Int) (has : Bool) (ee ki pe : Int) (a : Option Addr) (m c1 : Nat) (K : Int) (w : World) (hK0 : 0 ≤ K) (hK1 : K ≤ 1048576) (hm : m ≤ maxLen) : Calls Tryz.prog 48 #[.agg #[.int .i64 kd, .int .i64 tgt, .int .i64 me, .int .i64 at1, .int .i64 pr, .bool has, .int .i64 ee, .int .i64 ki, .int .i64 pe, .slice a m c1], .int .i64 K] w fun e w' => (∃ z : Int, e = .returned (.int .i64 z) ∧ (z = -1 ∨ (0 ≤ z ∧ (m : Int) + z = K))) ∧ New w w' := by
  by_cases h : (m : Int) ≤ K
  · exact (szMl_okZ kd tgt me at1 pr has ee ki pe a m c1 K w hK0 hK1 h).mono fun e w' ⟨he, hn⟩ => ⟨⟨_, he, .inr ⟨by omega, by omega⟩⟩, hn⟩
  · exact (szMl_bigZ kd tgt me at1 pr has ee ki pe a m c1 K w hK0 hK1 hm (by omega)).mono fun e w' ⟨he, hn⟩ => ⟨⟨_, he, .inl rfl⟩, hn⟩

theorem OvB.bsS {w : World} {lo n c : Nat} {a : Option Addr} {xs : List Int} (h : OvB w lo (.slice a n c) xs) (hb : ∀ z ∈ xs, By z) : BsAt w a xs := by
  obtain ⟨a', c', e, h1, -⟩ := h.bs hb
  simp only [Value.slice.injEq] at e
  obtain ⟨rfl, -, -⟩ := e
  exact h1

end Go.Proofs.YtkbdmcimgepakaaGreat
