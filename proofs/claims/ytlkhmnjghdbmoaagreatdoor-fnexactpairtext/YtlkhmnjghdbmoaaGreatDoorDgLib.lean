/- What is proved here: what the model's writing of a number in decimal answers, for every number below 1000. -/
import Derived.Test.YtlkhmnjghdbmoaaGreatDoorPxOpen
import Derived.Lib.ItoaNum
import Derived.Laws.IdiomStrings
import Derived.Deep.RegionWith
import Derived.Handy
namespace Go.Proofs.YtlkhmnjghdbmoaaGreatDoor
open Go.RowKit Go.Sort

def dB (n : Nat) : UInt8 := UInt8.ofNat (48 + n)
theorem dB_nat {n : Nat} (h : n < 10) : (dB n).toNat = 48 + n := by
  unfold dB
  rw [UInt8.toNat_ofNat']
  omega
theorem dd_small {n : Nat} (h : n < 10) : Lib.decDigits n = [dB n] := by rw [Lib.decDigits, dif_pos h]; rfl
theorem dd_big {n : Nat} (h : ¬ n < 10) : Lib.decDigits n = Lib.decDigits (n / 10) ++ [dB (n % 10)] := by rw [Lib.decDigits, dif_neg h]; rfl

theorem dd_len {n : Nat} (h : n < 1000) : (Lib.decDigits n).length ≤ 3 := by
  by_cases h1 : n < 10
  · rw [dd_small h1]; simp
  · by_cases h2 : n / 10 < 10
    · rw [dd_big h1, dd_small h2]; simp
    · rw [dd_big h1, dd_big h2, dd_small (by omega)]; simp

theorem app_bytes (a b : List UInt8) : (⟨a.toArray⟩ ++ ⟨b.toArray⟩ : ByteArray) = ⟨(a ++ b).toArray⟩ := by
  rw [← Lib.mk_data ((⟨a.toArray⟩ : ByteArray) ++ ⟨b.toArray⟩), Joins.data_append]

theorem conv_one (b : UInt8) (w : World) (g : Nat) (h : w.cell? ⟨g, 0, none⟩ = some (.int .u8 (b.toNat : Int))) :
    (convert 66 9 (.slice (some ⟨g, 0, none⟩) 1 1)).run Tryz.prog w = .ok (.string ⟨#[b]⟩) w := by
  refine run_convert_bytes_back w _ _ 5 ⟨g, 0, none⟩ 1 [b] Tryz.underlying66 Tryz.underlying5 Tryz.underlying9 ?_
  intro j hj
  have : j = 0 := by simpa using hj
  subst this
  simpa [Addr.add] using h

theorem digits_small (n : Nat) (w : World) (h : n < 10) : Calls Tryz.prog 74 #[.int .i64 (n : Int)] w fun e w' => e = .returned (.string ⟨(Lib.decDigits n).toArray⟩) ∧ New w w' := by
  have hf : Hid (Lib.decDigits n = [dB n]) := dd_small h
  have hz := dB_nat h
  have hcv := conv_one (dB n)
  rw [hz] at hcv
  have hcast : ((48 + n : Nat) : Int) = 48 + (n : Int) := by omega
  rw [hcast] at hcv
  go_enter Tryz.func74, Tryz.ntmps74
  go_wp2
  go_ret
  refine ⟨?_, (New.refl _).alloc _⟩
  rw [hf.out]
  rfl

set_option maxHeartbeats 800000 in
theorem digits_step (n : Nat) (w : World) (h : ¬ n < 10) (hm : n < 1000) (ih : ∀ w, Calls Tryz.prog 74 #[.int .i64 ((n / 10 : Nat) : Int)] w fun e w' => e = .returned (.string ⟨(Lib.decDigits (n / 10)).toArray⟩) ∧ New w w') :
    Calls Tryz.prog 74 #[.int .i64 (n : Int)] w fun e w' => e = .returned (.string ⟨(Lib.decDigits n).toArray⟩) ∧ New w w' := by
  have hf : Hid (Lib.decDigits n = Lib.decDigits (n / 10) ++ [dB (n % 10)]) := dd_big h
  have hz := dB_nat (show n % 10 < 10 by omega)
  have hcv := conv_one (dB (n % 10))
  rw [hz] at hcv
  have hq : (n : Int).tdiv 10 = ((n / 10 : Nat) : Int) := by rw [Int.tdiv_eq_ediv_of_nonneg (by omega)]; omega
  have hr : (n : Int).tmod 10 = ((n % 10 : Nat) : Int) := by rw [Int.tmod_eq_emod_of_nonneg (by omega)]; omega
  have hq2 : (n : Int) / 10 = ((n / 10 : Nat) : Int) := by omega
  have hr2 : (n : Int) % 10 = ((n % 10 : Nat) : Int) := by omega
  have hlen := dd_len (show n / 10 < 1000 by omega)
  generalize hD : Lib.decDigits (n / 10) = D at *
  generalize dB (n % 10) = B at *
  have hrb : n % 10 < 10 := by omega
  have hqb : n / 10 < 100 := by omega
  generalize n % 10 = r at *
  generalize n / 10 = q at *
  have hcast : ((48 + r : Nat) : Int) = 48 + (r : Int) := by omega
  rw [hcast] at hcv
  have hwq : IntKind.i64.wrap (q : Int) = q := by simp [IntKind.wrap, IntKind.bits, IntKind.signed]; omega
  have hwr : IntKind.i64.wrap (r : Int) = r := by simp [IntKind.wrap, IntKind.bits, IntKind.signed]; omega
  have hwa : IntKind.i64.wrap (48 + (r : Int)) = 48 + (r : Int) := by simp [IntKind.wrap, IntKind.bits, IntKind.signed]; omega
  have hwu : IntKind.u8.wrap (48 + (r : Int)) = 48 + (r : Int) := by simp [IntKind.wrap, IntKind.bits, IntKind.signed]; omega
  clear hz hcast hD
  go_enter Tryz.func74, Tryz.ntmps74
  go_wp2_with fail
  go_region_with (go_at_call 74; refine (ih _).mono ?_; rintro e w2 ⟨rfl, hn2⟩; (have hN : New w w2 := (New.of_below (B := w.heap.size) (by go_grown) (Nat.le_refl _)).trans hn2); have hc2 := hn2.cells w.heap.size 0)
  all_goals
    go_wp2
    go_ret
    refine ⟨?_, by first | exact hN | exact hN.alloc _ | exact (hN.alloc _).drew⟩
    rw [hf.out, ← app_bytes]
    rfl

end Go.Proofs.YtlkhmnjghdbmoaaGreatDoor
