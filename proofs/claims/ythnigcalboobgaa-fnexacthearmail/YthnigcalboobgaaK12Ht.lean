/- What is proved here: what hearTaken does to a node that is pointed at. -/
import Derived.Test.YthnigcalboobgaaK12Ag
import Derived.Test.YthnigcalboobgaaK12Ok
namespace Go.Proofs.Ythnigcalboobgaa
open Go.RowKit Go.Sort
set_option linter.unusedVariables false
set_option linter.unusedSimpArgs false
set_option maxRecDepth 100000

set_option maxHeartbeats 1600000 in
theorem hearTaken_no (at1 : Int) (B : Nat) (id : Int) (up : Bool) (ro ep su ma ot co : Int) (A : Option Addr) (n c : Nat) (w : World) (hb : Blk w B 36 #[.int .i64 id, .bool up, .int .i64 ro, .int .i64 ep, .slice A n c, .int .i64 su, .int .i64 ma, .int .i64 ot, .int .i64 co]) (hr : ¬ ro = 1) :
    Calls Try.prog 30 #[.pointer (some ⟨B, 0, none⟩), .int .i64 at1] w fun e w' => e = .returned (.tuple #[]) ∧ w' = w := by
  go_enter Try.func30, Try.ntmps30
  go_wp2_with fail
  refine (active_no B id up ro ep su ma ot co A n c _ hb hr).mono ?_
  rintro e wz ⟨rfl, hwz⟩
  obtain rfl := hwz.symm
  go_wp2
  refine bodyPost_ret (results_none rfl _ _ _) rfl ?_
  exact ⟨rfl, rfl⟩

set_option maxHeartbeats 1600000 in
theorem hearTaken_low (at1 : Int) (B : Nat) (id : Int) (up : Bool) (ep su ma ot co : Int) (A : Option Addr) (n c : Nat) (w : World) (hb : Blk w B 36 #[.int .i64 id, .bool up, .int .i64 1, .int .i64 ep, .slice A n c, .int .i64 su, .int .i64 ma, .int .i64 ot, .int .i64 co]) (h1 : at1 ≤ ot) (hd : decide (ot < at1) = false) :
    Calls Try.prog 30 #[.pointer (some ⟨B, 0, none⟩), .int .i64 at1] w fun e w' => e = .returned (.tuple #[]) ∧ Blk w' B 36 #[.int .i64 id, .bool up, .int .i64 1, .int .i64 ep, .slice A n c, .int .i64 su, .int .i64 ma, .int .i64 ot, .int .i64 (max co (min su ot))] ∧ Turn (fun i => i = B) w w' := by
  have cB := hb.cells
  have fB := hb.frees
  go_enter Try.func30, Try.ntmps30
  go_wp2_with fail
  refine (active_yes B id up ep su ma ot co A n c _ hb).mono ?_
  rintro e wz ⟨rfl, hwz⟩
  obtain rfl := hwz.symm
  go_wp2_with fail
  refine (agree_any B id up 1 ep su ma ot co A n c _ hb).mono ?_
  rintro e w2 ⟨rfl, b2, t2⟩
  go_wp2
  refine bodyPost_end (results_none rfl _ _ _) rfl ?_
  exact ⟨rfl, b2, t2⟩

set_option maxHeartbeats 1600000 in
theorem hearTaken_far (at1 : Int) (B : Nat) (id : Int) (up : Bool) (ep su ma ot co : Int) (A : Option Addr) (n c : Nat) (w : World) (hb : Blk w B 36 #[.int .i64 id, .bool up, .int .i64 1, .int .i64 ep, .slice A n c, .int .i64 su, .int .i64 ma, .int .i64 ot, .int .i64 co]) (h1 : ot < at1) (hd : decide (ot < at1) = true) (h2 : (n : Int) < at1) (hd2 : decide (at1 ≤ (n : Int)) = false) :
    Calls Try.prog 30 #[.pointer (some ⟨B, 0, none⟩), .int .i64 at1] w fun e w' => e = .returned (.tuple #[]) ∧ Blk w' B 36 #[.int .i64 id, .bool up, .int .i64 1, .int .i64 ep, .slice A n c, .int .i64 su, .int .i64 ma, .int .i64 ot, .int .i64 (max co (min su ot))] ∧ Turn (fun i => i = B) w w' := by
  have cB := hb.cells
  have fB := hb.frees
  go_enter Try.func30, Try.ntmps30
  go_wp2_with fail
  refine (active_yes B id up ep su ma ot co A n c _ hb).mono ?_
  rintro e wz ⟨rfl, hwz⟩
  obtain rfl := hwz.symm
  go_wp2_with fail
  refine (count_any B id up 1 ep su ma ot co A n c _ hb).mono ?_
  rintro e wz ⟨rfl, hwz⟩
  obtain rfl := hwz.symm
  go_wp2_with fail
  refine (agree_any B id up 1 ep su ma ot co A n c _ hb).mono ?_
  rintro e w2 ⟨rfl, b2, t2⟩
  go_wp2
  refine bodyPost_end (results_none rfl _ _ _) rfl ?_
  exact ⟨rfl, b2, t2⟩

set_option maxHeartbeats 1600000 in
theorem hearTaken_set (at1 : Int) (B : Nat) (id : Int) (up : Bool) (ep su ma ot co : Int) (A : Option Addr) (n c : Nat) (w : World) (hb : Blk w B 36 #[.int .i64 id, .bool up, .int .i64 1, .int .i64 ep, .slice A n c, .int .i64 su, .int .i64 ma, .int .i64 ot, .int .i64 co]) (h1 : ot < at1) (hd : decide (ot < at1) = true) (h2 : at1 ≤ (n : Int)) (hd2 : decide (at1 ≤ (n : Int)) = true) :
    Calls Try.prog 30 #[.pointer (some ⟨B, 0, none⟩), .int .i64 at1] w fun e w' => e = .returned (.tuple #[]) ∧ Blk w' B 36 #[.int .i64 id, .bool up, .int .i64 1, .int .i64 ep, .slice A n c, .int .i64 su, .int .i64 ma, .int .i64 at1, .int .i64 (max co (min su at1))] ∧ Turn (fun i => i = B) w w' := by
  have cB := hb.cells
  have fB := hb.frees
  go_enter Try.func30, Try.ntmps30
  go_wp2_with fail
  refine (active_yes B id up ep su ma ot co A n c _ hb).mono ?_
  rintro e wz ⟨rfl, hwz⟩
  obtain rfl := hwz.symm
  go_wp2_with fail
  refine (count_any B id up 1 ep su ma ot co A n c _ hb).mono ?_
  rintro e wz ⟨rfl, hwz⟩
  obtain rfl := hwz.symm
  go_wp2_with fail
  have b1 := hb.set 7 (.int .i64 at1)
  have t1 := (Turn.refl (fun i => i = B) w).set (p := ⟨B, 7, none⟩) rfl (.int .i64 at1)
  refine (agree_any B id up 1 ep su ma at1 co A n c _ b1).mono ?_
  rintro e w2 ⟨rfl, b2, t2⟩
  go_wp2
  refine bodyPost_end (results_none rfl _ _ _) rfl ?_
  exact ⟨rfl, b2, t1.trans t2 (fun _ _ e => e)⟩

end Go.Proofs.Ythnigcalboobgaa
