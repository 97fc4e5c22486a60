/- What is proved here: what take answers where the entry is there, and the code where one that is agreed would go. -/
import Derived.Test.YthnigcalboobgaaK12Se
import Derived.Deep.RegionHeld3
namespace Go.Proofs.Ythnigcalboobgaa
open Go.ChangeShapes Go.WideShapes Go.ChangeAt Go.RowKit
set_option linter.unusedVariables false
set_option linter.unusedSimpArgs false
set_option maxRecDepth 100000

set_option maxHeartbeats 1600000 in
theorem take_same (e1 k1 p1 : Int) (x : Option Addr) (m d : Nat) (o B : Nat) (id : Int) (up : Bool) (ro ep su ma ot co : Int) (A : Option Addr) (n c : Nat) (V : List EkV) (w : World) (hb : Blk w B 36 #[.int .i64 id, .bool up, .int .i64 ro, .int .i64 ep, .slice A n c, .int .i64 su, .int .i64 ma, .int .i64 ot, .int .i64 co]) (h : LgAt w A V) (hn : V.length = n) (hm : n ≤ 2097152) (ho : o < n) (he : prevE (V.map EkV.r) (o + 1) = e1) :
    Calls Try.prog 59 #[.pointer (some ⟨B, 0, none⟩), .agg #[.int .i64 e1, .int .i64 k1, .int .i64 p1, .slice x m d], .int .i64 (o : Int)] w fun e w' => e = .returned (.int .i64 0) ∧ New w w' := by
  have al := (New.refl w).alloc (.cells #[.int .i64 e1, .int .i64 k1, .int .i64 p1, .slice x m d] 44)
  have hb1 := hb.new al
  have bE := Blk.mk w w.heap.size 44 #[.int .i64 e1, .int .i64 k1, .int .i64 p1, .slice x m d] rfl
  obtain ⟨g, ep1, ki, pe, x1, m1, d1, xs1, rfl, hv, -, -, -, q0, -, -, -⟩ := (h.new al).at o (by omega)
  have hep : ep1 = prevE (V.map EkV.r) (o + 1) := by unfold prevE; simp [hv]
  rw [hep, he] at q0
  have hd1 : decide ((o : Int) < (n : Int)) = true := by simp; omega
  clear hep hv
  clear h
  go_enter Try.func59, Try.ntmps59
  go_upto_region 1 with fail
  generalize w.alloc (.cells #[.int .i64 e1, .int .i64 k1, .int .i64 p1, .slice x m d] 44) = w0 at *
  have hb2 := hb1.new ((New.refl _).drew)
  have cB := hb1.cells
  have cE := bE.cells
  have cB2 := hb2.cells
  have cE2 := (bE.new ((New.refl _).drew)).cells
  have q2 : w0.drew.cell? ⟨g, o * 4, none⟩ = some (.int .i64 e1) := q0
  go_wp2_with fail
  go_region_held3 (fun W => (∀ j, W.cell? ⟨B, j, none⟩ = (#[.int .i64 id, .bool up, .int .i64 ro, .int .i64 ep, .slice (some ⟨g, 0, none⟩) n c, .int .i64 su, .int .i64 ma, .int .i64 ot, .int .i64 co] : Array Value)[j]?) ∧ (∀ j, W.cell? ⟨w.heap.size, j, none⟩ = (#[.int .i64 e1, .int .i64 k1, .int .i64 p1, .slice x m d] : Array Value)[j]?) ∧ W.cell? ⟨g, o * 4, none⟩ = some (.int .i64 e1)) (first | exact ⟨cB, cE, q0⟩ | exact ⟨cB2, cE2, q2⟩)
    (first | (go_at_call 56; refine (count_any B id up ro ep su ma ot co _ n c _ hb2).mono ?_; rintro e wz ⟨rfl, hwz⟩; subst hwz))
  go_wp2
  go_ret
  exact ⟨rfl, al.drew⟩

set_option maxHeartbeats 1600000 in
theorem take_taken (e1 k1 p1 : Int) (x : Option Addr) (m d : Nat) (o B : Nat) (id : Int) (up : Bool) (ro ep su ma ot co : Int) (A : Option Addr) (n c : Nat) (V : List EkV) (w : World) (hb : Blk w B 36 #[.int .i64 id, .bool up, .int .i64 ro, .int .i64 ep, .slice A n c, .int .i64 su, .int .i64 ma, .int .i64 ot, .int .i64 co]) (h : LgAt w A V) (hn : V.length = n) (hm : n ≤ 2097152) (ho : o < n) (he : ¬ prevE (V.map EkV.r) (o + 1) = e1) (hc : (o : Int) < co) :
    Calls Try.prog 59 #[.pointer (some ⟨B, 0, none⟩), .agg #[.int .i64 e1, .int .i64 k1, .int .i64 p1, .slice x m d], .int .i64 (o : Int)] w fun e w' => e = .returned (.int .i64 7) ∧ New w w' := by
  have al := (New.refl w).alloc (.cells #[.int .i64 e1, .int .i64 k1, .int .i64 p1, .slice x m d] 44)
  have hb1 := hb.new al
  have bE := Blk.mk w w.heap.size 44 #[.int .i64 e1, .int .i64 k1, .int .i64 p1, .slice x m d] rfl
  obtain ⟨g, ep1, ki, pe, x1, m1, d1, xs1, rfl, hv, -, -, -, q0, -, -, -⟩ := (h.new al).at o (by omega)
  have hep : ep1 = prevE (V.map EkV.r) (o + 1) := by unfold prevE; simp [hv]
  rw [hep] at q0
  have hd1 : decide ((o : Int) < (n : Int)) = true := by simp; omega
  have hd2 : decide ((o : Int) < co) = true := by simpa using hc
  have hd3 : (prevE (V.map EkV.r) (o + 1) == e1) = false := by simp [he]
  clear hep hv
  generalize prevE (V.map EkV.r) (o + 1) = q1 at *
  clear h
  go_enter Try.func59, Try.ntmps59
  go_upto_region 1 with fail
  generalize w.alloc (.cells #[.int .i64 e1, .int .i64 k1, .int .i64 p1, .slice x m d] 44) = w0 at *
  have hb2 := hb1.new ((New.refl _).drew)
  have cB := hb1.cells
  have cE := bE.cells
  have cB2 := hb2.cells
  have cE2 := (bE.new ((New.refl _).drew)).cells
  have q2 : w0.drew.cell? ⟨g, o * 4, none⟩ = some (.int .i64 q1) := q0
  go_wp2_with fail
  go_region_held3 (fun W => (∀ j, W.cell? ⟨B, j, none⟩ = (#[.int .i64 id, .bool up, .int .i64 ro, .int .i64 ep, .slice (some ⟨g, 0, none⟩) n c, .int .i64 su, .int .i64 ma, .int .i64 ot, .int .i64 co] : Array Value)[j]?) ∧ (∀ j, W.cell? ⟨w.heap.size, j, none⟩ = (#[.int .i64 e1, .int .i64 k1, .int .i64 p1, .slice x m d] : Array Value)[j]?) ∧ W.cell? ⟨g, o * 4, none⟩ = some (.int .i64 q1)) (first | exact ⟨cB, cE, q0⟩ | exact ⟨cB2, cE2, q2⟩)
    (first | (go_at_call 56; refine (count_any B id up ro ep su ma ot co _ n c _ hb2).mono ?_; rintro e wz ⟨rfl, hwz⟩; subst hwz))
  go_wp2
  go_ret
  exact ⟨rfl, al.drew⟩

end Go.Proofs.Ythnigcalboobgaa
