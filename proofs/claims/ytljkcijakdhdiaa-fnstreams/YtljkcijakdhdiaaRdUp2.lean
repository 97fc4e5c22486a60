/- What is proved here: what the program's reading of attributes and prefixes behind those that are gone answers, where they cannot be cut. -/
import Derived.Test.YtljkcijakdhdiaaRdUp
namespace Go.Proofs.Ytljkcijakdhdiaa
open Go.RowKit Go.Sort
set_option linter.unusedVariables false

set_option maxHeartbeats 3200000 in
theorem readUp_short (ga : Option Addr) (gn gc b o2 ln lc k : Nat) (gs : List (Int × Int)) (w : World) (hg : PsAt w ga gs) (hgn : gs.length = gn) (hga : ga = none → gn = 0 ∧ gc = 0) (hm : gn ≤ 1048576) (hc : w.cell? ⟨b, o2, none⟩ = some (.int .u8 (k : Int))) (hk : k ≤ 255) (hl0 : 0 < ln) (hlm : ln ≤ 1048576)
    (hs : ln < 8 + 2 * k + 3) :
    Calls Try.prog 74 #[.slice ga gn gc, .slice (some ⟨b, o2, none⟩) ln lc] w fun e w' => (∃ a m c, e = .panicked [{ v := sfV a m c, recovered := false }] ∧ OwQ w' w.heap.size (.slice a m c) (gs.take 8)) ∧ New w w' := by
  have hw := ((New.refl w).alloc (.cells #[.slice none 0 0, .bool false, .int .i64 0, .slice none 0 0, .int .i64 0, .int .i64 0, .int .i64 0, .slice none 0 0] 49)).alloc (.cells #[.slice ga gn gc, .bool false, .int .i64 0, .slice none 0 0, .int .i64 0, .int .i64 0, .int .i64 0, .slice none 0 0] 49)
  have HG : Hid (gs.length = gn) := hgn
  have hl0' : (0 : Int) < (ln : Int) := by omega
  have hs' : (ln : Int) - (8 + 2 * (k : Int)) < 3 := by omega
  have hc' := (World.cell?_of_block (hw.block b (World.block_lt_of_cell? w _ hc) (fun f => f))).trans hc
  clear hgn
  go_enter Try.func74, Try.ntmps74
  go_wp2_with fail
  refine (attrsEnd_any b o2 ln lc k _ hc' (by omega) (by omega) hl0).mono ?_
  rintro e w1 ⟨rfl, rfl⟩
  go_wp2_with fail
  refine (takenBack_any ga none gn gc 0 0 gs [] _ (hg.new hw) (PsAt.nil _ _) HG.out rfl hga (fun _ => ⟨rfl, rfl⟩) hm (by omega)).mono ?_
  rintro e w2 ⟨a, m, c, rfl, hq, hn2⟩
  have hsz := hw.size
  have hq' : OwQ w2 w.heap.size (.slice a m c) (gs.take 8) := by simpa [okL] using hq.low hsz
  go_wp2
  exact ⟨rfl, ⟨a, m, c, rfl, hq'⟩, hw.trans hn2⟩

set_option maxHeartbeats 3200000 in
theorem readUp_rest (ga : Option Addr) (gn gc b o2 ln lc k r : Nat) (gs : List (Int × Int)) (w : World) (hg : PsAt w ga gs) (hgn : gs.length = gn) (hga : ga = none → gn = 0 ∧ gc = 0) (hm : gn ≤ 1048576) (hc : w.cell? ⟨b, o2, none⟩ = some (.int .u8 (k : Int))) (hk : k ≤ 255) (hlm : ln ≤ 1048576)
    (hr : ln = 8 + 2 * k + r) (hr3 : 3 ≤ r) (hs : r % 3 ≠ 0) :
    Calls Try.prog 74 #[.slice ga gn gc, .slice (some ⟨b, o2, none⟩) ln lc] w fun e w' => (∃ a m c, e = .panicked [{ v := sfV a m c, recovered := false }] ∧ OwQ w' w.heap.size (.slice a m c) (gs.take 8)) ∧ New w w' := by
  have hw := ((New.refl w).alloc (.cells #[.slice none 0 0, .bool false, .int .i64 0, .slice none 0 0, .int .i64 0, .int .i64 0, .int .i64 0, .slice none 0 0] 49)).alloc (.cells #[.slice ga gn gc, .bool false, .int .i64 0, .slice none 0 0, .int .i64 0, .int .i64 0, .int .i64 0, .slice none 0 0] 49)
  have HG : Hid (gs.length = gn) := hgn
  have hl0 : 0 < ln := by omega
  have hl0' : (0 : Int) < (ln : Int) := by omega
  have hsub : (ln : Int) - (8 + 2 * (k : Int)) = (r : Int) := by omega
  have hr3' : ¬ (r : Int) < 3 := by omega
  have hmod : (r : Int).tmod 3 = ((r % 3 : Nat) : Int) := by rw [Int.tmod_eq_emod_of_nonneg (by omega)]; omega
  have hne : ¬ ((r % 3 : Nat) : Int) = 0 := by omega
  have hc' := (World.cell?_of_block (hw.block b (World.block_lt_of_cell? w _ hc) (fun f => f))).trans hc
  clear hgn hr
  generalize r % 3 = q at *
  have hqn : ((q : Int) != 0) = true := by simpa using hne
  have hdn : decide ((r : Int) < 3) = false := by simpa using hr3'
  go_enter Try.func74, Try.ntmps74
  go_wp2_with fail
  refine (attrsEnd_any b o2 ln lc k _ hc' (by omega) (by omega) hl0).mono ?_
  rintro e w1 ⟨rfl, rfl⟩
  go_wp2_with fail
  refine (takenBack_any ga none gn gc 0 0 gs [] _ (hg.new hw) (PsAt.nil _ _) HG.out rfl hga (fun _ => ⟨rfl, rfl⟩) hm (by omega)).mono ?_
  rintro e w2 ⟨a, m, c, rfl, hq, hn2⟩
  have hsz := hw.size
  have hq' : OwQ w2 w.heap.size (.slice a m c) (gs.take 8) := by simpa [okL] using hq.low hsz
  go_wp2
  exact ⟨rfl, ⟨a, m, c, rfl, hq'⟩, hw.trans hn2⟩

end Go.Proofs.Ytljkcijakdhdiaa
