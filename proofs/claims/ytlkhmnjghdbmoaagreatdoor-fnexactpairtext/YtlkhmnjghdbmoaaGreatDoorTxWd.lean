/- What is proved here: what a word and numbers become, in the program. -/
import Derived.Test.YtlkhmnjghdbmoaaGreatDoorTxAt
import Derived.Maps.AppendAt
namespace Go.Proofs.YtlkhmnjghdbmoaaGreatDoor
open Go.RowKit Go.Sort
set_option linter.unusedVariables false
set_option linter.unusedSimpArgs false

theorem nsAt_blk {w : World} {B : Nat} {t : TypeId} {cs : Array Value} {xs : List Int} (h : Blk w B t cs) (hc : ∀ (i : Nat) (z : Int), xs[i]? = some z → cs[i]? = some (Value.int .i64 z)) (h6 : ∀ z ∈ xs, In6 z) : NsAt w (some ⟨B, 0, none⟩) xs := fun i z hz => ⟨B, 0, rfl, by rw [Nat.zero_add, h.cells i]; exact hc i z hz, h6 z (List.mem_of_getElem? hz)⟩

set_option maxRecDepth 100000 in
set_option maxHeartbeats 1600000 in
theorem wordNum (wd : List UInt8) (a : Option Addr) (k c : Nat) (xs : List Int) (w : World) (h : NsAt w a xs) (hk : xs.length = k) (hk6 : k ≤ 6) (hall : ∀ x ∈ xs, 0 ≤ x ∧ x ≤ 65535) (ht : Tab w) :
    Calls Tryz.prog 55 #[.string ⟨wd.toArray⟩, .slice a k c] w fun e w' => ∃ g cap, e = .returned (.slice (some ⟨g, 0, none⟩) (1 + k) cap) ∧ w'.ownsRow w.heap.size 9 1 (.slice (some ⟨g, 0, none⟩) (1 + k) cap) (1 + k) (strV (wd :: xs.map dg)) ∧ New w w' := by
  obtain ⟨iS, hi, hz0, hz1, hz2⟩ := info_parts Tryz.infoStr
  have HK : Hid (xs.length = k) := hk
  have HA : Hid (∀ x ∈ xs, 0 ≤ x ∧ x ≤ 65535) := hall
  clear hk hall
  have hal := (New.refl w).alloc (.cells #[.string ⟨wd.toArray⟩] 9)
  have ho0 : (w.alloc (.cells #[.string ⟨wd.toArray⟩] 9)).ownsRow w.heap.size 9 1 (.slice (some ⟨w.heap.size, 0, none⟩) 1 1) 1 (strV [wd]) := World.ownsRow_lit (base := w.heap.size) (size := 1) (e := 9) w #[.string ⟨wd.toArray⟩] 1 (by omega) (by decide) rfl
  go_enter Tryz.func55, Tryz.ntmps55
  go_wp2
  go_loopw [5, 12] (fun s i wr => ∃ j : Nat, j ≤ k ∧ i = .int .i64 j ∧ wr.ownsRow w.heap.size 9 1 s (1 + j) (strV (wd :: (xs.take j).map dg)) ∧ New w wr) (fun _ i _ => k - (intOf i).toNat)
  case atStart => exact ⟨0, Nat.zero_le _, rfl, by simpa using ho0, hal⟩
  case round =>
    obtain ⟨j, hj, rfl, ho, hnw⟩ := hrel
    by_cases hlt : j < k
    · obtain ⟨b, off, x, ha, hz, hc0, -⟩ := (h.new hnw).at j (by rw [HK.out]; exact hlt)
      have ha' := ha
      subst ha'
      obtain ⟨q0, q1⟩ := HA.out x (List.mem_of_getElem? hz)
      have hT : Hid (strV (wd :: (xs.take (j + 1)).map dg) = strV (wd :: (xs.take j).map dg) ++ [.string ⟨(dg x).toArray⟩]) := by unfold Hid; rw [take_snoc hz, List.map_append, List.map_cons, List.map_nil, ← List.cons_append, strV_snoc]
      clear hz
      go_wp2_with fail
      refine (fmtI x _ (by omega) q1 (ht.new hnw)).mono ?_
      rintro e w1 ⟨rfl, hn1⟩
      have hw1 := hnw.trans hn1
      have hsz := hw1.size
      have ho1 := own_newS ho hn1
      have hblk := own_blkS ho1
      generalize dg x = D at *
      go_wp2_with (at_builtin; refine wpList_append_own_at _ rfl _ _ 71 rfl (w.heap.size) 9 iS (.string ⟨#[]⟩) 1 16 Tryz.underlying71 hi hz0 hz1 hz2 rfl (by decide) _ _ _ rfl (ho1.alloc _) ⟨w1.heap.size, 0, none⟩ 1 1 [.string ⟨D.toArray⟩] rfl rfl (cell_one_s _ _ _) (by simp [Value.oneCell']) (by unfold maxLen; omega) (by omega) (by simp; omega) ?_; intro v' w3 hown' hgrow hnil hloc)
      obtain ⟨g', cap', rfl⟩ := Joins.ownsRow_form hown' (by omega)
      have N3 : New w w3 := (hw1.alloc (.cells #[.string ⟨D.toArray⟩] 9)).growS hgrow hblk
      have hrow : w3.ownsRow w.heap.size 9 1 (.slice (some ⟨g', 0, none⟩) (1 + (j + 1)) cap') (1 + (j + 1)) (strV (wd :: (xs.take (j + 1)).map dg)) := by rw [hT.out]; exact hown'
      clear hown' hgrow hnil hloc ho ho1
      go_wp2
      go_roundw
      case rel => exact ⟨j + 1, by omega, by go_num, hrow, N3⟩
      case measure => simp [intOf]; omega
    · obtain rfl : j = k := by omega
      obtain ⟨g, cap, rfl⟩ := Joins.ownsRow_form ho (by omega)
      rw [List.take_of_length_le (by rw [HK.out]; omega)] at ho
      go_wp2
      go_ret
      exact ⟨g, cap, rfl, ho, hnw⟩


end Go.Proofs.YtlkhmnjghdbmoaaGreatDoor
