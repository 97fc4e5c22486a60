/- What is proved here: what the reading of a prefix from a text answers, in plain words of lists of bytes; the model's way of cutting and the program's come to one answer. No condition. -/
import Derived.Test.YthjoogfbhaceoaaDoorStCut2
namespace Go.Proofs.YthjoogfbhaceoaaDoor
open Go.RowKit Go.Sort

/-- What is read of a text: the code, the address, the length. -/
def pfx (h o n : Int) : Int × Int × Int := if 255 < h ∨ 255 < o then (5, 0, 0) else if pf (h * 256 + o) n = 0 then (0, h * 256 + o, n) else (pf (h * 256 + o) n, 0, 0)
def parse (l : List UInt8) : Int × Int × Int :=
  match numD (bef 46 (bef 47 l)), numD (aft 46 (bef 47 l)), numD (aft 47 l) with
  | some h, some o, some n => pfx h o n
  | _, _, _ => (5, 0, 0)

theorem numD_has {c : UInt8} {l : List UInt8} (h : c ∈ l) (hc : okD c = false) : numD l = none := by
  have ha : l.all okD = false := by
    rw [List.all_eq_false]
    exact ⟨c, h, by simp [hc]⟩
  unfold numD
  rw [if_pos (.inr (.inr (.inr ha)))]
theorem two_or {c : UInt8} (l : List UInt8) (hc : okD c = false) : (pcs c l = [bef c l, aft c l]) ∨ ((pcs c l).length ≠ 2 ∧ numD (aft c l) = none) := by
  by_cases h : c ∈ l
  · by_cases h2 : c ∈ aft c l
    · refine .inr ⟨?_, numD_has h2 hc⟩
      rw [pcs_cut h, pcs_cut h2]
      have := pcs_pos c (aft c (aft c l))
      simp only [List.length_cons]
      omega
    · exact .inl (by rw [pcs_cut h, pcs_no h2])
  · refine .inr ⟨by rw [pcs_no h]; simp, ?_⟩
    rw [aft_not h]
    rfl
theorem parse_no1 {l : List UInt8} (h : numD (aft 47 l) = none) : parse l = (5, 0, 0) := by
  unfold parse
  rw [h]
  split <;> first | rfl | (rename_i h' ; cases h')
theorem parse_no2 {l : List UInt8} (h : numD (aft 46 (bef 47 l)) = none) : parse l = (5, 0, 0) := by
  unfold parse
  rw [h]
  split <;> first | rfl | (rename_i h' _; cases h')
theorem parse_no3 {l : List UInt8} (h : numD (bef 46 (bef 47 l)) = none) : parse l = (5, 0, 0) := by
  unfold parse
  rw [h]
theorem parse_yes {l : List UInt8} {h o n : Int} (h1 : numD (bef 46 (bef 47 l)) = some h) (h2 : numD (aft 46 (bef 47 l)) = some o) (h3 : numD (aft 47 l) = some n) : parse l = pfx h o n := by
  unfold parse
  rw [h1, h2, h3]

theorem bef_le (c : UInt8) : ∀ l : List UInt8, (bef c l).length ≤ l.length
  | [] => by simp [bef]
  | b :: r => by have := bef_le c r; unfold bef; split <;> simp; exact this
theorem aft_le (c : UInt8) : ∀ l : List UInt8, (aft c l).length ≤ l.length
  | [] => by simp [aft]
  | b :: r => by have := aft_le c r; unfold aft; split <;> simp; omega

theorem size_l (x : List UInt8) : (⟨x.toArray⟩ : ByteArray).size = x.length := by rw [Lib.size_eq]

theorem specNum_l (x : List UInt8) (w : World) (hm : x.length ≤ 1048576) : Calls Tryd.prog 24 #[.string ⟨x.toArray⟩, .int .i64 3] w fun e w' => e = .returned (.tuple #[.int .i64 ((numD x).getD 0), .bool (numD x).isSome]) ∧ w' = w := specNum3 ⟨x.toArray⟩ w (by rw [size_l]; exact hm)
theorem specNum_none (x : List UInt8) (w : World) (hm : x.length ≤ 1048576) (h : numD x = none) : Calls Tryd.prog 24 #[.string ⟨x.toArray⟩, .int .i64 3] w fun e w' => e = .returned (.tuple #[.int .i64 0, .bool false]) ∧ w' = w := by
  have := specNum_l x w hm
  rw [h] at this
  exact this
theorem specNum_some (x : List UInt8) (v : Int) (w : World) (hm : x.length ≤ 1048576) (h : numD x = some v) : Calls Tryd.prog 24 #[.string ⟨x.toArray⟩, .int .i64 3] w fun e w' => e = .returned (.tuple #[.int .i64 v, .bool true]) ∧ w' = w := by
  have := specNum_l x w hm
  rw [h] at this
  exact this

theorem implNum_l (x : List UInt8) (w : World) (hm : x.length ≤ 1048576) : Calls Tryd.prog 21 #[.string ⟨x.toArray⟩] w fun e w' => e = .returned (.tuple #[.int .i64 ((numD x).getD 0), .bool (numD x).isSome]) ∧ w' = w := implNum3 ⟨x.toArray⟩ w (by rw [size_l]; exact hm)
theorem implNum_none (x : List UInt8) (w : World) (hm : x.length ≤ 1048576) (h : numD x = none) : Calls Tryd.prog 21 #[.string ⟨x.toArray⟩] w fun e w' => e = .returned (.tuple #[.int .i64 0, .bool false]) ∧ w' = w := by
  have := implNum_l x w hm
  rw [h] at this
  exact this
theorem implNum_some (x : List UInt8) (v : Int) (w : World) (hm : x.length ≤ 1048576) (h : numD x = some v) : Calls Tryd.prog 21 #[.string ⟨x.toArray⟩] w fun e w' => e = .returned (.tuple #[.int .i64 v, .bool true]) ∧ w' = w := by
  have := implNum_l x w hm
  rw [h] at this
  exact this

theorem strCut_l (x : List UInt8) (c : UInt8) (w : World) (hm : x.length ≤ 1048576) : Calls Tryd.prog 20 #[.string ⟨x.toArray⟩, .string ⟨#[c]⟩] w fun e w' => ∃ fd, e = .returned (.tuple #[.string ⟨(bef c x).toArray⟩, .string ⟨(aft c x).toArray⟩, .bool fd]) ∧ ∃ n, w' = w.drewN n := strCut ⟨x.toArray⟩ c w (by rw [size_l]; exact hm)
theorem specCut_l (x : List UInt8) (c : UInt8) (w : World) (hm : x.length ≤ 1048576) :
    Calls Tryd.prog 23 #[.string ⟨x.toArray⟩, .int .u8 (c.toNat : Int)] w fun e w' => ∃ g cap, e = .returned (.slice (some ⟨g, 0, none⟩) (pcs c x).length cap) ∧ w'.ownsRow w.heap.size 9 1 (.slice (some ⟨g, 0, none⟩) (pcs c x).length cap) (pcs c x).length (strs (pcs c x)) ∧ New w w' := specCut ⟨x.toArray⟩ c w (by rw [size_l]; exact hm)

theorem row_two {w w' : World} {base g cap : Nat} {t : TypeId} {a b : Value} (h : w.ownsRow base t 1 (.slice (some ⟨g, 0, none⟩) 2 cap) 2 [a, b]) (k : New w w') : w'.cell? ⟨g, 0, none⟩ = some a ∧ w'.cell? ⟨g, 1, none⟩ = some b := by
  have h' := own_new h k
  exact ⟨h'.cellAt 0 (by omega), h'.cellAt 1 (by omega)⟩

end Go.Proofs.YthjoogfbhaceoaaDoor
