/- Lemmas and contracts of one law. -/
import Derived.Test.YtdbnmkffinhdjaaGreatLV26
namespace Go.Proofs.YtdbnmkffinhdjaaGreat
open Go.ChangeShapes Go.WideShapes Go.ChangeAt Go.RowKit Go.Deep Go.Sort
set_option linter.unusedVariables false
set_option linter.unusedSimpArgs false
set_option maxRecDepth 100000
set_option maxHeartbeats 25600000

section
variable {P : Program} {t e : TypeId} {i : TypeInfo}
end

theorem scopyEn (ep ki pe : Int) (c : Nat) (w : World) :
    Calls Tryz.prog 69 #[.agg #[.int .i64 ep, .int .i64 ki, .int .i64 pe, .slice none 0 c]] w fun e w' => ∃ (a' : Option Addr) (c' : Nat), e = .returned (.agg #[.int .i64 ep, .int .i64 ki, .int .i64 pe, .slice a' 0 c']) ∧ OvB w' w.heap.size (.slice a' 0 c') [] ∧ New w w' := by
  obtain ⟨i0, hi, hz0, hz1, hz2⟩ := info_parts Tryz.infoU8
  have hw := (((New.refl w).alloc (.cells #[.int .i64 ep, .int .i64 ki, .int .i64 pe, .slice none 0 c] 118)).alloc (.cells #[.int .i64 0, .int .i64 0, .int .i64 0, .slice none 0 0] 118)).alloc (.cells #[] 5)
  have b0 := ((Blk.mk w w.heap.size 118 #[.int .i64 ep, .int .i64 ki, .int .i64 pe, .slice none 0 c] rfl).alloc (.cells #[.int .i64 0, .int .i64 0, .int .i64 0, .slice none 0 0] 118)).alloc (.cells #[] 5)
  have b1 := (Blk.mk (w.alloc (.cells #[.int .i64 ep, .int .i64 ki, .int .i64 pe, .slice none 0 c] 118)) (w.heap.size + 1) 118 #[.int .i64 0, .int .i64 0, .int .i64 0, .slice none 0 0] (by simp)).alloc (.cells #[] 5)
  have ho0 : (((w.alloc (.cells #[.int .i64 ep, .int .i64 ki, .int .i64 pe, .slice none 0 c] 118)).alloc (.cells #[.int .i64 0, .int .i64 0, .int .i64 0, .slice none 0 0] 118)).alloc (.cells #[] 5)).ownsRow (w.heap.size + 2) 5 1 (.slice (some ⟨w.heap.size + 1 + 1, 0, none⟩) 0 0) ([] : List Int).length (([] : List Int).map (Value.int .u8)) := by
    have := World.ownsRow_lit (base := w.heap.size + 2) (size := 1) (e := 5) ((w.alloc (.cells #[.int .i64 ep, .int .i64 ki, .int .i64 pe, .slice none 0 c] 118)).alloc (.cells #[.int .i64 0, .int .i64 0, .int .i64 0, .slice none 0 0] 118)) #[] 0 (by simp) (Nat.zero_le _) rfl
    simpa using this
  have hz : ∀ z ∈ ([] : List Int), 0 ≤ z ∧ z ≤ 255 := by intro z hz; cases hz
  go_enter Tryz.func69, Tryz.ntmps69
  go_wp2
  refine bodyPost_ret (v := .agg #[.int .i64 ep, .int .i64 ki, .int .i64 pe, .slice (some ⟨w.heap.size + 1 + 1, 0, none⟩) 0 0]) (by simp [results, Tryz.results69, go_sem]) rfl ⟨_, 0, rfl, ?_, ?_⟩
  · have := World.ownsRow_lit (base := w.heap.size) (size := 1) (e := 5) ((w.alloc (.cells #[.int .i64 ep, .int .i64 ki, .int .i64 pe, .slice (some ⟨w.heap.size + 1 + 1, 0, none⟩) 0 0] 118)).alloc (.cells #[.int .i64 ep, .int .i64 ki, .int .i64 pe, .slice (some ⟨w.heap.size + 1 + 1, 0, none⟩) 0 0] 118)) #[] 0 (by simp; try omega) (Nat.zero_le _) rfl
    simpa [OvB] using this
  · exact (((New.refl w).alloc _).alloc _).alloc _

theorem sMl16n (kd tgt me at1 pr : Int) (has : Bool) (ee ki pe : Int) (c : Nat) (w : World) :
    Calls Tryz.prog 63 #[.agg #[.int .i64 kd, .int .i64 tgt, .int .i64 me, .int .i64 at1, .int .i64 pr, .bool has, .int .i64 ee, .int .i64 ki, .int .i64 pe, .slice none 0 c]] w fun e w' => ∃ a' c', e = .returned (.agg #[.int .i64 kd, .int .i64 tgt, .int .i64 me, .int .i64 at1, .int .i64 pr, .bool has, .int .i64 ee, .int .i64 ki, .int .i64 pe, .slice a' 0 c']) ∧ OvB w' w.heap.size (.slice a' 0 c') [] ∧ New w w' := by
  have hw : New w ((w.alloc (.cells #[.int .i64 kd, .int .i64 tgt, .int .i64 me, .int .i64 at1, .int .i64 pr, .bool has, .int .i64 ee, .int .i64 ki, .int .i64 pe, .slice none 0 c] 120)).alloc (.cells #[.int .i64 0, .int .i64 0, .int .i64 0, .int .i64 0, .int .i64 0, .bool false, .int .i64 0, .int .i64 0, .int .i64 0, .slice none 0 0] 120)) := ((New.refl w).alloc _).alloc _
  have b0 : Blk ((w.alloc (.cells #[.int .i64 kd, .int .i64 tgt, .int .i64 me, .int .i64 at1, .int .i64 pr, .bool has, .int .i64 ee, .int .i64 ki, .int .i64 pe, .slice none 0 c] 120)).alloc (.cells #[.int .i64 0, .int .i64 0, .int .i64 0, .int .i64 0, .int .i64 0, .bool false, .int .i64 0, .int .i64 0, .int .i64 0, .slice none 0 0] 120)) w.heap.size 120 #[.int .i64 kd, .int .i64 tgt, .int .i64 me, .int .i64 at1, .int .i64 pr, .bool has, .int .i64 ee, .int .i64 ki, .int .i64 pe, .slice none 0 c] := (Blk.mk _ _ _ _ rfl).alloc _
  have b1 : Blk ((w.alloc (.cells #[.int .i64 kd, .int .i64 tgt, .int .i64 me, .int .i64 at1, .int .i64 pr, .bool has, .int .i64 ee, .int .i64 ki, .int .i64 pe, .slice none 0 c] 120)).alloc (.cells #[.int .i64 0, .int .i64 0, .int .i64 0, .int .i64 0, .int .i64 0, .bool false, .int .i64 0, .int .i64 0, .int .i64 0, .slice none 0 0] 120)) (w.heap.size + 1) 120 #[.int .i64 0, .int .i64 0, .int .i64 0, .int .i64 0, .int .i64 0, .bool false, .int .i64 0, .int .i64 0, .int .i64 0, .slice none 0 0] := Blk.mk _ _ _ _ (by simp)
  have sz : Hid (((w.alloc (.cells #[.int .i64 kd, .int .i64 tgt, .int .i64 me, .int .i64 at1, .int .i64 pr, .bool has, .int .i64 ee, .int .i64 ki, .int .i64 pe, .slice none 0 c] 120)).alloc (.cells #[.int .i64 0, .int .i64 0, .int .i64 0, .int .i64 0, .int .i64 0, .bool false, .int .i64 0, .int .i64 0, .int .i64 0, .slice none 0 0] 120)).heap.size = w.heap.size + 1 + 1) := by unfold Hid; simp
  have ge0 : w.heap.size ≤ w.heap.size := Nat.le_refl _
  have ge1 : w.heap.size ≤ w.heap.size + 1 := by omega
  go_enter Tryz.func63, Tryz.ntmps63
  go_upto_region 1 with fail
  generalize ((w.alloc (.cells #[.int .i64 kd, .int .i64 tgt, .int .i64 me, .int .i64 at1, .int .i64 pr, .bool has, .int .i64 ee, .int .i64 ki, .int .i64 pe, .slice none 0 c] 120)).alloc (.cells #[.int .i64 0, .int .i64 0, .int .i64 0, .int .i64 0, .int .i64 0, .bool false, .int .i64 0, .int .i64 0, .int .i64 0, .slice none 0 0] 120)) = w0 at *
  have c0 := b0.cells
  go_wp2_with (go_at_call 69; refine (scopyEn ee ki pe c _).mono ?_; rintro e w1 ⟨a', c', rfl, ho, hn1⟩; have B0 := b0.new hn1; have B1 := b1.new hn1; clear c0; have c0 := B0.cells; have f0 := B0.frees; have c1 := B1.cells; have f1 := B1.frees; have HO : Hid _ := ho; have N1 := hw.trans hn1; clear ho hn1)
  refine bodyPost_ret (v := .agg #[.int .i64 kd, .int .i64 tgt, .int .i64 me, .int .i64 at1, .int .i64 pr, .bool has, .int .i64 ee, .int .i64 ki, .int .i64 pe, .slice a' 0 c']) (by simp [results, Tryz.results63, go_sem, c1]) rfl ⟨a', c', rfl, ?_, ?_⟩
  · refine (OvB.turn (S := fun i => i = w.heap.size + 1 ∨ i = w.heap.size) HO.out ?_ (by intro k hk _ e; have := sz.out; omega)).low (by have := sz.out; omega)
    exact Turn.set (S := fun i => i = w.heap.size + 1 ∨ i = w.heap.size) (Turn.set (S := fun i => i = w.heap.size + 1 ∨ i = w.heap.size) (Turn.set (S := fun i => i = w.heap.size + 1 ∨ i = w.heap.size) (Turn.set (S := fun i => i = w.heap.size + 1 ∨ i = w.heap.size) (Turn.set (S := fun i => i = w.heap.size + 1 ∨ i = w.heap.size) (Turn.set (S := fun i => i = w.heap.size + 1 ∨ i = w.heap.size) (Turn.set (S := fun i => i = w.heap.size + 1 ∨ i = w.heap.size) (Turn.set (S := fun i => i = w.heap.size + 1 ∨ i = w.heap.size) (Turn.set (S := fun i => i = w.heap.size + 1 ∨ i = w.heap.size) (Turn.set (S := fun i => i = w.heap.size + 1 ∨ i = w.heap.size) (Turn.set (S := fun i => i = w.heap.size + 1 ∨ i = w.heap.size) (Turn.set (S := fun i => i = w.heap.size + 1 ∨ i = w.heap.size) (Turn.set (S := fun i => i = w.heap.size + 1 ∨ i = w.heap.size) (Turn.set (S := fun i => i = w.heap.size + 1 ∨ i = w.heap.size) (Turn.refl _ _) (Or.inr rfl) _) (Or.inr rfl) _) (Or.inr rfl) _) (Or.inr rfl) _) (Or.inl rfl) _) (Or.inl rfl) _) (Or.inl rfl) _) (Or.inl rfl) _) (Or.inl rfl) _) (Or.inl rfl) _) (Or.inl rfl) _) (Or.inl rfl) _) (Or.inl rfl) _) (Or.inl rfl) _
  · exact ((((((((((((((N1).setCell ge0 _).setCell ge0 _).setCell ge0 _).setCell ge0 _).setCell ge1 _).setCell ge1 _).setCell ge1 _).setCell ge1 _).setCell ge1 _).setCell ge1 _).setCell ge1 _).setCell ge1 _).setCell ge1 _).setCell ge1 _

theorem sMl16b (m : Ml) (a : Option Addr) (c : Nat) (w : World) (hx : BsAt w a m.e.xs) (hnx : a = none → m.e.xs.length = 0) (hm : m.e.xs.length ≤ 1048576) :
    Calls Tryz.prog 63 #[.agg #[.int .i64 m.kd, .int .i64 m.tgt, .int .i64 m.ep, .int .i64 m.at1, .int .i64 m.pr, .bool m.has, .int .i64 m.e.ep, .int .i64 m.e.ki, .int .i64 m.e.pe, .slice a m.e.xs.length c]] w fun e w' => ∃ a' c', e = .returned (.agg #[.int .i64 m.kd, .int .i64 m.tgt, .int .i64 m.ep, .int .i64 m.at1, .int .i64 m.pr, .bool m.has, .int .i64 m.e.ep, .int .i64 m.e.ki, .int .i64 m.e.pe, .slice a' m.e.xs.length c']) ∧ OvB w' w.heap.size (.slice a' m.e.xs.length c') m.e.xs ∧ New w w' := by
  cases a with
  | some x => exact sMl16 m (some x) c w hx (by intro e; cases e) hm
  | none =>
    obtain ⟨kd, tgt, me, at1, pr, has, ⟨ee, ki, pe, xs⟩⟩ := m
    obtain rfl : xs = [] := List.eq_nil_of_length_eq_zero (hnx rfl)
    exact sMl16n kd tgt me at1 pr has ee ki pe c w

end Go.Proofs.YtdbnmkffinhdjaaGreat
