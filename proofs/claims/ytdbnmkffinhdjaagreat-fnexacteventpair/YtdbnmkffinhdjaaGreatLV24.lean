/- Lemmas and contracts of one law. -/
import Derived.Test.YtdbnmkffinhdjaaGreatLV22
import Derived.Test.YtdbnmkffinhdjaaGreatLV7
import Derived.Test.YtdbnmkffinhdjaaGreatLV23
import Derived.Test.YtdbnmkffinhdjaaGreatLV11
import Derived.Test.YtdbnmkffinhdjaaGreatLV1
import Derived.Deep.RegionHeld3
import Derived.Laws.Tables
import Derived.Laws.Rows
import Derived.Test.YtdbnmkffinhdjaaGreatLV4
import Derived.Test.YtdbnmkffinhdjaaGreatLV8
namespace Go.Proofs.YtdbnmkffinhdjaaGreat
open Go.ChangeShapes Go.WideShapes Go.ChangeAt Go.RowKit Go.Deep Go.Sort
set_option linter.unusedVariables false
set_option linter.unusedSimpArgs false
set_option maxRecDepth 100000
set_option maxHeartbeats 25600000

theorem copyNd_at (B o : Nat) (id : Int) (up : Bool) (ro ep su ma ot co : Int) (A : Option Addr) (n c : Nat) (V : List EkV) (w : World) (k0 : w.cell? ⟨B, o, none⟩ = some (.int .i64 id)) (k1 : w.cell? ⟨B, o + 1, none⟩ = some (.bool up)) (k2 : w.cell? ⟨B, o + 2, none⟩ = some (.int .i64 ro)) (k3 : w.cell? ⟨B, o + 3, none⟩ = some (.int .i64 ep)) (k4 : w.cell? ⟨B, o + 4, none⟩ = some (.slice A n c)) (k5 : w.cell? ⟨B, o + 5, none⟩ = some (.int .i64 su)) (k6 : w.cell? ⟨B, o + 6, none⟩ = some (.int .i64 ma)) (k7 : w.cell? ⟨B, o + 7, none⟩ = some (.int .i64 ot)) (k8 : w.cell? ⟨B, o + 8, none⟩ = some (.int .i64 co)) (h : LgAt w A V) (hN : NlK V) (hn : V.length = n) (hm : n ≤ 2097152) :
    Calls Tryz.prog 119 #[.pointer (some ⟨B, o, none⟩)] w fun e w' => ∃ A' c' V', e = .returned (.agg #[.int .i64 id, .bool up, .int .i64 ro, .int .i64 ep, .slice A' n c', .int .i64 su, .int .i64 ma, .int .i64 ot, .int .i64 co]) ∧ V'.map EkV.r = V.map EkV.r ∧ OwL w' w.heap.size w'.heap.size (.slice A' n c') V' ∧ New w w' := by
  have hw := ((New.refl w).alloc (.cells #[.int .i64 0, .bool false, .int .i64 0, .int .i64 0, .slice none 0 0, .int .i64 0, .int .i64 0, .int .i64 0, .int .i64 0] 74)).alloc (.cells #[.int .i64 id, .bool up, .int .i64 ro, .int .i64 ep, .slice A n c, .int .i64 su, .int .i64 ma, .int .i64 ot, .int .i64 co] 74)
  have b1 := (Blk.mk w w.heap.size 74 #[.int .i64 0, .bool false, .int .i64 0, .int .i64 0, .slice none 0 0, .int .i64 0, .int .i64 0, .int .i64 0, .int .i64 0] rfl).alloc (.cells #[.int .i64 id, .bool up, .int .i64 ro, .int .i64 ep, .slice A n c, .int .i64 su, .int .i64 ma, .int .i64 ot, .int .i64 co] 74)
  have b2 := Blk.mk (w.alloc (.cells #[.int .i64 0, .bool false, .int .i64 0, .int .i64 0, .slice none 0 0, .int .i64 0, .int .i64 0, .int .i64 0, .int .i64 0] 74)) (w.heap.size + 1) 74 #[.int .i64 id, .bool up, .int .i64 ro, .int .i64 ep, .slice A n c, .int .i64 su, .int .i64 ma, .int .i64 ot, .int .i64 co] (by simp)
  have s0 : Hid (((w.alloc (.cells #[.int .i64 0, .bool false, .int .i64 0, .int .i64 0, .slice none 0 0, .int .i64 0, .int .i64 0, .int .i64 0, .int .i64 0] 74)).alloc (.cells #[.int .i64 id, .bool up, .int .i64 ro, .int .i64 ep, .slice A n c, .int .i64 su, .int .i64 ma, .int .i64 ot, .int .i64 co] 74)).heap.size = w.heap.size + 1 + 1) := by unfold Hid; simp
  have lB : B < w.heap.size := World.block_lt_of_cell? w _ k0
  have K4 := (World.cell?_of_block (a := ⟨B, o + 4, none⟩) (hw.block B lB (fun f => f))).trans k4
  go_enter Tryz.func119, Tryz.ntmps119
  go_upto_region 2 with fail
  generalize ((w.alloc (.cells #[.int .i64 0, .bool false, .int .i64 0, .int .i64 0, .slice none 0 0, .int .i64 0, .int .i64 0, .int .i64 0, .int .i64 0] 74)).alloc (.cells #[.int .i64 id, .bool up, .int .i64 ro, .int .i64 ep, .slice A n c, .int .i64 su, .int .i64 ma, .int .i64 ot, .int .i64 co] 74)) = w0 at *
  have c2' := b2.cells
  clear k0 k1 k2 k3 k4 k5 k6 k7 k8
  go_wp2_with fail
  refine (copyLg_any A n c V _ (h.new hw) hN hn hm).mono ?_
  rintro e w1 ⟨u, V', rfl, hV, ho, hn1⟩
  have hl : V'.length = n := by have := congrArg List.length hV; simp at this; omega
  obtain ⟨y, dd, hform, -, -⟩ := row9_form ho.row
  rw [hl] at hform
  subst hform
  have B1 := b1.new hn1
  have B2 := b2.new hn1
  have c1 := B1.cells
  have f1 := B1.frees
  have c2 := B2.cells
  have f2 := B2.frees
  have n1 := hw.trans hn1
  have S0 := s0.out
  clear b1 b2 c2' h K4
  go_wp2
  refine bodyPost_ret (v := .agg #[.int .i64 id, .bool up, .int .i64 ro, .int .i64 ep, .slice y n dd, .int .i64 su, .int .i64 ma, .int .i64 ot, .int .i64 co]) (by simp [results, Tryz.results119, go_sem, c1]) rfl ⟨y, dd, V', rfl, hV, ?_, ?_⟩
  · refine OwL.low (lo := w0.heap.size) (OwL.up (hi := w1.heap.size) (OwL.turn (w := w1) (S := fun i => i = w.heap.size ∨ i = w.heap.size + 1) ho ?t (by intro k hk _ e; omega)) ?u) (by omega)
    case t => exact Turn.set (S := fun i => i = w.heap.size ∨ i = w.heap.size + 1) (Turn.set (S := fun i => i = w.heap.size ∨ i = w.heap.size + 1) (Turn.set (S := fun i => i = w.heap.size ∨ i = w.heap.size + 1) (Turn.set (S := fun i => i = w.heap.size ∨ i = w.heap.size + 1) (Turn.set (S := fun i => i = w.heap.size ∨ i = w.heap.size + 1) (Turn.set (S := fun i => i = w.heap.size ∨ i = w.heap.size + 1) (Turn.set (S := fun i => i = w.heap.size ∨ i = w.heap.size + 1) (Turn.set (S := fun i => i = w.heap.size ∨ i = w.heap.size + 1) (Turn.set (S := fun i => i = w.heap.size ∨ i = w.heap.size + 1) (Turn.set (S := fun i => i = w.heap.size ∨ i = w.heap.size + 1) (Turn.refl _ _) (Or.inr rfl) _) (Or.inl rfl) _) (Or.inl rfl) _) (Or.inl rfl) _) (Or.inl rfl) _) (Or.inl rfl) _) (Or.inl rfl) _) (Or.inl rfl) _) (Or.inl rfl) _) (Or.inl rfl) _
    case u => exact Turn.size (S := fun i => i = w.heap.size ∨ i = w.heap.size + 1) (Turn.set (S := fun i => i = w.heap.size ∨ i = w.heap.size + 1) (Turn.set (S := fun i => i = w.heap.size ∨ i = w.heap.size + 1) (Turn.set (S := fun i => i = w.heap.size ∨ i = w.heap.size + 1) (Turn.set (S := fun i => i = w.heap.size ∨ i = w.heap.size + 1) (Turn.set (S := fun i => i = w.heap.size ∨ i = w.heap.size + 1) (Turn.set (S := fun i => i = w.heap.size ∨ i = w.heap.size + 1) (Turn.set (S := fun i => i = w.heap.size ∨ i = w.heap.size + 1) (Turn.set (S := fun i => i = w.heap.size ∨ i = w.heap.size + 1) (Turn.set (S := fun i => i = w.heap.size ∨ i = w.heap.size + 1) (Turn.set (S := fun i => i = w.heap.size ∨ i = w.heap.size + 1) (Turn.refl _ _) (Or.inr rfl) _) (Or.inl rfl) _) (Or.inl rfl) _) (Or.inl rfl) _) (Or.inl rfl) _) (Or.inl rfl) _) (Or.inl rfl) _) (Or.inl rfl) _) (Or.inl rfl) _) (Or.inl rfl) _)
  · exact ((((((((((n1).setCell (by simp; try omega) _).setCell (by simp; try omega) _).setCell (by simp; try omega) _).setCell (by simp; try omega) _).setCell (by simp; try omega) _).setCell (by simp; try omega) _).setCell (by simp; try omega) _).setCell (by simp; try omega) _).setCell (by simp; try omega) _).setCell (by simp; try omega) _

end Go.Proofs.YtdbnmkffinhdjaaGreat

namespace Go.Proofs.YtdbnmkffinhdjaaGreat
open Go.RowKit
set_option linter.unusedVariables false
set_option linter.unusedSimpArgs false
set_option maxHeartbeats 25600000

theorem lit_ovW (w : World) : OvB (w.alloc (.cells #[] 5)) w.heap.size (.slice (some ⟨w.heap.size, 0, none⟩) 0 0) [] := by
  have h := World.ownsRow_lit (base := w.heap.size) (size := 1) (e := 5) w #[] 0 (Nat.le_refl _) (Nat.zero_le _) rfl
  simpa [OvB] using h

section
variable {P : Program} {t e : TypeId} {i : TypeInfo}
end

/-- A wire of the call's own. -/
def WAns (w : World) (E T : Int) (zs ys : List Int) (e : Ending) (w' : World) : Prop :=
  ∃ (a b : Option Addr) (c d : Nat), e = .returned (.agg #[.int .i64 E, .slice a zs.length c, .int .i64 T, .slice b ys.length d]) ∧ OvB w' w.heap.size (.slice a zs.length c) zs ∧ OvB w' w.heap.size (.slice b ys.length d) ys ∧ (∀ x y, a = some x → b = some y → x.block ≠ y.block) ∧ New w w'

theorem apart_of {w1 w2 : World} {a1 a2 : Option Addr} {n1 c1 n2 c2 : Nat} (h1 : (a1 = none ∧ n1 = 0 ∧ c1 = 0) ∨ ∃ g, a1 = some ⟨g, 0, none⟩ ∧ g < w1.heap.size) (h2 : (a2 = none ∧ n2 = 0 ∧ c2 = 0) ∨ ∃ g, a2 = some ⟨g, 0, none⟩ ∧ w1.heap.size ≤ g) : ∀ x y, a1 = some x → a2 = some y → x.block ≠ y.block := by
  rintro p q rfl rfl
  rcases h1 with ⟨h, _⟩ | ⟨g, h, hg⟩
  · cases h
  · rcases h2 with ⟨h', _⟩ | ⟨g', h', hg'⟩
    · cases h'
    · obtain rfl := Option.some.inj h
      obtain rfl := Option.some.inj h'
      simp
      omega

theorem copyW (E T : Int) (a b : Option Addr) (c d : Nat) (zs ys : List Int) (w : World) (ha : BsAt w a zs) (hb : BsAt w b ys) (hna : a = none → zs.length = 0 ∧ c = 0) (hnb : b = none → ys.length = 0 ∧ d = 0) (hn1 : zs.length ≤ 1048576) (hm1 : ys.length ≤ 1048576) :
    Calls Tryz.prog 120 #[.agg #[.int .i64 E, .slice a zs.length c, .int .i64 T, .slice b ys.length d]] w fun e w' => WAns w E T zs ys e w' := by
  have hz := ha.lt
  have hy := hb.lt
  have hw := ((New.refl w).alloc (.cells #[.int .i64 E, .slice a zs.length c, .int .i64 T, .slice b ys.length d] 132)).alloc (.cells #[.int .i64 0, .slice none 0 0, .int .i64 0, .slice none 0 0] 132)
  have bP := (Blk.mk w w.heap.size 132 #[.int .i64 E, .slice a zs.length c, .int .i64 T, .slice b ys.length d] rfl).alloc (.cells #[.int .i64 0, .slice none 0 0, .int .i64 0, .slice none 0 0] 132)
  have bR := Blk.mk (w.alloc (.cells #[.int .i64 E, .slice a zs.length c, .int .i64 T, .slice b ys.length d] 132)) (w.heap.size + 1) 132 #[.int .i64 0, .slice none 0 0, .int .i64 0, .slice none 0 0] (by simp)
  have HNA : Hid (a = none → zs.length = 0 ∧ c = 0) := hna
  have HNB : Hid (b = none → ys.length = 0 ∧ d = 0) := hnb
  clear hna hnb
  go_enter Tryz.func120, Tryz.ntmps120
  go_upto_region 1 with fail
  have SZ0 : Hid (((w.alloc (.cells #[.int .i64 E, .slice a zs.length c, .int .i64 T, .slice b ys.length d] 132)).alloc (.cells #[.int .i64 0, .slice none 0 0, .int .i64 0, .slice none 0 0] 132)).heap.size = w.heap.size + 1 + 1) := by unfold Hid; simp
  generalize (w.alloc (.cells #[.int .i64 E, .slice a zs.length c, .int .i64 T, .slice b ys.length d] 132)).alloc (.cells #[.int .i64 0, .slice none 0 0, .int .i64 0, .slice none 0 0] 132) = w0 at *
  have al1 := (New.refl w0).alloc (.cells #[.slice a zs.length c] 33)
  have bL := Blk.mk w0 w0.heap.size 33 #[.slice a zs.length c] rfl
  have cP := bP.cells
  go_wp2_with fail
  refine (concat1 w0.heap.size a zs.length c zs _ (bL.cells 0) ((ha.new hw).new al1) rfl HNA.out hn1).mono ?_
  rintro e w1 ⟨v1, rfl, ho1, hn1'⟩
  have n01 := al1.trans hn1'
  replace ho1 : OvB w1 w0.heap.size v1 zs := ho1.low al1.size
  obtain ⟨a1, c1, rfl, -, -, hs1, -⟩ := ho1.bs hz
  have bP1 := bP.new n01
  have bR1 := bR.new n01
  have s0 := SZ0.out
  have s1 := n01.size
  have bP2 : Blk (w1.setCell ⟨w.heap.size, 1, none⟩ (.slice a1 zs.length c1)) w.heap.size 132 #[.int .i64 E, .slice a1 zs.length c1, .int .i64 T, .slice b ys.length d] := bP1.set 1 _
  have t1 : Turn (fun i => i = w.heap.size) w1 (w1.setCell ⟨w.heap.size, 1, none⟩ (.slice a1 zs.length c1)) := Turn.set (S := fun i => i = w.heap.size) (Turn.refl _ _) rfl _
  have bR2 := bR1.turn t1 (by omega)
  have o2 := ov_turn ho1 t1 (by intro k hk e; omega)
  have N2 := (hw.trans n01).before t1 (by intro i hi e; omega)
  have s2 := t1.size
  have HS1 : Hid ((a1 = none ∧ zs.length = 0 ∧ c1 = 0) ∨ ∃ g, a1 = some ⟨g, 0, none⟩ ∧ g < (w1.setCell ⟨w.heap.size, 1, none⟩ (.slice a1 zs.length c1)).heap.size) := by
    unfold Hid
    rcases hs1 with h | ⟨g, h, _, h2⟩
    · exact .inl h
    · exact .inr ⟨g, h, Nat.lt_of_lt_of_le h2 s2⟩
  have S1 : Hid (w0.heap.size ≤ (w1.setCell ⟨w.heap.size, 1, none⟩ (.slice a1 zs.length c1)).heap.size) := Nat.le_trans s1 s2
  clear cP hs1 bL al1 hn1' s0
  have cP := bP1.cells
  have fP := bP1.frees
  go_upto_region 2 with fail
  generalize w1.setCell ⟨w.heap.size, 1, none⟩ (.slice a1 zs.length c1) = w2 at *
  clear cP fP bP1 bR1 t1 ho1 s1 s2 n01
  have al2 := (New.refl w2).alloc (.cells #[.slice b ys.length d] 33)
  have bL := Blk.mk w2 w2.heap.size 33 #[.slice b ys.length d] rfl
  have cP := bP2.cells
  go_wp2_with fail
  refine (concat1 w2.heap.size b ys.length d ys _ (bL.cells 0) ((hb.new N2).new al2) rfl HNB.out hm1).mono ?_
  rintro e w3 ⟨v3, rfl, ho3, hn3⟩
  have n23 := al2.trans hn3
  replace ho3 : OvB w3 w2.heap.size v3 ys := ho3.low al2.size
  obtain ⟨a3, c3, rfl, -, -, hs3, -⟩ := ho3.bs hy
  have bP3 := bP2.new n23
  have bR3 := bR2.new n23
  have o13 := o2.new n23
  have HA : Hid (∀ x y, a1 = some x → a3 = some y → x.block ≠ y.block) := apart_of (w2 := w3) HS1.out (by rcases hs3 with h | ⟨g, h, h1, _⟩; exact .inl h; exact .inr ⟨g, h, h1⟩)
  have bP4 : Blk (w3.setCell ⟨w.heap.size, 3, none⟩ (.slice a3 ys.length c3)) w.heap.size 132 #[.int .i64 E, .slice a1 zs.length c1, .int .i64 T, .slice a3 ys.length c3] := bP3.set 3 _
  have t3 : Turn (fun i => i = w.heap.size) w3 (w3.setCell ⟨w.heap.size, 3, none⟩ (.slice a3 ys.length c3)) := Turn.set (S := fun i => i = w.heap.size) (Turn.refl _ _) rfl _
  have s0 := SZ0.out
  have s4 := S1.out
  have bR4 := bR3.turn t3 (by omega)
  have o14 := ov_turn o13 t3 (by intro k hk e; omega)
  have o34 := ov_turn ho3 t3 (by intro k hk e; omega)
  have N4 := (N2.trans n23).before t3 (by intro i hi e; omega)
  clear cP bL al2 hn3 hs3 s0 s4
  have cP := bP3.cells
  have fP := bP3.frees
  go_upto_region 3 with fail
  generalize w3.setCell ⟨w.heap.size, 3, none⟩ (.slice a3 ys.length c3) = w4 at *
  clear cP fP bP3 bR3 t3 ho3 o13 o2
  have cP := bP4.cells
  have cR := bR4.cells
  have fR := bR4.frees
  go_wp2
  refine bodyPost_ret (v := .agg #[.int .i64 E, .slice a1 zs.length c1, .int .i64 T, .slice a3 ys.length c3]) (by simp [results, Tryz.results120, go_sem, cR]) rfl ?_
  have s0 := SZ0.out
  have s4 := S1.out
  refine ⟨a1, a3, c1, c3, rfl, ?_, ?_, HA.out, ?_⟩
  · exact (ov_turn (S := fun i => i = w.heap.size + 1) o14 (Turn.set (S := fun i => i = w.heap.size + 1) (Turn.set (S := fun i => i = w.heap.size + 1) (Turn.set (S := fun i => i = w.heap.size + 1) (Turn.set (S := fun i => i = w.heap.size + 1) (Turn.refl _ _) rfl _) rfl _) rfl _) rfl _) (by intro k hk e; omega)).low (by omega)
  · exact (ov_turn (S := fun i => i = w.heap.size + 1) o34 (Turn.set (S := fun i => i = w.heap.size + 1) (Turn.set (S := fun i => i = w.heap.size + 1) (Turn.set (S := fun i => i = w.heap.size + 1) (Turn.set (S := fun i => i = w.heap.size + 1) (Turn.refl _ _) rfl _) rfl _) rfl _) rfl _) (by intro k hk e; omega)).low (by omega)
  · exact N4.before (S := fun i => i = w.heap.size + 1) (Turn.set (S := fun i => i = w.heap.size + 1) (Turn.set (S := fun i => i = w.heap.size + 1) (Turn.set (S := fun i => i = w.heap.size + 1) (Turn.set (S := fun i => i = w.heap.size + 1) (Turn.refl _ _) rfl _) rfl _) rfl _) rfl _) (by intro i hi e; omega)

theorem l11C (E T : Int) (a b : Option Addr) (c d : Nat) (zs ys : List Int) (w : World) (ha : BsAt w a zs) (hb : BsAt w b ys) (hna : a = none → zs.length = 0 ∧ c = 0) (hnb : b = none → ys.length = 0 ∧ d = 0) (hn1 : zs.length ≤ 1048576) (hm1 : ys.length ≤ 1048576) :
    Calls Tryz.prog 107 #[.agg #[.int .i64 E, .slice a zs.length c, .int .i64 T, .slice b ys.length d]] w fun e w' => WAns w E T zs ys e w' := by
  obtain ⟨i0, hi, hz0, hz1, hz2⟩ := info_parts Tryz.infoU8
  have hz := ha.lt
  have hy := hb.lt
  have hw := ((New.refl w).alloc (.cells #[.int .i64 E, .slice a zs.length c, .int .i64 T, .slice b ys.length d] 132)).alloc (.cells #[.int .i64 0, .slice none 0 0, .int .i64 0, .slice none 0 0] 132)
  have bP := (Blk.mk w w.heap.size 132 #[.int .i64 E, .slice a zs.length c, .int .i64 T, .slice b ys.length d] rfl).alloc (.cells #[.int .i64 0, .slice none 0 0, .int .i64 0, .slice none 0 0] 132)
  have bR := Blk.mk (w.alloc (.cells #[.int .i64 E, .slice a zs.length c, .int .i64 T, .slice b ys.length d] 132)) (w.heap.size + 1) 132 #[.int .i64 0, .slice none 0 0, .int .i64 0, .slice none 0 0] (by simp)
  have HNA : Hid (a = none → zs.length = 0 ∧ c = 0) := hna
  have HNB : Hid (b = none → ys.length = 0 ∧ d = 0) := hnb
  clear hna hnb
  go_enter Tryz.func107, Tryz.ntmps107
  go_upto_region 1 with fail
  have SZ0 : Hid (((w.alloc (.cells #[.int .i64 E, .slice a zs.length c, .int .i64 T, .slice b ys.length d] 132)).alloc (.cells #[.int .i64 0, .slice none 0 0, .int .i64 0, .slice none 0 0] 132)).heap.size = w.heap.size + 1 + 1) := by unfold Hid; simp
  generalize (w.alloc (.cells #[.int .i64 E, .slice a zs.length c, .int .i64 T, .slice b ys.length d] 132)).alloc (.cells #[.int .i64 0, .slice none 0 0, .int .i64 0, .slice none 0 0] 132) = w0 at *
  have al1 := (New.refl w0).alloc (.cells #[] 5)
  have cP := bP.cells
  have hlt0 : w.heap.size < w0.heap.size := bP.lt
  go_wp2_with (at_builtin; refine wpList_apB _ rfl (.tmp 3) (.tmp 5) rfl w0.heap.size Tryz.underlying33 hi hz0 hz1 hz2 _ [] rfl (lit_ovW w0) a zs.length c zs rfl (ha.new (hw.trans al1)) rfl HNA.out (by simp; omega) al1.size ?_)
  intro v1 w1 ho1 hg1
  replace ho1 : OvB w1 w0.heap.size v1 zs := by unfold OvB; simpa using ho1
  have n01 : New w0 w1 := al1.grow hg1 (fun k hk => (lit_ovW w0).blk k hk)
  obtain ⟨a1, c1, rfl, -, -, hs1, -⟩ := ho1.bs hz
  have bP1 := bP.new n01
  have bR1 := bR.new n01
  have s0 := SZ0.out
  have s1 := n01.size
  have bP2 : Blk (w1.setCell ⟨w.heap.size, 1, none⟩ (.slice a1 zs.length c1)) w.heap.size 132 #[.int .i64 E, .slice a1 zs.length c1, .int .i64 T, .slice b ys.length d] := bP1.set 1 _
  have t1 : Turn (fun i => i = w.heap.size) w1 (w1.setCell ⟨w.heap.size, 1, none⟩ (.slice a1 zs.length c1)) := Turn.set (S := fun i => i = w.heap.size) (Turn.refl _ _) rfl _
  have bR2 := bR1.turn t1 (by omega)
  have o2 := ov_turn ho1 t1 (by intro k hk e; omega)
  have N2 := (hw.trans n01).before t1 (by intro i hi e; omega)
  have s2 := t1.size
  have HS1 : Hid ((a1 = none ∧ zs.length = 0 ∧ c1 = 0) ∨ ∃ g, a1 = some ⟨g, 0, none⟩ ∧ g < (w1.setCell ⟨w.heap.size, 1, none⟩ (.slice a1 zs.length c1)).heap.size) := by
    unfold Hid
    rcases hs1 with h | ⟨g, h, _, h2⟩
    · exact .inl h
    · exact .inr ⟨g, h, Nat.lt_of_lt_of_le h2 s2⟩
  have S1 : Hid (w0.heap.size ≤ (w1.setCell ⟨w.heap.size, 1, none⟩ (.slice a1 zs.length c1)).heap.size) := Nat.le_trans s1 s2
  clear cP hs1 al1 s0 hg1 hlt0
  have cP := bP1.cells
  have fP := bP1.frees
  go_upto_region 2 with fail
  generalize w1.setCell ⟨w.heap.size, 1, none⟩ (.slice a1 zs.length c1) = w2 at *
  clear cP fP bP1 bR1 t1 ho1 s1 s2 n01
  have al2 := (New.refl w2).alloc (.cells #[] 5)
  have cP := bP2.cells
  have hlt2 : w.heap.size < w2.heap.size := bP2.lt
  go_wp2_with (at_builtin; refine wpList_apB _ rfl (.tmp 8) (.tmp 10) rfl w2.heap.size Tryz.underlying33 hi hz0 hz1 hz2 _ [] rfl (lit_ovW w2) b ys.length d ys rfl (hb.new (N2.trans al2)) rfl HNB.out (by simp; omega) al2.size ?_)
  intro v3 w3 ho3 hg3
  replace ho3 : OvB w3 w2.heap.size v3 ys := by unfold OvB; simpa using ho3
  have n23 : New w2 w3 := al2.grow hg3 (fun k hk => (lit_ovW w2).blk k hk)
  obtain ⟨a3, c3, rfl, -, -, hs3, -⟩ := ho3.bs hy
  have bP3 := bP2.new n23
  have bR3 := bR2.new n23
  have o13 := o2.new n23
  have HA : Hid (∀ x y, a1 = some x → a3 = some y → x.block ≠ y.block) := apart_of (w2 := w3) HS1.out (by rcases hs3 with h | ⟨g, h, h1, _⟩; exact .inl h; exact .inr ⟨g, h, h1⟩)
  have bP4 : Blk (w3.setCell ⟨w.heap.size, 3, none⟩ (.slice a3 ys.length c3)) w.heap.size 132 #[.int .i64 E, .slice a1 zs.length c1, .int .i64 T, .slice a3 ys.length c3] := bP3.set 3 _
  have t3 : Turn (fun i => i = w.heap.size) w3 (w3.setCell ⟨w.heap.size, 3, none⟩ (.slice a3 ys.length c3)) := Turn.set (S := fun i => i = w.heap.size) (Turn.refl _ _) rfl _
  have s0 := SZ0.out
  have s4 := S1.out
  have bR4 := bR3.turn t3 (by omega)
  have o14 := ov_turn o13 t3 (by intro k hk e; omega)
  have o34 := ov_turn ho3 t3 (by intro k hk e; omega)
  have N4 := (N2.trans n23).before t3 (by intro i hi e; omega)
  clear cP al2 hs3 s0 s4 hg3 hlt2
  have cP := bP3.cells
  have fP := bP3.frees
  go_upto_region 3 with fail
  generalize w3.setCell ⟨w.heap.size, 3, none⟩ (.slice a3 ys.length c3) = w4 at *
  clear cP fP bP3 bR3 t3 ho3 o13 o2
  have cP := bP4.cells
  have cR := bR4.cells
  have fR := bR4.frees
  go_wp2
  refine bodyPost_ret (v := .agg #[.int .i64 E, .slice a1 zs.length c1, .int .i64 T, .slice a3 ys.length c3]) (by simp [results, Tryz.results107, go_sem, cR]) rfl ?_
  have s0 := SZ0.out
  have s4 := S1.out
  refine ⟨a1, a3, c1, c3, rfl, ?_, ?_, HA.out, ?_⟩
  · exact (ov_turn (S := fun i => i = w.heap.size + 1) o14 (Turn.set (S := fun i => i = w.heap.size + 1) (Turn.set (S := fun i => i = w.heap.size + 1) (Turn.set (S := fun i => i = w.heap.size + 1) (Turn.set (S := fun i => i = w.heap.size + 1) (Turn.refl _ _) rfl _) rfl _) rfl _) rfl _) (by intro k hk e; omega)).low (by omega)
  · exact (ov_turn (S := fun i => i = w.heap.size + 1) o34 (Turn.set (S := fun i => i = w.heap.size + 1) (Turn.set (S := fun i => i = w.heap.size + 1) (Turn.set (S := fun i => i = w.heap.size + 1) (Turn.set (S := fun i => i = w.heap.size + 1) (Turn.refl _ _) rfl _) rfl _) rfl _) rfl _) (by intro k hk e; omega)).low (by omega)
  · exact N4.before (S := fun i => i = w.heap.size + 1) (Turn.set (S := fun i => i = w.heap.size + 1) (Turn.set (S := fun i => i = w.heap.size + 1) (Turn.set (S := fun i => i = w.heap.size + 1) (Turn.set (S := fun i => i = w.heap.size + 1) (Turn.refl _ _) rfl _) rfl _) rfl _) rfl _) (by intro i hi e; omega)

end Go.Proofs.YtdbnmkffinhdjaaGreat

namespace Go.Proofs.YtdbnmkffinhdjaaGreat
open Go.RowKit
set_option maxHeartbeats 25600000

theorem Turn.rowW {a w : World} {B : Nat} {S : Nat → Prop} (h : Turn S a w) (hS : S B) (cs : Array Value) : Turn S a (w.setRow B cs) :=
  ⟨h.os, h.tape, h.output, by simpa [World.setRow] using h.size, fun k hk hs => (setRow_other w B k cs (fun e => hs (e ▸ hS))).trans (h.block k hk hs)⟩
theorem Blk.rowW {w : World} {B : Nat} {t : TypeId} {old : Array Value} (h : Blk w B t old) (cs : Array Value) : Blk (w.setRow B cs) B t cs := setRow_heap w B old cs t (0, 0) h
theorem Turn.drewW {S : Nat → Prop} {a w : World} (h : Turn S a w) : Turn S a w.drew := ⟨h.os, h.tape, h.output, h.size, h.block⟩

/-- A struct that lies in a block is loaded, whole. -/
theorem run_load_blk {P : Program} {op : Oper} {a : Act} {w : World} (ty : TypeId) (x : Operand) (ho : op.op = .load ty x) (B : Nat) (hx : a.eval x = .pointer (some ⟨B, 0, none⟩)) (cs : Array Value) (d : TypeDesc) (hb : Blk w B ty cs)
    (hu : P.underlying ty = some d) (hd : (match d with | .struct _ | .array _ _ => true | _ => false) = true) (hi : (P.info? ty).map (·.size) = some cs.size) : (execOp a.eval op).run P w = .ok (.value (.agg cs)) w := by
  unfold execOp
  simp only [ho, hx, Instr.loadAt, Instr.sureAddr, Sem.run_bind, Sem.run_pure, Result.andThen_ok, run_loadVar_row w B ty ty cs (0, 0) d hb hu hd hi]

section
variable {P : Program} {ops : Array Oper} {Q : Exit → Act → World → Prop} {md : Region.Mode} {S : World → Prop}
/-- The beginning of a walk by hand through a region that draws its order. -/
theorem hw_start {id n : Nat} {a : Act} {w : World} (hn : ops.size = n) (hm : P.follows .mixedOrders = true) (hS : S w.drew) (h : S w.drew → wpAnyH P .any ops Q S n (Array.replicate n false) a w.drew) : (Code.region id ops true).wp P Q a w := by
  subst hn
  exact wp_region_held_drew hm hS h
/-- An operation that only yields is taken first. -/
theorem hw_take {fuel : Nat} {listed : Array Bool} {a : Act} {w : World} (i : Nat) (d : Option Tmp) (v : Value) {oi : Oper} (hi : ops[i]? = some oi) (hd : oi.dst = d)
    (hs : Region.noSelect ops = true) (hf : Region.free md ops listed i = true) (hr : (Region.ready md ops listed).contains i = true)
    (hQ : ∀ c a w, Q (.panic c) (a.put d v) w → Q (.panic c) a w) (hw : Region.wanted oi (yielded ops a.tmps) = true) (hS : S w) (hy : ∀ w, S w → (execOp a.eval oi).run P w = .ok (.value v) w)
    (h : wpAnyH P md ops Q S fuel (listed.setIfInBounds i true) (a.put d v) w) : wpAnyH P md ops Q S (fuel + 1) listed a w := by
  subst hd
  exact wpAnyH_take hi hs hf hr hQ (.inl ⟨hw, hy⟩) hS h
/-- As hw_take, with what is always shown alike shown by itself. -/
theorem hw_t {fuel : Nat} {listed : Array Bool} {a : Act} {w : World} (i : Nat) (d : Option Tmp) (v : Value) {oi : Oper} (hi : ops[i]? = some oi) (hd : oi.dst = d) (hS : S w) (hy : ∀ w, S w → (execOp a.eval oi).run P w = .ok (.value v) w)
    (h : wpAnyH P md ops Q S fuel (listed.setIfInBounds i true) (a.put d v) w) (hs : Region.noSelect ops = true := by kernel_rfl) (hf : Region.free md ops listed i = true := by kernel_rfl) (hr : (Region.ready md ops listed).contains i = true := by kernel_rfl)
    (hQ : ∀ c a w, Q (.panic c) (a.put d v) w → Q (.panic c) a w := by exact fun _ _ _ h => h) (hw : Region.wanted oi (yielded ops a.tmps) = true := by rfl) : wpAnyH P md ops Q S (fuel + 1) listed a w := hw_take i d v hi hd hs hf hr hQ hw hS hy h
/-- The one operation that may come up is run. -/
theorem hw_call {fuel : Nat} {listed : Array Bool} {a : Act} {w : World} (i : Nat) (d : Option Tmp) {oi : Oper} (hi : ops[i]? = some oi) (hd : oi.dst = d) (hr : Region.ready md ops listed = [i]) (hw : Region.wanted oi (yielded ops a.tmps) = true)
    (h : ∀ K' : Act → World → Prop, Shut (∀ u w', S w' → (S w' → wpAnyH P md ops Q S fuel (listed.setIfInBounds i true) (a.put d u) w') → K' (a.put d u) w') → Oper.wp P oi a w K' Q) : wpAnyH P md ops Q S (fuel + 1) listed a w := by
  subst hd
  refine wpAnyH_ready hr (by simp) ?_
  intro j hj
  obtain rfl := List.mem_singleton.1 hj
  refine wpOp_step hi (fun K' hK => ?_)
  rw [if_pos hw]
  exact h K' (fun u w' hS' hW => hK _ _ ⟨hS', hW hS'⟩)
/-- One of those that may come up is run. -/
theorem hw_step {fuel : Nat} {listed : Array Bool} {a : Act} {w : World} {rs : List Nat} (i : Nat) (d : Option Tmp) {oi : Oper} (hi : ops[i]? = some oi) (hd : oi.dst = d) (hw : Region.wanted oi (yielded ops a.tmps) = true)
    (h : ∀ K' : Act → World → Prop, Shut (∀ u w', S w' → (S w' → wpAnyH P md ops Q S fuel (listed.setIfInBounds i true) (a.put d u) w') → K' (a.put d u) w') → Oper.wp P oi a w K' Q) (hs : AllReadyH P md ops Q S fuel listed a w rs) : AllReadyH P md ops Q S fuel listed a w (i :: rs) := by
  subst hd
  intro j hj
  rcases List.mem_cons.1 hj with rfl | hj
  · refine wpOp_step hi (fun K' hK => ?_)
    rw [if_pos hw]
    exact h K' (fun u w' hS' hW => hK _ _ ⟨hS', hW hS'⟩)
  · exact hs j hj
/-- A struct is stored, whole, into a block that is known. -/
theorem hw_store {a : Act} {w : World} {K : Act → World → Prop} (ty : TypeId) (x y : Operand) {oi : Oper} (ho : oi.op = .store ty x y) (hd : oi.dst = none) (B : Nat) (cs old : Array Value) (hx : a.eval x = .pointer (some ⟨B, 0, none⟩)) (hy : a.eval y = .agg cs)
    (hb : Blk w B ty old) (hi : (P.info? ty).map (·.size) = some cs.size) (hold : old.size = cs.size) (h1 : cs.all (·.oneCell') = true) (h : K (a.put none undef) (w.setRow B cs)) : Oper.wp P oi a w K Q := by
  refine wp_store_row ty x y ho B cs hx hy ty old hb hi hold h1 ?_
  rw [hd]
  exact h
end

end Go.Proofs.YtdbnmkffinhdjaaGreat

namespace Go.Proofs.YtdbnmkffinhdjaaGreat
open Go.RowKit Go.Sort
set_option linter.unusedVariables false
set_option linter.unusedSimpArgs false
set_option maxRecDepth 100000
set_option maxHeartbeats 25600000


/-- A mail without an entry. -/
def mlv0 (k t e a : Int) : MlV := ⟨⟨k, t, e, a, 0, false, ⟨0, 0, 0, []⟩⟩, none, 0⟩
theorem SdOw.row0 {w : World} {g cs : Nat} {k t e a : Int} (h : w.ownsRow 0 120 10 (.slice (some ⟨g, 0, none⟩) 1 cs) 1 (mlv0 k t e a).cs) : SdOw w (fun i => i = g) (some ⟨g, 0, none⟩) 1 cs [mlv0 k t e a] :=
  .inr ⟨mlv0 k t e a, g, rfl, rfl, rfl, rfl, h, ⟨rfl, fun h => absurd h (Nat.lt_irrefl 0)⟩, fun z hz => (by cases hz), Nat.zero_le _, fun x hx => (by cases hx)⟩
/-- A log and a mail without an entry, of the call's own. -/
theorem NrOw.one {w : World} {b0 b1 lo hi n c g cs : Nat} {A : Option Addr} {U : List EkV} {k t e a : Int} (h : OwL w lo hi (.slice A n c) U) (h0 : b0 ≤ lo) (h1 : hi ≤ b1) (hr : w.ownsRow 0 120 10 (.slice (some ⟨g, 0, none⟩) 1 cs) 1 (mlv0 k t e a).cs) (hg : ¬ (lo ≤ g ∧ g < hi)) (hg0 : b0 ≤ g) (hg1 : g < b1) : NrOw w b0 b1 A n c U (some ⟨g, 0, none⟩) 1 cs [mlv0 k t e a] :=
  ⟨lo, hi, fun i => i = g, h, SdOw.row0 hr, fun i e => by rw [e]; exact hg, fun i e => by rw [e]; exact ⟨hg0, hg1⟩, h0, h1⟩

section
variable {P : Program} {t e : TypeId} {i : TypeInfo}
theorem wp_apV (w : World) {o : Oper} {a : Act} {K : Act → World → Prop} {Q : Exit → Act → World → Prop} (s x : Operand)
    (ho : o.op = .call { callee := .builtin .append, args := #[s, x], argTypes := #[t, t] }) (base sz by' : Nat) (zero : Value) (ht : P.underlying t = some (.slice e)) (hi : P.info? e = some i) (hz : i.zero = some zero) (hs : i.size = sz) (hb : i.bytes = by') (hz1 : zero.cells.size = sz) (hsz : 0 < sz) (hby : by' ≤ 1000)
    (v : Value) (n : Nat) (xs : List Value) (hsv : a.eval s = v) (hown : w.ownsRow base e sz v n xs)
    (L : Nat) (r : List Value) (hr : r.length = sz) (h1 : ∀ u ∈ r, u.oneCell' = true) (hxv : a.eval x = .slice (some ⟨L, 0, none⟩) 1 1) (hsrc : ∀ j u, r[j]? = some u → w.cell? ⟨L, j, none⟩ = some u) (hle : n + 1 ≤ 4194304) (hbase : base ≤ w.heap.size)
    (h : ∀ v' w', w'.ownsRow base e sz v' (n + 1) (xs ++ r) → w.grownBy w' v.ownBlock → (v'.ownBlock = v.ownBlock ∨ v'.ownBlock = some w.heap.size) → K (a.put o.dst v') w') : o.wp P a w K Q := by
  have hnews : ∀ j u, r[j]? = some u → w.cell? ((⟨L, 0, none⟩ : Addr).add j) = some u := by
    intro j u hu
    rw [Addr.add_lit, Nat.zero_add]
    exact hsrc j u hu
  have hbb : (n + 1) * by' ≤ 140737488355328 := Nat.le_trans (Nat.mul_le_mul hle hby) (by decide)
  obtain ⟨v', w', hr, h2, h3, _, h5⟩ := run_append_own_at (P := P) w base t o.type e i zero sz by' ht hi hz hs hb hz1 hsz v n xs hown ⟨L, 0, none⟩ 1 1 r (by omega) hnews h1 (by unfold maxLen; omega) hbb hbase
  unfold Oper.wp execOp
  simp only [ho, resolve, invoke, builtin, Sem.run_bind, Sem.run_pure, Result.andThen_ok, List.map_toArray, List.map_cons, List.map_nil, hsv, hxv, hr]
  exact h v' w' h2 h3 h5
end
end Go.Proofs.YtdbnmkffinhdjaaGreat
