/- What is proved here: what the model's look at the entry ahead answers, for every list of at most 1048576 bytes. -/
import Derived.Test.YtdkjgjjkjfeodaaE10Mx
import Derived.Test.YtdkjgjjkjfeodaaE10Ps
import Derived.Test.YtdkjgjjkjfeodaaS9St
import Derived.Test.YtdkjgjjkjfeodaaRwLib
import Derived.Test.YtdkjgjjkjfeodaaQB
import Derived.Deep.RegionHeld3
import Derived.Deep.CutRange
namespace Go.Proofs.Ytdkjgjjkjfeodaa
open Go.RowKit
set_option linter.unusedVariables false
set_option linter.unusedSimpArgs false
set_option maxRecDepth 100000

/-- What the model's look answers: the size, and the entry where there is one, its bytes in new memory. -/
def OneAns (zs : List Int) (w : World) (e : Ending) (w' : World) : Prop :=
  ∃ (v : Array Value), e = .returned (.tuple #[.agg v, .int .i64 (eSz zs : Int)]) ∧ New w w' ∧ (eSz zs = 0 → v = #[.int .i64 0, .int .i64 0, .int .i64 0, .slice none 0 0]) ∧
    (0 < eSz zs → ∃ g cap, v = #[.int .i64 (numAt zs 3 2), .int .i64 (zs[5]?.getD 0), .int .i64 (zs[6]?.getD 0), .slice (some ⟨g, 0, none⟩) (eSz zs - 8) cap] ∧ w.heap.size ≤ g ∧ w'.ownsRow 0 5 1 (.slice (some ⟨g, 0, none⟩) (eSz zs - 8) cap) (eSz zs - 8) (((zs.drop 8).take (eSz zs - 8)).map (Value.int .u8)))

theorem one_none {zs : List Int} {w w' : World} (h : eSz zs = 0) (hn : New w w') :
    OneAns zs w (.returned (.tuple #[.agg #[.int .i64 0, .int .i64 0, .int .i64 0, .slice none 0 0], .int .i64 0])) w' :=
  ⟨#[.int .i64 0, .int .i64 0, .int .i64 0, .slice none 0 0], by rw [h]; rfl, hn, fun _ => rfl, fun h0 => by omega⟩

theorem own_lit0 (w : World) (B : Nat) (hB : w.heap.size = B) : (w.alloc (.cells #[] 5)).ownsRow 0 5 1 (.slice (some ⟨B, 0, none⟩) 0 0) 0 (([] : List Int).map (Value.int .u8)) := by
  subst hB
  have h := World.ownsRow_lit (base := 0) (size := 1) (e := 5) w #[] 0 (Nat.zero_le _) (Nat.zero_le _) rfl
  simpa using h

theorem cut8s {W : World} {b off c m n : Nat} {zs : List Int} (h : BsAt W (some ⟨b, off, none⟩) zs) (hn : zs.length = n) (hc : n ≤ c) (hm : 3 + m ≤ n) : BsAt W (if c = 8 then some ⟨b, off, none⟩ else some ⟨b, off + 8, none⟩) ((zs.drop 8).take (3 + m - 8)) := by
  intro i z hz
  have hi : i < ((zs.drop 8).take (3 + m - 8)).length := by
    rcases Nat.lt_or_ge i ((zs.drop 8).take (3 + m - 8)).length with h | h
    · exact h
    · rw [List.getElem?_eq_none h] at hz; cases hz
  simp only [List.length_take, List.length_drop] at hi
  rw [if_neg (by omega)]
  rw [List.getElem?_take, if_pos (by omega), List.getElem?_drop] at hz
  obtain ⟨b', o', e, hcell, hb⟩ := h (8 + i) z hz
  simp only [Option.some.injEq, Addr.mk.injEq, and_true] at e
  obtain ⟨rfl, rfl⟩ := e
  exact ⟨b, off + 8, rfl, by rw [Nat.add_assoc]; exact hcell, hb⟩

set_option maxHeartbeats 3200000 in
theorem specOne (b off n c : Nat) (zs : List Int) (w : World) (h : BsAt w (some ⟨b, off, none⟩) zs) (hn : zs.length = n) (hc : n ≤ c) (hm : n ≤ 1048576) :
    Calls Try.prog 60 #[.slice (some ⟨b, off, none⟩) n c] w fun e w' => OneAns zs w e w' := by
  have bR := Blk.mk w w.heap.size 40 #[.int .i64 0, .int .i64 0, .int .i64 0, .slice none 0 0] rfl
  have hw := (New.refl w).alloc (.cells #[.int .i64 0, .int .i64 0, .int .i64 0, .slice none 0 0] 40)
  by_cases h0 : n < 8
  · go_enter Try.func60, Try.ntmps60
    go_wp2
    refine bodyPost_ret (v := .tuple #[.agg #[.int .i64 0, .int .i64 0, .int .i64 0, .slice none 0 0], .int .i64 0]) (by simp [results, Try.results60, go_sem]) rfl ?_
    exact one_none (by have h1 := eSz_le zs; by_cases h2 : 0 < eSz zs; (have := eSz_ge h2; omega); omega) hw
  · have h' := h.new hw
    obtain ⟨b0, o0, z, e0, hz, hcz, hz0, hz1⟩ := h'.at 0 (by omega)
    obtain ⟨rfl, rfl⟩ : b = b0 ∧ off = o0 := by simpa using e0
    simp only [Nat.add_zero] at hcz
    obtain ⟨m, rfl⟩ : ∃ m : Nat, z = (m : Int) := ⟨z.toNat, by omega⟩
    have hz' : Hid (zs[0]?.getD 0 = (m : Int)) := by unfold Hid; rw [hz]; rfl
    clear hz
    by_cases h5 : 3 + (m : Int) < 8
    · go_enter Try.func60, Try.ntmps60
      go_wp2
      refine bodyPost_ret (v := .tuple #[.agg #[.int .i64 0, .int .i64 0, .int .i64 0, .slice none 0 0], .int .i64 0]) (by simp [results, Try.results60, go_sem]) rfl ?_
      exact one_none (by unfold eSz; rw [hz'.out, if_neg (by omega)]) hw
    · by_cases hs : (n : Int) < 3 + (m : Int)
      · go_enter Try.func60, Try.ntmps60
        go_wp2
        refine bodyPost_ret (v := .tuple #[.agg #[.int .i64 0, .int .i64 0, .int .i64 0, .slice none 0 0], .int .i64 0]) (by simp [results, Try.results60, go_sem]) rfl ?_
        exact one_none (by unfold eSz; rw [hz'.out, if_neg (by omega)]) hw
      · obtain ⟨b5, o5, z5, e5, hq5, hc5, hl5, hu5⟩ := h'.at 5 (by omega)
        obtain ⟨rfl, rfl⟩ : b = b5 ∧ off = o5 := by simpa using e5
        obtain ⟨b6, o6, z6, e6, hq6, hc6, hl6, hu6⟩ := h'.at 6 (by omega)
        obtain ⟨rfl, rfl⟩ : b = b6 ∧ off = o6 := by simpa using e6
        obtain ⟨i0, hi, hzi0, hzi1, hzi2⟩ := info_parts Try.infoU8
        have hq := fun (W : World) (hW : BsAt W (some ⟨b, off, none⟩) zs) => cut8s (m := m) hW hn hc (by omega)
        obtain ⟨q, hQ⟩ : ∃ q, (if c = 8 then some (⟨b, off, none⟩ : Addr) else some ⟨b, off + 8, none⟩) = some q := by split <;> exact ⟨_, rfl⟩
        rw [hQ] at hq
        have hd : ((zs.drop 8).take (3 + m - 8)).length = 3 + m - 8 := by simp only [List.length_take, List.length_drop]; omega
        go_enter Try.func60, Try.ntmps60
        go_upto_region 6 with fail
        have hbl : b < (w.alloc (.cells #[.int .i64 0, .int .i64 0, .int .i64 0, .slice none 0 0] 40)).heap.size := by obtain ⟨b', o', e', hb'⟩ := h'.block_lt (by intro e; subst e; simp at hn; omega); simp only [Option.some.injEq, Addr.mk.injEq, and_true] at e'; omega
        have hlw : w.heap.size < (w.alloc (.cells #[.int .i64 0, .int .i64 0, .int .i64 0, .slice none 0 0] 40)).heap.size := by simp
        have hn5 : (5 : Int) < (n : Int) := by omega
        have hn6 : (6 : Int) < (n : Int) := by omega
        have hn8 : (8 : Int) ≤ 3 + (m : Int) := by omega
        have hmc : 3 + (m : Int) ≤ (c : Int) := by omega
        generalize (w.alloc (.cells #[.int .i64 0, .int .i64 0, .int .i64 0, .slice none 0 0] 40)) = w0 at *
        obtain ⟨Q', hQ'⟩ : ∃ Q' : Exit → Act → World → Prop, Q' = fun e a' W => match e with | .normal => ∃ (B g cap : Nat) (g6 g7 g8 g9 g10 g11 g12 g13 g14 g15 g16 g17 g18 g19 g20 g21 g22 g23 g24 g25 g26 g27 g28 g29 g30 g31 g32 g33 g34 g35 g36 g37 g38 g39 g40 : Value), a' = { tmps := List.toArray ((.slice (some ⟨b, off, none⟩) n c : Value) :: undef :: .pointer (some ⟨w.heap.size, 0, none⟩) :: .int .i64 0 :: .int .i64 (3 + (m : Int)) :: .pointer (some ⟨B, 0, none⟩) :: g6 :: g7 :: g8 :: g9 :: g10 :: g11 :: g12 :: g13 :: g14 :: g15 :: g16 :: g17 :: g18 :: g19 :: g20 :: g21 :: g22 :: g23 :: g24 :: g25 :: g26 :: g27 :: g28 :: g29 :: g30 :: g31 :: g32 :: g33 :: g34 :: g35 :: g36 :: g37 :: g38 :: g39 :: g40 :: undef :: undef :: undef :: undef :: undef :: undef :: undef :: undef :: undef :: undef :: undef :: undef :: undef :: undef :: undef :: undef :: []), defers := [] } ∧ New w0 W ∧ Blk W B 40 #[.int .i64 (numAt zs 3 2), .int .i64 z5, .int .i64 z6, .slice (some ⟨g, 0, none⟩) (3 + m - 8) cap] ∧ w0.heap.size ≤ B ∧ w0.heap.size ≤ g ∧ W.ownsRow 0 5 1 (.slice (some ⟨g, 0, none⟩) (3 + m - 8) cap) (3 + m - 8) (((zs.drop 8).take (3 + m - 8)).map (Value.int .u8)) | _ => False := ⟨_, rfl⟩
        have hwz5 : IntKind.i64.wrap z5 = z5 := by simp [IntKind.wrap, IntKind.signed, IntKind.bits]; omega
        have hwz6 : IntKind.i64.wrap z6 = z6 := by simp [IntKind.wrap, IntKind.signed, IntKind.bits]; omega
        have htn : (3 + (m : Int)).toNat = 3 + m := by omega
        have KS : ∀ X, New w0 X → X.cell? ⟨b, off + 5, none⟩ = some (.int .u8 z5) ∧ X.cell? ⟨b, off + 6, none⟩ = some (.int .u8 z6) := fun X hX => ⟨(hX.cells _ _ hbl).trans hc5, (hX.cells _ _ hbl).trans hc6⟩
        refine Code.wp_mono (Q := Q') ?hq ?h
        case h =>
          go_region_held3 (fun X => X.cell? ⟨b, off + 5, none⟩ = some (.int .u8 z5) ∧ X.cell? ⟨b, off + 6, none⟩ = some (.int .u8 z6)) (first | (refine KS _ ?_; repeat (first | (with_reducible exact nv1) | (with_reducible exact New.refl _) | (with_reducible refine New.alloc ?_ _) | (with_reducible refine New.drew ?_) | (with_reducible refine New.setCell ?_ ?_ _; rotate_left; (first | exact Nat.le_refl _ | exact Nat.le_succ _ | (simp; done) | (simp; omega))))))
            (first
            | (refine step_ap2 _ rfl (.tmp 34) (.tmp 37) rfl 0 Try.underlying22 hi hzi0 hzi1 hzi2 _ 0 0 [] rfl (by first | exact (own_lit0 w0 _ rfl).drew | exact own_new (own_lit0 w0 _ rfl) (((New.refl _).alloc _).drew) | exact (own_lit0 (w0.alloc (.cells #[.int .i64 0, .int .i64 0, .int .i64 0, .slice none 0 0] 40)) (w0.heap.size + 1) (by simp)).drew) q (3 + m - 8) (c - 8) ((zs.drop 8).take (3 + m - 8)) (by first | rfl | exact congrArg (fun x => Value.slice x (3 + m - 8) (c - 8)) hQ) (hq _ (h'.new (by repeat (first | (with_reducible exact New.refl _) | refine New.alloc ?_ _ | refine New.drew ?_)))) hd (by omega) (Nat.zero_le _) _ rfl ?_; intro f1 l1 v1 S1 gr1 at1; have nv1 : New w0 v1 := New.grow (by repeat (first | (with_reducible exact New.refl _) | refine New.alloc ?_ _ | refine New.drew ?_)) gr1 (by intro k hk; obtain rfl := Option.some.inj hk; simp); (first | (have bZ : Blk v1 (w0.heap.size + 1) 40 #[.int .i64 0, .int .i64 0, .int .i64 0, .slice none 0 0] := ((Blk.mk (w0.alloc (.cells #[] 5)) (w0.heap.size + 1) 40 #[.int .i64 0, .int .i64 0, .int .i64 0, .slice none 0 0] (by simp)).new ((New.refl _).drew)).grow gr1 (by simp); have cZ := bZ.cells; have fZ := bZ.frees) | (have bZ : Blk v1 w0.heap.size 40 #[.int .i64 0, .int .i64 0, .int .i64 0, .slice none 0 0] := (((Blk.mk w0 w0.heap.size 40 #[.int .i64 0, .int .i64 0, .int .i64 0, .slice none 0 0] rfl).alloc (.cells #[] 5)).new ((New.refl _).drew)).grow gr1 (by simp); have cZ := bZ.cells; have fZ := bZ.frees) | skip); have hf1 : w0.heap.size ≤ f1 := (by rcases at1 with h | h; (rw [← h]; simp); (rw [h]; simp; try omega)))
            | (go_at_call 72; refine (take_any (some ⟨b, off, none⟩) n c 3 2 zs _ ?_ hn hm (by omega) (by omega)).mono ?_; exact h'.new (by repeat (first | (with_reducible exact nv1) | (with_reducible exact New.refl _) | refine New.alloc ?_ _ | refine New.drew ?_)); rintro e u1 ⟨rfl, hu1⟩; obtain rfl := hu1.symm))
          all_goals
            have S2 : v1.ownsRow 0 5 1 (.slice (some ⟨f1, 0, none⟩) (3 + m - 8) l1) (3 + m - 8) (((zs.drop 8).take (3 + m - 8)).map (Value.int .u8)) := by simpa using S1
            first
            | (with_reducible show Q' Exit.normal _ (v1.alloc _)
               rw [hQ']
               exact ⟨v1.heap.size, f1, l1, _, _, _, _, _, _, _, _, _, _, _, _, _, _, _, _, _, _, _, _, _, _, _, _, _, _, _, _, _, _, _, _, _, _, _, rfl, nv1.alloc _, Blk.mk v1 v1.heap.size 40 #[.int .i64 (numAt zs 3 2), .int .i64 z5, .int .i64 z6, .slice (some ⟨f1, 0, none⟩) (3 + m - 8) l1] rfl, nv1.size, hf1, own_new S2 ((New.refl v1).alloc _)⟩)
            | (with_reducible show Q' Exit.normal _ ((((v1.setCell ⟨w0.heap.size + 1, 0, none⟩ (.int .i64 (numAt zs 3 2))).setCell ⟨w0.heap.size + 1, 1, none⟩ (.int .i64 z5)).setCell ⟨w0.heap.size + 1, 2, none⟩ (.int .i64 z6)).setCell ⟨w0.heap.size + 1, 3, none⟩ (.slice (some ⟨f1, 0, none⟩) (3 + m - 8) l1))
               have t1 : Turn (fun i => i = w0.heap.size + 1) v1 ((((v1.setCell ⟨w0.heap.size + 1, 0, none⟩ (.int .i64 (numAt zs 3 2))).setCell ⟨w0.heap.size + 1, 1, none⟩ (.int .i64 z5)).setCell ⟨w0.heap.size + 1, 2, none⟩ (.int .i64 z6)).setCell ⟨w0.heap.size + 1, 3, none⟩ (.slice (some ⟨f1, 0, none⟩) (3 + m - 8) l1)) := Turn.set (S := fun i => i = w0.heap.size + 1) (Turn.set (S := fun i => i = w0.heap.size + 1) (Turn.set (S := fun i => i = w0.heap.size + 1) (Turn.set (S := fun i => i = w0.heap.size + 1) (Turn.refl _ _) rfl _) rfl _) rfl _) rfl _
               have b61 : Blk (v1.setCell ⟨w0.heap.size + 1, 0, none⟩ (.int .i64 (numAt zs 3 2))) (w0.heap.size + 1) 40 #[.int .i64 (numAt zs 3 2), .int .i64 0, .int .i64 0, .slice none 0 0] := bZ.set 0 _
               have b62 : Blk _ (w0.heap.size + 1) 40 #[.int .i64 (numAt zs 3 2), .int .i64 z5, .int .i64 0, .slice none 0 0] := b61.set 1 (.int .i64 z5)
               have b63 : Blk _ (w0.heap.size + 1) 40 #[.int .i64 (numAt zs 3 2), .int .i64 z5, .int .i64 z6, .slice none 0 0] := b62.set 2 (.int .i64 z6)
               have b64 : Blk _ (w0.heap.size + 1) 40 #[.int .i64 (numAt zs 3 2), .int .i64 z5, .int .i64 z6, .slice (some ⟨f1, 0, none⟩) (3 + m - 8) l1] := b63.set 3 (.slice (some ⟨f1, 0, none⟩) (3 + m - 8) l1)
               have ne := bZ.ne_own S2 (by decide)
               rw [hQ']
               exact ⟨w0.heap.size + 1, f1, l1, _, _, _, _, _, _, _, _, _, _, _, _, _, _, _, _, _, _, _, _, _, _, _, _, _, _, _, _, _, _, _, _, _, _, _, rfl, nv1.before t1 (by intro i hi h; omega), b64, by omega, hf1, own_turn S2 t1 (fun e => ne e.symm)⟩)
            | (with_reducible show Q' Exit.normal _ ((((v1.setCell ⟨w0.heap.size, 0, none⟩ (.int .i64 (numAt zs 3 2))).setCell ⟨w0.heap.size, 1, none⟩ (.int .i64 z5)).setCell ⟨w0.heap.size, 2, none⟩ (.int .i64 z6)).setCell ⟨w0.heap.size, 3, none⟩ (.slice (some ⟨f1, 0, none⟩) (3 + m - 8) l1))
               have t1 : Turn (fun i => i = w0.heap.size) v1 ((((v1.setCell ⟨w0.heap.size, 0, none⟩ (.int .i64 (numAt zs 3 2))).setCell ⟨w0.heap.size, 1, none⟩ (.int .i64 z5)).setCell ⟨w0.heap.size, 2, none⟩ (.int .i64 z6)).setCell ⟨w0.heap.size, 3, none⟩ (.slice (some ⟨f1, 0, none⟩) (3 + m - 8) l1)) := Turn.set (S := fun i => i = w0.heap.size) (Turn.set (S := fun i => i = w0.heap.size) (Turn.set (S := fun i => i = w0.heap.size) (Turn.set (S := fun i => i = w0.heap.size) (Turn.refl _ _) rfl _) rfl _) rfl _) rfl _
               have b61 : Blk (v1.setCell ⟨w0.heap.size, 0, none⟩ (.int .i64 (numAt zs 3 2))) (w0.heap.size) 40 #[.int .i64 (numAt zs 3 2), .int .i64 0, .int .i64 0, .slice none 0 0] := bZ.set 0 _
               have b62 : Blk _ (w0.heap.size) 40 #[.int .i64 (numAt zs 3 2), .int .i64 z5, .int .i64 0, .slice none 0 0] := b61.set 1 (.int .i64 z5)
               have b63 : Blk _ (w0.heap.size) 40 #[.int .i64 (numAt zs 3 2), .int .i64 z5, .int .i64 z6, .slice none 0 0] := b62.set 2 (.int .i64 z6)
               have b64 : Blk _ (w0.heap.size) 40 #[.int .i64 (numAt zs 3 2), .int .i64 z5, .int .i64 z6, .slice (some ⟨f1, 0, none⟩) (3 + m - 8) l1] := b63.set 3 (.slice (some ⟨f1, 0, none⟩) (3 + m - 8) l1)
               have ne := bZ.ne_own S2 (by decide)
               rw [hQ']
               exact ⟨w0.heap.size, f1, l1, _, _, _, _, _, _, _, _, _, _, _, _, _, _, _, _, _, _, _, _, _, _, _, _, _, _, _, _, _, _, _, _, _, _, _, rfl, nv1.before t1 (by intro i hi h; omega), b64, by omega, hf1, own_turn S2 t1 (fun e => ne e.symm)⟩)
        case hq =>
          rintro e a' W hq1
          rw [hQ'] at hq1
          cases e with
          | normal =>
            obtain ⟨B, g, cap, g6, g7, g8, g9, g10, g11, g12, g13, g14, g15, g16, g17, g18, g19, g20, g21, g22, g23, g24, g25, g26, g27, g28, g29, g30, g31, g32, g33, g34, g35, g36, g37, g38, g39, g40, rfl, nW0, b6, hB, hg, hO⟩ := hq1
            have nW := hw.trans nW0
            have hbd := (h.new nW)
            have HZ := h.lt
            have hdb : ∀ z ∈ (zs.drop 8).take (3 + m - 8), 0 ≤ z ∧ z ≤ 255 := fun z hz => HZ z (List.mem_of_mem_drop (List.mem_of_mem_take hz))
            have bD := BsAt.of_own hO hdb
            have BT := hbd.take (3 + m)
            have bR2 := bR.new nW0
            have hv5 : Hid (zs[5]?.getD 0 = z5) := by unfold Hid; rw [hq5]; rfl
            have hv6 : Hid (zs[6]?.getD 0 = z6) := by unfold Hid; rw [hq6]; rfl
            have HL : Hid (8 ≤ 3 + m ∧ 3 + m ≤ zs.length) := ⟨by omega, by omega⟩
            have HD : Hid ((zs.take (3 + m)).length = 3 + m) := by unfold Hid; simp only [List.length_take]; omega
            have HO : Hid (W.ownsRow 0 5 1 (.slice (some ⟨g, 0, none⟩) (3 + m - 8) cap) (3 + m - 8) (((zs.drop 8).take (3 + m - 8)).map (Value.int .u8))) := hO
            have HN : Hid (3 + m - 8 ≤ 1048576) := by unfold Hid; omega
            have hlW := nW0.size
            have hC0 : (0 : Int) ≤ 3 + (m : Int) := by omega
            have hgw : w.heap.size ≤ g := by omega
            clear KS hQ' hq hq5 hq6 hcz hc5 hc6 h' hwz5 hwz6 hQ hO hw nW0 hbl hlw hbd HZ hB hg hn5 hn6 hn8
            go_upto_region 7 with fail
            generalize hdd : (zs.drop 8).take (3 + m - 8) = dd at *
            by_cases hf : enF (numAt zs 3 2) z5 z6 (3 + m - 8) = 0
            · have HF : Hid (enF (numAt zs 3 2) z5 z6 (3 + m - 8) = 0) := hf
              clear hf
              obtain ⟨he1, he2, hk1, hk4, hp0, hp2, hn60⟩ := enF_zero HF.out
              have hPb := enP_bd (ep := numAt zs 3 2) (k := z5) (p := z6) hdb ⟨he1, he2⟩ ⟨hk1, hk4⟩ ⟨hp0, hp2⟩ (by rw [hd]; exact hn60)
              have hPl : (enP (numAt zs 3 2) z5 z6 dd).length = 8 + (3 + m - 8) := by rw [enP_len, hd]
              have rT : ∀ X, New W X → (convert 22 9 (.slice (some ⟨b, off, none⟩) (3 + m) c)).run Try.prog X = .ok (.string (str9 (zs.take (3 + m)))) X := fun X hX => run_str9 _ _ _ _ X (BT.new hX) HD.out (by intro h; cases h)
              clear he1 he2 hk1 hk4 hp0 hp2 hn60
              by_cases he : enP (numAt zs 3 2) z5 z6 dd = zs.take (3 + m)
              · have HE : Hid (enP (numAt zs 3 2) z5 z6 dd = zs.take (3 + m)) := he
                have hst := str_ne_self (str9 (zs.take (3 + m)))
                rw [he] at hPb hPl
                clear he
                refine hw_start (n := 13) (S := fun X => New W X) rfl (by kernel_rfl) ((New.refl _).drew) (fun hH => ?_)
                refine' hw_take 0 (some 41) _ rfl rfl (by kernel_rfl) (by kernel_rfl) (by kernel_rfl) (fun _ _ _ h => h) (by rfl) hH ?hy1 ?rest1
                case hy1 =>
                  intro X hX
                  have c6 := (b6.new hX).cells
                  have rTX := rT X hX
                  go_simp
                  try rfl
                simp only [Act.put, List.setIfInBounds_toArray, List.set_cons_zero, List.set_cons_succ]
                refine hw_call 1 (some 42) rfl rfl (by kernel_rfl) (by rfl) (fun K hK => ?_)
                go_simp
                refine (specEN (numAt zs 3 2) z5 z6 (some ⟨g, 0, none⟩) (3 + m - 8) cap _ HN.out).mono ?_
                rintro e w4 ⟨rfl, hn4⟩
                rw [HF.out]
                refine hK.out _ _ (hH.trans hn4) (fun hH => ?_)
                simp only [Act.put, List.setIfInBounds_toArray, List.set_cons_zero, List.set_cons_succ]
                refine' hw_take 2 (some 43) _ rfl rfl (by kernel_rfl) (by kernel_rfl) (by kernel_rfl) (fun _ _ _ h => h) (by rfl) hH ?hy2 ?rest2
                case hy2 =>
                  intro X hX
                  have c6 := (b6.new hX).cells
                  have rTX := rT X hX
                  go_simp
                  try rfl
                simp only [Act.put, List.setIfInBounds_toArray, List.set_cons_zero, List.set_cons_succ]
                refine' hw_take 3 (some 44) _ rfl rfl (by kernel_rfl) (by kernel_rfl) (by kernel_rfl) (fun _ _ _ h => h) (by rfl) hH ?hy3 ?rest3
                case hy3 =>
                  intro X hX
                  have c6 := (b6.new hX).cells
                  have rTX := rT X hX
                  go_simp
                  try rfl
                simp only [Act.put, List.setIfInBounds_toArray, List.set_cons_zero, List.set_cons_succ]
                refine' hw_take 4 (some 45) _ rfl rfl (by kernel_rfl) (by kernel_rfl) (by kernel_rfl) (fun _ _ _ h => h) (by rfl) hH ?hy4 ?rest4
                case hy4 =>
                  intro X hX
                  have c6 := (b6.new hX).cells
                  have rTX := rT X hX
                  go_simp
                  try rfl
                simp only [Act.put, List.setIfInBounds_toArray, List.set_cons_zero, List.set_cons_succ]
                refine' hw_take 7 (some 48) _ rfl rfl (by kernel_rfl) (by kernel_rfl) (by kernel_rfl) (fun _ _ _ h => h) (by rfl) hH ?hy5 ?rest5
                case hy5 =>
                  intro X hX
                  have c6 := (b6.new hX).cells
                  have rTX := rT X hX
                  go_simp
                  try rfl
                simp only [Act.put, List.setIfInBounds_toArray, List.set_cons_zero, List.set_cons_succ]
                refine' hw_take 8 (some 49) _ rfl rfl (by kernel_rfl) (by kernel_rfl) (by kernel_rfl) (fun _ _ _ h => h) (by rfl) hH ?hy6 ?rest6
                case hy6 =>
                  intro X hX
                  have c6 := (b6.new hX).cells
                  have rTX := rT X hX
                  go_simp
                  try rfl
                simp only [Act.put, List.setIfInBounds_toArray, List.set_cons_zero, List.set_cons_succ]
                refine' hw_take 9 (some 50) _ rfl rfl (by kernel_rfl) (by kernel_rfl) (by kernel_rfl) (fun _ _ _ h => h) (by rfl) hH ?hy7 ?rest7
                case hy7 =>
                  intro X hX
                  have c6 := (b6.new hX).cells
                  have rTX := rT X hX
                  go_simp
                  try rfl
                simp only [Act.put, List.setIfInBounds_toArray, List.set_cons_zero, List.set_cons_succ]
                refine' hw_take 10 (some 51) _ rfl rfl (by kernel_rfl) (by kernel_rfl) (by kernel_rfl) (fun _ _ _ h => h) (by rfl) hH ?hy8 ?rest8
                case hy8 =>
                  intro X hX
                  have c6 := (b6.new hX).cells
                  have rTX := rT X hX
                  go_simp
                  try rfl
                simp only [Act.put, List.setIfInBounds_toArray, List.set_cons_zero, List.set_cons_succ]
                refine hw_call 5 (some 46) rfl rfl (by kernel_rfl) (by rfl) (fun K hK => ?_)
                go_simp
                refine (l10Pack_any (numAt zs 3 2) z5 z6 (some ⟨g, 0, none⟩) (3 + m - 8) cap dd _ (bD.new hH) hd (by intro h; cases h) HF.out).mono ?_
                rintro e w5 ⟨g5, cap5, rfl, hg5, ho5, hn5⟩
                have r5 : ∀ X, New w5 X → (convert 22 9 (.slice (some ⟨g5, 0, none⟩) (8 + (3 + m - 8)) cap5)).run Try.prog X = .ok (.string (str9 (zs.take (3 + m)))) X := fun X hX => run_str9 _ _ _ _ X ((BsAt.of_own (by rw [HE.out] at ho5; exact ho5) hPb).new hX) hPl (by intro h; cases h)
                clear ho5
                refine hK.out _ _ (hH.trans hn5) (fun hH => ?_)
                refine wpAnyH_more (S' := fun X => New W X ∧ New w5 X) (fun _ h => h.1) _ _ _ _ ?_
                have hH2 : New W w5 ∧ New w5 w5 := ⟨hH, New.refl _⟩
                simp only [Act.put, List.setIfInBounds_toArray, List.set_cons_zero, List.set_cons_succ]
                refine' hw_take 6 (some 47) _ rfl rfl (by kernel_rfl) (by kernel_rfl) (by kernel_rfl) (fun _ _ _ h => h) (by rfl) hH2 ?hy9 ?rest9
                case hy9 =>
                  intro X hX
                  have c6 := (b6.new hX.1).cells
                  have rTX := rT X hX.1
                  have r5X := r5 X hX.2
                  go_simp
                  try rfl
                simp only [Act.put, List.setIfInBounds_toArray, List.set_cons_zero, List.set_cons_succ]
                refine' hw_take 11 (some 52) _ rfl rfl (by kernel_rfl) (by kernel_rfl) (by kernel_rfl) (fun _ _ _ h => h) (by rfl) hH2 ?hy10 ?rest10
                case hy10 =>
                  intro X hX
                  have c6 := (b6.new hX.1).cells
                  have rTX := rT X hX.1
                  have r5X := r5 X hX.2
                  go_simp
                  try rfl
                simp only [Act.put, List.setIfInBounds_toArray, List.set_cons_zero, List.set_cons_succ]
                refine' hw_take 12 (some 53) _ rfl rfl (by kernel_rfl) (by kernel_rfl) (by kernel_rfl) (fun _ _ _ h => h) (by rfl) hH2 ?hy11 ?rest11
                case hy11 =>
                  intro X hX
                  have c6 := (b6.new hX.1).cells
                  have rTX := rT X hX.1
                  have r5X := r5 X hX.2
                  go_simp
                  try rfl
                simp only [Act.put, List.setIfInBounds_toArray, List.set_cons_zero, List.set_cons_succ]
                refine wpAnyH_done (by kernel_rfl) ?_ _

                have bR3 := bR2.new hH
                have b63 := b6.new hH
                have cR := bR3.cells
                have fR := bR3.frees
                have c63 := b63.cells
                go_wp2
                refine bodyPost_ret (v := .tuple #[.agg #[.int .i64 (numAt zs 3 2), .int .i64 z5, .int .i64 z6, .slice (some ⟨g, 0, none⟩) (3 + m - 8) cap], .int .i64 (3 + (m : Int))]) (by simp [results, Try.results60, go_sem, cR]) rfl ?_
                have hes : eSz zs = 3 + m := eSz_yes hz'.out hv5.out hv6.out HL.out.1 HL.out.2 (by rw [hdd, if_pos HF.out]; exact HE.out)
                have nX : New W _ := hH
                refine ⟨#[.int .i64 (numAt zs 3 2), .int .i64 z5, .int .i64 z6, .slice (some ⟨g, 0, none⟩) (3 + m - 8) cap], by rw [hes]; push_cast; rfl, ?_, fun h0 => by omega, fun _ => ⟨g, cap, by rw [hes, hv5.out, hv6.out], hgw, ?_⟩⟩
                · exact ((((nW.trans nX).setCell (by simp) _).setCell (by simp) _).setCell (by simp) _).setCell (by simp) _
                · rw [hes, hdd]
                  have S := fun i => i = w.heap.size
                  exact own_turn (S := fun i => i = w.heap.size) (own_new HO.out nX) (Turn.set (S := fun i => i = w.heap.size) (Turn.set (S := fun i => i = w.heap.size) (Turn.set (S := fun i => i = w.heap.size) (Turn.set (S := fun i => i = w.heap.size) (Turn.refl _ _) rfl _) rfl _) rfl _) rfl _) (fun e => bR2.ne_own HO.out (by decide) e.symm)
              · have HE : Hid (¬ enP (numAt zs 3 2) z5 z6 dd = zs.take (3 + m)) := he
                have hst : (str9 (enP (numAt zs 3 2) z5 z6 dd) != str9 (zs.take (3 + m))) = true := str_ne_of (fun e => he (str9_inj hPb BT.lt e))
                have hst2 := str_list_of (a := str9 (enP (numAt zs 3 2) z5 z6 dd)) (b := str9 (zs.take (3 + m))) (fun e => he (str9_inj hPb BT.lt e))
                clear he
                refine hw_start (n := 13) (S := fun X => New W X) rfl (by kernel_rfl) ((New.refl _).drew) (fun hH => ?_)
                refine' hw_take 0 (some 41) _ rfl rfl (by kernel_rfl) (by kernel_rfl) (by kernel_rfl) (fun _ _ _ h => h) (by rfl) hH ?hy12 ?rest12
                case hy12 =>
                  intro X hX
                  have c6 := (b6.new hX).cells
                  have rTX := rT X hX
                  go_simp
                  try rfl
                simp only [Act.put, List.setIfInBounds_toArray, List.set_cons_zero, List.set_cons_succ]
                refine hw_call 1 (some 42) rfl rfl (by kernel_rfl) (by rfl) (fun K hK => ?_)
                go_simp
                refine (specEN (numAt zs 3 2) z5 z6 (some ⟨g, 0, none⟩) (3 + m - 8) cap _ HN.out).mono ?_
                rintro e w4 ⟨rfl, hn4⟩
                rw [HF.out]
                refine hK.out _ _ (hH.trans hn4) (fun hH => ?_)
                simp only [Act.put, List.setIfInBounds_toArray, List.set_cons_zero, List.set_cons_succ]
                refine' hw_take 2 (some 43) _ rfl rfl (by kernel_rfl) (by kernel_rfl) (by kernel_rfl) (fun _ _ _ h => h) (by rfl) hH ?hy13 ?rest13
                case hy13 =>
                  intro X hX
                  have c6 := (b6.new hX).cells
                  have rTX := rT X hX
                  go_simp
                  try rfl
                simp only [Act.put, List.setIfInBounds_toArray, List.set_cons_zero, List.set_cons_succ]
                refine' hw_take 3 (some 44) _ rfl rfl (by kernel_rfl) (by kernel_rfl) (by kernel_rfl) (fun _ _ _ h => h) (by rfl) hH ?hy14 ?rest14
                case hy14 =>
                  intro X hX
                  have c6 := (b6.new hX).cells
                  have rTX := rT X hX
                  go_simp
                  try rfl
                simp only [Act.put, List.setIfInBounds_toArray, List.set_cons_zero, List.set_cons_succ]
                refine' hw_take 4 (some 45) _ rfl rfl (by kernel_rfl) (by kernel_rfl) (by kernel_rfl) (fun _ _ _ h => h) (by rfl) hH ?hy15 ?rest15
                case hy15 =>
                  intro X hX
                  have c6 := (b6.new hX).cells
                  have rTX := rT X hX
                  go_simp
                  try rfl
                simp only [Act.put, List.setIfInBounds_toArray, List.set_cons_zero, List.set_cons_succ]
                refine' hw_take 7 (some 48) _ rfl rfl (by kernel_rfl) (by kernel_rfl) (by kernel_rfl) (fun _ _ _ h => h) (by rfl) hH ?hy16 ?rest16
                case hy16 =>
                  intro X hX
                  have c6 := (b6.new hX).cells
                  have rTX := rT X hX
                  go_simp
                  try rfl
                simp only [Act.put, List.setIfInBounds_toArray, List.set_cons_zero, List.set_cons_succ]
                refine' hw_take 8 (some 49) _ rfl rfl (by kernel_rfl) (by kernel_rfl) (by kernel_rfl) (fun _ _ _ h => h) (by rfl) hH ?hy17 ?rest17
                case hy17 =>
                  intro X hX
                  have c6 := (b6.new hX).cells
                  have rTX := rT X hX
                  go_simp
                  try rfl
                simp only [Act.put, List.setIfInBounds_toArray, List.set_cons_zero, List.set_cons_succ]
                refine' hw_take 9 (some 50) _ rfl rfl (by kernel_rfl) (by kernel_rfl) (by kernel_rfl) (fun _ _ _ h => h) (by rfl) hH ?hy18 ?rest18
                case hy18 =>
                  intro X hX
                  have c6 := (b6.new hX).cells
                  have rTX := rT X hX
                  go_simp
                  try rfl
                simp only [Act.put, List.setIfInBounds_toArray, List.set_cons_zero, List.set_cons_succ]
                refine' hw_take 10 (some 51) _ rfl rfl (by kernel_rfl) (by kernel_rfl) (by kernel_rfl) (fun _ _ _ h => h) (by rfl) hH ?hy19 ?rest19
                case hy19 =>
                  intro X hX
                  have c6 := (b6.new hX).cells
                  have rTX := rT X hX
                  go_simp
                  try rfl
                simp only [Act.put, List.setIfInBounds_toArray, List.set_cons_zero, List.set_cons_succ]
                refine hw_call 5 (some 46) rfl rfl (by kernel_rfl) (by rfl) (fun K hK => ?_)
                go_simp
                refine (l10Pack_any (numAt zs 3 2) z5 z6 (some ⟨g, 0, none⟩) (3 + m - 8) cap dd _ (bD.new hH) hd (by intro h; cases h) HF.out).mono ?_
                rintro e w5 ⟨g5, cap5, rfl, hg5, ho5, hn5⟩
                have r5 : ∀ X, New w5 X → (convert 22 9 (.slice (some ⟨g5, 0, none⟩) (8 + (3 + m - 8)) cap5)).run Try.prog X = .ok (.string (str9 (enP (numAt zs 3 2) z5 z6 dd))) X := fun X hX => run_str9 _ _ _ _ X ((BsAt.of_own ho5 hPb).new hX) hPl (by intro h; cases h)
                clear ho5
                refine hK.out _ _ (hH.trans hn5) (fun hH => ?_)
                refine wpAnyH_more (S' := fun X => New W X ∧ New w5 X) (fun _ h => h.1) _ _ _ _ ?_
                have hH2 : New W w5 ∧ New w5 w5 := ⟨hH, New.refl _⟩
                simp only [Act.put, List.setIfInBounds_toArray, List.set_cons_zero, List.set_cons_succ]
                refine' hw_take 6 (some 47) _ rfl rfl (by kernel_rfl) (by kernel_rfl) (by kernel_rfl) (fun _ _ _ h => h) (by rfl) hH2 ?hy20 ?rest20
                case hy20 =>
                  intro X hX
                  have c6 := (b6.new hX.1).cells
                  have rTX := rT X hX.1
                  have r5X := r5 X hX.2
                  go_simp
                  try rfl
                simp only [Act.put, List.setIfInBounds_toArray, List.set_cons_zero, List.set_cons_succ]
                refine' hw_take 11 (some 52) _ rfl rfl (by kernel_rfl) (by kernel_rfl) (by kernel_rfl) (fun _ _ _ h => h) (by rfl) hH2 ?hy21 ?rest21
                case hy21 =>
                  intro X hX
                  have c6 := (b6.new hX.1).cells
                  have rTX := rT X hX.1
                  have r5X := r5 X hX.2
                  go_simp
                  try rfl
                simp only [Act.put, List.setIfInBounds_toArray, List.set_cons_zero, List.set_cons_succ]
                refine' hw_take 12 (some 53) _ rfl rfl (by kernel_rfl) (by kernel_rfl) (by kernel_rfl) (fun _ _ _ h => h) (by rfl) hH2 ?hy22 ?rest22
                case hy22 =>
                  intro X hX
                  have c6 := (b6.new hX.1).cells
                  have rTX := rT X hX.1
                  have r5X := r5 X hX.2
                  go_simp
                  try rfl
                simp only [Act.put, List.setIfInBounds_toArray, List.set_cons_zero, List.set_cons_succ]
                refine wpAnyH_done (by kernel_rfl) ?_ _

                have bR3 := bR2.new hH
                have cR := bR3.cells
                have fR := bR3.frees
                go_wp2
                refine bodyPost_ret (v := .tuple #[.agg #[.int .i64 0, .int .i64 0, .int .i64 0, .slice none 0 0], .int .i64 0]) (by simp [results, Try.results60, go_sem, cR]) rfl ?_
                refine one_none ?_ (((((nW.trans hH).setCell (by simp) _).setCell (by simp) _).setCell (by simp) _).setCell (by simp) _)
                refine eSz_no hz'.out hv5.out hv6.out ?_
                rw [if_pos HF.out, hdd]
                exact HE.out
            · have hf' : (enF (numAt zs 3 2) z5 z6 (3 + m - 8) != 0) = true := by simp [hf]
              have HF : Hid (¬ enF (numAt zs 3 2) z5 z6 (3 + m - 8) = 0) := hf
              clear hf
              have c6 := blk_regrown b6
              refine wp_region_quiet_below (by kernel_rfl) (by kernel_rfl) ?_
              repeat (go_big_quiet_step ((go_at_call 45; exact calls_regrown (specEN (numAt zs 3 2) z5 z6 (some ⟨g, 0, none⟩) (3 + m - 8) cap _ HN.out))))
              refine wpQuiet_nil ?_
              rintro w12 hn12
              replace hn12 := new_of_regrown hn12
              have bR3 := bR2.new hn12
              have cR := bR3.cells
              have fR := bR3.frees
              clear c6
              go_wp2
              refine bodyPost_ret (v := .tuple #[.agg #[.int .i64 0, .int .i64 0, .int .i64 0, .slice none 0 0], .int .i64 0]) (by simp [results, Try.results60, go_sem, cR]) rfl ?_
              refine one_none ?_ (((((nW.trans hn12).setCell (by simp) _).setCell (by simp) _).setCell (by simp) _).setCell (by simp) _)
              refine eSz_no hz'.out hv5.out hv6.out ?_
              rw [if_neg HF.out]
              intro e
              have := congrArg List.length e
              rw [HD.out] at this
              simp only [List.length_nil] at this
              omega
          | _ => exact hq1.elim

end Go.Proofs.Ytdkjgjjkjfeodaa
