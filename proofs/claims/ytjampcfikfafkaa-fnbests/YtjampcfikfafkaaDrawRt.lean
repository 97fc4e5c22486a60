/- What is proved here: what the drawing of a route answers. -/
import Derived.Test.YtjampcfikfafkaaDrawAt6
import Derived.Test.YtjampcfikfafkaaR7Cmp
import Derived.Deep.CutRange
namespace Go.Proofs.Ytjampcfikfafkaa
open Go.RowKit Go.Sort
set_option linter.unusedVariables false

theorem set8d (w : World) (B j : Nat) (v0 v1 v2 v3 v4 v5 v6 v7 : Value) : Turn (fun k => k = B) w ((((((((w.setCell ⟨B, j, none⟩ v0).setCell ⟨B, j + 1, none⟩ v1).setCell ⟨B, j + 2, none⟩ v2).setCell ⟨B, j + 3, none⟩ v3).setCell ⟨B, j + 4, none⟩ v4).setCell ⟨B, j + 5, none⟩ v5).setCell ⟨B, j + 6, none⟩ v6).setCell ⟨B, j + 7, none⟩ v7) :=
  ((((((((Turn.refl (fun k => k = B) w).set (p := ⟨B, j, none⟩) rfl v0).set (p := ⟨B, j + 1, none⟩) rfl v1).set (p := ⟨B, j + 2, none⟩) rfl v2).set (p := ⟨B, j + 3, none⟩) rfl v3).set (p := ⟨B, j + 4, none⟩) rfl v4).set (p := ⟨B, j + 5, none⟩) rfl v5).set (p := ⟨B, j + 6, none⟩) rfl v6).set (p := ⟨B, j + 7, none⟩) rfl v7

set_option maxHeartbeats 3200000 in
theorem l7DrawRoute_sc {B n c t : Nat} {a : Option Addr} {zs : List Int} {w : World} (h : Sc w B a n c zs t) (ht : t ≤ 50000) :
    Calls Try.prog 25 #[.pointer (some ⟨B, 0, none⟩)] w fun e w' => ∃ (p1 a1 l1 o1 nx1 md1 lc1 : Int) (xs : List Int) (x1 : Option Addr) (c1 t' : Nat), e = .returned (.agg #[.int .i64 p1, .int .i64 a1, .int .i64 l1, .int .i64 o1, .slice x1 xs.length c1, .int .i64 nx1, .int .i64 md1, .int .i64 lc1]) ∧ (0 ≤ p1 ∧ p1 ≤ 2) ∧ pf a1 l1 = 0 ∧ af o1 xs nx1 md1 lc1 = 0 ∧ xs.length ≤ 3 ∧ t' ≤ t + 50 ∧ OwM w' w.heap.size (.slice x1 xs.length c1) xs ∧ Sc w' B a n c zs t' ∧ Turn (fun k => k = B) w w' := by
  have hlt := h.blk.lt
  have hla := h.lt_of
  have N0 : New w (w.alloc (.cells #[.int .i64 0, .int .i64 0, .int .i64 0, .int .i64 0, .slice none 0 0, .int .i64 0, .int .i64 0, .int .i64 0] 35)) := (New.refl w).alloc _
  have bR := Blk.mk w w.heap.size 35 #[.int .i64 0, .int .i64 0, .int .i64 0, .int .i64 0, .slice none 0 0, .int .i64 0, .int .i64 0, .int .i64 0] rfl
  have z0 : w.heap.size < (w.alloc (.cells #[.int .i64 0, .int .i64 0, .int .i64 0, .int .i64 0, .slice none 0 0, .int .i64 0, .int .i64 0, .int .i64 0] 35)).heap.size := by simp
  have hs0 := h.new N0
  have hne : ¬ w.heap.size = B := by omega
  go_enter Try.func25, Try.ntmps25
  go_upto_region 1 with fail
  generalize w.alloc (.cells #[.int .i64 0, .int .i64 0, .int .i64 0, .int .i64 0, .slice none 0 0, .int .i64 0, .int .i64 0, .int .i64 0] 35) = w0 at *
  go_wp2_with fail
  refine (next_sc hs0 3 (by omega) (by omega)).mono ?_
  rintro e w1 ⟨p1, rfl, ⟨hp0, hp1, -⟩, hs1, ht1⟩
  have hp1 := hp1 (by omega)
  go_wp2_with fail
  refine (l2Prefix_sc hs1 (by omega)).mono ?_
  rintro e w2 ⟨a1, l1, t2, rfl, hpf, ht2, hs2, htr2⟩
  go_wp2_with fail
  refine (l3DrawAttrs_sc hs2 (by omega)).mono ?_
  rintro e w3 ⟨o1, nx1, md1, lc1, xs, x1, c1, t3, rfl, haf, hx3, ht3, hM3, hs3, htr3⟩
  have t03 : Turn (fun k => k = B) w0 w3 := (ht1.both htr2).both htr3
  have bR3 := bR.turn t03 hne
  have s12 := (ht1.both htr2).size
  have tw : Turn (fun k => k = B) w w3 := Turn.trans N0.turn t03 (fun _ _ e => e)
  have cR := bR3.cells
  have fR := bR3.frees
  clear bR hs0 hs1 hs2 ht1 htr2 htr3
  go_wp2
  refine bodyPost_ret (v := .agg #[.int .i64 p1, .int .i64 a1, .int .i64 l1, .int .i64 o1, .slice x1 xs.length c1, .int .i64 nx1, .int .i64 md1, .int .i64 lc1]) (by simp [results, Try.results25, go_sem, cR]) rfl ?_
  refine (fun (hT : Turn (fun k => k = w.heap.size) w3 _) => ⟨p1, a1, l1, o1, nx1, md1, lc1, xs, x1, c1, t3, rfl, ⟨hp0, by omega⟩, hpf, haf, hx3, by omega, (hM3.turn hT (fun g hg e => by omega)).low (by omega), hs3.turn hT (fun e => hne e.symm) (fun x h1 h2 e => by have := hla x h1 h2; omega), Turn.trans tw hT (fun i hi e => by omega)⟩) ?_
  exact set8d w3 w.heap.size 0 _ _ _ _ _ _ _ _

end Go.Proofs.Ytjampcfikfafkaa
