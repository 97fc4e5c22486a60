/- What is proved here: what the copying of routes answers, in the program and in the model, for paths of at most 1048576 numbers. -/
import Derived.Test.YtjampcfikfafkaaR7Own
import Derived.Deep.CutRange
namespace Go.Proofs.Ytjampcfikfafkaa
open Go.RowKit Go.Sort
set_option linter.unusedVariables false

theorem Turn.hereL7 {w wr : World} {A B j : Nat} (h : Turn (fun k => k = A ∨ k = B) w wr) (v : Value) : Turn (fun k => k = A ∨ k = B) w (wr.setCell ⟨A, j, none⟩ v) := h.set (Or.inl rfl) v
theorem Turn.hereR7 {w wr : World} {A B j : Nat} (h : Turn (fun k => k = A ∨ k = B) w wr) (v : Value) : Turn (fun k => k = A ∨ k = B) w (wr.setCell ⟨B, j, none⟩ v) := h.set (Or.inr rfl) v
theorem OvN.lit7 {w : World} {B lo : Nat} (h : Blk w B 2 #[]) (hl : lo ≤ B) : OvN w lo (.slice (some ⟨B, 0, none⟩) 0 0) [] :=
  ⟨rfl, .inr ⟨B, 0, #[], rfl, hl, h, Nat.le_refl _, by unfold maxLen; omega, rfl, rfl⟩⟩
theorem OvN.sl7 {w : World} {lo : Nat} {v : Value} {xs : List Int} {m : Nat} (h : OvN w lo v xs) (hm : xs.length = m) : ∃ a k, v = .slice a m k ∧ (a = none → m = 0 ∧ k = 0) := by
  subst hm
  rcases h.form with ⟨rfl, rfl⟩ | ⟨g, c', rfl, _, _⟩
  · exact ⟨none, 0, rfl, fun _ => ⟨rfl, rfl⟩⟩
  · exact ⟨some ⟨g, 0, none⟩, c', rfl, fun e => by cases e⟩

set_option maxHeartbeats 1600000 in
theorem l6C7_any (o nx md lo : Int) (x : Option Addr) (n c : Nat) (xs : List Int) (w : World) (h : NsAt w x xs) (hn : xs.length = n) (hm : n ≤ 1048576) (hnx : x = none → n = 0 ∧ c = 0) :
    Calls Try.prog 36 #[.agg #[.int .i64 o, .slice x n c, .int .i64 nx, .int .i64 md, .int .i64 lo]] w fun e w' => ∃ av kv, e = .returned (.agg #[.int .i64 o, .slice av n kv, .int .i64 nx, .int .i64 md, .int .i64 lo]) ∧ OvN w' w.heap.size (.slice av n kv) xs ∧ (av = none → n = 0 ∧ kv = 0) ∧ New w w' := by
  obtain ⟨i0, hi, hz0, hz1, hz2⟩ := info_parts Try.infoI64
  have N0 : New w (((w.alloc (.cells #[.int .i64 o, .slice x n c, .int .i64 nx, .int .i64 md, .int .i64 lo] 33)).alloc (.cells #[.int .i64 0, .slice none 0 0, .int .i64 0, .int .i64 0, .int .i64 0] 33)).alloc (.cells #[] 2)) := (((New.refl w).alloc _).alloc _).alloc _
  have b0 : Blk (((w.alloc (.cells #[.int .i64 o, .slice x n c, .int .i64 nx, .int .i64 md, .int .i64 lo] 33)).alloc (.cells #[.int .i64 0, .slice none 0 0, .int .i64 0, .int .i64 0, .int .i64 0] 33)).alloc (.cells #[] 2)) w.heap.size 33 #[.int .i64 o, .slice x n c, .int .i64 nx, .int .i64 md, .int .i64 lo] := ((Blk.mk _ _ _ _ rfl).alloc _).alloc _
  have b1 : Blk (((w.alloc (.cells #[.int .i64 o, .slice x n c, .int .i64 nx, .int .i64 md, .int .i64 lo] 33)).alloc (.cells #[.int .i64 0, .slice none 0 0, .int .i64 0, .int .i64 0, .int .i64 0] 33)).alloc (.cells #[] 2)) (w.heap.size + 1) 33 #[.int .i64 0, .slice none 0 0, .int .i64 0, .int .i64 0, .int .i64 0] := (Blk.mk _ _ _ _ (by simp)).alloc _
  have bL : Blk (((w.alloc (.cells #[.int .i64 o, .slice x n c, .int .i64 nx, .int .i64 md, .int .i64 lo] 33)).alloc (.cells #[.int .i64 0, .slice none 0 0, .int .i64 0, .int .i64 0, .int .i64 0] 33)).alloc (.cells #[] 2)) (w.heap.size + 1 + 1) 2 #[] := Blk.mk _ _ _ _ (by simp)
  have HN : Hid (xs.length = n) := hn
  have HX : Hid (x = none → n = 0 ∧ c = 0) := hnx
  clear hn hnx
  go_enter Try.func36, Try.ntmps36
  go_wp2_with (at_builtin; refine wpList_apN _ rfl (.tmp 3) (.tmp 5) rfl (w.heap.size + 1 + 1) Try.underlying31 hi hz0 hz1 hz2 (.slice (some ⟨w.heap.size + 1 + 1, 0, none⟩) 0 0) [] rfl (OvN.lit7 bL (Nat.le_refl _)) x n c xs rfl (h.new N0) HN.out HX.out (by simp; omega) (by simp) ?_)
  intro v2 w2 ho2 hg2
  replace ho2 : OvN w2 (w.heap.size + 1 + 1) v2 xs := by simpa [OvN] using ho2
  obtain ⟨av, kv, rfl, hnil⟩ := ho2.sl7 HN.out
  have HV : Hid (av = none → n = 0 ∧ kv = 0) := hnil
  clear hnil
  have N2 : New w w2 := N0.grow hg2 (fun k hk => by have e' : w.heap.size + 1 + 1 = k := Option.some.inj hk; omega)
  have d0 := b0.grow hg2 (fun e => by have e' : w.heap.size + 1 + 1 = w.heap.size := Option.some.inj e; omega)
  have d1 := b1.grow hg2 (fun e => by have e' : w.heap.size + 1 + 1 = w.heap.size + 1 := Option.some.inj e; omega)
  clear b0 b1 bL hg2 N0
  have c0 := d0.cells
  have f0 := d0.frees
  have c1 := d1.cells
  have f1 := d1.frees
  have ne2 : ¬ w.heap.size = w.heap.size + 1 := by omega
  have ne2' : ¬ w.heap.size + 1 = w.heap.size := by omega
  go_wp2
  refine bodyPost_ret (v := .agg #[.int .i64 o, .slice av n kv, .int .i64 nx, .int .i64 md, .int .i64 lo]) (by simp [results, Try.results36, go_sem, c1]) rfl ?_
  refine (fun (hT : Turn (fun k => k = w.heap.size ∨ k = w.heap.size + 1) w2 _) => ⟨av, kv, rfl, (ho2.turn hT (fun k hk _ e => by omega)).low (by omega), HV.out, N2.before hT (fun i hi e => by omega)⟩) ?_
  exact Turn.hereR7 (Turn.hereR7 (Turn.hereR7 (Turn.hereR7 (Turn.hereR7 (Turn.hereL7 (Turn.refl _ _) _) _) _) _) _) _

set_option maxHeartbeats 3200000 in
theorem copyRt_any (p a l o nx md lc : Int) (x : Option Addr) (n c : Nat) (xs : List Int) (w : World) (h : NsAt w x xs) (hn : xs.length = n) (hm : n ≤ 1048576) (hnx : x = none → n = 0 ∧ c = 0) :
    Calls Try.prog 31 #[.agg #[.int .i64 p, .int .i64 a, .int .i64 l, .int .i64 o, .slice x n c, .int .i64 nx, .int .i64 md, .int .i64 lc]] w fun e w' => ∃ x2 c2, e = .returned (.agg #[.int .i64 p, .int .i64 a, .int .i64 l, .int .i64 o, .slice x2 n c2, .int .i64 nx, .int .i64 md, .int .i64 lc]) ∧ OvN w' w.heap.size (.slice x2 n c2) xs ∧ New w w' := by
  have HN : Hid (xs.length = n) := hn
  have N0 : New w ((w.alloc (.cells #[.int .i64 p, .int .i64 a, .int .i64 l, .int .i64 o, .slice x n c, .int .i64 nx, .int .i64 md, .int .i64 lc] 35)).alloc (.cells #[.int .i64 0, .int .i64 0, .int .i64 0, .int .i64 0, .slice none 0 0, .int .i64 0, .int .i64 0, .int .i64 0] 35)) := ((New.refl w).alloc _).alloc _
  have b0 : Blk ((w.alloc (.cells #[.int .i64 p, .int .i64 a, .int .i64 l, .int .i64 o, .slice x n c, .int .i64 nx, .int .i64 md, .int .i64 lc] 35)).alloc (.cells #[.int .i64 0, .int .i64 0, .int .i64 0, .int .i64 0, .slice none 0 0, .int .i64 0, .int .i64 0, .int .i64 0] 35)) w.heap.size 35 #[.int .i64 p, .int .i64 a, .int .i64 l, .int .i64 o, .slice x n c, .int .i64 nx, .int .i64 md, .int .i64 lc] := (Blk.mk _ _ _ _ rfl).alloc _
  have b1 : Blk ((w.alloc (.cells #[.int .i64 p, .int .i64 a, .int .i64 l, .int .i64 o, .slice x n c, .int .i64 nx, .int .i64 md, .int .i64 lc] 35)).alloc (.cells #[.int .i64 0, .int .i64 0, .int .i64 0, .int .i64 0, .slice none 0 0, .int .i64 0, .int .i64 0, .int .i64 0] 35)) (w.heap.size + 1) 35 #[.int .i64 0, .int .i64 0, .int .i64 0, .int .i64 0, .slice none 0 0, .int .i64 0, .int .i64 0, .int .i64 0] := Blk.mk _ _ _ _ (by simp)
  have HX : Hid (x = none → n = 0 ∧ c = 0) := hnx
  clear hn hnx
  go_enter Try.func31, Try.ntmps31
  go_upto_region 1 with fail
  generalize ((w.alloc (.cells #[.int .i64 p, .int .i64 a, .int .i64 l, .int .i64 o, .slice x n c, .int .i64 nx, .int .i64 md, .int .i64 lc] 35)).alloc (.cells #[.int .i64 0, .int .i64 0, .int .i64 0, .int .i64 0, .slice none 0 0, .int .i64 0, .int .i64 0, .int .i64 0] 35)) = w0 at *
  have c0 := b0.cells
  go_wp2_with fail
  refine (pathB x none n c 0 0 xs [] _ (h.new N0) (NsAt.nil _ _) HN.out rfl HX.out (fun _ => ⟨rfl, rfl⟩) hm (by omega)).mono ?_
  rintro e w1 ⟨v, rfl, ho, h1⟩
  replace ho : OvN w1 w0.heap.size v xs := ho
  obtain ⟨x2, c2, rfl, -⟩ := ho.sl7 HN.out
  have d0 := b0.new h1
  have d1 := b1.new h1
  have N1 := N0.trans h1
  have lt0 := b0.lt
  have lt1 := b1.lt
  have c0 := d0.cells
  have f0 := d0.frees
  have c1 := d1.cells
  have f1 := d1.frees
  have ne2 : ¬ w.heap.size = w.heap.size + 1 := by omega
  have ne2' : ¬ w.heap.size + 1 = w.heap.size := by omega
  clear b0 b1 h1 N0 d0 d1
  go_wp2
  refine bodyPost_ret (v := .agg #[.int .i64 p, .int .i64 a, .int .i64 l, .int .i64 o, .slice x2 n c2, .int .i64 nx, .int .i64 md, .int .i64 lc]) (by simp [results, Try.results31, go_sem, c1]) rfl ?_
  refine (fun (hT : Turn (fun k => k = w.heap.size ∨ k = w.heap.size + 1) w1 _) => ⟨x2, c2, rfl, (ho.turn hT (fun k hk _ e => by omega)).low (by omega), N1.before hT (fun i hi e => by omega)⟩) ?_
  exact Turn.hereR7 (Turn.hereR7 (Turn.hereR7 (Turn.hereR7 (Turn.hereR7 (Turn.hereR7 (Turn.hereR7 (Turn.hereR7 (Turn.hereL7 (Turn.refl _ _) _) _) _) _) _) _) _) _) _

end Go.Proofs.Ytjampcfikfafkaa
