/- What is proved here: what the program's heap of a list of routes is, for a list that can be read. -/
import Derived.Test.YtkaaefieglhdlaaH8Of
namespace Go.Proofs.Ytkaaefieglhdlaa
open Go.RowKit Go.Sort
set_option linter.unusedVariables false
set_option linter.unusedSimpArgs false

theorem here_lt {w : World} {v : Rv} (h : v.here w) : ∀ x, v.r.xs ≠ [] → v.x = some x → x.block < w.heap.size := by
  intro x hx he
  have h1 := h.1
  obtain ⟨z, zs, hz⟩ : ∃ z zs, v.r.xs = z :: zs := by cases hv : v.r.xs with
    | nil => exact absurd hv hx
    | cons z zs => exact ⟨z, zs, rfl⟩
  obtain ⟨b, o, e, hc, -⟩ := h1 0 z (by rw [hz]; rfl)
  rw [he] at e
  obtain rfl := Option.some.inj e
  exact World.block_lt_of_cell? _ _ hc

set_option maxRecDepth 100000 in
set_option maxHeartbeats 6400000 in
theorem heapOf_any (A : Option Addr) (N c : Nat) (V : List Rv) (w : World) (h : RtAt w A V) (hn : V.length = N) (hm : N ≤ 1048576) : Calls Try.prog 28 #[.slice A N c] w fun e w' => ∃ H V', e = .returned (.pointer (some ⟨H, 0, none⟩)) ∧ HpS w' H w.heap.size V' ∧ V'.Perm V ∧ hpOK hlt (hf V') N ∧ New w w' := by
  have HN : Hid (V.length = N) := hn
  have HA : Hid (∀ W, New w W → RtAt W A V) := fun W hW => h.new hW
  clear h hn
  go_enter Try.func28, Try.ntmps28
  go_upto_region 2 with fail
  have N0 : New w ((w.alloc (.cells #[] 31)).alloc (.cells #[.slice (some ⟨w.heap.size, 0, none⟩) 0 0] 76)) := ((New.refl w).alloc _).alloc _
  have b0 : Blk ((w.alloc (.cells #[] 31)).alloc (.cells #[.slice (some ⟨w.heap.size, 0, none⟩) 0 0] 76)) w.heap.size 31 #[] := (Blk.mk w w.heap.size 31 #[] rfl).alloc _
  have bH : Blk ((w.alloc (.cells #[] 31)).alloc (.cells #[.slice (some ⟨w.heap.size, 0, none⟩) 0 0] 76)) (w.heap.size + 1) 76 #[.slice (some ⟨w.heap.size, 0, none⟩) 0 0] := Blk.mk _ _ _ _ (by simp)
  have hS0 : HpS ((w.alloc (.cells #[] 31)).alloc (.cells #[.slice (some ⟨w.heap.size, 0, none⟩) 0 0] 76)) (w.heap.size + 1) w.heap.size [] := by
    refine ⟨w.heap.size, 0, ⟨bH, ⟨rfl, .inr ⟨w.heap.size, 0, #[], rfl, Nat.zero_le _, b0, Nat.le_refl _, Nat.zero_le _, rfl, rfl⟩⟩, fun v hv => ?_, by omega, fun v hv => ?_⟩, Nat.le_refl _, Nat.le_succ _, fun v hv => ?_⟩ <;> cases hv
  have HS0 : Hid (HpS _ (w.heap.size + 1) w.heap.size []) := hS0
  clear b0 bH hS0
  generalize (w.alloc (.cells #[] 31)).alloc (.cells #[.slice (some ⟨w.heap.size, 0, none⟩) 0 0] 76) = w1 at *
  go_wp2_with fail
  go_loopw [10] (fun i wr => ∃ (k : Nat) (V' : List Rv), k ≤ N ∧ i = .int .i64 k ∧ V'.length = k ∧ HpS wr (w.heap.size + 1) w.heap.size V' ∧ V'.Perm (V.take k) ∧ hpOK hlt (hf V') k ∧ New w wr) (fun i _ => N - (intOf i).toNat)
  case atStart => exact ⟨0, [], Nat.zero_le _, rfl, rfl, HS0.out, List.Perm.refl _, fun k k0 kn => by omega, N0⟩
  case round =>
    obtain ⟨k, V', hk, rfl, hl, hs, hpm, hu, hnw⟩ := hrel
    have HL : Hid (V'.length = k) := hl
    have HSS : Hid (HpS wr (w.heap.size + 1) w.heap.size V') := hs
    have HM : Hid (V'.Perm (V.take k)) := hpm
    have HU : Hid (hpOK hlt (hf V') k) := hu
    have HN1 : Hid (New w wr) := hnw
    clear hl hs hpm hu hnw
    by_cases hlt : k < N
    · obtain ⟨b, off, p, a, l, o, nx, md, lc, x, m, d, xs, rfl, hv, hlen, hns, hnl, hmx, q0, q1, q2, q3, q4, q5, q6, q7⟩ := (HA.out _ HN1.out).at k (by have := HN.out; omega)
      subst hlen
      have HV : Hid (V[k]? = some ⟨⟨p, a, l, o, xs, nx, md, lc⟩, x, d⟩) := hv
      have HH : Hid (∀ W, New w W → Rv.here W ⟨⟨p, a, l, o, xs, nx, md, lc⟩, x, d⟩) := fun W hW => (HA.out W hW k _ hv).2
      have HTK : Hid (V.take (k + 1) = V.take k ++ [⟨⟨p, a, l, o, xs, nx, md, lc⟩, x, d⟩]) := by
        obtain ⟨hk', e⟩ := List.getElem?_eq_some_iff.1 hv
        unfold Hid
        rw [List.take_succ_eq_append_getElem hk', e]
      have al := (New.refl wr).alloc (.cells #[.int .i64 p, .int .i64 a, .int .i64 l, .int .i64 o, .slice x xs.length d, .int .i64 nx, .int .i64 md, .int .i64 lc] 31)
      have bR := Blk.mk wr wr.heap.size 31 #[.int .i64 p, .int .i64 a, .int .i64 l, .int .i64 o, .slice x xs.length d, .int .i64 nx, .int .i64 md, .int .i64 lc] rfl
      have cR := bR.cells
      have n1 := HN1.out.trans al
      clear hv hns hnl hmx
      go_wp2_with fail
      refine (push_heap (w.heap.size + 1) w.heap.size V' ⟨⟨p, a, l, o, xs, nx, md, lc⟩, x, d⟩ k _ (HSS.out.new al) (HH.out _ n1) (here_lt (HH.out w (New.refl w))) HL.out (by omega) HU.out).mono ?_
      rintro e w2 ⟨rfl, V2, hs2, m2, u2, t2⟩
      have HS2 : Hid (HpS w2 (w.heap.size + 1) w.heap.size V2) := hs2
      have HU2 : Hid (hpOK Go.Proofs.Ytkaaefieglhdlaa.hlt (hf V2) (k + 1)) := u2
      have HM2 : Hid (V2.Perm (V.take (k + 1))) := by
        unfold Hid
        rw [HTK.out]
        exact m2.trans (HM.out.append_right _)
      have HL2 : Hid (V2.length = k + 1) := by
        unfold Hid
        rw [m2.length_eq, List.length_append, HL.out]
        rfl
      have N2 : Hid (New w w2) := Turn.mono (Turn.trans n1.turn t2 (fun i _ e => e)) (fun i h1 h2 => by omega)
      clear hs2 u2 m2 t2 n1 al cR bR
      go_wp2
      go_roundw
      case rel => exact ⟨k + 1, V2, by omega, by go_num, HL2.out, HS2.out, HM2.out, HU2.out, N2.out⟩
      case measure => simp [intOf]; omega
    · obtain rfl : k = N := by omega
      go_wp2
      go_ret
      refine ⟨w.heap.size + 1, V', rfl, HSS.out, ?_, HU.out, HN1.out⟩
      have h := HM.out
      rw [List.take_of_length_le (by rw [HN.out]; omega)] at h
      exact h

end Go.Proofs.Ytkaaefieglhdlaa
