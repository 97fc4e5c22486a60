/- What is proved here: what the looking for marks in lists of routes and what the comparing, the marking and the looking for marks of answers with routes answer, for lists of at most 1048576 routes with paths of at most 1048576 numbers. -/
import Derived.Test.YtkaaefieglhdlaaR7Mark
namespace Go.Proofs.Ytkaaefieglhdlaa
open Go.RowKit Go.Sort
set_option linter.unusedVariables false

theorem markRts_any (A : Option Addr) (n c lo hi : Nat) (k : Int) (V : List Rv) (w : World) (h : OwT w lo hi (.slice A n c) V) (hm : n ≤ 1048576) (hk0 : 0 ≤ k) (hk : k ≤ 1048576) :
    Calls Try.prog 12 #[.slice A n c, .int .i64 k] w fun e w' => e = .returned (.int .i64 (endT k V)) ∧ OwT w' lo hi (.slice A n c) (markT k V) ∧ Turn (fun x => lo ≤ x ∧ x < hi) w w' := by
  rcases row_form7 h.row with ⟨hv, rfl⟩ | ⟨g, c', hv, hlo, hlt, ho⟩
  · simp only [Value.slice.injEq] at hv
    obtain ⟨rfl, rfl, rfl⟩ := hv
    go_enter Try.func12, Try.ntmps12
    go_wp2
    refine wp_loop_rounds 1 ?_
    rw [rounds_succ]
    go_wp2
    go_ret
    exact ⟨rfl, h, Turn.refl _ _⟩
  · simp only [Value.slice.injEq] at hv
    obtain ⟨rfl, rfl, rfl⟩ := hv
    refine (markRow_any g V.length c lo hi k V w ho h.path hlo (h.rhi g rfl) hm hk0 hk).mono ?_
    rintro e w1 ⟨rfl, ho1, hp1, ht⟩
    exact ⟨rfl, ⟨row_of7 ho1 hlo, h.rhi, hp1⟩, ht⟩

set_option maxRecDepth 100000 in
set_option maxHeartbeats 3200000 in
theorem heldRts_any (A : Option Addr) (n c : Nat) (k : Int) (V : List Rv) (w : World) (h : RtAt w A (markT k V)) (hn : V.length = n) (hl : ∀ v ∈ V, v.r.xs.length ≤ 1048576) (hm : n ≤ 1048576) (hk0 : 0 ≤ k) (hk : k ≤ 1048576) :
    Calls Try.prog 38 #[.slice A n c, .int .i64 k] w fun e w' => e = .returned (.int .i64 (endT k V)) ∧ w' = w := by
  have HLn : Hid (V.length = n) := hn
  have HL : Hid (∀ v ∈ V, v.r.xs.length ≤ 1048576) := hl
  have HBd : Hid (∀ j, j ≤ n → k ≤ endT k (V.take j) ∧ endT k (V.take j) ≤ k + 1099518967808) := by
    intro j hj
    have h1 := endT_bd (V.take j) k (fun f hf => hl f (List.mem_of_mem_take hf))
    have h2 : ((V.take j).length : Int) * 1048583 ≤ 1048576 * 1048583 := by
      have : (V.take j).length ≤ 1048576 := by rw [List.length_take]; omega
      omega
    omega
  clear hn hl
  go_enter Try.func38, Try.ntmps38
  go_wp2
  go_loopw [1, 5] (fun s i wr => ∃ j : Nat, j ≤ n ∧ i = .int .i64 j ∧ s = .int .i64 (endT k (V.take j)) ∧ wr = w) (fun _ i _ => n - (intOf i).toNat)
  case atStart => exact ⟨0, Nat.zero_le _, rfl, rfl, rfl⟩
  case round =>
    obtain ⟨j, hj, rfl, rfl, rfl⟩ := hrel
    by_cases hlt : j < n
    · obtain ⟨f, hfj⟩ : ∃ f, V[j]? = some f := ⟨_, List.getElem?_eq_getElem (by have := HLn.out; omega)⟩
      obtain ⟨⟨b, off, rfl, hcell⟩, hns, -⟩ := h j _ (markT_get V hfj k)
      have he := HBd.out j hj
      have HE : Hid (endT k (V.take (j + 1)) = f.nx7 (endT k (V.take j))) := endT_take hfj k
      have hlf := HL.out f (List.mem_of_getElem? hfj)
      generalize endT k (V.take j) = kc at *
      obtain ⟨⟨p, a, l, o, xs, nx, md, lc⟩, fx, fc⟩ := f
      have x0 : wr.cell? ⟨b, off + j * 8, none⟩ = some (.int .i64 kc) := hcell 0 (by omega)
      have x1 : wr.cell? ⟨b, off + j * 8 + 1, none⟩ = some (.int .i64 (kc + 1)) := hcell 1 (by omega)
      have x2 : wr.cell? ⟨b, off + j * 8 + 2, none⟩ = some (.int .i64 (kc + 1 + 1)) := hcell 2 (by omega)
      have x3 : wr.cell? ⟨b, off + j * 8 + 3, none⟩ = some (.int .i64 (kc + 1 + 1 + 1)) := hcell 3 (by omega)
      have x4 : wr.cell? ⟨b, off + j * 8 + 4, none⟩ = some (.slice fx xs.length fc) := by
        have := hcell 4 (by omega)
        simp only [Rv.mk7, Rv.cs, mkN7_len] at this
        exact this
      have x5 : wr.cell? ⟨b, off + j * 8 + 5, none⟩ = some (.int .i64 (kc + 1 + 1 + 1 + 1 + xs.length)) := hcell 5 (by omega)
      have x6 : wr.cell? ⟨b, off + j * 8 + 6, none⟩ = some (.int .i64 (kc + 1 + 1 + 1 + 1 + xs.length + 1)) := hcell 6 (by omega)
      have x7 : wr.cell? ⟨b, off + j * 8 + 7, none⟩ = some (.int .i64 (kc + 1 + 1 + 1 + 1 + xs.length + 1 + 1)) := hcell 7 (by omega)
      have hns' : NsAt wr fx (mkN7 (kc + 1 + 1 + 1 + 1) xs.length) := hns
      clear hcell hfj hns h
      go_wp2_with fail
      refine (heldNs7 fx xs.length fc (kc + 1 + 1 + 1 + 1) _ hns' hlf (by omega) (by omega)).mono ?_
      rintro e w5 ⟨rfl, rfl⟩
      go_wp2
      go_roundw
      case rel => exact ⟨j + 1, by omega, by go_num, by rw [HE.out]; rfl, by trivial⟩
      case measure => simp [intOf]; omega
    · go_wp2
      go_ret
      obtain rfl : j = n := by omega
      have e1 : V.take j = V := List.take_of_length_le (by rw [HLn.out]; omega)
      rw [e1]
      exact ⟨rfl, rfl⟩

theorem eqRR_any (z : Int) (A B : Option Addr) (n c d : Nat) (V U : List Rv) (w : World) (hF : RtAt w A V) (hG : RtAt w B U) (hVU : V.map Rv.r = U.map Rv.r) (hn : V.length = n) (hm : n ≤ 1048576) :
    Calls Try.prog 17 #[.agg #[.int .i64 z, .slice A n c], .agg #[.int .i64 z, .slice B n d]] w fun e w' => e = .returned (.bool true) ∧ New w w' := by
  have hw := ((New.refl w).alloc (.cells #[.int .i64 z, .slice A n c] 44)).alloc (.cells #[.int .i64 z, .slice B n d] 44)
  have hz : (z != z) = false := by simp
  go_enter Try.func17, Try.ntmps17
  go_wp2_with fail
  refine (eqRts_any A B n c d V U _ (hF.new hw) (hG.new hw) hVU hn hm).mono ?_
  rintro e w1 ⟨rfl, hn1⟩
  go_wp2
  go_ret
  exact ⟨rfl, hw.trans hn1⟩

theorem markRR_any (z : Int) (A : Option Addr) (n c lo hi : Nat) (k : Int) (V : List Rv) (w : World) (h : OwT w lo hi (.slice A n c) V) (hm : n ≤ 1048576) (hk0 : 0 ≤ k) (hk : k ≤ 1048576) (hhi : hi ≤ w.heap.size) :
    Calls Try.prog 18 #[.agg #[.int .i64 z, .slice A n c], .int .i64 k] w fun e w' => e = .returned (.int .i64 (endT k V)) ∧ OwT w' lo hi (.slice A n c) (markT k V) ∧ Turn (fun x => lo ≤ x ∧ x < hi) w w' := by
  have hw := (New.refl w).alloc (.cells #[.int .i64 z, .slice A n c] 44)
  go_enter Try.func18, Try.ntmps18
  go_wp2_with fail
  refine (markRts_any A n c lo hi k V _ (h.new hw) hm hk0 hk).mono ?_
  rintro e w1 ⟨rfl, h1, ht⟩
  go_wp2
  go_ret
  exact ⟨rfl, h1, Turn.trans hw.turn ht (fun i _ e => e)⟩

theorem heldRR_any (z : Int) (A : Option Addr) (n c : Nat) (k : Int) (V : List Rv) (w : World) (h : RtAt w A (markT k V)) (hn : V.length = n) (hl : ∀ v ∈ V, v.r.xs.length ≤ 1048576) (hm : n ≤ 1048576) (hk0 : 0 ≤ k) (hk : k ≤ 1048576) :
    Calls Try.prog 19 #[.agg #[.int .i64 z, .slice A n c], .int .i64 k] w fun e w' => e = .returned (.int .i64 (endT k V)) ∧ New w w' := by
  have hw := (New.refl w).alloc (.cells #[.int .i64 z, .slice A n c] 44)
  have he := (endT_bd V k hl).1
  go_enter Try.func19, Try.ntmps19
  go_wp2_with fail
  refine (heldRts_any A n c k V _ (h.new hw) hn hl hm hk0 hk).mono ?_
  rintro e w1 ⟨rfl, rfl⟩
  go_wp2
  go_ret
  exact ⟨rfl, hw⟩

/-- An answer: a code, and routes that the call owns. -/
def RAns (w : World) (z : Int) (R : List Rt) (e : Ending) (w' : World) : Prop :=
  ∃ A n c V, e = .returned (.agg #[.int .i64 z, .slice A n c]) ∧ V.map Rv.r = R ∧ V.length = n ∧ OwT w' w.heap.size w'.heap.size (.slice A n c) V ∧ New w w'

end Go.Proofs.Ytkaaefieglhdlaa
