/- What is proved here: what the looking for marks in lists of things told and what the comparing, the marking and the looking for marks of answers with things told answer, for lists of at most 1048576 things told with paths of at most 1048576 numbers. -/
import Derived.Test.YtjampcfikfafkaaGreatT8Mk
namespace Go.Proofs.YtjampcfikfafkaaGreat
open Go.RowKit Go.Sort
set_option linter.unusedVariables false

theorem markTds_any (A : Option Addr) (n c lo hi : Nat) (k : Int) (V : List Tv) (w : World) (h : Ow8 w lo hi (.slice A n c) V) (hm : n ≤ 1048576) (hk0 : 0 ≤ k) (hk : k ≤ 1048576) :
    Calls Tryz.prog 53 #[.slice A n c, .int .i64 k] w fun e w' => e = .returned (.int .i64 (end8 k V)) ∧ Ow8 w' lo hi (.slice A n c) (mark8 k V) ∧ Turn (fun x => lo ≤ x ∧ x < hi) w w' := by
  rcases row_form8 h.row with ⟨hv, rfl⟩ | ⟨g, c', hv, hlo, hlt, ho⟩
  · simp only [Value.slice.injEq] at hv
    obtain ⟨rfl, rfl, rfl⟩ := hv
    go_enter Tryz.func53, Tryz.ntmps53
    go_wp2
    refine wp_loop_rounds 1 ?_
    rw [rounds_succ]
    go_wp2
    go_ret
    exact ⟨rfl, h, Turn.refl _ _⟩
  · simp only [Value.slice.injEq] at hv
    obtain ⟨rfl, rfl, rfl⟩ := hv
    refine (markRow8_any g V.length c lo hi k V w ho h.path hlo (h.rhi g rfl) hm hk0 hk).mono ?_
    rintro e w1 ⟨rfl, ho1, hp1, ht⟩
    exact ⟨rfl, ⟨row_of8 ho1 hlo, h.rhi, hp1⟩, ht⟩

set_option maxRecDepth 100000 in
set_option maxHeartbeats 3200000 in
theorem heldTds_any (A : Option Addr) (n c : Nat) (k : Int) (V : List Tv) (w : World) (h : TdAt w A (mark8 k V)) (hn : V.length = n) (hl : ∀ v ∈ V, v.r.xs.length ≤ 1048576) (hm : n ≤ 1048576) (hk0 : 0 ≤ k) (hk : k ≤ 1048576) :
    Calls Tryz.prog 54 #[.slice A n c, .int .i64 k] w fun e w' => e = .returned (.int .i64 (end8 k V)) ∧ w' = w := by
  have HLn : Hid (V.length = n) := hn
  have HL : Hid (∀ v ∈ V, v.r.xs.length ≤ 1048576) := hl
  have HBd : Hid (∀ j, j ≤ n → k ≤ end8 k (V.take j) ∧ end8 k (V.take j) ≤ k + 1099517919232) := by
    intro j hj
    have h1 := end8_bd (V.take j) k (fun f hf => hl f (List.mem_of_mem_take hf))
    have h2 : ((V.take j).length : Int) * 1048582 ≤ 1048576 * 1048582 := by
      have : (V.take j).length ≤ 1048576 := by rw [List.length_take]; omega
      omega
    omega
  clear hn hl
  go_enter Tryz.func54, Tryz.ntmps54
  go_wp2
  go_loopw [1, 5] (fun s i wr => ∃ j : Nat, j ≤ n ∧ i = .int .i64 j ∧ s = .int .i64 (end8 k (V.take j)) ∧ wr = w) (fun _ i _ => n - (intOf i).toNat)
  case atStart => exact ⟨0, Nat.zero_le _, rfl, rfl, rfl⟩
  case round =>
    obtain ⟨j, hj, rfl, rfl, rfl⟩ := hrel
    by_cases hlt : j < n
    · obtain ⟨f, hfj⟩ : ∃ f, V[j]? = some f := ⟨_, List.getElem?_eq_getElem (by have := HLn.out; omega)⟩
      obtain ⟨⟨b, off, rfl, hcell⟩, hns, -⟩ := h j _ (mark8_get V hfj k)
      have he := HBd.out j hj
      have HE : Hid (end8 k (V.take (j + 1)) = f.nx8 (end8 k (V.take j))) := end8_take hfj k
      have hlf := HL.out f (List.mem_of_getElem? hfj)
      generalize end8 k (V.take j) = kc at *
      obtain ⟨⟨a, l, o, xs, nx, md, lc⟩, fx, fc⟩ := f
      have x0 : wr.cell? ⟨b, off + j * 7, none⟩ = some (.int .i64 kc) := hcell 0 (by omega)
      have x1 : wr.cell? ⟨b, off + j * 7 + 1, none⟩ = some (.int .i64 (kc + 1)) := hcell 1 (by omega)
      have x2 : wr.cell? ⟨b, off + j * 7 + 2, none⟩ = some (.int .i64 (kc + 1 + 1)) := hcell 2 (by omega)
      have x4 : wr.cell? ⟨b, off + j * 7 + 3, none⟩ = some (.slice fx xs.length fc) := by
        have := hcell 3 (by omega)
        simp only [Tv.mk8, Tv.cs, mkN7_len] at this
        exact this
      have x5 : wr.cell? ⟨b, off + j * 7 + 4, none⟩ = some (.int .i64 (kc + 1 + 1 + 1 + xs.length)) := hcell 4 (by omega)
      have x6 : wr.cell? ⟨b, off + j * 7 + 5, none⟩ = some (.int .i64 (kc + 1 + 1 + 1 + xs.length + 1)) := hcell 5 (by omega)
      have x7 : wr.cell? ⟨b, off + j * 7 + 6, none⟩ = some (.int .i64 (kc + 1 + 1 + 1 + xs.length + 1 + 1)) := hcell 6 (by omega)
      have hns' : NsAt wr fx (mkN7 (kc + 1 + 1 + 1) xs.length) := hns
      clear hcell hfj hns h
      go_wp2_with fail
      refine (heldNs7 fx xs.length fc (kc + 1 + 1 + 1) _ hns' hlf (by omega) (by omega)).mono ?_
      rintro e w5 ⟨rfl, rfl⟩
      go_wp2
      go_roundw
      case rel => exact ⟨j + 1, by omega, by go_num, by rw [HE.out]; rfl, by trivial⟩
      case measure => simp [intOf]; omega
    · go_wp2
      go_ret
      obtain rfl : j = n := by omega
      have e1 : V.take j = V := List.take_of_length_le (by rw [HLn.out]; omega)
      rw [e1]
      exact ⟨rfl, rfl⟩

theorem eqTR_any (z : Int) (A B : Option Addr) (n c d : Nat) (V U : List Tv) (w : World) (hF : TdAt w A V) (hG : TdAt w B U) (hVU : V.map Tv.r = U.map Tv.r) (hn : V.length = n) (hm : n ≤ 1048576) :
    Calls Tryz.prog 16 #[.agg #[.int .i64 z, .slice A n c], .agg #[.int .i64 z, .slice B n d]] w fun e w' => e = .returned (.bool true) ∧ New w w' := by
  have hw := ((New.refl w).alloc (.cells #[.int .i64 z, .slice A n c] 30)).alloc (.cells #[.int .i64 z, .slice B n d] 30)
  have hz : (z != z) = false := by simp
  go_enter Tryz.func16, Tryz.ntmps16
  go_wp2_with fail
  refine (eqTds_any A B n c d V U _ (hF.new hw) (hG.new hw) hVU hn hm).mono ?_
  rintro e w1 ⟨rfl, hn1⟩
  go_wp2
  go_ret
  exact ⟨rfl, hw.trans hn1⟩

theorem markTR_any (z : Int) (A : Option Addr) (n c lo hi : Nat) (k : Int) (V : List Tv) (w : World) (h : Ow8 w lo hi (.slice A n c) V) (hm : n ≤ 1048576) (hk0 : 0 ≤ k) (hk : k ≤ 1048576) (hhi : hi ≤ w.heap.size) :
    Calls Tryz.prog 21 #[.agg #[.int .i64 z, .slice A n c], .int .i64 k] w fun e w' => e = .returned (.int .i64 (end8 k V)) ∧ Ow8 w' lo hi (.slice A n c) (mark8 k V) ∧ Turn (fun x => lo ≤ x ∧ x < hi) w w' := by
  have hw := (New.refl w).alloc (.cells #[.int .i64 z, .slice A n c] 30)
  go_enter Tryz.func21, Tryz.ntmps21
  go_wp2_with fail
  refine (markTds_any A n c lo hi k V _ (h.new hw) hm hk0 hk).mono ?_
  rintro e w1 ⟨rfl, h1, ht⟩
  go_wp2
  go_ret
  exact ⟨rfl, h1, Turn.trans hw.turn ht (fun i _ e => e)⟩

theorem heldTR_any (z : Int) (A : Option Addr) (n c : Nat) (k : Int) (V : List Tv) (w : World) (h : TdAt w A (mark8 k V)) (hn : V.length = n) (hl : ∀ v ∈ V, v.r.xs.length ≤ 1048576) (hm : n ≤ 1048576) (hk0 : 0 ≤ k) (hk : k ≤ 1048576) :
    Calls Tryz.prog 22 #[.agg #[.int .i64 z, .slice A n c], .int .i64 k] w fun e w' => e = .returned (.int .i64 (end8 k V)) ∧ New w w' := by
  have hw := (New.refl w).alloc (.cells #[.int .i64 z, .slice A n c] 30)
  have he := (end8_bd V k hl).1
  go_enter Tryz.func22, Tryz.ntmps22
  go_wp2_with fail
  refine (heldTds_any A n c k V _ (h.new hw) hn hl hm hk0 hk).mono ?_
  rintro e w1 ⟨rfl, rfl⟩
  go_wp2
  go_ret
  exact ⟨rfl, hw⟩

/-- An answer: a code, and things told that the call owns. -/
def TAns (w : World) (z : Int) (R : List Td) (e : Ending) (w' : World) : Prop :=
  ∃ A n c V, e = .returned (.agg #[.int .i64 z, .slice A n c]) ∧ V.map Tv.r = R ∧ V.length = n ∧ Ow8 w' w.heap.size w'.heap.size (.slice A n c) V ∧ New w w'

end Go.Proofs.YtjampcfikfafkaaGreat
