/- What is proved here: what the counting, the copying and the comparing of lists of things told answer, for every list of at most 1048576 things told with paths of at most 1048576 numbers. -/
import Derived.Test.YtjampcfikfafkaaGreatT8Own
import Derived.Test.YtjampcfikfafkaaGreatT8Open
import Derived.Deep.CutRange
namespace Go.Proofs.YtjampcfikfafkaaGreat
open Go.RowKit Go.Sort
set_option linter.unusedVariables false

theorem set7 (w : World) (B j : Nat) (v0 v1 v2 v3 v4 v5 v6 : Value) : Turn (fun k => k = B) w (((((((w.setCell ⟨B, j, none⟩ v0).setCell ⟨B, j + 1, none⟩ v1).setCell ⟨B, j + 2, none⟩ v2).setCell ⟨B, j + 3, none⟩ v3).setCell ⟨B, j + 4, none⟩ v4).setCell ⟨B, j + 5, none⟩ v5).setCell ⟨B, j + 6, none⟩ v6) :=
  (((((((Turn.refl (fun k => k = B) w).set (p := ⟨B, j, none⟩) rfl v0).set (p := ⟨B, j + 1, none⟩) rfl v1).set (p := ⟨B, j + 2, none⟩) rfl v2).set (p := ⟨B, j + 3, none⟩) rfl v3).set (p := ⟨B, j + 4, none⟩) rfl v4).set (p := ⟨B, j + 5, none⟩) rfl v5).set (p := ⟨B, j + 6, none⟩) rfl v6

theorem TdCame.new {w w' : World} {A : Option Addr} {V : List Tv} (h : TdCame w A V) (t : New w w') : TdCame w' A V := by
  intro i v hv
  obtain ⟨⟨b, off, ha, hc⟩, h1, h2⟩ := h i v hv
  have h0 : w.cell? ⟨b, off + i * 7, none⟩ = some (.int .i64 v.r.a) := hc 0 (by omega)
  have hb' := t.block b (World.block_lt_of_cell? w _ h0) (fun f => f)
  exact ⟨⟨b, off, ha, fun j hj => (World.cell?_of_block hb').trans (hc j hj)⟩, h1.new t, h2⟩
theorem TdCame.at {w : World} {A : Option Addr} {V : List Tv} (h : TdCame w A V) (i : Nat) (hi : i < V.length) :
    ∃ (b off : Nat) (a l o nx md lc : Int) (x : Option Addr) (n c : Nat) (xs : List Int), A = some ⟨b, off, none⟩ ∧ V[i]? = some ⟨⟨a, l, o, xs, nx, md, lc⟩, x, c⟩ ∧ xs.length = n ∧ NsAt w x xs ∧ (x = none → n = 0 ∧ c = 0) ∧ n ≤ maxLen ∧ w.cell? ⟨b, off + i * 7, none⟩ = some (.int .i64 a) ∧ w.cell? ⟨b, off + i * 7 + 1, none⟩ = some (.int .i64 l) ∧ w.cell? ⟨b, off + i * 7 + 2, none⟩ = some (.int .i64 o) ∧ w.cell? ⟨b, off + i * 7 + 3, none⟩ = some (.slice x n c) ∧ w.cell? ⟨b, off + i * 7 + 4, none⟩ = some (.int .i64 nx) ∧ w.cell? ⟨b, off + i * 7 + 5, none⟩ = some (.int .i64 md) ∧ w.cell? ⟨b, off + i * 7 + 6, none⟩ = some (.int .i64 lc) := by
  obtain ⟨⟨b, off, h1, h2⟩, hh⟩ := h i _ (List.getElem?_eq_getElem hi)
  exact ⟨b, off, _, _, _, _, _, _, _, _, _, _, h1, List.getElem?_eq_getElem hi, rfl, hh.1, hh.2.1, hh.2.2, h2 0 (by omega), h2 1 (by omega), h2 2 (by omega), h2 3 (by omega), h2 4 (by omega), h2 5 (by omega), h2 6 (by omega)⟩
theorem TdCame.rt {w : World} {A : Option Addr} {V : List Tv} (h : TdCame w A V) (hb : ∀ v ∈ V, v.r.xs.length ≤ 1048576) : TdAt w A V := by
  intro i v hv
  obtain ⟨h1, h2, h3, -⟩ := h i v hv
  exact ⟨h1, h2, h3, hb v (List.mem_of_getElem? hv)⟩

set_option maxHeartbeats 3200000 in
theorem eqTds_any (A B : Option Addr) (n c e0 : Nat) (V U : List Tv) (w : World) (hF : TdAt w A V) (hG : TdAt w B U) (hVU : V.map Tv.r = U.map Tv.r) (hn : V.length = n) (hm : n ≤ 1048576) :
    Calls Tryz.prog 49 #[.slice A n c, .slice B n e0] w fun e w' => e = .returned (.bool true) ∧ New w w' := by
  have hnn : ((n : Int) != (n : Int)) = false := by simp
  have HN : Hid (V.length = n) := hn
  have HU : Hid (V.map Tv.r = U.map Tv.r) := hVU
  have HUN : Hid (U.length = n) := by
    have := congrArg List.length hVU
    simp at this
    show U.length = n
    omega
  clear hn hVU
  go_enter Tryz.func49, Tryz.ntmps49
  go_wp2
  go_loopw [5] (fun i wr => ∃ k : Nat, k ≤ n ∧ i = .int .i64 k ∧ New w wr) (fun i _ => n - (intOf i).toNat)
  case atStart => exact ⟨0, Nat.zero_le _, rfl, New.refl _⟩
  case round =>
    obtain ⟨k, hk, rfl, hnw⟩ := hrel
    by_cases hlt : k < n
    · obtain ⟨g1, o1, a, l, o, nx, md, lc, x, m, d, xs, rfl, hp1, hl1, hx1, -, hmx, x0, x1, x2, x3, x4, x5, x6⟩ := (hF.new hnw).at k (by have := HN.out; omega)
      obtain ⟨g2, o2, a', l', o', nx', md', lc', x', m', d', xs', rfl, hp2, hl2, hx2, -, hmx', y0, y1, y2, y3, y4, y5, y6⟩ := (hG.new hnw).at k (by have := HUN.out; omega)
      have hh : (⟨a, l, o, xs, nx, md, lc⟩ : Td) = ⟨a', l', o', xs', nx', md', lc'⟩ := by
        have h1 : (V.map Tv.r)[k]? = some ⟨a, l, o, xs, nx, md, lc⟩ := by rw [List.getElem?_map, hp1]; rfl
        have h2 : (U.map Tv.r)[k]? = some ⟨a', l', o', xs', nx', md', lc'⟩ := by rw [List.getElem?_map, hp2]; rfl
        rw [HU.out, h2] at h1
        exact (Option.some.inj h1).symm
      simp only [Td.mk.injEq] at hh
      obtain ⟨rfl, rfl, rfl, rfl, rfl, rfl, rfl⟩ := hh
      obtain rfl : m = m' := hl1.symm.trans hl2
      have HL : Hid (xs.length = m) := hl1
      clear hp1 hp2 hF hG hl1 hl2
      have X0 := cell_regrown x0
      have X1 := cell_regrown x1
      have X2 := cell_regrown x2
      have X3 := cell_regrown x3
      have X4 := cell_regrown x4
      have X5 := cell_regrown x5
      have X6 := cell_regrown x6
      have Y0 := cell_regrown y0
      have Y1 := cell_regrown y1
      have Y2 := cell_regrown y2
      have Y3 := cell_regrown y3
      have Y4 := cell_regrown y4
      have Y5 := cell_regrown y5
      have Y6 := cell_regrown y6
      go_wp2_with fail
      refine wp_region_quiet_below (by kernel_rfl) (by kernel_rfl) ?_
      repeat (go_big_quiet_step ((go_at_call 88; exact calls_regrown (eqTd_any a l o nx md lc x x' m d d' xs _ (hx1.new (new_regrown _ _ _)) (hx2.new (new_regrown _ _ _)) HL.out hmx))))
      refine wpQuiet_nil ?_
      rintro w1 hn1
      replace hn1 := new_of_regrown hn1
      go_wp2
      go_roundw
      case rel => exact ⟨k + 1, by omega, by go_num, hnw.trans hn1⟩
      case measure => simp [intOf]; omega
    · go_wp2
      go_ret
      exact ⟨rfl, hnw⟩

end Go.Proofs.YtjampcfikfafkaaGreat
