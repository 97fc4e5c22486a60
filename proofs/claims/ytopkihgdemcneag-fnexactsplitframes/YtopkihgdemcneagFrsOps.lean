/- What is proved here: what the comparing, the marking of lists of frames and the looking for marks answer. -/
import Derived.Test.YtopkihgdemcneagSplit
import Derived.Deep.RegionHeld3
namespace Go.Proofs.Ytopkihgdemcneag
open Go.RowKit

theorem OwF.at {w : World} {lo hi n c : Nat} {a : Option Addr} {F : List Fr} (h : OwF w lo hi a n c F) (i : Nat) (hi' : i < n) :
    ∃ (g : Nat) (f : Fr), a = some ⟨g, 0, none⟩ ∧ F[i]? = some f ∧ w.cell? ⟨g, i * 2, none⟩ = some (.int .i64 f.k) ∧ w.cell? ⟨g, i * 2 + 1, none⟩ = some (.slice f.a f.zs.length f.c) ∧ BsAt w f.a f.zs ∧ OwAt w f.a f.zs.length f.c f.zs ∧ w.frozen? ⟨g, i * 2, none⟩ = false := by
  have hl : i < F.length := by rw [h.len]; exact hi'
  have hf := List.getElem?_eq_getElem hl
  cases a with
  | none => have := (h.anil rfl).1; omega
  | some x =>
    obtain ⟨g, rfl, _, _, ho⟩ := h.row x rfl
    exact ⟨g, _, rfl, hf, by rw [ho.cellAt (i * 2) (by omega)]; exact cellsF_get0 hf, by rw [ho.cellAt (i * 2 + 1) (by omega)]; exact cellsF_get1 hf, (h.body i _ hf).bs (h.bd i _ hf), h.body i _ hf, ho.frozenAt _⟩

set_option maxHeartbeats 1600000 in
theorem eqFrs_any (a b : Option Addr) (n c d lo hi lo' hi' : Nat) (F G : List Fr) (w : World) (hF : OwF w lo hi a n c F) (hG : OwF w lo' hi' b n d G) (hFG : F.map Fr.out = G.map Fr.out) (hm : n ≤ 1048576) (hl : ∀ (i : Nat) (f : Fr), F[i]? = some f → f.zs.length ≤ 1048576) :
    Calls Try.prog 41 #[.slice a n c, .slice b n d] w fun e w' => e = .returned (.bool true) ∧ New w w' := by
  have hnn : ((n : Int) != (n : Int)) = false := by simp
  have HFG : Hid (F.map Fr.out = G.map Fr.out) := hFG
  clear hFG
  go_enter Try.func41, Try.ntmps41
  go_wp2
  go_loopw [5] (fun i wr => ∃ k : Nat, k ≤ n ∧ i = .int .i64 k ∧ New w wr) (fun i _ => n - (intOf i).toNat)
  case atStart => exact ⟨0, Nat.zero_le _, rfl, New.refl _⟩
  case round =>
    obtain ⟨k, hk, rfl, hnw⟩ := hrel
    by_cases hlt : k < n
    · obtain ⟨g1, f1, rfl, hf1, x0, x1, bs1, -, -⟩ := (hF.new hnw).at k hlt
      obtain ⟨g2, f2, rfl, hf2, y0, y1, bs2, -, -⟩ := (hG.new hnw).at k hlt
      have hff : f1.out = f2.out := by
        have h1 : (F.map Fr.out)[k]? = some f1.out := by rw [List.getElem?_map, hf1]; rfl
        have h2 : (G.map Fr.out)[k]? = some f2.out := by rw [List.getElem?_map, hf2]; rfl
        rw [HFG.out, h2] at h1
        exact (Option.some.inj h1).symm
      have hlen := hl k f1 hf1
      obtain ⟨k1, z1, a1, c1⟩ := f1
      obtain ⟨k2, z2, a2, c2⟩ := f2
      simp only [Fr.out, Prod.mk.injEq] at hff
      obtain ⟨rfl, rfl⟩ := hff
      simp only at x0 x1 y0 y1 bs1 bs2 hlen
      clear hf1 hf2
      go_wp2_with fail
      go_region_held3 (fun W => W.cell? ⟨g1, k * 2, none⟩ = some (.int .i64 k1) ∧ W.cell? ⟨g1, k * 2 + 1, none⟩ = some (.slice a1 z1.length c1) ∧ W.cell? ⟨g2, k * 2, none⟩ = some (.int .i64 k1) ∧ W.cell? ⟨g2, k * 2 + 1, none⟩ = some (.slice a2 z1.length c2)) (first | exact ⟨x0, x1, y0, y1⟩ | exact ⟨x0', x1', y0', y1'⟩)
        (first
          | (go_at_call 12; refine (eqFrame_any k1 a1 a2 z1.length c1 c2 z1 _ ?_ ?_ rfl hlen).mono ?_; exact bs1.new ((New.refl _).drew); exact bs2.new ((New.refl _).drew); rintro e w1 ⟨rfl, hn1⟩; have hd := ((New.refl wr).drew).trans hn1; have x0' := hd.below.cell (World.block_lt_of_cell? _ _ x0) |>.trans x0; have x1' := hd.below.cell (World.block_lt_of_cell? _ _ x1) |>.trans x1; have y0' := hd.below.cell (World.block_lt_of_cell? _ _ y0) |>.trans y0; have y1' := hd.below.cell (World.block_lt_of_cell? _ _ y1) |>.trans y1))
      go_wp2
      go_roundw
      case rel => exact ⟨k + 1, by omega, by go_num, hnw.trans hd⟩
      case measure => simp [intOf]; omega
    · go_wp2
      go_ret
      exact ⟨rfl, hnw⟩

end Go.Proofs.Ytopkihgdemcneag
