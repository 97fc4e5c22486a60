/- What is proved here: what the model's ReadEntries answers, for every list of at most 1048576 bytes. -/
import Derived.Test.YtcpamjklljmipaaE10Rd
namespace Go.Proofs.Ytcpamjklljmipaa
open Go.RowKit
set_option linter.unusedVariables false
set_option linter.unusedSimpArgs false
set_option maxRecDepth 100000

/-- What ReadEntries answers: a code, or how many bytes are used and a list of entries of the call's own. -/
def ReAns (w : World) (zs : List Int) (e : Ending) (w' : World) : Prop :=
  if 6000 < zs.length then e = .returned (.agg #[.int .i64 2, .int .i64 0, .slice none 0 0]) ∧ New w w'
  else ∃ (y : Option Addr) (k d : Nat) (V : List EvM), e = .returned (.agg #[.int .i64 0, .int .i64 (eUse zs 0 : Int), .slice y k d]) ∧ k = V.length ∧ RdOwn w w' zs (.slice y k d) V (eUse zs 0) ∧ V.map EvM.t = eAts zs 0

theorem row9_low {w : World} {lo lo' sz n : Nat} {e : TypeId} {u : Value} {xs : List Value} (h : w.ownsRow lo e sz u n xs) (hl : lo' ≤ lo) : w.ownsRow lo' e sz u n xs := by
  refine ⟨h.1, ?_⟩
  rcases h.2 with h' | ⟨g', cap', cur, h', hb, r⟩
  · exact .inl h'
  · exact .inr ⟨g', cap', cur, h', by omega, r⟩

set_option maxHeartbeats 1600000 in
theorem specRE (b off n c : Nat) (zs : List Int) (w : World) (h : BsAt w (some ⟨b, off, none⟩) zs) (hn : zs.length = n) (hc : n ≤ c) (hm : n ≤ 1048576) :
    Calls Try.prog 22 #[.slice (some ⟨b, off, none⟩) n c] w fun e w' => ReAns w zs e w' := by
  have hw := (New.refl w).alloc (.cells #[.int .i64 0, .int .i64 0, .slice none 0 0] 33)
  have bR := Blk.mk w w.heap.size 33 #[.int .i64 0, .int .i64 0, .slice none 0 0] rfl
  by_cases hbig : 6000 < n
  · have hbi : (6000 : Int) < (n : Int) := by omega
    go_enter Try.func22, Try.ntmps22
    go_wp2
    refine bodyPost_ret (v := .agg #[.int .i64 2, .int .i64 0, .slice none 0 0]) (by simp [results, Try.results22, go_sem]) rfl ?_
    unfold ReAns
    rw [hn, if_pos hbig]
    exact ⟨rfl, (New.refl _).alloc _⟩
  · have hbi : ¬ (6000 : Int) < (n : Int) := by omega
    have HB : Hid (¬ 6000 < n) := hbig
    clear hbig
    go_enter Try.func22, Try.ntmps22
    go_wp2_with fail
    refine (specRead b off n c zs _ (h.new hw) hn hc hm).mono ?_
    rintro e w1 ⟨v, V, rfl, hR, hV⟩
    obtain ⟨y, d, rfl, hny, hby⟩ := row9_form hR.row
    have bR1 := bR.new hR.new
    have cR := bR1.cells
    have fR := bR1.frees
    go_wp2
    refine bodyPost_ret (v := .agg #[.int .i64 0, .int .i64 (eUse zs 0 : Int), .slice y V.length d]) (by simp [results, Try.results22, go_sem, cR]) rfl ?_
    unfold ReAns
    rw [hn, if_neg HB.out]
    have t1 : Turn (fun i => i = w.heap.size) w1 (((w1.setCell ⟨w.heap.size, 0, none⟩ (.int .i64 0)).setCell ⟨w.heap.size, 1, none⟩ (.int .i64 (eUse zs 0 : Int))).setCell ⟨w.heap.size, 2, none⟩ (.slice y V.length d)) := Turn.set (S := fun i => i = w.heap.size) (Turn.set (S := fun i => i = w.heap.size) (Turn.set (S := fun i => i = w.heap.size) (Turn.refl _ _) rfl _) rfl _) rfl _
    refine ⟨y, V.length, d, V, rfl, rfl, ⟨hR.come, ?_, ?_, ?_⟩, hV⟩
    · have hr := row9_turn hR.row t1 (by intro k hk e; have := (hby k hk).1; simp at this; omega)
      exact row9_low hr (by simp)
    · have ho := hR.own.turn t1 (by intro x hx k hk e; obtain ⟨_, _, _, _, hb⟩ := row9_form (hR.own.own x hx); have := (hb k hk).1; simp at this; omega)
      exact ho.low (by simp)
    · exact (hw.trans hR.new).before t1 (by intro i hi e; omega)

end Go.Proofs.Ytcpamjklljmipaa
