/- What is proved here: what container/heap's Push does, and what the program's heap of a list of routes is, for a list that can be read. -/
import Derived.Test.YtkaaefieglhdlaaH8Pu
namespace Go.Proofs.Ytkaaefieglhdlaa
open Go.RowKit Go.Sort
set_option linter.unusedVariables false
set_option linter.unusedSimpArgs false

/-- The block H holds the routes as a row of the call's own, from lo on; their paths lie before lo. -/
def HpS (w : World) (H lo : Nat) (V : List Rv) : Prop := ∃ b c, HpAt w H b c V ∧ lo ≤ b ∧ lo ≤ H ∧ ∀ v ∈ V, ∀ x, v.r.xs ≠ [] → v.x = some x → x.block < lo

theorem HpS.new {w w' : World} {H lo : Nat} {V : List Rv} (h : HpS w H lo V) (t : New w w') : HpS w' H lo V := by
  obtain ⟨b, c, h1, h2⟩ := h
  exact ⟨b, c, h1.new t, h2⟩

set_option maxRecDepth 100000 in
set_option maxHeartbeats 6400000 in
theorem push_heap (H lo : Nat) (V : List Rv) (r : Rv) (n : Nat) (w : World) (hs : HpS w H lo V) (hr : r.here w) (hrf : ∀ x, r.r.xs ≠ [] → r.x = some x → x.block < lo) (hn : V.length = n) (hm : n + 1 ≤ 1048576) (hu : hpOK hlt (hf V) n) : Calls Try.prog 52 #[.iface 59 (.pointer (some ⟨H, 0, none⟩)), .iface 31 r.val] w fun e w' => e = .returned (.tuple #[]) ∧ ∃ V', HpS w' H lo V' ∧ V'.Perm (V ++ [r]) ∧ hpOK hlt (hf V') (n + 1) ∧ Turn (fun k => lo ≤ k) w w' := by
  obtain ⟨b, c, hp, hlb, hlH, hfar⟩ := hs
  have HP : Hid (HpAt w H b c V) := hp
  have HN : Hid (V.length = n) := hn
  have HF : Hid (∀ v ∈ V, ∀ x, v.r.xs ≠ [] → v.x = some x → x.block < lo) := hfar
  have HR : Hid (r.here w) := hr
  have HRF : Hid (∀ x, r.r.xs ≠ [] → r.x = some x → x.block < lo) := hrf
  have hl1 : (V ++ [r]).length = n + 1 := by rw [List.length_append, hn]; rfl
  have HL1 : Hid ((V ++ [r]).length = n + 1) := hl1
  have HU : Hid (upOK hlt (hf (V ++ [r])) (n + 1) n) := by
    refine up_push (fun k k0 kn => ?_)
    have e : ∀ j, j < n → hf (V ++ [r]) j = hf V j := fun j hj => by unfold hf; rw [List.getElem?_append_left (by omega)]
    rw [e k kn, e _ (by omega)]
    exact hu k k0 kn
  have hw1 : IntKind.i64.wrap (((n + 1 : Nat) : Int) - 1) = (n : Int) := by rw [IntKind.wrap_i64]; omega
  have HPM : Hid (Calls Try.prog 100 #[.pointer (some ⟨H, 0, none⟩), .iface 31 r.val] w fun e w' => e = .returned (.tuple #[]) ∧ ∃ g c', Blk w' H 76 #[.slice (some ⟨g, 0, none⟩) (V ++ [r]).length c'] ∧ w'.ownsRow lo 31 8 (.slice (some ⟨g, 0, none⟩) (V ++ [r]).length c') (V ++ [r]).length (cellsT (V ++ [r])) ∧ lo ≤ g ∧ ¬ H = g ∧ Turn (fun k => lo ≤ k) w w') :=
    pushm_heap H b c lo V r n w hp.hd (row_of7 hp.row hlb) hlH hp.ne (by omega) (by have := hp.hd.lt; omega) hn
  have HB : Hid (¬ H = b) := hp.ne
  clear hp hr hrf hfar hu hl1 hn
  generalize hrv : r.val = rv at *
  go_enter Try.func52, Try.ntmps52
  go_wp2_with fail
  refine HPM.out.mono ?_
  rintro e w1 ⟨rfl, g, c', hd1, row1, hlg, hng, t1⟩
  have hp1 : HpAt w1 H g c' (V ++ [r]) := by
    refine ⟨hd1, ?_, fun v hv => ?_, hng, fun v hv x h1 h2 => ?_⟩
    · rcases row_form7 row1 with ⟨h0, -⟩ | ⟨g', c2, h0, -, -, ho⟩
      · cases h0
      · simp only [Value.slice.injEq, Option.some.injEq, Addr.mk.injEq, and_true, true_and] at h0
        obtain ⟨rfl, rfl⟩ := h0
        exact ho
    · rcases List.mem_append.1 hv with hv | hv
      · exact (HP.out.here v hv).turn t1 (fun x h1 h2 => by have := HF.out v hv x h1 h2; omega)
      · obtain rfl := List.mem_singleton.1 hv
        exact HR.out.turn t1 (fun x h1 h2 => by have := HRF.out x h1 h2; omega)
    · have : x.block < lo := by
        rcases List.mem_append.1 hv with hv | hv
        · exact HF.out v hv x h1 h2
        · obtain rfl := List.mem_singleton.1 hv
          exact HRF.out x h1 h2
      omega
  have HP1 : Hid (HpAt w1 H g c' (V ++ [r])) := hp1
  clear hp1 hd1 row1
  go_wp2_with fail
  refine (len_heap H g c' (V ++ [r]) (n + 1) w1 HP1.out HL1.out).mono ?_
  rintro e w0 ⟨rfl, rfl⟩
  go_wp2_with fail
  refine (up_heap H g c' (V ++ [r]) (n + 1) n _ HP1.out HL1.out hm (by omega) HU.out).mono ?_
  rintro e w2 ⟨rfl, V', hp2, m2, k2, t2⟩
  have HP2 : Hid (HpAt w2 H g c' V') := hp2
  have HK2 : Hid (hpOK hlt (hf V') (n + 1)) := k2
  have HM2 : Hid (V'.Perm (V ++ [r])) := m2
  clear hp2 k2 m2
  go_wp2
  go_returns
  refine ⟨rfl, V', ⟨g, c', HP2.out, hlg, hlH, fun v hv x h1 h2 => ?_⟩, HM2.out, HK2.out, Turn.trans t1 t2 (fun k _ e => by subst e; exact hlg)⟩
  rcases List.mem_append.1 (HM2.out.mem_iff.1 hv) with hv | hv
  · exact HF.out v hv x h1 h2
  · obtain rfl := List.mem_singleton.1 hv
    exact HRF.out x h1 h2

end Go.Proofs.Ytkaaefieglhdlaa
