/- What is proved here: what the library's and the model's cutting of a text at a byte answer, for every text of at most 1048576 bytes. -/
import Derived.Test.YtkdnccjbhkmheaaDoorStCut
namespace Go.Proofs.YtkdnccjbhkmheaaDoor
open Go.RowKit Go.Sort

def strs (ls : List (List UInt8)) : List Value := ls.map fun l => .string ⟨l.toArray⟩

theorem Tryd.infoStr : (Tryd.prog.info? 9).map (fun i => (i.zero, i.size, i.bytes)) = some (some (.string ByteArray.empty), 1, 16) := by kernel_rfl

/-- Where the model's cutting stands: what is done, from where, up to where. -/
structure CutI (c : UInt8) (l : List UInt8) (k f : Nat) (done : List (List UInt8)) : Prop where
  le : f ≤ k
  kl : k ≤ l.length
  eq : pcs c l = done ++ pcs c (l.drop f)
  no : c ∉ (l.drop f).take (k - f)

theorem CutI.start (c : UInt8) (l : List UInt8) : CutI c l 0 0 [] := ⟨Nat.le_refl _, Nat.zero_le _, by simp, by simp⟩
theorem CutI.on {c : UInt8} {l : List UInt8} {k f : Nat} {done : List (List UInt8)} (h : CutI c l k f done) {b : UInt8} (hb : l[k]? = some b) (hne : b ≠ c) : CutI c l (k + 1) f done := by
  have hk : k < l.length := (List.getElem?_eq_some_iff.1 hb).1
  have hle := h.le
  refine ⟨by omega, hk, h.eq, ?_⟩
  rw [show k + 1 - f = (k - f) + 1 by omega, List.take_add_one, List.getElem?_drop, show f + (k - f) = k by omega, hb]
  simp only [Option.toList_some, List.mem_append, not_or]
  exact ⟨h.no, by simp; exact fun e => hne e.symm⟩
theorem CutI.hit {c : UInt8} {l : List UInt8} {k f : Nat} {done : List (List UInt8)} (h : CutI c l k f done) (hb : l[k]? = some c) : CutI c l (k + 1) (k + 1) (done ++ [(l.drop f).take (k - f)]) := by
  have hk : k < l.length := (List.getElem?_eq_some_iff.1 hb).1
  have hle := h.le
  refine ⟨Nat.le_refl _, hk, ?_, by simp⟩
  have e : l.drop f = (l.drop f).take (k - f) ++ c :: l.drop (k + 1) := by
    conv => lhs; rw [← List.take_append_drop (k - f) (l.drop f)]
    rw [List.drop_drop, show f + (k - f) = k by omega, List.drop_eq_getElem_cons hk]
    rw [(List.getElem?_eq_some_iff.1 hb).2]
  rw [h.eq]
  conv => lhs; rw [e]
  rw [pcs_hit _ h.no]
  simp
theorem CutI.stop {c : UInt8} {l : List UInt8} {f : Nat} {done : List (List UInt8)} (h : CutI c l l.length f done) : pcs c l = done ++ [(l.drop f).take (l.length - f)] := by
  have e : (l.drop f).take (l.length - f) = l.drop f := List.take_of_length_le (by simp)
  have hn := h.no
  rw [e] at hn ⊢
  rw [h.eq, pcs_no hn]

set_option maxHeartbeats 1600000 in
theorem specCut (s : ByteArray) (c : UInt8) (w : World) (hm : s.size ≤ 1048576) :
    Calls Tryd.prog 15 #[.string s, .int .u8 (c.toNat : Int)] w fun e w' => ∃ g cap, e = .returned (.slice (some ⟨g, 0, none⟩) (pcs c s.data.toList).length cap) ∧ w'.ownsRow w.heap.size 9 1 (.slice (some ⟨g, 0, none⟩) (pcs c s.data.toList).length cap) (pcs c s.data.toList).length (strs (pcs c s.data.toList)) ∧ New w w' := by
  have HL : Hid (s.size = s.data.toList.length) := Lib.size_eq s
  obtain ⟨i0, hi, hz0, hz1, hz2⟩ := info_parts Tryd.infoStr
  go_enter Tryd.func15, Tryd.ntmps15
  go_wp2
  go_loopw [5, 6, 7] (fun out fr i wr => ∃ (k f : Nat) (done : List (List UInt8)) (g cap : Nat), i = .int .i64 k ∧ fr = .int .i64 f ∧ out = .slice (some ⟨g, 0, none⟩) done.length cap ∧ wr.ownsRow w.heap.size 9 1 (.slice (some ⟨g, 0, none⟩) done.length cap) done.length (strs done) ∧ New w wr ∧ done.length ≤ k ∧ f ≤ k ∧ (CutI c s.data.toList k f done ∨ (k = s.size + 1 ∧ pcs c s.data.toList = done))) (fun _ _ i _ => s.size + 1 - (intOf i).toNat)
  case atStart => exact ⟨0, 0, [], w.heap.size, 0, rfl, rfl, rfl, World.ownsRow_lit _ #[] 0 (Nat.le_refl _) (Nat.zero_le _) rfl, (New.refl _).alloc _, Nat.le_refl _, Nat.le_refl _, .inl (CutI.start c _)⟩
  case round =>
    obtain ⟨k, f, done, g, cap, rfl, rfl, rfl, hown, hnw, hdk, hfk, hI⟩ := hrel
    have hg := (hown.lt g rfl).1
    have hnot : ∀ i, i < w.heap.size → ¬ (i = g) := fun i h1 h2 => by omega
    rcases hI with hI | ⟨hks, hdone⟩
    · have hkl : k ≤ s.size := by rw [HL.out]; exact hI.kl
      have ex : s.extract f k = ⟨((s.data.toList.drop f).take (k - f)).toArray⟩ := Lib.extract_eq s f k
      have hc1 : (f : Int) ≤ k := by omega
      have hc2 : (k : Int) ≤ s.size := by omega
      by_cases hlt : k < s.size
      · obtain ⟨b, hb⟩ := byte_some s k hlt
        have hatk := byte_at hb
        have hke : ((k : Int) == (s.size : Int)) = false := by rw [beq_eq_false_iff_ne]; omega
        by_cases hbc : b = c
        · subst hbc
          have hI' : Hid (CutI b s.data.toList (k + 1) (k + 1) (done ++ [(s.data.toList.drop f).take (k - f)])) := hI.hit hb
          have hbb : ((b.toNat : Int) == (b.toNat : Int)) = true := by simp
          clear hI hb
          generalize (s.data.toList.drop f).take (k - f) = piece at *
          go_wp2_with (at_builtin; refine wpList_append_own_at _ rfl _ _ 22 rfl w.heap.size 9 i0 (.string ByteArray.empty) 1 16 Tryd.underlying22 hi hz0 hz1 hz2 rfl (by decide) _ _ _ rfl (hown.alloc _) ⟨wr.heap.size, 0, none⟩ 1 1 [.string ⟨piece.toArray⟩] rfl rfl (cell_one_new _ _ _) (by simp [Value.oneCell']) (by unfold maxLen; omega) (by omega) (by have := hnw.size; simp; omega) ?_; intro v' w1 hown' hgrow hnil hloc)
          obtain ⟨g', cap', rfl⟩ := Joins.ownsRow_form hown' (by omega)
          have hnw1 : New w w1 := (hnw.alloc _).before (Turn.of_grown hgrow) hnot
          have hl' : (done ++ [piece]).length = done.length + 1 := by simp
          have hs' : strs (done ++ [piece]) = strs done ++ [.string ⟨piece.toArray⟩] := by simp [strs]
          go_roundw
          case rel => exact ⟨k + 1, k + 1, done ++ [piece], g', cap', by go_num, by go_num, by rw [hl'], by rw [hl', hs']; exact hown', hnw1, by omega, Nat.le_refl _, .inl hI'.out⟩
          case measure => simp [intOf]; omega

        · have hI' : Hid (CutI c s.data.toList (k + 1) f done) := hI.on hb hbc
          have hbn : ((b.toNat : Int) == (c.toNat : Int)) = false := by
            rw [beq_eq_false_iff_ne]
            intro h
            exact hbc (UInt8.toNat_inj.1 (by omega))
          clear hI hb
          go_wp2
          go_roundw
          case rel => exact ⟨k + 1, f, done, g, cap, by go_num, rfl, rfl, hown, hnw, by omega, by omega, .inl hI'.out⟩
          case measure => simp [intOf]; omega
      · have hks : k = s.size := by omega
        have hke : ((k : Int) == (s.size : Int)) = true := by rw [beq_iff_eq]; omega
        have hI' : Hid (pcs c s.data.toList = done ++ [(s.data.toList.drop f).take (k - f)]) := by
          rw [hks, HL.out] at hI ⊢
          exact hI.stop
        have HK : Hid (k = s.size) := hks
        clear hI hks
        generalize (s.data.toList.drop f).take (k - f) = piece at *
        go_wp2_with (at_builtin; refine wpList_append_own_at _ rfl _ _ 22 rfl w.heap.size 9 i0 (.string ByteArray.empty) 1 16 Tryd.underlying22 hi hz0 hz1 hz2 rfl (by decide) _ _ _ rfl (hown.alloc _) ⟨wr.heap.size, 0, none⟩ 1 1 [.string ⟨piece.toArray⟩] rfl rfl (cell_one_new _ _ _) (by simp [Value.oneCell']) (by unfold maxLen; omega) (by omega) (by have := hnw.size; simp; omega) ?_; intro v' w1 hown' hgrow hnil hloc)
        obtain ⟨g', cap', rfl⟩ := Joins.ownsRow_form hown' (by omega)
        have hnw1 : New w w1 := (hnw.alloc _).before (Turn.of_grown hgrow) hnot
        have hl' : (done ++ [piece]).length = done.length + 1 := by simp
        have hs' : strs (done ++ [piece]) = strs done ++ [.string ⟨piece.toArray⟩] := by simp [strs]
        go_roundw
        case rel => exact ⟨k + 1, k + 1, done ++ [piece], g', cap', by go_num, by go_num, by rw [hl'], by rw [hl', hs']; exact hown', hnw1, by omega, Nat.le_refl _, .inr ⟨by have := HK.out; omega, hI'.out⟩⟩
        case measure => simp [intOf]; have := HK.out; omega

    · have hgt : ¬ ((k : Int) ≤ s.size) := by omega
      have hd : Hid (pcs c s.data.toList = done) := hdone
      clear hdone hks
      go_wp2
      go_ret
      exact ⟨g, cap, by rw [hd.out]; rfl, by rw [hd.out]; exact hown, hnw⟩

end Go.Proofs.YtkdnccjbhkmheaaDoor
