/- What is proved here: what the program's and the model's WordsOf answer, for every line of at most 1048576 bytes: its pieces between blanks that are not empty, in order, in new memory. -/
import Derived.Test.YtkdnccjbhkmheaaDoorStCut2
import Derived.Lib.SplitLaws
import Derived.Shelf.Strings.Split
import Derived.Shelf.Strconv.Clone
namespace Go.Proofs.YtkdnccjbhkmheaaDoor
open Go.RowKit Go.Sort
set_option linter.unusedVariables false

theorem ix_one (c : UInt8) : ∀ l : List UInt8, Lib.index l [c] = if c ∈ l then ((bef c l).length : Int) else -1
  | [] => by simp [Lib.index]
  | b :: r => by
    have ih := ix_one c r
    by_cases h : b = c
    · subst h
      simp [Lib.index, List.isPrefixOf, bef]
    · have hp : ([c] : List UInt8).isPrefixOf (b :: r) = false := by simp [List.isPrefixOf, Ne.symm h]
      rw [Lib.index, hp, ih]
      by_cases hm : c ∈ r
      · have : ¬ ((bef c r).length : Int) == -1 := by rw [beq_iff_eq]; omega
        simp [hm, bef, h, this]
      · have hn : ¬ c ∈ b :: r := by simp [hm, Ne.symm h]
        simp [hm, Ne.symm h]
theorem split_pcs (c : UInt8) : ∀ (k : Nat) (l : List UInt8), l.count c = k → Lib.splitK [c] 0 k l = pcs c l
  | 0, l, h => by
    rw [pcs_no (List.count_eq_zero.1 h)]
    rfl
  | k + 1, l, h => by
    have hm : c ∈ l := List.count_pos_iff.1 (by omega)
    have e : l = bef c l ++ c :: aft c l := cut_eq hm
    have hc : (aft c l).count c = k := by
      have h2 : l.count c = (bef c l).count c + (1 + (aft c l).count c) := by
        conv => lhs; rw [e]
        rw [List.count_append, List.count_cons_self]; omega
      rw [List.count_eq_zero.2 (bef_no c l)] at h2
      omega
    have hi := ix_one c l
    rw [if_pos hm] at hi
    have hne : ¬ (Lib.index l [c] == -1) = true := by rw [hi, beq_iff_eq]; omega
    rw [Lib.splitK, if_neg hne, hi, pcs_cut hm]
    have t1 : ((bef c l).length : Int).toNat + 0 = (bef c l).length := by omega
    have t2 : ((bef c l).length : Int).toNat + [c].length = (bef c l).length + 1 := by simp
    rw [t1, t2]
    have e1 : l.take (bef c l).length = bef c l := (congrArg (List.take (bef c l).length) e).trans (by simp)
    have e2 : l.drop ((bef c l).length + 1) = aft c l := (congrArg (List.drop ((bef c l).length + 1)) e).trans (by rw [← List.drop_drop, List.drop_left]; rfl)
    rw [e1, e2, split_pcs c k _ hc]

theorem pcs_mem_le (c : UInt8) : ∀ (l : List UInt8) (p : List UInt8), p ∈ pcs c l → p.length ≤ l.length := by
  intro l
  generalize hk : l.length = k
  induction k using Nat.strongRecOn generalizing l with
  | ind k ih =>
    intro p hp
    by_cases hm : c ∈ l
    · rw [pcs_cut hm] at hp
      have hb : l.length = (bef c l).length + (1 + (aft c l).length) := by
        have e := congrArg List.length (cut_eq hm)
        rw [List.length_append, List.length_cons] at e
        omega
      rcases List.mem_cons.1 hp with rfl | h
      · omega
      · have := ih (aft c l).length (by omega) (aft c l) rfl p h
        omega
    · rw [pcs_no hm] at hp
      obtain rfl := List.mem_singleton.1 hp
      omega
/-- The words of a line. -/
def wds (l : List UInt8) : List (List UInt8) := (pcs 32 l).filter (fun p => !p.isEmpty)
theorem strs_of_data : ∀ (L : List ByteArray) (P : List (List UInt8)), L.map (·.data.toList) = P → L.map Value.string = strs P
  | [], P, h => by subst h; rfl
  | x :: L, P, h => by
    subst h
    have ih := strs_of_data L _ rfl
    simp only [List.map_cons, strs] at ih ⊢
    rw [ih]
theorem strs_len (P : List (List UInt8)) : (strs P).length = P.length := by simp [strs]
theorem split_strs (s : ByteArray) : (Lib.splitB ⟨#[32]⟩ 0 (Lib.countB s ⟨#[32]⟩) s).map Value.string = strs (pcs 32 s.data.toList) ∧ Lib.countB s ⟨#[32]⟩ + 1 = (pcs 32 s.data.toList).length := by
  have hc : Lib.countB s ⟨#[32]⟩ = s.data.toList.count 32 := by
    show Lib.count s.data.toList [32] = _
    exact Lib.count_one 32 _
  have h1 := Lib.splitB_data ⟨#[32]⟩ 0 (Lib.countB s ⟨#[32]⟩) s
  have h2 : Lib.splitK [32] 0 (Lib.countB s ⟨#[32]⟩) s.data.toList = pcs 32 s.data.toList := split_pcs 32 _ _ hc.symm
  have h3 := h1.trans h2
  refine ⟨strs_of_data _ _ h3, ?_⟩
  have h4 := Lib.splitB_all ⟨#[32]⟩ (by decide) 0 _ s rfl
  rw [← h3, List.length_map, h4]
theorem wds_step (P : List (List UInt8)) {k : Nat} {p : List UInt8} (h : P[k]? = some p) : (P.take (k + 1)).filter (fun p => !p.isEmpty) = (P.take k).filter (fun p => !p.isEmpty) ++ (if p.isEmpty then [] else [p]) := by
  obtain ⟨hlt, rfl⟩ := List.getElem?_eq_some_iff.1 h
  rw [List.take_succ_eq_append_getElem hlt, List.filter_append]
  congr 1
  cases h : P[k].isEmpty <;> simp [List.filter, h]
theorem wds_le (P : List (List UInt8)) (k : Nat) : ((P.take k).filter (fun p => !p.isEmpty)).length ≤ k := by
  refine Nat.le_trans (List.length_filter_le _ _) ?_
  rw [List.length_take]; omega
theorem emp_ba (p : List UInt8) : ((⟨p.toArray⟩ : ByteArray).data.toList = ([] : List UInt8)) ↔ p = [] := by simp
theorem wd_ne {p : List UInt8} (h : ¬ p = []) : ((⟨p.toArray⟩ : ByteArray).toList == (⟨#[]⟩ : ByteArray).toList) = false := by
  rw [ByteArray.toList_eq, ByteArray.toList_eq]
  simpa using h
theorem grown16 {w w' : World} {b : Option Nat} (h : w.grownBy w' b) : Turn (fun k => b = some k) w w' := ⟨h.os, h.tape, h.output, h.size, fun k hk hs => h.block k hk (fun e => hs e.symm)⟩
theorem form16 {w : World} {lo sz n : Nat} {e : TypeId} {u : Value} {xs : List Value} (h : w.ownsRow lo e sz u n xs) : ∃ y d, u = .slice y n d ∧ (y = none → n = 0 ∧ d = 0) ∧ ∀ k, u.ownBlock = some k → lo ≤ k ∧ k < w.heap.size := by
  rcases h.2 with ⟨h1, h2⟩ | ⟨g, c, cur, h1, h2, h3, r⟩
  · subst h1; subst h2
    exact ⟨none, 0, rfl, fun _ => ⟨rfl, rfl⟩, by intro k hk; simp [Value.ownBlock] at hk⟩
  · have hlt : g < w.heap.size := (Array.getElem?_eq_some_iff.1 h3).1
    subst h1
    refine ⟨some ⟨g, 0, none⟩, c, rfl, (by intro e; cases e), ?_⟩
    intro k hk
    simp [Value.ownBlock] at hk
    omega
/-- Words of the call's own. -/
def OwWd (w : World) (lo : Nat) (a : Option Addr) (n c : Nat) (ls : List (List UInt8)) : Prop := w.ownsRow lo 9 1 (.slice a n c) n (strs ls) ∧ ls.length = n
theorem OwWd.turn {w w' : World} {lo : Nat} {a : Option Addr} {n c : Nat} {ls : List (List UInt8)} {S : Nat → Prop} (h : OwWd w lo a n c ls) (t : Turn S w w') (hS : ∀ k, lo ≤ k → k < w.heap.size → ¬ S k) : OwWd w' lo a n c ls := by
  refine ⟨⟨h.1.1, ?_⟩, h.2⟩
  rcases h.1.2 with h' | ⟨g', cap', cur, h', hb, hh, r⟩
  · exact .inl h'
  · have hlt : g' < w.heap.size := (Array.getElem?_eq_some_iff.1 hh).1
    exact .inr ⟨g', cap', cur, h', hb, (t.block g' hlt (hS g' hb hlt)).trans hh, r⟩
theorem OwWd.new {w w' : World} {lo : Nat} {a : Option Addr} {n c : Nat} {ls : List (List UInt8)} (h : OwWd w lo a n c ls) (t : New w w') : OwWd w' lo a n c ls := h.turn t (fun _ _ _ f => f)
theorem OwWd.nil (w : World) (lo : Nat) : OwWd w lo none 0 0 [] := ⟨⟨rfl, .inl ⟨rfl, rfl⟩⟩, rfl⟩
theorem OwWd.low {w : World} {lo l : Nat} {a : Option Addr} {n c : Nat} {ls : List (List UInt8)} (h : OwWd w lo a n c ls) (hl : l ≤ lo) : OwWd w l a n c ls := by
  refine ⟨⟨h.1.1, ?_⟩, h.2⟩
  rcases h.1.2 with h' | ⟨g', cap', cur, h', hb, hh, r⟩
  · exact .inl h'
  · exact .inr ⟨g', cap', cur, h', Nat.le_trans hl hb, hh, r⟩

set_option maxHeartbeats 1600000 in
theorem specWo (s : ByteArray) (w : World) (hm : s.size ≤ 1048576) :
    Calls Tryd.prog 9 #[.string s] w fun e w' => ∃ a n c, e = .returned (.slice a n c) ∧ OwWd w' w.heap.size a n c (wds s.data.toList) ∧ New w w' := by
  obtain ⟨i0, hi, hz0, hz1, hz2⟩ := info_parts Tryd.infoStr
  obtain ⟨P, hP⟩ : ∃ P, pcs 32 s.data.toList = P := ⟨_, rfl⟩
  have HPL : Hid (P.length ≤ s.size + 1) := by
    show P.length ≤ s.size + 1
    rw [← hP, Lib.size_eq]; exact pcs_len _
  have HW : Hid (wds s.data.toList = P.filter (fun p => !p.isEmpty)) := by show wds _ = _; unfold wds; rw [hP]
  rw [HW.out]
  have b0 : Blk (w.alloc (.cells #[] 9)) w.heap.size 9 #[] := Blk.mk _ _ _ _ rfl
  go_enter Tryd.func9, Tryd.ntmps9
  go_wp2_with (go_at_call 15; refine (specCut s 32 _ hm).mono ?_; rintro e w1 ⟨gP, cP, rfl, hPo, hn1⟩)
  have hnw0 : New w w1 := ((New.refl w).alloc _).trans hn1
  have b1 : Blk w1 w.heap.size 9 #[] := b0.new hn1
  have hgP : w.heap.size + 1 ≤ gP := by have := (hPo.lt gP rfl).1; simpa using this
  have hgl : gP < w1.heap.size := (hPo.lt gP rfl).2
  try rw [hP] at hPo
  have hc : ∀ (W : World) (S : Nat → Prop), Turn S w1 W → ¬ S gP → ∀ (k : Nat) (p : List UInt8), P[k]? = some p → W.cell? ⟨gP, k, none⟩ = some (.string ⟨p.toArray⟩) := by
    intro W S hW hS k p hp
    have hk : k < P.length := (List.getElem?_eq_some_iff.1 hp).1
    have h1 := hPo.cellAt k (by omega)
    rw [World.cell?_of_block (hW.block gP hgl hS), h1]
    simp [strs, hp]
  have hown0 : OwWd w1 w.heap.size (some ⟨w.heap.size, 0, none⟩) 0 0 [] := OwWd.new (⟨World.ownsRow_lit _ #[] 0 (Nat.le_refl _) (Nat.zero_le _) rfl, rfl⟩ : OwWd (w.alloc (.cells #[] 9)) w.heap.size (some ⟨w.heap.size, 0, none⟩) 0 0 []) hn1
  have hbk0 : ∀ j, (Value.slice (some (⟨w.heap.size, 0, none⟩ : Addr)) 0 0).ownBlock = some j → ¬ j = gP := by intro j hj e; simp [Value.ownBlock] at hj; omega
  clear hn1 hPo b0 hP
  go_loopw [3, 5] (fun out i wr => ∃ (k n c : Nat) (a : Option Addr), i = .int .i64 k ∧ k ≤ P.length ∧ out = .slice a n c ∧ OwWd wr w.heap.size a n c ((P.take k).filter (fun p => !p.isEmpty)) ∧ New w wr ∧ Turn (fun i => ¬ i = gP) w1 wr ∧ (∀ j, (Value.slice a n c).ownBlock = some j → ¬ j = gP)) (fun _ i _ => P.length - (intOf i).toNat)
  case atStart => exact ⟨0, 0, 0, some ⟨w.heap.size, 0, none⟩, rfl, Nat.zero_le _, rfl, hown0, hnw0, Turn.refl _ _, hbk0⟩
  case round =>
    obtain ⟨k, n, c, a, rfl, hk, rfl, hown, hnw, hT, hbk⟩ := hrel
    by_cases hlt : k < P.length
    · obtain ⟨p, hp⟩ : ∃ p, P[k]? = some p := ⟨_, List.getElem?_eq_getElem hlt⟩
      have hcell := hc wr _ hT (fun f => f rfl) k p hp
      have hst : Hid _ := wds_step P hp
      have HPB := HPL.out
      by_cases he : p = []
      · subst he
        clear hp
        go_wp2
        go_roundw
        case rel => exact ⟨k + 1, n, c, a, by go_num, by omega, rfl, by rw [hst.out]; simpa using hown, hnw, hT, hbk⟩
        case measure => simp [intOf]; omega
      · have hne : (!p.isEmpty) = true := by simpa using he
        have hst' : Hid ((P.take (k + 1)).filter (fun p => !p.isEmpty) = (P.take k).filter (fun p => !p.isEmpty) ++ [p]) := by
          show _ = _
          rw [hst.out, if_neg (by simpa using he)]
        have hnk : n ≤ k := by rw [← hown.2]; exact wds_le P k
        have hL : Hid (((P.take k).filter (fun p => !p.isEmpty)).length = n) := hown.2
        have hrow := hown.1
        obtain ⟨-, -, -, -, hob⟩ := form16 hrow
        clear hp hst hown
        generalize (P.take k).filter (fun p => !p.isEmpty) = D at *
        go_wp2_with (at_builtin; refine wpList_append_own_at _ rfl _ _ 22 rfl w.heap.size 9 i0 (.string ByteArray.empty) 1 16 Tryd.underlying22 hi hz0 hz1 hz2 rfl (by decide) _ _ _ rfl (hrow.alloc _) ⟨wr.heap.size, 0, none⟩ 1 1 [.string ⟨p.toArray⟩] rfl rfl (cell_one_new _ _ _) (by simp [Value.oneCell']) (by unfold maxLen; omega) (by omega) (by have := hnw.size; simp; omega) ?_; intro v' w2 hown' hgrow hnil hloc)
        obtain ⟨y, d, rfl, -, hyb⟩ := form16 hown'
        have hyb' : ∀ j, (Value.slice y (n + 1) d).ownBlock = some j → ¬ j = gP := by
          intro j hj e
          rcases hloc with h | h
          · rw [h] at hj; exact hbk j hj e
          · rw [h] at hj; have hz := hT.size; simp at hj; omega
        have hnw1 : New w w2 := (hnw.alloc _).before (grown16 hgrow) (fun i h1 h2 => by have := hob i h2; omega)
        go_roundw
        case rel => exact ⟨k + 1, n + 1, d, y, by go_num, by omega, rfl, ⟨by rw [hst'.out]; simpa [strs] using hown', by rw [hst'.out]; simp [hL.out]⟩, hnw1, Turn.trans (Turn.trans hT ((New.refl _).alloc _).turn (fun i _ h => h)) (grown16 hgrow) (fun i _ h => hbk i h), hyb'⟩
        case measure => simp [intOf]; omega
    · have hkn : Hid (k = P.length) := by show k = P.length; omega
      have hgt : ¬ ((k : Int) < P.length) := by omega
      go_wp2
      go_ret
      exact ⟨a, n, c, rfl, by have h := hown; rw [hkn.out, List.take_length] at h; exact h, hnw⟩

end Go.Proofs.YtkdnccjbhkmheaaDoor
