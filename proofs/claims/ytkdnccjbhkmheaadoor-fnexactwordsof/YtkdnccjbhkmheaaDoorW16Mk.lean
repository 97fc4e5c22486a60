/- What is proved here: what the comparing, marking and holding of a list of words answers, for lists of at most 1048577 words. -/
import Derived.Test.YtkdnccjbhkmheaaDoorW16Wi
import Derived.Deep.RegionHeld3
namespace Go.Proofs.YtkdnccjbhkmheaaDoor
open Go.RowKit Go.Sort
set_option linter.unusedVariables false

/-- Words that can be read. -/
def WdAt (w : World) (a : Option Addr) (ls : List (List UInt8)) : Prop := ∀ (k : Nat) (l : List UInt8), ls[k]? = some l → ∃ g, a = some ⟨g, 0, none⟩ ∧ w.cell? ⟨g, k, none⟩ = some (.string ⟨l.toArray⟩)
theorem WdAt.new {w w' : World} {a : Option Addr} {ls : List (List UInt8)} (h : WdAt w a ls) (t : New w w') : WdAt w' a ls := by
  intro k l hl
  obtain ⟨g, e, h1⟩ := h k l hl
  exact ⟨g, e, (World.cell?_of_block (t.block _ (World.block_lt_of_cell? w _ h1) (fun f => f))).trans h1⟩
theorem OwWd.rd {w : World} {lo : Nat} {a : Option Addr} {n c : Nat} {ls : List (List UInt8)} (h : OwWd w lo a n c ls) : WdAt w a ls := by
  intro k l hl
  have hk : k < ls.length := (List.getElem?_eq_some_iff.1 hl).1
  have hr := h.1
  rcases h.1.2 with ⟨h1, h2⟩ | ⟨g, c', cur, h1, h2, h3, h4⟩
  · have := h.2; omega
  · simp only [Value.slice.injEq] at h1
    obtain ⟨rfl, -, rfl⟩ := h1
    refine ⟨g, rfl, ?_⟩
    rw [World.ownsRow.cellAt hr k (by have := h.2; omega)]
    simp [strs, hl]
set_option maxHeartbeats 800000 in
theorem eqWdS (a b : Option Addr) (n c d : Nat) (ls : List (List UInt8)) (w : World) (ha : WdAt w a ls) (hb : WdAt w b ls) (hn : ls.length = n) (hm : n ≤ 1048577) :
    Calls Tryd.prog 12 #[.slice a n c, .slice b n d] w fun e w' => e = .returned (.bool true) ∧ New w w' := by
  have hnn : ((n : Int) != (n : Int)) = false := by simp
  go_enter Tryd.func12, Tryd.ntmps12
  go_wp2
  go_loopw [5] (fun i wr => ∃ k : Nat, k ≤ n ∧ i = .int .i64 k ∧ New w wr) (fun i _ => n - (intOf i).toNat)
  case atStart => exact ⟨0, Nat.zero_le _, rfl, New.refl _⟩
  case round =>
    obtain ⟨k, hk, rfl, hnw⟩ := hrel
    by_cases hlt : k < n
    · obtain ⟨l, hl⟩ : ∃ l, ls[k]? = some l := ⟨_, List.getElem?_eq_getElem (by omega)⟩
      obtain ⟨g, rfl, h1⟩ := (ha.new hnw) k l hl
      obtain ⟨g', rfl, h2⟩ := (hb.new hnw) k l hl
      clear hl ha hb
      go_wp2
      go_quiet (fail)
      go_wp2
      go_roundw
      case rel => exact ⟨k + 1, by omega, by go_num, hnw.drewN _⟩
      case measure => simp [intOf]; omega
    · go_wp2
      go_ret
      exact ⟨rfl, hnw⟩

def dgF : Nat → Nat → List UInt8 → List UInt8
  | 0, _, acc => acc
  | f + 1, k, acc => if k = 0 then acc else dgF f (k / 10) (UInt8.ofNat (48 + k % 10) :: acc)
theorem dgF_zero (f : Nat) (acc : List UInt8) : dgF f 0 acc = acc := by cases f <;> simp [dgF]
theorem dgF_step (f k : Nat) (acc : List UInt8) (h : 0 < k) : dgF (f + 1) k acc = dgF f (k / 10) (UInt8.ofNat (48 + k % 10) :: acc) := by simp [dgF]; omega
/-- The text of a mark. -/
def mtB (k : Nat) : List UInt8 := if k = 0 then [109, 48] else 109 :: dgF 64 k []

set_option maxHeartbeats 800000 in
theorem markTx (k : Nat) (w : World) (hk : k < 9223372036854775807) :
    Calls Tryd.prog 18 #[.int .i64 (k : Int)] w fun e w' => e = .returned (.string ⟨(mtB k).toArray⟩) ∧ New w w' := by
  by_cases h0 : k = 0
  · subst h0
    go_enter Tryd.func18, Tryd.ntmps18
    go_wp2
    go_ret
    exact ⟨rfl, New.refl _⟩
  have hp : ¬ ((k : Int) ≤ 0) := by omega
  have hM : Hid (mtB k = 109 :: dgF 64 k []) := by show mtB k = _; unfold mtB; rw [if_neg h0]
  go_enter Tryd.func18, Tryd.ntmps18
  go_wp2
  go_loopw [0, 3] (fun kk out wr => ∃ (f m : Nat) (acc : List UInt8), kk = .int .i64 (m : Int) ∧ out = .string ⟨acc.toArray⟩ ∧ dgF f m acc = dgF 64 k [] ∧ m < 2 ^ f ∧ f ≤ 64 ∧ acc.length + f ≤ 64 ∧ m ≤ k ∧ New w wr) (fun kk _ _ => (intOf kk).toNat)
  case atStart => exact ⟨64, k, [], rfl, rfl, rfl, by omega, by omega, by simp, by omega, New.refl _⟩
  case round =>
    obtain ⟨f, m, acc, rfl, rfl, hd, hmf, hf, hac, hmk, hnw⟩ := hrel
    by_cases hz : m = 0
    · subst hz
      rw [dgF_zero] at hd
      have HD : Hid (acc = dgF 64 k []) := hd
      have hsz : (⟨acc.toArray⟩ : ByteArray).size = acc.length := by rw [Lib.size_eq]
      clear hd
      go_wp2
      go_ret
      refine ⟨?_, hnw⟩
      rw [hM.out, ← HD.out]
      have e : (⟨#[109]⟩ : ByteArray) ++ ⟨acc.toArray⟩ = ⟨(109 :: acc).toArray⟩ := by
        apply ByteArray.ext
        simp [ByteArray.data_append]
      first | exact congrArg (fun b => Ending.returned (Value.string b)) e | (rw [e])
    · have hf0 : ∃ f', f = f' + 1 := by
        cases f with
        | zero => simp at hmf; omega
        | succ f' => exact ⟨f', rfl⟩
      obtain ⟨f', rfl⟩ := hf0
      have hd' : Hid (dgF f' (m / 10) (UInt8.ofNat (48 + m % 10) :: acc) = dgF 64 k []) := by rw [dgF_step f' m acc (by omega)] at hd; exact hd
      have hsz : (⟨acc.toArray⟩ : ByteArray).size = acc.length := by rw [Lib.size_eq]
      have hm2 : m / 10 < 2 ^ f' := by
        have : m < 2 * 2 ^ f' := by rw [Nat.pow_succ] at hmf; omega
        omega
      have hmp : (m : Int) > 0 := by omega
      obtain ⟨b, hbd⟩ : ∃ b, UInt8.ofNat (48 + m % 10) = b := ⟨_, rfl⟩
      have hb8 : b.toNat = 48 + m % 10 := by rw [← hbd, UInt8.toNat_ofNat']; omega
      have hd2 : Hid (dgF f' (m / 10) (b :: acc) = dgF 64 k []) := by rw [← hbd]; exact hd'.out
      have rC : (convert 39 9 (.slice (some ⟨wr.heap.size, 0, none⟩) 1 1)).run Tryd.prog (wr.alloc (.cells #[.int .u8 (48 + (m : Int) % 10)] 5)) = .ok (.string ⟨#[b]⟩) (wr.alloc (.cells #[.int .u8 (48 + (m : Int) % 10)] 5)) := by
        refine run_convert_bytes_back _ _ _ 5 ⟨wr.heap.size, 0, none⟩ 1 [b] Tryd.underlying39 Tryd.underlying5 Tryd.underlying9 ?_
        intro j hj
        have : j = 0 := by simpa using hj
        subst this
        simp [Addr.add, hb8]
      have e2 : (⟨#[b]⟩ : ByteArray) ++ ⟨acc.toArray⟩ = ⟨(b :: acc).toArray⟩ := by
        apply ByteArray.ext
        simp [ByteArray.data_append]
      clear hd' hbd
      clear hd hmf
      go_wp2
      go_roundw
      case rel => exact ⟨f', m / 10, b :: acc, by go_num, rfl, hd2.out, hm2, by omega, by simp; omega, by omega, hnw.alloc _⟩
      case measure => simp [intOf]; omega

theorem set_drop0 {α : Type} (l : List α) (k : Nat) (h : k < l.length) (x : α) : (l.drop k).set 0 x = x :: l.drop (k + 1) := by rw [List.drop_eq_getElem_cons h, List.set_cons_zero]
set_option maxHeartbeats 800000 in
theorem markWdS (a : Option Addr) (n c lo : Nat) (ls : List (List UInt8)) (w : World) (h : OwWd w lo a n c ls) (hm : n ≤ 1048577) :
    Calls Tryd.prog 13 #[.slice a n c, .int .i64 1] w fun e w' => e = .returned (.int .i64 (1 + (n : Int))) ∧ OwWd w' lo a n c ((List.range n).map fun i => mtB (1 + i)) ∧ Turn (fun k => (Value.slice a n c).ownBlock = some k) w w' := by
  go_enter Tryd.func13, Tryd.ntmps13
  go_wp2_with fail
  go_loopw [1, 5] (fun t i wr => ∃ k : Nat, k ≤ n ∧ i = .int .i64 k ∧ t = .int .i64 (1 + (k : Int)) ∧ OwWd wr lo a n c ((List.range k).map (fun i => mtB (1 + i)) ++ ls.drop k) ∧ Turn (fun q => (Value.slice a n c).ownBlock = some q) w wr) (fun _ i _ => n - (intOf i).toNat)
  case atStart => exact ⟨0, Nat.zero_le _, rfl, by simp, by simpa using h, Turn.refl _ _⟩
  case round =>
    obtain ⟨k, hk, rfl, rfl, ho, ht⟩ := hrel
    by_cases hlt : k < n
    · obtain ⟨g, rfl⟩ : ∃ g, a = some ⟨g, 0, none⟩ := by
        rcases ho.1.2 with ⟨h1, h2⟩ | ⟨g, c', cur, h1, -⟩
        · omega
        · simp only [Value.slice.injEq] at h1
          exact ⟨g, h1.1⟩
      have hmt : ∀ W, Calls Tryd.prog 18 #[.int .i64 (1 + (k : Int))] W fun e w' => e = .returned (.string ⟨(mtB (1 + k)).toArray⟩) ∧ New W w' := by
        intro W
        have h1 := markTx (1 + k) W (by omega)
        rw [show ((1 + k : Nat) : Int) = 1 + (k : Int) by omega] at h1
        exact h1
      have hL := h.2
      have hset : Hid ((strs ((List.range k).map (fun i => mtB (1 + i)) ++ ls.drop k)).set k (.string ⟨(mtB (1 + k)).toArray⟩) = strs ((List.range (k + 1)).map (fun i => mtB (1 + i)) ++ ls.drop (k + 1))) := by
        unfold Hid strs
        rw [List.map_append, List.map_append, List.set_append_right _ _ (by simp), List.range_succ, List.map_drop, List.map_drop]
        simp only [List.map_map, List.length_map, List.length_range, Nat.sub_self, List.map_append, List.map_cons, List.map_nil, List.append_assoc, List.singleton_append]
        rw [set_drop0 _ _ (by simp; omega)]
      obtain ⟨D', hD'⟩ : ∃ D', Hid ((List.range (k + 1)).map (fun i => mtB (1 + i)) ++ ls.drop (k + 1) = D') := ⟨_, rfl⟩
      have hlen : Hid (((List.range (k + 1)).map (fun i => mtB (1 + i)) ++ ls.drop (k + 1)).length = n) := by unfold Hid; simp; omega
      rw [hD'.out] at hset hlen
      generalize hD : (List.range k).map (fun i => mtB (1 + i)) ++ ls.drop k = D at *
      clear hD
      generalize mtB (1 + k) = M at *
      go_wp2_with (go_at_call 18; refine (hmt _).mono ?_; rintro e w1 ⟨rfl, hn1⟩; have ho1 := ho.new hn1; have hfz := World.ownsRow.frozenAt ho1.1 k; have hst := World.ownsRow.stored ho1.1 k (.string ⟨M.toArray⟩); have hcv : ∃ v, w1.cell? ⟨g, k, none⟩ = some v := (by rw [World.ownsRow.cellAt ho1.1 k (by omega)]; exact ⟨_, List.getElem?_eq_getElem (by have := ho1.1.1; omega)⟩); obtain ⟨v, hv⟩ := hcv)
      rw [hset.out] at hst
      go_roundw
      case rel => exact ⟨k + 1, by omega, by go_num, by go_num, by rw [hD'.out]; exact ⟨hst.1, hlen.out⟩, Turn.trans ht (Turn.trans hn1.turn (grown16 hst.2) (fun i _ e => e)) (fun i _ e => by simpa [Value.ownBlock] using e)⟩
      case measure => simp [intOf]; omega
    · obtain rfl : k = n := by omega
      have hl := h.2
      go_wp2
      go_ret
      rw [List.drop_of_length_le (by omega), List.append_nil] at ho
      exact ⟨rfl, ho, ht⟩

set_option maxHeartbeats 800000 in
theorem heldWdS (a : Option Addr) (n c : Nat) (w : World) (h : WdAt w a ((List.range n).map fun i => mtB (1 + i))) (hm : n ≤ 1048577) :
    Calls Tryd.prog 14 #[.slice a n c, .int .i64 1] w fun e w' => e = .returned (.int .i64 (1 + (n : Int))) ∧ New w w' := by
  go_enter Tryd.func14, Tryd.ntmps14
  go_wp2_with fail
  go_loopw [1, 5] (fun t i wr => ∃ k : Nat, k ≤ n ∧ i = .int .i64 k ∧ t = .int .i64 (1 + (k : Int)) ∧ New w wr) (fun _ i _ => n - (intOf i).toNat)
  case atStart => exact ⟨0, Nat.zero_le _, rfl, by simp, New.refl _⟩
  case round =>
    obtain ⟨k, hk, rfl, rfl, hnw⟩ := hrel
    by_cases hlt : k < n
    · obtain ⟨g, rfl, hc⟩ := (h.new hnw) k (mtB (1 + k)) (by simp [List.getElem?_map, List.getElem?_range hlt])
      have hmt : ∀ W, Calls Tryd.prog 18 #[.int .i64 (1 + (k : Int))] W fun e w' => e = .returned (.string ⟨(mtB (1 + k)).toArray⟩) ∧ New W w' := by
        intro W
        have h1 := markTx (1 + k) W (by omega)
        rw [show ((1 + k : Nat) : Int) = 1 + (k : Int) by omega] at h1
        exact h1
      generalize mtB (1 + k) = M at *
      clear h
      have hcd := (World.cell?_of_block (((New.refl wr).drew).block g (World.block_lt_of_cell? wr _ hc) (fun f => f))).trans hc
      go_wp2_with fail
      go_region_held3 (fun W => W.cell? ⟨g, k, none⟩ = some (.string ⟨M.toArray⟩)) (first | exact hc | exact hcd | exact hc1)
        (first
          | (go_at_call 18; refine (hmt _).mono ?_; rintro e w1 ⟨rfl, hn1⟩; have hn1' : New wr w1 := ((New.refl wr).drew).trans hn1; have hc1 := (World.cell?_of_block (hn1'.block g (World.block_lt_of_cell? wr _ hc) (fun f => f))).trans hc))
      go_wp2
      go_roundw
      case rel => exact ⟨k + 1, by omega, by go_num, by go_num, hnw.trans hn1'⟩
      case measure => simp [intOf]; omega
    · obtain rfl : k = n := by omega
      go_wp2
      go_ret
      exact ⟨rfl, hnw⟩

/-- What an answer reads as. -/
theorem eqWr (z : Int) (a b : Option Addr) (n c d : Nat) (ls : List (List UInt8)) (w : World) (ha : WdAt w a ls) (hb : WdAt w b ls) (hn : ls.length = n) (hm : n ≤ 1048577) :
    Calls Tryd.prog 6 #[.agg #[.int .i64 z, .slice a n c], .agg #[.int .i64 z, .slice b n d]] w fun e w' => e = .returned (.bool true) ∧ New w w' := by
  have hzz : (z != z) = false := by simp
  have hw : New w ((w.alloc (.cells #[.int .i64 z, .slice a n c] 24)).alloc (.cells #[.int .i64 z, .slice b n d] 24)) := ((New.refl w).alloc _).alloc _
  go_enter Tryd.func6, Tryd.ntmps6
  go_wp2_with (go_at_call 12; refine (eqWdS a b n c d ls _ (ha.new hw) (hb.new hw) hn hm).mono ?_; rintro e w1 ⟨rfl, hn1⟩)
  go_ret
  exact ⟨rfl, hw.trans hn1⟩
theorem markWr (z : Int) (a : Option Addr) (n c lo : Nat) (ls : List (List UInt8)) (w : World) (h : OwWd w lo a n c ls) (hm : n ≤ 1048577) :
    Calls Tryd.prog 7 #[.agg #[.int .i64 z, .slice a n c], .int .i64 1] w fun e w' => e = .returned (.int .i64 (1 + (n : Int))) ∧ OwWd w' lo a n c ((List.range n).map fun i => mtB (1 + i)) ∧ Turn (fun k => (Value.slice a n c).ownBlock = some k) w w' := by
  have hw : New w (w.alloc (.cells #[.int .i64 z, .slice a n c] 24)) := (New.refl w).alloc _
  go_enter Tryd.func7, Tryd.ntmps7
  go_wp2_with (go_at_call 13; refine (markWdS a n c lo ls _ (h.new hw) hm).mono ?_; rintro e w1 ⟨rfl, ho1, ht1⟩; have HO : Hid _ := ho1; have HT : Hid _ := ht1; clear ho1 ht1)
  go_ret
  exact ⟨rfl, HO.out, Turn.trans hw.turn HT.out (fun i _ e => e)⟩
theorem heldWr (z : Int) (a : Option Addr) (n c : Nat) (w : World) (h : WdAt w a ((List.range n).map fun i => mtB (1 + i))) (hm : n ≤ 1048577) :
    Calls Tryd.prog 8 #[.agg #[.int .i64 z, .slice a n c], .int .i64 1] w fun e w' => e = .returned (.int .i64 (1 + (n : Int))) ∧ New w w' := by
  have hw : New w (w.alloc (.cells #[.int .i64 z, .slice a n c] 24)) := (New.refl w).alloc _
  have hp : ¬ (1 + (n : Int) < 0) := by omega
  go_enter Tryd.func8, Tryd.ntmps8
  go_wp2_with (go_at_call 14; refine (heldWdS a n c _ (h.new hw) hm).mono ?_; rintro e w1 ⟨rfl, hn1⟩)
  go_ret
  exact ⟨rfl, hw.trans hn1⟩

end Go.Proofs.YtkdnccjbhkmheaaDoor
