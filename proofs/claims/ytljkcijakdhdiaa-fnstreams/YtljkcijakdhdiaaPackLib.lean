/- What is proved here: what the marking of bytes leaves and the looking for marks answers, and what the packing of a frame answers. -/
import Derived.Test.YtljkcijakdhdiaaFrLib
import Derived.Test.YtljkcijakdhdiaaAp
namespace Go.Proofs.Ytljkcijakdhdiaa
open Go.RowKit

/-- The marks from k on. -/
def marks (k : Int) (n : Nat) : List Int := (List.range n).map (fun i : Nat => (k + i) % 256)
theorem marks_length (k : Int) (n : Nat) : (marks k n).length = n := by simp [marks]
theorem marks_bd (k : Int) (n : Nat) : ∀ z ∈ marks k n, 0 ≤ z ∧ z ≤ 255 := by
  intro z hz
  obtain ⟨i, _, rfl⟩ := List.mem_map.1 hz
  omega
theorem marks_succ (k : Int) (n : Nat) : marks k (n + 1) = marks k n ++ [(k + n) % 256] := by simp [marks, List.range_succ]
theorem marks_get (k : Int) (n j : Nat) (hj : j < n) : (marks k n)[j]? = some ((k + j) % 256) := by simp [marks, hj]

/-- The call owns the bytes zs at this address. -/
def OwAt (w : World) (a : Option Addr) (n c : Nat) (zs : List Int) : Prop :=
  zs.length = n ∧ (0 < n → ∃ g, a = some ⟨g, 0, none⟩ ∧ w.ownsRow 0 5 1 (.slice (some ⟨g, 0, none⟩) n c) n (zs.map (Value.int .u8)))
/-- The blocks that the address leads to. -/
def inA (a : Option Addr) : Nat → Prop := fun k => ∃ x : Addr, a = some x ∧ k = x.block

theorem OwAt.bs {w : World} {a : Option Addr} {n c : Nat} {zs : List Int} (h : OwAt w a n c zs) (hz : ∀ z ∈ zs, 0 ≤ z ∧ z ≤ 255) : BsAt w a zs := by
  by_cases h0 : 0 < n
  · obtain ⟨g, rfl, ho⟩ := h.2 h0
    exact BsAt.of_own ho hz
  · obtain rfl : zs = [] := List.eq_nil_of_length_eq_zero (by have := h.1; omega)
    exact BsAt.nil _ _
theorem OwAt.of_own {w : World} {g n c base : Nat} {zs : List Int} (h : w.ownsRow base 5 1 (.slice (some ⟨g, 0, none⟩) n c) n (zs.map (Value.int .u8))) : OwAt w (some ⟨g, 0, none⟩) n c zs :=
  ⟨by simpa using h.1, fun _ => ⟨g, rfl, own_base h⟩⟩
theorem OwAt.turn {w w' : World} {a : Option Addr} {n c : Nat} {zs : List Int} {S : Nat → Prop} (h : OwAt w a n c zs) (t : Turn S w w') (hS : ∀ x, a = some x → ¬ S x.block) : OwAt w' a n c zs :=
  ⟨h.1, fun h0 => by obtain ⟨g, rfl, ho⟩ := h.2 h0; exact ⟨g, rfl, own_turn ho t (hS _ rfl)⟩⟩
theorem OwAt.new {w w' : World} {a : Option Addr} {n c : Nat} {zs : List Int} (h : OwAt w a n c zs) (t : New w w') : OwAt w' a n c zs := h.turn t (fun _ _ f => f)

theorem mark_ob (zs : List Int) (k : Int) (j n : Nat) (hn : zs.length = n) (hj : j < n) :
    ((marks k j ++ zs.drop j).map (Value.int .u8)).set j (.int .u8 ((k + j) % 256)) = (marks k (j + 1) ++ zs.drop (j + 1)).map (Value.int .u8) := by
  rw [← List.map_set, List.set_append_right _ _ (by rw [marks_length]; omega), marks_length, Nat.sub_self, marks_succ, List.drop_eq_getElem_cons (by omega), List.set_cons_zero]
  simp

set_option maxHeartbeats 800000 in
theorem mark_any (a : Option Addr) (n c : Nat) (k : Int) (zs : List Int) (w : World) (h : OwAt w a n c zs) (hm : n ≤ 4194304) (hk0 : 0 ≤ k) (hk : k ≤ 1073741824) :
    Calls Try.prog 13 #[.slice a n c, .int .i64 k] w fun e w' => e = .returned (.int .i64 (k + n)) ∧ OwAt w' a n c (marks k n) ∧ Turn (inA a) w w' := by
  have hn := h.1
  go_enter Try.func13, Try.ntmps13
  go_wp2
  go_loopw [1, 5] (fun s i wr => ∃ j : Nat, j ≤ n ∧ i = .int .i64 j ∧ s = .int .i64 (k + j) ∧ OwAt wr a n c (marks k j ++ zs.drop j) ∧ Turn (inA a) w wr) (fun _ i _ => n - (intOf i).toNat)
  case atStart => exact ⟨0, Nat.zero_le _, rfl, by simp, by simpa [marks] using h, Turn.refl _ _⟩
  case round =>
    obtain ⟨j, hj, rfl, rfl, how, htn⟩ := hrel
    by_cases hlt : j < n
    · obtain ⟨g, rfl, ho⟩ := how.2 (by omega)
      have hfz := ho.frozenAt j
      have hst := ho.stored j (.int .u8 ((k + j) % 256))
      rw [mark_ob zs k j n hn hlt] at hst
      obtain ⟨HS, hgr⟩ := hst
      have hcw : ∃ v, wr.cell? ⟨g, j, none⟩ = some v := by
        rw [ho.cellAt j (by omega)]
        exact ⟨_, List.getElem?_eq_getElem (by have := ho.1; omega)⟩
      obtain ⟨v, hv⟩ := hcw
      clear h how ho
      go_wp2
      go_roundw
      case rel => exact ⟨j + 1, by omega, by go_num, by go_num, ⟨by rw [List.length_append, marks_length, List.length_drop]; omega, fun _ => ⟨g, rfl, HS⟩⟩, Turn.trans htn (Turn.of_grown hgr) (fun i _ e => ⟨_, rfl, e⟩)⟩
      case measure => simp [intOf]; omega
    · go_wp2
      go_ret
      have hjn : j = n := by omega
      subst hjn
      rw [List.drop_of_length_le (by omega), List.append_nil] at how
      exact ⟨rfl, how, htn⟩

set_option maxHeartbeats 800000 in
theorem twoBytes_any (x : Int) (w : World) (h0 : 0 ≤ x) (hx : x < 65536) :
    Calls Try.prog 49 #[.int .i64 x, .int .i64 2] w fun e w' => ∃ g cap, e = .returned (.slice (some ⟨g, 0, none⟩) 2 cap) ∧ w.heap.size ≤ g ∧
      w'.ownsRow 0 5 1 (.slice (some ⟨g, 0, none⟩) 2 cap) 2 ([x / 256, x % 256].map (Value.int .u8)) ∧ New w w' := by
  obtain ⟨i0, hi, hz0, hz1, hz2⟩ := info_parts Try.infoU8
  go_enter Try.func49, Try.ntmps49
  go_wp2
  go_loopw [5, 6] (fun s i wr => ∃ (j g cap : Nat), j ≤ 2 ∧ i = .int .i64 (1 - (j : Int)) ∧ s = .slice (some ⟨g, 0, none⟩) j cap ∧ w.heap.size ≤ g ∧
      wr.ownsRow w.heap.size 5 1 (.slice (some ⟨g, 0, none⟩) j cap) j (([x / 256, x % 256].take j).map (Value.int .u8)) ∧ New w wr) (fun _ i _ => (intOf i + 1).toNat)
  case atStart => exact ⟨0, w.heap.size, 0, by omega, rfl, rfl, Nat.le_refl _, by simpa using World.ownsRow_lit (base := w.heap.size) (size := 1) (e := 5) w #[] 0 (Nat.le_refl _) (Nat.zero_le _) rfl, (New.refl _).alloc _⟩
  case round =>
    obtain ⟨j, g, cap, hj, rfl, rfl, hg, ho, hnw⟩ := hrel
    rcases (show j = 0 ∨ j = 1 ∨ j = 2 by omega) with rfl | rfl | rfl
    · have hs := hnw.size
      go_wp2_with (at_builtin; refine wpList_ap _ rfl (.tmp 14) (.tmp 21) rfl w.heap.size Try.underlying22 hi hz0 hz1 hz2 _ 0 [] rfl (ho.alloc _) _ 1 1 [x / 256] rfl (BsAt.of_block (heap_alloc_new _ _) _ rfl (by simp; omega)) rfl (by intro h; cases h) (by omega) (by omega) (by simp; omega) _ rfl ?_)
      intro g1 cap1 w1 ho1 hg1 hat
      have hn1 : New w w1 := (hnw.alloc _).grow hg1 (by intro k hk; simp [Value.ownBlock] at hk; omega)
      have hg1' : w.heap.size ≤ g1 := (ho1.lt g1 rfl).1
      clear ho hg1 hat
      go_wp2
      go_roundw
      case rel => exact ⟨1, g1, cap1, by omega, by go_num, rfl, hg1', by simpa using ho1, hn1⟩
      case measure => simp [intOf]
    · have hs := hnw.size
      go_wp2_with (at_builtin; refine wpList_ap _ rfl (.tmp 14) (.tmp 21) rfl w.heap.size Try.underlying22 hi hz0 hz1 hz2 _ 1 [x / 256] rfl (ho.alloc _) _ 1 1 [x % 256] rfl (BsAt.of_block (heap_alloc_new _ _) _ rfl (by simp; omega)) rfl (by intro h; cases h) (by omega) (by omega) (by simp; omega) _ rfl ?_)
      intro g1 cap1 w1 ho1 hg1 hat
      have hn1 : New w w1 := (hnw.alloc _).grow hg1 (by intro k hk; simp [Value.ownBlock] at hk; omega)
      have hg1' : w.heap.size ≤ g1 := (ho1.lt g1 rfl).1
      clear ho hg1 hat
      go_wp2
      go_roundw
      case rel => exact ⟨2, g1, cap1, by omega, by go_num, rfl, hg1', by simpa using ho1, hn1⟩
      case measure => simp [intOf]
    · go_wp2
      go_ret
      exact ⟨g, cap, rfl, hg, own_base ho, hnw⟩

/-- A frame's bytes. -/
def packOf (k : Int) (zs : List Int) : List Int := [255, 255] ++ [((zs.length : Int) + 5) / 256, ((zs.length : Int) + 5) % 256] ++ [k] ++ zs
theorem packOf_length (k : Int) (zs : List Int) : (packOf k zs).length = zs.length + 5 := by simp [packOf]
theorem packOf_bd (k : Int) (zs : List Int) (h : ∀ z ∈ zs, 0 ≤ z ∧ z ≤ 255) (hl : zs.length ≤ 120) (hk : 1 ≤ k ∧ k ≤ 4) : ∀ z ∈ packOf k zs, 0 ≤ z ∧ z ≤ 255 := by
  intro z hz
  simp only [packOf, List.mem_append, List.mem_cons, List.not_mem_nil, or_false] at hz
  rcases hz with (((rfl | rfl) | (rfl | rfl)) | rfl) | hz
  · omega
  · omega
  · omega
  · omega
  · omega
  · exact h z hz

theorem New.lit {w : World} (n : Nat) (zs : List Int) (B : Nat) (hB : w.heap.size = B) (hn : zs.length = n) (hm : n ≤ 4194304) (cs : Array Value) (hc : cs.toList = zs.map (Value.int .u8)) :
    (w.alloc (.cells cs 5)).ownsRow 0 5 1 (.slice (some ⟨B, 0, none⟩) n n) n (zs.map (Value.int .u8)) := by
  subst hB
  rw [← hc]
  exact World.ownsRow_lit w cs n (Nat.zero_le _) (by unfold maxLen; omega) (by have := congrArg List.length hc; simp at this; omega)

set_option maxHeartbeats 1600000 in
theorem specPack_any (k : Int) (a : Option Addr) (n c : Nat) (zs : List Int) (w : World) (h : BsAt w a zs) (hn : zs.length = n) (hm : n ≤ 120) (hk1 : 1 ≤ k) (hk4 : k ≤ 4) (hnone : a = none → n = 0 ∧ c = 0) :
    Calls Try.prog 51 #[.agg #[.int .i64 k, .slice a n c]] w fun e w' => ∃ g cap, e = .returned (.slice (some ⟨g, 0, none⟩) (n + 5) cap) ∧ w.heap.size ≤ g ∧
      w'.ownsRow 0 5 1 (.slice (some ⟨g, 0, none⟩) (n + 5) cap) (n + 5) ((packOf k zs).map (Value.int .u8)) ∧ New w w' := by
  obtain ⟨i0, hi, hz0, hz1, hz2⟩ := info_parts Try.infoU8
  have hn0 := ((New.refl w).alloc (.cells #[.int .i64 k, .slice a n c] 43)).alloc (.cells #[.int .u8 255, .int .u8 255] 5)
  have ho0 := New.lit (w := w.alloc (.cells #[.int .i64 k, .slice a n c] 43)) 2 [255, 255] (w.heap.size + 1) (by simp) rfl (by omega) #[.int .u8 255, .int .u8 255] rfl
  go_enter Try.func51, Try.ntmps51
  go_wp2_with fail
  refine (twoBytes_any ((n : Int) + 5) _ (by omega) (by omega)).mono ?_
  rintro e w1 ⟨g1, cap1, rfl, hg1, ho1, hn1⟩
  have s1 := hn1.size
  simp at s1 hg1
  have ho0' := own_new ho0 hn1
  have c0 : w1.cell? ⟨w.heap.size, 0, none⟩ = some (.int .i64 k) := by rw [hn1.cells _ _ (by simp; omega)]; go_simp
  have c1 : w1.cell? ⟨w.heap.size, 1, none⟩ = some (.slice a n c) := by rw [hn1.cells _ _ (by simp; omega)]; go_simp
  have hb1 : BsAt w1 (some ⟨g1, 0, none⟩) [((n : Int) + 5) / 256, ((n : Int) + 5) % 256] := BsAt.of_own ho1 (by simp; omega)
  have hn01 := hn0.trans hn1
  clear ho0 hn0
  go_wp2_with (at_builtin; refine wpList_ap _ rfl (.tmp 4) (.tmp 9) rfl 0 Try.underlying22 hi hz0 hz1 hz2 _ 2 [255, 255] rfl ho0' _ 2 cap1 _ rfl hb1 rfl (by intro h; cases h) (by omega) (by omega) (Nat.zero_le _) _ rfl ?_)
  intro g2 cap2 w2 ho2 hgr2 hat2
  have hn12 : New w w2 := hn01.grow hgr2 (by intro j hj; simp [Value.ownBlock] at hj; omega)
  have hg2 : w.heap.size < g2 := by
    rcases hat2 with h' | h'
    · simp [Value.ownBlock] at h'; omega
    · omega
  have d0 : w2.cell? ⟨w.heap.size, 0, none⟩ = some (.int .i64 k) := hgr2.cell c0 (by simp [Value.ownBlock])
  have d1 : w2.cell? ⟨w.heap.size, 1, none⟩ = some (.slice a n c) := hgr2.cell c1 (by simp [Value.ownBlock])
  have s2 := hgr2.size
  have HO3 : Hid ((w2.alloc (.cells #[.int .u8 (IntKind.u8.wrap k)] 5)).drew.ownsRow 0 5 1 (.slice (some ⟨g2, 0, none⟩) 4 cap2) 4 (([255, 255] ++ [((n : Int) + 5) / 256, ((n : Int) + 5) % 256]).map (Value.int .u8))) := (ho2.alloc _).drew
  have hkk : IntKind.u8.wrap k = k := by simp [IntKind.wrap, IntKind.signed, IntKind.bits]; omega
  have HK : Hid (IntKind.u8.wrap k = k) := hkk
  have hn3 : New w (w2.alloc (.cells #[.int .u8 (IntKind.u8.wrap k)] 5)).drew := (hn12.alloc _).drew
  have HB3 : Hid (BsAt (w2.alloc (.cells #[.int .u8 (IntKind.u8.wrap k)] 5)).drew (some ⟨w2.heap.size, 0, none⟩) [IntKind.u8.wrap k]) :=
    BsAt.new (BsAt.of_block (heap_alloc_new _ _) [IntKind.u8.wrap k] rfl (by rw [hkk]; simp; omega)) (New.drew (New.refl _))
  have hlt2 : w.heap.size < w2.heap.size := by omega
  have E3 : Hid ((w2.alloc (.cells #[.int .u8 (IntKind.u8.wrap k)] 5)).drew.cell? ⟨w.heap.size, 1, none⟩ = some (.slice a n c)) := by unfold Hid; go_simp
  have H3 : Hid ((w2.alloc (.cells #[.int .u8 (IntKind.u8.wrap k)] 5)).drew.heap.size = w2.heap.size + 1) := by unfold Hid; simp
  clear c0 c1 hgr2 hat2 hb1 ho1 ho0' hn01 hn1 ho2 hkk
  go_wp2_with fail
  go_region_law (first
    | (refine step_ap _ rfl (.tmp 11) (.tmp 15) rfl 0 Try.underlying22 hi hz0 hz1 hz2 (.slice (some ⟨g2, 0, none⟩) 4 cap2) 4 _ rfl HO3.out (some ⟨w2.heap.size, 0, none⟩) 1 1 _ rfl HB3.out rfl (by intro h; cases h) (by omega) (by omega) (Nat.zero_le _) (w2.heap.size + 1) H3.out ?_; intro g4 cap4 w4 ho4 hgr4 hat4; have e1 : w4.cell? ⟨w.heap.size, 1, none⟩ = some (.slice a n c) := hgr4.cell E3.out (by simp [Value.ownBlock]; omega); have hn4 : New w w4 := hn3.grow hgr4 (by intro j hj; simp [Value.ownBlock] at hj; omega); have hg4 : w.heap.size ≤ g4 := by (rcases hat4 with h' | h'; (simp [Value.ownBlock] at h'; omega); omega))
    | (refine step_ap _ rfl (.tmp 16) (.tmp 18) rfl 0 Try.underlying22 hi hz0 hz1 hz2 (.slice (some ⟨g4, 0, none⟩) 5 cap4) 5 _ rfl ho4 a n c _ rfl (h.new hn4) hn hnone (by omega) (by omega) (Nat.zero_le _) _ rfl ?_; intro g5 cap5 w5 ho5 hgr5 hat5))
  all_goals
    go_wp2
    go_ret
    have hn5 : New w w5 := hn4.grow hgr5 (by intro j hj; simp [Value.ownBlock] at hj; omega)
    have hg5 : w.heap.size ≤ g5 := by
      rcases hat5 with h' | h'
      · simp [Value.ownBlock] at h'; omega
      · have := hn4.size; omega
    refine ⟨g5, cap5, ret_slice (Nat.add_comm 5 n), hg5, ?_, hn5⟩
    have e : packOf k zs = (([255, 255] ++ [((n : Int) + 5) / 256, ((n : Int) + 5) % 256]) ++ [IntKind.u8.wrap k]) ++ zs := by rw [HK.out]; simp [packOf, hn]
    rw [e, Nat.add_comm n 5]
    exact ho5

end Go.Proofs.Ytljkcijakdhdiaa
