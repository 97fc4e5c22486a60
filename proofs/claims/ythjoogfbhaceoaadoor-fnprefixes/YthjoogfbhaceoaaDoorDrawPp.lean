/- What is proved here: what the bending of the bytes of a text and the drawing of a text answer. -/
import Derived.Test.YthjoogfbhaceoaaDoorPxDraw
import Derived.Test.YthjoogfbhaceoaaDoorTxFn
import Derived.Laws.IdiomStrings
import Derived.ArgAppend
import Derived.Maps.AppendAt
namespace Go.Proofs.YthjoogfbhaceoaaDoor
open Go.RowKit Go.Sort

/-- The row that the bytes of a text are laid in. -/
def Rb (w : World) (g m cap : Nat) (ys : List Int) : Prop :=
  ∃ cur : Array Value, w.heap[g]? = some (.cells cur 5 (cap, cap + 1)) ∧ cur.size = cap ∧ m ≤ cap ∧ ys.length = m ∧ cur.toList.take m = ys.map (Value.int .u8) ∧ ∀ y ∈ ys, 0 ≤ y ∧ y ≤ 255

theorem Rb.lt {w : World} {g m cap : Nat} {ys : List Int} (h : Rb w g m cap ys) : g < w.heap.size := by
  obtain ⟨cur, hg, _⟩ := h
  rcases Nat.lt_or_ge g w.heap.size with hl | hl
  · exact hl
  · rw [Array.getElem?_eq_none hl] at hg; cases hg
theorem Rb.turn {w w' : World} {g m cap : Nat} {ys : List Int} {S : Nat → Prop} (h : Rb w g m cap ys) (t : Turn S w w') (hS : ¬ S g) : Rb w' g m cap ys := by
  have hl := h.lt
  obtain ⟨cur, hg, r⟩ := h
  exact ⟨cur, (t.block g hl hS).trans hg, r⟩
theorem Rb.cell {w : World} {g m cap : Nat} {ys : List Int} (h : Rb w g m cap ys) (j : Nat) (hj : j < cap) : ∃ v, w.cell? ⟨g, j, none⟩ = some v := by
  obtain ⟨cur, hg, hs, _⟩ := h
  refine ⟨cur[j], ?_⟩
  rw [Joins.cell_of_block hg]
  exact Array.getElem?_eq_getElem (by omega)
theorem Rb.free {w : World} {g m cap : Nat} {ys : List Int} (h : Rb w g m cap ys) (j : Nat) (hj : j < cap) : w.frozen? ⟨g, j, none⟩ = false := by
  obtain ⟨cur, hg, _⟩ := h
  simp [World.frozen?, hg]
  omega
theorem Rb.bs {w : World} {g m cap : Nat} {ys : List Int} (h : Rb w g m cap ys) : BsAt w (some ⟨g, 0, none⟩) ys := by
  obtain ⟨cur, hg, hs, hm, hl, ht, hb⟩ := h
  intro i z hz
  have hi : i < ys.length := (List.getElem?_eq_some_iff.1 hz).1
  refine ⟨g, 0, rfl, ?_, hb z (List.mem_of_getElem? hz)⟩
  rw [Nat.zero_add, Joins.cell_of_block hg, ← Array.getElem?_toList]
  have h1 : (cur.toList.take m)[i]? = some (Value.int .u8 z) := by rw [ht]; simp [hz]
  rw [List.getElem?_take] at h1
  rw [if_pos (by omega)] at h1
  exact h1
theorem Rb.set {w : World} {g m cap : Nat} {ys : List Int} (h : Rb w g m cap ys) (i : Nat) (x : Int) (hx : 0 ≤ x ∧ x ≤ 255) : Rb (w.setCell ⟨g, i, none⟩ (.int .u8 x)) g m cap (ys.set i x) := by
  obtain ⟨cur, hg, hs, hm, hl, ht, hb⟩ := h
  refine ⟨_, Joins.block_setCell hg _, by simpa using hs, hm, by simpa using hl, ?_, ?_⟩
  · rw [Array.toList_setIfInBounds, List.take_set, ht, List.map_set]
  · intro y hy
    rcases List.mem_or_eq_of_mem_set hy with h' | h'
    · exact hb y h'
    · subst h'; exact hx

theorem Rb.push {w : World} {g m cap : Nat} {ys : List Int} (h : Rb w g m cap ys) (x : Int) (hm1 : m < cap) (hx : 0 ≤ x ∧ x ≤ 255) : Rb (w.setCell ⟨g, m, none⟩ (.int .u8 x)) g (m + 1) cap (ys ++ [x]) := by
  obtain ⟨cur, hg, hs, hm, hl, ht, hb⟩ := h
  refine ⟨_, Joins.block_setCell hg _, by simpa using hs, by omega, by simp [hl], ?_, ?_⟩
  · have hc : m < cur.toList.length := by simpa [hs] using hm1
    rw [Array.toList_setIfInBounds, List.take_add_one, List.getElem?_set_self hc, List.take_set, List.set_eq_of_length_le (by simp; omega), ht]
    simp
  · intro y hy
    rcases List.mem_append.1 hy with h' | h'
    · exact hb y h'
    · simp at h'; subst h'; exact hx

def ofU (s : ByteArray) : List Int := s.data.toList.map fun b => (b.toNat : Int)

theorem bytes_of (s : ByteArray) (w : World) : ∃ (w' : World) (cap : Nat), (convert 9 22 (.string s)).run Tryd.prog w = .ok (.slice (some ⟨w.heap.size, 0, none⟩) s.size cap) w' ∧ New w w' ∧ Rb w' w.heap.size s.size cap (ofU s) := by
  refine ⟨_, _, run_bytes_of_string w _ _ 5 s Tryd.underlying9 Tryd.underlying22 Tryd.underlying5, (New.refl w).drew.alloc _, ?_⟩
  have hge := grownCap_ge w s.size 0 5
  generalize grownCap w s.size 0 5 = cap at *
  have hsz : (bytesRow s cap).size = cap := by
    have : s.data.size = s.size := rfl
    simp [bytesRow]
    omega
  refine ⟨bytesRow s cap, ?_, hsz, hge, by rw [ofU, List.length_map, ← Lib.size_eq], ?_, ?_⟩
  · rw [hsz]
    exact heap_alloc_new _ _
  · unfold bytesRow ofU
    rw [Array.toList_append, List.take_append_of_le_length (by simp), List.take_of_length_le (by simp)]
    simp
  · intro y hy
    simp only [ofU, List.mem_map] at hy
    obtain ⟨b, _, rfl⟩ := hy
    have := b.toNat_lt
    omega

/-- Bytes that were bent: of at most one more. -/
def BentAns (B : Nat) (a : Option Addr) (n c : Nat) (zs : List Int) (t m : Nat) (e : Ending) (w' : World) : Prop :=
  ∃ (g m' cap t' : Nat) (ys : List Int), e = .returned (.slice (some ⟨g, 0, none⟩) m' cap) ∧ m' ≤ m + 1 ∧ ys.length = m' ∧ t' ≤ t + 10 ∧ BsAt w' (some ⟨g, 0, none⟩) ys ∧ Sc w' B a n c zs t'

set_option maxHeartbeats 3200000 in
theorem bent_sc {B n c t g m cap : Nat} {a : Option Addr} {zs ys : List Int} {w : World} (h : Sc w B a n c zs t) (ht : t ≤ 100000) (ha : ∀ x, zs ≠ [] → a = some x → x.block < g) (ho : Rb w g m cap ys) (hgB : g ≠ B) (hmm : m ≤ 1000) :
    Calls Tryd.prog 18 #[.pointer (some ⟨B, 0, none⟩), .slice (some ⟨g, 0, none⟩) m cap] w fun e w' => BentAns B a n c zs t m e w' ∧ Turn (fun k => k = B ∨ k = g) w w' := by
  obtain ⟨i0, hi, hz0, hz1, hz2⟩ := info_parts Tryd.infoU8
  have HL : Hid (ys.length = m) := by obtain ⟨_, _, _, _, h', _⟩ := ho; exact h'
  have hmc : m ≤ cap := by obtain ⟨_, _, _, h', _⟩ := ho; exact h'
  have tw : ∀ {x y : World}, Turn (fun k => k = B) x y → Turn (fun k => k = B ∨ k = g) x y := fun p => p.mono (fun _ _ h => .inl h)
  have TW : Hid (∀ {x y : World}, Turn (fun k => k = B) x y → Turn (fun k => k = B ∨ k = g) x y) := tw
  clear tw
  by_cases h0 : m = 0
  · subst h0
    go_enter Tryd.func18, Tryd.ntmps18
    go_wp2
    go_ret
    exact ⟨⟨g, 0, cap, t, ys, rfl, by omega, HL.out, by omega, ho.bs, h⟩, Turn.refl _ _⟩
  have hm0 : ((m : Int) == 0) = false := by simp; omega
  go_enter Tryd.func18, Tryd.ntmps18
  go_wp2_with fail
  refine (chance_sc h 3 (by omega) (by omega)).mono ?_
  rintro e w1 ⟨r1, rfl, hs1, ht1⟩
  have ho1 := ho.turn ht1 hgB
  cases r1 with
  | false =>
    go_wp2
    go_ret
    exact ⟨⟨g, m, cap, _, ys, rfl, by omega, HL.out, by omega, ho1.bs, hs1⟩, TW.out ht1⟩
  | true =>
    go_wp2_with fail
    refine (next_sc hs1 (m : Int) (by omega) (by omega)).mono ?_
    rintro e w2 ⟨r2, rfl, hd2, hs2, ht2⟩
    obtain ⟨hr0, hr1, -⟩ := hd2
    have hr1 := hr1 (by omega)
    obtain ⟨i, rfl⟩ := Int.eq_ofNat_of_zero_le hr0
    have ho2 := ho1.turn ht2 hgB
    have t12 := Turn.trans ht1 ht2 (fun _ _ h => h)
    clear ht1 ht2 hs1 ho1
    go_wp2_with fail
    refine (next_sc hs2 3 (by omega) (by omega)).mono ?_
    rintro e w3 ⟨r3, rfl, hd3, hs3, ht3⟩
    have ho3 := ho2.turn ht3 hgB
    have t13 := Turn.trans t12 ht3 (fun _ _ h => h)
    clear t12 ht3 hs2 ho2
    by_cases e0 : r3 = 0
    · subst e0
      have n0 : ((0 : Int) == 0) = true := rfl
      go_wp2_with fail
      refine (next_sc hs3 256 (by omega) (by omega)).mono ?_
      rintro e w4 ⟨x, rfl, hdx, hs4, ht4⟩
      obtain ⟨p1, p2, -⟩ := hdx
      have p2 := p2 (by omega)
      have ho4 := ho3.turn ht4 hgB
      have t14 := Turn.trans t13 ht4 (fun _ _ h => h)
      have hfz := ho4.free i (by omega)
      obtain ⟨v, hv⟩ := ho4.cell i (by omega)
      have ho5 := ho4.set i x ⟨p1, by omega⟩
      have tg : Turn (fun k => k = g) w4 (w4.setCell ⟨g, i, none⟩ (.int .u8 x)) := Turn.set (S := fun k => k = g) (Turn.refl _ _) rfl _
      have hs5 := hs4.turn tg (fun e => hgB e.symm) (fun y hz' hy e => by have := ha y hz' hy; omega)
      have hb5 := ho5.bs
      have t15 : Turn (fun k => k = B ∨ k = g) w (w4.setCell ⟨g, i, none⟩ (.int .u8 x)) := Turn.trans (TW.out t14) tg (fun i _ e => .inr e)
      clear ht4 hs3 t13 ho3 ho4 ho5
      go_wp2
      go_ret
      exact ⟨⟨g, m, cap, _, ys.set i x, rfl, by omega, by have := HL.out; rw [List.length_set]; exact this, by omega, hb5, hs5⟩, t15⟩
    · by_cases e1 : r3 = 1
      · subst e1
        have n0 : ((1 : Int) == 0) = false := rfl
        have n1 : ((1 : Int) == 1) = true := rfl
        have hic : i ≤ cap := by omega
        go_wp2
        go_ret
        exact ⟨⟨g, i, cap, _, ys.take i, rfl, by omega, by have := HL.out; rw [List.length_take]; omega, by omega, ho3.bs.take i, hs3⟩, TW.out t13⟩
      · obtain rfl : r3 = 2 := by obtain ⟨p1, p2, -⟩ := hd3; have p2 := p2 (by omega); omega
        have n0 : ((2 : Int) == 0) = false := rfl
        have n1 : ((2 : Int) == 1) = false := rfl
        have n2 : ((2 : Int) == 2) = true := rfl
        have hbl := Blk.mk w3 w3.heap.size 2 #[.int .i64 0, .int .i64 255] rfl
        have hal := (New.refl w3).alloc (.cells #[.int .i64 0, .int .i64 255] 2)
        go_wp2_with fail
        refine (pick_sc (hs3.new hal) [0, 255] hbl 2 rfl (by omega) (by omega) (by omega)).mono ?_
        rintro e w4 ⟨x, rfl, hx, hs4, ht4⟩
        have hxb : 0 ≤ x ∧ x ≤ 255 := by
          simp only [List.mem_cons, List.not_mem_nil, or_false] at hx
          rcases hx with rfl | rfl <;> omega
        have ho4 := (ho3.turn hal (fun f => f)).turn ht4 hgB
        have t14 := Turn.trans (Turn.trans t13 hal.turn (fun _ _ h => h)) ht4 (fun _ _ h => h)
        have hA4 := (New.refl w4).alloc (.cells #[.int .u8 x] 5)
        have ho5 := ho4.turn hA4 (fun f => f)
        have hbs5 := ho5.bs
        have hs5 := hs4.new hA4
        have t15 : Turn (fun k => k = B ∨ k = g) w (w4.alloc (.cells #[.int .u8 x] 5)) := Turn.trans (TW.out t14) hA4.turn (fun _ _ h => h)
        have holds : ∀ j u, (ys.map (Value.int .u8))[j]? = some u → (w4.alloc (.cells #[.int .u8 x] 5)).cell? ⟨g, 0 + j, none⟩ = some u := by
          intro j u hj
          rw [List.getElem?_map, Option.map_eq_some_iff] at hj
          obtain ⟨z, hz, rfl⟩ := hj
          obtain ⟨b', off', e', hc', _⟩ := hbs5 j z hz
          simp only [Option.some.injEq, Addr.mk.injEq, and_true] at e'
          obtain ⟨rfl, rfl⟩ := e'
          exact hc'
        have hspare : m + 1 ≤ cap → ∀ j, j < [Value.int .u8 x].length → ((w4.alloc (.cells #[.int .u8 x] 5)).cell? ⟨g, 0 + m * 1 + j, none⟩).isSome = true ∧ (w4.alloc (.cells #[.int .u8 x] 5)).frozen? ⟨g, 0 + m * 1 + j, none⟩ = false := by
          intro hc j hj
          obtain rfl : j = 0 := by simpa using hj
          obtain ⟨v, hv⟩ := ho5.cell m (by omega)
          refine ⟨by simp [hv], ?_⟩
          simpa using ho5.free m (by omega)
        clear hbl hal ht4 hs3 t13 ho3 hx e0 e1 ho4 hs4 t14
        go_wp2_with (at_builtin; refine wpList_append_arg _ rfl (.tmp 36) (.tmp 41) 22 rfl 5 i0 (.int .u8 0) 1 1 Tryd.underlying22 hi hz0 hz1 hz2 rfl (by decide) g 0 m cap (ys.map (Value.int .u8)) rfl (by simp [HL.out]) holds ⟨w4.heap.size, 0, none⟩ 1 1 [.int .u8 x] rfl rfl (cell_one_new _ _ _) (by simp [Value.oneCell']) hspare (by unfold maxLen; omega) (by omega) ?_ ?_)
        · intro hroom
          have ho6 := ho5.push x (by omega) hxb
          have tg : Turn (fun k => k = g) (w4.alloc (.cells #[.int .u8 x] 5)) ((w4.alloc (.cells #[.int .u8 x] 5)).setCell ⟨g, m, none⟩ (.int .u8 x)) := Turn.set (S := fun k => k = g) (Turn.refl _ _) rfl _
          have hs6 := hs5.turn tg (fun e => hgB e.symm) (fun y hz' hy e => by have := ha y hz' hy; omega)
          have t16 := Turn.trans t15 tg (fun i _ e => .inr e)
          have hb6 := ho6.bs
          have hset : (w4.alloc (.cells #[.int .u8 x] 5)).setCells g m [.int .u8 x] = (w4.alloc (.cells #[.int .u8 x] 5)).setCell ⟨g, m, none⟩ (.int .u8 x) := rfl
          rw [hset]
          generalize (w4.alloc (.cells #[.int .u8 x] 5)).setCell ⟨g, m, none⟩ (.int .u8 x) = w6 at *
          clear ho6 ho5 hs5 t15 holds hspare hset tg hbs5
          go_wp2
          go_ret
          exact ⟨⟨g, m + 1, cap, _, ys ++ [x], rfl, by omega, by have := HL.out; simp; omega, by omega, hb6, hs6⟩, t16⟩
        · intro hfull v' w6 ho6 hgr6
          obtain ⟨g', cap', rfl⟩ := Joins.ownsRow_form ho6 (by omega)
          have hn6 := New.of_grown hgr6
          have hys6 : ∀ y ∈ ys ++ [x], 0 ≤ y ∧ y ≤ 255 := by
            obtain ⟨_, _, _, _, _, _, hb⟩ := ho5
            intro y hy
            rcases List.mem_append.1 hy with h' | h'
            · exact hb y h'
            · simp at h'; subst h'; exact hxb
          have hb6 : BsAt w6 (some ⟨g', 0, none⟩) (ys ++ [x]) := BsAt.of_own (by simpa using ho6) hys6
          have hs6 := hs5.new hn6
          have t16 := Turn.trans t15 hn6.turn (fun _ _ h => h)
          clear ho6 hgr6 ho5 hs5 t15 holds hspare hbs5 hn6
          go_wp2
          go_ret
          exact ⟨⟨g', m + 1, cap', _, ys ++ [x], rfl, by omega, by have := HL.out; simp; omega, by omega, hb6, hs6⟩, t16⟩

end Go.Proofs.YthjoogfbhaceoaaDoor
