/- What is proved here: what the counting, the copying and the comparing of links answer, for lists of at most 1048576 links whose lists are so too. -/
import Derived.Test.YtkahlmkhancloabL9Op
import Derived.Test.YtkahlmkhancloabTn9
import Derived.Deep.CutRange
namespace Go.Proofs.Ytkahlmkhancloab
open Go.RowKit Go.Sort
set_option linter.unusedVariables false

theorem szBytes_okZ (a : Option Addr) (n c : Nat) (z : Int) (w : World) (h0 : 0 ≤ z) (hz : z ≤ 1048576) (h : (n : Int) ≤ z) : Calls Try.prog 32 #[.slice a n c, .int .i64 z] w fun e w' => e = .returned (.int .i64 (z - n)) ∧ New w w' := by
  obtain ⟨l, rfl⟩ := Int.eq_ofNat_of_zero_le h0
  exact szBytes_ok a n c l w (by omega) (by omega)

theorem szBytes_bigZ (a : Option Addr) (n c : Nat) (z : Int) (w : World) (h0 : 0 ≤ z) (hz : z ≤ 1048576) (hm : n ≤ maxLen) (h : z < (n : Int)) : Calls Try.prog 32 #[.slice a n c, .int .i64 z] w fun e w' => e = .returned (.int .i64 (-1)) ∧ New w w' := by
  obtain ⟨l, rfl⟩ := Int.eq_ofNat_of_zero_le h0
  exact szBytes_big a n c l w (by omega) hm (by omega)

set_option maxHeartbeats 1600000 in
theorem szLk_any (st pe ho si sp : Int) (b t : Option Addr) (n c m d : Nat) (bs : List Int) (V : List Tv) (z : Int) (w : World) (hb : BsAt w b bs) (ht : TdCame w t V) (hn : bs.length = n) (hm : V.length = m) (hn1 : n ≤ maxLen) (hm1 : m ≤ maxLen) (h0 : 0 ≤ z) (hz : z ≤ 1048576) :
    Calls Try.prog 47 #[.agg #[.int .i64 st, .int .i64 pe, .int .i64 ho, .int .i64 si, .int .i64 sp, .slice b n c, .slice t m d], .int .i64 z] w fun e w' => (∃ y : Int, e = .returned (.int .i64 y) ∧ (y = -1 ∨ (0 ≤ y ∧ y ≤ 1048576 ∧ n ≤ 1048576 ∧ m ≤ 1048576 ∧ ∀ u ∈ V, u.r.xs.length ≤ 1048576))) ∧ New w w' := by
  have hw := (New.refl w).alloc (.cells #[.int .i64 st, .int .i64 pe, .int .i64 ho, .int .i64 si, .int .i64 sp, .slice b n c, .slice t m d] 98)
  have bA := Blk.mk w w.heap.size 98 #[.int .i64 st, .int .i64 pe, .int .i64 ho, .int .i64 si, .int .i64 sp, .slice b n c, .slice t m d] rfl
  have HN : Hid (bs.length = n) := hn
  have HM : Hid (V.length = m) := hm
  clear hn hm
  by_cases hfit : (n : Int) ≤ z
  · go_enter Try.func47, Try.ntmps47
    go_wp2_with fail
    refine (szBytes_okZ b n c z _ h0 hz hfit).mono ?_
    rintro e w1 ⟨rfl, hn1'⟩
    have b1 := bA.new hn1'
    have c1 := b1.cells
    have hw1 := hw.trans hn1'
    have g0 : 0 ≤ z - n := by omega
    have g1 : z - n ≤ 1048576 := by omega
    have g2 : n ≤ 1048576 := by omega
    generalize z - n = y at *
    go_wp2_with fail
    refine (szTds_any t m d V y _ (ht.new hw1) HM.out hm1 g0 g1).mono ?_
    rintro e w2 ⟨⟨y2, rfl, hy⟩, hn2⟩
    rcases hy with rfl | ⟨k0, k1, k2, k3⟩
    · go_wp2
      go_ret
      exact ⟨⟨_, rfl, .inl rfl⟩, hw1.trans hn2⟩
    · have K3 : Hid (∀ u ∈ V, u.r.xs.length ≤ 1048576) := k3
      clear k3
      go_wp2
      go_ret
      exact ⟨⟨_, rfl, .inr ⟨k0, k1, g2, k2, K3.out⟩⟩, hw1.trans hn2⟩
  · go_enter Try.func47, Try.ntmps47
    go_wp2_with fail
    refine (szBytes_bigZ b n c z _ h0 hz hn1 (by omega)).mono ?_
    rintro e w1 ⟨rfl, hn1'⟩
    go_wp2
    go_ret
    exact ⟨⟨_, rfl, .inl rfl⟩, hw.trans hn1'⟩

set_option maxHeartbeats 3200000 in
theorem szLks_any (A : Option Addr) (n c : Nat) (V : List Lv) (L : Int) (w : World) (h : LkCame w A V) (hn : V.length = n) (hm : n ≤ maxLen) (hL0 : 0 ≤ L) (hL : L ≤ 1048576) :
    Calls Try.prog 19 #[.slice A n c, .int .i64 L] w fun e w' => (∃ z : Int, e = .returned (.int .i64 z) ∧ (z = -1 ∨ (0 ≤ z ∧ z ≤ 1048576 ∧ n ≤ 1048576 ∧ ∀ v ∈ V, v.small))) ∧ New w w' := by
  have HN : Hid (V.length = n) := hn
  unfold maxLen at hm
  clear hn
  by_cases hbig : L < (n : Int)
  case pos =>
    go_enter Try.func19, Try.ntmps19
    go_wp2
    go_ret
    exact ⟨⟨_, rfl, .inl rfl⟩, New.refl _⟩
  have hm' : n ≤ 1048576 := by omega
  clear hm
  go_enter Try.func19, Try.ntmps19
  go_wp2
  go_loopw [1, 5] (fun t i wr => ∃ (k : Nat) (z : Int), k ≤ n ∧ 0 ≤ z ∧ z ≤ 1048576 ∧ t = .int .i64 z ∧ i = .int .i64 k ∧ New w wr ∧ ∀ v ∈ V.take k, v.small) (fun _ i _ => n - (intOf i).toNat)
  case atStart => exact ⟨0, _, Nat.zero_le _, by omega, by omega, rfl, rfl, New.refl _, by simp⟩
  case round =>
    obtain ⟨k, z, hk, hz0, hz1, rfl, rfl, hnw, hall⟩ := hrel
    by_cases hlt : k < n
    · obtain ⟨g, off, st, pe, ho, si, sp, bs, b, bc, U, t, tc, p, q, rfl, hv, hlen, hlen2, hbs, htd, hp, hq, q0, q1, q2, q3, q4, q5, q6⟩ := (h.new hnw).at k (by have := HN.out; omega)
      have HL : Hid (bs.length = p) := hlen
      have HQ : Hid (U.length = q) := hlen2
      have hall' : Hid (p ≤ 1048576 → q ≤ 1048576 → (∀ u ∈ U, u.r.xs.length ≤ 1048576) → ∀ v ∈ V.take (k + 1), v.small) := by
        intro h1 h2 h3 v hv'
        obtain ⟨hk', e⟩ := List.getElem?_eq_some_iff.1 hv
        rw [List.take_succ_eq_append_getElem hk', e] at hv'
        rcases List.mem_append.1 hv' with h4 | h4
        · exact hall v h4
        · obtain rfl := List.mem_singleton.1 h4
          exact ⟨by show bs.length ≤ _; rw [HL.out]; exact h1, by show U.length ≤ _; rw [HQ.out]; exact h2, h3⟩
      clear hv hlen hlen2 h hall
      go_wp2_with fail
      refine (szLk_any st pe ho si sp b t p bc q tc bs U z _ hbs htd HL.out HQ.out hp hq hz0 hz1).mono ?_
      rintro e w1 ⟨⟨y, rfl, hy⟩, hn1⟩
      rcases hy with rfl | ⟨k0, k1, k2, k3, k4⟩
      · clear q0 q1 q2 q3 q4 q5 q6
        go_wp2
        go_ret
        exact ⟨⟨_, rfl, .inl rfl⟩, hnw.trans hn1⟩
      · clear q0 q1 q2 q3 q4 q5 q6
        have K4 : Hid (∀ v ∈ V.take (k + 1), v.small) := hall'.out k2 k3 k4
        clear k4 hall'
        go_wp2
        go_roundw
        case rel => exact ⟨k + 1, y, by omega, k0, k1, rfl, by go_num, hnw.trans hn1, K4.out⟩
        case measure => simp [intOf]; omega
    · go_wp2
      go_ret
      refine ⟨⟨_, rfl, .inr ⟨hz0, hz1, hm', ?_⟩⟩, hnw⟩
      rw [List.take_of_length_le (by have := HN.out; omega)] at hall
      exact hall

set_option maxHeartbeats 3200000 in
theorem toLk_any (st pe ho si sp : Int) (b t : Option Addr) (n c m d : Nat) (bs : List Int) (V : List Tv) (w : World) (hb : BsAt w b bs) (ht : TdAt w t V) (hn : bs.length = n) (hm : V.length = m) (hn1 : n ≤ 1048576) (hm1 : m ≤ 1048576) :
    Calls Try.prog 54 #[.agg #[.int .i64 st, .int .i64 pe, .int .i64 ho, .int .i64 si, .int .i64 sp, .slice b n c, .slice t m d]] w fun e w' => ∃ g g1 V', e = .returned (.agg #[.int .i64 st, .int .i64 pe, .int .i64 ho, .int .i64 si, .int .i64 sp, .slice (some ⟨g, 0, none⟩) n n, .slice (some ⟨g1, 0, none⟩) m m]) ∧ V'.map Tv.r = V.map Tv.r ∧ LkOwn w' w.heap.size w'.heap.size ⟨st, pe, ho, si, sp, bs, some ⟨g, 0, none⟩, n, V', some ⟨g1, 0, none⟩, m⟩ ∧ New w w' := by
  have hw0 := (((New.refl w).alloc (.cells #[.int .i64 st, .int .i64 pe, .int .i64 ho, .int .i64 si, .int .i64 sp, .slice b n c, .slice t m d] 98)).alloc (.cells #[.int .i64 0, .int .i64 0, .int .i64 0, .int .i64 0, .int .i64 0, .slice none 0 0, .slice none 0 0] 67)).alloc (.cells #[.int .i64 0, .int .i64 0, .int .i64 0, .int .i64 0, .int .i64 0, .slice none 0 0, .slice none 0 0] 67)
  have b0 : Blk (((w.alloc (.cells #[.int .i64 st, .int .i64 pe, .int .i64 ho, .int .i64 si, .int .i64 sp, .slice b n c, .slice t m d] 98)).alloc (.cells #[.int .i64 0, .int .i64 0, .int .i64 0, .int .i64 0, .int .i64 0, .slice none 0 0, .slice none 0 0] 67)).alloc (.cells #[.int .i64 0, .int .i64 0, .int .i64 0, .int .i64 0, .int .i64 0, .slice none 0 0, .slice none 0 0] 67)) w.heap.size 98 #[.int .i64 st, .int .i64 pe, .int .i64 ho, .int .i64 si, .int .i64 sp, .slice b n c, .slice t m d] := ((Blk.mk _ _ _ _ rfl).alloc _).alloc _
  have b1 : Blk (((w.alloc (.cells #[.int .i64 st, .int .i64 pe, .int .i64 ho, .int .i64 si, .int .i64 sp, .slice b n c, .slice t m d] 98)).alloc (.cells #[.int .i64 0, .int .i64 0, .int .i64 0, .int .i64 0, .int .i64 0, .slice none 0 0, .slice none 0 0] 67)).alloc (.cells #[.int .i64 0, .int .i64 0, .int .i64 0, .int .i64 0, .int .i64 0, .slice none 0 0, .slice none 0 0] 67)) (w.heap.size + 1) 67 #[.int .i64 0, .int .i64 0, .int .i64 0, .int .i64 0, .int .i64 0, .slice none 0 0, .slice none 0 0] := (Blk.mk _ _ _ _ (by simp)).alloc _
  have b2 : Blk (((w.alloc (.cells #[.int .i64 st, .int .i64 pe, .int .i64 ho, .int .i64 si, .int .i64 sp, .slice b n c, .slice t m d] 98)).alloc (.cells #[.int .i64 0, .int .i64 0, .int .i64 0, .int .i64 0, .int .i64 0, .slice none 0 0, .slice none 0 0] 67)).alloc (.cells #[.int .i64 0, .int .i64 0, .int .i64 0, .int .i64 0, .int .i64 0, .slice none 0 0, .slice none 0 0] 67)) (w.heap.size + 1 + 1) 67 #[.int .i64 0, .int .i64 0, .int .i64 0, .int .i64 0, .int .i64 0, .slice none 0 0, .slice none 0 0] := Blk.mk _ _ _ _ (by simp)
  have ge1 : w.heap.size ≤ w.heap.size + 1 := by omega
  have ge2 : w.heap.size ≤ w.heap.size + 1 + 1 := by omega
  have d01 : ¬ w.heap.size + 1 + 1 = w.heap.size := by omega
  have d12 : ¬ w.heap.size + 1 + 1 = w.heap.size + 1 := by omega
  have HN : Hid (bs.length = n) := hn
  have HM : Hid (V.length = m) := hm
  have HB : Hid (∀ z ∈ bs, 0 ≤ z ∧ z ≤ 255) := hb.lt
  clear hn hm
  go_enter Try.func54, Try.ntmps54
  go_wp2_with fail
  refine (toSes_any st pe ho si sp _).mono ?_
  rintro e w1 ⟨rfl, hn1'⟩
  have n1' := hw0.trans hn1'
  have p0 := b0.new hn1'
  have p1 := b1.new hn1'
  have p2 := b2.new hn1'
  have c0 := p0.cells
  have c2' := p2.cells
  have f2 := p2.frees
  have hs0 := hn1'.size
  simp at hs0
  have t1 : Turn (fun k => k = w.heap.size + 1 + 1) w1 (((((w1.setCell ⟨w.heap.size + 1 + 1, 0, none⟩ (.int .i64 st)).setCell ⟨w.heap.size + 1 + 1, 1, none⟩ (.int .i64 pe)).setCell ⟨w.heap.size + 1 + 1, 2, none⟩ (.int .i64 ho)).setCell ⟨w.heap.size + 1 + 1, 3, none⟩ (.int .i64 si)).setCell ⟨w.heap.size + 1 + 1, 4, none⟩ (.int .i64 sp)) := Turn.here9 (Turn.here9 (Turn.here9 (Turn.here9 (Turn.here9 (Turn.refl _ _) _) _) _) _) _
  have n1'' : New w (((((w1.setCell ⟨w.heap.size + 1 + 1, 0, none⟩ (.int .i64 st)).setCell ⟨w.heap.size + 1 + 1, 1, none⟩ (.int .i64 pe)).setCell ⟨w.heap.size + 1 + 1, 2, none⟩ (.int .i64 ho)).setCell ⟨w.heap.size + 1 + 1, 3, none⟩ (.int .i64 si)).setCell ⟨w.heap.size + 1 + 1, 4, none⟩ (.int .i64 sp)) := ((((n1'.setCell ge2 _).setCell ge2 _).setCell ge2 _).setCell ge2 _).setCell ge2 _
  have q2 := (((((p2.set 0 (.int .i64 st)).set 1 (.int .i64 pe)).set 2 (.int .i64 ho)).set 3 (.int .i64 si)).set 4 (.int .i64 sp))
  have q0 := p0.turn t1 (by omega)
  have q1 := p1.turn t1 (by omega)
  have sz1 := t1.size
  clear b0 b1 b2 hn1' p0 p1 p2 hw0
  go_wp2_with fail
  refine (toBytes_any b n c bs _ (hb.new n1'') HN.out hn1).mono ?_
  rintro e w2 ⟨g, rfl, hg, hog, hn2⟩
  have n2' := n1''.trans hn2
  have s0 := q0.new hn2
  have s1 := q1.new hn2
  have s2 : Blk w2 (w.heap.size + 1 + 1) 67 #[.int .i64 st, .int .i64 pe, .int .i64 ho, .int .i64 si, .int .i64 sp, .slice none 0 0, .slice none 0 0] := q2.new hn2
  have lt1 := (hog.lt g rfl).2
  have hg1' : w.heap.size + 3 ≤ g := by omega
  clear c0 c2' f2 q0 q1 q2 t1
  have c0 := s0.cells
  have c2' := s2.cells
  have f2 := s2.frees
  have t2 : Turn (fun k => k = w.heap.size + 1 + 1) w2 (w2.setCell ⟨w.heap.size + 1 + 1, 5, none⟩ (.slice (some ⟨g, 0, none⟩) n n)) := Turn.here9 (Turn.refl _ _) _
  have n2'' : New w (w2.setCell ⟨w.heap.size + 1 + 1, 5, none⟩ (.slice (some ⟨g, 0, none⟩) n n)) := n2'.setCell ge2 _
  have q2 := s2.set 5 (.slice (some ⟨g, 0, none⟩) n n)
  have q1 := s1.turn t2 (by omega)
  have oo1 := own_turn hog t2 (by omega)
  have sz2 := t2.size
  clear hn2 s0 s1 s2 hog
  go_wp2_with fail
  refine (toTds_any t m d V _ (ht.new n2'') HM.out hm1).mono ?_
  rintro e w3 ⟨g1, V', rfl, hmap, hot, hn3⟩
  have n3' := n2''.trans hn3
  have s1 := q1.new hn3
  have s2 : Blk w3 (w.heap.size + 1 + 1) 67 #[.int .i64 st, .int .i64 pe, .int .i64 ho, .int .i64 si, .int .i64 sp, .slice (some ⟨g, 0, none⟩) n n, .slice none 0 0] := q2.new hn3
  have o31 := own_turn oo1 hn3 (fun f => f)
  have sz3 := hn3.size
  have HV : Hid (V'.length = m) := by
    have := congrArg List.length hmap
    simp at this
    show V'.length = m
    rw [this]; exact HM.out
  have HMP : Hid (V'.map Tv.r = V.map Tv.r) := hmap
  have hlo : w.heap.size + 3 ≤ (w2.setCell ⟨w.heap.size + 1 + 1, 5, none⟩ (.slice (some ⟨g, 0, none⟩) n n)).heap.size := by omega
  have HO : Hid (LkOwn w3 (w.heap.size + 3) w3.heap.size ⟨st, pe, ho, si, sp, bs, some ⟨g, 0, none⟩, n, V', some ⟨g1, 0, none⟩, m⟩) := by
    refine ⟨⟨g, rfl, hg1', by omega, ?_⟩, ⟨HB.out, by show bs.length ≤ _; rw [HN.out]; exact hn1⟩, ?_, by show V'.length ≤ _; rw [HV.out]; exact hm1⟩
    · show w3.ownsRow 0 5 1 (.slice (some ⟨g, 0, none⟩) bs.length n) bs.length (bs.map (Value.int .u8))
      rw [HN.out]; exact o31
    · show Ow8 w3 (w.heap.size + 3) w3.heap.size (.slice (some ⟨g1, 0, none⟩) V'.length m) V'
      rw [HV.out]; exact hot.low hlo
  clear c0 c2' f2 q1 q2 t2 oo1 hot hmap hlo o31
  have c1' := s1.cells
  have f1 := s1.frees
  have c2' := s2.cells
  have f2 := s2.frees
  go_wp2
  refine bodyPost_ret (v := .agg #[.int .i64 st, .int .i64 pe, .int .i64 ho, .int .i64 si, .int .i64 sp, .slice (some ⟨g, 0, none⟩) n n, .slice (some ⟨g1, 0, none⟩) m m]) (by simp [results, Try.results54, go_sem, c1']) rfl ⟨g, g1, V', rfl, HMP.out, ?_, ?_⟩
  · have hh := (HO.out.low (lo' := w.heap.size + 3) (Nat.le_refl _))
    refine LkOwn.low (lo := w.heap.size + 3) (LkOwn.up (hi := w3.heap.size) (LkOwn.turn (S := fun k => k = w.heap.size + 1 ∨ k = w.heap.size + 1 + 1) hh ?_ ?_) ?_) (by omega)
    · simp (disch := (first | exact Or.inl rfl | exact Or.inr rfl)) only [turn_set_iff]
      exact Turn.refl _ _
    · intro k h1 h2 h3; omega
    · simp
  · simp (disch := (first | exact ge1 | exact ge2)) only [New.set_iff, n3']

/-- The row of the links and their lists are the call's own, from lo to hi. -/
structure Ow9 (w : World) (lo hi g n c : Nat) (V : List Lv) : Prop where
  row : OwRow9 w g n c V
  glo : lo ≤ g
  ghi : g < hi
  part : ∀ v ∈ V, LkOwn w (lo + 1) hi v

theorem Ow9.turn {w w' : World} {lo hi g n c : Nat} {V : List Lv} {S : Nat → Prop} (h : Ow9 w lo hi g n c V) (t : Turn S w w') (hS : ∀ k, lo ≤ k → k < hi → ¬ S k) : Ow9 w' lo hi g n c V :=
  ⟨h.row.turn t (hS g h.glo h.ghi), h.glo, h.ghi, fun v hv => (h.part v hv).turn t (fun k h1 h2 => hS k (by omega) h2)⟩
theorem Ow9.new {w w' : World} {lo hi g n c : Nat} {V : List Lv} (h : Ow9 w lo hi g n c V) (t : New w w') : Ow9 w' lo hi g n c V := h.turn t (fun _ _ _ f => f)
theorem Ow9.at {w : World} {lo hi g n c : Nat} {V : List Lv} (h : Ow9 w lo hi g n c V) : LkAt w (some ⟨g, 0, none⟩) V := h.row.rt (fun v hv => (h.part v hv).here)

set_option maxHeartbeats 6400000 in
theorem toLks_any (A : Option Addr) (n c : Nat) (V : List Lv) (w : World) (h : LkAt w A V) (hn : V.length = n) (hm : n ≤ 1048576) :
    Calls Try.prog 23 #[.slice A n c] w fun e w' => ∃ g V', e = .returned (.slice (some ⟨g, 0, none⟩) n n) ∧ V'.map Lv.r = V.map Lv.r ∧ Ow9 w' w.heap.size w'.heap.size g n n V' ∧ New w w' := by
  have HN : Hid (V.length = n) := hn
  clear hn
  obtain ⟨i0, hi, hz0, hz1, hz2⟩ := info_parts Try.infoLk
  go_enter Try.func23, Try.ntmps23
  go_wp2_with (at_make; refine wpList_make_full _ rfl _ _ 37 rfl w.heap.size 67 i0 (.agg #[.int .i64 0, .int .i64 0, .int .i64 0, .int .i64 0, .int .i64 0, .slice none 0 0, .slice none 0 0]) 7 Try.underlying37 hi hz0 hz1 _ _ _ _ n rfl rfl rfl rfl ?b2 ?b3 (Nat.le_refl _) ?_)
  case b2 => rw [hz2]; omega
  case b3 => unfold maxLen; omega
  intro w0 hown0 hgrow0
  have hown : OwRow9 w0 w.heap.size n n ([] ++ List.replicate (n - 0) lv0) := by
    have := own_base hown0
    have e8 := made_lv n
    simp only [OwRow9, List.nil_append, Nat.sub_zero]
    rw [← e8]
    exact this
  have hnew := New.of_grown hgrow0
  clear hown0 hgrow0
  go_wp2
  go_loopw [4] (fun i wr => ∃ (k : Nat) (V' : List Lv), k ≤ n ∧ i = .int .i64 k ∧ V'.length = k ∧ V'.map Lv.r = (V.take k).map Lv.r ∧ New w wr ∧ OwRow9 wr w.heap.size n n (V' ++ List.replicate (n - k) lv0) ∧ ∀ v ∈ V', LkOwn wr (w.heap.size + 1) wr.heap.size v) (fun i _ => n - (intOf i).toNat)
  case atStart => exact ⟨0, [], Nat.zero_le _, rfl, rfl, rfl, hnew, hown, by simp⟩
  case round =>
    obtain ⟨k, V', hk, rfl, hl', hmap, hnw, how, hpa⟩ := hrel
    have HL' : Hid (V'.length = k) := hl'
    clear hl'
    by_cases hlt : k < n
    · obtain ⟨b, off, st, pe, ho, si, sp, bs, x, bc, U, t, tc, p, q, rfl, hv, hlen, hlen2, hbs, htd, hp, hq, q0, q1, q2, q3, q4, q5, q6⟩ := (h.new hnw).at k (by have := HN.out; omega)
      have HL : Hid (bs.length = p) := hlen
      have HQ : Hid (U.length = q) := hlen2
      have HM : Hid (∀ u : Lv, u.r = ⟨st, pe, ho, si, sp, bs, U.map Tv.r⟩ → (V' ++ [u]).map Lv.r = (V.take (k + 1)).map Lv.r) := by
        intro u hu
        obtain ⟨hk', e⟩ := List.getElem?_eq_some_iff.1 hv
        rw [List.take_succ_eq_append_getElem hk', e, List.map_append, List.map_append, hmap]
        simp only [List.map_cons, List.map_nil, hu]
        rfl
      have hgl : w.heap.size < wr.heap.size := how.lt
      have HPR : Hid (∀ v ∈ V', LkOwn wr (w.heap.size + 1) wr.heap.size v) := hpa
      clear hv hlen hlen2 hmap hpa
      go_wp2_with fail
      refine (toLk_any st pe ho si sp x t p bc q tc bs U _ hbs htd HL.out HQ.out hp hq).mono ?_
      rintro e w1 ⟨g, g1, U', rfl, hmp, ho1, hn1⟩
      have hs1 := hn1.size
      have HU : Hid (U'.length = q) := by
        have := congrArg List.length hmp
        simp at this
        show U'.length = q
        rw [this]; exact HQ.out
      have how1 := how.new hn1
      have hput := how1.put k ⟨st, pe, ho, si, sp, bs, some ⟨g, 0, none⟩, p, U', some ⟨g1, 0, none⟩, q⟩
      rw [set_fill9 V' k n HL'.out hlt] at hput
      simp only [HL.out, HU.out] at hput
      have hpa1 : Hid (∀ v ∈ V' ++ [Lv.mk st pe ho si sp bs (some ⟨g, 0, none⟩) p U' (some ⟨g1, 0, none⟩) q], LkOwn w1 (w.heap.size + 1) w1.heap.size v) := by
        intro v hv
        rcases List.mem_append.1 hv with h1 | h1
        · exact ((HPR.out v h1).new hn1).up hs1
        · obtain rfl := List.mem_singleton.1 h1
          exact ho1.low (by omega)
      have HM2 := HM.out ⟨st, pe, ho, si, sp, bs, some ⟨g, 0, none⟩, p, U', some ⟨g1, 0, none⟩, q⟩ (by simp [Lv.r, hmp])
      have HM3 : Hid _ := HM2
      have hn2 := hnw.trans hn1
      have f0 := fun j => World.ownsRow.frozenAt how1 j
      obtain ⟨v0, c0⟩ := how1.cell (k * 7) (by omega)
      obtain ⟨v1, c1⟩ := how1.cell (k * 7 + 1) (by omega)
      obtain ⟨v2, c2⟩ := how1.cell (k * 7 + 2) (by omega)
      obtain ⟨v3, c3⟩ := how1.cell (k * 7 + 3) (by omega)
      obtain ⟨v4, c4⟩ := how1.cell (k * 7 + 4) (by omega)
      obtain ⟨v5, c5⟩ := how1.cell (k * 7 + 5) (by omega)
      obtain ⟨v6, c6⟩ := how1.cell (k * 7 + 6) (by omega)
      have HPU : Hid _ := hput
      clear h how how1 q0 q1 q2 q3 q4 q5 q6 hnw hbs htd hput ho1 HPR HM HM2 hmp
      go_wp2
      go_roundw
      case rel =>
        have tt : Turn (fun j => j = w.heap.size) w1 (((((((w1.setCell ⟨w.heap.size, k * 7, none⟩ (.int .i64 st)).setCell ⟨w.heap.size, k * 7 + 1, none⟩ (.int .i64 pe)).setCell ⟨w.heap.size, k * 7 + 2, none⟩ (.int .i64 ho)).setCell ⟨w.heap.size, k * 7 + 3, none⟩ (.int .i64 si)).setCell ⟨w.heap.size, k * 7 + 4, none⟩ (.int .i64 sp)).setCell ⟨w.heap.size, k * 7 + 5, none⟩ (.slice (some ⟨g, 0, none⟩) p p)).setCell ⟨w.heap.size, k * 7 + 6, none⟩ (.slice (some ⟨g1, 0, none⟩) q q)) := set7 w1 w.heap.size (k * 7) _ _ _ _ _ _ _
        refine ⟨k + 1, V' ++ [Lv.mk st pe ho si sp bs (some ⟨g, 0, none⟩) p U' (some ⟨g1, 0, none⟩) q], by omega, by go_num, by simp [HL'.out], HM3.out, ?_, HPU.out, ?_⟩
        · exact hn2.before tt (by intro i hi e; omega)
        · intro v hv
          exact ((hpa1.out v hv).turn tt (by intro j h1 h2 e; omega)).up tt.size
      case measure => simp [intOf]; omega
    · go_wp2
      go_ret
      have hkn : k = n := by omega
      subst hkn
      rw [List.take_of_length_le (by have := HN.out; omega)] at hmap
      simp only [Nat.sub_self, List.replicate_zero, List.append_nil] at how
      exact ⟨_, V', rfl, hmap, ⟨how, Nat.le_refl _, how.lt, hpa⟩, hnw⟩

set_option maxHeartbeats 800000 in
theorem eqSs9 (st pe ho si sp : Int) (w : World) : Calls Try.prog 97 #[.agg #[.int .i64 st, .int .i64 pe, .int .i64 ho, .int .i64 si, .int .i64 sp], .agg #[.int .i64 st, .int .i64 pe, .int .i64 ho, .int .i64 si, .int .i64 sp]] w fun e w' => e = .returned (.bool true) ∧ New w w' := by
  have hw := ((New.refl w).alloc (.cells #[.int .i64 st, .int .i64 pe, .int .i64 ho, .int .i64 si, .int .i64 sp] 64)).alloc (.cells #[.int .i64 st, .int .i64 pe, .int .i64 ho, .int .i64 si, .int .i64 sp] 64)
  have z1 : (st != st) = false := by simp
  have z2 : (pe != pe) = false := by simp
  have z3 : (ho != ho) = false := by simp
  have z4 : (si != si) = false := by simp
  have z5 : (sp != sp) = false := by simp
  go_enter Try.func97, Try.ntmps97
  go_wp2
  go_ret
  exact ⟨rfl, hw⟩

set_option maxHeartbeats 1600000 in
theorem eqLk_any (st pe ho si sp : Int) (b t b1 t1 : Option Addr) (n c m d c1 d1 : Nat) (bs : List Int) (V U : List Tv) (w : World) (hb : BsAt w b bs) (ht : TdAt w t V) (kb : BsAt w b1 bs) (kt : TdAt w t1 U) (hVU : V.map Tv.r = U.map Tv.r) (hn : bs.length = n) (hm : V.length = m) (hn1 : n ≤ 1048576) (hm1 : m ≤ 1048576) :
    Calls Try.prog 66 #[.agg #[.int .i64 st, .int .i64 pe, .int .i64 ho, .int .i64 si, .int .i64 sp, .slice b n c, .slice t m d], .agg #[.int .i64 st, .int .i64 pe, .int .i64 ho, .int .i64 si, .int .i64 sp, .slice b1 n c1, .slice t1 m d1]] w fun e w' => e = .returned (.bool true) ∧ New w w' := by
  have hw := ((New.refl w).alloc (.cells #[.int .i64 st, .int .i64 pe, .int .i64 ho, .int .i64 si, .int .i64 sp, .slice b n c, .slice t m d] 67)).alloc (.cells #[.int .i64 st, .int .i64 pe, .int .i64 ho, .int .i64 si, .int .i64 sp, .slice b1 n c1, .slice t1 m d1] 67)
  have bA : Blk ((w.alloc (.cells #[.int .i64 st, .int .i64 pe, .int .i64 ho, .int .i64 si, .int .i64 sp, .slice b n c, .slice t m d] 67)).alloc (.cells #[.int .i64 st, .int .i64 pe, .int .i64 ho, .int .i64 si, .int .i64 sp, .slice b1 n c1, .slice t1 m d1] 67)) w.heap.size 67 #[.int .i64 st, .int .i64 pe, .int .i64 ho, .int .i64 si, .int .i64 sp, .slice b n c, .slice t m d] := (Blk.mk _ _ _ _ rfl).alloc _
  have bB : Blk ((w.alloc (.cells #[.int .i64 st, .int .i64 pe, .int .i64 ho, .int .i64 si, .int .i64 sp, .slice b n c, .slice t m d] 67)).alloc (.cells #[.int .i64 st, .int .i64 pe, .int .i64 ho, .int .i64 si, .int .i64 sp, .slice b1 n c1, .slice t1 m d1] 67)) (w.heap.size + 1) 67 #[.int .i64 st, .int .i64 pe, .int .i64 ho, .int .i64 si, .int .i64 sp, .slice b1 n c1, .slice t1 m d1] := Blk.mk _ _ _ _ (by simp)
  have HN : Hid (bs.length = n) := hn
  have HM : Hid (V.length = m) := hm
  have HU : Hid (V.map Tv.r = U.map Tv.r) := hVU
  clear hn hm hVU
  go_enter Try.func66, Try.ntmps66
  go_wp2_with fail
  refine (eqSs9 st pe ho si sp _).mono ?_
  rintro e w0 ⟨rfl, hn0⟩
  have hw0 := hw.trans hn0
  have bA0 := bA.new hn0
  have bB0 := bB.new hn0
  have cA := bA0.cells
  have cB := bB0.cells
  go_wp2_with fail
  refine (eqBytes_any b b1 n c c1 bs _ (hb.new hw0) (kb.new hw0) HN.out hn1).mono ?_
  rintro e w1 ⟨rfl, hn1'⟩
  have hw1 := hw0.trans hn1'
  clear cA cB
  have cA := (bA0.new hn1').cells
  have cB := (bB0.new hn1').cells
  go_wp2_with fail
  refine (eqTds_any t t1 m d d1 V U _ (ht.new hw1) (kt.new hw1) HU.out HM.out hm1).mono ?_
  rintro e w2 ⟨rfl, hn2⟩
  go_wp2
  go_ret
  exact ⟨rfl, hw1.trans hn2⟩

set_option maxHeartbeats 3200000 in
theorem eqLks_any (A B : Option Addr) (n c e0 : Nat) (V U : List Lv) (w : World) (hF : LkAt w A V) (hG : LkAt w B U) (hVU : V.map Lv.r = U.map Lv.r) (hn : V.length = n) (hm : n ≤ 1048576) :
    Calls Try.prog 30 #[.slice A n c, .slice B n e0] w fun e w' => e = .returned (.bool true) ∧ New w w' := by
  have hnn : ((n : Int) != (n : Int)) = false := by simp
  have HN : Hid (V.length = n) := hn
  have HU : Hid (V.map Lv.r = U.map Lv.r) := hVU
  have HUN : Hid (U.length = n) := by
    have := congrArg List.length hVU
    simp at this
    show U.length = n
    omega
  clear hn hVU
  go_enter Try.func30, Try.ntmps30
  go_wp2
  go_loopw [5] (fun i wr => ∃ k : Nat, k ≤ n ∧ i = .int .i64 k ∧ New w wr) (fun i _ => n - (intOf i).toNat)
  case atStart => exact ⟨0, Nat.zero_le _, rfl, New.refl _⟩
  case round =>
    obtain ⟨k, hk, rfl, hnw⟩ := hrel
    by_cases hlt : k < n
    · obtain ⟨g1, o1, st, pe, ho, si, sp, bs, x, bc, V1, t, tc, p, q, rfl, hp1, hl1, hm1, hx1, ht1, hp, hq, x0, x1, x2, x3, x4, x5, x6⟩ := (hF.new hnw).at k (by have := HN.out; omega)
      obtain ⟨g2, o2, st', pe', ho', si', sp', bs', x', bc', U1, t', tc', p', q', rfl, hp2, hl2, hm2, hx2, ht2, hp', hq', y0, y1, y2, y3, y4, y5, y6⟩ := (hG.new hnw).at k (by have := HUN.out; omega)
      have hh : (⟨st, pe, ho, si, sp, bs, V1.map Tv.r⟩ : Lk) = ⟨st', pe', ho', si', sp', bs', U1.map Tv.r⟩ := by
        have h1 : (V.map Lv.r)[k]? = some ⟨st, pe, ho, si, sp, bs, V1.map Tv.r⟩ := by rw [List.getElem?_map, hp1]; rfl
        have h2 : (U.map Lv.r)[k]? = some ⟨st', pe', ho', si', sp', bs', U1.map Tv.r⟩ := by rw [List.getElem?_map, hp2]; rfl
        rw [HU.out, h2] at h1
        exact (Option.some.inj h1).symm
      simp only [Lk.mk.injEq] at hh
      obtain ⟨rfl, rfl, rfl, rfl, rfl, rfl, hmm⟩ := hh
      obtain rfl : p = p' := hl1.symm.trans hl2
      obtain rfl : q = q' := by
        have := congrArg List.length hmm
        simp at this
        omega
      have HL : Hid (bs.length = p) := hl1
      have HQ : Hid (V1.length = q) := hm1
      have HV : Hid (V1.map Tv.r = U1.map Tv.r) := hmm
      clear hp1 hp2 hF hG hl1 hl2 hm1 hm2 hmm
      have X0 := cell_regrown x0
      have X1 := cell_regrown x1
      have X2 := cell_regrown x2
      have X3 := cell_regrown x3
      have X4 := cell_regrown x4
      have X5 := cell_regrown x5
      have X6 := cell_regrown x6
      have Y0 := cell_regrown y0
      have Y1 := cell_regrown y1
      have Y2 := cell_regrown y2
      have Y3 := cell_regrown y3
      have Y4 := cell_regrown y4
      have Y5 := cell_regrown y5
      have Y6 := cell_regrown y6
      go_wp2_with fail
      refine wp_region_quiet_below (by kernel_rfl) (by kernel_rfl) ?_
      repeat (go_big_quiet_step ((go_at_call 66; exact calls_regrown (eqLk_any st pe ho si sp x t x' t' p bc q tc bc' tc' bs V1 U1 _ (hx1.new (new_regrown _ _ _)) (ht1.new (new_regrown _ _ _)) (hx2.new (new_regrown _ _ _)) (ht2.new (new_regrown _ _ _)) HV.out HL.out HQ.out hp hq))))
      refine wpQuiet_nil ?_
      rintro w1 hn1
      replace hn1 := new_of_regrown hn1
      go_wp2
      go_roundw
      case rel => exact ⟨k + 1, by omega, by go_num, hnw.trans hn1⟩
      case measure => simp [intOf]; omega
    · go_wp2
      go_ret
      exact ⟨rfl, hnw⟩

end Go.Proofs.Ytkahlmkhancloab
