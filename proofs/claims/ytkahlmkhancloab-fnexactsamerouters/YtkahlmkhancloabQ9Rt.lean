/- What is proved here: what the counting, the copying and the comparing of routers answer, where all lists have at most 1048576 things. -/
import Derived.Test.YtkahlmkhancloabL9Ls
import Derived.Test.YtkahlmkhancloabG9Se
import Derived.Test.YtkahlmkhancloabR7Ls
namespace Go.Proofs.Ytkahlmkhancloab
open Go.RowKit Go.Sort
set_option linter.unusedVariables false

set_option maxHeartbeats 3200000 in
theorem szRts_anyL (A : Option Addr) (n c : Nat) (V : List Rv) (L : Int) (w : World) (h : RtCame w A V) (hn : V.length = n) (hm : n ≤ maxLen) (hL0 : 0 ≤ L) (hL : L ≤ 1048576) :
    Calls Try.prog 20 #[.slice A n c, .int .i64 L] w fun e w' => (∃ z : Int, e = .returned (.int .i64 z) ∧ (z = -1 ∨ (0 ≤ z ∧ z ≤ 1048576 ∧ n ≤ 1048576 ∧ ∀ v ∈ V, v.r.xs.length ≤ 1048576))) ∧ New w w' := by
  have HN : Hid (V.length = n) := hn
  unfold maxLen at hm
  clear hn
  by_cases hbig : L < (n : Int)
  case pos =>
    go_enter Try.func20, Try.ntmps20
    go_wp2
    go_ret
    exact ⟨⟨_, rfl, .inl rfl⟩, New.refl _⟩
  have hm' : n ≤ 1048576 := by omega
  clear hm
  go_enter Try.func20, Try.ntmps20
  go_wp2
  go_loopw [1, 5] (fun t i wr => ∃ (k : Nat) (z : Int), k ≤ n ∧ 0 ≤ z ∧ z ≤ 1048576 ∧ t = .int .i64 z ∧ i = .int .i64 k ∧ New w wr ∧ ∀ v ∈ V.take k, v.r.xs.length ≤ 1048576) (fun _ i _ => n - (intOf i).toNat)
  case atStart => exact ⟨0, _, Nat.zero_le _, by omega, by omega, rfl, rfl, New.refl _, by simp⟩
  case round =>
    obtain ⟨k, z, hk, hz0, hz1, rfl, rfl, hnw, hall⟩ := hrel
    by_cases hlt : k < n
    · obtain ⟨b, off, p, a, l, o, nx, md, lc, x, m, d, xs, rfl, hv, hlen, hns, hnl, hmx, q0, q1, q2, q3, q4, q5, q6, q7⟩ := (h.new hnw).at k (by have := HN.out; omega)
      have HL : Hid (xs.length = m) := hlen
      have hall' : m ≤ 1048576 → ∀ v ∈ V.take (k + 1), v.r.xs.length ≤ 1048576 := by
        intro hmm v hv'
        obtain ⟨hk', e⟩ := List.getElem?_eq_some_iff.1 hv
        rw [List.take_succ_eq_append_getElem hk', e] at hv'
        rcases List.mem_append.1 hv' with h1 | h1
        · exact hall v h1
        · obtain rfl := List.mem_singleton.1 h1
          rw [show (Rv.r ⟨⟨p, a, l, o, xs, nx, md, lc⟩, x, d⟩).xs.length = m from HL.out]; exact hmm
      clear hv hlen hns hnl h hall
      by_cases hfit : (m : Int) ≤ z
      · go_wp2_with fail
        refine (szRt_okZ p a l o nx md lc x m d z _ hz0 hz1 hfit).mono ?_
        rintro e w1 ⟨rfl, hn1⟩
        clear q0 q1 q2 q3 q4 q5 q6 q7
        go_wp2
        go_roundw
        case rel => exact ⟨k + 1, z - m, by omega, by omega, by omega, rfl, by go_num, hnw.trans hn1, hall' (by omega)⟩
        case measure => simp [intOf]; omega
      · go_wp2_with fail
        refine (szRt_bigZ p a l o nx md lc x m d z _ hz0 hz1 hmx (by omega)).mono ?_
        rintro e w1 ⟨rfl, hn1⟩
        clear q0 q1 q2 q3 q4 q5 q6 q7
        go_wp2
        go_ret
        exact ⟨⟨_, rfl, .inl rfl⟩, hnw.trans hn1⟩
    · go_wp2
      go_ret
      refine ⟨⟨_, rfl, .inr ⟨hz0, hz1, hm', ?_⟩⟩, hnw⟩
      rw [List.take_of_length_le (by have := HN.out; omega)] at hall
      exact hall

set_option maxHeartbeats 1600000 in
theorem szRr_any (sa si ho nx : Int) (a1 a2 la ra : Option Addr) (n1 c1 n2 c2 ln lc rn rc : Nat) (r1 r2 : List Ru) (L : List Lv) (R : List Rv) (w : World) (h3 : LkCame w la L) (h4 : RtCame w ra R) (e1 : r1.length = n1) (e2 : r2.length = n2) (e3 : L.length = ln) (e4 : R.length = rn) (m1 : n1 ≤ maxLen) (m2 : n2 ≤ maxLen) (m3 : ln ≤ maxLen) (m4 : rn ≤ maxLen) (z0 : Nat) (hz0 : z0 ≤ 1048576) :
    Calls Try.prog 6 #[.agg #[.int .i64 sa, .int .i64 si, .int .i64 ho, .int .i64 nx, .slice a1 n1 c1, .slice a2 n2 c2, .slice la ln lc, .slice ra rn rc], .int .i64 z0] w fun e w' => (∃ y : Int, e = .returned (.int .i64 y) ∧ (y = -1 ∨ (0 ≤ y ∧ y ≤ 1048576 ∧ n1 ≤ 1048576 ∧ n2 ≤ 1048576 ∧ ln ≤ 1048576 ∧ rn ≤ 1048576 ∧ (∀ v ∈ L, v.small) ∧ (∀ v ∈ R, v.r.xs.length ≤ 1048576)))) ∧ New w w' := by
  have hw := (New.refl w).alloc (.cells #[.int .i64 sa, .int .i64 si, .int .i64 ho, .int .i64 nx, .slice a1 n1 c1, .slice a2 n2 c2, .slice la ln lc, .slice ra rn rc] 30)
  have bA := Blk.mk w w.heap.size 30 #[.int .i64 sa, .int .i64 si, .int .i64 ho, .int .i64 nx, .slice a1 n1 c1, .slice a2 n2 c2, .slice la ln lc, .slice ra rn rc] rfl
  have E3 : Hid (L.length = ln) := e3
  have E4 : Hid (R.length = rn) := e4
  clear e1 e2 e3 e4
  by_cases hbig : z0 < n1 + n2
  case pos =>
    go_enter Try.func6, Try.ntmps6
    go_wp2_with fail
    refine (szSe_big sa si ho nx a1 a2 n1 c1 n2 c2 z0 _ hz0 hbig m1 m2).mono ?_
    rintro e w1 ⟨rfl, hn1⟩
    go_wp2
    go_ret
    exact ⟨⟨_, rfl, .inl rfl⟩, hw.trans hn1⟩
  have l1 : n1 ≤ 1048576 := by omega
  have l2 : n2 ≤ 1048576 := by omega
  have l0 : n1 + n2 ≤ z0 := by omega
  have l3 : z0 - n1 - n2 ≤ 1048576 := by omega
  clear hbig
  go_enter Try.func6, Try.ntmps6
  go_wp2_with fail
  refine (szSe_ok sa si ho nx a1 a2 n1 c1 n2 c2 z0 _ hz0 l0).mono ?_
  rintro e w1 ⟨rfl, hn1⟩
  have b1 := bA.new hn1
  have cA := b1.cells
  have hw1 := hw.trans hn1
  generalize z0 - n1 - n2 = y1 at *
  have y1a : (0 : Int) ≤ y1 := by omega
  have y1b : (y1 : Int) ≤ 1048576 := by omega
  clear bA hn1
  go_wp2_with fail
  refine (szLks_any la ln lc L y1 _ (h3.new hw1) E3.out m3 y1a y1b).mono ?_
  rintro e w2 ⟨⟨y2, rfl, hy2⟩, hn2⟩
  have hw2 := hw1.trans hn2
  have b2 := b1.new hn2
  rcases hy2 with rfl | ⟨j0, j1, j2, j3⟩
  · clear cA
    go_wp2
    go_ret
    exact ⟨⟨_, rfl, .inl rfl⟩, hw2⟩
  · have J3 : Hid (∀ v ∈ L, v.small) := j3
    clear j3 cA
    have cA := b2.cells
    go_wp2_with fail
    refine (szRts_anyL ra rn rc R y2 _ (h4.new hw2) E4.out m4 j0 j1).mono ?_
    rintro e w3 ⟨⟨y3, rfl, hy3⟩, hn3⟩
    rcases hy3 with rfl | ⟨i0, i1, i2, i3⟩
    · go_wp2
      go_ret
      exact ⟨⟨_, rfl, .inl rfl⟩, hw2.trans hn3⟩
    · have I3 : Hid (∀ v ∈ R, v.r.xs.length ≤ 1048576) := i3
      clear i3
      go_wp2
      go_ret
      exact ⟨⟨_, rfl, .inr ⟨i0, i1, l1, l2, j2, i2, J3.out, I3.out⟩⟩, hw2.trans hn3⟩

set_option maxHeartbeats 6400000 in
theorem toRr_full (sa si ho nx : Int) (a1 a2 la ra : Option Addr) (n1 c1 n2 c2 ln lc rn rc : Nat) (r1 r2 : List Ru) (L : List Lv) (R : List Rv) (w : World) (h1 : RsAt w a1 r1) (h2 : RsAt w a2 r2) (h3 : LkAt w la L) (h4 : RtAt w ra R) (e1 : r1.length = n1) (e2 : r2.length = n2) (e3 : L.length = ln) (e4 : R.length = rn) (m1 : n1 ≤ 1048576) (m2 : n2 ≤ 1048576) (m3 : ln ≤ 1048576) (m4 : rn ≤ 1048576) :
    Calls Try.prog 8 #[.agg #[.int .i64 sa, .int .i64 si, .int .i64 ho, .int .i64 nx, .slice a1 n1 c1, .slice a2 n2 c2, .slice la ln lc, .slice ra rn rc]] w fun e w' => ∃ g1 g2 g3 g4 L' R', e = .returned (.agg #[.int .i64 sa, .int .i64 si, .int .i64 ho, .int .i64 nx, .slice (some ⟨g1, 0, none⟩) n1 n1, .slice (some ⟨g2, 0, none⟩) n2 n2, .slice (some ⟨g3, 0, none⟩) ln ln, .slice (some ⟨g4, 0, none⟩) rn rn]) ∧ L'.map Lv.r = L.map Lv.r ∧ R'.map Rv.r = R.map Rv.r ∧ RsAt w' (some ⟨g1, 0, none⟩) r1 ∧ RsAt w' (some ⟨g2, 0, none⟩) r2 ∧ LkAt w' (some ⟨g3, 0, none⟩) L' ∧ RtAt w' (some ⟨g4, 0, none⟩) R' ∧ New w w' ∧ (∀ v ∈ L', v.b ≠ none) := by
  have hw0 := (((New.refl w).alloc (.cells #[.int .i64 sa, .int .i64 si, .int .i64 ho, .int .i64 nx, .slice a1 n1 c1, .slice a2 n2 c2, .slice la ln lc, .slice ra rn rc] 30)).alloc (.cells #[.int .i64 0, .int .i64 0, .int .i64 0, .int .i64 0, .slice none 0 0, .slice none 0 0, .slice none 0 0, .slice none 0 0] 40)).alloc (.cells #[.int .i64 0, .int .i64 0, .int .i64 0, .int .i64 0, .slice none 0 0, .slice none 0 0, .slice none 0 0, .slice none 0 0] 40)
  have b0 : Blk (((w.alloc (.cells #[.int .i64 sa, .int .i64 si, .int .i64 ho, .int .i64 nx, .slice a1 n1 c1, .slice a2 n2 c2, .slice la ln lc, .slice ra rn rc] 30)).alloc (.cells #[.int .i64 0, .int .i64 0, .int .i64 0, .int .i64 0, .slice none 0 0, .slice none 0 0, .slice none 0 0, .slice none 0 0] 40)).alloc (.cells #[.int .i64 0, .int .i64 0, .int .i64 0, .int .i64 0, .slice none 0 0, .slice none 0 0, .slice none 0 0, .slice none 0 0] 40)) w.heap.size 30 #[.int .i64 sa, .int .i64 si, .int .i64 ho, .int .i64 nx, .slice a1 n1 c1, .slice a2 n2 c2, .slice la ln lc, .slice ra rn rc] := ((Blk.mk _ _ _ _ rfl).alloc _).alloc _
  have b1' : Blk (((w.alloc (.cells #[.int .i64 sa, .int .i64 si, .int .i64 ho, .int .i64 nx, .slice a1 n1 c1, .slice a2 n2 c2, .slice la ln lc, .slice ra rn rc] 30)).alloc (.cells #[.int .i64 0, .int .i64 0, .int .i64 0, .int .i64 0, .slice none 0 0, .slice none 0 0, .slice none 0 0, .slice none 0 0] 40)).alloc (.cells #[.int .i64 0, .int .i64 0, .int .i64 0, .int .i64 0, .slice none 0 0, .slice none 0 0, .slice none 0 0, .slice none 0 0] 40)) (w.heap.size + 1) 40 #[.int .i64 0, .int .i64 0, .int .i64 0, .int .i64 0, .slice none 0 0, .slice none 0 0, .slice none 0 0, .slice none 0 0] := (Blk.mk _ _ _ _ (by simp)).alloc _
  have b2' : Blk (((w.alloc (.cells #[.int .i64 sa, .int .i64 si, .int .i64 ho, .int .i64 nx, .slice a1 n1 c1, .slice a2 n2 c2, .slice la ln lc, .slice ra rn rc] 30)).alloc (.cells #[.int .i64 0, .int .i64 0, .int .i64 0, .int .i64 0, .slice none 0 0, .slice none 0 0, .slice none 0 0, .slice none 0 0] 40)).alloc (.cells #[.int .i64 0, .int .i64 0, .int .i64 0, .int .i64 0, .slice none 0 0, .slice none 0 0, .slice none 0 0, .slice none 0 0] 40)) (w.heap.size + 1 + 1) 40 #[.int .i64 0, .int .i64 0, .int .i64 0, .int .i64 0, .slice none 0 0, .slice none 0 0, .slice none 0 0, .slice none 0 0] := Blk.mk _ _ _ _ (by simp)
  have ge1 : w.heap.size ≤ w.heap.size + 1 := by omega
  have ge2 : w.heap.size ≤ w.heap.size + 1 + 1 := by omega
  have d01 : ¬ w.heap.size + 1 + 1 = w.heap.size := by omega
  have d12 : ¬ w.heap.size + 1 + 1 = w.heap.size + 1 := by omega
  have E1 : Hid (r1.length = n1) := e1
  have E2 : Hid (r2.length = n2) := e2
  have E3 : Hid (L.length = ln) := e3
  have E4 : Hid (R.length = rn) := e4
  clear e1 e2 e3 e4
  go_enter Try.func8, Try.ntmps8
  go_wp2_with fail
  refine (toSe_any sa si ho nx a1 a2 n1 c1 n2 c2 r1 r2 _ (h1.new hw0) (h2.new hw0) E1.out E2.out m1 m2).mono ?_
  rintro e w1 ⟨g1, g2, rfl, hg1, hg12, ho1, ho2, hn1'⟩
  simp at hg1
  have n1' := hw0.trans hn1'
  have p0 := b0.new hn1'
  have p1 := b1'.new hn1'
  have p2 := b2'.new hn1'
  have c0 := p0.cells
  have c2' := p2.cells
  have f2 := p2.frees
  have lt2 := ho2.lt
  have t1 : Turn (fun k => k = w.heap.size + 1 + 1) w1 ((((((w1.setCell ⟨w.heap.size + 1 + 1, 0, none⟩ (.int .i64 sa)).setCell ⟨w.heap.size + 1 + 1, 1, none⟩ (.int .i64 si)).setCell ⟨w.heap.size + 1 + 1, 2, none⟩ (.int .i64 ho)).setCell ⟨w.heap.size + 1 + 1, 3, none⟩ (.int .i64 nx)).setCell ⟨w.heap.size + 1 + 1, 4, none⟩ (.slice (some ⟨g1, 0, none⟩) n1 n1)).setCell ⟨w.heap.size + 1 + 1, 5, none⟩ (.slice (some ⟨g2, 0, none⟩) n2 n2)) := Turn.here9 (Turn.here9 (Turn.here9 (Turn.here9 (Turn.here9 (Turn.here9 (Turn.refl _ _) _) _) _) _) _) _
  have n1'' : New w ((((((w1.setCell ⟨w.heap.size + 1 + 1, 0, none⟩ (.int .i64 sa)).setCell ⟨w.heap.size + 1 + 1, 1, none⟩ (.int .i64 si)).setCell ⟨w.heap.size + 1 + 1, 2, none⟩ (.int .i64 ho)).setCell ⟨w.heap.size + 1 + 1, 3, none⟩ (.int .i64 nx)).setCell ⟨w.heap.size + 1 + 1, 4, none⟩ (.slice (some ⟨g1, 0, none⟩) n1 n1)).setCell ⟨w.heap.size + 1 + 1, 5, none⟩ (.slice (some ⟨g2, 0, none⟩) n2 n2)) := (((((n1'.setCell ge2 _).setCell ge2 _).setCell ge2 _).setCell ge2 _).setCell ge2 _).setCell ge2 _
  have q2 := ((((((p2.set 0 (.int .i64 sa)).set 1 (.int .i64 si)).set 2 (.int .i64 ho)).set 3 (.int .i64 nx)).set 4 (.slice (some ⟨g1, 0, none⟩) n1 n1)).set 5 (.slice (some ⟨g2, 0, none⟩) n2 n2))
  have q0 := p0.turn t1 (by omega)
  have q1 := p1.turn t1 (by omega)
  have oo1 := ho1.turn t1 (by omega)
  have oo2 := ho2.turn t1 (by omega)
  have sz1 := t1.size
  clear b0 b1' b2' hn1' p0 p1 p2 hw0 ho1 ho2
  go_wp2_with fail
  refine (toLks_any la ln lc L _ (h3.new n1'') E3.out m3).mono ?_
  rintro e w2 ⟨g3, L', rfl, hmL, ho3, hn2⟩
  have HML : Hid (L'.map Lv.r = L.map Lv.r) := hmL
  have n2' := n1''.trans hn2
  have s0 := q0.new hn2
  have s1 := q1.new hn2
  have s2 : Blk w2 (w.heap.size + 1 + 1) 40 #[.int .i64 sa, .int .i64 si, .int .i64 ho, .int .i64 nx, .slice (some ⟨g1, 0, none⟩) n1 n1, .slice (some ⟨g2, 0, none⟩) n2 n2, .slice none 0 0, .slice none 0 0] := q2.new hn2
  have u1 := oo1.new hn2
  have u2 := oo2.new hn2
  have lo3 : w.heap.size + 3 ≤ ((((((w1.setCell ⟨w.heap.size + 1 + 1, 0, none⟩ (.int .i64 sa)).setCell ⟨w.heap.size + 1 + 1, 1, none⟩ (.int .i64 si)).setCell ⟨w.heap.size + 1 + 1, 2, none⟩ (.int .i64 ho)).setCell ⟨w.heap.size + 1 + 1, 3, none⟩ (.int .i64 nx)).setCell ⟨w.heap.size + 1 + 1, 4, none⟩ (.slice (some ⟨g1, 0, none⟩) n1 n1)).setCell ⟨w.heap.size + 1 + 1, 5, none⟩ (.slice (some ⟨g2, 0, none⟩) n2 n2)).heap.size := by omega
  have sz2 := hn2.size
  generalize hlo : ((((((w1.setCell ⟨w.heap.size + 1 + 1, 0, none⟩ (.int .i64 sa)).setCell ⟨w.heap.size + 1 + 1, 1, none⟩ (.int .i64 si)).setCell ⟨w.heap.size + 1 + 1, 2, none⟩ (.int .i64 ho)).setCell ⟨w.heap.size + 1 + 1, 3, none⟩ (.int .i64 nx)).setCell ⟨w.heap.size + 1 + 1, 4, none⟩ (.slice (some ⟨g1, 0, none⟩) n1 n1)).setCell ⟨w.heap.size + 1 + 1, 5, none⟩ (.slice (some ⟨g2, 0, none⟩) n2 n2)).heap.size = lo at *
  clear c0 c2' f2 q0 q1 q2 t1 oo1 oo2 hmL n1'' hlo
  have c0 := s0.cells
  have c2' := s2.cells
  have f2 := s2.frees
  have t2 : Turn (fun k => k = w.heap.size + 1 + 1) w2 (w2.setCell ⟨w.heap.size + 1 + 1, 6, none⟩ (.slice (some ⟨g3, 0, none⟩) ln ln)) := Turn.here9 (Turn.refl _ _) _
  have n2'' : New w (w2.setCell ⟨w.heap.size + 1 + 1, 6, none⟩ (.slice (some ⟨g3, 0, none⟩) ln ln)) := n2'.setCell ge2 _
  have q2 := s2.set 6 (.slice (some ⟨g3, 0, none⟩) ln ln)
  have q1 := s1.turn t2 (by omega)
  have oo1 := u1.turn t2 (by omega)
  have oo2 := u2.turn t2 (by omega)
  have oo3 := ho3.turn t2 (by intro k i1 i2 i3; omega)
  have szt := t2.size
  clear hn2 s0 s1 s2 u1 u2 ho3
  go_wp2_with fail
  refine (toRts_any ra rn rc R _ (h4.new n2'') E4.out m4).mono ?_
  rintro e w3 ⟨g4, R', rfl, hmR, ho4, hn3⟩
  have HMR : Hid (R'.map Rv.r = R.map Rv.r) := hmR
  have n3' := n2''.trans hn3
  have s1 := q1.new hn3
  have s2 : Blk w3 (w.heap.size + 1 + 1) 40 #[.int .i64 sa, .int .i64 si, .int .i64 ho, .int .i64 nx, .slice (some ⟨g1, 0, none⟩) n1 n1, .slice (some ⟨g2, 0, none⟩) n2 n2, .slice (some ⟨g3, 0, none⟩) ln ln, .slice none 0 0] := q2.new hn3
  have U1 : Hid _ := oo1.new hn3
  have U2 : Hid _ := oo2.new hn3
  have U3 : Hid _ := oo3.new hn3
  have U4 : Hid _ := ho4
  have lo4 : w.heap.size + 3 ≤ (w2.setCell ⟨w.heap.size + 1 + 1, 6, none⟩ (.slice (some ⟨g3, 0, none⟩) ln ln)).heap.size := by omega
  have LO4 : Hid _ := lo4
  clear c0 c2' f2 q1 q2 t2 oo1 oo2 oo3 ho4 hmR n2'' lo4
  have c1' := s1.cells
  have f1 := s1.frees
  have c2' := s2.cells
  have f2 := s2.frees
  go_wp2
  refine bodyPost_ret (v := .agg #[.int .i64 sa, .int .i64 si, .int .i64 ho, .int .i64 nx, .slice (some ⟨g1, 0, none⟩) n1 n1, .slice (some ⟨g2, 0, none⟩) n2 n2, .slice (some ⟨g3, 0, none⟩) ln ln, .slice (some ⟨g4, 0, none⟩) rn rn]) (by simp [results, Try.results8, go_sem, c1']) rfl ⟨g1, g2, g3, g4, L', R', rfl, HML.out, HMR.out, ?_, ?_, ?_, ?_, ?_, ?_⟩
  · refine OwR.rs (n := n1) (c := n1) (OwR.turn (S := fun k => k = w.heap.size + 1 ∨ k = w.heap.size + 1 + 1) U1.out ?_ (by omega))
    simp (disch := (first | exact Or.inl rfl | exact Or.inr rfl)) only [turn_set_iff]
    exact Turn.refl _ _
  · refine OwR.rs (n := n2) (c := n2) (OwR.turn (S := fun k => k = w.heap.size + 1 ∨ k = w.heap.size + 1 + 1) U2.out ?_ (by omega))
    simp (disch := (first | exact Or.inl rfl | exact Or.inr rfl)) only [turn_set_iff]
    exact Turn.refl _ _
  · refine Ow9.at (Ow9.turn (S := fun k => k = w.heap.size + 1 ∨ k = w.heap.size + 1 + 1) U3.out ?_ ?_)
    · simp (disch := (first | exact Or.inl rfl | exact Or.inr rfl)) only [turn_set_iff]
      exact Turn.refl _ _
    · intro k i1 i2 i3; omega
  · refine (OwT.rt (OwT.turn (S := fun k => k = w.heap.size + 1 ∨ k = w.heap.size + 1 + 1) U4.out ?_ ?_)).1
    · simp (disch := (first | exact Or.inl rfl | exact Or.inr rfl)) only [turn_set_iff]
      exact Turn.refl _ _
    · intro k i1 i2 i3; have := LO4.out; omega
  · simp (disch := (first | exact ge1 | exact ge2)) only [New.set_iff, n3']
  · intro v hv e
    obtain ⟨g, h, -⟩ := (U3.out.part v hv).byt
    rw [e] at h
    cases h

theorem toRr_any (sa si ho nx : Int) (a1 a2 la ra : Option Addr) (n1 c1 n2 c2 ln lc rn rc : Nat) (r1 r2 : List Ru) (L : List Lv) (R : List Rv) (w : World) (h1 : RsAt w a1 r1) (h2 : RsAt w a2 r2) (h3 : LkAt w la L) (h4 : RtAt w ra R) (e1 : r1.length = n1) (e2 : r2.length = n2) (e3 : L.length = ln) (e4 : R.length = rn) (m1 : n1 ≤ 1048576) (m2 : n2 ≤ 1048576) (m3 : ln ≤ 1048576) (m4 : rn ≤ 1048576) :
    Calls Try.prog 8 #[.agg #[.int .i64 sa, .int .i64 si, .int .i64 ho, .int .i64 nx, .slice a1 n1 c1, .slice a2 n2 c2, .slice la ln lc, .slice ra rn rc]] w fun e w' => ∃ g1 g2 g3 g4 L' R', e = .returned (.agg #[.int .i64 sa, .int .i64 si, .int .i64 ho, .int .i64 nx, .slice (some ⟨g1, 0, none⟩) n1 n1, .slice (some ⟨g2, 0, none⟩) n2 n2, .slice (some ⟨g3, 0, none⟩) ln ln, .slice (some ⟨g4, 0, none⟩) rn rn]) ∧ L'.map Lv.r = L.map Lv.r ∧ R'.map Rv.r = R.map Rv.r ∧ RsAt w' (some ⟨g1, 0, none⟩) r1 ∧ RsAt w' (some ⟨g2, 0, none⟩) r2 ∧ LkAt w' (some ⟨g3, 0, none⟩) L' ∧ RtAt w' (some ⟨g4, 0, none⟩) R' ∧ New w w' :=
  (toRr_full sa si ho nx a1 a2 la ra n1 c1 n2 c2 ln lc rn rc r1 r2 L R w h1 h2 h3 h4 e1 e2 e3 e4 m1 m2 m3 m4).mono fun e w' ⟨g1, g2, g3, g4, L', R', x1, x2, x3, x4, x5, x6, x7, x8, _⟩ => ⟨g1, g2, g3, g4, L', R', x1, x2, x3, x4, x5, x6, x7, x8⟩

set_option maxHeartbeats 3200000 in
theorem eqRr_any (sa si ho nx : Int) (a1 a2 la ra b1 b2 lb rb : Option Addr) (n1 c1 n2 c2 ln lc rn rc d1 d2 ld rd : Nat) (r1 r2 : List Ru) (L L' : List Lv) (R R' : List Rv) (w : World) (h1 : RsAt w a1 r1) (h2 : RsAt w a2 r2) (h3 : LkAt w la L) (h4 : RtAt w ra R) (k1 : RsAt w b1 r1) (k2 : RsAt w b2 r2) (k3 : LkAt w lb L') (k4 : RtAt w rb R') (hL : L.map Lv.r = L'.map Lv.r) (hR : R.map Rv.r = R'.map Rv.r) (e1 : r1.length = n1) (e2 : r2.length = n2) (e3 : L.length = ln) (e4 : R.length = rn) (m1 : n1 ≤ 1048576) (m2 : n2 ≤ 1048576) (m3 : ln ≤ 1048576) (m4 : rn ≤ 1048576) :
    Calls Try.prog 10 #[.agg #[.int .i64 sa, .int .i64 si, .int .i64 ho, .int .i64 nx, .slice a1 n1 c1, .slice a2 n2 c2, .slice la ln lc, .slice ra rn rc], .agg #[.int .i64 sa, .int .i64 si, .int .i64 ho, .int .i64 nx, .slice b1 n1 d1, .slice b2 n2 d2, .slice lb ln ld, .slice rb rn rd]] w fun e w' => e = .returned (.bool true) ∧ New w w' := by
  have hw := ((New.refl w).alloc (.cells #[.int .i64 sa, .int .i64 si, .int .i64 ho, .int .i64 nx, .slice a1 n1 c1, .slice a2 n2 c2, .slice la ln lc, .slice ra rn rc] 40)).alloc (.cells #[.int .i64 sa, .int .i64 si, .int .i64 ho, .int .i64 nx, .slice b1 n1 d1, .slice b2 n2 d2, .slice lb ln ld, .slice rb rn rd] 40)
  have bA : Blk ((w.alloc (.cells #[.int .i64 sa, .int .i64 si, .int .i64 ho, .int .i64 nx, .slice a1 n1 c1, .slice a2 n2 c2, .slice la ln lc, .slice ra rn rc] 40)).alloc (.cells #[.int .i64 sa, .int .i64 si, .int .i64 ho, .int .i64 nx, .slice b1 n1 d1, .slice b2 n2 d2, .slice lb ln ld, .slice rb rn rd] 40)) w.heap.size 40 #[.int .i64 sa, .int .i64 si, .int .i64 ho, .int .i64 nx, .slice a1 n1 c1, .slice a2 n2 c2, .slice la ln lc, .slice ra rn rc] := (Blk.mk _ _ _ _ rfl).alloc _
  have bB : Blk ((w.alloc (.cells #[.int .i64 sa, .int .i64 si, .int .i64 ho, .int .i64 nx, .slice a1 n1 c1, .slice a2 n2 c2, .slice la ln lc, .slice ra rn rc] 40)).alloc (.cells #[.int .i64 sa, .int .i64 si, .int .i64 ho, .int .i64 nx, .slice b1 n1 d1, .slice b2 n2 d2, .slice lb ln ld, .slice rb rn rd] 40)) (w.heap.size + 1) 40 #[.int .i64 sa, .int .i64 si, .int .i64 ho, .int .i64 nx, .slice b1 n1 d1, .slice b2 n2 d2, .slice lb ln ld, .slice rb rn rd] := Blk.mk _ _ _ _ (by simp)
  have E1 : Hid (r1.length = n1) := e1
  have E2 : Hid (r2.length = n2) := e2
  have E3 : Hid (L.length = ln) := e3
  have E4 : Hid (R.length = rn) := e4
  have HL : Hid (L.map Lv.r = L'.map Lv.r) := hL
  have HR : Hid (R.map Rv.r = R'.map Rv.r) := hR
  clear e1 e2 e3 e4 hL hR
  go_enter Try.func10, Try.ntmps10
  go_wp2_with fail
  refine (eqSe_any sa si ho nx a1 a2 b1 b2 n1 c1 n2 c2 d1 d2 r1 r2 _ (h1.new hw) (h2.new hw) E1.out E2.out m1 m2 (k1.new hw) (k2.new hw)).mono ?_
  rintro e w0 ⟨rfl, hn0⟩
  have hw0 := hw.trans hn0
  have bA0 := bA.new hn0
  have bB0 := bB.new hn0
  have cA := bA0.cells
  have cB := bB0.cells
  clear bA bB hn0
  go_wp2_with fail
  refine (eqLks_any la lb ln lc ld L L' _ (h3.new hw0) (k3.new hw0) HL.out E3.out m3).mono ?_
  rintro e w1 ⟨rfl, hn1⟩
  have hw1 := hw0.trans hn1
  clear cA cB
  have cA := (bA0.new hn1).cells
  have cB := (bB0.new hn1).cells
  go_wp2_with fail
  refine (eqRts_any ra rb rn rc rd R R' _ (h4.new hw1) (k4.new hw1) HR.out E4.out m4).mono ?_
  rintro e w2 ⟨rfl, hn2⟩
  go_wp2
  go_ret
  exact ⟨rfl, hw1.trans hn2⟩

end Go.Proofs.Ytkahlmkhancloab
