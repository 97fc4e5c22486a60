/- Lemmas and contracts of one law. -/
import Derived.Test.YtdbnmkffinhdjaaGreatLV22
import Derived.Test.YtdbnmkffinhdjaaGreatLV7
import Derived.Test.YtdbnmkffinhdjaaGreatLV24
import Derived.Test.YtdbnmkffinhdjaaGreatLV23
import Derived.Test.YtdbnmkffinhdjaaGreatLV21
namespace Go.Proofs.YtdbnmkffinhdjaaGreat
open Go.ChangeShapes Go.WideShapes Go.ChangeAt Go.RowKit Go.Deep Go.Sort
set_option linter.unusedVariables false
set_option linter.unusedSimpArgs false
set_option maxRecDepth 100000
set_option maxHeartbeats 25600000

theorem sEnt16 (A : Option Addr) (n c : Nat) (V : List EkV) (w : World) (h : LgAt w A V) (hN : NlK V) (hn : V.length = n) (hm : n ≤ 2097152) :
    Calls Tryz.prog 64 #[.slice A n c] w fun e w' => ∃ A' c' V', e = .returned (.slice A' n c') ∧ V'.map EkV.r = V.map EkV.r ∧ OwL w' w.heap.size w'.heap.size (.slice A' n c') V' ∧ New w w' := by
  have HN : Hid (V.length = n) := hn
  have HNl : Hid (NlK V) := hN
  clear hn hN
  obtain ⟨i0, hi, hz0, hz1, hz2⟩ := info_parts Tryz.infoEk
  have hL0 : OwL (w.alloc (.cells #[] 118)) w.heap.size (w.alloc (.cells #[] 118)).heap.size (.slice (some ⟨w.heap.size, 0, none⟩) 0 0) [] := by
    refine ⟨⟨rfl, .inr ⟨w.heap.size, 0, #[], rfl, by omega, ?_, Nat.le_refl _, by unfold maxLen; omega, rfl, rfl⟩⟩, ?_, PaK.nil _ _ _⟩
    · have := heap_alloc_new w (.cells #[] 118)
      simpa using this
    · intro k hk
      simp [Value.ownBlock] at hk
      simp
      omega
  go_enter Tryz.func64, Tryz.ntmps64
  go_wp2
  go_loopw [3, 4] (fun u i wr => ∃ (k : Nat) (V' : List EkV), k ≤ n ∧ i = .int .i64 k ∧ V'.length = k ∧ V'.map EkV.r = (V.take k).map EkV.r ∧ New w wr ∧ OwL wr w.heap.size wr.heap.size u V') (fun _ i _ => n - (intOf i).toNat)
  case atStart => exact ⟨0, [], Nat.zero_le _, rfl, rfl, rfl, (New.refl _).alloc _, hL0⟩
  case round =>
    obtain ⟨k, V', hk, rfl, hl', hmap, hnw, how⟩ := hrel
    have HL' : Hid (V'.length = k) := hl'
    clear hl' hL0
    by_cases hlt : k < n
    · obtain ⟨g, ep', ki, pe, x, m, d, xs, rfl, hv, hlen, hns, hmx, q0, q1, q2, q3⟩ := (h.new hnw).at k (by have := HN.out; omega)
      have hnl : Hid (x = none → m = 0 ∧ d = 0) := fun e => by have := HNl.out _ (List.mem_of_getElem? hv) e; rw [← hlen]; exact this
      have HL : Hid (xs.length = m) := hlen
      have hbd : Hid (∀ z ∈ xs, By z) := hns.lt
      have HMp : Hid (∀ u : EkV, u.r = ⟨ep', ki, pe, xs⟩ → (V' ++ [u]).map EkV.r = (V.take (k + 1)).map EkV.r) := by
        intro u hu
        obtain ⟨hk', e⟩ := List.getElem?_eq_some_iff.1 hv
        rw [List.take_succ_eq_append_getElem hk', e, List.map_append, List.map_append, hmap]
        simp [hu]
      obtain ⟨y, dd, hform, -, -⟩ := row9_form how.row
      subst hform
      clear hv hlen hmap h
      go_wp2_with fail
      refine (scopyE ep' ki pe x m d xs _ hns HL.out hnl.out (by omega)).mono ?_
      rintro e w1 ⟨a', c', rfl, ho1, hn1⟩
      have al2 := (New.refl w1).alloc (.cells #[.int .i64 ep', .int .i64 ki, .int .i64 pe, .slice a' m c'] 118)
      have bL := Blk.mk w1 w1.heap.size 118 #[.int .i64 ep', .int .i64 ki, .int .i64 pe, .slice a' m c'] rfl
      have cL := bL.cells
      have hrow := row9_new (row9_new how.row hn1) al2
      have hov : OvB w1 wr.heap.size (EkV.pv ⟨⟨ep', ki, pe, xs⟩, a', c'⟩) xs := by
        unfold EkV.pv
        simp only [HL.out]
        exact ho1
      have hs1 := (hnw.trans hn1).size
      clear q0 q1 q2 q3 hns
      go_wp2_with (at_builtin; refine wpList_apV _ rfl (.tmp 12) (.tmp 18) rfl w.heap.size 4 48 (.agg #[.int .i64 0, .int .i64 0, .int .i64 0, .slice none 0 0]) Tryz.underlying45 hi hz0 hz1 hz2 rfl (by omega) (by omega) _ _ _ rfl hrow w1.heap.size [.int .i64 ep', .int .i64 ki, .int .i64 pe, .slice a' m c'] rfl (by simp [Value.oneCell']) rfl (by intro j u hu; rw [cL j, List.getElem?_toArray]; exact hu) (by have := HL'.out; omega) (by simp; omega) ?_)
      intro v' w5 hr5 hg5 hat5
      have hr5' : w5.ownsRow w.heap.size 118 4 v' (V' ++ [EkV.mk (Ek.mk ep' ki pe xs) a' c']).length (cellsK (V' ++ [EkV.mk (Ek.mk ep' ki pe xs) a' c'])) := by
        rw [cellsK_snoc, List.length_append]
        simp only [EkV.cs, HL.out]
        exact hr5
      have hap := how.appended (by have := hnw.size; omega) hn1 hov hbd.out (by simp only [HL.out]; omega) al2 hr5' hg5
      have hn5 : New w w5 := ((hnw.trans hn1).trans al2).grow hg5 (by intro j hj; have := (row9_form how.row).elim fun _ ⟨_, _, _, hh⟩ => (hh j hj).1; omega)
      have HAP : Hid _ := hap
      clear hrow hr5 hr5' hg5 hat5 how hap cL bL
      go_wp2
      go_roundw
      case rel => exact ⟨k + 1, _, by omega, by go_num, by simp [HL'.out], HMp.out _ rfl, hn5, HAP.out⟩
      case measure => simp [intOf]; omega
    · obtain rfl : k = n := by omega
      have hl := HL'.out
      obtain ⟨y, dd, hform, -, -⟩ := row9_form how.row
      rw [hl] at hform
      subst hform
      have HOW : Hid _ := how
      clear how
      go_wp2
      go_ret
      rw [List.take_of_length_le (by have := HN.out; omega)] at hmap
      exact ⟨y, dd, V', rfl, hmap, HOW.out, hnw⟩

theorem sMl16 (m : Ml) (a : Option Addr) (c : Nat) (w : World) (hx : BsAt w a m.e.xs) (hnx : a = none → m.e.xs.length = 0 ∧ c = 0) (hm : m.e.xs.length ≤ 1048576) :
    Calls Tryz.prog 63 #[.agg #[.int .i64 m.kd, .int .i64 m.tgt, .int .i64 m.ep, .int .i64 m.at1, .int .i64 m.pr, .bool m.has, .int .i64 m.e.ep, .int .i64 m.e.ki, .int .i64 m.e.pe, .slice a m.e.xs.length c]] w fun e w' => ∃ a' c', e = .returned (.agg #[.int .i64 m.kd, .int .i64 m.tgt, .int .i64 m.ep, .int .i64 m.at1, .int .i64 m.pr, .bool m.has, .int .i64 m.e.ep, .int .i64 m.e.ki, .int .i64 m.e.pe, .slice a' m.e.xs.length c']) ∧ OvB w' w.heap.size (.slice a' m.e.xs.length c') m.e.xs ∧ New w w' := by
  have hw : New w ((w.alloc (.cells #[.int .i64 m.kd, .int .i64 m.tgt, .int .i64 m.ep, .int .i64 m.at1, .int .i64 m.pr, .bool m.has, .int .i64 m.e.ep, .int .i64 m.e.ki, .int .i64 m.e.pe, .slice a m.e.xs.length c] 120)).alloc (.cells #[.int .i64 0, .int .i64 0, .int .i64 0, .int .i64 0, .int .i64 0, .bool false, .int .i64 0, .int .i64 0, .int .i64 0, .slice none 0 0] 120)) := ((New.refl w).alloc _).alloc _
  have b0 : Blk ((w.alloc (.cells #[.int .i64 m.kd, .int .i64 m.tgt, .int .i64 m.ep, .int .i64 m.at1, .int .i64 m.pr, .bool m.has, .int .i64 m.e.ep, .int .i64 m.e.ki, .int .i64 m.e.pe, .slice a m.e.xs.length c] 120)).alloc (.cells #[.int .i64 0, .int .i64 0, .int .i64 0, .int .i64 0, .int .i64 0, .bool false, .int .i64 0, .int .i64 0, .int .i64 0, .slice none 0 0] 120)) w.heap.size 120 #[.int .i64 m.kd, .int .i64 m.tgt, .int .i64 m.ep, .int .i64 m.at1, .int .i64 m.pr, .bool m.has, .int .i64 m.e.ep, .int .i64 m.e.ki, .int .i64 m.e.pe, .slice a m.e.xs.length c] := (Blk.mk _ _ _ _ rfl).alloc _
  have b1 : Blk ((w.alloc (.cells #[.int .i64 m.kd, .int .i64 m.tgt, .int .i64 m.ep, .int .i64 m.at1, .int .i64 m.pr, .bool m.has, .int .i64 m.e.ep, .int .i64 m.e.ki, .int .i64 m.e.pe, .slice a m.e.xs.length c] 120)).alloc (.cells #[.int .i64 0, .int .i64 0, .int .i64 0, .int .i64 0, .int .i64 0, .bool false, .int .i64 0, .int .i64 0, .int .i64 0, .slice none 0 0] 120)) (w.heap.size + 1) 120 #[.int .i64 0, .int .i64 0, .int .i64 0, .int .i64 0, .int .i64 0, .bool false, .int .i64 0, .int .i64 0, .int .i64 0, .slice none 0 0] := Blk.mk _ _ _ _ (by simp)
  have sz : Hid (((w.alloc (.cells #[.int .i64 m.kd, .int .i64 m.tgt, .int .i64 m.ep, .int .i64 m.at1, .int .i64 m.pr, .bool m.has, .int .i64 m.e.ep, .int .i64 m.e.ki, .int .i64 m.e.pe, .slice a m.e.xs.length c] 120)).alloc (.cells #[.int .i64 0, .int .i64 0, .int .i64 0, .int .i64 0, .int .i64 0, .bool false, .int .i64 0, .int .i64 0, .int .i64 0, .slice none 0 0] 120)).heap.size = w.heap.size + 1 + 1) := by unfold Hid; simp
  have ge0 : w.heap.size ≤ w.heap.size := Nat.le_refl _
  have ge1 : w.heap.size ≤ w.heap.size + 1 := by omega
  go_enter Tryz.func63, Tryz.ntmps63
  go_upto_region 1 with fail
  generalize ((w.alloc (.cells #[.int .i64 m.kd, .int .i64 m.tgt, .int .i64 m.ep, .int .i64 m.at1, .int .i64 m.pr, .bool m.has, .int .i64 m.e.ep, .int .i64 m.e.ki, .int .i64 m.e.pe, .slice a m.e.xs.length c] 120)).alloc (.cells #[.int .i64 0, .int .i64 0, .int .i64 0, .int .i64 0, .int .i64 0, .bool false, .int .i64 0, .int .i64 0, .int .i64 0, .slice none 0 0] 120)) = w0 at *
  have c0 := b0.cells
  go_wp2_with (go_at_call 69; refine (scopyE m.e.ep m.e.ki m.e.pe a m.e.xs.length c m.e.xs _ (hx.new hw) rfl hnx hm).mono ?_; rintro e w1 ⟨a', c', rfl, ho, hn1⟩; have B0 := b0.new hn1; have B1 := b1.new hn1; clear c0; have c0 := B0.cells; have f0 := B0.frees; have c1 := B1.cells; have f1 := B1.frees; have HO : Hid _ := ho; have N1 := hw.trans hn1; clear ho hn1)
  refine bodyPost_ret (v := .agg #[.int .i64 m.kd, .int .i64 m.tgt, .int .i64 m.ep, .int .i64 m.at1, .int .i64 m.pr, .bool m.has, .int .i64 m.e.ep, .int .i64 m.e.ki, .int .i64 m.e.pe, .slice a' m.e.xs.length c']) (by simp [results, Tryz.results63, go_sem, c1]) rfl ⟨a', c', rfl, ?_, ?_⟩
  · refine (OvB.turn (S := fun i => i = w.heap.size + 1 ∨ i = w.heap.size) HO.out ?_ (by intro k hk _ e; have := sz.out; omega)).low (by have := sz.out; omega)
    exact Turn.set (S := fun i => i = w.heap.size + 1 ∨ i = w.heap.size) (Turn.set (S := fun i => i = w.heap.size + 1 ∨ i = w.heap.size) (Turn.set (S := fun i => i = w.heap.size + 1 ∨ i = w.heap.size) (Turn.set (S := fun i => i = w.heap.size + 1 ∨ i = w.heap.size) (Turn.set (S := fun i => i = w.heap.size + 1 ∨ i = w.heap.size) (Turn.set (S := fun i => i = w.heap.size + 1 ∨ i = w.heap.size) (Turn.set (S := fun i => i = w.heap.size + 1 ∨ i = w.heap.size) (Turn.set (S := fun i => i = w.heap.size + 1 ∨ i = w.heap.size) (Turn.set (S := fun i => i = w.heap.size + 1 ∨ i = w.heap.size) (Turn.set (S := fun i => i = w.heap.size + 1 ∨ i = w.heap.size) (Turn.set (S := fun i => i = w.heap.size + 1 ∨ i = w.heap.size) (Turn.set (S := fun i => i = w.heap.size + 1 ∨ i = w.heap.size) (Turn.set (S := fun i => i = w.heap.size + 1 ∨ i = w.heap.size) (Turn.set (S := fun i => i = w.heap.size + 1 ∨ i = w.heap.size) (Turn.refl _ _) (Or.inr rfl) _) (Or.inr rfl) _) (Or.inr rfl) _) (Or.inr rfl) _) (Or.inl rfl) _) (Or.inl rfl) _) (Or.inl rfl) _) (Or.inl rfl) _) (Or.inl rfl) _) (Or.inl rfl) _) (Or.inl rfl) _) (Or.inl rfl) _) (Or.inl rfl) _) (Or.inl rfl) _
  · exact ((((((((((((((N1).setCell ge0 _).setCell ge0 _).setCell ge0 _).setCell ge0 _).setCell ge1 _).setCell ge1 _).setCell ge1 _).setCell ge1 _).setCell ge1 _).setCell ge1 _).setCell ge1 _).setCell ge1 _).setCell ge1 _).setCell ge1 _

theorem specSe16 (sa si ho nx : Int) (a1 a2 : Option Addr) (n1 c1 n2 c2 : Nat) (r1 r2 : List Ru) (w : World) (h1 : RsAt w a1 r1) (h2 : RsAt w a2 r2) (e1 : r1.length = n1) (e2 : r2.length = n2) (m1 : n1 ≤ 1048576) (m2 : n2 ≤ 1048576) (z1 : a1 = none → n1 = 0 ∧ c1 = 0) (z2 : a2 = none → n2 = 0 ∧ c2 = 0) :
    Calls Tryz.prog 106 #[.agg #[.int .i64 sa, .int .i64 si, .int .i64 ho, .int .i64 nx, .slice a1 n1 c1, .slice a2 n2 c2]] w fun e w' => ∃ x1 d1 x2 d2, e = .returned (.agg #[.int .i64 sa, .int .i64 si, .int .i64 ho, .int .i64 nx, .slice x1 n1 d1, .slice x2 n2 d2]) ∧ OvR w' (w.heap.size + 2) (.slice x1 n1 d1) r1 ∧ OvR w' (w.heap.size + 2) (.slice x2 n2 d2) r2 ∧ (∀ k, (Value.slice x1 n1 d1).ownBlock = some k → (Value.slice x2 n2 d2).ownBlock ≠ some k) ∧ New w w' := by
  have E1 : Hid (r1.length = n1) := e1
  have E2 : Hid (r2.length = n2) := e2
  have Z1 : Hid (a1 = none → n1 = 0 ∧ c1 = 0) := z1
  have Z2 : Hid (a2 = none → n2 = 0 ∧ c2 = 0) := z2
  obtain ⟨i0, hi, hz0, hz1, hz2⟩ := info_parts Tryz.infoRu
  have hw : New w ((w.alloc (.cells #[.int .i64 sa, .int .i64 si, .int .i64 ho, .int .i64 nx, .slice a1 n1 c1, .slice a2 n2 c2] 41)).alloc (.cells #[.int .i64 0, .int .i64 0, .int .i64 0, .int .i64 0, .slice none 0 0, .slice none 0 0] 41)) := ((New.refl w).alloc _).alloc _
  have bA : Blk ((w.alloc (.cells #[.int .i64 sa, .int .i64 si, .int .i64 ho, .int .i64 nx, .slice a1 n1 c1, .slice a2 n2 c2] 41)).alloc (.cells #[.int .i64 0, .int .i64 0, .int .i64 0, .int .i64 0, .slice none 0 0, .slice none 0 0] 41)) w.heap.size 41 #[.int .i64 sa, .int .i64 si, .int .i64 ho, .int .i64 nx, .slice a1 n1 c1, .slice a2 n2 c2] := (Blk.mk _ _ _ _ rfl).alloc _
  have bB : Blk ((w.alloc (.cells #[.int .i64 sa, .int .i64 si, .int .i64 ho, .int .i64 nx, .slice a1 n1 c1, .slice a2 n2 c2] 41)).alloc (.cells #[.int .i64 0, .int .i64 0, .int .i64 0, .int .i64 0, .slice none 0 0, .slice none 0 0] 41)) (w.heap.size + 1) 41 #[.int .i64 0, .int .i64 0, .int .i64 0, .int .i64 0, .slice none 0 0, .slice none 0 0] := Blk.mk _ _ _ _ (by simp)
  have SZ0 : Hid (((w.alloc (.cells #[.int .i64 sa, .int .i64 si, .int .i64 ho, .int .i64 nx, .slice a1 n1 c1, .slice a2 n2 c2] 41)).alloc (.cells #[.int .i64 0, .int .i64 0, .int .i64 0, .int .i64 0, .slice none 0 0, .slice none 0 0] 41)).heap.size = w.heap.size + 2) := by show _ = _; simp
  clear e1 e2 z1 z2
  go_enter Tryz.func106, Tryz.ntmps106
  go_upto_region 1 with fail
  generalize ((w.alloc (.cells #[.int .i64 sa, .int .i64 si, .int .i64 ho, .int .i64 nx, .slice a1 n1 c1, .slice a2 n2 c2] 41)).alloc (.cells #[.int .i64 0, .int .i64 0, .int .i64 0, .int .i64 0, .slice none 0 0, .slice none 0 0] 41)) = w0 at *
  have al0 : New w0 (w0.alloc (.cells #[] 159)) := (New.refl w0).alloc _
  have cA := (bA.new al0).cells
  go_wp2_with (at_builtin; refine wpList_apRs _ rfl (.tmp 3) (.tmp 5) rfl w0.heap.size (.agg #[.int .i64 0, .int .i64 0, .int .i64 0, .int .i64 0, .int .i64 0, .bool false, .int .i64 0, .int .i64 0]) Tryz.underlying39 hi hz0 hz1 hz2 rfl (.slice (some ⟨w0.heap.size, 0, none⟩) 0 0) [] rfl (lit_rules w0 w0.heap.size (Nat.le_refl _)) a1 n1 c1 r1 rfl ((h1.new hw).new al0) E1.out Z1.out (by simp; omega) (by simp) ?_)
  intro v1 w1 o1 g1
  replace o1 : OvR w1 w0.heap.size v1 r1 := by simpa [OvR] using o1
  have N1 : New w0 w1 := al0.grow g1 (fun k hk => by simp [Value.ownBlock] at hk; omega)
  obtain ⟨x1, d1, hv1, -, -⟩ := o1.rs
  rw [E1.out] at hv1
  subst hv1
  have sz0 := SZ0.out
  have hs1 := N1.size
  have bA1 := bA.new N1
  have bB1 := bB.new N1
  have hw1 := hw.trans N1
  have cA1 := bA1.cells
  have fA1 := bA1.frees
  have p1 := o1.low (lo' := w.heap.size + 2) (by omega)
  have t1 : Turn (fun k => k = w.heap.size) w1 (w1.setCell ⟨w.heap.size, 4, none⟩ (.slice x1 n1 d1)) := Turn.here9 (Turn.refl _ _) _
  have bA2 : Blk (w1.setCell ⟨w.heap.size, 4, none⟩ (.slice x1 n1 d1)) w.heap.size 41 #[.int .i64 sa, .int .i64 si, .int .i64 ho, .int .i64 nx, .slice x1 n1 d1, .slice a2 n2 c2] := bA1.set 4 (.slice x1 n1 d1)
  have bB2 := bB1.turn t1 (by omega)
  have hw2 := hw1.setCell (p := ⟨w.heap.size, 4, none⟩) (Nat.le_refl _) (.slice x1 n1 d1)
  have p2 := p1.turn t1 (by intro k hk e; have := (p1.blk k hk).1; omega)
  have hs2 : (w1.setCell ⟨w.heap.size, 4, none⟩ (.slice x1 n1 d1)).heap.size = w1.heap.size := by simp
  have SZ2 : Hid (w.heap.size + 2 ≤ (w1.setCell ⟨w.heap.size, 4, none⟩ (.slice x1 n1 d1)).heap.size) := (show w.heap.size + 2 ≤ (w1.setCell ⟨w.heap.size, 4, none⟩ (.slice x1 n1 d1)).heap.size by omega)
  clear cA bA bB bA1 bB1 hw1 o1 p1 al0 N1 t1 sz0 g1 hs1 hs2
  go_upto_region 2 with fail
  generalize (w1.setCell ⟨w.heap.size, 4, none⟩ (.slice x1 n1 d1)) = w2 at *
  clear cA1 fA1
  have al0 : New w2 (w2.alloc (.cells #[] 159)) := (New.refl w2).alloc _
  have cA := (bA2.new al0).cells
  go_wp2_with (at_builtin; refine wpList_apRs _ rfl (.tmp 8) (.tmp 10) rfl w2.heap.size (.agg #[.int .i64 0, .int .i64 0, .int .i64 0, .int .i64 0, .int .i64 0, .bool false, .int .i64 0, .int .i64 0]) Tryz.underlying39 hi hz0 hz1 hz2 rfl (.slice (some ⟨w2.heap.size, 0, none⟩) 0 0) [] rfl (lit_rules w2 w2.heap.size (Nat.le_refl _)) a2 n2 c2 r2 rfl ((h2.new hw2).new al0) E2.out Z2.out (by simp; omega) (by simp) ?_)
  intro v3 w3 o3 g3
  replace o3 : OvR w3 w2.heap.size v3 r2 := by simpa [OvR] using o3
  have N3 : New w2 w3 := al0.grow g3 (fun k hk => by simp [Value.ownBlock] at hk; omega)
  obtain ⟨x2, d2, hv3, -, -⟩ := o3.rs
  rw [E2.out] at hv3
  subst hv3
  have sz2 := SZ2.out
  have hw3 := hw2.trans N3
  have bA3 := bA2.new N3
  have bB3 := bB2.new N3
  have AB16 : Hid (∀ k, (Value.slice x1 n1 d1).ownBlock = some k → (Value.slice x2 n2 d2).ownBlock ≠ some k) := fun k a b => by have h1 := (p2.blk k a).2; have h2 := (o3.blk k b).1; omega
  have O1 : Hid (OvR w3 (w.heap.size + 2) (.slice x1 n1 d1) r1) := p2.new N3
  have O2 : Hid (OvR w3 (w.heap.size + 2) (.slice x2 n2 d2) r2) := o3.low (by omega)
  have cA3 := bA3.cells
  have fA3 := bA3.frees
  have cB3 := bB3.cells
  have fB3 := bB3.frees
  have ge0 : w.heap.size ≤ w.heap.size := Nat.le_refl _
  have ge1 : w.heap.size ≤ w.heap.size + 1 := by omega
  have d01 : ¬ w.heap.size + 1 = w.heap.size := by omega
  clear cA bA2 bB2 p2 o3 al0 N3 g3 hw2 sz2
  go_wp2
  refine bodyPost_ret (v := .agg #[.int .i64 sa, .int .i64 si, .int .i64 ho, .int .i64 nx, .slice x1 n1 d1, .slice x2 n2 d2]) (by simp [results, Tryz.results106, go_sem, cB3]) rfl ⟨x1, d1, x2, d2, rfl, ?_, ?_, AB16.out, ?_⟩
  · refine OvR.turn (S := fun k => k = w.heap.size ∨ k = w.heap.size + 1) O1.out ?_ ?_
    · simp (disch := (first | exact Or.inl rfl | exact Or.inr rfl)) only [turn_set_iff]
      exact Turn.refl _ _
    · intro k hk e; have := (O1.out.blk k hk).1; omega
  · refine OvR.turn (S := fun k => k = w.heap.size ∨ k = w.heap.size + 1) O2.out ?_ ?_
    · simp (disch := (first | exact Or.inl rfl | exact Or.inr rfl)) only [turn_set_iff]
      exact Turn.refl _ _
    · intro k hk e; have := (O2.out.blk k hk).1; omega
  · simp (disch := (first | exact ge0 | exact ge1)) only [New.set_iff, hw3]

end Go.Proofs.YtdbnmkffinhdjaaGreat
