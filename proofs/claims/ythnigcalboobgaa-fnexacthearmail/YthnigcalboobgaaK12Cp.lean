/- What is proved here: what the copies of logs and of nodes answer, both sides, for logs of at most 1048576 entries and bytes. -/
import Derived.Test.YthnigcalboobgaaK12Ng
namespace Go.Proofs.Ythnigcalboobgaa
open Go.RowKit Go.Sort
set_option linter.unusedVariables false
set_option linter.unusedSimpArgs false
set_option maxRecDepth 100000

theorem PaK.turnP {w w' : World} {lo hi : Nat} {V : List EkV} {S : Nat → Prop} (h : PaK w lo hi V) (t : Turn S w w') (hS : ∀ v ∈ V, ∀ k, v.pv.ownBlock = some k → ¬ S k) : PaK w' lo hi V :=
  ⟨fun v hv => (h.own v hv).turnK t (hS v hv), h.bd, h.lies, h.apart⟩
theorem rowv_neK {w : World} {lo lo' n k sz : Nat} {ty : TypeId} {u v : Value} {cs : List Value} {xs : List Int} (h : w.ownsRow lo ty sz u n cs) (hty : ¬ ty = 5) (ho : OvB w lo' v xs) (hu : u.ownBlock = some k) : v.ownBlock ≠ some k := by
  intro e
  rcases ho.2 with ⟨h', _⟩ | ⟨g1, c1, cur1, h1, _, hb1, _⟩
  · rw [h'] at e; simp [Value.ownBlock] at e
  · rw [h1] at e
    simp [Value.ownBlock] at e
    subst e
    rcases h.2 with ⟨h', _⟩ | ⟨g2, _, cur2, h2, _, hb2, _⟩
    · rw [h'] at hu; simp [Value.ownBlock] at hu
    · rw [h2] at hu
      simp [Value.ownBlock] at hu
      subst hu
      rw [hb1] at hb2
      simp only [Option.some.injEq, Obj.cells.injEq] at hb2
      exact hty hb2.2.1.symm

/-- An entry put behind a list of the call's own. -/
theorem OwL.appended {w2 w3 w4 w5 : World} {lo : Nat} {u v' : Value} {V : List EkV} {v : EkV} (h : OwL w2 lo w2.heap.size u V) (hlo : lo ≤ w2.heap.size) (n3 : New w2 w3) (ho : OvB w3 w2.heap.size v.pv v.r.xs) (hb : ∀ z ∈ v.r.xs, By z) (hm : v.r.xs.length ≤ 1048576) (n4 : New w3 w4)
    (hr : w5.ownsRow lo 44 4 v' (V ++ [v]).length (cellsK (V ++ [v]))) (hg : w4.grownBy w5 u.ownBlock) : OwL w5 lo w5.heap.size v' (V ++ [v]) := by
  have P4 := ((h.path.new n3).snoc v ho hb hm hlo n3.size (Nat.le_refl _)).new n4
  have r4 := row9_new h.row (n3.trans n4)
  obtain ⟨y, d, -, -, hrn⟩ := row9_form hr
  refine ⟨hr, fun k hk => (hrn k hk).2, (P4.turnP (turn_of_grown hg) ?_).up (Nat.le_trans n4.size hg.size)⟩
  intro q hq k hk e
  exact rowv_neK r4 (by decide) (P4.own q hq) e hk

/-- Entries without bytes have no room. -/
def NlK (V : List EkV) : Prop := ∀ v ∈ V, v.a = none → v.r.xs.length = 0 ∧ v.c = 0
theorem OwL.nl {w : World} {lo hi : Nat} {u : Value} {V : List EkV} (h : OwL w lo hi u V) : NlK V := fun v hv => (h.path.here v hv).2.1

set_option maxHeartbeats 6400000 in
theorem copyLg_any (A : Option Addr) (n c : Nat) (V : List EkV) (w : World) (h : LgAt w A V) (hN : NlK V) (hn : V.length = n) (hm : n ≤ 2097152) :
    Calls Try.prog 54 #[.slice A n c] w fun e w' => ∃ u V', e = .returned u ∧ V'.map EkV.r = V.map EkV.r ∧ OwL w' w.heap.size w'.heap.size u V' ∧ New w w' := by
  have HN : Hid (V.length = n) := hn
  have HNl : Hid (NlK V) := hN
  clear hn hN
  obtain ⟨i0, hi, hz0, hz1, hz2⟩ := info_parts Try.infoEk
  go_enter Try.func54, Try.ntmps54
  go_wp2
  go_loopw [3, 8] (fun u i wr => ∃ (k : Nat) (V' : List EkV), k ≤ n ∧ i = .int .i64 k ∧ V'.length = k ∧ V'.map EkV.r = (V.take k).map EkV.r ∧ New w wr ∧ OwL wr w.heap.size wr.heap.size u V') (fun _ i _ => n - (intOf i).toNat)
  case atStart => exact ⟨0, [], Nat.zero_le _, rfl, rfl, rfl, New.refl _, OwL.nil _ _ _⟩
  case round =>
    obtain ⟨k, V', hk, rfl, hl', hmap, hnw, how⟩ := hrel
    have HL' : Hid (V'.length = k) := hl'
    clear hl'
    by_cases hlt : k < n
    · obtain ⟨g, ep, ki, pe, x, m, d, xs, rfl, hv, hlen, hns, hmx, q0, q1, q2, q3⟩ := (h.new hnw).at k (by have := HN.out; omega)
      have hnl : Hid (x = none → m = 0 ∧ d = 0) := fun e => by have := HNl.out _ (List.mem_of_getElem? hv) e; rw [← hlen]; exact this
      have HL : Hid (xs.length = m) := hlen
      have hbd : Hid (∀ z ∈ xs, By z) := hns.lt
      have HMp : Hid (∀ u : EkV, u.r = ⟨ep, ki, pe, xs⟩ → (V' ++ [u]).map EkV.r = (V.take (k + 1)).map EkV.r) := by
        intro u hu
        obtain ⟨hk', e⟩ := List.getElem?_eq_some_iff.1 hv
        rw [List.take_succ_eq_append_getElem hk', e, List.map_append, List.map_append, hmap]
        simp [hu]
      have al := (New.refl wr).alloc (.cells #[.int .i64 ep, .int .i64 ki, .int .i64 pe, .slice x m d] 44)
      obtain ⟨y, dd, hform, -, -⟩ := row9_form how.row
      subst hform
      clear hv hlen hmap h
      go_wp2_with fail
      refine (copyE ep ki pe x m d xs _ (hns.new al) HL.out hnl.out (by omega)).mono ?_
      rintro e w1 ⟨a', c', rfl, ho1, hn1⟩
      have n1 := al.trans hn1
      have al2 := (New.refl w1).alloc (.cells #[.int .i64 ep, .int .i64 ki, .int .i64 pe, .slice a' m c'] 44)
      have bL := Blk.mk w1 w1.heap.size 44 #[.int .i64 ep, .int .i64 ki, .int .i64 pe, .slice a' m c'] rfl
      have cL := bL.cells
      have hrow := row9_new (row9_new how.row n1) al2
      have hov : OvB w1 wr.heap.size (EkV.pv ⟨⟨ep, ki, pe, xs⟩, a', c'⟩) xs := by
        unfold EkV.pv
        simp only [HL.out]
        exact ho1.low (by simp)
      have hs1 := (hnw.trans n1).size
      clear q0 q1 q2 q3 hns
      go_wp2_with (at_builtin; refine wpList_apV _ rfl (.tmp 12) (.tmp 15) rfl w.heap.size 4 48 (.agg #[.int .i64 0, .int .i64 0, .int .i64 0, .slice none 0 0]) Try.underlying34 hi hz0 hz1 hz2 rfl (by omega) (by omega) _ _ _ rfl hrow w1.heap.size [.int .i64 ep, .int .i64 ki, .int .i64 pe, .slice a' m c'] rfl (by simp [Value.oneCell']) rfl (by intro j u hu; rw [cL j, List.getElem?_toArray]; exact hu) (by have := HL'.out; omega) (by simp; omega) ?_)
      intro v' w5 hr5 hg5 hat5
      have hr5' : w5.ownsRow w.heap.size 44 4 v' (V' ++ [EkV.mk (Ek.mk ep ki pe xs) a' c']).length (cellsK (V' ++ [EkV.mk (Ek.mk ep ki pe xs) a' c'])) := by
        rw [cellsK_snoc, List.length_append]
        simp only [EkV.cs, HL.out]
        exact hr5
      have hap := how.appended hnw.size n1 hov hbd.out (by simp only [HL.out]; omega) al2 hr5' hg5
      have hn5 : New w w5 := ((hnw.trans n1).trans al2).grow hg5 (by intro j hj; exact (row9_form how.row).elim fun _ ⟨_, _, _, hh⟩ => (hh j hj).1)
      have HAP : Hid _ := hap
      clear hrow hr5 hr5' hg5 hat5 how hap cL bL
      go_wp2
      go_roundw
      case rel => exact ⟨k + 1, _, by omega, by go_num, by simp [HL'.out], HMp.out _ rfl, hn5, HAP.out⟩
      case measure => simp [intOf]; omega
    · go_wp2
      go_ret
      have hkn : k = n := by omega
      subst hkn
      rw [List.take_of_length_le (by have := HN.out; omega)] at hmap
      exact ⟨_, V', rfl, hmap, how, hnw⟩

set_option maxHeartbeats 3200000 in
theorem copyNd_any (B : Nat) (id : Int) (up : Bool) (ro ep su ma ot co : Int) (A : Option Addr) (n c : Nat) (V : List EkV) (w : World) (hb : Blk w B 36 #[.int .i64 id, .bool up, .int .i64 ro, .int .i64 ep, .slice A n c, .int .i64 su, .int .i64 ma, .int .i64 ot, .int .i64 co]) (h : LgAt w A V) (hN : NlK V) (hn : V.length = n) (hm : n ≤ 2097152) :
    Calls Try.prog 27 #[.pointer (some ⟨B, 0, none⟩)] w fun e w' => ∃ A' c' V', e = .returned (.agg #[.int .i64 id, .bool up, .int .i64 ro, .int .i64 ep, .slice A' n c', .int .i64 su, .int .i64 ma, .int .i64 ot, .int .i64 co]) ∧ V'.map EkV.r = V.map EkV.r ∧ OwL w' w.heap.size w'.heap.size (.slice A' n c') V' ∧ New w w' := by
  have hw := ((New.refl w).alloc (.cells #[.int .i64 0, .bool false, .int .i64 0, .int .i64 0, .slice none 0 0, .int .i64 0, .int .i64 0, .int .i64 0, .int .i64 0] 36)).alloc (.cells #[.int .i64 id, .bool up, .int .i64 ro, .int .i64 ep, .slice A n c, .int .i64 su, .int .i64 ma, .int .i64 ot, .int .i64 co] 36)
  have b0 := (hb.alloc (.cells #[.int .i64 0, .bool false, .int .i64 0, .int .i64 0, .slice none 0 0, .int .i64 0, .int .i64 0, .int .i64 0, .int .i64 0] 36)).alloc (.cells #[.int .i64 id, .bool up, .int .i64 ro, .int .i64 ep, .slice A n c, .int .i64 su, .int .i64 ma, .int .i64 ot, .int .i64 co] 36)
  have b1 := (Blk.mk w w.heap.size 36 #[.int .i64 0, .bool false, .int .i64 0, .int .i64 0, .slice none 0 0, .int .i64 0, .int .i64 0, .int .i64 0, .int .i64 0] rfl).alloc (.cells #[.int .i64 id, .bool up, .int .i64 ro, .int .i64 ep, .slice A n c, .int .i64 su, .int .i64 ma, .int .i64 ot, .int .i64 co] 36)
  have b2 := Blk.mk (w.alloc (.cells #[.int .i64 0, .bool false, .int .i64 0, .int .i64 0, .slice none 0 0, .int .i64 0, .int .i64 0, .int .i64 0, .int .i64 0] 36)) (w.heap.size + 1) 36 #[.int .i64 id, .bool up, .int .i64 ro, .int .i64 ep, .slice A n c, .int .i64 su, .int .i64 ma, .int .i64 ot, .int .i64 co] (by simp)
  have s0 : Hid (((w.alloc (.cells #[.int .i64 0, .bool false, .int .i64 0, .int .i64 0, .slice none 0 0, .int .i64 0, .int .i64 0, .int .i64 0, .int .i64 0] 36)).alloc (.cells #[.int .i64 id, .bool up, .int .i64 ro, .int .i64 ep, .slice A n c, .int .i64 su, .int .i64 ma, .int .i64 ot, .int .i64 co] 36)).heap.size = w.heap.size + 1 + 1) := by unfold Hid; simp
  have cB := hb.cells
  have lB := hb.lt
  go_enter Try.func27, Try.ntmps27
  go_upto_region 2 with fail
  generalize ((w.alloc (.cells #[.int .i64 0, .bool false, .int .i64 0, .int .i64 0, .slice none 0 0, .int .i64 0, .int .i64 0, .int .i64 0, .int .i64 0] 36)).alloc (.cells #[.int .i64 id, .bool up, .int .i64 ro, .int .i64 ep, .slice A n c, .int .i64 su, .int .i64 ma, .int .i64 ot, .int .i64 co] 36)) = w0 at *
  have c0 := b0.cells
  clear cB
  go_wp2_with fail
  refine (copyLg_any A n c V _ (h.new hw) hN hn hm).mono ?_
  rintro e w1 ⟨u, V', rfl, hV, ho, hn1⟩
  have hl : V'.length = n := by have := congrArg List.length hV; simp at this; omega
  obtain ⟨y, dd, hform, -, -⟩ := row9_form ho.row
  rw [hl] at hform
  subst hform
  have B1 := b1.new hn1
  have B2 := b2.new hn1
  have c1 := B1.cells
  have f1 := B1.frees
  have c2 := B2.cells
  have f2 := B2.frees
  have n1 := hw.trans hn1
  have S0 := s0.out
  clear b0 b1 b2 c0 h hb
  go_wp2
  refine bodyPost_ret (v := .agg #[.int .i64 id, .bool up, .int .i64 ro, .int .i64 ep, .slice y n dd, .int .i64 su, .int .i64 ma, .int .i64 ot, .int .i64 co]) (by simp [results, Try.results27, go_sem, c1]) rfl ⟨y, dd, V', rfl, hV, ?_, ?_⟩
  · refine OwL.low (lo := w0.heap.size) (OwL.up (hi := w1.heap.size) (OwL.turn (w := w1) (S := fun i => i = w.heap.size ∨ i = w.heap.size + 1) ho ?t (by intro k hk _ e; omega)) ?u) (by omega)
    case t => exact Turn.set (S := fun i => i = w.heap.size ∨ i = w.heap.size + 1) (Turn.set (S := fun i => i = w.heap.size ∨ i = w.heap.size + 1) (Turn.set (S := fun i => i = w.heap.size ∨ i = w.heap.size + 1) (Turn.set (S := fun i => i = w.heap.size ∨ i = w.heap.size + 1) (Turn.set (S := fun i => i = w.heap.size ∨ i = w.heap.size + 1) (Turn.set (S := fun i => i = w.heap.size ∨ i = w.heap.size + 1) (Turn.set (S := fun i => i = w.heap.size ∨ i = w.heap.size + 1) (Turn.set (S := fun i => i = w.heap.size ∨ i = w.heap.size + 1) (Turn.set (S := fun i => i = w.heap.size ∨ i = w.heap.size + 1) (Turn.set (S := fun i => i = w.heap.size ∨ i = w.heap.size + 1) (Turn.refl _ _) (Or.inr rfl) _) (Or.inl rfl) _) (Or.inl rfl) _) (Or.inl rfl) _) (Or.inl rfl) _) (Or.inl rfl) _) (Or.inl rfl) _) (Or.inl rfl) _) (Or.inl rfl) _) (Or.inl rfl) _
    case u => exact Turn.size (S := fun i => i = w.heap.size ∨ i = w.heap.size + 1) (Turn.set (S := fun i => i = w.heap.size ∨ i = w.heap.size + 1) (Turn.set (S := fun i => i = w.heap.size ∨ i = w.heap.size + 1) (Turn.set (S := fun i => i = w.heap.size ∨ i = w.heap.size + 1) (Turn.set (S := fun i => i = w.heap.size ∨ i = w.heap.size + 1) (Turn.set (S := fun i => i = w.heap.size ∨ i = w.heap.size + 1) (Turn.set (S := fun i => i = w.heap.size ∨ i = w.heap.size + 1) (Turn.set (S := fun i => i = w.heap.size ∨ i = w.heap.size + 1) (Turn.set (S := fun i => i = w.heap.size ∨ i = w.heap.size + 1) (Turn.set (S := fun i => i = w.heap.size ∨ i = w.heap.size + 1) (Turn.set (S := fun i => i = w.heap.size ∨ i = w.heap.size + 1) (Turn.refl _ _) (Or.inr rfl) _) (Or.inl rfl) _) (Or.inl rfl) _) (Or.inl rfl) _) (Or.inl rfl) _) (Or.inl rfl) _) (Or.inl rfl) _) (Or.inl rfl) _) (Or.inl rfl) _) (Or.inl rfl) _)
  · exact ((((((((((n1).setCell (by simp; try omega) _).setCell (by simp; try omega) _).setCell (by simp; try omega) _).setCell (by simp; try omega) _).setCell (by simp; try omega) _).setCell (by simp; try omega) _).setCell (by simp; try omega) _).setCell (by simp; try omega) _).setCell (by simp; try omega) _).setCell (by simp; try omega) _

end Go.Proofs.Ythnigcalboobgaa
