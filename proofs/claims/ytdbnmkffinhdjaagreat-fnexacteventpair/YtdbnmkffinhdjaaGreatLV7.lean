/- Lemmas and contracts of one law. -/
import Derived.Test.YtdbnmkffinhdjaaGreatLV6
namespace Go.Proofs.YtdbnmkffinhdjaaGreat
open Go.RowKit Go.Sort
set_option linter.unusedVariables false
set_option linter.unusedSimpArgs false
set_option maxRecDepth 100000
set_option maxHeartbeats 25600000

theorem PaK.turnP {w w' : World} {lo hi : Nat} {V : List EkV} {S : Nat → Prop} (h : PaK w lo hi V) (t : Turn S w w') (hS : ∀ v ∈ V, ∀ k, v.pv.ownBlock = some k → ¬ S k) : PaK w' lo hi V :=
  ⟨fun v hv => (h.own v hv).turnK t (hS v hv), h.bd, h.lies, h.apart⟩
theorem rowv_neK {w : World} {lo lo' n k sz : Nat} {ty : TypeId} {u v : Value} {cs : List Value} {xs : List Int} (h : w.ownsRow lo ty sz u n cs) (hty : ¬ ty = 5) (ho : OvB w lo' v xs) (hu : u.ownBlock = some k) : v.ownBlock ≠ some k := by
  intro e
  rcases ho.2 with ⟨h', _⟩ | ⟨g1, c1, cur1, h1, _, hb1, _⟩
  · rw [h'] at e; simp [Value.ownBlock] at e
  · rw [h1] at e
    simp [Value.ownBlock] at e
    subst e
    rcases h.2 with ⟨h', _⟩ | ⟨g2, _, cur2, h2, _, hb2, _⟩
    · rw [h'] at hu; simp [Value.ownBlock] at hu
    · rw [h2] at hu
      simp [Value.ownBlock] at hu
      subst hu
      rw [hb1] at hb2
      simp only [Option.some.injEq, Obj.cells.injEq] at hb2
      exact hty hb2.2.1.symm

/-- An entry put behind a list of the call's own. -/
theorem OwL.appended {w2 w3 w4 w5 : World} {lo : Nat} {u v' : Value} {V : List EkV} {v : EkV} (h : OwL w2 lo w2.heap.size u V) (hlo : lo ≤ w2.heap.size) (n3 : New w2 w3) (ho : OvB w3 w2.heap.size v.pv v.r.xs) (hb : ∀ z ∈ v.r.xs, By z) (hm : v.r.xs.length ≤ 1048576) (n4 : New w3 w4)
    (hr : w5.ownsRow lo 118 4 v' (V ++ [v]).length (cellsK (V ++ [v]))) (hg : w4.grownBy w5 u.ownBlock) : OwL w5 lo w5.heap.size v' (V ++ [v]) := by
  have P4 := ((h.path.new n3).snoc v ho hb hm hlo n3.size (Nat.le_refl _)).new n4
  have r4 := row9_new h.row (n3.trans n4)
  obtain ⟨y, d, -, -, hrn⟩ := row9_form hr
  refine ⟨hr, fun k hk => (hrn k hk).2, (P4.turnP (turn_of_grown hg) ?_).up (Nat.le_trans n4.size hg.size)⟩
  intro q hq k hk e
  exact rowv_neK r4 (by decide) (P4.own q hq) e hk

/-- Entries without bytes have no room. -/
def NlK (V : List EkV) : Prop := ∀ v ∈ V, v.a = none → v.r.xs.length = 0 ∧ v.c = 0
theorem OwL.nl {w : World} {lo hi : Nat} {u : Value} {V : List EkV} (h : OwL w lo hi u V) : NlK V := fun v hv => (h.path.here v hv).2.1

theorem copyLg_any (A : Option Addr) (n c : Nat) (V : List EkV) (w : World) (h : LgAt w A V) (hN : NlK V) (hn : V.length = n) (hm : n ≤ 2097152) :
    Calls Tryz.prog 118 #[.slice A n c] w fun e w' => ∃ u V', e = .returned u ∧ V'.map EkV.r = V.map EkV.r ∧ OwL w' w.heap.size w'.heap.size u V' ∧ New w w' := by
  have HN : Hid (V.length = n) := hn
  have HNl : Hid (NlK V) := hN
  clear hn hN
  obtain ⟨i0, hi, hz0, hz1, hz2⟩ := info_parts Tryz.infoEk
  go_enter Tryz.func118, Tryz.ntmps118
  go_wp2
  go_loopw [3, 8] (fun u i wr => ∃ (k : Nat) (V' : List EkV), k ≤ n ∧ i = .int .i64 k ∧ V'.length = k ∧ V'.map EkV.r = (V.take k).map EkV.r ∧ New w wr ∧ OwL wr w.heap.size wr.heap.size u V') (fun _ i _ => n - (intOf i).toNat)
  case atStart => exact ⟨0, [], Nat.zero_le _, rfl, rfl, rfl, New.refl _, OwL.nil _ _ _⟩
  case round =>
    obtain ⟨k, V', hk, rfl, hl', hmap, hnw, how⟩ := hrel
    have HL' : Hid (V'.length = k) := hl'
    clear hl'
    by_cases hlt : k < n
    · obtain ⟨g, ep, ki, pe, x, m, d, xs, rfl, hv, hlen, hns, hmx, q0, q1, q2, q3⟩ := (h.new hnw).at k (by have := HN.out; omega)
      have hnl : Hid (x = none → m = 0 ∧ d = 0) := fun e => by have := HNl.out _ (List.mem_of_getElem? hv) e; rw [← hlen]; exact this
      have HL : Hid (xs.length = m) := hlen
      have hbd : Hid (∀ z ∈ xs, By z) := hns.lt
      have HMp : Hid (∀ u : EkV, u.r = ⟨ep, ki, pe, xs⟩ → (V' ++ [u]).map EkV.r = (V.take (k + 1)).map EkV.r) := by
        intro u hu
        obtain ⟨hk', e⟩ := List.getElem?_eq_some_iff.1 hv
        rw [List.take_succ_eq_append_getElem hk', e, List.map_append, List.map_append, hmap]
        simp [hu]
      have al := (New.refl wr).alloc (.cells #[.int .i64 ep, .int .i64 ki, .int .i64 pe, .slice x m d] 118)
      obtain ⟨y, dd, hform, -, -⟩ := row9_form how.row
      subst hform
      clear hv hlen hmap h
      go_wp2_with fail
      refine (copyE ep ki pe x m d xs _ (hns.new al) HL.out hnl.out (by omega)).mono ?_
      rintro e w1 ⟨a', c', rfl, ho1, hn1⟩
      have n1 := al.trans hn1
      have al2 := (New.refl w1).alloc (.cells #[.int .i64 ep, .int .i64 ki, .int .i64 pe, .slice a' m c'] 118)
      have bL := Blk.mk w1 w1.heap.size 118 #[.int .i64 ep, .int .i64 ki, .int .i64 pe, .slice a' m c'] rfl
      have cL := bL.cells
      have hrow := row9_new (row9_new how.row n1) al2
      have hov : OvB w1 wr.heap.size (EkV.pv ⟨⟨ep, ki, pe, xs⟩, a', c'⟩) xs := by
        unfold EkV.pv
        simp only [HL.out]
        exact ho1.low (by simp)
      have hs1 := (hnw.trans n1).size
      clear q0 q1 q2 q3 hns
      go_wp2_with (at_builtin; refine wpList_apV _ rfl (.tmp 12) (.tmp 15) rfl w.heap.size 4 48 (.agg #[.int .i64 0, .int .i64 0, .int .i64 0, .slice none 0 0]) Tryz.underlying45 hi hz0 hz1 hz2 rfl (by omega) (by omega) _ _ _ rfl hrow w1.heap.size [.int .i64 ep, .int .i64 ki, .int .i64 pe, .slice a' m c'] rfl (by simp [Value.oneCell']) rfl (by intro j u hu; rw [cL j, List.getElem?_toArray]; exact hu) (by have := HL'.out; omega) (by simp; omega) ?_)
      intro v' w5 hr5 hg5 hat5
      have hr5' : w5.ownsRow w.heap.size 118 4 v' (V' ++ [EkV.mk (Ek.mk ep ki pe xs) a' c']).length (cellsK (V' ++ [EkV.mk (Ek.mk ep ki pe xs) a' c'])) := by
        rw [cellsK_snoc, List.length_append]
        simp only [EkV.cs, HL.out]
        exact hr5
      have hap := how.appended hnw.size n1 hov hbd.out (by simp only [HL.out]; omega) al2 hr5' hg5
      have hn5 : New w w5 := ((hnw.trans n1).trans al2).grow hg5 (by intro j hj; exact (row9_form how.row).elim fun _ ⟨_, _, _, hh⟩ => (hh j hj).1)
      have HAP : Hid _ := hap
      clear hrow hr5 hr5' hg5 hat5 how hap cL bL
      go_wp2
      go_roundw
      case rel => exact ⟨k + 1, _, by omega, by go_num, by simp [HL'.out], HMp.out _ rfl, hn5, HAP.out⟩
      case measure => simp [intOf]; omega
    · go_wp2
      go_ret
      have hkn : k = n := by omega
      subst hkn
      rw [List.take_of_length_le (by have := HN.out; omega)] at hmap
      exact ⟨_, V', rfl, hmap, how, hnw⟩

theorem copyNd_any (B : Nat) (id : Int) (up : Bool) (ro ep su ma ot co : Int) (A : Option Addr) (n c : Nat) (V : List EkV) (w : World) (hb : Blk w B 74 #[.int .i64 id, .bool up, .int .i64 ro, .int .i64 ep, .slice A n c, .int .i64 su, .int .i64 ma, .int .i64 ot, .int .i64 co]) (h : LgAt w A V) (hN : NlK V) (hn : V.length = n) (hm : n ≤ 2097152) :
    Calls Tryz.prog 119 #[.pointer (some ⟨B, 0, none⟩)] w fun e w' => ∃ A' c' V', e = .returned (.agg #[.int .i64 id, .bool up, .int .i64 ro, .int .i64 ep, .slice A' n c', .int .i64 su, .int .i64 ma, .int .i64 ot, .int .i64 co]) ∧ V'.map EkV.r = V.map EkV.r ∧ OwL w' w.heap.size w'.heap.size (.slice A' n c') V' ∧ New w w' := by
  have hw := ((New.refl w).alloc (.cells #[.int .i64 0, .bool false, .int .i64 0, .int .i64 0, .slice none 0 0, .int .i64 0, .int .i64 0, .int .i64 0, .int .i64 0] 74)).alloc (.cells #[.int .i64 id, .bool up, .int .i64 ro, .int .i64 ep, .slice A n c, .int .i64 su, .int .i64 ma, .int .i64 ot, .int .i64 co] 74)
  have b0 := (hb.alloc (.cells #[.int .i64 0, .bool false, .int .i64 0, .int .i64 0, .slice none 0 0, .int .i64 0, .int .i64 0, .int .i64 0, .int .i64 0] 74)).alloc (.cells #[.int .i64 id, .bool up, .int .i64 ro, .int .i64 ep, .slice A n c, .int .i64 su, .int .i64 ma, .int .i64 ot, .int .i64 co] 74)
  have b1 := (Blk.mk w w.heap.size 74 #[.int .i64 0, .bool false, .int .i64 0, .int .i64 0, .slice none 0 0, .int .i64 0, .int .i64 0, .int .i64 0, .int .i64 0] rfl).alloc (.cells #[.int .i64 id, .bool up, .int .i64 ro, .int .i64 ep, .slice A n c, .int .i64 su, .int .i64 ma, .int .i64 ot, .int .i64 co] 74)
  have b2 := Blk.mk (w.alloc (.cells #[.int .i64 0, .bool false, .int .i64 0, .int .i64 0, .slice none 0 0, .int .i64 0, .int .i64 0, .int .i64 0, .int .i64 0] 74)) (w.heap.size + 1) 74 #[.int .i64 id, .bool up, .int .i64 ro, .int .i64 ep, .slice A n c, .int .i64 su, .int .i64 ma, .int .i64 ot, .int .i64 co] (by simp)
  have s0 : Hid (((w.alloc (.cells #[.int .i64 0, .bool false, .int .i64 0, .int .i64 0, .slice none 0 0, .int .i64 0, .int .i64 0, .int .i64 0, .int .i64 0] 74)).alloc (.cells #[.int .i64 id, .bool up, .int .i64 ro, .int .i64 ep, .slice A n c, .int .i64 su, .int .i64 ma, .int .i64 ot, .int .i64 co] 74)).heap.size = w.heap.size + 1 + 1) := by unfold Hid; simp
  have cB := hb.cells
  have lB := hb.lt
  go_enter Tryz.func119, Tryz.ntmps119
  go_upto_region 2 with fail
  generalize ((w.alloc (.cells #[.int .i64 0, .bool false, .int .i64 0, .int .i64 0, .slice none 0 0, .int .i64 0, .int .i64 0, .int .i64 0, .int .i64 0] 74)).alloc (.cells #[.int .i64 id, .bool up, .int .i64 ro, .int .i64 ep, .slice A n c, .int .i64 su, .int .i64 ma, .int .i64 ot, .int .i64 co] 74)) = w0 at *
  have c0 := b0.cells
  clear cB
  go_wp2_with fail
  refine (copyLg_any A n c V _ (h.new hw) hN hn hm).mono ?_
  rintro e w1 ⟨u, V', rfl, hV, ho, hn1⟩
  have hl : V'.length = n := by have := congrArg List.length hV; simp at this; omega
  obtain ⟨y, dd, hform, -, -⟩ := row9_form ho.row
  rw [hl] at hform
  subst hform
  have B1 := b1.new hn1
  have B2 := b2.new hn1
  have c1 := B1.cells
  have f1 := B1.frees
  have c2 := B2.cells
  have f2 := B2.frees
  have n1 := hw.trans hn1
  have S0 := s0.out
  clear b0 b1 b2 c0 h hb
  go_wp2
  refine bodyPost_ret (v := .agg #[.int .i64 id, .bool up, .int .i64 ro, .int .i64 ep, .slice y n dd, .int .i64 su, .int .i64 ma, .int .i64 ot, .int .i64 co]) (by simp [results, Tryz.results119, go_sem, c1]) rfl ⟨y, dd, V', rfl, hV, ?_, ?_⟩
  · refine OwL.low (lo := w0.heap.size) (OwL.up (hi := w1.heap.size) (OwL.turn (w := w1) (S := fun i => i = w.heap.size ∨ i = w.heap.size + 1) ho ?t (by intro k hk _ e; omega)) ?u) (by omega)
    case t => exact Turn.set (S := fun i => i = w.heap.size ∨ i = w.heap.size + 1) (Turn.set (S := fun i => i = w.heap.size ∨ i = w.heap.size + 1) (Turn.set (S := fun i => i = w.heap.size ∨ i = w.heap.size + 1) (Turn.set (S := fun i => i = w.heap.size ∨ i = w.heap.size + 1) (Turn.set (S := fun i => i = w.heap.size ∨ i = w.heap.size + 1) (Turn.set (S := fun i => i = w.heap.size ∨ i = w.heap.size + 1) (Turn.set (S := fun i => i = w.heap.size ∨ i = w.heap.size + 1) (Turn.set (S := fun i => i = w.heap.size ∨ i = w.heap.size + 1) (Turn.set (S := fun i => i = w.heap.size ∨ i = w.heap.size + 1) (Turn.set (S := fun i => i = w.heap.size ∨ i = w.heap.size + 1) (Turn.refl _ _) (Or.inr rfl) _) (Or.inl rfl) _) (Or.inl rfl) _) (Or.inl rfl) _) (Or.inl rfl) _) (Or.inl rfl) _) (Or.inl rfl) _) (Or.inl rfl) _) (Or.inl rfl) _) (Or.inl rfl) _
    case u => exact Turn.size (S := fun i => i = w.heap.size ∨ i = w.heap.size + 1) (Turn.set (S := fun i => i = w.heap.size ∨ i = w.heap.size + 1) (Turn.set (S := fun i => i = w.heap.size ∨ i = w.heap.size + 1) (Turn.set (S := fun i => i = w.heap.size ∨ i = w.heap.size + 1) (Turn.set (S := fun i => i = w.heap.size ∨ i = w.heap.size + 1) (Turn.set (S := fun i => i = w.heap.size ∨ i = w.heap.size + 1) (Turn.set (S := fun i => i = w.heap.size ∨ i = w.heap.size + 1) (Turn.set (S := fun i => i = w.heap.size ∨ i = w.heap.size + 1) (Turn.set (S := fun i => i = w.heap.size ∨ i = w.heap.size + 1) (Turn.set (S := fun i => i = w.heap.size ∨ i = w.heap.size + 1) (Turn.set (S := fun i => i = w.heap.size ∨ i = w.heap.size + 1) (Turn.refl _ _) (Or.inr rfl) _) (Or.inl rfl) _) (Or.inl rfl) _) (Or.inl rfl) _) (Or.inl rfl) _) (Or.inl rfl) _) (Or.inl rfl) _) (Or.inl rfl) _) (Or.inl rfl) _) (Or.inl rfl) _)
  · exact ((((((((((n1).setCell (by simp; try omega) _).setCell (by simp; try omega) _).setCell (by simp; try omega) _).setCell (by simp; try omega) _).setCell (by simp; try omega) _).setCell (by simp; try omega) _).setCell (by simp; try omega) _).setCell (by simp; try omega) _).setCell (by simp; try omega) _).setCell (by simp; try omega) _


theorem scopyE (ep ki pe : Int) (x : Option Addr) (n c : Nat) (zs : List Int) (w : World) (hx : BsAt w x zs) (hn : zs.length = n) (hnx : x = none → n = 0 ∧ c = 0) (hn1 : n ≤ 1048576) :
    Calls Tryz.prog 69 #[.agg #[.int .i64 ep, .int .i64 ki, .int .i64 pe, .slice x n c]] w fun e w' => ∃ (a' : Option Addr) (c' : Nat), e = .returned (.agg #[.int .i64 ep, .int .i64 ki, .int .i64 pe, .slice a' n c']) ∧ OvB w' w.heap.size (.slice a' n c') zs ∧ New w w' := by
  obtain ⟨i0, hi, hz0, hz1, hz2⟩ := info_parts Tryz.infoU8
  have hw := (((New.refl w).alloc (.cells #[.int .i64 ep, .int .i64 ki, .int .i64 pe, .slice x n c] 118)).alloc (.cells #[.int .i64 0, .int .i64 0, .int .i64 0, .slice none 0 0] 118)).alloc (.cells #[] 5)
  have b0 := ((Blk.mk w w.heap.size 118 #[.int .i64 ep, .int .i64 ki, .int .i64 pe, .slice x n c] rfl).alloc (.cells #[.int .i64 0, .int .i64 0, .int .i64 0, .slice none 0 0] 118)).alloc (.cells #[] 5)
  have b1 := (Blk.mk (w.alloc (.cells #[.int .i64 ep, .int .i64 ki, .int .i64 pe, .slice x n c] 118)) (w.heap.size + 1) 118 #[.int .i64 0, .int .i64 0, .int .i64 0, .slice none 0 0] (by simp)).alloc (.cells #[] 5)
  have ho0 : (((w.alloc (.cells #[.int .i64 ep, .int .i64 ki, .int .i64 pe, .slice x n c] 118)).alloc (.cells #[.int .i64 0, .int .i64 0, .int .i64 0, .slice none 0 0] 118)).alloc (.cells #[] 5)).ownsRow (w.heap.size + 2) 5 1 (.slice (some ⟨w.heap.size + 1 + 1, 0, none⟩) 0 0) ([] : List Int).length (([] : List Int).map (Value.int .u8)) := by
    have := World.ownsRow_lit (base := w.heap.size + 2) (size := 1) (e := 5) ((w.alloc (.cells #[.int .i64 ep, .int .i64 ki, .int .i64 pe, .slice x n c] 118)).alloc (.cells #[.int .i64 0, .int .i64 0, .int .i64 0, .slice none 0 0] 118)) #[] 0 (by simp) (Nat.zero_le _) rfl
    simpa using this
  have hz := hx.lt
  go_enter Tryz.func69, Tryz.ntmps69
  go_wp2_with (at_builtin; refine wpList_apB _ rfl (.tmp 3) (.tmp 6) rfl (w.heap.size + 2) Tryz.underlying33 hi hz0 hz1 hz2 _ [] rfl ho0 x n c zs rfl (hx.new hw) hn hnx (by simp; omega) (by simp) ?_)
  intro v' w1 ho1 hg1
  have ho : OvB w1 (w.heap.size + 2) v' zs := by unfold OvB; first | exact ho1 | (rw [hn]; exact ho1) | (rw [hn] at ho1 ⊢; exact ho1)
  obtain ⟨a', c', rfl, -, -, -, -⟩ := ho.bs hz
  rw [hn] at ho ⊢
  have tg := turn_of_grown hg1
  have hn1' : New w w1 := (((New.refl w).alloc _).alloc _).alloc _ |>.grow hg1 (by intro k hk; simp [Value.ownBlock] at hk; omega)
  have b01 := b0.turn tg (by simp [Value.ownBlock]; try omega)
  have b11 := b1.turn tg (by simp [Value.ownBlock]; try omega)
  have c0 := b01.cells
  have f0 := b01.frees
  have c1 := b11.cells
  have f1 := b11.frees
  clear b0 b1 hg1 ho0 ho1 tg
  go_wp2
  refine bodyPost_ret (v := .agg #[.int .i64 ep, .int .i64 ki, .int .i64 pe, .slice a' n c']) (by simp [results, Tryz.results69, go_sem, c1]) rfl ⟨a', c', rfl, ?_, ?_⟩
  · refine (OvB.turn (S := fun i => i = w.heap.size + 1 ∨ i = w.heap.size) ho ?_ (by intro k hk _ e; omega)).low (by omega)
    exact Turn.set (S := fun i => i = w.heap.size + 1 ∨ i = w.heap.size) (Turn.set (S := fun i => i = w.heap.size + 1 ∨ i = w.heap.size) (Turn.set (S := fun i => i = w.heap.size + 1 ∨ i = w.heap.size) (Turn.set (S := fun i => i = w.heap.size + 1 ∨ i = w.heap.size) (Turn.set (S := fun i => i = w.heap.size + 1 ∨ i = w.heap.size) (Turn.refl _ _) (Or.inr rfl) _) (Or.inl rfl) _) (Or.inl rfl) _) (Or.inl rfl) _) (Or.inl rfl) _
  · exact ((((hn1'.setCell (by simp) _).setCell (by simp) _).setCell (by simp) _).setCell (by simp) _).setCell (by simp) _

theorem scopyNd_any (id : Int) (up : Bool) (ro ep su ma ot co : Int) (A : Option Addr) (n c : Nat) (V : List EkV) (w : World) (h : LgAt w A V) (hN : NlK V) (hn : V.length = n) (hm : n ≤ 2097152) :
    Calls Tryz.prog 68 #[.agg #[.int .i64 id, .bool up, .int .i64 ro, .int .i64 ep, .slice A n c, .int .i64 su, .int .i64 ma, .int .i64 ot, .int .i64 co]] w fun e w' => ∃ A' c' V', e = .returned (.agg #[.int .i64 id, .bool up, .int .i64 ro, .int .i64 ep, .slice A' n c', .int .i64 su, .int .i64 ma, .int .i64 ot, .int .i64 co]) ∧ V'.map EkV.r = V.map EkV.r ∧ OwL w' w.heap.size w'.heap.size (.slice A' n c') V' ∧ New w w' := by
  have HN : Hid (V.length = n) := hn
  have HNl : Hid (NlK V) := hN
  clear hn hN
  obtain ⟨i0, hi, hz0, hz1, hz2⟩ := info_parts Tryz.infoEk
  have b0 : Blk ((w.alloc (.cells #[.int .i64 id, .bool up, .int .i64 ro, .int .i64 ep, .slice A n c, .int .i64 su, .int .i64 ma, .int .i64 ot, .int .i64 co] 74)).alloc (.cells #[.int .i64 0, .bool false, .int .i64 0, .int .i64 0, .slice none 0 0, .int .i64 0, .int .i64 0, .int .i64 0, .int .i64 0] 74)) w.heap.size 74 #[.int .i64 id, .bool up, .int .i64 ro, .int .i64 ep, .slice A n c, .int .i64 su, .int .i64 ma, .int .i64 ot, .int .i64 co] := (Blk.mk w w.heap.size 74 #[.int .i64 id, .bool up, .int .i64 ro, .int .i64 ep, .slice A n c, .int .i64 su, .int .i64 ma, .int .i64 ot, .int .i64 co] rfl).alloc _
  have b1 : Blk ((w.alloc (.cells #[.int .i64 id, .bool up, .int .i64 ro, .int .i64 ep, .slice A n c, .int .i64 su, .int .i64 ma, .int .i64 ot, .int .i64 co] 74)).alloc (.cells #[.int .i64 0, .bool false, .int .i64 0, .int .i64 0, .slice none 0 0, .int .i64 0, .int .i64 0, .int .i64 0, .int .i64 0] 74)) (w.heap.size + 1) 74 #[.int .i64 0, .bool false, .int .i64 0, .int .i64 0, .slice none 0 0, .int .i64 0, .int .i64 0, .int .i64 0, .int .i64 0] := Blk.mk _ (w.heap.size + 1) 74 #[.int .i64 0, .bool false, .int .i64 0, .int .i64 0, .slice none 0 0, .int .i64 0, .int .i64 0, .int .i64 0, .int .i64 0] (by simp)
  have hw2 : New w ((w.alloc (.cells #[.int .i64 id, .bool up, .int .i64 ro, .int .i64 ep, .slice A n c, .int .i64 su, .int .i64 ma, .int .i64 ot, .int .i64 co] 74)).alloc (.cells #[.int .i64 0, .bool false, .int .i64 0, .int .i64 0, .slice none 0 0, .int .i64 0, .int .i64 0, .int .i64 0, .int .i64 0] 74)) := ((New.refl w).alloc _).alloc _
  have hs2 : Hid (((w.alloc (.cells #[.int .i64 id, .bool up, .int .i64 ro, .int .i64 ep, .slice A n c, .int .i64 su, .int .i64 ma, .int .i64 ot, .int .i64 co] 74)).alloc (.cells #[.int .i64 0, .bool false, .int .i64 0, .int .i64 0, .slice none 0 0, .int .i64 0, .int .i64 0, .int .i64 0, .int .i64 0] 74)).heap.size = w.heap.size + 2) := by unfold Hid; simp
  have hL0 : OwL (((w.alloc (.cells #[.int .i64 id, .bool up, .int .i64 ro, .int .i64 ep, .slice A n c, .int .i64 su, .int .i64 ma, .int .i64 ot, .int .i64 co] 74)).alloc (.cells #[.int .i64 0, .bool false, .int .i64 0, .int .i64 0, .slice none 0 0, .int .i64 0, .int .i64 0, .int .i64 0, .int .i64 0] 74)).alloc (.cells #[] 118)) (w.heap.size + 2) (((w.alloc (.cells #[.int .i64 id, .bool up, .int .i64 ro, .int .i64 ep, .slice A n c, .int .i64 su, .int .i64 ma, .int .i64 ot, .int .i64 co] 74)).alloc (.cells #[.int .i64 0, .bool false, .int .i64 0, .int .i64 0, .slice none 0 0, .int .i64 0, .int .i64 0, .int .i64 0, .int .i64 0] 74)).alloc (.cells #[] 118)).heap.size (.slice (some ⟨w.heap.size + 1 + 1, 0, none⟩) 0 0) [] := by
    refine ⟨⟨rfl, .inr ⟨w.heap.size + 1 + 1, 0, #[], rfl, by omega, ?_, Nat.le_refl _, by unfold maxLen; omega, rfl, rfl⟩⟩, ?_, PaK.nil _ _ _⟩
    · have := heap_alloc_new ((w.alloc (.cells #[.int .i64 id, .bool up, .int .i64 ro, .int .i64 ep, .slice A n c, .int .i64 su, .int .i64 ma, .int .i64 ot, .int .i64 co] 74)).alloc (.cells #[.int .i64 0, .bool false, .int .i64 0, .int .i64 0, .slice none 0 0, .int .i64 0, .int .i64 0, .int .i64 0, .int .i64 0] 74)) (.cells #[] 118)
      simpa using this
    · intro k hk
      simp [Value.ownBlock] at hk
      simp
      omega
  go_enter Tryz.func68, Tryz.ntmps68
  go_wp2
  go_loopw [3, 4] (fun u i wr => ∃ (k : Nat) (V' : List EkV), k ≤ n ∧ i = .int .i64 k ∧ V'.length = k ∧ V'.map EkV.r = (V.take k).map EkV.r ∧ New ((w.alloc (.cells #[.int .i64 id, .bool up, .int .i64 ro, .int .i64 ep, .slice A n c, .int .i64 su, .int .i64 ma, .int .i64 ot, .int .i64 co] 74)).alloc (.cells #[.int .i64 0, .bool false, .int .i64 0, .int .i64 0, .slice none 0 0, .int .i64 0, .int .i64 0, .int .i64 0, .int .i64 0] 74)) wr ∧ OwL wr (w.heap.size + 2) wr.heap.size u V') (fun _ i _ => n - (intOf i).toNat)
  case atStart => exact ⟨0, [], Nat.zero_le _, rfl, rfl, rfl, (New.refl _).alloc _, hL0⟩
  case round =>
    generalize ((w.alloc (.cells #[.int .i64 id, .bool up, .int .i64 ro, .int .i64 ep, .slice A n c, .int .i64 su, .int .i64 ma, .int .i64 ot, .int .i64 co] 74)).alloc (.cells #[.int .i64 0, .bool false, .int .i64 0, .int .i64 0, .slice none 0 0, .int .i64 0, .int .i64 0, .int .i64 0, .int .i64 0] 74)) = w2 at *
    obtain ⟨k, V', hk, rfl, hl', hmap, hnw, how⟩ := hrel
    have HL' : Hid (V'.length = k) := hl'
    clear hl' hL0
    have cB := (b0.new hnw).cells
    have fB := (b0.new hnw).frees
    by_cases hlt : k < n
    · obtain ⟨g, ep', ki, pe, x, m, d, xs, rfl, hv, hlen, hns, hmx, q0, q1, q2, q3⟩ := (h.new (hw2.trans hnw)).at k (by have := HN.out; omega)
      have hnl : Hid (x = none → m = 0 ∧ d = 0) := fun e => by have := HNl.out _ (List.mem_of_getElem? hv) e; rw [← hlen]; exact this
      have HL : Hid (xs.length = m) := hlen
      have hbd : Hid (∀ z ∈ xs, By z) := hns.lt
      have HMp : Hid (∀ u : EkV, u.r = ⟨ep', ki, pe, xs⟩ → (V' ++ [u]).map EkV.r = (V.take (k + 1)).map EkV.r) := by
        intro u hu
        obtain ⟨hk', e⟩ := List.getElem?_eq_some_iff.1 hv
        rw [List.take_succ_eq_append_getElem hk', e, List.map_append, List.map_append, hmap]
        simp [hu]
      obtain ⟨y, dd, hform, -, -⟩ := row9_form how.row
      subst hform
      clear hv hlen hmap h
      go_wp2_with fail
      refine (scopyE ep' ki pe x m d xs _ hns HL.out hnl.out (by omega)).mono ?_
      rintro e w1 ⟨a', c', rfl, ho1, hn1⟩
      have al2 := (New.refl w1).alloc (.cells #[.int .i64 ep', .int .i64 ki, .int .i64 pe, .slice a' m c'] 118)
      have bL := Blk.mk w1 w1.heap.size 118 #[.int .i64 ep', .int .i64 ki, .int .i64 pe, .slice a' m c'] rfl
      have cL := bL.cells
      have hrow := row9_new (row9_new how.row hn1) al2
      have hov : OvB w1 wr.heap.size (EkV.pv ⟨⟨ep', ki, pe, xs⟩, a', c'⟩) xs := by
        unfold EkV.pv
        simp only [HL.out]
        exact ho1
      have hs1 := (hnw.trans hn1).size
      have HS2 := hs2.out
      clear q0 q1 q2 q3 hns cB fB
      go_wp2_with (at_builtin; refine wpList_apV _ rfl (.tmp 13) (.tmp 20) rfl (w.heap.size + 2) 4 48 (.agg #[.int .i64 0, .int .i64 0, .int .i64 0, .slice none 0 0]) Tryz.underlying45 hi hz0 hz1 hz2 rfl (by omega) (by omega) _ _ _ rfl hrow w1.heap.size [.int .i64 ep', .int .i64 ki, .int .i64 pe, .slice a' m c'] rfl (by simp [Value.oneCell']) rfl (by intro j u hu; rw [cL j, List.getElem?_toArray]; exact hu) (by have := HL'.out; omega) (by simp; omega) ?_)
      intro v' w5 hr5 hg5 hat5
      have hr5' : w5.ownsRow (w.heap.size + 2) 118 4 v' (V' ++ [EkV.mk (Ek.mk ep' ki pe xs) a' c']).length (cellsK (V' ++ [EkV.mk (Ek.mk ep' ki pe xs) a' c'])) := by
        rw [cellsK_snoc, List.length_append]
        simp only [EkV.cs, HL.out]
        exact hr5
      have hap := how.appended (by have := hnw.size; omega) hn1 hov hbd.out (by simp only [HL.out]; omega) al2 hr5' hg5
      have hn5 : New w2 w5 := ((hnw.trans hn1).trans al2).grow hg5 (by intro j hj; have := (row9_form how.row).elim fun _ ⟨_, _, _, hh⟩ => (hh j hj).1; omega)
      have HAP : Hid _ := hap
      clear hrow hr5 hr5' hg5 hat5 how hap cL bL HS2
      go_wp2
      go_roundw
      case rel => exact ⟨k + 1, _, by omega, by go_num, by simp [HL'.out], HMp.out _ rfl, hn5, HAP.out⟩
      case measure => simp [intOf]; omega
    · have hkn : k = n := by omega
      subst hkn
      obtain ⟨y, dd, hform, -, -⟩ := row9_form how.row
      rw [HL'.out] at hform
      subst hform
      have b1r := b1.new hnw
      have c1 := b1r.cells
      have f1 := b1r.frees
      have hww := hw2.trans hnw
      have HS2 := hs2.out
      rw [List.take_of_length_le (by have := HN.out; omega)] at hmap
      clear h b0 b1
      go_wp2
      refine bodyPost_ret (v := .agg #[.int .i64 id, .bool up, .int .i64 ro, .int .i64 ep, .slice y k dd, .int .i64 su, .int .i64 ma, .int .i64 ot, .int .i64 co]) (by simp [results, Tryz.results68, go_sem, c1]) rfl ⟨y, dd, V', rfl, hmap, ?_, ?_⟩
      · refine OwL.low (lo := w.heap.size + 2) (OwL.up (hi := wr.heap.size) (OwL.turn (w := wr) (S := fun i => i = w.heap.size + 1 ∨ i = w.heap.size) how ?t (by intro k hk _ e; omega)) ?u) (by omega)
        case t => exact Turn.set (S := fun i => i = w.heap.size + 1 ∨ i = w.heap.size) (Turn.set (S := fun i => i = w.heap.size + 1 ∨ i = w.heap.size) (Turn.set (S := fun i => i = w.heap.size + 1 ∨ i = w.heap.size) (Turn.set (S := fun i => i = w.heap.size + 1 ∨ i = w.heap.size) (Turn.set (S := fun i => i = w.heap.size + 1 ∨ i = w.heap.size) (Turn.set (S := fun i => i = w.heap.size + 1 ∨ i = w.heap.size) (Turn.set (S := fun i => i = w.heap.size + 1 ∨ i = w.heap.size) (Turn.set (S := fun i => i = w.heap.size + 1 ∨ i = w.heap.size) (Turn.set (S := fun i => i = w.heap.size + 1 ∨ i = w.heap.size) (Turn.set (S := fun i => i = w.heap.size + 1 ∨ i = w.heap.size) (Turn.refl _ _) (Or.inr rfl) _) (Or.inl rfl) _) (Or.inl rfl) _) (Or.inl rfl) _) (Or.inl rfl) _) (Or.inl rfl) _) (Or.inl rfl) _) (Or.inl rfl) _) (Or.inl rfl) _) (Or.inl rfl) _
        case u => exact Turn.size (S := fun i => i = w.heap.size + 1 ∨ i = w.heap.size) (Turn.set (S := fun i => i = w.heap.size + 1 ∨ i = w.heap.size) (Turn.set (S := fun i => i = w.heap.size + 1 ∨ i = w.heap.size) (Turn.set (S := fun i => i = w.heap.size + 1 ∨ i = w.heap.size) (Turn.set (S := fun i => i = w.heap.size + 1 ∨ i = w.heap.size) (Turn.set (S := fun i => i = w.heap.size + 1 ∨ i = w.heap.size) (Turn.set (S := fun i => i = w.heap.size + 1 ∨ i = w.heap.size) (Turn.set (S := fun i => i = w.heap.size + 1 ∨ i = w.heap.size) (Turn.set (S := fun i => i = w.heap.size + 1 ∨ i = w.heap.size) (Turn.set (S := fun i => i = w.heap.size + 1 ∨ i = w.heap.size) (Turn.set (S := fun i => i = w.heap.size + 1 ∨ i = w.heap.size) (Turn.refl _ _) (Or.inr rfl) _) (Or.inl rfl) _) (Or.inl rfl) _) (Or.inl rfl) _) (Or.inl rfl) _) (Or.inl rfl) _) (Or.inl rfl) _) (Or.inl rfl) _) (Or.inl rfl) _) (Or.inl rfl) _)
      · exact ((((((((((hww).setCell (by simp; try omega) _).setCell (by simp; try omega) _).setCell (by simp; try omega) _).setCell (by simp; try omega) _).setCell (by simp; try omega) _).setCell (by simp; try omega) _).setCell (by simp; try omega) _).setCell (by simp; try omega) _).setCell (by simp; try omega) _).setCell (by simp; try omega) _


/-- A mail. -/
structure Ml where
  kd : Int
  tgt : Int
  ep : Int
  at1 : Int
  pr : Int
  has : Bool
  e : Ek
/-- A mail in memory. -/
structure MlV where
  m : Ml
  a : Option Addr
  c : Nat
def MlV.cs (v : MlV) : List Value := [.int .i64 v.m.kd, .int .i64 v.m.tgt, .int .i64 v.m.ep, .int .i64 v.m.at1, .int .i64 v.m.pr, .bool v.m.has, .int .i64 v.m.e.ep, .int .i64 v.m.e.ki, .int .i64 v.m.e.pe, .slice v.a v.m.e.xs.length v.c]

/-- At most one mail can be read there. -/
def SdAt (w : World) (S : Option Addr) (M : List MlV) : Prop := M = [] ∨ ∃ v g, M = [v] ∧ S = some ⟨g, 0, none⟩ ∧ (∀ j, j < 10 → w.cell? ⟨g, j, none⟩ = v.cs[j]?) ∧ BsAt w v.a v.m.e.xs ∧ v.m.e.xs.length ≤ 1048576
theorem SdAt.turn {w w' : World} {S : Option Addr} {M : List MlV} {T : Nat → Prop} (h : SdAt w S M) (t : Turn T w w') (hS : ∀ x, S = some x → ¬ T x.block) (hM : ∀ v ∈ M, ∀ x, v.a = some x → ¬ T x.block) : SdAt w' S M := by
  rcases h with h | ⟨v, g, rfl, rfl, hc, hb, hl⟩
  · exact .inl h
  · have h0 : w.cell? ⟨g, 0, none⟩ = some (.int .i64 v.m.kd) := hc 0 (by omega)
    exact .inr ⟨v, g, rfl, rfl, fun j hj => (World.cell?_of_block (t.block g (World.block_lt_of_cell? w _ h0) (hS _ rfl))).trans (hc j hj), hb.turn t (hM v (by simp)), hl⟩
theorem SdAt.new {w w' : World} {S : Option Addr} {M : List MlV} (h : SdAt w S M) (t : New w w') : SdAt w' S M := h.turn t (fun _ _ f => f) (fun _ _ _ _ f => f)
theorem SdAt.one {w : World} {S : Option Addr} {M : List MlV} (h : SdAt w S M) : M.length = 0 ∨ M.length = 1 := by
  rcases h with rfl | ⟨v, g, rfl, -⟩
  · exact .inl rfl
  · exact .inr rfl

/-- At most one mail, of the call's own: its row and its bytes lie in blocks of P. -/
def SdOw (w : World) (P : Nat → Prop) (S : Option Addr) (q cs : Nat) (M : List MlV) : Prop :=
  (M = [] ∧ S = none ∧ q = 0 ∧ cs = 0) ∨ ∃ v g, M = [v] ∧ S = some ⟨g, 0, none⟩ ∧ q = 1 ∧ P g ∧ w.ownsRow 0 120 10 (.slice (some ⟨g, 0, none⟩) 1 cs) 1 v.cs ∧ OwAt w v.a v.m.e.xs.length v.c v.m.e.xs ∧ (∀ z ∈ v.m.e.xs, By z) ∧ v.m.e.xs.length ≤ 1048576 ∧ ∀ x, v.a = some x → P x.block ∧ ¬ x.block = g
theorem SdOw.turn {w w' : World} {P : Nat → Prop} {S : Option Addr} {q cs : Nat} {M : List MlV} {T : Nat → Prop} (h : SdOw w P S q cs M) (t : Turn T w w') (hT : ∀ k, P k → ¬ T k) : SdOw w' P S q cs M := by
  rcases h with h | ⟨v, g, rfl, rfl, hq, hg, hr, ho, hb, hl, ha⟩
  · exact .inl h
  · exact .inr ⟨v, g, rfl, rfl, hq, hg, row9_turn hr t (by intro k hk; simp [Value.ownBlock] at hk; subst hk; exact hT _ hg), ho.turn t (fun x hx => hT _ (ha x hx).1), hb, hl, ha⟩
theorem SdOw.new {w w' : World} {P : Nat → Prop} {S : Option Addr} {q cs : Nat} {M : List MlV} (h : SdOw w P S q cs M) (t : New w w') : SdOw w' P S q cs M := h.turn t (fun _ _ f => f)
theorem SdOw.mono {w : World} {P Q : Nat → Prop} {S : Option Addr} {q cs : Nat} {M : List MlV} (h : SdOw w P S q cs M) (hPQ : ∀ k, P k → Q k) : SdOw w Q S q cs M := by
  rcases h with h | ⟨v, g, rfl, rfl, hq, hg, hr, ho, hb, hl, ha⟩
  · exact .inl h
  · exact .inr ⟨v, g, rfl, rfl, hq, hPQ _ hg, hr, ho, hb, hl, fun x hx => ⟨hPQ _ (ha x hx).1, (ha x hx).2⟩⟩
theorem SdOw.sd {w : World} {P : Nat → Prop} {S : Option Addr} {q cs : Nat} {M : List MlV} (h : SdOw w P S q cs M) : SdAt w S M ∧ M.length = q ∧ (∀ x, S = some x → P x.block) ∧ (∀ v ∈ M, ∀ x, v.a = some x → P x.block) := by
  rcases h with ⟨rfl, rfl, rfl, rfl⟩ | ⟨v, g, rfl, rfl, rfl, hg, hr, ho, hb, hl, ha⟩
  · exact ⟨.inl rfl, rfl, fun x hx => (by cases hx), fun v hv => (by cases hv)⟩
  · refine ⟨.inr ⟨v, g, rfl, rfl, fun j hj => World.ownsRow.cellAt hr j (by omega), ho.bs hb, hl⟩, rfl, fun x hx => ?_, fun u hu x hx => ?_⟩
    · cases hx; exact hg
    · obtain rfl := List.mem_singleton.1 hu
      exact (ha x hx).1
theorem SdOw.nil (w : World) (P : Nat → Prop) : SdOw w P none 0 0 [] := .inl ⟨rfl, rfl, rfl, rfl⟩

theorem eqMl_any (kd tgt ep at1 pr : Int) (has : Bool) (ee ki pe : Int) (a b : Option Addr) (n c d : Nat) (zs : List Int) (w : World) (ha : BsAt w a zs) (hb : BsAt w b zs) (hn : zs.length = n) (hm : n ≤ 1048576) :
    Calls Tryz.prog 87 #[.agg #[.int .i64 kd, .int .i64 tgt, .int .i64 ep, .int .i64 at1, .int .i64 pr, .bool has, .int .i64 ee, .int .i64 ki, .int .i64 pe, .slice a n c], .agg #[.int .i64 kd, .int .i64 tgt, .int .i64 ep, .int .i64 at1, .int .i64 pr, .bool has, .int .i64 ee, .int .i64 ki, .int .i64 pe, .slice b n d]] w fun e w' => e = .returned (.bool true) ∧ New w w' := by
  have hw := ((New.refl w).alloc (.cells #[.int .i64 kd, .int .i64 tgt, .int .i64 ep, .int .i64 at1, .int .i64 pr, .bool has, .int .i64 ee, .int .i64 ki, .int .i64 pe, .slice a n c] 120)).alloc (.cells #[.int .i64 kd, .int .i64 tgt, .int .i64 ep, .int .i64 at1, .int .i64 pr, .bool has, .int .i64 ee, .int .i64 ki, .int .i64 pe, .slice b n d] 120)
  have z1 : (kd != kd) = false := by simp
  have z2 : (tgt != tgt) = false := by simp
  have z3 : (ep != ep) = false := by simp
  have z4 : (at1 != at1) = false := by simp
  have z5 : (pr != pr) = false := by simp
  have z6 : (has != has) = false := by simp
  go_enter Tryz.func87, Tryz.ntmps87
  go_wp2_with fail
  refine (eqEntry_any ee ki pe a b n c d zs _ (ha.new hw) (hb.new hw) hn hm).mono ?_
  rintro e w1 ⟨rfl, hn1⟩
  go_wp2
  go_ret
  exact ⟨rfl, hw.trans hn1⟩

end Go.Proofs.YtdbnmkffinhdjaaGreat
