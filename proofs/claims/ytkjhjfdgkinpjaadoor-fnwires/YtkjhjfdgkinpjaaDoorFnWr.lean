/- What is proved here: for every list of bytes the law FnWires returns true, and the bytes read as they did. No condition but that the package-level variables hold what the text lays, which the card ties. -/
import Derived.Test.YtkjhjfdgkinpjaaDoorW11Fa
import Derived.Test.YtkjhjfdgkinpjaaDoorW11Do
import Derived.Test.YtkjhjfdgkinpjaaDoorW11Gl
import Derived.Test.YtkjhjfdgkinpjaaDoorW11Dd
import Derived.Test.YtkjhjfdgkinpjaaDoorLwBig
import Derived.Test.YtkjhjfdgkinpjaaDoorTie
import Derived.Test.YtkjhjfdgkinpjaaDoorCards
namespace Go.Proofs.YtkjhjfdgkinpjaaDoor
open Go.ChangeShapes Go.WideShapes Go.ChangeAt Go.RowKit
set_option linter.unusedVariables false
set_option linter.unusedSimpArgs false
set_option maxRecDepth 100000

theorem WrA.bad {w w' : World} {z : Int} {e : Ending} (h : WrA w (Wr.bad z) e w') : ∃ (p a b : Option Addr) (f c d : Nat), e = .returned (.agg #[.int .i64 z, .slice p 0 f, .int .i64 0, .slice a 0 c, .int .i64 0, .slice b 0 d]) ∧ New w w' := by
  obtain ⟨p, a, b, f, c, d, rfl, -, -, -, -, -, -, hn⟩ := h
  exact ⟨p, a, b, f, c, d, rfl, hn⟩
theorem sF_old {E T k : Int} {n m : Nat} (h : wF E T n m = 0) (h1 : 1 ≤ k) (h2 : k ≤ 1000) (h3 : k < E) : sF E T k n m = 9 := by
  unfold sF
  rw [if_pos h, if_neg (by omega), if_pos h3]
theorem sF_ok {E T k : Int} {n m : Nat} (h : wF E T n m = 0) (h1 : 1 ≤ k) (h2 : k ≤ 1000) (h3 : E ≤ k) : sF E T k n m = 0 := by
  unfold sF
  rw [if_pos h, if_neg (by omega), if_neg (by omega)]
theorem wF_ok {E T : Int} {n m : Nat} (h1 : 0 ≤ E) (h2 : E ≤ 1000) (h3 : n ≤ 2000) (h4 : m ≤ 2000) (h5 : 0 ≤ T) (h6 : T ≤ (n : Int)) : wF E T n m = 0 := by
  unfold wF
  rw [if_neg (by omega), if_neg (by omega), if_neg (by omega)]
/-- A list of the call's own, as an argument. -/
theorem OvB.arg {w : World} {lo n c : Nat} {a : Option Addr} {xs : List Int} (h : OvB w lo (.slice a n c) xs) : (a = none → xs.length = 0 ∧ c = 0) ∧ ((a = none ∧ xs.length = 0 ∧ c = 0) ∨ ∃ b o, a = some ⟨b, o, none⟩) ∧ xs.length ≤ c := by
  rcases h.form with ⟨e, rfl⟩ | ⟨g, cap, e, _, hc, _⟩
  · obtain ⟨rfl, rfl, rfl⟩ : a = none ∧ n = 0 ∧ c = 0 := by simpa using e
    exact ⟨fun _ => ⟨rfl, rfl⟩, .inl ⟨rfl, rfl, rfl⟩, Nat.le_refl _⟩
  · obtain ⟨rfl, rfl, rfl⟩ : a = some ⟨g, 0, none⟩ ∧ n = xs.length ∧ c = cap := by simpa using e
    exact ⟨(by intro h; cases h), .inr ⟨g, 0, rfl⟩, hc⟩

/-- What DeliverOut answers: a wire, or a code. -/
theorem doA_cases (E T ep at9 : Int) (zs ys us : List Int) : (∃ an : Nat, at9 = an ∧ sF E T ep zs.length ys.length = 0 ∧ an ≤ ys.length ∧ an + us.length ≤ 2000 ∧ us.take (agK an ys us) = (ys.drop an).take (agK an ys us) ∧ doA E T ep at9 zs ys us = ⟨0, E, T, [], zs, ys ++ us.drop (agK an ys us)⟩) ∨ ∃ z, ¬ z = 0 ∧ doA E T ep at9 zs ys us = Wr.bad z := by
  unfold doA
  by_cases h1 : sF E T ep zs.length ys.length = 0
  · rw [if_pos h1]
    by_cases h2 : at9 < 0 ∨ (ys.length : Int) < at9
    · rw [if_pos h2]; exact .inr ⟨3, by omega, rfl⟩
    · rw [if_neg h2]
      by_cases h3 : 2000 < at9 + (us.length : Int)
      · rw [if_pos h3]; exact .inr ⟨2, by omega, rfl⟩
      · rw [if_neg h3]
        by_cases h4 : us.take (agK at9.toNat ys us) = (ys.drop at9.toNat).take (agK at9.toNat ys us)
        · rw [if_pos h4]; exact .inl ⟨at9.toNat, by omega, h1, by omega, by omega, h4, rfl⟩
        · rw [if_neg h4]; exact .inr ⟨7, by omega, rfl⟩
  · rw [if_neg h1]; exact .inr ⟨_, h1, rfl⟩

/-- What is given stands at its place. -/
theorem given_at {an : Nat} {ys us : List Int} (h : us.take (agK an ys us) = (ys.drop an).take (agK an ys us)) (ha : an ≤ ys.length) : ((ys ++ us.drop (agK an ys us)).drop an).take us.length = us := by
  rw [List.drop_append_of_le_length ha]
  unfold agK at h ⊢
  by_cases hk : us.length ≤ ys.length - an
  · rw [Nat.min_eq_left hk] at h ⊢
    rw [List.drop_of_length_le (Nat.le_refl us.length), List.append_nil, ← h, List.take_of_length_le (Nat.le_refl _)]
  · rw [Nat.min_eq_right (by omega)] at h ⊢
    have e : (ys.drop an).take (ys.length - an) = ys.drop an := List.take_of_length_le (by rw [List.length_drop]; omega)
    rw [e] at h
    rw [← h, List.take_append_drop, List.take_of_length_le (Nat.le_refl _)]
theorem given_len {an : Nat} {ys us : List Int} (ha : an ≤ ys.length) : (ys ++ us.drop (agK an ys us)).length = max ys.length (an + us.length) := by
  rw [List.length_append, List.length_drop]
  unfold agK
  omega
theorem given_again {an : Nat} {ys us : List Int} (h : us.take (agK an ys us) = (ys.drop an).take (agK an ys us)) (ha : an ≤ ys.length) (E T ep : Int) (zs : List Int) (hs : sF E T ep zs.length (ys ++ us.drop (agK an ys us)).length = 0) (hf : an + us.length ≤ 2000) : doA E T ep an zs (ys ++ us.drop (agK an ys us)) us = ⟨0, E, T, [], zs, ys ++ us.drop (agK an ys us)⟩ := by
  have hl := given_len (us := us) ha
  have hg := given_at h ha
  generalize ys ++ us.drop (agK an ys us) = YS at *
  have hk : agK an YS us = us.length := by unfold agK; omega
  unfold doA
  rw [if_pos hs, if_neg (by omega), if_neg (by omega), if_pos (by simp only [Int.toNat_natCast]; rw [hk, hg, List.take_of_length_le (Nat.le_refl _)])]
  simp only [Int.toNat_natCast]
  rw [hk, List.drop_of_length_le (Nat.le_refl _), List.append_nil]


set_option maxHeartbeats 12800000 in
theorem fnwr_walk (a : Option Addr) (n c : Nat) (zs : List Int) (w : World) (hG : Glob w) (h : BsAt w a zs) (hn : zs.length = n) (hm : n ≤ maxLen) (ha : ∀ x, zs ≠ [] → a = some x → x.block < w.heap.size) :
    Calls Tryd.prog 3 #[.slice a n c] w fun e w' => e = .returned (.bool true) ∧ New w w' := by
  by_cases hbig : 1048576 < n
  · go_enter Tryd.func3, Tryd.ntmps3
    go_wp2_with fail
    refine (lbig_yes a n c _ hbig).mono ?_
    rintro e w0 ⟨rfl, hw0⟩
    rw [hw0]
    go_wp2
    go_ret
    exact ⟨rfl, New.refl _⟩
  have hfd0 : ∀ (c0 c1 c2 c3 c4 c5 : Value) (X : World), (Instr.field 29 (.agg #[c0, c1, c2, c3, c4, c5]) 0).run Tryd.prog X = .ok c0 X := fun _ _ _ _ _ _ _ => by kernel_rfl
  go_enter Tryd.func3, Tryd.ntmps3
  go_wp2_with fail
  refine (lbig_no a n c _ hbig).mono ?_
  rintro e w0 ⟨rfl, hw0⟩
  rw [hw0]
  go_wp2_with fail
  refine (drawDeliver_any a n c zs _ h hn (by omega) ha).mono ?_
  rintro e w1 ⟨E, T, ep, at9, g1, c1, g2, c2, q, f, xs, ys, us, rfl, hW, hQ, hqs, hqc, hql, hat, N1⟩
  have HQS : Hid ((q = none ∧ us.length = 0 ∧ f = 0) ∨ ∃ g o, q = some ⟨g, o, none⟩) := hqs
  clear h hn hm ha hbig hqs
  have al := (New.refl w1).alloc (.cells #[.int .i64 E, .slice (some ⟨g1, 0, none⟩) xs.length c1, .int .i64 T, .slice (some ⟨g2, 0, none⟩) ys.length c2] 25)
  have bV := Blk.mk w1 w1.heap.size 25 #[.int .i64 E, .slice (some ⟨g1, 0, none⟩) xs.length c1, .int .i64 T, .slice (some ⟨g2, 0, none⟩) ys.length c2] rfl
  go_upto_region 4 with fail
  have N2 := N1.trans al
  have hW2 := hW.new al
  have hQ2 := hQ.new al
  generalize w1.alloc (.cells #[.int .i64 E, .slice (some ⟨g1, 0, none⟩) xs.length c1, .int .i64 T, .slice (some ⟨g2, 0, none⟩) ys.length c2] 25) = w2 at *
  have cV := bV.cells
  have lx := hW2.n1
  have ly := hW2.n2
  have lc := hW2.l2
  have hG2 := hG.new N2
  clear hW al N1 hQ
  go_wp2_with fail
  refine (implDO E T ep at9 _ _ _ _ _ _ xs ys us _ hG2 (.inr ⟨g2, 0, rfl⟩) lc HQS.out hqc hQ2 (by omega) hW2.b1 hW2.b2 (by intro h; cases h) (by intro h; cases h) (by omega) (by omega)).mono ?_
  rintro e w3 hA
  rcases doA_cases E T ep at9 xs ys us with ⟨an, hane, hf, han, hfit, hEq, hD⟩ | ⟨z, hz, hD⟩
  · subst hane
    rw [hD] at hA
    obtain ⟨hf0, hep1, hep2, hep3⟩ := sF_zero hf
    obtain ⟨⟨hE0, hE1⟩, ⟨hn2, hm2⟩, hT0, hT1⟩ := wF_zero hf0
    have hga := given_at hEq han
    have hgl := given_len (us := us) han
    have HAGN := given_again hEq han E T ep xs
    obtain ⟨YS, hYS⟩ : ∃ YS, ys ++ us.drop (agK an ys us) = YS := ⟨_, rfl⟩
    have hhead : YS.take ys.length = ys := by rw [← hYS, List.take_left']; rfl
    have hYb : ∀ z ∈ YS, 0 ≤ z ∧ z ≤ 255 := by rw [← hYS]; exact fun z hz => (List.mem_append.1 hz).elim (hW2.b2.lt z) (fun h => hQ2.lt z (List.mem_of_mem_drop h))
    rw [hYS] at hA hga hgl HAGN
    have hYl : YS.length ≤ 2000 := by omega
    have hYg : ys.length ≤ YS.length := by omega
    have hYa : an + us.length ≤ YS.length := by omega
    have HW5 : Hid (wF E T xs.length YS.length = 0) := wF_ok hE0 hE1 hn2 hYl hT0 hT1
    have HSY : Hid (sF E T ep xs.length YS.length = 0) := sF_ok HW5.out hep1 hep2 hep3
    have HAG : Hid (doA E T ep an xs YS us = ⟨0, E, T, [], xs, YS⟩) := HAGN HSY.out hfit
    have HSX : Hid (sF E T ep xs.length ys.length = 0) := hf
    clear HAGN hgl hEq hD hf hf0 hYS
    have hA' : WrAns w2 0 E T [] xs YS e w3 := hA
    clear hA
    obtain ⟨p5, a5, b5, f5, c5, d5, rfl, -, q1, q2, -, -, -, hn3⟩ := hA'
    obtain ⟨i1, i2, i3⟩ := q1.arg
    obtain ⟨j1, j2, j3⟩ := q2.arg
    have I1 : Hid (a5 = none → xs.length = 0 ∧ c5 = 0) := i1
    have J1 : Hid (b5 = none → YS.length = 0 ∧ d5 = 0) := j1
    have J2 : Hid ((b5 = none ∧ YS.length = 0 ∧ d5 = 0) ∨ ∃ g o, b5 = some ⟨g, o, none⟩) := j2
    have X3 := (q1.ow hW2.b1.lt).2.1
    have Y3 := (q2.ow hYb).2.1
    obtain ⟨en, hen⟩ : ∃ en : Nat, an + us.length = en := ⟨_, rfl⟩
    have hen2 : (an : Int) + (us.length : Int) = (en : Int) := by omega
    have hwr : IntKind.i64.wrap (en : Int) = (en : Int) := by simp [IntKind.wrap, IntKind.signed, IntKind.bits]; omega
    have hSa := headL b5 YS.length d5 ys.length j2 (by omega)
    obtain ⟨b6, d6, hSb, hbs6, hno6⟩ := cutM b5 d5 an en YS j2 j3 (by omega) (by omega)
    rw [show en - an = us.length by omega] at hSb hbs6 hno6
    rw [hga] at hbs6
    have HB6 : Hid (∀ W, BsAt W b5 YS → BsAt W b6 us) := hbs6
    have HN6 : Hid (b6 = none → us.length = 0 ∧ d6 = 0) := hno6
    have HNq : Hid (q = none → us.length = 0 ∧ f = 0) := by
      rintro rfl
      rcases HQS.out with h | ⟨g, o, h⟩
      · exact h.2
      · cases h
    have HNy : Hid (b5 = none → ys.length = 0 ∧ d5 = 0) := by intro h; have := J1.out h; exact ⟨by omega, this.2⟩
    have HHD : Hid (YS.take ys.length = ys) := hhead
    have hlt : ¬ YS.length < ys.length := by omega
    clear i1 i2 j1 j2 hbs6 hno6 hga hhead hen q1 q2 cV
    have al := (New.refl w3).alloc (.cells #[.int .i64 0, .slice p5 0 f5, .int .i64 E, .slice a5 xs.length c5, .int .i64 T, .slice b5 YS.length d5] 29)
    have bR := Blk.mk w3 w3.heap.size 29 #[.int .i64 0, .slice p5 0 f5, .int .i64 E, .slice a5 xs.length c5, .int .i64 T, .slice b5 YS.length d5] rfl
    go_upto_region 5 with fail
    have N4 := (N2.trans hn3).trans al
    have bV4 := (bV.new hn3).new al
    have hW4 := (hW2.new hn3).new al
    have hQ4 := (hQ2.new hn3).new al
    have X4 := X3.new al
    have Y4 := Y3.new al
    have bR4 := bR
    generalize w3.alloc (.cells #[.int .i64 0, .slice p5 0 f5, .int .i64 E, .slice a5 xs.length c5, .int .i64 T, .slice b5 YS.length d5] 29) = w4 at *
    clear hn3 al X3 Y3 bV hW2 hQ2 hG2 N2 bR
    have cR := bR4.cells
    go_upto_region 8 with fail
    clear cR
    have s1 : ∀ X, New w4 X → (convert 22 9 (.slice b5 ys.length d5)).run Tryd.prog X = .ok (.string (str9 ys)) X := fun X hX => run_str9 b5 ys.length d5 ys X (by have := (Y4.new hX).take ys.length; rwa [HHD.out] at this) rfl HNy.out
    have s2 : ∀ X, New w4 X → (convert 22 9 (.slice (some ⟨g2, 0, none⟩) ys.length c2)).run Tryd.prog X = .ok (.string (str9 ys)) X := fun X hX => run_str9 _ ys.length c2 ys X (hW4.b2.new hX) rfl (by intro h; cases h)
    have s3 : ∀ X, New w4 X → (convert 22 9 (.slice b6 us.length d6)).run Tryd.prog X = .ok (.string (str9 us)) X := fun X hX => run_str9 b6 us.length d6 us X (HB6.out _ (Y4.new hX)) rfl HN6.out
    have s4 : ∀ X, New w4 X → (convert 22 9 (.slice q us.length f)).run Tryd.prog X = .ok (.string (str9 us)) X := fun X hX => run_str9 q us.length f us X (hQ4.new hX) rfl HNq.out
    have sn1 := str_ne_self (str9 ys)
    have sn2 := str_ne_self (str9 us)
    have hEE : (E != E) = false := by simp
    have hTT : (T != T) = false := by simp
    refine hw_start (n := 56) (S := fun X => New w4 X) rfl (by kernel_rfl) ((New.refl _).drew) (fun hH => ?_)
    refine' hw_take 0 (some 43) _ rfl rfl (by kernel_rfl) (by kernel_rfl) (by kernel_rfl) (fun _ _ _ h => h) (by rfl) hH ?hy1 ?rest1
    case hy1 =>
      intro X hX
      have c7 := (bR4.new hX).cells
      have c3 := (bV4.new hX).cells
      have s1X := s1 X hX
      have s2X := s2 X hX
      have s3X := s3 X hX
      have s4X := s4 X hX
      go_simp
      try rfl
    simp only [Act.put, List.setIfInBounds_toArray, List.set_cons_zero, List.set_cons_succ]
    refine' hw_take 1 (some 44) _ rfl rfl (by kernel_rfl) (by kernel_rfl) (by kernel_rfl) (fun _ _ _ h => h) (by rfl) hH ?hy2 ?rest2
    case hy2 =>
      intro X hX
      have c7 := (bR4.new hX).cells
      have c3 := (bV4.new hX).cells
      have s1X := s1 X hX
      have s2X := s2 X hX
      have s3X := s3 X hX
      have s4X := s4 X hX
      go_simp
      try rfl
    simp only [Act.put, List.setIfInBounds_toArray, List.set_cons_zero, List.set_cons_succ]
    refine hw_call 2 (some 45) rfl rfl (by kernel_rfl) (by rfl) (fun K hK => ?_)
    go_simp
    go_at_call 9
    refine (implWF E T a5 b5 xs.length c5 YS.length d5 _ (by omega) (by omega)).mono ?_
    rw [HW5.out]
    rintro e w5 ⟨rfl, hn5⟩
    refine hK.out _ _ (hH.trans hn5) (fun hH => ?_)
    simp only [Act.put, List.setIfInBounds_toArray, List.set_cons_zero, List.set_cons_succ]
    refine' hw_take 3 (some 46) _ rfl rfl (by kernel_rfl) (by kernel_rfl) (by kernel_rfl) (fun _ _ _ h => h) (by rfl) hH ?hy3 ?rest3
    case hy3 =>
      intro X hX
      have c7 := (bR4.new hX).cells
      have c3 := (bV4.new hX).cells
      have s1X := s1 X hX
      have s2X := s2 X hX
      have s3X := s3 X hX
      have s4X := s4 X hX
      go_simp
      try rfl
    simp only [Act.put, List.setIfInBounds_toArray, List.set_cons_zero, List.set_cons_succ]
    refine' hw_take 4 (some 47) _ rfl rfl (by kernel_rfl) (by kernel_rfl) (by kernel_rfl) (fun _ _ _ h => h) (by rfl) hH ?hy4 ?rest4
    case hy4 =>
      intro X hX
      have c7 := (bR4.new hX).cells
      have c3 := (bV4.new hX).cells
      have s1X := s1 X hX
      have s2X := s2 X hX
      have s3X := s3 X hX
      have s4X := s4 X hX
      go_simp
      try rfl
    simp only [Act.put, List.setIfInBounds_toArray, List.set_cons_zero, List.set_cons_succ]
    refine' hw_take 5 (some 48) _ rfl rfl (by kernel_rfl) (by kernel_rfl) (by kernel_rfl) (fun _ _ _ h => h) (by rfl) hH ?hy5 ?rest5
    case hy5 =>
      intro X hX
      have c7 := (bR4.new hX).cells
      have c3 := (bV4.new hX).cells
      have s1X := s1 X hX
      have s2X := s2 X hX
      have s3X := s3 X hX
      have s4X := s4 X hX
      go_simp
      try rfl
    simp only [Act.put, List.setIfInBounds_toArray, List.set_cons_zero, List.set_cons_succ]
    refine' hw_take 6 (some 49) _ rfl rfl (by kernel_rfl) (by kernel_rfl) (by kernel_rfl) (fun _ _ _ h => h) (by rfl) hH ?hy6 ?rest6
    case hy6 =>
      intro X hX
      have c7 := (bR4.new hX).cells
      have c3 := (bV4.new hX).cells
      have s1X := s1 X hX
      have s2X := s2 X hX
      have s3X := s3 X hX
      have s4X := s4 X hX
      go_simp
      try rfl
    simp only [Act.put, List.setIfInBounds_toArray, List.set_cons_zero, List.set_cons_succ]
    refine' hw_take 7 (some 50) _ rfl rfl (by kernel_rfl) (by kernel_rfl) (by kernel_rfl) (fun _ _ _ h => h) (by rfl) hH ?hy7 ?rest7
    case hy7 =>
      intro X hX
      have c7 := (bR4.new hX).cells
      have c3 := (bV4.new hX).cells
      have s1X := s1 X hX
      have s2X := s2 X hX
      have s3X := s3 X hX
      have s4X := s4 X hX
      go_simp
      try rfl
    simp only [Act.put, List.setIfInBounds_toArray, List.set_cons_zero, List.set_cons_succ]
    refine' hw_take 8 (some 51) _ rfl rfl (by kernel_rfl) (by kernel_rfl) (by kernel_rfl) (fun _ _ _ h => h) (by rfl) hH ?hy8 ?rest8
    case hy8 =>
      intro X hX
      have c7 := (bR4.new hX).cells
      have c3 := (bV4.new hX).cells
      have s1X := s1 X hX
      have s2X := s2 X hX
      have s3X := s3 X hX
      have s4X := s4 X hX
      go_simp
      try rfl
    simp only [Act.put, List.setIfInBounds_toArray, List.set_cons_zero, List.set_cons_succ]
    refine' hw_take 9 (some 52) _ rfl rfl (by kernel_rfl) (by kernel_rfl) (by kernel_rfl) (fun _ _ _ h => h) (by rfl) hH ?hy9 ?rest9
    case hy9 =>
      intro X hX
      have c7 := (bR4.new hX).cells
      have c3 := (bV4.new hX).cells
      have s1X := s1 X hX
      have s2X := s2 X hX
      have s3X := s3 X hX
      have s4X := s4 X hX
      go_simp
      try rfl
    simp only [Act.put, List.setIfInBounds_toArray, List.set_cons_zero, List.set_cons_succ]
    refine' hw_take 10 (some 53) _ rfl rfl (by kernel_rfl) (by kernel_rfl) (by kernel_rfl) (fun _ _ _ h => h) (by rfl) hH ?hy10 ?rest10
    case hy10 =>
      intro X hX
      have c7 := (bR4.new hX).cells
      have c3 := (bV4.new hX).cells
      have s1X := s1 X hX
      have s2X := s2 X hX
      have s3X := s3 X hX
      have s4X := s4 X hX
      go_simp
      try rfl
    simp only [Act.put, List.setIfInBounds_toArray, List.set_cons_zero, List.set_cons_succ]
    refine' hw_take 11 (some 54) _ rfl rfl (by kernel_rfl) (by kernel_rfl) (by kernel_rfl) (fun _ _ _ h => h) (by rfl) hH ?hy11 ?rest11
    case hy11 =>
      intro X hX
      have c7 := (bR4.new hX).cells
      have c3 := (bV4.new hX).cells
      have s1X := s1 X hX
      have s2X := s2 X hX
      have s3X := s3 X hX
      have s4X := s4 X hX
      go_simp
      try rfl
    simp only [Act.put, List.setIfInBounds_toArray, List.set_cons_zero, List.set_cons_succ]
    refine' hw_take 12 (some 55) _ rfl rfl (by kernel_rfl) (by kernel_rfl) (by kernel_rfl) (fun _ _ _ h => h) (by rfl) hH ?hy12 ?rest12
    case hy12 =>
      intro X hX
      have c7 := (bR4.new hX).cells
      have c3 := (bV4.new hX).cells
      have s1X := s1 X hX
      have s2X := s2 X hX
      have s3X := s3 X hX
      have s4X := s4 X hX
      go_simp
      try rfl
    simp only [Act.put, List.setIfInBounds_toArray, List.set_cons_zero, List.set_cons_succ]
    try rw [show decide (YS.length < ys.length) = false from decide_eq_false hlt]
    refine' hw_take 13 (some 56) _ rfl rfl (by kernel_rfl) (by kernel_rfl) (by kernel_rfl) (fun _ _ _ h => h) (by rfl) hH ?hy13 ?rest13
    case hy13 =>
      intro X hX
      have c7 := (bR4.new hX).cells
      have c3 := (bV4.new hX).cells
      have s1X := s1 X hX
      have s2X := s2 X hX
      have s3X := s3 X hX
      have s4X := s4 X hX
      go_simp
      try rfl
    simp only [Act.put, List.setIfInBounds_toArray, List.set_cons_zero, List.set_cons_succ]
    refine' hw_take 14 (some 57) _ rfl rfl (by kernel_rfl) (by kernel_rfl) (by kernel_rfl) (fun _ _ _ h => h) (by rfl) hH ?hy14 ?rest14
    case hy14 =>
      intro X hX
      have c7 := (bR4.new hX).cells
      have c3 := (bV4.new hX).cells
      have s1X := s1 X hX
      have s2X := s2 X hX
      have s3X := s3 X hX
      have s4X := s4 X hX
      go_simp
      try rfl
    simp only [Act.put, List.setIfInBounds_toArray, List.set_cons_zero, List.set_cons_succ]
    refine' hw_take 15 (some 58) _ rfl rfl (by kernel_rfl) (by kernel_rfl) (by kernel_rfl) (fun _ _ _ h => h) (by rfl) hH ?hy15 ?rest15
    case hy15 =>
      intro X hX
      have c7 := (bR4.new hX).cells
      have c3 := (bV4.new hX).cells
      have s1X := s1 X hX
      have s2X := s2 X hX
      have s3X := s3 X hX
      have s4X := s4 X hX
      go_simp
      try rfl
    simp only [Act.put, List.setIfInBounds_toArray, List.set_cons_zero, List.set_cons_succ]
    refine' hw_take 16 (some 59) _ rfl rfl (by kernel_rfl) (by kernel_rfl) (by kernel_rfl) (fun _ _ _ h => h) (by rfl) hH ?hy16 ?rest16
    case hy16 =>
      intro X hX
      have c7 := (bR4.new hX).cells
      have c3 := (bV4.new hX).cells
      have s1X := s1 X hX
      have s2X := s2 X hX
      have s3X := s3 X hX
      have s4X := s4 X hX
      go_simp
      try rfl
    simp only [Act.put, List.setIfInBounds_toArray, List.set_cons_zero, List.set_cons_succ]
    refine' hw_take 17 (some 60) _ rfl rfl (by kernel_rfl) (by kernel_rfl) (by kernel_rfl) (fun _ _ _ h => h) (by rfl) hH ?hy17 ?rest17
    case hy17 =>
      intro X hX
      have c7 := (bR4.new hX).cells
      have c3 := (bV4.new hX).cells
      have s1X := s1 X hX
      have s2X := s2 X hX
      have s3X := s3 X hX
      have s4X := s4 X hX
      go_simp
      try rfl
    simp only [Act.put, List.setIfInBounds_toArray, List.set_cons_zero, List.set_cons_succ]
    refine' hw_take 18 (some 61) _ rfl rfl (by kernel_rfl) (by kernel_rfl) (by kernel_rfl) (fun _ _ _ h => h) (by rfl) hH ?hy18 ?rest18
    case hy18 =>
      intro X hX
      have c7 := (bR4.new hX).cells
      have c3 := (bV4.new hX).cells
      have s1X := s1 X hX
      have s2X := s2 X hX
      have s3X := s3 X hX
      have s4X := s4 X hX
      go_simp
      try rfl
    simp only [Act.put, List.setIfInBounds_toArray, List.set_cons_zero, List.set_cons_succ]
    refine' hw_take 19 (some 62) _ rfl rfl (by kernel_rfl) (by kernel_rfl) (by kernel_rfl) (fun _ _ _ h => h) (by rfl) hH ?hy19 ?rest19
    case hy19 =>
      intro X hX
      have c7 := (bR4.new hX).cells
      have c3 := (bV4.new hX).cells
      have s1X := s1 X hX
      have s2X := s2 X hX
      have s3X := s3 X hX
      have s4X := s4 X hX
      go_simp
      try rfl
    simp only [Act.put, List.setIfInBounds_toArray, List.set_cons_zero, List.set_cons_succ]
    refine' hw_take 20 (some 63) _ rfl rfl (by kernel_rfl) (by kernel_rfl) (by kernel_rfl) (fun _ _ _ h => h) (by rfl) hH ?hy20 ?rest20
    case hy20 =>
      intro X hX
      have c7 := (bR4.new hX).cells
      have c3 := (bV4.new hX).cells
      have s1X := s1 X hX
      have s2X := s2 X hX
      have s3X := s3 X hX
      have s4X := s4 X hX
      go_simp
      try rfl
    simp only [Act.put, List.setIfInBounds_toArray, List.set_cons_zero, List.set_cons_succ]
    refine' hw_take 21 (some 64) _ rfl rfl (by kernel_rfl) (by kernel_rfl) (by kernel_rfl) (fun _ _ _ h => h) (by rfl) hH ?hy21 ?rest21
    case hy21 =>
      intro X hX
      have c7 := (bR4.new hX).cells
      have c3 := (bV4.new hX).cells
      have s1X := s1 X hX
      have s2X := s2 X hX
      have s3X := s3 X hX
      have s4X := s4 X hX
      go_simp
      try rfl
    simp only [Act.put, List.setIfInBounds_toArray, List.set_cons_zero, List.set_cons_succ]
    refine' hw_take 22 (some 65) _ rfl rfl (by kernel_rfl) (by kernel_rfl) (by kernel_rfl) (fun _ _ _ h => h) (by rfl) hH ?hy22 ?rest22
    case hy22 =>
      intro X hX
      have c7 := (bR4.new hX).cells
      have c3 := (bV4.new hX).cells
      have s1X := s1 X hX
      have s2X := s2 X hX
      have s3X := s3 X hX
      have s4X := s4 X hX
      go_simp
      try rfl
    simp only [Act.put, List.setIfInBounds_toArray, List.set_cons_zero, List.set_cons_succ]
    refine' hw_take 23 (some 66) _ rfl rfl (by kernel_rfl) (by kernel_rfl) (by kernel_rfl) (fun _ _ _ h => h) (by rfl) hH ?hy23 ?rest23
    case hy23 =>
      intro X hX
      have c7 := (bR4.new hX).cells
      have c3 := (bV4.new hX).cells
      have s1X := s1 X hX
      have s2X := s2 X hX
      have s3X := s3 X hX
      have s4X := s4 X hX
      go_simp
      try rfl
    simp only [Act.put, List.setIfInBounds_toArray, List.set_cons_zero, List.set_cons_succ]
    refine' hw_take 24 (some 67) _ rfl rfl (by kernel_rfl) (by kernel_rfl) (by kernel_rfl) (fun _ _ _ h => h) (by rfl) hH ?hy24 ?rest24
    case hy24 =>
      intro X hX
      have c7 := (bR4.new hX).cells
      have c3 := (bV4.new hX).cells
      have s1X := s1 X hX
      have s2X := s2 X hX
      have s3X := s3 X hX
      have s4X := s4 X hX
      go_simp
      try rfl
    simp only [Act.put, List.setIfInBounds_toArray, List.set_cons_zero, List.set_cons_succ]
    refine' hw_take 25 (some 68) _ rfl rfl (by kernel_rfl) (by kernel_rfl) (by kernel_rfl) (fun _ _ _ h => h) (by rfl) hH ?hy25 ?rest25
    case hy25 =>
      intro X hX
      have c7 := (bR4.new hX).cells
      have c3 := (bV4.new hX).cells
      have s1X := s1 X hX
      have s2X := s2 X hX
      have s3X := s3 X hX
      have s4X := s4 X hX
      go_simp
      try rfl
    simp only [Act.put, List.setIfInBounds_toArray, List.set_cons_zero, List.set_cons_succ]
    refine' hw_take 26 (some 69) _ rfl rfl (by kernel_rfl) (by kernel_rfl) (by kernel_rfl) (fun _ _ _ h => h) (by rfl) hH ?hy26 ?rest26
    case hy26 =>
      intro X hX
      have c7 := (bR4.new hX).cells
      have c3 := (bV4.new hX).cells
      have s1X := s1 X hX
      have s2X := s2 X hX
      have s3X := s3 X hX
      have s4X := s4 X hX
      go_simp
      try rfl
    simp only [Act.put, List.setIfInBounds_toArray, List.set_cons_zero, List.set_cons_succ]
    refine' hw_take 27 (some 70) _ rfl rfl (by kernel_rfl) (by kernel_rfl) (by kernel_rfl) (fun _ _ _ h => h) (by rfl) hH ?hy27 ?rest27
    case hy27 =>
      intro X hX
      have c7 := (bR4.new hX).cells
      have c3 := (bV4.new hX).cells
      have s1X := s1 X hX
      have s2X := s2 X hX
      have s3X := s3 X hX
      have s4X := s4 X hX
      go_simp
      try rfl
    simp only [Act.put, List.setIfInBounds_toArray, List.set_cons_zero, List.set_cons_succ]
    refine' hw_take 28 (some 71) _ rfl rfl (by kernel_rfl) (by kernel_rfl) (by kernel_rfl) (fun _ _ _ h => h) (by rfl) hH ?hy28 ?rest28
    case hy28 =>
      intro X hX
      have c7 := (bR4.new hX).cells
      have c3 := (bV4.new hX).cells
      have s1X := s1 X hX
      have s2X := s2 X hX
      have s3X := s3 X hX
      have s4X := s4 X hX
      go_simp
      try rfl
    simp only [Act.put, List.setIfInBounds_toArray, List.set_cons_zero, List.set_cons_succ]
    refine' hw_take 29 (some 72) _ rfl rfl (by kernel_rfl) (by kernel_rfl) (by kernel_rfl) (fun _ _ _ h => h) (by rfl) hH ?hy29 ?rest29
    case hy29 =>
      intro X hX
      have c7 := (bR4.new hX).cells
      have c3 := (bV4.new hX).cells
      have s1X := s1 X hX
      have s2X := s2 X hX
      have s3X := s3 X hX
      have s4X := s4 X hX
      go_simp
      try rfl
    simp only [Act.put, List.setIfInBounds_toArray, List.set_cons_zero, List.set_cons_succ]
    refine' hw_take 30 (some 73) _ rfl rfl (by kernel_rfl) (by kernel_rfl) (by kernel_rfl) (fun _ _ _ h => h) (by rfl) hH ?hy30 ?rest30
    case hy30 =>
      intro X hX
      have c7 := (bR4.new hX).cells
      have c3 := (bV4.new hX).cells
      have s1X := s1 X hX
      have s2X := s2 X hX
      have s3X := s3 X hX
      have s4X := s4 X hX
      go_simp
      try rfl
    simp only [Act.put, List.setIfInBounds_toArray, List.set_cons_zero, List.set_cons_succ]
    refine' hw_take 31 (some 74) _ rfl rfl (by kernel_rfl) (by kernel_rfl) (by kernel_rfl) (fun _ _ _ h => h) (by rfl) hH ?hy31 ?rest31
    case hy31 =>
      intro X hX
      have c7 := (bR4.new hX).cells
      have c3 := (bV4.new hX).cells
      have s1X := s1 X hX
      have s2X := s2 X hX
      have s3X := s3 X hX
      have s4X := s4 X hX
      go_simp
      try rfl
    simp only [Act.put, List.setIfInBounds_toArray, List.set_cons_zero, List.set_cons_succ]
    refine' hw_take 32 (some 75) _ rfl rfl (by kernel_rfl) (by kernel_rfl) (by kernel_rfl) (fun _ _ _ h => h) (by rfl) hH ?hy32 ?rest32
    case hy32 =>
      intro X hX
      have c7 := (bR4.new hX).cells
      have c3 := (bV4.new hX).cells
      have s1X := s1 X hX
      have s2X := s2 X hX
      have s3X := s3 X hX
      have s4X := s4 X hX
      go_simp
      try rfl
    simp only [Act.put, List.setIfInBounds_toArray, List.set_cons_zero, List.set_cons_succ]
    refine' hw_take 33 (some 76) _ rfl rfl (by kernel_rfl) (by kernel_rfl) (by kernel_rfl) (fun _ _ _ h => h) (by rfl) hH ?hy33 ?rest33
    case hy33 =>
      intro X hX
      have c7 := (bR4.new hX).cells
      have c3 := (bV4.new hX).cells
      have s1X := s1 X hX
      have s2X := s2 X hX
      have s3X := s3 X hX
      have s4X := s4 X hX
      go_simp
      try rfl
    simp only [Act.put, List.setIfInBounds_toArray, List.set_cons_zero, List.set_cons_succ]
    refine' hw_take 34 (some 77) _ rfl rfl (by kernel_rfl) (by kernel_rfl) (by kernel_rfl) (fun _ _ _ h => h) (by rfl) hH ?hy34 ?rest34
    case hy34 =>
      intro X hX
      have c7 := (bR4.new hX).cells
      have c3 := (bV4.new hX).cells
      have s1X := s1 X hX
      have s2X := s2 X hX
      have s3X := s3 X hX
      have s4X := s4 X hX
      go_simp
      try rfl
    simp only [Act.put, List.setIfInBounds_toArray, List.set_cons_zero, List.set_cons_succ]
    refine' hw_take 35 (some 78) _ rfl rfl (by kernel_rfl) (by kernel_rfl) (by kernel_rfl) (fun _ _ _ h => h) (by rfl) hH ?hy35 ?rest35
    case hy35 =>
      intro X hX
      have c7 := (bR4.new hX).cells
      have c3 := (bV4.new hX).cells
      have s1X := s1 X hX
      have s2X := s2 X hX
      have s3X := s3 X hX
      have s4X := s4 X hX
      go_simp
      try rfl
    simp only [Act.put, List.setIfInBounds_toArray, List.set_cons_zero, List.set_cons_succ]
    refine' hw_take 36 (some 79) _ rfl rfl (by kernel_rfl) (by kernel_rfl) (by kernel_rfl) (fun _ _ _ h => h) (by rfl) hH ?hy36 ?rest36
    case hy36 =>
      intro X hX
      have c7 := (bR4.new hX).cells
      have c3 := (bV4.new hX).cells
      have s1X := s1 X hX
      have s2X := s2 X hX
      have s3X := s3 X hX
      have s4X := s4 X hX
      go_simp
      try rfl
    simp only [Act.put, List.setIfInBounds_toArray, List.set_cons_zero, List.set_cons_succ]
    refine' hw_take 37 (some 80) _ rfl rfl (by kernel_rfl) (by kernel_rfl) (by kernel_rfl) (fun _ _ _ h => h) (by rfl) hH ?hy37 ?rest37
    case hy37 =>
      intro X hX
      have c7 := (bR4.new hX).cells
      have c3 := (bV4.new hX).cells
      have s1X := s1 X hX
      have s2X := s2 X hX
      have s3X := s3 X hX
      have s4X := s4 X hX
      go_simp
      try rfl
    simp only [Act.put, List.setIfInBounds_toArray, List.set_cons_zero, List.set_cons_succ]
    refine' hw_take 38 (some 81) _ rfl rfl (by kernel_rfl) (by kernel_rfl) (by kernel_rfl) (fun _ _ _ h => h) (by rfl) hH ?hy38 ?rest38
    case hy38 =>
      intro X hX
      have c7 := (bR4.new hX).cells
      have c3 := (bV4.new hX).cells
      have s1X := s1 X hX
      have s2X := s2 X hX
      have s3X := s3 X hX
      have s4X := s4 X hX
      go_simp
      try rfl
    simp only [Act.put, List.setIfInBounds_toArray, List.set_cons_zero, List.set_cons_succ]
    refine' hw_take 39 (some 82) _ rfl rfl (by kernel_rfl) (by kernel_rfl) (by kernel_rfl) (fun _ _ _ h => h) (by rfl) hH ?hy39 ?rest39
    case hy39 =>
      intro X hX
      have c7 := (bR4.new hX).cells
      have c3 := (bV4.new hX).cells
      have s1X := s1 X hX
      have s2X := s2 X hX
      have s3X := s3 X hX
      have s4X := s4 X hX
      go_simp
      try rfl
    simp only [Act.put, List.setIfInBounds_toArray, List.set_cons_zero, List.set_cons_succ]
    refine' hw_take 40 (some 83) _ rfl rfl (by kernel_rfl) (by kernel_rfl) (by kernel_rfl) (fun _ _ _ h => h) (by rfl) hH ?hy40 ?rest40
    case hy40 =>
      intro X hX
      have c7 := (bR4.new hX).cells
      have c3 := (bV4.new hX).cells
      have s1X := s1 X hX
      have s2X := s2 X hX
      have s3X := s3 X hX
      have s4X := s4 X hX
      go_simp
      try rfl
    simp only [Act.put, List.setIfInBounds_toArray, List.set_cons_zero, List.set_cons_succ]
    refine' hw_take 41 (some 84) _ rfl rfl (by kernel_rfl) (by kernel_rfl) (by kernel_rfl) (fun _ _ _ h => h) (by rfl) hH ?hy41 ?rest41
    case hy41 =>
      intro X hX
      have c7 := (bR4.new hX).cells
      have c3 := (bV4.new hX).cells
      have s1X := s1 X hX
      have s2X := s2 X hX
      have s3X := s3 X hX
      have s4X := s4 X hX
      go_simp
      try rfl
    simp only [Act.put, List.setIfInBounds_toArray, List.set_cons_zero, List.set_cons_succ]
    refine' hw_take 42 (some 85) _ rfl rfl (by kernel_rfl) (by kernel_rfl) (by kernel_rfl) (fun _ _ _ h => h) (by rfl) hH ?hy42 ?rest42
    case hy42 =>
      intro X hX
      have c7 := (bR4.new hX).cells
      have c3 := (bV4.new hX).cells
      have s1X := s1 X hX
      have s2X := s2 X hX
      have s3X := s3 X hX
      have s4X := s4 X hX
      go_simp
      try rfl
    simp only [Act.put, List.setIfInBounds_toArray, List.set_cons_zero, List.set_cons_succ]
    refine' hw_take 43 (some 86) _ rfl rfl (by kernel_rfl) (by kernel_rfl) (by kernel_rfl) (fun _ _ _ h => h) (by rfl) hH ?hy43 ?rest43
    case hy43 =>
      intro X hX
      have c7 := (bR4.new hX).cells
      have c3 := (bV4.new hX).cells
      have s1X := s1 X hX
      have s2X := s2 X hX
      have s3X := s3 X hX
      have s4X := s4 X hX
      go_simp
      try rfl
    simp only [Act.put, List.setIfInBounds_toArray, List.set_cons_zero, List.set_cons_succ]
    refine' hw_take 44 (some 87) _ rfl rfl (by kernel_rfl) (by kernel_rfl) (by kernel_rfl) (fun _ _ _ h => h) (by rfl) hH ?hy44 ?rest44
    case hy44 =>
      intro X hX
      have c7 := (bR4.new hX).cells
      have c3 := (bV4.new hX).cells
      have s1X := s1 X hX
      have s2X := s2 X hX
      have s3X := s3 X hX
      have s4X := s4 X hX
      go_simp
      try rfl
    simp only [Act.put, List.setIfInBounds_toArray, List.set_cons_zero, List.set_cons_succ]
    refine' hw_take 45 (some 88) _ rfl rfl (by kernel_rfl) (by kernel_rfl) (by kernel_rfl) (fun _ _ _ h => h) (by rfl) hH ?hy45 ?rest45
    case hy45 =>
      intro X hX
      have c7 := (bR4.new hX).cells
      have c3 := (bV4.new hX).cells
      have s1X := s1 X hX
      have s2X := s2 X hX
      have s3X := s3 X hX
      have s4X := s4 X hX
      go_simp
      try rfl
    simp only [Act.put, List.setIfInBounds_toArray, List.set_cons_zero, List.set_cons_succ]
    refine' hw_take 46 (some 89) _ rfl rfl (by kernel_rfl) (by kernel_rfl) (by kernel_rfl) (fun _ _ _ h => h) (by rfl) hH ?hy46 ?rest46
    case hy46 =>
      intro X hX
      have c7 := (bR4.new hX).cells
      have c3 := (bV4.new hX).cells
      have s1X := s1 X hX
      have s2X := s2 X hX
      have s3X := s3 X hX
      have s4X := s4 X hX
      go_simp
      try rfl
    simp only [Act.put, List.setIfInBounds_toArray, List.set_cons_zero, List.set_cons_succ]
    refine' hw_take 47 (some 90) _ rfl rfl (by kernel_rfl) (by kernel_rfl) (by kernel_rfl) (fun _ _ _ h => h) (by rfl) hH ?hy47 ?rest47
    case hy47 =>
      intro X hX
      have c7 := (bR4.new hX).cells
      have c3 := (bV4.new hX).cells
      have s1X := s1 X hX
      have s2X := s2 X hX
      have s3X := s3 X hX
      have s4X := s4 X hX
      go_simp
      try rfl
    simp only [Act.put, List.setIfInBounds_toArray, List.set_cons_zero, List.set_cons_succ]
    refine' hw_take 48 (some 91) _ rfl rfl (by kernel_rfl) (by kernel_rfl) (by kernel_rfl) (fun _ _ _ h => h) (by rfl) hH ?hy48 ?rest48
    case hy48 =>
      intro X hX
      have c7 := (bR4.new hX).cells
      have c3 := (bV4.new hX).cells
      have s1X := s1 X hX
      have s2X := s2 X hX
      have s3X := s3 X hX
      have s4X := s4 X hX
      go_simp
      try rfl
    simp only [Act.put, List.setIfInBounds_toArray, List.set_cons_zero, List.set_cons_succ]
    refine' hw_take 49 (some 92) _ rfl rfl (by kernel_rfl) (by kernel_rfl) (by kernel_rfl) (fun _ _ _ h => h) (by rfl) hH ?hy49 ?rest49
    case hy49 =>
      intro X hX
      have c7 := (bR4.new hX).cells
      have c3 := (bV4.new hX).cells
      have s1X := s1 X hX
      have s2X := s2 X hX
      have s3X := s3 X hX
      have s4X := s4 X hX
      go_simp
      try rfl
    simp only [Act.put, List.setIfInBounds_toArray, List.set_cons_zero, List.set_cons_succ]
    refine' hw_take 50 (some 93) _ rfl rfl (by kernel_rfl) (by kernel_rfl) (by kernel_rfl) (fun _ _ _ h => h) (by rfl) hH ?hy50 ?rest50
    case hy50 =>
      intro X hX
      have c7 := (bR4.new hX).cells
      have c3 := (bV4.new hX).cells
      have s1X := s1 X hX
      have s2X := s2 X hX
      have s3X := s3 X hX
      have s4X := s4 X hX
      go_simp
      try rfl
    simp only [Act.put, List.setIfInBounds_toArray, List.set_cons_zero, List.set_cons_succ]
    refine' hw_take 51 (some 94) _ rfl rfl (by kernel_rfl) (by kernel_rfl) (by kernel_rfl) (fun _ _ _ h => h) (by rfl) hH ?hy51 ?rest51
    case hy51 =>
      intro X hX
      have c7 := (bR4.new hX).cells
      have c3 := (bV4.new hX).cells
      have s1X := s1 X hX
      have s2X := s2 X hX
      have s3X := s3 X hX
      have s4X := s4 X hX
      go_simp
      try rfl
    simp only [Act.put, List.setIfInBounds_toArray, List.set_cons_zero, List.set_cons_succ]
    refine' hw_take 52 (some 95) _ rfl rfl (by kernel_rfl) (by kernel_rfl) (by kernel_rfl) (fun _ _ _ h => h) (by rfl) hH ?hy52 ?rest52
    case hy52 =>
      intro X hX
      have c7 := (bR4.new hX).cells
      have c3 := (bV4.new hX).cells
      have s1X := s1 X hX
      have s2X := s2 X hX
      have s3X := s3 X hX
      have s4X := s4 X hX
      go_simp
      try rfl
    simp only [Act.put, List.setIfInBounds_toArray, List.set_cons_zero, List.set_cons_succ]
    refine' hw_take 53 (some 96) _ rfl rfl (by kernel_rfl) (by kernel_rfl) (by kernel_rfl) (fun _ _ _ h => h) (by rfl) hH ?hy53 ?rest53
    case hy53 =>
      intro X hX
      have c7 := (bR4.new hX).cells
      have c3 := (bV4.new hX).cells
      have s1X := s1 X hX
      have s2X := s2 X hX
      have s3X := s3 X hX
      have s4X := s4 X hX
      go_simp
      try rfl
    simp only [Act.put, List.setIfInBounds_toArray, List.set_cons_zero, List.set_cons_succ]
    refine' hw_take 54 (some 97) _ rfl rfl (by kernel_rfl) (by kernel_rfl) (by kernel_rfl) (fun _ _ _ h => h) (by rfl) hH ?hy54 ?rest54
    case hy54 =>
      intro X hX
      have c7 := (bR4.new hX).cells
      have c3 := (bV4.new hX).cells
      have s1X := s1 X hX
      have s2X := s2 X hX
      have s3X := s3 X hX
      have s4X := s4 X hX
      go_simp
      try rfl
    simp only [Act.put, List.setIfInBounds_toArray, List.set_cons_zero, List.set_cons_succ]
    refine' hw_take 55 (some 98) _ rfl rfl (by kernel_rfl) (by kernel_rfl) (by kernel_rfl) (fun _ _ _ h => h) (by rfl) hH ?hy55 ?rest55
    case hy55 =>
      intro X hX
      have c7 := (bR4.new hX).cells
      have c3 := (bV4.new hX).cells
      have s1X := s1 X hX
      have s2X := s2 X hX
      have s3X := s3 X hX
      have s4X := s4 X hX
      go_simp
      try rfl
    simp only [Act.put, List.setIfInBounds_toArray, List.set_cons_zero, List.set_cons_succ]
    refine wpAnyH_done (by kernel_rfl) ?_ _
    have N5 := N4.trans hH
    have bR5 := bR4.new hH
    have bV5 := bV4.new hH
    have hW5 := hW4.new hH
    have hQ5 := hQ4.new hH
    have X5 := X4.new hH
    have Y5 := Y4.new hH
    clear s1 s2 s3 s4 hSa hSb hen2 hwr hlt bR4 bV4 hW4 hQ4 X4 Y4 N4
    have cR := bR5.cells
    go_wp2_with fail
    refine (implDO E T ep an a5 b5 q c5 d5 f xs YS us _ (hG.new N5) J2.out j3 HQS.out hqc hQ5 (by omega) X5 Y5 I1.out J1.out (by omega) (by omega)).mono ?_
    rw [HAG.out]
    rintro e w9 hA9
    have hB9 : WrAns _ 0 E T [] xs YS e w9 := hA9
    obtain ⟨p9, a9, b9, f9, c9, d9, rfl, -, -, q9, -, -, -, hn9⟩ := hB9
    clear hA9
    have Y9 := (q9.ow hYb).2.1
    have HN9 : Hid (b9 = none → YS.length = 0 ∧ d9 = 0) := q9.arg.1
    have al := (New.refl w9).alloc (.cells #[.int .i64 0, .slice p9 0 f9, .int .i64 E, .slice a9 xs.length c9, .int .i64 T, .slice b9 YS.length d9] 29)
    have bG := Blk.mk w9 w9.heap.size 29 #[.int .i64 0, .slice p9 0 f9, .int .i64 E, .slice a9 xs.length c9, .int .i64 T, .slice b9 YS.length d9] rfl
    go_upto_region 11 with fail
    clear cR
    have n9 := hn9.trans al
    have N10 := N5.trans n9
    have bR10 := bR5.new n9
    have bV10 := bV5.new n9
    have hW10 := hW5.new n9
    have Y510 := Y5.new n9
    have Y910 := Y9.new al
    generalize w9.alloc (.cells #[.int .i64 0, .slice p9 0 f9, .int .i64 E, .slice a9 xs.length c9, .int .i64 T, .slice b9 YS.length d9] 29) = w10 at *
    clear q9 hn9 al n9 Y9 Y5 hW5 bV5 bR5 N5 hQ5 X5
    have cV := bV10.cells
    have HAI : Hid (aiA E T ep (xs.length : Int) xs ys = ⟨0, E, (xs.length : Int), [], xs, ys⟩) := by
      unfold Hid aiA
      rw [if_pos HSX.out, if_neg (by omega), Int.max_eq_right hT1]
    go_wp2_with fail
    refine (implAI E T ep (xs.length : Int) _ _ c1 c2 xs ys _ (hG.new N10) hW10.b1 hW10.b2 (by intro h; cases h) (by intro h; cases h) (by omega) (by omega)).mono ?_
    rw [HAI.out]
    rintro e w11 hA9
    have hB9 : WrAns _ 0 E (xs.length : Int) [] xs ys e w11 := hA9
    obtain ⟨p10, a10, b10, f10, c10, d10, rfl, -, -, -, -, -, -, hn11⟩ := hB9
    clear hA9
    have al := (New.refl w11).alloc (.cells #[.int .i64 0, .slice p10 0 f10, .int .i64 E, .slice a10 xs.length c10, .int .i64 (xs.length : Int), .slice b10 ys.length d10] 29)
    have bK := Blk.mk w11 w11.heap.size 29 #[.int .i64 0, .slice p10 0 f10, .int .i64 E, .slice a10 xs.length c10, .int .i64 (xs.length : Int), .slice b10 ys.length d10] rfl
    go_upto_region 12 with fail
    clear cV
    have n11 := hn11.trans al
    have N12 := N10.trans n11
    have bR12 := bR10.new n11
    have bV12 := bV10.new n11
    have bG12 := bG.new n11
    have hW12 := hW10.new n11
    have Y512 := Y510.new n11
    have Y912 := Y910.new n11
    generalize w11.alloc (.cells #[.int .i64 0, .slice p10 0 f10, .int .i64 E, .slice a10 xs.length c10, .int .i64 (xs.length : Int), .slice b10 ys.length d10] 29) = w12 at *
    clear hn11 al n11 N10 bR10 bV10 bG hW10 Y510 Y910
    have cV := bV12.cells
    obtain ⟨XT, hXT⟩ : ∃ XT, (xs.drop 0).take 60 = XT := ⟨_, rfl⟩
    have hXl : XT.length ≤ 60 := by rw [← hXT, List.length_take]; omega
    have HTI : Hid (tiA E T ep 0 60 xs ys = ⟨0, E, T, XT, xs, ys⟩) := by
      unfold Hid tiA
      rw [if_pos HSX.out, if_neg (by omega), ← hXT]
      rfl
    clear hXT
    go_wp2_with fail
    refine (implTI E T ep 0 60 _ _ c1 c2 xs ys _ (hG.new N12) (.inr ⟨g1, 0, rfl⟩) hW12.l1 hW12.b1 hW12.b2 (by intro h; cases h) (by intro h; cases h) (by omega) (by omega)).mono ?_
    rw [HTI.out]
    rintro e w13 hA9
    have hB9 : WrAns _ 0 E T XT xs ys e w13 := hA9
    obtain ⟨p11, a11, b11, f11, c11, d11, rfl, -, -, -, -, -, -, hn13⟩ := hB9
    clear hA9
    have al := (New.refl w13).alloc (.cells #[.int .i64 0, .slice p11 XT.length f11, .int .i64 E, .slice a11 xs.length c11, .int .i64 T, .slice b11 ys.length d11] 29)
    have bT := Blk.mk w13 w13.heap.size 29 #[.int .i64 0, .slice p11 XT.length f11, .int .i64 E, .slice a11 xs.length c11, .int .i64 T, .slice b11 ys.length d11] rfl
    go_upto_region 13 with fail
    clear cV
    have n13 := hn13.trans al
    have N14 := N12.trans n13
    have bR14 := bR12.new n13
    have bV14 := bV12.new n13
    have bG14 := bG12.new n13
    have bK14 := bK.new n13
    have hW14 := hW12.new n13
    have Y514 := Y512.new n13
    have Y914 := Y912.new n13
    generalize w13.alloc (.cells #[.int .i64 0, .slice p11 XT.length f11, .int .i64 E, .slice a11 xs.length c11, .int .i64 T, .slice b11 ys.length d11] 29) = w14 at *
    clear hn13 al n13 N12 bR12 bV12 bG12 bK hW12 Y512 Y912
    have cV := bV14.cells
    have l14 := bV14.lt
    have aL := (New.refl w14).alloc (.cells #[.int .u8 1] 5)
    have bO : BsAt (w14.alloc (.cells #[.int .u8 1] 5)) (some ⟨w14.heap.size, 0, none⟩) [1] := BsAt.of_block (heap_alloc_new w14 _) [1] rfl (by intro u hu; simp at hu; omega)
    go_wp2_with fail
    refine (implPS E T (some ⟨g1, 0, none⟩) (some ⟨g2, 0, none⟩) (some ⟨w14.heap.size, 0, none⟩) c1 c2 1 xs ys [1] _ (hW14.b1.new aL) (hW14.b2.new aL) bO (by intro h; cases h) (by intro h; cases h) (by intro h; cases h) (by omega) (by omega) (by simp)).mono ?_
    have HSW : Hid (wF E T xs.length ys.length = 0) := (sF_zero HSX.out).1
    by_cases hps : 2000 < xs.length + 1
    · have HPS : Hid (psA E T xs ys [1] = Wr.bad 2) := by unfold Hid psA; rw [if_pos HSW.out, if_pos (by simpa using hps)]
      rw [HPS.out]
      rintro e w15 hA15
      obtain ⟨v1, v2, v3, v1n, v2n, v3n, rfl, hn15⟩ := hA15.bad
      have al := (New.refl w15).alloc (.cells #[.int .i64 2, .slice v1 0 v1n, .int .i64 0, .slice v2 0 v2n, .int .i64 0, .slice v3 0 v3n] 29)
      have bS := Blk.mk w15 w15.heap.size 29 #[.int .i64 2, .slice v1 0 v1n, .int .i64 0, .slice v2 0 v2n, .int .i64 0, .slice v3 0 v3n] rfl
      go_upto_region 14 with fail
      clear cV
      have n15 := (aL.trans hn15).trans al
      have N16 := N14.trans n15
      have c16 := (bV14.new n15).cells
      have cR16 := (bR14.new n15).cells
      have cG16 := (bG14.new n15).cells
      have cK16 := (bK14.new n15).cells
      have cT16 := (bT.new n15).cells
      have Y516 := Y514.new n15
      have Y916 := Y914.new n15
      generalize w15.alloc (.cells #[.int .i64 2, .slice v1 0 v1n, .int .i64 0, .slice v2 0 v2n, .int .i64 0, .slice v3 0 v3n] 29) = w16 at *
      have cS16 := bS.cells
      have s5 := run_str9 b9 YS.length d9 YS w16 Y916 rfl HN9.out
      have s6 := run_str9 b5 YS.length d5 YS w16 Y516 rfl J1.out
      have sq := str_eq_self (str9 YS)
      have hxx : ((xs.length : Int) == (xs.length : Int)) = true := by simp
      have hXl2 : (XT.length : Int) ≤ 60 := by omega
      clear bV14 bR14 bG14 bK14 bT bS hW14
      go_wp2
      go_ret
      exact ⟨rfl, N16⟩
    · have HPS : Hid (psA E T xs ys [1] = ⟨0, E, T, [], xs ++ [1], ys⟩) := by unfold Hid psA; rw [if_pos HSW.out, if_neg (by simpa using hps)]
      rw [HPS.out]
      rintro e w15 hA9
      have hB9 : WrAns _ 0 E T [] (xs ++ [1]) ys e w15 := hA9
      obtain ⟨v1, v2, v3, v1n, v2n, v3n, rfl, -, -, -, -, -, -, hn15⟩ := hB9
      clear hA9
      have hsl2 : (xs ++ [(1 : Int)]).length = xs.length + 1 := by simp
      rw [hsl2]
      have al := (New.refl w15).alloc (.cells #[.int .i64 0, .slice v1 0 v1n, .int .i64 E, .slice v2 (xs.length + 1) v2n, .int .i64 T, .slice v3 ys.length v3n] 29)
      have bS := Blk.mk w15 w15.heap.size 29 #[.int .i64 0, .slice v1 0 v1n, .int .i64 E, .slice v2 (xs.length + 1) v2n, .int .i64 T, .slice v3 ys.length v3n] rfl
      go_upto_region 14 with fail
      clear cV
      have n15 := (aL.trans hn15).trans al
      have N16 := N14.trans n15
      have c16 := (bV14.new n15).cells
      have cR16 := (bR14.new n15).cells
      have cG16 := (bG14.new n15).cells
      have cK16 := (bK14.new n15).cells
      have cT16 := (bT.new n15).cells
      have Y516 := Y514.new n15
      have Y916 := Y914.new n15
      generalize w15.alloc (.cells #[.int .i64 0, .slice v1 0 v1n, .int .i64 E, .slice v2 (xs.length + 1) v2n, .int .i64 T, .slice v3 ys.length v3n] 29) = w16 at *
      have cS16 := bS.cells
      have s5 := run_str9 b9 YS.length d9 YS w16 Y916 rfl HN9.out
      have s6 := run_str9 b5 YS.length d5 YS w16 Y516 rfl J1.out
      have sq := str_eq_self (str9 YS)
      have hxx : ((xs.length : Int) == (xs.length : Int)) = true := by simp
      have hXl2 : (XT.length : Int) ≤ 60 := by omega
      clear bV14 bR14 bG14 bK14 bT bS hW14
      go_wp2
      go_ret
      exact ⟨rfl, N16⟩
  · have hz' : (z != 0) = true := by simpa using hz
    rw [hD] at hA
    obtain ⟨v1, v2, v3, v1n, v2n, v3n, rfl, hn3⟩ := hA.bad
    have HD : Hid (doA E T ep at9 xs ys us = Wr.bad z) := hD
    clear hA hz hD
    have al := (New.refl w3).alloc (.cells #[.int .i64 z, .slice v1 0 v1n, .int .i64 0, .slice v2 0 v2n, .int .i64 0, .slice v3 0 v3n] 29)
    have bR := Blk.mk w3 w3.heap.size 29 #[.int .i64 z, .slice v1 0 v1n, .int .i64 0, .slice v2 0 v2n, .int .i64 0, .slice v3 0 v3n] rfl
    go_upto_region 5 with fail
    have N4 := (N2.trans hn3).trans al
    have bV4 := (bV.new hn3).new al
    have hW4 := (hW2.new hn3).new al
    have hQ4 := (hQ2.new hn3).new al
    generalize w3.alloc (.cells #[.int .i64 z, .slice v1 0 v1n, .int .i64 0, .slice v2 0 v2n, .int .i64 0, .slice v3 0 v3n] 29) = w4 at *
    clear hn3 al cV bV hW2 hQ2
    have cV := bV4.cells
    have cR := bR.cells
    have cVd := (bV4.new ((New.refl _).drew)).cells
    have cRd := (bR.new ((New.refl _).drew)).cells
    have hzz : (z == z) = true := by simp
    go_wp2_with fail
    go_region_held3 (fun X => (∀ j, X.cell? ⟨w1.heap.size, j, none⟩ = (#[.int .i64 E, .slice (some ⟨g1, 0, none⟩) xs.length c1, .int .i64 T, .slice (some ⟨g2, 0, none⟩) ys.length c2] : Array Value)[j]?) ∧ (∀ j, X.cell? ⟨w3.heap.size, j, none⟩ = (#[.int .i64 z, .slice v1 0 v1n, .int .i64 0, .slice v2 0 v2n, .int .i64 0, .slice v3 0 v3n] : Array Value)[j]?)) (first | exact ⟨cV, cR⟩ | exact ⟨cVd, cRd⟩ | exact ⟨cV5, cR5⟩)
      (first
        | (go_at_call 8; refine (specDO E T ep at9 _ _ _ _ _ _ xs ys us _ (.inr ⟨g2, 0, rfl⟩) lc HQS.out hqc (hQ4.new ((New.refl _).drew)) (by omega) (hW4.b1.new ((New.refl _).drew)) (hW4.b2.new ((New.refl _).drew)) (by intro h; cases h) (by intro h; cases h) (by omega) (by omega)).mono ?_; rw [HD.out]; rintro e w5 hA5; obtain ⟨u1, u2, u3, u1n, u2n, u3n, rfl, hn5⟩ := hA5.bad; have n5 : New w4 w5 := ((New.refl _).drew).trans hn5; have cV5 := (bV4.new n5).cells; have cR5 := (bR.new n5).cells))
    all_goals
      clear cV cR cVd cRd cV5 cR5
      go_wp2
      go_ret
      exact ⟨rfl, N4.trans n5⟩

theorem fnwr_any (a : Option Addr) (n c : Nat) (zs : List Int) (w : World) (hG : Glob w) (h : BsAt w a zs) (hn : zs.length = n) (hm : n ≤ maxLen) :
    Calls Tryd.prog 3 #[.slice a n c] w fun e w' => e = .returned (.bool true) ∧ New w w' := by
  refine fnwr_walk a n c zs w hG h hn hm ?_
  intro x hz hx
  obtain ⟨b, off, e, hl⟩ := h.block_lt hz
  rw [e] at hx
  obtain rfl := Option.some.inj hx
  exact hl

set_option maxRecDepth 100000 in
theorem fnwr_lifted (os : Os) (started : os.Started) (H : Type) (enc : TypeId × Value → H) :
    ReturnsInHanded {} Tryd.checked os 3 .any (fun w args => (Rows.fnWiresSpec.pre enc Tryd.prog Tryd.f3 Rows.fnWiresRow.domain false w args ∧ laidMetH Tryd.prog Rows.fnWiresRow.laid w) ∧ sizedMet enc Tryd.prog Tryd.f3 (OpenSpec.ofChange Rows.fnWiresSpec) false w args)
      (Rows.fnWiresSpec.post enc Tryd.prog Tryd.f3 false true false false) := by
  refine returnsInHanded_of_change_and (C := Tryd.checked) (X := fun w _ => laidMetH Tryd.prog Rows.fnWiresRow.laid w) (fun _ _ _ hh h => h.of_heap hh) own started (by kernel_rfl) Tryd.func3
    (ChangeSpec.witness_at (enc := enc) (C := Tryd.checked) (os := os) (X := fun w _ => laidMetH Tryd.prog Rows.fnWiresRow.laid w) false (laidWorld11 os) #[.slice none 0 0] 8 rfl (by kernel_rfl) (by kernel_rfl) (by kernel_rfl) (by kernel_rfl) (by kernel_rfl) (laidWorld11_met os _)) ?_
  intro W base args ds gs before hval0 hW hcnd _ hL _
  have hval : ∀ (j : Nat) t v, Tryd.f3.params[j]? = some t → args[j]? = some v → Value.okWide Tryd.prog W .any base t v := hval0
  have hW' := hW
  obtain ⟨p, q, hA0, hV0, rfl, hfz, hnd⟩ := hW
  have hA : DataW.TrodAll enc Tryd.prog W 0 (fun _ => true) true Tryd.f3.params.toList args.toList ds p := hA0
  have hV : DataW.TrodVars enc Tryd.prog W (fun _ => true) [nameN] gs q := hV0
  have kV := hV
  rw [Tryd.params3] at hA hval
  obtain ⟨v0, vs0, d0, ds0, p0, q0, hargs, rfl, rfl, h0, r0⟩ := trodAll_cons hA
  obtain ⟨rfl, rfl, rfl⟩ := trodAll_nil r0
  obtain rfl : args = #[v0] := by cases args; simp_all
  obtain ⟨gg, tt, cc, ff, dd, pp, rfl, -, -, -, -, -⟩ := trodVars_one hV
  have k0 := h0
  have lt0 : ∀ x ∈ p0, x.block < W.heap.size := by obtain ⟨m, hm⟩ := k0; exact DataW.trod_lt m _ _ _ hm
  obtain ⟨a0, len0, cap0, rfl⟩ := okWide_slice Tryd.underlying22 (hval 0 22 v0 rfl rfl)
  obtain ⟨z0, b0, e0, m0⟩ := open_bytes h0
  clear hA0 hval0
  refine (fnwr_any a0 len0 cap0 z0 W (glob_of_laid hL) b0 e0 m0.2).mono fun e W' ⟨he, new⟩ => ?_
  have bel := new.below
  subst he
  exact ⟨_, rfl, _, _, _, [], _, _, hW', trodAll_mk1 (shut_bool Tryd.underlying4 _), (trodAll_cons_mk (Below.trod laidOut (by kernel_rfl) (of_decide_eq_true (by kernel_rfl)) k0 bel lt0) trodAll_mk0), Below.trodVars laidOut bel (by kernel_rfl) kV, bel.frame _, fun h => by cases h⟩

theorem fnwr_row : Rows.FnWiresSaid :=
  OpenClaim.holds_of_wide 3 Tryd.f3 rfl rfl rfl rfl rfl rfl rfl ⟨rfl, rfl, rfl, rfl, rfl⟩ rfl rfl rfl rfl rfl (by kernel_rfl) Tryd.func3 (by kernel_rfl)
    (of_decide_eq_true (by kernel_rfl)) (by unfold Func.isWrapper; first | (rw [if_pos (by decide +kernel)]; kernel_rfl) | (rw [if_neg (by decide +kernel)]; exact ⟨rfl, rfl⟩))
    (fun os started H enc _ => fnwr_lifted os started H enc)

theorem fnwr_holds : Rows.FnWiresCardSaid :=
  Claim7.holds_tied_plain_at .later [] [.handle, .sentinel] true (true, Rows.fnWiresCard.stood.harness.2) true
    fnwr_row (fun _ h => by cases h) (by kernel_rfl) (fun _ h => by cases h) fnWires_row_tie rfl ⟨rfl, rfl⟩ (by kernel_rfl) rfl
    (fun f fn hf hfn => by
      obtain rfl : f = 3 := Option.some.inj ((show Tryd.prog.funcNamed Rows.fnWiresRow.func = some 3 by kernel_rfl).symm.trans hf) |>.symm
      obtain rfl : fn = Tryd.f3 := (Option.some.inj (Tryd.func3.symm.trans hfn)).symm
      exact ⟨by kernel_rfl, fun j t ht => by
        rw [Tryd.params3] at ht
        have h3 : t = 22 := by
          rcases j with _ | j
          · simpa using ht.symm
          · simp at ht
        subst h3
        exact (show Tryd.prog.wantsStandIn 22 = false by kernel_rfl)⟩)
    (by kernel_rfl)

end Go.Proofs.YtkjhjfdgkinpjaaDoor
