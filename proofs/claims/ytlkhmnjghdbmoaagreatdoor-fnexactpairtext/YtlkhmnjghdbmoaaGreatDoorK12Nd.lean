/- What is proved here: what the counting, copying, comparing, marking and holding of a node answer, for every node of at most 1048576 entries and bytes; how a node comes in. -/
import Derived.Test.YtlkhmnjghdbmoaaGreatDoorK12To
import Derived.Test.YtlkhmnjghdbmoaaGreatDoorE10Mk
namespace Go.Proofs.YtlkhmnjghdbmoaaGreatDoor
open Go.ChangeShapes Go.WideShapes Go.ChangeAt Go.RowKit Go.Deep Go.Sort
set_option linter.unusedVariables false
set_option linter.unusedSimpArgs false

/-- What an int64 can be. -/
def I64 (x : Int) : Prop := -9223372036854775808 ≤ x ∧ x ≤ 9223372036854775807
theorem i64_of {x : Int} (h : (Lit.int .i64 x).wf = true) : I64 x := by
  simpa [I64, Lit.wf, IntKind.min, IntKind.max, IntKind.signed, IntKind.bits] using h

theorem szNd_any (id : Int) (up : Bool) (ro ep su ma ot co : Int) (A : Option Addr) (n c : Nat) (V : List EkV) (w : World) (h : EkCame w A V) (hn : V.length = n) (hm : n ≤ maxLen) :
    Calls Tryz.prog 33 #[.agg #[.int .i64 id, .bool up, .int .i64 ro, .int .i64 ep, .slice A n c, .int .i64 su, .int .i64 ma, .int .i64 ot, .int .i64 co], .int .i64 1048576] w fun e w' => (∃ z : Int, e = .returned (.int .i64 z) ∧ (z = -1 ∨ (0 ≤ z ∧ z ≤ 1048576 ∧ totK V ≤ 1048576))) ∧ New w w' := by
  have hw := (New.refl w).alloc (.cells #[.int .i64 id, .bool up, .int .i64 ro, .int .i64 ep, .slice A n c, .int .i64 su, .int .i64 ma, .int .i64 ot, .int .i64 co] 86)
  go_enter Tryz.func33, Tryz.ntmps33
  go_wp2_with fail
  refine (szEkS_any A n c V _ (h.new hw) hn hm).mono ?_
  rintro e w1 ⟨⟨z, rfl, hz⟩, hn1⟩
  have hw1 := hw.trans hn1
  by_cases h0 : z < 0
  · go_wp2
    go_ret
    exact ⟨⟨_, rfl, .inl rfl⟩, hw1⟩
  · go_wp2
    go_ret
    exact ⟨⟨_, rfl, by rcases hz with hz | hz; (exfalso; omega); exact .inr hz⟩, hw1⟩

set_option maxHeartbeats 3200000 in
theorem toNd_any (id : Int) (up : Bool) (ro ep su ma ot co : Int) (A : Option Addr) (n c : Nat) (V : List EkV) (w : World) (h : EkCame w A V) (hn : V.length = n) (hm : totK V ≤ 1048576) :
    Calls Tryz.prog 45 #[.agg #[.int .i64 id, .bool up, .int .i64 ro, .int .i64 ep, .slice A n c, .int .i64 su, .int .i64 ma, .int .i64 ot, .int .i64 co]] w fun e w' => ∃ g V', e = .returned (.agg #[.int .i64 id, .bool up, .int .i64 ro, .int .i64 ep, .slice (some ⟨g, 0, none⟩) n n, .int .i64 su, .int .i64 ma, .int .i64 ot, .int .i64 co]) ∧ V'.map EkV.r = V.map EkV.r ∧ OwL w' w.heap.size w'.heap.size (.slice (some ⟨g, 0, none⟩) n n) V' ∧ New w w' := by
  have HN : Hid (V.length = n) := hn
  clear hn
  have hw0 : New w (((w.alloc (.cells #[.int .i64 id, .bool up, .int .i64 ro, .int .i64 ep, .slice A n c, .int .i64 su, .int .i64 ma, .int .i64 ot, .int .i64 co] 86)).alloc (.cells #[.int .i64 0, .bool false, .int .i64 0, .int .i64 0, .slice none 0 0, .int .i64 0, .int .i64 0, .int .i64 0, .int .i64 0] 107)).alloc (.cells #[.int .i64 id, .bool up, .int .i64 ro, .int .i64 ep, .slice none 0 0, .int .i64 0, .int .i64 0, .int .i64 0, .int .i64 0] 107)) := (((New.refl w).alloc _).alloc _).alloc _
  have b0 : Blk (((w.alloc (.cells #[.int .i64 id, .bool up, .int .i64 ro, .int .i64 ep, .slice A n c, .int .i64 su, .int .i64 ma, .int .i64 ot, .int .i64 co] 86)).alloc (.cells #[.int .i64 0, .bool false, .int .i64 0, .int .i64 0, .slice none 0 0, .int .i64 0, .int .i64 0, .int .i64 0, .int .i64 0] 107)).alloc (.cells #[.int .i64 id, .bool up, .int .i64 ro, .int .i64 ep, .slice none 0 0, .int .i64 0, .int .i64 0, .int .i64 0, .int .i64 0] 107)) w.heap.size 86 #[.int .i64 id, .bool up, .int .i64 ro, .int .i64 ep, .slice A n c, .int .i64 su, .int .i64 ma, .int .i64 ot, .int .i64 co] := ((Blk.mk _ _ _ _ rfl).alloc _).alloc _
  have b1 : Blk (((w.alloc (.cells #[.int .i64 id, .bool up, .int .i64 ro, .int .i64 ep, .slice A n c, .int .i64 su, .int .i64 ma, .int .i64 ot, .int .i64 co] 86)).alloc (.cells #[.int .i64 0, .bool false, .int .i64 0, .int .i64 0, .slice none 0 0, .int .i64 0, .int .i64 0, .int .i64 0, .int .i64 0] 107)).alloc (.cells #[.int .i64 id, .bool up, .int .i64 ro, .int .i64 ep, .slice none 0 0, .int .i64 0, .int .i64 0, .int .i64 0, .int .i64 0] 107)) (w.heap.size + 1) 107 #[.int .i64 0, .bool false, .int .i64 0, .int .i64 0, .slice none 0 0, .int .i64 0, .int .i64 0, .int .i64 0, .int .i64 0] := (Blk.mk _ _ _ _ (by simp)).alloc _
  have b2 : Blk (((w.alloc (.cells #[.int .i64 id, .bool up, .int .i64 ro, .int .i64 ep, .slice A n c, .int .i64 su, .int .i64 ma, .int .i64 ot, .int .i64 co] 86)).alloc (.cells #[.int .i64 0, .bool false, .int .i64 0, .int .i64 0, .slice none 0 0, .int .i64 0, .int .i64 0, .int .i64 0, .int .i64 0] 107)).alloc (.cells #[.int .i64 id, .bool up, .int .i64 ro, .int .i64 ep, .slice none 0 0, .int .i64 0, .int .i64 0, .int .i64 0, .int .i64 0] 107)) (w.heap.size + 1 + 1) 107 #[.int .i64 id, .bool up, .int .i64 ro, .int .i64 ep, .slice none 0 0, .int .i64 0, .int .i64 0, .int .i64 0, .int .i64 0] := Blk.mk _ _ _ _ (by simp)
  have s0 : Hid ((((w.alloc (.cells #[.int .i64 id, .bool up, .int .i64 ro, .int .i64 ep, .slice A n c, .int .i64 su, .int .i64 ma, .int .i64 ot, .int .i64 co] 86)).alloc (.cells #[.int .i64 0, .bool false, .int .i64 0, .int .i64 0, .slice none 0 0, .int .i64 0, .int .i64 0, .int .i64 0, .int .i64 0] 107)).alloc (.cells #[.int .i64 id, .bool up, .int .i64 ro, .int .i64 ep, .slice none 0 0, .int .i64 0, .int .i64 0, .int .i64 0, .int .i64 0] 107)).heap.size = w.heap.size + 1 + 1 + 1) := by unfold Hid; simp
  go_enter Tryz.func45, Tryz.ntmps45
  go_upto_region 6 with fail
  generalize (((w.alloc (.cells #[.int .i64 id, .bool up, .int .i64 ro, .int .i64 ep, .slice A n c, .int .i64 su, .int .i64 ma, .int .i64 ot, .int .i64 co] 86)).alloc (.cells #[.int .i64 0, .bool false, .int .i64 0, .int .i64 0, .slice none 0 0, .int .i64 0, .int .i64 0, .int .i64 0, .int .i64 0] 107)).alloc (.cells #[.int .i64 id, .bool up, .int .i64 ro, .int .i64 ep, .slice none 0 0, .int .i64 0, .int .i64 0, .int .i64 0, .int .i64 0] 107)) = w0 at *
  have c0 := b0.cells
  go_wp2_with fail
  refine (toEkS_any A n c V _ (h.new hw0) HN.out hm).mono ?_
  rintro e w1 ⟨g, V', rfl, hV, ho, hn1⟩
  have n1 := hw0.trans hn1
  have B0 := b0.new hn1
  have B1 := b1.new hn1
  have B2 := b2.new hn1
  have c0 := B0.cells
  have c1 := B1.cells
  have f1 := B1.frees
  have c2 := B2.cells
  have f2 := B2.frees
  clear b0 b1 b2 hn1 hw0 h
  have S0 := s0.out
  go_wp2
  refine bodyPost_ret (v := .agg #[.int .i64 id, .bool up, .int .i64 ro, .int .i64 ep, .slice (some ⟨g, 0, none⟩) n n, .int .i64 su, .int .i64 ma, .int .i64 ot, .int .i64 co]) (by simp [results, Tryz.results45, go_sem, c1]) rfl ⟨g, V', rfl, hV, ?_, ?_⟩
  · have hlo : w.heap.size + 1 + 1 + 1 ≤ w0.heap.size := by omega
    refine OwL.low (lo := w0.heap.size) (OwL.up (hi := w1.heap.size) (OwL.turn (w := w1) (S := fun i => i = w.heap.size + 1 ∨ i = w.heap.size + 1 + 1) ho ?t (by intro k hk _ e; omega)) ?u) (by omega)
    case t => exact Turn.set (S := fun i => i = w.heap.size + 1 ∨ i = w.heap.size + 1 + 1) (Turn.set (S := fun i => i = w.heap.size + 1 ∨ i = w.heap.size + 1 + 1) (Turn.set (S := fun i => i = w.heap.size + 1 ∨ i = w.heap.size + 1 + 1) (Turn.set (S := fun i => i = w.heap.size + 1 ∨ i = w.heap.size + 1 + 1) (Turn.set (S := fun i => i = w.heap.size + 1 ∨ i = w.heap.size + 1 + 1) (Turn.set (S := fun i => i = w.heap.size + 1 ∨ i = w.heap.size + 1 + 1) (Turn.set (S := fun i => i = w.heap.size + 1 ∨ i = w.heap.size + 1 + 1) (Turn.set (S := fun i => i = w.heap.size + 1 ∨ i = w.heap.size + 1 + 1) (Turn.set (S := fun i => i = w.heap.size + 1 ∨ i = w.heap.size + 1 + 1) (Turn.set (S := fun i => i = w.heap.size + 1 ∨ i = w.heap.size + 1 + 1) (Turn.set (S := fun i => i = w.heap.size + 1 ∨ i = w.heap.size + 1 + 1) (Turn.set (S := fun i => i = w.heap.size + 1 ∨ i = w.heap.size + 1 + 1) (Turn.set (S := fun i => i = w.heap.size + 1 ∨ i = w.heap.size + 1 + 1) (Turn.set (S := fun i => i = w.heap.size + 1 ∨ i = w.heap.size + 1 + 1) (Turn.refl _ _) (Or.inr rfl) _) (Or.inr rfl) _) (Or.inr rfl) _) (Or.inr rfl) _) (Or.inr rfl) _) (Or.inl rfl) _) (Or.inl rfl) _) (Or.inl rfl) _) (Or.inl rfl) _) (Or.inl rfl) _) (Or.inl rfl) _) (Or.inl rfl) _) (Or.inl rfl) _) (Or.inl rfl) _
    case u => exact Turn.size (S := fun i => i = w.heap.size + 1 ∨ i = w.heap.size + 1 + 1) (Turn.set (S := fun i => i = w.heap.size + 1 ∨ i = w.heap.size + 1 + 1) (Turn.set (S := fun i => i = w.heap.size + 1 ∨ i = w.heap.size + 1 + 1) (Turn.set (S := fun i => i = w.heap.size + 1 ∨ i = w.heap.size + 1 + 1) (Turn.set (S := fun i => i = w.heap.size + 1 ∨ i = w.heap.size + 1 + 1) (Turn.set (S := fun i => i = w.heap.size + 1 ∨ i = w.heap.size + 1 + 1) (Turn.set (S := fun i => i = w.heap.size + 1 ∨ i = w.heap.size + 1 + 1) (Turn.set (S := fun i => i = w.heap.size + 1 ∨ i = w.heap.size + 1 + 1) (Turn.set (S := fun i => i = w.heap.size + 1 ∨ i = w.heap.size + 1 + 1) (Turn.set (S := fun i => i = w.heap.size + 1 ∨ i = w.heap.size + 1 + 1) (Turn.set (S := fun i => i = w.heap.size + 1 ∨ i = w.heap.size + 1 + 1) (Turn.set (S := fun i => i = w.heap.size + 1 ∨ i = w.heap.size + 1 + 1) (Turn.set (S := fun i => i = w.heap.size + 1 ∨ i = w.heap.size + 1 + 1) (Turn.set (S := fun i => i = w.heap.size + 1 ∨ i = w.heap.size + 1 + 1) (Turn.set (S := fun i => i = w.heap.size + 1 ∨ i = w.heap.size + 1 + 1) (Turn.refl _ _) (Or.inr rfl) _) (Or.inr rfl) _) (Or.inr rfl) _) (Or.inr rfl) _) (Or.inr rfl) _) (Or.inl rfl) _) (Or.inl rfl) _) (Or.inl rfl) _) (Or.inl rfl) _) (Or.inl rfl) _) (Or.inl rfl) _) (Or.inl rfl) _) (Or.inl rfl) _) (Or.inl rfl) _)
  · exact ((((((((((((((n1).setCell (by simp; try omega) _).setCell (by simp; try omega) _).setCell (by simp; try omega) _).setCell (by simp; try omega) _).setCell (by simp; try omega) _).setCell (by simp; try omega) _).setCell (by simp; try omega) _).setCell (by simp; try omega) _).setCell (by simp; try omega) _).setCell (by simp; try omega) _).setCell (by simp; try omega) _).setCell (by simp; try omega) _).setCell (by simp; try omega) _).setCell (by simp; try omega) _

theorem eqNd_any (id : Int) (up : Bool) (ro ep su ma ot co : Int) (A B : Option Addr) (n c d : Nat) (V U : List EkV) (w : World) (hF : LgAt w A V) (hG : LgAt w B U) (hVU : V.map EkV.r = U.map EkV.r) (hn : V.length = n) (hm : n ≤ 2097152) :
    Calls Tryz.prog 60 #[.agg #[.int .i64 id, .bool up, .int .i64 ro, .int .i64 ep, .slice A n c, .int .i64 su, .int .i64 ma, .int .i64 ot, .int .i64 co], .agg #[.int .i64 id, .bool up, .int .i64 ro, .int .i64 ep, .slice B n d, .int .i64 su, .int .i64 ma, .int .i64 ot, .int .i64 co]] w fun e w' => e = .returned (.bool true) ∧ New w w' := by
  have hw := ((New.refl w).alloc (.cells #[.int .i64 id, .bool up, .int .i64 ro, .int .i64 ep, .slice A n c, .int .i64 su, .int .i64 ma, .int .i64 ot, .int .i64 co] 107)).alloc (.cells #[.int .i64 id, .bool up, .int .i64 ro, .int .i64 ep, .slice B n d, .int .i64 su, .int .i64 ma, .int .i64 ot, .int .i64 co] 107)
  have bA := (Blk.mk w w.heap.size 107 #[.int .i64 id, .bool up, .int .i64 ro, .int .i64 ep, .slice A n c, .int .i64 su, .int .i64 ma, .int .i64 ot, .int .i64 co] rfl).alloc (.cells #[.int .i64 id, .bool up, .int .i64 ro, .int .i64 ep, .slice B n d, .int .i64 su, .int .i64 ma, .int .i64 ot, .int .i64 co] 107)
  have bB := Blk.mk (w.alloc (.cells #[.int .i64 id, .bool up, .int .i64 ro, .int .i64 ep, .slice A n c, .int .i64 su, .int .i64 ma, .int .i64 ot, .int .i64 co] 107)) (w.heap.size + 1) 107 #[.int .i64 id, .bool up, .int .i64 ro, .int .i64 ep, .slice B n d, .int .i64 su, .int .i64 ma, .int .i64 ot, .int .i64 co] (by simp)
  have z1 : (id != id) = false := by simp
  have z2 : (up != up) = false := by simp
  have z3 : (ro != ro) = false := by simp
  have z4 : (ep != ep) = false := by simp
  have z5 : (su != su) = false := by simp
  have z6 : (ma != ma) = false := by simp
  have z7 : (ot != ot) = false := by simp
  have z8 : (co != co) = false := by simp
  go_enter Tryz.func60, Tryz.ntmps60
  go_wp2_with fail
  refine (eqEkS_any A B n c d V U _ (hF.new hw) (hG.new hw) hVU hn hm).mono ?_
  rintro e w1 ⟨rfl, hn1⟩
  have cA := (bA.new hn1).cells
  have cB := (bB.new hn1).cells
  go_wp2
  go_ret
  exact ⟨rfl, hw.trans hn1⟩

theorem arr9n {α : Type} {cs : Array α} (h : cs.size = 9) : ∃ c0 c1 c2 c3 c4 c5 c6 c7 c8, cs = #[c0, c1, c2, c3, c4, c5, c6, c7, c8] := by
  obtain ⟨l⟩ := cs
  match l, h with
  | [c0, c1, c2, c3, c4, c5, c6, c7, c8], _ => exact ⟨c0, c1, c2, c3, c4, c5, c6, c7, c8, rfl⟩
theorem Tryz.cNd : Tryz.prog.cellsOf 86 = 9 := by kernel_rfl
theorem Tryz.cEs : Tryz.prog.cellsOf 30 = 1 := by kernel_rfl
theorem Tryz.cBl : Tryz.prog.cellsOf 4 = 1 := by kernel_rfl

set_option maxRecDepth 100000 in
set_option maxHeartbeats 800000 in
theorem open_node {H : Type} {enc : TypeId × Value → H} {W : World} {base b0 : Nat} {r : Reach} {t1 : Nat → Bool} {t2 : Bool} {v : Value} {d : DataW H} {p : List MemPlace}
    (hv : Value.okWide Tryz.prog W r b0 86 v) (h0 : DataW.Trod enc Tryz.prog W base t1 t2 86 v d p) :
    ∃ (id : Int) (up : Bool) (ro ep su ma ot co : Int) (A : Option Addr) (n c : Nat) (V : List EkV), v = .agg #[.int .i64 id, .bool up, .int .i64 ro, .int .i64 ep, .slice A n c, .int .i64 su, .int .i64 ma, .int .i64 ot, .int .i64 co] ∧ EkCame W A V ∧ V.length = n ∧ n ≤ maxLen ∧ I64 id ∧ I64 ro ∧ I64 ep ∧ I64 su ∧ I64 ma ∧ I64 ot ∧ I64 co := by
  obtain ⟨cs, rfl, hsz⟩ := okWide_struct Tryz.underlying86 hv
  obtain ⟨c0, c1, c2, c3, c4, c5, c6, c7, c8, rfl⟩ := arr9n (hsz.trans Tryz.cNd)
  obtain ⟨fuel, hf⟩ := h0
  obtain ⟨y, hf'⟩ : ∃ y, DataW.trod enc Tryz.prog W base t1 t2 fuel 86 [c0, c1, c2, c3, c4, c5, c6, c7, c8] = some y := ⟨(d, p), by simpa [Value.cells] using hf⟩
  obtain ⟨ys, m, _, rfl, hl, hlen, hq⟩ := DataW.trod_struct Tryz.underlying86 hf'
  match ys, hlen with
  | [y0, y1, y2, y3, y4, y5, y6, y7, y8], _ =>
    have k0 := hq 0 _ rfl
    have k1 := hq 1 _ rfl
    have k2 := hq 2 _ rfl
    have k3 := hq 3 _ rfl
    have k4 := hq 4 _ rfl
    have k5 := hq 5 _ rfl
    have k6 := hq 6 _ rfl
    have k7 := hq 7 _ rfl
    have k8 := hq 8 _ rfl
    simp [Tryz.cEs, Tryz.cI9, Tryz.cBl] at k0 k1 k2 k3 k4 k5 k6 k7 k8
    obtain ⟨id, e0, -, w0⟩ := DataW.trod_int Tryz.underlying2 k0
    obtain ⟨up, e1, -⟩ := DataW.trod_bool Tryz.underlying4 k1
    obtain ⟨ro, e2, -, w2⟩ := DataW.trod_int Tryz.underlying2 k2
    obtain ⟨ep, e3, -, w3⟩ := DataW.trod_int Tryz.underlying2 k3
    obtain ⟨A, n, c, V, e4, hV, hlV, hmV⟩ := open_entries k4
    obtain ⟨su, e5, -, w5⟩ := DataW.trod_int Tryz.underlying2 k5
    obtain ⟨ma, e6, -, w6⟩ := DataW.trod_int Tryz.underlying2 k6
    obtain ⟨ot, e7, -, w7⟩ := DataW.trod_int Tryz.underlying2 k7
    obtain ⟨co, e8, -, w8⟩ := DataW.trod_int Tryz.underlying2 k8
    simp only [List.cons.injEq, and_true] at e0 e1 e2 e3 e4 e5 e6 e7 e8
    subst e0 e1 e2 e3 e4 e5 e6 e7 e8
    exact ⟨id, up, ro, ep, su, ma, ot, co, A, n, c, V, rfl, hV, hlV, hmV, i64_of w0, i64_of w2, i64_of w3, i64_of w5, i64_of w6, i64_of w7, i64_of w8⟩

end Go.Proofs.YtlkhmnjghdbmoaaGreatDoor
