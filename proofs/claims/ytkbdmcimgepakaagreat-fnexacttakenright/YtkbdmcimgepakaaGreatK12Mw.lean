/- What is proved here: what MailFault answers, both sides; how mails are copied and come in, for every mail of at most 1048576 bytes. -/
import Derived.Test.YtkbdmcimgepakaaGreatK12Mg
namespace Go.Proofs.YtkbdmcimgepakaaGreat
open Go.ChangeShapes Go.WideShapes Go.ChangeAt Go.RowKit Go.Deep Go.Sort
set_option linter.unusedVariables false
set_option linter.unusedSimpArgs false
set_option maxRecDepth 100000


theorem szMl_okZ (kd tgt me at1 pr : Int) (has : Bool) (ee ki pe : Int) (a : Option Addr) (m c1 : Nat) (k : Int) (w : World) (h0 : 0 ≤ k) (hk : k ≤ 1048576) (h : (m : Int) ≤ k) : Calls Tryz.prog 48 #[.agg #[.int .i64 kd, .int .i64 tgt, .int .i64 me, .int .i64 at1, .int .i64 pr, .bool has, .int .i64 ee, .int .i64 ki, .int .i64 pe, .slice a m c1], .int .i64 k] w fun e w' => e = .returned (.int .i64 (k - m)) ∧ New w w' := by
  have hw := (New.refl w).alloc (.cells #[.int .i64 kd, .int .i64 tgt, .int .i64 me, .int .i64 at1, .int .i64 pr, .bool has, .int .i64 ee, .int .i64 ki, .int .i64 pe, .slice a m c1] 87)
  go_enter Tryz.func48, Tryz.ntmps48
  go_wp2_with fail
  refine (szEk_okZ ee ki pe a m c1 k _ h0 hk h).mono ?_
  rintro e w1 ⟨rfl, hn1⟩
  go_wp2
  go_ret
  exact ⟨rfl, hw.trans hn1⟩
theorem szMl_bigZ (kd tgt me at1 pr : Int) (has : Bool) (ee ki pe : Int) (a : Option Addr) (m c1 : Nat) (k : Int) (w : World) (h0 : 0 ≤ k) (hk : k ≤ 1048576) (hm : m ≤ maxLen) (h : k < (m : Int)) : Calls Tryz.prog 48 #[.agg #[.int .i64 kd, .int .i64 tgt, .int .i64 me, .int .i64 at1, .int .i64 pr, .bool has, .int .i64 ee, .int .i64 ki, .int .i64 pe, .slice a m c1], .int .i64 k] w fun e w' => e = .returned (.int .i64 (-1)) ∧ New w w' := by
  have hw := (New.refl w).alloc (.cells #[.int .i64 kd, .int .i64 tgt, .int .i64 me, .int .i64 at1, .int .i64 pr, .bool has, .int .i64 ee, .int .i64 ki, .int .i64 pe, .slice a m c1] 87)
  go_enter Tryz.func48, Tryz.ntmps48
  go_wp2_with fail
  refine (szEk_bigZ ee ki pe a m c1 k _ h0 hk hm h).mono ?_
  rintro e w1 ⟨rfl, hn1⟩
  go_wp2
  go_ret
  exact ⟨rfl, hw.trans hn1⟩

set_option maxHeartbeats 3200000 in
theorem toMl_any (kd tgt me at1 pr : Int) (has : Bool) (ee ki pe : Int) (a : Option Addr) (m c1 : Nat) (zs : List Int) (w : World) (h : BsAt w a zs) (hn : zs.length = m) (hm : m ≤ 1048576) :
    Calls Tryz.prog 60 #[.agg #[.int .i64 kd, .int .i64 tgt, .int .i64 me, .int .i64 at1, .int .i64 pr, .bool has, .int .i64 ee, .int .i64 ki, .int .i64 pe, .slice a m c1]] w fun e w' => ∃ g, e = .returned (.agg #[.int .i64 kd, .int .i64 tgt, .int .i64 me, .int .i64 at1, .int .i64 pr, .bool has, .int .i64 ee, .int .i64 ki, .int .i64 pe, .slice (some ⟨g, 0, none⟩) m m]) ∧ w.heap.size ≤ g ∧ w'.ownsRow 0 5 1 (.slice (some ⟨g, 0, none⟩) m m) m (zs.map (Value.int .u8)) ∧ New w w' := by
  have hw0 : New w (((w.alloc (.cells #[.int .i64 kd, .int .i64 tgt, .int .i64 me, .int .i64 at1, .int .i64 pr, .bool has, .int .i64 ee, .int .i64 ki, .int .i64 pe, .slice a m c1] 87)).alloc (.cells #[.int .i64 0, .int .i64 0, .int .i64 0, .int .i64 0, .int .i64 0, .bool false, .int .i64 0, .int .i64 0, .int .i64 0, .slice none 0 0] 105)).alloc (.cells #[.int .i64 kd, .int .i64 tgt, .int .i64 me, .int .i64 at1, .int .i64 pr, .bool has, .int .i64 0, .int .i64 0, .int .i64 0, .slice none 0 0] 105)) := (((New.refl w).alloc _).alloc _).alloc _
  have b0 : Blk (((w.alloc (.cells #[.int .i64 kd, .int .i64 tgt, .int .i64 me, .int .i64 at1, .int .i64 pr, .bool has, .int .i64 ee, .int .i64 ki, .int .i64 pe, .slice a m c1] 87)).alloc (.cells #[.int .i64 0, .int .i64 0, .int .i64 0, .int .i64 0, .int .i64 0, .bool false, .int .i64 0, .int .i64 0, .int .i64 0, .slice none 0 0] 105)).alloc (.cells #[.int .i64 kd, .int .i64 tgt, .int .i64 me, .int .i64 at1, .int .i64 pr, .bool has, .int .i64 0, .int .i64 0, .int .i64 0, .slice none 0 0] 105)) w.heap.size 87 #[.int .i64 kd, .int .i64 tgt, .int .i64 me, .int .i64 at1, .int .i64 pr, .bool has, .int .i64 ee, .int .i64 ki, .int .i64 pe, .slice a m c1] := ((Blk.mk _ _ _ _ rfl).alloc _).alloc _
  have b1 : Blk (((w.alloc (.cells #[.int .i64 kd, .int .i64 tgt, .int .i64 me, .int .i64 at1, .int .i64 pr, .bool has, .int .i64 ee, .int .i64 ki, .int .i64 pe, .slice a m c1] 87)).alloc (.cells #[.int .i64 0, .int .i64 0, .int .i64 0, .int .i64 0, .int .i64 0, .bool false, .int .i64 0, .int .i64 0, .int .i64 0, .slice none 0 0] 105)).alloc (.cells #[.int .i64 kd, .int .i64 tgt, .int .i64 me, .int .i64 at1, .int .i64 pr, .bool has, .int .i64 0, .int .i64 0, .int .i64 0, .slice none 0 0] 105)) (w.heap.size + 1) 105 #[.int .i64 0, .int .i64 0, .int .i64 0, .int .i64 0, .int .i64 0, .bool false, .int .i64 0, .int .i64 0, .int .i64 0, .slice none 0 0] := (Blk.mk _ _ _ _ (by simp)).alloc _
  have b2 : Blk (((w.alloc (.cells #[.int .i64 kd, .int .i64 tgt, .int .i64 me, .int .i64 at1, .int .i64 pr, .bool has, .int .i64 ee, .int .i64 ki, .int .i64 pe, .slice a m c1] 87)).alloc (.cells #[.int .i64 0, .int .i64 0, .int .i64 0, .int .i64 0, .int .i64 0, .bool false, .int .i64 0, .int .i64 0, .int .i64 0, .slice none 0 0] 105)).alloc (.cells #[.int .i64 kd, .int .i64 tgt, .int .i64 me, .int .i64 at1, .int .i64 pr, .bool has, .int .i64 0, .int .i64 0, .int .i64 0, .slice none 0 0] 105)) (w.heap.size + 1 + 1) 105 #[.int .i64 kd, .int .i64 tgt, .int .i64 me, .int .i64 at1, .int .i64 pr, .bool has, .int .i64 0, .int .i64 0, .int .i64 0, .slice none 0 0] := Blk.mk _ _ _ _ (by simp)
  have s0 : Hid ((((w.alloc (.cells #[.int .i64 kd, .int .i64 tgt, .int .i64 me, .int .i64 at1, .int .i64 pr, .bool has, .int .i64 ee, .int .i64 ki, .int .i64 pe, .slice a m c1] 87)).alloc (.cells #[.int .i64 0, .int .i64 0, .int .i64 0, .int .i64 0, .int .i64 0, .bool false, .int .i64 0, .int .i64 0, .int .i64 0, .slice none 0 0] 105)).alloc (.cells #[.int .i64 kd, .int .i64 tgt, .int .i64 me, .int .i64 at1, .int .i64 pr, .bool has, .int .i64 0, .int .i64 0, .int .i64 0, .slice none 0 0] 105)).heap.size = w.heap.size + 1 + 1 + 1) := by unfold Hid; simp
  go_enter Tryz.func60, Tryz.ntmps60
  go_upto_region 8 with fail
  generalize (((w.alloc (.cells #[.int .i64 kd, .int .i64 tgt, .int .i64 me, .int .i64 at1, .int .i64 pr, .bool has, .int .i64 ee, .int .i64 ki, .int .i64 pe, .slice a m c1] 87)).alloc (.cells #[.int .i64 0, .int .i64 0, .int .i64 0, .int .i64 0, .int .i64 0, .bool false, .int .i64 0, .int .i64 0, .int .i64 0, .slice none 0 0] 105)).alloc (.cells #[.int .i64 kd, .int .i64 tgt, .int .i64 me, .int .i64 at1, .int .i64 pr, .bool has, .int .i64 0, .int .i64 0, .int .i64 0, .slice none 0 0] 105)) = w0 at *
  have c0 := b0.cells
  go_wp2_with fail
  refine (toEntry_any ee ki pe a m c1 zs _ (h.new hw0) hn hm).mono ?_
  rintro e w1 ⟨g, rfl, hg, ho, hn1⟩
  have n1 := hw0.trans hn1
  have B1 := b1.new hn1
  have B2 := b2.new hn1
  have c1' := B1.cells
  have f1 := B1.frees
  have c2 := B2.cells
  have f2 := B2.frees
  clear b0 b1 b2 hn1 hw0 h c0
  have S0 := s0.out
  go_wp2
  refine bodyPost_ret (v := .agg #[.int .i64 kd, .int .i64 tgt, .int .i64 me, .int .i64 at1, .int .i64 pr, .bool has, .int .i64 ee, .int .i64 ki, .int .i64 pe, .slice (some ⟨g, 0, none⟩) m m]) (by simp [results, Tryz.results60, go_sem, c1']) rfl ⟨g, rfl, by omega, ?_, ?_⟩
  · refine own_turn (S := fun i => i = w.heap.size + 1 ∨ i = w.heap.size + 1 + 1) ho ?_ (by omega)
    exact Turn.set (S := fun i => i = w.heap.size + 1 ∨ i = w.heap.size + 1 + 1) (Turn.set (S := fun i => i = w.heap.size + 1 ∨ i = w.heap.size + 1 + 1) (Turn.set (S := fun i => i = w.heap.size + 1 ∨ i = w.heap.size + 1 + 1) (Turn.set (S := fun i => i = w.heap.size + 1 ∨ i = w.heap.size + 1 + 1) (Turn.set (S := fun i => i = w.heap.size + 1 ∨ i = w.heap.size + 1 + 1) (Turn.set (S := fun i => i = w.heap.size + 1 ∨ i = w.heap.size + 1 + 1) (Turn.set (S := fun i => i = w.heap.size + 1 ∨ i = w.heap.size + 1 + 1) (Turn.set (S := fun i => i = w.heap.size + 1 ∨ i = w.heap.size + 1 + 1) (Turn.set (S := fun i => i = w.heap.size + 1 ∨ i = w.heap.size + 1 + 1) (Turn.set (S := fun i => i = w.heap.size + 1 ∨ i = w.heap.size + 1 + 1) (Turn.set (S := fun i => i = w.heap.size + 1 ∨ i = w.heap.size + 1 + 1) (Turn.set (S := fun i => i = w.heap.size + 1 ∨ i = w.heap.size + 1 + 1) (Turn.set (S := fun i => i = w.heap.size + 1 ∨ i = w.heap.size + 1 + 1) (Turn.set (S := fun i => i = w.heap.size + 1 ∨ i = w.heap.size + 1 + 1) (Turn.refl _ _) (Or.inr rfl) _) (Or.inr rfl) _) (Or.inr rfl) _) (Or.inr rfl) _) (Or.inl rfl) _) (Or.inl rfl) _) (Or.inl rfl) _) (Or.inl rfl) _) (Or.inl rfl) _) (Or.inl rfl) _) (Or.inl rfl) _) (Or.inl rfl) _) (Or.inl rfl) _) (Or.inl rfl) _
  · exact ((((((((((((((n1).setCell (by simp; try omega) _).setCell (by simp; try omega) _).setCell (by simp; try omega) _).setCell (by simp; try omega) _).setCell (by simp; try omega) _).setCell (by simp; try omega) _).setCell (by simp; try omega) _).setCell (by simp; try omega) _).setCell (by simp; try omega) _).setCell (by simp; try omega) _).setCell (by simp; try omega) _).setCell (by simp; try omega) _).setCell (by simp; try omega) _).setCell (by simp; try omega) _

theorem arr10m {α : Type} {cs : Array α} (h : cs.size = 10) : ∃ c0 c1 c2 c3 c4 c5 c6 c7 c8 c9, cs = #[c0, c1, c2, c3, c4, c5, c6, c7, c8, c9] := by
  obtain ⟨l⟩ := cs
  match l, h with
  | [c0, c1, c2, c3, c4, c5, c6, c7, c8, c9], _ => exact ⟨c0, c1, c2, c3, c4, c5, c6, c7, c8, c9, rfl⟩
theorem Tryz.cMl : Tryz.prog.cellsOf 87 = 10 := by kernel_rfl

set_option maxHeartbeats 800000 in
theorem open_mail {H : Type} {enc : TypeId × Value → H} {W : World} {base b0 : Nat} {r : Reach} {t1 : Nat → Bool} {t2 : Bool} {v : Value} {d : DataW H} {p : List MemPlace}
    (hv : Value.okWide Tryz.prog W r b0 87 v) (h0 : DataW.Trod enc Tryz.prog W base t1 t2 87 v d p) :
    ∃ (kd tgt me at1 pr : Int) (has : Bool) (ee ki pe : Int) (a : Option Addr) (m c1 : Nat) (zs : List Int), v = .agg #[.int .i64 kd, .int .i64 tgt, .int .i64 me, .int .i64 at1, .int .i64 pr, .bool has, .int .i64 ee, .int .i64 ki, .int .i64 pe, .slice a m c1] ∧ BsAt W a zs ∧ zs.length = m ∧ m ≤ maxLen := by
  obtain ⟨cs, rfl, hsz⟩ := okWide_struct Tryz.underlying87 hv
  obtain ⟨c0, c1, c2, c3, c4, c5, c6, c7, c8, c9, rfl⟩ := arr10m (hsz.trans Tryz.cMl)
  obtain ⟨fuel, hf⟩ := h0
  obtain ⟨y, hf'⟩ : ∃ y, DataW.trod enc Tryz.prog W base t1 t2 fuel 87 [c0, c1, c2, c3, c4, c5, c6, c7, c8, c9] = some y := ⟨(d, p), by simpa [Value.cells] using hf⟩
  obtain ⟨ys, m', _, rfl, hl, hlen, hq⟩ := DataW.trod_struct Tryz.underlying87 hf'
  match ys, hlen with
  | [y0, y1, y2, y3, y4, y5, y6], _ =>
    have k0 := hq 0 _ rfl
    have k1 := hq 1 _ rfl
    have k2 := hq 2 _ rfl
    have k3 := hq 3 _ rfl
    have k4 := hq 4 _ rfl
    have k5 := hq 5 _ rfl
    have k6 := hq 6 _ rfl
    simp [Tryz.cEn10, Tryz.cI9, Tryz.cBl] at k0 k1 k2 k3 k4 k5 k6
    obtain ⟨kd, e0, -, w0⟩ := DataW.trod_int Tryz.underlying2 k0
    obtain ⟨tgt, e1, -, w1⟩ := DataW.trod_int Tryz.underlying2 k1
    obtain ⟨me, e2, -, w2⟩ := DataW.trod_int Tryz.underlying2 k2
    obtain ⟨at1, e3, -, w3⟩ := DataW.trod_int Tryz.underlying2 k3
    obtain ⟨pr, e4, -, w4⟩ := DataW.trod_int Tryz.underlying2 k4
    obtain ⟨has, e5, -⟩ := DataW.trod_bool Tryz.underlying4 k5
    obtain ⟨⟨⟨ee, ki, pe, zs⟩, a, cc⟩, e6, hb, hlm⟩ := open_entry_cells k6
    simp only [List.cons.injEq, and_true] at e0 e1 e2 e3 e4 e5
    simp only [EkV.cs, List.cons.injEq, and_true] at e6
    obtain ⟨rfl, rfl, rfl, rfl⟩ := e6
    subst e0 e1 e2 e3 e4 e5
    exact ⟨kd, tgt, me, at1, pr, has, ee, ki, pe, a, _, cc, zs, rfl, hb, rfl, hlm⟩

end Go.Proofs.YtkbdmcimgepakaaGreat
