/- What is proved here: what the packing of a message answers, in the program, for every lists of at most 1048576 elements. -/
import Derived.Test.YtdmcbnmaknpkmaaMsMf
import Derived.Test.YtdmcbnmaknpkmaaUpPack3
namespace Go.Proofs.Ytdmcbnmaknpkmaa
open Go.RowKit Go.Sort
set_option linter.unusedVariables false

/-- What the packing of a body answers: its bytes. -/
def BdAns (w : World) (zs : List Int) (e : Ending) (w' : World) : Prop :=
  ∃ (a : Option Addr) (m cap : Nat), e = .returned (.slice a m cap) ∧ BsAt w' a zs ∧ zs.length = m ∧ (a = none → m = 0 ∧ cap = 0) ∧ New w w'

/-- The bytes of an open. -/
def opB (sa ho si : Int) : List Int := [sa / 256, sa % 256, ho, si / 256, si % 256]

theorem own_nil (w : World) (base : Nat) (e : TypeId) : w.ownsRow base e 1 (.slice none 0 0) 0 (([] : List Int).map (Value.int .u8)) := ⟨rfl, .inl ⟨rfl, rfl⟩⟩

set_option maxHeartbeats 800000 in
theorem appendPair_nil (x : Int) (w : World) (h0 : 0 ≤ x) (hx : x < 65536) :
    Calls Try.prog 50 #[.slice none 0 0, .int .i64 x] w fun e w' => ∃ g' cap', e = .returned (.slice (some ⟨g', 0, none⟩) 2 cap') ∧ w.heap.size ≤ g' ∧
      w'.ownsRow 0 5 1 (.slice (some ⟨g', 0, none⟩) 2 cap') 2 ([x / 256, x % 256].map (Value.int .u8)) ∧ New w w' := by
  obtain ⟨i0, hi, hz0, hz1, hz2⟩ := info_parts Try.infoU8
  have hbs : BsAt (w.alloc (.cells #[.int .u8 (x / 256), .int .u8 (x % 256)] 5)) (some ⟨w.heap.size, 0, none⟩) [x / 256, x % 256] := BsAt.of_block (heap_alloc_new _ _) _ rfl (by simp; omega)
  go_enter Try.func50, Try.ntmps50
  go_wp2_with (at_builtin; refine wpList_ap _ rfl (.tmp 5) (.tmp 12) rfl 0 Try.underlying31 hi hz0 hz1 hz2 (.slice none 0 0) 0 [] rfl (own_nil _ _ _) (some ⟨w.heap.size, 0, none⟩) 2 2 _ rfl hbs rfl (by intro h; cases h) (by omega) (by omega) (Nat.zero_le _) (w.heap.size + 1) (by simp) ?_)
  intro g2 cap2 w2 ho2 hgr2 hat2
  have hg2 : w.heap.size ≤ g2 := by
    rcases hat2 with h' | h'
    · simp [Value.ownBlock] at h'
    · omega
  clear hat2 hbs
  go_wp2
  go_ret
  exact ⟨g2, cap2, rfl, hg2, by simpa using ho2, ((New.refl w).alloc _).grow hgr2 (by intro k hk; simp [Value.ownBlock] at hk)⟩

set_option maxHeartbeats 1600000 in
theorem body_open (sa ho si : Int) (w : World) (h : Opn sa ho si) : Calls Try.prog 30 #[.iface 88 (.agg #[.int .i64 sa, .int .i64 ho, .int .i64 si])] w (BdAns w (opB sa ho si)) := by
  obtain ⟨i0, hi, hz0, hz1, hz2⟩ := info_parts Try.infoU8
  obtain ⟨⟨a0, a1⟩, hh, ⟨s0, s1⟩⟩ := h
  have h0 : 0 ≤ ho ∧ ho ≤ 255 := by rcases hh with hh | hh <;> omega
  obtain ⟨h0, h1⟩ := h0
  clear hh
  have hwo : IntKind.u8.wrap ho = ho := by simp [IntKind.wrap, IntKind.signed, IntKind.bits]; omega
  have ha0 := Try.as_open_open
  have hw := (New.refl w).alloc (.cells #[.int .i64 sa, .int .i64 ho, .int .i64 si] 88)
  have bS := Blk.mk w w.heap.size 88 #[.int .i64 sa, .int .i64 ho, .int .i64 si] rfl
  go_enter Try.func30, Try.ntmps30
  go_wp2_with fail
  refine (appendPair_nil sa _ (by omega) (by omega)).mono ?_
  rintro e w1 ⟨g1, cap1, rfl, hg1, ho1, hn1⟩
  have hw1 := hw.trans hn1
  have b1 := bS.new hn1
  have c1 := b1.cells
  have hg1' : w.heap.size + 1 ≤ g1 := by simpa using hg1
  have hal := (New.refl w1).alloc (.cells #[.int .u8 ho] 5)
  have hbs : BsAt (w1.alloc (.cells #[.int .u8 ho] 5)) (some ⟨w1.heap.size, 0, none⟩) [ho] := BsAt.of_block (heap_alloc_new _ _) _ rfl (by simp; omega)
  go_wp2_with (at_builtin; refine wpList_ap _ rfl (.tmp 15) (.tmp 19) rfl 0 Try.underlying31 hi hz0 hz1 hz2 (.slice (some ⟨g1, 0, none⟩) 2 cap1) 2 _ rfl (ho1.alloc _) (some ⟨w1.heap.size, 0, none⟩) 1 1 _ rfl hbs rfl (by intro h; cases h) (by omega) (by omega) (Nat.zero_le _) (w1.heap.size + 1) (by simp) ?_)
  intro g2 cap2 w2 ho2 hgr2 hat2
  have s1' := hn1.size
  have hg2 : w.heap.size + 1 ≤ g2 := by
    rcases hat2 with h' | h'
    · simp [Value.ownBlock] at h'; omega
    · simp at s1'; omega
  have t2 : Turn (fun k => k = g1) w1 w2 := Turn.trans hal.turn (Turn.of_grown hgr2) (fun i _ h => h)
  have b2 := b1.turn t2 (by omega)
  have c2 := b2.cells
  have hw2 : New w w2 := hw1.before t2 (fun i hi e => by omega)
  clear hat2 hbs hgr2 c1 hal
  go_wp2_with fail
  refine (appendPair_any g2 3 cap2 si [sa / 256, sa % 256, ho] _ (by simpa using ho2) (by omega) (by omega) (by omega)).mono ?_
  rintro e w3 ⟨g3, cap3, rfl, hg3, ho3, t3⟩
  go_wp2
  go_ret
  exact ⟨_, _, _, rfl, BsAt.of_own (zs := opB sa ho si) (by simpa [opB] using ho3) (by simp [opB]; omega), rfl, (by intro h; cases h), hw2.before t3 (fun i hi e => by omega)⟩

set_option maxHeartbeats 1600000 in
theorem body_not (wh su : Int) (w : World) (h : Nty wh su) : Calls Try.prog 30 #[.iface 93 (.agg #[.int .i64 wh, .int .i64 su])] w (BdAns w [wh, su]) := by
  obtain ⟨i0, hi, hz0, hz1, hz2⟩ := info_parts Try.infoU8
  obtain ⟨⟨a0, a1⟩, ⟨s0, s1⟩⟩ := h
  have hw1 : IntKind.u8.wrap wh = wh := by simp [IntKind.wrap, IntKind.signed, IntKind.bits]; omega
  have hw2 : IntKind.u8.wrap su = su := by simp [IntKind.wrap, IntKind.signed, IntKind.bits]; omega
  have ha0 := Try.as_not_open
  have ha1 := Try.as_not_upd
  have ha2 := Try.as_not_not
  have hw := ((New.refl w).alloc (.cells #[.int .i64 wh, .int .i64 su] 93)).alloc (.cells #[.int .u8 wh, .int .u8 su] 5)
  have hbs : BsAt ((w.alloc (.cells #[.int .i64 wh, .int .i64 su] 93)).alloc (.cells #[.int .u8 wh, .int .u8 su] 5)) (some ⟨w.heap.size + 1, 0, none⟩) [wh, su] := by
    have := BsAt.of_block (w := (w.alloc (.cells #[.int .i64 wh, .int .i64 su] 93)).alloc (.cells #[.int .u8 wh, .int .u8 su] 5)) (heap_alloc_new _ _) [wh, su] rfl (by simp; omega)
    simpa using this
  go_enter Try.func30, Try.ntmps30
  go_wp2_with (at_builtin; refine wpList_ap _ rfl (.tmp 35) (.tmp 42) rfl 0 Try.underlying31 hi hz0 hz1 hz2 (.slice none 0 0) 0 [] rfl (own_nil _ _ _) (some ⟨w.heap.size + 1, 0, none⟩) 2 2 _ rfl hbs rfl (by intro h; cases h) (by omega) (by omega) (Nat.zero_le _) (w.heap.size + 1 + 1) (by simp) ?_)
  intro g2 cap2 w2 ho2 hgr2 hat2
  clear hat2 hbs
  go_wp2
  go_ret
  exact ⟨_, _, _, rfl, BsAt.of_own (zs := [wh, su]) (by simpa using ho2) (by simp; omega), rfl, (by intro h; cases h), hw.grow hgr2 (by intro k hk; simp [Value.ownBlock] at hk)⟩

theorem body_keep (w : World) : Calls Try.prog 30 #[.iface 95 (.agg #[])] w (BdAns w []) := by
  have ha0 := Try.as_keep_open
  have ha1 := Try.as_keep_upd
  have ha2 := Try.as_keep_not
  go_enter Try.func30, Try.ntmps30
  go_wp2
  go_ret
  exact ⟨none, 0, 0, rfl, BsAt.nil _ _, rfl, fun _ => ⟨rfl, rfl⟩, New.refl _⟩

set_option maxRecDepth 100000 in
set_option maxHeartbeats 1600000 in
theorem body_upd (ga a ra : Option Addr) (gn gc n c rn rc : Nat) (has : Bool) (o nx md lc : Int) (gs rs : List (Int × Int)) (xs : List Int) (w : World) (hg : PsAt w ga gs) (hx : NsAt w a xs) (hr : PsAt w ra rs) (hgn : gs.length = gn) (hn : xs.length = n) (hrn : rs.length = rn) (hm1 : gn ≤ 1048576) (hm2 : n ≤ 1048576) (hm3 : rn ≤ 1048576) (hf : uf gs has o xs nx md lc rs = 0) : Calls Try.prog 30 #[.iface 90 (.agg #[.slice ga gn gc, .bool has, .int .i64 o, .slice a n c, .int .i64 nx, .int .i64 md, .int .i64 lc, .slice ra rn rc])] w (BdAns w (upB gs has o xs nx md lc rs)) := by
  have ha0 := Try.as_upd_open
  have ha1 := Try.as_upd_upd
  have hw := (New.refl w).alloc (.cells #[.slice ga gn gc, .bool has, .int .i64 o, .slice a n c, .int .i64 nx, .int .i64 md, .int .i64 lc, .slice ra rn rc] 90)
  have HF : Hid (uf gs has o xs nx md lc rs = 0) := hf
  clear hf
  have hfd : ∀ (x : Int) (b : Option Addr) (m k : Nat) (W : World), (Instr.field 33 (.agg #[.int .i64 x, .slice b m k]) 1).run Try.prog W = .ok (.slice b m k) W := fun _ _ _ _ _ => by kernel_rfl
  go_enter Try.func30, Try.ntmps30
  go_wp2_with fail
  refine (implPU ga a ra gn gc n c rn rc has o nx md lc gs rs xs _ (hg.new hw) (hx.new hw) (hr.new hw) hgn hn hrn hm1 hm2 hm3).mono ?_
  rintro e w1 ⟨b, m, cap, ys, rfl, ho1, hb1, -, hn1, rfl, hnone, -⟩
  go_wp2
  go_ret
  have hy : (if uf gs has o xs nx md lc rs = 0 then upB gs has o xs nx md lc rs else []) = upB gs has o xs nx md lc rs := if_pos HF.out
  rw [hy] at ho1 hb1
  exact ⟨b, m, cap, rfl, ho1.bs hb1, ho1.1, hnone, hw.trans hn1⟩

/-- The body of a message. -/
def msB (kd sa ho si wh su : Int) (gs : List (Int × Int)) (has : Bool) (o : Int) (xs : List Int) (nx md lc : Int) (rs : List (Int × Int)) : List Int :=
  if kd = 1 then opB sa ho si else if kd = 2 then upB gs has o xs nx md lc rs else if kd = 3 then [wh, su] else []
/-- What PackMessage answers: the fault, or the message's bytes in new memory. -/
def MsAns (w : World) (kd sa ho si wh su : Int) (gs : List (Int × Int)) (has : Bool) (o : Int) (xs : List Int) (nx md lc : Int) (rs : List (Int × Int)) (e : Ending) (w' : World) : Prop :=
  ∃ (a : Option Addr) (m cap : Nat) (ys : List Int), e = .returned (.agg #[.int .i64 (mf kd sa ho si wh su gs has o xs nx md lc rs), .slice a m cap]) ∧ OwAt w' a m cap ys ∧ (∀ z ∈ ys, 0 ≤ z ∧ z ≤ 255) ∧ (∀ x, a = some x → w.heap.size ≤ x.block ∧ x.block < w'.heap.size) ∧ New w w' ∧
    ys = (if mf kd sa ho si wh su gs has o xs nx md lc rs = 0 then packOf kd (msB kd sa ho si wh su gs has o xs nx md lc rs) else []) ∧ (a = none → m = 0 ∧ cap = 0) ∧ m ≤ 125

end Go.Proofs.Ytdmcbnmaknpkmaa
