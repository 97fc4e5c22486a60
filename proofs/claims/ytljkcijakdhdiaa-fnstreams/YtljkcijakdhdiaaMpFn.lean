/- What is proved here: what the reading of a message's body answers, in the program, for every list of at most 1048576 bytes. -/
import Derived.Test.YtljkcijakdhdiaaMsSp2
import Derived.Test.YtljkcijakdhdiaaRdImpl
import Derived.Test.YtljkcijakdhdiaaMpRes
import Derived.Deep.RegionHeld3
import Derived.Deep.CutRange
namespace Go.Proofs.Ytljkcijakdhdiaa
open Go.RowKit Go.Sort
set_option linter.unusedVariables false

/-- The numbers of what the reading of a message tells. -/
structure MH where
  code : Int
  why : Int
  sub : Int
  kd : Int
  sa : Int
  ho : Int
  si : Int
  wh : Int
  su : Int

/-- A code, with its Why and Sub. -/
def mhB (c w s : Int) : MH := ⟨c, w, s, 0, 0, 0, 0, 0, 0⟩
/-- The reading of an open. -/
def mhO (zs : List Int) : MH := if zs.length ≠ 5 then mhB 5 2 0 else if numAt zs 0 2 = 0 then mhB 3 2 2 else if numAt zs 3 2 = 0 then mhB 3 2 3 else if ¬ Hl (zs.getD 2 0) then mhB 3 2 6 else ⟨0, 0, 0, 1, numAt zs 0 2, zs.getD 2 0, numAt zs 3 2, 0, 0⟩
/-- The reading of a notify. -/
def mhN (zs : List Int) : MH := if zs.length ≠ 2 then mhB 5 1 2 else if ¬ Nty (zs.getD 0 0) (zs.getD 1 0) then mhB 3 1 2 else ⟨0, 0, 0, 3, 0, 0, 0, zs.getD 0 0, zs.getD 1 0⟩
/-- The reading of a keep. -/
def mhK (zs : List Int) : MH := if zs.length ≠ 0 then mhB 5 1 2 else ⟨0, 0, 0, 4, 0, 0, 0, 0, 0⟩
/-- The reading of an update. -/
def mhU (p : PU) : MH := if p.code ≠ 0 ∧ p.soft = false then mhB p.code 3 1 else ⟨0, 0, 0, 2, 0, 0, 0, 0, 0⟩
def mpU (p : PU) : PU := if p.code ≠ 0 ∧ p.soft = false then puZ 0 else p

/-- The value that the reading of a message tells. -/
def mrV (h : MH) (p : PU) (x y z : Value) : Value := .agg #[.int .i64 h.code, .int .i64 h.why, .int .i64 h.sub, .int .i64 h.kd, .int .i64 h.sa, .int .i64 h.ho, .int .i64 h.si, .int .i64 h.wh, .int .i64 h.su, x, .bool p.has, .int .i64 p.o, y, .int .i64 p.nx, .int .i64 p.md, .int .i64 p.lc, z]

theorem ret_mr {h h' : MH} (e : h = h') (p : PU) (x y z : Value) : Ending.returned (mrV h p x y z) = .returned (mrV h' p x y z) := by rw [e]

theorem mhO_size {zs : List Int} (h : zs.length ≠ 5) : mhO zs = mhB 5 2 0 := if_pos h
theorem mhO_as {zs : List Int} (h : zs.length = 5) (h1 : numAt zs 0 2 = 0) : mhO zs = mhB 3 2 2 := by unfold mhO; rw [if_neg (by simp [h]), if_pos h1]
theorem mhO_id {zs : List Int} (h : zs.length = 5) (h1 : ¬ numAt zs 0 2 = 0) (h2 : numAt zs 3 2 = 0) : mhO zs = mhB 3 2 3 := by unfold mhO; rw [if_neg (by simp [h]), if_neg h1, if_pos h2]
theorem mhO_hold {zs : List Int} (h : zs.length = 5) (h1 : ¬ numAt zs 0 2 = 0) (h2 : ¬ numAt zs 3 2 = 0) (h3 : ¬ Hl (zs.getD 2 0)) : mhO zs = mhB 3 2 6 := by unfold mhO; rw [if_neg (by simp [h]), if_neg h1, if_neg h2, if_pos h3]
theorem mhO_ok {zs : List Int} (h : zs.length = 5) (h1 : ¬ numAt zs 0 2 = 0) (h2 : ¬ numAt zs 3 2 = 0) (h3 : Hl (zs.getD 2 0)) : mhO zs = ⟨0, 0, 0, 1, numAt zs 0 2, zs.getD 2 0, numAt zs 3 2, 0, 0⟩ := by unfold mhO; rw [if_neg (by simp [h]), if_neg h1, if_neg h2, if_neg (fun q => q h3)]
theorem getD_at {zs : List Int} {i : Nat} {z : Int} (h : zs[i]? = some z) : zs.getD i 0 = z := by simp [List.getD, h]

set_option maxHeartbeats 1600000 in
theorem from_size (a : Option Addr) (n c : Nat) (w : World) (h : n ≠ 5) (hm : n ≤ 1048576) : Calls Try.prog 33 #[.slice a n c] w fun e w' => e = .returned (mrV (mhB 5 2 0) (puZ 0) (.slice none 0 0) (.slice none 0 0) (.slice none 0 0)) ∧ New w w' := by
  have e1 : ((n : Int) != 5) = true := by simp; omega
  clear h
  have hw := (New.refl w).alloc (.cells #[.int .i64 0, .int .i64 0, .int .i64 0, .int .i64 0, .int .i64 0, .int .i64 0, .int .i64 0, .int .i64 0, .int .i64 0, .slice none 0 0, .bool false, .int .i64 0, .slice none 0 0, .int .i64 0, .int .i64 0, .int .i64 0, .slice none 0 0] 53)
  have bR := Blk.mk w w.heap.size 53 #[.int .i64 0, .int .i64 0, .int .i64 0, .int .i64 0, .int .i64 0, .int .i64 0, .int .i64 0, .int .i64 0, .int .i64 0, .slice none 0 0, .bool false, .int .i64 0, .slice none 0 0, .int .i64 0, .int .i64 0, .int .i64 0, .slice none 0 0] rfl
  have ge0 : w.heap.size ≤ w.heap.size := Nat.le_refl _
  go_enter Try.func33, Try.ntmps33
  go_upto_region 1 with fail
  generalize w.alloc (.cells #[.int .i64 0, .int .i64 0, .int .i64 0, .int .i64 0, .int .i64 0, .int .i64 0, .int .i64 0, .int .i64 0, .int .i64 0, .slice none 0 0, .bool false, .int .i64 0, .slice none 0 0, .int .i64 0, .int .i64 0, .int .i64 0, .slice none 0 0] 53) = w0 at *
  have cR := bR.cells
  have fR := bR.frees
  go_upto_region 2 with fail
  apply wp_region_lit
  refine wpList_build rfl 53 _ rfl (by kernel_rfl) ?_
  refine wpList_store_row rfl 53 (.tmp 2) (.tmp 7) rfl w.heap.size #[.int .i64 5, .int .i64 2, .int .i64 0, .int .i64 0, .int .i64 0, .int .i64 0, .int .i64 0, .int .i64 0, .int .i64 0, .slice none 0 0, .bool false, .int .i64 0, .slice none 0 0, .int .i64 0, .int .i64 0, .int .i64 0, .slice none 0 0] rfl (by kernel_rfl) 53 #[.int .i64 0, .int .i64 0, .int .i64 0, .int .i64 0, .int .i64 0, .int .i64 0, .int .i64 0, .int .i64 0, .int .i64 0, .slice none 0 0, .bool false, .int .i64 0, .slice none 0 0, .int .i64 0, .int .i64 0, .int .i64 0, .slice none 0 0] bR (by kernel_rfl) rfl (by kernel_rfl) ?_
  go_wp2
  refine bodyPost_ret (v := .agg #[.int .i64 5, .int .i64 2, .int .i64 0, .int .i64 0, .int .i64 0, .int .i64 0, .int .i64 0, .int .i64 0, .int .i64 0, .slice none 0 0, .bool false, .int .i64 0, .slice none 0 0, .int .i64 0, .int .i64 0, .int .i64 0, .slice none 0 0]) ?_ rfl ⟨rfl, hw.row (Nat.le_refl _) _⟩
  exact results_row (B := w.heap.size) (cs := #[.int .i64 5, .int .i64 2, .int .i64 0, .int .i64 0, .int .i64 0, .int .i64 0, .int .i64 0, .int .i64 0, .int .i64 0, .slice none 0 0, .bool false, .int .i64 0, .slice none 0 0, .int .i64 0, .int .i64 0, .int .i64 0, .slice none 0 0]) rfl rfl (bR.row _) ⟨_, Try.underlying53⟩ (by kernel_rfl)

set_option maxHeartbeats 3200000 in
theorem from_as (b off c : Nat) (zs : List Int) (sa ho si : Int) (w : World) (h : BsAt w (some ⟨b, off, none⟩) zs) (hn : zs.length = 5) (hc : 5 ≤ c) (hsa : numAt zs 0 2 = sa) (hho : zs[2]? = some ho) (hsi : numAt zs 3 2 = si) (ba : sa ≤ 65535) (bs : si ≤ 65535) (h1 : sa < 1) :
    Calls Try.prog 33 #[.slice (some ⟨b, off, none⟩) 5 c] w fun e w' => e = .returned (.agg #[.int .i64 3, .int .i64 2, .int .i64 2, .int .i64 0, .int .i64 0, .int .i64 0, .int .i64 0, .int .i64 0, .int .i64 0, .slice none 0 0, .bool false, .int .i64 0, .slice none 0 0, .int .i64 0, .int .i64 0, .int .i64 0, .slice none 0 0]) ∧ New w w' := by
  have hw := ((New.refl w).alloc (.cells #[.int .i64 0, .int .i64 0, .int .i64 0, .int .i64 0, .int .i64 0, .int .i64 0, .int .i64 0, .int .i64 0, .int .i64 0, .slice none 0 0, .bool false, .int .i64 0, .slice none 0 0, .int .i64 0, .int .i64 0, .int .i64 0, .slice none 0 0] 53)).alloc (.cells #[.int .i64 1, .int .i64 0, .int .i64 0, .int .i64 0, .int .i64 0, .int .i64 0, .slice none 0 0, .bool false, .int .i64 0, .slice none 0 0, .int .i64 0, .int .i64 0, .int .i64 0, .slice none 0 0] 51)
  have bR : Blk ((w.alloc (.cells #[.int .i64 0, .int .i64 0, .int .i64 0, .int .i64 0, .int .i64 0, .int .i64 0, .int .i64 0, .int .i64 0, .int .i64 0, .slice none 0 0, .bool false, .int .i64 0, .slice none 0 0, .int .i64 0, .int .i64 0, .int .i64 0, .slice none 0 0] 53)).alloc (.cells #[.int .i64 1, .int .i64 0, .int .i64 0, .int .i64 0, .int .i64 0, .int .i64 0, .slice none 0 0, .bool false, .int .i64 0, .slice none 0 0, .int .i64 0, .int .i64 0, .int .i64 0, .slice none 0 0] 51)) w.heap.size 53 #[.int .i64 0, .int .i64 0, .int .i64 0, .int .i64 0, .int .i64 0, .int .i64 0, .int .i64 0, .int .i64 0, .int .i64 0, .slice none 0 0, .bool false, .int .i64 0, .slice none 0 0, .int .i64 0, .int .i64 0, .int .i64 0, .slice none 0 0] := (Blk.mk _ _ _ _ rfl).alloc _
  have bM : Blk ((w.alloc (.cells #[.int .i64 0, .int .i64 0, .int .i64 0, .int .i64 0, .int .i64 0, .int .i64 0, .int .i64 0, .int .i64 0, .int .i64 0, .slice none 0 0, .bool false, .int .i64 0, .slice none 0 0, .int .i64 0, .int .i64 0, .int .i64 0, .slice none 0 0] 53)).alloc (.cells #[.int .i64 1, .int .i64 0, .int .i64 0, .int .i64 0, .int .i64 0, .int .i64 0, .slice none 0 0, .bool false, .int .i64 0, .slice none 0 0, .int .i64 0, .int .i64 0, .int .i64 0, .slice none 0 0] 51)) (w.heap.size + 1) 51 #[.int .i64 1, .int .i64 0, .int .i64 0, .int .i64 0, .int .i64 0, .int .i64 0, .slice none 0 0, .bool false, .int .i64 0, .slice none 0 0, .int .i64 0, .int .i64 0, .int .i64 0, .slice none 0 0] := Blk.mk _ _ _ _ (by simp)
  have ge1 : w.heap.size ≤ w.heap.size + 1 := by omega
  have ge0 : w.heap.size ≤ w.heap.size := Nat.le_refl _
  obtain ⟨b', off', eb, hblt⟩ := h.block_lt (by rintro rfl; simp at hn)
  simp only [Option.some.injEq, Addr.mk.injEq, and_true] at eb
  obtain ⟨rfl, rfl⟩ := eb
  have d1 : ¬ w.heap.size + 1 = b := by omega
  have d0 : ¬ w.heap.size = b := by omega
  have d01 : ¬ w.heap.size = w.heap.size + 1 := by omega
  have d10 : ¬ w.heap.size + 1 = w.heap.size := by omega
  have hfd : ∀ (x y : Int) (W : World), (Instr.field 77 (.agg #[.int .i64 x, .int .i64 y]) 1).run Try.prog W = .ok (.int .i64 y) W := fun _ _ _ => by kernel_rfl
  have HA : Hid (numAt zs 0 2 = sa) := hsa
  have HI : Hid (numAt zs 3 2 = si) := hsi
  have HO : Hid (zs[2]? = some ho) := hho
  clear hsa hsi hho
  go_enter Try.func33, Try.ntmps33
  go_wp2_with fail
  refine (implNum_good (some ⟨b, off, none⟩) 5 c 0 2 zs _ (h.new hw) hn hc (by omega) (by omega) (by omega) (by omega)).mono ?_
  rintro e w1 ⟨rfl, hn1⟩
  rw [HA.out]
  have hw1 := hw.trans hn1
  have r1 := bR.new hn1
  have m1 := bM.new hn1
  have cM := m1.cells
  have fM := m1.frees
  obtain ⟨_, _, z2, e2, hz2, hc2, hz20, hz21⟩ := (h.new hw1).at 2 (by omega)
  simp only [Option.some.injEq, Addr.mk.injEq, and_true] at e2
  obtain ⟨rfl, rfl⟩ := e2
  obtain rfl : ho = z2 := Option.some.inj (HO.out.symm.trans hz2)
  have n2 : New w ((w1.setCell ⟨w.heap.size + 1, 1, none⟩ (.int .i64 sa)).setCell ⟨w.heap.size + 1, 2, none⟩ (.int .i64 ho)) := (hw1.setCell ge1 _).setCell ge1 _
  have t2 : Turn (fun k => k = w.heap.size + 1) w1 ((w1.setCell ⟨w.heap.size + 1, 1, none⟩ (.int .i64 sa)).setCell ⟨w.heap.size + 1, 2, none⟩ (.int .i64 ho)) := Turn.here (Turn.here (Turn.refl _ _) _) _
  have m2 := (m1.set 1 (.int .i64 sa)).set 2 (.int .i64 ho)
  have r2 := r1.turn t2 d01
  clear bR bM hn1 m1 r1 t2 hz2
  go_wp2_with fail
  refine (implNum_good (some ⟨b, off, none⟩) 5 c 3 2 zs _ (h.new n2) hn hc (by omega) (by omega) (by omega) (by omega)).mono ?_
  rintro e w3 ⟨rfl, hn3⟩
  rw [HI.out]
  have hw3 := n2.trans hn3
  have r3 := r2.new hn3
  have m3 : Blk w3 (w.heap.size + 1) 51 #[.int .i64 1, .int .i64 sa, .int .i64 ho, .int .i64 0, .int .i64 0, .int .i64 0, .slice none 0 0, .bool false, .int .i64 0, .slice none 0 0, .int .i64 0, .int .i64 0, .int .i64 0, .slice none 0 0] := m2.new hn3
  clear cM fM hc2 n2 r2 m2 hn3
  have cM := m3.cells
  have fM := m3.frees
  have t5 : Turn (fun k => k = w.heap.size + 1) w3 (w3.setCell ⟨w.heap.size + 1, 3, none⟩ (.int .i64 si)) := Turn.here (Turn.refl _ _) _
  have r5 := r3.turn t5 d01
  have m5 : Blk (w3.setCell ⟨w.heap.size + 1, 3, none⟩ (.int .i64 si)) (w.heap.size + 1) 51 #[.int .i64 1, .int .i64 sa, .int .i64 ho, .int .i64 si, .int .i64 0, .int .i64 0, .slice none 0 0, .bool false, .int .i64 0, .slice none 0 0, .int .i64 0, .int .i64 0, .int .i64 0, .slice none 0 0] := m3.set 3 (.int .i64 si)
  have hw5 : New w (w3.setCell ⟨w.heap.size + 1, 3, none⟩ (.int .i64 si)) := hw3.setCell ge1 _
  go_wp2_with fail
  refine (isSys_no sa _ (by omega)).mono ?_
  rintro e w4 ⟨rfl, rfl⟩
  go_upto_region 8 with fail
  apply wp_region_lit
  refine wpList_build rfl 53 _ rfl (by kernel_rfl) ?_
  refine wpList_store_row rfl 53 (.tmp 2) (.tmp 26) rfl w.heap.size #[.int .i64 3, .int .i64 2, .int .i64 2, .int .i64 0, .int .i64 0, .int .i64 0, .int .i64 0, .int .i64 0, .int .i64 0, .slice none 0 0, .bool false, .int .i64 0, .slice none 0 0, .int .i64 0, .int .i64 0, .int .i64 0, .slice none 0 0] rfl (by kernel_rfl) 53 #[.int .i64 0, .int .i64 0, .int .i64 0, .int .i64 0, .int .i64 0, .int .i64 0, .int .i64 0, .int .i64 0, .int .i64 0, .slice none 0 0, .bool false, .int .i64 0, .slice none 0 0, .int .i64 0, .int .i64 0, .int .i64 0, .slice none 0 0] r5 (by kernel_rfl) rfl (by kernel_rfl) ?_
  go_wp2
  refine bodyPost_ret (v := .agg #[.int .i64 3, .int .i64 2, .int .i64 2, .int .i64 0, .int .i64 0, .int .i64 0, .int .i64 0, .int .i64 0, .int .i64 0, .slice none 0 0, .bool false, .int .i64 0, .slice none 0 0, .int .i64 0, .int .i64 0, .int .i64 0, .slice none 0 0]) ?_ rfl ⟨rfl, hw5.row (Nat.le_refl _) _⟩
  exact results_row (B := w.heap.size) (cs := #[.int .i64 3, .int .i64 2, .int .i64 2, .int .i64 0, .int .i64 0, .int .i64 0, .int .i64 0, .int .i64 0, .int .i64 0, .slice none 0 0, .bool false, .int .i64 0, .slice none 0 0, .int .i64 0, .int .i64 0, .int .i64 0, .slice none 0 0]) rfl rfl (r5.row _) ⟨_, Try.underlying53⟩ (by kernel_rfl)

set_option maxHeartbeats 3200000 in
theorem from_id (b off c : Nat) (zs : List Int) (sa ho si : Int) (w : World) (h : BsAt w (some ⟨b, off, none⟩) zs) (hn : zs.length = 5) (hc : 5 ≤ c) (hsa : numAt zs 0 2 = sa) (hho : zs[2]? = some ho) (hsi : numAt zs 3 2 = si) (ba : sa ≤ 65535) (bs : si ≤ 65535) (h1 : 1 ≤ sa) (h2 : si < 1) :
    Calls Try.prog 33 #[.slice (some ⟨b, off, none⟩) 5 c] w fun e w' => e = .returned (.agg #[.int .i64 3, .int .i64 2, .int .i64 3, .int .i64 0, .int .i64 0, .int .i64 0, .int .i64 0, .int .i64 0, .int .i64 0, .slice none 0 0, .bool false, .int .i64 0, .slice none 0 0, .int .i64 0, .int .i64 0, .int .i64 0, .slice none 0 0]) ∧ New w w' := by
  have hw := ((New.refl w).alloc (.cells #[.int .i64 0, .int .i64 0, .int .i64 0, .int .i64 0, .int .i64 0, .int .i64 0, .int .i64 0, .int .i64 0, .int .i64 0, .slice none 0 0, .bool false, .int .i64 0, .slice none 0 0, .int .i64 0, .int .i64 0, .int .i64 0, .slice none 0 0] 53)).alloc (.cells #[.int .i64 1, .int .i64 0, .int .i64 0, .int .i64 0, .int .i64 0, .int .i64 0, .slice none 0 0, .bool false, .int .i64 0, .slice none 0 0, .int .i64 0, .int .i64 0, .int .i64 0, .slice none 0 0] 51)
  have bR : Blk ((w.alloc (.cells #[.int .i64 0, .int .i64 0, .int .i64 0, .int .i64 0, .int .i64 0, .int .i64 0, .int .i64 0, .int .i64 0, .int .i64 0, .slice none 0 0, .bool false, .int .i64 0, .slice none 0 0, .int .i64 0, .int .i64 0, .int .i64 0, .slice none 0 0] 53)).alloc (.cells #[.int .i64 1, .int .i64 0, .int .i64 0, .int .i64 0, .int .i64 0, .int .i64 0, .slice none 0 0, .bool false, .int .i64 0, .slice none 0 0, .int .i64 0, .int .i64 0, .int .i64 0, .slice none 0 0] 51)) w.heap.size 53 #[.int .i64 0, .int .i64 0, .int .i64 0, .int .i64 0, .int .i64 0, .int .i64 0, .int .i64 0, .int .i64 0, .int .i64 0, .slice none 0 0, .bool false, .int .i64 0, .slice none 0 0, .int .i64 0, .int .i64 0, .int .i64 0, .slice none 0 0] := (Blk.mk _ _ _ _ rfl).alloc _
  have bM : Blk ((w.alloc (.cells #[.int .i64 0, .int .i64 0, .int .i64 0, .int .i64 0, .int .i64 0, .int .i64 0, .int .i64 0, .int .i64 0, .int .i64 0, .slice none 0 0, .bool false, .int .i64 0, .slice none 0 0, .int .i64 0, .int .i64 0, .int .i64 0, .slice none 0 0] 53)).alloc (.cells #[.int .i64 1, .int .i64 0, .int .i64 0, .int .i64 0, .int .i64 0, .int .i64 0, .slice none 0 0, .bool false, .int .i64 0, .slice none 0 0, .int .i64 0, .int .i64 0, .int .i64 0, .slice none 0 0] 51)) (w.heap.size + 1) 51 #[.int .i64 1, .int .i64 0, .int .i64 0, .int .i64 0, .int .i64 0, .int .i64 0, .slice none 0 0, .bool false, .int .i64 0, .slice none 0 0, .int .i64 0, .int .i64 0, .int .i64 0, .slice none 0 0] := Blk.mk _ _ _ _ (by simp)
  have ge1 : w.heap.size ≤ w.heap.size + 1 := by omega
  have ge0 : w.heap.size ≤ w.heap.size := Nat.le_refl _
  obtain ⟨b', off', eb, hblt⟩ := h.block_lt (by rintro rfl; simp at hn)
  simp only [Option.some.injEq, Addr.mk.injEq, and_true] at eb
  obtain ⟨rfl, rfl⟩ := eb
  have d1 : ¬ w.heap.size + 1 = b := by omega
  have d0 : ¬ w.heap.size = b := by omega
  have d01 : ¬ w.heap.size = w.heap.size + 1 := by omega
  have d10 : ¬ w.heap.size + 1 = w.heap.size := by omega
  have hfd : ∀ (x y : Int) (W : World), (Instr.field 77 (.agg #[.int .i64 x, .int .i64 y]) 1).run Try.prog W = .ok (.int .i64 y) W := fun _ _ _ => by kernel_rfl
  have HA : Hid (numAt zs 0 2 = sa) := hsa
  have HI : Hid (numAt zs 3 2 = si) := hsi
  have HO : Hid (zs[2]? = some ho) := hho
  clear hsa hsi hho
  go_enter Try.func33, Try.ntmps33
  go_wp2_with fail
  refine (implNum_good (some ⟨b, off, none⟩) 5 c 0 2 zs _ (h.new hw) hn hc (by omega) (by omega) (by omega) (by omega)).mono ?_
  rintro e w1 ⟨rfl, hn1⟩
  rw [HA.out]
  have hw1 := hw.trans hn1
  have r1 := bR.new hn1
  have m1 := bM.new hn1
  have cM := m1.cells
  have fM := m1.frees
  obtain ⟨_, _, z2, e2, hz2, hc2, hz20, hz21⟩ := (h.new hw1).at 2 (by omega)
  simp only [Option.some.injEq, Addr.mk.injEq, and_true] at e2
  obtain ⟨rfl, rfl⟩ := e2
  obtain rfl : ho = z2 := Option.some.inj (HO.out.symm.trans hz2)
  have n2 : New w ((w1.setCell ⟨w.heap.size + 1, 1, none⟩ (.int .i64 sa)).setCell ⟨w.heap.size + 1, 2, none⟩ (.int .i64 ho)) := (hw1.setCell ge1 _).setCell ge1 _
  have t2 : Turn (fun k => k = w.heap.size + 1) w1 ((w1.setCell ⟨w.heap.size + 1, 1, none⟩ (.int .i64 sa)).setCell ⟨w.heap.size + 1, 2, none⟩ (.int .i64 ho)) := Turn.here (Turn.here (Turn.refl _ _) _) _
  have m2 := (m1.set 1 (.int .i64 sa)).set 2 (.int .i64 ho)
  have r2 := r1.turn t2 d01
  clear bR bM hn1 m1 r1 t2 hz2
  go_wp2_with fail
  refine (implNum_good (some ⟨b, off, none⟩) 5 c 3 2 zs _ (h.new n2) hn hc (by omega) (by omega) (by omega) (by omega)).mono ?_
  rintro e w3 ⟨rfl, hn3⟩
  rw [HI.out]
  have hw3 := n2.trans hn3
  have r3 := r2.new hn3
  have m3 : Blk w3 (w.heap.size + 1) 51 #[.int .i64 1, .int .i64 sa, .int .i64 ho, .int .i64 0, .int .i64 0, .int .i64 0, .slice none 0 0, .bool false, .int .i64 0, .slice none 0 0, .int .i64 0, .int .i64 0, .int .i64 0, .slice none 0 0] := m2.new hn3
  clear cM fM hc2 n2 r2 m2 hn3
  have cM := m3.cells
  have fM := m3.frees
  have t5 : Turn (fun k => k = w.heap.size + 1) w3 (w3.setCell ⟨w.heap.size + 1, 3, none⟩ (.int .i64 si)) := Turn.here (Turn.refl _ _) _
  have r5 := r3.turn t5 d01
  have m5 : Blk (w3.setCell ⟨w.heap.size + 1, 3, none⟩ (.int .i64 si)) (w.heap.size + 1) 51 #[.int .i64 1, .int .i64 sa, .int .i64 ho, .int .i64 si, .int .i64 0, .int .i64 0, .slice none 0 0, .bool false, .int .i64 0, .slice none 0 0, .int .i64 0, .int .i64 0, .int .i64 0, .slice none 0 0] := m3.set 3 (.int .i64 si)
  have hw5 : New w (w3.setCell ⟨w.heap.size + 1, 3, none⟩ (.int .i64 si)) := hw3.setCell ge1 _
  go_wp2_with fail
  refine (isSys_yes sa _ ⟨h1, ba⟩).mono ?_
  rintro e w4 ⟨rfl, rfl⟩
  go_wp2_with fail
  refine (isId_no si _ (by omega)).mono ?_
  rintro e w4 ⟨rfl, rfl⟩
  go_upto_region 10 with fail
  apply wp_region_lit
  refine wpList_build rfl 53 _ rfl (by kernel_rfl) ?_
  refine wpList_store_row rfl 53 (.tmp 2) (.tmp 31) rfl w.heap.size #[.int .i64 3, .int .i64 2, .int .i64 3, .int .i64 0, .int .i64 0, .int .i64 0, .int .i64 0, .int .i64 0, .int .i64 0, .slice none 0 0, .bool false, .int .i64 0, .slice none 0 0, .int .i64 0, .int .i64 0, .int .i64 0, .slice none 0 0] rfl (by kernel_rfl) 53 #[.int .i64 0, .int .i64 0, .int .i64 0, .int .i64 0, .int .i64 0, .int .i64 0, .int .i64 0, .int .i64 0, .int .i64 0, .slice none 0 0, .bool false, .int .i64 0, .slice none 0 0, .int .i64 0, .int .i64 0, .int .i64 0, .slice none 0 0] r5 (by kernel_rfl) rfl (by kernel_rfl) ?_
  go_wp2
  refine bodyPost_ret (v := .agg #[.int .i64 3, .int .i64 2, .int .i64 3, .int .i64 0, .int .i64 0, .int .i64 0, .int .i64 0, .int .i64 0, .int .i64 0, .slice none 0 0, .bool false, .int .i64 0, .slice none 0 0, .int .i64 0, .int .i64 0, .int .i64 0, .slice none 0 0]) ?_ rfl ⟨rfl, hw5.row (Nat.le_refl _) _⟩
  exact results_row (B := w.heap.size) (cs := #[.int .i64 3, .int .i64 2, .int .i64 3, .int .i64 0, .int .i64 0, .int .i64 0, .int .i64 0, .int .i64 0, .int .i64 0, .slice none 0 0, .bool false, .int .i64 0, .slice none 0 0, .int .i64 0, .int .i64 0, .int .i64 0, .slice none 0 0]) rfl rfl (r5.row _) ⟨_, Try.underlying53⟩ (by kernel_rfl)

set_option maxHeartbeats 3200000 in
theorem from_hold (b off c : Nat) (zs : List Int) (sa ho si : Int) (w : World) (h : BsAt w (some ⟨b, off, none⟩) zs) (hn : zs.length = 5) (hc : 5 ≤ c) (hsa : numAt zs 0 2 = sa) (hho : zs[2]? = some ho) (hsi : numAt zs 3 2 = si) (ba : sa ≤ 65535) (bs : si ≤ 65535) (h1 : 1 ≤ sa) (h2 : 1 ≤ si) (h3 : ¬ Hl ho) :
    Calls Try.prog 33 #[.slice (some ⟨b, off, none⟩) 5 c] w fun e w' => e = .returned (.agg #[.int .i64 3, .int .i64 2, .int .i64 6, .int .i64 0, .int .i64 0, .int .i64 0, .int .i64 0, .int .i64 0, .int .i64 0, .slice none 0 0, .bool false, .int .i64 0, .slice none 0 0, .int .i64 0, .int .i64 0, .int .i64 0, .slice none 0 0]) ∧ New w w' := by
  have hw := ((New.refl w).alloc (.cells #[.int .i64 0, .int .i64 0, .int .i64 0, .int .i64 0, .int .i64 0, .int .i64 0, .int .i64 0, .int .i64 0, .int .i64 0, .slice none 0 0, .bool false, .int .i64 0, .slice none 0 0, .int .i64 0, .int .i64 0, .int .i64 0, .slice none 0 0] 53)).alloc (.cells #[.int .i64 1, .int .i64 0, .int .i64 0, .int .i64 0, .int .i64 0, .int .i64 0, .slice none 0 0, .bool false, .int .i64 0, .slice none 0 0, .int .i64 0, .int .i64 0, .int .i64 0, .slice none 0 0] 51)
  have bR : Blk ((w.alloc (.cells #[.int .i64 0, .int .i64 0, .int .i64 0, .int .i64 0, .int .i64 0, .int .i64 0, .int .i64 0, .int .i64 0, .int .i64 0, .slice none 0 0, .bool false, .int .i64 0, .slice none 0 0, .int .i64 0, .int .i64 0, .int .i64 0, .slice none 0 0] 53)).alloc (.cells #[.int .i64 1, .int .i64 0, .int .i64 0, .int .i64 0, .int .i64 0, .int .i64 0, .slice none 0 0, .bool false, .int .i64 0, .slice none 0 0, .int .i64 0, .int .i64 0, .int .i64 0, .slice none 0 0] 51)) w.heap.size 53 #[.int .i64 0, .int .i64 0, .int .i64 0, .int .i64 0, .int .i64 0, .int .i64 0, .int .i64 0, .int .i64 0, .int .i64 0, .slice none 0 0, .bool false, .int .i64 0, .slice none 0 0, .int .i64 0, .int .i64 0, .int .i64 0, .slice none 0 0] := (Blk.mk _ _ _ _ rfl).alloc _
  have bM : Blk ((w.alloc (.cells #[.int .i64 0, .int .i64 0, .int .i64 0, .int .i64 0, .int .i64 0, .int .i64 0, .int .i64 0, .int .i64 0, .int .i64 0, .slice none 0 0, .bool false, .int .i64 0, .slice none 0 0, .int .i64 0, .int .i64 0, .int .i64 0, .slice none 0 0] 53)).alloc (.cells #[.int .i64 1, .int .i64 0, .int .i64 0, .int .i64 0, .int .i64 0, .int .i64 0, .slice none 0 0, .bool false, .int .i64 0, .slice none 0 0, .int .i64 0, .int .i64 0, .int .i64 0, .slice none 0 0] 51)) (w.heap.size + 1) 51 #[.int .i64 1, .int .i64 0, .int .i64 0, .int .i64 0, .int .i64 0, .int .i64 0, .slice none 0 0, .bool false, .int .i64 0, .slice none 0 0, .int .i64 0, .int .i64 0, .int .i64 0, .slice none 0 0] := Blk.mk _ _ _ _ (by simp)
  have ge1 : w.heap.size ≤ w.heap.size + 1 := by omega
  have ge0 : w.heap.size ≤ w.heap.size := Nat.le_refl _
  obtain ⟨b', off', eb, hblt⟩ := h.block_lt (by rintro rfl; simp at hn)
  simp only [Option.some.injEq, Addr.mk.injEq, and_true] at eb
  obtain ⟨rfl, rfl⟩ := eb
  have d1 : ¬ w.heap.size + 1 = b := by omega
  have d0 : ¬ w.heap.size = b := by omega
  have d01 : ¬ w.heap.size = w.heap.size + 1 := by omega
  have d10 : ¬ w.heap.size + 1 = w.heap.size := by omega
  have hfd : ∀ (x y : Int) (W : World), (Instr.field 77 (.agg #[.int .i64 x, .int .i64 y]) 1).run Try.prog W = .ok (.int .i64 y) W := fun _ _ _ => by kernel_rfl
  have HA : Hid (numAt zs 0 2 = sa) := hsa
  have HI : Hid (numAt zs 3 2 = si) := hsi
  have HO : Hid (zs[2]? = some ho) := hho
  clear hsa hsi hho
  go_enter Try.func33, Try.ntmps33
  go_wp2_with fail
  refine (implNum_good (some ⟨b, off, none⟩) 5 c 0 2 zs _ (h.new hw) hn hc (by omega) (by omega) (by omega) (by omega)).mono ?_
  rintro e w1 ⟨rfl, hn1⟩
  rw [HA.out]
  have hw1 := hw.trans hn1
  have r1 := bR.new hn1
  have m1 := bM.new hn1
  have cM := m1.cells
  have fM := m1.frees
  obtain ⟨_, _, z2, e2, hz2, hc2, hz20, hz21⟩ := (h.new hw1).at 2 (by omega)
  simp only [Option.some.injEq, Addr.mk.injEq, and_true] at e2
  obtain ⟨rfl, rfl⟩ := e2
  obtain rfl : ho = z2 := Option.some.inj (HO.out.symm.trans hz2)
  have n2 : New w ((w1.setCell ⟨w.heap.size + 1, 1, none⟩ (.int .i64 sa)).setCell ⟨w.heap.size + 1, 2, none⟩ (.int .i64 ho)) := (hw1.setCell ge1 _).setCell ge1 _
  have t2 : Turn (fun k => k = w.heap.size + 1) w1 ((w1.setCell ⟨w.heap.size + 1, 1, none⟩ (.int .i64 sa)).setCell ⟨w.heap.size + 1, 2, none⟩ (.int .i64 ho)) := Turn.here (Turn.here (Turn.refl _ _) _) _
  have m2 := (m1.set 1 (.int .i64 sa)).set 2 (.int .i64 ho)
  have r2 := r1.turn t2 d01
  clear bR bM hn1 m1 r1 t2 hz2
  go_wp2_with fail
  refine (implNum_good (some ⟨b, off, none⟩) 5 c 3 2 zs _ (h.new n2) hn hc (by omega) (by omega) (by omega) (by omega)).mono ?_
  rintro e w3 ⟨rfl, hn3⟩
  rw [HI.out]
  have hw3 := n2.trans hn3
  have r3 := r2.new hn3
  have m3 : Blk w3 (w.heap.size + 1) 51 #[.int .i64 1, .int .i64 sa, .int .i64 ho, .int .i64 0, .int .i64 0, .int .i64 0, .slice none 0 0, .bool false, .int .i64 0, .slice none 0 0, .int .i64 0, .int .i64 0, .int .i64 0, .slice none 0 0] := m2.new hn3
  clear cM fM hc2 n2 r2 m2 hn3
  have cM := m3.cells
  have fM := m3.frees
  have t5 : Turn (fun k => k = w.heap.size + 1) w3 (w3.setCell ⟨w.heap.size + 1, 3, none⟩ (.int .i64 si)) := Turn.here (Turn.refl _ _) _
  have r5 := r3.turn t5 d01
  have m5 : Blk (w3.setCell ⟨w.heap.size + 1, 3, none⟩ (.int .i64 si)) (w.heap.size + 1) 51 #[.int .i64 1, .int .i64 sa, .int .i64 ho, .int .i64 si, .int .i64 0, .int .i64 0, .slice none 0 0, .bool false, .int .i64 0, .slice none 0 0, .int .i64 0, .int .i64 0, .int .i64 0, .slice none 0 0] := m3.set 3 (.int .i64 si)
  have hw5 : New w (w3.setCell ⟨w.heap.size + 1, 3, none⟩ (.int .i64 si)) := hw3.setCell ge1 _
  go_wp2_with fail
  refine (isSys_yes sa _ ⟨h1, ba⟩).mono ?_
  rintro e w4 ⟨rfl, rfl⟩
  go_wp2_with fail
  refine (isId_yes si _ ⟨h2, bs⟩).mono ?_
  rintro e w4 ⟨rfl, rfl⟩
  go_wp2_with fail
  refine (isHold_no ho _ h3).mono ?_
  rintro e w4 ⟨rfl, rfl⟩
  go_upto_region 12 with fail
  apply wp_region_lit
  refine wpList_build rfl 53 _ rfl (by kernel_rfl) ?_
  refine wpList_store_row rfl 53 (.tmp 2) (.tmp 36) rfl w.heap.size #[.int .i64 3, .int .i64 2, .int .i64 6, .int .i64 0, .int .i64 0, .int .i64 0, .int .i64 0, .int .i64 0, .int .i64 0, .slice none 0 0, .bool false, .int .i64 0, .slice none 0 0, .int .i64 0, .int .i64 0, .int .i64 0, .slice none 0 0] rfl (by kernel_rfl) 53 #[.int .i64 0, .int .i64 0, .int .i64 0, .int .i64 0, .int .i64 0, .int .i64 0, .int .i64 0, .int .i64 0, .int .i64 0, .slice none 0 0, .bool false, .int .i64 0, .slice none 0 0, .int .i64 0, .int .i64 0, .int .i64 0, .slice none 0 0] r5 (by kernel_rfl) rfl (by kernel_rfl) ?_
  go_wp2
  refine bodyPost_ret (v := .agg #[.int .i64 3, .int .i64 2, .int .i64 6, .int .i64 0, .int .i64 0, .int .i64 0, .int .i64 0, .int .i64 0, .int .i64 0, .slice none 0 0, .bool false, .int .i64 0, .slice none 0 0, .int .i64 0, .int .i64 0, .int .i64 0, .slice none 0 0]) ?_ rfl ⟨rfl, hw5.row (Nat.le_refl _) _⟩
  exact results_row (B := w.heap.size) (cs := #[.int .i64 3, .int .i64 2, .int .i64 6, .int .i64 0, .int .i64 0, .int .i64 0, .int .i64 0, .int .i64 0, .int .i64 0, .slice none 0 0, .bool false, .int .i64 0, .slice none 0 0, .int .i64 0, .int .i64 0, .int .i64 0, .slice none 0 0]) rfl rfl (r5.row _) ⟨_, Try.underlying53⟩ (by kernel_rfl)

set_option maxHeartbeats 3200000 in
theorem from_ok (b off c : Nat) (zs : List Int) (sa ho si : Int) (w : World) (h : BsAt w (some ⟨b, off, none⟩) zs) (hn : zs.length = 5) (hc : 5 ≤ c) (hsa : numAt zs 0 2 = sa) (hho : zs[2]? = some ho) (hsi : numAt zs 3 2 = si) (ba : sa ≤ 65535) (bs : si ≤ 65535) (h1 : 1 ≤ sa) (h2 : 1 ≤ si) (h3 : Hl ho) :
    Calls Try.prog 33 #[.slice (some ⟨b, off, none⟩) 5 c] w fun e w' => e = .returned (.agg #[.int .i64 0, .int .i64 0, .int .i64 0, .int .i64 1, .int .i64 sa, .int .i64 ho, .int .i64 si, .int .i64 0, .int .i64 0, .slice none 0 0, .bool false, .int .i64 0, .slice none 0 0, .int .i64 0, .int .i64 0, .int .i64 0, .slice none 0 0]) ∧ New w w' := by
  have hw := ((New.refl w).alloc (.cells #[.int .i64 0, .int .i64 0, .int .i64 0, .int .i64 0, .int .i64 0, .int .i64 0, .int .i64 0, .int .i64 0, .int .i64 0, .slice none 0 0, .bool false, .int .i64 0, .slice none 0 0, .int .i64 0, .int .i64 0, .int .i64 0, .slice none 0 0] 53)).alloc (.cells #[.int .i64 1, .int .i64 0, .int .i64 0, .int .i64 0, .int .i64 0, .int .i64 0, .slice none 0 0, .bool false, .int .i64 0, .slice none 0 0, .int .i64 0, .int .i64 0, .int .i64 0, .slice none 0 0] 51)
  have bR : Blk ((w.alloc (.cells #[.int .i64 0, .int .i64 0, .int .i64 0, .int .i64 0, .int .i64 0, .int .i64 0, .int .i64 0, .int .i64 0, .int .i64 0, .slice none 0 0, .bool false, .int .i64 0, .slice none 0 0, .int .i64 0, .int .i64 0, .int .i64 0, .slice none 0 0] 53)).alloc (.cells #[.int .i64 1, .int .i64 0, .int .i64 0, .int .i64 0, .int .i64 0, .int .i64 0, .slice none 0 0, .bool false, .int .i64 0, .slice none 0 0, .int .i64 0, .int .i64 0, .int .i64 0, .slice none 0 0] 51)) w.heap.size 53 #[.int .i64 0, .int .i64 0, .int .i64 0, .int .i64 0, .int .i64 0, .int .i64 0, .int .i64 0, .int .i64 0, .int .i64 0, .slice none 0 0, .bool false, .int .i64 0, .slice none 0 0, .int .i64 0, .int .i64 0, .int .i64 0, .slice none 0 0] := (Blk.mk _ _ _ _ rfl).alloc _
  have bM : Blk ((w.alloc (.cells #[.int .i64 0, .int .i64 0, .int .i64 0, .int .i64 0, .int .i64 0, .int .i64 0, .int .i64 0, .int .i64 0, .int .i64 0, .slice none 0 0, .bool false, .int .i64 0, .slice none 0 0, .int .i64 0, .int .i64 0, .int .i64 0, .slice none 0 0] 53)).alloc (.cells #[.int .i64 1, .int .i64 0, .int .i64 0, .int .i64 0, .int .i64 0, .int .i64 0, .slice none 0 0, .bool false, .int .i64 0, .slice none 0 0, .int .i64 0, .int .i64 0, .int .i64 0, .slice none 0 0] 51)) (w.heap.size + 1) 51 #[.int .i64 1, .int .i64 0, .int .i64 0, .int .i64 0, .int .i64 0, .int .i64 0, .slice none 0 0, .bool false, .int .i64 0, .slice none 0 0, .int .i64 0, .int .i64 0, .int .i64 0, .slice none 0 0] := Blk.mk _ _ _ _ (by simp)
  have ge1 : w.heap.size ≤ w.heap.size + 1 := by omega
  have ge0 : w.heap.size ≤ w.heap.size := Nat.le_refl _
  obtain ⟨b', off', eb, hblt⟩ := h.block_lt (by rintro rfl; simp at hn)
  simp only [Option.some.injEq, Addr.mk.injEq, and_true] at eb
  obtain ⟨rfl, rfl⟩ := eb
  have d1 : ¬ w.heap.size + 1 = b := by omega
  have d0 : ¬ w.heap.size = b := by omega
  have d01 : ¬ w.heap.size = w.heap.size + 1 := by omega
  have d10 : ¬ w.heap.size + 1 = w.heap.size := by omega
  have hfd : ∀ (x y : Int) (W : World), (Instr.field 77 (.agg #[.int .i64 x, .int .i64 y]) 1).run Try.prog W = .ok (.int .i64 y) W := fun _ _ _ => by kernel_rfl
  have HA : Hid (numAt zs 0 2 = sa) := hsa
  have HI : Hid (numAt zs 3 2 = si) := hsi
  have HO : Hid (zs[2]? = some ho) := hho
  clear hsa hsi hho
  go_enter Try.func33, Try.ntmps33
  go_wp2_with fail
  refine (implNum_good (some ⟨b, off, none⟩) 5 c 0 2 zs _ (h.new hw) hn hc (by omega) (by omega) (by omega) (by omega)).mono ?_
  rintro e w1 ⟨rfl, hn1⟩
  rw [HA.out]
  have hw1 := hw.trans hn1
  have r1 := bR.new hn1
  have m1 := bM.new hn1
  have cM := m1.cells
  have fM := m1.frees
  obtain ⟨_, _, z2, e2, hz2, hc2, hz20, hz21⟩ := (h.new hw1).at 2 (by omega)
  simp only [Option.some.injEq, Addr.mk.injEq, and_true] at e2
  obtain ⟨rfl, rfl⟩ := e2
  obtain rfl : ho = z2 := Option.some.inj (HO.out.symm.trans hz2)
  have n2 : New w ((w1.setCell ⟨w.heap.size + 1, 1, none⟩ (.int .i64 sa)).setCell ⟨w.heap.size + 1, 2, none⟩ (.int .i64 ho)) := (hw1.setCell ge1 _).setCell ge1 _
  have t2 : Turn (fun k => k = w.heap.size + 1) w1 ((w1.setCell ⟨w.heap.size + 1, 1, none⟩ (.int .i64 sa)).setCell ⟨w.heap.size + 1, 2, none⟩ (.int .i64 ho)) := Turn.here (Turn.here (Turn.refl _ _) _) _
  have m2 := (m1.set 1 (.int .i64 sa)).set 2 (.int .i64 ho)
  have r2 := r1.turn t2 d01
  clear bR bM hn1 m1 r1 t2 hz2
  go_wp2_with fail
  refine (implNum_good (some ⟨b, off, none⟩) 5 c 3 2 zs _ (h.new n2) hn hc (by omega) (by omega) (by omega) (by omega)).mono ?_
  rintro e w3 ⟨rfl, hn3⟩
  rw [HI.out]
  have hw3 := n2.trans hn3
  have r3 := r2.new hn3
  have m3 : Blk w3 (w.heap.size + 1) 51 #[.int .i64 1, .int .i64 sa, .int .i64 ho, .int .i64 0, .int .i64 0, .int .i64 0, .slice none 0 0, .bool false, .int .i64 0, .slice none 0 0, .int .i64 0, .int .i64 0, .int .i64 0, .slice none 0 0] := m2.new hn3
  clear cM fM hc2 n2 r2 m2 hn3
  have cM := m3.cells
  have fM := m3.frees
  have t5 : Turn (fun k => k = w.heap.size + 1) w3 (w3.setCell ⟨w.heap.size + 1, 3, none⟩ (.int .i64 si)) := Turn.here (Turn.refl _ _) _
  have r5 := r3.turn t5 d01
  have m5 : Blk (w3.setCell ⟨w.heap.size + 1, 3, none⟩ (.int .i64 si)) (w.heap.size + 1) 51 #[.int .i64 1, .int .i64 sa, .int .i64 ho, .int .i64 si, .int .i64 0, .int .i64 0, .slice none 0 0, .bool false, .int .i64 0, .slice none 0 0, .int .i64 0, .int .i64 0, .int .i64 0, .slice none 0 0] := m3.set 3 (.int .i64 si)
  have hw5 : New w (w3.setCell ⟨w.heap.size + 1, 3, none⟩ (.int .i64 si)) := hw3.setCell ge1 _
  go_wp2_with fail
  refine (isSys_yes sa _ ⟨h1, ba⟩).mono ?_
  rintro e w4 ⟨rfl, rfl⟩
  go_wp2_with fail
  refine (isId_yes si _ ⟨h2, bs⟩).mono ?_
  rintro e w4 ⟨rfl, rfl⟩
  go_wp2_with fail
  refine (isHold_yes ho _ h3).mono ?_
  rintro e w4 ⟨rfl, rfl⟩
  go_upto_region 13 with fail
  apply wp_region_lit
  refine wpList_load_row rfl 51 (.tmp 3) rfl (w.heap.size + 1) rfl 51 #[.int .i64 1, .int .i64 sa, .int .i64 ho, .int .i64 si, .int .i64 0, .int .i64 0, .slice none 0 0, .bool false, .int .i64 0, .slice none 0 0, .int .i64 0, .int .i64 0, .int .i64 0, .slice none 0 0] (0, 0) _ m5 Try.underlying51 rfl (by kernel_rfl) ?_
  refine wpList_build rfl 53 _ rfl (by kernel_rfl) ?_
  refine wpList_store_row rfl 53 (.tmp 2) (.tmp 38) rfl w.heap.size #[.int .i64 0, .int .i64 0, .int .i64 0, .int .i64 1, .int .i64 sa, .int .i64 ho, .int .i64 si, .int .i64 0, .int .i64 0, .slice none 0 0, .bool false, .int .i64 0, .slice none 0 0, .int .i64 0, .int .i64 0, .int .i64 0, .slice none 0 0] rfl (by kernel_rfl) 53 #[.int .i64 0, .int .i64 0, .int .i64 0, .int .i64 0, .int .i64 0, .int .i64 0, .int .i64 0, .int .i64 0, .int .i64 0, .slice none 0 0, .bool false, .int .i64 0, .slice none 0 0, .int .i64 0, .int .i64 0, .int .i64 0, .slice none 0 0] r5 (by kernel_rfl) rfl (by kernel_rfl) ?_
  go_wp2
  refine bodyPost_ret (v := .agg #[.int .i64 0, .int .i64 0, .int .i64 0, .int .i64 1, .int .i64 sa, .int .i64 ho, .int .i64 si, .int .i64 0, .int .i64 0, .slice none 0 0, .bool false, .int .i64 0, .slice none 0 0, .int .i64 0, .int .i64 0, .int .i64 0, .slice none 0 0]) ?_ rfl ⟨rfl, hw5.row (Nat.le_refl _) _⟩
  exact results_row (B := w.heap.size) (cs := #[.int .i64 0, .int .i64 0, .int .i64 0, .int .i64 1, .int .i64 sa, .int .i64 ho, .int .i64 si, .int .i64 0, .int .i64 0, .slice none 0 0, .bool false, .int .i64 0, .slice none 0 0, .int .i64 0, .int .i64 0, .int .i64 0, .slice none 0 0]) rfl rfl (r5.row _) ⟨_, Try.underlying53⟩ (by kernel_rfl)

theorem openFrom_any (a : Option Addr) (n c : Nat) (zs : List Int) (w : World) (h : BsAt w a zs) (hn : zs.length = n) (hc : n ≤ c) (hm : n ≤ 1048576) :
    Calls Try.prog 33 #[.slice a n c] w fun e w' => e = .returned (mrV (mhO zs) (puZ 0) (.slice none 0 0) (.slice none 0 0) (.slice none 0 0)) ∧ New w w' := by
  by_cases h5 : n = 5
  case neg =>
    rw [mhO_size (by omega)]
    exact from_size a n c w h5 hm
  subst h5
  have h5 : zs.length = 5 := hn
  obtain ⟨b, off, ho, rfl, hho, -, -⟩ := h.at 2 (by omega)
  have hb := h.lt
  have b1 := numAt_bd2 zs hb 0
  have b2 := numAt_bd2 zs hb 3
  by_cases g1 : numAt zs 0 2 = 0
  · rw [mhO_as h5 g1]
    exact from_as b off c zs (numAt zs 0 2) ho (numAt zs 3 2) w h h5 (by omega) rfl hho rfl b1.2 b2.2 (by omega)
  by_cases g2 : numAt zs 3 2 = 0
  · rw [mhO_id h5 g1 g2]
    exact from_id b off c zs (numAt zs 0 2) ho (numAt zs 3 2) w h h5 (by omega) rfl hho rfl b1.2 b2.2 (by omega) (by omega)
  by_cases g3 : Hl (zs.getD 2 0)
  · rw [mhO_ok h5 g1 g2 g3, getD_at hho]
    rw [getD_at hho] at g3
    exact from_ok b off c zs (numAt zs 0 2) ho (numAt zs 3 2) w h h5 (by omega) rfl hho rfl b1.2 b2.2 (by omega) (by omega) g3
  · rw [mhO_hold h5 g1 g2 g3]
    rw [getD_at hho] at g3
    exact from_hold b off c zs (numAt zs 0 2) ho (numAt zs 3 2) w h h5 (by omega) rfl hho rfl b1.2 b2.2 (by omega) (by omega) g3

set_option maxHeartbeats 1600000 in
theorem keepFrom_any (a : Option Addr) (n c : Nat) (zs : List Int) (w : World) (hn : zs.length = n) (hm : n ≤ 1048576) :
    Calls Try.prog 36 #[.slice a n c] w fun e w' => e = .returned (mrV (mhK zs) (puZ 0) (.slice none 0 0) (.slice none 0 0) (.slice none 0 0)) ∧ New w w' := by
  have hw := (New.refl w).alloc (.cells #[.int .i64 0, .int .i64 0, .int .i64 0, .int .i64 0, .int .i64 0, .int .i64 0, .int .i64 0, .int .i64 0, .int .i64 0, .slice none 0 0, .bool false, .int .i64 0, .slice none 0 0, .int .i64 0, .int .i64 0, .int .i64 0, .slice none 0 0] 53)
  have bR := Blk.mk w w.heap.size 53 #[.int .i64 0, .int .i64 0, .int .i64 0, .int .i64 0, .int .i64 0, .int .i64 0, .int .i64 0, .int .i64 0, .int .i64 0, .slice none 0 0, .bool false, .int .i64 0, .slice none 0 0, .int .i64 0, .int .i64 0, .int .i64 0, .slice none 0 0] rfl
  have ge0 : w.heap.size ≤ w.heap.size := Nat.le_refl _
  by_cases h0 : n = 0
  · subst h0
    have HM : Hid (mhK zs = ⟨0, 0, 0, 4, 0, 0, 0, 0, 0⟩) := if_neg (by simp [hn])
    clear hn
    go_enter Try.func36, Try.ntmps36
    go_upto_region 1 with fail
    generalize w.alloc (.cells #[.int .i64 0, .int .i64 0, .int .i64 0, .int .i64 0, .int .i64 0, .int .i64 0, .int .i64 0, .int .i64 0, .int .i64 0, .slice none 0 0, .bool false, .int .i64 0, .slice none 0 0, .int .i64 0, .int .i64 0, .int .i64 0, .slice none 0 0] 53) = w0 at *
    have cR := bR.cells
    have fR := bR.frees
    go_upto_region 3 with fail
    apply wp_region_lit
    refine wpList_build rfl 51 _ rfl (by kernel_rfl) ?_
    refine wpList_build rfl 53 _ rfl (by kernel_rfl) ?_
    refine wpList_store_row rfl 53 (.tmp 2) (.tmp 8) rfl w.heap.size #[.int .i64 0, .int .i64 0, .int .i64 0, .int .i64 4, .int .i64 0, .int .i64 0, .int .i64 0, .int .i64 0, .int .i64 0, .slice none 0 0, .bool false, .int .i64 0, .slice none 0 0, .int .i64 0, .int .i64 0, .int .i64 0, .slice none 0 0] rfl (by kernel_rfl) 53 #[.int .i64 0, .int .i64 0, .int .i64 0, .int .i64 0, .int .i64 0, .int .i64 0, .int .i64 0, .int .i64 0, .int .i64 0, .slice none 0 0, .bool false, .int .i64 0, .slice none 0 0, .int .i64 0, .int .i64 0, .int .i64 0, .slice none 0 0] bR (by kernel_rfl) rfl (by kernel_rfl) ?_
    go_wp2
    refine bodyPost_ret (v := .agg #[.int .i64 0, .int .i64 0, .int .i64 0, .int .i64 4, .int .i64 0, .int .i64 0, .int .i64 0, .int .i64 0, .int .i64 0, .slice none 0 0, .bool false, .int .i64 0, .slice none 0 0, .int .i64 0, .int .i64 0, .int .i64 0, .slice none 0 0]) ?_ rfl ⟨by rw [HM.out]; rfl, hw.row (Nat.le_refl _) _⟩
    exact results_row (B := w.heap.size) (cs := #[.int .i64 0, .int .i64 0, .int .i64 0, .int .i64 4, .int .i64 0, .int .i64 0, .int .i64 0, .int .i64 0, .int .i64 0, .slice none 0 0, .bool false, .int .i64 0, .slice none 0 0, .int .i64 0, .int .i64 0, .int .i64 0, .slice none 0 0]) rfl rfl (bR.row _) ⟨_, Try.underlying53⟩ (by kernel_rfl)
  · have HM : Hid (mhK zs = mhB 5 1 2) := if_pos (by omega)
    have e1 : ((n : Int) != 0) = true := by simp; omega
    clear hn
    go_enter Try.func36, Try.ntmps36
    go_upto_region 1 with fail
    generalize w.alloc (.cells #[.int .i64 0, .int .i64 0, .int .i64 0, .int .i64 0, .int .i64 0, .int .i64 0, .int .i64 0, .int .i64 0, .int .i64 0, .slice none 0 0, .bool false, .int .i64 0, .slice none 0 0, .int .i64 0, .int .i64 0, .int .i64 0, .slice none 0 0] 53) = w0 at *
    have cR := bR.cells
    have fR := bR.frees
    go_upto_region 2 with fail
    apply wp_region_lit
    refine wpList_build rfl 53 _ rfl (by kernel_rfl) ?_
    refine wpList_store_row rfl 53 (.tmp 2) (.tmp 6) rfl w.heap.size #[.int .i64 5, .int .i64 1, .int .i64 2, .int .i64 0, .int .i64 0, .int .i64 0, .int .i64 0, .int .i64 0, .int .i64 0, .slice none 0 0, .bool false, .int .i64 0, .slice none 0 0, .int .i64 0, .int .i64 0, .int .i64 0, .slice none 0 0] rfl (by kernel_rfl) 53 #[.int .i64 0, .int .i64 0, .int .i64 0, .int .i64 0, .int .i64 0, .int .i64 0, .int .i64 0, .int .i64 0, .int .i64 0, .slice none 0 0, .bool false, .int .i64 0, .slice none 0 0, .int .i64 0, .int .i64 0, .int .i64 0, .slice none 0 0] bR (by kernel_rfl) rfl (by kernel_rfl) ?_
    go_wp2
    refine bodyPost_ret (v := .agg #[.int .i64 5, .int .i64 1, .int .i64 2, .int .i64 0, .int .i64 0, .int .i64 0, .int .i64 0, .int .i64 0, .int .i64 0, .slice none 0 0, .bool false, .int .i64 0, .slice none 0 0, .int .i64 0, .int .i64 0, .int .i64 0, .slice none 0 0]) ?_ rfl ⟨by rw [HM.out]; rfl, hw.row (Nat.le_refl _) _⟩
    exact results_row (B := w.heap.size) (cs := #[.int .i64 5, .int .i64 1, .int .i64 2, .int .i64 0, .int .i64 0, .int .i64 0, .int .i64 0, .int .i64 0, .int .i64 0, .slice none 0 0, .bool false, .int .i64 0, .slice none 0 0, .int .i64 0, .int .i64 0, .int .i64 0, .slice none 0 0]) rfl rfl (bR.row _) ⟨_, Try.underlying53⟩ (by kernel_rfl)

end Go.Proofs.Ytljkcijakdhdiaa
