/- What is proved here: the text that bytes turn to, and that two lists of bytes have one text only where they are the same. What is proved here: what the comparing of bytes and of entries answers, both sides What is proved here: what the comparing of logs answers, both sides What is proved here: that what is sealed is right, as lists; what the program's sealedRight answers What is proved here: what the model's l15Sealed answers What is proved here: what SealedRight answers, both sides -/
import Derived.Test.YtkbdmcimgepakaaGreatBytes
import Derived.Test.YtkbdmcimgepakaaGreatUtil
import Derived.Laws.IdiomStrings
import Derived.Test.YtkbdmcimgepakaaGreatPS2
import Derived.Deep.RegionHeld3
import Derived.Test.YtkbdmcimgepakaaGreatPS3
import Derived.Test.YtkbdmcimgepakaaGreatPS4
namespace Go.Proofs.YtkbdmcimgepakaaGreat
open Go.RowKit
set_option linter.unusedVariables false

/-- The text of bytes. -/
def str9 (zs : List Int) : ByteArray := zs.foldl (fun r n => r.push (UInt8.ofNat n.toNat)) ByteArray.empty

theorem str9_fold : ∀ (zs : List Int) (r : ByteArray), (zs.foldl (fun r n => r.push (UInt8.ofNat n.toNat)) r).data.toList = r.data.toList ++ zs.map (fun n => UInt8.ofNat n.toNat)
  | [], r => by simp
  | z :: zs, r => by
    rw [List.foldl_cons, str9_fold zs]
    simp [ByteArray.push]
theorem str9_data (zs : List Int) : (str9 zs).data.toList = zs.map (fun n => UInt8.ofNat n.toNat) := by
  unfold str9
  rw [str9_fold]
  rfl

theorem str_eq_self (a : ByteArray) : (a == a) = true := by
  show (a.data == a.data) = true
  simp
theorem str_ne_self (a : ByteArray) : (a != a) = false := by
  show (!(a.data == a.data)) = false
  simp
theorem str_eq_of {a b : ByteArray} (h : ¬ a = b) : (a == b) = false := by
  show (a.data == b.data) = false
  simp
  intro e
  apply h
  cases a; cases b; simp_all
theorem str_ne_of {a b : ByteArray} (h : ¬ a = b) : (a != b) = true := by
  show (!(a.data == b.data)) = true
  simp
  intro e
  apply h
  cases a; cases b; simp_all

theorem str_list_of {a b : ByteArray} (h : ¬ a = b) : (a.toList == b.toList) = false := by
  rw [ByteArray.toList_eq, ByteArray.toList_eq]
  simp
  intro e
  apply h
  cases a; cases b; simp_all

theorem u8_inj {x y : Int} (hx : 0 ≤ x ∧ x ≤ 255) (hy : 0 ≤ y ∧ y ≤ 255) (h : UInt8.ofNat x.toNat = UInt8.ofNat y.toNat) : x = y := by
  have h' := congrArg UInt8.toNat h
  simp only [UInt8.toNat_ofNat'] at h'
  omega
theorem map_u8_inj : ∀ (xs ys : List Int), (∀ z ∈ xs, 0 ≤ z ∧ z ≤ 255) → (∀ z ∈ ys, 0 ≤ z ∧ z ≤ 255) → xs.map (fun n => UInt8.ofNat n.toNat) = ys.map (fun n => UInt8.ofNat n.toNat) → xs = ys
  | [], [], _, _, _ => rfl
  | [], y :: ys, _, _, h => by simp at h
  | x :: xs, [], _, _, h => by simp at h
  | x :: xs, y :: ys, hx, hy, h => by
    simp only [List.map_cons, List.cons.injEq] at h
    rw [u8_inj (hx x (by simp)) (hy y (by simp)) h.1, map_u8_inj xs ys (fun z hz => hx z (by simp [hz])) (fun z hz => hy z (by simp [hz])) h.2]
theorem str9_inj {xs ys : List Int} (hx : ∀ z ∈ xs, 0 ≤ z ∧ z ≤ 255) (hy : ∀ z ∈ ys, 0 ≤ z ∧ z ≤ 255) (h : str9 xs = str9 ys) : xs = ys := by
  have h' := congrArg (fun b : ByteArray => b.data.toList) h
  simp only [str9_data] at h'
  exact map_u8_inj xs ys hx hy h'

theorem run_str9 (a : Option Addr) (n c : Nat) (zs : List Int) (w : World) (h : BsAt w a zs) (hn : zs.length = n) (hnone : a = none → n = 0 ∧ c = 0) :
    (convert 78 9 (.slice a n c)).run Tryz.prog w = .ok (.string (str9 zs)) w := by
  rw [run_convert_bytes_string w _ _ 5 a n c Tryz.underlying78 Tryz.underlying5 Tryz.underlying9]
  cases a with
  | none =>
    obtain ⟨rfl, rfl⟩ := hnone rfl
    obtain rfl := List.eq_nil_of_length_eq_zero hn
    simp [Conv.bytesToString, str9]
  | some x =>
    refine run_bytesToString w x n c zs ?_
    have hl := run_loadCells_list (P := Tryz.prog) (w := w) x (zs.map (Value.int .u8)) (by
      intro j v hv
      rw [List.getElem?_map] at hv
      obtain ⟨z, hz, rfl⟩ := Option.map_eq_some_iff.1 hv
      obtain ⟨b, off, e, hc, _⟩ := h j z hz
      obtain rfl := Option.some.inj e
      rw [Addr.add_lit]
      exact hc)
    rw [List.length_map, hn] at hl
    exact hl

end Go.Proofs.YtkbdmcimgepakaaGreat

namespace Go.Proofs.YtkbdmcimgepakaaGreat
open Go.ChangeShapes Go.WideShapes Go.ChangeAt Go.RowKit
set_option linter.unusedVariables false
set_option linter.unusedSimpArgs false

set_option maxRecDepth 100000

theorem run_str9c (a : Option Addr) (n c : Nat) (zs : List Int) (w : World) (h : BsAt w a zs) (hn : zs.length = n) : (convert 78 9 (.slice a n c)).run Tryz.prog w = .ok (.string (str9 zs)) w := by
  cases a with
  | none =>
    rw [run_convert_bytes_string w _ _ 5 none n c Tryz.underlying78 Tryz.underlying5 Tryz.underlying9]
    have hz : zs = [] := by
      cases zs with
      | nil => rfl
      | cons z t =>
        obtain ⟨b, off, e, -⟩ := h 0 z rfl
        cases e
    subst hz
    simp [Conv.bytesToString, str9]
  | some x => exact run_str9 (some x) n c zs w h hn (by intro e; cases e)

set_option maxHeartbeats 800000 in
theorem bEq_any (x y : Option Addr) (m d q f : Nat) (xs ys : List Int) (w : World) (hx : BsAt w x xs) (hy : BsAt w y ys) (lx : xs.length = m) (ly : ys.length = q) :
    Calls Tryz.prog 108 #[.slice x m d, .slice y q f] w fun e w' => e = .returned (.bool (decide (xs = ys))) ∧ w' = w := by
  have r1 := run_str9c x m d xs w hx lx
  have r2 := run_str9c y q f ys w hy ly
  by_cases h : xs = ys
  · have HR : Hid (true = decide (xs = ys)) := by unfold Hid; simp [h]
    have e9 : str9 xs = str9 ys := by rw [h]
    rw [← e9] at r2
    have s1 := str_eq_self (str9 xs)
    clear h e9 lx ly hx hy
    generalize str9 xs = S9 at *
    go_enter Tryz.func108, Tryz.ntmps108
    go_wp2
    go_ret
    exact ⟨ret_bool HR.out, rfl⟩
  · have HR : Hid (false = decide (xs = ys)) := by unfold Hid; simp [h]
    have e9 : ¬ str9 xs = str9 ys := fun e => h (str9_inj hx.lt hy.lt e)
    have s1 := str_eq_of e9
    have s2 := str_list_of e9
    clear h lx ly hx hy
    generalize str9 xs = S9 at *
    generalize str9 ys = S8 at *
    have HE : Hid (¬ S9 = S8) := e9
    clear e9
    go_enter Tryz.func108, Tryz.ntmps108
    go_wp2
    go_ret
    exact ⟨ret_bool HR.out, rfl⟩

/-- Two entries are the same. -/
def sE (a b : Ek) : Bool := decide (a.ep = b.ep) && (decide (a.ki = b.ki) && (decide (a.pe = b.pe) && decide (a.xs = b.xs)))

set_option maxHeartbeats 1600000 in
theorem seI (e1 k1 p1 : Int) (x : Option Addr) (m d : Nat) (xs : List Int) (e2 k2 p2 : Int) (y : Option Addr) (q f : Nat) (ys : List Int) (w : World) (hx : BsAt w x xs) (hy : BsAt w y ys) (lx : xs.length = m) (ly : ys.length = q) :
    Calls Tryz.prog 74 #[.agg #[.int .i64 e1, .int .i64 k1, .int .i64 p1, .slice x m d], .agg #[.int .i64 e2, .int .i64 k2, .int .i64 p2, .slice y q f]] w fun e w' => e = .returned (.bool (sE ⟨e1, k1, p1, xs⟩ ⟨e2, k2, p2, ys⟩)) ∧ New w w' := by
  have hw := ((New.refl w).alloc (.cells #[.int .i64 e1, .int .i64 k1, .int .i64 p1, .slice x m d] 95)).alloc (.cells #[.int .i64 e2, .int .i64 k2, .int .i64 p2, .slice y q f] 95)
  have b0 := (Blk.mk w w.heap.size 95 #[.int .i64 e1, .int .i64 k1, .int .i64 p1, .slice x m d] rfl).alloc (.cells #[.int .i64 e2, .int .i64 k2, .int .i64 p2, .slice y q f] 95)
  have b1 := Blk.mk (w.alloc (.cells #[.int .i64 e1, .int .i64 k1, .int .i64 p1, .slice x m d] 95)) (w.heap.size + 1) 95 #[.int .i64 e2, .int .i64 k2, .int .i64 p2, .slice y q f] (by simp)
  have hx1 := hx.new hw
  have hy1 := hy.new hw
  have H : Hid (sE ⟨e1, k1, p1, xs⟩ ⟨e2, k2, p2, ys⟩ = (decide (e1 = e2) && (decide (k1 = k2) && (decide (p1 = p2) && decide (xs = ys))))) := rfl
  clear hx hy
  by_cases h1 : e1 = e2
  case neg =>
    have HR : Hid (false = sE ⟨e1, k1, p1, xs⟩ ⟨e2, k2, p2, ys⟩) := by unfold Hid; rw [H.out]; simp [h1]
    have gn : (e1 == e2) = false := by simp [h1]
    clear H h1
    go_enter Tryz.func74, Tryz.ntmps74
    go_upto_region 1 with fail
    generalize (w.alloc (.cells #[.int .i64 e1, .int .i64 k1, .int .i64 p1, .slice x m d] 95)).alloc (.cells #[.int .i64 e2, .int .i64 k2, .int .i64 p2, .slice y q f] 95) = w0 at *
    have c0 := b0.cells
    have c1 := b1.cells
    go_wp2
    go_ret
    exact ⟨ret_bool HR.out, hw⟩
  have g1 : (e1 == e2) = true := by simp [h1]
  have H1 : Hid (e1 = e2) := h1
  clear h1
  by_cases h2 : k1 = k2
  case neg =>
    have HR : Hid (false = sE ⟨e1, k1, p1, xs⟩ ⟨e2, k2, p2, ys⟩) := by unfold Hid; rw [H.out]; simp [h2]
    have gn : (k1 == k2) = false := by simp [h2]
    clear H h2
    go_enter Tryz.func74, Tryz.ntmps74
    go_upto_region 1 with fail
    generalize (w.alloc (.cells #[.int .i64 e1, .int .i64 k1, .int .i64 p1, .slice x m d] 95)).alloc (.cells #[.int .i64 e2, .int .i64 k2, .int .i64 p2, .slice y q f] 95) = w0 at *
    have c0 := b0.cells
    have c1 := b1.cells
    go_wp2
    go_ret
    exact ⟨ret_bool HR.out, hw⟩
  have g2 : (k1 == k2) = true := by simp [h2]
  have H2 : Hid (k1 = k2) := h2
  clear h2
  by_cases h3 : p1 = p2
  case neg =>
    have HR : Hid (false = sE ⟨e1, k1, p1, xs⟩ ⟨e2, k2, p2, ys⟩) := by unfold Hid; rw [H.out]; simp [h3]
    have gn : (p1 == p2) = false := by simp [h3]
    clear H h3
    go_enter Tryz.func74, Tryz.ntmps74
    go_upto_region 1 with fail
    generalize (w.alloc (.cells #[.int .i64 e1, .int .i64 k1, .int .i64 p1, .slice x m d] 95)).alloc (.cells #[.int .i64 e2, .int .i64 k2, .int .i64 p2, .slice y q f] 95) = w0 at *
    have c0 := b0.cells
    have c1 := b1.cells
    go_wp2
    go_ret
    exact ⟨ret_bool HR.out, hw⟩
  have g3 : (p1 == p2) = true := by simp [h3]
  have H3 : Hid (p1 = p2) := h3
  clear h3
  have HR : Hid (decide (xs = ys) = sE ⟨e1, k1, p1, xs⟩ ⟨e2, k2, p2, ys⟩) := by unfold Hid; rw [H.out]; simp [H1.out, H2.out, H3.out]
  clear H
  go_enter Tryz.func74, Tryz.ntmps74
  go_upto_region 1 with fail
  generalize (w.alloc (.cells #[.int .i64 e1, .int .i64 k1, .int .i64 p1, .slice x m d] 95)).alloc (.cells #[.int .i64 e2, .int .i64 k2, .int .i64 p2, .slice y q f] 95) = w0 at *
  have c0 := b0.cells
  have c1 := b1.cells
  go_wp2_with fail
  refine (bEq_any x y m d q f xs ys _ hx1 hy1 lx ly).mono ?_
  rintro e wz ⟨rfl, hwz⟩
  obtain rfl := hwz.symm
  generalize decide (xs = ys) = b at *
  go_wp2
  go_ret
  exact ⟨ret_bool HR.out, hw⟩

set_option maxHeartbeats 1600000 in
theorem seS (e1 k1 p1 : Int) (x : Option Addr) (m d : Nat) (xs : List Int) (e2 k2 p2 : Int) (y : Option Addr) (q f : Nat) (ys : List Int) (w : World) (hx : BsAt w x xs) (hy : BsAt w y ys) (lx : xs.length = m) (ly : ys.length = q) :
    Calls Tryz.prog 92 #[.agg #[.int .i64 e1, .int .i64 k1, .int .i64 p1, .slice x m d], .agg #[.int .i64 e2, .int .i64 k2, .int .i64 p2, .slice y q f]] w fun e w' => e = .returned (.bool (sE ⟨e1, k1, p1, xs⟩ ⟨e2, k2, p2, ys⟩)) ∧ New w w' := by
  have hw := ((New.refl w).alloc (.cells #[.int .i64 e1, .int .i64 k1, .int .i64 p1, .slice x m d] 95)).alloc (.cells #[.int .i64 e2, .int .i64 k2, .int .i64 p2, .slice y q f] 95)
  have b0 := (Blk.mk w w.heap.size 95 #[.int .i64 e1, .int .i64 k1, .int .i64 p1, .slice x m d] rfl).alloc (.cells #[.int .i64 e2, .int .i64 k2, .int .i64 p2, .slice y q f] 95)
  have b1 := Blk.mk (w.alloc (.cells #[.int .i64 e1, .int .i64 k1, .int .i64 p1, .slice x m d] 95)) (w.heap.size + 1) 95 #[.int .i64 e2, .int .i64 k2, .int .i64 p2, .slice y q f] (by simp)
  have hx1 := hx.new hw
  have hy1 := hy.new hw
  have H : Hid (sE ⟨e1, k1, p1, xs⟩ ⟨e2, k2, p2, ys⟩ = (decide (e1 = e2) && (decide (k1 = k2) && (decide (p1 = p2) && decide (xs = ys))))) := rfl
  clear hx hy
  by_cases h1 : e1 = e2
  case neg =>
    have HR : Hid (false = sE ⟨e1, k1, p1, xs⟩ ⟨e2, k2, p2, ys⟩) := by unfold Hid; rw [H.out]; simp [h1]
    have gn : (e1 == e2) = false := by simp [h1]
    clear H h1
    go_enter Tryz.func92, Tryz.ntmps92
    go_upto_region 1 with fail
    generalize (w.alloc (.cells #[.int .i64 e1, .int .i64 k1, .int .i64 p1, .slice x m d] 95)).alloc (.cells #[.int .i64 e2, .int .i64 k2, .int .i64 p2, .slice y q f] 95) = w0 at *
    have c0 := b0.cells
    have c1 := b1.cells
    go_wp2
    go_ret
    exact ⟨ret_bool HR.out, hw⟩
  have g1 : (e1 == e2) = true := by simp [h1]
  have H1 : Hid (e1 = e2) := h1
  clear h1
  by_cases h2 : k1 = k2
  case neg =>
    have HR : Hid (false = sE ⟨e1, k1, p1, xs⟩ ⟨e2, k2, p2, ys⟩) := by unfold Hid; rw [H.out]; simp [h2]
    have gn : (k1 == k2) = false := by simp [h2]
    clear H h2
    go_enter Tryz.func92, Tryz.ntmps92
    go_upto_region 1 with fail
    generalize (w.alloc (.cells #[.int .i64 e1, .int .i64 k1, .int .i64 p1, .slice x m d] 95)).alloc (.cells #[.int .i64 e2, .int .i64 k2, .int .i64 p2, .slice y q f] 95) = w0 at *
    have c0 := b0.cells
    have c1 := b1.cells
    go_wp2
    go_ret
    exact ⟨ret_bool HR.out, hw⟩
  have g2 : (k1 == k2) = true := by simp [h2]
  have H2 : Hid (k1 = k2) := h2
  clear h2
  by_cases h3 : p1 = p2
  case neg =>
    have HR : Hid (false = sE ⟨e1, k1, p1, xs⟩ ⟨e2, k2, p2, ys⟩) := by unfold Hid; rw [H.out]; simp [h3]
    have gn : (p1 == p2) = false := by simp [h3]
    clear H h3
    go_enter Tryz.func92, Tryz.ntmps92
    go_upto_region 1 with fail
    generalize (w.alloc (.cells #[.int .i64 e1, .int .i64 k1, .int .i64 p1, .slice x m d] 95)).alloc (.cells #[.int .i64 e2, .int .i64 k2, .int .i64 p2, .slice y q f] 95) = w0 at *
    have c0 := b0.cells
    have c1 := b1.cells
    go_wp2
    go_ret
    exact ⟨ret_bool HR.out, hw⟩
  have g3 : (p1 == p2) = true := by simp [h3]
  have H3 : Hid (p1 = p2) := h3
  clear h3
  have HR : Hid (decide (xs = ys) = sE ⟨e1, k1, p1, xs⟩ ⟨e2, k2, p2, ys⟩) := by unfold Hid; rw [H.out]; simp [H1.out, H2.out, H3.out]
  clear H
  go_enter Tryz.func92, Tryz.ntmps92
  go_upto_region 1 with fail
  generalize (w.alloc (.cells #[.int .i64 e1, .int .i64 k1, .int .i64 p1, .slice x m d] 95)).alloc (.cells #[.int .i64 e2, .int .i64 k2, .int .i64 p2, .slice y q f] 95) = w0 at *
  have c0 := b0.cells
  have c1 := b1.cells
  have r1 := run_str9c x m d xs w0 hx1 lx
  have r2 := run_str9c y q f ys w0 hy1 ly
  by_cases h : xs = ys
  · have e9 : str9 xs = str9 ys := by rw [h]
    rw [← e9] at r2
    have s1 := str_eq_self (str9 xs)
    have HR2 : Hid (true = decide (xs = ys)) := by unfold Hid; simp [h]
    rw [← HR2.out] at HR
    clear h e9 lx ly hx1 hy1 HR2
    generalize str9 xs = S9 at *
    go_wp2
    go_ret
    exact ⟨ret_bool HR.out, hw⟩
  · have e9 : ¬ str9 xs = str9 ys := fun e => h (str9_inj hx1.lt hy1.lt e)
    have s1 := str_eq_of e9
    have s2 := str_list_of e9
    have HR2 : Hid (false = decide (xs = ys)) := by unfold Hid; simp [h]
    rw [← HR2.out] at HR
    clear h lx ly hx1 hy1 HR2
    generalize str9 xs = S9 at *
    generalize str9 ys = S8 at *
    have HE : Hid (¬ S9 = S8) := e9
    clear e9
    go_wp2
    go_ret
    exact ⟨ret_bool HR.out, hw⟩

end Go.Proofs.YtkbdmcimgepakaaGreat

namespace Go.Proofs.YtkbdmcimgepakaaGreat
open Go.ChangeShapes Go.WideShapes Go.ChangeAt Go.RowKit
set_option linter.unusedVariables false
set_option linter.unusedSimpArgs false

set_option maxRecDepth 100000

/-- Two lists of entries are the same. -/
def sL : List Ek → List Ek → Bool
  | [], [] => true
  | a :: A, b :: B => sE a b && sL A B
  | _, _ => false
theorem sL_len {A B : List Ek} (h : ¬ A.length = B.length) : sL A B = false := by
  induction A generalizing B with
  | nil => cases B with
    | nil => simp at h
    | cons b B => rfl
  | cons a A ih => cases B with
    | nil => rfl
    | cons b B => simp [sL, ih (B := B) (by simpa using h)]
theorem sL_at {A B : List Ek} {k : Nat} {a b : Ek} (ha : A[k]? = some a) (hb : B[k]? = some b) : sL (A.drop k) (B.drop k) = (sE a b && sL (A.drop (k + 1)) (B.drop (k + 1))) := by
  obtain ⟨h1, e1⟩ := List.getElem?_eq_some_iff.1 ha
  obtain ⟨h2, e2⟩ := List.getElem?_eq_some_iff.1 hb
  rw [List.drop_eq_getElem_cons h1, List.drop_eq_getElem_cons h2, sL, e1, e2]
/-- How many entries two lists have in common. -/
def cF : List Ek → List Ek → Nat
  | a :: A, b :: B => if sE a b then cF A B + 1 else 0
  | _, _ => 0
theorem cF_at {A B : List Ek} {k : Nat} {a b : Ek} (ha : A[k]? = some a) (hb : B[k]? = some b) : cF (A.drop k) (B.drop k) = if sE a b then cF (A.drop (k + 1)) (B.drop (k + 1)) + 1 else 0 := by
  obtain ⟨h1, e1⟩ := List.getElem?_eq_some_iff.1 ha
  obtain ⟨h2, e2⟩ := List.getElem?_eq_some_iff.1 hb
  rw [List.drop_eq_getElem_cons h1, List.drop_eq_getElem_cons h2, cF, e1, e2]
theorem cF_end {A B : List Ek} {k : Nat} (h : A.length ≤ k ∨ B.length ≤ k) : cF (A.drop k) (B.drop k) = 0 := by
  rcases h with h | h
  · rw [List.drop_eq_nil_of_le h]; rfl
  · rw [List.drop_eq_nil_of_le h]; cases A.drop k <;> rfl

set_option maxHeartbeats 3200000 in
theorem eqL_any (A A2 : Option Addr) (n c n2 c2 : Nat) (V V2 : List EkV) (w : World) (h : LgAt w A V) (h2 : LgAt w A2 V2) (hn : V.length = n) (hn2 : V2.length = n2) (hm : n ≤ 2097152) (hm2 : n2 ≤ 2097152) :
    Calls Tryz.prog 104 #[.slice A n c, .slice A2 n2 c2, .func (.func 74) #[] #[]] w fun e w' => e = .returned (.bool (sL (V.map EkV.r) (V2.map EkV.r))) ∧ New w w' := by
  have HN : Hid (V.length = n) := hn
  have HN2 : Hid (V2.length = n2) := hn2
  obtain ⟨v, hv⟩ : ∃ v, sL (V.map EkV.r) (V2.map EkV.r) = v := ⟨_, rfl⟩
  rw [hv]
  have HF : Hid (sL ((V.map EkV.r).drop 0) ((V2.map EkV.r).drop 0) = v) := hv
  clear hv hn hn2
  by_cases hl : n = n2
  case neg =>
    have HR : Hid (false = v) := by unfold Hid; rw [← HF.out]; exact (sL_len (by simp [HN.out, HN2.out]; exact hl)).symm
    have g : ((n : Int) != (n2 : Int)) = true := by simp; omega
    clear hl HF
    go_enter Tryz.func104, Tryz.ntmps104
    go_wp2
    go_ret
    exact ⟨ret_bool HR.out, New.refl _⟩
  subst hl
  have g : ((n : Int) != (n : Int)) = false := by simp
  go_enter Tryz.func104, Tryz.ntmps104
  go_wp2
  go_loopw [17] (fun i wr => ∃ (k : Nat), k ≤ n ∧ i = .int .i64 k ∧ New w wr ∧ Hid (sL ((V.map EkV.r).drop k) ((V2.map EkV.r).drop k) = v)) (fun i _ => n - (intOf i).toNat)
  case atStart => exact ⟨0, Nat.zero_le _, rfl, New.refl _, HF⟩
  case round =>
    obtain ⟨k, hk, rfl, hnw, hL⟩ := hrel
    by_cases hlt : k < n
    · obtain ⟨g1, e1, k1, p1, x, m, d, xs, hg1, hv1, hl1, hx1, hmx1, a0, a1, a2, a3⟩ := (h.new hnw).at k (by have := HN.out; omega)
      obtain ⟨g2, e2, k2, p2, y, q, f, ys, hg2, hv2, hl2, hx2, hmx2, b0, b1, b2, b3⟩ := (h2.new hnw).at k (by have := HN2.out; omega)
      subst hg1 hg2
      have HD : Hid ((sE ⟨e1, k1, p1, xs⟩ ⟨e2, k2, p2, ys⟩ && sL ((V.map EkV.r).drop (k + 1)) ((V2.map EkV.r).drop (k + 1))) = v) := by
        unfold Hid
        have h3 := sL_at (A := V.map EkV.r) (B := V2.map EkV.r) (k := k) (a := ⟨e1, k1, p1, xs⟩) (b := ⟨e2, k2, p2, ys⟩) (by rw [List.getElem?_map, hv1]; rfl) (by rw [List.getElem?_map, hv2]; rfl)
        have h4 := hL.out
        rw [h3] at h4
        exact h4
      have al := ((New.refl wr).alloc (.cells #[.int .i64 e1, .int .i64 k1, .int .i64 p1, .slice x m d] 95)).alloc (.cells #[.int .i64 e2, .int .i64 k2, .int .i64 p2, .slice y q f] 95)
      have bx := (Blk.mk wr wr.heap.size 95 #[.int .i64 e1, .int .i64 k1, .int .i64 p1, .slice x m d] rfl).alloc (.cells #[.int .i64 e2, .int .i64 k2, .int .i64 p2, .slice y q f] 95)
      have by2 := Blk.mk (wr.alloc (.cells #[.int .i64 e1, .int .i64 k1, .int .i64 p1, .slice x m d] 95)) (wr.heap.size + 1) 95 #[.int .i64 e2, .int .i64 k2, .int .i64 p2, .slice y q f] (by simp)
      have hx1' := hx1.new al
      have hx2' := hx2.new al
      have HL1 : Hid (xs.length = m) := hl1
      have HL2 : Hid (ys.length = q) := hl2
      have al1 := (New.refl wr).alloc (.cells #[.int .i64 e1, .int .i64 k1, .int .i64 p1, .slice x m d] 95)
      have b0' := al1.cell b0
      have b1' := al1.cell b1
      have b2' := al1.cell b2
      have b3' := al1.cell b3
      clear hv1 hv2 hl1 hl2 hL
      go_upto_region 7 with fail
      generalize (wr.alloc (.cells #[.int .i64 e1, .int .i64 k1, .int .i64 p1, .slice x m d] 95)).alloc (.cells #[.int .i64 e2, .int .i64 k2, .int .i64 p2, .slice y q f] 95) = wa at *
      have cx := bx.cells
      have cy := by2.cells
      clear a0 a1 a2 a3 b0 b1 b2 b3 b0' b1' b2' b3'
      go_wp2_with fail
      refine (seI e1 k1 p1 x m d xs e2 k2 p2 y q f ys _ hx1' hx2' HL1.out HL2.out).mono ?_
      rintro e wb ⟨rfl, hnb⟩
      have hw2 := (hnw.trans al).trans hnb
      generalize sE ⟨e1, k1, p1, xs⟩ ⟨e2, k2, p2, ys⟩ = b at *
      cases b with
      | true =>
        have HR : Hid (sL ((V.map EkV.r).drop (k + 1)) ((V2.map EkV.r).drop (k + 1)) = v) := by unfold Hid; have := HD.out; simpa using this
        clear HD
        go_wp2
        go_roundw
        case rel => exact ⟨k + 1, by omega, by go_num, hw2, HR⟩
        case measure => simp [intOf]; omega
      | false =>
        have HR : Hid (false = v) := by unfold Hid; have := HD.out; simpa using this
        clear HD
        go_wp2
        go_ret
        exact ⟨ret_bool HR.out, hw2⟩
    · have HR : Hid (true = v) := by
        unfold Hid
        have h3 := hL.out
        rw [List.drop_eq_nil_of_le (by have := HN.out; simp; omega), List.drop_eq_nil_of_le (by have := HN2.out; simp; omega)] at h3
        exact h3
      clear hL
      go_wp2
      go_ret
      exact ⟨ret_bool HR.out, hnw⟩

theorem sameL_any (A A2 : Option Addr) (n c n2 c2 : Nat) (V V2 : List EkV) (w : World) (h : LgAt w A V) (h2 : LgAt w A2 V2) (hn : V.length = n) (hn2 : V2.length = n2) (hm : n ≤ 2097152) (hm2 : n2 ≤ 2097152) :
    Calls Tryz.prog 67 #[.slice A n c, .slice A2 n2 c2] w fun e w' => e = .returned (.bool (sL (V.map EkV.r) (V2.map EkV.r))) ∧ New w w' := by
  go_enter Tryz.func67, Tryz.ntmps67
  go_wp2_with fail
  refine (eqL_any A A2 n c n2 c2 V V2 _ h h2 hn hn2 hm hm2).mono ?_
  rintro e w1 ⟨rfl, hn1⟩
  go_wp2
  go_ret
  exact ⟨rfl, hn1⟩

set_option maxHeartbeats 6400000 in
theorem comS (A A2 : Option Addr) (n c n2 c2 : Nat) (V V2 : List EkV) (w : World) (h : LgAt w A V) (h2 : LgAt w A2 V2) (hn : V.length = n) (hn2 : V2.length = n2) (hm : n ≤ 2097152) (hm2 : n2 ≤ 2097152) :
    Calls Tryz.prog 55 #[.slice A n c, .slice A2 n2 c2] w fun e w' => e = .returned (.int .i64 (cF (V.map EkV.r) (V2.map EkV.r) : Nat)) ∧ New w w' := by
  have HN : Hid (V.length = n) := hn
  have HN2 : Hid (V2.length = n2) := hn2
  obtain ⟨v, hv⟩ : ∃ v, cF (V.map EkV.r) (V2.map EkV.r) = v := ⟨_, rfl⟩
  rw [hv]
  have HF : Hid (0 + cF ((V.map EkV.r).drop 0) ((V2.map EkV.r).drop 0) = v) := by unfold Hid; rw [Nat.zero_add]; exact hv
  clear hv hn hn2
  go_enter Tryz.func55, Tryz.ntmps55
  go_wp2
  go_loopw [5] (fun i wr => ∃ (k : Nat), k ≤ n ∧ i = .int .i64 k ∧ New w wr ∧ Hid (k + cF ((V.map EkV.r).drop k) ((V2.map EkV.r).drop k) = v)) (fun i _ => n - (intOf i).toNat)
  case atStart => exact ⟨0, Nat.zero_le _, rfl, New.refl _, HF⟩
  case round =>
    obtain ⟨k, hk, rfl, hnw, hL⟩ := hrel
    by_cases hlt : k < n
    case neg =>
      have HR : Hid (k = v) := by unfold Hid; have := hL.out; rw [cF_end (.inl (by have := HN.out; simp; omega))] at this; omega
      have d1 : decide ((k : Int) < (n : Int)) = false := by simp; omega
      clear hL
      go_upto_region 2 with fail
      refine hw_start (n := 21) (S := fun X => New wr X) rfl (by kernel_rfl) ((New.refl _).drew) (fun hH => ?_)
      refine' hw_take 0 (some 6) _ rfl rfl (by kernel_rfl) (by kernel_rfl) (by kernel_rfl) (fun _ _ _ h => h) (by rfl) hH ?hy1 ?rest1
      case hy1 =>
        intro X hX
        go_simp
        try rfl
      simp only [Act.put, List.setIfInBounds_toArray, List.set_cons_zero, List.set_cons_succ]
      refine' hw_take 1 (some 7) _ rfl rfl (by kernel_rfl) (by kernel_rfl) (by kernel_rfl) (fun _ _ _ h => h) (by rfl) hH ?hy2 ?rest2
      case hy2 =>
        intro X hX
        go_simp
        try rfl
      simp only [Act.put, List.setIfInBounds_toArray, List.set_cons_zero, List.set_cons_succ]
      refine' hw_take 2 (some 8) _ rfl rfl (by kernel_rfl) (by kernel_rfl) (by kernel_rfl) (fun _ _ _ h => h) (by rfl) hH ?hy3 ?rest3
      case hy3 =>
        intro X hX
        go_simp
        try rfl
      simp only [Act.put, List.setIfInBounds_toArray, List.set_cons_zero, List.set_cons_succ]
      refine' hw_take 3 (some 9) (.bool false) rfl rfl (by kernel_rfl) (by kernel_rfl) (by kernel_rfl) (fun _ _ _ h => h) (by rfl) hH ?hyL4 ?restL4
      case hyL4 =>
        intro X hX
        go_simp
        try rfl
      simp only [Act.put, List.setIfInBounds_toArray, List.set_cons_zero, List.set_cons_succ]
      refine' hw_take 4 (some 10) _ rfl rfl (by kernel_rfl) (by kernel_rfl) (by kernel_rfl) (fun _ _ _ h => h) (by rfl) hH ?hy5 ?rest5
      case hy5 =>
        intro X hX
        go_simp
        try rfl
      simp only [Act.put, List.setIfInBounds_toArray, List.set_cons_zero, List.set_cons_succ]
      refine hw_skip 5 (some 11) rfl rfl (by kernel_rfl) (by kernel_rfl) (by kernel_rfl) (fun _ _ _ h => h) (by rfl) hH ?_
      simp only [Act.put, List.setIfInBounds_toArray, List.set_cons_zero, List.set_cons_succ]
      refine hw_skip 6 (some 12) rfl rfl (by kernel_rfl) (by kernel_rfl) (by kernel_rfl) (fun _ _ _ h => h) (by rfl) hH ?_
      simp only [Act.put, List.setIfInBounds_toArray, List.set_cons_zero, List.set_cons_succ]
      refine hw_skip 7 (some 13) rfl rfl (by kernel_rfl) (by kernel_rfl) (by kernel_rfl) (fun _ _ _ h => h) (by rfl) hH ?_
      simp only [Act.put, List.setIfInBounds_toArray, List.set_cons_zero, List.set_cons_succ]
      refine hw_skip 8 (some 14) rfl rfl (by kernel_rfl) (by kernel_rfl) (by kernel_rfl) (fun _ _ _ h => h) (by rfl) hH ?_
      simp only [Act.put, List.setIfInBounds_toArray, List.set_cons_zero, List.set_cons_succ]
      refine' hw_take 9 (some 15) _ rfl rfl (by kernel_rfl) (by kernel_rfl) (by kernel_rfl) (fun _ _ _ h => h) (by rfl) hH ?hy6 ?rest6
      case hy6 =>
        intro X hX
        go_simp
        try rfl
      simp only [Act.put, List.setIfInBounds_toArray, List.set_cons_zero, List.set_cons_succ]
      refine' hw_take 10 (some 16) _ rfl rfl (by kernel_rfl) (by kernel_rfl) (by kernel_rfl) (fun _ _ _ h => h) (by rfl) hH ?hy7 ?rest7
      case hy7 =>
        intro X hX
        go_simp
        try rfl
      simp only [Act.put, List.setIfInBounds_toArray, List.set_cons_zero, List.set_cons_succ]
      refine hw_skip 11 (some 17) rfl rfl (by kernel_rfl) (by kernel_rfl) (by kernel_rfl) (fun _ _ _ h => h) (by rfl) hH ?_
      simp only [Act.put, List.setIfInBounds_toArray, List.set_cons_zero, List.set_cons_succ]
      refine hw_skip 12 (some 18) rfl rfl (by kernel_rfl) (by kernel_rfl) (by kernel_rfl) (fun _ _ _ h => h) (by rfl) hH ?_
      simp only [Act.put, List.setIfInBounds_toArray, List.set_cons_zero, List.set_cons_succ]
      refine hw_skip 13 (some 19) rfl rfl (by kernel_rfl) (by kernel_rfl) (by kernel_rfl) (fun _ _ _ h => h) (by rfl) hH ?_
      simp only [Act.put, List.setIfInBounds_toArray, List.set_cons_zero, List.set_cons_succ]
      refine hw_skip 14 (some 20) rfl rfl (by kernel_rfl) (by kernel_rfl) (by kernel_rfl) (fun _ _ _ h => h) (by rfl) hH ?_
      simp only [Act.put, List.setIfInBounds_toArray, List.set_cons_zero, List.set_cons_succ]
      refine hw_skip 15 (some 21) rfl rfl (by kernel_rfl) (by kernel_rfl) (by kernel_rfl) (fun _ _ _ h => h) (by rfl) hH ?_
      simp only [Act.put, List.setIfInBounds_toArray, List.set_cons_zero, List.set_cons_succ]
      refine hw_skip 16 (some 22) rfl rfl (by kernel_rfl) (by kernel_rfl) (by kernel_rfl) (fun _ _ _ h => h) (by rfl) hH ?_
      simp only [Act.put, List.setIfInBounds_toArray, List.set_cons_zero, List.set_cons_succ]
      refine hw_skip 17 (some 23) rfl rfl (by kernel_rfl) (by kernel_rfl) (by kernel_rfl) (fun _ _ _ h => h) (by rfl) hH ?_
      simp only [Act.put, List.setIfInBounds_toArray, List.set_cons_zero, List.set_cons_succ]
      refine hw_skip 18 (some 24) rfl rfl (by kernel_rfl) (by kernel_rfl) (by kernel_rfl) (fun _ _ _ h => h) (by rfl) hH ?_
      simp only [Act.put, List.setIfInBounds_toArray, List.set_cons_zero, List.set_cons_succ]
      refine hw_skip 19 (some 25) rfl rfl (by kernel_rfl) (by kernel_rfl) (by kernel_rfl) (fun _ _ _ h => h) (by rfl) hH ?_
      simp only [Act.put, List.setIfInBounds_toArray, List.set_cons_zero, List.set_cons_succ]
      refine' hw_take 20 (some 26) _ rfl rfl (by kernel_rfl) (by kernel_rfl) (by kernel_rfl) (fun _ _ _ h => h) (by rfl) hH ?hy8 ?rest8
      case hy8 =>
        intro X hX
        go_simp
        try rfl
      simp only [Act.put, List.setIfInBounds_toArray, List.set_cons_zero, List.set_cons_succ]
      refine wpAnyH_done (by kernel_rfl) ?_ _

      go_wp2
      go_ret
      exact ⟨ret_i64 (by rw [HR.out]), hnw.drew⟩
    have d1 : decide ((k : Int) < (n : Int)) = true := by simp; omega
    by_cases hlt2 : k < n2
    case neg =>
      have HR : Hid (k = v) := by unfold Hid; have := hL.out; rw [cF_end (.inr (by have := HN2.out; simp; omega))] at this; omega
      have d2 : decide ((k : Int) < (n2 : Int)) = false := by simp; omega
      clear hL
      go_upto_region 2 with fail
      refine hw_start (n := 21) (S := fun X => New wr X) rfl (by kernel_rfl) ((New.refl _).drew) (fun hH => ?_)
      refine' hw_take 0 (some 6) _ rfl rfl (by kernel_rfl) (by kernel_rfl) (by kernel_rfl) (fun _ _ _ h => h) (by rfl) hH ?hy9 ?rest9
      case hy9 =>
        intro X hX
        go_simp
        try rfl
      simp only [Act.put, List.setIfInBounds_toArray, List.set_cons_zero, List.set_cons_succ]
      refine' hw_take 1 (some 7) _ rfl rfl (by kernel_rfl) (by kernel_rfl) (by kernel_rfl) (fun _ _ _ h => h) (by rfl) hH ?hy10 ?rest10
      case hy10 =>
        intro X hX
        go_simp
        try rfl
      simp only [Act.put, List.setIfInBounds_toArray, List.set_cons_zero, List.set_cons_succ]
      refine' hw_take 2 (some 8) _ rfl rfl (by kernel_rfl) (by kernel_rfl) (by kernel_rfl) (fun _ _ _ h => h) (by rfl) hH ?hy11 ?rest11
      case hy11 =>
        intro X hX
        go_simp
        try rfl
      simp only [Act.put, List.setIfInBounds_toArray, List.set_cons_zero, List.set_cons_succ]
      refine' hw_take 3 (some 9) (.bool true) rfl rfl (by kernel_rfl) (by kernel_rfl) (by kernel_rfl) (fun _ _ _ h => h) (by rfl) hH ?hyL12 ?restL12
      case hyL12 =>
        intro X hX
        go_simp
        try rfl
      simp only [Act.put, List.setIfInBounds_toArray, List.set_cons_zero, List.set_cons_succ]
      refine' hw_take 4 (some 10) _ rfl rfl (by kernel_rfl) (by kernel_rfl) (by kernel_rfl) (fun _ _ _ h => h) (by rfl) hH ?hy13 ?rest13
      case hy13 =>
        intro X hX
        go_simp
        try rfl
      simp only [Act.put, List.setIfInBounds_toArray, List.set_cons_zero, List.set_cons_succ]
      refine' hw_take 5 (some 11) _ rfl rfl (by kernel_rfl) (by kernel_rfl) (by kernel_rfl) (fun _ _ _ h => h) (by rfl) hH ?hy14 ?rest14
      case hy14 =>
        intro X hX
        go_simp
        try rfl
      simp only [Act.put, List.setIfInBounds_toArray, List.set_cons_zero, List.set_cons_succ]
      refine' hw_take 6 (some 12) _ rfl rfl (by kernel_rfl) (by kernel_rfl) (by kernel_rfl) (fun _ _ _ h => h) (by rfl) hH ?hy15 ?rest15
      case hy15 =>
        intro X hX
        go_simp
        try rfl
      simp only [Act.put, List.setIfInBounds_toArray, List.set_cons_zero, List.set_cons_succ]
      refine' hw_take 7 (some 13) _ rfl rfl (by kernel_rfl) (by kernel_rfl) (by kernel_rfl) (fun _ _ _ h => h) (by rfl) hH ?hy16 ?rest16
      case hy16 =>
        intro X hX
        go_simp
        try rfl
      simp only [Act.put, List.setIfInBounds_toArray, List.set_cons_zero, List.set_cons_succ]
      refine' hw_take 8 (some 14) (.bool false) rfl rfl (by kernel_rfl) (by kernel_rfl) (by kernel_rfl) (fun _ _ _ h => h) (by rfl) hH ?hyL17 ?restL17
      case hyL17 =>
        intro X hX
        go_simp
        try rfl
      simp only [Act.put, List.setIfInBounds_toArray, List.set_cons_zero, List.set_cons_succ]
      refine' hw_take 9 (some 15) _ rfl rfl (by kernel_rfl) (by kernel_rfl) (by kernel_rfl) (fun _ _ _ h => h) (by rfl) hH ?hy18 ?rest18
      case hy18 =>
        intro X hX
        go_simp
        try rfl
      simp only [Act.put, List.setIfInBounds_toArray, List.set_cons_zero, List.set_cons_succ]
      refine' hw_take 10 (some 16) _ rfl rfl (by kernel_rfl) (by kernel_rfl) (by kernel_rfl) (fun _ _ _ h => h) (by rfl) hH ?hy19 ?rest19
      case hy19 =>
        intro X hX
        go_simp
        try rfl
      simp only [Act.put, List.setIfInBounds_toArray, List.set_cons_zero, List.set_cons_succ]
      refine hw_skip 11 (some 17) rfl rfl (by kernel_rfl) (by kernel_rfl) (by kernel_rfl) (fun _ _ _ h => h) (by rfl) hH ?_
      simp only [Act.put, List.setIfInBounds_toArray, List.set_cons_zero, List.set_cons_succ]
      refine hw_skip 12 (some 18) rfl rfl (by kernel_rfl) (by kernel_rfl) (by kernel_rfl) (fun _ _ _ h => h) (by rfl) hH ?_
      simp only [Act.put, List.setIfInBounds_toArray, List.set_cons_zero, List.set_cons_succ]
      refine hw_skip 13 (some 19) rfl rfl (by kernel_rfl) (by kernel_rfl) (by kernel_rfl) (fun _ _ _ h => h) (by rfl) hH ?_
      simp only [Act.put, List.setIfInBounds_toArray, List.set_cons_zero, List.set_cons_succ]
      refine hw_skip 14 (some 20) rfl rfl (by kernel_rfl) (by kernel_rfl) (by kernel_rfl) (fun _ _ _ h => h) (by rfl) hH ?_
      simp only [Act.put, List.setIfInBounds_toArray, List.set_cons_zero, List.set_cons_succ]
      refine hw_skip 15 (some 21) rfl rfl (by kernel_rfl) (by kernel_rfl) (by kernel_rfl) (fun _ _ _ h => h) (by rfl) hH ?_
      simp only [Act.put, List.setIfInBounds_toArray, List.set_cons_zero, List.set_cons_succ]
      refine hw_skip 16 (some 22) rfl rfl (by kernel_rfl) (by kernel_rfl) (by kernel_rfl) (fun _ _ _ h => h) (by rfl) hH ?_
      simp only [Act.put, List.setIfInBounds_toArray, List.set_cons_zero, List.set_cons_succ]
      refine hw_skip 17 (some 23) rfl rfl (by kernel_rfl) (by kernel_rfl) (by kernel_rfl) (fun _ _ _ h => h) (by rfl) hH ?_
      simp only [Act.put, List.setIfInBounds_toArray, List.set_cons_zero, List.set_cons_succ]
      refine hw_skip 18 (some 24) rfl rfl (by kernel_rfl) (by kernel_rfl) (by kernel_rfl) (fun _ _ _ h => h) (by rfl) hH ?_
      simp only [Act.put, List.setIfInBounds_toArray, List.set_cons_zero, List.set_cons_succ]
      refine hw_skip 19 (some 25) rfl rfl (by kernel_rfl) (by kernel_rfl) (by kernel_rfl) (fun _ _ _ h => h) (by rfl) hH ?_
      simp only [Act.put, List.setIfInBounds_toArray, List.set_cons_zero, List.set_cons_succ]
      refine' hw_take 20 (some 26) _ rfl rfl (by kernel_rfl) (by kernel_rfl) (by kernel_rfl) (fun _ _ _ h => h) (by rfl) hH ?hy20 ?rest20
      case hy20 =>
        intro X hX
        go_simp
        try rfl
      simp only [Act.put, List.setIfInBounds_toArray, List.set_cons_zero, List.set_cons_succ]
      refine wpAnyH_done (by kernel_rfl) ?_ _

      go_wp2
      go_ret
      exact ⟨ret_i64 (by rw [HR.out]), hnw.drew⟩
    have d2 : decide ((k : Int) < (n2 : Int)) = true := by simp; omega
    obtain ⟨g1, e1, k1, p1, x, m, d, xs, hg1, hv1, hl1, hx1, hmx1, a0, a1, a2, a3⟩ := (h.new hnw).at k (by have := HN.out; omega)
    obtain ⟨g2, e2, k2, p2, y, q, f, ys, hg2, hv2, hl2, hx2, hmx2, b0, b1, b2, b3⟩ := (h2.new hnw).at k (by have := HN2.out; omega)
    subst hg1 hg2
    have HD : Hid (k + (if sE ⟨e1, k1, p1, xs⟩ ⟨e2, k2, p2, ys⟩ then cF ((V.map EkV.r).drop (k + 1)) ((V2.map EkV.r).drop (k + 1)) + 1 else 0) = v) := by
      unfold Hid
      have h3 := cF_at (A := V.map EkV.r) (B := V2.map EkV.r) (k := k) (a := ⟨e1, k1, p1, xs⟩) (b := ⟨e2, k2, p2, ys⟩) (by rw [List.getElem?_map, hv1]; rfl) (by rw [List.getElem?_map, hv2]; rfl)
      have h4 := hL.out
      rw [h3] at h4
      exact h4
    have HL1 : Hid (xs.length = m) := hl1
    have HL2 : Hid (ys.length = q) := hl2
    clear hv1 hv2 hl1 hl2 hL
    · skip
      go_upto_region 2 with fail
      refine hw_start (n := 21) (S := fun X => New wr X) rfl (by kernel_rfl) ((New.refl _).drew) (fun hH => ?_)
      refine' hw_take 0 (some 6) _ rfl rfl (by kernel_rfl) (by kernel_rfl) (by kernel_rfl) (fun _ _ _ h => h) (by rfl) hH ?hy21 ?rest21
      case hy21 =>
        intro X hX
        go_simp
        try rfl
      simp only [Act.put, List.setIfInBounds_toArray, List.set_cons_zero, List.set_cons_succ]
      refine' hw_take 1 (some 7) _ rfl rfl (by kernel_rfl) (by kernel_rfl) (by kernel_rfl) (fun _ _ _ h => h) (by rfl) hH ?hy22 ?rest22
      case hy22 =>
        intro X hX
        go_simp
        try rfl
      simp only [Act.put, List.setIfInBounds_toArray, List.set_cons_zero, List.set_cons_succ]
      refine' hw_take 2 (some 8) _ rfl rfl (by kernel_rfl) (by kernel_rfl) (by kernel_rfl) (fun _ _ _ h => h) (by rfl) hH ?hy23 ?rest23
      case hy23 =>
        intro X hX
        go_simp
        try rfl
      simp only [Act.put, List.setIfInBounds_toArray, List.set_cons_zero, List.set_cons_succ]
      refine' hw_take 3 (some 9) (.bool true) rfl rfl (by kernel_rfl) (by kernel_rfl) (by kernel_rfl) (fun _ _ _ h => h) (by rfl) hH ?hyL24 ?restL24
      case hyL24 =>
        intro X hX
        go_simp
        try rfl
      simp only [Act.put, List.setIfInBounds_toArray, List.set_cons_zero, List.set_cons_succ]
      refine' hw_take 4 (some 10) _ rfl rfl (by kernel_rfl) (by kernel_rfl) (by kernel_rfl) (fun _ _ _ h => h) (by rfl) hH ?hy25 ?rest25
      case hy25 =>
        intro X hX
        go_simp
        try rfl
      simp only [Act.put, List.setIfInBounds_toArray, List.set_cons_zero, List.set_cons_succ]
      refine' hw_take 5 (some 11) _ rfl rfl (by kernel_rfl) (by kernel_rfl) (by kernel_rfl) (fun _ _ _ h => h) (by rfl) hH ?hy26 ?rest26
      case hy26 =>
        intro X hX
        go_simp
        try rfl
      simp only [Act.put, List.setIfInBounds_toArray, List.set_cons_zero, List.set_cons_succ]
      refine' hw_take 6 (some 12) _ rfl rfl (by kernel_rfl) (by kernel_rfl) (by kernel_rfl) (fun _ _ _ h => h) (by rfl) hH ?hy27 ?rest27
      case hy27 =>
        intro X hX
        go_simp
        try rfl
      simp only [Act.put, List.setIfInBounds_toArray, List.set_cons_zero, List.set_cons_succ]
      refine' hw_take 7 (some 13) _ rfl rfl (by kernel_rfl) (by kernel_rfl) (by kernel_rfl) (fun _ _ _ h => h) (by rfl) hH ?hy28 ?rest28
      case hy28 =>
        intro X hX
        go_simp
        try rfl
      simp only [Act.put, List.setIfInBounds_toArray, List.set_cons_zero, List.set_cons_succ]
      refine' hw_take 8 (some 14) (.bool true) rfl rfl (by kernel_rfl) (by kernel_rfl) (by kernel_rfl) (fun _ _ _ h => h) (by rfl) hH ?hyL29 ?restL29
      case hyL29 =>
        intro X hX
        go_simp
        try rfl
      simp only [Act.put, List.setIfInBounds_toArray, List.set_cons_zero, List.set_cons_succ]
      refine' hw_take 9 (some 15) _ rfl rfl (by kernel_rfl) (by kernel_rfl) (by kernel_rfl) (fun _ _ _ h => h) (by rfl) hH ?hy30 ?rest30
      case hy30 =>
        intro X hX
        go_simp
        try rfl
      simp only [Act.put, List.setIfInBounds_toArray, List.set_cons_zero, List.set_cons_succ]
      refine' hw_take 10 (some 16) _ rfl rfl (by kernel_rfl) (by kernel_rfl) (by kernel_rfl) (fun _ _ _ h => h) (by rfl) hH ?hy31 ?rest31
      case hy31 =>
        intro X hX
        go_simp
        try rfl
      simp only [Act.put, List.setIfInBounds_toArray, List.set_cons_zero, List.set_cons_succ]
      refine' hw_take 11 (some 17) _ rfl rfl (by kernel_rfl) (by kernel_rfl) (by kernel_rfl) (fun _ _ _ h => h) (by rfl) hH ?hy32 ?rest32
      case hy32 =>
        intro X hX
        go_simp
        try rfl
      simp only [Act.put, List.setIfInBounds_toArray, List.set_cons_zero, List.set_cons_succ]
      refine' hw_take 12 (some 18) _ rfl rfl (by kernel_rfl) (by kernel_rfl) (by kernel_rfl) (fun _ _ _ h => h) (by rfl) hH ?hy33 ?rest33
      case hy33 =>
        intro X hX
        go_simp
        try rfl
      simp only [Act.put, List.setIfInBounds_toArray, List.set_cons_zero, List.set_cons_succ]
      refine' hw_take 13 (some 19) _ rfl rfl (by kernel_rfl) (by kernel_rfl) (by kernel_rfl) (fun _ _ _ h => h) (by rfl) hH ?hy34 ?rest34
      case hy34 =>
        intro X hX
        go_simp
        try rfl
      simp only [Act.put, List.setIfInBounds_toArray, List.set_cons_zero, List.set_cons_succ]
      refine' hw_take 14 (some 20) (.agg #[.int .i64 e1, .int .i64 k1, .int .i64 p1, .slice x m d]) rfl rfl (by kernel_rfl) (by kernel_rfl) (by kernel_rfl) (fun _ _ _ h => h) (by rfl) hH ?hyL35 ?restL35
      case hyL35 =>
        intro X hX
        have a0X := hX.cell a0
        have a1X := hX.cell a1
        have a2X := hX.cell a2
        have a3X := hX.cell a3
        go_simp
        try rfl
      simp only [Act.put, List.setIfInBounds_toArray, List.set_cons_zero, List.set_cons_succ]
      refine' hw_take 15 (some 21) _ rfl rfl (by kernel_rfl) (by kernel_rfl) (by kernel_rfl) (fun _ _ _ h => h) (by rfl) hH ?hy36 ?rest36
      case hy36 =>
        intro X hX
        go_simp
        try rfl
      simp only [Act.put, List.setIfInBounds_toArray, List.set_cons_zero, List.set_cons_succ]
      refine' hw_take 16 (some 22) _ rfl rfl (by kernel_rfl) (by kernel_rfl) (by kernel_rfl) (fun _ _ _ h => h) (by rfl) hH ?hy37 ?rest37
      case hy37 =>
        intro X hX
        go_simp
        try rfl
      simp only [Act.put, List.setIfInBounds_toArray, List.set_cons_zero, List.set_cons_succ]
      refine' hw_take 17 (some 23) _ rfl rfl (by kernel_rfl) (by kernel_rfl) (by kernel_rfl) (fun _ _ _ h => h) (by rfl) hH ?hy38 ?rest38
      case hy38 =>
        intro X hX
        go_simp
        try rfl
      simp only [Act.put, List.setIfInBounds_toArray, List.set_cons_zero, List.set_cons_succ]
      refine' hw_take 18 (some 24) (.agg #[.int .i64 e2, .int .i64 k2, .int .i64 p2, .slice y q f]) rfl rfl (by kernel_rfl) (by kernel_rfl) (by kernel_rfl) (fun _ _ _ h => h) (by rfl) hH ?hyL39 ?restL39
      case hyL39 =>
        intro X hX
        have b0X := hX.cell b0
        have b1X := hX.cell b1
        have b2X := hX.cell b2
        have b3X := hX.cell b3
        go_simp
        try rfl
      simp only [Act.put, List.setIfInBounds_toArray, List.set_cons_zero, List.set_cons_succ]
      refine hw_call 19 (some 25) rfl rfl (by kernel_rfl) (by rfl) (fun K hK => ?_)
      go_simp
      refine (seS e1 k1 p1 x m d xs e2 k2 p2 y q f ys _ (hx1.new hH) (hx2.new hH) HL1.out HL2.out).mono ?_
      rintro e wb ⟨rfl, hnb⟩
      have hw2 := (hnw.drew).trans hnb
      generalize sE ⟨e1, k1, p1, xs⟩ ⟨e2, k2, p2, ys⟩ = b at *
      go_simp
      refine hK.out _ _ (hH.trans hnb) (fun hH2 => ?_)
      simp only [Act.put, List.setIfInBounds_toArray, List.set_cons_zero, List.set_cons_succ]
      refine' hw_take 20 (some 26) _ rfl rfl (by kernel_rfl) (by kernel_rfl) (by kernel_rfl) (fun _ _ _ h => h) (by rfl) hH2 ?hy40 ?rest40
      case hy40 =>
        intro X hX
        go_simp
        try rfl
      simp only [Act.put, List.setIfInBounds_toArray, List.set_cons_zero, List.set_cons_succ]
      refine wpAnyH_done (by kernel_rfl) ?_ _

      cases b with
      | true =>
        have HR : Hid (k + 1 + cF ((V.map EkV.r).drop (k + 1)) ((V2.map EkV.r).drop (k + 1)) = v) := by unfold Hid; have := HD.out; simp at this; omega
        clear HD
        go_wp2
        go_roundw
        case rel => exact ⟨k + 1, by omega, by go_num, hw2, HR⟩
        case measure => simp [intOf]; omega
      | false =>
        have HR : Hid (k = v) := by unfold Hid; have := HD.out; simpa using this
        clear HD
        go_wp2
        go_ret
        exact ⟨ret_i64 (by rw [HR.out]), hw2⟩

end Go.Proofs.YtkbdmcimgepakaaGreat

namespace Go.Proofs.YtkbdmcimgepakaaGreat
open Go.ChangeShapes Go.WideShapes Go.ChangeAt Go.RowKit
set_option linter.unusedVariables false
set_option linter.unusedSimpArgs false

set_option maxRecDepth 100000

theorem Tryz.htE : Tryz.prog.underlying 42 = some (.slice (Tryz.prog.elem 42)) := by kernel_rfl
theorem Tryz.szE (w : World) : (sizeOf (Tryz.prog.elem 42)).run Tryz.prog w = .ok 4 w := by kernel_rfl
/-- The first of a list of entries. -/
theorem headK (a : Option Addr) (n c t : Nat) (hs : (a = none ∧ c = 0) ∨ ∃ b, a = some ⟨b, 0, none⟩) (ht : t ≤ c) :
    ∀ X, (Instr.slice 42 (.slice a n c) none (some (.int .i64 (t : Int))) none).run Tryz.prog X = .ok (.slice a t c) X := by
  intro X
  rw [run_slice_h X 42 a n c Tryz.htE .i64 t (by omega) (by omega), Tryz.szE]
  rcases hs with ⟨rfl, rfl⟩ | ⟨b, rfl⟩
  · simp [Result.andThen, sliced]
  · by_cases hc : c = 0
    · simp [Result.andThen, sliced, hc]
    · simp [Result.andThen, sliced, hc, Addr.add]

/-- What is sealed is right of all nodes. -/
def srF (S : List Ek) : List (Int × Bool × Int × Int × Int × Int × Int × Int × List Ek) → Bool
  | [] => true
  | x :: L => if x.2.2.2.2.1 < (S.length : Int) then false else if sL (x.2.2.2.2.2.2.2.2.take S.length) S then srF S L else false
theorem srF_at {S : List Ek} {L : List (Int × Bool × Int × Int × Int × Int × Int × Int × List Ek)} {k : Nat} {x : Int × Bool × Int × Int × Int × Int × Int × Int × List Ek} (h : L[k]? = some x) : srF S (L.drop k) = if x.2.2.2.2.1 < (S.length : Int) then false else if sL (x.2.2.2.2.2.2.2.2.take S.length) S then srF S (L.drop (k + 1)) else false := by
  obtain ⟨hk, e⟩ := List.getElem?_eq_some_iff.1 h
  rw [List.drop_eq_getElem_cons hk, srF, e]
theorem srF_end {S : List Ek} {L : List (Int × Bool × Int × Int × Int × Int × Int × Int × List Ek)} {k : Nat} (h : L.length ≤ k) : srF S (L.drop k) = true := by
  rw [List.drop_eq_nil_of_le h]; rfl
theorem sL_take (L S : List Ek) : sL (L.take S.length) S = decide (cF L S = S.length) := by
  induction S generalizing L with
  | nil => cases L <;> simp [sL, cF]
  | cons b S ih => cases L with
    | nil => simp [sL, cF]
    | cons a L =>
      simp only [List.length_cons, List.take_succ_cons, sL, cF]
      rw [ih]
      by_cases hE : sE a b = true
      · simp [hE]
      · have hE' : sE a b = false := by simpa using hE
        simp [hE']
theorem LgAt.take {w : World} {A : Option Addr} {V : List EkV} (h : LgAt w A V) (m : Nat) : LgAt w A (V.take m) := by
  intro i u hu
  rw [List.getElem?_take] at hu
  split at hu
  · exact h i u hu
  · cases hu
theorem q1F_zero {a b : Int} (h : q1F a b = 0) : a = 0 ∧ b = 0 := by
  by_cases ha : a = 0
  · exact ⟨ha, (pickq h).2 ha⟩
  · exact absurd ((pickq h).1 ha) ha
/-- In a pair without a fault no more is sure than there is. -/
theorem pF_su {sa si ho nx : Int} {r1 r2 : List Ru} {N : List (Int × Bool × Int × Int × Int × Int × Int × Int × List Ek)} {W : List (Int × Int × List Int × List Int)} {M : List Ml} {S : List Ek} (h : pF sa si ho nx r1 r2 N W M S = 0) : ∀ x ∈ N, x.2.2.2.2.1 ≤ (x.2.2.2.2.2.2.2.2.length : Int) := by
  have hl := pF_two h
  unfold pF at h
  have h1 := (q1F_zero h).2
  rw [if_neg (by rw [Decidable.not_not]; exact hl)] at h1
  have h2 := (q1F_zero h1).1
  have key : ∀ (k : Int) (x : Int × Bool × Int × Int × Int × Int × Int × Int × List Ek), n1F k x = 0 → x.2.2.2.2.1 ≤ (x.2.2.2.2.2.2.2.2.length : Int) := by
    intro k x hx
    obtain ⟨id, up, ro, ep, su, ma, ot, co, L⟩ := x
    simp only [n1F] at hx
    by_cases hf : nF id up ro ep su ma ot co L.length L = 0
    · exact (nF_ok id up ro ep su ma ot co L.length L hf).2.2.2.1.1.2
    · rw [if_pos hf] at hx; exact absurd hx hf
  match N, hl.1 with
  | [x, y], _ =>
    simp only [ndF] at h2
    have hx : n1F 0 x = 0 := by
      by_cases h3 : n1F 0 x = 0
      · exact h3
      · rw [if_pos h3] at h2; exact h2
    rw [if_neg (by rw [Decidable.not_not]; exact hx)] at h2
    intro z hz
    simp only [List.mem_cons, List.not_mem_nil, or_false] at hz
    rcases hz with rfl | rfl
    · exact key 0 _ hx
    · exact key 1 _ h2

set_option maxHeartbeats 6400000 in
theorem sealI (sa si ho nx : Int) (a1 a2 aN aW aM aS : Option Addr) (n1 c1 n2 c2 cN cW nM cM nS cS : Nat) (r1 r2 : List Ru) (LN : List NdV) (LS : List EkV) (B : Nat) (w : World) (hb : Blk w B 44 #[.int .i64 sa, .int .i64 si, .int .i64 ho, .int .i64 nx, .slice a1 n1 c1, .slice a2 n2 c2, .slice aN 2 cN, .slice aW 3 cW, .slice aM nM cM, .slice aS nS cS]) (hN : NdAt w aN LN) (hS : LgAt w aS LS) (lN : LN.length = 2) (lS : LS.length = nS) (mS : nS ≤ 1048576) (fit : ∀ v ∈ LN, FitK v.A v.V.length v.c) (hsu : ∀ v ∈ LN, v.su ≤ (v.V.length : Int)) (v : Bool) (hv : srF (LS.map EkV.r) (LN.map NdV.r) = v) :
    Calls Tryz.prog 31 #[.pointer (some ⟨B, 0, none⟩)] w fun e w' => e = .returned (.bool v) ∧ New w w' := by
  have HN : Hid (LN.length = 2) := lN
  have HLS : Hid (LS.length = nS) := lS
  have HFT : Hid ((∀ v ∈ LN, FitK v.A v.V.length v.c) ∧ ∀ v ∈ LN, v.su ≤ (v.V.length : Int)) := ⟨fit, hsu⟩
  have HF : Hid (srF (LS.map EkV.r) ((LN.map NdV.r).drop 0) = v) := hv
  have cB := hb.cells
  clear hv lN lS fit hsu
  go_enter Tryz.func31, Tryz.ntmps31
  go_wp2
  go_loopw [16] (fun i wr => ∃ (k : Nat), k ≤ 2 ∧ i = .int .i64 k ∧ New w wr ∧ Hid (srF (LS.map EkV.r) ((LN.map NdV.r).drop k) = v)) (fun i _ => 2 - (intOf i).toNat)
  case atStart => exact ⟨0, Nat.zero_le _, rfl, New.refl _, HF⟩
  case round =>
    obtain ⟨k, hk, rfl, hnw, hL⟩ := hrel
    by_cases hlt : k < 2
    case neg =>
      have HR : Hid (true = v) := by unfold Hid; rw [← hL.out, srF_end (by have := HN.out; simp; omega)]
      clear hL
      go_wp2
      go_ret
      exact ⟨ret_bool HR.out, hnw⟩
    obtain ⟨g, id, up, ro, ep, su, ma, ot, co, x, m, d, xs, hg, hvv, hl, hx, hmx, q0, q1, q2, q3, q4, q5, q6, q7, q8⟩ := (hN.new hnw).at k (by have := HN.out; omega)
    subst hg
    have hmem := List.mem_of_getElem? hvv
    have hft := HFT.out.1 _ hmem
    have hsu := HFT.out.2 _ hmem
    simp only at hft hsu
    have HL : Hid (xs.length = m) := hl
    rw [hl] at hft hsu
    have HD : Hid ((if su < (nS : Int) then false else if sL ((xs.map EkV.r).take nS) (LS.map EkV.r) then srF (LS.map EkV.r) ((LN.map NdV.r).drop (k + 1)) else false) = v) := by
      unfold Hid
      have h1 := srF_at (S := (LS.map EkV.r)) (x := (id, up, ro, ep, su, ma, ot, co, xs.map EkV.r)) (L := (LN.map NdV.r)) (k := k) (by rw [List.getElem?_map, hvv]; rfl)
      have h2 := hL.out
      rw [h1] at h2
      simp only [List.length_map, HLS.out] at h2
      exact h2
    have hm1 : m ≤ 1048576 := by have := totK_len xs; have := HL.out; omega
    have hk2 : (k : Int) < 2 := by omega
    clear hvv hl hL hmx
    have al := (New.refl wr).alloc (.cells #[.int .i64 id, .bool up, .int .i64 ro, .int .i64 ep, .slice x m d, .int .i64 su, .int .i64 ma, .int .i64 ot, .int .i64 co] 98)
    have bx := Blk.mk wr wr.heap.size 98 #[.int .i64 id, .bool up, .int .i64 ro, .int .i64 ep, .slice x m d, .int .i64 su, .int .i64 ma, .int .i64 ot, .int .i64 co] rfl
    have hb1 := (hb.new hnw).new al
    have hx1 := hx.new al
    have hS1 := (hS.new hnw).new al
    have hnw1 := hnw.trans al
    by_cases hlow : su < (nS : Int)
    · have HR : Hid (false = v) := by unfold Hid; have := HD.out; rw [if_pos hlow] at this; exact this
      have d1 : decide (su < (nS : Int)) = true := by simpa using hlow
      clear HD
      go_upto_region 5 with fail
      generalize wr.alloc (.cells #[.int .i64 id, .bool up, .int .i64 ro, .int .i64 ep, .slice x m d, .int .i64 su, .int .i64 ma, .int .i64 ot, .int .i64 co] 98) = wa at *
      clear q0 q1 q2 q3 q4 q5 q6 q7 q8
      refine hw_start (n := 16) (S := fun X => New wa X) rfl (by kernel_rfl) ((New.refl _).drew) (fun hH => ?_)
      refine' hw_take 0 (some 20) _ rfl rfl (by kernel_rfl) (by kernel_rfl) (by kernel_rfl) (fun _ _ _ h => h) (by rfl) hH ?hy49 ?rest49
      case hy49 =>
        intro X hX
        go_simp
        try rfl
      simp only [Act.put, List.setIfInBounds_toArray, List.set_cons_zero, List.set_cons_succ]
      refine' hw_take 2 (some 22) _ rfl rfl (by kernel_rfl) (by kernel_rfl) (by kernel_rfl) (fun _ _ _ h => h) (by rfl) hH ?hy50 ?rest50
      case hy50 =>
        intro X hX
        go_simp
        try rfl
      simp only [Act.put, List.setIfInBounds_toArray, List.set_cons_zero, List.set_cons_succ]
      refine' hw_take 1 (some 21) _ rfl rfl (by kernel_rfl) (by kernel_rfl) (by kernel_rfl) (fun _ _ _ h => h) (by rfl) hH ?hy51 ?rest51
      case hy51 =>
        intro X hX
        have cX := (bx.new hX).cells
        have cY := (hb1.new hX).cells
        go_simp
        try rfl
      simp only [Act.put, List.setIfInBounds_toArray, List.set_cons_zero, List.set_cons_succ]
      refine' hw_take 3 (some 23) (.bool true) rfl rfl (by kernel_rfl) (by kernel_rfl) (by kernel_rfl) (fun _ _ _ h => h) (by rfl) hH ?hyL52 ?restL52
      case hyL52 =>
        intro X hX
        go_simp
        try rfl
      simp only [Act.put, List.setIfInBounds_toArray, List.set_cons_zero, List.set_cons_succ]
      refine' hw_take 4 (some 24) _ rfl rfl (by kernel_rfl) (by kernel_rfl) (by kernel_rfl) (fun _ _ _ h => h) (by rfl) hH ?hy53 ?rest53
      case hy53 =>
        intro X hX
        go_simp
        try rfl
      simp only [Act.put, List.setIfInBounds_toArray, List.set_cons_zero, List.set_cons_succ]
      refine hw_skip 5 (some 25) rfl rfl (by kernel_rfl) (by kernel_rfl) (by kernel_rfl) (fun _ _ _ h => h) (by rfl) hH ?_
      simp only [Act.put, List.setIfInBounds_toArray, List.set_cons_zero, List.set_cons_succ]
      refine hw_skip 6 (some 26) rfl rfl (by kernel_rfl) (by kernel_rfl) (by kernel_rfl) (fun _ _ _ h => h) (by rfl) hH ?_
      simp only [Act.put, List.setIfInBounds_toArray, List.set_cons_zero, List.set_cons_succ]
      refine hw_skip 7 (some 27) rfl rfl (by kernel_rfl) (by kernel_rfl) (by kernel_rfl) (fun _ _ _ h => h) (by rfl) hH ?_
      simp only [Act.put, List.setIfInBounds_toArray, List.set_cons_zero, List.set_cons_succ]
      refine hw_skip 8 (some 28) rfl rfl (by kernel_rfl) (by kernel_rfl) (by kernel_rfl) (fun _ _ _ h => h) (by rfl) hH ?_
      simp only [Act.put, List.setIfInBounds_toArray, List.set_cons_zero, List.set_cons_succ]
      refine hw_skip 9 (some 29) rfl rfl (by kernel_rfl) (by kernel_rfl) (by kernel_rfl) (fun _ _ _ h => h) (by rfl) hH ?_
      simp only [Act.put, List.setIfInBounds_toArray, List.set_cons_zero, List.set_cons_succ]
      refine hw_skip 10 (some 30) rfl rfl (by kernel_rfl) (by kernel_rfl) (by kernel_rfl) (fun _ _ _ h => h) (by rfl) hH ?_
      simp only [Act.put, List.setIfInBounds_toArray, List.set_cons_zero, List.set_cons_succ]
      refine hw_skip 11 (some 31) rfl rfl (by kernel_rfl) (by kernel_rfl) (by kernel_rfl) (fun _ _ _ h => h) (by rfl) hH ?_
      simp only [Act.put, List.setIfInBounds_toArray, List.set_cons_zero, List.set_cons_succ]
      refine hw_skip 12 (some 32) rfl rfl (by kernel_rfl) (by kernel_rfl) (by kernel_rfl) (fun _ _ _ h => h) (by rfl) hH ?_
      simp only [Act.put, List.setIfInBounds_toArray, List.set_cons_zero, List.set_cons_succ]
      refine hw_skip 13 (some 33) rfl rfl (by kernel_rfl) (by kernel_rfl) (by kernel_rfl) (fun _ _ _ h => h) (by rfl) hH ?_
      simp only [Act.put, List.setIfInBounds_toArray, List.set_cons_zero, List.set_cons_succ]
      refine hw_skip 14 (some 34) rfl rfl (by kernel_rfl) (by kernel_rfl) (by kernel_rfl) (fun _ _ _ h => h) (by rfl) hH ?_
      simp only [Act.put, List.setIfInBounds_toArray, List.set_cons_zero, List.set_cons_succ]
      refine' hw_take 15 (some 35) _ rfl rfl (by kernel_rfl) (by kernel_rfl) (by kernel_rfl) (fun _ _ _ h => h) (by rfl) hH ?hy54 ?rest54
      case hy54 =>
        intro X hX
        go_simp
        try rfl
      simp only [Act.put, List.setIfInBounds_toArray, List.set_cons_zero, List.set_cons_succ]
      refine wpAnyH_done (by kernel_rfl) ?_ _
      go_wp2
      go_ret
      exact ⟨ret_bool HR.out, hnw1.drew⟩
    · have HD1 : Hid ((if sL ((xs.map EkV.r).take nS) (LS.map EkV.r) then srF (LS.map EkV.r) ((LN.map NdV.r).drop (k + 1)) else false) = v) := by unfold Hid; have := HD.out; rw [if_neg hlow] at this; exact this
      have d1 : decide (su < (nS : Int)) = false := by simpa using hlow
      have hnm : nS ≤ m := by omega
      have hcut : ∀ X, (Instr.slice 42 (.slice x m d) none (some (.int .i64 (nS : Int))) none).run Tryz.prog X = .ok (.slice x nS d) X := by
        intro X
        exact headK x m d nS (by rcases hft.2 with ⟨h3, h4, h5⟩ | ⟨g', h3⟩; exact .inl ⟨h3, h5⟩; exact .inr ⟨g', h3⟩) (by have := hft.1; omega) X
      have HHT : Hid (xs.length = m ∧ FitK x m d) := ⟨HL.out, hft⟩
      clear HD hft
      go_upto_region 5 with fail
      generalize wr.alloc (.cells #[.int .i64 id, .bool up, .int .i64 ro, .int .i64 ep, .slice x m d, .int .i64 su, .int .i64 ma, .int .i64 ot, .int .i64 co] 98) = wa at *
      clear q0 q1 q2 q3 q4 q5 q6 q7 q8
      refine hw_start (n := 16) (S := fun X => New wa X) rfl (by kernel_rfl) ((New.refl _).drew) (fun hH => ?_)
      refine' hw_take 0 (some 20) _ rfl rfl (by kernel_rfl) (by kernel_rfl) (by kernel_rfl) (fun _ _ _ h => h) (by rfl) hH ?hy55 ?rest55
      case hy55 =>
        intro X hX
        go_simp
        try rfl
      simp only [Act.put, List.setIfInBounds_toArray, List.set_cons_zero, List.set_cons_succ]
      refine' hw_take 2 (some 22) _ rfl rfl (by kernel_rfl) (by kernel_rfl) (by kernel_rfl) (fun _ _ _ h => h) (by rfl) hH ?hy56 ?rest56
      case hy56 =>
        intro X hX
        go_simp
        try rfl
      simp only [Act.put, List.setIfInBounds_toArray, List.set_cons_zero, List.set_cons_succ]
      refine' hw_take 1 (some 21) _ rfl rfl (by kernel_rfl) (by kernel_rfl) (by kernel_rfl) (fun _ _ _ h => h) (by rfl) hH ?hy57 ?rest57
      case hy57 =>
        intro X hX
        have cX := (bx.new hX).cells
        have cY := (hb1.new hX).cells
        go_simp
        try rfl
      simp only [Act.put, List.setIfInBounds_toArray, List.set_cons_zero, List.set_cons_succ]
      refine' hw_take 3 (some 23) (.bool false) rfl rfl (by kernel_rfl) (by kernel_rfl) (by kernel_rfl) (fun _ _ _ h => h) (by rfl) hH ?hyL58 ?restL58
      case hyL58 =>
        intro X hX
        go_simp
        try rfl
      simp only [Act.put, List.setIfInBounds_toArray, List.set_cons_zero, List.set_cons_succ]
      refine' hw_take 4 (some 24) _ rfl rfl (by kernel_rfl) (by kernel_rfl) (by kernel_rfl) (fun _ _ _ h => h) (by rfl) hH ?hy59 ?rest59
      case hy59 =>
        intro X hX
        go_simp
        try rfl
      simp only [Act.put, List.setIfInBounds_toArray, List.set_cons_zero, List.set_cons_succ]
      refine' hw_take 5 (some 25) _ rfl rfl (by kernel_rfl) (by kernel_rfl) (by kernel_rfl) (fun _ _ _ h => h) (by rfl) hH ?hy60 ?rest60
      case hy60 =>
        intro X hX
        go_simp
        try rfl
      simp only [Act.put, List.setIfInBounds_toArray, List.set_cons_zero, List.set_cons_succ]
      refine' hw_take 6 (some 26) _ rfl rfl (by kernel_rfl) (by kernel_rfl) (by kernel_rfl) (fun _ _ _ h => h) (by rfl) hH ?hy61 ?rest61
      case hy61 =>
        intro X hX
        have cX := (bx.new hX).cells
        have cY := (hb1.new hX).cells
        go_simp
        try rfl
      simp only [Act.put, List.setIfInBounds_toArray, List.set_cons_zero, List.set_cons_succ]
      refine' hw_take 7 (some 27) _ rfl rfl (by kernel_rfl) (by kernel_rfl) (by kernel_rfl) (fun _ _ _ h => h) (by rfl) hH ?hy62 ?rest62
      case hy62 =>
        intro X hX
        go_simp
        try rfl
      simp only [Act.put, List.setIfInBounds_toArray, List.set_cons_zero, List.set_cons_succ]
      refine' hw_take 8 (some 28) (.slice x nS d) rfl rfl (by kernel_rfl) (by kernel_rfl) (by kernel_rfl) (fun _ _ _ h => h) (by rfl) hH ?hyS63 ?restS63
      case hyS63 =>
        intro X hX
        have hc := hcut X
        unfold execOp
        go_simp
        try exact hc
      simp only [Act.put, List.setIfInBounds_toArray, List.set_cons_zero, List.set_cons_succ]
      refine' hw_take 9 (some 29) _ rfl rfl (by kernel_rfl) (by kernel_rfl) (by kernel_rfl) (fun _ _ _ h => h) (by rfl) hH ?hy64 ?rest64
      case hy64 =>
        intro X hX
        go_simp
        try rfl
      simp only [Act.put, List.setIfInBounds_toArray, List.set_cons_zero, List.set_cons_succ]
      refine' hw_take 10 (some 30) _ rfl rfl (by kernel_rfl) (by kernel_rfl) (by kernel_rfl) (fun _ _ _ h => h) (by rfl) hH ?hy65 ?rest65
      case hy65 =>
        intro X hX
        go_simp
        try rfl
      simp only [Act.put, List.setIfInBounds_toArray, List.set_cons_zero, List.set_cons_succ]
      refine' hw_take 11 (some 31) _ rfl rfl (by kernel_rfl) (by kernel_rfl) (by kernel_rfl) (fun _ _ _ h => h) (by rfl) hH ?hy66 ?rest66
      case hy66 =>
        intro X hX
        go_simp
        try rfl
      simp only [Act.put, List.setIfInBounds_toArray, List.set_cons_zero, List.set_cons_succ]
      refine' hw_take 12 (some 32) _ rfl rfl (by kernel_rfl) (by kernel_rfl) (by kernel_rfl) (fun _ _ _ h => h) (by rfl) hH ?hy67 ?rest67
      case hy67 =>
        intro X hX
        have cX := (bx.new hX).cells
        have cY := (hb1.new hX).cells
        go_simp
        try rfl
      simp only [Act.put, List.setIfInBounds_toArray, List.set_cons_zero, List.set_cons_succ]
      refine hw_call 13 (some 33) rfl rfl (by kernel_rfl) (by rfl) (fun K hK => ?_)
      go_simp
      refine (sameL_any x aS nS d nS cS (xs.take nS) LS _ ((hx1.take nS).new hH) (hS1.new hH) (by rw [List.length_take]; have := HHT.out.1; omega) HLS.out (by omega) (by omega)).mono ?_
      rintro e wb ⟨rfl, hnb⟩
      rw [List.map_take]
      have hw2 := (hnw1.drew).trans hnb
      generalize sL ((xs.map EkV.r).take nS) (LS.map EkV.r) = b at *
      go_simp
      refine hK.out _ _ (hH.trans hnb) (fun hH2 => ?_)
      simp only [Act.put, List.setIfInBounds_toArray, List.set_cons_zero, List.set_cons_succ]
      refine' hw_take 14 (some 34) _ rfl rfl (by kernel_rfl) (by kernel_rfl) (by kernel_rfl) (fun _ _ _ h => h) (by rfl) hH2 ?hy68 ?rest68
      case hy68 =>
        intro X hX
        go_simp
        try rfl
      simp only [Act.put, List.setIfInBounds_toArray, List.set_cons_zero, List.set_cons_succ]
      refine' hw_take 15 (some 35) _ rfl rfl (by kernel_rfl) (by kernel_rfl) (by kernel_rfl) (fun _ _ _ h => h) (by rfl) hH2 ?hy69 ?rest69
      case hy69 =>
        intro X hX
        go_simp
        try rfl
      simp only [Act.put, List.setIfInBounds_toArray, List.set_cons_zero, List.set_cons_succ]
      refine wpAnyH_done (by kernel_rfl) ?_ _
      cases b with
      | true =>
        have HR : Hid (srF (LS.map EkV.r) ((LN.map NdV.r).drop (k + 1)) = v) := by unfold Hid; have := HD1.out; simpa using this
        clear HD1
        go_wp2
        go_roundw
        case rel => exact ⟨k + 1, by omega, by go_num, hw2, HR⟩
        case measure => simp [intOf]; omega
      | false =>
        have HR : Hid (false = v) := by unfold Hid; have := HD1.out; simpa using this
        clear HD1
        go_wp2
        go_ret
        exact ⟨ret_bool HR.out, hw2⟩

end Go.Proofs.YtkbdmcimgepakaaGreat

namespace Go.Proofs.YtkbdmcimgepakaaGreat
open Go.ChangeShapes Go.WideShapes Go.ChangeAt Go.RowKit
set_option linter.unusedVariables false
set_option linter.unusedSimpArgs false

set_option maxRecDepth 100000

set_option maxHeartbeats 6400000 in
theorem sealS (sa si ho nx : Int) (a1 a2 aN aW aM aS : Option Addr) (n1 c1 n2 c2 cN cW nM cM nS cS : Nat) (r1 r2 : List Ru) (LN : List NdV) (LS : List EkV) (B : Nat) (w : World) (hb : Blk w B 44 #[.int .i64 sa, .int .i64 si, .int .i64 ho, .int .i64 nx, .slice a1 n1 c1, .slice a2 n2 c2, .slice aN 2 cN, .slice aW 3 cW, .slice aM nM cM, .slice aS nS cS]) (hN : NdAt w aN LN) (hS : LgAt w aS LS) (lN : LN.length = 2) (lS : LS.length = nS) (mS : nS ≤ 1048576) (fit : ∀ v ∈ LN, FitK v.A v.V.length v.c) (hsu : ∀ v ∈ LN, v.su ≤ (v.V.length : Int)) (v : Bool) (hv : srF (LS.map EkV.r) (LN.map NdV.r) = v) :
    Calls Tryz.prog 24 #[.pointer (some ⟨B, 0, none⟩)] w fun e w' => e = .returned (.bool v) ∧ New w w' := by
  have HN : Hid (LN.length = 2) := lN
  have HLS : Hid (LS.length = nS) := lS
  have HFT : Hid ((∀ v ∈ LN, FitK v.A v.V.length v.c) ∧ ∀ v ∈ LN, v.su ≤ (v.V.length : Int)) := ⟨fit, hsu⟩
  have HF : Hid (srF (LS.map EkV.r) ((LN.map NdV.r).drop 0) = v) := hv
  clear hv lN lS fit hsu
  go_enter Tryz.func24, Tryz.ntmps24
  go_wp2
  go_loopw [3] (fun i wr => ∃ (k : Nat), k ≤ 2 ∧ i = .int .i64 k ∧ New w wr ∧ Hid (srF (LS.map EkV.r) ((LN.map NdV.r).drop k) = v)) (fun i _ => 2 - (intOf i).toNat)
  case atStart => exact ⟨0, Nat.zero_le _, rfl, New.refl _, HF⟩
  case round =>
    obtain ⟨k, hk, rfl, hnw, hL⟩ := hrel
    by_cases hlt : k < 2
    case neg =>
      have HR : Hid (true = v) := by unfold Hid; rw [← hL.out, srF_end (by have := HN.out; simp; omega)]
      clear hL
      go_wp2
      go_ret
      exact ⟨ret_bool HR.out, hnw⟩
    obtain ⟨g, id, up, ro, ep, su, ma, ot, co, x, m, d, xs, hg, hvv, hl, hx, hmx, q0, q1, q2, q3, q4, q5, q6, q7, q8⟩ := (hN.new hnw).at k (by have := HN.out; omega)
    subst hg
    have hmem := List.mem_of_getElem? hvv
    have hft := HFT.out.1 _ hmem
    have hsu := HFT.out.2 _ hmem
    simp only at hft hsu
    have HL : Hid (xs.length = m) := hl
    rw [hl] at hft hsu
    have HD : Hid ((if su < (nS : Int) then false else if sL ((xs.map EkV.r).take nS) (LS.map EkV.r) then srF (LS.map EkV.r) ((LN.map NdV.r).drop (k + 1)) else false) = v) := by
      unfold Hid
      have h1 := srF_at (S := (LS.map EkV.r)) (x := (id, up, ro, ep, su, ma, ot, co, xs.map EkV.r)) (L := (LN.map NdV.r)) (k := k) (by rw [List.getElem?_map, hvv]; rfl)
      have h2 := hL.out
      rw [h1] at h2
      simp only [List.length_map, HLS.out] at h2
      exact h2
    have hm1 : m ≤ 1048576 := by have := totK_len xs; have := HL.out; omega
    have hk2 : (k : Int) < 2 := by omega
    clear hvv hl hL hmx
    have hb1 := hb.new hnw
    have cB := hb1.cells
    by_cases hlow : su < (nS : Int)
    · have HR : Hid (false = v) := by unfold Hid; have := HD.out; rw [if_pos hlow] at this; exact this
      have d1 : decide (su < (nS : Int)) = true := by simpa using hlow
      clear HD
      go_upto_region 5 with fail
      refine hw_start (n := 27) (S := fun X => New wr X) rfl (by kernel_rfl) ((New.refl _).drew) (fun hH => ?_)
      refine' hw_take 0 (some 15) _ rfl rfl (by kernel_rfl) (by kernel_rfl) (by kernel_rfl) (fun _ _ _ h => h) (by rfl) hH ?hy70 ?rest70
      case hy70 =>
        intro X hX
        go_simp
        try rfl
      simp only [Act.put, List.setIfInBounds_toArray, List.set_cons_zero, List.set_cons_succ]
      refine' hw_take 1 (some 16) _ rfl rfl (by kernel_rfl) (by kernel_rfl) (by kernel_rfl) (fun _ _ _ h => h) (by rfl) hH ?hy71 ?rest71
      case hy71 =>
        intro X hX
        go_simp
        try rfl
      simp only [Act.put, List.setIfInBounds_toArray, List.set_cons_zero, List.set_cons_succ]
      refine' hw_take 2 (some 17) _ rfl rfl (by kernel_rfl) (by kernel_rfl) (by kernel_rfl) (fun _ _ _ h => h) (by rfl) hH ?hy72 ?rest72
      case hy72 =>
        intro X hX
        go_simp
        try rfl
      simp only [Act.put, List.setIfInBounds_toArray, List.set_cons_zero, List.set_cons_succ]
      refine' hw_take 3 (some 18) _ rfl rfl (by kernel_rfl) (by kernel_rfl) (by kernel_rfl) (fun _ _ _ h => h) (by rfl) hH ?hy73 ?rest73
      case hy73 =>
        intro X hX
        have cY := (hb1.new hX).cells
        have qa := hX.cell q5
        have qb := hX.cell q4
        go_simp
        try rfl
      simp only [Act.put, List.setIfInBounds_toArray, List.set_cons_zero, List.set_cons_succ]
      refine' hw_take 4 (some 19) _ rfl rfl (by kernel_rfl) (by kernel_rfl) (by kernel_rfl) (fun _ _ _ h => h) (by rfl) hH ?hy74 ?rest74
      case hy74 =>
        intro X hX
        go_simp
        try rfl
      simp only [Act.put, List.setIfInBounds_toArray, List.set_cons_zero, List.set_cons_succ]
      refine' hw_take 5 (some 20) _ rfl rfl (by kernel_rfl) (by kernel_rfl) (by kernel_rfl) (fun _ _ _ h => h) (by rfl) hH ?hy75 ?rest75
      case hy75 =>
        intro X hX
        go_simp
        try rfl
      simp only [Act.put, List.setIfInBounds_toArray, List.set_cons_zero, List.set_cons_succ]
      refine' hw_take 6 (some 21) _ rfl rfl (by kernel_rfl) (by kernel_rfl) (by kernel_rfl) (fun _ _ _ h => h) (by rfl) hH ?hy76 ?rest76
      case hy76 =>
        intro X hX
        go_simp
        try rfl
      simp only [Act.put, List.setIfInBounds_toArray, List.set_cons_zero, List.set_cons_succ]
      refine' hw_take 7 (some 22) _ rfl rfl (by kernel_rfl) (by kernel_rfl) (by kernel_rfl) (fun _ _ _ h => h) (by rfl) hH ?hy77 ?rest77
      case hy77 =>
        intro X hX
        have cY := (hb1.new hX).cells
        have qa := hX.cell q5
        have qb := hX.cell q4
        go_simp
        try rfl
      simp only [Act.put, List.setIfInBounds_toArray, List.set_cons_zero, List.set_cons_succ]
      refine' hw_take 8 (some 23) _ rfl rfl (by kernel_rfl) (by kernel_rfl) (by kernel_rfl) (fun _ _ _ h => h) (by rfl) hH ?hy78 ?rest78
      case hy78 =>
        intro X hX
        go_simp
        try rfl
      simp only [Act.put, List.setIfInBounds_toArray, List.set_cons_zero, List.set_cons_succ]
      refine' hw_take 9 (some 24) (.bool true) rfl rfl (by kernel_rfl) (by kernel_rfl) (by kernel_rfl) (fun _ _ _ h => h) (by rfl) hH ?hyL79 ?restL79
      case hyL79 =>
        intro X hX
        go_simp
        try rfl
      simp only [Act.put, List.setIfInBounds_toArray, List.set_cons_zero, List.set_cons_succ]
      refine' hw_take 10 (some 25) _ rfl rfl (by kernel_rfl) (by kernel_rfl) (by kernel_rfl) (fun _ _ _ h => h) (by rfl) hH ?hy80 ?rest80
      case hy80 =>
        intro X hX
        go_simp
        try rfl
      simp only [Act.put, List.setIfInBounds_toArray, List.set_cons_zero, List.set_cons_succ]
      refine hw_skip 11 (some 26) rfl rfl (by kernel_rfl) (by kernel_rfl) (by kernel_rfl) (fun _ _ _ h => h) (by rfl) hH ?_
      simp only [Act.put, List.setIfInBounds_toArray, List.set_cons_zero, List.set_cons_succ]
      refine hw_skip 12 (some 27) rfl rfl (by kernel_rfl) (by kernel_rfl) (by kernel_rfl) (fun _ _ _ h => h) (by rfl) hH ?_
      simp only [Act.put, List.setIfInBounds_toArray, List.set_cons_zero, List.set_cons_succ]
      refine hw_skip 13 (some 28) rfl rfl (by kernel_rfl) (by kernel_rfl) (by kernel_rfl) (fun _ _ _ h => h) (by rfl) hH ?_
      simp only [Act.put, List.setIfInBounds_toArray, List.set_cons_zero, List.set_cons_succ]
      refine hw_skip 14 (some 29) rfl rfl (by kernel_rfl) (by kernel_rfl) (by kernel_rfl) (fun _ _ _ h => h) (by rfl) hH ?_
      simp only [Act.put, List.setIfInBounds_toArray, List.set_cons_zero, List.set_cons_succ]
      refine hw_skip 15 (some 30) rfl rfl (by kernel_rfl) (by kernel_rfl) (by kernel_rfl) (fun _ _ _ h => h) (by rfl) hH ?_
      simp only [Act.put, List.setIfInBounds_toArray, List.set_cons_zero, List.set_cons_succ]
      refine hw_skip 16 (some 31) rfl rfl (by kernel_rfl) (by kernel_rfl) (by kernel_rfl) (fun _ _ _ h => h) (by rfl) hH ?_
      simp only [Act.put, List.setIfInBounds_toArray, List.set_cons_zero, List.set_cons_succ]
      refine hw_skip 17 (some 32) rfl rfl (by kernel_rfl) (by kernel_rfl) (by kernel_rfl) (fun _ _ _ h => h) (by rfl) hH ?_
      simp only [Act.put, List.setIfInBounds_toArray, List.set_cons_zero, List.set_cons_succ]
      refine hw_skip 18 (some 33) rfl rfl (by kernel_rfl) (by kernel_rfl) (by kernel_rfl) (fun _ _ _ h => h) (by rfl) hH ?_
      simp only [Act.put, List.setIfInBounds_toArray, List.set_cons_zero, List.set_cons_succ]
      refine hw_skip 19 (some 34) rfl rfl (by kernel_rfl) (by kernel_rfl) (by kernel_rfl) (fun _ _ _ h => h) (by rfl) hH ?_
      simp only [Act.put, List.setIfInBounds_toArray, List.set_cons_zero, List.set_cons_succ]
      refine hw_skip 20 (some 35) rfl rfl (by kernel_rfl) (by kernel_rfl) (by kernel_rfl) (fun _ _ _ h => h) (by rfl) hH ?_
      simp only [Act.put, List.setIfInBounds_toArray, List.set_cons_zero, List.set_cons_succ]
      refine hw_skip 21 (some 36) rfl rfl (by kernel_rfl) (by kernel_rfl) (by kernel_rfl) (fun _ _ _ h => h) (by rfl) hH ?_
      simp only [Act.put, List.setIfInBounds_toArray, List.set_cons_zero, List.set_cons_succ]
      refine hw_skip 22 (some 37) rfl rfl (by kernel_rfl) (by kernel_rfl) (by kernel_rfl) (fun _ _ _ h => h) (by rfl) hH ?_
      simp only [Act.put, List.setIfInBounds_toArray, List.set_cons_zero, List.set_cons_succ]
      refine hw_skip 23 (some 38) rfl rfl (by kernel_rfl) (by kernel_rfl) (by kernel_rfl) (fun _ _ _ h => h) (by rfl) hH ?_
      simp only [Act.put, List.setIfInBounds_toArray, List.set_cons_zero, List.set_cons_succ]
      refine hw_skip 24 (some 39) rfl rfl (by kernel_rfl) (by kernel_rfl) (by kernel_rfl) (fun _ _ _ h => h) (by rfl) hH ?_
      simp only [Act.put, List.setIfInBounds_toArray, List.set_cons_zero, List.set_cons_succ]
      refine hw_skip 25 (some 40) rfl rfl (by kernel_rfl) (by kernel_rfl) (by kernel_rfl) (fun _ _ _ h => h) (by rfl) hH ?_
      simp only [Act.put, List.setIfInBounds_toArray, List.set_cons_zero, List.set_cons_succ]
      refine' hw_take 26 (some 41) _ rfl rfl (by kernel_rfl) (by kernel_rfl) (by kernel_rfl) (fun _ _ _ h => h) (by rfl) hH ?hy81 ?rest81
      case hy81 =>
        intro X hX
        go_simp
        try rfl
      simp only [Act.put, List.setIfInBounds_toArray, List.set_cons_zero, List.set_cons_succ]
      refine wpAnyH_done (by kernel_rfl) ?_ _
      go_wp2
      go_ret
      exact ⟨ret_bool HR.out, hnw.drew⟩
    · have HD1 : Hid ((if sL ((xs.map EkV.r).take nS) (LS.map EkV.r) then srF (LS.map EkV.r) ((LN.map NdV.r).drop (k + 1)) else false) = v) := by unfold Hid; have := HD.out; rw [if_neg hlow] at this; exact this
      have d1 : decide (su < (nS : Int)) = false := by simpa using hlow
      have HT : Hid (sL ((xs.map EkV.r).take nS) (LS.map EkV.r) = decide (cF (xs.map EkV.r) (LS.map EkV.r) = nS)) := by
        unfold Hid
        have := sL_take (xs.map EkV.r) (LS.map EkV.r)
        rw [List.length_map, HLS.out] at this
        exact this
      rw [HT.out] at HD1
      clear HD HT
      go_upto_region 5 with fail
      refine hw_start (n := 27) (S := fun X => New wr X) rfl (by kernel_rfl) ((New.refl _).drew) (fun hH => ?_)
      refine' hw_take 0 (some 15) _ rfl rfl (by kernel_rfl) (by kernel_rfl) (by kernel_rfl) (fun _ _ _ h => h) (by rfl) hH ?hy82 ?rest82
      case hy82 =>
        intro X hX
        go_simp
        try rfl
      simp only [Act.put, List.setIfInBounds_toArray, List.set_cons_zero, List.set_cons_succ]
      refine' hw_take 1 (some 16) _ rfl rfl (by kernel_rfl) (by kernel_rfl) (by kernel_rfl) (fun _ _ _ h => h) (by rfl) hH ?hy83 ?rest83
      case hy83 =>
        intro X hX
        go_simp
        try rfl
      simp only [Act.put, List.setIfInBounds_toArray, List.set_cons_zero, List.set_cons_succ]
      refine' hw_take 2 (some 17) _ rfl rfl (by kernel_rfl) (by kernel_rfl) (by kernel_rfl) (fun _ _ _ h => h) (by rfl) hH ?hy84 ?rest84
      case hy84 =>
        intro X hX
        go_simp
        try rfl
      simp only [Act.put, List.setIfInBounds_toArray, List.set_cons_zero, List.set_cons_succ]
      refine' hw_take 3 (some 18) _ rfl rfl (by kernel_rfl) (by kernel_rfl) (by kernel_rfl) (fun _ _ _ h => h) (by rfl) hH ?hy85 ?rest85
      case hy85 =>
        intro X hX
        have cY := (hb1.new hX).cells
        have qa := hX.cell q5
        have qb := hX.cell q4
        go_simp
        try rfl
      simp only [Act.put, List.setIfInBounds_toArray, List.set_cons_zero, List.set_cons_succ]
      refine' hw_take 4 (some 19) _ rfl rfl (by kernel_rfl) (by kernel_rfl) (by kernel_rfl) (fun _ _ _ h => h) (by rfl) hH ?hy86 ?rest86
      case hy86 =>
        intro X hX
        go_simp
        try rfl
      simp only [Act.put, List.setIfInBounds_toArray, List.set_cons_zero, List.set_cons_succ]
      refine' hw_take 5 (some 20) _ rfl rfl (by kernel_rfl) (by kernel_rfl) (by kernel_rfl) (fun _ _ _ h => h) (by rfl) hH ?hy87 ?rest87
      case hy87 =>
        intro X hX
        go_simp
        try rfl
      simp only [Act.put, List.setIfInBounds_toArray, List.set_cons_zero, List.set_cons_succ]
      refine' hw_take 6 (some 21) _ rfl rfl (by kernel_rfl) (by kernel_rfl) (by kernel_rfl) (fun _ _ _ h => h) (by rfl) hH ?hy88 ?rest88
      case hy88 =>
        intro X hX
        go_simp
        try rfl
      simp only [Act.put, List.setIfInBounds_toArray, List.set_cons_zero, List.set_cons_succ]
      refine' hw_take 7 (some 22) _ rfl rfl (by kernel_rfl) (by kernel_rfl) (by kernel_rfl) (fun _ _ _ h => h) (by rfl) hH ?hy89 ?rest89
      case hy89 =>
        intro X hX
        have cY := (hb1.new hX).cells
        have qa := hX.cell q5
        have qb := hX.cell q4
        go_simp
        try rfl
      simp only [Act.put, List.setIfInBounds_toArray, List.set_cons_zero, List.set_cons_succ]
      refine' hw_take 8 (some 23) _ rfl rfl (by kernel_rfl) (by kernel_rfl) (by kernel_rfl) (fun _ _ _ h => h) (by rfl) hH ?hy90 ?rest90
      case hy90 =>
        intro X hX
        go_simp
        try rfl
      simp only [Act.put, List.setIfInBounds_toArray, List.set_cons_zero, List.set_cons_succ]
      refine' hw_take 9 (some 24) (.bool false) rfl rfl (by kernel_rfl) (by kernel_rfl) (by kernel_rfl) (fun _ _ _ h => h) (by rfl) hH ?hyL91 ?restL91
      case hyL91 =>
        intro X hX
        go_simp
        try rfl
      simp only [Act.put, List.setIfInBounds_toArray, List.set_cons_zero, List.set_cons_succ]
      refine' hw_take 10 (some 25) _ rfl rfl (by kernel_rfl) (by kernel_rfl) (by kernel_rfl) (fun _ _ _ h => h) (by rfl) hH ?hy92 ?rest92
      case hy92 =>
        intro X hX
        go_simp
        try rfl
      simp only [Act.put, List.setIfInBounds_toArray, List.set_cons_zero, List.set_cons_succ]
      refine' hw_take 11 (some 26) _ rfl rfl (by kernel_rfl) (by kernel_rfl) (by kernel_rfl) (fun _ _ _ h => h) (by rfl) hH ?hy93 ?rest93
      case hy93 =>
        intro X hX
        go_simp
        try rfl
      simp only [Act.put, List.setIfInBounds_toArray, List.set_cons_zero, List.set_cons_succ]
      refine' hw_take 12 (some 27) _ rfl rfl (by kernel_rfl) (by kernel_rfl) (by kernel_rfl) (fun _ _ _ h => h) (by rfl) hH ?hy94 ?rest94
      case hy94 =>
        intro X hX
        go_simp
        try rfl
      simp only [Act.put, List.setIfInBounds_toArray, List.set_cons_zero, List.set_cons_succ]
      refine' hw_take 13 (some 28) _ rfl rfl (by kernel_rfl) (by kernel_rfl) (by kernel_rfl) (fun _ _ _ h => h) (by rfl) hH ?hy95 ?rest95
      case hy95 =>
        intro X hX
        go_simp
        try rfl
      simp only [Act.put, List.setIfInBounds_toArray, List.set_cons_zero, List.set_cons_succ]
      refine' hw_take 14 (some 29) _ rfl rfl (by kernel_rfl) (by kernel_rfl) (by kernel_rfl) (fun _ _ _ h => h) (by rfl) hH ?hy96 ?rest96
      case hy96 =>
        intro X hX
        have cY := (hb1.new hX).cells
        have qa := hX.cell q5
        have qb := hX.cell q4
        go_simp
        try rfl
      simp only [Act.put, List.setIfInBounds_toArray, List.set_cons_zero, List.set_cons_succ]
      refine' hw_take 15 (some 30) _ rfl rfl (by kernel_rfl) (by kernel_rfl) (by kernel_rfl) (fun _ _ _ h => h) (by rfl) hH ?hy97 ?rest97
      case hy97 =>
        intro X hX
        go_simp
        try rfl
      simp only [Act.put, List.setIfInBounds_toArray, List.set_cons_zero, List.set_cons_succ]
      refine' hw_take 16 (some 31) _ rfl rfl (by kernel_rfl) (by kernel_rfl) (by kernel_rfl) (fun _ _ _ h => h) (by rfl) hH ?hy98 ?rest98
      case hy98 =>
        intro X hX
        go_simp
        try rfl
      simp only [Act.put, List.setIfInBounds_toArray, List.set_cons_zero, List.set_cons_succ]
      refine' hw_take 17 (some 32) _ rfl rfl (by kernel_rfl) (by kernel_rfl) (by kernel_rfl) (fun _ _ _ h => h) (by rfl) hH ?hy99 ?rest99
      case hy99 =>
        intro X hX
        go_simp
        try rfl
      simp only [Act.put, List.setIfInBounds_toArray, List.set_cons_zero, List.set_cons_succ]
      refine' hw_take 18 (some 33) _ rfl rfl (by kernel_rfl) (by kernel_rfl) (by kernel_rfl) (fun _ _ _ h => h) (by rfl) hH ?hy100 ?rest100
      case hy100 =>
        intro X hX
        have cY := (hb1.new hX).cells
        have qa := hX.cell q5
        have qb := hX.cell q4
        go_simp
        try rfl
      simp only [Act.put, List.setIfInBounds_toArray, List.set_cons_zero, List.set_cons_succ]
      refine' hw_take 20 (some 35) _ rfl rfl (by kernel_rfl) (by kernel_rfl) (by kernel_rfl) (fun _ _ _ h => h) (by rfl) hH ?hy101 ?rest101
      case hy101 =>
        intro X hX
        go_simp
        try rfl
      simp only [Act.put, List.setIfInBounds_toArray, List.set_cons_zero, List.set_cons_succ]
      refine' hw_take 21 (some 36) _ rfl rfl (by kernel_rfl) (by kernel_rfl) (by kernel_rfl) (fun _ _ _ h => h) (by rfl) hH ?hy102 ?rest102
      case hy102 =>
        intro X hX
        go_simp
        try rfl
      simp only [Act.put, List.setIfInBounds_toArray, List.set_cons_zero, List.set_cons_succ]
      refine' hw_take 22 (some 37) _ rfl rfl (by kernel_rfl) (by kernel_rfl) (by kernel_rfl) (fun _ _ _ h => h) (by rfl) hH ?hy103 ?rest103
      case hy103 =>
        intro X hX
        go_simp
        try rfl
      simp only [Act.put, List.setIfInBounds_toArray, List.set_cons_zero, List.set_cons_succ]
      refine' hw_take 23 (some 38) _ rfl rfl (by kernel_rfl) (by kernel_rfl) (by kernel_rfl) (fun _ _ _ h => h) (by rfl) hH ?hy104 ?rest104
      case hy104 =>
        intro X hX
        have cY := (hb1.new hX).cells
        have qa := hX.cell q5
        have qb := hX.cell q4
        go_simp
        try rfl
      simp only [Act.put, List.setIfInBounds_toArray, List.set_cons_zero, List.set_cons_succ]
      refine' hw_take 24 (some 39) _ rfl rfl (by kernel_rfl) (by kernel_rfl) (by kernel_rfl) (fun _ _ _ h => h) (by rfl) hH ?hy105 ?rest105
      case hy105 =>
        intro X hX
        go_simp
        try rfl
      simp only [Act.put, List.setIfInBounds_toArray, List.set_cons_zero, List.set_cons_succ]
      refine hw_call 19 (some 34) rfl rfl (by kernel_rfl) (by rfl) (fun K hK => ?_)
      go_simp
      refine (comS x aS m d nS cS xs LS _ (hx.new hH) ((hS.new hnw).new hH) HL.out HLS.out (by omega) (by omega)).mono ?_
      rintro e wb ⟨rfl, hnb⟩
      have hw2 := (hnw.drew).trans hnb
      generalize cF (xs.map EkV.r) (LS.map EkV.r) = k0 at *
      go_simp
      refine hK.out _ _ (hH.trans hnb) (fun hH2 => ?_)
      simp only [Act.put, List.setIfInBounds_toArray, List.set_cons_zero, List.set_cons_succ]
      by_cases hkk : k0 = nS
      · have HR : Hid (srF (LS.map EkV.r) ((LN.map NdV.r).drop (k + 1)) = v) := by unfold Hid; have := HD1.out; simpa [hkk] using this
        have g2 : ((k0 : Int) != (nS : Int)) = false := by simp [hkk]
        clear HD1
        have HKK : Hid (k0 = nS) := hkk
        clear hkk
        refine' hw_take 25 (some 40) (.bool false) rfl rfl (by kernel_rfl) (by kernel_rfl) (by kernel_rfl) (fun _ _ _ h => h) (by rfl) hH2 ?hyL106 ?restL106
        case hyL106 =>
          intro X hX
          go_simp
          try rfl
        simp only [Act.put, List.setIfInBounds_toArray, List.set_cons_zero, List.set_cons_succ]
        refine' hw_take 26 (some 41) _ rfl rfl (by kernel_rfl) (by kernel_rfl) (by kernel_rfl) (fun _ _ _ h => h) (by rfl) hH2 ?hy107 ?rest107
        case hy107 =>
          intro X hX
          go_simp
          try rfl
        simp only [Act.put, List.setIfInBounds_toArray, List.set_cons_zero, List.set_cons_succ]
        refine wpAnyH_done (by kernel_rfl) ?_ _
        go_wp2
        go_roundw
        case rel => exact ⟨k + 1, by omega, by go_num, hw2, HR⟩
        case measure => simp [intOf]; omega
      · have HR : Hid (false = v) := by unfold Hid; have := HD1.out; simpa [hkk] using this
        have g2 : ((k0 : Int) != (nS : Int)) = true := by simp; omega
        clear HD1
        refine' hw_take 25 (some 40) (.bool true) rfl rfl (by kernel_rfl) (by kernel_rfl) (by kernel_rfl) (fun _ _ _ h => h) (by rfl) hH2 ?hyL108 ?restL108
        case hyL108 =>
          intro X hX
          go_simp
          try rfl
        simp only [Act.put, List.setIfInBounds_toArray, List.set_cons_zero, List.set_cons_succ]
        refine' hw_take 26 (some 41) _ rfl rfl (by kernel_rfl) (by kernel_rfl) (by kernel_rfl) (fun _ _ _ h => h) (by rfl) hH2 ?hy109 ?rest109
        case hy109 =>
          intro X hX
          go_simp
          try rfl
        simp only [Act.put, List.setIfInBounds_toArray, List.set_cons_zero, List.set_cons_succ]
        refine wpAnyH_done (by kernel_rfl) ?_ _
        go_wp2
        go_ret
        exact ⟨ret_bool HR.out, hw2⟩

end Go.Proofs.YtkbdmcimgepakaaGreat

namespace Go.Proofs.YtkbdmcimgepakaaGreat
open Go.ChangeShapes Go.WideShapes Go.ChangeAt Go.RowKit
set_option linter.unusedVariables false
set_option linter.unusedSimpArgs false

set_option maxRecDepth 100000

set_option maxHeartbeats 3200000 in
theorem implSR (sa si ho nx : Int) (a1 a2 aN aW aM aS : Option Addr) (n1 c1 n2 c2 nN cN nW cW nM cM nS cS : Nat) (r1 r2 : List Ru) (LN : List NdV) (LW : List WiV) (LM : List MlV) (LS : List EkV) (w : World) (h : PAt w a1 a2 aN aW aM aS r1 r2 LN LW LM LS) (l1 : r1.length = n1) (l2 : r2.length = n2) (lN : LN.length = nN) (lW : LW.length = nW) (lM : LM.length = nM) (lS : LS.length = nS) (m1 : n1 ≤ 1048576) (m2 : n2 ≤ 1048576) (mN : nN ≤ 1048576) (mW : nW ≤ 1048576) (mM : nM ≤ 1048576) (mS : nS ≤ 1048576) (v : Bool) (hv : (decide (pF sa si ho nx r1 r2 (LN.map NdV.r) (LW.map WiV.r) (LM.map MlV.r) (LS.map EkV.r) = 0) && srF (LS.map EkV.r) (LN.map NdV.r)) = v) :
    Calls Tryz.prog 10 #[.agg #[.int .i64 sa, .int .i64 si, .int .i64 ho, .int .i64 nx, .slice a1 n1 c1, .slice a2 n2 c2, .slice aN nN cN, .slice aW nW cW, .slice aM nM cM, .slice aS nS cS]] w fun e w' => e = .returned (.bool v) ∧ New w w' := by
  have hw := (New.refl w).alloc (.cells #[.int .i64 sa, .int .i64 si, .int .i64 ho, .int .i64 nx, .slice a1 n1 c1, .slice a2 n2 c2, .slice aN nN cN, .slice aW nW cW, .slice aM nM cM, .slice aS nS cS] 44)
  have b0 := Blk.mk w w.heap.size 44 #[.int .i64 sa, .int .i64 si, .int .i64 ho, .int .i64 nx, .slice a1 n1 c1, .slice a2 n2 c2, .slice aN nN cN, .slice aW nW cW, .slice aM nM cM, .slice aS nS cS] rfl
  have HV : Hid ((decide (pF sa si ho nx r1 r2 (LN.map NdV.r) (LW.map WiV.r) (LM.map MlV.r) (LS.map EkV.r) = 0) && srF (LS.map EkV.r) (LN.map NdV.r)) = v) := hv
  clear hv
  obtain ⟨f, hf⟩ : ∃ f, pF sa si ho nx r1 r2 (LN.map NdV.r) (LW.map WiV.r) (LM.map MlV.r) (LS.map EkV.r) = f := ⟨_, rfl⟩
  have cb := b0.cells
  go_enter Tryz.func10, Tryz.ntmps10
  go_wp2_with fail
  refine (implPaF sa si ho nx a1 a2 aN aW aM aS n1 c1 n2 c2 nN cN nW cW nM cM nS cS r1 r2 LN LW LM LS _ (h.new hw) l1 l2 lN lW lM lS m1 m2 mN mW mM mS f hf).mono ?_
  rintro e w1 ⟨rfl, hn1⟩
  have hw1 := hw.trans hn1
  have b1 := b0.new hn1
  clear cb
  by_cases hf0 : f = 0
  case neg =>
    have g : (f == 0) = false := by simp [hf0]
    have HR : Hid (false = v) := by have := HV.out; rw [show decide (pF sa si ho nx r1 r2 (LN.map NdV.r) (LW.map WiV.r) (LM.map MlV.r) (LS.map EkV.r) = 0) = false from by rw [hf]; simpa using hf0] at this; exact this
    clear HV hf
    go_wp2
    go_ret
    exact ⟨ret_bool HR.out, hw1⟩
  have hfz : pF sa si ho nx r1 r2 (LN.map NdV.r) (LW.map WiV.r) (LM.map MlV.r) (LS.map EkV.r) = 0 := by rw [hf]; exact hf0
  have hl := pF_two hfz
  have HSU : Hid (∀ x ∈ LN.map NdV.r, x.2.2.2.2.1 ≤ (x.2.2.2.2.2.2.2.2.length : Int)) := pF_su hfz
  rw [List.length_map, List.length_map, lN, lW] at hl
  have HR : Hid (srF (LS.map EkV.r) (LN.map NdV.r) = v) := by unfold Hid; have := HV.out; rw [show decide (pF sa si ho nx r1 r2 (LN.map NdV.r) (LW.map WiV.r) (LM.map MlV.r) (LS.map EkV.r) = 0) = true from by simpa using hfz] at this; simpa using this
  clear HV hf hfz
  subst hf0
  obtain ⟨rfl, rfl⟩ := hl
  have HRN : Hid (LN.length = 2) := lN
  have HRW : Hid (LW.length = 3) := lW
  clear lN lW
  have cb := b1.cells
  go_wp2_with fail
  refine (sealI sa si ho nx a1 a2 aN aW aM aS n1 c1 n2 c2 cN cW nM cM nS cS r1 r2 LN LS w.heap.size _ b1 (h.nd.new hw1) (h.se.new hw1) HRN.out lS mS h.fitN (by intro v hv; have := HSU.out (NdV.r v) (List.mem_map_of_mem hv); simpa [NdV.r] using this) v HR.out).mono ?_
  rintro e w2 ⟨rfl, hn2⟩
  go_wp2
  go_ret
  exact ⟨rfl, hw1.trans hn2⟩

set_option maxHeartbeats 3200000 in
theorem specSR (sa si ho nx : Int) (a1 a2 aN aW aM aS : Option Addr) (n1 c1 n2 c2 nN cN nW cW nM cM nS cS : Nat) (r1 r2 : List Ru) (LN : List NdV) (LW : List WiV) (LM : List MlV) (LS : List EkV) (w : World) (h : PAt w a1 a2 aN aW aM aS r1 r2 LN LW LM LS) (l1 : r1.length = n1) (l2 : r2.length = n2) (lN : LN.length = nN) (lW : LW.length = nW) (lM : LM.length = nM) (lS : LS.length = nS) (m1 : n1 ≤ 1048576) (m2 : n2 ≤ 1048576) (mN : nN ≤ 1048576) (mW : nW ≤ 1048576) (mM : nM ≤ 1048576) (mS : nS ≤ 1048576) (v : Bool) (hv : (decide (pF sa si ho nx r1 r2 (LN.map NdV.r) (LW.map WiV.r) (LM.map MlV.r) (LS.map EkV.r) = 0) && srF (LS.map EkV.r) (LN.map NdV.r)) = v) :
    Calls Tryz.prog 8 #[.agg #[.int .i64 sa, .int .i64 si, .int .i64 ho, .int .i64 nx, .slice a1 n1 c1, .slice a2 n2 c2, .slice aN nN cN, .slice aW nW cW, .slice aM nM cM, .slice aS nS cS]] w fun e w' => e = .returned (.bool v) ∧ New w w' := by
  have hw := (New.refl w).alloc (.cells #[.int .i64 sa, .int .i64 si, .int .i64 ho, .int .i64 nx, .slice a1 n1 c1, .slice a2 n2 c2, .slice aN nN cN, .slice aW nW cW, .slice aM nM cM, .slice aS nS cS] 44)
  have b0 := Blk.mk w w.heap.size 44 #[.int .i64 sa, .int .i64 si, .int .i64 ho, .int .i64 nx, .slice a1 n1 c1, .slice a2 n2 c2, .slice aN nN cN, .slice aW nW cW, .slice aM nM cM, .slice aS nS cS] rfl
  have HV : Hid ((decide (pF sa si ho nx r1 r2 (LN.map NdV.r) (LW.map WiV.r) (LM.map MlV.r) (LS.map EkV.r) = 0) && srF (LS.map EkV.r) (LN.map NdV.r)) = v) := hv
  clear hv
  obtain ⟨f, hf⟩ : ∃ f, pF sa si ho nx r1 r2 (LN.map NdV.r) (LW.map WiV.r) (LM.map MlV.r) (LS.map EkV.r) = f := ⟨_, rfl⟩
  have cb := b0.cells
  go_enter Tryz.func8, Tryz.ntmps8
  go_wp2_with fail
  refine (specPaFp sa si ho nx a1 a2 aN aW aM aS n1 c1 n2 c2 nN cN nW cW nM cM nS cS r1 r2 LN LW LM LS w.heap.size _ b0 (h.new hw) l1 l2 lN lW lM lS m1 m2 mN mW mM mS f hf).mono ?_
  rintro e w1 ⟨rfl, hn1⟩
  have hw1 := hw.trans hn1
  have b1 := b0.new hn1
  clear cb
  by_cases hf0 : f = 0
  case neg =>
    have g : (f == 0) = false := by simp [hf0]
    have HR : Hid (false = v) := by have := HV.out; rw [show decide (pF sa si ho nx r1 r2 (LN.map NdV.r) (LW.map WiV.r) (LM.map MlV.r) (LS.map EkV.r) = 0) = false from by rw [hf]; simpa using hf0] at this; exact this
    clear HV hf
    go_wp2
    go_ret
    exact ⟨ret_bool HR.out, hw1⟩
  have hfz : pF sa si ho nx r1 r2 (LN.map NdV.r) (LW.map WiV.r) (LM.map MlV.r) (LS.map EkV.r) = 0 := by rw [hf]; exact hf0
  have hl := pF_two hfz
  have HSU : Hid (∀ x ∈ LN.map NdV.r, x.2.2.2.2.1 ≤ (x.2.2.2.2.2.2.2.2.length : Int)) := pF_su hfz
  rw [List.length_map, List.length_map, lN, lW] at hl
  have HR : Hid (srF (LS.map EkV.r) (LN.map NdV.r) = v) := by unfold Hid; have := HV.out; rw [show decide (pF sa si ho nx r1 r2 (LN.map NdV.r) (LW.map WiV.r) (LM.map MlV.r) (LS.map EkV.r) = 0) = true from by simpa using hfz] at this; simpa using this
  clear HV hf hfz
  subst hf0
  obtain ⟨rfl, rfl⟩ := hl
  have HRN : Hid (LN.length = 2) := lN
  have HRW : Hid (LW.length = 3) := lW
  clear lN lW
  have cb := b1.cells
  go_wp2_with fail
  refine (sealS sa si ho nx a1 a2 aN aW aM aS n1 c1 n2 c2 cN cW nM cM nS cS r1 r2 LN LS w.heap.size _ b1 (h.nd.new hw1) (h.se.new hw1) HRN.out lS mS h.fitN (by intro v hv; have := HSU.out (NdV.r v) (List.mem_map_of_mem hv); simpa [NdV.r] using this) v HR.out).mono ?_
  rintro e w2 ⟨rfl, hn2⟩
  go_wp2
  go_ret
  exact ⟨rfl, hw1.trans hn2⟩

end Go.Proofs.YtkbdmcimgepakaaGreat
