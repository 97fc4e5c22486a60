/- What is proved here: the text that bytes turn to, and that two lists of bytes have one text only where they are the same. What is proved here: what the comparing of bytes and of entries answers, both sides What is proved here: what the comparing of logs answers, both sides What is proved here: that logs match, as lists; what the model's l15Match answers What is proved here: what the program's logsMatch answers What is proved here: what LogsMatch answers, both sides -/
import Derived.Test.YtkbdmcimgepakaaGreatBytes
import Derived.Test.YtkbdmcimgepakaaGreatUtil
import Derived.Laws.IdiomStrings
import Derived.Test.YtkbdmcimgepakaaGreatPO2
import Derived.Deep.RegionHeld3
import Derived.Test.YtkbdmcimgepakaaGreatPO3
import Derived.Test.YtkbdmcimgepakaaGreatPO4
namespace Go.Proofs.YtkbdmcimgepakaaGreat
open Go.RowKit
set_option linter.unusedVariables false

/-- The text of bytes. -/
def str9 (zs : List Int) : ByteArray := zs.foldl (fun r n => r.push (UInt8.ofNat n.toNat)) ByteArray.empty

theorem str9_fold : ∀ (zs : List Int) (r : ByteArray), (zs.foldl (fun r n => r.push (UInt8.ofNat n.toNat)) r).data.toList = r.data.toList ++ zs.map (fun n => UInt8.ofNat n.toNat)
  | [], r => by simp
  | z :: zs, r => by
    rw [List.foldl_cons, str9_fold zs]
    simp [ByteArray.push]
theorem str9_data (zs : List Int) : (str9 zs).data.toList = zs.map (fun n => UInt8.ofNat n.toNat) := by
  unfold str9
  rw [str9_fold]
  rfl

theorem str_eq_self (a : ByteArray) : (a == a) = true := by
  show (a.data == a.data) = true
  simp
theorem str_ne_self (a : ByteArray) : (a != a) = false := by
  show (!(a.data == a.data)) = false
  simp
theorem str_eq_of {a b : ByteArray} (h : ¬ a = b) : (a == b) = false := by
  show (a.data == b.data) = false
  simp
  intro e
  apply h
  cases a; cases b; simp_all
theorem str_ne_of {a b : ByteArray} (h : ¬ a = b) : (a != b) = true := by
  show (!(a.data == b.data)) = true
  simp
  intro e
  apply h
  cases a; cases b; simp_all

theorem str_list_of {a b : ByteArray} (h : ¬ a = b) : (a.toList == b.toList) = false := by
  rw [ByteArray.toList_eq, ByteArray.toList_eq]
  simp
  intro e
  apply h
  cases a; cases b; simp_all

theorem u8_inj {x y : Int} (hx : 0 ≤ x ∧ x ≤ 255) (hy : 0 ≤ y ∧ y ≤ 255) (h : UInt8.ofNat x.toNat = UInt8.ofNat y.toNat) : x = y := by
  have h' := congrArg UInt8.toNat h
  simp only [UInt8.toNat_ofNat'] at h'
  omega
theorem map_u8_inj : ∀ (xs ys : List Int), (∀ z ∈ xs, 0 ≤ z ∧ z ≤ 255) → (∀ z ∈ ys, 0 ≤ z ∧ z ≤ 255) → xs.map (fun n => UInt8.ofNat n.toNat) = ys.map (fun n => UInt8.ofNat n.toNat) → xs = ys
  | [], [], _, _, _ => rfl
  | [], y :: ys, _, _, h => by simp at h
  | x :: xs, [], _, _, h => by simp at h
  | x :: xs, y :: ys, hx, hy, h => by
    simp only [List.map_cons, List.cons.injEq] at h
    rw [u8_inj (hx x (by simp)) (hy y (by simp)) h.1, map_u8_inj xs ys (fun z hz => hx z (by simp [hz])) (fun z hz => hy z (by simp [hz])) h.2]
theorem str9_inj {xs ys : List Int} (hx : ∀ z ∈ xs, 0 ≤ z ∧ z ≤ 255) (hy : ∀ z ∈ ys, 0 ≤ z ∧ z ≤ 255) (h : str9 xs = str9 ys) : xs = ys := by
  have h' := congrArg (fun b : ByteArray => b.data.toList) h
  simp only [str9_data] at h'
  exact map_u8_inj xs ys hx hy h'

theorem run_str9 (a : Option Addr) (n c : Nat) (zs : List Int) (w : World) (h : BsAt w a zs) (hn : zs.length = n) (hnone : a = none → n = 0 ∧ c = 0) :
    (convert 78 9 (.slice a n c)).run Tryz.prog w = .ok (.string (str9 zs)) w := by
  rw [run_convert_bytes_string w _ _ 5 a n c Tryz.underlying78 Tryz.underlying5 Tryz.underlying9]
  cases a with
  | none =>
    obtain ⟨rfl, rfl⟩ := hnone rfl
    obtain rfl := List.eq_nil_of_length_eq_zero hn
    simp [Conv.bytesToString, str9]
  | some x =>
    refine run_bytesToString w x n c zs ?_
    have hl := run_loadCells_list (P := Tryz.prog) (w := w) x (zs.map (Value.int .u8)) (by
      intro j v hv
      rw [List.getElem?_map] at hv
      obtain ⟨z, hz, rfl⟩ := Option.map_eq_some_iff.1 hv
      obtain ⟨b, off, e, hc, _⟩ := h j z hz
      obtain rfl := Option.some.inj e
      rw [Addr.add_lit]
      exact hc)
    rw [List.length_map, hn] at hl
    exact hl

end Go.Proofs.YtkbdmcimgepakaaGreat

namespace Go.Proofs.YtkbdmcimgepakaaGreat
open Go.ChangeShapes Go.WideShapes Go.ChangeAt Go.RowKit
set_option linter.unusedVariables false
set_option linter.unusedSimpArgs false

set_option maxRecDepth 100000

theorem run_str9c (a : Option Addr) (n c : Nat) (zs : List Int) (w : World) (h : BsAt w a zs) (hn : zs.length = n) : (convert 78 9 (.slice a n c)).run Tryz.prog w = .ok (.string (str9 zs)) w := by
  cases a with
  | none =>
    rw [run_convert_bytes_string w _ _ 5 none n c Tryz.underlying78 Tryz.underlying5 Tryz.underlying9]
    have hz : zs = [] := by
      cases zs with
      | nil => rfl
      | cons z t =>
        obtain ⟨b, off, e, -⟩ := h 0 z rfl
        cases e
    subst hz
    simp [Conv.bytesToString, str9]
  | some x => exact run_str9 (some x) n c zs w h hn (by intro e; cases e)

set_option maxHeartbeats 800000 in
theorem bEq_any (x y : Option Addr) (m d q f : Nat) (xs ys : List Int) (w : World) (hx : BsAt w x xs) (hy : BsAt w y ys) (lx : xs.length = m) (ly : ys.length = q) :
    Calls Tryz.prog 108 #[.slice x m d, .slice y q f] w fun e w' => e = .returned (.bool (decide (xs = ys))) ∧ w' = w := by
  have r1 := run_str9c x m d xs w hx lx
  have r2 := run_str9c y q f ys w hy ly
  by_cases h : xs = ys
  · have HR : Hid (true = decide (xs = ys)) := by unfold Hid; simp [h]
    have e9 : str9 xs = str9 ys := by rw [h]
    rw [← e9] at r2
    have s1 := str_eq_self (str9 xs)
    clear h e9 lx ly hx hy
    generalize str9 xs = S9 at *
    go_enter Tryz.func108, Tryz.ntmps108
    go_wp2
    go_ret
    exact ⟨ret_bool HR.out, rfl⟩
  · have HR : Hid (false = decide (xs = ys)) := by unfold Hid; simp [h]
    have e9 : ¬ str9 xs = str9 ys := fun e => h (str9_inj hx.lt hy.lt e)
    have s1 := str_eq_of e9
    have s2 := str_list_of e9
    clear h lx ly hx hy
    generalize str9 xs = S9 at *
    generalize str9 ys = S8 at *
    have HE : Hid (¬ S9 = S8) := e9
    clear e9
    go_enter Tryz.func108, Tryz.ntmps108
    go_wp2
    go_ret
    exact ⟨ret_bool HR.out, rfl⟩

/-- Two entries are the same. -/
def sE (a b : Ek) : Bool := decide (a.ep = b.ep) && (decide (a.ki = b.ki) && (decide (a.pe = b.pe) && decide (a.xs = b.xs)))

set_option maxHeartbeats 1600000 in
theorem seI (e1 k1 p1 : Int) (x : Option Addr) (m d : Nat) (xs : List Int) (e2 k2 p2 : Int) (y : Option Addr) (q f : Nat) (ys : List Int) (w : World) (hx : BsAt w x xs) (hy : BsAt w y ys) (lx : xs.length = m) (ly : ys.length = q) :
    Calls Tryz.prog 74 #[.agg #[.int .i64 e1, .int .i64 k1, .int .i64 p1, .slice x m d], .agg #[.int .i64 e2, .int .i64 k2, .int .i64 p2, .slice y q f]] w fun e w' => e = .returned (.bool (sE ⟨e1, k1, p1, xs⟩ ⟨e2, k2, p2, ys⟩)) ∧ New w w' := by
  have hw := ((New.refl w).alloc (.cells #[.int .i64 e1, .int .i64 k1, .int .i64 p1, .slice x m d] 95)).alloc (.cells #[.int .i64 e2, .int .i64 k2, .int .i64 p2, .slice y q f] 95)
  have b0 := (Blk.mk w w.heap.size 95 #[.int .i64 e1, .int .i64 k1, .int .i64 p1, .slice x m d] rfl).alloc (.cells #[.int .i64 e2, .int .i64 k2, .int .i64 p2, .slice y q f] 95)
  have b1 := Blk.mk (w.alloc (.cells #[.int .i64 e1, .int .i64 k1, .int .i64 p1, .slice x m d] 95)) (w.heap.size + 1) 95 #[.int .i64 e2, .int .i64 k2, .int .i64 p2, .slice y q f] (by simp)
  have hx1 := hx.new hw
  have hy1 := hy.new hw
  have H : Hid (sE ⟨e1, k1, p1, xs⟩ ⟨e2, k2, p2, ys⟩ = (decide (e1 = e2) && (decide (k1 = k2) && (decide (p1 = p2) && decide (xs = ys))))) := rfl
  clear hx hy
  by_cases h1 : e1 = e2
  case neg =>
    have HR : Hid (false = sE ⟨e1, k1, p1, xs⟩ ⟨e2, k2, p2, ys⟩) := by unfold Hid; rw [H.out]; simp [h1]
    have gn : (e1 == e2) = false := by simp [h1]
    clear H h1
    go_enter Tryz.func74, Tryz.ntmps74
    go_upto_region 1 with fail
    generalize (w.alloc (.cells #[.int .i64 e1, .int .i64 k1, .int .i64 p1, .slice x m d] 95)).alloc (.cells #[.int .i64 e2, .int .i64 k2, .int .i64 p2, .slice y q f] 95) = w0 at *
    have c0 := b0.cells
    have c1 := b1.cells
    go_wp2
    go_ret
    exact ⟨ret_bool HR.out, hw⟩
  have g1 : (e1 == e2) = true := by simp [h1]
  have H1 : Hid (e1 = e2) := h1
  clear h1
  by_cases h2 : k1 = k2
  case neg =>
    have HR : Hid (false = sE ⟨e1, k1, p1, xs⟩ ⟨e2, k2, p2, ys⟩) := by unfold Hid; rw [H.out]; simp [h2]
    have gn : (k1 == k2) = false := by simp [h2]
    clear H h2
    go_enter Tryz.func74, Tryz.ntmps74
    go_upto_region 1 with fail
    generalize (w.alloc (.cells #[.int .i64 e1, .int .i64 k1, .int .i64 p1, .slice x m d] 95)).alloc (.cells #[.int .i64 e2, .int .i64 k2, .int .i64 p2, .slice y q f] 95) = w0 at *
    have c0 := b0.cells
    have c1 := b1.cells
    go_wp2
    go_ret
    exact ⟨ret_bool HR.out, hw⟩
  have g2 : (k1 == k2) = true := by simp [h2]
  have H2 : Hid (k1 = k2) := h2
  clear h2
  by_cases h3 : p1 = p2
  case neg =>
    have HR : Hid (false = sE ⟨e1, k1, p1, xs⟩ ⟨e2, k2, p2, ys⟩) := by unfold Hid; rw [H.out]; simp [h3]
    have gn : (p1 == p2) = false := by simp [h3]
    clear H h3
    go_enter Tryz.func74, Tryz.ntmps74
    go_upto_region 1 with fail
    generalize (w.alloc (.cells #[.int .i64 e1, .int .i64 k1, .int .i64 p1, .slice x m d] 95)).alloc (.cells #[.int .i64 e2, .int .i64 k2, .int .i64 p2, .slice y q f] 95) = w0 at *
    have c0 := b0.cells
    have c1 := b1.cells
    go_wp2
    go_ret
    exact ⟨ret_bool HR.out, hw⟩
  have g3 : (p1 == p2) = true := by simp [h3]
  have H3 : Hid (p1 = p2) := h3
  clear h3
  have HR : Hid (decide (xs = ys) = sE ⟨e1, k1, p1, xs⟩ ⟨e2, k2, p2, ys⟩) := by unfold Hid; rw [H.out]; simp [H1.out, H2.out, H3.out]
  clear H
  go_enter Tryz.func74, Tryz.ntmps74
  go_upto_region 1 with fail
  generalize (w.alloc (.cells #[.int .i64 e1, .int .i64 k1, .int .i64 p1, .slice x m d] 95)).alloc (.cells #[.int .i64 e2, .int .i64 k2, .int .i64 p2, .slice y q f] 95) = w0 at *
  have c0 := b0.cells
  have c1 := b1.cells
  go_wp2_with fail
  refine (bEq_any x y m d q f xs ys _ hx1 hy1 lx ly).mono ?_
  rintro e wz ⟨rfl, hwz⟩
  obtain rfl := hwz.symm
  generalize decide (xs = ys) = b at *
  go_wp2
  go_ret
  exact ⟨ret_bool HR.out, hw⟩

set_option maxHeartbeats 1600000 in
theorem seS (e1 k1 p1 : Int) (x : Option Addr) (m d : Nat) (xs : List Int) (e2 k2 p2 : Int) (y : Option Addr) (q f : Nat) (ys : List Int) (w : World) (hx : BsAt w x xs) (hy : BsAt w y ys) (lx : xs.length = m) (ly : ys.length = q) :
    Calls Tryz.prog 92 #[.agg #[.int .i64 e1, .int .i64 k1, .int .i64 p1, .slice x m d], .agg #[.int .i64 e2, .int .i64 k2, .int .i64 p2, .slice y q f]] w fun e w' => e = .returned (.bool (sE ⟨e1, k1, p1, xs⟩ ⟨e2, k2, p2, ys⟩)) ∧ New w w' := by
  have hw := ((New.refl w).alloc (.cells #[.int .i64 e1, .int .i64 k1, .int .i64 p1, .slice x m d] 95)).alloc (.cells #[.int .i64 e2, .int .i64 k2, .int .i64 p2, .slice y q f] 95)
  have b0 := (Blk.mk w w.heap.size 95 #[.int .i64 e1, .int .i64 k1, .int .i64 p1, .slice x m d] rfl).alloc (.cells #[.int .i64 e2, .int .i64 k2, .int .i64 p2, .slice y q f] 95)
  have b1 := Blk.mk (w.alloc (.cells #[.int .i64 e1, .int .i64 k1, .int .i64 p1, .slice x m d] 95)) (w.heap.size + 1) 95 #[.int .i64 e2, .int .i64 k2, .int .i64 p2, .slice y q f] (by simp)
  have hx1 := hx.new hw
  have hy1 := hy.new hw
  have H : Hid (sE ⟨e1, k1, p1, xs⟩ ⟨e2, k2, p2, ys⟩ = (decide (e1 = e2) && (decide (k1 = k2) && (decide (p1 = p2) && decide (xs = ys))))) := rfl
  clear hx hy
  by_cases h1 : e1 = e2
  case neg =>
    have HR : Hid (false = sE ⟨e1, k1, p1, xs⟩ ⟨e2, k2, p2, ys⟩) := by unfold Hid; rw [H.out]; simp [h1]
    have gn : (e1 == e2) = false := by simp [h1]
    clear H h1
    go_enter Tryz.func92, Tryz.ntmps92
    go_upto_region 1 with fail
    generalize (w.alloc (.cells #[.int .i64 e1, .int .i64 k1, .int .i64 p1, .slice x m d] 95)).alloc (.cells #[.int .i64 e2, .int .i64 k2, .int .i64 p2, .slice y q f] 95) = w0 at *
    have c0 := b0.cells
    have c1 := b1.cells
    go_wp2
    go_ret
    exact ⟨ret_bool HR.out, hw⟩
  have g1 : (e1 == e2) = true := by simp [h1]
  have H1 : Hid (e1 = e2) := h1
  clear h1
  by_cases h2 : k1 = k2
  case neg =>
    have HR : Hid (false = sE ⟨e1, k1, p1, xs⟩ ⟨e2, k2, p2, ys⟩) := by unfold Hid; rw [H.out]; simp [h2]
    have gn : (k1 == k2) = false := by simp [h2]
    clear H h2
    go_enter Tryz.func92, Tryz.ntmps92
    go_upto_region 1 with fail
    generalize (w.alloc (.cells #[.int .i64 e1, .int .i64 k1, .int .i64 p1, .slice x m d] 95)).alloc (.cells #[.int .i64 e2, .int .i64 k2, .int .i64 p2, .slice y q f] 95) = w0 at *
    have c0 := b0.cells
    have c1 := b1.cells
    go_wp2
    go_ret
    exact ⟨ret_bool HR.out, hw⟩
  have g2 : (k1 == k2) = true := by simp [h2]
  have H2 : Hid (k1 = k2) := h2
  clear h2
  by_cases h3 : p1 = p2
  case neg =>
    have HR : Hid (false = sE ⟨e1, k1, p1, xs⟩ ⟨e2, k2, p2, ys⟩) := by unfold Hid; rw [H.out]; simp [h3]
    have gn : (p1 == p2) = false := by simp [h3]
    clear H h3
    go_enter Tryz.func92, Tryz.ntmps92
    go_upto_region 1 with fail
    generalize (w.alloc (.cells #[.int .i64 e1, .int .i64 k1, .int .i64 p1, .slice x m d] 95)).alloc (.cells #[.int .i64 e2, .int .i64 k2, .int .i64 p2, .slice y q f] 95) = w0 at *
    have c0 := b0.cells
    have c1 := b1.cells
    go_wp2
    go_ret
    exact ⟨ret_bool HR.out, hw⟩
  have g3 : (p1 == p2) = true := by simp [h3]
  have H3 : Hid (p1 = p2) := h3
  clear h3
  have HR : Hid (decide (xs = ys) = sE ⟨e1, k1, p1, xs⟩ ⟨e2, k2, p2, ys⟩) := by unfold Hid; rw [H.out]; simp [H1.out, H2.out, H3.out]
  clear H
  go_enter Tryz.func92, Tryz.ntmps92
  go_upto_region 1 with fail
  generalize (w.alloc (.cells #[.int .i64 e1, .int .i64 k1, .int .i64 p1, .slice x m d] 95)).alloc (.cells #[.int .i64 e2, .int .i64 k2, .int .i64 p2, .slice y q f] 95) = w0 at *
  have c0 := b0.cells
  have c1 := b1.cells
  have r1 := run_str9c x m d xs w0 hx1 lx
  have r2 := run_str9c y q f ys w0 hy1 ly
  by_cases h : xs = ys
  · have e9 : str9 xs = str9 ys := by rw [h]
    rw [← e9] at r2
    have s1 := str_eq_self (str9 xs)
    have HR2 : Hid (true = decide (xs = ys)) := by unfold Hid; simp [h]
    rw [← HR2.out] at HR
    clear h e9 lx ly hx1 hy1 HR2
    generalize str9 xs = S9 at *
    go_wp2
    go_ret
    exact ⟨ret_bool HR.out, hw⟩
  · have e9 : ¬ str9 xs = str9 ys := fun e => h (str9_inj hx1.lt hy1.lt e)
    have s1 := str_eq_of e9
    have s2 := str_list_of e9
    have HR2 : Hid (false = decide (xs = ys)) := by unfold Hid; simp [h]
    rw [← HR2.out] at HR
    clear h lx ly hx1 hy1 HR2
    generalize str9 xs = S9 at *
    generalize str9 ys = S8 at *
    have HE : Hid (¬ S9 = S8) := e9
    clear e9
    go_wp2
    go_ret
    exact ⟨ret_bool HR.out, hw⟩

end Go.Proofs.YtkbdmcimgepakaaGreat

namespace Go.Proofs.YtkbdmcimgepakaaGreat
open Go.ChangeShapes Go.WideShapes Go.ChangeAt Go.RowKit
set_option linter.unusedVariables false
set_option linter.unusedSimpArgs false

set_option maxRecDepth 100000

/-- Two lists of entries are the same. -/
def sL : List Ek → List Ek → Bool
  | [], [] => true
  | a :: A, b :: B => sE a b && sL A B
  | _, _ => false
theorem sL_len {A B : List Ek} (h : ¬ A.length = B.length) : sL A B = false := by
  induction A generalizing B with
  | nil => cases B with
    | nil => simp at h
    | cons b B => rfl
  | cons a A ih => cases B with
    | nil => rfl
    | cons b B => simp [sL, ih (B := B) (by simpa using h)]
theorem sL_at {A B : List Ek} {k : Nat} {a b : Ek} (ha : A[k]? = some a) (hb : B[k]? = some b) : sL (A.drop k) (B.drop k) = (sE a b && sL (A.drop (k + 1)) (B.drop (k + 1))) := by
  obtain ⟨h1, e1⟩ := List.getElem?_eq_some_iff.1 ha
  obtain ⟨h2, e2⟩ := List.getElem?_eq_some_iff.1 hb
  rw [List.drop_eq_getElem_cons h1, List.drop_eq_getElem_cons h2, sL, e1, e2]
/-- How many entries two lists have in common. -/
def cF : List Ek → List Ek → Nat
  | a :: A, b :: B => if sE a b then cF A B + 1 else 0
  | _, _ => 0
theorem cF_at {A B : List Ek} {k : Nat} {a b : Ek} (ha : A[k]? = some a) (hb : B[k]? = some b) : cF (A.drop k) (B.drop k) = if sE a b then cF (A.drop (k + 1)) (B.drop (k + 1)) + 1 else 0 := by
  obtain ⟨h1, e1⟩ := List.getElem?_eq_some_iff.1 ha
  obtain ⟨h2, e2⟩ := List.getElem?_eq_some_iff.1 hb
  rw [List.drop_eq_getElem_cons h1, List.drop_eq_getElem_cons h2, cF, e1, e2]
theorem cF_end {A B : List Ek} {k : Nat} (h : A.length ≤ k ∨ B.length ≤ k) : cF (A.drop k) (B.drop k) = 0 := by
  rcases h with h | h
  · rw [List.drop_eq_nil_of_le h]; rfl
  · rw [List.drop_eq_nil_of_le h]; cases A.drop k <;> rfl

set_option maxHeartbeats 3200000 in
theorem eqL_any (A A2 : Option Addr) (n c n2 c2 : Nat) (V V2 : List EkV) (w : World) (h : LgAt w A V) (h2 : LgAt w A2 V2) (hn : V.length = n) (hn2 : V2.length = n2) (hm : n ≤ 2097152) (hm2 : n2 ≤ 2097152) :
    Calls Tryz.prog 104 #[.slice A n c, .slice A2 n2 c2, .func (.func 74) #[] #[]] w fun e w' => e = .returned (.bool (sL (V.map EkV.r) (V2.map EkV.r))) ∧ New w w' := by
  have HN : Hid (V.length = n) := hn
  have HN2 : Hid (V2.length = n2) := hn2
  obtain ⟨v, hv⟩ : ∃ v, sL (V.map EkV.r) (V2.map EkV.r) = v := ⟨_, rfl⟩
  rw [hv]
  have HF : Hid (sL ((V.map EkV.r).drop 0) ((V2.map EkV.r).drop 0) = v) := hv
  clear hv hn hn2
  by_cases hl : n = n2
  case neg =>
    have HR : Hid (false = v) := by unfold Hid; rw [← HF.out]; exact (sL_len (by simp [HN.out, HN2.out]; exact hl)).symm
    have g : ((n : Int) != (n2 : Int)) = true := by simp; omega
    clear hl HF
    go_enter Tryz.func104, Tryz.ntmps104
    go_wp2
    go_ret
    exact ⟨ret_bool HR.out, New.refl _⟩
  subst hl
  have g : ((n : Int) != (n : Int)) = false := by simp
  go_enter Tryz.func104, Tryz.ntmps104
  go_wp2
  go_loopw [17] (fun i wr => ∃ (k : Nat), k ≤ n ∧ i = .int .i64 k ∧ New w wr ∧ Hid (sL ((V.map EkV.r).drop k) ((V2.map EkV.r).drop k) = v)) (fun i _ => n - (intOf i).toNat)
  case atStart => exact ⟨0, Nat.zero_le _, rfl, New.refl _, HF⟩
  case round =>
    obtain ⟨k, hk, rfl, hnw, hL⟩ := hrel
    by_cases hlt : k < n
    · obtain ⟨g1, e1, k1, p1, x, m, d, xs, hg1, hv1, hl1, hx1, hmx1, a0, a1, a2, a3⟩ := (h.new hnw).at k (by have := HN.out; omega)
      obtain ⟨g2, e2, k2, p2, y, q, f, ys, hg2, hv2, hl2, hx2, hmx2, b0, b1, b2, b3⟩ := (h2.new hnw).at k (by have := HN2.out; omega)
      subst hg1 hg2
      have HD : Hid ((sE ⟨e1, k1, p1, xs⟩ ⟨e2, k2, p2, ys⟩ && sL ((V.map EkV.r).drop (k + 1)) ((V2.map EkV.r).drop (k + 1))) = v) := by
        unfold Hid
        have h3 := sL_at (A := V.map EkV.r) (B := V2.map EkV.r) (k := k) (a := ⟨e1, k1, p1, xs⟩) (b := ⟨e2, k2, p2, ys⟩) (by rw [List.getElem?_map, hv1]; rfl) (by rw [List.getElem?_map, hv2]; rfl)
        have h4 := hL.out
        rw [h3] at h4
        exact h4
      have al := ((New.refl wr).alloc (.cells #[.int .i64 e1, .int .i64 k1, .int .i64 p1, .slice x m d] 95)).alloc (.cells #[.int .i64 e2, .int .i64 k2, .int .i64 p2, .slice y q f] 95)
      have bx := (Blk.mk wr wr.heap.size 95 #[.int .i64 e1, .int .i64 k1, .int .i64 p1, .slice x m d] rfl).alloc (.cells #[.int .i64 e2, .int .i64 k2, .int .i64 p2, .slice y q f] 95)
      have by2 := Blk.mk (wr.alloc (.cells #[.int .i64 e1, .int .i64 k1, .int .i64 p1, .slice x m d] 95)) (wr.heap.size + 1) 95 #[.int .i64 e2, .int .i64 k2, .int .i64 p2, .slice y q f] (by simp)
      have hx1' := hx1.new al
      have hx2' := hx2.new al
      have HL1 : Hid (xs.length = m) := hl1
      have HL2 : Hid (ys.length = q) := hl2
      have al1 := (New.refl wr).alloc (.cells #[.int .i64 e1, .int .i64 k1, .int .i64 p1, .slice x m d] 95)
      have b0' := al1.cell b0
      have b1' := al1.cell b1
      have b2' := al1.cell b2
      have b3' := al1.cell b3
      clear hv1 hv2 hl1 hl2 hL
      go_upto_region 7 with fail
      generalize (wr.alloc (.cells #[.int .i64 e1, .int .i64 k1, .int .i64 p1, .slice x m d] 95)).alloc (.cells #[.int .i64 e2, .int .i64 k2, .int .i64 p2, .slice y q f] 95) = wa at *
      have cx := bx.cells
      have cy := by2.cells
      clear a0 a1 a2 a3 b0 b1 b2 b3 b0' b1' b2' b3'
      go_wp2_with fail
      refine (seI e1 k1 p1 x m d xs e2 k2 p2 y q f ys _ hx1' hx2' HL1.out HL2.out).mono ?_
      rintro e wb ⟨rfl, hnb⟩
      have hw2 := (hnw.trans al).trans hnb
      generalize sE ⟨e1, k1, p1, xs⟩ ⟨e2, k2, p2, ys⟩ = b at *
      cases b with
      | true =>
        have HR : Hid (sL ((V.map EkV.r).drop (k + 1)) ((V2.map EkV.r).drop (k + 1)) = v) := by unfold Hid; have := HD.out; simpa using this
        clear HD
        go_wp2
        go_roundw
        case rel => exact ⟨k + 1, by omega, by go_num, hw2, HR⟩
        case measure => simp [intOf]; omega
      | false =>
        have HR : Hid (false = v) := by unfold Hid; have := HD.out; simpa using this
        clear HD
        go_wp2
        go_ret
        exact ⟨ret_bool HR.out, hw2⟩
    · have HR : Hid (true = v) := by
        unfold Hid
        have h3 := hL.out
        rw [List.drop_eq_nil_of_le (by have := HN.out; simp; omega), List.drop_eq_nil_of_le (by have := HN2.out; simp; omega)] at h3
        exact h3
      clear hL
      go_wp2
      go_ret
      exact ⟨ret_bool HR.out, hnw⟩

theorem sameL_any (A A2 : Option Addr) (n c n2 c2 : Nat) (V V2 : List EkV) (w : World) (h : LgAt w A V) (h2 : LgAt w A2 V2) (hn : V.length = n) (hn2 : V2.length = n2) (hm : n ≤ 2097152) (hm2 : n2 ≤ 2097152) :
    Calls Tryz.prog 67 #[.slice A n c, .slice A2 n2 c2] w fun e w' => e = .returned (.bool (sL (V.map EkV.r) (V2.map EkV.r))) ∧ New w w' := by
  go_enter Tryz.func67, Tryz.ntmps67
  go_wp2_with fail
  refine (eqL_any A A2 n c n2 c2 V V2 _ h h2 hn hn2 hm hm2).mono ?_
  rintro e w1 ⟨rfl, hn1⟩
  go_wp2
  go_ret
  exact ⟨rfl, hn1⟩

set_option maxHeartbeats 6400000 in
theorem comS (A A2 : Option Addr) (n c n2 c2 : Nat) (V V2 : List EkV) (w : World) (h : LgAt w A V) (h2 : LgAt w A2 V2) (hn : V.length = n) (hn2 : V2.length = n2) (hm : n ≤ 2097152) (hm2 : n2 ≤ 2097152) :
    Calls Tryz.prog 55 #[.slice A n c, .slice A2 n2 c2] w fun e w' => e = .returned (.int .i64 (cF (V.map EkV.r) (V2.map EkV.r) : Nat)) ∧ New w w' := by
  have HN : Hid (V.length = n) := hn
  have HN2 : Hid (V2.length = n2) := hn2
  obtain ⟨v, hv⟩ : ∃ v, cF (V.map EkV.r) (V2.map EkV.r) = v := ⟨_, rfl⟩
  rw [hv]
  have HF : Hid (0 + cF ((V.map EkV.r).drop 0) ((V2.map EkV.r).drop 0) = v) := by unfold Hid; rw [Nat.zero_add]; exact hv
  clear hv hn hn2
  go_enter Tryz.func55, Tryz.ntmps55
  go_wp2
  go_loopw [5] (fun i wr => ∃ (k : Nat), k ≤ n ∧ i = .int .i64 k ∧ New w wr ∧ Hid (k + cF ((V.map EkV.r).drop k) ((V2.map EkV.r).drop k) = v)) (fun i _ => n - (intOf i).toNat)
  case atStart => exact ⟨0, Nat.zero_le _, rfl, New.refl _, HF⟩
  case round =>
    obtain ⟨k, hk, rfl, hnw, hL⟩ := hrel
    by_cases hlt : k < n
    case neg =>
      have HR : Hid (k = v) := by unfold Hid; have := hL.out; rw [cF_end (.inl (by have := HN.out; simp; omega))] at this; omega
      have d1 : decide ((k : Int) < (n : Int)) = false := by simp; omega
      clear hL
      go_upto_region 2 with fail
      refine hw_start (n := 21) (S := fun X => New wr X) rfl (by kernel_rfl) ((New.refl _).drew) (fun hH => ?_)
      refine' hw_take 0 (some 6) _ rfl rfl (by kernel_rfl) (by kernel_rfl) (by kernel_rfl) (fun _ _ _ h => h) (by rfl) hH ?hy1 ?rest1
      case hy1 =>
        intro X hX
        go_simp
        try rfl
      simp only [Act.put, List.setIfInBounds_toArray, List.set_cons_zero, List.set_cons_succ]
      refine' hw_take 1 (some 7) _ rfl rfl (by kernel_rfl) (by kernel_rfl) (by kernel_rfl) (fun _ _ _ h => h) (by rfl) hH ?hy2 ?rest2
      case hy2 =>
        intro X hX
        go_simp
        try rfl
      simp only [Act.put, List.setIfInBounds_toArray, List.set_cons_zero, List.set_cons_succ]
      refine' hw_take 2 (some 8) _ rfl rfl (by kernel_rfl) (by kernel_rfl) (by kernel_rfl) (fun _ _ _ h => h) (by rfl) hH ?hy3 ?rest3
      case hy3 =>
        intro X hX
        go_simp
        try rfl
      simp only [Act.put, List.setIfInBounds_toArray, List.set_cons_zero, List.set_cons_succ]
      refine' hw_take 3 (some 9) (.bool false) rfl rfl (by kernel_rfl) (by kernel_rfl) (by kernel_rfl) (fun _ _ _ h => h) (by rfl) hH ?hyL4 ?restL4
      case hyL4 =>
        intro X hX
        go_simp
        try rfl
      simp only [Act.put, List.setIfInBounds_toArray, List.set_cons_zero, List.set_cons_succ]
      refine' hw_take 4 (some 10) _ rfl rfl (by kernel_rfl) (by kernel_rfl) (by kernel_rfl) (fun _ _ _ h => h) (by rfl) hH ?hy5 ?rest5
      case hy5 =>
        intro X hX
        go_simp
        try rfl
      simp only [Act.put, List.setIfInBounds_toArray, List.set_cons_zero, List.set_cons_succ]
      refine hw_skip 5 (some 11) rfl rfl (by kernel_rfl) (by kernel_rfl) (by kernel_rfl) (fun _ _ _ h => h) (by rfl) hH ?_
      simp only [Act.put, List.setIfInBounds_toArray, List.set_cons_zero, List.set_cons_succ]
      refine hw_skip 6 (some 12) rfl rfl (by kernel_rfl) (by kernel_rfl) (by kernel_rfl) (fun _ _ _ h => h) (by rfl) hH ?_
      simp only [Act.put, List.setIfInBounds_toArray, List.set_cons_zero, List.set_cons_succ]
      refine hw_skip 7 (some 13) rfl rfl (by kernel_rfl) (by kernel_rfl) (by kernel_rfl) (fun _ _ _ h => h) (by rfl) hH ?_
      simp only [Act.put, List.setIfInBounds_toArray, List.set_cons_zero, List.set_cons_succ]
      refine hw_skip 8 (some 14) rfl rfl (by kernel_rfl) (by kernel_rfl) (by kernel_rfl) (fun _ _ _ h => h) (by rfl) hH ?_
      simp only [Act.put, List.setIfInBounds_toArray, List.set_cons_zero, List.set_cons_succ]
      refine' hw_take 9 (some 15) _ rfl rfl (by kernel_rfl) (by kernel_rfl) (by kernel_rfl) (fun _ _ _ h => h) (by rfl) hH ?hy6 ?rest6
      case hy6 =>
        intro X hX
        go_simp
        try rfl
      simp only [Act.put, List.setIfInBounds_toArray, List.set_cons_zero, List.set_cons_succ]
      refine' hw_take 10 (some 16) _ rfl rfl (by kernel_rfl) (by kernel_rfl) (by kernel_rfl) (fun _ _ _ h => h) (by rfl) hH ?hy7 ?rest7
      case hy7 =>
        intro X hX
        go_simp
        try rfl
      simp only [Act.put, List.setIfInBounds_toArray, List.set_cons_zero, List.set_cons_succ]
      refine hw_skip 11 (some 17) rfl rfl (by kernel_rfl) (by kernel_rfl) (by kernel_rfl) (fun _ _ _ h => h) (by rfl) hH ?_
      simp only [Act.put, List.setIfInBounds_toArray, List.set_cons_zero, List.set_cons_succ]
      refine hw_skip 12 (some 18) rfl rfl (by kernel_rfl) (by kernel_rfl) (by kernel_rfl) (fun _ _ _ h => h) (by rfl) hH ?_
      simp only [Act.put, List.setIfInBounds_toArray, List.set_cons_zero, List.set_cons_succ]
      refine hw_skip 13 (some 19) rfl rfl (by kernel_rfl) (by kernel_rfl) (by kernel_rfl) (fun _ _ _ h => h) (by rfl) hH ?_
      simp only [Act.put, List.setIfInBounds_toArray, List.set_cons_zero, List.set_cons_succ]
      refine hw_skip 14 (some 20) rfl rfl (by kernel_rfl) (by kernel_rfl) (by kernel_rfl) (fun _ _ _ h => h) (by rfl) hH ?_
      simp only [Act.put, List.setIfInBounds_toArray, List.set_cons_zero, List.set_cons_succ]
      refine hw_skip 15 (some 21) rfl rfl (by kernel_rfl) (by kernel_rfl) (by kernel_rfl) (fun _ _ _ h => h) (by rfl) hH ?_
      simp only [Act.put, List.setIfInBounds_toArray, List.set_cons_zero, List.set_cons_succ]
      refine hw_skip 16 (some 22) rfl rfl (by kernel_rfl) (by kernel_rfl) (by kernel_rfl) (fun _ _ _ h => h) (by rfl) hH ?_
      simp only [Act.put, List.setIfInBounds_toArray, List.set_cons_zero, List.set_cons_succ]
      refine hw_skip 17 (some 23) rfl rfl (by kernel_rfl) (by kernel_rfl) (by kernel_rfl) (fun _ _ _ h => h) (by rfl) hH ?_
      simp only [Act.put, List.setIfInBounds_toArray, List.set_cons_zero, List.set_cons_succ]
      refine hw_skip 18 (some 24) rfl rfl (by kernel_rfl) (by kernel_rfl) (by kernel_rfl) (fun _ _ _ h => h) (by rfl) hH ?_
      simp only [Act.put, List.setIfInBounds_toArray, List.set_cons_zero, List.set_cons_succ]
      refine hw_skip 19 (some 25) rfl rfl (by kernel_rfl) (by kernel_rfl) (by kernel_rfl) (fun _ _ _ h => h) (by rfl) hH ?_
      simp only [Act.put, List.setIfInBounds_toArray, List.set_cons_zero, List.set_cons_succ]
      refine' hw_take 20 (some 26) _ rfl rfl (by kernel_rfl) (by kernel_rfl) (by kernel_rfl) (fun _ _ _ h => h) (by rfl) hH ?hy8 ?rest8
      case hy8 =>
        intro X hX
        go_simp
        try rfl
      simp only [Act.put, List.setIfInBounds_toArray, List.set_cons_zero, List.set_cons_succ]
      refine wpAnyH_done (by kernel_rfl) ?_ _

      go_wp2
      go_ret
      exact ⟨ret_i64 (by rw [HR.out]), hnw.drew⟩
    have d1 : decide ((k : Int) < (n : Int)) = true := by simp; omega
    by_cases hlt2 : k < n2
    case neg =>
      have HR : Hid (k = v) := by unfold Hid; have := hL.out; rw [cF_end (.inr (by have := HN2.out; simp; omega))] at this; omega
      have d2 : decide ((k : Int) < (n2 : Int)) = false := by simp; omega
      clear hL
      go_upto_region 2 with fail
      refine hw_start (n := 21) (S := fun X => New wr X) rfl (by kernel_rfl) ((New.refl _).drew) (fun hH => ?_)
      refine' hw_take 0 (some 6) _ rfl rfl (by kernel_rfl) (by kernel_rfl) (by kernel_rfl) (fun _ _ _ h => h) (by rfl) hH ?hy9 ?rest9
      case hy9 =>
        intro X hX
        go_simp
        try rfl
      simp only [Act.put, List.setIfInBounds_toArray, List.set_cons_zero, List.set_cons_succ]
      refine' hw_take 1 (some 7) _ rfl rfl (by kernel_rfl) (by kernel_rfl) (by kernel_rfl) (fun _ _ _ h => h) (by rfl) hH ?hy10 ?rest10
      case hy10 =>
        intro X hX
        go_simp
        try rfl
      simp only [Act.put, List.setIfInBounds_toArray, List.set_cons_zero, List.set_cons_succ]
      refine' hw_take 2 (some 8) _ rfl rfl (by kernel_rfl) (by kernel_rfl) (by kernel_rfl) (fun _ _ _ h => h) (by rfl) hH ?hy11 ?rest11
      case hy11 =>
        intro X hX
        go_simp
        try rfl
      simp only [Act.put, List.setIfInBounds_toArray, List.set_cons_zero, List.set_cons_succ]
      refine' hw_take 3 (some 9) (.bool true) rfl rfl (by kernel_rfl) (by kernel_rfl) (by kernel_rfl) (fun _ _ _ h => h) (by rfl) hH ?hyL12 ?restL12
      case hyL12 =>
        intro X hX
        go_simp
        try rfl
      simp only [Act.put, List.setIfInBounds_toArray, List.set_cons_zero, List.set_cons_succ]
      refine' hw_take 4 (some 10) _ rfl rfl (by kernel_rfl) (by kernel_rfl) (by kernel_rfl) (fun _ _ _ h => h) (by rfl) hH ?hy13 ?rest13
      case hy13 =>
        intro X hX
        go_simp
        try rfl
      simp only [Act.put, List.setIfInBounds_toArray, List.set_cons_zero, List.set_cons_succ]
      refine' hw_take 5 (some 11) _ rfl rfl (by kernel_rfl) (by kernel_rfl) (by kernel_rfl) (fun _ _ _ h => h) (by rfl) hH ?hy14 ?rest14
      case hy14 =>
        intro X hX
        go_simp
        try rfl
      simp only [Act.put, List.setIfInBounds_toArray, List.set_cons_zero, List.set_cons_succ]
      refine' hw_take 6 (some 12) _ rfl rfl (by kernel_rfl) (by kernel_rfl) (by kernel_rfl) (fun _ _ _ h => h) (by rfl) hH ?hy15 ?rest15
      case hy15 =>
        intro X hX
        go_simp
        try rfl
      simp only [Act.put, List.setIfInBounds_toArray, List.set_cons_zero, List.set_cons_succ]
      refine' hw_take 7 (some 13) _ rfl rfl (by kernel_rfl) (by kernel_rfl) (by kernel_rfl) (fun _ _ _ h => h) (by rfl) hH ?hy16 ?rest16
      case hy16 =>
        intro X hX
        go_simp
        try rfl
      simp only [Act.put, List.setIfInBounds_toArray, List.set_cons_zero, List.set_cons_succ]
      refine' hw_take 8 (some 14) (.bool false) rfl rfl (by kernel_rfl) (by kernel_rfl) (by kernel_rfl) (fun _ _ _ h => h) (by rfl) hH ?hyL17 ?restL17
      case hyL17 =>
        intro X hX
        go_simp
        try rfl
      simp only [Act.put, List.setIfInBounds_toArray, List.set_cons_zero, List.set_cons_succ]
      refine' hw_take 9 (some 15) _ rfl rfl (by kernel_rfl) (by kernel_rfl) (by kernel_rfl) (fun _ _ _ h => h) (by rfl) hH ?hy18 ?rest18
      case hy18 =>
        intro X hX
        go_simp
        try rfl
      simp only [Act.put, List.setIfInBounds_toArray, List.set_cons_zero, List.set_cons_succ]
      refine' hw_take 10 (some 16) _ rfl rfl (by kernel_rfl) (by kernel_rfl) (by kernel_rfl) (fun _ _ _ h => h) (by rfl) hH ?hy19 ?rest19
      case hy19 =>
        intro X hX
        go_simp
        try rfl
      simp only [Act.put, List.setIfInBounds_toArray, List.set_cons_zero, List.set_cons_succ]
      refine hw_skip 11 (some 17) rfl rfl (by kernel_rfl) (by kernel_rfl) (by kernel_rfl) (fun _ _ _ h => h) (by rfl) hH ?_
      simp only [Act.put, List.setIfInBounds_toArray, List.set_cons_zero, List.set_cons_succ]
      refine hw_skip 12 (some 18) rfl rfl (by kernel_rfl) (by kernel_rfl) (by kernel_rfl) (fun _ _ _ h => h) (by rfl) hH ?_
      simp only [Act.put, List.setIfInBounds_toArray, List.set_cons_zero, List.set_cons_succ]
      refine hw_skip 13 (some 19) rfl rfl (by kernel_rfl) (by kernel_rfl) (by kernel_rfl) (fun _ _ _ h => h) (by rfl) hH ?_
      simp only [Act.put, List.setIfInBounds_toArray, List.set_cons_zero, List.set_cons_succ]
      refine hw_skip 14 (some 20) rfl rfl (by kernel_rfl) (by kernel_rfl) (by kernel_rfl) (fun _ _ _ h => h) (by rfl) hH ?_
      simp only [Act.put, List.setIfInBounds_toArray, List.set_cons_zero, List.set_cons_succ]
      refine hw_skip 15 (some 21) rfl rfl (by kernel_rfl) (by kernel_rfl) (by kernel_rfl) (fun _ _ _ h => h) (by rfl) hH ?_
      simp only [Act.put, List.setIfInBounds_toArray, List.set_cons_zero, List.set_cons_succ]
      refine hw_skip 16 (some 22) rfl rfl (by kernel_rfl) (by kernel_rfl) (by kernel_rfl) (fun _ _ _ h => h) (by rfl) hH ?_
      simp only [Act.put, List.setIfInBounds_toArray, List.set_cons_zero, List.set_cons_succ]
      refine hw_skip 17 (some 23) rfl rfl (by kernel_rfl) (by kernel_rfl) (by kernel_rfl) (fun _ _ _ h => h) (by rfl) hH ?_
      simp only [Act.put, List.setIfInBounds_toArray, List.set_cons_zero, List.set_cons_succ]
      refine hw_skip 18 (some 24) rfl rfl (by kernel_rfl) (by kernel_rfl) (by kernel_rfl) (fun _ _ _ h => h) (by rfl) hH ?_
      simp only [Act.put, List.setIfInBounds_toArray, List.set_cons_zero, List.set_cons_succ]
      refine hw_skip 19 (some 25) rfl rfl (by kernel_rfl) (by kernel_rfl) (by kernel_rfl) (fun _ _ _ h => h) (by rfl) hH ?_
      simp only [Act.put, List.setIfInBounds_toArray, List.set_cons_zero, List.set_cons_succ]
      refine' hw_take 20 (some 26) _ rfl rfl (by kernel_rfl) (by kernel_rfl) (by kernel_rfl) (fun _ _ _ h => h) (by rfl) hH ?hy20 ?rest20
      case hy20 =>
        intro X hX
        go_simp
        try rfl
      simp only [Act.put, List.setIfInBounds_toArray, List.set_cons_zero, List.set_cons_succ]
      refine wpAnyH_done (by kernel_rfl) ?_ _

      go_wp2
      go_ret
      exact ⟨ret_i64 (by rw [HR.out]), hnw.drew⟩
    have d2 : decide ((k : Int) < (n2 : Int)) = true := by simp; omega
    obtain ⟨g1, e1, k1, p1, x, m, d, xs, hg1, hv1, hl1, hx1, hmx1, a0, a1, a2, a3⟩ := (h.new hnw).at k (by have := HN.out; omega)
    obtain ⟨g2, e2, k2, p2, y, q, f, ys, hg2, hv2, hl2, hx2, hmx2, b0, b1, b2, b3⟩ := (h2.new hnw).at k (by have := HN2.out; omega)
    subst hg1 hg2
    have HD : Hid (k + (if sE ⟨e1, k1, p1, xs⟩ ⟨e2, k2, p2, ys⟩ then cF ((V.map EkV.r).drop (k + 1)) ((V2.map EkV.r).drop (k + 1)) + 1 else 0) = v) := by
      unfold Hid
      have h3 := cF_at (A := V.map EkV.r) (B := V2.map EkV.r) (k := k) (a := ⟨e1, k1, p1, xs⟩) (b := ⟨e2, k2, p2, ys⟩) (by rw [List.getElem?_map, hv1]; rfl) (by rw [List.getElem?_map, hv2]; rfl)
      have h4 := hL.out
      rw [h3] at h4
      exact h4
    have HL1 : Hid (xs.length = m) := hl1
    have HL2 : Hid (ys.length = q) := hl2
    clear hv1 hv2 hl1 hl2 hL
    · skip
      go_upto_region 2 with fail
      refine hw_start (n := 21) (S := fun X => New wr X) rfl (by kernel_rfl) ((New.refl _).drew) (fun hH => ?_)
      refine' hw_take 0 (some 6) _ rfl rfl (by kernel_rfl) (by kernel_rfl) (by kernel_rfl) (fun _ _ _ h => h) (by rfl) hH ?hy21 ?rest21
      case hy21 =>
        intro X hX
        go_simp
        try rfl
      simp only [Act.put, List.setIfInBounds_toArray, List.set_cons_zero, List.set_cons_succ]
      refine' hw_take 1 (some 7) _ rfl rfl (by kernel_rfl) (by kernel_rfl) (by kernel_rfl) (fun _ _ _ h => h) (by rfl) hH ?hy22 ?rest22
      case hy22 =>
        intro X hX
        go_simp
        try rfl
      simp only [Act.put, List.setIfInBounds_toArray, List.set_cons_zero, List.set_cons_succ]
      refine' hw_take 2 (some 8) _ rfl rfl (by kernel_rfl) (by kernel_rfl) (by kernel_rfl) (fun _ _ _ h => h) (by rfl) hH ?hy23 ?rest23
      case hy23 =>
        intro X hX
        go_simp
        try rfl
      simp only [Act.put, List.setIfInBounds_toArray, List.set_cons_zero, List.set_cons_succ]
      refine' hw_take 3 (some 9) (.bool true) rfl rfl (by kernel_rfl) (by kernel_rfl) (by kernel_rfl) (fun _ _ _ h => h) (by rfl) hH ?hyL24 ?restL24
      case hyL24 =>
        intro X hX
        go_simp
        try rfl
      simp only [Act.put, List.setIfInBounds_toArray, List.set_cons_zero, List.set_cons_succ]
      refine' hw_take 4 (some 10) _ rfl rfl (by kernel_rfl) (by kernel_rfl) (by kernel_rfl) (fun _ _ _ h => h) (by rfl) hH ?hy25 ?rest25
      case hy25 =>
        intro X hX
        go_simp
        try rfl
      simp only [Act.put, List.setIfInBounds_toArray, List.set_cons_zero, List.set_cons_succ]
      refine' hw_take 5 (some 11) _ rfl rfl (by kernel_rfl) (by kernel_rfl) (by kernel_rfl) (fun _ _ _ h => h) (by rfl) hH ?hy26 ?rest26
      case hy26 =>
        intro X hX
        go_simp
        try rfl
      simp only [Act.put, List.setIfInBounds_toArray, List.set_cons_zero, List.set_cons_succ]
      refine' hw_take 6 (some 12) _ rfl rfl (by kernel_rfl) (by kernel_rfl) (by kernel_rfl) (fun _ _ _ h => h) (by rfl) hH ?hy27 ?rest27
      case hy27 =>
        intro X hX
        go_simp
        try rfl
      simp only [Act.put, List.setIfInBounds_toArray, List.set_cons_zero, List.set_cons_succ]
      refine' hw_take 7 (some 13) _ rfl rfl (by kernel_rfl) (by kernel_rfl) (by kernel_rfl) (fun _ _ _ h => h) (by rfl) hH ?hy28 ?rest28
      case hy28 =>
        intro X hX
        go_simp
        try rfl
      simp only [Act.put, List.setIfInBounds_toArray, List.set_cons_zero, List.set_cons_succ]
      refine' hw_take 8 (some 14) (.bool true) rfl rfl (by kernel_rfl) (by kernel_rfl) (by kernel_rfl) (fun _ _ _ h => h) (by rfl) hH ?hyL29 ?restL29
      case hyL29 =>
        intro X hX
        go_simp
        try rfl
      simp only [Act.put, List.setIfInBounds_toArray, List.set_cons_zero, List.set_cons_succ]
      refine' hw_take 9 (some 15) _ rfl rfl (by kernel_rfl) (by kernel_rfl) (by kernel_rfl) (fun _ _ _ h => h) (by rfl) hH ?hy30 ?rest30
      case hy30 =>
        intro X hX
        go_simp
        try rfl
      simp only [Act.put, List.setIfInBounds_toArray, List.set_cons_zero, List.set_cons_succ]
      refine' hw_take 10 (some 16) _ rfl rfl (by kernel_rfl) (by kernel_rfl) (by kernel_rfl) (fun _ _ _ h => h) (by rfl) hH ?hy31 ?rest31
      case hy31 =>
        intro X hX
        go_simp
        try rfl
      simp only [Act.put, List.setIfInBounds_toArray, List.set_cons_zero, List.set_cons_succ]
      refine' hw_take 11 (some 17) _ rfl rfl (by kernel_rfl) (by kernel_rfl) (by kernel_rfl) (fun _ _ _ h => h) (by rfl) hH ?hy32 ?rest32
      case hy32 =>
        intro X hX
        go_simp
        try rfl
      simp only [Act.put, List.setIfInBounds_toArray, List.set_cons_zero, List.set_cons_succ]
      refine' hw_take 12 (some 18) _ rfl rfl (by kernel_rfl) (by kernel_rfl) (by kernel_rfl) (fun _ _ _ h => h) (by rfl) hH ?hy33 ?rest33
      case hy33 =>
        intro X hX
        go_simp
        try rfl
      simp only [Act.put, List.setIfInBounds_toArray, List.set_cons_zero, List.set_cons_succ]
      refine' hw_take 13 (some 19) _ rfl rfl (by kernel_rfl) (by kernel_rfl) (by kernel_rfl) (fun _ _ _ h => h) (by rfl) hH ?hy34 ?rest34
      case hy34 =>
        intro X hX
        go_simp
        try rfl
      simp only [Act.put, List.setIfInBounds_toArray, List.set_cons_zero, List.set_cons_succ]
      refine' hw_take 14 (some 20) (.agg #[.int .i64 e1, .int .i64 k1, .int .i64 p1, .slice x m d]) rfl rfl (by kernel_rfl) (by kernel_rfl) (by kernel_rfl) (fun _ _ _ h => h) (by rfl) hH ?hyL35 ?restL35
      case hyL35 =>
        intro X hX
        have a0X := hX.cell a0
        have a1X := hX.cell a1
        have a2X := hX.cell a2
        have a3X := hX.cell a3
        go_simp
        try rfl
      simp only [Act.put, List.setIfInBounds_toArray, List.set_cons_zero, List.set_cons_succ]
      refine' hw_take 15 (some 21) _ rfl rfl (by kernel_rfl) (by kernel_rfl) (by kernel_rfl) (fun _ _ _ h => h) (by rfl) hH ?hy36 ?rest36
      case hy36 =>
        intro X hX
        go_simp
        try rfl
      simp only [Act.put, List.setIfInBounds_toArray, List.set_cons_zero, List.set_cons_succ]
      refine' hw_take 16 (some 22) _ rfl rfl (by kernel_rfl) (by kernel_rfl) (by kernel_rfl) (fun _ _ _ h => h) (by rfl) hH ?hy37 ?rest37
      case hy37 =>
        intro X hX
        go_simp
        try rfl
      simp only [Act.put, List.setIfInBounds_toArray, List.set_cons_zero, List.set_cons_succ]
      refine' hw_take 17 (some 23) _ rfl rfl (by kernel_rfl) (by kernel_rfl) (by kernel_rfl) (fun _ _ _ h => h) (by rfl) hH ?hy38 ?rest38
      case hy38 =>
        intro X hX
        go_simp
        try rfl
      simp only [Act.put, List.setIfInBounds_toArray, List.set_cons_zero, List.set_cons_succ]
      refine' hw_take 18 (some 24) (.agg #[.int .i64 e2, .int .i64 k2, .int .i64 p2, .slice y q f]) rfl rfl (by kernel_rfl) (by kernel_rfl) (by kernel_rfl) (fun _ _ _ h => h) (by rfl) hH ?hyL39 ?restL39
      case hyL39 =>
        intro X hX
        have b0X := hX.cell b0
        have b1X := hX.cell b1
        have b2X := hX.cell b2
        have b3X := hX.cell b3
        go_simp
        try rfl
      simp only [Act.put, List.setIfInBounds_toArray, List.set_cons_zero, List.set_cons_succ]
      refine hw_call 19 (some 25) rfl rfl (by kernel_rfl) (by rfl) (fun K hK => ?_)
      go_simp
      refine (seS e1 k1 p1 x m d xs e2 k2 p2 y q f ys _ (hx1.new hH) (hx2.new hH) HL1.out HL2.out).mono ?_
      rintro e wb ⟨rfl, hnb⟩
      have hw2 := (hnw.drew).trans hnb
      generalize sE ⟨e1, k1, p1, xs⟩ ⟨e2, k2, p2, ys⟩ = b at *
      go_simp
      refine hK.out _ _ (hH.trans hnb) (fun hH2 => ?_)
      simp only [Act.put, List.setIfInBounds_toArray, List.set_cons_zero, List.set_cons_succ]
      refine' hw_take 20 (some 26) _ rfl rfl (by kernel_rfl) (by kernel_rfl) (by kernel_rfl) (fun _ _ _ h => h) (by rfl) hH2 ?hy40 ?rest40
      case hy40 =>
        intro X hX
        go_simp
        try rfl
      simp only [Act.put, List.setIfInBounds_toArray, List.set_cons_zero, List.set_cons_succ]
      refine wpAnyH_done (by kernel_rfl) ?_ _

      cases b with
      | true =>
        have HR : Hid (k + 1 + cF ((V.map EkV.r).drop (k + 1)) ((V2.map EkV.r).drop (k + 1)) = v) := by unfold Hid; have := HD.out; simp at this; omega
        clear HD
        go_wp2
        go_roundw
        case rel => exact ⟨k + 1, by omega, by go_num, hw2, HR⟩
        case measure => simp [intOf]; omega
      | false =>
        have HR : Hid (k = v) := by unfold Hid; have := HD.out; simpa using this
        clear HD
        go_wp2
        go_ret
        exact ⟨ret_i64 (by rw [HR.out]), hw2⟩

end Go.Proofs.YtkbdmcimgepakaaGreat

namespace Go.Proofs.YtkbdmcimgepakaaGreat
open Go.ChangeShapes Go.WideShapes Go.ChangeAt Go.RowKit
set_option linter.unusedVariables false
set_option linter.unusedSimpArgs false

set_option maxRecDepth 100000

theorem cF_le (A B : List Ek) : cF A B ≤ A.length ∧ cF A B ≤ B.length := by
  induction A generalizing B with
  | nil => simp [cF]
  | cons a A ih => cases B with
    | nil => simp [cF]
    | cons b B =>
      have := ih B
      simp only [cF, List.length_cons]
      split <;> omega
/-- The logs of the two nodes. -/
def lgs2 (N : List (Int × Bool × Int × Int × Int × Int × Int × Int × List Ek)) : List Ek × List Ek :=
  match N with
  | [x, y] => (x.2.2.2.2.2.2.2.2, y.2.2.2.2.2.2.2.2)
  | _ => ([], [])
/-- From a place on no two entries have one epoch. -/
def mtF : List Ek → List Ek → Bool
  | a :: A, b :: B => if a.ep = b.ep then false else mtF A B
  | _, _ => true
theorem mtF_at {A B : List Ek} {k : Nat} {a b : Ek} (ha : A[k]? = some a) (hb : B[k]? = some b) : mtF (A.drop k) (B.drop k) = if a.ep = b.ep then false else mtF (A.drop (k + 1)) (B.drop (k + 1)) := by
  obtain ⟨h1, e1⟩ := List.getElem?_eq_some_iff.1 ha
  obtain ⟨h2, e2⟩ := List.getElem?_eq_some_iff.1 hb
  rw [List.drop_eq_getElem_cons h1, List.drop_eq_getElem_cons h2, mtF, e1, e2]
theorem mtF_end {A B : List Ek} {k : Nat} (h : A.length ≤ k ∨ B.length ≤ k) : mtF (A.drop k) (B.drop k) = true := by
  rcases h with h | h
  · rw [List.drop_eq_nil_of_le h]; rfl
  · rw [List.drop_eq_nil_of_le h]; cases A.drop k <;> rfl
/-- The same, as the program asks it. -/
def miF : Bool → List Ek → List Ek → Bool
  | s, a :: A, b :: B => if a.ep = b.ep ∧ (s && sE a b) = false then false else miF (s && sE a b) A B
  | _, _, _ => true
theorem miF_at {s : Bool} {A B : List Ek} {k : Nat} {a b : Ek} (ha : A[k]? = some a) (hb : B[k]? = some b) : miF s (A.drop k) (B.drop k) = if a.ep = b.ep ∧ (s && sE a b) = false then false else miF (s && sE a b) (A.drop (k + 1)) (B.drop (k + 1)) := by
  obtain ⟨h1, e1⟩ := List.getElem?_eq_some_iff.1 ha
  obtain ⟨h2, e2⟩ := List.getElem?_eq_some_iff.1 hb
  rw [List.drop_eq_getElem_cons h1, List.drop_eq_getElem_cons h2, miF, e1, e2]
theorem miF_end {s : Bool} {A B : List Ek} {k : Nat} (h : A.length ≤ k ∨ B.length ≤ k) : miF s (A.drop k) (B.drop k) = true := by
  rcases h with h | h
  · rw [List.drop_eq_nil_of_le h]; rfl
  · rw [List.drop_eq_nil_of_le h]; cases A.drop k <;> rfl
theorem miF_no (A B : List Ek) : miF false A B = mtF A B := by
  induction A generalizing B with
  | nil => rfl
  | cons a A ih => cases B with
    | nil => rfl
    | cons b B =>
      simp only [miF, mtF, Bool.false_and, and_true]
      by_cases h : a.ep = b.ep
      · rw [if_pos h, if_pos h]
      · rw [if_neg h, if_neg h, ih]
theorem miF_yes (A B : List Ek) : miF true A B = mtF (A.drop (cF A B)) (B.drop (cF A B)) := by
  induction A generalizing B with
  | nil => simp [miF, cF, mtF]
  | cons a A ih => cases B with
    | nil => simp [miF, cF, mtF]
    | cons b B =>
      by_cases h : sE a b = true
      · have e : cF (a :: A) (b :: B) = cF A B + 1 := by simp [cF, h]
        rw [e, List.drop_succ_cons, List.drop_succ_cons, ← ih]
        simp [miF, h]
      · have h' : sE a b = false := by simpa using h
        have e : cF (a :: A) (b :: B) = 0 := by simp [cF, h']
        rw [e]
        simp only [List.drop_zero, miF, mtF, h', Bool.and_false, and_true, miF_no]
/-- The logs match. -/
def lmF (N : List (Int × Bool × Int × Int × Int × Int × Int × Int × List Ek)) : Bool := miF true (lgs2 N).1 (lgs2 N).2

set_option maxHeartbeats 6400000 in
theorem logsS (sa si ho nx : Int) (a1 a2 aN aW aM aS : Option Addr) (n1 c1 n2 c2 cN cW nM cM nS cS : Nat) (r1 r2 : List Ru) (LN : List NdV) (B : Nat) (w : World) (hb : Blk w B 44 #[.int .i64 sa, .int .i64 si, .int .i64 ho, .int .i64 nx, .slice a1 n1 c1, .slice a2 n2 c2, .slice aN 2 cN, .slice aW 3 cW, .slice aM nM cM, .slice aS nS cS]) (hN : NdAt w aN LN) (lN : LN.length = 2) (v : Bool) (hv : lmF (LN.map NdV.r) = v) :
    Calls Tryz.prog 37 #[.pointer (some ⟨B, 0, none⟩)] w fun e w' => e = .returned (.bool v) ∧ New w w' := by
  have e2 : ∀ (u v : NdV), LN[0]? = some u → LN[1]? = some v → LN = [u, v] := by
    intro u v h0 h1
    match LN, lN with
    | [a, b], _ => simp at h0 h1; rw [h0, h1]
  obtain ⟨g, id0, up0, ro0, ep0, su0, ma0, ot0, co0, x0, m0, d0, xs0, hg0, hv0, hl0, hx0, hmx0, -, -, -, -, q0, -, -, -, -⟩ := hN.at 0 (by omega)
  obtain ⟨g1, id1, up1, ro1, ep1, su1, ma1, ot1, co1, x1, m1, d1, xs1, hg1, hv1, hl1, hx1, hmx1, -, -, -, -, q1, -, -, -, -⟩ := hN.at 1 (by omega)
  subst hg0
  obtain rfl : g = g1 := by simpa using hg1
  have HV : Hid (miF true (xs0.map EkV.r) (xs1.map EkV.r) = v) := by
    unfold Hid
    rw [← hv]
    have e3 := e2 _ _ hv0 hv1
    unfold lmF lgs2
    rw [e3]
    rfl
  have q0' : w.cell? ⟨g, 4, none⟩ = some (.slice x0 m0 d0) := by simpa using q0
  have q1' : w.cell? ⟨g, 13, none⟩ = some (.slice x1 m1 d1) := by simpa using q1
  have HL0 : Hid (xs0.length = m0) := hl0
  have HL1 : Hid (xs1.length = m1) := hl1
  have hm0 : m0 ≤ 1048576 := by have := totK_len xs0; omega
  have hm1 : m1 ≤ 1048576 := by have := totK_len xs1; omega
  have cB := hb.cells
  clear hv e2 hv0 hv1 hl0 hl1 q0 q1 hmx0 hmx1
  go_enter Tryz.func37, Tryz.ntmps37
  go_wp2_with fail
  refine (comS x0 x1 m0 d0 m1 d1 xs0 xs1 _ hx0 hx1 HL0.out HL1.out (by omega) (by omega)).mono ?_
  rintro e w1 ⟨rfl, hn1⟩
  have HK : Hid (mtF ((xs0.map EkV.r).drop (cF (xs0.map EkV.r) (xs1.map EkV.r))) ((xs1.map EkV.r).drop (cF (xs0.map EkV.r) (xs1.map EkV.r))) = v) := by unfold Hid; rw [← miF_yes]; exact HV.out
  have hcl := cF_le (xs0.map EkV.r) (xs1.map EkV.r)
  simp only [List.length_map, HL0.out, HL1.out] at hcl
  generalize cF (xs0.map EkV.r) (xs1.map EkV.r) = k0 at *
  clear HV cB q0' q1'
  go_wp2
  go_loopw [5] (fun i wr => ∃ (k : Nat), k ≤ m0 ∧ i = .int .i64 k ∧ New w wr ∧ Hid (mtF ((xs0.map EkV.r).drop k) ((xs1.map EkV.r).drop k) = v)) (fun i _ => m0 - (intOf i).toNat)
  case atStart => exact ⟨k0, hcl.1, rfl, hn1, HK⟩
  case round =>
    obtain ⟨k, hk, rfl, hnw, hL⟩ := hrel
    by_cases hlt : k < m0
    case neg =>
      have HR : Hid (true = v) := by unfold Hid; rw [← hL.out, mtF_end (.inl (by have := HL0.out; simp; omega))]
      have d1' : decide ((k : Int) < (m0 : Int)) = false := by simp; omega
      clear hL
      go_wp2
      go_ret
      exact ⟨ret_bool HR.out, hnw⟩
    have d1' : decide ((k : Int) < (m0 : Int)) = true := by simp; omega
    by_cases hlt2 : k < m1
    case neg =>
      have HR : Hid (true = v) := by unfold Hid; rw [← hL.out, mtF_end (.inr (by have := HL1.out; simp; omega))]
      have d2' : decide ((k : Int) < (m1 : Int)) = false := by simp; omega
      clear hL
      go_wp2
      go_ret
      exact ⟨ret_bool HR.out, hnw⟩
    have d2' : decide ((k : Int) < (m1 : Int)) = true := by simp; omega
    have dk1 : (k : Int) < (m0 : Int) := by omega
    have dk2 : (k : Int) < (m1 : Int) := by omega
    obtain ⟨gA, e1, k1, p1, x, m, d, xs, hgA, hvA, hlA, hxA, hmA, a0, a1, a2, a3⟩ := (hx0.new hnw).at k (by have := HL0.out; omega)
    obtain ⟨gB, e2, k2, p2, y, q, f, ys, hgB, hvB, hlB, hxB, hmB, b0, b1, b2, b3⟩ := (hx1.new hnw).at k (by have := HL1.out; omega)
    subst hgA hgB
    have HD : Hid ((if e1 = e2 then false else mtF ((xs0.map EkV.r).drop (k + 1)) ((xs1.map EkV.r).drop (k + 1))) = v) := by
      unfold Hid
      have h3 := mtF_at (A := (xs0.map EkV.r)) (B := (xs1.map EkV.r)) (k := k) (a := ⟨e1, k1, p1, xs⟩) (b := ⟨e2, k2, p2, ys⟩) (by rw [List.getElem?_map, hvA]; rfl) (by rw [List.getElem?_map, hvB]; rfl)
      have h4 := hL.out
      rw [h3] at h4
      exact h4
    clear hvA hvB hlA hlB hL
    by_cases he : e1 = e2
    · have HR : Hid (false = v) := by unfold Hid; have := HD.out; rw [if_pos he] at this; exact this
      have ge : (e1 == e2) = true := by simp [he]
      have HE : Hid (e1 = e2) := he
      clear HD he
      · skip
        go_upto_region 6 with fail
        refine hw_start (n := 11) (S := fun X => New wr X) rfl (by kernel_rfl) ((New.refl _).drew) (fun hH => ?_)
        refine' hw_take 0 (some 35) _ rfl rfl (by kernel_rfl) (by kernel_rfl) (by kernel_rfl) (fun _ _ _ h => h) (by rfl) hH ?hy41 ?rest41
        case hy41 =>
          intro X hX
          go_simp
          try rfl
        simp only [Act.put, List.setIfInBounds_toArray, List.set_cons_zero, List.set_cons_succ]
        refine' hw_take 1 (some 36) _ rfl rfl (by kernel_rfl) (by kernel_rfl) (by kernel_rfl) (fun _ _ _ h => h) (by rfl) hH ?hy42 ?rest42
        case hy42 =>
          intro X hX
          go_simp
          try rfl
        simp only [Act.put, List.setIfInBounds_toArray, List.set_cons_zero, List.set_cons_succ]
        refine' hw_take 2 (some 37) _ rfl rfl (by kernel_rfl) (by kernel_rfl) (by kernel_rfl) (fun _ _ _ h => h) (by rfl) hH ?hy43 ?rest43
        case hy43 =>
          intro X hX
          go_simp
          try rfl
        simp only [Act.put, List.setIfInBounds_toArray, List.set_cons_zero, List.set_cons_succ]
        refine' hw_take 3 (some 38) _ rfl rfl (by kernel_rfl) (by kernel_rfl) (by kernel_rfl) (fun _ _ _ h => h) (by rfl) hH ?hy44 ?rest44
        case hy44 =>
          intro X hX
          go_simp
          try rfl
        simp only [Act.put, List.setIfInBounds_toArray, List.set_cons_zero, List.set_cons_succ]
        refine' hw_take 4 (some 39) _ rfl rfl (by kernel_rfl) (by kernel_rfl) (by kernel_rfl) (fun _ _ _ h => h) (by rfl) hH ?hy45 ?rest45
        case hy45 =>
          intro X hX
          have aX := hX.cell a0
          have bX := hX.cell b0
          go_simp
          try rfl
        simp only [Act.put, List.setIfInBounds_toArray, List.set_cons_zero, List.set_cons_succ]
        refine' hw_take 5 (some 40) _ rfl rfl (by kernel_rfl) (by kernel_rfl) (by kernel_rfl) (fun _ _ _ h => h) (by rfl) hH ?hy46 ?rest46
        case hy46 =>
          intro X hX
          go_simp
          try rfl
        simp only [Act.put, List.setIfInBounds_toArray, List.set_cons_zero, List.set_cons_succ]
        refine' hw_take 6 (some 41) _ rfl rfl (by kernel_rfl) (by kernel_rfl) (by kernel_rfl) (fun _ _ _ h => h) (by rfl) hH ?hy47 ?rest47
        case hy47 =>
          intro X hX
          go_simp
          try rfl
        simp only [Act.put, List.setIfInBounds_toArray, List.set_cons_zero, List.set_cons_succ]
        refine' hw_take 7 (some 42) _ rfl rfl (by kernel_rfl) (by kernel_rfl) (by kernel_rfl) (fun _ _ _ h => h) (by rfl) hH ?hy48 ?rest48
        case hy48 =>
          intro X hX
          go_simp
          try rfl
        simp only [Act.put, List.setIfInBounds_toArray, List.set_cons_zero, List.set_cons_succ]
        refine' hw_take 8 (some 43) _ rfl rfl (by kernel_rfl) (by kernel_rfl) (by kernel_rfl) (fun _ _ _ h => h) (by rfl) hH ?hy49 ?rest49
        case hy49 =>
          intro X hX
          go_simp
          try rfl
        simp only [Act.put, List.setIfInBounds_toArray, List.set_cons_zero, List.set_cons_succ]
        refine' hw_take 9 (some 44) _ rfl rfl (by kernel_rfl) (by kernel_rfl) (by kernel_rfl) (fun _ _ _ h => h) (by rfl) hH ?hy50 ?rest50
        case hy50 =>
          intro X hX
          have aX := hX.cell a0
          have bX := hX.cell b0
          go_simp
          try rfl
        simp only [Act.put, List.setIfInBounds_toArray, List.set_cons_zero, List.set_cons_succ]
        refine' hw_take 10 (some 45) (.bool true) rfl rfl (by kernel_rfl) (by kernel_rfl) (by kernel_rfl) (fun _ _ _ h => h) (by rfl) hH ?hyL61 ?restL61
        case hyL61 =>
          intro X hX
          go_simp
          try rfl
        simp only [Act.put, List.setIfInBounds_toArray, List.set_cons_zero, List.set_cons_succ]
        refine wpAnyH_done (by kernel_rfl) ?_ _
        go_wp2
        go_ret
        exact ⟨ret_bool HR.out, hnw.drew⟩
    · have HR : Hid (mtF ((xs0.map EkV.r).drop (k + 1)) ((xs1.map EkV.r).drop (k + 1)) = v) := by unfold Hid; have := HD.out; rw [if_neg he] at this; exact this
      have ge : (e1 == e2) = false := by simp [he]
      clear HD
      · skip
        go_upto_region 6 with fail
        refine hw_start (n := 11) (S := fun X => New wr X) rfl (by kernel_rfl) ((New.refl _).drew) (fun hH => ?_)
        refine' hw_take 0 (some 35) _ rfl rfl (by kernel_rfl) (by kernel_rfl) (by kernel_rfl) (fun _ _ _ h => h) (by rfl) hH ?hy51 ?rest51
        case hy51 =>
          intro X hX
          go_simp
          try rfl
        simp only [Act.put, List.setIfInBounds_toArray, List.set_cons_zero, List.set_cons_succ]
        refine' hw_take 1 (some 36) _ rfl rfl (by kernel_rfl) (by kernel_rfl) (by kernel_rfl) (fun _ _ _ h => h) (by rfl) hH ?hy52 ?rest52
        case hy52 =>
          intro X hX
          go_simp
          try rfl
        simp only [Act.put, List.setIfInBounds_toArray, List.set_cons_zero, List.set_cons_succ]
        refine' hw_take 2 (some 37) _ rfl rfl (by kernel_rfl) (by kernel_rfl) (by kernel_rfl) (fun _ _ _ h => h) (by rfl) hH ?hy53 ?rest53
        case hy53 =>
          intro X hX
          go_simp
          try rfl
        simp only [Act.put, List.setIfInBounds_toArray, List.set_cons_zero, List.set_cons_succ]
        refine' hw_take 3 (some 38) _ rfl rfl (by kernel_rfl) (by kernel_rfl) (by kernel_rfl) (fun _ _ _ h => h) (by rfl) hH ?hy54 ?rest54
        case hy54 =>
          intro X hX
          go_simp
          try rfl
        simp only [Act.put, List.setIfInBounds_toArray, List.set_cons_zero, List.set_cons_succ]
        refine' hw_take 4 (some 39) _ rfl rfl (by kernel_rfl) (by kernel_rfl) (by kernel_rfl) (fun _ _ _ h => h) (by rfl) hH ?hy55 ?rest55
        case hy55 =>
          intro X hX
          have aX := hX.cell a0
          have bX := hX.cell b0
          go_simp
          try rfl
        simp only [Act.put, List.setIfInBounds_toArray, List.set_cons_zero, List.set_cons_succ]
        refine' hw_take 5 (some 40) _ rfl rfl (by kernel_rfl) (by kernel_rfl) (by kernel_rfl) (fun _ _ _ h => h) (by rfl) hH ?hy56 ?rest56
        case hy56 =>
          intro X hX
          go_simp
          try rfl
        simp only [Act.put, List.setIfInBounds_toArray, List.set_cons_zero, List.set_cons_succ]
        refine' hw_take 6 (some 41) _ rfl rfl (by kernel_rfl) (by kernel_rfl) (by kernel_rfl) (fun _ _ _ h => h) (by rfl) hH ?hy57 ?rest57
        case hy57 =>
          intro X hX
          go_simp
          try rfl
        simp only [Act.put, List.setIfInBounds_toArray, List.set_cons_zero, List.set_cons_succ]
        refine' hw_take 7 (some 42) _ rfl rfl (by kernel_rfl) (by kernel_rfl) (by kernel_rfl) (fun _ _ _ h => h) (by rfl) hH ?hy58 ?rest58
        case hy58 =>
          intro X hX
          go_simp
          try rfl
        simp only [Act.put, List.setIfInBounds_toArray, List.set_cons_zero, List.set_cons_succ]
        refine' hw_take 8 (some 43) _ rfl rfl (by kernel_rfl) (by kernel_rfl) (by kernel_rfl) (fun _ _ _ h => h) (by rfl) hH ?hy59 ?rest59
        case hy59 =>
          intro X hX
          go_simp
          try rfl
        simp only [Act.put, List.setIfInBounds_toArray, List.set_cons_zero, List.set_cons_succ]
        refine' hw_take 9 (some 44) _ rfl rfl (by kernel_rfl) (by kernel_rfl) (by kernel_rfl) (fun _ _ _ h => h) (by rfl) hH ?hy60 ?rest60
        case hy60 =>
          intro X hX
          have aX := hX.cell a0
          have bX := hX.cell b0
          go_simp
          try rfl
        simp only [Act.put, List.setIfInBounds_toArray, List.set_cons_zero, List.set_cons_succ]
        refine' hw_take 10 (some 45) (.bool false) rfl rfl (by kernel_rfl) (by kernel_rfl) (by kernel_rfl) (fun _ _ _ h => h) (by rfl) hH ?hyL62 ?restL62
        case hyL62 =>
          intro X hX
          go_simp
          try rfl
        simp only [Act.put, List.setIfInBounds_toArray, List.set_cons_zero, List.set_cons_succ]
        refine wpAnyH_done (by kernel_rfl) ?_ _
        go_wp2
        go_roundw
        case rel => exact ⟨k + 1, by omega, by go_num, hnw.drew, HR⟩
        case measure => simp [intOf]; omega

end Go.Proofs.YtkbdmcimgepakaaGreat

namespace Go.Proofs.YtkbdmcimgepakaaGreat
open Go.ChangeShapes Go.WideShapes Go.ChangeAt Go.RowKit
set_option linter.unusedVariables false
set_option linter.unusedSimpArgs false

set_option maxRecDepth 100000

set_option maxHeartbeats 12800000 in
theorem logsI (sa si ho nx : Int) (a1 a2 aN aW aM aS : Option Addr) (n1 c1 n2 c2 cN cW nM cM nS cS : Nat) (r1 r2 : List Ru) (LN : List NdV) (B : Nat) (w : World) (hb : Blk w B 44 #[.int .i64 sa, .int .i64 si, .int .i64 ho, .int .i64 nx, .slice a1 n1 c1, .slice a2 n2 c2, .slice aN 2 cN, .slice aW 3 cW, .slice aM nM cM, .slice aS nS cS]) (hN : NdAt w aN LN) (lN : LN.length = 2) (v : Bool) (hv : lmF (LN.map NdV.r) = v) :
    Calls Tryz.prog 38 #[.pointer (some ⟨B, 0, none⟩)] w fun e w' => e = .returned (.bool v) ∧ New w w' := by
  have e2 : ∀ (u v : NdV), LN[0]? = some u → LN[1]? = some v → LN = [u, v] := by
    intro u v h0 h1
    match LN, lN with
    | [a, b], _ => simp at h0 h1; rw [h0, h1]
  obtain ⟨g, id0, up0, ro0, ep0, su0, ma0, ot0, co0, x0, m0, d0, xs0, hg0, hv0, hl0, hx0, hmx0, -, -, -, -, q0, -, -, -, -⟩ := hN.at 0 (by omega)
  obtain ⟨g1, id1, up1, ro1, ep1, su1, ma1, ot1, co1, x1, m1, d1, xs1, hg1, hv1, hl1, hx1, hmx1, -, -, -, -, q1, -, -, -, -⟩ := hN.at 1 (by omega)
  subst hg0
  obtain rfl : g = g1 := by simpa using hg1
  have HV : Hid (miF true (xs0.map EkV.r) (xs1.map EkV.r) = v) := by
    unfold Hid
    rw [← hv]
    have e3 := e2 _ _ hv0 hv1
    unfold lmF lgs2
    rw [e3]
    rfl
  have q0' : w.cell? ⟨g, 4, none⟩ = some (.slice x0 m0 d0) := by simpa using q0
  have q1' : w.cell? ⟨g, 13, none⟩ = some (.slice x1 m1 d1) := by simpa using q1
  have HL0 : Hid (xs0.length = m0) := hl0
  have HL1 : Hid (xs1.length = m1) := hl1
  have hm0 : m0 ≤ 1048576 := by have := totK_len xs0; omega
  have hm1 : m1 ≤ 1048576 := by have := totK_len xs1; omega
  have cB := hb.cells
  clear hv e2 hv0 hv1 hl0 hl1 q0 q1 hmx0 hmx1
  go_enter Tryz.func38, Tryz.ntmps38
  go_upto_region 1 with fail
  refine hw_start (n := 16) (S := fun X => New w X) rfl (by kernel_rfl) ((New.refl _).drew) (fun hH => ?_)
  refine' hw_take 0 (some 9) _ rfl rfl (by kernel_rfl) (by kernel_rfl) (by kernel_rfl) (fun _ _ _ h => h) (by rfl) hH ?hy63 ?rest63
  case hy63 =>
    intro X hX
    go_simp
    try rfl
  simp only [Act.put, List.setIfInBounds_toArray, List.set_cons_zero, List.set_cons_succ]
  refine' hw_take 1 (some 10) _ rfl rfl (by kernel_rfl) (by kernel_rfl) (by kernel_rfl) (fun _ _ _ h => h) (by rfl) hH ?hy64 ?rest64
  case hy64 =>
    intro X hX
    go_simp
    try rfl
  simp only [Act.put, List.setIfInBounds_toArray, List.set_cons_zero, List.set_cons_succ]
  refine' hw_take 2 (some 11) _ rfl rfl (by kernel_rfl) (by kernel_rfl) (by kernel_rfl) (fun _ _ _ h => h) (by rfl) hH ?hy65 ?rest65
  case hy65 =>
    intro X hX
    go_simp
    try rfl
  simp only [Act.put, List.setIfInBounds_toArray, List.set_cons_zero, List.set_cons_succ]
  refine' hw_take 3 (some 12) _ rfl rfl (by kernel_rfl) (by kernel_rfl) (by kernel_rfl) (fun _ _ _ h => h) (by rfl) hH ?hy66 ?rest66
  case hy66 =>
    intro X hX
    have cX := (hb.new hX).cells
    have qX := hX.cell q0'
    have rX := hX.cell q1'
    go_simp
    try rfl
  simp only [Act.put, List.setIfInBounds_toArray, List.set_cons_zero, List.set_cons_succ]
  refine' hw_take 4 (some 13) _ rfl rfl (by kernel_rfl) (by kernel_rfl) (by kernel_rfl) (fun _ _ _ h => h) (by rfl) hH ?hy67 ?rest67
  case hy67 =>
    intro X hX
    go_simp
    try rfl
  simp only [Act.put, List.setIfInBounds_toArray, List.set_cons_zero, List.set_cons_succ]
  refine' hw_take 5 (some 14) _ rfl rfl (by kernel_rfl) (by kernel_rfl) (by kernel_rfl) (fun _ _ _ h => h) (by rfl) hH ?hy68 ?rest68
  case hy68 =>
    intro X hX
    go_simp
    try rfl
  simp only [Act.put, List.setIfInBounds_toArray, List.set_cons_zero, List.set_cons_succ]
  refine' hw_take 6 (some 15) _ rfl rfl (by kernel_rfl) (by kernel_rfl) (by kernel_rfl) (fun _ _ _ h => h) (by rfl) hH ?hy69 ?rest69
  case hy69 =>
    intro X hX
    have cX := (hb.new hX).cells
    have qX := hX.cell q0'
    have rX := hX.cell q1'
    go_simp
    try rfl
  simp only [Act.put, List.setIfInBounds_toArray, List.set_cons_zero, List.set_cons_succ]
  refine' hw_take 7 (some 16) _ rfl rfl (by kernel_rfl) (by kernel_rfl) (by kernel_rfl) (fun _ _ _ h => h) (by rfl) hH ?hy70 ?rest70
  case hy70 =>
    intro X hX
    go_simp
    try rfl
  simp only [Act.put, List.setIfInBounds_toArray, List.set_cons_zero, List.set_cons_succ]
  refine' hw_take 8 (some 17) _ rfl rfl (by kernel_rfl) (by kernel_rfl) (by kernel_rfl) (fun _ _ _ h => h) (by rfl) hH ?hy71 ?rest71
  case hy71 =>
    intro X hX
    go_simp
    try rfl
  simp only [Act.put, List.setIfInBounds_toArray, List.set_cons_zero, List.set_cons_succ]
  refine' hw_take 9 (some 18) _ rfl rfl (by kernel_rfl) (by kernel_rfl) (by kernel_rfl) (fun _ _ _ h => h) (by rfl) hH ?hy72 ?rest72
  case hy72 =>
    intro X hX
    go_simp
    try rfl
  simp only [Act.put, List.setIfInBounds_toArray, List.set_cons_zero, List.set_cons_succ]
  refine' hw_take 10 (some 19) _ rfl rfl (by kernel_rfl) (by kernel_rfl) (by kernel_rfl) (fun _ _ _ h => h) (by rfl) hH ?hy73 ?rest73
  case hy73 =>
    intro X hX
    have cX := (hb.new hX).cells
    have qX := hX.cell q0'
    have rX := hX.cell q1'
    go_simp
    try rfl
  simp only [Act.put, List.setIfInBounds_toArray, List.set_cons_zero, List.set_cons_succ]
  refine' hw_take 11 (some 20) _ rfl rfl (by kernel_rfl) (by kernel_rfl) (by kernel_rfl) (fun _ _ _ h => h) (by rfl) hH ?hy74 ?rest74
  case hy74 =>
    intro X hX
    go_simp
    try rfl
  simp only [Act.put, List.setIfInBounds_toArray, List.set_cons_zero, List.set_cons_succ]
  refine' hw_take 12 (some 21) _ rfl rfl (by kernel_rfl) (by kernel_rfl) (by kernel_rfl) (fun _ _ _ h => h) (by rfl) hH ?hy75 ?rest75
  case hy75 =>
    intro X hX
    go_simp
    try rfl
  simp only [Act.put, List.setIfInBounds_toArray, List.set_cons_zero, List.set_cons_succ]
  refine' hw_take 13 (some 22) _ rfl rfl (by kernel_rfl) (by kernel_rfl) (by kernel_rfl) (fun _ _ _ h => h) (by rfl) hH ?hy76 ?rest76
  case hy76 =>
    intro X hX
    have cX := (hb.new hX).cells
    have qX := hX.cell q0'
    have rX := hX.cell q1'
    go_simp
    try rfl
  simp only [Act.put, List.setIfInBounds_toArray, List.set_cons_zero, List.set_cons_succ]
  refine' hw_take 14 (some 3) _ rfl rfl (by kernel_rfl) (by kernel_rfl) (by kernel_rfl) (fun _ _ _ h => h) (by rfl) hH ?hy77 ?rest77
  case hy77 =>
    intro X hX
    go_simp
    try rfl
  simp only [Act.put, List.setIfInBounds_toArray, List.set_cons_zero, List.set_cons_succ]
  refine' hw_take 15 (some 4) _ rfl rfl (by kernel_rfl) (by kernel_rfl) (by kernel_rfl) (fun _ _ _ h => h) (by rfl) hH ?hy78 ?rest78
  case hy78 =>
    intro X hX
    go_simp
    try rfl
  simp only [Act.put, List.setIfInBounds_toArray, List.set_cons_zero, List.set_cons_succ]
  refine wpAnyH_done (by kernel_rfl) ?_ _
  have hn1 : New w w.drew := (New.refl _).drew
  have HV0 : Hid (miF true ((xs0.map EkV.r).drop 0) ((xs1.map EkV.r).drop 0) = v) := HV
  clear HV cB q0' q1' hH
  by_cases hcm : m1 < m0
  · have hcm1 : (m1 : Int) < (m0 : Int) := by omega
    have hcm2 : decide ((m1 : Int) < (m0 : Int)) = true := by simpa using hcm
    go_wp2
    go_loopw [28, 5] (fun i s wr => ∃ (k : Nat) (s' : Bool), k ≤ m1 ∧ i = .int .i64 k ∧ s = .bool s' ∧ New w wr ∧ Hid (miF s' ((xs0.map EkV.r).drop k) ((xs1.map EkV.r).drop k) = v)) (fun i _ _ => m1 - (intOf i).toNat)
    case atStart => exact ⟨0, true, Nat.zero_le _, rfl, rfl, hn1, HV0⟩
    case round =>
      obtain ⟨k, s, hk, rfl, rfl, hnw, hL⟩ := hrel
      by_cases hlt : k < m1
      case neg =>
        have HR : Hid (true = v) := by unfold Hid; rw [← hL.out, miF_end (by have := HL0.out; have := HL1.out; simp; omega)]
        have d1' : decide ((k : Int) < (m1 : Int)) = false := by simp; omega
        clear hL
        go_wp2
        go_ret
        exact ⟨ret_bool HR.out, hnw⟩
      have d1' : decide ((k : Int) < (m1 : Int)) = true := by simp; omega
      have dk1 : (k : Int) < (m0 : Int) := by omega
      have dk2 : (k : Int) < (m1 : Int) := by omega
      obtain ⟨gA, e1, k1, p1, x, m, d, xs, hgA, hvA, hlA, hxA, hmA, a0, a1, a2, a3⟩ := (hx0.new hnw).at k (by have := HL0.out; omega)
      obtain ⟨gB, e2, k2, p2, y, q, f, ys, hgB, hvB, hlB, hxB, hmB, b0, b1, b2, b3⟩ := (hx1.new hnw).at k (by have := HL1.out; omega)
      subst hgA hgB
      have HD : Hid ((if e1 = e2 ∧ (s && sE ⟨e1, k1, p1, xs⟩ ⟨e2, k2, p2, ys⟩) = false then false else miF (s && sE ⟨e1, k1, p1, xs⟩ ⟨e2, k2, p2, ys⟩) ((xs0.map EkV.r).drop (k + 1)) ((xs1.map EkV.r).drop (k + 1))) = v) := by
        unfold Hid
        have h3 := miF_at (s := s) (A := (xs0.map EkV.r)) (B := (xs1.map EkV.r)) (k := k) (a := ⟨e1, k1, p1, xs⟩) (b := ⟨e2, k2, p2, ys⟩) (by rw [List.getElem?_map, hvA]; rfl) (by rw [List.getElem?_map, hvB]; rfl)
        have h4 := hL.out
        rw [h3] at h4
        exact h4
      have HLA : Hid (xs.length = m) := hlA
      have HLB : Hid (ys.length = q) := hlB
      clear hvA hvB hlA hlB hL
      · skip
        go_upto_region 6 with fail
        refine hw_start (n := 12) (S := fun X => New wr X) rfl (by kernel_rfl) ((New.refl _).drew) (fun hH => ?_)
        refine' hw_take 0 (some 31) _ rfl rfl (by kernel_rfl) (by kernel_rfl) (by kernel_rfl) (fun _ _ _ h => h) (by rfl) hH ?hy79 ?rest79
        case hy79 =>
          intro X hX
          go_simp
          try rfl
        simp only [Act.put, List.setIfInBounds_toArray, List.set_cons_zero, List.set_cons_succ]
        refine' hw_take 1 (some 32) _ rfl rfl (by kernel_rfl) (by kernel_rfl) (by kernel_rfl) (fun _ _ _ h => h) (by rfl) hH ?hy80 ?rest80
        case hy80 =>
          intro X hX
          go_simp
          try rfl
        simp only [Act.put, List.setIfInBounds_toArray, List.set_cons_zero, List.set_cons_succ]
        refine' hw_take 2 (some 33) _ rfl rfl (by kernel_rfl) (by kernel_rfl) (by kernel_rfl) (fun _ _ _ h => h) (by rfl) hH ?hy81 ?rest81
        case hy81 =>
          intro X hX
          go_simp
          try rfl
        simp only [Act.put, List.setIfInBounds_toArray, List.set_cons_zero, List.set_cons_succ]
        refine' hw_take 3 (some 34) (.agg #[.int .i64 e1, .int .i64 k1, .int .i64 p1, .slice x m d]) rfl rfl (by kernel_rfl) (by kernel_rfl) (by kernel_rfl) (fun _ _ _ h => h) (by rfl) hH ?hyL82 ?restL82
        case hyL82 =>
          intro X hX
          have a0X := hX.cell a0
          have a1X := hX.cell a1
          have a2X := hX.cell a2
          have a3X := hX.cell a3
          go_simp
          try rfl
        simp only [Act.put, List.setIfInBounds_toArray, List.set_cons_zero, List.set_cons_succ]
        refine' hw_take 4 (some 35) _ rfl rfl (by kernel_rfl) (by kernel_rfl) (by kernel_rfl) (fun _ _ _ h => h) (by rfl) hH ?hy83 ?rest83
        case hy83 =>
          intro X hX
          go_simp
          try rfl
        simp only [Act.put, List.setIfInBounds_toArray, List.set_cons_zero, List.set_cons_succ]
        refine' hw_take 5 (some 36) _ rfl rfl (by kernel_rfl) (by kernel_rfl) (by kernel_rfl) (fun _ _ _ h => h) (by rfl) hH ?hy84 ?rest84
        case hy84 =>
          intro X hX
          go_simp
          try rfl
        simp only [Act.put, List.setIfInBounds_toArray, List.set_cons_zero, List.set_cons_succ]
        refine' hw_take 6 (some 37) _ rfl rfl (by kernel_rfl) (by kernel_rfl) (by kernel_rfl) (fun _ _ _ h => h) (by rfl) hH ?hy85 ?rest85
        case hy85 =>
          intro X hX
          go_simp
          try rfl
        simp only [Act.put, List.setIfInBounds_toArray, List.set_cons_zero, List.set_cons_succ]
        refine' hw_take 7 (some 38) (.agg #[.int .i64 e2, .int .i64 k2, .int .i64 p2, .slice y q f]) rfl rfl (by kernel_rfl) (by kernel_rfl) (by kernel_rfl) (fun _ _ _ h => h) (by rfl) hH ?hyL86 ?restL86
        case hyL86 =>
          intro X hX
          have b0X := hX.cell b0
          have b1X := hX.cell b1
          have b2X := hX.cell b2
          have b3X := hX.cell b3
          go_simp
          try rfl
        simp only [Act.put, List.setIfInBounds_toArray, List.set_cons_zero, List.set_cons_succ]
        refine wpAnyH_ready (rs := [8, 9]) (by kernel_rfl) (by simp) ?_
        refine hw_step 8 (some 7) rfl rfl (by rfl) (fun K hK => ?_) ?_
        · skip
          go_simp
          have n1 : New wr ((wr.alloc (.cells #[.int .i64 0, .int .i64 0, .int .i64 0, .slice none 0 0] 95)).drew) := ((New.refl wr).alloc _).drew
          have bX1 : Blk ((wr.alloc (.cells #[.int .i64 0, .int .i64 0, .int .i64 0, .slice none 0 0] 95)).drew) wr.heap.size 95 #[.int .i64 0, .int .i64 0, .int .i64 0, .slice none 0 0] := (Blk.mk wr wr.heap.size 95 #[.int .i64 0, .int .i64 0, .int .i64 0, .slice none 0 0] rfl).new ((New.refl _).drew)
          refine hK.out _ _ n1 (fun hH1 => ?_)
          simp only [Act.put, List.setIfInBounds_toArray, List.set_cons_zero, List.set_cons_succ]
          generalize (wr.alloc (.cells #[.int .i64 0, .int .i64 0, .int .i64 0, .slice none 0 0] 95)).drew = w1 at *
          obtain ⟨BX1, hBX1⟩ : ∃ BX1, BX1 = wr.heap.size := ⟨_, rfl⟩
          rw [← hBX1] at bX1 ⊢
          have hgX : wr.heap.size ≤ BX1 := by rw [hBX1]; exact Nat.le_refl _
          clear hBX1
          refine hw_call 9 (some 8) rfl rfl (by kernel_rfl) (by rfl) (fun K hK => ?_)
          go_simp
          have al2 := (New.refl w1).alloc (.cells #[.int .i64 0, .int .i64 0, .int .i64 0, .slice none 0 0] 95)
          have n2 : New wr (w1.alloc (.cells #[.int .i64 0, .int .i64 0, .int .i64 0, .slice none 0 0] 95)) := n1.trans al2
          have bY2 : Blk (w1.alloc (.cells #[.int .i64 0, .int .i64 0, .int .i64 0, .slice none 0 0] 95)) w1.heap.size 95 #[.int .i64 0, .int .i64 0, .int .i64 0, .slice none 0 0] := Blk.mk w1 w1.heap.size 95 #[.int .i64 0, .int .i64 0, .int .i64 0, .slice none 0 0] rfl
          have bX2 := bX1.new al2
          refine hK.out _ _ n2 (fun hH2 => ?_)
          simp only [Act.put, List.setIfInBounds_toArray, List.set_cons_zero, List.set_cons_succ]
          generalize (w1.alloc (.cells #[.int .i64 0, .int .i64 0, .int .i64 0, .slice none 0 0] 95)) = w2 at *
          obtain ⟨BY2, hBY2⟩ : ∃ BY2, BY2 = w1.heap.size := ⟨_, rfl⟩
          rw [← hBY2] at bY2 ⊢
          have hgY : wr.heap.size ≤ BY2 := by rw [hBY2]; exact n1.size
          have hne2 : ¬ BY2 = BX1 := by rw [hBY2]; have := bX1.lt; omega
          clear hBY2
          refine hw_call 10 none rfl rfl (by kernel_rfl) (by rfl) (fun K hK => ?_)
          refine hw_store 95 (.tmp 7) (.tmp 34) rfl rfl BX1 #[.int .i64 e1, .int .i64 k1, .int .i64 p1, .slice x m d] #[.int .i64 0, .int .i64 0, .int .i64 0, .slice none 0 0] rfl rfl bX2 (by kernel_rfl) rfl (by kernel_rfl) ?_
          have t3 := Turn.rowW (Turn.refl (fun i => i = BX1) w2) rfl #[.int .i64 e1, .int .i64 k1, .int .i64 p1, .slice x m d]
          have n3 := n2.before t3 (by intro i hi e; omega)
          have bX3 := bX2.rowW #[.int .i64 e1, .int .i64 k1, .int .i64 p1, .slice x m d]
          have bY3 := bY2.turn t3 (by omega)
          refine hK.out undef _ n3 (fun hH3 => ?_)
          simp only [Act.put, List.setIfInBounds_toArray, List.set_cons_zero, List.set_cons_succ]
          generalize w2.setRow BX1 #[.int .i64 e1, .int .i64 k1, .int .i64 p1, .slice x m d] = w3 at *
          refine hw_call 11 none rfl rfl (by kernel_rfl) (by rfl) (fun K hK => ?_)
          refine hw_store 95 (.tmp 8) (.tmp 38) rfl rfl BY2 #[.int .i64 e2, .int .i64 k2, .int .i64 p2, .slice y q f] #[.int .i64 0, .int .i64 0, .int .i64 0, .slice none 0 0] rfl rfl bY3 (by kernel_rfl) rfl (by kernel_rfl) ?_
          have t4 := Turn.rowW (Turn.refl (fun i => i = BY2) w3) rfl #[.int .i64 e2, .int .i64 k2, .int .i64 p2, .slice y q f]
          have n4 := n3.before t4 (by intro i hi e; omega)
          have bY4 := bY3.rowW #[.int .i64 e2, .int .i64 k2, .int .i64 p2, .slice y q f]
          have bX4 := bX3.turn t4 (by omega)
          refine hK.out undef _ n4 (fun hH4 => ?_)
          generalize w3.setRow BY2 #[.int .i64 e2, .int .i64 k2, .int .i64 p2, .slice y q f] = w4 at *
          refine wpAnyH_done (by kernel_rfl) ?_ _
          have cx := bX4.cells
          have cy := bY4.cells
          cases s with
          | true =>
            go_wp2_with fail
            refine (seI e1 k1 p1 x m d xs e2 k2 p2 y q f ys _ (hxA.new n4) (hxB.new n4) HLA.out HLB.out).mono ?_
            rintro e wz ⟨rfl, hnz⟩
            have nz := n4.trans hnz
            have fX := bX4.new hnz
            have fY := bY4.new hnz
            have HD1 : Hid ((if e1 = e2 ∧ (true && sE ⟨e1, k1, p1, xs⟩ ⟨e2, k2, p2, ys⟩) = false then false else miF (true && sE ⟨e1, k1, p1, xs⟩ ⟨e2, k2, p2, ys⟩) ((xs0.map EkV.r).drop (k + 1)) ((xs1.map EkV.r).drop (k + 1))) = v) := HD
            clear cx cy HD
            generalize sE ⟨e1, k1, p1, xs⟩ ⟨e2, k2, p2, ys⟩ = b at *
            cases b with
            | true =>
              have HD2 : Hid ((if e1 = e2 ∧ true = false then false else miF true ((xs0.map EkV.r).drop (k + 1)) ((xs1.map EkV.r).drop (k + 1))) = v) := HD1
              clear HD1
              have cx := fX.cells
              have cy := fY.cells
              by_cases he : e1 = e2
              · have ge : (e1 == e2) = true := by simp [he]
                have HE : Hid (e1 = e2) := he
                have HR : Hid (miF true ((xs0.map EkV.r).drop (k + 1)) ((xs1.map EkV.r).drop (k + 1)) = v) := by unfold Hid; have := HD2.out; simpa using this
                clear he HD2
                go_wp2
                go_roundw
                case rel => exact ⟨k + 1, true, by omega, by go_num, rfl, hnw.trans nz, HR⟩
                case measure => simp [intOf]; omega
              · have ge : (e1 == e2) = false := by simp [he]
                have HR : Hid (miF true ((xs0.map EkV.r).drop (k + 1)) ((xs1.map EkV.r).drop (k + 1)) = v) := by unfold Hid; have := HD2.out; rw [if_neg (fun h => he h.1)] at this; exact this
                clear HD2
                go_wp2
                go_roundw
                case rel => exact ⟨k + 1, true, by omega, by go_num, rfl, hnw.trans nz, HR⟩
                case measure => simp [intOf]; omega
            | false =>
              have HD2 : Hid ((if e1 = e2 ∧ false = false then false else miF false ((xs0.map EkV.r).drop (k + 1)) ((xs1.map EkV.r).drop (k + 1))) = v) := HD1
              clear HD1
              have cx := fX.cells
              have cy := fY.cells
              by_cases he : e1 = e2
              · have ge : (e1 == e2) = true := by simp [he]
                have HE : Hid (e1 = e2) := he
                have HR : Hid (false = v) := by unfold Hid; have := HD2.out; rw [if_pos ⟨he, rfl⟩] at this; exact this
                clear he HD2
                go_wp2
                go_ret
                exact ⟨ret_bool HR.out, hnw.trans nz⟩
              · have ge : (e1 == e2) = false := by simp [he]
                have HR : Hid (miF false ((xs0.map EkV.r).drop (k + 1)) ((xs1.map EkV.r).drop (k + 1)) = v) := by unfold Hid; have := HD2.out; rw [if_neg (fun h => he h.1)] at this; exact this
                clear HD2
                go_wp2
                go_roundw
                case rel => exact ⟨k + 1, false, by omega, by go_num, rfl, hnw.trans nz, HR⟩
                case measure => simp [intOf]; omega
          | false =>
            have HD2 : Hid ((if e1 = e2 ∧ false = false then false else miF false ((xs0.map EkV.r).drop (k + 1)) ((xs1.map EkV.r).drop (k + 1))) = v) := HD
            clear cx cy HD
            have cx := bX4.cells
            have cy := bY4.cells
            by_cases he : e1 = e2
            · have ge : (e1 == e2) = true := by simp [he]
              have HE : Hid (e1 = e2) := he
              have HR : Hid (false = v) := by unfold Hid; have := HD2.out; rw [if_pos ⟨he, rfl⟩] at this; exact this
              clear he HD2
              go_wp2
              go_ret
              exact ⟨ret_bool HR.out, hnw.trans n4⟩
            · have ge : (e1 == e2) = false := by simp [he]
              have HR : Hid (miF false ((xs0.map EkV.r).drop (k + 1)) ((xs1.map EkV.r).drop (k + 1)) = v) := by unfold Hid; have := HD2.out; rw [if_neg (fun h => he h.1)] at this; exact this
              clear HD2
              go_wp2
              go_roundw
              case rel => exact ⟨k + 1, false, by omega, by go_num, rfl, hnw.trans n4, HR⟩
              case measure => simp [intOf]; omega
        refine hw_step 9 (some 8) rfl rfl (by rfl) (fun K hK => ?_) ?_
        · skip
          go_simp
          have n5 : New wr ((wr.alloc (.cells #[.int .i64 0, .int .i64 0, .int .i64 0, .slice none 0 0] 95)).drew) := ((New.refl wr).alloc _).drew
          have bY5 : Blk ((wr.alloc (.cells #[.int .i64 0, .int .i64 0, .int .i64 0, .slice none 0 0] 95)).drew) wr.heap.size 95 #[.int .i64 0, .int .i64 0, .int .i64 0, .slice none 0 0] := (Blk.mk wr wr.heap.size 95 #[.int .i64 0, .int .i64 0, .int .i64 0, .slice none 0 0] rfl).new ((New.refl _).drew)
          refine hK.out _ _ n5 (fun hH5 => ?_)
          simp only [Act.put, List.setIfInBounds_toArray, List.set_cons_zero, List.set_cons_succ]
          generalize (wr.alloc (.cells #[.int .i64 0, .int .i64 0, .int .i64 0, .slice none 0 0] 95)).drew = w5 at *
          obtain ⟨BY5, hBY5⟩ : ∃ BY5, BY5 = wr.heap.size := ⟨_, rfl⟩
          rw [← hBY5] at bY5 ⊢
          have hgY : wr.heap.size ≤ BY5 := by rw [hBY5]; exact Nat.le_refl _
          clear hBY5
          refine hw_call 8 (some 7) rfl rfl (by kernel_rfl) (by rfl) (fun K hK => ?_)
          go_simp
          have al6 := (New.refl w5).alloc (.cells #[.int .i64 0, .int .i64 0, .int .i64 0, .slice none 0 0] 95)
          have n6 : New wr (w5.alloc (.cells #[.int .i64 0, .int .i64 0, .int .i64 0, .slice none 0 0] 95)) := n5.trans al6
          have bX6 : Blk (w5.alloc (.cells #[.int .i64 0, .int .i64 0, .int .i64 0, .slice none 0 0] 95)) w5.heap.size 95 #[.int .i64 0, .int .i64 0, .int .i64 0, .slice none 0 0] := Blk.mk w5 w5.heap.size 95 #[.int .i64 0, .int .i64 0, .int .i64 0, .slice none 0 0] rfl
          have bY6 := bY5.new al6
          refine hK.out _ _ n6 (fun hH6 => ?_)
          simp only [Act.put, List.setIfInBounds_toArray, List.set_cons_zero, List.set_cons_succ]
          generalize (w5.alloc (.cells #[.int .i64 0, .int .i64 0, .int .i64 0, .slice none 0 0] 95)) = w6 at *
          obtain ⟨BX6, hBX6⟩ : ∃ BX6, BX6 = w5.heap.size := ⟨_, rfl⟩
          rw [← hBX6] at bX6 ⊢
          have hgX : wr.heap.size ≤ BX6 := by rw [hBX6]; exact n5.size
          have hne6 : ¬ BX6 = BY5 := by rw [hBX6]; have := bY5.lt; omega
          clear hBX6
          refine hw_call 10 none rfl rfl (by kernel_rfl) (by rfl) (fun K hK => ?_)
          refine hw_store 95 (.tmp 7) (.tmp 34) rfl rfl BX6 #[.int .i64 e1, .int .i64 k1, .int .i64 p1, .slice x m d] #[.int .i64 0, .int .i64 0, .int .i64 0, .slice none 0 0] rfl rfl bX6 (by kernel_rfl) rfl (by kernel_rfl) ?_
          have t7 := Turn.rowW (Turn.refl (fun i => i = BX6) w6) rfl #[.int .i64 e1, .int .i64 k1, .int .i64 p1, .slice x m d]
          have n7 := n6.before t7 (by intro i hi e; omega)
          have bX7 := bX6.rowW #[.int .i64 e1, .int .i64 k1, .int .i64 p1, .slice x m d]
          have bY7 := bY6.turn t7 (by omega)
          refine hK.out undef _ n7 (fun hH7 => ?_)
          simp only [Act.put, List.setIfInBounds_toArray, List.set_cons_zero, List.set_cons_succ]
          generalize w6.setRow BX6 #[.int .i64 e1, .int .i64 k1, .int .i64 p1, .slice x m d] = w7 at *
          refine hw_call 11 none rfl rfl (by kernel_rfl) (by rfl) (fun K hK => ?_)
          refine hw_store 95 (.tmp 8) (.tmp 38) rfl rfl BY5 #[.int .i64 e2, .int .i64 k2, .int .i64 p2, .slice y q f] #[.int .i64 0, .int .i64 0, .int .i64 0, .slice none 0 0] rfl rfl bY7 (by kernel_rfl) rfl (by kernel_rfl) ?_
          have t8 := Turn.rowW (Turn.refl (fun i => i = BY5) w7) rfl #[.int .i64 e2, .int .i64 k2, .int .i64 p2, .slice y q f]
          have n8 := n7.before t8 (by intro i hi e; omega)
          have bY8 := bY7.rowW #[.int .i64 e2, .int .i64 k2, .int .i64 p2, .slice y q f]
          have bX8 := bX7.turn t8 (by omega)
          refine hK.out undef _ n8 (fun hH8 => ?_)
          generalize w7.setRow BY5 #[.int .i64 e2, .int .i64 k2, .int .i64 p2, .slice y q f] = w8 at *
          refine wpAnyH_done (by kernel_rfl) ?_ _
          have cx := bX8.cells
          have cy := bY8.cells
          cases s with
          | true =>
            go_wp2_with fail
            refine (seI e1 k1 p1 x m d xs e2 k2 p2 y q f ys _ (hxA.new n8) (hxB.new n8) HLA.out HLB.out).mono ?_
            rintro e wz ⟨rfl, hnz⟩
            have nz := n8.trans hnz
            have fX := bX8.new hnz
            have fY := bY8.new hnz
            have HD1 : Hid ((if e1 = e2 ∧ (true && sE ⟨e1, k1, p1, xs⟩ ⟨e2, k2, p2, ys⟩) = false then false else miF (true && sE ⟨e1, k1, p1, xs⟩ ⟨e2, k2, p2, ys⟩) ((xs0.map EkV.r).drop (k + 1)) ((xs1.map EkV.r).drop (k + 1))) = v) := HD
            clear cx cy HD
            generalize sE ⟨e1, k1, p1, xs⟩ ⟨e2, k2, p2, ys⟩ = b at *
            cases b with
            | true =>
              have HD2 : Hid ((if e1 = e2 ∧ true = false then false else miF true ((xs0.map EkV.r).drop (k + 1)) ((xs1.map EkV.r).drop (k + 1))) = v) := HD1
              clear HD1
              have cx := fX.cells
              have cy := fY.cells
              by_cases he : e1 = e2
              · have ge : (e1 == e2) = true := by simp [he]
                have HE : Hid (e1 = e2) := he
                have HR : Hid (miF true ((xs0.map EkV.r).drop (k + 1)) ((xs1.map EkV.r).drop (k + 1)) = v) := by unfold Hid; have := HD2.out; simpa using this
                clear he HD2
                go_wp2
                go_roundw
                case rel => exact ⟨k + 1, true, by omega, by go_num, rfl, hnw.trans nz, HR⟩
                case measure => simp [intOf]; omega
              · have ge : (e1 == e2) = false := by simp [he]
                have HR : Hid (miF true ((xs0.map EkV.r).drop (k + 1)) ((xs1.map EkV.r).drop (k + 1)) = v) := by unfold Hid; have := HD2.out; rw [if_neg (fun h => he h.1)] at this; exact this
                clear HD2
                go_wp2
                go_roundw
                case rel => exact ⟨k + 1, true, by omega, by go_num, rfl, hnw.trans nz, HR⟩
                case measure => simp [intOf]; omega
            | false =>
              have HD2 : Hid ((if e1 = e2 ∧ false = false then false else miF false ((xs0.map EkV.r).drop (k + 1)) ((xs1.map EkV.r).drop (k + 1))) = v) := HD1
              clear HD1
              have cx := fX.cells
              have cy := fY.cells
              by_cases he : e1 = e2
              · have ge : (e1 == e2) = true := by simp [he]
                have HE : Hid (e1 = e2) := he
                have HR : Hid (false = v) := by unfold Hid; have := HD2.out; rw [if_pos ⟨he, rfl⟩] at this; exact this
                clear he HD2
                go_wp2
                go_ret
                exact ⟨ret_bool HR.out, hnw.trans nz⟩
              · have ge : (e1 == e2) = false := by simp [he]
                have HR : Hid (miF false ((xs0.map EkV.r).drop (k + 1)) ((xs1.map EkV.r).drop (k + 1)) = v) := by unfold Hid; have := HD2.out; rw [if_neg (fun h => he h.1)] at this; exact this
                clear HD2
                go_wp2
                go_roundw
                case rel => exact ⟨k + 1, false, by omega, by go_num, rfl, hnw.trans nz, HR⟩
                case measure => simp [intOf]; omega
          | false =>
            have HD2 : Hid ((if e1 = e2 ∧ false = false then false else miF false ((xs0.map EkV.r).drop (k + 1)) ((xs1.map EkV.r).drop (k + 1))) = v) := HD
            clear cx cy HD
            have cx := bX8.cells
            have cy := bY8.cells
            by_cases he : e1 = e2
            · have ge : (e1 == e2) = true := by simp [he]
              have HE : Hid (e1 = e2) := he
              have HR : Hid (false = v) := by unfold Hid; have := HD2.out; rw [if_pos ⟨he, rfl⟩] at this; exact this
              clear he HD2
              go_wp2
              go_ret
              exact ⟨ret_bool HR.out, hnw.trans n8⟩
            · have ge : (e1 == e2) = false := by simp [he]
              have HR : Hid (miF false ((xs0.map EkV.r).drop (k + 1)) ((xs1.map EkV.r).drop (k + 1)) = v) := by unfold Hid; have := HD2.out; rw [if_neg (fun h => he h.1)] at this; exact this
              clear HD2
              go_wp2
              go_roundw
              case rel => exact ⟨k + 1, false, by omega, by go_num, rfl, hnw.trans n8, HR⟩
              case measure => simp [intOf]; omega
        exact fun j hj => by cases hj
  · have hcm1 : ¬ (m1 : Int) < (m0 : Int) := by omega
    have hcm2 : decide ((m1 : Int) < (m0 : Int)) = false := by simp; omega
    have hcm3 : m0 ≤ m1 := by omega
    go_wp2
    go_loopw [28, 5] (fun i s wr => ∃ (k : Nat) (s' : Bool), k ≤ m0 ∧ i = .int .i64 k ∧ s = .bool s' ∧ New w wr ∧ Hid (miF s' ((xs0.map EkV.r).drop k) ((xs1.map EkV.r).drop k) = v)) (fun i _ _ => m0 - (intOf i).toNat)
    case atStart => exact ⟨0, true, Nat.zero_le _, rfl, rfl, hn1, HV0⟩
    case round =>
      obtain ⟨k, s, hk, rfl, rfl, hnw, hL⟩ := hrel
      by_cases hlt : k < m0
      case neg =>
        have HR : Hid (true = v) := by unfold Hid; rw [← hL.out, miF_end (by have := HL0.out; have := HL1.out; simp; omega)]
        have d1' : decide ((k : Int) < (m0 : Int)) = false := by simp; omega
        clear hL
        go_wp2
        go_ret
        exact ⟨ret_bool HR.out, hnw⟩
      have d1' : decide ((k : Int) < (m0 : Int)) = true := by simp; omega
      have dk1 : (k : Int) < (m0 : Int) := by omega
      have dk2 : (k : Int) < (m1 : Int) := by omega
      obtain ⟨gA, e1, k1, p1, x, m, d, xs, hgA, hvA, hlA, hxA, hmA, a0, a1, a2, a3⟩ := (hx0.new hnw).at k (by have := HL0.out; omega)
      obtain ⟨gB, e2, k2, p2, y, q, f, ys, hgB, hvB, hlB, hxB, hmB, b0, b1, b2, b3⟩ := (hx1.new hnw).at k (by have := HL1.out; omega)
      subst hgA hgB
      have HD : Hid ((if e1 = e2 ∧ (s && sE ⟨e1, k1, p1, xs⟩ ⟨e2, k2, p2, ys⟩) = false then false else miF (s && sE ⟨e1, k1, p1, xs⟩ ⟨e2, k2, p2, ys⟩) ((xs0.map EkV.r).drop (k + 1)) ((xs1.map EkV.r).drop (k + 1))) = v) := by
        unfold Hid
        have h3 := miF_at (s := s) (A := (xs0.map EkV.r)) (B := (xs1.map EkV.r)) (k := k) (a := ⟨e1, k1, p1, xs⟩) (b := ⟨e2, k2, p2, ys⟩) (by rw [List.getElem?_map, hvA]; rfl) (by rw [List.getElem?_map, hvB]; rfl)
        have h4 := hL.out
        rw [h3] at h4
        exact h4
      have HLA : Hid (xs.length = m) := hlA
      have HLB : Hid (ys.length = q) := hlB
      clear hvA hvB hlA hlB hL
      · skip
        go_upto_region 6 with fail
        refine hw_start (n := 12) (S := fun X => New wr X) rfl (by kernel_rfl) ((New.refl _).drew) (fun hH => ?_)
        refine' hw_take 0 (some 31) _ rfl rfl (by kernel_rfl) (by kernel_rfl) (by kernel_rfl) (fun _ _ _ h => h) (by rfl) hH ?hy87 ?rest87
        case hy87 =>
          intro X hX
          go_simp
          try rfl
        simp only [Act.put, List.setIfInBounds_toArray, List.set_cons_zero, List.set_cons_succ]
        refine' hw_take 1 (some 32) _ rfl rfl (by kernel_rfl) (by kernel_rfl) (by kernel_rfl) (fun _ _ _ h => h) (by rfl) hH ?hy88 ?rest88
        case hy88 =>
          intro X hX
          go_simp
          try rfl
        simp only [Act.put, List.setIfInBounds_toArray, List.set_cons_zero, List.set_cons_succ]
        refine' hw_take 2 (some 33) _ rfl rfl (by kernel_rfl) (by kernel_rfl) (by kernel_rfl) (fun _ _ _ h => h) (by rfl) hH ?hy89 ?rest89
        case hy89 =>
          intro X hX
          go_simp
          try rfl
        simp only [Act.put, List.setIfInBounds_toArray, List.set_cons_zero, List.set_cons_succ]
        refine' hw_take 3 (some 34) (.agg #[.int .i64 e1, .int .i64 k1, .int .i64 p1, .slice x m d]) rfl rfl (by kernel_rfl) (by kernel_rfl) (by kernel_rfl) (fun _ _ _ h => h) (by rfl) hH ?hyL90 ?restL90
        case hyL90 =>
          intro X hX
          have a0X := hX.cell a0
          have a1X := hX.cell a1
          have a2X := hX.cell a2
          have a3X := hX.cell a3
          go_simp
          try rfl
        simp only [Act.put, List.setIfInBounds_toArray, List.set_cons_zero, List.set_cons_succ]
        refine' hw_take 4 (some 35) _ rfl rfl (by kernel_rfl) (by kernel_rfl) (by kernel_rfl) (fun _ _ _ h => h) (by rfl) hH ?hy91 ?rest91
        case hy91 =>
          intro X hX
          go_simp
          try rfl
        simp only [Act.put, List.setIfInBounds_toArray, List.set_cons_zero, List.set_cons_succ]
        refine' hw_take 5 (some 36) _ rfl rfl (by kernel_rfl) (by kernel_rfl) (by kernel_rfl) (fun _ _ _ h => h) (by rfl) hH ?hy92 ?rest92
        case hy92 =>
          intro X hX
          go_simp
          try rfl
        simp only [Act.put, List.setIfInBounds_toArray, List.set_cons_zero, List.set_cons_succ]
        refine' hw_take 6 (some 37) _ rfl rfl (by kernel_rfl) (by kernel_rfl) (by kernel_rfl) (fun _ _ _ h => h) (by rfl) hH ?hy93 ?rest93
        case hy93 =>
          intro X hX
          go_simp
          try rfl
        simp only [Act.put, List.setIfInBounds_toArray, List.set_cons_zero, List.set_cons_succ]
        refine' hw_take 7 (some 38) (.agg #[.int .i64 e2, .int .i64 k2, .int .i64 p2, .slice y q f]) rfl rfl (by kernel_rfl) (by kernel_rfl) (by kernel_rfl) (fun _ _ _ h => h) (by rfl) hH ?hyL94 ?restL94
        case hyL94 =>
          intro X hX
          have b0X := hX.cell b0
          have b1X := hX.cell b1
          have b2X := hX.cell b2
          have b3X := hX.cell b3
          go_simp
          try rfl
        simp only [Act.put, List.setIfInBounds_toArray, List.set_cons_zero, List.set_cons_succ]
        refine wpAnyH_ready (rs := [8, 9]) (by kernel_rfl) (by simp) ?_
        refine hw_step 8 (some 7) rfl rfl (by rfl) (fun K hK => ?_) ?_
        · skip
          go_simp
          have n1 : New wr ((wr.alloc (.cells #[.int .i64 0, .int .i64 0, .int .i64 0, .slice none 0 0] 95)).drew) := ((New.refl wr).alloc _).drew
          have bX1 : Blk ((wr.alloc (.cells #[.int .i64 0, .int .i64 0, .int .i64 0, .slice none 0 0] 95)).drew) wr.heap.size 95 #[.int .i64 0, .int .i64 0, .int .i64 0, .slice none 0 0] := (Blk.mk wr wr.heap.size 95 #[.int .i64 0, .int .i64 0, .int .i64 0, .slice none 0 0] rfl).new ((New.refl _).drew)
          refine hK.out _ _ n1 (fun hH1 => ?_)
          simp only [Act.put, List.setIfInBounds_toArray, List.set_cons_zero, List.set_cons_succ]
          generalize (wr.alloc (.cells #[.int .i64 0, .int .i64 0, .int .i64 0, .slice none 0 0] 95)).drew = w1 at *
          obtain ⟨BX1, hBX1⟩ : ∃ BX1, BX1 = wr.heap.size := ⟨_, rfl⟩
          rw [← hBX1] at bX1 ⊢
          have hgX : wr.heap.size ≤ BX1 := by rw [hBX1]; exact Nat.le_refl _
          clear hBX1
          refine hw_call 9 (some 8) rfl rfl (by kernel_rfl) (by rfl) (fun K hK => ?_)
          go_simp
          have al2 := (New.refl w1).alloc (.cells #[.int .i64 0, .int .i64 0, .int .i64 0, .slice none 0 0] 95)
          have n2 : New wr (w1.alloc (.cells #[.int .i64 0, .int .i64 0, .int .i64 0, .slice none 0 0] 95)) := n1.trans al2
          have bY2 : Blk (w1.alloc (.cells #[.int .i64 0, .int .i64 0, .int .i64 0, .slice none 0 0] 95)) w1.heap.size 95 #[.int .i64 0, .int .i64 0, .int .i64 0, .slice none 0 0] := Blk.mk w1 w1.heap.size 95 #[.int .i64 0, .int .i64 0, .int .i64 0, .slice none 0 0] rfl
          have bX2 := bX1.new al2
          refine hK.out _ _ n2 (fun hH2 => ?_)
          simp only [Act.put, List.setIfInBounds_toArray, List.set_cons_zero, List.set_cons_succ]
          generalize (w1.alloc (.cells #[.int .i64 0, .int .i64 0, .int .i64 0, .slice none 0 0] 95)) = w2 at *
          obtain ⟨BY2, hBY2⟩ : ∃ BY2, BY2 = w1.heap.size := ⟨_, rfl⟩
          rw [← hBY2] at bY2 ⊢
          have hgY : wr.heap.size ≤ BY2 := by rw [hBY2]; exact n1.size
          have hne2 : ¬ BY2 = BX1 := by rw [hBY2]; have := bX1.lt; omega
          clear hBY2
          refine hw_call 10 none rfl rfl (by kernel_rfl) (by rfl) (fun K hK => ?_)
          refine hw_store 95 (.tmp 7) (.tmp 34) rfl rfl BX1 #[.int .i64 e1, .int .i64 k1, .int .i64 p1, .slice x m d] #[.int .i64 0, .int .i64 0, .int .i64 0, .slice none 0 0] rfl rfl bX2 (by kernel_rfl) rfl (by kernel_rfl) ?_
          have t3 := Turn.rowW (Turn.refl (fun i => i = BX1) w2) rfl #[.int .i64 e1, .int .i64 k1, .int .i64 p1, .slice x m d]
          have n3 := n2.before t3 (by intro i hi e; omega)
          have bX3 := bX2.rowW #[.int .i64 e1, .int .i64 k1, .int .i64 p1, .slice x m d]
          have bY3 := bY2.turn t3 (by omega)
          refine hK.out undef _ n3 (fun hH3 => ?_)
          simp only [Act.put, List.setIfInBounds_toArray, List.set_cons_zero, List.set_cons_succ]
          generalize w2.setRow BX1 #[.int .i64 e1, .int .i64 k1, .int .i64 p1, .slice x m d] = w3 at *
          refine hw_call 11 none rfl rfl (by kernel_rfl) (by rfl) (fun K hK => ?_)
          refine hw_store 95 (.tmp 8) (.tmp 38) rfl rfl BY2 #[.int .i64 e2, .int .i64 k2, .int .i64 p2, .slice y q f] #[.int .i64 0, .int .i64 0, .int .i64 0, .slice none 0 0] rfl rfl bY3 (by kernel_rfl) rfl (by kernel_rfl) ?_
          have t4 := Turn.rowW (Turn.refl (fun i => i = BY2) w3) rfl #[.int .i64 e2, .int .i64 k2, .int .i64 p2, .slice y q f]
          have n4 := n3.before t4 (by intro i hi e; omega)
          have bY4 := bY3.rowW #[.int .i64 e2, .int .i64 k2, .int .i64 p2, .slice y q f]
          have bX4 := bX3.turn t4 (by omega)
          refine hK.out undef _ n4 (fun hH4 => ?_)
          generalize w3.setRow BY2 #[.int .i64 e2, .int .i64 k2, .int .i64 p2, .slice y q f] = w4 at *
          refine wpAnyH_done (by kernel_rfl) ?_ _
          have cx := bX4.cells
          have cy := bY4.cells
          cases s with
          | true =>
            go_wp2_with fail
            refine (seI e1 k1 p1 x m d xs e2 k2 p2 y q f ys _ (hxA.new n4) (hxB.new n4) HLA.out HLB.out).mono ?_
            rintro e wz ⟨rfl, hnz⟩
            have nz := n4.trans hnz
            have fX := bX4.new hnz
            have fY := bY4.new hnz
            have HD1 : Hid ((if e1 = e2 ∧ (true && sE ⟨e1, k1, p1, xs⟩ ⟨e2, k2, p2, ys⟩) = false then false else miF (true && sE ⟨e1, k1, p1, xs⟩ ⟨e2, k2, p2, ys⟩) ((xs0.map EkV.r).drop (k + 1)) ((xs1.map EkV.r).drop (k + 1))) = v) := HD
            clear cx cy HD
            generalize sE ⟨e1, k1, p1, xs⟩ ⟨e2, k2, p2, ys⟩ = b at *
            cases b with
            | true =>
              have HD2 : Hid ((if e1 = e2 ∧ true = false then false else miF true ((xs0.map EkV.r).drop (k + 1)) ((xs1.map EkV.r).drop (k + 1))) = v) := HD1
              clear HD1
              have cx := fX.cells
              have cy := fY.cells
              by_cases he : e1 = e2
              · have ge : (e1 == e2) = true := by simp [he]
                have HE : Hid (e1 = e2) := he
                have HR : Hid (miF true ((xs0.map EkV.r).drop (k + 1)) ((xs1.map EkV.r).drop (k + 1)) = v) := by unfold Hid; have := HD2.out; simpa using this
                clear he HD2
                go_wp2
                go_roundw
                case rel => exact ⟨k + 1, true, by omega, by go_num, rfl, hnw.trans nz, HR⟩
                case measure => simp [intOf]; omega
              · have ge : (e1 == e2) = false := by simp [he]
                have HR : Hid (miF true ((xs0.map EkV.r).drop (k + 1)) ((xs1.map EkV.r).drop (k + 1)) = v) := by unfold Hid; have := HD2.out; rw [if_neg (fun h => he h.1)] at this; exact this
                clear HD2
                go_wp2
                go_roundw
                case rel => exact ⟨k + 1, true, by omega, by go_num, rfl, hnw.trans nz, HR⟩
                case measure => simp [intOf]; omega
            | false =>
              have HD2 : Hid ((if e1 = e2 ∧ false = false then false else miF false ((xs0.map EkV.r).drop (k + 1)) ((xs1.map EkV.r).drop (k + 1))) = v) := HD1
              clear HD1
              have cx := fX.cells
              have cy := fY.cells
              by_cases he : e1 = e2
              · have ge : (e1 == e2) = true := by simp [he]
                have HE : Hid (e1 = e2) := he
                have HR : Hid (false = v) := by unfold Hid; have := HD2.out; rw [if_pos ⟨he, rfl⟩] at this; exact this
                clear he HD2
                go_wp2
                go_ret
                exact ⟨ret_bool HR.out, hnw.trans nz⟩
              · have ge : (e1 == e2) = false := by simp [he]
                have HR : Hid (miF false ((xs0.map EkV.r).drop (k + 1)) ((xs1.map EkV.r).drop (k + 1)) = v) := by unfold Hid; have := HD2.out; rw [if_neg (fun h => he h.1)] at this; exact this
                clear HD2
                go_wp2
                go_roundw
                case rel => exact ⟨k + 1, false, by omega, by go_num, rfl, hnw.trans nz, HR⟩
                case measure => simp [intOf]; omega
          | false =>
            have HD2 : Hid ((if e1 = e2 ∧ false = false then false else miF false ((xs0.map EkV.r).drop (k + 1)) ((xs1.map EkV.r).drop (k + 1))) = v) := HD
            clear cx cy HD
            have cx := bX4.cells
            have cy := bY4.cells
            by_cases he : e1 = e2
            · have ge : (e1 == e2) = true := by simp [he]
              have HE : Hid (e1 = e2) := he
              have HR : Hid (false = v) := by unfold Hid; have := HD2.out; rw [if_pos ⟨he, rfl⟩] at this; exact this
              clear he HD2
              go_wp2
              go_ret
              exact ⟨ret_bool HR.out, hnw.trans n4⟩
            · have ge : (e1 == e2) = false := by simp [he]
              have HR : Hid (miF false ((xs0.map EkV.r).drop (k + 1)) ((xs1.map EkV.r).drop (k + 1)) = v) := by unfold Hid; have := HD2.out; rw [if_neg (fun h => he h.1)] at this; exact this
              clear HD2
              go_wp2
              go_roundw
              case rel => exact ⟨k + 1, false, by omega, by go_num, rfl, hnw.trans n4, HR⟩
              case measure => simp [intOf]; omega
        refine hw_step 9 (some 8) rfl rfl (by rfl) (fun K hK => ?_) ?_
        · skip
          go_simp
          have n5 : New wr ((wr.alloc (.cells #[.int .i64 0, .int .i64 0, .int .i64 0, .slice none 0 0] 95)).drew) := ((New.refl wr).alloc _).drew
          have bY5 : Blk ((wr.alloc (.cells #[.int .i64 0, .int .i64 0, .int .i64 0, .slice none 0 0] 95)).drew) wr.heap.size 95 #[.int .i64 0, .int .i64 0, .int .i64 0, .slice none 0 0] := (Blk.mk wr wr.heap.size 95 #[.int .i64 0, .int .i64 0, .int .i64 0, .slice none 0 0] rfl).new ((New.refl _).drew)
          refine hK.out _ _ n5 (fun hH5 => ?_)
          simp only [Act.put, List.setIfInBounds_toArray, List.set_cons_zero, List.set_cons_succ]
          generalize (wr.alloc (.cells #[.int .i64 0, .int .i64 0, .int .i64 0, .slice none 0 0] 95)).drew = w5 at *
          obtain ⟨BY5, hBY5⟩ : ∃ BY5, BY5 = wr.heap.size := ⟨_, rfl⟩
          rw [← hBY5] at bY5 ⊢
          have hgY : wr.heap.size ≤ BY5 := by rw [hBY5]; exact Nat.le_refl _
          clear hBY5
          refine hw_call 8 (some 7) rfl rfl (by kernel_rfl) (by rfl) (fun K hK => ?_)
          go_simp
          have al6 := (New.refl w5).alloc (.cells #[.int .i64 0, .int .i64 0, .int .i64 0, .slice none 0 0] 95)
          have n6 : New wr (w5.alloc (.cells #[.int .i64 0, .int .i64 0, .int .i64 0, .slice none 0 0] 95)) := n5.trans al6
          have bX6 : Blk (w5.alloc (.cells #[.int .i64 0, .int .i64 0, .int .i64 0, .slice none 0 0] 95)) w5.heap.size 95 #[.int .i64 0, .int .i64 0, .int .i64 0, .slice none 0 0] := Blk.mk w5 w5.heap.size 95 #[.int .i64 0, .int .i64 0, .int .i64 0, .slice none 0 0] rfl
          have bY6 := bY5.new al6
          refine hK.out _ _ n6 (fun hH6 => ?_)
          simp only [Act.put, List.setIfInBounds_toArray, List.set_cons_zero, List.set_cons_succ]
          generalize (w5.alloc (.cells #[.int .i64 0, .int .i64 0, .int .i64 0, .slice none 0 0] 95)) = w6 at *
          obtain ⟨BX6, hBX6⟩ : ∃ BX6, BX6 = w5.heap.size := ⟨_, rfl⟩
          rw [← hBX6] at bX6 ⊢
          have hgX : wr.heap.size ≤ BX6 := by rw [hBX6]; exact n5.size
          have hne6 : ¬ BX6 = BY5 := by rw [hBX6]; have := bY5.lt; omega
          clear hBX6
          refine hw_call 10 none rfl rfl (by kernel_rfl) (by rfl) (fun K hK => ?_)
          refine hw_store 95 (.tmp 7) (.tmp 34) rfl rfl BX6 #[.int .i64 e1, .int .i64 k1, .int .i64 p1, .slice x m d] #[.int .i64 0, .int .i64 0, .int .i64 0, .slice none 0 0] rfl rfl bX6 (by kernel_rfl) rfl (by kernel_rfl) ?_
          have t7 := Turn.rowW (Turn.refl (fun i => i = BX6) w6) rfl #[.int .i64 e1, .int .i64 k1, .int .i64 p1, .slice x m d]
          have n7 := n6.before t7 (by intro i hi e; omega)
          have bX7 := bX6.rowW #[.int .i64 e1, .int .i64 k1, .int .i64 p1, .slice x m d]
          have bY7 := bY6.turn t7 (by omega)
          refine hK.out undef _ n7 (fun hH7 => ?_)
          simp only [Act.put, List.setIfInBounds_toArray, List.set_cons_zero, List.set_cons_succ]
          generalize w6.setRow BX6 #[.int .i64 e1, .int .i64 k1, .int .i64 p1, .slice x m d] = w7 at *
          refine hw_call 11 none rfl rfl (by kernel_rfl) (by rfl) (fun K hK => ?_)
          refine hw_store 95 (.tmp 8) (.tmp 38) rfl rfl BY5 #[.int .i64 e2, .int .i64 k2, .int .i64 p2, .slice y q f] #[.int .i64 0, .int .i64 0, .int .i64 0, .slice none 0 0] rfl rfl bY7 (by kernel_rfl) rfl (by kernel_rfl) ?_
          have t8 := Turn.rowW (Turn.refl (fun i => i = BY5) w7) rfl #[.int .i64 e2, .int .i64 k2, .int .i64 p2, .slice y q f]
          have n8 := n7.before t8 (by intro i hi e; omega)
          have bY8 := bY7.rowW #[.int .i64 e2, .int .i64 k2, .int .i64 p2, .slice y q f]
          have bX8 := bX7.turn t8 (by omega)
          refine hK.out undef _ n8 (fun hH8 => ?_)
          generalize w7.setRow BY5 #[.int .i64 e2, .int .i64 k2, .int .i64 p2, .slice y q f] = w8 at *
          refine wpAnyH_done (by kernel_rfl) ?_ _
          have cx := bX8.cells
          have cy := bY8.cells
          cases s with
          | true =>
            go_wp2_with fail
            refine (seI e1 k1 p1 x m d xs e2 k2 p2 y q f ys _ (hxA.new n8) (hxB.new n8) HLA.out HLB.out).mono ?_
            rintro e wz ⟨rfl, hnz⟩
            have nz := n8.trans hnz
            have fX := bX8.new hnz
            have fY := bY8.new hnz
            have HD1 : Hid ((if e1 = e2 ∧ (true && sE ⟨e1, k1, p1, xs⟩ ⟨e2, k2, p2, ys⟩) = false then false else miF (true && sE ⟨e1, k1, p1, xs⟩ ⟨e2, k2, p2, ys⟩) ((xs0.map EkV.r).drop (k + 1)) ((xs1.map EkV.r).drop (k + 1))) = v) := HD
            clear cx cy HD
            generalize sE ⟨e1, k1, p1, xs⟩ ⟨e2, k2, p2, ys⟩ = b at *
            cases b with
            | true =>
              have HD2 : Hid ((if e1 = e2 ∧ true = false then false else miF true ((xs0.map EkV.r).drop (k + 1)) ((xs1.map EkV.r).drop (k + 1))) = v) := HD1
              clear HD1
              have cx := fX.cells
              have cy := fY.cells
              by_cases he : e1 = e2
              · have ge : (e1 == e2) = true := by simp [he]
                have HE : Hid (e1 = e2) := he
                have HR : Hid (miF true ((xs0.map EkV.r).drop (k + 1)) ((xs1.map EkV.r).drop (k + 1)) = v) := by unfold Hid; have := HD2.out; simpa using this
                clear he HD2
                go_wp2
                go_roundw
                case rel => exact ⟨k + 1, true, by omega, by go_num, rfl, hnw.trans nz, HR⟩
                case measure => simp [intOf]; omega
              · have ge : (e1 == e2) = false := by simp [he]
                have HR : Hid (miF true ((xs0.map EkV.r).drop (k + 1)) ((xs1.map EkV.r).drop (k + 1)) = v) := by unfold Hid; have := HD2.out; rw [if_neg (fun h => he h.1)] at this; exact this
                clear HD2
                go_wp2
                go_roundw
                case rel => exact ⟨k + 1, true, by omega, by go_num, rfl, hnw.trans nz, HR⟩
                case measure => simp [intOf]; omega
            | false =>
              have HD2 : Hid ((if e1 = e2 ∧ false = false then false else miF false ((xs0.map EkV.r).drop (k + 1)) ((xs1.map EkV.r).drop (k + 1))) = v) := HD1
              clear HD1
              have cx := fX.cells
              have cy := fY.cells
              by_cases he : e1 = e2
              · have ge : (e1 == e2) = true := by simp [he]
                have HE : Hid (e1 = e2) := he
                have HR : Hid (false = v) := by unfold Hid; have := HD2.out; rw [if_pos ⟨he, rfl⟩] at this; exact this
                clear he HD2
                go_wp2
                go_ret
                exact ⟨ret_bool HR.out, hnw.trans nz⟩
              · have ge : (e1 == e2) = false := by simp [he]
                have HR : Hid (miF false ((xs0.map EkV.r).drop (k + 1)) ((xs1.map EkV.r).drop (k + 1)) = v) := by unfold Hid; have := HD2.out; rw [if_neg (fun h => he h.1)] at this; exact this
                clear HD2
                go_wp2
                go_roundw
                case rel => exact ⟨k + 1, false, by omega, by go_num, rfl, hnw.trans nz, HR⟩
                case measure => simp [intOf]; omega
          | false =>
            have HD2 : Hid ((if e1 = e2 ∧ false = false then false else miF false ((xs0.map EkV.r).drop (k + 1)) ((xs1.map EkV.r).drop (k + 1))) = v) := HD
            clear cx cy HD
            have cx := bX8.cells
            have cy := bY8.cells
            by_cases he : e1 = e2
            · have ge : (e1 == e2) = true := by simp [he]
              have HE : Hid (e1 = e2) := he
              have HR : Hid (false = v) := by unfold Hid; have := HD2.out; rw [if_pos ⟨he, rfl⟩] at this; exact this
              clear he HD2
              go_wp2
              go_ret
              exact ⟨ret_bool HR.out, hnw.trans n8⟩
            · have ge : (e1 == e2) = false := by simp [he]
              have HR : Hid (miF false ((xs0.map EkV.r).drop (k + 1)) ((xs1.map EkV.r).drop (k + 1)) = v) := by unfold Hid; have := HD2.out; rw [if_neg (fun h => he h.1)] at this; exact this
              clear HD2
              go_wp2
              go_roundw
              case rel => exact ⟨k + 1, false, by omega, by go_num, rfl, hnw.trans n8, HR⟩
              case measure => simp [intOf]; omega
        exact fun j hj => by cases hj

end Go.Proofs.YtkbdmcimgepakaaGreat

namespace Go.Proofs.YtkbdmcimgepakaaGreat
open Go.ChangeShapes Go.WideShapes Go.ChangeAt Go.RowKit
set_option linter.unusedVariables false
set_option linter.unusedSimpArgs false

set_option maxRecDepth 100000

set_option maxHeartbeats 3200000 in
theorem implLM (sa si ho nx : Int) (a1 a2 aN aW aM aS : Option Addr) (n1 c1 n2 c2 nN cN nW cW nM cM nS cS : Nat) (r1 r2 : List Ru) (LN : List NdV) (LW : List WiV) (LM : List MlV) (LS : List EkV) (w : World) (h : PAt w a1 a2 aN aW aM aS r1 r2 LN LW LM LS) (l1 : r1.length = n1) (l2 : r2.length = n2) (lN : LN.length = nN) (lW : LW.length = nW) (lM : LM.length = nM) (lS : LS.length = nS) (m1 : n1 ≤ 1048576) (m2 : n2 ≤ 1048576) (mN : nN ≤ 1048576) (mW : nW ≤ 1048576) (mM : nM ≤ 1048576) (mS : nS ≤ 1048576) (v : Bool) (hv : (decide (pF sa si ho nx r1 r2 (LN.map NdV.r) (LW.map WiV.r) (LM.map MlV.r) (LS.map EkV.r) = 0) && lmF (LN.map NdV.r)) = v) :
    Calls Tryz.prog 13 #[.agg #[.int .i64 sa, .int .i64 si, .int .i64 ho, .int .i64 nx, .slice a1 n1 c1, .slice a2 n2 c2, .slice aN nN cN, .slice aW nW cW, .slice aM nM cM, .slice aS nS cS]] w fun e w' => e = .returned (.bool v) ∧ New w w' := by
  have hw := (New.refl w).alloc (.cells #[.int .i64 sa, .int .i64 si, .int .i64 ho, .int .i64 nx, .slice a1 n1 c1, .slice a2 n2 c2, .slice aN nN cN, .slice aW nW cW, .slice aM nM cM, .slice aS nS cS] 44)
  have b0 := Blk.mk w w.heap.size 44 #[.int .i64 sa, .int .i64 si, .int .i64 ho, .int .i64 nx, .slice a1 n1 c1, .slice a2 n2 c2, .slice aN nN cN, .slice aW nW cW, .slice aM nM cM, .slice aS nS cS] rfl
  have HV : Hid ((decide (pF sa si ho nx r1 r2 (LN.map NdV.r) (LW.map WiV.r) (LM.map MlV.r) (LS.map EkV.r) = 0) && lmF (LN.map NdV.r)) = v) := hv
  clear hv
  obtain ⟨f, hf⟩ : ∃ f, pF sa si ho nx r1 r2 (LN.map NdV.r) (LW.map WiV.r) (LM.map MlV.r) (LS.map EkV.r) = f := ⟨_, rfl⟩
  have cb := b0.cells
  go_enter Tryz.func13, Tryz.ntmps13
  go_wp2_with fail
  refine (implPaF sa si ho nx a1 a2 aN aW aM aS n1 c1 n2 c2 nN cN nW cW nM cM nS cS r1 r2 LN LW LM LS _ (h.new hw) l1 l2 lN lW lM lS m1 m2 mN mW mM mS f hf).mono ?_
  rintro e w1 ⟨rfl, hn1⟩
  have hw1 := hw.trans hn1
  have b1 := b0.new hn1
  clear cb
  by_cases hf0 : f = 0
  case neg =>
    have g : (f == 0) = false := by simp [hf0]
    have HR : Hid (false = v) := by have := HV.out; rw [show decide (pF sa si ho nx r1 r2 (LN.map NdV.r) (LW.map WiV.r) (LM.map MlV.r) (LS.map EkV.r) = 0) = false from by rw [hf]; simpa using hf0] at this; exact this
    clear HV hf
    go_wp2
    go_ret
    exact ⟨ret_bool HR.out, hw1⟩
  have hfz : pF sa si ho nx r1 r2 (LN.map NdV.r) (LW.map WiV.r) (LM.map MlV.r) (LS.map EkV.r) = 0 := by rw [hf]; exact hf0
  have hl := pF_two hfz
  rw [List.length_map, List.length_map, lN, lW] at hl
  have HR : Hid (lmF (LN.map NdV.r) = v) := by unfold Hid; have := HV.out; rw [show decide (pF sa si ho nx r1 r2 (LN.map NdV.r) (LW.map WiV.r) (LM.map MlV.r) (LS.map EkV.r) = 0) = true from by simpa using hfz] at this; simpa using this
  clear HV hf hfz
  subst hf0
  obtain ⟨rfl, rfl⟩ := hl
  have HRN : Hid (LN.length = 2) := lN
  have HRW : Hid (LW.length = 3) := lW
  clear lN lW
  have cb := b1.cells
  go_wp2_with fail
  refine (logsI sa si ho nx a1 a2 aN aW aM aS n1 c1 n2 c2 cN cW nM cM nS cS r1 r2 LN w.heap.size _ b1 (h.nd.new hw1) HRN.out v HR.out).mono ?_
  rintro e w2 ⟨rfl, hn2⟩
  go_wp2
  go_ret
  exact ⟨rfl, hw1.trans hn2⟩

set_option maxHeartbeats 3200000 in
theorem specLM (sa si ho nx : Int) (a1 a2 aN aW aM aS : Option Addr) (n1 c1 n2 c2 nN cN nW cW nM cM nS cS : Nat) (r1 r2 : List Ru) (LN : List NdV) (LW : List WiV) (LM : List MlV) (LS : List EkV) (w : World) (h : PAt w a1 a2 aN aW aM aS r1 r2 LN LW LM LS) (l1 : r1.length = n1) (l2 : r2.length = n2) (lN : LN.length = nN) (lW : LW.length = nW) (lM : LM.length = nM) (lS : LS.length = nS) (m1 : n1 ≤ 1048576) (m2 : n2 ≤ 1048576) (mN : nN ≤ 1048576) (mW : nW ≤ 1048576) (mM : nM ≤ 1048576) (mS : nS ≤ 1048576) (v : Bool) (hv : (decide (pF sa si ho nx r1 r2 (LN.map NdV.r) (LW.map WiV.r) (LM.map MlV.r) (LS.map EkV.r) = 0) && lmF (LN.map NdV.r)) = v) :
    Calls Tryz.prog 12 #[.agg #[.int .i64 sa, .int .i64 si, .int .i64 ho, .int .i64 nx, .slice a1 n1 c1, .slice a2 n2 c2, .slice aN nN cN, .slice aW nW cW, .slice aM nM cM, .slice aS nS cS]] w fun e w' => e = .returned (.bool v) ∧ New w w' := by
  have hw := (New.refl w).alloc (.cells #[.int .i64 sa, .int .i64 si, .int .i64 ho, .int .i64 nx, .slice a1 n1 c1, .slice a2 n2 c2, .slice aN nN cN, .slice aW nW cW, .slice aM nM cM, .slice aS nS cS] 44)
  have b0 := Blk.mk w w.heap.size 44 #[.int .i64 sa, .int .i64 si, .int .i64 ho, .int .i64 nx, .slice a1 n1 c1, .slice a2 n2 c2, .slice aN nN cN, .slice aW nW cW, .slice aM nM cM, .slice aS nS cS] rfl
  have HV : Hid ((decide (pF sa si ho nx r1 r2 (LN.map NdV.r) (LW.map WiV.r) (LM.map MlV.r) (LS.map EkV.r) = 0) && lmF (LN.map NdV.r)) = v) := hv
  clear hv
  obtain ⟨f, hf⟩ : ∃ f, pF sa si ho nx r1 r2 (LN.map NdV.r) (LW.map WiV.r) (LM.map MlV.r) (LS.map EkV.r) = f := ⟨_, rfl⟩
  have cb := b0.cells
  go_enter Tryz.func12, Tryz.ntmps12
  go_wp2_with fail
  refine (specPaFp sa si ho nx a1 a2 aN aW aM aS n1 c1 n2 c2 nN cN nW cW nM cM nS cS r1 r2 LN LW LM LS w.heap.size _ b0 (h.new hw) l1 l2 lN lW lM lS m1 m2 mN mW mM mS f hf).mono ?_
  rintro e w1 ⟨rfl, hn1⟩
  have hw1 := hw.trans hn1
  have b1 := b0.new hn1
  clear cb
  by_cases hf0 : f = 0
  case neg =>
    have g : (f == 0) = false := by simp [hf0]
    have HR : Hid (false = v) := by have := HV.out; rw [show decide (pF sa si ho nx r1 r2 (LN.map NdV.r) (LW.map WiV.r) (LM.map MlV.r) (LS.map EkV.r) = 0) = false from by rw [hf]; simpa using hf0] at this; exact this
    clear HV hf
    go_wp2
    go_ret
    exact ⟨ret_bool HR.out, hw1⟩
  have hfz : pF sa si ho nx r1 r2 (LN.map NdV.r) (LW.map WiV.r) (LM.map MlV.r) (LS.map EkV.r) = 0 := by rw [hf]; exact hf0
  have hl := pF_two hfz
  rw [List.length_map, List.length_map, lN, lW] at hl
  have HR : Hid (lmF (LN.map NdV.r) = v) := by unfold Hid; have := HV.out; rw [show decide (pF sa si ho nx r1 r2 (LN.map NdV.r) (LW.map WiV.r) (LM.map MlV.r) (LS.map EkV.r) = 0) = true from by simpa using hfz] at this; simpa using this
  clear HV hf hfz
  subst hf0
  obtain ⟨rfl, rfl⟩ := hl
  have HRN : Hid (LN.length = 2) := lN
  have HRW : Hid (LW.length = 3) := lW
  clear lN lW
  have cb := b1.cells
  go_wp2_with fail
  refine (logsS sa si ho nx a1 a2 aN aW aM aS n1 c1 n2 c2 cN cW nM cM nS cS r1 r2 LN w.heap.size _ b1 (h.nd.new hw1) HRN.out v HR.out).mono ?_
  rintro e w2 ⟨rfl, hn2⟩
  go_wp2
  go_ret
  exact ⟨rfl, hw1.trans hn2⟩

end Go.Proofs.YtkbdmcimgepakaaGreat
