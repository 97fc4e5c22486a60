/- What is proved here: the text that bytes turn to, and that two lists of bytes have one text only where they are the same. -/
import Derived.Test.YtdkjgjjkjfeodaaBytes
import Derived.Test.YtdkjgjjkjfeodaaUtil
import Derived.Laws.IdiomStrings
namespace Go.Proofs.Ytdkjgjjkjfeodaa
open Go.RowKit
set_option linter.unusedVariables false

/-- The text of bytes. -/
def str9 (zs : List Int) : ByteArray := zs.foldl (fun r n => r.push (UInt8.ofNat n.toNat)) ByteArray.empty

theorem str9_fold : ∀ (zs : List Int) (r : ByteArray), (zs.foldl (fun r n => r.push (UInt8.ofNat n.toNat)) r).data.toList = r.data.toList ++ zs.map (fun n => UInt8.ofNat n.toNat)
  | [], r => by simp
  | z :: zs, r => by
    rw [List.foldl_cons, str9_fold zs]
    simp [ByteArray.push]
theorem str9_data (zs : List Int) : (str9 zs).data.toList = zs.map (fun n => UInt8.ofNat n.toNat) := by
  unfold str9
  rw [str9_fold]
  rfl

theorem str_eq_self (a : ByteArray) : (a == a) = true := by
  show (a.data == a.data) = true
  simp
theorem str_ne_self (a : ByteArray) : (a != a) = false := by
  show (!(a.data == a.data)) = false
  simp
theorem str_eq_of {a b : ByteArray} (h : ¬ a = b) : (a == b) = false := by
  show (a.data == b.data) = false
  simp
  intro e
  apply h
  cases a; cases b; simp_all
theorem str_ne_of {a b : ByteArray} (h : ¬ a = b) : (a != b) = true := by
  show (!(a.data == b.data)) = true
  simp
  intro e
  apply h
  cases a; cases b; simp_all

theorem str_list_of {a b : ByteArray} (h : ¬ a = b) : (a.toList == b.toList) = false := by
  rw [ByteArray.toList_eq, ByteArray.toList_eq]
  simp
  intro e
  apply h
  cases a; cases b; simp_all

theorem u8_inj {x y : Int} (hx : 0 ≤ x ∧ x ≤ 255) (hy : 0 ≤ y ∧ y ≤ 255) (h : UInt8.ofNat x.toNat = UInt8.ofNat y.toNat) : x = y := by
  have h' := congrArg UInt8.toNat h
  simp only [UInt8.toNat_ofNat'] at h'
  omega
theorem map_u8_inj : ∀ (xs ys : List Int), (∀ z ∈ xs, 0 ≤ z ∧ z ≤ 255) → (∀ z ∈ ys, 0 ≤ z ∧ z ≤ 255) → xs.map (fun n => UInt8.ofNat n.toNat) = ys.map (fun n => UInt8.ofNat n.toNat) → xs = ys
  | [], [], _, _, _ => rfl
  | [], y :: ys, _, _, h => by simp at h
  | x :: xs, [], _, _, h => by simp at h
  | x :: xs, y :: ys, hx, hy, h => by
    simp only [List.map_cons, List.cons.injEq] at h
    rw [u8_inj (hx x (by simp)) (hy y (by simp)) h.1, map_u8_inj xs ys (fun z hz => hx z (by simp [hz])) (fun z hz => hy z (by simp [hz])) h.2]
theorem str9_inj {xs ys : List Int} (hx : ∀ z ∈ xs, 0 ≤ z ∧ z ≤ 255) (hy : ∀ z ∈ ys, 0 ≤ z ∧ z ≤ 255) (h : str9 xs = str9 ys) : xs = ys := by
  have h' := congrArg (fun b : ByteArray => b.data.toList) h
  simp only [str9_data] at h'
  exact map_u8_inj xs ys hx hy h'

theorem run_str9 (a : Option Addr) (n c : Nat) (zs : List Int) (w : World) (h : BsAt w a zs) (hn : zs.length = n) (hnone : a = none → n = 0 ∧ c = 0) :
    (convert 22 9 (.slice a n c)).run Try.prog w = .ok (.string (str9 zs)) w := by
  rw [run_convert_bytes_string w _ _ 5 a n c Try.underlying22 Try.underlying5 Try.underlying9]
  cases a with
  | none =>
    obtain ⟨rfl, rfl⟩ := hnone rfl
    obtain rfl := List.eq_nil_of_length_eq_zero hn
    simp [Conv.bytesToString, str9]
  | some x =>
    refine run_bytesToString w x n c zs ?_
    have hl := run_loadCells_list (P := Try.prog) (w := w) x (zs.map (Value.int .u8)) (by
      intro j v hv
      rw [List.getElem?_map] at hv
      obtain ⟨z, hz, rfl⟩ := Option.map_eq_some_iff.1 hv
      obtain ⟨b, off, e, hc, _⟩ := h j z hz
      obtain rfl := Option.some.inj e
      rw [Addr.add_lit]
      exact hc)
    rw [List.length_map, hn] at hl
    exact hl

end Go.Proofs.Ytdkjgjjkjfeodaa
