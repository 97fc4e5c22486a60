/- What is proved here: a line of the model's text of a pair: a word and numbers. What is proved here: a text put behind another within a region that draws its order. -/
import Derived.Test.YtlkhmnjghdbmoaaGreatDoorTxAt
import Derived.Test.YtlkhmnjghdbmoaaGreatDoorTxWd
import Derived.Test.YtlkhmnjghdbmoaaGreatDoorTQ5
import Derived.Test.YtlkhmnjghdbmoaaGreatDoorRwLib
import Derived.Deep.RegionHeld3
namespace Go.Proofs.YtlkhmnjghdbmoaaGreatDoor
open Go.RowKit Go.Sort
set_option linter.unusedVariables false

/-- A text. -/
def sB (l : List UInt8) : ByteArray := ⟨l.toArray⟩
theorem sB_size (l : List UInt8) : (sB l).size = l.length := rfl
theorem sB_app (a b : List UInt8) : sB a ++ sB b = sB (a ++ b) := app_bytes a b

/-- A word and numbers, as a line. -/
def lnF (wd : List UInt8) (xs : List Int) : List UInt8 := Lib.join (wd :: xs.map dg) [32]
theorem lnF_nil (wd : List UInt8) : lnF wd [] = wd := Lib.join_one _ _
theorem lnF_snoc (wd : List UInt8) (xs : List Int) (x : Int) : lnF wd (xs ++ [x]) = lnF wd xs ++ [32] ++ dg x := by
  unfold lnF
  rw [List.map_append, ← List.cons_append]
  exact join_snoc _ _ (by simp)
theorem lnF_len (wd : List UInt8) : ∀ (n : Nat) (xs : List Int), xs.length = n → (∀ x ∈ xs, 0 ≤ x ∧ x ≤ 65535) → (lnF wd xs).length ≤ wd.length + 6 * n
  | 0, xs, h, _ => by obtain rfl := List.length_eq_zero_iff.1 h; rw [lnF_nil]; omega
  | n + 1, xs, h, ha => by
      rcases List.eq_nil_or_concat xs with e | ⟨ys, y, e⟩
      · subst e; simp at h
      · subst e
        rw [List.concat_eq_append] at h ha ⊢
        have hy := ha y (by simp)
        have h1 := lnF_len wd n ys (by simpa using h) (fun x hx => ha x (by simp [hx]))
        have h2 := dg_len hy.1 hy.2
        rw [lnF_snoc, List.length_append, List.length_append, List.length_singleton]
        omega

set_option maxRecDepth 100000 in
set_option maxHeartbeats 3200000 in
theorem lineT (wd : List UInt8) (hwd : wd.length ≤ 100) (a : Option Addr) (k c : Nat) (xs : List Int) (w : World) (h : NsAt w a xs) (hk : xs.length = k) (hk6 : k ≤ 6) (hall : ∀ x ∈ xs, 0 ≤ x ∧ x ≤ 65535) :
    Calls Tryz.prog 42 #[.string (sB wd), .slice a k c] w fun e w' => e = .returned (.string (sB (lnF wd xs))) ∧ New w w' := by
  have HN : Hid (xs.length = k) := hk
  have HA : Hid (∀ x ∈ xs, 0 ≤ x ∧ x ≤ 65535) := hall
  have HPT : Hid (∀ j, (lnF wd (xs.take j)).length ≤ 136) := fun j => by
    have := lnF_len wd (xs.take j).length (xs.take j) rfl (fun x hx => hall x (List.mem_of_mem_take hx))
    have h2 : (xs.take j).length ≤ 6 := by rw [List.length_take]; omega
    omega
  clear hk hall
  go_enter Tryz.func42, Tryz.ntmps42
  go_wp2
  go_loopw [0, 5] (fun s i wr => ∃ j : Nat, j ≤ k ∧ i = .int .i64 j ∧ s = .string (sB (lnF wd (xs.take j))) ∧ New w wr) (fun _ i _ => k - (intOf i).toNat)
  case atStart => exact ⟨0, Nat.zero_le _, rfl, by rw [List.take_zero, lnF_nil], New.refl w⟩
  case round =>
    obtain ⟨j, hj, rfl, rfl, hnw⟩ := hrel
    by_cases hlt : j < k
    · obtain ⟨b, off, x, ha, hz, hc0, -⟩ := (h.new hnw).at j (by rw [HN.out]; exact hlt)
      have ha' := ha
      subst ha'
      obtain ⟨q0, q1⟩ := HA.out x (List.mem_of_getElem? hz)
      have hT : Hid (lnF wd (xs.take (j + 1)) = lnF wd (xs.take j) ++ [32] ++ dg x) := by
        unfold Hid
        rw [take_snoc hz, lnF_snoc]
      have hpl := HPT.out j
      have hdl := dg_len q0 q1
      obtain ⟨P, hP⟩ : ∃ P, lnF wd (xs.take j) = P := ⟨_, rfl⟩
      have HP : Hid (lnF wd (xs.take j) = P) := hP
      rw [hP] at hpl ⊢
      clear hz hP
      obtain ⟨D, hD⟩ : ∃ D, dg x = D := ⟨_, rfl⟩
      have HD : Hid (dg x = D) := hD
      rw [hD] at hdl
      clear hD
      have z1 : (sB P).size ≤ 136 := hpl
      have z2 : (sB D).size ≤ 5 := hdl
      have z3 : (sB [32]).size = 1 := rfl
      go_wp2_with fail
      refine (digI x _ q0 q1).mono ?_
      rintro e w1 ⟨rfl, hn1⟩
      rw [HD.out]
      go_wp2
      go_roundw
      case rel => exact ⟨j + 1, by omega, by go_num, by rw [hT.out, HP.out, HD.out, ← sB_app, ← sB_app]; rfl, hnw.trans hn1⟩
      case measure => simp [intOf]; omega
    · obtain rfl : j = k := by omega
      have hT : Hid (xs.take j = xs) := by unfold Hid; rw [List.take_of_length_le (by rw [HN.out]; omega)]
      rw [hT.out]
      go_wp2
      go_ret
      exact ⟨rfl, hnw⟩

end Go.Proofs.YtlkhmnjghdbmoaaGreatDoor

namespace Go.Proofs.YtlkhmnjghdbmoaaGreatDoor
open Go.RowKit Go.Sort Go.Deep
set_option linter.unusedVariables false
set_option linter.unusedSimpArgs false

/-- The line of a node, its end with it. -/
def ndT (v : NdV) : List UInt8 := lnF (lnF [110, 111, 100, 101] [v.id] ++ (if v.up = true then [32, 117, 112] else [32, 100, 111, 119, 110]) ++ (if v.ro = 1 then [32, 97, 99, 116, 105, 118, 101] else [32, 115, 116, 97, 110, 100, 98, 121])) [v.ep, (v.V.length : Int), v.su, v.co] ++ [10]
/-- The line of a wire. -/
def wiT (k : Nat) (v : WiV) : List UInt8 := lnF [119, 105, 114, 101] [(k : Int), v.E, (v.xs.length : Int), v.T, (v.ys.length : Int)] ++ [10]
/-- The last line. -/
def mlT (m s : Nat) : List UInt8 := lnF [109, 97, 105, 108, 115] [(m : Int), (s : Int)] ++ [10]
theorem flat_snoc {X : List (List UInt8)} {k : Nat} {x : List UInt8} (h : X[k]? = some x) : (X.take (k + 1)).flatten = (X.take k).flatten ++ x := by
  rw [List.take_add_one, h, List.flatten_append]; simp
/-- A node's numbers are small. -/
def NdSm (v : NdV) : Prop := (0 ≤ v.id ∧ v.id ≤ 65535) ∧ (0 ≤ v.ep ∧ v.ep ≤ 65535) ∧ v.V.length ≤ 65535 ∧ (0 ≤ v.su ∧ v.su ≤ 65535) ∧ 0 ≤ v.co ∧ v.co ≤ 65535
def WiSm (v : WiV) : Prop := (0 ≤ v.E ∧ v.E ≤ 65535) ∧ v.xs.length ≤ 65535 ∧ (0 ≤ v.T ∧ v.T ≤ 65535) ∧ v.ys.length ≤ 65535
theorem hex {α : Type} (a : α) : ∃ b, Hid (a = b) := by refine ⟨a, ?_⟩; unfold Hid; rfl
theorem hexr {α : Type} (a : α) : ∃ b, Hid (b = a) := by refine ⟨a, ?_⟩; unfold Hid; rfl
/-- Two texts are put one behind the other. -/
theorem cat_take {a : Act} {w : World} {oi : Oper} (A B : List UInt8) {C : List UInt8} (hC : Hid (C = A ++ B)) {x y : Operand} (ho : oi.op = .binOp .add 9 x y 9) (hx : a.eval x = .string (sB A)) (hy : a.eval y = .string (sB B)) (hs : A.length + B.length ≤ 100000) : (execOp a.eval oi).run Tryz.prog w = .ok (.value (.string (sB C))) w := by
  rw [hC.out]
  have z1 : (sB A).size ≤ 100000 := by rw [sB_size]; omega
  have z2 : (sB A).size + (sB B).size ≤ 100000 := by rw [sB_size, sB_size]; exact hs
  unfold execOp
  simp only [ho, hx, hy]
  rw [← sB_app]
  go_simp
  omega

theorem flat_len {X : List (List UInt8)} (M : Nat) : ∀ (k : Nat), k ≤ X.length → (∀ x ∈ X, x.length ≤ M) → (X.take k).flatten.length ≤ k * M
  | 0, _, _ => by simp
  | k + 1, h, hm => by
      have hx : X[k]? = some X[k] := List.getElem?_eq_getElem (by omega)
      have h1 := flat_len M k (by omega) hm
      have h2 := hm _ (List.mem_of_getElem? hx)
      rw [flat_snoc hx, List.length_append, Nat.add_mul]
      omega
theorem ndT_len {v : NdV} (h : NdSm v) : (ndT v).length ≤ 200 := by
  obtain ⟨h1, h2, h3, h4, h5⟩ := h
  have e1 := lnF_len [110, 111, 100, 101] 1 [v.id] rfl (by intro z hz; obtain rfl := List.mem_singleton.1 hz; omega)
  unfold ndT
  generalize lnF [110, 111, 100, 101] [v.id] = A at *
  have e0 : (A ++ (if v.up = true then [32, 117, 112] else [32, 100, 111, 119, 110]) ++ (if v.ro = 1 then [32, 97, 99, 116, 105, 118, 101] else [32, 115, 116, 97, 110, 100, 98, 121])).length ≤ A.length + 14 := by
    rw [List.length_append, List.length_append]
    split <;> split <;> simp <;> omega
  generalize A ++ (if v.up = true then [32, 117, 112] else [32, 100, 111, 119, 110]) ++ (if v.ro = 1 then [32, 97, 99, 116, 105, 118, 101] else [32, 115, 116, 97, 110, 100, 98, 121]) = W at *
  have e2 := lnF_len W 4 [v.ep, (v.V.length : Int), v.su, v.co] rfl (by intro z hz; simp only [List.mem_cons, List.not_mem_nil, or_false] at hz; omega)
  rw [List.length_append]
  simp at e1 ⊢
  omega
theorem wiT_len {k : Nat} {v : WiV} (hk : k ≤ 65535) (h : WiSm v) : (wiT k v).length ≤ 200 := by
  obtain ⟨h1, h2, h3, h4⟩ := h
  have e2 := lnF_len [119, 105, 114, 101] 5 [(k : Int), v.E, (v.xs.length : Int), v.T, (v.ys.length : Int)] rfl (by intro z hz; simp only [List.mem_cons, List.not_mem_nil, or_false] at hz; omega)
  unfold wiT
  rw [List.length_append]
  simp at e2 ⊢
  omega
theorem mlT_len {m s : Nat} (hm : m ≤ 65535) (hs : s ≤ 65535) : (mlT m s).length ≤ 200 := by
  have e2 := lnF_len [109, 97, 105, 108, 115] 2 [(m : Int), (s : Int)] rfl (by intro z hz; simp only [List.mem_cons, List.not_mem_nil, or_false] at hz; omega)
  unfold mlT
  rw [List.length_append]
  simp at e2 ⊢
  omega

end Go.Proofs.YtlkhmnjghdbmoaaGreatDoor
