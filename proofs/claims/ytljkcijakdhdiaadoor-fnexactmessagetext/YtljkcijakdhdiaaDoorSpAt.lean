/- What is proved here: what the model's writing of attributes as a text answers, for every attributes. -/
import Derived.Test.YtljkcijakdhdiaaDoorTxAt
namespace Go.Proofs.YtljkcijakdhdiaaDoor
open Go.RowKit Go.Sort
set_option linter.unusedVariables false

/-- A text. -/
def sB (l : List UInt8) : ByteArray := ⟨l.toArray⟩
theorem sB_size (l : List UInt8) : (sB l).size = l.length := rfl
theorem sB_app (a b : List UInt8) : sB a ++ sB b = sB (a ++ b) := app_bytes a b

set_option maxRecDepth 100000 in
set_option maxHeartbeats 3200000 in
theorem l3Text_ok (o nx md lc : Int) (a : Option Addr) (n c : Nat) (xs : List Int) (w : World) (h : NsAt w a xs) (hn : xs.length = n) (ho : 0 ≤ o ∧ o ≤ 2) (hx : Wd nx) (hm : Wd md) (hl : Wd lc) (hk6 : n ≤ 6) (hall : ∀ x ∈ xs, 1 ≤ x ∧ x ≤ 65535) :
    Calls Tryd.prog 27 #[.agg #[.int .i64 o, .slice a n c, .int .i64 nx, .int .i64 md, .int .i64 lc]] w fun e w' => e = .returned (.string (sB (att o xs nx md lc))) ∧ New w w' := by
  obtain ⟨o0, o1⟩ := ho
  obtain ⟨x0, x1⟩ := hx
  obtain ⟨m0, m1⟩ := hm
  obtain ⟨l0, l1⟩ := hl
  have HN : Hid (xs.length = n) := hn
  have HA : Hid (∀ x ∈ xs, 1 ≤ x ∧ x ≤ 65535) := hall
  have HPL : Hid ((pt xs).length ≤ 6 * n + 1) := pt_len n xs hn hall
  have HPT : Hid (∀ j, (pt (xs.take j)).length ≤ 100) := fun j => by
    have := pt_len (xs.take j).length (xs.take j) rfl (fun x hx => hall x (List.mem_of_mem_take hx))
    have h2 : (xs.take j).length ≤ 6 := by rw [List.length_take]; omega
    omega
  clear hn hall
  have hw := (New.refl w).alloc (.cells #[.int .i64 o, .slice a n c, .int .i64 nx, .int .i64 md, .int .i64 lc] 35)
  have bA := Blk.mk w w.heap.size 35 #[.int .i64 o, .slice a n c, .int .i64 nx, .int .i64 md, .int .i64 lc] rfl
  go_enter Tryd.func27, Tryd.ntmps27
  go_wp2
  go_loopw [3, 4] (fun s i wr => ∃ j : Nat, j ≤ n ∧ i = .int .i64 j ∧ s = .string (sB (pt (xs.take j))) ∧ New w wr ∧ Blk wr w.heap.size 35 #[.int .i64 o, .slice a n c, .int .i64 nx, .int .i64 md, .int .i64 lc]) (fun _ i _ => n - (intOf i).toNat)
  case atStart => exact ⟨0, Nat.zero_le _, rfl, by simp [pt, sB], hw, bA⟩
  case round =>
    obtain ⟨j, hj, rfl, rfl, hnw, bl⟩ := hrel
    have cA := bl.cells
    by_cases hlt : j < n
    · obtain ⟨b, off, x, ha, hz, hc0, -⟩ := (h.new hnw).at j (by rw [HN.out]; exact hlt)
      have ha' := ha
      subst ha'
      obtain ⟨q0, q1⟩ := HA.out x (List.mem_of_getElem? hz)
      by_cases hj0 : j = 0
      · subst hj0
        have hT : Hid (pt (xs.take (0 + 1)) = dg x) := by unfold Hid; rw [take_snoc hz]; simp [pt_one]
        have hc0' : wr.cell? ⟨b, off, none⟩ = some (.int .i64 x) := by simpa using hc0
        clear hz
        go_wp2_with fail
        refine (digI x _ (by omega) q1).mono ?_
        rintro e w1 ⟨rfl, hn1⟩
        go_wp2
        go_roundw
        case rel => exact ⟨1, by omega, by go_num, by rw [hT.out]; rfl, hnw.trans hn1, bl.new hn1⟩
        case measure => simp [intOf]; omega
      · have hne : ((j : Int) == 0) = false := by simp; omega
        have hT : Hid (pt (xs.take (j + 1)) = pt (xs.take j) ++ [44] ++ dg x) := by
          unfold Hid
          rw [take_snoc hz]
          refine pt_snoc x ?_
          intro e
          have := congrArg List.length e
          rw [List.length_take, HN.out] at this
          simp at this
          omega
        have hpl := HPT.out j
        have hdl := dg_len (show 0 ≤ x by omega) q1
        obtain ⟨P, hP⟩ : ∃ P, pt (xs.take j) = P := ⟨_, rfl⟩
        have HP : Hid (pt (xs.take j) = P) := hP
        rw [hP] at hpl ⊢
        clear hz hP
        obtain ⟨D, hD⟩ : ∃ D, dg x = D := ⟨_, rfl⟩
        have HD : Hid (dg x = D) := hD
        rw [hD] at hdl
        clear hD
        have z1 : (sB P).size ≤ 100 := hpl
        have z2 : (sB D).size ≤ 5 := hdl
        have z3 : (sB [44]).size = 1 := rfl
        go_wp2_with fail
        refine (digI x _ (by omega) q1).mono ?_
        rintro e w1 ⟨rfl, hn1⟩
        rw [HD.out]
        go_wp2
        go_roundw
        case rel => exact ⟨j + 1, by omega, by go_num, by rw [hT.out, HP.out, HD.out, ← sB_app, ← sB_app]; rfl, hnw.trans hn1, bl.new hn1⟩
        case measure => simp [intOf]; omega
    · obtain rfl : j = n := by omega
      rw [List.take_of_length_le (by rw [HN.out]; omega)]
      have hpl := HPL.out
      obtain ⟨P, hP⟩ : ∃ P, pt xs = P := ⟨_, rfl⟩
      have HP : Hid (pt xs = P) := hP
      rw [hP] at hpl ⊢
      clear hP
      have z1 : (sB P).size ≤ 100 := by rw [sB_size]; omega
      have c1 := blk_regrown bl
      have d1 := digI o
      have d2 := digI nx
      have d3 := digI md
      have d4 := digI lc
      have l1' := dg_len o0 (show o ≤ 65535 by omega)
      have l2' := dg_len x0 x1
      have l3' := dg_len m0 m1
      have l4' := dg_len l0 l1
      have htx : Hid (att o xs nx md lc = P ++ [32] ++ dg o ++ [32] ++ dg nx ++ [32] ++ dg md ++ [32] ++ dg lc) := by unfold Hid att; rw [HP.out]
      have e1 : o ≤ 65535 := by omega
      generalize dg o = A at *
      generalize dg nx = B at *
      generalize dg md = C at *
      generalize dg lc = D at *
      go_wp2_with fail
      refine wp_region_quiet_below (by kernel_rfl) (by kernel_rfl) ?_
      repeat (go_big_quiet_step (first | (go_at_call_of 25 o; exact calls_regrown (d1 _ o0 e1)) | (go_at_call_of 25 nx; exact calls_regrown (d2 _ x0 x1)) | (go_at_call_of 25 md; exact calls_regrown (d3 _ m0 m1)) | (go_at_call_of 25 lc; exact calls_regrown (d4 _ l0 l1))))
      refine wpQuiet_nil ?_
      rintro w1 hn1
      replace hn1 := new_of_regrown hn1
      go_wp2
      go_ret
      refine ⟨?_, hnw.trans hn1⟩
      rw [htx.out]
      simp only [← sB_app]
      rfl

end Go.Proofs.YtljkcijakdhdiaaDoor
